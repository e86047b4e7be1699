import Derived.Test.YtghmbejblbnjjaaDuC
set_option maxRecDepth 100000
set_option maxHeartbeats 4000000
set_option linter.unusedVariables false
set_option linter.unusedSimpArgs false
set_option linter.unusedSectionVars false
set_option linter.unnecessarySimpa false
namespace Go.Proofs.Ytghmbejblbnjjaa
open Go.Proofs.Try
section
open Go.RowKit
theorem goes_51:cD prog 51=true:=by kernel_rfl
theorem goes_52:cD prog 52=true:=by kernel_rfl
theorem goes_53:cD prog 53=true:=by kernel_rfl
theorem lU (t:TB) (mo:Nat) (Kt:List (Nat×World)) (Ot:Own) (G:bJ) (K:List (Nat×World)) (w0 w:World) (hS0:St w0 Ot G K w) (hT:TOk t) (hKt:∀ q∈Kt,q∈K) (hB:dD w0 Kt (TAt t)) (hmo:t.n≤mo) :
  Calls prog 33 #[t.val,.int .i64 (mo:Int)] w (fun e w'=>∃ (q:TB) (Kn:List (Nat×World)),e = .returned (.tuple #[q.val,.bool true])∧q.k=t.k∧q.n≤t.n∧TOk q∧q.fa.Ord∧q.fa.Red∧Eqv q.fa 0 t.fa 0∧(∀ q∈K,q∈Kn)∧dD w0 Kn (TAt q)∧St w0 Ot G Kn w'):=by
 refine cP (args:=[t.val,.int .i64 (mo:Int)]) func33 rfl ntmps33 rfl ?_
 have hS:=hS0
 have hn1:=hT.n1
 have hp:=hT.pos
 refine aE (aL (dA (cs:=[_,_,_]) hS rfl rfl rfl fun B1 W1 hS=>cV (cs:=[_,_,_]) hS zeroValue61 rfl rfl fun B2 W2 hS=>aB rfl rfl (aI (XF.thenN (aE (aL (bP (vs:=[_,_,_]) isAgg61 sizeOf61 rfl (aX.own (j:=0) (m:=3) (hS.at_ 1 rfl) rfl) rfl (bZ (vs:=[_]) goes_51 rfl (tO t Kt _ _ K w0 _ (hS.keep K (fun q hq=>by simp [hq])) hT hKt hB) rfl ?_))))))))
 rintro e W9 ⟨q,Kq,rfl,hqk,hqn,hqT,hqE,hqs,hqB,hS9⟩
 refine ⟨_,rfl,?_⟩
 clear hS;have hS:=hS9;clear hS9
 refine cL (i:=1) (vs:=[_,_,_]) (cs':=[_,_,_]) (O':=(_::_::Ot)) hS sizeOf61 rfl rfl rfl rfl rfl rfl rfl fun W3 hS=>aI (XF.thenN (aE (aL (aT (o':=2) fT rfl rfl rfl (aN isAgg23 rfl (aC (hS.at_ 1 rfl) rfl) rfl (bZ (vs:=[_]) goes_52 rfl (tK q.n q.aa q.ac q.bs Kq _ _ Kq w0 _ (hS.keep Kq (fun q hq=>by simp [hq])) (fun q hq=>hq) (fun h9 hk9=>(hqB h9 hk9).2) hqT.bl hqT.pos hqT.n1) rfl ?_))))))
 rintro e W9 ⟨PB,Ab,Lb,Kb,P,T,rfl,hM,Fb,Sb,Mb,cf,cs,cm,e1,e2,e3,hcf,hcs,hcm,mcf,mcs,mcm,hS9⟩
 refine ⟨_,rfl,?_⟩
 clear hS;have hS:=hS9;clear hS9
 obtain ⟨hH,hum,hPI⟩:=init_HI (A:=q.fa) hqT.fa hM
 refine aB rfl rfl (aI (XF.thenN (aE (aE (aL (aA rfl rfl (bP (vs:=[_,_,_]) isAgg61 sizeOf61 rfl (aX.own (j:=0) (m:=3) (hS.at_ 8 rfl) rfl) rfl (aA rfl rfl (bZ (vs:=[_,_,_]) goes_53 rfl (wG q mo (cX P 0) PB Ab Lb Kb Fb Sb Mb cf cs cm e1 e2 e3 Kq _ _ Kq w0 _ hcf hcs hcm mcf mcs mcm hS hPI hum hH hqT (fun q hq=>hq) hqB) rfl ?_)))))))))
 rintro e W9 ⟨Q,wk,Kr,rfl,hPQ,hHQ,hwk,hsr,Fb,Sb,Mb,cf,cs,cm,e1,e2,e3,hcf,hcs,hcm,mcf,mcs,mcm,hS9⟩
 refine ⟨_,rfl,?_⟩
 clear hS;have hS:=hS9;clear hS9
 have hQm:Q.fs.length≤mo:=Nat.le_trans hPQ.le (Nat.le_trans hqn hmo)
 rw [hwk hQm] at hHQ
 refine pF rfl rfl (aI (XF.thenN ?_))
 refine bR rfl (fun hc=>absurd hc (by rw [decide_eq_true hQm];decide)) (fun hc=>?_)
 skip
 refine bT (XF.thenN (aE (regS (ef:=13) (jy:=13) (ca:=nH (fun _=>[])) (ta:=fun _=>0) (Os:=osNo _) (Gs:=rL _) (al:=[]) (k:=10) (ds:=[5,28]) cC rfl hS rfl (by kernel_rfl) (by kernel_rfl) rfl (by decide) rfl (fun _=>none) (.inr ⟨rfl,rfl,rfl⟩) rfl rfl (aV 1 rfl rfl (isV _) (fun hNo=>sgV [(2,_)] rfl rfl rfl rfl hNo (aK rfl) ⟨cB rfl,trivial⟩ (fun ev w he hw=>fB (vs:=[_,_,_]) isAgg61 sizeOf61 rfl ((aX.own (j:=0) (m:=3) (hw.at_ 8 rfl) rfl))) (aH rfl)) (aV 2 rfl rfl (isV _) (fun hNo=>sgV [(6,_)] rfl rfl rfl rfl hNo (aK rfl) ⟨cB rfl,trivial⟩ (fun ev w he hw=>aU rfl) (aH rfl)) (aV 3 rfl rfl (isV _) (fun hNo=>sgV [(19,_)] rfl rfl rfl rfl hNo (aK rfl) ⟨aJ 1 (aG rfl rfl rfl),trivial⟩ (fun ev w he hw=>bI rfl) (aH rfl)) (aV 4 rfl rfl (isV _) (fun hNo=>sgV [(20,_)] rfl rfl rfl rfl hNo (aK rfl) ⟨aJ 2 (aG rfl rfl rfl),trivial⟩ (fun ev w he hw=>bG (o':=2) lB rfl rfl) (aH rfl)) (aV 5 rfl rfl (isV _) (fun hNo=>sgV [(21,_)] rfl rfl rfl rfl hNo (aK rfl) ⟨aJ 3 (aG rfl rfl rfl),trivial⟩ (fun ev w he hw=>bB isAgg59 rfl ((aC (hw.at_ 0 rfl) rfl))) (aH rfl)) (aV 6 rfl rfl (isV _) (fun hNo=>sgV [(6,_)] rfl rfl rfl rfl hNo (aK rfl) ⟨cB rfl,trivial⟩ (fun ev w he hw=>aU rfl) (aH rfl)) (aV 7 rfl rfl (isV _) (fun hNo=>sgV [(23,_)] rfl rfl rfl rfl hNo (aK rfl) ⟨aJ 5 (aG rfl rfl rfl),trivial⟩ (fun ev w he hw=>bI rfl) (aH rfl)) (aV 8 rfl rfl (isV _) (fun hNo=>sgV [(24,_)] rfl rfl rfl rfl hNo (aK rfl) ⟨aJ 6 (aG rfl rfl rfl),trivial⟩ (fun ev w he hw=>bG (o':=3) dI rfl rfl) (aH rfl)) (aV 9 rfl rfl (isV _) (fun hNo=>sgV [(25,_)] rfl rfl rfl rfl hNo (aK rfl) ⟨aJ 7 (aG rfl rfl rfl),trivial⟩ (fun ev w he hw=>bB isAgg59 rfl ((aC (hw.at_ 0 rfl) rfl))) (aH rfl)) (aV 10 rfl rfl (isV _) (fun hNo=>sgV [(26,_)] rfl rfl rfl rfl hNo (aK rfl) ⟨aJ 8 (aG rfl rfl rfl),trivial⟩ (fun ev w he hw=>lJ underlying59 rfl) (aH rfl)) (jP ?_))))))))))))))
 intro Bf4 y4 W4 Ks4 hsz4 hKs4 hS' hcov4
 clear hS;have hS:=hS'.castO (O':=(_::_::_::_::_::_::_::_::_::Ot)) rfl;clear hS'
 refine kD (L':=[AwS _ _ (isV _),AwS _ _ (isV _),AwS _ _ (isV _),AwS _ _ (isV _),AwS _ _ (isV _),AwS _ _ (isV _),AwS _ _ (isV _),AwS _ _ (isV _),AwS _ _ (isV _),AwS _ _ (isV _)]) rfl (aW (aW (aW (aW (aW (aW (aW (aW (aW (aW (cG ?_)))))))))))
 obtain ⟨K1,k1,h1,hS1⟩:=(hS.keep Kr (fun q hq=>by simp [hq])).tail.tail.tail.ownKeep
 clear hS;have hS:=hS1;clear hS1
 have hB1:dD w0 K1 (fun W=>TAt q W∧R32 W (some ⟨Kb,0,none⟩) Q.bk):=fun h9 hk9=>⟨hqB h9 (fun z hz=>hk9 z (k1 z (hsr z hz))),mT (h1 h9 hk9)⟩
 have hQn:=Nat.le_trans hPQ.le hqT.n1
 refine bZ (vs:=[_,_,_]) vA rfl (lC q Q.bk (some ⟨Kb,0,none⟩) q.n Q.fs.length q.n K1 _ _ K1 w0 _ hPQ.lb hS hqT (fun q hq=>hq) hB1 hPQ.lb (fun x hx=>hPQ.bl x hx) hQn) rfl ?_
 rintro e W9 ⟨q2,N,Kn,rfl,hQ2,h2n,h2k,h2T,h2x,h2b,h2s,h2B,hS9⟩
 refine ⟨_,rfl,?_⟩
 clear hS;have hS:=hS9;clear hS9
 refine cL (i:=3) (vs:=[_,_,_]) (cs':=[_,_,_]) (O':=(_::_::_::_::_::Ot)) hS sizeOf61 rfl rfl rfl rfl rfl rfl rfl fun W5 hS=>aB rfl rfl (aI (XF.thenN (cE (XF.res (wY (vs:=[_,_,_]) results33 isAgg61 sizeOf61 rfl (aX.own (j:=0) (m:=3) (hS.at_ 3 rfl) rfl) rfl) ?_))))
 have hcg:Cong q.fa (gN Q.bk):=hHQ.cong hqT.fa
 have hag:=vB hQ2 h2n h2k h2T h2x h2b
 have h2le:q2.n≤q.n:=by
  rw [h2n,← hQ2.len]
  refine Nat.le_trans (mG hqT.fa (fun _=>hQ2.rowsOk) (fun h0=>by rw [h0,Nat.mul_zero]) (fun x hx=>hPQ.bl x hx)).1 hPQ.le
 have hE2:Eqv q2.fa 0 q.fa 0:=Eqv.trans (B:=quo q.fa (gN Q.bk) N) h2k (hag.eqv h2T.pos) (uG hQ2 hcg)
 exact ⟨q2,Kn,rfl,h2k.trans hqk,Nat.le_trans h2le hqn,h2T,hag.ord (quo_ord hQ2),hag.red (quo_red hQ2 hcg (fun s u hs hu e=>hHQ.eqv s u hs hu e)),Eqv.trans (B:=q.fa) h2k hE2 hqE,fun z hz=>h2s z (k1 z (hsr z (hqs z hz))),h2B,(hS.keep Kn (fun q hq=>by simp [hq])).tail.tail.tail.tail.tail⟩
theorem tP (v0:Int) (v2a:Option Addr) (v2l:Nat) (v2c:Nat):prog.built 61 [(0,.int .i64 v0),(2,.slice v2a v2l v2c)]=some #[.int .i64 v0,.slice none 0 0,.slice v2a v2l v2c]:=by kernel_rfl
def xsT (ns:List IV) (i:Nat):List Nat:=(ns.take i).flatMap (fun r=>r.xs.map Int.toNat)
theorem oE {ns:List IV} {i:Nat} {r:IV} (h:ns[i]?=some r):xsT ns (i+1)=xsT ns i++r.xs.map Int.toNat:=by
 unfold xsT
 rw [List.take_add_one,h,List.flatMap_append];simp
theorem qG {ns:List IV} {k:Nat} (h:∀ r∈ns,r.xs.length=k):∀ {i:Nat},i≤ns.length→(xsT ns i).length=i * k
 | 0,_=>by simp [xsT]
 | i+1,hi=>by
  rw [oE (List.getElem?_eq_getElem (show i < ns.length by omega)),List.length_append,qG h (by omega),List.length_map,h _ (List.getElem_mem _),Nat.succ_mul]
theorem takeT {xs:List Int} {j:Nat} {y:Int} (h:xs[j]?=some y):(xs.take (j+1)).map Int.toNat=(xs.take j).map Int.toNat++[y.toNat]:=by
 rw [List.take_add_one,h];simp
theorem xsT_lt {ns:List IV} {n:Nat} (h:∀ r∈ns,∀ y∈r.xs,0≤y∧y < (n:Int)) {i:Nat}:∀ x∈xsT ns i,x < n:=fun x hx=>by
 unfold xsT at hx
 obtain ⟨r,hr,hx2⟩:=List.mem_flatMap.1 hx
 obtain ⟨y,hy,rfl⟩:=List.mem_map.1 hx2
 have:=h r (List.mem_of_mem_take hr) y hy
 omega
theorem tQ (k:Nat) (na:Option Addr) (nl nc:Nat) (ns:List IV) (aa:Option Addr) (ac:Nat) (bs:List Bool) (Kt:List (Nat×World)) (Ot:Own) (G:bJ) (K:List (Nat×World)) (w0 w:World) (hS0:St w0 Ot G K w) (hKt:∀ q∈Kt,q∈K) (hI:dD w0 Kt (fun W=>oM W na ns∧(∀ r∈ns,Row W r.a r.xs)∧gD W aa bs)) (hnl:ns.length=nl) (hrl:∀ r∈ns,r.l=k∧r.xs.length=k) (hrv:∀ r∈ns,∀ y∈r.xs,0≤y∧y < (nl:Int)) (hbl:bs.length=nl) (h1:1≤nl) (h2:nl≤1024) (h3:k≤4096) :
  Calls prog 32 #[.agg #[.int .i64 (k:Int),.slice na nl nc,.slice aa nl ac]] w (fun e w'=>∃ (va:Option Addr) (vc:Nat) (Kn:List (Nat×World)),e = .returned (TB.mk k nl va vc (xsT ns nl) aa ac bs).val∧TOk (TB.mk k nl va vc (xsT ns nl) aa ac bs)∧(∀ q∈K,q∈Kn)∧dD w0 Kn (TAt (TB.mk k nl va vc (xsT ns nl) aa ac bs))∧St w0 Ot G Kn w'):=by
 refine cP (args:=[.agg #[.int .i64 (k:Int),.slice na nl nc,.slice aa nl ac]]) func32 rfl ntmps32 rfl ?_
 have hS:=hS0
 refine aE (aL (dA (cs:=[_,_,_]) hS rfl rfl rfl fun B1 W1 hS=>cV (cs:=[_,_,_]) hS zeroValue61 rfl rfl fun B2 W2 hS=>aI (XF.thenN (aE (aL (aT (o':=0) dZ rfl rfl rfl (aN isAgg3 rfl (aC (hS.at_ 1 rfl) rfl) rfl (aT (o':=2) eR rfl rfl rfl (aN isAgg23 rfl (aC (hS.at_ 1 rfl) rfl) rfl (fC (us:=[(0,.int .i64 _),(2,.slice _ _ _)]) rfl (tP _ _ _ _) rfl (cV (cs:=[_,_,_]) hS zeroValue61 rfl rfl fun B3 W3 hS=>cL (i:=0) (vs:=[_,_,_]) (cs':=[_,_,_]) (O':=(_::_::_::Ot)) hS sizeOf61 rfl rfl rfl rfl rfl rfl rfl fun W4 hS=>aI (XF.thenN (aE (aE ?_))))))))))))))
 have hS':=hS.newG 21 1;clear hS;have hS:=hS';clear hS'
 have hXl:=fun (i:Nat) (hi:i≤nl)=>qG (ns:=ns) (k:=k) (fun r hr=>(hrl r hr).2) (i:=i) (by omega)
 have hmul:=fun (i:Nat) (hi:i≤nl)=>(Nat.mul_le_mul (Nat.le_trans hi h2) h3:i * k≤1024 * 4096)
 refine aL (aT (o':=1) cR rfl rfl rfl (aN isAgg22 rfl (aC (hS.at_ 2 rfl) rfl) rfl (bQ underlying22 rfl rfl (aA rfl rfl (aI (XF.thenN (bE ?_)))))))
 refine cJ (fun m l W=>∃ (i:Nat) (va:Option Addr) (vc:Nat),i≤nl∧m=nl - i∧l=[(1,.pointer (some ⟨B1,0,none⟩)),(2,.pointer (some ⟨B2,0,none⟩)),(3,.pointer (some ⟨B3,0,none⟩)),(14,.slice na nl nc),(15,.int .i64 (nl:Int)),(16,.int .i64 (i:Int))]∧St w0 ((B3,[.int .i64 (k:Int),.slice va (i * k) vc,.slice aa nl ac],61)::(B2,[.int .i64 0,.slice none 0 0,.slice none 0 0],61)::(B1,[.int .i64 (k:Int),.slice na nl nc,.slice aa nl ac],25)::Ot) (⟨.slice va (i * k) vc,i * k,i32 (xsT ns i),21,1⟩::G) K W) (nl - 0) ([(1,_),(2,_),(3,_),(14,_),(15,_),(16,_)]) ⟨rfl,rfl,rfl,rfl,rfl,rfl,trivial⟩ (⟨0,none,0,Nat.zero_le _,rfl,rfl,by rw [Nat.zero_mul];exact hS.keep K (fun q hq=>by simp [hq])⟩) ?_
 clear hS
 rintro m l W ⟨i,va,vc,hi,rfl,rfl,hS⟩
 refine aE (aL (bW rfl rfl rfl (aI (XF.thenN (aE (bR rfl (fun hc=>?_) (fun hc=>?_)))))))
 ·have hc17:=of_decide_eq_true hc;clear hc
  have hk:i < nl:=by omega
  obtain ⟨hIR,hRR,hBR⟩:=hI hS hKt
  obtain ⟨r,hr⟩:∃ r,ns[i]?=some r:=⟨_,List.getElem?_eq_getElem (by omega)⟩
  obtain ⟨b,off,rfl,hcs⟩:=hIR i r hr
  have hrm:=List.mem_of_getElem? hr
  have hrr:=hRR r hrm
  obtain ⟨hl9,hx9⟩:=hrl r hrm
  have hv9:=hrv r hrm
  obtain ⟨ra9,rl9,rc9,xs9⟩:=r
  dsimp only at hrr hl9 hx9 hv9 hcs
  have hm9:=hmul i (by omega)
  refine bT (XF.thenN (aE (bE (aE (aL (aQ  underlying22 sizeOf36 rfl rfl rfl (by omega) rfl rfl (aN isAgg36 rfl (hcs) rfl (aB rfl rfl (aI (XF.thenN (aE (aL (aA rfl rfl (bQ underlying36 rfl rfl (aA rfl rfl (aI (XF.thenN (bE (cJ (fun m l W=>∃ (j:Nat) (va:Option Addr) (vc:Nat),j≤rl9∧m=rl9 - j∧l=[(1,.pointer (some ⟨B1,0,none⟩)),(2,.pointer (some ⟨B2,0,none⟩)),(3,.pointer (some ⟨B3,0,none⟩)),(14,.slice (some ⟨b,off,none⟩) nl nc),(15,.int .i64 (nl:Int)),(16,.int .i64 (i:Int)),(20,.slice ra9 rl9 rc9),(21,.int .i64 (rl9:Int)),(22,.int .i64 (j:Int))]∧St w0 ((B3,[.int .i64 (k:Int),.slice va (i * k+j) vc,.slice aa nl ac],61)::(B2,[.int .i64 0,.slice none 0 0,.slice none 0 0],61)::(B1,[.int .i64 (k:Int),.slice (some ⟨b,off,none⟩) nl nc,.slice aa nl ac],25)::Ot) (⟨.slice va (i * k+j) vc,i * k+j,i32 (xsT ns i++(xs9.take j).map Int.toNat),21,1⟩::G) K W) (rl9 - 0) ([(1,_),(2,_),(3,_),(14,_),(15,_),(16,_),(20,_),(21,_),(22,_)]) ⟨rfl,rfl,rfl,rfl,rfl,rfl,rfl,rfl,rfl,trivial⟩ (⟨0,va,vc,Nat.zero_le _,rfl,rfl,(hS.castG (by simp)).keep K (fun q hq=>by simp [hq])⟩) ?_)))))))))))))))))))
  clear hS
  rintro m l W ⟨j,va,vc,hj,rfl,rfl,hS⟩
  refine aE (aL (bW rfl rfl rfl (aI (XF.thenN (aE (bR rfl (fun hc=>?_) (fun hc=>?_)))))))
  ·have hc23:=of_decide_eq_true hc;clear hc
   have hk2:j < rl9:=by omega
   obtain ⟨b2,off2,y,rfl,hy,hyc⟩:=(hI hS hKt).2.1 _ hrm |>.at1 (show j < xs9.length by omega)
   have hyv:=hv9 y (List.mem_of_getElem? hy)
   refine bT (XF.thenN (aE (bE (aE (aL (aQ  underlying36 sizeOf3 rfl rfl rfl (by omega) rfl rfl (aN isAgg3 rfl (hyc) rfl (aB rfl rfl (aI (XF.thenN (aL (aT (o':=1) iT rfl rfl rfl (aN isAgg59 rfl (aC (hS.at_ 0 rfl) rfl) rfl (aA rfl rfl (dM underlying3 underlying21 rfl (by omega) rfl (bU (us:=[(0,.int .i32 _)]) hS underlying59 sizeOf21 zeroValue21 rfl rfl rfl (dQ _) rfl fun B5 W5 hS=>?_))))))))))))))))
   refine dL (i:=0) (news:=[_]) hS underlying59 dK rfl rfl (by show 0 < 1;decide) rfl rfl rfl rfl rfl (aX.own (j:=0) (m:=1) (hS.at_ 0 rfl) rfl) rfl rfl (by dsimp only;simp only [maxLen];omega) (by dsimp only;show _ * 4≤_;omega) rfl fun v6 W6 hS=>?_
   obtain ⟨a9,c9,e9,_⟩:=cA (hS.row 0 rfl)
   dsimp only at e9
   subst e9
   refine aT (o':=1) iT rfl rfl rfl (bS (i:=1) (cs':=[_,_,_]) (O':=(_::_::_::_::Ot)) hS sizeOf59 rfl rfl rfl rfl rfl rfl rfl fun W7 hS=>aI (XF.blkN (XF.thenN (aL (bV rfl rfl (IntWalk.i64_in _ (by omega)) rfl (aA rfl rfl (aI ?_)))))))
   have hS9:=hS.tail.castG (G':=(⟨.slice a9 (i * k+j+1) c9,i * k+j+1,i32 (xsT ns i++(xs9.take (j+1)).map Int.toNat),21,1⟩::G)) (by show GR.mk _ _ (i32 _++[Value.int .i32 _]) _ _::_=_;rw [fX (v:=y.toNat) (by omega),takeT hy,List.append_assoc])
   exact XF.round (rl9 - (j+1)) [(1,_),(2,_),(3,_),(14,_),(15,_),(16,_),(20,_),(21,_),(22,_)] (by omega) ⟨rfl,rfl,rfl,rfl,rfl,rfl,rfl,rfl,rfl,trivial⟩ ⟨j+1,a9,c9,by omega,rfl,rfl,hS9.keep K (fun q hq=>by simp [hq])⟩
  ·have hc23:=of_decide_eq_false hc;clear hc
   refine cI (XF.thenX (XF.thenX (XF.blkX (XF.blkN (XF.thenN (aL (bV rfl rfl (IntWalk.i64_in _ (by omega)) rfl (aA rfl rfl (aI ?_)))))))))
   have ejl:j=k:=by omega
   have es:(i+1) * k=i * k+j:=by rw [Nat.succ_mul,ejl]
   have ex:xsT ns (i+1)=xsT ns i++(xs9.take j).map Int.toNat:=by rw [oE hr,List.take_of_length_le (by omega)]
   exact XF.round (nl - (i+1)) [(1,_),(2,_),(3,_),(14,_),(15,_),(16,_)] (by omega) ⟨rfl,rfl,rfl,rfl,rfl,rfl,trivial⟩ ⟨i+1,va,vc,by omega,rfl,rfl,by rw [es,ex];exact hS.keep K (fun q hq=>by simp [hq])⟩
 ·have hc17:=of_decide_eq_false hc;clear hc
  obtain rfl:nl=i:=by omega
  refine cI (XF.thenX (XF.thenX (XF.blkX (XF.thenN (aE (aL (bP (vs:=[_,_,_]) isAgg61 sizeOf61 rfl (aX.own (j:=0) (m:=3) (hS.at_ 0 rfl) rfl) rfl (cL (i:=1) (vs:=[_,_,_]) (cs':=[_,_,_]) (O':=(_::_::_::Ot)) hS sizeOf61 rfl rfl rfl rfl rfl rfl rfl fun W8 hS=>aI (XF.thenN (cE (XF.res (rH (vs:=[_,_,_]) results32 isAgg61 sizeOf61 rfl (aX.own (j:=0) (m:=3) (hS.at_ 1 rfl) rfl)) ?_)))))))))))
  obtain ⟨ma1,mc1,e1,hcap⟩:=cA (hS.row 0 rfl)
  dsimp only at e1 hcap
  injection e1 with _ _ e3
  subst e3
  obtain ⟨K1,k1,g1,hS1⟩:=(hS.keep K (fun q hq=>by simp [hq])).rowKeep
  refine ⟨va,vc,K1,rfl,⟨hXl _ (Nat.le_refl _),hbl,fun p hp9=>?_,h1,hcap,Nat.le_trans h2 (by decide),Nat.le_trans h3 (by decide)⟩,k1,fun h9 hk9=>⟨fun i u hu=>?_,(hI h9 (fun q hq=>hk9 q (k1 q (hKt q hq)))).2.2⟩,hS1.tail.tail.tail⟩
  ·exact xsT_lt hrv _ (wF (by show p < (xsT ns nl).length;rw [hXl _ (Nat.le_refl _)];exact hp9))
  ·exact g1 h9 hk9 i _ (by unfold i32;rw [List.getElem?_map,hu];rfl)
theorem yQ (v0:Int):prog.built 25 [(0,.int .i64 v0)]=some #[.int .i64 v0,.slice none 0 0,.slice none 0 0]:=by kernel_rfl
theorem bs_22_1 (v0a:Option Addr) (v0l:Nat) (v0c:Nat):Instr.fill (fun i=>some (i * 1,1)) ((Array.range (1 * 1)).map ((Value.cells (.slice none 0 0))[· % (Value.cells (.slice none 0 0)).size]!)) [(0,.slice v0a v0l v0c)]=some (List.toArray [.slice v0a v0l v0c]):=by kernel_rfl
theorem inf_36:prog.info? 36=some Try.t36:=by kernel_rfl
theorem iK {l:List Nat} {i v:Nat} {x:Int} (h:x=(v:Int)):(i64n l).set (0+i * 1) (.int .i64 x)=i64n (l.set i v):=by
 subst h;rw [Nat.zero_add,Nat.mul_one];unfold i64n;rw [List.map_set]
theorem lV (m:Nat):madeCells (Value.int .i64 0).cells (m * 1)=(i64n (List.replicate m 0)).toArray:=by
 unfold i64n;rw [List.map_replicate,Nat.mul_one];exact pX _ _
def oF (t:TB) (i j:Nat):List Nat:=(List.range j).map (t.fa.nx i)++List.replicate (t.k - j) 0
theorem yR {t:TB} {i j:Nat} (h:j≤t.k):(oF t i j).length=t.k:=by unfold oF;simp;omega
theorem wH {t:TB} {i:Nat}:oF t i 0=List.replicate t.k 0:=by unfold oF;simp
theorem yS {t:TB} {i j:Nat} (h:j < t.k):(oF t i j).set j (t.fa.nx i j)=oF t i (j+1):=by
 unfold oF
 obtain ⟨m,hm⟩:∃ m,t.k - j=m+1:=⟨t.k - j - 1,by omega⟩
 rw [hm,show t.k - (j+1)=m by omega,List.replicate_succ,List.range_succ,List.map_append,List.set_append_right _ _ (by simp),List.length_map,List.length_range,Nat.sub_self]
 simp
def mM (t:TB) (i:Nat):List Int:=(List.range t.k).map (fun x=>((t.fa.nx i x:Nat):Int))
theorem rowI_of {W:World} {B:Nat} {t:TB} {i:Nat} {T:TypeId} (h:W.heap[B]?=some (.cells (i64n (oF t i t.k)).toArray T (0,0))):Row W (some ⟨B,0,none⟩) (mM t i):=.inr ⟨B,0,rfl,fun x hx=>by
 rw [Nat.zero_add]
 have hx':x < t.k:=by unfold mM at hx;simpa using hx
 refine aC h ?_
 unfold i64n oF mM
 simp [hx']⟩
structure DOfT (t:TB) (d:DV):Prop where
 sy:d.sy=(t.k:Int)
 nl:d.nl=t.n
 al:d.al=t.n
 len:d.ns.length=t.n
 row:∀ (i:Nat) r,d.ns[i]?=some r→r.l=t.k∧r.xs=mM t i
 bs:d.bs=t.bs
def DRo (d:DV) (W:World):Prop:=oM W d.na d.ns∧∀ r∈d.ns,Row W r.a r.xs
theorem tR {bs:List Bool} {i:Nat} (h:i < bs.length):bs.take i++[bs.getD i false]=bs.take (i+1):=by
 rw [List.take_add_one,List.getElem?_eq_getElem h,List.getD_eq_getElem?_getD,List.getElem?_eq_getElem h];rfl
theorem wJ {t:TB} {rs:List IV} {i:Nat} {r:IV} (hl:rs.length=i) (h:∀ (j:Nat) r,rs[j]?=some r→r.l=t.k∧r.xs=mM t j) (h1:r.l=t.k) (h2:r.xs=mM t i):∀ (j:Nat) r',(rs++[r])[j]?=some r'→r'.l=t.k∧r'.xs=mM t j:=fun j r' hj=>by
 rcases Nat.lt_or_ge j rs.length with h3 | h3
 ·rw [List.getElem?_append_left h3] at hj;exact h j r' hj
 ·rw [List.getElem?_append_right h3] at hj
  obtain ⟨h4,h5⟩:=List.getElem?_eq_some_iff.1 hj
  have e:j=i:=by simp at h4;omega
  subst e
  simp at h5
  subst h5
  exact ⟨h1,h2⟩
theorem yT (t:TB) (Kt:List (Nat×World)) (Ot:Own) (G:bJ) (K:List (Nat×World)) (w0 w:World) (hS0:St w0 Ot G K w) (hT:TOk t) (hKt:∀ q∈Kt,q∈K) (hB:dD w0 Kt (TAt t)) :
  Calls prog 34 #[t.val] w (fun e w'=>∃ (d:DV) (Kn:List (Nat×World)),e = .returned d.val∧DOfT t d∧(∀ q∈K,q∈Kn)∧dD w0 Kn (DRo d)∧St w0 Ot (⟨.slice d.aa t.n d.ac,t.n,bvs t.bs,4,1⟩::G) Kn w'):=by
 refine cP (args:=[t.val]) func34 rfl ntmps34 rfl ?_
 have hS:=hS0
 have hn1:=hT.n1
 have hk1:=hT.k1
 have hp:=hT.pos
 have hbl:=hT.bl
 refine aE (aL (dA (cs:=[_,_,_]) hS rfl rfl rfl fun B1 W1 hS=>cV (cs:=[_,_,_]) hS zeroValue25 rfl rfl fun B2 W2 hS=>aI (XF.thenN (aE (aL (aT (o':=0) gX rfl rfl rfl (aN isAgg3 rfl (aC (hS.at_ 1 rfl) rfl) rfl (fC (us:=[(0,.int .i64 _)]) rfl (yQ _) rfl (cV (cs:=[_,_,_]) hS zeroValue25 rfl rfl fun B3 W3 hS=>cL (i:=0) (vs:=[_,_,_]) (cs':=[_,_,_]) (O':=(_::_::_::Ot)) hS sizeOf25 rfl rfl rfl rfl rfl rfl rfl fun W4 hS=>aI (XF.thenN (aE (aE ?_))))))))))))
 have hS':=(hS.newG 4 1).newG 36 1;clear hS;have hS:=hS';clear hS'
 refine aL (aT (o':=2) fT rfl rfl rfl (aN isAgg23 rfl (aC (hS.at_ 2 rfl) rfl) rfl (bQ underlying23 rfl rfl (aA rfl rfl (aI (XF.thenN (bE (cJ (fun m l W=>∃ (i:Nat) (rs:List IV) (va wa:Option Addr) (vc wc:Nat) (Kk:List (Nat×World)),i≤t.n∧m=t.n - i∧l=[(1,.pointer (some ⟨B1,0,none⟩)),(2,.pointer (some ⟨B2,0,none⟩)),(3,.pointer (some ⟨B3,0,none⟩)),(13,.slice t.aa t.n t.ac),(14,.int .i64 (t.n:Int)),(15,.int .i64 (i:Int))]∧rs.length=i∧(∀ (j:Nat) r,rs[j]?=some r→r.l=t.k∧r.xs=mM t j)∧(∀ q∈K,q∈Kk)∧dD w0 Kk (fun W=>∀ r∈rs,Row W r.a r.xs)∧St w0 ((B3,[.int .i64 (t.k:Int),.slice va i vc,.slice wa i wc],25)::(B2,[.int .i64 0,.slice none 0 0,.slice none 0 0],25)::(B1,t.cells,61)::Ot) (⟨.slice va i vc,i,rs.map IV.val,36,1⟩::⟨.slice wa i wc,i,bvs (t.bs.take i),4,1⟩::G) Kk W) (t.n - 0) ([(1,_),(2,_),(3,_),(13,_),(14,_),(15,_)]) ⟨rfl,rfl,rfl,rfl,rfl,rfl,trivial⟩ (⟨0,[],none,none,0,0,K,Nat.zero_le _,rfl,rfl,rfl,fun j r h=>(by cases h),fun q hq=>hq,fun _ _ r h=>(by cases h),hS.keep K (fun q hq=>by simp [hq])⟩) ?_))))))))
 clear hS
 rintro m l W ⟨i,rs,va,wa,vc,wc,Kk,hi,rfl,rfl,hrl,hrs,hsub,hRH,hS⟩
 refine aE (aL (bW rfl rfl rfl (aI (XF.thenN (aE (bR rfl (fun hc=>?_) (fun hc=>?_)))))))
 ·have hc16:=of_decide_eq_true hc;clear hc
  refine bT (XF.thenN (aE (bE (aE ?_))))
  have hi9:i < t.n:=by omega
  obtain ⟨ab,ao,hba,hc4⟩:=gD.get (hB hS (fun q hq=>hsub q (hKt q hq))).2 (i:=i) (by omega)
  refine aL (aA rfl rfl ?_)
  refine aQ (j:=i) (b:=ab) (o:=ao) (m:=t.n) (c:=t.ac) underlying23 sizeOf4 (by show some (Value.slice t.aa _ _)=_;rw [hba]) rfl rfl (by omega) rfl rfl ?_
  refine aN isAgg4 rfl (hc4) rfl (aB rfl rfl (aB rfl rfl (aI (XF.thenN (aE (aL (aT (o':=0) gX rfl rfl rfl (aN isAgg3 rfl (aC (hS.at_ 2 rfl) rfl) rfl ?_))))))))
  refine fD (m:=t.k) (cs:=i64n (List.replicate t.k 0)) hS underlying36 nT rfl rfl rfl (rfl) (rfl) (lV _) (by show (8:Int) * _≤_;omega) (by omega) rfl fun B5 W5 hS=>?_
  refine aB rfl rfl (aI (XF.thenN (aE (aE (aL (bP (vs:=[_,_,_]) isAgg61 sizeOf61 rfl (aX.own (j:=0) (m:=3) (hS.at_ 3 rfl) rfl) rfl (aA rfl rfl (cW (vs:=[_,_]) hS mW rfl (qD t i _ hT hi9) rfl fun W6 hS=>bQ underlying59 rfl rfl (aA rfl rfl (aI (XF.thenN (bE ?_))))))))))))
  refine cJ (fun m l W=>∃ (j:Nat),j≤t.k∧m=t.k - j∧l=[(1,.pointer (some ⟨B1,0,none⟩)),(2,.pointer (some ⟨B2,0,none⟩)),(3,.pointer (some ⟨B3,0,none⟩)),(4,.int .i64 (i:Int)),(5,.bool (t.bs.getD i false)),(6,.slice (some ⟨B5,0,none⟩) t.k t.k),(13,.slice t.aa t.n t.ac),(14,.int .i64 (t.n:Int)),(15,.int .i64 (i:Int)),(25,.slice (hZ t.na t.nc (i * t.k) 1) t.k (t.nc - i * t.k)),(26,.int .i64 (t.k:Int)),(27,.int .i64 (j:Int))]∧St w0 ((B5,i64n (oF t i j),3)::(B3,[.int .i64 (t.k:Int),.slice va i vc,.slice wa i wc],25)::(B2,[.int .i64 0,.slice none 0 0,.slice none 0 0],25)::(B1,t.cells,61)::Ot) (⟨.slice va i vc,i,rs.map IV.val,36,1⟩::⟨.slice wa i wc,i,bvs (t.bs.take i),4,1⟩::G) Kk W) (t.k - 0) ([(1,_),(2,_),(3,_),(4,_),(5,_),(6,_),(13,_),(14,_),(15,_),(25,_),(26,_),(27,_)]) ⟨rfl,rfl,rfl,rfl,rfl,rfl,rfl,rfl,rfl,rfl,rfl,rfl,trivial⟩ (⟨0,Nat.zero_le _,rfl,rfl,by rw [wH];exact hS.keep Kk (fun q hq=>by simp [hq])⟩) ?_
  clear hS
  rintro m l W ⟨j,hj,rfl,rfl,hS⟩
  refine aE (aL (bW rfl rfl rfl (aI (XF.thenN (aE (bR rfl (fun hc=>?_) (fun hc=>?_)))))))
  ·have hc28:=of_decide_eq_true hc;clear hc
   refine bT (XF.thenN (aE (bE (aE ?_))))
   have hj9:j < t.k:=by omega
   have hix:=hT.ix hi9 hj9
   have hcp:=hT.cap
   obtain ⟨cb,co,hcu,hc5⟩:=((hB hS (fun q hq=>hsub q (hKt q hq))).1.cut (i:=i * t.k) (L:=t.k) (c:=t.nc) (by rw [hT.len];exact hix.2) (by omega)).get (i:=j) (by rw [List.length_take,List.length_drop,hT.len];omega)
   rw [eN hj9] at hc5
   have hc5:W.cell? ⟨cb,co+j * 1,none⟩=some (.int .i32 ((t.fa.nx i j:Nat):Int)):=hc5
   have hnl:t.fa.nx i j < t.n:=hT.fa.t0_ i j hi9 hj9
   refine aL (aA rfl rfl ?_)
   refine aQ (j:=j) (b:=cb) (o:=co) (m:=t.k) (c:=t.nc - i * t.k) underlying59 sizeOf21 (by show some (Value.slice (hZ _ _ _ _) _ _)=_;rw [hcu]) rfl rfl (by omega) rfl rfl ?_
   refine aN isAgg21 rfl (hc5) rfl (aB rfl rfl (aB rfl rfl (aI (XF.thenN (aL (aA rfl rfl (aA rfl rfl (aA rfl rfl (lR underlying21 underlying3 rfl (by omega) rfl (aQ (j:=j) underlying36 sizeOf3 rfl rfl (rfl) (by omega) rfl rfl ?_))))))))))
   refine bS (i:=0) (cs':=i64n ((oF t i j).set j (t.fa.nx i j))) (O':=(_::_::_::_::Ot)) hS sizeOf3 rfl rfl rfl rfl (Nat.ble_eq_true_of_le (by rw [fY,yR (by omega)];omega)) (iK rfl) rfl fun W95 hS=>?_
   refine aI (XF.blkN (XF.thenN (aL (bV rfl rfl (IntWalk.i64_in _ (by omega)) rfl (aA rfl rfl (aI ?_))))))
   rw [yS hj9] at hS
   exact XF.round (t.k - (j+1)) [(1,_),(2,_),(3,_),(4,_),(5,_),(6,_),(13,_),(14,_),(15,_),(25,_),(26,_),(27,_)] (by omega) ⟨rfl,rfl,rfl,rfl,rfl,rfl,rfl,rfl,rfl,rfl,rfl,rfl,trivial⟩ ⟨j+1,by omega,rfl,rfl,hS.keep Kk (fun q hq=>by simp [hq])⟩
  ·have hc28:=of_decide_eq_false hc;clear hc
   have ejk:j=t.k:=by omega
   rw [ejk] at hS
   obtain ⟨K1,k1,g1,hS1⟩:=(hS.keep Kk (fun q hq=>by simp [hq])).ownKeep
   clear hS;have hS:=hS1;clear hS1
   refine cI (XF.thenX (XF.thenX (XF.blkX (XF.thenN (aE (aL (aT (o':=1) cR rfl rfl rfl (aN isAgg22 rfl (aC (hS.at_ 0 rfl) rfl) rfl (aA rfl rfl (bU (us:=[(0,.slice _ _ _)]) hS underlying22 sizeOf36 zeroValue36 rfl rfl rfl (bs_22_1 _ _ _) rfl fun B7 W7 hS=>?_))))))))))
   refine dL (i:=0) (news:=[_]) hS underlying22 inf_36 rfl rfl (by show 0 < 1;decide) rfl rfl rfl rfl rfl (aX.own (j:=0) (m:=1) (hS.at_ 0 rfl) rfl) rfl rfl (by dsimp only;simp only [maxLen];omega) (by dsimp only;show _ * 24≤_;omega) rfl fun v8 W8 hS=>?_
   obtain ⟨a9,c9,e9,_⟩:=cA (hS.row 0 rfl)
   dsimp only at e9
   subst e9
   refine aT (o':=1) cR rfl rfl rfl (bS (i:=1) (cs':=[_,_,_]) (O':=(_::_::_::_::Ot)) hS sizeOf22 rfl rfl rfl rfl rfl rfl rfl fun W9 hS=>aI (XF.thenN (aL (aT (o':=2) eR rfl rfl rfl (aN isAgg23 rfl (aC (hS.at_ 1 rfl) rfl) rfl (aA rfl rfl (bU (us:=[(0,.bool _)]) hS underlying23 sizeOf4 zeroValue4 rfl rfl rfl (uK _) rfl fun B10 W10 hS=>?_)))))))
   refine dL (i:=1) (news:=[_]) hS underlying23 inf_4 rfl rfl (by show 0 < 1;decide) rfl rfl rfl rfl rfl (aX.own (j:=0) (m:=1) (hS.at_ 0 rfl) rfl) rfl rfl (by dsimp only;simp only [maxLen];omega) (by dsimp only;show _ * 1≤_;omega) rfl fun v11 W11 hS=>?_
   obtain ⟨a8,c8,e8,_⟩:=cA (hS.row 1 rfl)
   dsimp only at e8
   subst e8
   refine aT (o':=2) eR rfl rfl rfl (bS (i:=2) (cs':=[_,_,_]) (O':=(_::_::_::_::_::Ot)) hS sizeOf23 rfl rfl rfl rfl rfl rfl rfl fun W12 hS=>aI (XF.blkN (XF.thenN (aL (bV rfl rfl (IntWalk.i64_in _ (by omega)) rfl (aA rfl rfl (aI ?_)))))))
   have hS9:=hS.tail.tail.castG (G':=(⟨.slice a9 (i+1) c9,i+1,(rs++[IV.mk (some ⟨B5,0,none⟩) t.k t.k (mM t i)]).map IV.val,36,1⟩::⟨.slice a8 (i+1) c8,i+1,bvs (t.bs.take (i+1)),4,1⟩::G)) (by rw [List.map_append,← tR (by omega),← uU];rfl)
   exact XF.round (t.n - (i+1)) [(1,_),(2,_),(3,_),(13,_),(14,_),(15,_)] (by omega) ⟨rfl,rfl,rfl,rfl,rfl,rfl,trivial⟩ ⟨i+1,_,a9,a8,c9,c8,K1,by omega,rfl,rfl,by simp [hrl],wJ hrl hrs rfl rfl,fun q hq=>k1 q (hsub q hq),fun h9 hk9 r hr=>(by
    rcases List.mem_append.1 hr with h | h
    ·exact hRH h9 (fun q hq=>hk9 q (k1 q hq)) r h
    ·rw [List.mem_singleton.1 h];exact rowI_of (g1 h9 hk9)),hS9.keep K1 (fun q hq=>by simp [hq])⟩
 ·have hc16:=of_decide_eq_false hc;clear hc
  have ein:i=t.n:=by omega
  refine cI (XF.thenX (XF.thenX (XF.blkX (XF.thenN (aE (aL (bP (vs:=[_,_,_]) isAgg25 sizeOf25 rfl (aX.own (j:=0) (m:=3) (hS.at_ 0 rfl) rfl) rfl (cL (i:=1) (vs:=[_,_,_]) (cs':=[_,_,_]) (O':=(_::_::_::Ot)) hS sizeOf25 rfl rfl rfl rfl rfl rfl rfl fun W13 hS=>aI (XF.thenN (cE (XF.res (rH (vs:=[_,_,_]) results34 isAgg25 sizeOf25 rfl (aX.own (j:=0) (m:=3) (hS.at_ 1 rfl) rfl)) ?_)))))))))))
  subst ein
  obtain ⟨K2,k2,g2,hS2⟩:=(hS.keep Kk (fun q hq=>by simp [hq])).rowKeep
  have hbt:t.bs.take t.n=t.bs:=List.take_of_length_le (by omega)
  rw [hbt] at hS2
  exact ⟨⟨(t.k:Int),va,t.n,vc,rs,wa,t.n,wc,t.bs⟩,K2,rfl,⟨rfl,rfl,rfl,hrl,hrs,rfl⟩,fun q hq=>k2 q (hsub q hq),fun h9 hk9=>⟨fun j r hr=>g2 h9 hk9 j _ (by rw [List.getElem?_map,hr];rfl),hRH h9 (fun q hq=>hk9 q (k2 q hq))⟩,hS2.tail.tail.tail⟩
theorem lD:cD prog 15=true:=by kernel_rfl
theorem qH:cD prog 32=true:=by kernel_rfl
theorem qI:cD prog 33=true:=by kernel_rfl
theorem goes_34:cD prog 34=true:=by kernel_rfl
def dFA (d:DV):FA:=⟨d.nl,d.sy.toNat,fun s x=>gN (xsT d.ns d.nl) (s * d.sy.toNat+x),fun s=>d.bs.getD s false⟩
theorem dU {d:DV} (h:cO d=0):∃ k:Nat,d.sy=(k:Int)∧k≤4096∧1≤d.nl∧d.nl≤1024∧d.al=d.nl∧d.nl * k≤65536∧∀ r∈d.ns,r.l=k∧∀ y∈r.xs,0≤y∧y < (d.nl:Int):=by
 unfold cO at h
 split at h
 ·omega
 ·rename_i h1
  split at h
  ·rename_i h2
   obtain ⟨k,hk⟩:∃ k:Nat,d.sy=(k:Int):=⟨d.sy.toNat,by omega⟩
   refine ⟨k,hk,by omega,by omega,by omega,by omega,?_,fun r hr=>?_⟩
   ·have h3:¬ 65536 < (d.nl:Int) * d.sy:=fun h9=>h1 (.inr (.inr (.inr (.inr (.inr h9)))))
    rw [hk,← Int.natCast_mul] at h3
    omega
   ·have h3:=List.all_eq_true.1 h2 r hr
    unfold kN at h3
    simp only [Bool.and_eq_true,decide_eq_true_eq] at h3
    refine ⟨by omega,fun y hy=>?_⟩
    have h4:=List.all_eq_true.1 h3.2 y hy
    simp [inQ] at h4
    omega
  ·omega
structure LeastOf (d:DV) (q:TB) (d2:DV):Prop where
 ok:TOk q
 k:(q.k:Int)=d.sy
 n:q.n≤d.nl
 ord:q.fa.Ord
 red:q.fa.Red
 eqv:Eqv q.fa 0 (dFA d) 0
 of:DOfT q d2
theorem jL (d:DV) (k:Nat) (Kt:List (Nat×World)) (Ot:Own) (G:bJ) (K:List (Nat×World)) (w0 w:World) (hS0:St w0 Ot G K w) (hKt:∀ q∈Kt,q∈K) (hI:dD w0 Kt (fun W=>oM W d.na d.ns∧(∀ r∈d.ns,Row W r.a r.xs)∧gD W d.aa d.bs)) (hsy:d.sy=(k:Int)) (hal:d.al=d.nl) (hnl:d.ns.length=d.nl) (hrl:∀ r∈d.ns,r.l=k∧r.xs.length=k) (hrv:∀ r∈d.ns,∀ y∈r.xs,0≤y∧y < (d.nl:Int)) (hbl:d.bs.length=d.nl) (h1:1≤d.nl) (h2:d.nl≤1024) (h3:k≤4096):Calls prog 32 #[d.val] w (fun e w'=>∃ (va:Option Addr) (vc:Nat) (Kn:List (Nat×World)),e = .returned (TB.mk k d.nl va vc (xsT d.ns d.nl) d.aa d.ac d.bs).val∧TOk (TB.mk k d.nl va vc (xsT d.ns d.nl) d.aa d.ac d.bs)∧(∀ q∈K,q∈Kn)∧dD w0 Kn (TAt (TB.mk k d.nl va vc (xsT d.ns d.nl) d.aa d.ac d.bs))∧St w0 Ot G Kn w'):=by
 rw [show d.val = .agg #[.int .i64 (k:Int),.slice d.na d.nl d.nc,.slice d.aa d.nl d.ac] by unfold DV.val;rw [hsy,hal]]
 exact tQ k d.na d.nl d.nc d.ns d.aa d.ac d.bs Kt Ot G K w0 w hS0 hKt hI hnl hrl hrv hbl h1 h2 h3
theorem wK (d:DV) (k:Nat) (Kt:List (Nat×World)) (Ot:Own) (G:bJ) (K:List (Nat×World)) (w0 w:World) (hS0:St w0 Ot G K w) (hKt:∀ q∈Kt,q∈K) (hD:dD w0 Kt (fun W=>DIn W d)) (hk:d.sy=(k:Int)) (he:cO d=0) :
  Calls prog 11 #[d.val] w (fun e w'=>∃ (q:TB) (d2:DV) (Kn:List (Nat×World)),e = .returned (.tuple #[d2.val,.int .i64 0])∧LeastOf d q d2∧(∀ q∈K,q∈Kn)∧dD w0 Kn (DRo d2)∧St w0 Ot (⟨.slice d2.aa q.n d2.ac,q.n,bvs q.bs,4,1⟩::G) Kn w'):=by
 refine cP (args:=[d.val]) func11 rfl ntmps11 rfl ?_
 have hS:=hS0
 obtain ⟨k9,hk9,h1,h2,h3,h4,h5,h6⟩:=dU he
 obtain rfl:k=k9:=by omega
 refine aE (aL (dA (cs:=[_,_,_]) hS rfl rfl rfl fun B1 W1 hS=>cV (cs:=[_,_,_]) hS zeroValue25 rfl rfl fun B2 W2 hS=>aB rfl rfl (aI (XF.thenN (aE (aE (aL (bP (vs:=[_,_,_]) isAgg25 sizeOf25 rfl (aX.own (j:=0) (m:=3) (hS.at_ 1 rfl) rfl) rfl (bZ (vs:=[_]) lD rfl (lA d _ (hD (hS.keep K (fun q hq=>by simp [hq])) hKt)) rfl ?_)))))))))
 rintro e W9 ⟨rfl,hb9⟩
 refine ⟨_,rfl,?_⟩
 have hS':=hS.grow hb9;clear hS;have hS:=hS';clear hS'
 refine aB rfl rfl (aI (XF.thenN (aE (aL (aA rfl rfl (fN rfl rfl rfl (aI (XF.thenN ?_))))))))
 refine bR rfl (fun hc=>absurd (of_decide_eq_true hc) (by rw [he];decide)) (fun hc=>?_)
 have hc:=of_decide_eq_false hc
 refine bT (XF.thenN (aE ?_))
 have hDI:=hD (hS.keep K (fun q hq=>by simp [hq])) hKt
 refine aL (bP (vs:=[_,_,_]) isAgg25 sizeOf25 rfl (aX.own (j:=0) (m:=3) (hS.at_ 1 rfl) rfl) rfl ?_)
 refine bZ (vs:=[_]) qH rfl (jL d k Kt _ _ K w0 _ (hS.keep K (fun q hq=>by simp [hq])) hKt (fun h9 hk8=>⟨(hD h9 hk8).nrow,fun r hr=>((hD h9 hk8).rin r hr).1,(hD h9 hk8).arow⟩) hk h4 hDI.nlen (fun r hr=>⟨(h6 r hr).1,by have:=(hDI.rin r hr).2.1;have:=(h6 r hr).1;omega⟩) (fun r hr=>(h6 r hr).2) (by have:=hDI.alen;omega) h2 h3 h1) rfl ?_
 rintro e W9 ⟨va,vc,K1,rfl,hTO,k1,hTA,hS9⟩
 refine ⟨_,rfl,?_⟩
 clear hS;have hS:=hS9;clear hS9
 refine bZ (vs:=[_,_]) qI rfl (lU _ 1024 K1 _ _ K1 w0 _ hS hTO (fun q hq=>hq) hTA h3) rfl ?_
 rintro e W9 ⟨q,K2,rfl,hqk,hqn,hqT,hqo,hqr,hqe,k2,hqB,hS9⟩
 refine ⟨_,rfl,?_⟩
 clear hS;have hS:=hS9;clear hS9
 refine aA rfl rfl (bC rfl rfl rfl (bC rfl rfl rfl (cV (cs:=[_,_,_]) hS zeroValue61 rfl rfl fun B3 W3 hS=>cL (i:=0) (vs:=[_,_,_]) (cs':=[_,_,_]) (O':=(_::_::_::Ot)) hS sizeOf61 rfl rfl rfl rfl rfl rfl rfl fun W4 hS=>aB rfl rfl (aI (XF.thenN (aE (aL (bP (vs:=[_,_,_]) isAgg61 sizeOf61 rfl (aX.own (j:=0) (m:=3) (hS.at_ 0 rfl) rfl) rfl (bZ (vs:=[_]) goes_34 rfl (yT q K2 _ _ K2 w0 _ (hS.keep K2 (fun q hq=>by simp [hq])) hqT (fun q hq=>hq) hqB) rfl ?_)))))))))
 rintro e W9 ⟨d2,K3,rfl,hd2,k3,hdR,hS9⟩
 refine ⟨_,rfl,?_⟩
 clear hS;have hS:=hS9;clear hS9
 refine cL (i:=1) (vs:=[_,_,_]) (cs':=[_,_,_]) (O':=(_::_::_::Ot)) hS sizeOf25 rfl rfl rfl rfl rfl rfl rfl fun W5 hS=>aB rfl rfl (aI (XF.thenN (cE (XF.res (wY (vs:=[_,_,_]) results11 isAgg25 sizeOf25 rfl (aX.own (j:=0) (m:=3) (hS.at_ 1 rfl) rfl) rfl) ?_))))
 exact ⟨q,d2,K3,rfl,⟨hqT,by rw [hqk,hk],hqn,hqo,hqr,by rw [show dFA d=(TB.mk k d.nl va vc (xsT d.ns d.nl) d.aa d.ac d.bs).fa by unfold dFA TB.fa;rw [hk];rfl];exact hqe,hd2⟩,fun z hz=>k3 z (k2 z (k1 z hz)),hdR,(hS.keep K3 (fun q hq=>by simp [hq])).tail.tail.tail⟩
theorem goes_11:cD prog 11=true:=by kernel_rfl
theorem yU {α:Type} {l m:List α} {i:Nat} {x y:α} (h:l.take i=m.take i) (hx:l[i]?=some x) (hy:m[i]?=some y) (e:x=y):l.take (i+1)=m.take (i+1):=by
 rw [List.take_add_one,List.take_add_one,h,hx,hy,e]
theorem gD.at9 {W:World} {aa:Option Addr} {bs:List Bool} {i:Nat} (h:gD W aa bs) (hi:i < bs.length):∃ b off y,aa=some ⟨b,off,none⟩∧bs[i]?=some y∧W.cell? ⟨b,off+i * 1,none⟩=some (.bool y):=by
 obtain ⟨b,off,e,hc⟩:=h i _ (List.getElem?_eq_getElem hi)
 exact ⟨b,off,_,e,List.getElem?_eq_getElem hi,hc⟩
def lW (d:DV):Bool:=decide (d.nl≤24) && (decide (d.al≤24) && d.ns.all (fun r=>decide (r.l≤6)))
theorem yV (sy:Int) (na:Option Addr) (nl nc:Nat) (ns:List IV) (aa:Option Addr) (al ac:Nat) (bs:List Bool) (w:World) (hnr:oM w na ns) (hnl:ns.length=nl) (hri:∀ r∈ns,r.l≤9223372036854775807) (hnm:nl≤9223372036854775807) (ham:al≤9223372036854775807) :
  Calls prog 9 #[.agg #[.int .i64 sy,.slice na nl nc,.slice aa al ac]] w (fun e w'=>e = .returned (.bool (lW ⟨sy,na,nl,nc,ns,aa,al,ac,bs⟩))∧Below w.heap.size w w'):=by
 refine cP (args:=[.agg #[.int .i64 sy,.slice na nl nc,.slice aa al ac]]) func9 rfl ntmps9 rfl ?_
 have hS:=St.start w
 refine aE (aL (dA (cs:=[_,_,_]) hS rfl rfl rfl fun B1 W1 hS=>aB rfl rfl (aI (XF.thenN (aE (aE (aL (aT (o':=1) cR rfl rfl rfl (aN isAgg22 rfl (aC (hS.at_ 0 rfl) rfl) rfl (bQ underlying22 rfl rfl (eT rfl rfl rfl (aA rfl rfl (bO (d:=8) rfl (fun hc=>?_) (fun hc=>?_))))))))))))))
 ·have hg8:=of_decide_eq_true hc;clear hc
  refine aP (d:=8) rfl rfl rfl rfl (aP (d:=8) rfl rfl rfl rfl (aP (d:=8) rfl rfl rfl rfl (aP (d:=8) rfl rfl rfl rfl (bD rfl rfl rfl (aI (XF.thenN (fA rfl (aE (aL (aB rfl rfl (aI (XF.thenN (cE (XF.thenR (XF.res (dG results9 rfl) ?_)))))))))))))))
  exact ⟨uJ (by unfold lW;dsimp only;rw [decide_eq_false (show ¬ nl≤24 by omega)];rfl),hS.below⟩
 ·have hg8:=of_decide_eq_false hc;clear hc
  refine aD (d:=8) rfl rfl (aT (o':=2) eR rfl rfl rfl (aD (d:=8) rfl rfl (aN isAgg23 rfl (aC (hS.at_ 0 rfl) rfl) rfl (aD (d:=8) rfl rfl (bQ underlying23 rfl rfl (aD (d:=8) rfl rfl (eT rfl rfl rfl (cY rfl rfl rfl (aI (XF.thenN (bR rfl (fun hc=>?_) (fun hc=>?_))))))))))))
  ·have hc13:=of_decide_eq_true hc;clear hc
   refine aE (aL (aB rfl rfl (aI (XF.thenN (cE (XF.thenR (XF.res (dG results9 rfl) ?_)))))))
   exact ⟨uJ (by unfold lW;dsimp only;rw [decide_eq_false (show ¬ al≤24 by omega),Bool.false_and,Bool.and_false]),hS.below⟩
  ·have hc13:=of_decide_eq_false hc;clear hc
   refine bT (XF.thenN (aE (aE (aL (aB rfl rfl (aI (XF.thenN (bE (cJ (fun m l W=>∃ i:Nat,i≤nl∧m=nl - i∧l=[(1,.pointer (some ⟨B1,0,none⟩)),(3,.int .i64 (i:Int))]∧(ns.take i).all (fun r=>decide (r.l≤6))=true∧St w [(B1,[.int .i64 sy,.slice na nl nc,.slice aa al ac],25)] [] [] W) (nl - 0) ([(1,_),(3,_)]) ⟨rfl,rfl,trivial⟩ (⟨0,Nat.zero_le _,rfl,rfl,rfl,hS.clear⟩) ?_)))))))))
   clear hS
   rintro m l W ⟨i,hi,rfl,rfl,hall,hS⟩
   refine aE (aE (aL (aA rfl rfl (aT (o':=1) cR rfl rfl rfl (aN isAgg22 rfl (aC (hS.at_ 0 rfl) rfl) rfl (bQ underlying22 rfl rfl (bW rfl rfl rfl (aI (XF.thenN (bR rfl (fun hc=>?_) (fun hc=>?_)))))))))))
   ·have hc18:=of_decide_eq_true hc;clear hc
    obtain ⟨⟨ra,rl,rc,xs⟩,hr⟩:∃ r,ns[i]?=some r:=⟨_,List.getElem?_eq_getElem (by omega)⟩
    obtain ⟨c1,o1,rfl,hcs⟩:=hnr i _ hr
    have hcs:w.cell? ⟨c1,o1+i * 1,none⟩=some (.slice ra rl rc):=hcs
    have k1:=hS.old hcs
    refine bT (XF.thenN (aE (bE (aE (aL (aT (o':=1) cR rfl rfl rfl (aN isAgg22 rfl (aC (hS.at_ 0 rfl) rfl) rfl (aA rfl rfl (aQ  underlying22 sizeOf36 rfl rfl rfl (by omega) rfl rfl (aN isAgg36 rfl (k1) rfl (bQ underlying36 rfl rfl (eT rfl rfl rfl (aI (XF.thenN (bR rfl (fun hc=>?_) (fun hc=>?_))))))))))))))))
    ·have hc27:=of_decide_eq_true hc;clear hc
     refine aE (aL (aB rfl rfl (aI (XF.thenN (cE (XF.blkR (XF.thenR (XF.thenR (XF.blkR (XF.thenR (XF.res (dG results9 rfl) ?_)))))))))))
     exact ⟨uJ (by unfold lW;dsimp only;rw [cH hr (decide_eq_false (by show ¬ rl≤6;omega)),Bool.and_false,Bool.and_false]),hS.below⟩
    ·have hc27:=of_decide_eq_false hc;clear hc
     refine bT (XF.blkN (XF.thenN (aL (aA rfl rfl (bV rfl rfl (IntWalk.i64_in _ (by omega)) rfl (aB rfl rfl (aI ?_)))))))
     exact XF.round (nl - (i+1)) [(1,_),(3,_)] (by omega) ⟨rfl,rfl,trivial⟩ ⟨i+1,by omega,rfl,rfl,eD hr hall (decide_eq_true (by show rl≤6;omega)),hS.clear⟩
   ·have hc18:=of_decide_eq_false hc;clear hc
    refine cI (XF.thenX (XF.thenX (XF.blkX (XF.thenN (aE (aL (aB rfl rfl (aI (XF.thenN (cE (XF.res (dG results9 rfl) ?_)))))))))))
    rw [List.take_of_length_le (by omega)] at hall
    exact ⟨uJ (by unfold lW;dsimp only;rw [hall,decide_eq_true (show nl≤24 by omega),decide_eq_true (show al≤24 by omega)];rfl),hS.below⟩
theorem wL (d:DV) (w:World) (h:DIn w d):Calls prog 9 #[d.val] w (fun e w2=>e = .returned (.bool (lW d))∧Below w.heap.size w w2):=yV _ _ _ _ _ _ _ _ d.bs w h.nrow h.nlen (fun r hr=>(h.rin r hr).2.2) h.nmax h.amax
def nxD (d:DV) (s:Nat) (a:Int):Nat:=(((d.ns[s]?).getD ⟨none,0,0,[]⟩).xs.getD a.toNat 0).toNat
def stD (d:DV) (us:List Int):Nat:=us.foldl (nxD d) 0
def oN (d:DV) (us:List Int):Int×Bool×Int:=if cO d≠0 then (0,false,cO d) else if us.all (fun y=>inQ y d.sy)=true then ((stD d us:Nat),d.bs.getD (stD d us) false,0) else (0,false,5)
def runV (r:Int×Bool×Int):Value:=.tuple #[.int .i64 r.1,.bool r.2.1,.int .i64 r.2.2]
theorem sL {d:DV} {us:List Int} {i:Nat} {y:Int} (h:us[i]?=some y):stD d (us.take (i+1))=nxD d (stD d (us.take i)) y:=by
 unfold stD;rw [List.take_add_one,h,List.foldl_append];rfl
theorem yW {d:DV} {s:Nat} {r:IV} {a:Int} {z:Int} (hr:d.ns[s]?=some r) (ha:r.xs[a.toNat]?=some z):nxD d s a=z.toNat:=by
 unfold nxD;rw [hr];show (r.xs.getD a.toNat 0).toNat=_
 rw [List.getD_eq_getElem?_getD,ha];rfl
theorem sM (d:DV) (ua:Option Addr) (ul uc:Nat) (us:List Int) (w:World) (hd:DIn w d) (hu:Row w ua us) (hul:us.length=ul) (hum:ul≤9223372036854775807) :
  Calls prog 19 #[d.val,.slice ua ul uc] w (fun e w'=>e = .returned (runV (oN d us))∧Below w.heap.size w w'):=by
 refine cP (args:=[d.val,.slice ua ul uc]) func19 rfl ntmps19 rfl ?_
 have hS:=St.start w
 refine aE (aL (dA (cs:=[_,_,_]) hS rfl rfl rfl fun B1 W1 hS=>aB rfl rfl (aB rfl rfl (aB rfl rfl (aI (XF.thenN (aE (aE (aL (bP (vs:=[_,_,_]) isAgg25 sizeOf25 rfl (aX.own (j:=0) (m:=3) (hS.at_ 0 rfl) rfl) rfl (cW (vs:=[_]) hS lD rfl (lA d _ (hd.below hS.below)) rfl fun W2 hS=>aB rfl rfl (aI (XF.thenN (aE (aL (aA rfl rfl (fN rfl rfl rfl (aI (XF.thenN (bR rfl (fun hc=>?_) (fun hc=>?_)))))))))))))))))))))
 ·have hc16:=of_decide_eq_true hc;clear hc
  refine aE (aL (aA rfl rfl (aB rfl rfl (aB rfl rfl (aB rfl rfl (aI (XF.thenN (cE (XF.thenR (XF.res (mK results19 rfl rfl rfl) ?_))))))))))
  exact ⟨by rw [show oN d us=_ from if_pos hc16];rfl,hS.below⟩
 ·have hc16:=of_decide_eq_false hc;clear hc
  have he:cO d=0:=Decidable.of_not_not hc16
  obtain ⟨k,hk,h1,h2,h3,h4,h5,h6⟩:=dU he
  refine bT (XF.thenN (aE (aE (aL (aA rfl rfl (bQ underlying36 rfl rfl (aA rfl rfl (aI (XF.thenN (bE (cJ (fun m l W=>∃ i:Nat,i≤ul∧m=ul - i∧l=[(1,.slice ua ul uc),(2,.pointer (some ⟨B1,0,none⟩)),(18,.slice ua ul uc),(19,.int .i64 (ul:Int)),(20,.int .i64 (i:Int))]∧(us.take i).all (fun y=>inQ y d.sy)=true∧St w [(B1,[.int .i64 d.sy,.slice d.na d.nl d.nc,.slice d.aa d.al d.ac],25)] [] [] W) (ul - 0) ([(1,_),(2,_),(18,_),(19,_),(20,_)]) ⟨rfl,rfl,rfl,rfl,rfl,trivial⟩ (⟨0,Nat.zero_le _,rfl,rfl,rfl,hS.clear⟩) ?_)))))))))))
  clear hS
  rintro m l W ⟨i,hi,rfl,rfl,hall,hS⟩
  refine aE (aL (bW rfl rfl rfl (aI (XF.thenN (aE (bR rfl (fun hc=>?_) (fun hc=>?_)))))))
  ·have hc21:=of_decide_eq_true hc;clear hc
   obtain ⟨b5,o5,y,rfl,hy,hyc⟩:=hu.at1 (i:=i) (by omega)
   have k1:=hS.old hyc
   refine bT (XF.thenN (aE (bE (aE (aL (aQ  underlying36 sizeOf3 rfl rfl rfl (by omega) rfl rfl (aN isAgg3 rfl (k1) rfl (aB rfl rfl (aI (XF.thenN (aE (aL (aA rfl rfl (bW rfl rfl rfl (aA rfl rfl (bO (d:=26) rfl (fun hc=>?_) (fun hc=>?_)))))))))))))))))
   ·have hg26:=of_decide_eq_true hc;clear hc
    refine aP (d:=26) rfl rfl rfl rfl (aP (d:=26) rfl rfl rfl rfl (aP (d:=26) rfl rfl rfl rfl (aP (d:=26) rfl rfl rfl rfl (bD rfl rfl rfl (aI (XF.thenN (fA rfl (aE (aL (aB rfl rfl (aB rfl rfl (aB rfl rfl (aI (XF.thenN (cE (XF.blkR (XF.thenR (XF.thenR (XF.blkR (XF.thenR (XF.res (mK results19 rfl rfl rfl) ?_)))))))))))))))))))))
    exact ⟨by rw [show oN d us=_ from (if_neg hc16).trans (if_neg (by rw [cH hy (by simp [inQ];omega)];decide))];rfl,hS.below⟩
   ·have hg26:=of_decide_eq_false hc;clear hc
    refine aD (d:=26) rfl rfl (aA rfl rfl (aD (d:=26) rfl rfl (aT (o':=0) dZ rfl rfl rfl (aD (d:=26) rfl rfl (aN isAgg3 rfl (aC (hS.at_ 0 rfl) rfl) rfl (aD (d:=26) rfl rfl (nA rfl rfl rfl (cY rfl rfl rfl (aI (XF.thenN (bR rfl (fun hc=>?_) (fun hc=>?_))))))))))))
    ·have hc31:=of_decide_eq_true hc;clear hc
     refine aE (aL (aB rfl rfl (aB rfl rfl (aB rfl rfl (aI (XF.thenN (cE (XF.blkR (XF.thenR (XF.thenR (XF.blkR (XF.thenR (XF.res (mK results19 rfl rfl rfl) ?_)))))))))))))
     exact ⟨by rw [show oN d us=_ from (if_neg hc16).trans (if_neg (by rw [cH hy (by simp [inQ];omega)];decide))];rfl,hS.below⟩
    ·have hc31:=of_decide_eq_false hc;clear hc
     refine bT (XF.blkN (XF.thenN (aL (bV rfl rfl (IntWalk.i64_in _ (by omega)) rfl (aA rfl rfl (aI ?_))))))
     exact XF.round (ul - (i+1)) [(1,_),(2,_),(18,_),(19,_),(20,_)] (by omega) ⟨rfl,rfl,rfl,rfl,rfl,trivial⟩ ⟨i+1,by omega,rfl,rfl,eD hy hall (by simp [inQ];omega),hS.clear⟩
  ·have hc21:=of_decide_eq_false hc;clear hc
   rw [List.take_of_length_le (by omega)] at hall
   refine cI (XF.thenX (XF.thenX (XF.blkX (XF.thenN (aE (aL (aB rfl rfl (aI (XF.thenN (aE (aE (aL (aA rfl rfl (bQ underlying36 rfl rfl (aA rfl rfl (aI (XF.thenN (bE ?_))))))))))))))))))
   refine cJ (fun m l W=>∃ i:Nat,i≤ul∧m=ul - i∧l=[(2,.pointer (some ⟨B1,0,none⟩)),(10,.int .i64 ((stD d (us.take i):Nat):Int)),(33,.slice ua ul uc),(34,.int .i64 (ul:Int)),(35,.int .i64 (i:Int))]∧stD d (us.take i) < d.nl∧St w [(B1,[.int .i64 d.sy,.slice d.na d.nl d.nc,.slice d.aa d.al d.ac],25)] [] [] W) (ul - 0) ([(2,_),(10,_),(33,_),(34,_),(35,_)]) ⟨rfl,rfl,rfl,rfl,rfl,trivial⟩ (⟨0,Nat.zero_le _,rfl,rfl,by show 0 < d.nl;omega,hS.clear⟩) ?_
   clear hS
   rintro m l W ⟨i,hi,rfl,rfl,hlt,hS⟩
   refine aE (aL (bW rfl rfl rfl (aI (XF.thenN (aE (bR rfl (fun hc=>?_) (fun hc=>?_)))))))
   ·have hc36:=of_decide_eq_true hc;clear hc
    obtain ⟨b5,o5,y,rfl,hy,hyc⟩:=hu.at1 (i:=i) (by omega)
    have k1:=hS.old hyc
    have hyq:=List.all_eq_true.1 hall y (List.mem_of_getElem? hy)
    simp [inQ] at hyq
    obtain ⟨r,hr⟩:∃ r,d.ns[stD d (us.take i)]?=some r:=⟨_,List.getElem?_eq_getElem (by rw [hd.nlen];exact hlt)⟩
    obtain ⟨c1,o1,hna,hcs⟩:=hd.nrow _ r hr
    have hrm:=List.mem_of_getElem? hr
    obtain ⟨hrr,hrl,_⟩:=hd.rin r hrm
    obtain ⟨hr6,hr7⟩:=h6 r hrm
    obtain ⟨d1,g1,z,hra,hz,hzc⟩:=hrr.at1 (i:=y.toNat) (by omega)
    have k2:=hS.old hcs
    have k3:=hS.old hzc
    have hzv:=hr7 z (List.mem_of_getElem? hz)
    have hnx:=yW hr hz
    refine bT (XF.thenN (aE (bE (aE (aL (aQ  underlying36 sizeOf3 rfl rfl rfl (by omega) rfl rfl (aN isAgg3 rfl (k1) rfl (aB rfl rfl (aI (XF.thenN (aL (aT (o':=1) cR rfl rfl rfl (aN isAgg22 rfl (aC (hS.at_ 0 rfl) rfl) rfl (aA rfl rfl ?_))))))))))))))
    refine aQ (j:=stD d (us.take i)) (b:=c1) (o:=o1) (m:=d.nl) (c:=d.nc) underlying22 sizeOf36 (by show some (Value.slice d.na _ _)=_;rw [hna]) rfl rfl hlt rfl rfl ?_
    refine aN isAgg36 rfl (k2) rfl (aA rfl rfl ?_)
    refine aQ (j:=y.toNat) (b:=d1) (o:=g1) (m:=r.l) (c:=r.c) underlying36 sizeOf3 (by show some (Value.slice r.a _ _)=_;rw [hra]) rfl (by omega) (by omega) rfl rfl ?_
    refine aN isAgg3 rfl (k3) rfl (aB rfl rfl (aI (XF.blkN (XF.thenN (aL (bV rfl rfl (IntWalk.i64_in _ (by omega)) rfl (aA rfl rfl (aI ?_))))))))
    have hst:stD d (us.take (i+1))=z.toNat:=(sL hy).trans hnx
    exact XF.round (ul - (i+1)) [(2,.pointer (some ⟨B1,0,none⟩)),(10,.int .i64 ((stD d (us.take (i+1)):Nat):Int)),(33,.slice (some ⟨b5,o5,none⟩) ul uc),(34,.int .i64 (ul:Int)),(35,.int .i64 ((i+1:Nat):Int))] (by omega) ⟨rfl,by show _=some (Value.int .i64 ((stD d (us.take (i+1)):Nat):Int));rw [hst,Int.toNat_of_nonneg hzv.1];rfl,rfl,rfl,rfl,trivial⟩ ⟨i+1,by omega,rfl,rfl,by rw [hst];omega,hS.clear⟩
   ·have hc36:=of_decide_eq_false hc;clear hc
    rw [List.take_of_length_le (show us.length≤i by omega)] at hlt ⊢
    obtain ⟨b5,o5,y,hba,hy,hyc⟩:=gD.at9 hd.arow (i:=stD d us) (by rw [hd.alen,h4];exact hlt)
    have k1:=hS.old hyc
    refine cI (XF.thenX (XF.thenX (XF.blkX (XF.thenN (aE (kS (m:=9) cC hS (by kernel_rfl) (by kernel_rfl) rfl (bY 1 rfl 10 rfl rfl (fun w hw=>aU rfl) rfl (bY 2 rfl 2 rfl rfl (fun w hw=>bG (o':=2) eR rfl rfl) rfl (bL 3 rfl 49 1 rfl rfl rfl (fun w hw=>bB isAgg23 rfl ((aR hw 0).cell (Nat.zero_le _) (aC (hS.at_ 0 rfl) rfl))) rfl (bY 4 rfl 10 rfl rfl (fun w hw=>aU rfl) rfl ?_))))))))))
    refine bH 5 rfl (isV _) (aZ _) (rgV (li:=[(50,_),(51,_)]) rfl (aK rfl) ⟨aJ 2 (aG rfl rfl rfl),aJ 3 (aG rfl rfl rfl),trivial⟩ (fun w hw=>bM (j:=stD d us) (b:=b5) (o:=o5) (m:=d.al) (c:=d.ac) underlying23 sizeOf4 (by show some (Value.slice d.aa _ _)=_;rw [hba]) rfl rfl (by omega) rfl) (aH rfl)) ?_
    refine bL 6 rfl 52 4 rfl rfl rfl (fun w hw=>bB isAgg4 rfl ((aR hw 0).cell (Nat.zero_le _) (k1))) rfl (bL 7 rfl 48 0 rfl rfl rfl (fun w hw=>dC rfl) rfl (bL 8 rfl 53 5 rfl rfl rfl (fun w hw=>dC rfl) rfl (bH 9 rfl (isV _) (aZ _) (rgV (li:=[]) rfl (aK rfl) trivial (fun w hw=>dC rfl) (aH rfl)) (dT ?_))))
    intro W3 hbR hS'
    clear hS;have hS:=hS';clear hS'
    refine aO (aO (aO (aO (aO (aO (aO (aO (aO (cG (XF.thenN (cE (XF.res (mK results19 rfl rfl rfl) ?_))))))))))))
    have hyb:d.bs.getD (stD d us) false=y:=by rw [List.getD_eq_getElem?_getD,hy];rfl
    exact ⟨by rw [show oN d us=_ from (if_neg hc16).trans (if_pos hall),hyb];rfl,hS.below⟩
theorem qJ:cD prog 16=true:=by kernel_rfl
theorem sN (d:DV) (ua:Option Addr) (ul uc:Nat) (us:List Int) (w:World) (hd:DIn w d) (hu:Row w ua us) (hul:us.length=ul) (hum:ul≤9223372036854775807) :
  Calls prog 20 #[d.val,.slice ua ul uc] w (fun e w'=>e = .returned (runV (oN d us))∧Below w.heap.size w w'):=by
 refine cP (args:=[d.val,.slice ua ul uc]) func20 rfl ntmps20 rfl ?_
 have hS:=St.start w
 refine aE (aL (dA (cs:=[_,_,_]) hS rfl rfl rfl fun B1 W1 hS=>aB rfl rfl (aB rfl rfl (aB rfl rfl (aI (XF.thenN (aE (aL (bP (vs:=[_,_,_]) isAgg25 sizeOf25 rfl (aX.own (j:=0) (m:=3) (hS.at_ 0 rfl) rfl) rfl (cW (vs:=[_]) hS qJ rfl (pY d _ (hd.below hS.below)) rfl fun W2 hS=>aB rfl rfl (aI (XF.thenN (aE (aE (aL (aA rfl rfl (fN rfl rfl rfl (aI (XF.thenN (bR rfl (fun hc=>?_) (fun hc=>?_)))))))))))))))))))))
 ·have hc14:=of_decide_eq_true hc;clear hc
  refine aE (aL (aA rfl rfl (aB rfl rfl (aB rfl rfl (aB rfl rfl (aI (XF.thenN (cE (XF.thenR (XF.res (mK results20 rfl rfl rfl) ?_))))))))))
  exact ⟨by rw [show oN d us=_ from if_pos hc14];rfl,hS.below⟩
 ·have hc14:=of_decide_eq_false hc;clear hc
  have he:cO d=0:=Decidable.of_not_not hc14
  obtain ⟨k,hk,h1,h2,h3,h4,h5,h6⟩:=dU he
  refine bT (XF.thenN (aE (aE (aL (aB rfl rfl (aI (XF.thenN (bE (cJ (fun m l W=>∃ i:Nat,i≤ul∧m=ul - i∧l=[(1,.slice ua ul uc),(2,.pointer (some ⟨B1,0,none⟩)),(8,.int .i64 (i:Int))]∧(us.take i).all (fun y=>inQ y d.sy)=true∧St w [(B1,[.int .i64 d.sy,.slice d.na d.nl d.nc,.slice d.aa d.al d.ac],25)] [] [] W) (ul - 0) ([(1,_),(2,_),(8,_)]) ⟨rfl,rfl,rfl,trivial⟩ (⟨0,Nat.zero_le _,rfl,rfl,rfl,hS.clear⟩) ?_)))))))))
  clear hS
  rintro m l W ⟨i,hi,rfl,rfl,hall,hS⟩
  refine aE (aE (aL (aA rfl rfl (aA rfl rfl (bQ underlying36 rfl rfl (bW rfl rfl rfl (aI (XF.thenN (bR rfl (fun hc=>?_) (fun hc=>?_))))))))))
  ·have hc19:=of_decide_eq_true hc;clear hc
   obtain ⟨b5,o5,y,rfl,hy,hyc⟩:=hu.at1 (i:=i) (by omega)
   have k1:=hS.old hyc
   refine bT (XF.thenN (aE (bE (aE ?_))))
   rcases (by omega:y < 0∨0≤y) with hy0 | hy0
   ·skip
    refine kS (m:=14) cC hS (by kernel_rfl) (by kernel_rfl) rfl (bY 1 rfl 1 rfl rfl (fun w hw=>aU rfl) rfl (bY 2 rfl 8 rfl rfl (fun w hw=>aU rfl) rfl (bH 3 rfl (isV _) (aZ _) (rgV (li:=[(22,_),(23,_)]) rfl (aK rfl) ⟨aJ 0 (aG rfl rfl rfl),aJ 1 (aG rfl rfl rfl),trivial⟩ (fun w hw=>bM  underlying36 sizeOf3 rfl rfl rfl (by omega) rfl) (aH rfl)) (bL 4 rfl 24 2 rfl rfl rfl (fun w hw=>bB isAgg3 rfl ((aR hw 0).cell (Nat.zero_le _) (k1))) rfl (bH 5 rfl (isV (.bool true)) (aZ _) (vT (li:=[(25,_)]) rfl (aK rfl) ⟨aJ 3 (aG rfl rfl rfl),trivial⟩ (fun w hw=>sV rfl rfl) (by rw [decide_eq_true hy0]) (aH rfl)) (bL 6 rfl 26 4 rfl rfl rfl (fun w hw=>aU rfl) rfl (bH 7 rfl (isV undef) (aZ _) (nC rfl (nD 27 rfl (aG rfl rfl rfl) rfl) (aH rfl)) (bH 8 rfl (isV undef) (aZ _) (nC rfl (nD 27 rfl (aG rfl rfl rfl) rfl) (aH rfl)) (bH 9 rfl (isV undef) (aZ _) (nC rfl (nD 27 rfl (aG rfl rfl rfl) rfl) (aH rfl)) (bH 10 rfl (isV undef) (aZ _) (nC rfl (nD 27 rfl (aG rfl rfl rfl) rfl) (aH rfl)) (bH 11 rfl (isV undef) (aZ _) (nC rfl (nD 27 rfl (aG rfl rfl rfl) rfl) (aH rfl)) (bH 12 rfl (isV undef) (aZ _) (nC rfl (nD 27 rfl (aG rfl rfl rfl) rfl) (aH rfl)) (bH 13 rfl (isV undef) (aZ _) (nC rfl (nD 27 rfl (aG rfl rfl rfl) rfl) (aH rfl)) (bL 14 rfl 27 5 rfl rfl rfl (fun w hw=>rF rfl rfl) rfl (dT ?_)))))))))))))))
    intro W3 hbR hS'
    clear hS;have hS:=hS';clear hS'
    refine aO (aO (aO (aO (aO (aO (aO (aO (aO (aO (aO (aO (aO (aO (cG (XF.thenN (fA rfl (aE (aL (aB rfl rfl (aB rfl rfl (aB rfl rfl (aI (XF.thenN (cE (XF.blkR (XF.thenR (XF.thenR (XF.blkR (XF.thenR (XF.res (mK results20 rfl rfl rfl) ?_))))))))))))))))))))))))))))))
    exact ⟨by rw [show oN d us=_ from (if_neg hc14).trans (if_neg (by rw [cH hy (by simp [inQ];omega)];decide))];rfl,hS.below⟩
   ·skip
    refine kS (m:=14) cC hS (by kernel_rfl) (by kernel_rfl) rfl (bY 1 rfl 1 rfl rfl (fun w hw=>aU rfl) rfl (bY 2 rfl 8 rfl rfl (fun w hw=>aU rfl) rfl (bH 3 rfl (isV _) (aZ _) (rgV (li:=[(22,_),(23,_)]) rfl (aK rfl) ⟨aJ 0 (aG rfl rfl rfl),aJ 1 (aG rfl rfl rfl),trivial⟩ (fun w hw=>bM  underlying36 sizeOf3 rfl rfl rfl (by omega) rfl) (aH rfl)) (bL 4 rfl 24 2 rfl rfl rfl (fun w hw=>bB isAgg3 rfl ((aR hw 0).cell (Nat.zero_le _) (k1))) rfl (bH 5 rfl (isV (.bool false)) (aZ _) (vT (li:=[(25,_)]) rfl (aK rfl) ⟨aJ 3 (aG rfl rfl rfl),trivial⟩ (fun w hw=>sV rfl rfl) (by rw [decide_eq_false (by omega)]) (aH rfl)) (bL 6 rfl 26 4 rfl rfl rfl (fun w hw=>aU rfl) rfl (bH 7 rfl (isV _) (aZ _) (rgV (li:=[(1,_)]) rfl (kI 27 rfl (aG rfl rfl rfl)) ⟨cB rfl,trivial⟩ (fun w hw=>aU rfl) (aH rfl)) (bH 8 rfl (isV _) (aZ _) (rgV (li:=[(8,_)]) rfl (kI 27 rfl (aG rfl rfl rfl)) ⟨cB rfl,trivial⟩ (fun w hw=>aU rfl) (aH rfl)) (bH 9 rfl (isV _) (aZ _) (rgV (li:=[(28,_),(29,_)]) rfl (kI 27 rfl (aG rfl rfl rfl)) ⟨aJ 6 (aG rfl rfl rfl),aJ 7 (aG rfl rfl rfl),trivial⟩ (fun w hw=>bM  underlying36 sizeOf3 rfl rfl rfl (by omega) rfl) (aH rfl)) (bH 10 rfl (isV _) (aZ _) (rgV (li:=[(30,_)]) rfl (kI 27 rfl (aG rfl rfl rfl)) ⟨aJ 8 (aG rfl rfl rfl),trivial⟩ (fun w hw=>bB isAgg3 rfl ((aR hw 0).cell (Nat.zero_le _) (k1))) (aH rfl)) (bH 11 rfl (isV _) (aZ _) (rgV (li:=[(2,_)]) rfl (kI 27 rfl (aG rfl rfl rfl)) ⟨cB rfl,trivial⟩ (fun w hw=>bG (o':=0) dZ rfl rfl) (aH rfl)) (bH 12 rfl (isV _) (aZ _) (rgV (li:=[(32,_)]) rfl (kI 27 rfl (aG rfl rfl rfl)) ⟨aJ 10 (aG rfl rfl rfl),trivial⟩ (fun w hw=>bB isAgg3 rfl ((aR hw 0).cell (Nat.zero_le _) (aC (hS.at_ 0 rfl) rfl))) (aH rfl)) (bH 13 rfl (isV _) (aZ _) (rgV (li:=[(31,_),(33,_)]) rfl (kI 27 rfl (aG rfl rfl rfl)) ⟨aJ 9 (aG rfl rfl rfl),aJ 11 (aG rfl rfl rfl),trivial⟩ (fun w hw=>wV rfl rfl) (aH rfl)) (bH 14 rfl (isV _) (aZ _) (rgV (li:=[(27,_),(34,_)]) rfl (aK rfl) ⟨aJ 5 (aG rfl rfl rfl),aJ 12 (aG rfl rfl rfl),trivial⟩ (fun w hw=>rG rfl rfl) (aH rfl)) (dT ?_)))))))))))))))
    intro W4 hbR hS'
    clear hS;have hS:=hS';clear hS'
    refine aO (aO (aO (aO (aO (aO (aO (aO (aO (aO (aO (aO (aO (aO (cG (XF.thenN (bR rfl (fun hc=>?_) (fun hc=>?_)))))))))))))))))
    ·have hc35:=hc;clear hc
     have q1:d.sy≤y:=by simpa using hc35
     refine aE (aL (aB rfl rfl (aB rfl rfl (aB rfl rfl (aI (XF.thenN (cE (XF.blkR (XF.thenR (XF.thenR (XF.blkR (XF.thenR (XF.res (mK results20 rfl rfl rfl) ?_)))))))))))))
     exact ⟨by rw [show oN d us=_ from (if_neg hc14).trans (if_neg (by rw [cH hy (by simp [inQ];omega)];decide))];rfl,hS.below⟩
    ·have hc35:=hc;clear hc
     have q1:¬ d.sy≤y:=by simpa using hc35
     refine bT (XF.blkN (XF.thenN (aL (aA rfl rfl (bV rfl rfl (IntWalk.i64_in _ (by omega)) rfl (aB rfl rfl (aI ?_)))))))
     exact XF.round (ul - (i+1)) [(1,_),(2,_),(8,_)] (by omega) ⟨rfl,rfl,rfl,trivial⟩ ⟨i+1,by omega,rfl,rfl,eD hy hall (by simp [inQ];omega),hS.clear⟩
  ·have hc19:=of_decide_eq_false hc;clear hc
   rw [List.take_of_length_le (by omega)] at hall
   refine cI (XF.thenX (XF.thenX (XF.blkX (XF.thenN (aE (aL (aB rfl rfl (aI (XF.thenN (aE (aE (aL (aB rfl rfl (aI (XF.thenN (bE ?_))))))))))))))))
   refine cJ (fun m l W=>∃ i:Nat,i≤ul∧m=ul - i∧l=[(1,.slice ua ul uc),(2,.pointer (some ⟨B1,0,none⟩)),(9,.int .i64 ((stD d (us.take i):Nat):Int)),(10,.int .i64 (i:Int))]∧stD d (us.take i) < d.nl∧St w [(B1,[.int .i64 d.sy,.slice d.na d.nl d.nc,.slice d.aa d.al d.ac],25)] [] [] W) (ul - 0) ([(1,_),(2,_),(9,_),(10,_)]) ⟨rfl,rfl,rfl,rfl,trivial⟩ (⟨0,Nat.zero_le _,rfl,rfl,by show 0 < d.nl;omega,hS.clear⟩) ?_
   clear hS
   rintro m l W ⟨i,hi,rfl,rfl,hlt,hS⟩
   refine aE (aE (aL (aA rfl rfl (aA rfl rfl (bQ underlying36 rfl rfl (bW rfl rfl rfl (aI (XF.thenN (bR rfl (fun hc=>?_) (fun hc=>?_))))))))))
   ·have hc39:=of_decide_eq_true hc;clear hc
    obtain ⟨b5,o5,y,rfl,hy,hyc⟩:=hu.at1 (i:=i) (by omega)
    have k1:=hS.old hyc
    have hyq:=List.all_eq_true.1 hall y (List.mem_of_getElem? hy)
    simp [inQ] at hyq
    obtain ⟨r,hr⟩:∃ r,d.ns[stD d (us.take i)]?=some r:=⟨_,List.getElem?_eq_getElem (by rw [hd.nlen];exact hlt)⟩
    obtain ⟨c1,o1,hna,hcs⟩:=hd.nrow _ r hr
    have hrm:=List.mem_of_getElem? hr
    obtain ⟨hrr,hrl,_⟩:=hd.rin r hrm
    obtain ⟨hr6,hr7⟩:=h6 r hrm
    obtain ⟨d1,g1,z,hra,hz,hzc⟩:=hrr.at1 (i:=y.toNat) (by omega)
    have k2:=hS.old hcs
    have k3:=hS.old hzc
    have hzv:=hr7 z (List.mem_of_getElem? hz)
    have hnx:=yW hr hz
    refine bT (XF.thenN (aE (bE (regSF (ef:=12) (jy:=12) (ca:=nH (fun _=>[])) (ta:=fun _=>0) (Os:=osNo _) (Gs:=rL _) (al:=[]) (k:=9) cC rfl hS rfl (by kernel_rfl) (by kernel_rfl) (by kernel_rfl) (by kernel_rfl) rfl (by decide) rfl (fun _=>none) (.inr ⟨rfl,rfl,rfl⟩) rfl (aV 1 rfl rfl (isV _) (fun hNo=>sgV [(2,_)] rfl rfl rfl rfl hNo (aK rfl) ⟨cB rfl,trivial⟩ (fun ev w he hw=>bG (o':=1) cR rfl rfl) (aH rfl)) (aV 2 rfl rfl (isV _) (fun hNo=>sgV [(42,_)] rfl rfl rfl rfl hNo (aK rfl) ⟨aJ 0 (aG rfl rfl rfl),trivial⟩ (fun ev w he hw=>bB isAgg22 rfl ((aC (hw.at_ 0 rfl) rfl))) (aH rfl)) (aV 3 rfl rfl (isV _) (fun hNo=>sgV [(9,_)] rfl rfl rfl rfl hNo (aK rfl) ⟨cB rfl,trivial⟩ (fun ev w he hw=>aU rfl) (aH rfl)) ?_)))))))
    refine aV 4 rfl rfl (isV _) (fun hNo=>sgV [(43,_),(44,_)] rfl rfl rfl rfl hNo (aK rfl) ⟨aJ 1 (aG rfl rfl rfl),aJ 2 (aG rfl rfl rfl),trivial⟩ (fun ev w he hw=>bM (j:=stD d (us.take i)) (b:=c1) (o:=o1) (m:=d.nl) (c:=d.nc) underlying22 sizeOf36 (by show some (Value.slice d.na _ _)=_;rw [hna]) rfl rfl hlt rfl) (aH rfl)) ?_
    refine aV 5 rfl rfl (isV _) (fun hNo=>sgV [(45,_)] rfl rfl rfl rfl hNo (aK rfl) ⟨aJ 3 (aG rfl rfl rfl),trivial⟩ (fun ev w he hw=>bB isAgg36 rfl (hw.agree.cell (Nat.zero_le _) (hcs))) (aH rfl)) (aV 6 rfl rfl (isV _) (fun hNo=>sgV [(1,_)] rfl rfl rfl rfl hNo (aK rfl) ⟨cB rfl,trivial⟩ (fun ev w he hw=>aU rfl) (aH rfl)) (aV 7 rfl rfl (isV _) (fun hNo=>sgV [(10,_)] rfl rfl rfl rfl hNo (aK rfl) ⟨cB rfl,trivial⟩ (fun ev w he hw=>aU rfl) (aH rfl)) (aV 8 rfl rfl (isV _) (fun hNo=>sgV [(47,_),(48,_)] rfl rfl rfl rfl hNo (aK rfl) ⟨aJ 5 (aG rfl rfl rfl),aJ 6 (aG rfl rfl rfl),trivial⟩ (fun ev w he hw=>bM  underlying36 sizeOf3 rfl rfl rfl (by omega) rfl) (aH rfl)) (aV 9 rfl rfl (isV _) (fun hNo=>sgV [(49,_)] rfl rfl rfl rfl hNo (aK rfl) ⟨aJ 7 (aG rfl rfl rfl),trivial⟩ (fun ev w he hw=>bB isAgg3 rfl (hw.agree.cell (Nat.zero_le _) (hyc))) (aH rfl)) (jP ?_)))))
    intro Bf5 y5 W5 Ks5 hsz5 hKs5 hS' hcov5
    clear hS;have hS:=hS'.castO (O':=[_]) rfl;clear hS'
    refine kD (L':=[AwS _ _ (isV _),AwS _ _ (isV _),AwS _ _ (isV _),AwS _ _ (isV _),AwS _ _ (isV _),AwS _ _ (isV _),AwS _ _ (isV _),AwS _ _ (isV _),AwS _ _ (isV _)]) rfl (aW (aW (aW (aW (aW (aW (aW (aW (aW (cG ?_))))))))))
    refine aQ (j:=y.toNat) (b:=d1) (o:=g1) (m:=r.l) (c:=r.c) underlying36 sizeOf3 (by show some (Value.slice r.a _ _)=_;rw [hra]) rfl (by omega) (by omega) rfl rfl ?_
    refine aN isAgg3 rfl (hS.old hzc) rfl (aB rfl rfl (aI (XF.blkN (XF.thenN (aL (aA rfl rfl (bV rfl rfl (IntWalk.i64_in _ (by omega)) rfl (aB rfl rfl (aI ?_)))))))))
    have hst:stD d (us.take (i+1))=z.toNat:=(sL hy).trans hnx
    exact XF.round (ul - (i+1)) [(1,.slice (some ⟨b5,o5,none⟩) ul uc),(2,.pointer (some ⟨B1,0,none⟩)),(9,.int .i64 ((stD d (us.take (i+1)):Nat):Int)),(10,.int .i64 ((i+1:Nat):Int))] (by omega) ⟨rfl,rfl,by show _=some (Value.int .i64 ((stD d (us.take (i+1)):Nat):Int));rw [hst,Int.toNat_of_nonneg hzv.1];rfl,rfl,trivial⟩ ⟨i+1,by omega,rfl,rfl,by rw [hst];omega,hS.clear⟩
   ·have hc39:=of_decide_eq_false hc;clear hc
    rw [List.take_of_length_le (show us.length≤i by omega)] at hlt ⊢
    obtain ⟨b5,o5,y,hba,hy,hyc⟩:=gD.at9 hd.arow (i:=stD d us) (by rw [hd.alen,h4];exact hlt)
    have k1:=hS.old hyc
    refine cI (XF.thenX (XF.thenX (XF.blkX (XF.thenN (aE (kS (m:=9) cC hS (by kernel_rfl) (by kernel_rfl) rfl (bY 1 rfl 9 rfl rfl (fun w hw=>aU rfl) rfl (bY 2 rfl 2 rfl rfl (fun w hw=>bG (o':=2) eR rfl rfl) rfl (bL 3 rfl 54 1 rfl rfl rfl (fun w hw=>bB isAgg23 rfl ((aR hw 0).cell (Nat.zero_le _) (aC (hS.at_ 0 rfl) rfl))) rfl (bY 4 rfl 9 rfl rfl (fun w hw=>aU rfl) rfl ?_))))))))))
    refine bH 5 rfl (isV _) (aZ _) (rgV (li:=[(55,_),(56,_)]) rfl (aK rfl) ⟨aJ 2 (aG rfl rfl rfl),aJ 3 (aG rfl rfl rfl),trivial⟩ (fun w hw=>bM (j:=stD d us) (b:=b5) (o:=o5) (m:=d.al) (c:=d.ac) underlying23 sizeOf4 (by show some (Value.slice d.aa _ _)=_;rw [hba]) rfl rfl (by omega) rfl) (aH rfl)) ?_
    refine bL 6 rfl 57 4 rfl rfl rfl (fun w hw=>bB isAgg4 rfl ((aR hw 0).cell (Nat.zero_le _) (k1))) rfl (bL 7 rfl 53 0 rfl rfl rfl (fun w hw=>dC rfl) rfl (bL 8 rfl 58 5 rfl rfl rfl (fun w hw=>dC rfl) rfl (bH 9 rfl (isV _) (aZ _) (rgV (li:=[]) rfl (aK rfl) trivial (fun w hw=>dC rfl) (aH rfl)) (dT ?_))))
    intro W6 hbR hS'
    clear hS;have hS:=hS';clear hS'
    refine aO (aO (aO (aO (aO (aO (aO (aO (aO (cG (XF.thenN (cE (XF.res (mK results20 rfl rfl rfl) ?_))))))))))))
    have hyb:d.bs.getD (stD d us) false=y:=by rw [List.getD_eq_getElem?_getD,hy];rfl
    exact ⟨by rw [show oN d us=_ from (if_neg hc14).trans (if_pos hall),hyb];rfl,hS.below⟩
end
section
open Go.RowKit
open Go.WideMaps (KeyLaw)
abbrev prc (nb c:Nat):List Value:=[.int .i32 ((c / nb:Nat):Int),.int .i32 ((c % nb:Nat):Int)]
abbrev kvI (nb c:Nat):Value:=.agg #[.int .i32 ((c / nb:Nat):Int),.int .i32 ((c % nb:Nat):Int)]
theorem qK (nb:Nat) (x y:Nat) (h:kvI nb x=kvI nb y):x=y:=by
 simp at h
 have h1:=Nat.div_add_mod x nb
 have h2:=Nat.div_add_mod y nb
 have h3:x / nb=y / nb:=by omega
 have h4:x % nb=y % nb:=by omega
 rw [h3,h4] at h1
 omega
theorem prRow:(95:TypeId) < prog.types.size:=of_decide_eq_true (by kernel_rfl)
theorem sO {a b:Nat} (h:a < b):b=b - 1+1:=by omega
theorem prSize:prog.types.size=prog.types.size - 1+1:=sO prRow
theorem prWide:(match prog.underlying 95 with | some (.array _ _) | some (.struct _)=>true | _=>false)=true:=by rw [underlying95]
theorem yX:KeyLaw prog 95:=deep_law_laid (by kernel_rfl) (m:=2) (by omega) prRow (by kernel_rfl) prWide
theorem vC:prog.cellsOf 95=2:=by kernel_rfl
theorem wM:prog.cellsOf 21=1:=by kernel_rfl
theorem prKey9 {p g:Int} (hp:(Lit.int .i32 p).wf=true) (hg:(Lit.int .i32 g).wf=true):∃ l,keyOf prog 95 (.agg #[.int .i32 p,.int .i32 g])=some l:=by
 have h1:prog.keyType 95=true:=by kernel_rfl
 have h2:(Value.agg #[.int .i32 p,.int .i32 g]).formed prog 95=true:=by simp [Value.formed,underlying95,vC]
 have hi:∀ (d:Nat) (x:Int),(Lit.int .i32 x).wf=true→prog.keyLits (d+1) 21 [.int .i32 x]=some [.int .i32 x]:=fun d x hx=>by simp [Program.keyLits,underlying21,hx]
 obtain ⟨m,hm⟩:∃ m,prog.types.size=m+1:=⟨prog.types.size - 1,prSize⟩
 unfold keyOf
 rw [underlying95]
 simp only [h1,h2,Bool.and_self,if_true]
 rw [hm]
 simp [Program.keyLits,show List.range 2=[0,1] from rfl,underlying95,underlying21,vC,wM,hi m p hp,hi m g hg,Value.cells,hp,hg]
theorem wf32 {x:Nat} (h1:x≤1000000):(Lit.int .i32 (x:Int)).wf=true:=by
 have e1:IntKind.i32.min = -2147483648:=rfl
 have e2:IntKind.i32.max=2147483647:=rfl
 simp [Lit.wf]
 omega
theorem prKey {nb c:Nat} (h1:c / nb≤1000000) (h2:c % nb≤1000000):∃ l,keyOf prog 95 (kvI nb c)=some l:=prKey9 (wf32 h1) (wf32 h2)
def mkL (L:List Nat):List (Nat×Value):=L.zipIdx.map (fun q=>(q.1,Value.int .i32 (q.2:Int)))
theorem yY {L:List Nat} {c:Nat}:mkL (L++[c])=mkL L++[(c,Value.int .i32 (L.length:Int))]:=by
 unfold mkL;rw [List.zipIdx_append];simp
theorem mkL_yes {L:List Nat} {c:Nat} (h:c∈L):(c,Value.int .i32 ((mtI id L c:Nat):Int))∈mkL L:=by
 have e:mtI id L c=L.idxOf c:=by unfold mtI;rw [mU (by simpa using h),List.map_id];rfl
 rw [e]
 refine List.mem_map.2 ⟨(c,L.idxOf c),?_,rfl⟩
 rw [List.mk_mem_zipIdx_iff_getElem?]
 have h1:=List.idxOf_lt_length_of_mem h
 rw [List.getElem?_eq_getElem h1,List.getElem_idxOf h1]
theorem yZ {L:List Nat} {c:Nat} (h:c∉L):∀ q∈mkL L,q.1≠c:=fun q hq e=>by
 obtain ⟨z,hz,rfl⟩:=List.mem_map.1 hq
 obtain ⟨x,i⟩:=z
 have h1:=List.mk_mem_zipIdx_iff_getElem?.1 hz
 exact h (e▸List.mem_of_getElem? h1)
abbrev prs (nb:Nat) (L:List Nat):List Value:=L.flatMap (prc nb)
theorem prs_app {nb:Nat} {L:List Nat} {c:Nat} {a b:Int} (h1:a=((c / nb:Nat):Int)) (h2:b=((c % nb:Nat):Int)):prs nb L++[.int .i32 a,.int .i32 b]=prs nb (L++[c]):=by
 subst h1;subst h2;unfold prs;rw [List.flatMap_append];simp
theorem sP {l:List Int} {x:Int}:dB l++[Value.int .i32 x]=dB (l++[x]):=by simp [dB]
def mtF (L:List Nat) (c:Nat) (F:List Int) (x:Int):List Int:=if c∈L then F else F++[x]
abbrev prC (ta tb:TB) (MB:Nat) (lv fv bv:Value):List Value:=[.int .i64 (ta.k:Int),.slice ta.na (ta.n * ta.k) ta.nc,.slice ta.aa ta.n ta.ac,.int .i64 (tb.k:Int),.slice tb.na (tb.n * tb.k) tb.nc,.slice tb.aa tb.n tb.ac,.map (some MB),lv,fv,bv]
abbrev MkP (nb:Nat) (L:List Nat) (MB:Nat) (W:World):Prop:=Mk prog 95 (kvI nb) (mkL L) MB W
structure FBOk (D:List (Nat×Nat)) (F Y:List Int):Prop where
 lf:F.length=D.length
 ly:Y.length=D.length
 f0:F.getD 0 0 = -1
 at_:∀ i,0 < i→i < D.length→F.getD i 0=(((D.getD i (0,0)).1:Nat):Int)∧Y.getD i 0=(((D.getD i (0,0)).2:Nat):Int)
theorem FBOk.step {A:FA} {p:Nat} {F Y:List Int} (h:FBOk (qfb A p) F Y) (hpos:0 < (qfb A p).length):FBOk (qfb A (p+1)) (mtF (qm A id p) (ncd A p) F ((p / A.k:Nat):Int)) (mtF (qm A id p) (ncd A p) Y ((p % A.k:Nat):Int)):=by
 unfold mtF
 have hf:=h.lf
 have hy:=h.ly
 by_cases hc:ncd A p∈qm A id p
 ·rw [if_pos hc,if_pos hc,qfb,if_pos (by rw [List.map_id];exact List.contains_iff_mem.2 hc)]
  exact h
 ·rw [if_neg hc,if_neg hc,qfb,if_neg (by rw [List.map_id];exact fun h9=>hc (List.contains_iff_mem.1 h9))]
  refine ⟨by simp [hf],by simp [hy],by rw [cZ (by omega)];exact h.f0,fun i h0 hi=>?_⟩
  rw [List.length_append,List.length_singleton] at hi
  rcases Nat.lt_or_ge i (qfb A p).length with h1 | h1
  ·rw [cZ (l:=F) (by omega),cZ (l:=Y) (by omega),cZ (l:=qfb A p) h1];exact h.at_ i h0 h1
  ·rw [dN (l:=F) (by omega),dN (l:=Y) (by omega),dN (l:=qfb A p) (by omega)];exact ⟨rfl,rfl⟩
theorem FBOk.start {A:FA}:FBOk (qfb A 0) [-1] [-1]:=⟨rfl,rfl,rfl,fun i h0 hi=>by
 have:(qfb A 0).length=1:=rfl
 omega⟩
end
section
open Go.RowKit
theorem bs_91_1 (v00:Value) (v01:Value):Instr.fill (fun i=>some (i * 2,2)) ((Array.range (1 * 2)).map ((Value.cells (.agg #[.int .i32 0,.int .i32 0]))[· % (Value.cells (.agg #[.int .i32 0,.int .i32 0])).size]!)) [(0,.agg #[v00,v01])]=some (List.toArray [v00,v01]):=by kernel_rfl
theorem qL (w:World) (b o:Nat):(Instr.fieldAt 93 (.pointer (some ⟨b,o,none⟩)) 2).run prog w = .ok (.pointer (some ⟨b,o+6,none⟩)) w:=by
 simp [Instr.fieldAt,run_underlying underlying93,Instr.sureAddr,go_sem,Addr.add_lit]
theorem jV (w:World) (b o:Nat):(Instr.fieldAt 93 (.pointer (some ⟨b,o,none⟩)) 3).run prog w = .ok (.pointer (some ⟨b,o+7,none⟩)) w:=by
 simp [Instr.fieldAt,run_underlying underlying93,Instr.sureAddr,go_sem,Addr.add_lit]
theorem jW (w:World) (b o:Nat):(Instr.fieldAt 93 (.pointer (some ⟨b,o,none⟩)) 4).run prog w = .ok (.pointer (some ⟨b,o+8,none⟩)) w:=by
 simp [Instr.fieldAt,run_underlying underlying93,Instr.sureAddr,go_sem,Addr.add_lit]
theorem qM (w:World) (b o:Nat):(Instr.fieldAt 93 (.pointer (some ⟨b,o,none⟩)) 5).run prog w = .ok (.pointer (some ⟨b,o+9,none⟩)) w:=by
 simp [Instr.fieldAt,run_underlying underlying93,Instr.sureAddr,go_sem,Addr.add_lit]
theorem inf_95:prog.info? 95=some Try.t95:=by kernel_rfl
theorem zA (ta tb:TB) (PB MB:Nat) (la fa ba:Option Addr) (lc fc bc ll:Nat) (L:List Nat) (F Y:List Int) (Ot:Own) (G:bJ) (K:List (Nat×World)) (w0 w:World) (c:Nat) (fr sy:Int) (hS0:St w0 ((PB,prC ta tb MB (.slice la (ll) lc) (.slice fa (ll) fc) (.slice ba (ll) bc),93)::Ot) (⟨.slice la (ll) lc,ll,prs tb.n (L),95,2⟩::⟨.slice fa (ll) fc,ll,dB (F),21,1⟩::⟨.slice ba (ll) bc,ll,dB (Y),21,1⟩::G) K w) (hM:MkP tb.n L MB w) (hMb:w0.heap.size≤MB) (hMK:∀ q∈K,MB < q.1∨q.2.heap.size≤MB) (hLl:L.length=ll) (hl9:ll≤2000000) (hc1:c / tb.n≤1000000) (hc2:c % tb.n≤1000000) :
  Calls prog 57 #[.pointer (some ⟨PB,0,none⟩),kvI tb.n c,.int .i32 fr,.int .i32 sy] w (fun e w'=>∃ (la fa ba:Option Addr) (lc fc bc ll:Nat),(mtS id L c).length=ll∧e = .returned (.int .i32 ((mtI id L c:Nat):Int))∧MkP tb.n (mtS id L c) MB w'∧St w0 ((PB,prC ta tb MB (.slice la (ll) lc) (.slice fa (ll) fc) (.slice ba (ll) bc),93)::Ot) (⟨.slice la (ll) lc,ll,prs tb.n (mtS id L c),95,2⟩::⟨.slice fa (ll) fc,ll,dB (mtF L c F fr),21,1⟩::⟨.slice ba (ll) bc,ll,dB (mtF L c Y sy),21,1⟩::G) K w'):=by
 refine cP (args:=[.pointer (some ⟨PB,0,none⟩),kvI tb.n c,.int .i32 fr,.int .i32 sy]) func57 rfl ntmps57 rfl ?_
 have hS:=hS0
 have hS:=hS.markK hM
 refine aE (aL (dA (cs:=[_,_]) hS rfl rfl rfl fun B1 W1 hS=>aB rfl rfl (aI (XF.thenN (aE ?_)))))
 by_cases hc:c∈L
 ·skip
  have hM1:=hM.at_ hS (by simp)
  refine kS (m:=11) cC hS (by kernel_rfl) (by kernel_rfl) rfl (bY 1 rfl 0 rfl rfl (fun w hw=>aU rfl) rfl (bL 2 rfl 12 0 rfl rfl rfl (fun w hw=>bI rfl) rfl (bL 3 rfl 13 1 rfl rfl rfl (fun w hw=>bG (o':=6) qL rfl rfl) rfl (bL 4 rfl 14 2 rfl rfl rfl (fun w hw=>bB isAgg90 rfl ((aR hw 0).cell (Nat.zero_le _) (aC (hS.at_ 1 rfl) rfl))) rfl (bY 5 rfl 5 rfl rfl (fun w hw=>fB (vs:=[_,_]) isAgg95 sizeOf95 rfl (aX.agree (aR hw 0) (Nat.zero_le _) (aX.own (j:=0) (m:=2) (hS.at_ 0 rfl) rfl))) rfl (bH 6 rfl (isV _) (aZ _) (rgV (li:=[(15,_),(16,_)]) rfl (aK rfl) ⟨aJ 3 (aG rfl rfl rfl),aJ 4 (aG rfl rfl rfl),trivial⟩ (fun w hw=>xX (hM1.below hw) yX (qK tb.n) underlying90 (mkL_yes hc) rfl rfl) (aH rfl)) (bL 7 rfl 17 5 rfl rfl rfl (fun w hw=>aU rfl) rfl (bL 8 rfl 11 6 rfl rfl rfl (fun w hw=>gI rfl rfl) rfl (bH 9 rfl (isV (.bool true)) (aZ _) (vT (li:=[(11,_)]) rfl (aK rfl) ⟨aJ 6 (aG rfl rfl rfl),trivial⟩ (fun w hw=>gI rfl rfl) (rfl) (aH rfl)) (bL 10 rfl 18 7 rfl rfl rfl (fun w hw=>dC rfl) rfl (bH 11 rfl (isV (.bool true)) (aZ _) (vT (li:=[(19,_)]) rfl (aK rfl) ⟨aJ 8 (aG rfl rfl rfl),trivial⟩ (fun w hw=>dC rfl) (rfl) (aH rfl)) (dT ?_))))))))))))
  intro W2 hbR hS'
  clear hS;have hS:=hS';clear hS'
  refine aO (aO (aO (aO (aO (aO (aO (aO (aO (aO (aO (cG (XF.thenN (aE (aE (aL (aA rfl rfl (pF rfl rfl (aI (XF.thenN (condN rfl (bT (XF.thenN (aE (aL (aA rfl rfl (aB rfl rfl (aI (XF.thenN (cE (XF.res (dG results57 rfl) ?_))))))))))))))))))))))))))))))
  have e1:mtS id L c=L:=mU (by simpa using hc)
  exact ⟨la,fa,ba,lc,fc,bc,ll,by rw [e1];exact hLl,rfl,by rw [e1];exact hM.at_ hS (by simp),by rw [e1,mtF,mtF,if_pos hc,if_pos hc];exact hS.tail.keep K (fun q hq=>by simp [hq])⟩
 ·skip
  have hM1:=hM.at_ hS (by simp)
  refine kS (m:=11) cC hS (by kernel_rfl) (by kernel_rfl) rfl (bY 1 rfl 0 rfl rfl (fun w hw=>aU rfl) rfl (bL 2 rfl 12 0 rfl rfl rfl (fun w hw=>bI rfl) rfl (bL 3 rfl 13 1 rfl rfl rfl (fun w hw=>bG (o':=6) qL rfl rfl) rfl (bL 4 rfl 14 2 rfl rfl rfl (fun w hw=>bB isAgg90 rfl ((aR hw 0).cell (Nat.zero_le _) (aC (hS.at_ 1 rfl) rfl))) rfl (bY 5 rfl 5 rfl rfl (fun w hw=>fB (vs:=[_,_]) isAgg95 sizeOf95 rfl (aX.agree (aR hw 0) (Nat.zero_le _) (aX.own (j:=0) (m:=2) (hS.at_ 0 rfl) rfl))) rfl (bH 6 rfl (isV _) (aZ _) (rgV (li:=[(15,_),(16,_)]) rfl (aK rfl) ⟨aJ 3 (aG rfl rfl rfl),aJ 4 (aG rfl rfl rfl),trivial⟩ (fun w hw=>rn_mkNo (hM1.below hw) yX (qK tb.n) underlying90 zeroValue21 (yZ hc) (prKey hc1 hc2) rfl rfl) (aH rfl)) (bL 7 rfl 17 5 rfl rfl rfl (fun w hw=>aU rfl) rfl (bL 8 rfl 11 6 rfl rfl rfl (fun w hw=>gI rfl rfl) rfl (bH 9 rfl (isV (.bool false)) (aZ _) (vT (li:=[(11,_)]) rfl (aK rfl) ⟨aJ 6 (aG rfl rfl rfl),trivial⟩ (fun w hw=>gI rfl rfl) (rfl) (aH rfl)) (bL 10 rfl 18 7 rfl rfl rfl (fun w hw=>dC rfl) rfl (bH 11 rfl (isV (.bool false)) (aZ _) (vT (li:=[(19,_)]) rfl (aK rfl) ⟨aJ 8 (aG rfl rfl rfl),trivial⟩ (fun w hw=>dC rfl) (rfl) (aH rfl)) (dT ?_))))))))))))
  intro W3 hbR hS'
  clear hS;have hS:=hS';clear hS'
  refine aO (aO (aO (aO (aO (aO (aO (aO (aO (aO (aO (cG (XF.thenN (aE (aE (aL (aA rfl rfl (pF rfl rfl (aI (XF.thenN (fA rfl (aE (aL (aA rfl rfl (bF rfl rfl (aT (o':=7) jV rfl rfl rfl (aN isAgg91 rfl (aC (hS.at_ 1 rfl) rfl) rfl (bQ underlying91 rfl rfl (dM underlying3 underlying21 rfl (by omega) rfl (aB rfl rfl (aI (XF.thenN (aE (rI cC 6 hS rfl rfl (by kernel_rfl) (by kernel_rfl) (by kernel_rfl) (fun d hd=>by cases hd) (bY 1 rfl 0 rfl rfl (fun w hw=>aU rfl) rfl (bL 2 rfl 28 0 rfl rfl rfl (fun w hw=>bI rfl) rfl (bL 3 rfl 29 1 rfl rfl rfl (fun w hw=>bG (o':=6) qL rfl rfl) rfl ?_))))))))))))))))))))))))))))))))))))
  refine bL 4 rfl 30 2 rfl rfl rfl (fun w hw=>bB isAgg90 rfl ((aR hw 0).cell (Nat.zero_le _) (aC (hS.at_ 1 rfl) rfl))) rfl (bY 5 rfl 5 rfl rfl (fun w hw=>fB (vs:=[_,_]) isAgg95 sizeOf95 rfl (aX.agree (aR hw 0) (Nat.zero_le _) (aX.own (j:=0) (m:=2) (hS.at_ 0 rfl) rfl))) rfl (bY 6 rfl 9 rfl rfl (fun w hw=>aU rfl) rfl (dT ?_)))
  intro W4 hbR hS'
  clear hS;have hS:=hS';clear hS'
  refine aO (aO (aO (aO (aO (aO (cG ?_))))))
  have hM4:=hM.at_ hS (by simp)
  have hS4:=hS.keep K (fun q hq=>by simp [hq])
  clear hS
  refine xJ hS4 hM4 yX (qK tb.n) underlying90 (yZ hc) (prKey hc1 hc2) hMb hMK rfl rfl rfl ?_
  intro W41 hS5 hM5 hturn
  have hS:=hS5.markK hM5
  clear hS5
  refine aI (XF.thenN (aE ?_))
  refine regBPC (p:=7) (k:=10) (gi:=0) (m:=1) cC hS rfl rfl (by kernel_rfl) (by kernel_rfl) (by kernel_rfl) (fun d hd=>by cases hd) rfl rfl underlying91 inf_95 rfl rfl (by show 0 < 2;decide) rfl rfl rfl (by dsimp only;simp only [maxLen];omega) (by dsimp only;show _ * 8≤_;omega) ?_
  refine kT 1 rfl rfl (rgV (li:=[(0,_)]) rfl (aK rfl) ⟨cB rfl,trivial⟩ (fun w hw=>aU rfl) (aH rfl)) (lgV (li:=[(0,_)]) rfl (aK rfl) ⟨cB rfl,trivial⟩ (fun w=>aU rfl) (aH rfl) rfl) (iW 2 rfl rfl (by kernel_rfl) (rgV (li:=[(0,_)]) rfl (aK rfl) ⟨cB rfl,trivial⟩ (fun w hw=>aU rfl) (aH rfl)) (iW 3 rfl rfl (by kernel_rfl) (rgV (li:=[(35,_)]) rfl (aK rfl) ⟨aJ 1 (aG rfl rfl rfl),trivial⟩ (fun w hw=>bI rfl) (aH rfl)) (iW 4 rfl rfl (by kernel_rfl) (rgV (li:=[(36,_)]) rfl (aK rfl) ⟨aJ 2 (aG rfl rfl rfl),trivial⟩ (fun w hw=>bG (o':=7) jV rfl rfl) (aH rfl)) (iW 5 rfl rfl (by kernel_rfl) (rgV (li:=[(37,_)]) rfl (aK rfl) ⟨aJ 3 (aG rfl rfl rfl),trivial⟩ (fun w hw=>bB isAgg91 rfl ((aR hw 0).cell (Nat.zero_le _) (aC (hS.at_ 1 rfl) rfl))) (aH rfl)) (iW 6 rfl rfl (by kernel_rfl) (rgV (li:=[(5,_)]) rfl (aK rfl) ⟨cB rfl,trivial⟩ (fun w hw=>fB (vs:=[_,_]) isAgg95 sizeOf95 rfl (aX.agree (aR hw 0) (Nat.zero_le _) (aX.own (j:=0) (m:=2) (hS.at_ 0 rfl) rfl))) (aH rfl)) (blp_q 7 rfl rfl (by kernel_rfl) (fF W41.heap.size 1 95 _) (nE) (tW (us:=[.agg (List.toArray [_,_])]) rfl (aK rfl) underlying91 sizeOf95 zeroValue95 rfl rfl ⟨gS (aJ 5 (aG rfl rfl rfl)),trivial⟩ (bs_91_1 _ _) (aH rfl)) (tZ 8 rfl rfl (kT 9 rfl rfl (rgV (li:=[(34,_)]) rfl (aK rfl) ⟨aJ 0 (aG rfl rfl rfl),trivial⟩ (fun w hw=>bI rfl) (aH rfl)) (lgV (li:=[(34,_)]) rfl (aK rfl) ⟨aJ 0 (aG rfl rfl rfl),trivial⟩ (fun w=>bI rfl) (aH rfl) rfl) (kT 10 rfl rfl (rgV (li:=[(42,_)]) rfl (aK rfl) ⟨aJ 8 (aG rfl rfl rfl),trivial⟩ (fun w hw=>bG (o':=7) jV rfl rfl) (aH rfl)) (lgV (li:=[(42,_)]) rfl (aK rfl) ⟨aJ 8 (aG rfl rfl rfl),trivial⟩ (fun w=>bG (o':=7) jV rfl rfl) (aH rfl) rfl) (tY ⟨_,_,aJ 4 (aG rfl rfl rfl),aJ 6 (aG rfl rfl rfl),mA rfl rfl,?_⟩))))))))))
  intro A5 v5 news5 W5 hbR hqA5 hS'
  clear hS;have hS:=hS';clear hS'
  cases hqA5
  refine aO (aO (aO (aO (aO (aO ?_)))))
  refine dY ?_;intro _ _
  refine aO (aO (aO ?_))
  obtain ⟨la9,lc9,e9,_⟩:=cA (hS.row 0 rfl)
  dsimp only at e9
  subst e9
  refine cG (bS (i:=1) (cs':=[_,_,_,_,_,_,_,_,_,_]) (O':=(_::_::Ot)) hS sizeOf91 rfl rfl rfl rfl rfl rfl rfl fun W6 hS=>aI (XF.thenN (aE (aL (aA rfl rfl (aA rfl rfl (bF rfl rfl (aT (o':=8) jW rfl rfl rfl (aN isAgg59 rfl (aC (hS.at_ 1 rfl) rfl) rfl (aA rfl rfl (bU (us:=[(0,.int .i32 _)]) hS underlying59 sizeOf21 zeroValue21 rfl rfl rfl (dQ _) rfl fun B7 W7 hS=>?_)))))))))))
  refine dL (i:=1) (news:=[_]) hS underlying59 dK rfl rfl (by show 0 < 1;decide) rfl rfl rfl rfl rfl (aX.own (j:=0) (m:=1) (hS.at_ 0 rfl) rfl) rfl rfl (by dsimp only;simp only [maxLen];omega) (by dsimp only;show _ * 4≤_;omega) rfl fun v8 W8 hS=>?_
  obtain ⟨fa9,fc9,e9,_⟩:=cA (hS.row 1 rfl)
  dsimp only at e9
  subst e9
  refine bF rfl rfl (aT (o':=8) jW rfl rfl rfl (bS (i:=2) (cs':=[_,_,_,_,_,_,_,_,_,_]) (O':=(_::_::_::Ot)) hS sizeOf59 rfl rfl rfl rfl rfl rfl rfl fun W9 hS=>aI (XF.thenN (aL (aA rfl rfl (aA rfl rfl (bF rfl rfl (aT (o':=9) qM rfl rfl rfl (aN isAgg59 rfl (aC (hS.at_ 2 rfl) rfl) rfl (aA rfl rfl (bU (us:=[(0,.int .i32 _)]) hS underlying59 sizeOf21 zeroValue21 rfl rfl rfl (dQ _) rfl fun B10 W10 hS=>?_)))))))))))
  refine dL (i:=2) (news:=[_]) hS underlying59 dK rfl rfl (by show 0 < 1;decide) rfl rfl rfl rfl rfl (aX.own (j:=0) (m:=1) (hS.at_ 0 rfl) rfl) rfl rfl (by dsimp only;simp only [maxLen];omega) (by dsimp only;show _ * 4≤_;omega) rfl fun v11 W11 hS=>?_
  obtain ⟨ba9,bc9,e9,_⟩:=cA (hS.row 2 rfl)
  dsimp only at e9
  subst e9
  refine bF rfl rfl (aT (o':=9) qM rfl rfl rfl (bS (i:=3) (cs':=[_,_,_,_,_,_,_,_,_,_]) (O':=(_::_::_::_::Ot)) hS sizeOf59 rfl rfl rfl rfl rfl rfl rfl fun W12 hS=>aI (XF.thenN (aE (aL (aA rfl rfl (aB rfl rfl (aI (XF.thenN (cE (XF.res (dG results57 rfl) ?_)))))))))))
  have e1:mtS id L c=L++[c]:=qF (by simpa using hc)
  have e2:mtI id L c=ll:=by rw [uV (by simpa using hc)];exact hLl
  have hM9:=hM5.at_ hS (by simp)
  rw [← hLl,← yY] at hM9
  have hS9:=hS.castG (G':=(⟨.slice la9 (ll+1) lc9,ll+1,prs tb.n (L++[c]),95,2⟩::⟨.slice fa9 (ll+1) fc9,ll+1,dB (F++[fr]),21,1⟩::⟨.slice ba9 (ll+1) bc9,ll+1,dB (Y++[sy]),21,1⟩::G)) (by show GR.mk _ _ (prs _ _++[_,_]) _ _::GR.mk _ _ (dB _++[_]) _ _::GR.mk _ _ (dB _++[_]) _ _::_=_;rw [prs_app rfl rfl,sP,sP])
  exact ⟨la9,fa9,ba9,lc9,fc9,bc9,ll+1,by rw [e1,List.length_append,hLl];rfl,by rw [e2],by rw [e1];exact hM9,by rw [e1,mtF,mtF,if_neg hc,if_neg hc];exact hS9.tail.tail.tail.keep K (fun q hq=>by simp [hq])⟩
theorem oZ (ta tb:TB) (PB MB:Nat) (la fa ba:Option Addr) (lc fc bc ll:Nat) (L:List Nat) (F Y:List Int) (Ot:Own) (G:bJ) (K:List (Nat×World)) (w0 w:World) (c:Nat) (fr sy:Int) (hS0:St w0 ((PB,prC ta tb MB (.slice la (ll) lc) (.slice fa (ll) fc) (.slice ba (ll) bc),93)::Ot) (⟨.slice la (ll) lc,ll,prs tb.n (L),95,2⟩::⟨.slice fa (ll) fc,ll,dB (F),21,1⟩::⟨.slice ba (ll) bc,ll,dB (Y),21,1⟩::G) K w) (hM:MkP tb.n L MB w) (hMb:w0.heap.size≤MB) (hMK:∀ q∈K,MB < q.1∨q.2.heap.size≤MB) (hLl:L.length=ll) (hl9:ll≤2000000) (hc1:c / tb.n≤1000000) (hc2:c % tb.n≤1000000) (a b:Int) (ha:a=((c / tb.n:Nat):Int)) (hb:b=((c % tb.n:Nat):Int)):Calls prog 57 #[.pointer (some ⟨PB,0,none⟩),.agg #[.int .i32 a,.int .i32 b],.int .i32 fr,.int .i32 sy] w (fun e w'=>∃ (la fa ba:Option Addr) (lc fc bc ll:Nat),(mtS id L c).length=ll∧e = .returned (.int .i32 ((mtI id L c:Nat):Int))∧MkP tb.n (mtS id L c) MB w'∧St w0 ((PB,prC ta tb MB (.slice la (ll) lc) (.slice fa (ll) fc) (.slice ba (ll) bc),93)::Ot) (⟨.slice la (ll) lc,ll,prs tb.n (mtS id L c),95,2⟩::⟨.slice fa (ll) fc,ll,dB (mtF L c F fr),21,1⟩::⟨.slice ba (ll) bc,ll,dB (mtF L c Y sy),21,1⟩::G) K w'):=by
 subst ha hb
 exact zA ta tb PB MB la fa ba lc fc bc ll L F Y Ot G K w0 w c fr sy hS0 hM hMb hMK hLl hl9 hc1 hc2
theorem bldP9 (x y:Int):prog.built 95 [(0,.int .i32 x),(1,.int .i32 y)]=some #[.int .i32 x,.int .i32 y]:=by kernel_rfl
theorem BI.wlen {A:FA} {p:Nat} (h:BI A p):∀ n i,i≤n→i < (qm A id p).length→((qw A p).getD i []).length≤i
 | 0,i,hn,hi=>by
  rw [show i=0 by omega,h.w0];exact Nat.le_refl _
 | n+1,i,hn,hi=>by
  rcases Nat.eq_zero_or_pos i with h0 | h0
  ·rw [h0,h.w0];exact Nat.le_refl _
  ·obtain ⟨q,_,_,h3,h4⟩:=h.par i h0 hi
   have:=BI.wlen h n (q / A.k) (by omega) (by omega)
   rw [h4,List.length_append,List.length_singleton];omega
theorem jM {l:List Int} {i:Nat} (h:i < l.length):(dB l)[i]?=some (.int .i32 (l.getD i 0)):=by
 unfold dB;rw [List.getElem?_map,List.getD_eq_getElem?_getD,List.getElem?_eq_getElem h];rfl
def wI (u:List Nat):List Int:=u.map (fun (x:Nat)=>(x:Int))
theorem lX {u:List Nat}:(wI u).length=u.length:=List.length_map _
theorem rep_set {c x:Nat} {suf:List Nat}:(List.replicate (c+1) 0++suf).set c x=List.replicate c 0++(x::suf):=by
 rw [List.replicate_succ',List.append_assoc,List.set_append_right _ _ (by simp),List.length_replicate,Nat.sub_self];rfl
theorem row_wI {W:World} {B:Nat} {u:List Nat} {T:TypeId} (h:W.heap[B]?=some (.cells (i64n u).toArray T (0,0))):Row W (some ⟨B,0,none⟩) (wI u):=.inr ⟨B,0,rfl,fun x hx=>by
 rw [Nat.zero_add]
 rw [lX] at hx
 refine aC h ?_
 unfold i64n wI
 simp [hx]⟩
theorem zB (A:FA) (p:Nat) (ta tb:TB) (PB MB:Nat) (la fa ba:Option Addr) (lc fc bc ll:Nat) (L:List Nat) (F Y:List Int) (Ot:Own) (G:bJ) (K:List (Nat×World)) (w0 w:World) (n:Nat) (hS0:St w0 ((PB,prC ta tb MB (.slice la (ll) lc) (.slice fa (ll) fc) (.slice ba (ll) bc),93)::Ot) (⟨.slice la (ll) lc,ll,prs tb.n (L),95,2⟩::⟨.slice fa (ll) fc,ll,dB (F),21,1⟩::⟨.slice ba (ll) bc,ll,dB (Y),21,1⟩::G) K w) (hBI:BI A p) (hFB:FBOk (qfb A p) F Y) (hll:(qm A id p).length=ll) (hl9:ll≤2000000) (hn:n < ll) (hk9:A.k≤100000) :
  Calls prog 58 #[.pointer (some ⟨PB,0,none⟩),.int .i32 (n:Int)] w (fun e w'=>∃ (fa ba wa:Option Addr) (wc:Nat) (Kn:List (Nat×World)),e = .returned (.slice wa ((qw A p).getD (n) []).length wc)∧(∀ q∈K,q∈Kn)∧dD w0 Kn (fun W=>Row W wa (wI ((qw A p).getD (n) [])))∧St w0 ((PB,prC ta tb MB (.slice la (ll) lc) (.slice fa (ll) fc) (.slice ba (ll) bc),93)::Ot) (⟨.slice la (ll) lc,ll,prs tb.n (L),95,2⟩::⟨.slice fa (ll) fc,ll,dB (F),21,1⟩::⟨.slice ba (ll) bc,ll,dB (Y),21,1⟩::G) Kn w'):=by
 refine cP (args:=[.pointer (some ⟨PB,0,none⟩),.int .i32 (n:Int)]) func58 rfl ntmps58 rfl ?_
 have hS:=hS0
 obtain ⟨fb,rfl⟩:=fK (hS.row 1 rfl) (by omega)
 obtain ⟨yb,rfl⟩:=fK (hS.row 2 rfl) (by omega)
 have hlf:F.length=ll:=by rw [hFB.lf,hBI.lf,hll]
 have hly:Y.length=ll:=by rw [hFB.ly,hBI.lf,hll]
 have hwn:=hBI.wlen n n (Nat.le_refl _) (by omega)
 refine aE (aL (aB rfl rfl (aI (XF.thenN (aE (aL (aB rfl rfl (aI (XF.thenN (aE (aE (aL (aA rfl rfl (aB rfl rfl (aI (XF.thenN (bE (cJ (fun m l W=>∃ (i c:Nat),i < ll∧m=i∧l=[(0,.pointer (some ⟨PB,0,none⟩)),(1,.int .i32 (n:Int)),(5,.int .i64 (c:Int)),(6,.int .i32 (i:Int))]∧((qw A p).getD (n) []).length=c+((qw A p).getD (i) []).length∧St w0 ((PB,prC ta tb MB (.slice la (ll) lc) (.slice (some ⟨fb,0,none⟩) (ll) fc) (.slice (some ⟨yb,0,none⟩) (ll) bc),93)::Ot) (⟨.slice la (ll) lc,ll,prs tb.n (L),95,2⟩::⟨.slice (some ⟨fb,0,none⟩) (ll) fc,ll,dB (F),21,1⟩::⟨.slice (some ⟨yb,0,none⟩) (ll) bc,ll,dB (Y),21,1⟩::G) K W) (n) ([(0,_),(1,_),(5,_),(6,_)]) ⟨rfl,rfl,rfl,rfl,trivial⟩ (⟨n,0,hn,rfl,rfl,(Nat.zero_add _).symm,hS.keep K (fun q hq=>by simp [hq])⟩) ?_))))))))))))))))))
 clear hS
 rintro i l W ⟨_,c,hi,rfl,rfl,hlen,hS⟩
 refine aE (aE (aL (aA rfl rfl (bF rfl rfl (aT (o':=8) jW rfl rfl rfl (aN isAgg59 rfl (aC (hS.at_ 0 rfl) rfl) rfl (aA rfl rfl (aQ (j:=i) (b:=fb) (o:=0) (m:=ll) (c:=fc) underlying59 sizeOf21 rfl rfl rfl (by omega) rfl rfl ?_))))))))
 refine aN isAgg21 rfl (by rw [Nat.zero_add,Nat.mul_one];exact cN (hS.row 1 rfl) (k:=i) (jM (by omega))) rfl ?_
 refine nA rfl rfl rfl (aI (XF.thenN (bR rfl (fun hc=>?_) (fun hc=>?_))))
 ·have hc17:=of_decide_eq_true hc;clear hc
  have hi0:0 < i:=by
   rcases Nat.eq_zero_or_pos i with h0 | h0
   ·rw [h0,hFB.f0] at hc17;omega
   ·exact h0
  obtain ⟨q,hq1,hq2,hq3,hq4⟩:=hBI.par i hi0 (by omega)
  obtain ⟨hf9,hy9⟩:=hFB.at_ i hi0 (by rw [hBI.lf];omega)
  rw [hq2] at hf9 hy9
  dsimp only at hf9 hy9
  refine bT (XF.thenN (aE (bE (aL (aA rfl rfl (bV rfl rfl (IntWalk.i64_in _ (by omega)) rfl (aB rfl rfl (aI (XF.blkN (XF.thenN (aL (aA rfl rfl (bF rfl rfl (aT (o':=8) jW rfl rfl rfl (aN isAgg59 rfl (aC (hS.at_ 0 rfl) rfl) rfl (aA rfl rfl (aQ (j:=i) (b:=fb) (o:=0) (m:=ll) (c:=fc) underlying59 sizeOf21 rfl rfl rfl (by omega) rfl rfl ?_)))))))))))))))))
  refine aN isAgg21 rfl (by rw [Nat.zero_add,Nat.mul_one];exact cN (hS.row 1 rfl) (k:=i) (jM (by omega))) rfl ?_
  refine aB rfl rfl (aI ?_)
  exact XF.round (q / A.k) [(0,.pointer (some ⟨PB,0,none⟩)),(1,.int .i32 (n:Int)),(5,.int .i64 ((c+1:Nat):Int)),(6,.int .i32 ((q / A.k:Nat):Int))] hq3 ⟨rfl,rfl,rfl,by show _=some (Value.int .i32 ((q / A.k:Nat):Int));rw [← hf9];rfl,trivial⟩ ⟨q / A.k,c+1,by omega,rfl,rfl,by rw [hlen,hq4,List.length_append,List.length_singleton];omega,hS.keep K (fun q hq=>by simp [hq])⟩
 ·have hc17:=of_decide_eq_false hc;clear hc
  have hi0:i=0:=by
   rcases Nat.eq_zero_or_pos i with h0 | h0
   ·exact h0
   ·have:=(hFB.at_ i h0 (by rw [hBI.lf];omega)).1;omega
  subst hi0
  rw [hBI.w0] at hlen
  obtain ⟨lw,rfl⟩:∃ lw,lw=c:=⟨_,rfl⟩
  have hlw:((qw A p).getD (n) []).length=lw:=by rw [hlen];rfl
  refine cI (XF.thenX (XF.thenX (XF.blkX (XF.thenN (aE (aL (aA rfl rfl ?_)))))))
  refine fD (m:=lw) (cs:=i64n (List.replicate lw 0)) hS underlying36 nT rfl rfl rfl (rfl) (rfl) (lV _) (by show (8:Int) * _≤_;omega) (by omega) rfl fun B1 W1 hS=>?_
  refine aB rfl rfl (aI (XF.thenN (aE (aE (aL (aA rfl rfl (aB rfl rfl (aI (XF.thenN (bE ?_))))))))))
  refine cJ (fun m l W=>∃ (i c:Nat) (suf:List Nat),i < ll∧m=i∧l=[(0,.pointer (some ⟨PB,0,none⟩)),(5,.int .i64 (c:Int)),(7,.slice (some ⟨B1,0,none⟩) lw lw),(8,.int .i32 (i:Int))]∧(qw A p).getD (n) []=(qw A p).getD (i) []++suf∧((qw A p).getD (i) []).length=c∧c≤lw∧suf.length=lw - c∧St w0 ((B1,i64n (List.replicate c 0++suf),3)::((PB,prC ta tb MB (.slice la (ll) lc) (.slice (some ⟨fb,0,none⟩) (ll) fc) (.slice (some ⟨yb,0,none⟩) (ll) bc),93)::Ot)) (⟨.slice la (ll) lc,ll,prs tb.n (L),95,2⟩::⟨.slice (some ⟨fb,0,none⟩) (ll) fc,ll,dB (F),21,1⟩::⟨.slice (some ⟨yb,0,none⟩) (ll) bc,ll,dB (Y),21,1⟩::G) K W) (n) ([(0,_),(5,_),(7,_),(8,_)]) ⟨rfl,rfl,rfl,rfl,trivial⟩ (⟨n,lw,[],hn,rfl,rfl,(List.append_nil _).symm,hlw,Nat.le_refl _,(by simp),by rw [List.append_nil];exact hS.keep K (fun q hq=>by simp [hq])⟩) ?_
  clear hS
  rintro i l W ⟨_,c,suf,hi,rfl,rfl,hwd,hlen,hcl,hsl,hS⟩
  refine aE (aE (aL (aA rfl rfl (bF rfl rfl (aT (o':=8) jW rfl rfl rfl (aN isAgg59 rfl (aC (hS.at_ 1 rfl) rfl) rfl (aA rfl rfl (aQ (j:=i) (b:=fb) (o:=0) (m:=ll) (c:=fc) underlying59 sizeOf21 rfl rfl rfl (by omega) rfl rfl ?_))))))))
  refine aN isAgg21 rfl (by rw [Nat.zero_add,Nat.mul_one];exact cN (hS.row 1 rfl) (k:=i) (jM (by omega))) rfl ?_
  refine nA rfl rfl rfl (aI (XF.thenN (bR rfl (fun hc=>?_) (fun hc=>?_))))
  ·have hc37:=of_decide_eq_true hc;clear hc
   have hi0:0 < i:=by
    rcases Nat.eq_zero_or_pos i with h0 | h0
    ·rw [h0,hFB.f0] at hc37;omega
    ·exact h0
   obtain ⟨q,hq1,hq2,hq3,hq4⟩:=hBI.par i hi0 (by omega)
   obtain ⟨hf9,hy9⟩:=hFB.at_ i hi0 (by rw [hBI.lf];omega)
   rw [hq2] at hf9 hy9
   dsimp only at hf9 hy9
   obtain ⟨c9,rfl⟩:∃ c9,c=c9+1:=⟨c - 1,by rw [← hlen,hq4,List.length_append,List.length_singleton];omega⟩
   have hqk:q % A.k < A.k:=by
    have h1:=(hBI.run i (by omega)).2
    rw [hq4] at h1
    exact h1.snoc.2
   refine bT (XF.thenN (aE (bE (aE (aL (aA rfl rfl (iZ rfl rfl (IntWalk.i64_in _ (by omega)) rfl (aB rfl rfl (aI (XF.thenN (aL (aA rfl rfl (aA rfl rfl (aA rfl rfl (bF rfl rfl (aT (o':=9) qM rfl rfl rfl (aN isAgg59 rfl (aC (hS.at_ 1 rfl) rfl) rfl (aA rfl rfl (aQ (j:=i) (b:=yb) (o:=0) (m:=ll) (c:=bc) underlying59 sizeOf21 rfl rfl rfl (by omega) rfl rfl ?_)))))))))))))))))))
   refine aN isAgg21 rfl (by rw [Nat.zero_add,Nat.mul_one];exact cN (hS.row 2 rfl) (k:=i) (jM (by omega))) rfl ?_
   refine lR underlying21 underlying3 rfl (by omega) rfl (aQ (j:=c9) underlying36 sizeOf3 rfl rfl (by omega) (by omega) rfl rfl ?_)
   refine bS (i:=0) (cs':=i64n ((List.replicate (c9+1) 0++suf).set c9 (q % A.k))) (O':=(_::_::Ot)) hS sizeOf3 rfl rfl rfl rfl (Nat.ble_eq_true_of_le (by rw [fY,List.length_append,List.length_replicate];omega)) (iK hy9) rfl fun W95 hS=>?_
   refine aI (XF.blkN (XF.thenN (aL (aA rfl rfl (bF rfl rfl (aT (o':=8) jW rfl rfl rfl (aN isAgg59 rfl (aC (hS.at_ 1 rfl) rfl) rfl (aA rfl rfl (aQ (j:=i) (b:=fb) (o:=0) (m:=ll) (c:=fc) underlying59 sizeOf21 rfl rfl rfl (by omega) rfl rfl ?_)))))))))
   refine aN isAgg21 rfl (by rw [Nat.zero_add,Nat.mul_one];exact cN (hS.row 1 rfl) (k:=i) (jM (by omega))) rfl ?_
   refine aB rfl rfl (aI ?_)
   rw [rep_set] at hS
   exact XF.round (q / A.k) [(0,.pointer (some ⟨PB,0,none⟩)),(5,.int .i64 ((c9:Nat):Int)),(7,.slice (some ⟨B1,0,none⟩) lw lw),(8,.int .i32 ((q / A.k:Nat):Int))] hq3 ⟨rfl,by show _=some (Value.int .i64 ((c9:Nat):Int));exact congrArg some (congrArg (Value.int .i64) (by omega)),rfl,by show _=some (Value.int .i32 ((q / A.k:Nat):Int));rw [← hf9];rfl,trivial⟩ ⟨q / A.k,c9,q % A.k::suf,by omega,rfl,rfl,by rw [hwd,hq4,List.append_assoc];rfl,by rw [hq4,List.length_append,List.length_singleton] at hlen;omega,by omega,by rw [List.length_cons];omega,hS.keep K (fun q hq=>by simp [hq])⟩
  ·have hc37:=of_decide_eq_false hc;clear hc
   have hi0:i=0:=by
    rcases Nat.eq_zero_or_pos i with h0 | h0
    ·exact h0
    ·have:=(hFB.at_ i h0 (by rw [hBI.lf];omega)).1;omega
   subst hi0
   rw [hBI.w0] at hwd hlen
   obtain rfl:c=0:=hlen.symm
   obtain rfl:suf=(qw A p).getD (n) []:=hwd.symm
   refine cI (XF.thenX (XF.thenX (XF.blkX (XF.thenN (aE (aL (aA rfl rfl (aB rfl rfl (aI (XF.thenN (cE (XF.res (dG results58 rfl) ?_))))))))))))
   obtain ⟨K2,k2,g2,hS2⟩:=(hS.keep K (fun q hq=>by simp [hq])).ownKeep
   rw [hlw] at *
   exact ⟨_,_,_,_,K2,rfl,k2,fun h9 hk9=>row_wI (by simpa using g2 h9 hk9),hS2⟩
theorem qN (v00:Value) (v01:Value) (v02:Value) (v10:Value) (v11:Value) (v12:Value) (v2:Option Nat):prog.built 93 [(0,.agg #[v00,v01,v02]),(1,.agg #[v10,v11,v12]),(2,.map v2)]=some #[v00,v01,v02,v10,v11,v12,.map v2,.slice none 0 0,.slice none 0 0,.slice none 0 0]:=by kernel_rfl
theorem vD:cD prog 57=true:=by kernel_rfl
structure LeT (d:DV) (q:TB):Prop where
 ok:TOk q
 k:(q.k:Int)=d.sy
 n:q.n≤d.nl
 n4:q.n≤1024
 ord:q.fa.Ord
 red:q.fa.Red
 eqv:Eqv q.fa 0 (dFA d) 0
 dok:(dFA d).Ok
theorem St.drop2 {w0 W:World} {O:Own} {G:bJ} {K:List (Nat×World)} {a b:Nat×List Value×TypeId} (h:St w0 (a::b::O) G K W):St w0 (a::O) G K W:=(h.perm (List.Perm.swap _ _ _)).tail
theorem qO {d:DV} {k:Nat} (hk:d.sy=(k:Int)) {va:Option Addr} {vc:Nat}:dFA d=(TB.mk k d.nl va vc (xsT d.ns d.nl) d.aa d.ac d.bs).fa:=by unfold dFA TB.fa;rw [hk];rfl
theorem sQ (da db:DV) (k:Nat) (Kt:List (Nat×World)) (Ot:Own) (G:bJ) (K:List (Nat×World)) (w0 w:World) (hS0:St w0 Ot G K w) (hKt:∀ q∈Kt,q∈K) (hDa:dD w0 Kt (fun W=>DIn W da)) (hDb:dD w0 Kt (fun W=>DIn W db)) (hdak:da.sy=(k:Int)) (hdbk:db.sy=(k:Int)) (hea:cO da=0) (heb:cO db=0) :
  Calls prog 39 #[da.val,db.val] w (fun e w'=>∃ (qda qdb:TB) (PB MB ll:Nat) (la fa ba:Option Addr) (lc fc bc:Nat) (Kn:List (Nat×World)),ll=1∧e = .returned (.pointer (some ⟨PB,0,none⟩))∧LeT da qda∧LeT db qdb∧(∀ q∈K,q∈Kn)∧dD w0 Kn (fun W=>TAt qda W∧TAt qdb W)∧MkP qdb.n [0] MB w'∧w0.heap.size≤MB∧(∀ q∈Kn,MB < q.1∨q.2.heap.size≤MB)∧St w0 ((PB,prC qda qdb MB (.slice la (ll) lc) (.slice fa (ll) fc) (.slice ba (ll) bc),93)::Ot) (⟨.slice la (ll) lc,ll,prs qdb.n ([0]),95,2⟩::⟨.slice fa (ll) fc,ll,dB ([-1]),21,1⟩::⟨.slice ba (ll) bc,ll,dB ([-1]),21,1⟩::G) Kn w'):=by
 refine cP (args:=[da.val,db.val]) func39 rfl ntmps39 rfl ?_
 have hS:=hS0
 obtain ⟨k9,hk9,a1,a2,a3,a4,a5,a6⟩:=dU hea
 obtain rfl:k=k9:=by omega
 obtain ⟨k8,hk8,b1,b2,b3,b4,b5,b6⟩:=dU heb
 obtain rfl:k=k8:=by omega
 refine aE (aL (dA (cs:=[_,_,_]) hS rfl rfl rfl fun B1 W1 hS=>dA (cs:=[_,_,_]) hS rfl rfl rfl fun B2 W2 hS=>aB rfl rfl (aI (XF.thenN (aE (aL (bP (vs:=[_,_,_]) isAgg25 sizeOf25 rfl (aX.own (j:=0) (m:=3) (hS.at_ 1 rfl) rfl) rfl ?_)))))))
 have hDIda:=hDa (hS.keep K (fun q hq=>by simp [hq])) hKt
 refine bZ (vs:=[_]) qH rfl (jL da k Kt _ _ K w0 _ (hS.keep K (fun q hq=>by simp [hq])) hKt (fun h9 hk8=>⟨(hDa h9 hk8).nrow,fun r hr=>((hDa h9 hk8).rin r hr).1,(hDa h9 hk8).arow⟩) hdak a4 hDIda.nlen (fun r hr=>⟨(a6 r hr).1,by have:=(hDIda.rin r hr).2.1;have:=(a6 r hr).1;omega⟩) (fun r hr=>(a6 r hr).2) (by have:=hDIda.alen;omega) a2 a3 a1) rfl ?_
 rintro e W9 ⟨vada,vcda,K1,rfl,hTOda,kda,hTAda,hS9⟩
 refine ⟨_,rfl,?_⟩
 clear hS;have hS:=hS9;clear hS9
 refine bZ (vs:=[_,_]) qI rfl (lU _ 1024 K1 _ _ K1 w0 _ hS hTOda (fun q hq=>hq) hTAda a3) rfl ?_
 rintro e W9 ⟨qda,K2,rfl,hqdak,hqdan,hqdaT,hqdao,hqdar,hqdae,lda,hqdaB,hS9⟩
 refine ⟨_,rfl,?_⟩
 clear hS;have hS:=hS9;clear hS9
 refine aA rfl rfl (bC rfl rfl rfl (bC rfl rfl rfl (cV (cs:=[_,_,_]) hS zeroValue61 rfl rfl fun B3 W3 hS=>cL (i:=0) (vs:=[_,_,_]) (cs':=[_,_,_]) (O':=(_::_::_::Ot)) hS sizeOf61 rfl rfl rfl rfl rfl rfl rfl fun W4 hS=>aB rfl rfl (aI (XF.thenN (aE (aL (bP (vs:=[_,_,_]) isAgg25 sizeOf25 rfl (aX.own (j:=0) (m:=3) (hS.at_ 1 rfl) rfl) rfl ?_))))))))
 have hDIdb:=hDb (hS.keep K2 (fun q hq=>by simp [hq])) (fun q hq=>lda q (kda q (hKt q hq)))
 refine bZ (vs:=[_]) qH rfl (jL db k Kt _ _ K2 w0 _ (hS.keep K2 (fun q hq=>by simp [hq])) (fun q hq=>lda q (kda q (hKt q hq))) (fun h9 hk8=>⟨(hDb h9 hk8).nrow,fun r hr=>((hDb h9 hk8).rin r hr).1,(hDb h9 hk8).arow⟩) hdbk b4 hDIdb.nlen (fun r hr=>⟨(b6 r hr).1,by have:=(hDIdb.rin r hr).2.1;have:=(b6 r hr).1;omega⟩) (fun r hr=>(b6 r hr).2) (by have:=hDIdb.alen;omega) b2 b3 b1) rfl ?_
 rintro e W9 ⟨vadb,vcdb,K3,rfl,hTOdb,kdb,hTAdb,hS9⟩
 refine ⟨_,rfl,?_⟩
 clear hS;have hS:=hS9;clear hS9
 refine bZ (vs:=[_,_]) qI rfl (lU _ 1024 K3 _ _ K3 w0 _ hS hTOdb (fun q hq=>hq) hTAdb b3) rfl ?_
 rintro e W9 ⟨qdb,K4,rfl,hqdbk,hqdbn,hqdbT,hqdbo,hqdbr,hqdbe,ldb,hqdbB,hS9⟩
 refine ⟨_,rfl,?_⟩
 clear hS;have hS:=hS9;clear hS9
 refine aA rfl rfl (bC rfl rfl rfl (bC rfl rfl rfl (cV (cs:=[_,_,_]) hS zeroValue61 rfl rfl fun B5 W5 hS=>cL (i:=0) (vs:=[_,_,_]) (cs':=[_,_,_]) (O':=(_::_::_::_::Ot)) hS sizeOf61 rfl rfl rfl rfl rfl rfl rfl fun W6 hS=>aB rfl rfl (aI (XF.thenN (aE (aL (bP (vs:=[_,_,_]) isAgg61 sizeOf61 rfl (aX.own (j:=0) (m:=3) (hS.at_ 1 rfl) rfl) rfl (bP (vs:=[_,_,_]) isAgg61 sizeOf61 rfl (aX.own (j:=0) (m:=3) (hS.at_ 0 rfl) rfl) rfl ?_)))))))))
 have hSb:=hS.keep K4 (fun q hq=>by simp [hq])
 refine tD hS rfl ?_
 intro MB W31 hMB hlo hS1
 have hMK:∀ q∈K4,MB < q.1∨q.2.heap.size≤MB:=fun q hq=>.inr (Nat.le_trans (hSb.kept q hq).1.1 hlo)
 have hMb:w0.heap.size≤MB:=Nat.le_trans hSb.below.size hlo
 have hM0:MkP qdb.n [] MB _:=Mk.made hMB
 clear hS;have hS:=(hS1.keep K4 (fun q hq=>by simp [hq])).markK hM0
 refine fC (us:=[(0,.agg (List.toArray [_,_,_])),(1,.agg (List.toArray [_,_,_])),(2,.map _)]) rfl (qN _ _ _ _ _ _ _) rfl (dA (cs:=[_,_,_,_,_,_,_,_,_,_]) hS rfl rfl rfl fun B7 W7 hS=>aB rfl rfl (aI (XF.thenN (aE ?_))))
 have hM1:=hM0.at_ hS (by simp)
 have hS':=((hS.newG 21 1).newG 21 1).newG 95 2;clear hS;have hS:=hS';clear hS'
 have hz1:(0:Nat) / qdb.n=0:=Nat.zero_div _
 have hz2:(0:Nat) % qdb.n=0:=Nat.zero_mod _
 refine aL (aA rfl rfl (fC (us:=[(0,.int .i32 0),(1,.int .i32 0)]) rfl (bldP9 0 0) rfl ?_))
 refine bZ (vs:=[_,_,_,_]) vD rfl (oZ qda qdb B7 MB none none none 0 0 0 0 [] [] [] _ _ K4 w0 _ 0 (-1) (-1) (hS.keep K4 (fun q hq=>by simp [hq])) hM1 hMb hMK rfl (by decide) (by omega) (by omega) 0 0 (by rw [hz1];rfl) (by rw [hz2];rfl)) rfl ?_
 rintro e W9 ⟨la,fa,ba,lc,fc,bc,ll,hll,rfl,hM9,hS9⟩
 refine ⟨_,rfl,?_⟩
 clear hS;have hS:=hS9;clear hS9
 refine aI (XF.thenN (aE (aL (aA rfl rfl (aB rfl rfl (aI (XF.thenN (cE (XF.res (dG results39 rfl) ?_)))))))))
 have e0:mtS id [] 0=[0]:=rfl
 have e1:mtF [] 0 [] (-1)=[-1]:=by simp [mtF]
 rw [e0] at hll hM9
 rw [e0,e1] at hS
 simp only [List.length_singleton] at hll
 exact ⟨qda,qdb,_,MB,ll,la,fa,ba,lc,fc,bc,K4,hll.symm,rfl,⟨hqdaT,by rw [hqdak];exact hdak.symm,hqdan,Nat.le_trans hqdan a3,hqdao,hqdar,by rw [qO hdak];exact hqdae,by rw [qO hdak];exact hTOda.fa⟩,⟨hqdbT,by rw [hqdbk];exact hdbk.symm,hqdbn,Nat.le_trans hqdbn b3,hqdbo,hqdbr,by rw [qO hdbk];exact hqdbe,by rw [qO hdbk];exact hTOdb.fa⟩,fun z hz=>ldb z (kdb z (lda z (kda z hz))),fun h9 hk9=>⟨hqdaB h9 (fun z hz=>hk9 z (ldb z (kdb z hz))),hqdbB h9 hk9⟩,hM9,hMb,hMK,hS.drop2.drop2.drop2.drop2⟩
theorem vE (w:World) (b o:Nat):(Instr.fieldAt 93 (.pointer (some ⟨b,o,none⟩)) 0).run prog w = .ok (.pointer (some ⟨b,o+0,none⟩)) w:=by
 simp [Instr.fieldAt,run_underlying underlying93,Instr.sureAddr,go_sem,Addr.add_lit]
theorem vF (w:World) (b o:Nat):(Instr.fieldAt 93 (.pointer (some ⟨b,o,none⟩)) 1).run prog w = .ok (.pointer (some ⟨b,o+3,none⟩)) w:=by
 simp [Instr.fieldAt,run_underlying underlying93,Instr.sureAddr,go_sem,Addr.add_lit]
theorem goes_58:cD prog 58=true:=by kernel_rfl
theorem zC {x n:Nat} (h:x < n) (hn:n≤1024) : -9223372036854775808≤((x:Nat):Int)∧((x:Nat):Int)≤9223372036854775807:=by omega
abbrev tb1 (t:TB) (s:Nat):Bool:=t.bs.getD s false
theorem wN (ta tb:TB) (g:Bool→Bool→Bool) (f:FuncId) (PB MB ll0:Nat) (la fa ba:Option Addr) (lc fc bc:Nat) (Kt:List (Nat×World)) (Ot:Own) (G:bJ) (K:List (Nat×World)) (w0 w:World) (hgo:cD prog f=true) (hf:∀ x y w,Calls prog f #[.bool x,.bool y] w (fun e w'=>e = .returned (.bool (g x y))∧Below w.heap.size w w')) (h1:ll0=1) (hS0:St w0 ((PB,prC ta tb MB (.slice la (ll0) lc) (.slice fa (ll0) fc) (.slice ba (ll0) bc),93)::Ot) (⟨.slice la (ll0) lc,ll0,prs tb.n ([0]),95,2⟩::⟨.slice fa (ll0) fc,ll0,dB ([-1]),21,1⟩::⟨.slice ba (ll0) bc,ll0,dB ([-1]),21,1⟩::G) K w) (hTta:TOk ta) (hTtb:TOk tb) (hna:ta.n≤1024) (hnb:tb.n≤1024) (hk:ta.k=tb.k) (hKt:∀ q∈Kt,q∈K) (hB:dD w0 Kt (fun W=>TAt ta W∧TAt tb W)) (hM:MkP tb.n [0] MB w) (hMb:w0.heap.size≤MB) (hMK:∀ q∈K,MB < q.1∨q.2.heap.size≤MB) :
  Calls prog 40 #[.pointer (some ⟨PB,0,none⟩),.func (.func f) #[] #[]] w (fun e w'=>∃ (r:Option (List Nat)) (wa:Option Addr) (wc:Nat) (Kn:List (Nat×World)),FW (cK ta.fa tb.fa g) r∧e = .returned (.tuple #[.slice wa (r.getD []).length wc,.bool r.isSome])∧(∀ q∈K,q∈Kn)∧dD w0 Kn (fun W=>Row W wa (wI (r.getD [])))∧St w0 Ot G Kn w'):=by
 refine cP (args:=[.pointer (some ⟨PB,0,none⟩),.func (.func f) #[] #[]]) func40 rfl ntmps40 rfl ?_
 have hS:=hS0
 have hA:(cK ta.fa tb.fa g).Ok:=pair_ok hTta.fa hTtb.fa hk
 have hnn:ta.n * tb.n≤1024 * 1024:=Nat.mul_le_mul hna hnb
 have hka:=hTta.k1
 have hS:=hS.markK hM
 have ez:0 * ta.k=0:=Nat.zero_mul _
 refine aE (aL (aB rfl rfl (aB rfl rfl (aI (XF.thenN (aE (aE (aL (aB rfl rfl (aI (XF.thenN (bE ?_))))))))))))
 refine cJ (fun m l W=>∃ (i:Nat) (la fa ba:Option Addr) (lc fc bc ll:Nat) (F Y:List Int),i≤ll∧m=1048576 - i∧l=[(0,.pointer (some ⟨PB,0,none⟩)),(1,.func (.func f) #[] #[]),(6,.int .i64 (i:Int))]∧(qm (cK ta.fa tb.fa g) id (i * ta.k)).length=ll∧(∀ j,j < i→j < (qm (cK ta.fa tb.fa g) id (j * ta.k)).length)∧(∀ j,j < i→(cK ta.fa tb.fa g).ac ((qm (cK ta.fa tb.fa g) id (i * ta.k)).getD j 0)=false)∧FBOk (qfb (cK ta.fa tb.fa g) (i * ta.k)) F Y∧MkP tb.n (qm (cK ta.fa tb.fa g) id (i * ta.k)) MB W∧St w0 ((PB,prC ta tb MB (.slice la (ll) lc) (.slice fa (ll) fc) (.slice ba (ll) bc),93)::Ot) (⟨.slice la (ll) lc,ll,prs tb.n (qm (cK ta.fa tb.fa g) id (i * ta.k)),95,2⟩::⟨.slice fa (ll) fc,ll,dB (F),21,1⟩::⟨.slice ba (ll) bc,ll,dB (Y),21,1⟩::G) K W) (1048576 - 0) ([(0,_),(1,_),(6,_)]) ⟨rfl,rfl,rfl,trivial⟩ (⟨0,la,fa,ba,lc,fc,bc,ll0,[-1],[-1],Nat.zero_le _,rfl,rfl,by rw [ez];exact h1.symm,fun j hj=>absurd hj (Nat.not_lt_zero _),fun j hj=>absurd hj (Nat.not_lt_zero _),by rw [ez];exact FBOk.start,by rw [ez];exact hM.at_ hS (by simp),by rw [ez];exact hS.keep K (fun q hq=>by simp [hq])⟩) ?_
 clear hS
 rintro m l W ⟨i,la,fa,ba,lc,fc,bc,ll,F,Y,hi,rfl,rfl,hll,hrows,hno,hFB,hM2,hS⟩
 have hS:=hS.markK hM2
 have hqr:fJ (cK ta.fa tb.fa g) id (i * ta.k):=fun q hq=>by
  obtain ⟨d1,_,d3⟩:=dW hq
  exact Nat.lt_of_lt_of_le (hrows _ d1) (fH d3)
 obtain ⟨hq1,hq2⟩:=mG (cm:=ta.n * tb.n) hA (fun _=>hqr) (fun h0=>by have h9:ta.k=0:=h0;rw [h9,Nat.mul_zero]) (fun x hx=>hx)
 refine aE (aE (aL (aA rfl rfl (aA rfl rfl (bF rfl rfl (aT (o':=7) jV rfl rfl rfl (aN isAgg91 rfl (aC (hS.at_ 0 rfl) rfl) rfl (bQ underlying91 rfl rfl (bW rfl rfl rfl (aI (XF.thenN (bR rfl (fun hc=>?_) (fun hc=>?_)))))))))))))
 ·have hc17:=of_decide_eq_true hc;clear hc
  obtain ⟨c,hcE⟩:∃ c,(qm (cK ta.fa tb.fa g) id (i * ta.k)).getD i 0=c:=⟨_,rfl⟩
  have hcx:(qm (cK ta.fa tb.fa g) id (i * ta.k))[i]?=some c:=by rw [← hcE,List.getD_eq_getElem?_getD,List.getElem?_eq_getElem (by omega)];rfl
  have hc9:c < ta.n * tb.n:=hq2 _ (List.mem_of_getElem? hcx)
  obtain ⟨hsta,hstb,_⟩:=dW hc9
  obtain ⟨lb,rfl⟩:=fK (hS.row 0 rfl) (by omega)
  refine bT (XF.thenN (aE (bE (aE (aL (aA rfl rfl (bF rfl rfl (aT (o':=7) jV rfl rfl rfl (aN isAgg91 rfl (aC (hS.at_ 0 rfl) rfl) rfl (aA rfl rfl (aQ (j:=i) (b:=lb) (o:=0) (m:=ll) (c:=lc) underlying91 sizeOf95 rfl rfl rfl (by omega) rfl rfl (bP (vs:=[_,_]) isAgg95 sizeOf95 rfl (rV (f:=prc tb.n) (cs:=qm (cK ta.fa tb.fa g) id (i * ta.k)) (hS.row 0 rfl) (fun x=>⟨_,_,rfl⟩) hcx) rfl (cV (cs:=[_,_]) hS zeroValue95 rfl rfl fun B1 W1 hS=>cL (i:=0) (vs:=[_,_]) (cs':=[_,_]) (O':=(_::_::Ot)) hS sizeOf95 rfl rfl rfl rfl rfl rfl rfl fun W2 hS=>aI (XF.thenN (aE (aE ?_))))))))))))))))
  obtain ⟨ab,ao,haa,hac⟩:=gD.get (hB hS (fun q hq=>by simp [hKt q hq])).1.2 (i:=(c / tb.n)) (by rw [hTta.bl];exact hsta)
  obtain ⟨bb,bo,hba,hbc⟩:=gD.get (hB hS (fun q hq=>by simp [hKt q hq])).2.2 (i:=(c % tb.n)) (by rw [hTtb.bl];exact hstb)
  refine kS (m:=20) cC hS (by kernel_rfl) (by kernel_rfl) rfl (bY 1 rfl 1 rfl rfl (fun w hw=>aU rfl) rfl (bY 2 rfl 0 rfl rfl (fun w hw=>aU rfl) rfl (bL 3 rfl 28 1 rfl rfl rfl (fun w hw=>bI rfl) rfl (bL 4 rfl 29 2 rfl rfl rfl (fun w hw=>bG (o':=0) vE rfl rfl) rfl (bL 5 rfl 30 3 rfl rfl rfl (fun w hw=>bG (o':=2) fT rfl rfl) rfl (bL 6 rfl 31 4 rfl rfl rfl (fun w hw=>bB isAgg23 rfl ((aR hw 0).cell (Nat.zero_le _) (aC (hS.at_ 1 rfl) rfl))) rfl (bY 7 rfl 7 rfl rfl (fun w hw=>gW (j:=0) (o':=0) underlying95 sizeOf21 rfl rfl rfl (by decide) rfl) rfl (bL 8 rfl 33 6 rfl rfl rfl (fun w hw=>bB isAgg21 rfl ((aR hw 0).cell (Nat.zero_le _) (aC (hS.at_ 0 rfl) rfl))) rfl ?_))))))))
  refine bH 9 rfl (isV _) (aZ _) (rgV (li:=[(32,_),(34,_)]) rfl (aK rfl) ⟨aJ 5 (aG rfl rfl rfl),aJ 7 (aG rfl rfl rfl),trivial⟩ (fun w hw=>bM (j:=(c / tb.n)) (b:=ab) (o:=ao) (m:=ta.n) (c:=ta.ac) underlying23 sizeOf4 (by show some (Value.slice ta.aa _ _)=_;rw [haa]) rfl rfl (by omega) rfl) (aH rfl)) ?_
  refine bL 10 rfl 35 8 rfl rfl rfl (fun w hw=>bB isAgg4 rfl ((aR hw 0).cell (Nat.zero_le _) (hac))) rfl (bY 11 rfl 0 rfl rfl (fun w hw=>aU rfl) rfl (bL 12 rfl 37 10 rfl rfl rfl (fun w hw=>bI rfl) rfl (bL 13 rfl 38 11 rfl rfl rfl (fun w hw=>bG (o':=3) vF rfl rfl) rfl (bL 14 rfl 39 12 rfl rfl rfl (fun w hw=>bG (o':=5) fT rfl rfl) rfl (bL 15 rfl 40 13 rfl rfl rfl (fun w hw=>bB isAgg23 rfl ((aR hw 0).cell (Nat.zero_le _) (aC (hS.at_ 1 rfl) rfl))) rfl (bY 16 rfl 7 rfl rfl (fun w hw=>gW (j:=1) (o':=1) underlying95 sizeOf21 rfl rfl rfl (by decide) rfl) rfl (bL 17 rfl 42 15 rfl rfl rfl (fun w hw=>bB isAgg21 rfl ((aR hw 0).cell (Nat.zero_le _) (aC (hS.at_ 0 rfl) rfl))) rfl ?_)))))))
  refine bH 18 rfl (isV _) (aZ _) (rgV (li:=[(41,_),(43,_)]) rfl (aK rfl) ⟨aJ 14 (aG rfl rfl rfl),aJ 16 (aG rfl rfl rfl),trivial⟩ (fun w hw=>bM (j:=(c % tb.n)) (b:=bb) (o:=bo) (m:=tb.n) (c:=tb.ac) underlying23 sizeOf4 (by show some (Value.slice tb.aa _ _)=_;rw [hba]) rfl rfl (by omega) rfl) (aH rfl)) ?_
  refine bL 19 rfl 44 17 rfl rfl rfl (fun w hw=>bB isAgg4 rfl ((aR hw 0).cell (Nat.zero_le _) (hbc))) rfl ?_
  refine bH 20 rfl (isV (.bool (g (tb1 ta ((c / tb.n))) (tb1 tb ((c % tb.n)))))) (aZ _) (xW [isV _,isV _] rfl hgo (aK rfl) (aJ 0 (aG rfl rfl rfl)) ⟨gS (aJ 9 (aG rfl rfl rfl)),gS (aJ 18 (aG rfl rfl rfl)),trivial⟩ (fun vs w' hb hh=>by have e:=fO (us:=[_,_]) hh;subst e;exact (hf _ _ w').mono fun e w2 ⟨h1,h2⟩=>⟨_,h1,rfl,h2⟩) (aH rfl)) ?_
  refine dT ?_
  intro W3 hbR hS'
  clear hS;have hS:=hS';clear hS'
  refine aO (aO (aO (aO (aO (aO (aO (aO (aO (aO (aO (aO (aO (aO (aO (aO (aO (aO (aO (aO (cG (XF.thenN (bR rfl (fun hc=>?_) (fun hc=>?_)))))))))))))))))))))))
  ·have hc46:=hc;clear hc
   refine aE (aL (aA rfl rfl (aA rfl rfl (dM underlying3 underlying21 rfl (by omega) rfl (bZ (vs:=[_,_]) goes_58 rfl (zB (cK ta.fa tb.fa g) (i * ta.k) ta tb PB MB _ _ _ _ _ _ _ _ _ _ _ _ K w0 _ i ((hS.keep K (fun q hq=>by simp [hq])).perm (List.Perm.swap _ _ _)) (mV hqr) hFB hll (by omega) (by omega) hka) rfl ?_)))))
   rintro e W9 ⟨fa9,ba9,wa,wc,Kn,rfl,hkn,hR9,hS9⟩
   refine ⟨_,rfl,?_⟩
   clear hS;have hS:=hS9;clear hS9
   refine aB rfl rfl (aB rfl rfl (aI (XF.thenN (cE (XF.thenR (XF.blkR (XF.thenR (XF.thenR (XF.blkR (XF.thenR (XF.res (mI results40 rfl rfl) ?_)))))))))))
   exact ⟨some _,wa,wc,Kn,oX hqr (show i < (qm (cK ta.fa tb.fa g) id (i * ta.k)).length by omega) hno (show (cK ta.fa tb.fa g).ac ((qm (cK ta.fa tb.fa g) id (i * ta.k)).getD i 0)=true by rw [hcE];exact hc46),rfl,hkn,hR9,hS.tail.tail.tailG.tailG.tailG⟩
  ·have hc46:=hc;clear hc
   refine bT (XF.thenN (aE (kS (m:=9) cC hS (by kernel_rfl) (by kernel_rfl) rfl (bY 1 rfl 0 rfl rfl (fun w hw=>aU rfl) rfl (bL 2 rfl 51 0 rfl rfl rfl (fun w hw=>bI rfl) rfl (bL 3 rfl 52 1 rfl rfl rfl (fun w hw=>bG (o':=3) vF rfl rfl) rfl (bL 4 rfl 53 2 rfl rfl rfl (fun w hw=>fB (vs:=[_,_,_]) isAgg61 sizeOf61 rfl (aX.agree (aR hw 0) (Nat.zero_le _) (aX.own (j:=3) (m:=3) (hS.at_ 1 rfl) rfl))) rfl (bY 5 rfl 7 rfl rfl (fun w hw=>gW (j:=1) (o':=1) underlying95 sizeOf21 rfl rfl rfl (by decide) rfl) rfl (bL 6 rfl 55 4 rfl rfl rfl (fun w hw=>bB isAgg21 rfl ((aR hw 0).cell (Nat.zero_le _) (aC (hS.at_ 0 rfl) rfl))) rfl (bL 7 rfl 56 5 rfl rfl rfl (fun w hw=>lQ underlying21 underlying3 rfl (zC hstb hnb)) rfl ?_))))))))))
   refine bH 8 rfl (isV (.slice (hZ tb.na tb.nc ((c % tb.n) * tb.k) 1) tb.k (tb.nc - (c % tb.n) * tb.k))) (aZ _) (pI [isV _,isV _] rfl mW (aK rfl) ⟨gS (aJ 3 (aG rfl rfl rfl)),gS (aJ 6 (aG rfl rfl rfl)),trivial⟩ (fun vs w' hb hh=>by have e:=fO (us:=[_,_]) hh;subst e;exact (qD tb (c % tb.n) w' hTtb hstb).mono fun e w2 ⟨h1,h2⟩=>⟨_,h1,rfl,h2⟩) (aH rfl)) ?_
   refine bL 9 rfl 58 7 rfl rfl rfl (fun w hw=>dC rfl) rfl (dT ?_)
   intro W4 hbR hS'
   clear hS;have hS:=hS';clear hS'
   refine aO (aO (aO (aO (aO (aO (aO (aO (aO (cG (XF.thenN (aE (kS (m:=10) cC hS (by kernel_rfl) (by kernel_rfl) rfl (bY 1 rfl 0 rfl rfl (fun w hw=>aU rfl) rfl (bL 2 rfl 59 0 rfl rfl rfl (fun w hw=>bI rfl) rfl (bL 3 rfl 60 1 rfl rfl rfl (fun w hw=>bG (o':=0) vE rfl rfl) rfl (bL 4 rfl 61 2 rfl rfl rfl (fun w hw=>fB (vs:=[_,_,_]) isAgg61 sizeOf61 rfl (aX.agree (aR hw 0) (Nat.zero_le _) (aX.own (j:=0) (m:=3) (hS.at_ 1 rfl) rfl))) rfl (bY 5 rfl 7 rfl rfl (fun w hw=>gW (j:=0) (o':=0) underlying95 sizeOf21 rfl rfl rfl (by decide) rfl) rfl (bL 6 rfl 63 4 rfl rfl rfl (fun w hw=>bB isAgg21 rfl ((aR hw 0).cell (Nat.zero_le _) (aC (hS.at_ 0 rfl) rfl))) rfl (bL 7 rfl 64 5 rfl rfl rfl (fun w hw=>lQ underlying21 underlying3 rfl (zC hsta hna)) rfl ?_)))))))))))))))))))
   refine bH 8 rfl (isV (.slice (hZ ta.na ta.nc ((c / tb.n) * ta.k) 1) ta.k (ta.nc - (c / tb.n) * ta.k))) (aZ _) (pI [isV _,isV _] rfl mW (aK rfl) ⟨gS (aJ 3 (aG rfl rfl rfl)),gS (aJ 6 (aG rfl rfl rfl)),trivial⟩ (fun vs w' hb hh=>by have e:=fO (us:=[_,_]) hh;subst e;exact (qD ta (c / tb.n) w' hTta hsta).mono fun e w2 ⟨h1,h2⟩=>⟨_,h1,rfl,h2⟩) (aH rfl)) ?_
   refine bL 9 rfl 66 7 rfl rfl rfl (fun w hw=>lJ underlying59 rfl) rfl (bH 10 rfl (isV _) (aZ _) (rgV (li:=[]) rfl (aK rfl) trivial (fun w hw=>aU rfl) (aH rfl)) (dT ?_))
   intro W5 hbR hS'
   clear hS;have hS:=hS';clear hS'
   refine aO (aO (aO (aO (aO (aO (aO (aO (aO (aO (cG (XF.thenN (bE (cJ (fun m l W=>∃ (x:Nat) (la fa ba:Option Addr) (lc fc bc ll:Nat) (F Y:List Int),x≤ta.k∧m=ta.k - x∧l=[(0,.pointer (some ⟨PB,0,none⟩)),(1,.func (.func f) #[] #[]),(6,.int .i64 (i:Int)),(8,.slice (hZ tb.na tb.nc ((c % tb.n) * tb.k) 1) tb.k (tb.nc - (c % tb.n) * tb.k)),(66,.slice (hZ ta.na ta.nc ((c / tb.n) * ta.k) 1) ta.k (ta.nc - (c / tb.n) * ta.k)),(67,.int .i64 (ta.k:Int)),(68,.int .i64 (x:Int))]∧(qm (cK ta.fa tb.fa g) id (i * ta.k+x)).length=ll∧FBOk (qfb (cK ta.fa tb.fa g) (i * ta.k+x)) F Y∧MkP tb.n (qm (cK ta.fa tb.fa g) id (i * ta.k+x)) MB W∧St w0 ((B1,prc tb.n c,95)::(PB,prC ta tb MB (.slice la (ll) lc) (.slice fa (ll) fc) (.slice ba (ll) bc),93)::Ot) (⟨.slice la (ll) lc,ll,prs tb.n (qm (cK ta.fa tb.fa g) id (i * ta.k+x)),95,2⟩::⟨.slice fa (ll) fc,ll,dB (F),21,1⟩::⟨.slice ba (ll) bc,ll,dB (Y),21,1⟩::G) K W) (ta.k - 0) ([(0,_),(1,_),(6,_),(8,_),(66,_),(67,_),(68,_)]) ⟨rfl,rfl,rfl,rfl,rfl,rfl,rfl,trivial⟩ (⟨0,some ⟨lb,0,none⟩,fa,ba,lc,fc,bc,ll,F,Y,Nat.zero_le _,rfl,rfl,hll,hFB,hM2.at_ hS (by simp),hS.keep K (fun q hq=>by simp [hq])⟩) ?_)))))))))))))
   clear hS
   have hil:i < ll:=by omega
   clear hi
   rintro m l W ⟨x,la,fa,ba,lc,fc,bc,ll2,F,Y,hx,rfl,rfl,hll2,hFB,hM2,hS⟩
   have hS:=hS.markK hM2
   refine aE (aL (bW rfl rfl rfl (aI (XF.thenN (aE (bR rfl (fun hc=>?_) (fun hc=>?_)))))))
   ·have hc69:=of_decide_eq_true hc;clear hc
    have hx9:x < ta.k:=by omega
    have hixta:=hTta.ix hsta hx9
    have hixtb:=hTtb.ix hstb (show x < tb.k by omega)
    have hcta:=hTta.cap
    have hctb:=hTtb.cap
    obtain ⟨cb,co,hcu,hc5⟩:=((hB hS (fun q hq=>by simp [hKt q hq])).1.1.cut (i:=(c / tb.n) * ta.k) (L:=ta.k) (c:=ta.nc) (by rw [hTta.len];exact hixta.2) (by omega)).get (i:=x) (by rw [List.length_take,List.length_drop,hTta.len];omega)
    rw [eN (by omega)] at hc5
    have hc5:W.cell? ⟨cb,co+x * 1,none⟩=some (.int .i32 ((ta.fa.nx (c / tb.n) x:Nat):Int)):=hc5
    obtain ⟨cb2,co2,hcu2,hc6⟩:=((hB hS (fun q hq=>by simp [hKt q hq])).2.1.cut (i:=(c % tb.n) * tb.k) (L:=tb.k) (c:=tb.nc) (by rw [hTtb.len];exact hixtb.2) (by omega)).get (i:=x) (by rw [List.length_take,List.length_drop,hTtb.len];omega)
    rw [eN (by omega)] at hc6
    have hc6:W.cell? ⟨cb2,co2+x * 1,none⟩=some (.int .i32 ((tb.fa.nx (c % tb.n) x:Nat):Int)):=hc6
    have hna9:ta.fa.nx (c / tb.n) x < ta.n:=hTta.fa.t0_ _ _ hsta hx9
    have hnb9:tb.fa.nx (c % tb.n) x < tb.n:=hTtb.fa.t0_ _ _ hstb (show x < tb.k by omega)
    refine bT (XF.thenN (aE (bE (aE (aL (aA rfl rfl ?_))))))
    refine aQ (j:=x) (b:=cb) (o:=co) (m:=ta.k) (c:=ta.nc - (c / tb.n) * ta.k) underlying59 sizeOf21 (by show some (Value.slice (hZ _ _ _ _) _ _)=_;rw [hcu]) rfl rfl (by omega) rfl rfl ?_
    refine aN isAgg21 rfl (hc5) rfl (aB rfl rfl (aB rfl rfl (aI (XF.thenN (aL (aA rfl rfl (aA rfl rfl (aA rfl rfl (aA rfl rfl ?_)))))))))
    refine aQ (j:=x) (b:=cb2) (o:=co2) (m:=tb.k) (c:=tb.nc - (c % tb.n) * tb.k) underlying59 sizeOf21 (by show some (Value.slice (hZ _ _ _ _) _ _)=_;rw [hcu2]) rfl rfl (by omega) rfl rfl ?_
    refine aN isAgg21 rfl (hc6) rfl (fC (us:=[(0,.int .i32 _),(1,.int .i32 _)]) rfl (bldP9 _ _) rfl (aA rfl rfl (dM underlying3 underlying21 rfl (by omega) rfl (aA rfl rfl (dM underlying3 underlying21 rfl (by omega) rfl ?_)))))
    obtain ⟨d1,d2⟩:=fG (i:=i) hx9
    obtain ⟨f1,f2⟩:=fG (i:=ta.fa.nx (c / tb.n) x) hnb9
    have hqr2:fJ (cK ta.fa tb.fa g) id (i * ta.k+x):=fun q hq=>by
     rcases Nat.lt_or_ge q (i * ta.k) with h9 | h9
     ·exact hqr q h9
     ·have h8:q / ta.k=i:=by
       rw [show q=i * ta.k+(q - i * ta.k) by omega];exact (fG (by omega)).1
      rw [show q / (cK ta.fa tb.fa g).k=i from h8]
      exact Nat.lt_of_lt_of_le (by omega) (fH h9)
    obtain ⟨hq3,hq4⟩:=mG (cm:=ta.n * tb.n) hA (fun _=>hqr2) (fun h0=>absurd (show ta.k=0 from h0) (by omega)) (fun x hx=>hx)
    have hnc:ncd (cK ta.fa tb.fa g) (i * ta.k+x)=(ta.fa.nx (c / tb.n) x * tb.n+tb.fa.nx (c % tb.n) x):=by
     show (cK ta.fa tb.fa g).nx ((qm (cK ta.fa tb.fa g) id (i * ta.k+x)).getD ((i * ta.k+x) / ta.k) 0) ((i * ta.k+x) % ta.k)=_
     rw [d1,d2,fI (Nat.le_add_right _ _) (show i < (qm (cK ta.fa tb.fa g) id (i * ta.k)).length by omega),hcE];rfl
    refine bZ (vs:=[_,_,_,_]) vD rfl (oZ ta tb PB MB _ _ _ _ _ _ ll2 _ _ _ _ _ K w0 _ (ta.fa.nx (c / tb.n) x * tb.n+tb.fa.nx (c % tb.n) x) _ _ ((hS.keep K (fun q hq=>by simp [hq])).perm (List.Perm.swap _ _ _)) hM2 hMb hMK hll2 (by omega) (by rw [f1];omega) (by rw [f2];omega) _ _ (by rw [f1]) (by rw [f2])) rfl ?_
    rintro e W9 ⟨la9,fa9,ba9,lc9,fc9,bc9,ll9,hll9,rfl,hM9,hS9⟩
    refine ⟨_,rfl,?_⟩
    clear hS;have hS:=hS9.perm (List.Perm.swap _ _ _);clear hS9
    refine aI (XF.blkN (XF.thenN (aL (bV rfl rfl (IntWalk.i64_in _ (by omega)) rfl (aA rfl rfl (aI ?_))))))
    have hqm:qm (cK ta.fa tb.fa g) id (i * ta.k+x+1)=mtS id (qm (cK ta.fa tb.fa g) id (i * ta.k+x)) (ta.fa.nx (c / tb.n) x * tb.n+tb.fa.nx (c % tb.n) x):=by rw [show i * ta.k+x+1=(i * ta.k+x)+1 from rfl,yG];show mtS id _ (ncd (cK ta.fa tb.fa g) (i * ta.k+x))=_;rw [hnc]
    have hFB9:=hFB.step (by rw [(BI.all (.inl (show 0 < ta.k by omega)) hqr2).lf];exact iP _)
    rw [hnc] at hFB9
    rw [show ((i * ta.k+x) / (cK ta.fa tb.fa g).k)=i from d1,show ((i * ta.k+x) % (cK ta.fa tb.fa g).k)=x from d2] at hFB9
    rw [← hqm] at hll9 hM9 hS
    exact XF.round (ta.k - (x+1)) [(0,_),(1,_),(6,_),(8,_),(66,_),(67,_),(68,_)] (by omega) ⟨rfl,rfl,rfl,rfl,rfl,rfl,rfl,trivial⟩ ⟨x+1,la9,fa9,ba9,lc9,fc9,bc9,ll9,_,_,by omega,rfl,rfl,hll9,hFB9,hM9,hS.keep K (fun q hq=>by simp [hq])⟩
   ·have hc69:=of_decide_eq_false hc;clear hc
    have exk:x=ta.k:=by omega
    have es:(i+1) * ta.k=i * ta.k+x:=by rw [Nat.succ_mul,exk]
    have hle9:i * ta.k≤(i+1) * ta.k:=Nat.mul_le_mul_right _ (Nat.le_succ i)
    have hll3:ll≤ll2:=by rw [← hll,← hll2,← es];exact fH hle9
    rw [← es] at hll2 hFB hM2 hS
    have hno2:∀ j,j < i+1→(cK ta.fa tb.fa g).ac ((qm (cK ta.fa tb.fa g) id ((i+1) * ta.k)).getD j 0)=false:=fun j hj=>by
     rw [fI hle9 (show j < (qm (cK ta.fa tb.fa g) id (i * ta.k)).length by omega)]
     rcases Nat.lt_or_ge j i with h9 | h9
     ·exact hno j h9
     ·rw [show j=i by omega,hcE];exact hc46
    refine cI (XF.thenX (XF.thenX (XF.blkX (XF.blkN (XF.thenN (aL (aA rfl rfl (bV rfl rfl (IntWalk.i64_in _ (by omega)) rfl (aB rfl rfl (aI ?_))))))))))
    exact XF.round (1048576 - (i+1)) [(0,_),(1,_),(6,_)] (by omega) ⟨rfl,rfl,rfl,trivial⟩ ⟨i+1,la,fa,ba,lc,fc,bc,ll2,F,Y,by omega,rfl,rfl,hll2,fun j hj=>(by
     rcases Nat.lt_or_ge j i with h9 | h9
     ·exact hrows j h9
     ·rw [show j=i by omega,hll];exact hil),hno2,hFB,hM2.at_ hS (by simp),hS.tail.keep K (fun q hq=>by simp [hq])⟩
 ·have hc17:=of_decide_eq_false hc;clear hc
  refine cI (XF.thenX (XF.thenX (XF.blkX (XF.thenN (aE (aL (aB rfl rfl (aB rfl rfl (aI (XF.thenN (cE (XF.res (mI results40 rfl rfl) ?_))))))))))))
  exact ⟨none,none,0,K,sH hqr (show (qm (cK ta.fa tb.fa g) id (i * ta.k)).length≤i by omega) hno,rfl,fun q hq=>hq,fun _ _=>.inl rfl,(hS.keep K (fun q hq=>by simp [hq])).tail.tailG.tailG.tailG⟩
theorem goes_39:cD prog 39=true:=by kernel_rfl
theorem goes_40:cD prog 40=true:=by kernel_rfl
theorem goes_41:cD prog 41=true:=by kernel_rfl
theorem FW.congr {A B:FA}:∀ {r:Option (List Nat)},FW A r→A.k=B.k→Eqv A 0 B 0→FW B r
 | none,h,hk,he=>fun u hu=>by rw [← he u (hk▸hu)];exact h u (hk▸hu)
 | some w,h,hk,he=>⟨hk▸h.1,by rw [← he w h.1];exact h.2.1,fun u hu ha=>by
  have hu2:Wd A.k u:=hk▸hu
  rw [← hk]
  exact h.2.2 u hu2 (by rw [he u hu2];exact ha)⟩
theorem zE {A B A' B':FA} {g:Bool→Bool→Bool} (hA:A.Ok) (hB:B.Ok) (hA':A'.Ok) (hB':B'.Ok) (hk:A.k=B.k) (h1:A.k=A'.k) (h2:B.k=B'.k) (ea:Eqv A 0 A' 0) (eb:Eqv B 0 B' 0):Eqv (cK A B g) 0 (cK A' B' g) 0:=fun u hu=>by
 have hu:Wd A.k u:=hu
 rw [oC hA hB hk hu,oC hA' hB' (by omega) (by rw [← h1];exact hu),ea u hu,eb u (by rw [← hk];exact hu)]
theorem LeT.kk {da db:DV} {qa qb:TB} (ha:LeT da qa) (hb:LeT db qb) (h:da.sy=db.sy):qa.fa.k=qb.fa.k:=by
 have h1:=ha.k
 have h2:=hb.k
 show qa.k=qb.k
 omega
theorem LeT.kd {d:DV} {q:TB} (h:LeT d q):q.fa.k=(dFA d).k:=by
 have h1:=h.k
 show q.k=d.sy.toNat
 omega
theorem LeT.first {da db:DV} {qa qb:TB} {g:Bool→Bool→Bool} (ha:LeT da qa) (hb:LeT db qb) (hs:da.sy=db.sy) {r:Option (List Nat)} (h:FW (cK qa.fa qb.fa g) r):FW (cK (dFA da) (dFA db) g) r :=
 h.congr ha.kd (zE ha.ok.fa hb.ok.fa ha.dok hb.dok (ha.kk hb hs) ha.kd hb.kd ha.eqv hb.eqv)
theorem wO (x y:Bool) (w:World) :
  Calls prog 41 #[.bool x,.bool y] w (fun e w'=>e = .returned (.bool x)∧Below w.heap.size w w'):=by
 refine cP (args:=[.bool x,.bool y]) func41 rfl ntmps41 rfl ?_
 have hS:=St.start w
 refine aE (aL (aB rfl rfl (aI (XF.thenN (aE (aL (aA rfl rfl (aB rfl rfl (aI (XF.thenN (cE (XF.res (dG results41 rfl) ?_))))))))))))
 exact ⟨rfl,hS.below⟩
theorem lY (da:DV) (Kt:List (Nat×World)) (Ot:Own) (G:bJ) (K:List (Nat×World)) (w0 w:World) (hS0:St w0 Ot G K w) (hKt:∀ q∈Kt,q∈K) (hDa:dD w0 Kt (fun W=>DIn W da)) :
  Calls prog 21 #[da.val] w (fun e w'=>∃ (r:Option (List Nat)) (wa:Option Addr) (wc:Nat) (Kn:List (Nat×World)),(cO da=0→FW (dFA da) r)∧(cO da≠0→r=none)∧e = .returned (.tuple #[.slice wa (r.getD []).length wc,.bool r.isSome,.int .i64 (cO da)])∧(∀ q∈K,q∈Kn)∧dD w0 Kn (fun W=>Row W wa (wI (r.getD [])))∧St w0 Ot G Kn w'):=by
 refine cP (args:=[da.val]) func21 rfl ntmps21 rfl ?_
 have hS:=hS0
 refine aE (aL (dA (cs:=[_,_,_]) hS rfl rfl rfl fun B1 W1 hS=>aB rfl rfl (aB rfl rfl (aB rfl rfl (aI (XF.thenN (aE (aE (aL (bP (vs:=[_,_,_]) isAgg25 sizeOf25 rfl (aX.own (j:=0) (m:=3) (hS.at_ 0 rfl) rfl) rfl (bZ (vs:=[_]) lD rfl (lA da _ (hDa (hS.keep K (fun q hq=>by simp [hq])) hKt)) rfl ?_)))))))))))
 rintro e W9 ⟨rfl,hb9⟩
 refine ⟨_,rfl,?_⟩
 have hS':=hS.grow hb9;clear hS;have hS:=hS';clear hS'
 refine aB rfl rfl (aI (XF.thenN (aE (aL (aA rfl rfl (fN rfl rfl rfl (aI (XF.thenN (bR rfl (fun hc=>?_) (fun hc=>?_))))))))))
 ·have hc11:=of_decide_eq_true hc;clear hc
  refine aE (aL (aA rfl rfl (aB rfl rfl (aB rfl rfl (aB rfl rfl (aI (XF.thenN (cE (XF.thenR (XF.res (mK results21 rfl rfl rfl) ?_))))))))))
  exact ⟨none,none,0,K,fun h=>absurd h hc11,fun _=>rfl,rfl,fun q hq=>hq,fun _ _=>.inl rfl,(hS.keep K (fun q hq=>by simp [hq])).tail⟩
 ·have hc11:=of_decide_eq_false hc;clear hc
  have h0:cO da=0:=Decidable.of_not_not hc11
  obtain ⟨k,hk,_⟩:=dU h0
  refine bT (XF.thenN (aE (aL (bP (vs:=[_,_,_]) isAgg25 sizeOf25 rfl (aX.own (j:=0) (m:=3) (hS.at_ 0 rfl) rfl) rfl (bP (vs:=[_,_,_]) isAgg25 sizeOf25 rfl (aX.own (j:=0) (m:=3) (hS.at_ 0 rfl) rfl) rfl (bZ (vs:=[_,_]) goes_39 rfl (sQ da da k Kt _ _ K w0 _ (hS.keep K (fun q hq=>by simp [hq])) hKt hDa hDa hk hk h0 h0) rfl ?_))))))
  rintro e W9 ⟨qda,qdb,PB,MB,ll,la,fa,ba,lc,fc,bc,K1,hll,rfl,hLa,hLb,hk1,hTB,hM9,hMb,hMK,hS9⟩
  refine ⟨_,rfl,?_⟩
  clear hS;have hS:=hS9;clear hS9
  refine bZ (vs:=[_,_]) goes_40 rfl (wN qda qdb (fun x y=>x) 41 PB MB ll la fa ba lc fc bc K1 _ _ K1 w0 _ goes_41 wO hll hS hLa.ok hLb.ok hLa.n4 hLb.n4 (hLa.kk hLb rfl) (fun q hq=>hq) hTB hM9 hMb hMK) rfl ?_
  rintro e W9 ⟨r,wa,wc,K2,hFW,rfl,hk2,hR,hS9⟩
  refine ⟨_,rfl,?_⟩
  clear hS;have hS:=hS9;clear hS9
  refine aA rfl rfl (bC rfl rfl rfl (bC rfl rfl rfl (aB rfl rfl (aB rfl rfl (aI (XF.thenN (aE (aL (aA rfl rfl (aA rfl rfl (aB rfl rfl (aB rfl rfl (aB rfl rfl (aI (XF.thenN (cE (XF.res (mK results21 rfl rfl rfl) ?_)))))))))))))))))
  exact ⟨r,wa,wc,K2,fun _=>(hLa.first hLb rfl hFW).congr rfl (fun u hu=>oC hLa.dok hLa.dok rfl hu),fun h=>absurd h0 h,by rw [h0];rfl,fun z hz=>hk2 z (hk1 z hz),hR,(hS.keep K2 (fun q hq=>by simp [hq])).tail⟩
theorem vG:prog.info? 2=some Try.t2:=by kernel_rfl
def MW9:Nat:=1099511627776
def b2n (b:Bool):Nat:=if b then 1 else 0
def jN (v:List Nat) (xs:List Int):Nat:=(xs.map (fun y=>gN v y.toNat)).sum
def cvE (d:DV) (v:List Nat) (s:Nat):Nat:=(d.ns[s]?).elim 0 (fun r=>min (jN v r.xs) MW9)
def cv (d:DV):Nat→List Nat
 | 0=>d.bs.map b2n
 | j+1=>(List.range d.nl).map (cvE d (cv d j))
def gA (d:DV) (n:Int):Int×Int:=if cO d≠0 then (0,cO d) else if n < 0∨10000 < n then (0,5) else (((gN (cv d n.toNat) 0:Nat):Int),0)
abbrev zF (p:Int×Int):Value:=.tuple #[.int .i64 p.1,.int .i64 p.2]
theorem pA {v:List Nat} {xs:List Int} {x:Nat} {y:Int} (h:xs[x]?=some y):jN v (xs.take (x+1))=jN v (xs.take x)+gN v y.toNat:=by
 unfold jN;rw [List.take_add_one,h];simp
theorem zG {v:List Nat} {M:Nat} (h:∀ y∈v,y≤M) (i:Nat):gN v i≤M:=by
 unfold gN
 rw [List.getD_eq_getElem?_getD]
 cases e:v[i]? with
 | none=>exact Nat.zero_le _
 | some y=>exact h y (List.mem_of_getElem? e)
theorem vH {v:List Nat} {M:Nat} (h:∀ y∈v,y≤M):∀ (xs:List Int),jN v xs≤xs.length * M
 | []=>by simp [jN]
 | y::xs=>by
  have h1:=vH h xs
  have h2:=zG h y.toNat
  unfold jN at h1 ⊢
  rw [List.map_cons,List.sum_cons,List.length_cons,Nat.succ_mul];omega
theorem zH {d:DV} (hl:d.bs.length=d.nl):∀ j,(cv d j).length=d.nl
 | 0=>by unfold cv;rw [List.length_map];exact hl
 | j+1=>by unfold cv;simp
theorem cv_le {d:DV}:∀ j,∀ y∈cv d j,y≤MW9
 | 0,y,hy=>by
  obtain ⟨b,_,rfl⟩:=List.mem_map.1 hy
  unfold b2n MW9;split<;>omega
 | j+1,y,hy=>by
  obtain ⟨s,_,rfl⟩:=List.mem_map.1 hy
  unfold cvE
  cases d.ns[s]? with
  | none=>exact Nat.zero_le _
  | some r=>exact Nat.min_le_right _ _
def cz (d:DV) (i:Nat):List Nat:=(d.bs.take i).map b2n++List.replicate (d.nl - i) 0
theorem zI {d:DV} {i:Nat} (hl:d.bs.length=d.nl) (h:i≤d.nl):(cz d i).length=d.nl:=by unfold cz;simp;omega
theorem vI {d:DV}:cz d 0=List.replicate d.nl 0:=by unfold cz;simp
theorem zJ {d:DV} (hl:d.bs.length=d.nl):cz d d.nl=cv d 0:=by unfold cz cv;rw [Nat.sub_self,List.take_of_length_le (by omega)];simp
theorem zK {d:DV} {i:Nat} (hl:d.bs.length=d.nl) (h:i < d.nl) (hb:d.bs[i]?=some true):(cz d i).set i 1=cz d (i+1):=by
 unfold cz
 obtain ⟨m,hm⟩:∃ m,d.nl - i=m+1:=⟨d.nl - i - 1,by omega⟩
 rw [hm,show d.nl - (i+1)=m by omega,List.replicate_succ,List.set_append_right _ _ (by simp;omega),List.length_map,List.length_take,Nat.min_eq_left (by omega),Nat.sub_self,List.set_cons_zero,List.take_add_one,hb]
 simp [b2n]
theorem cz_no {d:DV} {i:Nat} (hl:d.bs.length=d.nl) (h:i < d.nl) (hb:d.bs[i]?=some false):cz d i=cz d (i+1):=by
 unfold cz
 obtain ⟨m,hm⟩:∃ m,d.nl - i=m+1:=⟨d.nl - i - 1,by omega⟩
 rw [hm,show d.nl - (i+1)=m by omega,List.replicate_succ,List.take_add_one,hb]
 simp [b2n]
def lz (d:DV) (v ys:List Nat) (s:Nat):List Nat:=(List.range s).map (cvE d v)++ys.drop s
theorem lz_len {d:DV} {v ys:List Nat} {s:Nat} (h:s≤ys.length):(lz d v ys s).length=ys.length:=by unfold lz;simp;omega
theorem vJ {d:DV} {v ys:List Nat}:lz d v ys 0=ys:=by unfold lz;simp
theorem zL {d:DV} {ys:List Nat} {j:Nat} (h:ys.length=d.nl):lz d (cv d j) ys d.nl=cv d (j+1):=by unfold lz;rw [← h,List.drop_length,List.append_nil,h];rfl
theorem lz_set {d:DV} {v ys:List Nat} {s:Nat} (h:s < ys.length):(lz d v ys s).set s (cvE d v s)=lz d v ys (s+1):=by
 unfold lz
 rw [List.set_append_right _ _ (by simp),List.length_map,List.length_range,Nat.sub_self,List.drop_eq_getElem_cons h,List.set_cons_zero,List.range_succ,List.map_append,List.append_assoc];rfl
theorem lE {l:List Nat} {i:Nat} (h:i < l.length):(i64n l)[0+i * 1]?=some (.int .i64 ((gN l i:Nat):Int)):=by rw [Nat.zero_add,Nat.mul_one];exact oD h
theorem kO (d:DV) (n:Int) (w:World) (hd:DIn w d) :
  Calls prog 23 #[d.val,.int .i64 n] w (fun e w'=>e = .returned (zF (gA d n))∧Below w.heap.size w w'):=by
 refine cP (args:=[d.val,.int .i64 n]) func23 rfl ntmps23 rfl ?_
 have hS:=St.start w
 refine aE (aL (dA (cs:=[_,_,_]) hS rfl rfl rfl fun B1 W1 hS=>aB rfl rfl (aB rfl rfl (aI (XF.thenN (aE (aE (aL (bP (vs:=[_,_,_]) isAgg25 sizeOf25 rfl (aX.own (j:=0) (m:=3) (hS.at_ 0 rfl) rfl) rfl (cW (vs:=[_]) hS lD rfl (lA d _ (hd.below hS.below)) rfl fun W2 hS=>aB rfl rfl (aI (XF.thenN (aE (aL (aA rfl rfl (fN rfl rfl rfl (aI (XF.thenN (bR rfl (fun hc=>?_) (fun hc=>?_))))))))))))))))))))
 ·have hc19:=of_decide_eq_true hc;clear hc
  refine aE (aL (aA rfl rfl (aB rfl rfl (aB rfl rfl (aI (XF.thenN (cE (XF.thenR (XF.res (mI results23 rfl rfl) ?_)))))))))
  exact ⟨by rw [show gA d n=_ from if_pos hc19],hS.below⟩
 ·have hc19:=of_decide_eq_false hc;clear hc
  have he:cO d=0:=Decidable.of_not_not hc19
  obtain ⟨k,hk,h1,h2,h3,h4,h5,h6⟩:=dU he
  have hbl:d.bs.length=d.nl:=by have:=hd.alen;omega
  refine bT (XF.thenN (aE (aE (aL (aA rfl rfl (bW rfl rfl rfl (aA rfl rfl (bO (d:=23) rfl (fun hc=>?_) (fun hc=>?_)))))))))
  ·have hg23:=of_decide_eq_true hc;clear hc
   refine aP (d:=23) rfl rfl rfl rfl (aP (d:=23) rfl rfl rfl rfl (bD rfl rfl rfl (aI (XF.thenN (fA rfl (aE (aL (aB rfl rfl (aB rfl rfl (aI (XF.thenN (cE (XF.thenR (XF.res (mI results23 rfl rfl) ?_))))))))))))))
   exact ⟨by rw [show gA d n=_ from (if_neg hc19).trans (if_pos (by omega))],hS.below⟩
  ·have hg23:=of_decide_eq_false hc;clear hc
   refine aD (d:=23) rfl rfl (aA rfl rfl (aD (d:=23) rfl rfl (eT rfl rfl rfl (cY rfl rfl rfl (aI (XF.thenN (bR rfl (fun hc=>?_) (fun hc=>?_))))))))
   ·have hc26:=of_decide_eq_true hc;clear hc
    refine aE (aL (aB rfl rfl (aB rfl rfl (aI (XF.thenN (cE (XF.thenR (XF.res (mI results23 rfl rfl) ?_))))))))
    exact ⟨by rw [show gA d n=_ from (if_neg hc19).trans (if_pos (by omega))],hS.below⟩
   ·have hc26:=of_decide_eq_false hc;clear hc
    obtain ⟨N,rfl⟩:∃ N:Nat,n=(N:Int):=⟨n.toNat,by omega⟩
    refine bT (XF.thenN (aE (aL (aT (o':=1) cR rfl rfl rfl (aN isAgg22 rfl (aC (hS.at_ 0 rfl) rfl) rfl (bQ underlying22 rfl rfl ?_))))))
    refine fD (m:=d.nl) (cs:=i64n (List.replicate d.nl 0)) hS underlying75 vG rfl rfl rfl (rfl) (rfl) (lV _) (by show (8:Int) * _≤_;omega) (by omega) rfl fun B3 W3 hS=>?_
    refine aB rfl rfl (aI (XF.thenN (aE (aE (aL (aT (o':=2) eR rfl rfl rfl (aN isAgg23 rfl (aC (hS.at_ 1 rfl) rfl) rfl (bQ underlying23 rfl rfl (aA rfl rfl (aI (XF.thenN (bE ?_))))))))))))
    refine cJ (fun m l W=>∃ i:Nat,i≤d.nl∧m=d.nl - i∧l=[(1,.int .i64 (N:Int)),(2,.pointer (some ⟨B1,0,none⟩)),(7,.slice (some ⟨B3,0,none⟩) d.nl d.nl),(32,.slice d.aa d.nl d.ac),(33,.int .i64 (d.nl:Int)),(34,.int .i64 (i:Int))]∧St w [(B3,i64n (cz d i),2),(B1,[.int .i64 d.sy,.slice d.na d.nl d.nc,.slice d.aa d.al d.ac],25)] [] [] W) (d.nl - 0) ([(1,_),(2,_),(7,_),(32,_),(33,_),(34,_)]) ⟨rfl,rfl,rfl,by show _=some (Value.slice d.aa d.nl d.ac);rw [← h4];rfl,by show _=some (Value.int .i64 (d.nl:Int));rw [← h4];rfl,rfl,trivial⟩ (⟨0,Nat.zero_le _,rfl,rfl,by rw [vI];exact hS.clear⟩) ?_
    clear hS
    rintro m l W ⟨i,hi,rfl,rfl,hS⟩
    refine aE (aL (bW rfl rfl rfl (aI (XF.thenN (aE (bR rfl (fun hc=>?_) (fun hc=>?_)))))))
    ·have hc35:=of_decide_eq_true hc;clear hc
     obtain ⟨b5,o5,y,hba,hy,hyc⟩:=gD.at9 hd.arow (i:=i) (by omega)
     have k1:=hS.old hyc
     refine bT (XF.thenN (aE (bE (aE (aL (aA rfl rfl ?_))))))
     refine aQ (j:=i) (b:=b5) (o:=o5) (m:=d.nl) (c:=d.ac) underlying23 sizeOf4 (by show some (Value.slice d.aa _ _)=_;rw [hba]) rfl rfl (by omega) rfl rfl ?_
     refine aN isAgg4 rfl (k1) rfl (aB rfl rfl (aB rfl rfl (aI (XF.thenN (aE (aL (aA rfl rfl (aI (XF.thenN (bR rfl (fun hc=>?_) (fun hc=>?_)))))))))))
     ·have hc39:=hc;clear hc
      subst hc39
      refine aL (aA rfl rfl (aA rfl rfl (aQ (j:=i) underlying75 sizeOf2 rfl rfl (rfl) (by omega) rfl rfl ?_)))
      refine bS (i:=0) (cs':=i64n ((cz d i).set i 1)) (O':=[_,_]) hS sizeOf2 rfl rfl rfl rfl (Nat.ble_eq_true_of_le (by rw [fY,zI hbl (by omega)];omega)) (iK rfl) rfl fun W51 hS=>?_
      refine aI (XF.blkN (XF.thenN (aL (bV rfl rfl (IntWalk.i64_in _ (by omega)) rfl (aA rfl rfl (aI ?_))))))
      rw [zK hbl (by omega) hy] at hS
      exact XF.round (d.nl - (i+1)) [(1,_),(2,_),(7,_),(32,_),(33,_),(34,_)] (by omega) ⟨rfl,rfl,rfl,rfl,rfl,rfl,trivial⟩ ⟨i+1,by omega,rfl,rfl,hS.clear⟩
     ·have hc39:=hc;clear hc
      subst hc39
      refine bT (XF.blkN (XF.thenN (aL (bV rfl rfl (IntWalk.i64_in _ (by omega)) rfl (aA rfl rfl (aI ?_))))))
      rw [cz_no hbl (by omega) hy] at hS
      exact XF.round (d.nl - (i+1)) [(1,_),(2,_),(7,_),(32,_),(33,_),(34,_)] (by omega) ⟨rfl,rfl,rfl,rfl,rfl,rfl,trivial⟩ ⟨i+1,by omega,rfl,rfl,hS.clear⟩
    ·have hc35:=of_decide_eq_false hc;clear hc
     have ein:i=d.nl:=by omega
     rw [ein,zJ hbl] at hS
     refine cI (XF.thenX (XF.thenX (XF.blkX (XF.thenN (aE (aL (aT (o':=1) cR rfl rfl rfl (aN isAgg22 rfl (aC (hS.at_ 1 rfl) rfl) rfl (bQ underlying22 rfl rfl ?_)))))))))
     refine fD (m:=d.nl) (cs:=i64n (List.replicate d.nl 0)) hS underlying75 vG rfl rfl rfl (rfl) (rfl) (lV _) (by show (8:Int) * _≤_;omega) (by omega) rfl fun B4 W4 hS=>?_
     refine aB rfl rfl (aI (XF.thenN (aE (aE (aL (aA rfl rfl (aA rfl rfl (aI (XF.thenN (bE (cJ (fun m l W=>∃ (j XB YB:Nat) (ys:List Nat),j≤N∧m=N - j∧l=[(1,.int .i64 (N:Int)),(2,.pointer (some ⟨B1,0,none⟩)),(7,.slice (some ⟨XB,0,none⟩) d.nl d.nl),(10,.slice (some ⟨YB,0,none⟩) d.nl d.nl),(48,.int .i64 (N:Int)),(49,.int .i64 (j:Int))]∧ys.length=d.nl∧St w [(XB,i64n (cv d j),2),(YB,i64n (ys),2),(B1,[.int .i64 d.sy,.slice d.na d.nl d.nc,.slice d.aa d.al d.ac],25)] [] [] W) (N - 0) ([(1,_),(2,_),(7,_),(10,_),(48,_),(49,_)]) ⟨rfl,rfl,rfl,rfl,rfl,rfl,trivial⟩ (⟨0,_,_,List.replicate d.nl 0,Nat.zero_le _,rfl,rfl,List.length_replicate,(hS.perm (List.Perm.swap _ _ _)).clear⟩) ?_)))))))))))
     clear hS
     rintro m l W ⟨j,XB,YB,ys,hj,rfl,rfl,hys,hS⟩
     have hvl:=zH hbl j
     have hvm:=cv_le (d:=d) j
     refine aE (aL (bW rfl rfl rfl (aI (XF.thenN (aE (bR rfl (fun hc=>?_) (fun hc=>?_)))))))
     ·have hc50:=of_decide_eq_true hc;clear hc
      refine bT (XF.thenN (aE (bE (aE (aE (aL (aT (o':=1) cR rfl rfl rfl (aN isAgg22 rfl (aC (hS.at_ 2 rfl) rfl) rfl (bQ underlying22 rfl rfl (aA rfl rfl (aI (XF.thenN (bE ?_)))))))))))))
      refine cJ (fun m l W=>∃ s:Nat,s≤d.nl∧m=d.nl - s∧l=[(1,.int .i64 (N:Int)),(2,.pointer (some ⟨B1,0,none⟩)),(7,.slice (some ⟨XB,0,none⟩) d.nl d.nl),(10,.slice (some ⟨YB,0,none⟩) d.nl d.nl),(48,.int .i64 (N:Int)),(49,.int .i64 (j:Int)),(52,.slice d.na d.nl d.nc),(53,.int .i64 (d.nl:Int)),(54,.int .i64 (s:Int))]∧St w [(XB,i64n (cv d j),2),(YB,i64n (lz d (cv d j) ys s),2),(B1,[.int .i64 d.sy,.slice d.na d.nl d.nc,.slice d.aa d.al d.ac],25)] [] [] W) (d.nl - 0) ([(1,_),(2,_),(7,_),(10,_),(48,_),(49,_),(52,_),(53,_),(54,_)]) ⟨rfl,rfl,rfl,rfl,rfl,rfl,rfl,rfl,rfl,trivial⟩ (⟨0,Nat.zero_le _,rfl,rfl,by rw [vJ];exact hS.clear⟩) ?_
      clear hS
      rintro m l W ⟨s,hs,rfl,rfl,hS⟩
      refine aE (aL (bW rfl rfl rfl (aI (XF.thenN (aE (bR rfl (fun hc=>?_) (fun hc=>?_)))))))
      ·have hc55:=of_decide_eq_true hc;clear hc
       obtain ⟨r,hr⟩:∃ r,d.ns[s]?=some r:=⟨_,List.getElem?_eq_getElem (by rw [hd.nlen];omega)⟩
       obtain ⟨c1,o1,hna,hcs⟩:=hd.nrow _ r hr
       have hrm:=List.mem_of_getElem? hr
       obtain ⟨hrr,hrl,_⟩:=hd.rin r hrm
       obtain ⟨hr6,hr7⟩:=h6 r hrm
       have k2:=hS.old hcs
       refine bT (XF.thenN (aE (bE (aE (aL (aA rfl rfl ?_))))))
       refine aQ (j:=s) (b:=c1) (o:=o1) (m:=d.nl) (c:=d.nc) underlying22 sizeOf36 (by show some (Value.slice d.na _ _)=_;rw [hna]) rfl rfl (by omega) rfl rfl ?_
       refine aN isAgg36 rfl (k2) rfl (aB rfl rfl (aB rfl rfl (aI (XF.thenN (aE (aL (aB rfl rfl (aI (XF.thenN (aE (aE (aL (aA rfl rfl (bQ underlying36 rfl rfl (aA rfl rfl (aI (XF.thenN (bE (cJ (fun m l W=>∃ x:Nat,x≤r.l∧m=r.l - x∧l=[(1,.int .i64 (N:Int)),(2,.pointer (some ⟨B1,0,none⟩)),(7,.slice (some ⟨XB,0,none⟩) d.nl d.nl),(10,.slice (some ⟨YB,0,none⟩) d.nl d.nl),(11,.int .i64 (s:Int)),(13,.int .i64 ((jN (cv d j) (r.xs.take x):Nat):Int)),(48,.int .i64 (N:Int)),(49,.int .i64 (j:Int)),(52,.slice d.na d.nl d.nc),(53,.int .i64 (d.nl:Int)),(54,.int .i64 (s:Int)),(59,.slice r.a r.l r.c),(60,.int .i64 (r.l:Int)),(61,.int .i64 (x:Int))]∧St w [(XB,i64n (cv d j),2),(YB,i64n (lz d (cv d j) ys s),2),(B1,[.int .i64 d.sy,.slice d.na d.nl d.nc,.slice d.aa d.al d.ac],25)] [] [] W) (r.l - 0) ([(1,_),(2,_),(7,_),(10,_),(11,_),(13,_),(48,_),(49,_),(52,_),(53,_),(54,_),(59,_),(60,_),(61,_)]) ⟨rfl,rfl,rfl,rfl,rfl,rfl,rfl,rfl,rfl,rfl,rfl,rfl,rfl,rfl,trivial⟩ (⟨0,Nat.zero_le _,rfl,rfl,hS.clear⟩) ?_)))))))))))))))))))
       clear hS
       rintro m l W ⟨x,hx,rfl,rfl,hS⟩
       refine aE (aL (bW rfl rfl rfl (aI (XF.thenN (aE (bR rfl (fun hc=>?_) (fun hc=>?_)))))))
       ·have hc62:=of_decide_eq_true hc;clear hc
        obtain ⟨d1,g1,z,hra,hz,hzc⟩:=hrr.at1 (i:=x) (by omega)
        have k3:=hS.old hzc
        have hzv:=hr7 z (List.mem_of_getElem? hz)
        have hsn:=pA (v:=cv d j) hz
        have hgl:=zG hvm z.toNat
        have hrs:=vH hvm (r.xs.take x)
        have hmx:(r.xs.take x).length * MW9≤4096 * MW9:=Nat.mul_le_mul_right _ (by rw [List.length_take];omega)
        unfold MW9 at hgl hmx
        refine bT (XF.thenN (aE (bE (aE (aL ?_)))))
        refine aQ (j:=x) (b:=d1) (o:=g1) (m:=r.l) (c:=r.c) underlying36 sizeOf3 (by show some (Value.slice r.a _ _)=_;rw [hra]) rfl (by omega) (by omega) rfl rfl ?_
        refine aN isAgg3 rfl (k3) rfl (aB rfl rfl (aI (XF.thenN (aL (aA rfl rfl (aA rfl rfl (aA rfl rfl (aQ (j:=z.toNat) underlying75 sizeOf2 rfl rfl (by omega) (by omega) rfl rfl (aN isAgg2 rfl (aC (hS.at_ 0 rfl) (lE (by omega))) rfl ?_)))))))))
        refine bV rfl rfl (IntWalk.i64_in _ (by unfold MW9 at hrs;omega)) rfl ?_
        refine aB rfl rfl (aI (XF.blkN (XF.thenN (aL (bV rfl rfl (IntWalk.i64_in _ (by omega)) rfl (aA rfl rfl (aI ?_)))))))
        exact XF.round (r.l - (x+1)) [(1,.int .i64 (N:Int)),(2,.pointer (some ⟨B1,0,none⟩)),(7,.slice (some ⟨XB,0,none⟩) d.nl d.nl),(10,.slice (some ⟨YB,0,none⟩) d.nl d.nl),(11,.int .i64 (s:Int)),(13,.int .i64 ((jN (cv d j) (r.xs.take (x+1)):Nat):Int)),(48,.int .i64 (N:Int)),(49,.int .i64 (j:Int)),(52,.slice d.na d.nl d.nc),(53,.int .i64 (d.nl:Int)),(54,.int .i64 (s:Int)),(59,.slice r.a r.l r.c),(60,.int .i64 (r.l:Int)),(61,.int .i64 ((x+1:Nat):Int))] (by omega) ⟨rfl,rfl,rfl,rfl,rfl,by show _=some (Value.int .i64 ((jN (cv d j) (r.xs.take (x+1)):Nat):Int));rw [hsn];rfl,rfl,rfl,rfl,rfl,rfl,rfl,rfl,rfl,trivial⟩ ⟨x+1,by omega,rfl,rfl,hS.clear⟩
       ·have hc62:=of_decide_eq_false hc;clear hc
        have exr:x=r.l:=by omega
        have hce:cvE d (cv d j) s=min (jN (cv d j) (r.xs.take x)) MW9:=by unfold cvE;rw [hr,List.take_of_length_le (by omega)];rfl
        refine cI (XF.thenX (XF.thenX (XF.blkX (XF.thenN (aL (aA rfl rfl (aA rfl rfl (aA rfl rfl (op_min rfl rfl rfl (aQ (j:=s) underlying75 sizeOf2 rfl rfl (rfl) (by omega) rfl rfl ?_))))))))))
        refine bS (i:=1) (cs':=i64n ((lz d (cv d j) ys s).set s (cvE d (cv d j) s))) (O':=[_,_,_]) hS sizeOf2 rfl rfl rfl rfl (Nat.ble_eq_true_of_le (by rw [fY,lz_len (by omega)];omega)) (iK (by rw [hce];unfold MW9;omega)) rfl fun W52 hS=>?_
        refine aI (XF.blkN (XF.thenN (aL (bV rfl rfl (IntWalk.i64_in _ (by omega)) rfl (aA rfl rfl (aI ?_))))))
        rw [lz_set (by omega)] at hS
        exact XF.round (d.nl - (s+1)) [(1,_),(2,_),(7,_),(10,_),(48,_),(49,_),(52,_),(53,_),(54,_)] (by omega) ⟨rfl,rfl,rfl,rfl,rfl,rfl,rfl,rfl,rfl,trivial⟩ ⟨s+1,by omega,rfl,rfl,hS.clear⟩
      ·have hc55:=of_decide_eq_false hc;clear hc
       have esn:s=d.nl:=by omega
       rw [esn,zL hys] at hS
       refine cI (XF.thenX (XF.thenX (XF.blkX (XF.thenN (aL (aA rfl rfl (aA rfl rfl (aB rfl rfl (aB rfl rfl (aI (XF.blkN (XF.thenN (aL (bV rfl rfl (IntWalk.i64_in _ (by omega)) rfl (aA rfl rfl (aI ?_))))))))))))))))
       exact XF.round (N - (j+1)) [(1,_),(2,_),(7,_),(10,_),(48,_),(49,_)] (by omega) ⟨rfl,rfl,rfl,rfl,rfl,rfl,trivial⟩ ⟨j+1,YB,XB,cv d j,by omega,rfl,rfl,hvl,(hS.perm (List.Perm.swap _ _ _)).clear⟩
     ·have hc50:=of_decide_eq_false hc;clear hc
      refine cI (XF.thenX (XF.thenX (XF.blkX (XF.thenN (aE (aL (aA rfl rfl (aQ (j:=0) underlying75 sizeOf2 rfl rfl (rfl) (by omega) rfl rfl (aN isAgg2 rfl (aC (hS.at_ 0 rfl) (lE (by omega))) rfl (aB rfl rfl (aB rfl rfl (aI (XF.thenN (cE (XF.res (mI results23 rfl rfl) ?_)))))))))))))))
      have ejn:j=N:=by omega
      exact ⟨by rw [show gA d (N:Int)=_ from (if_neg hc19).trans (if_neg (by omega)),← ejn];rfl,hS.below⟩
structure Lst (d:DV) (A:FA):Prop where
 e:cO d=0
 len:d.ns.length=d.nl
 xl:∀ r∈d.ns,r.xs.length=r.l
 bl:d.bs.length=d.al
 k:(dFA d).k=A.k
 ord:(dFA d).Ord
 red:(dFA d).Red
 eqv:Eqv (dFA d) 0 A 0
theorem zM {ns:List IV} {k:Nat} (h:∀ r∈ns,r.xs.length=k) {i x:Nat} {r:IV} (hr:ns[i]?=some r) (hx:x < k):∀ {n:Nat},i < n→n≤ns.length→gN (xsT ns n) (i * k+x)=(r.xs.getD x 0).toNat
 | n+1,hi,hn=>by
  obtain ⟨r',hr'⟩:∃ r',ns[n]?=some r':=⟨_,List.getElem?_eq_getElem (by omega)⟩
  have hl:=qG (ns:=ns) h (i:=n) (by omega)
  rw [oE hr']
  rcases Nat.lt_or_ge i n with h1 | h1
  ·have ih:=zM h hr hx h1 (by omega)
   have h2:i * k+x < n * k:=kZ h1 hx
   unfold gN at ih ⊢
   rw [List.getD_eq_getElem?_getD,List.getElem?_append_left (by omega),← List.getD_eq_getElem?_getD];exact ih
  ·obtain rfl:i=n:=by omega
   rw [hr] at hr'
   obtain rfl:=Option.some.inj hr'
   unfold gN
   rw [List.getD_eq_getElem?_getD,List.getElem?_append_right (by omega),hl,Nat.add_sub_cancel_left,List.getElem?_map,List.getD_eq_getElem?_getD]
   cases r.xs[x]?<;>rfl
section
variable {d:DV}
theorem qP (he:cO d=0) (hl:d.ns.length=d.nl) (hx9:∀ r∈d.ns,r.xs.length=r.l) {i x:Nat} {r:IV} (hr:d.ns[i]?=some r) (hx:x < d.sy.toNat):(dFA d).nx i x=(r.xs.getD x 0).toNat:=by
 obtain ⟨k,hk,h1,h2,h3,h4,h5,h6⟩:=dU he
 have hi:=(List.getElem?_eq_some_iff.1 hr).1
 show gN (xsT d.ns d.nl) (i * d.sy.toNat+x)=_
 rw [show d.sy.toNat=k by omega] at hx ⊢
 exact zM (fun r hr=>by rw [hx9 r hr];exact (h6 r hr).1) hr hx (by omega) (by omega)
theorem qQ (he:cO d=0) (hl:d.ns.length=d.nl) (hx9:∀ r∈d.ns,r.xs.length=r.l):(dFA d).Ok:=by
 obtain ⟨k,hk,h1,h2,h3,h4,h5,h6⟩:=dU he
 refine ⟨h2,fun s x hs hx=>?_⟩
 have hs:s < d.nl:=hs
 have hx:x < d.sy.toNat:=hx
 obtain ⟨r,hr⟩:∃ r,d.ns[s]?=some r:=⟨_,List.getElem?_eq_getElem (by omega)⟩
 have hrm:=List.mem_of_getElem? hr
 rw [qP he hl hx9 hr hx]
 have hxl:x < r.xs.length:=by rw [hx9 r hrm,(h6 r hrm).1];omega
 have h7:=(h6 r hrm).2 (r.xs.getD x 0) (by rw [List.getD_eq_getElem?_getD,List.getElem?_eq_getElem hxl];exact List.getElem_mem hxl)
 show _ < d.nl
 omega
end
theorem lst_of {t:TB} {d:DV} {A:FA} (hT:TOk t) (hd:DOfT t d) (ho:t.fa.Ord) (hr:t.fa.Red) (he:Eqv t.fa 0 A 0) (hk:t.k=A.k) (h1:t.n≤1024) (h2:t.k≤4096) (h3:t.n * t.k≤65536):Lst d A∧d.nl=t.n:=by
 have hsy:=hd.sy
 have hnl:=hd.nl
 have hal:=hd.al
 have hpos:=hT.pos
 have hrow:∀ r∈d.ns,r.l=t.k∧r.xs.length=t.k∧∀ y∈r.xs,0≤y∧y < (t.n:Int):=fun r hr=>by
  obtain ⟨i,hi⟩:=List.getElem?_of_mem hr
  obtain ⟨h4,h5⟩:=hd.row i r hi
  have hi2:=(List.getElem?_eq_some_iff.1 hi).1
  rw [hd.len] at hi2
  refine ⟨h4,by rw [h5];unfold mM;simp,fun y hy=>?_⟩
  rw [h5] at hy
  obtain ⟨x,hx,rfl⟩:=List.mem_map.1 hy
  have:=hT.fa.t0_ i x hi2 (List.mem_range.1 hx)
  have h6:t.fa.n=t.n:=rfl
  omega
 have e0:cO d=0:=by
  unfold cO
  rw [if_neg,if_pos]
  ·rw [List.all_eq_true]
   intro r hr
   obtain ⟨q1,q2,q3⟩:=hrow r hr
   unfold kN
   rw [Bool.and_eq_true,decide_eq_true_eq,List.all_eq_true]
   refine ⟨by omega,fun y hy=>?_⟩
   have:=q3 y hy
   unfold inQ
   simp
   omega
  ·rw [hsy,hnl,hal]
   rw [← Int.natCast_mul]
   omega
 have hl:d.ns.length=d.nl:=by rw [hd.len,hnl]
 have hx:∀ r∈d.ns,r.xs.length=r.l:=fun r hr=>by obtain ⟨q1,q2,_⟩:=hrow r hr;omega
 have hag:Agr (dFA d) t.fa:=by
  refine ⟨hnl,by show d.sy.toNat=t.k;omega,qQ e0 hl hx,fun s x hs hx9=>?_,fun s hs=>by show d.bs.getD s false=t.bs.getD s false;rw [hd.bs]⟩
  have hs:s < d.nl:=hs
  have hx9:x < d.sy.toNat:=hx9
  obtain ⟨r,hr⟩:∃ r,d.ns[s]?=some r:=⟨_,List.getElem?_eq_getElem (by omega)⟩
  rw [qP e0 hl hx hr hx9,(hd.row s r hr).2]
  unfold mM
  rw [List.getD_eq_getElem?_getD,List.getElem?_map,List.getElem?_range (by omega)]
  exact Int.toNat_natCast _
 have hk9:(dFA d).k=t.k:=by show d.sy.toNat=t.k;omega
 exact ⟨⟨e0,hl,hx,by rw [hd.bs,hal];exact hT.bl,hk9.trans hk,hag.ord ho,hag.red hr,Eqv.trans (B:=t.fa) hk9 (hag.eqv (qQ e0 hl hx).pos) he⟩,hnl⟩
theorem bld_25:prog.built 25 []=some #[.int .i64 0,.slice none 0 0,.slice none 0 0]:=by kernel_rfl
def zD:DV:=⟨0,none,0,0,[],none,0,0,[]⟩
theorem din_zD {W:World}:DIn W zD:=⟨fun i r h=>(by cases h),rfl,fun r h=>(by cases h),fun i r h=>(by cases h),rfl,by decide,by decide⟩
theorem din_of {W:World} {t:TB} {d:DV} (hT:TOk t) (hd:DOfT t d) (h1:DRo d W) (h2:gD W d.aa d.bs):DIn W d:=by
 have hk1:=hT.k1
 have hn1:=hT.n1
 refine ⟨h1.1,by rw [hd.len,hd.nl],fun r hr=>⟨h1.2 r hr,?_⟩,h2,by rw [hd.bs,hd.al];exact hT.bl,by rw [hd.nl];omega,by rw [hd.al];omega⟩
 obtain ⟨i,hi⟩:=List.getElem?_of_mem hr
 obtain ⟨h4,h5⟩:=hd.row i r hi
 rw [h4,h5]
 exact ⟨by unfold mM;simp,by omega⟩
theorem brow_of {W:World} {a:Option Addr} {bs:List Bool} (h:∀ (i:Nat) u,(bvs bs)[i]?=some u→∃ b off,a=some ⟨b,off,none⟩∧W.cell? ⟨b,off+i * 1,none⟩=some u):gD W a bs:=fun i f hi=>h i _ (by unfold bvs;rw [List.getElem?_map,hi];rfl)
structure LX (d d2:DV) (A:FA):Prop where
 ok:cO d=0→Lst d2 A∧d2.nl≤d.nl
 bad:cO d≠0→d2=zD
theorem tS {d:DV} {q:TB} (he:cO d=0) (hk:(q.k:Int)=d.sy) (hn:q.n≤d.nl):q.k=(dFA d).k∧q.n≤1024∧q.k≤4096∧q.n * q.k≤65536:=by
 obtain ⟨k,hk1,a1,a2,a3,a4,a5,a6⟩:=dU he
 obtain rfl:q.k=k:=by omega
 exact ⟨by show q.k=d.sy.toNat;omega,by omega,a1,Nat.le_trans (Nat.mul_le_mul_right _ hn) a5⟩
theorem tT (d:DV) (Kt:List (Nat×World)) (Ot:Own) (G:bJ) (K:List (Nat×World)) (w0 w:World) (hS0:St w0 Ot G K w) (hKt:∀ q∈Kt,q∈K) (hD:dD w0 Kt (fun W=>DIn W d)) (he:cO d≠0) :
  Calls prog 11 #[d.val] w (fun e w'=>e = .returned (.tuple #[zD.val,.int .i64 (cO d)])∧St w0 Ot G K w'):=by
 refine cP (args:=[d.val]) func11 rfl ntmps11 rfl ?_
 have hS:=hS0
 refine aE (aL (dA (cs:=[_,_,_]) hS rfl rfl rfl fun B1 W1 hS=>cV (cs:=[_,_,_]) hS zeroValue25 rfl rfl fun B2 W2 hS=>aB rfl rfl (aI (XF.thenN (aE (aE (aL (bP (vs:=[_,_,_]) isAgg25 sizeOf25 rfl (aX.own (j:=0) (m:=3) (hS.at_ 1 rfl) rfl) rfl (bZ (vs:=[_]) lD rfl (lA d _ (hD (hS.keep K (fun q hq=>by simp [hq])) hKt)) rfl ?_)))))))))
 rintro e W9 ⟨rfl,hb9⟩
 refine ⟨_,rfl,?_⟩
 have hS':=hS.grow hb9;clear hS;have hS:=hS';clear hS'
 refine aB rfl rfl (aI (XF.thenN (aE (aL (aA rfl rfl (fN rfl rfl rfl (aI (XF.thenN (bR rfl (fun hc=>?_) (fun hc=>absurd (of_decide_eq_false hc) (by exact absurd he (of_decide_eq_false hc))))))))))))
 have hc:=of_decide_eq_true hc
 refine aE (aL (fC (us:=[]) rfl (bld_25) rfl (aA rfl rfl (cL (i:=0) (vs:=[_,_,_]) (cs':=[_,_,_]) (O':=(_::_::Ot)) hS sizeOf25 rfl rfl rfl rfl rfl rfl rfl fun W3 hS=>aB rfl rfl (aI (XF.thenN (cE (XF.thenR (XF.res (wY (vs:=[_,_,_]) results11 isAgg25 sizeOf25 rfl (aX.own (j:=0) (m:=3) (hS.at_ 0 rfl) rfl) rfl) ?_)))))))))
 exact ⟨rfl,(hS.keep K (fun q hq=>by simp [hq])).tail.tail⟩
theorem wP (d:DV) (Kt:List (Nat×World)) (Ot:Own) (G:bJ) (K:List (Nat×World)) (w0 w:World) (hS0:St w0 Ot G K w) (hKt:∀ q∈Kt,q∈K) (hD:dD w0 Kt (fun W=>DIn W d)):Calls prog 11 #[d.val] w (fun e w'=>∃ (d2:DV) (Kn:List (Nat×World)),LX d d2 (dFA d)∧e = .returned (.tuple #[d2.val,.int .i64 (cO d)])∧(∀ q∈K,q∈Kn)∧dD w0 Kn (fun W=>DIn W d2)∧St w0 Ot G Kn w'):=by
 by_cases he:cO d=0
 ·obtain ⟨k,hk,_⟩:=dU he
  refine (wK d k Kt Ot G K w0 w hS0 hKt hD hk he).mono ?_
  rintro e w' ⟨q,d2,Kn,rfl,hL,hsub,hR,hS⟩
  obtain ⟨s1,s2,s3,s4⟩:=tS he hL.k hL.n
  obtain ⟨K2,k2,g2,hS2⟩:=hS.rowKeep
  have hl:=lst_of (A:=dFA d) hL.ok hL.of hL.ord hL.red hL.eqv s1 s2 s3 s4
  refine ⟨d2,K2,⟨fun _=>⟨hl.1,by rw [hl.2];exact hL.n⟩,fun h=>absurd he h⟩,by rw [he],fun z hz=>k2 z (hsub z hz),fun h9 hk9=>din_of hL.ok hL.of (hR h9 (fun z hz=>hk9 z (k2 z hz))) (by rw [hL.of.bs];exact brow_of (g2 h9 hk9)),hS2⟩
 ·refine (tT d Kt Ot G K w0 w hS0 hKt hD he).mono ?_
  rintro e w' ⟨rfl,hS⟩
  exact ⟨zD,K,⟨fun h=>absurd h he,fun _=>rfl⟩,rfl,fun z hz=>hz,fun _ _=>din_zD,hS⟩
theorem qR (v0:Int) (v1a:Option Addr) (v1l:Nat) (v1c:Nat) (v2a:Option Addr) (v2l:Nat) (v2c:Nat):prog.built 25 [(0,.int .i64 v0),(1,.slice v1a v1l v1c),(2,.slice v2a v2l v2c)]=some #[.int .i64 v0,.slice v1a v1l v1c,.slice v2a v2l v2c]:=by kernel_rfl
theorem bs_22_3 (v0a:Option Addr) (v0l:Nat) (v0c:Nat) (v1a:Option Addr) (v1l:Nat) (v1c:Nat) (v2a:Option Addr) (v2l:Nat) (v2c:Nat):Instr.fill (fun i=>some (i * 1,1)) ((Array.range (3 * 1)).map ((Value.cells (.slice none 0 0))[· % (Value.cells (.slice none 0 0)).size]!)) [(0,.slice v0a v0l v0c),(1,.slice v1a v1l v1c),(2,.slice v2a v2l v2c)]=some (List.toArray [.slice v0a v0l v0c,.slice v1a v1l v1c,.slice v2a v2l v2c]):=by kernel_rfl
theorem bs_23_3 (v0:Bool) (v1:Bool) (v2:Bool):Instr.fill (fun i=>some (i * 1,1)) ((Array.range (3 * 1)).map ((Value.cells (.bool false))[· % (Value.cells (.bool false)).size]!)) [(0,.bool v0),(1,.bool v1),(2,.bool v2)]=some (List.toArray [.bool v0,.bool v1,.bool v2]):=by kernel_rfl
theorem qS:cD prog 21=true:=by kernel_rfl
theorem qT:cD prog 23=true:=by kernel_rfl
def alD (B1 B2 B3 B4 B5:Nat):DV:=⟨1,some ⟨B4,0,none⟩,3,3,[⟨some ⟨B1,0,none⟩,1,1,[1]⟩,⟨some ⟨B2,0,none⟩,1,1,[2]⟩,⟨some ⟨B3,0,none⟩,1,1,[1]⟩],some ⟨B5,0,none⟩,3,3,[true,false,true]⟩
theorem qU {W:World} {B:Nat} {x:Int} {T:TypeId} (h:W.heap[B]?=some (.cells [Value.int .i64 x].toArray T (0,0))):Row W (some ⟨B,0,none⟩) [x]:=.inr ⟨B,0,rfl,fun i hi=>by
 have:i=0:=by simpa using hi
 subst this
 exact aC h rfl⟩
theorem al_din {W:World} {B1 B2 B3 B4 B5:Nat} {T1 T4 T5:TypeId} (h1:W.heap[B1]?=some (.cells [Value.int .i64 1].toArray T1 (0,0))) (h2:W.heap[B2]?=some (.cells [Value.int .i64 2].toArray T1 (0,0))) (h3:W.heap[B3]?=some (.cells [Value.int .i64 1].toArray T1 (0,0))) (h4:W.heap[B4]?=some (.cells [Value.slice (some ⟨B1,0,none⟩) 1 1,.slice (some ⟨B2,0,none⟩) 1 1,.slice (some ⟨B3,0,none⟩) 1 1].toArray T4 (0,0))) (h5:W.heap[B5]?=some (.cells [Value.bool true,.bool false,.bool true].toArray T5 (0,0))):DIn W (alD B1 B2 B3 B4 B5):=by
 refine ⟨fun i r hi=>⟨B4,0,rfl,?_⟩,rfl,fun r hr=>?_,fun i f hi=>⟨B5,0,rfl,?_⟩,rfl,(show 3≤9223372036854775807 by decide),(show 3≤9223372036854775807 by decide)⟩
 ·refine aC h4 ?_
  match i,hi with
  | 0,hi=>obtain rfl:=Option.some.inj hi;rfl
  | 1,hi=>obtain rfl:=Option.some.inj hi;rfl
  | 2,hi=>obtain rfl:=Option.some.inj hi;rfl
 ·simp only [alD,List.mem_cons,List.not_mem_nil,or_false] at hr
  rcases hr with rfl | rfl | rfl
  ·exact ⟨qU h1,rfl,(show 1≤9223372036854775807 by decide)⟩
  ·exact ⟨qU h2,rfl,(show 1≤9223372036854775807 by decide)⟩
  ·exact ⟨qU h3,rfl,(show 1≤9223372036854775807 by decide)⟩
 ·refine aC h5 ?_
  match i,hi with
  | 0,hi=>obtain rfl:=Option.some.inj hi;rfl
  | 1,hi=>obtain rfl:=Option.some.inj hi;rfl
  | 2,hi=>obtain rfl:=Option.some.inj hi;rfl
theorem al_e {B1 B2 B3 B4 B5:Nat}:cO (alD B1 B2 B3 B4 B5)=0:=by
 unfold cO alD
 rw [if_neg (by simp),if_pos (by simp [kN,inQ])]
def alB:FA:=⟨2,1,fun s _=>1 - s,fun s=>s == 0⟩
theorem alB_ok:alB.Ok:=⟨Nat.succ_pos _,fun s x hs hx=>by show 1 - s < 2;omega⟩
theorem alB_ord:alB.Ord:=by
 refine ⟨fun p hp=>?_,fun i hi=>?_⟩
 ·have hp:p < 2:=hp
  rcases (by omega:p=0∨p=1) with rfl | rfl<;>decide
 ·have hi:i < 2:=hi
  rcases (by omega:i=0∨i=1) with rfl | rfl<;>decide
theorem alB_red:alB.Red:=fun s t hs ht he=>by
 have h:=he [] Wd.nil
 have h:(s == 0)=(t == 0):=h
 have hs:s < 2:=hs
 have ht:t < 2:=ht
 rcases (by omega:s=0∨s=1) with rfl | rfl<;>rcases (by omega:t=0∨t=1) with rfl | rfl<;>first | rfl | cases h
theorem zN {B1 B2 B3 B4 B5:Nat}:∀ (u:List Nat),Wd 1 u→(dFA (alD B1 B2 B3 B4 B5)).acc 0 u=alB.acc 0 u∧(dFA (alD B1 B2 B3 B4 B5)).acc 1 u=alB.acc 1 u∧(dFA (alD B1 B2 B3 B4 B5)).acc 2 u=alB.acc 0 u
 | [],_=>⟨rfl,rfl,rfl⟩
 | x::u,hu=>by
  obtain rfl:x=0:=by have:=hu.head;omega
  obtain ⟨h1,h2,h3⟩:=zN (B1:=B1) (B2:=B2) (B3:=B3) (B4:=B4) (B5:=B5) u hu.tail
  exact ⟨h2,h3,h2⟩
def alF (na:Option Addr) (nc:Nat) (a0:Option Addr) (c0:Nat) (a1:Option Addr) (c1:Nat) (aa:Option Addr) (ac:Nat):DV:=⟨1,na,2,nc,[⟨a0,1,c0,[1]⟩,⟨a1,1,c1,[0]⟩],aa,2,ac,[true,false]⟩
theorem zO {xs:List Int} {y:Nat} (hl:xs.length=1) (hp:∀ z∈xs,0≤z) (h:(xs.getD 0 0).toNat=y):xs=[(y:Int)]:=by
 match xs,hl with
 | [z],_ =>
  have:=hp z List.mem_cons_self
  have h:z.toNat=y:=h
  rw [show z=(y:Int) by omega]
theorem al_form {B1 B2 B3 B4 B5:Nat} {d:DV} (h:Lst d (dFA (alD B1 B2 B3 B4 B5))):∃ na nc a0 c0 a1 c1 aa ac,d=alF na nc a0 c0 a1 c1 aa ac:=by
 obtain ⟨k,hk1,q1,q2,q3,q4,q5,q6⟩:=dU h.e
 have hO:=qQ h.e h.len h.xl
 have hE:Eqv (dFA d) 0 alB 0:=Eqv.trans (B:=dFA (alD B1 B2 B3 B4 B5)) h.k h.eqv (fun u hu=>(zN u hu).1)
 obtain ⟨c1,c2,c3⟩:=pV hO alB_ok h.ord alB_ord h.red alB_red h.k hE
 have hn:d.nl=2:=c1
 have hsy:d.sy.toNat=1:=h.k
 have hk:(dFA d).k=1:=h.k
 have hl:=h.len
 have hbl:=h.bl
 have hxl:=h.xl
 have hnx:=fun (i:Nat) (r:IV) (hr:d.ns[i]?=some r)=>qP h.e h.len h.xl hr (show 0 < d.sy.toNat by omega)
 have f0:(dFA d).nx 0 0=1:=by
  have:=c2 0 (by show 0 < d.nl * d.sy.toNat;rw [hn,hsy];decide)
  rwa [show (dFA d).fl 0=(dFA d).nx 0 0 by unfold FA.fl;rw [hk]] at this
 have f1:(dFA d).nx 1 0=0:=by
  have:=c2 1 (by show 1 < d.nl * d.sy.toNat;rw [hn,hsy];decide)
  rwa [show (dFA d).fl 1=(dFA d).nx 1 0 by unfold FA.fl;rw [hk]] at this
 have b0:=c3 0 (by show 0 < d.nl;omega)
 have b1:=c3 1 (by show 1 < d.nl;omega)
 clear c1 c2 c3 hO hE h
 obtain ⟨sy,na,nl,nc,ns,aa,al,ac,bs⟩:=d
 dsimp only at *
 subst hn
 obtain rfl:sy=1:=by omega
 obtain rfl:al=2:=by omega
 match ns,hl,bs,hbl with
 | [⟨a0,l0,c0,x0⟩,⟨a1,l1,c1,x1⟩],_,[u0,u1],_ =>
  have r0:=q6 ⟨a0,l0,c0,x0⟩ (by simp)
  have r1:=q6 ⟨a1,l1,c1,x1⟩ (by simp)
  have y0:=hxl ⟨a0,l0,c0,x0⟩ (by simp)
  have y1:=hxl ⟨a1,l1,c1,x1⟩ (by simp)
  dsimp only at r0 r1 y0 y1
  obtain rfl:l0=1:=by omega
  obtain rfl:l1=1:=by omega
  have z0:=hnx 0 _ rfl
  have z1:=hnx 1 _ rfl
  rw [f0] at z0
  rw [f1] at z1
  have e0:=zO y0 (fun z hz=>(r0.2 z hz).1) z0.symm
  have e1:=zO y1 (fun z hz=>(r1.2 z hz).1) z1.symm
  subst e0;subst e1
  have b0:u0=true:=b0
  have b1:u1=false:=b1
  subst b0;subst b1
  exact ⟨na,nc,a0,c0,a1,c1,aa,ac,rfl⟩
section
variable {na a0 a1 aa:Option Addr} {nc c0 c1 ac:Nat}
theorem zP {r:Option (List Nat)} (h:FW (dFA (alF na nc a0 c0 a1 c1 aa ac)) r):r=some []:=h.one (B:=dFA (alF na nc a0 c0 a1 c1 aa ac)) (r':=some []) ⟨Wd.nil,rfl,fun u _ _=>Nat.zero_le _⟩ rfl (fun u _=>rfl)
theorem zQ:cO (alF na nc a0 c0 a1 c1 aa ac)=0:=by
 unfold cO alF
 rw [if_neg (by simp),if_pos (by simp [kN,inQ])]
theorem zR:gA (alF na nc a0 c0 a1 c1 aa ac) 4=(1,0):=by
 unfold gA
 rw [zQ,if_neg (by decide),if_neg (by decide)];rfl
end
theorem lZ (w:World) :
  Calls prog 10 #[] w (fun e w'=>e = .returned (.bool true)∧Below w.heap.size w w'):=by
 refine cP (args:=[]) func10 rfl ntmps10 rfl ?_
 have hS:=St.start w
 refine aE (aL (aB rfl rfl (aI (XF.thenN (aE (aL (bU (us:=[(0,.int .i64 _)]) hS underlying36 sizeOf3 zeroValue3 rfl rfl rfl (iR _) rfl fun B1 W1 hS=>bU (us:=[(0,.int .i64 _)]) hS underlying36 sizeOf3 zeroValue3 rfl rfl rfl (iR _) rfl fun B2 W2 hS=>bU (us:=[(0,.int .i64 _)]) hS underlying36 sizeOf3 zeroValue3 rfl rfl rfl (iR _) rfl fun B3 W3 hS=>bU (us:=[(0,.slice _ _ _),(1,.slice _ _ _),(2,.slice _ _ _)]) hS underlying22 sizeOf36 zeroValue36 rfl rfl rfl (bs_22_3 _ _ _ _ _ _ _ _ _) rfl fun B4 W4 hS=>bU (us:=[(0,.bool _),(1,.bool _),(2,.bool _)]) hS underlying23 sizeOf4 zeroValue4 rfl rfl rfl (bs_23_3 _ _ _) rfl fun B5 W5 hS=>fC (us:=[(0,.int .i64 _),(1,.slice _ _ _),(2,.slice _ _ _)]) rfl (qR _ _ _ _ _ _ _) rfl ?_)))))))
 obtain ⟨Ka,ka,g5,hS1⟩:=hS.ownKeep
 obtain ⟨Kb,kb,g4,hS2⟩:=hS1.ownKeep
 obtain ⟨Kc,kc,g3,hS3⟩:=hS2.ownKeep
 obtain ⟨Kd,kd,g2,hS4⟩:=hS3.ownKeep
 obtain ⟨Ke,ke,g1,hS5⟩:=hS4.ownKeep
 have hD0:dD w Ke (fun W=>DIn W (alD B1 B2 B3 B4 B5)):=fun h9 hk9=>al_din (g1 h9 hk9) (g2 h9 (fun q hq=>hk9 q (ke q hq))) (g3 h9 (fun q hq=>hk9 q (ke q (kd q hq)))) (g4 h9 (fun q hq=>hk9 q (ke q (kd q (kc q hq))))) (g5 h9 (fun q hq=>hk9 q (ke q (kd q (kc q (kb q hq))))))
 refine bZ (vs:=[_]) goes_11 rfl (wP (alD B1 B2 B3 B4 B5) Ke _ _ Ke w _ hS5 (fun q hq=>hq) hD0) rfl ?_
 rintro e W9 ⟨d2,K6,hLX,rfl,hk6,hD2,hS9⟩
 obtain ⟨na,nc,a0,c0,a1,c1,aa,ac,rfl⟩:=al_form (hLX.ok al_e).1
 rw [al_e]
 refine ⟨_,rfl,?_⟩
 clear hS hS1 hS2 hS3 hS4 hS5;have hS:=hS9;clear hS9
 refine aA rfl rfl (bC rfl rfl rfl (bC rfl rfl rfl (cV (cs:=[_,_,_]) hS zeroValue25 rfl rfl fun B6 W6 hS=>cL (i:=0) (vs:=[_,_,_]) (cs':=[_,_,_]) (O':=[_]) hS sizeOf25 rfl rfl rfl rfl rfl rfl rfl fun W7 hS=>aB rfl rfl (aI (XF.thenN (aE (aL (bP (vs:=[_,_,_]) isAgg25 sizeOf25 rfl (aX.own (j:=0) (m:=3) (hS.at_ 0 rfl) rfl) rfl (bZ (vs:=[_]) qS rfl (lY (alF na nc a0 c0 a1 c1 aa ac) K6 _ _ K6 w _ (hS.keep K6 (fun q hq=>by simp [hq])) (fun q hq=>hq) hD2) rfl ?_)))))))))
 rintro e W9 ⟨r,wa,wc,K7,hF,_,rfl,hk7,hR7,hS9⟩
 obtain rfl:=zP (hF zQ)
 rw [zQ]
 refine ⟨_,rfl,?_⟩
 clear hS;have hS:=hS9;clear hS9
 refine aA rfl rfl (bC rfl rfl rfl (bC rfl rfl rfl (bC rfl rfl rfl (aB rfl rfl (aB rfl rfl (aB rfl rfl (aI (XF.thenN (aE (aL (bP (vs:=[_,_,_]) isAgg25 sizeOf25 rfl (aX.own (j:=0) (m:=3) (hS.at_ 0 rfl) rfl) rfl (bZ (vs:=[_,_]) qT rfl (kO (alF na nc a0 c0 a1 c1 aa ac) 4 _ (hD2 (hS.keep K7 (fun q hq=>by simp [hq])) (fun q hq=>hk7 q hq))) rfl ?_))))))))))))
 rintro e W9 ⟨rfl,hb9⟩
 rw [zR]
 refine ⟨_,rfl,?_⟩
 have hS':=hS.grow hb9;clear hS;have hS:=hS';clear hS'
 refine aA rfl rfl (bC rfl rfl rfl (bC rfl rfl rfl (aB rfl rfl (aB rfl rfl (aI (XF.thenN (aE ?_)))))))
 have hDI:=hD2 (hS.keep K7 (fun q hq=>by simp [hq])) (fun q hq=>hk7 q hq)
 obtain ⟨nb,no,rfl,hn0⟩:=hDI.nrow 0 _ rfl
 obtain ⟨nb2,no2,hna2,hn1⟩:=hDI.nrow 1 _ rfl
 obtain ⟨rfl,rfl⟩:nb2=nb∧no2=no:=by injection hna2 with h;injection h with h1 h2;exact ⟨h1.symm,h2.symm⟩
 obtain ⟨b0,o0,y0,hra0,hy0,hc0⟩:=(hDI.rin _ (List.mem_cons_self)).1.at1 (i:=0) (show 0 < 1 by decide)
 obtain ⟨b1,o1,y1,hra1,hy1,hc1⟩:=(hDI.rin _ (List.mem_cons_of_mem _ List.mem_cons_self)).1.at1 (i:=0) (show 0 < 1 by decide)
 obtain rfl:y0=1:=(Option.some.inj hy0).symm
 obtain rfl:y1=0:=(Option.some.inj hy1).symm
 obtain ⟨ab,ao,haa,hab⟩:=hDI.arow 0 _ rfl
 dsimp only [alF] at haa hra0 hra1
 subst haa hra0 hra1
 refine aL (aA rfl rfl (dO rfl rfl rfl (aA rfl rfl (bO (d:=31) rfl (fun hc=>?_) (fun hc=>absurd (of_decide_eq_false hc) (by omega))))))
 have hc:=of_decide_eq_true hc
 refine aD (d:=31) rfl rfl (aA rfl rfl (aD (d:=31) rfl rfl (dO rfl rfl rfl (bD rfl rfl rfl (aA rfl rfl (bO (d:=35) rfl (fun hc=>?_) (fun hc=>absurd (of_decide_eq_false hc) (by omega))))))))
 have hc:=of_decide_eq_true hc
 refine aD (d:=35) rfl rfl (aA rfl rfl (aD (d:=35) rfl rfl (dO rfl rfl rfl (bD rfl rfl rfl (aA rfl rfl (bO (d:=39) rfl (fun hc=>?_) (fun hc=>absurd (of_decide_eq_false hc) (by omega))))))))
 have hc:=of_decide_eq_true hc
 refine aD (d:=39) rfl rfl (aT (o':=1) cR rfl rfl rfl (aD (d:=39) rfl rfl (aN isAgg22 rfl (aC (hS.at_ 0 rfl) rfl) rfl (aD (d:=39) rfl rfl (bQ underlying22 rfl rfl (aD (d:=39) rfl rfl (dO rfl rfl rfl (bD rfl rfl rfl (aA rfl rfl (bO (d:=45) rfl (fun hc=>?_) (fun hc=>absurd (of_decide_eq_false hc) (by simp [alF]))))))))))))
 have hc:=of_decide_eq_true hc
 refine aD (d:=45) rfl rfl (aT (o':=1) cR rfl rfl rfl (aD (d:=45) rfl rfl (aN isAgg22 rfl (aC (hS.at_ 0 rfl) rfl) rfl (aD (d:=45) rfl rfl (aQ (j:=0) (b:=nb2) (o:=no2) (m:=2) (c:=nc) underlying22 sizeOf36 rfl rfl rfl (by decide) rfl rfl (aD (d:=45) rfl rfl (aN isAgg36 rfl (hn0) rfl (aD (d:=45) rfl rfl (aQ (j:=0) (b:=b0) (o:=o0) (m:=1) (c:=c0) underlying36 sizeOf3 rfl rfl rfl (by decide) rfl rfl (aD (d:=45) rfl rfl (aN isAgg3 rfl (hc0) rfl (aD (d:=45) rfl rfl (dO rfl rfl rfl (bD rfl rfl rfl (aA rfl rfl (bO (d:=54) rfl (fun hc=>?_) (fun hc=>absurd (of_decide_eq_false hc) (by omega))))))))))))))))))
 have hc:=of_decide_eq_true hc
 refine aD (d:=54) rfl rfl (aT (o':=1) cR rfl rfl rfl (aD (d:=54) rfl rfl (aN isAgg22 rfl (aC (hS.at_ 0 rfl) rfl) rfl (aD (d:=54) rfl rfl (aQ (j:=1) (b:=nb2) (o:=no2) (m:=2) (c:=nc) underlying22 sizeOf36 rfl rfl rfl (by decide) rfl rfl (aD (d:=54) rfl rfl (aN isAgg36 rfl (hn1) rfl (aD (d:=54) rfl rfl (aQ (j:=0) (b:=b1) (o:=o1) (m:=1) (c:=c1) underlying36 sizeOf3 rfl rfl rfl (by decide) rfl rfl (aD (d:=54) rfl rfl (aN isAgg3 rfl (hc1) rfl (aD (d:=54) rfl rfl (dO rfl rfl rfl (bD rfl rfl rfl (aA rfl rfl (bO (d:=63) rfl (fun hc=>?_) (fun hc=>absurd (of_decide_eq_false hc) (by omega))))))))))))))))))
 have hc:=of_decide_eq_true hc
 refine aD (d:=63) rfl rfl (aT (o':=2) eR rfl rfl rfl (aD (d:=63) rfl rfl (aN isAgg23 rfl (aC (hS.at_ 0 rfl) rfl) rfl (aD (d:=63) rfl rfl (aQ (j:=0) (b:=ab) (o:=ao) (m:=2) (c:=ac) underlying23 sizeOf4 rfl rfl rfl (by decide) rfl rfl (aD (d:=63) rfl rfl (aN isAgg4 rfl (hab) rfl (bD rfl rfl rfl (aA rfl rfl (bO (d:=69) rfl (fun hc=>?_) (fun hc=>absurd hc (by decide))))))))))))
 skip
 refine aD (d:=69) rfl rfl (aA rfl rfl (bD rfl rfl rfl (aA rfl rfl (bO (d:=72) rfl (fun hc=>?_) (fun hc=>absurd hc (by decide))))))
 skip
 refine aD (d:=72) rfl rfl (aA rfl rfl (aD (d:=72) rfl rfl (bQ underlying36 rfl rfl (aD (d:=72) rfl rfl (dO rfl rfl rfl (bD rfl rfl rfl (aA rfl rfl (bO (d:=77) rfl (fun hc=>?_) (fun hc=>absurd (of_decide_eq_false hc) (by simp))))))))))
 have hc:=of_decide_eq_true hc
 refine aD (d:=77) rfl rfl (aA rfl rfl (aD (d:=77) rfl rfl (dO rfl rfl rfl (bD rfl rfl rfl (aB rfl rfl (aI (XF.thenN (cE (XF.res (dG results10 rfl) ?_)))))))))
 exact ⟨rfl,hS.below⟩
theorem qV:cD prog 10=true:=by kernel_rfl
theorem goes_9:cD prog 9=true:=by kernel_rfl
theorem zS {w:World} {d:DV} (h:DIn w d) (he:cO d=0):(dFA d).Ok:=qQ he h.nlen (fun r hr=>(h.rin r hr).2.1)
theorem lF {w:World} {d:DV} (h:DIn w d):dD w [] (fun W=>DIn W d):=fun h9 _=>h.below h9.below
theorem din_nx {W:World} {d:DV} (hd:DIn W d) (he:cO d=0) {s x:Nat} (hs:s < d.nl) (hx:(x:Int) < d.sy):∃ (r:IV) (nb no:Nat) (rb ro:Nat),d.na=some ⟨nb,no,none⟩∧W.cell? ⟨nb,no+s * 1,none⟩=some r.val∧r.a=some ⟨rb,ro,none⟩∧(r.l:Int)=d.sy∧W.cell? ⟨rb,ro+x * 1,none⟩=some (.int .i64 (((dFA d).nx s x:Nat):Int))∧(dFA d).nx s x < d.nl:=by
 obtain ⟨k,hk,h1,h2,h3,h4,h5,h6⟩:=dU he
 obtain ⟨r,hr⟩:∃ r,d.ns[s]?=some r:=⟨_,List.getElem?_eq_getElem (by rw [hd.nlen];exact hs)⟩
 obtain ⟨nb,no,hna,hcs⟩:=hd.nrow _ r hr
 have hrm:=List.mem_of_getElem? hr
 obtain ⟨hrr,hrl,_⟩:=hd.rin r hrm
 obtain ⟨hr6,hr7⟩:=h6 r hrm
 obtain ⟨rb,ro,z,hra,hz,hzc⟩:=hrr.at1 (i:=x) (by omega)
 have hzv:=hr7 z (List.mem_of_getElem? hz)
 have e:(((dFA d).nx s x:Nat):Int)=z:=by
  rw [qP he hd.nlen (fun r hr=>(hd.rin r hr).2.1) hr (by omega),List.getD_eq_getElem?_getD,hz]
  exact Int.toNat_of_nonneg hzv.1
 exact ⟨r,nb,no,rb,ro,hna,hcs,hra,by omega,by rw [e];exact hzc,(zS hd he).t0_ s x hs (by show x < d.sy.toNat;omega)⟩
def gQ (l:List Int):List Value:=l.map (fun x=>Value.int .i64 x)
theorem lG {l:List Int}:(gQ l).length=l.length:=List.length_map _
theorem qW {l:List Int} {i:Nat} (h:i < l.length):(gQ l)[0+i * 1]?=some (.int .i64 (l.getD i 0)):=by
 rw [Nat.zero_add,Nat.mul_one];unfold gQ;simp [h]
theorem lH {l:List Int} {i:Nat} {x:Int}:(gQ l).set (0+i * 1) (.int .i64 x)=gQ (l.set i x):=by
 rw [Nat.zero_add,Nat.mul_one];unfold gQ;rw [List.map_set]
theorem vK (m:Nat):madeCells (Value.int .i64 0).cells (m * 1)=(gQ (List.replicate m 0)).toArray:=by
 unfold gQ;rw [List.map_replicate,Nat.mul_one];exact pX _ _
theorem wQ {α:Type} {l m:List α} {n:Nat} (h:l.take n=m.take n) (h1:l.length≤n) (h2:m.length≤n):l=m:=by
 rwa [List.take_of_length_le h1,List.take_of_length_le h2] at h
abbrev Z3t:List Value:=[.int .i64 0,.slice none 0 0,.slice none 0 0]
def mkN (i:Nat) (s:Mks):Prop:=∀ ON,(i,ON)∉s
def mkO (i:Nat) (X:Own) (s:Mks):Prop:=∀ ON,(i,ON)∈s↔ON=X
def mkA (i:Nat) (X:Own) (s:Mks):Prop:=∀ ON,(i,ON)∈s→ON=X
section
variable {i j:Nat} {X N:Own} {s:Mks}
end
structure QF (da db:DV) (g:Bool→Bool→Bool) (q:TB):Prop where
 ok:TOk q
 k:(q.k:Int)=da.sy
 n:q.n≤da.nl * db.nl
 ord:q.fa.Ord
 red:q.fa.Red
 eqv:Eqv q.fa 0 (cK (dFA da) (dFA db) g) 0
def T1 (w0:World) (O:Own) (G:bJ) (K:List (Nat×World)) (OA:Own) (s:Mks) (w:World):Prop:=mkN 2 s∧mkN 7 s∧mkN 8 s∧mkN 9 s∧mkN 10 s∧mkN 12 s∧St w0 (OA++O) G K w
def T4 (w0:World) (O:Own) (G:bJ) (K:List (Nat×World)) (da db:DV) (g:Bool→Bool→Bool) (s:Mks) (w:World):Prop:=∃ (q:TB) (K2:List (Nat×World)) (B:Nat) (ON2 ON5 ON7 ON8 ON9 ON12:Own),(2,ON2)∈s∧(5,ON5)∈s∧(7,ON7)∈s∧(8,ON8)∈s∧(9,ON9)∈s∧(12,ON12)∈s∧mkO 11 [(B,Z3t,61)] s∧mkA 8 [(0,[.tuple #[q.val,.bool true]],0)] s∧mkA 10 [(0,[.bool true],0)] s∧QF da db g q∧(∀ q∈K,q∈K2)∧dD w0 K2 (TAt q)∧St w0 ((B,q.cells,61)::O) G K2 w
section
variable {w0 w:World} {O:Own} {G:bJ} {K:List (Nat×World)} {da db:DV} {g:Bool→Bool→Bool} {s:Mks}
end
theorem vL {A:FA}:Eqv A 0 A 0:=fun _ _=>rfl
structure FRI (A:FA) (p:Nat) (F Y:List Int):Prop where
 lf:F.length=A.n
 ly:Y.length=A.n
 no:∀ s,s < A.n→s∉qm A id p→F.getD s 0 = -1
 f0:F.getD 0 0=0
 at_:∀ i,0 < i→i < (qm A id p).length→F.getD ((qm A id p).getD i 0) 0=(((qm A id p).getD ((qfb A p).getD i (0,0)).1 0:Nat):Int)∧Y.getD ((qm A id p).getD i 0) 0=((((qfb A p).getD i (0,0)).2:Nat):Int)
theorem eZ {l:List Int} {i j:Nat} {x:Int} (h:i < l.length):(l.set i x).getD j 0=if j=i then x else l.getD j 0:=by
 rw [List.getD_eq_getElem?_getD,List.getD_eq_getElem?_getD]
 by_cases e:j=i
 ·subst e;rw [if_pos rfl,List.getElem?_set_self h];rfl
 ·rw [if_neg e,List.getElem?_set_ne (Ne.symm e)]
section
variable {A:FA} {p:Nat} {F Y:List Int}
theorem FRI.start (hA:A.Ok) {Y:List Int} (hy:Y.length=A.n):FRI A 0 ((List.replicate A.n (-1)).set 0 0) Y:=by
 have hp:=hA.pos
 refine ⟨by simp,hy,fun s hs hn=>?_,by rw [eZ (by simpa using hp),if_pos rfl],fun i h0 hi=>?_⟩
 ·have hne:s≠0:=fun e=>hn (by rw [e];exact List.mem_singleton.2 rfl)
  rw [eZ (by simpa using hp),if_neg hne,List.getD_eq_getElem?_getD,List.getElem?_replicate,if_pos hs];rfl
 ·have:(qm A id 0).length=1:=rfl
  omega
theorem FRI.old (h:FRI A p F Y) (hc:ncd A p∈qm A id p):FRI A (p+1) F Y:=by
 have e1:qm A id (p+1)=qm A id p:=hC (by rw [List.map_id];exact List.contains_iff_mem.2 hc)
 have e3:qfb A (p+1)=qfb A p:=by rw [qfb,if_pos (by rw [List.map_id];exact List.contains_iff_mem.2 hc)]
 exact ⟨h.lf,h.ly,by rw [e1];exact h.no,h.f0,by rw [e1,e3];exact h.at_⟩
theorem FRI.new (h:FRI A p F Y) (hB:BI A p) (hp:p / A.k < (qm A id p).length) (hc:ncd A p∉qm A id p) (hlt:ncd A p < A.n) (hm:∀ s∈qm A id p,s < A.n):FRI A (p+1) (F.set (ncd A p) (((qm A id p).getD (p / A.k) 0:Nat):Int)) (Y.set (ncd A p) ((p % A.k:Nat):Int)):=by
 have e1:qm A id (p+1)=qm A id p++[ncd A p]:=gM (by rw [List.map_id];exact fun h9=>hc (List.contains_iff_mem.1 h9))
 have e3:qfb A (p+1)=qfb A p++[(p / A.k,p % A.k)]:=by rw [qfb,if_neg (by rw [List.map_id];exact fun h9=>hc (List.contains_iff_mem.1 h9))]
 have lf:=h.lf
 have ly:=h.ly
 have hlb:=hB.lf
 have h0m:(0:Nat)∈qm A id p:=by
  obtain ⟨t,ht⟩:=nO (A:=A) (cls:=id) (Nat.zero_le p)
  rw [← ht];exact List.mem_append_left _ (List.mem_singleton.2 rfl)
 have hne0:(0:Nat)≠ncd A p:=fun e=>hc (e▸h0m)
 refine ⟨by rw [List.length_set];exact lf,by rw [List.length_set];exact ly,fun s hs hn=>?_,by rw [eZ (by omega),if_neg hne0];exact h.f0,fun i h0 hi=>?_⟩
 ·rw [e1] at hn
  have hne:s≠ncd A p:=fun e=>hn (List.mem_append_right _ (List.mem_singleton.2 e))
  rw [eZ (by omega),if_neg hne]
  exact h.no s hs (fun h9=>hn (List.mem_append_left _ h9))
 ·rw [e1,List.length_append,List.length_singleton] at hi
  rw [e1,e3]
  rcases Nat.lt_or_ge i (qm A id p).length with h1 | h1
  ·have hin:(qm A id p).getD i 0∈qm A id p:=by rw [List.getD_eq_getElem?_getD,List.getElem?_eq_getElem h1];exact List.getElem_mem h1
   have hne:(qm A id p).getD i 0≠ncd A p:=fun e=>hc (e▸hin)
   obtain ⟨g1,g2⟩:=h.at_ i h0 h1
   obtain ⟨q,_,hq2,hq3,_⟩:=hB.par i h0 h1
   rw [cZ h1,cZ (l:=qfb A p) (by omega),eZ (by omega),if_neg hne,eZ (by omega),if_neg hne,cZ (l:=qm A id p) (by rw [hq2];dsimp only;omega)]
   exact ⟨g1,g2⟩
  ·rw [dN (l:=qm A id p) (by omega),dN (l:=qfb A p) (by omega),eZ (by omega),if_pos rfl,eZ (by omega),if_pos rfl,cZ hp]
   exact ⟨rfl,rfl⟩
end
theorem qm_inj {A:FA} {p i j:Nat} (hi:i < (qm A id p).length) (hj:j < (qm A id p).length) (e:(qm A id p).getD i 0=(qm A id p).getD j 0):i=j:=nQ (by have:=jG (A:=A) (cls:=id) (p:=p);rwa [List.map_id] at this) hi hj e
theorem qm_z {A:FA} {p:Nat}:(qm A id p).getD 0 0=0:=by rw [fI (Nat.zero_le _) (iP 0)];rfl
def zT (wa:Option Addr) (xs:List Value) (W:World):Prop:=∀ (i:Nat) u,xs[i]?=some u→∃ b off,wa=some ⟨b,off,none⟩∧W.cell? ⟨b,off+i * 1,none⟩=some u
theorem zT.src {wa:Option Addr} {xs:List Value} {W:World} {n:Nat} (h:zT wa xs W) (hn:xs.length=n) (h0:xs=[]→wa=none):(wa=none∧n=0)∨∃ p,wa=some p∧∀ (j:Nat) u,xs[j]?=some u→W.cell? (p.add j)=some u:=by
 cases xs with
 | nil=>exact .inl ⟨h0 rfl,by simpa using hn.symm⟩
 | cons x xs =>
  obtain ⟨b,off,e,_⟩:=h 0 x rfl
  refine .inr ⟨_,e,fun j u hj=>?_⟩
  obtain ⟨b2,off2,e2,hc⟩:=h j u hj
  rw [e] at e2
  injection e2 with e2
  injection e2 with e3 e4
  subst e3;subst e4
  rw [Nat.mul_one] at hc
  rw [Addr.add_lit];exact hc
theorem zT.row {wa:Option Addr} {u:List Nat} {W:World} (h:zT wa (i64n u) W):Row W wa (wI u):=by
 rcases u with _ | ⟨x,u⟩
 ·exact .inl rfl
 ·obtain ⟨b,off,e,_⟩:=h 0 _ rfl
  refine .inr ⟨b,off,e,fun i hi=>?_⟩
  rw [lX] at hi
  obtain ⟨b2,off2,e2,hc⟩:=h i _ (oD hi)
  rw [e] at e2
  injection e2 with e2
  injection e2 with e3 e4
  subst e3;subst e4
  rw [Nat.mul_one] at hc
  rw [hc]
  unfold wI
  rw [List.getD_eq_getElem?_getD,List.getElem?_map,tG hi];rfl
theorem wR (d:DV) (Kt:List (Nat×World)) (Ot:Own) (G:bJ) (K:List (Nat×World)) (w0 w:World) (hS0:St w0 Ot G K w) (hKt:∀ q∈Kt,q∈K) (hD:dD w0 Kt (fun W=>DIn W d)) (he:cO d=0) :
  Calls prog 42 #[d.val] w (fun e w'=>∃ (r:Option (List Nat)) (wa:Option Addr) (wc:Nat) (Kn:List (Nat×World)),FW (dFA d) r∧(r.getD []).length≤1024∧e = .returned (.tuple #[.slice wa (r.getD []).length wc,.bool r.isSome])∧(∀ q∈K,q∈Kn)∧dD w0 Kn (fun W=>Row W wa (wI (r.getD [])))∧St w0 Ot G Kn w'):=by
 refine cP (args:=[d.val]) func42 rfl ntmps42 rfl ?_
 have hS:=hS0
 obtain ⟨k9,hk9,h1,h2,h3,h4,h5,h6⟩:=dU he
 have hDI0:=hD hS0 hKt
 have hbl:d.bs.length=d.nl:=by have:=hDI0.alen;omega
 have hO:=zS hDI0 he
 have hkk:d.sy.toNat=k9:=by omega
 refine aE (aL (dA (cs:=[_,_,_]) hS rfl rfl rfl fun B1 W1 hS=>aB rfl rfl (aB rfl rfl (aI (XF.thenN (aE (aL (aT (o':=1) cR rfl rfl rfl (aN isAgg22 rfl (aC (hS.at_ 0 rfl) rfl) rfl (bQ underlying22 rfl rfl ?_))))))))))
 refine fD (m:=d.nl) (cs:=gQ (List.replicate d.nl 0)) hS underlying36 nT rfl rfl rfl (rfl) (rfl) (vK _) (by show (8:Int) * _≤_;omega) (by omega) rfl fun B2 W2 hS=>?_
 refine aB rfl rfl (aI (XF.thenN (aE (aL (aT (o':=1) cR rfl rfl rfl (aN isAgg22 rfl (aC (hS.at_ 1 rfl) rfl) rfl (bQ underlying22 rfl rfl ?_)))))))
 refine fD (m:=d.nl) (cs:=gQ (List.replicate d.nl 0)) hS underlying36 nT rfl rfl rfl (rfl) (rfl) (vK _) (by show (8:Int) * _≤_;omega) (by omega) rfl fun B3 W3 hS=>?_
 refine aB rfl rfl (aI (XF.thenN (aE (aE (aL (aB rfl rfl (aI (XF.thenN (bE ?_)))))))))
 refine cJ (fun m l W=>∃ i:Nat,i≤d.nl∧m=d.nl - i∧l=[(1,.pointer (some ⟨B1,0,none⟩)),(4,.slice (some ⟨B2,0,none⟩) d.nl d.nl),(5,.slice (some ⟨B3,0,none⟩) d.nl d.nl),(6,.int .i64 (i:Int))]∧St w0 ((B3,gQ (List.replicate d.nl 0),3)::(B2,gQ (zm d.nl i),3)::(B1,[.int .i64 d.sy,.slice d.na d.nl d.nc,.slice d.aa d.al d.ac],25)::Ot) G K W) (d.nl - 0) ([(1,_),(4,_),(5,_),(6,_)]) ⟨rfl,rfl,rfl,rfl,trivial⟩ (⟨0,Nat.zero_le _,rfl,rfl,by rw [uZ];exact hS.keep K (fun q hq=>by simp [hq])⟩) ?_
 clear hS
 rintro m l W ⟨i,hi,rfl,rfl,hS⟩
 refine aE (aE (aL (aA rfl rfl (aA rfl rfl (bQ underlying36 rfl rfl (bW rfl rfl rfl (aI (XF.thenN (bR rfl (fun hc=>?_) (fun hc=>?_))))))))))
 ·have hc24:=of_decide_eq_true hc;clear hc
  refine bT (XF.thenN (aE (bE (aL (aA rfl rfl (aA rfl rfl (aQ (j:=i) underlying36 sizeOf3 rfl rfl (rfl) (by omega) rfl rfl ?_)))))))
  refine bS (i:=1) (cs':=gQ ((zm d.nl i).set i (-1))) (O':=(_::_::_::Ot)) hS sizeOf3 rfl rfl rfl rfl (Nat.ble_eq_true_of_le (by rw [lG,yN (by omega)];omega)) lH rfl fun W51 hS=>?_
  refine aI (XF.blkN (XF.thenN (aL (aA rfl rfl (bV rfl rfl (IntWalk.i64_in _ (by omega)) rfl (aB rfl rfl (aI ?_)))))))
  rw [yO (by omega)] at hS
  exact XF.round (d.nl - (i+1)) [(1,_),(4,_),(5,_),(6,_)] (by omega) ⟨rfl,rfl,rfl,rfl,trivial⟩ ⟨i+1,by omega,rfl,rfl,hS.keep K (fun q hq=>by simp [hq])⟩
 ·have hc24:=of_decide_eq_false hc;clear hc
  have eic:i=d.nl:=by omega
  rw [eic,yP] at hS
  refine cI (XF.thenX (XF.thenX (XF.blkX (XF.thenN (aE (aL (bU (us:=[(0,.int .i64 _)]) hS underlying36 sizeOf3 zeroValue3 rfl rfl rfl (iR _) rfl fun B4 W4 hS=>aB rfl rfl (aI (XF.thenN (aE ?_))))))))))
  have hS':=(hS.castO (O':=((B4,[Value.int .i64 0]++[],3)::_::_::_::Ot)) rfl).ownRowE (n:=1) (c:=1) (sz:=1) rfl rfl (Nat.le_refl _) (by decide);clear hS;have hS:=hS';clear hS'
  have hq0:qm (dFA d) id (0 * d.sy.toNat)=[0]:=by rw [Nat.zero_mul];rfl
  have ez:0 * d.sy.toNat=0:=Nat.zero_mul _
  refine aL (aA rfl rfl (aQ (j:=0) underlying36 sizeOf3 rfl rfl (rfl) (by omega) rfl rfl ?_))
  refine bS (i:=1) (cs':=gQ ((List.replicate d.nl (-1)).set 0 0)) (O':=(_::_::_::Ot)) hS sizeOf3 rfl rfl rfl rfl (Nat.ble_eq_true_of_le (by rw [lG,List.length_replicate];omega)) lH rfl fun W91 hS=>?_
  refine aI (XF.thenN (aE (aE (aL (aB rfl rfl (aI (XF.thenN (bE ?_))))))))
  refine cJ (fun m l W=>∃ (i sl:Nat) (sa:Option Addr) (sc:Nat) (F Y:List Int),i≤sl∧m=d.nl - i∧l=[(1,.pointer (some ⟨B1,0,none⟩)),(4,.slice (some ⟨B2,0,none⟩) d.nl d.nl),(5,.slice (some ⟨B3,0,none⟩) d.nl d.nl),(7,.slice sa sl sc),(8,.int .i64 (i:Int))]∧(qm (dFA d) id (i * d.sy.toNat)).length=sl∧(∀ j,j < i→j < (qm (dFA d) id (j * d.sy.toNat)).length)∧(∀ j,j < i→(dFA d).ac ((qm (dFA d) id (i * d.sy.toNat)).getD j 0)=false)∧FRI (dFA d) (i * d.sy.toNat) F Y∧St w0 ((B3,gQ (Y),3)::(B2,gQ (F),3)::(B1,[.int .i64 d.sy,.slice d.na d.nl d.nc,.slice d.aa d.al d.ac],25)::Ot) (⟨.slice sa (sl) sc,sl,i64n (qm (dFA d) id (i * d.sy.toNat)),3,1⟩::G) K W) (d.nl - 0) ([(1,_),(4,_),(5,_),(7,_),(8,_)]) ⟨rfl,rfl,rfl,rfl,rfl,trivial⟩ (⟨0,1,some ⟨B4,0,none⟩,1,(List.replicate d.nl (-1)).set 0 0,List.replicate d.nl 0,Nat.zero_le _,rfl,rfl,by rw [hq0];rfl,fun j hj=>absurd hj (Nat.not_lt_zero _),fun j hj=>absurd hj (Nat.not_lt_zero _),by rw [ez];exact FRI.start hO List.length_replicate,by rw [hq0];exact hS.keep K (fun q hq=>by simp [hq])⟩) ?_
  clear hS
  rintro m l W ⟨i,sl,sa,sc,F,Y,hi,rfl,rfl,hsl,hrows,hno,hFR,hS⟩
  have hqr:fJ (dFA d) id (i * d.sy.toNat):=fun q hq=>by
   obtain ⟨d1,_,d3⟩:=dW hq
   exact Nat.lt_of_lt_of_le (hrows _ d1) (fH d3)
  obtain ⟨hq1,hq2⟩:=mG (cm:=d.nl) hO (fun _=>hqr) (fun h0=>by have h9:d.sy.toNat=0:=h0;rw [h9,Nat.mul_zero]) (fun x hx=>hx)
  refine aE (aE (aL (aA rfl rfl (aA rfl rfl (bQ underlying36 rfl rfl (bW rfl rfl rfl (aI (XF.thenN (bR rfl (fun hc=>?_) (fun hc=>?_))))))))))
  ·have hc36:=of_decide_eq_true hc;clear hc
   obtain ⟨c,hcE⟩:∃ c,(qm (dFA d) id (i * d.sy.toNat)).getD i 0=c:=⟨_,rfl⟩
   have hcx:(qm (dFA d) id (i * d.sy.toNat))[i]?=some c:=by rw [← hcE,List.getD_eq_getElem?_getD,List.getElem?_eq_getElem (by omega)];rfl
   have hc9:c < d.nl:=hq2 _ (List.mem_of_getElem? hcx)
   obtain ⟨sb,rfl⟩:=fK (hS.row 0 rfl) (by omega)
   obtain ⟨ab,ao,haa,hac⟩:=gD.get (hD hS (fun q hq=>by simp [hKt q hq])).arow (i:=c) (by omega)
   refine bT (XF.thenN (aE (bE (aE (aL (aA rfl rfl (aA rfl rfl (aQ (j:=i) (b:=sb) (o:=0) (m:=sl) (c:=sc) underlying36 sizeOf3 rfl rfl rfl (by omega) rfl rfl ?_))))))))
   refine aN isAgg3 rfl (by rw [Nat.zero_add,Nat.mul_one];exact cN (hS.row 0 rfl) (k:=i) (show (i64n _)[i]?=some (.int .i64 (c:Int)) by unfold i64n;rw [List.getElem?_map,hcx];rfl)) rfl ?_
   refine aB rfl rfl (aI (XF.thenN (aE (aE (aL (aT (o':=2) eR rfl rfl rfl (aN isAgg23 rfl (aC (hS.at_ 2 rfl) rfl) rfl (aA rfl rfl ?_))))))))
   refine aQ (j:=c) (b:=ab) (o:=ao) (m:=d.al) (c:=d.ac) underlying23 sizeOf4 (by show some (Value.slice _ _ _)=_;rw [haa]) rfl rfl (by omega) rfl rfl ?_
   refine aN isAgg4 rfl (hac) rfl (aI (XF.thenN (bR rfl (fun hc=>?_) (fun hc=>?_))))
   ·have hc47:=hc;clear hc
    have hacc:(dFA d).ac ((qm (dFA d) id (i * d.sy.toNat)).getD i 0)=true:=by rw [hcE];exact hc47
    have hBI:=mV hqr
    have lfF:F.length=d.nl:=hFR.lf
    have lfY:Y.length=d.nl:=hFR.ly
    refine aE (aL (aB rfl rfl (aI (XF.thenN (aE (bE ?_))))))
    refine cJ (fun m l W=>∃ (j:Nat) (suf:List Nat) (wa:Option Addr) (wc:Nat) (Kk:List (Nat×World)),j < sl∧m=j∧l=[(1,.pointer (some ⟨B1,0,none⟩)),(4,.slice (some ⟨B2,0,none⟩) d.nl d.nl),(5,.slice (some ⟨B3,0,none⟩) d.nl d.nl),(9,.int .i64 (((qm (dFA d) id (i * d.sy.toNat)).getD j 0:Nat):Int)),(10,.slice wa suf.length wc)]∧(qw (dFA d) (i * d.sy.toNat)).getD (i) []=(qw (dFA d) (i * d.sy.toNat)).getD (j) []++suf∧(suf=[]→wa=none)∧(∀ q∈K,q∈Kk)∧dD w0 Kk (zT wa (i64n suf))∧St w0 ((B3,gQ (Y),3)::(B2,gQ (F),3)::(B1,[.int .i64 d.sy,.slice d.na d.nl d.nc,.slice d.aa d.al d.ac],25)::Ot) (⟨.slice (some ⟨sb,0,none⟩) (sl) sc,sl,i64n (qm (dFA d) id (i * d.sy.toNat)),3,1⟩::G) Kk W) (i) ([(1,_),(4,_),(5,_),(9,_),(10,_)]) ⟨rfl,rfl,rfl,by show _=some (Value.int .i64 (((qm (dFA d) id (i * d.sy.toNat)).getD i 0:Nat):Int));rw [hcE];rfl,rfl,trivial⟩ (⟨i,[],none,0,K,by omega,rfl,rfl,(List.append_nil _).symm,fun _=>rfl,fun q hq=>hq,fun _ _ i u h=>(by cases h),hS.keep K (fun q hq=>by simp [hq])⟩) ?_
    clear hS
    rintro j l W ⟨_,suf,wa,wc,Kk,hj,rfl,rfl,hwd,hsn,hsub,hKR,hS⟩
    refine aE (aE (aL (aA rfl rfl (fN rfl rfl rfl (aI (XF.thenN (bR rfl (fun hc=>?_) (fun hc=>?_))))))))
    ·have hc49:=of_decide_eq_true hc;clear hc
     have hj0:0 < j:=by
      rcases Nat.eq_zero_or_pos j with h0 | h0
      ·rw [h0,qm_z] at hc49;exact absurd rfl hc49
      ·exact h0
     obtain ⟨q,hqp,hqf,hqj,hqw⟩:=hBI.par j hj0 (show j < (qm (dFA d) id (i * d.sy.toNat)).length by omega)
     obtain ⟨hF9,hY9⟩:=hFR.at_ j hj0 (show j < (qm (dFA d) id (i * d.sy.toNat)).length by omega)
     have hqf:(qfb (dFA d) (i * d.sy.toNat)).getD j (0,0)=(q / (dFA d).k,q % (dFA d).k):=hqf
     rw [hqf] at hF9 hY9
     dsimp only at hF9 hY9
     have hsj:(qm (dFA d) id (i * d.sy.toNat)).getD j 0 < d.nl:=hq2 _ (by rw [List.getD_eq_getElem?_getD,List.getElem?_eq_getElem (by omega)];exact List.getElem_mem _)
     have hwl:=hBI.wlen i i (Nat.le_refl _) (show i < (qm (dFA d) id (i * d.sy.toNat)).length by omega)
     have hsl9:suf.length≤i:=by
      have h9:=congrArg List.length hwd
      rw [List.length_append] at h9
      have hwl:((qw (dFA d) (i * d.sy.toNat)).getD i []).length≤i:=hwl
      omega
     refine bT (XF.thenN (bE (aE (aL (aA rfl rfl (aA rfl rfl (aQ (j:=(qm (dFA d) id (i * d.sy.toNat)).getD j 0) underlying36 sizeOf3 rfl rfl (rfl) (hsj) rfl rfl (aN isAgg3 rfl (aC (hS.at_ 0 rfl) (qW (by omega))) rfl (bU (us:=[(0,.int .i64 _)]) hS underlying36 sizeOf3 zeroValue3 rfl rfl rfl (iR _) rfl fun B5 W5 hS=>aA rfl rfl ?_)))))))))
     have hKR9:=hKR (hS.keep Kk (fun q hq=>by simp [hq])) (fun q hq=>hq)
     have hS':=(hS.castO (O':=((B5,[Value.int .i64 (Y.getD ((qm (dFA d) id (i * d.sy.toNat)).getD j 0) 0)]++[],3)::_::_::_::Ot)) rfl).ownRowE (n:=1) (c:=1) (sz:=1) rfl rfl (Nat.le_refl _) (by decide);clear hS;have hS:=hS';clear hS'
     refine nJ (i:=0) (news:=i64n suf) hS underlying36 nT rfl rfl (by show 0 < 1;decide) rfl rfl rfl rfl rfl (hKR9.src (by rw [fY]) (fun h=>hsn (by cases suf with | nil=>rfl | cons _ _=>cases h))) (by rw [fY];exact (Nat.mul_one _).symm) (fun u hu=>by unfold i64n at hu;obtain ⟨x,_,rfl⟩:=List.mem_map.1 hu;rfl) (by show 1+suf.length≤maxLen;simp only [maxLen];omega) (by show (1+suf.length) * 8≤_;omega) rfl fun v16 W16 hS=>?_
     obtain ⟨wa9,wc9,e9,_⟩:=cA (hS.row 0 rfl)
     dsimp only at e9
     subst e9
     have hS9:=(hS.keep Kk (fun q hq=>by simp [hq])).castG (G':=(⟨.slice wa9 (1+suf.length) wc9,1+suf.length,i64n (q % (dFA d).k::suf),3,1⟩::_::G)) (by show GR.mk _ _ ([Value.int .i64 _]++_) _ _::_=_;rw [hY9];rfl)
     obtain ⟨Kn,kn,gn,hS8⟩:=hS9.rowKeep
     clear hS hS9;have hS:=hS8;clear hS8
     refine aB rfl rfl (aI (XF.thenN (aL (aA rfl rfl (aA rfl rfl (aQ (j:=(qm (dFA d) id (i * d.sy.toNat)).getD j 0) underlying36 sizeOf3 rfl rfl (rfl) (hsj) rfl rfl (aN isAgg3 rfl (aC (hS.at_ 1 rfl) (qW (by omega))) rfl (aB rfl rfl (aI (XF.blkN ?_))))))))))
     exact XF.round (q / (dFA d).k) [(1,.pointer (some ⟨B1,0,none⟩)),(4,.slice (some ⟨B2,0,none⟩) d.nl d.nl),(5,.slice (some ⟨B3,0,none⟩) d.nl d.nl),(9,.int .i64 (((qm (dFA d) id (i * d.sy.toNat)).getD (q / (dFA d).k) 0:Nat):Int)),(10,.slice wa9 (q % (dFA d).k::suf).length wc9)] hqj ⟨rfl,rfl,rfl,by show _=some (Value.int .i64 (((qm (dFA d) id (i * d.sy.toNat)).getD (q / (dFA d).k) 0:Nat):Int));rw [← hF9];rfl,by show _=some (Value.slice wa9 (q % (dFA d).k::suf).length wc9);rw [List.length_cons,Nat.add_comm suf.length 1];rfl,trivial⟩ ⟨q / (dFA d).k,q % (dFA d).k::suf,wa9,wc9,Kn,by omega,rfl,rfl,by rw [hwd,show (qw (dFA d) (i * d.sy.toNat)).getD j []=_ from hqw,List.append_assoc];rfl,fun h=>(by cases h),fun q hq=>kn q (hsub q hq),gn,hS.keep Kn (fun q hq=>by simp [hq])⟩
    ·have hc49:=of_decide_eq_false hc;clear hc
     have hj0:j=0:=by
      have h9:(qm (dFA d) id (i * d.sy.toNat)).getD j 0=0:=by have:=Decidable.of_not_not hc49;omega
      exact qm_inj (show j < (qm (dFA d) id (i * d.sy.toNat)).length by omega) (iP _) (h9.trans qm_z.symm)
     subst hj0
     have hw0:(qw (dFA d) (i * d.sy.toNat)).getD 0 []=[]:=hBI.w0
     rw [hw0,List.nil_append] at hwd
     refine cI (XF.thenX (XF.thenX (XF.blkX (XF.thenN (aE (aL (aA rfl rfl (aB rfl rfl (aB rfl rfl (aI (XF.thenN (cE (XF.thenR (XF.blkR (XF.thenR (XF.thenR (XF.blkR (XF.thenR (XF.res (mI results42 rfl rfl) ?_)))))))))))))))))))
     exact ⟨some _,wa,wc,Kk,oX hqr (show i < (qm (dFA d) id (i * d.sy.toNat)).length by omega) hno hacc,Nat.le_trans (hBI.wlen i i (Nat.le_refl _) (show i < (qm (dFA d) id (i * d.sy.toNat)).length by omega)) (by omega),by show _=Ending.returned (.tuple #[.slice wa ((qw (dFA d) (i * d.sy.toNat)).getD (i) []).length wc,.bool true]);rw [hwd],hsub,fun h9 hk9=>by show Row _ wa (wI ((qw (dFA d) (i * d.sy.toNat)).getD (i) []));rw [hwd];exact (hKR h9 hk9).row,(hS.keep Kk (fun q hq=>by simp [hq])).tail.tail.tail.tailG⟩
   ·have hc47:=hc;clear hc
    refine bT (XF.thenN (aE (aL (aB rfl rfl (aI (XF.thenN (bE (cJ (fun m l W=>∃ (x sl:Nat) (sa:Option Addr) (sc:Nat) (F Y:List Int),x≤d.sy.toNat∧m=d.sy.toNat - x∧l=[(1,.pointer (some ⟨B1,0,none⟩)),(4,.slice (some ⟨B2,0,none⟩) d.nl d.nl),(5,.slice (some ⟨B3,0,none⟩) d.nl d.nl),(7,.slice sa sl sc),(8,.int .i64 (i:Int)),(9,.int .i64 (c:Int)),(11,.int .i64 (x:Int))]∧(qm (dFA d) id (i * d.sy.toNat+x)).length=sl∧FRI (dFA d) (i * d.sy.toNat+x) F Y∧St w0 ((B3,gQ (Y),3)::(B2,gQ (F),3)::(B1,[.int .i64 d.sy,.slice d.na d.nl d.nc,.slice d.aa d.al d.ac],25)::Ot) (⟨.slice sa (sl) sc,sl,i64n (qm (dFA d) id (i * d.sy.toNat+x)),3,1⟩::G) K W) (d.sy.toNat - 0) ([(1,_),(4,_),(5,_),(7,_),(8,_),(9,_),(11,_)]) ⟨rfl,rfl,rfl,rfl,rfl,rfl,rfl,trivial⟩ (⟨0,sl,some ⟨sb,0,none⟩,sc,F,Y,Nat.zero_le _,rfl,rfl,hsl,hFR,hS.keep K (fun q hq=>by simp [hq])⟩) ?_))))))))
    clear hS
    have hil:i < (qm (dFA d) id (i * d.sy.toNat)).length:=by omega
    clear hi
    rintro m l W ⟨x,sl9,sa,sc,F,Y,hx,rfl,rfl,hsl9,hFR,hS⟩
    refine aE (aE (aL (aA rfl rfl (aT (o':=0) dZ rfl rfl rfl (aN isAgg3 rfl (aC (hS.at_ 2 rfl) rfl) rfl (bW rfl rfl rfl (aI (XF.thenN (bR rfl (fun hc=>?_) (fun hc=>?_))))))))))
    ·have hc65:=of_decide_eq_true hc;clear hc
     have hx9:x < d.sy.toNat:=by omega
     have hpk:(i * d.sy.toNat+x) / d.sy.toNat=i∧(i * d.sy.toNat+x) % d.sy.toNat=x:=fG hx9
     have hgd:(qm (dFA d) id (i * d.sy.toNat+x)).getD i 0=c:=(fI (Nat.le_add_right _ _) hil).trans hcE
     obtain ⟨r,nb,no,rb,ro,hna,q1,hra,hrlE,q2,hlt⟩:=din_nx (hD hS (fun q hq=>by simp [hKt q hq])) he hc9 hc65
     have hqr2:fJ (dFA d) id (i * d.sy.toNat+x):=fun q hq=>by
      rcases Nat.lt_or_ge q (i * d.sy.toNat) with h9 | h9
      ·exact hqr q h9
      ·have h8:q / d.sy.toNat=i:=by
        rw [show q=i * d.sy.toNat+(q - i * d.sy.toNat) by omega];exact (fG (by omega)).1
       rw [show q / (dFA d).k=i from h8]
       exact Nat.lt_of_lt_of_le hil (fH h9)
     obtain ⟨hq3,hq4⟩:=mG (cm:=d.nl) hO (fun _=>hqr2) (fun h0=>absurd (show d.sy.toNat=0 from h0) (by omega)) (fun x hx=>hx)
     have hnc:ncd (dFA d) (i * d.sy.toNat+x)=(dFA d).nx c x:=by
      show (dFA d).nx ((qm (dFA d) id (i * d.sy.toNat+x)).getD ((i * d.sy.toNat+x) / d.sy.toNat) 0) ((i * d.sy.toNat+x) % d.sy.toNat)=_
      rw [hpk.1,hpk.2,hgd]
     have hBI:=BI.all (.inl (show 0 < (dFA d).k by show 0 < d.sy.toNat;omega)) hqr2
     have lfF:=hFR.lf
     have lfY:=hFR.ly
     have lfF:F.length=d.nl:=lfF
     have lfY:Y.length=d.nl:=lfY
     refine bT (XF.thenN (aE (bE (aE (aL (aT (o':=1) cR rfl rfl rfl (aN isAgg22 rfl (aC (hS.at_ 2 rfl) rfl) rfl (aA rfl rfl ?_))))))))
     refine aQ (j:=c) (b:=nb) (o:=no) (m:=d.nl) (c:=d.nc) underlying22 sizeOf36 (by show some (Value.slice _ _ _)=_;rw [hna]) rfl rfl (by omega) rfl rfl ?_
     refine aN isAgg36 rfl (q1) rfl (aA rfl rfl ?_)
     refine aQ (j:=x) (b:=rb) (o:=ro) (m:=r.l) (c:=r.c) underlying36 sizeOf3 (by show some (Value.slice _ _ _)=_;rw [hra]) rfl (by omega) (by omega) rfl rfl ?_
     refine aN isAgg3 rfl (q2) rfl (aB rfl rfl (aI (XF.thenN (aE (aL (aA rfl rfl (aA rfl rfl (aQ (j:=(dFA d).nx c x) underlying36 sizeOf3 rfl rfl (rfl) (by omega) rfl rfl (aN isAgg3 rfl (aC (hS.at_ 1 rfl) (qW (by omega))) rfl (bW rfl rfl rfl (aI (XF.thenN (bR rfl (fun hc=>?_) (fun hc=>?_))))))))))))))
     ·have hc80:=of_decide_eq_true hc;clear hc
      have hnew:ncd (dFA d) (i * d.sy.toNat+x)∉qm (dFA d) id (i * d.sy.toNat+x):=fun h=>by
       obtain ⟨z,hz⟩:=List.getElem?_of_mem h
       obtain ⟨hzl,_⟩:=List.getElem?_eq_some_iff.1 hz
       have hzg:(qm (dFA d) id (i * d.sy.toNat+x)).getD z 0=(dFA d).nx c x:=by rw [List.getD_eq_getElem?_getD,hz];exact hnc
       rcases Nat.eq_zero_or_pos z with h0 | h0
       ·rw [h0,qm_z] at hzg
        rw [← hzg,hFR.f0] at hc80;omega
       ·have h9:=(hFR.at_ z h0 hzl).1
        rw [hzg] at h9;omega
      have hFR9:=hFR.new hBI (by show (i * d.sy.toNat+x) / d.sy.toNat < _;rw [hpk.1];exact Nat.lt_of_lt_of_le hil (fH (Nat.le_add_right _ _))) hnew (by rw [hnc];exact hlt) hq4
      refine aE (aL (aA rfl rfl (aA rfl rfl (aA rfl rfl (aA rfl rfl (aA rfl rfl (aA rfl rfl (aQ (j:=(dFA d).nx c x) underlying36 sizeOf3 rfl rfl (rfl) (by omega) rfl rfl ?_))))))))
      refine bS (i:=1) (cs':=gQ (F.set ((dFA d).nx c x) (c:Int))) (O':=(_::_::_::Ot)) hS sizeOf3 rfl rfl rfl rfl (Nat.ble_eq_true_of_le (by rw [lG];omega)) lH rfl fun W92 hS=>?_
      refine aQ (j:=(dFA d).nx c x) underlying36 sizeOf3 rfl rfl (rfl) (by omega) rfl rfl ?_
      refine bS (i:=0) (cs':=gQ (Y.set ((dFA d).nx c x) (x:Int))) (O':=(_::_::_::Ot)) hS sizeOf3 rfl rfl rfl rfl (Nat.ble_eq_true_of_le (by rw [lG];omega)) lH rfl fun W93 hS=>?_
      refine aI (XF.thenN (aL (aA rfl rfl (aA rfl rfl (bU (us:=[(0,.int .i64 _)]) hS underlying36 sizeOf3 zeroValue3 rfl rfl rfl (iR _) rfl fun B6 W6 hS=>?_)))))
      refine dL (i:=0) (news:=[_]) hS underlying36 nT rfl rfl (by show 0 < 1;decide) rfl rfl rfl rfl rfl (aX.own (j:=0) (m:=1) (hS.at_ 0 rfl) rfl) rfl rfl (by dsimp only;simp only [maxLen];omega) (by dsimp only;show _ * 8≤_;omega) rfl fun v7 W7 hS=>?_
      obtain ⟨sa9,sc9,e9,_⟩:=cA (hS.row 0 rfl)
      dsimp only at e9
      subst e9
      refine aB rfl rfl (aI (XF.blkN (XF.thenN (aL (aA rfl rfl (bV rfl rfl (IntWalk.i64_in _ (by omega)) rfl (aB rfl rfl (aI ?_))))))))
      have eq1:qm (dFA d) id (i * d.sy.toNat+x+1)=qm (dFA d) id (i * d.sy.toNat+x)++[(dFA d).nx c x]:=by rw [← hnc];exact gM (by rw [List.map_id];exact fun h9=>hnew (List.contains_iff_mem.1 h9))
      rw [show (i * d.sy.toNat+x) / (dFA d).k=i from hpk.1,show (i * d.sy.toNat+x) % (dFA d).k=x from hpk.2,hgd,hnc] at hFR9
      have hS9:=hS.tail.castG (G':=(⟨.slice sa9 (sl9+1) sc9,(sl9+1),i64n (qm (dFA d) id (i * d.sy.toNat+x+1)),3,1⟩::G)) (by rw [eq1,← sE rfl];rfl)
      exact XF.round (d.sy.toNat - (x+1)) [(1,_),(4,_),(5,_),(7,_),(8,_),(9,_),(11,_)] (by omega) ⟨rfl,rfl,rfl,rfl,rfl,rfl,rfl,trivial⟩ ⟨x+1,sl9+1,sa9,sc9,_,_,by omega,rfl,rfl,by show (qm (dFA d) id (i * d.sy.toNat+x+1)).length=sl9+1;rw [eq1,List.length_append,hsl9];rfl,hFR9,hS9.keep K (fun q hq=>by simp [hq])⟩
     ·have hc80:=of_decide_eq_false hc;clear hc
      have hold:ncd (dFA d) (i * d.sy.toNat+x)∈qm (dFA d) id (i * d.sy.toNat+x):=Decidable.of_not_not fun h=>by
       have h9:=hFR.no _ (show ncd (dFA d) (i * d.sy.toNat+x) < d.nl by rw [hnc];exact hlt) h
       rw [hnc] at h9;omega
      have hFR9:=hFR.old hold
      refine bT (XF.blkN (XF.thenN (aL (aA rfl rfl (bV rfl rfl (IntWalk.i64_in _ (by omega)) rfl (aB rfl rfl (aI ?_)))))))
      have eq1:qm (dFA d) id (i * d.sy.toNat+x+1)=qm (dFA d) id (i * d.sy.toNat+x):=hC (by rw [List.map_id];exact List.contains_iff_mem.2 hold)
      rw [← eq1] at hsl9 hS
      exact XF.round (d.sy.toNat - (x+1)) [(1,_),(4,_),(5,_),(7,_),(8,_),(9,_),(11,_)] (by omega) ⟨rfl,rfl,rfl,rfl,rfl,rfl,rfl,trivial⟩ ⟨x+1,sl9,sa,sc,F,Y,by omega,rfl,rfl,hsl9,hFR9,hS.keep K (fun q hq=>by simp [hq])⟩
    ·have hc65:=of_decide_eq_false hc;clear hc
     have exk:x=d.sy.toNat:=by omega
     have es:(i+1) * d.sy.toNat=i * d.sy.toNat+x:=by rw [Nat.succ_mul,exk]
     have hle9:i * d.sy.toNat≤(i+1) * d.sy.toNat:=Nat.mul_le_mul_right _ (Nat.le_succ i)
     rw [← es] at hsl9 hFR hS
     have hil2:i < sl9:=by have:=fH (A:=dFA d) (cls:=id) hle9;omega
     have hno2:∀ j,j < i+1→(dFA d).ac ((qm (dFA d) id ((i+1) * d.sy.toNat)).getD j 0)=false:=fun j hj=>by
      rw [fI hle9 (show j < (qm (dFA d) id (i * d.sy.toNat)).length by omega)]
      rcases Nat.lt_or_ge j i with h9 | h9
      ·exact hno j h9
      ·rw [show j=i by omega,hcE];exact hc47
     refine cI (XF.thenX (XF.thenX (XF.blkX (XF.blkN (XF.thenN (aL (aA rfl rfl (bV rfl rfl (IntWalk.i64_in _ (by omega)) rfl (aB rfl rfl (aI ?_))))))))))
     exact XF.round (d.nl - (i+1)) [(1,_),(4,_),(5,_),(7,_),(8,_)] (by omega) ⟨rfl,rfl,rfl,rfl,rfl,trivial⟩ ⟨i+1,sl9,sa,sc,F,Y,by omega,rfl,rfl,hsl9,fun j hj=>(by
      rcases Nat.lt_or_ge j i with h9 | h9
      ·exact hrows j h9
      ·rw [show j=i by omega];exact hil),hno2,hFR,hS.keep K (fun q hq=>by simp [hq])⟩
  ·have hc36:=of_decide_eq_false hc;clear hc
   refine cI (XF.thenX (XF.thenX (XF.blkX (XF.thenN (aE (aL (aB rfl rfl (aB rfl rfl (aI (XF.thenN (cE (XF.res (mI results42 rfl rfl) ?_))))))))))))
   exact ⟨none,none,0,K,sH hqr (show (qm (dFA d) id (i * d.sy.toNat)).length≤i by omega) hno,Nat.zero_le _,rfl,fun q hq=>hq,fun _ _=>.inl rfl,(hS.keep K (fun q hq=>by simp [hq])).tail.tail.tail.tailG⟩
end
end Go.Proofs.Ytghmbejblbnjjaa
