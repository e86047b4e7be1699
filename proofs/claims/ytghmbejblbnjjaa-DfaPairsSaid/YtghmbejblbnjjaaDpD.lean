import Derived.Test.YtghmbejblbnjjaaDpC
set_option maxRecDepth 100000
set_option maxHeartbeats 4000000
set_option linter.unusedVariables false
set_option linter.unusedSimpArgs false
set_option linter.unusedSectionVars false
set_option linter.unnecessarySimpa false
namespace Go.Proofs.Ytghmbejblbnjjaa
open Go.Proofs.Try
section
open Go.RowKit
theorem goes_51:cC prog 51=true:=by kernel_rfl
theorem goes_52:cC prog 52=true:=by kernel_rfl
theorem goes_53:cC prog 53=true:=by kernel_rfl
theorem lT (t:TB) (mo:Nat) (Kt:List (Nat×World)) (Ot:Own) (G:bN) (K:List (Nat×World)) (w0 w:World) (hS0:St w0 Ot G K w) (hT:TOk t) (hKt:∀ q∈Kt,q∈K) (hB:cL w0 Kt (TAt t)) (hmo:t.n≤mo) :
  Calls prog 33 #[t.val,.int .i64 (mo:Int)] w (fun e w'=>∃ (q:TB) (Kn:List (Nat×World)),e = .returned (.tuple #[q.val,.bool true])∧q.k=t.k∧q.n≤t.n∧TOk q∧q.fa.Ord∧q.fa.Red∧Eqv q.fa 0 t.fa 0∧(∀ q∈K,q∈Kn)∧cL w0 Kn (TAt q)∧St w0 Ot G Kn w'):=by
 refine cP (args:=[t.val,.int .i64 (mo:Int)]) func33 rfl ntmps33 rfl ?_
 have hS:=hS0
 have hn1:=hT.n1
 have hp:=hT.pos
 refine aH (aN (cI (cs:=[_,_,_]) hS rfl rfl rfl fun B1 W1 hS=>cE (cs:=[_,_,_]) hS zeroValue61 rfl rfl fun B2 W2 hS=>aB rfl rfl (aK (XF.thenN (aH (aN (bC (vs:=[_,_,_]) isAgg61 sizeOf61 rfl (aT.own (j:=0) (m:=3) (hS.at_ 1 rfl) rfl) rfl (bW (vs:=[_]) goes_51 rfl (wZ t Kt _ _ K w0 _ (hS.keep K (fun q hq=>by simp [hq])) hT hKt hB) rfl ?_))))))))
 rintro e W9 ⟨q,Kq,rfl,hqk,hqn,hqT,hqE,hqs,hqB,hS9⟩
 refine ⟨_,rfl,?_⟩
 clear hS;have hS:=hS9;clear hS9
 refine bU (i:=1) (vs:=[_,_,_]) (cs':=[_,_,_]) (O':=(_::_::Ot)) hS sizeOf61 rfl rfl rfl rfl rfl rfl rfl fun W3 hS=>aK (XF.thenN (aH (aN (aU (o':=2) eZ rfl rfl rfl (aP isAgg23 rfl (aD (hS.at_ 1 rfl) rfl) rfl (bW (vs:=[_]) goes_52 rfl (wV q.n q.aa q.ac q.bs Kq _ _ Kq w0 _ (hS.keep Kq (fun q hq=>by simp [hq])) (fun q hq=>hq) (fun h9 hk9=>(hqB h9 hk9).2) hqT.bl hqT.pos hqT.n1) rfl ?_))))))
 rintro e W9 ⟨PB,Ab,Lb,Kb,P,T,rfl,hM,Fb,Sb,Mb,cf,cs,cm,e1,e2,e3,hcf,hcs,hcm,mcf,mcs,mcm,hS9⟩
 refine ⟨_,rfl,?_⟩
 clear hS;have hS:=hS9;clear hS9
 obtain ⟨hH,hum,hPI⟩:=init_HI (A:=q.fa) hqT.fa hM
 refine aB rfl rfl (aK (XF.thenN (aH (aH (aN (aA rfl rfl (bC (vs:=[_,_,_]) isAgg61 sizeOf61 rfl (aT.own (j:=0) (m:=3) (hS.at_ 8 rfl) rfl) rfl (aA rfl rfl (bW (vs:=[_,_,_]) goes_53 rfl (Aj q mo (dK P 0) PB Ab Lb Kb Fb Sb Mb cf cs cm e1 e2 e3 Kq _ _ Kq w0 _ hcf hcs hcm mcf mcs mcm hS hPI hum hH hqT (fun q hq=>hq) hqB) rfl ?_)))))))))
 rintro e W9 ⟨Q,wk,Kr,rfl,hPQ,hHQ,hwk,hsr,Fb,Sb,Mb,cf,cs,cm,e1,e2,e3,hcf,hcs,hcm,mcf,mcs,mcm,hS9⟩
 refine ⟨_,rfl,?_⟩
 clear hS;have hS:=hS9;clear hS9
 have hQm:Q.fs.length≤mo:=Nat.le_trans hPQ.le (Nat.le_trans hqn hmo)
 rw [hwk hQm] at hHQ
 refine gR rfl rfl (aK (XF.thenN ?_))
 refine bS rfl (fun hc=>absurd hc (by rw [decide_eq_true hQm];decide)) (fun hc=>?_)
 skip
 refine bV (XF.thenN (aH (regS (ef:=13) (jy:=13) (ca:=rC (fun _=>[])) (ta:=fun _=>0) (Os:=osNo _) (Gs:=wM _) (al:=[]) (k:=10) (ds:=[5,28]) cA rfl hS rfl (by kernel_rfl) (by kernel_rfl) rfl (by decide) rfl (fun _=>none) (.inr ⟨rfl,rfl,rfl⟩) rfl rfl (bD 1 rfl rfl (isV _) (fun hNo=>sgV [(2,_)] rfl rfl rfl rfl hNo (aL rfl) ⟨cD rfl,trivial⟩ (fun ev w he hw=>dL (vs:=[_,_,_]) isAgg61 sizeOf61 rfl ((aT.own (j:=0) (m:=3) (hw.at_ 8 rfl) rfl))) (aG rfl)) (bD 2 rfl rfl (isV _) (fun hNo=>sgV [(6,_)] rfl rfl rfl rfl hNo (aL rfl) ⟨cD rfl,trivial⟩ (fun ev w he hw=>aV rfl) (aG rfl)) (bD 3 rfl rfl (isV _) (fun hNo=>sgV [(19,_)] rfl rfl rfl rfl hNo (aL rfl) ⟨aJ 1 (aC rfl rfl rfl),trivial⟩ (fun ev w he hw=>bP rfl) (aG rfl)) (bD 4 rfl rfl (isV _) (fun hNo=>sgV [(20,_)] rfl rfl rfl rfl hNo (aL rfl) ⟨aJ 2 (aC rfl rfl rfl),trivial⟩ (fun ev w he hw=>bA (o':=2) nK rfl rfl) (aG rfl)) (bD 5 rfl rfl (isV _) (fun hNo=>sgV [(21,_)] rfl rfl rfl rfl hNo (aL rfl) ⟨aJ 3 (aC rfl rfl rfl),trivial⟩ (fun ev w he hw=>aY isAgg59 rfl ((aD (hw.at_ 0 rfl) rfl))) (aG rfl)) (bD 6 rfl rfl (isV _) (fun hNo=>sgV [(6,_)] rfl rfl rfl rfl hNo (aL rfl) ⟨cD rfl,trivial⟩ (fun ev w he hw=>aV rfl) (aG rfl)) (bD 7 rfl rfl (isV _) (fun hNo=>sgV [(23,_)] rfl rfl rfl rfl hNo (aL rfl) ⟨aJ 5 (aC rfl rfl rfl),trivial⟩ (fun ev w he hw=>bP rfl) (aG rfl)) (bD 8 rfl rfl (isV _) (fun hNo=>sgV [(24,_)] rfl rfl rfl rfl hNo (aL rfl) ⟨aJ 6 (aC rfl rfl rfl),trivial⟩ (fun ev w he hw=>bA (o':=3) eC rfl rfl) (aG rfl)) (bD 9 rfl rfl (isV _) (fun hNo=>sgV [(25,_)] rfl rfl rfl rfl hNo (aL rfl) ⟨aJ 7 (aC rfl rfl rfl),trivial⟩ (fun ev w he hw=>aY isAgg59 rfl ((aD (hw.at_ 0 rfl) rfl))) (aG rfl)) (bD 10 rfl rfl (isV _) (fun hNo=>sgV [(26,_)] rfl rfl rfl rfl hNo (aL rfl) ⟨aJ 8 (aC rfl rfl rfl),trivial⟩ (fun ev w he hw=>iS underlying59 rfl) (aG rfl)) (nC ?_))))))))))))))
 intro Bf4 y4 W4 Ks4 hsz4 hKs4 hS' hcov4
 clear hS;have hS:=hS'.castO (O':=(_::_::_::_::_::_::_::_::_::Ot)) rfl;clear hS'
 refine nF (L':=[AwS _ _ (isV _),AwS _ _ (isV _),AwS _ _ (isV _),AwS _ _ (isV _),AwS _ _ (isV _),AwS _ _ (isV _),AwS _ _ (isV _),AwS _ _ (isV _),AwS _ _ (isV _),AwS _ _ (isV _)]) rfl (bB (bB (bB (bB (bB (bB (bB (bB (bB (bB (cN ?_)))))))))))
 obtain ⟨K1,k1,h1,hS1⟩:=(hS.keep Kr (fun q hq=>by simp [hq])).tail.tail.tail.ownKeep
 clear hS;have hS:=hS1;clear hS1
 have hB1:cL w0 K1 (fun W=>TAt q W∧R32 W (some ⟨Kb,0,none⟩) Q.bk):=fun h9 hk9=>⟨hqB h9 (fun z hz=>hk9 z (k1 z (hsr z hz))),pD (h1 h9 hk9)⟩
 have hQn:=Nat.le_trans hPQ.le hqT.n1
 refine bW (vs:=[_,_,_]) zA rfl (nM q Q.bk (some ⟨Kb,0,none⟩) q.n Q.fs.length q.n K1 _ _ K1 w0 _ hPQ.lb hS hqT (fun q hq=>hq) hB1 hPQ.lb (fun x hx=>hPQ.bl x hx) hQn) rfl ?_
 rintro e W9 ⟨q2,N,Kn,rfl,hQ2,h2n,h2k,h2T,h2x,h2b,h2s,h2B,hS9⟩
 refine ⟨_,rfl,?_⟩
 clear hS;have hS:=hS9;clear hS9
 refine bU (i:=3) (vs:=[_,_,_]) (cs':=[_,_,_]) (O':=(_::_::_::_::_::Ot)) hS sizeOf61 rfl rfl rfl rfl rfl rfl rfl fun W5 hS=>aB rfl rfl (aK (XF.thenN (cK (XF.res (gX (vs:=[_,_,_]) results33 isAgg61 sizeOf61 rfl (aT.own (j:=0) (m:=3) (hS.at_ 3 rfl) rfl) rfl) ?_))))
 have hcg:Cong q.fa (gN Q.bk):=hHQ.cong hqT.fa
 have hag:=zB hQ2 h2n h2k h2T h2x h2b
 have h2le:q2.n≤q.n:=by
  rw [h2n,← hQ2.len]
  refine Nat.le_trans (jI hqT.fa (fun _=>hQ2.rowsOk) (fun h0=>by rw [h0,Nat.mul_zero]) (fun x hx=>hPQ.bl x hx)).1 hPQ.le
 have hE2:Eqv q2.fa 0 q.fa 0:=Eqv.trans (B:=quo q.fa (gN Q.bk) N) h2k (hag.eqv h2T.pos) (nI hQ2 hcg)
 exact ⟨q2,Kn,rfl,h2k.trans hqk,Nat.le_trans h2le hqn,h2T,hag.ord (yJ hQ2),hag.red (yK hQ2 hcg (fun s u hs hu e=>hHQ.eqv s u hs hu e)),Eqv.trans (B:=q.fa) h2k hE2 hqE,fun z hz=>h2s z (k1 z (hsr z (hqs z hz))),h2B,(hS.keep Kn (fun q hq=>by simp [hq])).tail.tail.tail.tail.tail⟩
theorem xA (v0:Int) (v2a:Option Addr) (v2l:Nat) (v2c:Nat):prog.built 61 [(0,.int .i64 v0),(2,.slice v2a v2l v2c)]=some #[.int .i64 v0,.slice none 0 0,.slice v2a v2l v2c]:=by kernel_rfl
def xsT (ns:List IV) (i:Nat):List Nat:=(ns.take i).flatMap (fun r=>r.xs.map Int.toNat)
theorem qL {ns:List IV} {i:Nat} {r:IV} (h:ns[i]?=some r):xsT ns (i+1)=xsT ns i++r.xs.map Int.toNat:=by
 unfold xsT
 rw [List.take_add_one,h,List.flatMap_append];simp
theorem tD {ns:List IV} {k:Nat} (h:∀ r∈ns,r.xs.length=k):∀ {i:Nat},i≤ns.length→(xsT ns i).length=i * k
 | 0,_=>by simp [xsT]
 | i+1,hi=>by
  rw [qL (List.getElem?_eq_getElem (show i < ns.length by omega)),List.length_append,tD h (by omega),List.length_map,h _ (List.getElem_mem _),Nat.succ_mul]
theorem takeT {xs:List Int} {j:Nat} {y:Int} (h:xs[j]?=some y):(xs.take (j+1)).map Int.toNat=(xs.take j).map Int.toNat++[y.toNat]:=by
 rw [List.take_add_one,h];simp
theorem xsT_lt {ns:List IV} {n:Nat} (h:∀ r∈ns,∀ y∈r.xs,0≤y∧y < (n:Int)) {i:Nat}:∀ x∈xsT ns i,x < n:=fun x hx=>by
 unfold xsT at hx
 obtain ⟨r,hr,hx2⟩:=List.mem_flatMap.1 hx
 obtain ⟨y,hy,rfl⟩:=List.mem_map.1 hx2
 have:=h r (List.mem_of_mem_take hr) y hy
 omega
theorem xB (k:Nat) (na:Option Addr) (nl nc:Nat) (ns:List IV) (aa:Option Addr) (ac:Nat) (bs:List Bool) (Kt:List (Nat×World)) (Ot:Own) (G:bN) (K:List (Nat×World)) (w0 w:World) (hS0:St w0 Ot G K w) (hKt:∀ q∈Kt,q∈K) (hI:cL w0 Kt (fun W=>oX W na ns∧(∀ r∈ns,Row W r.a r.xs)∧fE W aa bs)) (hnl:ns.length=nl) (hrl:∀ r∈ns,r.l=k∧r.xs.length=k) (hrv:∀ r∈ns,∀ y∈r.xs,0≤y∧y < (nl:Int)) (hbl:bs.length=nl) (h1:1≤nl) (h2:nl≤1024) (h3:k≤4096) :
  Calls prog 32 #[.agg #[.int .i64 (k:Int),.slice na nl nc,.slice aa nl ac]] w (fun e w'=>∃ (va:Option Addr) (vc:Nat) (Kn:List (Nat×World)),e = .returned (TB.mk k nl va vc (xsT ns nl) aa ac bs).val∧TOk (TB.mk k nl va vc (xsT ns nl) aa ac bs)∧(∀ q∈K,q∈Kn)∧cL w0 Kn (TAt (TB.mk k nl va vc (xsT ns nl) aa ac bs))∧St w0 Ot G Kn w'):=by
 refine cP (args:=[.agg #[.int .i64 (k:Int),.slice na nl nc,.slice aa nl ac]]) func32 rfl ntmps32 rfl ?_
 have hS:=hS0
 refine aH (aN (cI (cs:=[_,_,_]) hS rfl rfl rfl fun B1 W1 hS=>cE (cs:=[_,_,_]) hS zeroValue61 rfl rfl fun B2 W2 hS=>aK (XF.thenN (aH (aN (aU (o':=0) dC rfl rfl rfl (aP isAgg3 rfl (aD (hS.at_ 1 rfl) rfl) rfl (aU (o':=2) cT rfl rfl rfl (aP isAgg23 rfl (aD (hS.at_ 1 rfl) rfl) rfl (dP (us:=[(0,.int .i64 _),(2,.slice _ _ _)]) rfl (xA _ _ _ _) rfl (cE (cs:=[_,_,_]) hS zeroValue61 rfl rfl fun B3 W3 hS=>bU (i:=0) (vs:=[_,_,_]) (cs':=[_,_,_]) (O':=(_::_::_::Ot)) hS sizeOf61 rfl rfl rfl rfl rfl rfl rfl fun W4 hS=>aK (XF.thenN (aH (aH ?_))))))))))))))
 have hS':=hS.newG 21 1;clear hS;have hS:=hS';clear hS'
 have hXl:=fun (i:Nat) (hi:i≤nl)=>tD (ns:=ns) (k:=k) (fun r hr=>(hrl r hr).2) (i:=i) (by omega)
 have hmul:=fun (i:Nat) (hi:i≤nl)=>(Nat.mul_le_mul (Nat.le_trans hi h2) h3:i * k≤1024 * 4096)
 refine aN (aU (o':=1) cO rfl rfl rfl (aP isAgg22 rfl (aD (hS.at_ 2 rfl) rfl) rfl (bX underlying22 rfl rfl (aA rfl rfl (aK (XF.thenN (bH ?_)))))))
 refine cW (fun m l W=>∃ (i:Nat) (va:Option Addr) (vc:Nat),i≤nl∧m=nl - i∧l=[(1,.pointer (some ⟨B1,0,none⟩)),(2,.pointer (some ⟨B2,0,none⟩)),(3,.pointer (some ⟨B3,0,none⟩)),(14,.slice na nl nc),(15,.int .i64 (nl:Int)),(16,.int .i64 (i:Int))]∧St w0 ((B3,[.int .i64 (k:Int),.slice va (i * k) vc,.slice aa nl ac],61)::(B2,[.int .i64 0,.slice none 0 0,.slice none 0 0],61)::(B1,[.int .i64 (k:Int),.slice na nl nc,.slice aa nl ac],25)::Ot) (⟨.slice va (i * k) vc,i * k,i32 (xsT ns i),21,1⟩::G) K W) (nl - 0) ([(1,_),(2,_),(3,_),(14,_),(15,_),(16,_)]) ⟨rfl,rfl,rfl,rfl,rfl,rfl,trivial⟩ (⟨0,none,0,Nat.zero_le _,rfl,rfl,by rw [Nat.zero_mul];exact hS.keep K (fun q hq=>by simp [hq])⟩) ?_
 clear hS
 rintro m l W ⟨i,va,vc,hi,rfl,rfl,hS⟩
 refine aH (aN (cH rfl rfl rfl (aK (XF.thenN (aH (bS rfl (fun hc=>?_) (fun hc=>?_)))))))
 ·have hc17:=of_decide_eq_true hc;clear hc
  have hk:i < nl:=by omega
  obtain ⟨hIR,hRR,hBR⟩:=hI hS hKt
  obtain ⟨r,hr⟩:∃ r,ns[i]?=some r:=⟨_,List.getElem?_eq_getElem (by omega)⟩
  obtain ⟨b,off,rfl,hcs⟩:=hIR i r hr
  have hrm:=List.mem_of_getElem? hr
  have hrr:=hRR r hrm
  obtain ⟨hl9,hx9⟩:=hrl r hrm
  have hv9:=hrv r hrm
  obtain ⟨ra9,rl9,rc9,xs9⟩:=r
  dsimp only at hrr hl9 hx9 hv9 hcs
  have hm9:=hmul i (by omega)
  refine bV (XF.thenN (aH (bH (aH (aN (aX  underlying22 sizeOf36 rfl rfl rfl (by omega) rfl rfl (aP isAgg36 rfl (hcs) rfl (aB rfl rfl (aK (XF.thenN (aH (aN (aA rfl rfl (bX underlying36 rfl rfl (aA rfl rfl (aK (XF.thenN (bH (cW (fun m l W=>∃ (j:Nat) (va:Option Addr) (vc:Nat),j≤rl9∧m=rl9 - j∧l=[(1,.pointer (some ⟨B1,0,none⟩)),(2,.pointer (some ⟨B2,0,none⟩)),(3,.pointer (some ⟨B3,0,none⟩)),(14,.slice (some ⟨b,off,none⟩) nl nc),(15,.int .i64 (nl:Int)),(16,.int .i64 (i:Int)),(20,.slice ra9 rl9 rc9),(21,.int .i64 (rl9:Int)),(22,.int .i64 (j:Int))]∧St w0 ((B3,[.int .i64 (k:Int),.slice va (i * k+j) vc,.slice aa nl ac],61)::(B2,[.int .i64 0,.slice none 0 0,.slice none 0 0],61)::(B1,[.int .i64 (k:Int),.slice (some ⟨b,off,none⟩) nl nc,.slice aa nl ac],25)::Ot) (⟨.slice va (i * k+j) vc,i * k+j,i32 (xsT ns i++(xs9.take j).map Int.toNat),21,1⟩::G) K W) (rl9 - 0) ([(1,_),(2,_),(3,_),(14,_),(15,_),(16,_),(20,_),(21,_),(22,_)]) ⟨rfl,rfl,rfl,rfl,rfl,rfl,rfl,rfl,rfl,trivial⟩ (⟨0,va,vc,Nat.zero_le _,rfl,rfl,(hS.castG (by simp)).keep K (fun q hq=>by simp [hq])⟩) ?_)))))))))))))))))))
  clear hS
  rintro m l W ⟨j,va,vc,hj,rfl,rfl,hS⟩
  refine aH (aN (cH rfl rfl rfl (aK (XF.thenN (aH (bS rfl (fun hc=>?_) (fun hc=>?_)))))))
  ·have hc23:=of_decide_eq_true hc;clear hc
   have hk2:j < rl9:=by omega
   obtain ⟨b2,off2,y,rfl,hy,hyc⟩:=(hI hS hKt).2.1 _ hrm |>.at1 (show j < xs9.length by omega)
   have hyv:=hv9 y (List.mem_of_getElem? hy)
   refine bV (XF.thenN (aH (bH (aH (aN (aX  underlying36 sizeOf3 rfl rfl rfl (by omega) rfl rfl (aP isAgg3 rfl (hyc) rfl (aB rfl rfl (aK (XF.thenN (aN (aU (o':=1) iK rfl rfl rfl (aP isAgg59 rfl (aD (hS.at_ 0 rfl) rfl) rfl (aA rfl rfl (eE underlying3 underlying21 rfl (by omega) rfl (bK (us:=[(0,.int .i32 _)]) hS underlying59 sizeOf21 zeroValue21 rfl rfl rfl (eH _) rfl fun B5 W5 hS=>?_))))))))))))))))
   refine cR (i:=0) (news:=[_]) hS underlying59 dZ rfl rfl (by show 0 < 1;decide) rfl rfl rfl rfl rfl (aT.own (j:=0) (m:=1) (hS.at_ 0 rfl) rfl) rfl rfl (by dsimp only;simp only [maxLen];omega) (by dsimp only;show _ * 4≤_;omega) rfl fun v6 W6 hS=>?_
   obtain ⟨a9,c9,e9,_⟩:=bQ (hS.row 0 rfl)
   dsimp only at e9
   subst e9
   refine aU (o':=1) iK rfl rfl rfl (bL (i:=1) (cs':=[_,_,_]) (O':=(_::_::_::_::Ot)) hS sizeOf59 rfl rfl rfl rfl rfl rfl rfl fun W7 hS=>aK (XF.blkN (XF.thenN (aN (bY rfl rfl (IntWalk.i64_in _ (by omega)) rfl (aA rfl rfl (aK ?_)))))))
   have hS9:=hS.tail.castG (G':=(⟨.slice a9 (i * k+j+1) c9,i * k+j+1,i32 (xsT ns i++(xs9.take (j+1)).map Int.toNat),21,1⟩::G)) (by show GR.mk _ _ (i32 _++[Value.int .i32 _]) _ _::_=_;rw [hZ (v:=y.toNat) (by omega),takeT hy,List.append_assoc])
   exact XF.round (rl9 - (j+1)) [(1,_),(2,_),(3,_),(14,_),(15,_),(16,_),(20,_),(21,_),(22,_)] (by omega) ⟨rfl,rfl,rfl,rfl,rfl,rfl,rfl,rfl,rfl,trivial⟩ ⟨j+1,a9,c9,by omega,rfl,rfl,hS9.keep K (fun q hq=>by simp [hq])⟩
  ·have hc23:=of_decide_eq_false hc;clear hc
   refine cV (XF.thenX (XF.thenX (XF.blkX (XF.blkN (XF.thenN (aN (bY rfl rfl (IntWalk.i64_in _ (by omega)) rfl (aA rfl rfl (aK ?_)))))))))
   have ejl:j=k:=by omega
   have es:(i+1) * k=i * k+j:=by rw [Nat.succ_mul,ejl]
   have ex:xsT ns (i+1)=xsT ns i++(xs9.take j).map Int.toNat:=by rw [qL hr,List.take_of_length_le (by omega)]
   exact XF.round (nl - (i+1)) [(1,_),(2,_),(3,_),(14,_),(15,_),(16,_)] (by omega) ⟨rfl,rfl,rfl,rfl,rfl,rfl,trivial⟩ ⟨i+1,va,vc,by omega,rfl,rfl,by rw [es,ex];exact hS.keep K (fun q hq=>by simp [hq])⟩
 ·have hc17:=of_decide_eq_false hc;clear hc
  obtain rfl:nl=i:=by omega
  refine cV (XF.thenX (XF.thenX (XF.blkX (XF.thenN (aH (aN (bC (vs:=[_,_,_]) isAgg61 sizeOf61 rfl (aT.own (j:=0) (m:=3) (hS.at_ 0 rfl) rfl) rfl (bU (i:=1) (vs:=[_,_,_]) (cs':=[_,_,_]) (O':=(_::_::_::Ot)) hS sizeOf61 rfl rfl rfl rfl rfl rfl rfl fun W8 hS=>aK (XF.thenN (cK (XF.res (pS (vs:=[_,_,_]) results32 isAgg61 sizeOf61 rfl (aT.own (j:=0) (m:=3) (hS.at_ 1 rfl) rfl)) ?_)))))))))))
  obtain ⟨ma1,mc1,e1,hcap⟩:=bQ (hS.row 0 rfl)
  dsimp only at e1 hcap
  injection e1 with _ _ e3
  subst e3
  obtain ⟨K1,k1,g1,hS1⟩:=(hS.keep K (fun q hq=>by simp [hq])).rowKeep
  refine ⟨va,vc,K1,rfl,⟨hXl _ (Nat.le_refl _),hbl,fun p hp9=>?_,h1,hcap,Nat.le_trans h2 (by decide),Nat.le_trans h3 (by decide)⟩,k1,fun h9 hk9=>⟨fun i u hu=>?_,(hI h9 (fun q hq=>hk9 q (k1 q (hKt q hq)))).2.2⟩,hS1.tail.tail.tail⟩
  ·exact xsT_lt hrv _ (Ai (by show p < (xsT ns nl).length;rw [hXl _ (Nat.le_refl _)];exact hp9))
  ·exact g1 h9 hk9 i _ (by unfold i32;rw [List.getElem?_map,hu];rfl)
theorem qM (v0:Int):prog.built 25 [(0,.int .i64 v0)]=some #[.int .i64 v0,.slice none 0 0,.slice none 0 0]:=by kernel_rfl
theorem tE (v0a:Option Addr) (v0l:Nat) (v0c:Nat):Instr.fill (fun i=>some (i * 1,1)) ((Array.range (1 * 1)).map ((Value.cells (.slice none 0 0))[· % (Value.cells (.slice none 0 0)).size]!)) [(0,.slice v0a v0l v0c)]=some (List.toArray [.slice v0a v0l v0c]):=by kernel_rfl
theorem xC:prog.info? 36=some Try.t36:=by kernel_rfl
theorem fK {l:List Nat} {i v:Nat} {x:Int} (h:x=(v:Int)):(i64n l).set (0+i * 1) (.int .i64 x)=i64n (l.set i v):=by
 subst h;rw [Nat.zero_add,Nat.mul_one];unfold i64n;rw [List.map_set]
theorem lE (m:Nat):madeCells (Value.int .i64 0).cells (m * 1)=(i64n (List.replicate m 0)).toArray:=by
 unfold i64n;rw [List.map_replicate,Nat.mul_one];exact sS _ _
def qN (t:TB) (i j:Nat):List Nat:=(List.range j).map (t.fa.nx i)++List.replicate (t.k - j) 0
theorem Ch {t:TB} {i j:Nat} (h:j≤t.k):(qN t i j).length=t.k:=by unfold qN;simp;omega
theorem Ak {t:TB} {i:Nat}:qN t i 0=List.replicate t.k 0:=by unfold qN;simp
theorem Ci {t:TB} {i j:Nat} (h:j < t.k):(qN t i j).set j (t.fa.nx i j)=qN t i (j+1):=by
 unfold qN
 obtain ⟨m,hm⟩:∃ m,t.k - j=m+1:=⟨t.k - j - 1,by omega⟩
 rw [hm,show t.k - (j+1)=m by omega,List.replicate_succ,List.range_succ,List.map_append,List.set_append_right _ _ (by simp),List.length_map,List.length_range,Nat.sub_self]
 simp
def lZ (t:TB) (i:Nat):List Int:=(List.range t.k).map (fun x=>((t.fa.nx i x:Nat):Int))
theorem rowI_of {W:World} {B:Nat} {t:TB} {i:Nat} {T:TypeId} (h:W.heap[B]?=some (.cells (i64n (qN t i t.k)).toArray T (0,0))):Row W (some ⟨B,0,none⟩) (lZ t i):=.inr ⟨B,0,rfl,fun x hx=>by
 rw [Nat.zero_add]
 have hx':x < t.k:=by unfold lZ at hx;simpa using hx
 refine aD h ?_
 unfold i64n qN lZ
 simp [hx']⟩
structure DOfT (t:TB) (d:DV):Prop where
 sy:d.sy=(t.k:Int)
 nl:d.nl=t.n
 al:d.al=t.n
 len:d.ns.length=t.n
 row:∀ (i:Nat) r,d.ns[i]?=some r→r.l=t.k∧r.xs=lZ t i
 bs:d.bs=t.bs
def DRo (d:DV) (W:World):Prop:=oX W d.na d.ns∧∀ r∈d.ns,Row W r.a r.xs
theorem xD {bs:List Bool} {i:Nat} (h:i < bs.length):bs.take i++[bs.getD i false]=bs.take (i+1):=by
 rw [List.take_add_one,List.getElem?_eq_getElem h,List.getD_eq_getElem?_getD,List.getElem?_eq_getElem h];rfl
theorem Al {t:TB} {rs:List IV} {i:Nat} {r:IV} (hl:rs.length=i) (h:∀ (j:Nat) r,rs[j]?=some r→r.l=t.k∧r.xs=lZ t j) (h1:r.l=t.k) (h2:r.xs=lZ t i):∀ (j:Nat) r',(rs++[r])[j]?=some r'→r'.l=t.k∧r'.xs=lZ t j:=fun j r' hj=>by
 rcases Nat.lt_or_ge j rs.length with h3 | h3
 ·rw [List.getElem?_append_left h3] at hj;exact h j r' hj
 ·rw [List.getElem?_append_right h3] at hj
  obtain ⟨h4,h5⟩:=List.getElem?_eq_some_iff.1 hj
  have e:j=i:=by simp at h4;omega
  subst e
  simp at h5
  subst h5
  exact ⟨h1,h2⟩
theorem vL (t:TB) (Kt:List (Nat×World)) (Ot:Own) (G:bN) (K:List (Nat×World)) (w0 w:World) (hS0:St w0 Ot G K w) (hT:TOk t) (hKt:∀ q∈Kt,q∈K) (hB:cL w0 Kt (TAt t)) :
  Calls prog 34 #[t.val] w (fun e w'=>∃ (d:DV) (Kn:List (Nat×World)),e = .returned d.val∧DOfT t d∧(∀ q∈K,q∈Kn)∧cL w0 Kn (DRo d)∧St w0 Ot (⟨.slice d.aa t.n d.ac,t.n,bvs t.bs,4,1⟩::G) Kn w'):=by
 refine cP (args:=[t.val]) func34 rfl ntmps34 rfl ?_
 have hS:=hS0
 have hn1:=hT.n1
 have hk1:=hT.k1
 have hp:=hT.pos
 have hbl:=hT.bl
 refine aH (aN (cI (cs:=[_,_,_]) hS rfl rfl rfl fun B1 W1 hS=>cE (cs:=[_,_,_]) hS zeroValue25 rfl rfl fun B2 W2 hS=>aK (XF.thenN (aH (aN (aU (o':=0) iJ rfl rfl rfl (aP isAgg3 rfl (aD (hS.at_ 1 rfl) rfl) rfl (dP (us:=[(0,.int .i64 _)]) rfl (qM _) rfl (cE (cs:=[_,_,_]) hS zeroValue25 rfl rfl fun B3 W3 hS=>bU (i:=0) (vs:=[_,_,_]) (cs':=[_,_,_]) (O':=(_::_::_::Ot)) hS sizeOf25 rfl rfl rfl rfl rfl rfl rfl fun W4 hS=>aK (XF.thenN (aH (aH ?_))))))))))))
 have hS':=(hS.newG 4 1).newG 36 1;clear hS;have hS:=hS';clear hS'
 refine aN (aU (o':=2) eZ rfl rfl rfl (aP isAgg23 rfl (aD (hS.at_ 2 rfl) rfl) rfl (bX underlying23 rfl rfl (aA rfl rfl (aK (XF.thenN (bH (cW (fun m l W=>∃ (i:Nat) (rs:List IV) (va wa:Option Addr) (vc wc:Nat) (Kk:List (Nat×World)),i≤t.n∧m=t.n - i∧l=[(1,.pointer (some ⟨B1,0,none⟩)),(2,.pointer (some ⟨B2,0,none⟩)),(3,.pointer (some ⟨B3,0,none⟩)),(13,.slice t.aa t.n t.ac),(14,.int .i64 (t.n:Int)),(15,.int .i64 (i:Int))]∧rs.length=i∧(∀ (j:Nat) r,rs[j]?=some r→r.l=t.k∧r.xs=lZ t j)∧(∀ q∈K,q∈Kk)∧cL w0 Kk (fun W=>∀ r∈rs,Row W r.a r.xs)∧St w0 ((B3,[.int .i64 (t.k:Int),.slice va i vc,.slice wa i wc],25)::(B2,[.int .i64 0,.slice none 0 0,.slice none 0 0],25)::(B1,t.cells,61)::Ot) (⟨.slice va i vc,i,rs.map IV.val,36,1⟩::⟨.slice wa i wc,i,bvs (t.bs.take i),4,1⟩::G) Kk W) (t.n - 0) ([(1,_),(2,_),(3,_),(13,_),(14,_),(15,_)]) ⟨rfl,rfl,rfl,rfl,rfl,rfl,trivial⟩ (⟨0,[],none,none,0,0,K,Nat.zero_le _,rfl,rfl,rfl,fun j r h=>(by cases h),fun q hq=>hq,fun _ _ r h=>(by cases h),hS.keep K (fun q hq=>by simp [hq])⟩) ?_))))))))
 clear hS
 rintro m l W ⟨i,rs,va,wa,vc,wc,Kk,hi,rfl,rfl,hrl,hrs,hsub,hRH,hS⟩
 refine aH (aN (cH rfl rfl rfl (aK (XF.thenN (aH (bS rfl (fun hc=>?_) (fun hc=>?_)))))))
 ·have hc16:=of_decide_eq_true hc;clear hc
  refine bV (XF.thenN (aH (bH (aH ?_))))
  have hi9:i < t.n:=by omega
  obtain ⟨ab,ao,hba,hc4⟩:=fE.get (hB hS (fun q hq=>hsub q (hKt q hq))).2 (i:=i) (by omega)
  refine aN (aA rfl rfl ?_)
  refine aX (j:=i) (b:=ab) (o:=ao) (m:=t.n) (c:=t.ac) underlying23 sizeOf4 (by show some (Value.slice t.aa _ _)=_;rw [hba]) rfl rfl (by omega) rfl rfl ?_
  refine aP isAgg4 rfl (hc4) rfl (aB rfl rfl (aB rfl rfl (aK (XF.thenN (aH (aN (aU (o':=0) iJ rfl rfl rfl (aP isAgg3 rfl (aD (hS.at_ 2 rfl) rfl) rfl ?_))))))))
  refine eX (m:=t.k) (cs:=i64n (List.replicate t.k 0)) hS underlying36 iD rfl rfl rfl (rfl) (rfl) (lE _) (by show (8:Int) * _≤_;omega) (by omega) rfl fun B5 W5 hS=>?_
  refine aB rfl rfl (aK (XF.thenN (aH (aH (aN (bC (vs:=[_,_,_]) isAgg61 sizeOf61 rfl (aT.own (j:=0) (m:=3) (hS.at_ 3 rfl) rfl) rfl (aA rfl rfl (dX (vs:=[_,_]) hS lS rfl (oH t i _ hT hi9) rfl fun W6 hS=>bX underlying59 rfl rfl (aA rfl rfl (aK (XF.thenN (bH ?_))))))))))))
  refine cW (fun m l W=>∃ (j:Nat),j≤t.k∧m=t.k - j∧l=[(1,.pointer (some ⟨B1,0,none⟩)),(2,.pointer (some ⟨B2,0,none⟩)),(3,.pointer (some ⟨B3,0,none⟩)),(4,.int .i64 (i:Int)),(5,.bool (t.bs.getD i false)),(6,.slice (some ⟨B5,0,none⟩) t.k t.k),(13,.slice t.aa t.n t.ac),(14,.int .i64 (t.n:Int)),(15,.int .i64 (i:Int)),(25,.slice (fV t.na t.nc (i * t.k) 1) t.k (t.nc - i * t.k)),(26,.int .i64 (t.k:Int)),(27,.int .i64 (j:Int))]∧St w0 ((B5,i64n (qN t i j),3)::(B3,[.int .i64 (t.k:Int),.slice va i vc,.slice wa i wc],25)::(B2,[.int .i64 0,.slice none 0 0,.slice none 0 0],25)::(B1,t.cells,61)::Ot) (⟨.slice va i vc,i,rs.map IV.val,36,1⟩::⟨.slice wa i wc,i,bvs (t.bs.take i),4,1⟩::G) Kk W) (t.k - 0) ([(1,_),(2,_),(3,_),(4,_),(5,_),(6,_),(13,_),(14,_),(15,_),(25,_),(26,_),(27,_)]) ⟨rfl,rfl,rfl,rfl,rfl,rfl,rfl,rfl,rfl,rfl,rfl,rfl,trivial⟩ (⟨0,Nat.zero_le _,rfl,rfl,by rw [Ak];exact hS.keep Kk (fun q hq=>by simp [hq])⟩) ?_
  clear hS
  rintro m l W ⟨j,hj,rfl,rfl,hS⟩
  refine aH (aN (cH rfl rfl rfl (aK (XF.thenN (aH (bS rfl (fun hc=>?_) (fun hc=>?_)))))))
  ·have hc28:=of_decide_eq_true hc;clear hc
   refine bV (XF.thenN (aH (bH (aH ?_))))
   have hj9:j < t.k:=by omega
   have hix:=hT.ix hi9 hj9
   have hcp:=hT.cap
   obtain ⟨cb,co,hcu,hc5⟩:=((hB hS (fun q hq=>hsub q (hKt q hq))).1.cut (i:=i * t.k) (L:=t.k) (c:=t.nc) (by rw [hT.len];exact hix.2) (by omega)).get (i:=j) (by rw [List.length_take,List.length_drop,hT.len];omega)
   rw [dU hj9] at hc5
   have hc5:W.cell? ⟨cb,co+j * 1,none⟩=some (.int .i32 ((t.fa.nx i j:Nat):Int)):=hc5
   have hnl:t.fa.nx i j < t.n:=hT.fa.t0_ i j hi9 hj9
   refine aN (aA rfl rfl ?_)
   refine aX (j:=j) (b:=cb) (o:=co) (m:=t.k) (c:=t.nc - i * t.k) underlying59 sizeOf21 (by show some (Value.slice (fV _ _ _ _) _ _)=_;rw [hcu]) rfl rfl (by omega) rfl rfl ?_
   refine aP isAgg21 rfl (hc5) rfl (aB rfl rfl (aB rfl rfl (aK (XF.thenN (aN (aA rfl rfl (aA rfl rfl (aA rfl rfl (oE underlying21 underlying3 rfl (by omega) rfl (aX (j:=j) underlying36 sizeOf3 rfl rfl (rfl) (by omega) rfl rfl ?_))))))))))
   refine bL (i:=0) (cs':=i64n ((qN t i j).set j (t.fa.nx i j))) (O':=(_::_::_::_::Ot)) hS sizeOf3 rfl rfl rfl rfl (Nat.ble_eq_true_of_le (by rw [eT,Ch (by omega)];omega)) (fK rfl) rfl fun W95 hS=>?_
   refine aK (XF.blkN (XF.thenN (aN (bY rfl rfl (IntWalk.i64_in _ (by omega)) rfl (aA rfl rfl (aK ?_))))))
   rw [Ci hj9] at hS
   exact XF.round (t.k - (j+1)) [(1,_),(2,_),(3,_),(4,_),(5,_),(6,_),(13,_),(14,_),(15,_),(25,_),(26,_),(27,_)] (by omega) ⟨rfl,rfl,rfl,rfl,rfl,rfl,rfl,rfl,rfl,rfl,rfl,rfl,trivial⟩ ⟨j+1,by omega,rfl,rfl,hS.keep Kk (fun q hq=>by simp [hq])⟩
  ·have hc28:=of_decide_eq_false hc;clear hc
   have ejk:j=t.k:=by omega
   rw [ejk] at hS
   obtain ⟨K1,k1,g1,hS1⟩:=(hS.keep Kk (fun q hq=>by simp [hq])).ownKeep
   clear hS;have hS:=hS1;clear hS1
   refine cV (XF.thenX (XF.thenX (XF.blkX (XF.thenN (aH (aN (aU (o':=1) cO rfl rfl rfl (aP isAgg22 rfl (aD (hS.at_ 0 rfl) rfl) rfl (aA rfl rfl (bK (us:=[(0,.slice _ _ _)]) hS underlying22 sizeOf36 zeroValue36 rfl rfl rfl (tE _ _ _) rfl fun B7 W7 hS=>?_))))))))))
   refine cR (i:=0) (news:=[_]) hS underlying22 xC rfl rfl (by show 0 < 1;decide) rfl rfl rfl rfl rfl (aT.own (j:=0) (m:=1) (hS.at_ 0 rfl) rfl) rfl rfl (by dsimp only;simp only [maxLen];omega) (by dsimp only;show _ * 24≤_;omega) rfl fun v8 W8 hS=>?_
   obtain ⟨a9,c9,e9,_⟩:=bQ (hS.row 0 rfl)
   dsimp only at e9
   subst e9
   refine aU (o':=1) cO rfl rfl rfl (bL (i:=1) (cs':=[_,_,_]) (O':=(_::_::_::_::Ot)) hS sizeOf22 rfl rfl rfl rfl rfl rfl rfl fun W9 hS=>aK (XF.thenN (aN (aU (o':=2) cT rfl rfl rfl (aP isAgg23 rfl (aD (hS.at_ 1 rfl) rfl) rfl (aA rfl rfl (bK (us:=[(0,.bool _)]) hS underlying23 sizeOf4 zeroValue4 rfl rfl rfl (eY _) rfl fun B10 W10 hS=>?_)))))))
   refine cR (i:=1) (news:=[_]) hS underlying23 jC rfl rfl (by show 0 < 1;decide) rfl rfl rfl rfl rfl (aT.own (j:=0) (m:=1) (hS.at_ 0 rfl) rfl) rfl rfl (by dsimp only;simp only [maxLen];omega) (by dsimp only;show _ * 1≤_;omega) rfl fun v11 W11 hS=>?_
   obtain ⟨a8,c8,e8,_⟩:=bQ (hS.row 1 rfl)
   dsimp only at e8
   subst e8
   refine aU (o':=2) cT rfl rfl rfl (bL (i:=2) (cs':=[_,_,_]) (O':=(_::_::_::_::_::Ot)) hS sizeOf23 rfl rfl rfl rfl rfl rfl rfl fun W12 hS=>aK (XF.blkN (XF.thenN (aN (bY rfl rfl (IntWalk.i64_in _ (by omega)) rfl (aA rfl rfl (aK ?_)))))))
   have hS9:=hS.tail.tail.castG (G':=(⟨.slice a9 (i+1) c9,i+1,(rs++[IV.mk (some ⟨B5,0,none⟩) t.k t.k (lZ t i)]).map IV.val,36,1⟩::⟨.slice a8 (i+1) c8,i+1,bvs (t.bs.take (i+1)),4,1⟩::G)) (by rw [List.map_append,← xD (by omega),← fA];rfl)
   exact XF.round (t.n - (i+1)) [(1,_),(2,_),(3,_),(13,_),(14,_),(15,_)] (by omega) ⟨rfl,rfl,rfl,rfl,rfl,rfl,trivial⟩ ⟨i+1,_,a9,a8,c9,c8,K1,by omega,rfl,rfl,by simp [hrl],Al hrl hrs rfl rfl,fun q hq=>k1 q (hsub q hq),fun h9 hk9 r hr=>(by
    rcases List.mem_append.1 hr with h | h
    ·exact hRH h9 (fun q hq=>hk9 q (k1 q hq)) r h
    ·rw [List.mem_singleton.1 h];exact rowI_of (g1 h9 hk9)),hS9.keep K1 (fun q hq=>by simp [hq])⟩
 ·have hc16:=of_decide_eq_false hc;clear hc
  have ein:i=t.n:=by omega
  refine cV (XF.thenX (XF.thenX (XF.blkX (XF.thenN (aH (aN (bC (vs:=[_,_,_]) isAgg25 sizeOf25 rfl (aT.own (j:=0) (m:=3) (hS.at_ 0 rfl) rfl) rfl (bU (i:=1) (vs:=[_,_,_]) (cs':=[_,_,_]) (O':=(_::_::_::Ot)) hS sizeOf25 rfl rfl rfl rfl rfl rfl rfl fun W13 hS=>aK (XF.thenN (cK (XF.res (pS (vs:=[_,_,_]) results34 isAgg25 sizeOf25 rfl (aT.own (j:=0) (m:=3) (hS.at_ 1 rfl) rfl)) ?_)))))))))))
  subst ein
  obtain ⟨K2,k2,g2,hS2⟩:=(hS.keep Kk (fun q hq=>by simp [hq])).rowKeep
  have hbt:t.bs.take t.n=t.bs:=List.take_of_length_le (by omega)
  rw [hbt] at hS2
  exact ⟨⟨(t.k:Int),va,t.n,vc,rs,wa,t.n,wc,t.bs⟩,K2,rfl,⟨rfl,rfl,rfl,hrl,hrs,rfl⟩,fun q hq=>k2 q (hsub q hq),fun h9 hk9=>⟨fun j r hr=>g2 h9 hk9 j _ (by rw [List.getElem?_map,hr];rfl),hRH h9 (fun q hq=>hk9 q (k2 q hq))⟩,hS2.tail.tail.tail⟩
theorem lU:cC prog 15=true:=by kernel_rfl
theorem tF:cC prog 32=true:=by kernel_rfl
theorem pH:cC prog 33=true:=by kernel_rfl
theorem zC:cC prog 34=true:=by kernel_rfl
def dFA (d:DV):FA:=⟨d.nl,d.sy.toNat,fun s x=>gN (xsT d.ns d.nl) (s * d.sy.toNat+x),fun s=>d.bs.getD s false⟩
theorem dD {d:DV} (h:cU d=0):∃ k:Nat,d.sy=(k:Int)∧k≤4096∧1≤d.nl∧d.nl≤1024∧d.al=d.nl∧d.nl * k≤65536∧∀ r∈d.ns,r.l=k∧∀ y∈r.xs,0≤y∧y < (d.nl:Int):=by
 unfold cU at h
 split at h
 ·omega
 ·rename_i h1
  split at h
  ·rename_i h2
   obtain ⟨k,hk⟩:∃ k:Nat,d.sy=(k:Int):=⟨d.sy.toNat,by omega⟩
   refine ⟨k,hk,by omega,by omega,by omega,by omega,?_,fun r hr=>?_⟩
   ·have h3:¬ 65536 < (d.nl:Int) * d.sy:=fun h9=>h1 (.inr (.inr (.inr (.inr (.inr h9)))))
    rw [hk,← Int.natCast_mul] at h3
    omega
   ·have h3:=List.all_eq_true.1 h2 r hr
    unfold lY at h3
    simp only [Bool.and_eq_true,decide_eq_true_eq] at h3
    refine ⟨by omega,fun y hy=>?_⟩
    have h4:=List.all_eq_true.1 h3.2 y hy
    simp [inQ] at h4
    omega
  ·omega
structure LeastOf (d:DV) (q:TB) (d2:DV):Prop where
 ok:TOk q
 k:(q.k:Int)=d.sy
 n:q.n≤d.nl
 ord:q.fa.Ord
 red:q.fa.Red
 eqv:Eqv q.fa 0 (dFA d) 0
 of:DOfT q d2
theorem lF (d:DV) (k:Nat) (Kt:List (Nat×World)) (Ot:Own) (G:bN) (K:List (Nat×World)) (w0 w:World) (hS0:St w0 Ot G K w) (hKt:∀ q∈Kt,q∈K) (hI:cL w0 Kt (fun W=>oX W d.na d.ns∧(∀ r∈d.ns,Row W r.a r.xs)∧fE W d.aa d.bs)) (hsy:d.sy=(k:Int)) (hal:d.al=d.nl) (hnl:d.ns.length=d.nl) (hrl:∀ r∈d.ns,r.l=k∧r.xs.length=k) (hrv:∀ r∈d.ns,∀ y∈r.xs,0≤y∧y < (d.nl:Int)) (hbl:d.bs.length=d.nl) (h1:1≤d.nl) (h2:d.nl≤1024) (h3:k≤4096):Calls prog 32 #[d.val] w (fun e w'=>∃ (va:Option Addr) (vc:Nat) (Kn:List (Nat×World)),e = .returned (TB.mk k d.nl va vc (xsT d.ns d.nl) d.aa d.ac d.bs).val∧TOk (TB.mk k d.nl va vc (xsT d.ns d.nl) d.aa d.ac d.bs)∧(∀ q∈K,q∈Kn)∧cL w0 Kn (TAt (TB.mk k d.nl va vc (xsT d.ns d.nl) d.aa d.ac d.bs))∧St w0 Ot G Kn w'):=by
 rw [show d.val = .agg #[.int .i64 (k:Int),.slice d.na d.nl d.nc,.slice d.aa d.nl d.ac] by unfold DV.val;rw [hsy,hal]]
 exact xB k d.na d.nl d.nc d.ns d.aa d.ac d.bs Kt Ot G K w0 w hS0 hKt hI hnl hrl hrv hbl h1 h2 h3
theorem Am (d:DV) (k:Nat) (Kt:List (Nat×World)) (Ot:Own) (G:bN) (K:List (Nat×World)) (w0 w:World) (hS0:St w0 Ot G K w) (hKt:∀ q∈Kt,q∈K) (hD:cL w0 Kt (fun W=>DIn W d)) (hk:d.sy=(k:Int)) (he:cU d=0) :
  Calls prog 11 #[d.val] w (fun e w'=>∃ (q:TB) (d2:DV) (Kn:List (Nat×World)),e = .returned (.tuple #[d2.val,.int .i64 0])∧LeastOf d q d2∧(∀ q∈K,q∈Kn)∧cL w0 Kn (DRo d2)∧St w0 Ot (⟨.slice d2.aa q.n d2.ac,q.n,bvs q.bs,4,1⟩::G) Kn w'):=by
 refine cP (args:=[d.val]) func11 rfl ntmps11 rfl ?_
 have hS:=hS0
 obtain ⟨k9,hk9,h1,h2,h3,h4,h5,h6⟩:=dD he
 obtain rfl:k=k9:=by omega
 refine aH (aN (cI (cs:=[_,_,_]) hS rfl rfl rfl fun B1 W1 hS=>cE (cs:=[_,_,_]) hS zeroValue25 rfl rfl fun B2 W2 hS=>aB rfl rfl (aK (XF.thenN (aH (aH (aN (bC (vs:=[_,_,_]) isAgg25 sizeOf25 rfl (aT.own (j:=0) (m:=3) (hS.at_ 1 rfl) rfl) rfl (bW (vs:=[_]) lU rfl (lQ d _ (hD (hS.keep K (fun q hq=>by simp [hq])) hKt)) rfl ?_)))))))))
 rintro e W9 ⟨rfl,hb9⟩
 refine ⟨_,rfl,?_⟩
 have hS':=hS.grow hb9;clear hS;have hS:=hS';clear hS'
 refine aB rfl rfl (aK (XF.thenN (aH (aN (aA rfl rfl (dR rfl rfl rfl (aK (XF.thenN ?_))))))))
 refine bS rfl (fun hc=>absurd (of_decide_eq_true hc) (by rw [he];decide)) (fun hc=>?_)
 have hc:=of_decide_eq_false hc
 refine bV (XF.thenN (aH ?_))
 have hDI:=hD (hS.keep K (fun q hq=>by simp [hq])) hKt
 refine aN (bC (vs:=[_,_,_]) isAgg25 sizeOf25 rfl (aT.own (j:=0) (m:=3) (hS.at_ 1 rfl) rfl) rfl ?_)
 refine bW (vs:=[_]) tF rfl (lF d k Kt _ _ K w0 _ (hS.keep K (fun q hq=>by simp [hq])) hKt (fun h9 hk8=>⟨(hD h9 hk8).nrow,fun r hr=>((hD h9 hk8).rin r hr).1,(hD h9 hk8).arow⟩) hk h4 hDI.nlen (fun r hr=>⟨(h6 r hr).1,by have:=(hDI.rin r hr).2.1;have:=(h6 r hr).1;omega⟩) (fun r hr=>(h6 r hr).2) (by have:=hDI.alen;omega) h2 h3 h1) rfl ?_
 rintro e W9 ⟨va,vc,K1,rfl,hTO,k1,hTA,hS9⟩
 refine ⟨_,rfl,?_⟩
 clear hS;have hS:=hS9;clear hS9
 refine bW (vs:=[_,_]) pH rfl (lT _ 1024 K1 _ _ K1 w0 _ hS hTO (fun q hq=>hq) hTA h3) rfl ?_
 rintro e W9 ⟨q,K2,rfl,hqk,hqn,hqT,hqo,hqr,hqe,k2,hqB,hS9⟩
 refine ⟨_,rfl,?_⟩
 clear hS;have hS:=hS9;clear hS9
 refine aA rfl rfl (bO rfl rfl rfl (bO rfl rfl rfl (cE (cs:=[_,_,_]) hS zeroValue61 rfl rfl fun B3 W3 hS=>bU (i:=0) (vs:=[_,_,_]) (cs':=[_,_,_]) (O':=(_::_::_::Ot)) hS sizeOf61 rfl rfl rfl rfl rfl rfl rfl fun W4 hS=>aB rfl rfl (aK (XF.thenN (aH (aN (bC (vs:=[_,_,_]) isAgg61 sizeOf61 rfl (aT.own (j:=0) (m:=3) (hS.at_ 0 rfl) rfl) rfl (bW (vs:=[_]) zC rfl (vL q K2 _ _ K2 w0 _ (hS.keep K2 (fun q hq=>by simp [hq])) hqT (fun q hq=>hq) hqB) rfl ?_)))))))))
 rintro e W9 ⟨d2,K3,rfl,hd2,k3,hdR,hS9⟩
 refine ⟨_,rfl,?_⟩
 clear hS;have hS:=hS9;clear hS9
 refine bU (i:=1) (vs:=[_,_,_]) (cs':=[_,_,_]) (O':=(_::_::_::Ot)) hS sizeOf25 rfl rfl rfl rfl rfl rfl rfl fun W5 hS=>aB rfl rfl (aK (XF.thenN (cK (XF.res (gX (vs:=[_,_,_]) results11 isAgg25 sizeOf25 rfl (aT.own (j:=0) (m:=3) (hS.at_ 1 rfl) rfl) rfl) ?_))))
 exact ⟨q,d2,K3,rfl,⟨hqT,by rw [hqk,hk],hqn,hqo,hqr,by rw [show dFA d=(TB.mk k d.nl va vc (xsT d.ns d.nl) d.aa d.ac d.bs).fa by unfold dFA TB.fa;rw [hk];rfl];exact hqe,hd2⟩,fun z hz=>k3 z (k2 z (k1 z hz)),hdR,(hS.keep K3 (fun q hq=>by simp [hq])).tail.tail.tail⟩
theorem goes_11:cC prog 11=true:=by kernel_rfl
def lG (a b:DV):Bool:=decide (a.sy=b.sy∧a.nl=b.nl∧a.al=b.al∧a.bs=b.bs∧a.ns.map (·.xs)=b.ns.map (·.xs))
theorem iP {a b:DV} (h:¬ (a.sy=b.sy∧a.nl=b.nl∧a.al=b.al∧a.bs=b.bs∧a.ns.map (·.xs)=b.ns.map (·.xs))):lG a b=false:=decide_eq_false h
theorem nN {α:Type} {l m:List α} {i:Nat} {x y:α} (h:l.take i=m.take i) (hx:l[i]?=some x) (hy:m[i]?=some y) (e:x=y):l.take (i+1)=m.take (i+1):=by
 rw [List.take_add_one,List.take_add_one,h,hx,hy,e]
theorem vM {α β:Type} {f:α→β} {l m:List α} {i:Nat} {x y:α} (h:l.map f=m.map f) (hx:l[i]?=some x) (hy:m[i]?=some y):f x=f y:=by
 have h1:(l.map f)[i]?=(m.map f)[i]?:=by rw [h]
 rw [List.getElem?_map,List.getElem?_map,hx,hy] at h1
 exact Option.some.inj h1
theorem fE.at9 {W:World} {aa:Option Addr} {bs:List Bool} {i:Nat} (h:fE W aa bs) (hi:i < bs.length):∃ b off y,aa=some ⟨b,off,none⟩∧bs[i]?=some y∧W.cell? ⟨b,off+i * 1,none⟩=some (.bool y):=by
 obtain ⟨b,off,e,hc⟩:=h i _ (List.getElem?_eq_getElem hi)
 exact ⟨b,off,_,e,List.getElem?_eq_getElem hi,hc⟩
theorem Cj (sy1:Int) (na1:Option Addr) (nl1 nc1:Nat) (ns1:List IV) (aa1:Option Addr) (al1 ac1:Nat) (bs1:List Bool) (sy2:Int) (na2:Option Addr) (nl2 nc2:Nat) (ns2:List IV) (aa2:Option Addr) (al2 ac2:Nat) (bs2:List Bool) (w:World) (hnr1:oX w na1 ns1) (hnl1:ns1.length=nl1) (hri1:∀ r∈ns1,Row w r.a r.xs∧r.xs.length=r.l∧r.l≤9223372036854775807) (hbr1:fE w aa1 bs1) (hbl1:bs1.length=al1) (hnm1:nl1≤9223372036854775807) (ham1:al1≤9223372036854775807) (hnr2:oX w na2 ns2) (hnl2:ns2.length=nl2) (hri2:∀ r∈ns2,Row w r.a r.xs∧r.xs.length=r.l∧r.l≤9223372036854775807) (hbr2:fE w aa2 bs2) (hbl2:bs2.length=al2) (hnm2:nl2≤9223372036854775807) (ham2:al2≤9223372036854775807) :
  Calls prog 17 #[.agg #[.int .i64 sy1,.slice na1 nl1 nc1,.slice aa1 al1 ac1],.agg #[.int .i64 sy2,.slice na2 nl2 nc2,.slice aa2 al2 ac2]] w (fun e w'=>e = .returned (.bool (lG ⟨sy1,na1,nl1,nc1,ns1,aa1,al1,ac1,bs1⟩ ⟨sy2,na2,nl2,nc2,ns2,aa2,al2,ac2,bs2⟩))∧Below w.heap.size w w'):=by
 refine cP (args:=[.agg #[.int .i64 sy1,.slice na1 nl1 nc1,.slice aa1 al1 ac1],.agg #[.int .i64 sy2,.slice na2 nl2 nc2,.slice aa2 al2 ac2]]) func17 rfl ntmps17 rfl ?_
 have hS:=St.start w
 refine aH (aN (cI (cs:=[_,_,_]) hS rfl rfl rfl fun B1 W1 hS=>cI (cs:=[_,_,_]) hS rfl rfl rfl fun B2 W2 hS=>aB rfl rfl (aK (XF.thenN (aH (aH (aN (aU (o':=0) dC rfl rfl rfl (aP isAgg3 rfl (aD (hS.at_ 1 rfl) rfl) rfl (aU (o':=0) dC rfl rfl rfl (aP isAgg3 rfl (aD (hS.at_ 0 rfl) rfl) rfl (dR rfl rfl rfl (aA rfl rfl (bZ (d:=13) rfl (fun hc=>?_) (fun hc=>?_)))))))))))))))
 ·have hg13:=of_decide_eq_true hc;clear hc
  refine aQ (d:=13) rfl rfl rfl rfl (aQ (d:=13) rfl rfl rfl rfl (aQ (d:=13) rfl rfl rfl rfl (aQ (d:=13) rfl rfl rfl rfl (aQ (d:=13) rfl rfl rfl rfl (aQ (d:=13) rfl rfl rfl rfl (aQ (d:=13) rfl rfl rfl rfl (bI rfl rfl rfl (aA rfl rfl (aQ (d:=22) rfl rfl rfl rfl (aQ (d:=22) rfl rfl rfl rfl (aQ (d:=22) rfl rfl rfl rfl (aQ (d:=22) rfl rfl rfl rfl (aQ (d:=22) rfl rfl rfl rfl (aQ (d:=22) rfl rfl rfl rfl (aQ (d:=22) rfl rfl rfl rfl (bI rfl rfl rfl (aK (XF.thenN (fT rfl (aH (aN (aB rfl rfl (aK (XF.thenN (cK (XF.thenR (XF.res (cZ results17 rfl) ?_)))))))))))))))))))))))))))
  exact ⟨kZ (iP (fun h=>by have e1:sy1=sy2:=h.1;have e2:nl1=nl2:=h.2.1;have e3:al1=al2:=h.2.2.1;omega)).symm,hS.below⟩
 ·have hg13:=of_decide_eq_false hc;clear hc
  have q1:=Decidable.of_not_not hg13
  refine aE (d:=13) rfl rfl (aU (o':=1) cO rfl rfl rfl (aE (d:=13) rfl rfl (aP isAgg22 rfl (aD (hS.at_ 1 rfl) rfl) rfl (aE (d:=13) rfl rfl (bX underlying22 rfl rfl (aE (d:=13) rfl rfl (aU (o':=1) cO rfl rfl rfl (aE (d:=13) rfl rfl (aP isAgg22 rfl (aD (hS.at_ 0 rfl) rfl) rfl (aE (d:=13) rfl rfl (bX underlying22 rfl rfl (aE (d:=13) rfl rfl (dR rfl rfl rfl (cG rfl rfl rfl (aA rfl rfl (bZ (d:=22) rfl (fun hc=>?_) (fun hc=>?_)))))))))))))))))
  ·have hg22:=of_decide_eq_true hc;clear hc
   refine aQ (d:=22) rfl rfl rfl rfl (aQ (d:=22) rfl rfl rfl rfl (aQ (d:=22) rfl rfl rfl rfl (aQ (d:=22) rfl rfl rfl rfl (aQ (d:=22) rfl rfl rfl rfl (aQ (d:=22) rfl rfl rfl rfl (aQ (d:=22) rfl rfl rfl rfl (bI rfl rfl rfl (aK (XF.thenN (fT rfl (aH (aN (aB rfl rfl (aK (XF.thenN (cK (XF.thenR (XF.res (cZ results17 rfl) ?_))))))))))))))))))
   exact ⟨kZ (iP (fun h=>by have e1:sy1=sy2:=h.1;have e2:nl1=nl2:=h.2.1;have e3:al1=al2:=h.2.2.1;omega)).symm,hS.below⟩
  ·have hg22:=of_decide_eq_false hc;clear hc
   have q2:=Decidable.of_not_not hg22
   refine aE (d:=22) rfl rfl (aU (o':=2) cT rfl rfl rfl (aE (d:=22) rfl rfl (aP isAgg23 rfl (aD (hS.at_ 1 rfl) rfl) rfl (aE (d:=22) rfl rfl (bX underlying23 rfl rfl (aE (d:=22) rfl rfl (aU (o':=2) cT rfl rfl rfl (aE (d:=22) rfl rfl (aP isAgg23 rfl (aD (hS.at_ 0 rfl) rfl) rfl (aE (d:=22) rfl rfl (bX underlying23 rfl rfl (aE (d:=22) rfl rfl (dR rfl rfl rfl (cG rfl rfl rfl (aK (XF.thenN (bS rfl (fun hc=>?_) (fun hc=>?_))))))))))))))))))
   ·have hc30:=of_decide_eq_true hc;clear hc
    refine aH (aN (aB rfl rfl (aK (XF.thenN (cK (XF.thenR (XF.res (cZ results17 rfl) ?_)))))))
    exact ⟨kZ (iP (fun h=>by have e1:sy1=sy2:=h.1;have e2:nl1=nl2:=h.2.1;have e3:al1=al2:=h.2.2.1;omega)).symm,hS.below⟩
   ·have hc30:=of_decide_eq_false hc;clear hc
    have q3:=Decidable.of_not_not hc30
    refine bV (XF.thenN (aH (aH (aN (aB rfl rfl (aK (XF.thenN (bH (cW (fun m l W=>∃ (i:Nat),i≤al1∧m=al1 - i∧l=[(2,.pointer (some ⟨B1,0,none⟩)),(3,.pointer (some ⟨B2,0,none⟩)),(5,.int .i64 (i:Int))]∧bs1.take i=bs2.take i∧St w [(B2,[.int .i64 sy2,.slice na2 nl2 nc2,.slice aa2 al2 ac2],25),(B1,[.int .i64 sy1,.slice na1 nl1 nc1,.slice aa1 al1 ac1],25)] [] [] W) (al1 - 0) ([(2,_),(3,_),(5,_)]) ⟨rfl,rfl,rfl,trivial⟩ (⟨0,Nat.zero_le _,rfl,rfl,by simp,hS.clear⟩) ?_)))))))))
    clear hS
    rintro m l W ⟨i,hi,rfl,rfl,htk,hS⟩
    refine aH (aH (aN (aA rfl rfl (aU (o':=2) cT rfl rfl rfl (aP isAgg23 rfl (aD (hS.at_ 1 rfl) rfl) rfl (bX underlying23 rfl rfl (cH rfl rfl rfl (aK (XF.thenN (bS rfl (fun hc=>?_) (fun hc=>?_)))))))))))
    ·have hc35:=of_decide_eq_true hc;clear hc
     obtain ⟨c1,o1,y1,rfl,hy1,hc1⟩:=fE.at9 hbr1 (i:=i) (by omega)
     obtain ⟨c2,o2,y2,rfl,hy2,hc2⟩:=fE.at9 hbr2 (i:=i) (by omega)
     have k1:=hS.old hc1
     have k2:=hS.old hc2
     refine bV (XF.thenN (aH (bH (aH (iF (m:=11) cA hS (by kernel_rfl) (by kernel_rfl) rfl (bR 1 rfl 2 rfl rfl (fun w hw=>bA (o':=2) cT rfl rfl) rfl (bF 2 rfl 38 0 rfl rfl rfl (fun w hw=>aY isAgg23 rfl ((aO hw 0).cell (Nat.zero_le _) (aD (hS.at_ 1 rfl) rfl))) rfl (bR 3 rfl 5 rfl rfl (fun w hw=>aV rfl) rfl (aZ 4 rfl (isV _) (aW _) (rgV (li:=[(39,_),(40,_)]) rfl (aL rfl) ⟨aJ 1 (aC rfl rfl rfl),aJ 2 (aC rfl rfl rfl),trivial⟩ (fun w hw=>bE  underlying23 sizeOf4 rfl rfl rfl (by omega) rfl) (aG rfl)) (bF 5 rfl 41 3 rfl rfl rfl (fun w hw=>aY isAgg4 rfl ((aO hw 0).cell (Nat.zero_le _) (k1))) rfl (bR 6 rfl 3 rfl rfl (fun w hw=>bA (o':=2) cT rfl rfl) rfl (bF 7 rfl 43 5 rfl rfl rfl (fun w hw=>aY isAgg23 rfl ((aO hw 0).cell (Nat.zero_le _) (aD (hS.at_ 0 rfl) rfl))) rfl (bR 8 rfl 5 rfl rfl (fun w hw=>aV rfl) rfl (aZ 9 rfl (isV _) (aW _) (rgV (li:=[(44,_),(45,_)]) rfl (aL rfl) ⟨aJ 6 (aC rfl rfl rfl),aJ 7 (aC rfl rfl rfl),trivial⟩ (fun w hw=>bE  underlying23 sizeOf4 rfl rfl rfl (by omega) rfl) (aG rfl)) (bF 10 rfl 46 8 rfl rfl rfl (fun w hw=>aY isAgg4 rfl ((aO hw 0).cell (Nat.zero_le _) (k2))) rfl (aZ 11 rfl (isV _) (aW _) (rgV (li:=[(42,_),(47,_)]) rfl (aL rfl) ⟨aJ 4 (aC rfl rfl rfl),aJ 9 (aC rfl rfl rfl),trivial⟩ (fun w hw=>xY underlying4 rfl rfl) (aG rfl)) (dJ ?_)))))))))))))))))
     intro W3 hbR hS'
     clear hS;have hS:=hS';clear hS'
     refine aI (aI (aI (aI (aI (aI (aI (aI (aI (aI (aI (cN (XF.thenN (bS rfl (fun hc=>?_) (fun hc=>?_))))))))))))))
     ·have hc48:=hc;clear hc
      refine aH (aN (aB rfl rfl (aK (XF.thenN (cK (XF.blkR (XF.thenR (XF.thenR (XF.blkR (XF.thenR (XF.res (cZ results17 rfl) ?_)))))))))))
      exact ⟨kZ (iP (fun h=>by have e4:bs1=bs2:=h.2.2.2.1;rw [e4] at hy1;have e9:=Option.some.inj (hy1.symm.trans hy2);subst e9;simp at hc48)).symm,hS.below⟩
     ·have hc48:=hc;clear hc
      have e9:y1=y2:=by simpa using hc48
      refine bV (XF.blkN (XF.thenN (aN (aA rfl rfl (bY rfl rfl (IntWalk.i64_in _ (by omega)) rfl (aB rfl rfl (aK ?_)))))))
      exact XF.round (al1 - (i+1)) [(2,_),(3,_),(5,_)] (by omega) ⟨rfl,rfl,rfl,trivial⟩ ⟨i+1,by omega,rfl,rfl,nN htk hy1 hy2 e9,hS.clear⟩
    ·have hc35:=of_decide_eq_false hc;clear hc
     have ebs:bs1=bs2:=by
      rw [List.take_of_length_le (by omega),List.take_of_length_le (by omega)] at htk;exact htk
     clear htk
     refine cV (XF.thenX (XF.thenX (XF.blkX (XF.thenN (aH (aH (aN (aB rfl rfl (aK (XF.thenN (bH (cW (fun m l W=>∃ (i:Nat),i≤nl1∧m=nl1 - i∧l=[(2,.pointer (some ⟨B1,0,none⟩)),(3,.pointer (some ⟨B2,0,none⟩)),(6,.int .i64 (i:Int))]∧(ns1.map (·.xs)).take i=(ns2.map (·.xs)).take i∧St w [(B2,[.int .i64 sy2,.slice na2 nl2 nc2,.slice aa2 al2 ac2],25),(B1,[.int .i64 sy1,.slice na1 nl1 nc1,.slice aa1 al1 ac1],25)] [] [] W) (nl1 - 0) ([(2,_),(3,_),(6,_)]) ⟨rfl,rfl,rfl,trivial⟩ (⟨0,Nat.zero_le _,rfl,rfl,by simp,hS.clear⟩) ?_))))))))))))
     clear hS
     rintro m l W ⟨i,hi,rfl,rfl,htk,hS⟩
     refine aH (aH (aN (aA rfl rfl (aU (o':=1) cO rfl rfl rfl (aP isAgg22 rfl (aD (hS.at_ 1 rfl) rfl) rfl (bX underlying22 rfl rfl (cH rfl rfl rfl (aK (XF.thenN (bS rfl (fun hc=>?_) (fun hc=>?_)))))))))))
     ·have hc53:=of_decide_eq_true hc;clear hc
      obtain ⟨r1,hr1⟩:∃ r,ns1[i]?=some r:=⟨_,List.getElem?_eq_getElem (by omega)⟩
      obtain ⟨r2,hr2⟩:∃ r,ns2[i]?=some r:=⟨_,List.getElem?_eq_getElem (by omega)⟩
      obtain ⟨c1,o1,rfl,hcs1⟩:=hnr1 i r1 hr1
      obtain ⟨c2,o2,rfl,hcs2⟩:=hnr2 i r2 hr2
      obtain ⟨hrr1,hrl1,hrm1⟩:=hri1 r1 (List.mem_of_getElem? hr1)
      obtain ⟨hrr2,hrl2,hrm2⟩:=hri2 r2 (List.mem_of_getElem? hr2)
      obtain ⟨ra1,rl1,rc1,xs1⟩:=r1
      obtain ⟨ra2,rl2,rc2,xs2⟩:=r2
      dsimp only at hrr1 hrl1 hrm1 hrr2 hrl2 hrm2
      have hcs1:w.cell? ⟨c1,o1+i * 1,none⟩=some (.slice ra1 rl1 rc1):=hcs1
      have hcs2:w.cell? ⟨c2,o2+i * 1,none⟩=some (.slice ra2 rl2 rc2):=hcs2
      have k1:=hS.old hcs1
      have k2:=hS.old hcs2
      refine bV (XF.thenN (aH (bH (aH (aH (iF (m:=13) cA hS (by kernel_rfl) (by kernel_rfl) rfl (bR 1 rfl 2 rfl rfl (fun w hw=>bA (o':=1) cO rfl rfl) rfl (bF 2 rfl 56 0 rfl rfl rfl (fun w hw=>aY isAgg22 rfl ((aO hw 0).cell (Nat.zero_le _) (aD (hS.at_ 1 rfl) rfl))) rfl (bR 3 rfl 6 rfl rfl (fun w hw=>aV rfl) rfl (aZ 4 rfl (isV _) (aW _) (rgV (li:=[(57,_),(58,_)]) rfl (aL rfl) ⟨aJ 1 (aC rfl rfl rfl),aJ 2 (aC rfl rfl rfl),trivial⟩ (fun w hw=>bE  underlying22 sizeOf36 rfl rfl rfl (by omega) rfl) (aG rfl)) (bF 5 rfl 59 3 rfl rfl rfl (fun w hw=>aY isAgg36 rfl ((aO hw 0).cell (Nat.zero_le _) (k1))) rfl (bF 6 rfl 60 4 rfl rfl rfl (fun w hw=>iS underlying36 rfl) rfl (bR 7 rfl 3 rfl rfl (fun w hw=>bA (o':=1) cO rfl rfl) rfl (bF 8 rfl 62 6 rfl rfl rfl (fun w hw=>aY isAgg22 rfl ((aO hw 0).cell (Nat.zero_le _) (aD (hS.at_ 0 rfl) rfl))) rfl (bR 9 rfl 6 rfl rfl (fun w hw=>aV rfl) rfl (aZ 10 rfl (isV _) (aW _) (rgV (li:=[(63,_),(64,_)]) rfl (aL rfl) ⟨aJ 7 (aC rfl rfl rfl),aJ 8 (aC rfl rfl rfl),trivial⟩ (fun w hw=>bE  underlying22 sizeOf36 rfl rfl rfl (by omega) rfl) (aG rfl)) (bF 11 rfl 65 9 rfl rfl rfl (fun w hw=>aY isAgg36 rfl ((aO hw 0).cell (Nat.zero_le _) (k2))) rfl (bF 12 rfl 66 10 rfl rfl rfl (fun w hw=>iS underlying36 rfl) rfl (aZ 13 rfl (isV _) (aW _) (rgV (li:=[(61,_),(67,_)]) rfl (aL rfl) ⟨aJ 5 (aC rfl rfl rfl),aJ 11 (aC rfl rfl rfl),trivial⟩ (fun w hw=>kN rfl rfl) (aG rfl)) (dJ ?_))))))))))))))))))))
      intro W4 hbR hS'
      clear hS;have hS:=hS';clear hS'
      refine aI (aI (aI (aI (aI (aI (aI (aI (aI (aI (aI (aI (aI (cN (XF.thenN (bS rfl (fun hc=>?_) (fun hc=>?_))))))))))))))))
      ·have hc68:=hc;clear hc
       have q4:=of_decide_eq_true hc68
       try dsimp only at q4
       refine aH (aN (aB rfl rfl (aK (XF.thenN (cK (XF.thenR (XF.blkR (XF.thenR (XF.thenR (XF.blkR (XF.thenR (XF.res (cZ results17 rfl) ?_))))))))))))
       exact ⟨kZ (iP (fun h=>by have e4:xs1=xs2:=vM (f:=IV.xs) h.2.2.2.2 hr1 hr2;rw [e4] at hrl1;omega)).symm,hS.below⟩
      ·have hc68:=hc;clear hc
       have q4:=Decidable.of_not_not (of_decide_eq_false hc68)
       try dsimp only at q4
       refine bV (XF.thenN (aH (aN (aB rfl rfl (aK (XF.thenN (bH (cW (fun m l W=>∃ (j:Nat),j≤rl1∧m=rl1 - j∧l=[(2,.pointer (some ⟨B1,0,none⟩)),(3,.pointer (some ⟨B2,0,none⟩)),(6,.int .i64 (i:Int)),(7,.int .i64 (j:Int))]∧xs1.take j=xs2.take j∧St w [(B2,[.int .i64 sy2,.slice (some ⟨c2,o2,none⟩) nl2 nc2,.slice aa2 al2 ac2],25),(B1,[.int .i64 sy1,.slice (some ⟨c1,o1,none⟩) nl1 nc1,.slice aa1 al1 ac1],25)] [] [] W) (rl1 - 0) ([(2,_),(3,_),(6,_),(7,_)]) ⟨rfl,rfl,rfl,rfl,trivial⟩ (⟨0,Nat.zero_le _,rfl,rfl,by simp,hS.clear⟩) ?_))))))))
       clear hS
       rintro m l W ⟨j,hj,rfl,rfl,htj,hS⟩
       have k1:=hS.old hcs1
       have k2:=hS.old hcs2
       refine aH (aH (aN (aA rfl rfl (aU (o':=1) cO rfl rfl rfl (aP isAgg22 rfl (aD (hS.at_ 1 rfl) rfl) rfl (aA rfl rfl (aX  underlying22 sizeOf36 rfl rfl rfl (by omega) rfl rfl (aP isAgg36 rfl (k1) rfl (bX underlying36 rfl rfl (cH rfl rfl rfl (aK (XF.thenN (bS rfl (fun hc=>?_) (fun hc=>?_))))))))))))))
       ·have hc76:=of_decide_eq_true hc;clear hc
        obtain ⟨d1,g1,z1,rfl,hz1,hd1⟩:=hrr1.at1 (i:=j) (by omega)
        obtain ⟨d2,g2,z2,rfl,hz2,hd2⟩:=hrr2.at1 (i:=j) (by omega)
        have k3:=hS.old hd1
        have k4:=hS.old hd2
        refine bV (XF.thenN (aH (bH (aH (iF (m:=17) cA hS (by kernel_rfl) (by kernel_rfl) rfl (bR 1 rfl 2 rfl rfl (fun w hw=>bA (o':=1) cO rfl rfl) rfl (bF 2 rfl 79 0 rfl rfl rfl (fun w hw=>aY isAgg22 rfl ((aO hw 0).cell (Nat.zero_le _) (aD (hS.at_ 1 rfl) rfl))) rfl (bR 3 rfl 6 rfl rfl (fun w hw=>aV rfl) rfl (aZ 4 rfl (isV _) (aW _) (rgV (li:=[(80,_),(81,_)]) rfl (aL rfl) ⟨aJ 1 (aC rfl rfl rfl),aJ 2 (aC rfl rfl rfl),trivial⟩ (fun w hw=>bE  underlying22 sizeOf36 rfl rfl rfl (by omega) rfl) (aG rfl)) (bF 5 rfl 82 3 rfl rfl rfl (fun w hw=>aY isAgg36 rfl ((aO hw 0).cell (Nat.zero_le _) (k1))) rfl (bR 6 rfl 7 rfl rfl (fun w hw=>aV rfl) rfl (aZ 7 rfl (isV _) (aW _) (rgV (li:=[(83,_),(84,_)]) rfl (aL rfl) ⟨aJ 4 (aC rfl rfl rfl),aJ 5 (aC rfl rfl rfl),trivial⟩ (fun w hw=>bE  underlying36 sizeOf3 rfl rfl rfl (by omega) rfl) (aG rfl)) (bF 8 rfl 85 6 rfl rfl rfl (fun w hw=>aY isAgg3 rfl ((aO hw 0).cell (Nat.zero_le _) (k3))) rfl (bR 9 rfl 3 rfl rfl (fun w hw=>bA (o':=1) cO rfl rfl) rfl (bF 10 rfl 87 8 rfl rfl rfl (fun w hw=>aY isAgg22 rfl ((aO hw 0).cell (Nat.zero_le _) (aD (hS.at_ 0 rfl) rfl))) rfl (bR 11 rfl 6 rfl rfl (fun w hw=>aV rfl) rfl (aZ 12 rfl (isV _) (aW _) (rgV (li:=[(88,_),(89,_)]) rfl (aL rfl) ⟨aJ 9 (aC rfl rfl rfl),aJ 10 (aC rfl rfl rfl),trivial⟩ (fun w hw=>bE  underlying22 sizeOf36 rfl rfl rfl (by omega) rfl) (aG rfl)) (bF 13 rfl 90 11 rfl rfl rfl (fun w hw=>aY isAgg36 rfl ((aO hw 0).cell (Nat.zero_le _) (k2))) rfl (bR 14 rfl 7 rfl rfl (fun w hw=>aV rfl) rfl (aZ 15 rfl (isV _) (aW _) (rgV (li:=[(91,_),(92,_)]) rfl (aL rfl) ⟨aJ 12 (aC rfl rfl rfl),aJ 13 (aC rfl rfl rfl),trivial⟩ (fun w hw=>bE  underlying36 sizeOf3 rfl rfl rfl (by omega) rfl) (aG rfl)) (bF 16 rfl 93 14 rfl rfl rfl (fun w hw=>aY isAgg3 rfl ((aO hw 0).cell (Nat.zero_le _) (k4))) rfl (aZ 17 rfl (isV _) (aW _) (rgV (li:=[(86,_),(94,_)]) rfl (aL rfl) ⟨aJ 7 (aC rfl rfl rfl),aJ 15 (aC rfl rfl rfl),trivial⟩ (fun w hw=>kN rfl rfl) (aG rfl)) (dJ ?_)))))))))))))))))))))))
        intro W5 hbR hS'
        clear hS;have hS:=hS';clear hS'
        refine aI (aI (aI (aI (aI (aI (aI (aI (aI (aI (aI (aI (aI (aI (aI (aI (aI (cN (XF.thenN (bS rfl (fun hc=>?_) (fun hc=>?_))))))))))))))))))))
        ·have hc95:=hc;clear hc
         have q5:=of_decide_eq_true hc95
         refine aH (aN (aB rfl rfl (aK (XF.thenN (cK (XF.blkR (XF.thenR (XF.thenR (XF.blkR (XF.blkR (XF.thenR (XF.thenR (XF.blkR (XF.thenR (XF.res (cZ results17 rfl) ?_)))))))))))))))
         exact ⟨kZ (iP (fun h=>by have e4:xs1=xs2:=vM (f:=IV.xs) h.2.2.2.2 hr1 hr2;rw [e4] at hz1;have e9:=Option.some.inj (hz1.symm.trans hz2);omega)).symm,hS.below⟩
        ·have hc95:=hc;clear hc
         have q5:=Decidable.of_not_not (of_decide_eq_false hc95)
         refine bV (XF.blkN (XF.thenN (aN (aA rfl rfl (bY rfl rfl (IntWalk.i64_in _ (by omega)) rfl (aB rfl rfl (aK ?_)))))))
         exact XF.round (rl1 - (j+1)) [(2,_),(3,_),(6,_),(7,_)] (by omega) ⟨rfl,rfl,rfl,rfl,trivial⟩ ⟨j+1,by omega,rfl,rfl,nN htj hz1 hz2 (by omega),hS.clear⟩
       ·have hc76:=of_decide_eq_false hc;clear hc
        have exs:xs1=xs2:=by
         rw [List.take_of_length_le (by omega),List.take_of_length_le (by omega)] at htj;exact htj
        refine cV (XF.thenX (XF.thenX (XF.blkX (XF.blkN (XF.thenN (aN (aA rfl rfl (bY rfl rfl (IntWalk.i64_in _ (by omega)) rfl (aB rfl rfl (aK ?_))))))))))
        exact XF.round (nl1 - (i+1)) [(2,_),(3,_),(6,_)] (by omega) ⟨rfl,rfl,rfl,trivial⟩ ⟨i+1,by omega,rfl,rfl,nN htk (x:=xs1) (y:=xs2) (by rw [List.getElem?_map,hr1];rfl) (by rw [List.getElem?_map,hr2];rfl) exs,hS.clear⟩
     ·have hc53:=of_decide_eq_false hc;clear hc
      refine cV (XF.thenX (XF.thenX (XF.blkX (XF.thenN (aH (aN (aB rfl rfl (aK (XF.thenN (cK (XF.res (cZ results17 rfl) ?_)))))))))))
      exact ⟨kZ (decide_eq_true ⟨by dsimp only;omega,by dsimp only;omega,by dsimp only;omega,ebs,by
       rw [List.take_of_length_le (by rw [List.length_map];omega),List.take_of_length_le (by rw [List.length_map];omega)] at htk;exact htk⟩).symm,hS.below⟩
theorem rR (a b:DV) (w:World) (ha:DIn w a) (hb:DIn w b):Calls prog 17 #[a.val,b.val] w (fun e w2=>e = .returned (.bool (lG a b))∧Below w.heap.size w w2):=Cj _ _ _ _ _ _ _ _ _ _ _ _ _ _ _ _ _ _ w ha.nrow ha.nlen ha.rin ha.arow ha.alen ha.nmax ha.amax hb.nrow hb.nlen hb.rin hb.arow hb.alen hb.nmax hb.amax
def iC (d:DV):Bool:=decide (d.nl≤24) && (decide (d.al≤24) && d.ns.all (fun r=>decide (r.l≤6)))
theorem Ck (sy:Int) (na:Option Addr) (nl nc:Nat) (ns:List IV) (aa:Option Addr) (al ac:Nat) (bs:List Bool) (w:World) (hnr:oX w na ns) (hnl:ns.length=nl) (hri:∀ r∈ns,r.l≤9223372036854775807) (hnm:nl≤9223372036854775807) (ham:al≤9223372036854775807) :
  Calls prog 9 #[.agg #[.int .i64 sy,.slice na nl nc,.slice aa al ac]] w (fun e w'=>e = .returned (.bool (iC ⟨sy,na,nl,nc,ns,aa,al,ac,bs⟩))∧Below w.heap.size w w'):=by
 refine cP (args:=[.agg #[.int .i64 sy,.slice na nl nc,.slice aa al ac]]) func9 rfl ntmps9 rfl ?_
 have hS:=St.start w
 refine aH (aN (cI (cs:=[_,_,_]) hS rfl rfl rfl fun B1 W1 hS=>aB rfl rfl (aK (XF.thenN (aH (aH (aN (aU (o':=1) cO rfl rfl rfl (aP isAgg22 rfl (aD (hS.at_ 0 rfl) rfl) rfl (bX underlying22 rfl rfl (gS rfl rfl rfl (aA rfl rfl (bZ (d:=8) rfl (fun hc=>?_) (fun hc=>?_))))))))))))))
 ·have hg8:=of_decide_eq_true hc;clear hc
  refine aQ (d:=8) rfl rfl rfl rfl (aQ (d:=8) rfl rfl rfl rfl (aQ (d:=8) rfl rfl rfl rfl (aQ (d:=8) rfl rfl rfl rfl (bI rfl rfl rfl (aK (XF.thenN (fT rfl (aH (aN (aB rfl rfl (aK (XF.thenN (cK (XF.thenR (XF.res (cZ results9 rfl) ?_)))))))))))))))
  exact ⟨kZ (by unfold iC;dsimp only;rw [decide_eq_false (show ¬ nl≤24 by omega)];rfl),hS.below⟩
 ·have hg8:=of_decide_eq_false hc;clear hc
  refine aE (d:=8) rfl rfl (aU (o':=2) cT rfl rfl rfl (aE (d:=8) rfl rfl (aP isAgg23 rfl (aD (hS.at_ 0 rfl) rfl) rfl (aE (d:=8) rfl rfl (bX underlying23 rfl rfl (aE (d:=8) rfl rfl (gS rfl rfl rfl (cG rfl rfl rfl (aK (XF.thenN (bS rfl (fun hc=>?_) (fun hc=>?_))))))))))))
  ·have hc13:=of_decide_eq_true hc;clear hc
   refine aH (aN (aB rfl rfl (aK (XF.thenN (cK (XF.thenR (XF.res (cZ results9 rfl) ?_)))))))
   exact ⟨kZ (by unfold iC;dsimp only;rw [decide_eq_false (show ¬ al≤24 by omega),Bool.false_and,Bool.and_false]),hS.below⟩
  ·have hc13:=of_decide_eq_false hc;clear hc
   refine bV (XF.thenN (aH (aH (aN (aB rfl rfl (aK (XF.thenN (bH (cW (fun m l W=>∃ i:Nat,i≤nl∧m=nl - i∧l=[(1,.pointer (some ⟨B1,0,none⟩)),(3,.int .i64 (i:Int))]∧(ns.take i).all (fun r=>decide (r.l≤6))=true∧St w [(B1,[.int .i64 sy,.slice na nl nc,.slice aa al ac],25)] [] [] W) (nl - 0) ([(1,_),(3,_)]) ⟨rfl,rfl,trivial⟩ (⟨0,Nat.zero_le _,rfl,rfl,rfl,hS.clear⟩) ?_)))))))))
   clear hS
   rintro m l W ⟨i,hi,rfl,rfl,hall,hS⟩
   refine aH (aH (aN (aA rfl rfl (aU (o':=1) cO rfl rfl rfl (aP isAgg22 rfl (aD (hS.at_ 0 rfl) rfl) rfl (bX underlying22 rfl rfl (cH rfl rfl rfl (aK (XF.thenN (bS rfl (fun hc=>?_) (fun hc=>?_)))))))))))
   ·have hc18:=of_decide_eq_true hc;clear hc
    obtain ⟨⟨ra,rl,rc,xs⟩,hr⟩:∃ r,ns[i]?=some r:=⟨_,List.getElem?_eq_getElem (by omega)⟩
    obtain ⟨c1,o1,rfl,hcs⟩:=hnr i _ hr
    have hcs:w.cell? ⟨c1,o1+i * 1,none⟩=some (.slice ra rl rc):=hcs
    have k1:=hS.old hcs
    refine bV (XF.thenN (aH (bH (aH (aN (aU (o':=1) cO rfl rfl rfl (aP isAgg22 rfl (aD (hS.at_ 0 rfl) rfl) rfl (aA rfl rfl (aX  underlying22 sizeOf36 rfl rfl rfl (by omega) rfl rfl (aP isAgg36 rfl (k1) rfl (bX underlying36 rfl rfl (gS rfl rfl rfl (aK (XF.thenN (bS rfl (fun hc=>?_) (fun hc=>?_))))))))))))))))
    ·have hc27:=of_decide_eq_true hc;clear hc
     refine aH (aN (aB rfl rfl (aK (XF.thenN (cK (XF.blkR (XF.thenR (XF.thenR (XF.blkR (XF.thenR (XF.res (cZ results9 rfl) ?_)))))))))))
     exact ⟨kZ (by unfold iC;dsimp only;rw [dH hr (decide_eq_false (by show ¬ rl≤6;omega)),Bool.and_false,Bool.and_false]),hS.below⟩
    ·have hc27:=of_decide_eq_false hc;clear hc
     refine bV (XF.blkN (XF.thenN (aN (aA rfl rfl (bY rfl rfl (IntWalk.i64_in _ (by omega)) rfl (aB rfl rfl (aK ?_)))))))
     exact XF.round (nl - (i+1)) [(1,_),(3,_)] (by omega) ⟨rfl,rfl,trivial⟩ ⟨i+1,by omega,rfl,rfl,hC hr hall (decide_eq_true (by show rl≤6;omega)),hS.clear⟩
   ·have hc18:=of_decide_eq_false hc;clear hc
    refine cV (XF.thenX (XF.thenX (XF.blkX (XF.thenN (aH (aN (aB rfl rfl (aK (XF.thenN (cK (XF.res (cZ results9 rfl) ?_)))))))))))
    rw [List.take_of_length_le (by omega)] at hall
    exact ⟨kZ (by unfold iC;dsimp only;rw [hall,decide_eq_true (show nl≤24 by omega),decide_eq_true (show al≤24 by omega)];rfl),hS.below⟩
theorem rS (d:DV) (w:World) (h:DIn w d):Calls prog 9 #[d.val] w (fun e w2=>e = .returned (.bool (iC d))∧Below w.heap.size w w2):=Ck _ _ _ _ _ _ _ _ d.bs w h.nrow h.nlen (fun r hr=>(h.rin r hr).2.2) h.nmax h.amax
def cQ (a b:DV):Int:=if cU a≠0 then cU a else if cU b≠0 then cU b else if a.sy≠b.sy then 1 else 0
theorem kG (a b:DV) (w:World) (ha:DIn w a) (hb2:DIn w b) :
  Calls prog 47 #[a.val,b.val] w (fun e w'=>e = .returned (.int .i64 (cQ a b))∧Below w.heap.size w w'):=by
 refine cP (args:=[a.val,b.val]) func47 rfl ntmps47 rfl ?_
 have hS:=St.start w
 refine aH (aN (cI (cs:=[_,_,_]) hS rfl rfl rfl fun B1 W1 hS=>cI (cs:=[_,_,_]) hS rfl rfl rfl fun B2 W2 hS=>aB rfl rfl (aK (XF.thenN (aH (aH (aN (bC (vs:=[_,_,_]) isAgg25 sizeOf25 rfl (aT.own (j:=0) (m:=3) (hS.at_ 1 rfl) rfl) rfl (dX (vs:=[_]) hS lU rfl (lQ a _ (ha.below hS.below)) rfl fun W3 hS=>aB rfl rfl (aK (XF.thenN (aH (aN (aA rfl rfl (dR rfl rfl rfl (aK (XF.thenN (bS rfl (fun hc=>?_) (fun hc=>?_)))))))))))))))))))
 ·have hc10:=of_decide_eq_true hc;clear hc
  refine aH (aN (aA rfl rfl (aB rfl rfl (aK (XF.thenN (cK (XF.thenR (XF.res (cZ results47 rfl) ?_))))))))
  exact ⟨gO (by unfold cQ;rw [if_pos hc10]),hS.below⟩
 ·have hc10:=of_decide_eq_false hc;clear hc
  refine bV (XF.thenN (aH (aH (aN (bC (vs:=[_,_,_]) isAgg25 sizeOf25 rfl (aT.own (j:=0) (m:=3) (hS.at_ 0 rfl) rfl) rfl (dX (vs:=[_]) hS lU rfl (lQ b _ (hb2.below hS.below)) rfl fun W4 hS=>aB rfl rfl (aK (XF.thenN (aH (aN (aA rfl rfl (dR rfl rfl rfl (aK (XF.thenN (bS rfl (fun hc=>?_) (fun hc=>?_))))))))))))))))
  ·have hc15:=of_decide_eq_true hc;clear hc
   refine aH (aN (aA rfl rfl (aB rfl rfl (aK (XF.thenN (cK (XF.thenR (XF.res (cZ results47 rfl) ?_))))))))
   exact ⟨gO (by unfold cQ;rw [if_neg hc10,if_pos hc15]),hS.below⟩
  ·have hc15:=of_decide_eq_false hc;clear hc
   refine bV (XF.thenN (aH (aH (aN (aU (o':=0) dC rfl rfl rfl (aP isAgg3 rfl (aD (hS.at_ 1 rfl) rfl) rfl (aU (o':=0) dC rfl rfl rfl (aP isAgg3 rfl (aD (hS.at_ 0 rfl) rfl) rfl (dR rfl rfl rfl (aK (XF.thenN (bS rfl (fun hc=>?_) (fun hc=>?_)))))))))))))
   ·have hc21:=of_decide_eq_true hc;clear hc
    refine aH (aN (aB rfl rfl (aK (XF.thenN (cK (XF.thenR (XF.res (cZ results47 rfl) ?_)))))))
    exact ⟨gO (by unfold cQ;rw [if_neg hc10,if_neg hc15,if_pos hc21]),hS.below⟩
   ·have hc21:=of_decide_eq_false hc;clear hc
    refine bV (XF.thenN (aH (aN (aB rfl rfl (aK (XF.thenN (cK (XF.res (cZ results47 rfl) ?_))))))))
    exact ⟨gO (by unfold cQ;rw [if_neg hc10,if_neg hc15,if_neg hc21]),hS.below⟩
theorem pI:cC prog 16=true:=by kernel_rfl
end
section
open Go.RowKit
open Go.WideMaps (KeyLaw)
abbrev prc (nb c:Nat):List Value:=[.int .i32 ((c / nb:Nat):Int),.int .i32 ((c % nb:Nat):Int)]
abbrev kvI (nb c:Nat):Value:=.agg #[.int .i32 ((c / nb:Nat):Int),.int .i32 ((c % nb:Nat):Int)]
theorem tG (nb:Nat) (x y:Nat) (h:kvI nb x=kvI nb y):x=y:=by
 simp at h
 have h1:=Nat.div_add_mod x nb
 have h2:=Nat.div_add_mod y nb
 have h3:x / nb=y / nb:=by omega
 have h4:x % nb=y % nb:=by omega
 rw [h3,h4] at h1
 omega
theorem prRow:(95:TypeId) < prog.types.size:=of_decide_eq_true (by kernel_rfl)
theorem vN {a b:Nat} (h:a < b):b=b - 1+1:=by omega
theorem prSize:prog.types.size=prog.types.size - 1+1:=vN prRow
theorem prWide:(match prog.underlying 95 with | some (.array _ _) | some (.struct _)=>true | _=>false)=true:=by rw [underlying95]
theorem Cm:KeyLaw prog 95:=deep_law_laid (by kernel_rfl) (m:=2) (by omega) prRow (by kernel_rfl) prWide
theorem zE:prog.cellsOf 95=2:=by kernel_rfl
theorem An:prog.cellsOf 21=1:=by kernel_rfl
theorem prKey9 {p g:Int} (hp:(Lit.int .i32 p).wf=true) (hg:(Lit.int .i32 g).wf=true):∃ l,keyOf prog 95 (.agg #[.int .i32 p,.int .i32 g])=some l:=by
 have h1:prog.keyType 95=true:=by kernel_rfl
 have h2:(Value.agg #[.int .i32 p,.int .i32 g]).formed prog 95=true:=by simp [Value.formed,underlying95,zE]
 have hi:∀ (d:Nat) (x:Int),(Lit.int .i32 x).wf=true→prog.keyLits (d+1) 21 [.int .i32 x]=some [.int .i32 x]:=fun d x hx=>by simp [Program.keyLits,underlying21,hx]
 obtain ⟨m,hm⟩:∃ m,prog.types.size=m+1:=⟨prog.types.size - 1,prSize⟩
 unfold keyOf
 rw [underlying95]
 simp only [h1,h2,Bool.and_self,if_true]
 rw [hm]
 simp [Program.keyLits,show List.range 2=[0,1] from rfl,underlying95,underlying21,zE,An,hi m p hp,hi m g hg,Value.cells,hp,hg]
theorem wf32 {x:Nat} (h1:x≤1000000):(Lit.int .i32 (x:Int)).wf=true:=by
 have e1:IntKind.i32.min = -2147483648:=rfl
 have e2:IntKind.i32.max=2147483647:=rfl
 simp [Lit.wf]
 omega
theorem prKey {nb c:Nat} (h1:c / nb≤1000000) (h2:c % nb≤1000000):∃ l,keyOf prog 95 (kvI nb c)=some l:=prKey9 (wf32 h1) (wf32 h2)
def mkL (L:List Nat):List (Nat×Value):=L.zipIdx.map (fun q=>(q.1,Value.int .i32 (q.2:Int)))
theorem Cn {L:List Nat} {c:Nat}:mkL (L++[c])=mkL L++[(c,Value.int .i32 (L.length:Int))]:=by
 unfold mkL;rw [List.zipIdx_append];simp
theorem mkL_yes {L:List Nat} {c:Nat} (h:c∈L):(c,Value.int .i32 ((mtI id L c:Nat):Int))∈mkL L:=by
 have e:mtI id L c=L.idxOf c:=by unfold mtI;rw [lR (by simpa using h),List.map_id];rfl
 rw [e]
 refine List.mem_map.2 ⟨(c,L.idxOf c),?_,rfl⟩
 rw [List.mk_mem_zipIdx_iff_getElem?]
 have h1:=List.idxOf_lt_length_of_mem h
 rw [List.getElem?_eq_getElem h1,List.getElem_idxOf h1]
theorem Co {L:List Nat} {c:Nat} (h:c∉L):∀ q∈mkL L,q.1≠c:=fun q hq e=>by
 obtain ⟨z,hz,rfl⟩:=List.mem_map.1 hq
 obtain ⟨x,i⟩:=z
 have h1:=List.mk_mem_zipIdx_iff_getElem?.1 hz
 exact h (e▸List.mem_of_getElem? h1)
abbrev prs (nb:Nat) (L:List Nat):List Value:=L.flatMap (prc nb)
theorem prs_app {nb:Nat} {L:List Nat} {c:Nat} {a b:Int} (h1:a=((c / nb:Nat):Int)) (h2:b=((c % nb:Nat):Int)):prs nb L++[.int .i32 a,.int .i32 b]=prs nb (L++[c]):=by
 subst h1;subst h2;unfold prs;rw [List.flatMap_append];simp
theorem vO {l:List Int} {x:Int}:dA l++[Value.int .i32 x]=dA (l++[x]):=by simp [dA]
def mtF (L:List Nat) (c:Nat) (F:List Int) (x:Int):List Int:=if c∈L then F else F++[x]
abbrev prC (ta tb:TB) (MB:Nat) (lv fv bv:Value):List Value:=[.int .i64 (ta.k:Int),.slice ta.na (ta.n * ta.k) ta.nc,.slice ta.aa ta.n ta.ac,.int .i64 (tb.k:Int),.slice tb.na (tb.n * tb.k) tb.nc,.slice tb.aa tb.n tb.ac,.map (some MB),lv,fv,bv]
abbrev MkP (nb:Nat) (L:List Nat) (MB:Nat) (W:World):Prop:=Mk prog 95 (kvI nb) (mkL L) MB W
structure FBOk (D:List (Nat×Nat)) (F Y:List Int):Prop where
 lf:F.length=D.length
 ly:Y.length=D.length
 f0:F.getD 0 0 = -1
 at_:∀ i,0 < i→i < D.length→F.getD i 0=(((D.getD i (0,0)).1:Nat):Int)∧Y.getD i 0=(((D.getD i (0,0)).2:Nat):Int)
theorem FBOk.step {A:FA} {p:Nat} {F Y:List Int} (h:FBOk (qfb A p) F Y) (hpos:0 < (qfb A p).length):FBOk (qfb A (p+1)) (mtF (qm A id p) (ncd A p) F ((p / A.k:Nat):Int)) (mtF (qm A id p) (ncd A p) Y ((p % A.k:Nat):Int)):=by
 unfold mtF
 have hf:=h.lf
 have hy:=h.ly
 by_cases hc:ncd A p∈qm A id p
 ·rw [if_pos hc,if_pos hc,qfb,if_pos (by rw [List.map_id];exact List.contains_iff_mem.2 hc)]
  exact h
 ·rw [if_neg hc,if_neg hc,qfb,if_neg (by rw [List.map_id];exact fun h9=>hc (List.contains_iff_mem.1 h9))]
  refine ⟨by simp [hf],by simp [hy],by rw [dB (by omega)];exact h.f0,fun i h0 hi=>?_⟩
  rw [List.length_append,List.length_singleton] at hi
  rcases Nat.lt_or_ge i (qfb A p).length with h1 | h1
  ·rw [dB (l:=F) (by omega),dB (l:=Y) (by omega),dB (l:=qfb A p) h1];exact h.at_ i h0 h1
  ·rw [dN (l:=F) (by omega),dN (l:=Y) (by omega),dN (l:=qfb A p) (by omega)];exact ⟨rfl,rfl⟩
theorem FBOk.start {A:FA}:FBOk (qfb A 0) [-1] [-1]:=⟨rfl,rfl,rfl,fun i h0 hi=>by
 have:(qfb A 0).length=1:=rfl
 omega⟩
end
section
open Go.RowKit
theorem bs_91_1 (v00:Value) (v01:Value):Instr.fill (fun i=>some (i * 2,2)) ((Array.range (1 * 2)).map ((Value.cells (.agg #[.int .i32 0,.int .i32 0]))[· % (Value.cells (.agg #[.int .i32 0,.int .i32 0])).size]!)) [(0,.agg #[v00,v01])]=some (List.toArray [v00,v01]):=by kernel_rfl
theorem tH (w:World) (b o:Nat):(Instr.fieldAt 93 (.pointer (some ⟨b,o,none⟩)) 2).run prog w = .ok (.pointer (some ⟨b,o+6,none⟩)) w:=by
 simp [Instr.fieldAt,run_underlying underlying93,Instr.sureAddr,go_sem,Addr.add_lit]
theorem iL (w:World) (b o:Nat):(Instr.fieldAt 93 (.pointer (some ⟨b,o,none⟩)) 3).run prog w = .ok (.pointer (some ⟨b,o+7,none⟩)) w:=by
 simp [Instr.fieldAt,run_underlying underlying93,Instr.sureAddr,go_sem,Addr.add_lit]
theorem lV (w:World) (b o:Nat):(Instr.fieldAt 93 (.pointer (some ⟨b,o,none⟩)) 4).run prog w = .ok (.pointer (some ⟨b,o+8,none⟩)) w:=by
 simp [Instr.fieldAt,run_underlying underlying93,Instr.sureAddr,go_sem,Addr.add_lit]
theorem tI (w:World) (b o:Nat):(Instr.fieldAt 93 (.pointer (some ⟨b,o,none⟩)) 5).run prog w = .ok (.pointer (some ⟨b,o+9,none⟩)) w:=by
 simp [Instr.fieldAt,run_underlying underlying93,Instr.sureAddr,go_sem,Addr.add_lit]
theorem inf_95:prog.info? 95=some Try.t95:=by kernel_rfl
theorem Cp (ta tb:TB) (PB MB:Nat) (la fa ba:Option Addr) (lc fc bc ll:Nat) (L:List Nat) (F Y:List Int) (Ot:Own) (G:bN) (K:List (Nat×World)) (w0 w:World) (c:Nat) (fr sy:Int) (hS0:St w0 ((PB,prC ta tb MB (.slice la (ll) lc) (.slice fa (ll) fc) (.slice ba (ll) bc),93)::Ot) (⟨.slice la (ll) lc,ll,prs tb.n (L),95,2⟩::⟨.slice fa (ll) fc,ll,dA (F),21,1⟩::⟨.slice ba (ll) bc,ll,dA (Y),21,1⟩::G) K w) (hM:MkP tb.n L MB w) (hMb:w0.heap.size≤MB) (hMK:∀ q∈K,MB < q.1∨q.2.heap.size≤MB) (hLl:L.length=ll) (hl9:ll≤2000000) (hc1:c / tb.n≤1000000) (hc2:c % tb.n≤1000000) :
  Calls prog 57 #[.pointer (some ⟨PB,0,none⟩),kvI tb.n c,.int .i32 fr,.int .i32 sy] w (fun e w'=>∃ (la fa ba:Option Addr) (lc fc bc ll:Nat),(mtS id L c).length=ll∧e = .returned (.int .i32 ((mtI id L c:Nat):Int))∧MkP tb.n (mtS id L c) MB w'∧St w0 ((PB,prC ta tb MB (.slice la (ll) lc) (.slice fa (ll) fc) (.slice ba (ll) bc),93)::Ot) (⟨.slice la (ll) lc,ll,prs tb.n (mtS id L c),95,2⟩::⟨.slice fa (ll) fc,ll,dA (mtF L c F fr),21,1⟩::⟨.slice ba (ll) bc,ll,dA (mtF L c Y sy),21,1⟩::G) K w'):=by
 refine cP (args:=[.pointer (some ⟨PB,0,none⟩),kvI tb.n c,.int .i32 fr,.int .i32 sy]) func57 rfl ntmps57 rfl ?_
 have hS:=hS0
 have hS:=hS.markK hM
 refine aH (aN (cI (cs:=[_,_]) hS rfl rfl rfl fun B1 W1 hS=>aB rfl rfl (aK (XF.thenN (aH ?_)))))
 by_cases hc:c∈L
 ·skip
  have hM1:=hM.at_ hS (by simp)
  refine iF (m:=11) cA hS (by kernel_rfl) (by kernel_rfl) rfl (bR 1 rfl 0 rfl rfl (fun w hw=>aV rfl) rfl (bF 2 rfl 12 0 rfl rfl rfl (fun w hw=>bP rfl) rfl (bF 3 rfl 13 1 rfl rfl rfl (fun w hw=>bA (o':=6) tH rfl rfl) rfl (bF 4 rfl 14 2 rfl rfl rfl (fun w hw=>aY isAgg90 rfl ((aO hw 0).cell (Nat.zero_le _) (aD (hS.at_ 1 rfl) rfl))) rfl (bR 5 rfl 5 rfl rfl (fun w hw=>dL (vs:=[_,_]) isAgg95 sizeOf95 rfl (aT.agree (aO hw 0) (Nat.zero_le _) (aT.own (j:=0) (m:=2) (hS.at_ 0 rfl) rfl))) rfl (aZ 6 rfl (isV _) (aW _) (rgV (li:=[(15,_),(16,_)]) rfl (aL rfl) ⟨aJ 3 (aC rfl rfl rfl),aJ 4 (aC rfl rfl rfl),trivial⟩ (fun w hw=>Bu (hM1.below hw) Cm (tG tb.n) underlying90 (mkL_yes hc) rfl rfl) (aG rfl)) (bF 7 rfl 17 5 rfl rfl rfl (fun w hw=>aV rfl) rfl (bF 8 rfl 11 6 rfl rfl rfl (fun w hw=>eW rfl rfl) rfl (aZ 9 rfl (isV (.bool true)) (aW _) (uE (li:=[(11,_)]) rfl (aL rfl) ⟨aJ 6 (aC rfl rfl rfl),trivial⟩ (fun w hw=>eW rfl rfl) (rfl) (aG rfl)) (bF 10 rfl 18 7 rfl rfl rfl (fun w hw=>dI rfl) rfl (aZ 11 rfl (isV (.bool true)) (aW _) (uE (li:=[(19,_)]) rfl (aL rfl) ⟨aJ 8 (aC rfl rfl rfl),trivial⟩ (fun w hw=>dI rfl) (rfl) (aG rfl)) (dJ ?_))))))))))))
  intro W2 hbR hS'
  clear hS;have hS:=hS';clear hS'
  refine aI (aI (aI (aI (aI (aI (aI (aI (aI (aI (aI (cN (XF.thenN (aH (aH (aN (aA rfl rfl (gR rfl rfl (aK (XF.thenN (xX rfl (bV (XF.thenN (aH (aN (aA rfl rfl (aB rfl rfl (aK (XF.thenN (cK (XF.res (cZ results57 rfl) ?_))))))))))))))))))))))))))))))
  have e1:mtS id L c=L:=lR (by simpa using hc)
  exact ⟨la,fa,ba,lc,fc,bc,ll,by rw [e1];exact hLl,rfl,by rw [e1];exact hM.at_ hS (by simp),by rw [e1,mtF,mtF,if_pos hc,if_pos hc];exact hS.tail.keep K (fun q hq=>by simp [hq])⟩
 ·skip
  have hM1:=hM.at_ hS (by simp)
  refine iF (m:=11) cA hS (by kernel_rfl) (by kernel_rfl) rfl (bR 1 rfl 0 rfl rfl (fun w hw=>aV rfl) rfl (bF 2 rfl 12 0 rfl rfl rfl (fun w hw=>bP rfl) rfl (bF 3 rfl 13 1 rfl rfl rfl (fun w hw=>bA (o':=6) tH rfl rfl) rfl (bF 4 rfl 14 2 rfl rfl rfl (fun w hw=>aY isAgg90 rfl ((aO hw 0).cell (Nat.zero_le _) (aD (hS.at_ 1 rfl) rfl))) rfl (bR 5 rfl 5 rfl rfl (fun w hw=>dL (vs:=[_,_]) isAgg95 sizeOf95 rfl (aT.agree (aO hw 0) (Nat.zero_le _) (aT.own (j:=0) (m:=2) (hS.at_ 0 rfl) rfl))) rfl (aZ 6 rfl (isV _) (aW _) (rgV (li:=[(15,_),(16,_)]) rfl (aL rfl) ⟨aJ 3 (aC rfl rfl rfl),aJ 4 (aC rfl rfl rfl),trivial⟩ (fun w hw=>rn_mkNo (hM1.below hw) Cm (tG tb.n) underlying90 zeroValue21 (Co hc) (prKey hc1 hc2) rfl rfl) (aG rfl)) (bF 7 rfl 17 5 rfl rfl rfl (fun w hw=>aV rfl) rfl (bF 8 rfl 11 6 rfl rfl rfl (fun w hw=>eW rfl rfl) rfl (aZ 9 rfl (isV (.bool false)) (aW _) (uE (li:=[(11,_)]) rfl (aL rfl) ⟨aJ 6 (aC rfl rfl rfl),trivial⟩ (fun w hw=>eW rfl rfl) (rfl) (aG rfl)) (bF 10 rfl 18 7 rfl rfl rfl (fun w hw=>dI rfl) rfl (aZ 11 rfl (isV (.bool false)) (aW _) (uE (li:=[(19,_)]) rfl (aL rfl) ⟨aJ 8 (aC rfl rfl rfl),trivial⟩ (fun w hw=>dI rfl) (rfl) (aG rfl)) (dJ ?_))))))))))))
  intro W3 hbR hS'
  clear hS;have hS:=hS';clear hS'
  refine aI (aI (aI (aI (aI (aI (aI (aI (aI (aI (aI (cN (XF.thenN (aH (aH (aN (aA rfl rfl (gR rfl rfl (aK (XF.thenN (fT rfl (aH (aN (aA rfl rfl (bM rfl rfl (aU (o':=7) iL rfl rfl rfl (aP isAgg91 rfl (aD (hS.at_ 1 rfl) rfl) rfl (bX underlying91 rfl rfl (eE underlying3 underlying21 rfl (by omega) rfl (aB rfl rfl (aK (XF.thenN (aH (yA cA 6 hS rfl rfl (by kernel_rfl) (by kernel_rfl) (by kernel_rfl) (fun d hd=>by cases hd) (bR 1 rfl 0 rfl rfl (fun w hw=>aV rfl) rfl (bF 2 rfl 28 0 rfl rfl rfl (fun w hw=>bP rfl) rfl (bF 3 rfl 29 1 rfl rfl rfl (fun w hw=>bA (o':=6) tH rfl rfl) rfl ?_))))))))))))))))))))))))))))))))))))
  refine bF 4 rfl 30 2 rfl rfl rfl (fun w hw=>aY isAgg90 rfl ((aO hw 0).cell (Nat.zero_le _) (aD (hS.at_ 1 rfl) rfl))) rfl (bR 5 rfl 5 rfl rfl (fun w hw=>dL (vs:=[_,_]) isAgg95 sizeOf95 rfl (aT.agree (aO hw 0) (Nat.zero_le _) (aT.own (j:=0) (m:=2) (hS.at_ 0 rfl) rfl))) rfl (bR 6 rfl 9 rfl rfl (fun w hw=>aV rfl) rfl (dJ ?_)))
  intro W4 hbR hS'
  clear hS;have hS:=hS';clear hS'
  refine aI (aI (aI (aI (aI (aI (cN ?_))))))
  have hM4:=hM.at_ hS (by simp)
  have hS4:=hS.keep K (fun q hq=>by simp [hq])
  clear hS
  refine Bh hS4 hM4 Cm (tG tb.n) underlying90 (Co hc) (prKey hc1 hc2) hMb hMK rfl rfl rfl ?_
  intro W41 hS5 hM5 hturn
  have hS:=hS5.markK hM5
  clear hS5
  refine aK (XF.thenN (aH ?_))
  refine regBPC (p:=7) (k:=10) (gi:=0) (m:=1) cA hS rfl rfl (by kernel_rfl) (by kernel_rfl) (by kernel_rfl) (fun d hd=>by cases hd) rfl rfl underlying91 inf_95 rfl rfl (by show 0 < 2;decide) rfl rfl rfl (by dsimp only;simp only [maxLen];omega) (by dsimp only;show _ * 8≤_;omega) ?_
  refine iX 1 rfl rfl (rgV (li:=[(0,_)]) rfl (aL rfl) ⟨cD rfl,trivial⟩ (fun w hw=>aV rfl) (aG rfl)) (lgV (li:=[(0,_)]) rfl (aL rfl) ⟨cD rfl,trivial⟩ (fun w=>aV rfl) (aG rfl) rfl) (cY 2 rfl rfl (by kernel_rfl) (rgV (li:=[(0,_)]) rfl (aL rfl) ⟨cD rfl,trivial⟩ (fun w hw=>aV rfl) (aG rfl)) (cY 3 rfl rfl (by kernel_rfl) (rgV (li:=[(35,_)]) rfl (aL rfl) ⟨aJ 1 (aC rfl rfl rfl),trivial⟩ (fun w hw=>bP rfl) (aG rfl)) (cY 4 rfl rfl (by kernel_rfl) (rgV (li:=[(36,_)]) rfl (aL rfl) ⟨aJ 2 (aC rfl rfl rfl),trivial⟩ (fun w hw=>bA (o':=7) iL rfl rfl) (aG rfl)) (cY 5 rfl rfl (by kernel_rfl) (rgV (li:=[(37,_)]) rfl (aL rfl) ⟨aJ 3 (aC rfl rfl rfl),trivial⟩ (fun w hw=>aY isAgg91 rfl ((aO hw 0).cell (Nat.zero_le _) (aD (hS.at_ 1 rfl) rfl))) (aG rfl)) (cY 6 rfl rfl (by kernel_rfl) (rgV (li:=[(5,_)]) rfl (aL rfl) ⟨cD rfl,trivial⟩ (fun w hw=>dL (vs:=[_,_]) isAgg95 sizeOf95 rfl (aT.agree (aO hw 0) (Nat.zero_le _) (aT.own (j:=0) (m:=2) (hS.at_ 0 rfl) rfl))) (aG rfl)) (uG 7 rfl rfl (by kernel_rfl) (fQ W41.heap.size 1 95 _) (iU) (mX (us:=[.agg (List.toArray [_,_])]) rfl (aL rfl) underlying91 sizeOf95 zeroValue95 rfl rfl ⟨eN (aJ 5 (aC rfl rfl rfl)),trivial⟩ (bs_91_1 _ _) (aG rfl)) (mZ 8 rfl rfl (iX 9 rfl rfl (rgV (li:=[(34,_)]) rfl (aL rfl) ⟨aJ 0 (aC rfl rfl rfl),trivial⟩ (fun w hw=>bP rfl) (aG rfl)) (lgV (li:=[(34,_)]) rfl (aL rfl) ⟨aJ 0 (aC rfl rfl rfl),trivial⟩ (fun w=>bP rfl) (aG rfl) rfl) (iX 10 rfl rfl (rgV (li:=[(42,_)]) rfl (aL rfl) ⟨aJ 8 (aC rfl rfl rfl),trivial⟩ (fun w hw=>bA (o':=7) iL rfl rfl) (aG rfl)) (lgV (li:=[(42,_)]) rfl (aL rfl) ⟨aJ 8 (aC rfl rfl rfl),trivial⟩ (fun w=>bA (o':=7) iL rfl rfl) (aG rfl) rfl) (mY ⟨_,_,aJ 4 (aC rfl rfl rfl),aJ 6 (aC rfl rfl rfl),gY rfl rfl,?_⟩))))))))))
  intro A5 v5 news5 W5 hbR hqA5 hS'
  clear hS;have hS:=hS';clear hS'
  cases hqA5
  refine aI (aI (aI (aI (aI (aI ?_)))))
  refine eO ?_;intro _ _
  refine aI (aI (aI ?_))
  obtain ⟨la9,lc9,e9,_⟩:=bQ (hS.row 0 rfl)
  dsimp only at e9
  subst e9
  refine cN (bL (i:=1) (cs':=[_,_,_,_,_,_,_,_,_,_]) (O':=(_::_::Ot)) hS sizeOf91 rfl rfl rfl rfl rfl rfl rfl fun W6 hS=>aK (XF.thenN (aH (aN (aA rfl rfl (aA rfl rfl (bM rfl rfl (aU (o':=8) lV rfl rfl rfl (aP isAgg59 rfl (aD (hS.at_ 1 rfl) rfl) rfl (aA rfl rfl (bK (us:=[(0,.int .i32 _)]) hS underlying59 sizeOf21 zeroValue21 rfl rfl rfl (eH _) rfl fun B7 W7 hS=>?_)))))))))))
  refine cR (i:=1) (news:=[_]) hS underlying59 dZ rfl rfl (by show 0 < 1;decide) rfl rfl rfl rfl rfl (aT.own (j:=0) (m:=1) (hS.at_ 0 rfl) rfl) rfl rfl (by dsimp only;simp only [maxLen];omega) (by dsimp only;show _ * 4≤_;omega) rfl fun v8 W8 hS=>?_
  obtain ⟨fa9,fc9,e9,_⟩:=bQ (hS.row 1 rfl)
  dsimp only at e9
  subst e9
  refine bM rfl rfl (aU (o':=8) lV rfl rfl rfl (bL (i:=2) (cs':=[_,_,_,_,_,_,_,_,_,_]) (O':=(_::_::_::Ot)) hS sizeOf59 rfl rfl rfl rfl rfl rfl rfl fun W9 hS=>aK (XF.thenN (aN (aA rfl rfl (aA rfl rfl (bM rfl rfl (aU (o':=9) tI rfl rfl rfl (aP isAgg59 rfl (aD (hS.at_ 2 rfl) rfl) rfl (aA rfl rfl (bK (us:=[(0,.int .i32 _)]) hS underlying59 sizeOf21 zeroValue21 rfl rfl rfl (eH _) rfl fun B10 W10 hS=>?_)))))))))))
  refine cR (i:=2) (news:=[_]) hS underlying59 dZ rfl rfl (by show 0 < 1;decide) rfl rfl rfl rfl rfl (aT.own (j:=0) (m:=1) (hS.at_ 0 rfl) rfl) rfl rfl (by dsimp only;simp only [maxLen];omega) (by dsimp only;show _ * 4≤_;omega) rfl fun v11 W11 hS=>?_
  obtain ⟨ba9,bc9,e9,_⟩:=bQ (hS.row 2 rfl)
  dsimp only at e9
  subst e9
  refine bM rfl rfl (aU (o':=9) tI rfl rfl rfl (bL (i:=3) (cs':=[_,_,_,_,_,_,_,_,_,_]) (O':=(_::_::_::_::Ot)) hS sizeOf59 rfl rfl rfl rfl rfl rfl rfl fun W12 hS=>aK (XF.thenN (aH (aN (aA rfl rfl (aB rfl rfl (aK (XF.thenN (cK (XF.res (cZ results57 rfl) ?_)))))))))))
  have e1:mtS id L c=L++[c]:=nL (by simpa using hc)
  have e2:mtI id L c=ll:=by rw [pE (by simpa using hc)];exact hLl
  have hM9:=hM5.at_ hS (by simp)
  rw [← hLl,← Cn] at hM9
  have hS9:=hS.castG (G':=(⟨.slice la9 (ll+1) lc9,ll+1,prs tb.n (L++[c]),95,2⟩::⟨.slice fa9 (ll+1) fc9,ll+1,dA (F++[fr]),21,1⟩::⟨.slice ba9 (ll+1) bc9,ll+1,dA (Y++[sy]),21,1⟩::G)) (by show GR.mk _ _ (prs _ _++[_,_]) _ _::GR.mk _ _ (dA _++[_]) _ _::GR.mk _ _ (dA _++[_]) _ _::_=_;rw [prs_app rfl rfl,vO,vO])
  exact ⟨la9,fa9,ba9,lc9,fc9,bc9,ll+1,by rw [e1,List.length_append,hLl];rfl,by rw [e2],by rw [e1];exact hM9,by rw [e1,mtF,mtF,if_neg hc,if_neg hc];exact hS9.tail.tail.tail.keep K (fun q hq=>by simp [hq])⟩
theorem oI (ta tb:TB) (PB MB:Nat) (la fa ba:Option Addr) (lc fc bc ll:Nat) (L:List Nat) (F Y:List Int) (Ot:Own) (G:bN) (K:List (Nat×World)) (w0 w:World) (c:Nat) (fr sy:Int) (hS0:St w0 ((PB,prC ta tb MB (.slice la (ll) lc) (.slice fa (ll) fc) (.slice ba (ll) bc),93)::Ot) (⟨.slice la (ll) lc,ll,prs tb.n (L),95,2⟩::⟨.slice fa (ll) fc,ll,dA (F),21,1⟩::⟨.slice ba (ll) bc,ll,dA (Y),21,1⟩::G) K w) (hM:MkP tb.n L MB w) (hMb:w0.heap.size≤MB) (hMK:∀ q∈K,MB < q.1∨q.2.heap.size≤MB) (hLl:L.length=ll) (hl9:ll≤2000000) (hc1:c / tb.n≤1000000) (hc2:c % tb.n≤1000000) (a b:Int) (ha:a=((c / tb.n:Nat):Int)) (hb:b=((c % tb.n:Nat):Int)):Calls prog 57 #[.pointer (some ⟨PB,0,none⟩),.agg #[.int .i32 a,.int .i32 b],.int .i32 fr,.int .i32 sy] w (fun e w'=>∃ (la fa ba:Option Addr) (lc fc bc ll:Nat),(mtS id L c).length=ll∧e = .returned (.int .i32 ((mtI id L c:Nat):Int))∧MkP tb.n (mtS id L c) MB w'∧St w0 ((PB,prC ta tb MB (.slice la (ll) lc) (.slice fa (ll) fc) (.slice ba (ll) bc),93)::Ot) (⟨.slice la (ll) lc,ll,prs tb.n (mtS id L c),95,2⟩::⟨.slice fa (ll) fc,ll,dA (mtF L c F fr),21,1⟩::⟨.slice ba (ll) bc,ll,dA (mtF L c Y sy),21,1⟩::G) K w'):=by
 subst ha hb
 exact Cp ta tb PB MB la fa ba lc fc bc ll L F Y Ot G K w0 w c fr sy hS0 hM hMb hMK hLl hl9 hc1 hc2
theorem Cq (x y:Int):prog.built 95 [(0,.int .i32 x),(1,.int .i32 y)]=some #[.int .i32 x,.int .i32 y]:=by kernel_rfl
theorem BI.wlen {A:FA} {p:Nat} (h:BI A p):∀ n i,i≤n→i < (qm A id p).length→((qw A p).getD i []).length≤i
 | 0,i,hn,hi=>by
  rw [show i=0 by omega,h.w0];exact Nat.le_refl _
 | n+1,i,hn,hi=>by
  rcases Nat.eq_zero_or_pos i with h0 | h0
  ·rw [h0,h.w0];exact Nat.le_refl _
  ·obtain ⟨q,_,_,h3,h4⟩:=h.par i h0 hi
   have:=BI.wlen h n (q / A.k) (by omega) (by omega)
   rw [h4,List.length_append,List.length_singleton];omega
theorem lH {l:List Int} {i:Nat} (h:i < l.length):(dA l)[i]?=some (.int .i32 (l.getD i 0)):=by
 unfold dA;rw [List.getElem?_map,List.getD_eq_getElem?_getD,List.getElem?_eq_getElem h];rfl
def wI (u:List Nat):List Int:=u.map (fun (x:Nat)=>(x:Int))
theorem qO {u:List Nat}:(wI u).length=u.length:=List.length_map _
theorem rep_set {c x:Nat} {suf:List Nat}:(List.replicate (c+1) 0++suf).set c x=List.replicate c 0++(x::suf):=by
 rw [List.replicate_succ',List.append_assoc,List.set_append_right _ _ (by simp),List.length_replicate,Nat.sub_self];rfl
theorem gL {W:World} {B:Nat} {u:List Nat} {T:TypeId} (h:W.heap[B]?=some (.cells (i64n u).toArray T (0,0))):Row W (some ⟨B,0,none⟩) (wI u):=.inr ⟨B,0,rfl,fun x hx=>by
 rw [Nat.zero_add]
 rw [qO] at hx
 refine aD h ?_
 unfold i64n wI
 simp [hx]⟩
theorem Cr (A:FA) (p:Nat) (ta tb:TB) (PB MB:Nat) (la fa ba:Option Addr) (lc fc bc ll:Nat) (L:List Nat) (F Y:List Int) (Ot:Own) (G:bN) (K:List (Nat×World)) (w0 w:World) (n:Nat) (hS0:St w0 ((PB,prC ta tb MB (.slice la (ll) lc) (.slice fa (ll) fc) (.slice ba (ll) bc),93)::Ot) (⟨.slice la (ll) lc,ll,prs tb.n (L),95,2⟩::⟨.slice fa (ll) fc,ll,dA (F),21,1⟩::⟨.slice ba (ll) bc,ll,dA (Y),21,1⟩::G) K w) (hBI:BI A p) (hFB:FBOk (qfb A p) F Y) (hll:(qm A id p).length=ll) (hl9:ll≤2000000) (hn:n < ll) (hk9:A.k≤100000) :
  Calls prog 58 #[.pointer (some ⟨PB,0,none⟩),.int .i32 (n:Int)] w (fun e w'=>∃ (fa ba wa:Option Addr) (wc:Nat) (Kn:List (Nat×World)),e = .returned (.slice wa ((qw A p).getD (n) []).length wc)∧(∀ q∈K,q∈Kn)∧cL w0 Kn (fun W=>Row W wa (wI ((qw A p).getD (n) [])))∧St w0 ((PB,prC ta tb MB (.slice la (ll) lc) (.slice fa (ll) fc) (.slice ba (ll) bc),93)::Ot) (⟨.slice la (ll) lc,ll,prs tb.n (L),95,2⟩::⟨.slice fa (ll) fc,ll,dA (F),21,1⟩::⟨.slice ba (ll) bc,ll,dA (Y),21,1⟩::G) Kn w'):=by
 refine cP (args:=[.pointer (some ⟨PB,0,none⟩),.int .i32 (n:Int)]) func58 rfl ntmps58 rfl ?_
 have hS:=hS0
 obtain ⟨fb,rfl⟩:=eG (hS.row 1 rfl) (by omega)
 obtain ⟨yb,rfl⟩:=eG (hS.row 2 rfl) (by omega)
 have hlf:F.length=ll:=by rw [hFB.lf,hBI.lf,hll]
 have hly:Y.length=ll:=by rw [hFB.ly,hBI.lf,hll]
 have hwn:=hBI.wlen n n (Nat.le_refl _) (by omega)
 refine aH (aN (aB rfl rfl (aK (XF.thenN (aH (aN (aB rfl rfl (aK (XF.thenN (aH (aH (aN (aA rfl rfl (aB rfl rfl (aK (XF.thenN (bH (cW (fun m l W=>∃ (i c:Nat),i < ll∧m=i∧l=[(0,.pointer (some ⟨PB,0,none⟩)),(1,.int .i32 (n:Int)),(5,.int .i64 (c:Int)),(6,.int .i32 (i:Int))]∧((qw A p).getD (n) []).length=c+((qw A p).getD (i) []).length∧St w0 ((PB,prC ta tb MB (.slice la (ll) lc) (.slice (some ⟨fb,0,none⟩) (ll) fc) (.slice (some ⟨yb,0,none⟩) (ll) bc),93)::Ot) (⟨.slice la (ll) lc,ll,prs tb.n (L),95,2⟩::⟨.slice (some ⟨fb,0,none⟩) (ll) fc,ll,dA (F),21,1⟩::⟨.slice (some ⟨yb,0,none⟩) (ll) bc,ll,dA (Y),21,1⟩::G) K W) (n) ([(0,_),(1,_),(5,_),(6,_)]) ⟨rfl,rfl,rfl,rfl,trivial⟩ (⟨n,0,hn,rfl,rfl,(Nat.zero_add _).symm,hS.keep K (fun q hq=>by simp [hq])⟩) ?_))))))))))))))))))
 clear hS
 rintro i l W ⟨_,c,hi,rfl,rfl,hlen,hS⟩
 refine aH (aH (aN (aA rfl rfl (bM rfl rfl (aU (o':=8) lV rfl rfl rfl (aP isAgg59 rfl (aD (hS.at_ 0 rfl) rfl) rfl (aA rfl rfl (aX (j:=i) (b:=fb) (o:=0) (m:=ll) (c:=fc) underlying59 sizeOf21 rfl rfl rfl (by omega) rfl rfl ?_))))))))
 refine aP isAgg21 rfl (by rw [Nat.zero_add,Nat.mul_one];exact cX (hS.row 1 rfl) (k:=i) (lH (by omega))) rfl ?_
 refine sD rfl rfl rfl (aK (XF.thenN (bS rfl (fun hc=>?_) (fun hc=>?_))))
 ·have hc17:=of_decide_eq_true hc;clear hc
  have hi0:0 < i:=by
   rcases Nat.eq_zero_or_pos i with h0 | h0
   ·rw [h0,hFB.f0] at hc17;omega
   ·exact h0
  obtain ⟨q,hq1,hq2,hq3,hq4⟩:=hBI.par i hi0 (by omega)
  obtain ⟨hf9,hy9⟩:=hFB.at_ i hi0 (by rw [hBI.lf];omega)
  rw [hq2] at hf9 hy9
  dsimp only at hf9 hy9
  refine bV (XF.thenN (aH (bH (aN (aA rfl rfl (bY rfl rfl (IntWalk.i64_in _ (by omega)) rfl (aB rfl rfl (aK (XF.blkN (XF.thenN (aN (aA rfl rfl (bM rfl rfl (aU (o':=8) lV rfl rfl rfl (aP isAgg59 rfl (aD (hS.at_ 0 rfl) rfl) rfl (aA rfl rfl (aX (j:=i) (b:=fb) (o:=0) (m:=ll) (c:=fc) underlying59 sizeOf21 rfl rfl rfl (by omega) rfl rfl ?_)))))))))))))))))
  refine aP isAgg21 rfl (by rw [Nat.zero_add,Nat.mul_one];exact cX (hS.row 1 rfl) (k:=i) (lH (by omega))) rfl ?_
  refine aB rfl rfl (aK ?_)
  exact XF.round (q / A.k) [(0,.pointer (some ⟨PB,0,none⟩)),(1,.int .i32 (n:Int)),(5,.int .i64 ((c+1:Nat):Int)),(6,.int .i32 ((q / A.k:Nat):Int))] hq3 ⟨rfl,rfl,rfl,by show _=some (Value.int .i32 ((q / A.k:Nat):Int));rw [← hf9];rfl,trivial⟩ ⟨q / A.k,c+1,by omega,rfl,rfl,by rw [hlen,hq4,List.length_append,List.length_singleton];omega,hS.keep K (fun q hq=>by simp [hq])⟩
 ·have hc17:=of_decide_eq_false hc;clear hc
  have hi0:i=0:=by
   rcases Nat.eq_zero_or_pos i with h0 | h0
   ·exact h0
   ·have:=(hFB.at_ i h0 (by rw [hBI.lf];omega)).1;omega
  subst hi0
  rw [hBI.w0] at hlen
  obtain ⟨lw,rfl⟩:∃ lw,lw=c:=⟨_,rfl⟩
  have hlw:((qw A p).getD (n) []).length=lw:=by rw [hlen];rfl
  refine cV (XF.thenX (XF.thenX (XF.blkX (XF.thenN (aH (aN (aA rfl rfl ?_)))))))
  refine eX (m:=lw) (cs:=i64n (List.replicate lw 0)) hS underlying36 iD rfl rfl rfl (rfl) (rfl) (lE _) (by show (8:Int) * _≤_;omega) (by omega) rfl fun B1 W1 hS=>?_
  refine aB rfl rfl (aK (XF.thenN (aH (aH (aN (aA rfl rfl (aB rfl rfl (aK (XF.thenN (bH ?_))))))))))
  refine cW (fun m l W=>∃ (i c:Nat) (suf:List Nat),i < ll∧m=i∧l=[(0,.pointer (some ⟨PB,0,none⟩)),(5,.int .i64 (c:Int)),(7,.slice (some ⟨B1,0,none⟩) lw lw),(8,.int .i32 (i:Int))]∧(qw A p).getD (n) []=(qw A p).getD (i) []++suf∧((qw A p).getD (i) []).length=c∧c≤lw∧suf.length=lw - c∧St w0 ((B1,i64n (List.replicate c 0++suf),3)::((PB,prC ta tb MB (.slice la (ll) lc) (.slice (some ⟨fb,0,none⟩) (ll) fc) (.slice (some ⟨yb,0,none⟩) (ll) bc),93)::Ot)) (⟨.slice la (ll) lc,ll,prs tb.n (L),95,2⟩::⟨.slice (some ⟨fb,0,none⟩) (ll) fc,ll,dA (F),21,1⟩::⟨.slice (some ⟨yb,0,none⟩) (ll) bc,ll,dA (Y),21,1⟩::G) K W) (n) ([(0,_),(5,_),(7,_),(8,_)]) ⟨rfl,rfl,rfl,rfl,trivial⟩ (⟨n,lw,[],hn,rfl,rfl,(List.append_nil _).symm,hlw,Nat.le_refl _,(by simp),by rw [List.append_nil];exact hS.keep K (fun q hq=>by simp [hq])⟩) ?_
  clear hS
  rintro i l W ⟨_,c,suf,hi,rfl,rfl,hwd,hlen,hcl,hsl,hS⟩
  refine aH (aH (aN (aA rfl rfl (bM rfl rfl (aU (o':=8) lV rfl rfl rfl (aP isAgg59 rfl (aD (hS.at_ 1 rfl) rfl) rfl (aA rfl rfl (aX (j:=i) (b:=fb) (o:=0) (m:=ll) (c:=fc) underlying59 sizeOf21 rfl rfl rfl (by omega) rfl rfl ?_))))))))
  refine aP isAgg21 rfl (by rw [Nat.zero_add,Nat.mul_one];exact cX (hS.row 1 rfl) (k:=i) (lH (by omega))) rfl ?_
  refine sD rfl rfl rfl (aK (XF.thenN (bS rfl (fun hc=>?_) (fun hc=>?_))))
  ·have hc37:=of_decide_eq_true hc;clear hc
   have hi0:0 < i:=by
    rcases Nat.eq_zero_or_pos i with h0 | h0
    ·rw [h0,hFB.f0] at hc37;omega
    ·exact h0
   obtain ⟨q,hq1,hq2,hq3,hq4⟩:=hBI.par i hi0 (by omega)
   obtain ⟨hf9,hy9⟩:=hFB.at_ i hi0 (by rw [hBI.lf];omega)
   rw [hq2] at hf9 hy9
   dsimp only at hf9 hy9
   obtain ⟨c9,rfl⟩:∃ c9,c=c9+1:=⟨c - 1,by rw [← hlen,hq4,List.length_append,List.length_singleton];omega⟩
   have hqk:q % A.k < A.k:=by
    have h1:=(hBI.run i (by omega)).2
    rw [hq4] at h1
    exact h1.snoc.2
   refine bV (XF.thenN (aH (bH (aH (aN (aA rfl rfl (mI rfl rfl (IntWalk.i64_in _ (by omega)) rfl (aB rfl rfl (aK (XF.thenN (aN (aA rfl rfl (aA rfl rfl (aA rfl rfl (bM rfl rfl (aU (o':=9) tI rfl rfl rfl (aP isAgg59 rfl (aD (hS.at_ 1 rfl) rfl) rfl (aA rfl rfl (aX (j:=i) (b:=yb) (o:=0) (m:=ll) (c:=bc) underlying59 sizeOf21 rfl rfl rfl (by omega) rfl rfl ?_)))))))))))))))))))
   refine aP isAgg21 rfl (by rw [Nat.zero_add,Nat.mul_one];exact cX (hS.row 2 rfl) (k:=i) (lH (by omega))) rfl ?_
   refine oE underlying21 underlying3 rfl (by omega) rfl (aX (j:=c9) underlying36 sizeOf3 rfl rfl (by omega) (by omega) rfl rfl ?_)
   refine bL (i:=0) (cs':=i64n ((List.replicate (c9+1) 0++suf).set c9 (q % A.k))) (O':=(_::_::Ot)) hS sizeOf3 rfl rfl rfl rfl (Nat.ble_eq_true_of_le (by rw [eT,List.length_append,List.length_replicate];omega)) (fK hy9) rfl fun W95 hS=>?_
   refine aK (XF.blkN (XF.thenN (aN (aA rfl rfl (bM rfl rfl (aU (o':=8) lV rfl rfl rfl (aP isAgg59 rfl (aD (hS.at_ 1 rfl) rfl) rfl (aA rfl rfl (aX (j:=i) (b:=fb) (o:=0) (m:=ll) (c:=fc) underlying59 sizeOf21 rfl rfl rfl (by omega) rfl rfl ?_)))))))))
   refine aP isAgg21 rfl (by rw [Nat.zero_add,Nat.mul_one];exact cX (hS.row 1 rfl) (k:=i) (lH (by omega))) rfl ?_
   refine aB rfl rfl (aK ?_)
   rw [rep_set] at hS
   exact XF.round (q / A.k) [(0,.pointer (some ⟨PB,0,none⟩)),(5,.int .i64 ((c9:Nat):Int)),(7,.slice (some ⟨B1,0,none⟩) lw lw),(8,.int .i32 ((q / A.k:Nat):Int))] hq3 ⟨rfl,by show _=some (Value.int .i64 ((c9:Nat):Int));exact congrArg some (congrArg (Value.int .i64) (by omega)),rfl,by show _=some (Value.int .i32 ((q / A.k:Nat):Int));rw [← hf9];rfl,trivial⟩ ⟨q / A.k,c9,q % A.k::suf,by omega,rfl,rfl,by rw [hwd,hq4,List.append_assoc];rfl,by rw [hq4,List.length_append,List.length_singleton] at hlen;omega,by omega,by rw [List.length_cons];omega,hS.keep K (fun q hq=>by simp [hq])⟩
  ·have hc37:=of_decide_eq_false hc;clear hc
   have hi0:i=0:=by
    rcases Nat.eq_zero_or_pos i with h0 | h0
    ·exact h0
    ·have:=(hFB.at_ i h0 (by rw [hBI.lf];omega)).1;omega
   subst hi0
   rw [hBI.w0] at hwd hlen
   obtain rfl:c=0:=hlen.symm
   obtain rfl:suf=(qw A p).getD (n) []:=hwd.symm
   refine cV (XF.thenX (XF.thenX (XF.blkX (XF.thenN (aH (aN (aA rfl rfl (aB rfl rfl (aK (XF.thenN (cK (XF.res (cZ results58 rfl) ?_))))))))))))
   obtain ⟨K2,k2,g2,hS2⟩:=(hS.keep K (fun q hq=>by simp [hq])).ownKeep
   rw [hlw] at *
   exact ⟨_,_,_,_,K2,rfl,k2,fun h9 hk9=>gL (by simpa using g2 h9 hk9),hS2⟩
theorem tJ (v00:Value) (v01:Value) (v02:Value) (v10:Value) (v11:Value) (v12:Value) (v2:Option Nat):prog.built 93 [(0,.agg #[v00,v01,v02]),(1,.agg #[v10,v11,v12]),(2,.map v2)]=some #[v00,v01,v02,v10,v11,v12,.map v2,.slice none 0 0,.slice none 0 0,.slice none 0 0]:=by kernel_rfl
theorem tK:cC prog 57=true:=by kernel_rfl
structure LeT (d:DV) (q:TB):Prop where
 ok:TOk q
 k:(q.k:Int)=d.sy
 n:q.n≤d.nl
 n4:q.n≤1024
 ord:q.fa.Ord
 red:q.fa.Red
 eqv:Eqv q.fa 0 (dFA d) 0
 dok:(dFA d).Ok
theorem St.drop2 {w0 W:World} {O:Own} {G:bN} {K:List (Nat×World)} {a b:Nat×List Value×TypeId} (h:St w0 (a::b::O) G K W):St w0 (a::O) G K W:=(h.perm (List.Perm.swap _ _ _)).tail
theorem tL {d:DV} {k:Nat} (hk:d.sy=(k:Int)) {va:Option Addr} {vc:Nat}:dFA d=(TB.mk k d.nl va vc (xsT d.ns d.nl) d.aa d.ac d.bs).fa:=by unfold dFA TB.fa;rw [hk];rfl
theorem lI (da db:DV) (k:Nat) (Kt:List (Nat×World)) (Ot:Own) (G:bN) (K:List (Nat×World)) (w0 w:World) (hS0:St w0 Ot G K w) (hKt:∀ q∈Kt,q∈K) (hDa:cL w0 Kt (fun W=>DIn W da)) (hDb:cL w0 Kt (fun W=>DIn W db)) (hdak:da.sy=(k:Int)) (hdbk:db.sy=(k:Int)) (hea:cU da=0) (heb:cU db=0) :
  Calls prog 39 #[da.val,db.val] w (fun e w'=>∃ (qda qdb:TB) (PB MB ll:Nat) (la fa ba:Option Addr) (lc fc bc:Nat) (Kn:List (Nat×World)),ll=1∧e = .returned (.pointer (some ⟨PB,0,none⟩))∧LeT da qda∧LeT db qdb∧(∀ q∈K,q∈Kn)∧cL w0 Kn (fun W=>TAt qda W∧TAt qdb W)∧MkP qdb.n [0] MB w'∧w0.heap.size≤MB∧(∀ q∈Kn,MB < q.1∨q.2.heap.size≤MB)∧St w0 ((PB,prC qda qdb MB (.slice la (ll) lc) (.slice fa (ll) fc) (.slice ba (ll) bc),93)::Ot) (⟨.slice la (ll) lc,ll,prs qdb.n ([0]),95,2⟩::⟨.slice fa (ll) fc,ll,dA ([-1]),21,1⟩::⟨.slice ba (ll) bc,ll,dA ([-1]),21,1⟩::G) Kn w'):=by
 refine cP (args:=[da.val,db.val]) func39 rfl ntmps39 rfl ?_
 have hS:=hS0
 obtain ⟨k9,hk9,a1,a2,a3,a4,a5,a6⟩:=dD hea
 obtain rfl:k=k9:=by omega
 obtain ⟨k8,hk8,b1,b2,b3,b4,b5,b6⟩:=dD heb
 obtain rfl:k=k8:=by omega
 refine aH (aN (cI (cs:=[_,_,_]) hS rfl rfl rfl fun B1 W1 hS=>cI (cs:=[_,_,_]) hS rfl rfl rfl fun B2 W2 hS=>aB rfl rfl (aK (XF.thenN (aH (aN (bC (vs:=[_,_,_]) isAgg25 sizeOf25 rfl (aT.own (j:=0) (m:=3) (hS.at_ 1 rfl) rfl) rfl ?_)))))))
 have hDIda:=hDa (hS.keep K (fun q hq=>by simp [hq])) hKt
 refine bW (vs:=[_]) tF rfl (lF da k Kt _ _ K w0 _ (hS.keep K (fun q hq=>by simp [hq])) hKt (fun h9 hk8=>⟨(hDa h9 hk8).nrow,fun r hr=>((hDa h9 hk8).rin r hr).1,(hDa h9 hk8).arow⟩) hdak a4 hDIda.nlen (fun r hr=>⟨(a6 r hr).1,by have:=(hDIda.rin r hr).2.1;have:=(a6 r hr).1;omega⟩) (fun r hr=>(a6 r hr).2) (by have:=hDIda.alen;omega) a2 a3 a1) rfl ?_
 rintro e W9 ⟨vada,vcda,K1,rfl,hTOda,kda,hTAda,hS9⟩
 refine ⟨_,rfl,?_⟩
 clear hS;have hS:=hS9;clear hS9
 refine bW (vs:=[_,_]) pH rfl (lT _ 1024 K1 _ _ K1 w0 _ hS hTOda (fun q hq=>hq) hTAda a3) rfl ?_
 rintro e W9 ⟨qda,K2,rfl,hqdak,hqdan,hqdaT,hqdao,hqdar,hqdae,lda,hqdaB,hS9⟩
 refine ⟨_,rfl,?_⟩
 clear hS;have hS:=hS9;clear hS9
 refine aA rfl rfl (bO rfl rfl rfl (bO rfl rfl rfl (cE (cs:=[_,_,_]) hS zeroValue61 rfl rfl fun B3 W3 hS=>bU (i:=0) (vs:=[_,_,_]) (cs':=[_,_,_]) (O':=(_::_::_::Ot)) hS sizeOf61 rfl rfl rfl rfl rfl rfl rfl fun W4 hS=>aB rfl rfl (aK (XF.thenN (aH (aN (bC (vs:=[_,_,_]) isAgg25 sizeOf25 rfl (aT.own (j:=0) (m:=3) (hS.at_ 1 rfl) rfl) rfl ?_))))))))
 have hDIdb:=hDb (hS.keep K2 (fun q hq=>by simp [hq])) (fun q hq=>lda q (kda q (hKt q hq)))
 refine bW (vs:=[_]) tF rfl (lF db k Kt _ _ K2 w0 _ (hS.keep K2 (fun q hq=>by simp [hq])) (fun q hq=>lda q (kda q (hKt q hq))) (fun h9 hk8=>⟨(hDb h9 hk8).nrow,fun r hr=>((hDb h9 hk8).rin r hr).1,(hDb h9 hk8).arow⟩) hdbk b4 hDIdb.nlen (fun r hr=>⟨(b6 r hr).1,by have:=(hDIdb.rin r hr).2.1;have:=(b6 r hr).1;omega⟩) (fun r hr=>(b6 r hr).2) (by have:=hDIdb.alen;omega) b2 b3 b1) rfl ?_
 rintro e W9 ⟨vadb,vcdb,K3,rfl,hTOdb,kdb,hTAdb,hS9⟩
 refine ⟨_,rfl,?_⟩
 clear hS;have hS:=hS9;clear hS9
 refine bW (vs:=[_,_]) pH rfl (lT _ 1024 K3 _ _ K3 w0 _ hS hTOdb (fun q hq=>hq) hTAdb b3) rfl ?_
 rintro e W9 ⟨qdb,K4,rfl,hqdbk,hqdbn,hqdbT,hqdbo,hqdbr,hqdbe,ldb,hqdbB,hS9⟩
 refine ⟨_,rfl,?_⟩
 clear hS;have hS:=hS9;clear hS9
 refine aA rfl rfl (bO rfl rfl rfl (bO rfl rfl rfl (cE (cs:=[_,_,_]) hS zeroValue61 rfl rfl fun B5 W5 hS=>bU (i:=0) (vs:=[_,_,_]) (cs':=[_,_,_]) (O':=(_::_::_::_::Ot)) hS sizeOf61 rfl rfl rfl rfl rfl rfl rfl fun W6 hS=>aB rfl rfl (aK (XF.thenN (aH (aN (bC (vs:=[_,_,_]) isAgg61 sizeOf61 rfl (aT.own (j:=0) (m:=3) (hS.at_ 1 rfl) rfl) rfl (bC (vs:=[_,_,_]) isAgg61 sizeOf61 rfl (aT.own (j:=0) (m:=3) (hS.at_ 0 rfl) rfl) rfl ?_)))))))))
 have hSb:=hS.keep K4 (fun q hq=>by simp [hq])
 refine wP hS rfl ?_
 intro MB W31 hMB hlo hS1
 have hMK:∀ q∈K4,MB < q.1∨q.2.heap.size≤MB:=fun q hq=>.inr (Nat.le_trans (hSb.kept q hq).1.1 hlo)
 have hMb:w0.heap.size≤MB:=Nat.le_trans hSb.below.size hlo
 have hM0:MkP qdb.n [] MB _:=Mk.made hMB
 clear hS;have hS:=(hS1.keep K4 (fun q hq=>by simp [hq])).markK hM0
 refine dP (us:=[(0,.agg (List.toArray [_,_,_])),(1,.agg (List.toArray [_,_,_])),(2,.map _)]) rfl (tJ _ _ _ _ _ _ _) rfl (cI (cs:=[_,_,_,_,_,_,_,_,_,_]) hS rfl rfl rfl fun B7 W7 hS=>aB rfl rfl (aK (XF.thenN (aH ?_))))
 have hM1:=hM0.at_ hS (by simp)
 have hS':=((hS.newG 21 1).newG 21 1).newG 95 2;clear hS;have hS:=hS';clear hS'
 have hz1:(0:Nat) / qdb.n=0:=Nat.zero_div _
 have hz2:(0:Nat) % qdb.n=0:=Nat.zero_mod _
 refine aN (aA rfl rfl (dP (us:=[(0,.int .i32 0),(1,.int .i32 0)]) rfl (Cq 0 0) rfl ?_))
 refine bW (vs:=[_,_,_,_]) tK rfl (oI qda qdb B7 MB none none none 0 0 0 0 [] [] [] _ _ K4 w0 _ 0 (-1) (-1) (hS.keep K4 (fun q hq=>by simp [hq])) hM1 hMb hMK rfl (by decide) (by omega) (by omega) 0 0 (by rw [hz1];rfl) (by rw [hz2];rfl)) rfl ?_
 rintro e W9 ⟨la,fa,ba,lc,fc,bc,ll,hll,rfl,hM9,hS9⟩
 refine ⟨_,rfl,?_⟩
 clear hS;have hS:=hS9;clear hS9
 refine aK (XF.thenN (aH (aN (aA rfl rfl (aB rfl rfl (aK (XF.thenN (cK (XF.res (cZ results39 rfl) ?_)))))))))
 have e0:mtS id [] 0=[0]:=rfl
 have e1:mtF [] 0 [] (-1)=[-1]:=by simp [mtF]
 rw [e0] at hll hM9
 rw [e0,e1] at hS
 simp only [List.length_singleton] at hll
 exact ⟨qda,qdb,_,MB,ll,la,fa,ba,lc,fc,bc,K4,hll.symm,rfl,⟨hqdaT,by rw [hqdak];exact hdak.symm,hqdan,Nat.le_trans hqdan a3,hqdao,hqdar,by rw [tL hdak];exact hqdae,by rw [tL hdak];exact hTOda.fa⟩,⟨hqdbT,by rw [hqdbk];exact hdbk.symm,hqdbn,Nat.le_trans hqdbn b3,hqdbo,hqdbr,by rw [tL hdbk];exact hqdbe,by rw [tL hdbk];exact hTOdb.fa⟩,fun z hz=>ldb z (kdb z (lda z (kda z hz))),fun h9 hk9=>⟨hqdaB h9 (fun z hz=>hk9 z (ldb z (kdb z hz))),hqdbB h9 hk9⟩,hM9,hMb,hMK,hS.drop2.drop2.drop2.drop2⟩
theorem nO (w:World) (b o:Nat):(Instr.fieldAt 93 (.pointer (some ⟨b,o,none⟩)) 0).run prog w = .ok (.pointer (some ⟨b,o+0,none⟩)) w:=by
 simp [Instr.fieldAt,run_underlying underlying93,Instr.sureAddr,go_sem,Addr.add_lit]
theorem pJ (w:World) (b o:Nat):(Instr.fieldAt 93 (.pointer (some ⟨b,o,none⟩)) 1).run prog w = .ok (.pointer (some ⟨b,o+3,none⟩)) w:=by
 simp [Instr.fieldAt,run_underlying underlying93,Instr.sureAddr,go_sem,Addr.add_lit]
theorem goes_58:cC prog 58=true:=by kernel_rfl
theorem tM {x n:Nat} (h:x < n) (hn:n≤1024) : -9223372036854775808≤((x:Nat):Int)∧((x:Nat):Int)≤9223372036854775807:=by omega
abbrev tb1 (t:TB) (s:Nat):Bool:=t.bs.getD s false
theorem rT (ta tb:TB) (g:Bool→Bool→Bool) (f:FuncId) (PB MB ll0:Nat) (la fa ba:Option Addr) (lc fc bc:Nat) (Kt:List (Nat×World)) (Ot:Own) (G:bN) (K:List (Nat×World)) (w0 w:World) (hgo:cC prog f=true) (hf:∀ x y w,Calls prog f #[.bool x,.bool y] w (fun e w'=>e = .returned (.bool (g x y))∧Below w.heap.size w w')) (h1:ll0=1) (hS0:St w0 ((PB,prC ta tb MB (.slice la (ll0) lc) (.slice fa (ll0) fc) (.slice ba (ll0) bc),93)::Ot) (⟨.slice la (ll0) lc,ll0,prs tb.n ([0]),95,2⟩::⟨.slice fa (ll0) fc,ll0,dA ([-1]),21,1⟩::⟨.slice ba (ll0) bc,ll0,dA ([-1]),21,1⟩::G) K w) (hTta:TOk ta) (hTtb:TOk tb) (hna:ta.n≤1024) (hnb:tb.n≤1024) (hk:ta.k=tb.k) (hKt:∀ q∈Kt,q∈K) (hB:cL w0 Kt (fun W=>TAt ta W∧TAt tb W)) (hM:MkP tb.n [0] MB w) (hMb:w0.heap.size≤MB) (hMK:∀ q∈K,MB < q.1∨q.2.heap.size≤MB) :
  Calls prog 40 #[.pointer (some ⟨PB,0,none⟩),.func (.func f) #[] #[]] w (fun e w'=>∃ (r:Option (List Nat)) (wa:Option Addr) (wc:Nat) (Kn:List (Nat×World)),FW (aR ta.fa tb.fa g) r∧e = .returned (.tuple #[.slice wa (r.getD []).length wc,.bool r.isSome])∧(∀ q∈K,q∈Kn)∧cL w0 Kn (fun W=>Row W wa (wI (r.getD [])))∧St w0 Ot G Kn w'):=by
 refine cP (args:=[.pointer (some ⟨PB,0,none⟩),.func (.func f) #[] #[]]) func40 rfl ntmps40 rfl ?_
 have hS:=hS0
 have hA:(aR ta.fa tb.fa g).Ok:=sZ hTta.fa hTtb.fa hk
 have hnn:ta.n * tb.n≤1024 * 1024:=Nat.mul_le_mul hna hnb
 have hka:=hTta.k1
 have hS:=hS.markK hM
 have ez:0 * ta.k=0:=Nat.zero_mul _
 refine aH (aN (aB rfl rfl (aB rfl rfl (aK (XF.thenN (aH (aH (aN (aB rfl rfl (aK (XF.thenN (bH ?_))))))))))))
 refine cW (fun m l W=>∃ (i:Nat) (la fa ba:Option Addr) (lc fc bc ll:Nat) (F Y:List Int),i≤ll∧m=1048576 - i∧l=[(0,.pointer (some ⟨PB,0,none⟩)),(1,.func (.func f) #[] #[]),(6,.int .i64 (i:Int))]∧(qm (aR ta.fa tb.fa g) id (i * ta.k)).length=ll∧(∀ j,j < i→j < (qm (aR ta.fa tb.fa g) id (j * ta.k)).length)∧(∀ j,j < i→(aR ta.fa tb.fa g).ac ((qm (aR ta.fa tb.fa g) id (i * ta.k)).getD j 0)=false)∧FBOk (qfb (aR ta.fa tb.fa g) (i * ta.k)) F Y∧MkP tb.n (qm (aR ta.fa tb.fa g) id (i * ta.k)) MB W∧St w0 ((PB,prC ta tb MB (.slice la (ll) lc) (.slice fa (ll) fc) (.slice ba (ll) bc),93)::Ot) (⟨.slice la (ll) lc,ll,prs tb.n (qm (aR ta.fa tb.fa g) id (i * ta.k)),95,2⟩::⟨.slice fa (ll) fc,ll,dA (F),21,1⟩::⟨.slice ba (ll) bc,ll,dA (Y),21,1⟩::G) K W) (1048576 - 0) ([(0,_),(1,_),(6,_)]) ⟨rfl,rfl,rfl,trivial⟩ (⟨0,la,fa,ba,lc,fc,bc,ll0,[-1],[-1],Nat.zero_le _,rfl,rfl,by rw [ez];exact h1.symm,fun j hj=>absurd hj (Nat.not_lt_zero _),fun j hj=>absurd hj (Nat.not_lt_zero _),by rw [ez];exact FBOk.start,by rw [ez];exact hM.at_ hS (by simp),by rw [ez];exact hS.keep K (fun q hq=>by simp [hq])⟩) ?_
 clear hS
 rintro m l W ⟨i,la,fa,ba,lc,fc,bc,ll,F,Y,hi,rfl,rfl,hll,hrows,hno,hFB,hM2,hS⟩
 have hS:=hS.markK hM2
 have hqr:eR (aR ta.fa tb.fa g) id (i * ta.k):=fun q hq=>by
  obtain ⟨d1,_,d3⟩:=dM hq
  exact Nat.lt_of_lt_of_le (hrows _ d1) (dQ d3)
 obtain ⟨hq1,hq2⟩:=jI (cm:=ta.n * tb.n) hA (fun _=>hqr) (fun h0=>by have h9:ta.k=0:=h0;rw [h9,Nat.mul_zero]) (fun x hx=>hx)
 refine aH (aH (aN (aA rfl rfl (aA rfl rfl (bM rfl rfl (aU (o':=7) iL rfl rfl rfl (aP isAgg91 rfl (aD (hS.at_ 0 rfl) rfl) rfl (bX underlying91 rfl rfl (cH rfl rfl rfl (aK (XF.thenN (bS rfl (fun hc=>?_) (fun hc=>?_)))))))))))))
 ·have hc17:=of_decide_eq_true hc;clear hc
  obtain ⟨c,hcE⟩:∃ c,(qm (aR ta.fa tb.fa g) id (i * ta.k)).getD i 0=c:=⟨_,rfl⟩
  have hcx:(qm (aR ta.fa tb.fa g) id (i * ta.k))[i]?=some c:=by rw [← hcE,List.getD_eq_getElem?_getD,List.getElem?_eq_getElem (by omega)];rfl
  have hc9:c < ta.n * tb.n:=hq2 _ (List.mem_of_getElem? hcx)
  obtain ⟨hsta,hstb,_⟩:=dM hc9
  obtain ⟨lb,rfl⟩:=eG (hS.row 0 rfl) (by omega)
  refine bV (XF.thenN (aH (bH (aH (aN (aA rfl rfl (bM rfl rfl (aU (o':=7) iL rfl rfl rfl (aP isAgg91 rfl (aD (hS.at_ 0 rfl) rfl) rfl (aA rfl rfl (aX (j:=i) (b:=lb) (o:=0) (m:=ll) (c:=lc) underlying91 sizeOf95 rfl rfl rfl (by omega) rfl rfl (bC (vs:=[_,_]) isAgg95 sizeOf95 rfl (qI (f:=prc tb.n) (cs:=qm (aR ta.fa tb.fa g) id (i * ta.k)) (hS.row 0 rfl) (fun x=>⟨_,_,rfl⟩) hcx) rfl (cE (cs:=[_,_]) hS zeroValue95 rfl rfl fun B1 W1 hS=>bU (i:=0) (vs:=[_,_]) (cs':=[_,_]) (O':=(_::_::Ot)) hS sizeOf95 rfl rfl rfl rfl rfl rfl rfl fun W2 hS=>aK (XF.thenN (aH (aH ?_))))))))))))))))
  obtain ⟨ab,ao,haa,hac⟩:=fE.get (hB hS (fun q hq=>by simp [hKt q hq])).1.2 (i:=(c / tb.n)) (by rw [hTta.bl];exact hsta)
  obtain ⟨bb,bo,hba,hbc⟩:=fE.get (hB hS (fun q hq=>by simp [hKt q hq])).2.2 (i:=(c % tb.n)) (by rw [hTtb.bl];exact hstb)
  refine iF (m:=20) cA hS (by kernel_rfl) (by kernel_rfl) rfl (bR 1 rfl 1 rfl rfl (fun w hw=>aV rfl) rfl (bR 2 rfl 0 rfl rfl (fun w hw=>aV rfl) rfl (bF 3 rfl 28 1 rfl rfl rfl (fun w hw=>bP rfl) rfl (bF 4 rfl 29 2 rfl rfl rfl (fun w hw=>bA (o':=0) nO rfl rfl) rfl (bF 5 rfl 30 3 rfl rfl rfl (fun w hw=>bA (o':=2) eZ rfl rfl) rfl (bF 6 rfl 31 4 rfl rfl rfl (fun w hw=>aY isAgg23 rfl ((aO hw 0).cell (Nat.zero_le _) (aD (hS.at_ 1 rfl) rfl))) rfl (bR 7 rfl 7 rfl rfl (fun w hw=>eV (j:=0) (o':=0) underlying95 sizeOf21 rfl rfl rfl (by decide) rfl) rfl (bF 8 rfl 33 6 rfl rfl rfl (fun w hw=>aY isAgg21 rfl ((aO hw 0).cell (Nat.zero_le _) (aD (hS.at_ 0 rfl) rfl))) rfl ?_))))))))
  refine aZ 9 rfl (isV _) (aW _) (rgV (li:=[(32,_),(34,_)]) rfl (aL rfl) ⟨aJ 5 (aC rfl rfl rfl),aJ 7 (aC rfl rfl rfl),trivial⟩ (fun w hw=>bE (j:=(c / tb.n)) (b:=ab) (o:=ao) (m:=ta.n) (c:=ta.ac) underlying23 sizeOf4 (by show some (Value.slice ta.aa _ _)=_;rw [haa]) rfl rfl (by omega) rfl) (aG rfl)) ?_
  refine bF 10 rfl 35 8 rfl rfl rfl (fun w hw=>aY isAgg4 rfl ((aO hw 0).cell (Nat.zero_le _) (hac))) rfl (bR 11 rfl 0 rfl rfl (fun w hw=>aV rfl) rfl (bF 12 rfl 37 10 rfl rfl rfl (fun w hw=>bP rfl) rfl (bF 13 rfl 38 11 rfl rfl rfl (fun w hw=>bA (o':=3) pJ rfl rfl) rfl (bF 14 rfl 39 12 rfl rfl rfl (fun w hw=>bA (o':=5) eZ rfl rfl) rfl (bF 15 rfl 40 13 rfl rfl rfl (fun w hw=>aY isAgg23 rfl ((aO hw 0).cell (Nat.zero_le _) (aD (hS.at_ 1 rfl) rfl))) rfl (bR 16 rfl 7 rfl rfl (fun w hw=>eV (j:=1) (o':=1) underlying95 sizeOf21 rfl rfl rfl (by decide) rfl) rfl (bF 17 rfl 42 15 rfl rfl rfl (fun w hw=>aY isAgg21 rfl ((aO hw 0).cell (Nat.zero_le _) (aD (hS.at_ 0 rfl) rfl))) rfl ?_)))))))
  refine aZ 18 rfl (isV _) (aW _) (rgV (li:=[(41,_),(43,_)]) rfl (aL rfl) ⟨aJ 14 (aC rfl rfl rfl),aJ 16 (aC rfl rfl rfl),trivial⟩ (fun w hw=>bE (j:=(c % tb.n)) (b:=bb) (o:=bo) (m:=tb.n) (c:=tb.ac) underlying23 sizeOf4 (by show some (Value.slice tb.aa _ _)=_;rw [hba]) rfl rfl (by omega) rfl) (aG rfl)) ?_
  refine bF 19 rfl 44 17 rfl rfl rfl (fun w hw=>aY isAgg4 rfl ((aO hw 0).cell (Nat.zero_le _) (hbc))) rfl ?_
  refine aZ 20 rfl (isV (.bool (g (tb1 ta ((c / tb.n))) (tb1 tb ((c % tb.n)))))) (aW _) (uT [isV _,isV _] rfl hgo (aL rfl) (aJ 0 (aC rfl rfl rfl)) ⟨eN (aJ 9 (aC rfl rfl rfl)),eN (aJ 18 (aC rfl rfl rfl)),trivial⟩ (fun vs w' hb hh=>by have e:=eP (us:=[_,_]) hh;subst e;exact (hf _ _ w').mono fun e w2 ⟨h1,h2⟩=>⟨_,h1,rfl,h2⟩) (aG rfl)) ?_
  refine dJ ?_
  intro W3 hbR hS'
  clear hS;have hS:=hS';clear hS'
  refine aI (aI (aI (aI (aI (aI (aI (aI (aI (aI (aI (aI (aI (aI (aI (aI (aI (aI (aI (aI (cN (XF.thenN (bS rfl (fun hc=>?_) (fun hc=>?_)))))))))))))))))))))))
  ·have hc46:=hc;clear hc
   refine aH (aN (aA rfl rfl (aA rfl rfl (eE underlying3 underlying21 rfl (by omega) rfl (bW (vs:=[_,_]) goes_58 rfl (Cr (aR ta.fa tb.fa g) (i * ta.k) ta tb PB MB _ _ _ _ _ _ _ _ _ _ _ _ K w0 _ i ((hS.keep K (fun q hq=>by simp [hq])).perm (List.Perm.swap _ _ _)) (pF hqr) hFB hll (by omega) (by omega) hka) rfl ?_)))))
   rintro e W9 ⟨fa9,ba9,wa,wc,Kn,rfl,hkn,hR9,hS9⟩
   refine ⟨_,rfl,?_⟩
   clear hS;have hS:=hS9;clear hS9
   refine aB rfl rfl (aB rfl rfl (aK (XF.thenN (cK (XF.thenR (XF.blkR (XF.thenR (XF.thenR (XF.blkR (XF.thenR (XF.res (uC results40 rfl rfl) ?_)))))))))))
   exact ⟨some _,wa,wc,Kn,rP hqr (show i < (qm (aR ta.fa tb.fa g) id (i * ta.k)).length by omega) hno (show (aR ta.fa tb.fa g).ac ((qm (aR ta.fa tb.fa g) id (i * ta.k)).getD i 0)=true by rw [hcE];exact hc46),rfl,hkn,hR9,hS.tail.tail.tailG.tailG.tailG⟩
  ·have hc46:=hc;clear hc
   refine bV (XF.thenN (aH (iF (m:=9) cA hS (by kernel_rfl) (by kernel_rfl) rfl (bR 1 rfl 0 rfl rfl (fun w hw=>aV rfl) rfl (bF 2 rfl 51 0 rfl rfl rfl (fun w hw=>bP rfl) rfl (bF 3 rfl 52 1 rfl rfl rfl (fun w hw=>bA (o':=3) pJ rfl rfl) rfl (bF 4 rfl 53 2 rfl rfl rfl (fun w hw=>dL (vs:=[_,_,_]) isAgg61 sizeOf61 rfl (aT.agree (aO hw 0) (Nat.zero_le _) (aT.own (j:=3) (m:=3) (hS.at_ 1 rfl) rfl))) rfl (bR 5 rfl 7 rfl rfl (fun w hw=>eV (j:=1) (o':=1) underlying95 sizeOf21 rfl rfl rfl (by decide) rfl) rfl (bF 6 rfl 55 4 rfl rfl rfl (fun w hw=>aY isAgg21 rfl ((aO hw 0).cell (Nat.zero_le _) (aD (hS.at_ 0 rfl) rfl))) rfl (bF 7 rfl 56 5 rfl rfl rfl (fun w hw=>jU underlying21 underlying3 rfl (tM hstb hnb)) rfl ?_))))))))))
   refine aZ 8 rfl (isV (.slice (fV tb.na tb.nc ((c % tb.n) * tb.k) 1) tb.k (tb.nc - (c % tb.n) * tb.k))) (aW _) (lK [isV _,isV _] rfl lS (aL rfl) ⟨eN (aJ 3 (aC rfl rfl rfl)),eN (aJ 6 (aC rfl rfl rfl)),trivial⟩ (fun vs w' hb hh=>by have e:=eP (us:=[_,_]) hh;subst e;exact (oH tb (c % tb.n) w' hTtb hstb).mono fun e w2 ⟨h1,h2⟩=>⟨_,h1,rfl,h2⟩) (aG rfl)) ?_
   refine bF 9 rfl 58 7 rfl rfl rfl (fun w hw=>dI rfl) rfl (dJ ?_)
   intro W4 hbR hS'
   clear hS;have hS:=hS';clear hS'
   refine aI (aI (aI (aI (aI (aI (aI (aI (aI (cN (XF.thenN (aH (iF (m:=10) cA hS (by kernel_rfl) (by kernel_rfl) rfl (bR 1 rfl 0 rfl rfl (fun w hw=>aV rfl) rfl (bF 2 rfl 59 0 rfl rfl rfl (fun w hw=>bP rfl) rfl (bF 3 rfl 60 1 rfl rfl rfl (fun w hw=>bA (o':=0) nO rfl rfl) rfl (bF 4 rfl 61 2 rfl rfl rfl (fun w hw=>dL (vs:=[_,_,_]) isAgg61 sizeOf61 rfl (aT.agree (aO hw 0) (Nat.zero_le _) (aT.own (j:=0) (m:=3) (hS.at_ 1 rfl) rfl))) rfl (bR 5 rfl 7 rfl rfl (fun w hw=>eV (j:=0) (o':=0) underlying95 sizeOf21 rfl rfl rfl (by decide) rfl) rfl (bF 6 rfl 63 4 rfl rfl rfl (fun w hw=>aY isAgg21 rfl ((aO hw 0).cell (Nat.zero_le _) (aD (hS.at_ 0 rfl) rfl))) rfl (bF 7 rfl 64 5 rfl rfl rfl (fun w hw=>jU underlying21 underlying3 rfl (tM hsta hna)) rfl ?_)))))))))))))))))))
   refine aZ 8 rfl (isV (.slice (fV ta.na ta.nc ((c / tb.n) * ta.k) 1) ta.k (ta.nc - (c / tb.n) * ta.k))) (aW _) (lK [isV _,isV _] rfl lS (aL rfl) ⟨eN (aJ 3 (aC rfl rfl rfl)),eN (aJ 6 (aC rfl rfl rfl)),trivial⟩ (fun vs w' hb hh=>by have e:=eP (us:=[_,_]) hh;subst e;exact (oH ta (c / tb.n) w' hTta hsta).mono fun e w2 ⟨h1,h2⟩=>⟨_,h1,rfl,h2⟩) (aG rfl)) ?_
   refine bF 9 rfl 66 7 rfl rfl rfl (fun w hw=>iS underlying59 rfl) rfl (aZ 10 rfl (isV _) (aW _) (rgV (li:=[]) rfl (aL rfl) trivial (fun w hw=>aV rfl) (aG rfl)) (dJ ?_))
   intro W5 hbR hS'
   clear hS;have hS:=hS';clear hS'
   refine aI (aI (aI (aI (aI (aI (aI (aI (aI (aI (cN (XF.thenN (bH (cW (fun m l W=>∃ (x:Nat) (la fa ba:Option Addr) (lc fc bc ll:Nat) (F Y:List Int),x≤ta.k∧m=ta.k - x∧l=[(0,.pointer (some ⟨PB,0,none⟩)),(1,.func (.func f) #[] #[]),(6,.int .i64 (i:Int)),(8,.slice (fV tb.na tb.nc ((c % tb.n) * tb.k) 1) tb.k (tb.nc - (c % tb.n) * tb.k)),(66,.slice (fV ta.na ta.nc ((c / tb.n) * ta.k) 1) ta.k (ta.nc - (c / tb.n) * ta.k)),(67,.int .i64 (ta.k:Int)),(68,.int .i64 (x:Int))]∧(qm (aR ta.fa tb.fa g) id (i * ta.k+x)).length=ll∧FBOk (qfb (aR ta.fa tb.fa g) (i * ta.k+x)) F Y∧MkP tb.n (qm (aR ta.fa tb.fa g) id (i * ta.k+x)) MB W∧St w0 ((B1,prc tb.n c,95)::(PB,prC ta tb MB (.slice la (ll) lc) (.slice fa (ll) fc) (.slice ba (ll) bc),93)::Ot) (⟨.slice la (ll) lc,ll,prs tb.n (qm (aR ta.fa tb.fa g) id (i * ta.k+x)),95,2⟩::⟨.slice fa (ll) fc,ll,dA (F),21,1⟩::⟨.slice ba (ll) bc,ll,dA (Y),21,1⟩::G) K W) (ta.k - 0) ([(0,_),(1,_),(6,_),(8,_),(66,_),(67,_),(68,_)]) ⟨rfl,rfl,rfl,rfl,rfl,rfl,rfl,trivial⟩ (⟨0,some ⟨lb,0,none⟩,fa,ba,lc,fc,bc,ll,F,Y,Nat.zero_le _,rfl,rfl,hll,hFB,hM2.at_ hS (by simp),hS.keep K (fun q hq=>by simp [hq])⟩) ?_)))))))))))))
   clear hS
   have hil:i < ll:=by omega
   clear hi
   rintro m l W ⟨x,la,fa,ba,lc,fc,bc,ll2,F,Y,hx,rfl,rfl,hll2,hFB,hM2,hS⟩
   have hS:=hS.markK hM2
   refine aH (aN (cH rfl rfl rfl (aK (XF.thenN (aH (bS rfl (fun hc=>?_) (fun hc=>?_)))))))
   ·have hc69:=of_decide_eq_true hc;clear hc
    have hx9:x < ta.k:=by omega
    have hixta:=hTta.ix hsta hx9
    have hixtb:=hTtb.ix hstb (show x < tb.k by omega)
    have hcta:=hTta.cap
    have hctb:=hTtb.cap
    obtain ⟨cb,co,hcu,hc5⟩:=((hB hS (fun q hq=>by simp [hKt q hq])).1.1.cut (i:=(c / tb.n) * ta.k) (L:=ta.k) (c:=ta.nc) (by rw [hTta.len];exact hixta.2) (by omega)).get (i:=x) (by rw [List.length_take,List.length_drop,hTta.len];omega)
    rw [dU (by omega)] at hc5
    have hc5:W.cell? ⟨cb,co+x * 1,none⟩=some (.int .i32 ((ta.fa.nx (c / tb.n) x:Nat):Int)):=hc5
    obtain ⟨cb2,co2,hcu2,hc6⟩:=((hB hS (fun q hq=>by simp [hKt q hq])).2.1.cut (i:=(c % tb.n) * tb.k) (L:=tb.k) (c:=tb.nc) (by rw [hTtb.len];exact hixtb.2) (by omega)).get (i:=x) (by rw [List.length_take,List.length_drop,hTtb.len];omega)
    rw [dU (by omega)] at hc6
    have hc6:W.cell? ⟨cb2,co2+x * 1,none⟩=some (.int .i32 ((tb.fa.nx (c % tb.n) x:Nat):Int)):=hc6
    have hna9:ta.fa.nx (c / tb.n) x < ta.n:=hTta.fa.t0_ _ _ hsta hx9
    have hnb9:tb.fa.nx (c % tb.n) x < tb.n:=hTtb.fa.t0_ _ _ hstb (show x < tb.k by omega)
    refine bV (XF.thenN (aH (bH (aH (aN (aA rfl rfl ?_))))))
    refine aX (j:=x) (b:=cb) (o:=co) (m:=ta.k) (c:=ta.nc - (c / tb.n) * ta.k) underlying59 sizeOf21 (by show some (Value.slice (fV _ _ _ _) _ _)=_;rw [hcu]) rfl rfl (by omega) rfl rfl ?_
    refine aP isAgg21 rfl (hc5) rfl (aB rfl rfl (aB rfl rfl (aK (XF.thenN (aN (aA rfl rfl (aA rfl rfl (aA rfl rfl (aA rfl rfl ?_)))))))))
    refine aX (j:=x) (b:=cb2) (o:=co2) (m:=tb.k) (c:=tb.nc - (c % tb.n) * tb.k) underlying59 sizeOf21 (by show some (Value.slice (fV _ _ _ _) _ _)=_;rw [hcu2]) rfl rfl (by omega) rfl rfl ?_
    refine aP isAgg21 rfl (hc6) rfl (dP (us:=[(0,.int .i32 _),(1,.int .i32 _)]) rfl (Cq _ _) rfl (aA rfl rfl (eE underlying3 underlying21 rfl (by omega) rfl (aA rfl rfl (eE underlying3 underlying21 rfl (by omega) rfl ?_)))))
    obtain ⟨d1,d2⟩:=dY (i:=i) hx9
    obtain ⟨f1,f2⟩:=dY (i:=ta.fa.nx (c / tb.n) x) hnb9
    have hqr2:eR (aR ta.fa tb.fa g) id (i * ta.k+x):=fun q hq=>by
     rcases Nat.lt_or_ge q (i * ta.k) with h9 | h9
     ·exact hqr q h9
     ·have h8:q / ta.k=i:=by
       rw [show q=i * ta.k+(q - i * ta.k) by omega];exact (dY (by omega)).1
      rw [show q / (aR ta.fa tb.fa g).k=i from h8]
      exact Nat.lt_of_lt_of_le (by omega) (dQ h9)
    obtain ⟨hq3,hq4⟩:=jI (cm:=ta.n * tb.n) hA (fun _=>hqr2) (fun h0=>absurd (show ta.k=0 from h0) (by omega)) (fun x hx=>hx)
    have hnc:ncd (aR ta.fa tb.fa g) (i * ta.k+x)=(ta.fa.nx (c / tb.n) x * tb.n+tb.fa.nx (c % tb.n) x):=by
     show (aR ta.fa tb.fa g).nx ((qm (aR ta.fa tb.fa g) id (i * ta.k+x)).getD ((i * ta.k+x) / ta.k) 0) ((i * ta.k+x) % ta.k)=_
     rw [d1,d2,eB (Nat.le_add_right _ _) (show i < (qm (aR ta.fa tb.fa g) id (i * ta.k)).length by omega),hcE];rfl
    refine bW (vs:=[_,_,_,_]) tK rfl (oI ta tb PB MB _ _ _ _ _ _ ll2 _ _ _ _ _ K w0 _ (ta.fa.nx (c / tb.n) x * tb.n+tb.fa.nx (c % tb.n) x) _ _ ((hS.keep K (fun q hq=>by simp [hq])).perm (List.Perm.swap _ _ _)) hM2 hMb hMK hll2 (by omega) (by rw [f1];omega) (by rw [f2];omega) _ _ (by rw [f1]) (by rw [f2])) rfl ?_
    rintro e W9 ⟨la9,fa9,ba9,lc9,fc9,bc9,ll9,hll9,rfl,hM9,hS9⟩
    refine ⟨_,rfl,?_⟩
    clear hS;have hS:=hS9.perm (List.Perm.swap _ _ _);clear hS9
    refine aK (XF.blkN (XF.thenN (aN (bY rfl rfl (IntWalk.i64_in _ (by omega)) rfl (aA rfl rfl (aK ?_))))))
    have hqm:qm (aR ta.fa tb.fa g) id (i * ta.k+x+1)=mtS id (qm (aR ta.fa tb.fa g) id (i * ta.k+x)) (ta.fa.nx (c / tb.n) x * tb.n+tb.fa.nx (c % tb.n) x):=by rw [show i * ta.k+x+1=(i * ta.k+x)+1 from rfl,rO];show mtS id _ (ncd (aR ta.fa tb.fa g) (i * ta.k+x))=_;rw [hnc]
    have hFB9:=hFB.step (by rw [(BI.all (.inl (show 0 < ta.k by omega)) hqr2).lf];exact kC _)
    rw [hnc] at hFB9
    rw [show ((i * ta.k+x) / (aR ta.fa tb.fa g).k)=i from d1,show ((i * ta.k+x) % (aR ta.fa tb.fa g).k)=x from d2] at hFB9
    rw [← hqm] at hll9 hM9 hS
    exact XF.round (ta.k - (x+1)) [(0,_),(1,_),(6,_),(8,_),(66,_),(67,_),(68,_)] (by omega) ⟨rfl,rfl,rfl,rfl,rfl,rfl,rfl,trivial⟩ ⟨x+1,la9,fa9,ba9,lc9,fc9,bc9,ll9,_,_,by omega,rfl,rfl,hll9,hFB9,hM9,hS.keep K (fun q hq=>by simp [hq])⟩
   ·have hc69:=of_decide_eq_false hc;clear hc
    have exk:x=ta.k:=by omega
    have es:(i+1) * ta.k=i * ta.k+x:=by rw [Nat.succ_mul,exk]
    have hle9:i * ta.k≤(i+1) * ta.k:=Nat.mul_le_mul_right _ (Nat.le_succ i)
    have hll3:ll≤ll2:=by rw [← hll,← hll2,← es];exact dQ hle9
    rw [← es] at hll2 hFB hM2 hS
    have hno2:∀ j,j < i+1→(aR ta.fa tb.fa g).ac ((qm (aR ta.fa tb.fa g) id ((i+1) * ta.k)).getD j 0)=false:=fun j hj=>by
     rw [eB hle9 (show j < (qm (aR ta.fa tb.fa g) id (i * ta.k)).length by omega)]
     rcases Nat.lt_or_ge j i with h9 | h9
     ·exact hno j h9
     ·rw [show j=i by omega,hcE];exact hc46
    refine cV (XF.thenX (XF.thenX (XF.blkX (XF.blkN (XF.thenN (aN (aA rfl rfl (bY rfl rfl (IntWalk.i64_in _ (by omega)) rfl (aB rfl rfl (aK ?_))))))))))
    exact XF.round (1048576 - (i+1)) [(0,_),(1,_),(6,_)] (by omega) ⟨rfl,rfl,rfl,trivial⟩ ⟨i+1,la,fa,ba,lc,fc,bc,ll2,F,Y,by omega,rfl,rfl,hll2,fun j hj=>(by
     rcases Nat.lt_or_ge j i with h9 | h9
     ·exact hrows j h9
     ·rw [show j=i by omega,hll];exact hil),hno2,hFB,hM2.at_ hS (by simp),hS.tail.keep K (fun q hq=>by simp [hq])⟩
 ·have hc17:=of_decide_eq_false hc;clear hc
  refine cV (XF.thenX (XF.thenX (XF.blkX (XF.thenN (aH (aN (aB rfl rfl (aB rfl rfl (aK (XF.thenN (cK (XF.res (uC results40 rfl rfl) ?_))))))))))))
  exact ⟨none,none,0,K,vE hqr (show (qm (aR ta.fa tb.fa g) id (i * ta.k)).length≤i by omega) hno,rfl,fun q hq=>hq,fun _ _=>.inl rfl,(hS.keep K (fun q hq=>by simp [hq])).tail.tailG.tailG.tailG⟩
theorem tN:cC prog 39=true:=by kernel_rfl
theorem zF:cC prog 40=true:=by kernel_rfl
theorem goes_41:cC prog 41=true:=by kernel_rfl
theorem tO:cC prog 47=true:=by kernel_rfl
theorem goes_48:cC prog 48=true:=by kernel_rfl
theorem FW.congr {A B:FA}:∀ {r:Option (List Nat)},FW A r→A.k=B.k→Eqv A 0 B 0→FW B r
 | none,h,hk,he=>fun u hu=>by rw [← he u (hk▸hu)];exact h u (hk▸hu)
 | some w,h,hk,he=>⟨hk▸h.1,by rw [← he w h.1];exact h.2.1,fun u hu ha=>by
  have hu2:Wd A.k u:=hk▸hu
  rw [← hk]
  exact h.2.2 u hu2 (by rw [he u hu2];exact ha)⟩
theorem qP {A B A' B':FA} {g:Bool→Bool→Bool} (hA:A.Ok) (hB:B.Ok) (hA':A'.Ok) (hB':B'.Ok) (hk:A.k=B.k) (h1:A.k=A'.k) (h2:B.k=B'.k) (ea:Eqv A 0 A' 0) (eb:Eqv B 0 B' 0):Eqv (aR A B g) 0 (aR A' B' g) 0:=fun u hu=>by
 have hu:Wd A.k u:=hu
 rw [lC hA hB hk hu,lC hA' hB' (by omega) (by rw [← h1];exact hu),ea u hu,eb u (by rw [← hk];exact hu)]
theorem LeT.kk {da db:DV} {qa qb:TB} (ha:LeT da qa) (hb:LeT db qb) (h:da.sy=db.sy):qa.fa.k=qb.fa.k:=by
 have h1:=ha.k
 have h2:=hb.k
 show qa.k=qb.k
 omega
theorem LeT.kd {d:DV} {q:TB} (h:LeT d q):q.fa.k=(dFA d).k:=by
 have h1:=h.k
 show q.k=d.sy.toNat
 omega
theorem LeT.first {da db:DV} {qa qb:TB} {g:Bool→Bool→Bool} (ha:LeT da qa) (hb:LeT db qb) (hs:da.sy=db.sy) {r:Option (List Nat)} (h:FW (aR qa.fa qb.fa g) r):FW (aR (dFA da) (dFA db) g) r :=
 h.congr ha.kd (qP ha.ok.fa hb.ok.fa ha.dok hb.dok (ha.kk hb hs) ha.kd hb.kd ha.eqv hb.eqv)
theorem lJ {a b:DV} (h:cQ a b=0):cU a=0∧cU b=0∧a.sy=b.sy:=by
 unfold cQ at h
 split at h
 ·exact absurd h (by assumption)
 ·split at h
  ·exact absurd h (by assumption)
  ·split at h
   ·omega
   ·rename_i h1 h2 h3
    exact ⟨Decidable.of_not_not h1,Decidable.of_not_not h2,Decidable.of_not_not h3⟩
theorem xE (x y:Bool) (w:World) :
  Calls prog 48 #[.bool x,.bool y] w (fun e w'=>e = .returned (.bool (x && !y))∧Below w.heap.size w w'):=by
 refine cP (args:=[.bool x,.bool y]) func48 rfl ntmps48 rfl ?_
 have hS:=St.start w
 refine aH (aN (aB rfl rfl (aK (XF.thenN (aH (aN (aA rfl rfl (aA rfl rfl (bZ (d:=6) rfl (fun hc=>?_) (fun hc=>?_))))))))))
 ·have hg6:=hc;clear hc
  refine aE (d:=6) rfl rfl (aA rfl rfl (aE (d:=6) rfl rfl (gR rfl rfl (bI rfl rfl rfl (aB rfl rfl (aK (XF.thenN (cK (XF.res (cZ results48 rfl) ?_)))))))))
  exact ⟨by rw [hg6];rfl,hS.below⟩
 ·have hg6:=hc;clear hc
  refine aQ (d:=6) rfl rfl rfl rfl (aQ (d:=6) rfl rfl rfl rfl (cG rfl rfl rfl (aB rfl rfl (aK (XF.thenN (cK (XF.res (cZ results48 rfl) ?_)))))))
  exact ⟨by rw [hg6];rfl,hS.below⟩
theorem Ao (x y:Bool) (w:World) :
  Calls prog 41 #[.bool x,.bool y] w (fun e w'=>e = .returned (.bool x)∧Below w.heap.size w w'):=by
 refine cP (args:=[.bool x,.bool y]) func41 rfl ntmps41 rfl ?_
 have hS:=St.start w
 refine aH (aN (aB rfl rfl (aK (XF.thenN (aH (aN (aA rfl rfl (aB rfl rfl (aK (XF.thenN (cK (XF.res (cZ results41 rfl) ?_))))))))))))
 exact ⟨rfl,hS.below⟩
theorem xF (da db:DV) (Kt:List (Nat×World)) (Ot:Own) (G:bN) (K:List (Nat×World)) (w0 w:World) (hS0:St w0 Ot G K w) (hKt:∀ q∈Kt,q∈K) (hDa:cL w0 Kt (fun W=>DIn W da)) (hDb:cL w0 Kt (fun W=>DIn W db)) :
  Calls prog 30 #[da.val,db.val] w (fun e w'=>∃ (r:Option (List Nat)) (wa:Option Addr) (wc:Nat) (Kn:List (Nat×World)),(cQ da db=0→FW (aR (dFA da) (dFA db) (fun x y=>x && !y)) r)∧(cQ da db≠0→r=some [])∧e = .returned (.tuple #[.bool r.isNone,.slice wa (r.getD []).length wc,.int .i64 (cQ da db)])∧(∀ q∈K,q∈Kn)∧cL w0 Kn (fun W=>Row W wa (wI (r.getD [])))∧St w0 Ot G Kn w'):=by
 refine cP (args:=[da.val,db.val]) func30 rfl ntmps30 rfl ?_
 have hS:=hS0
 refine aH (aN (cI (cs:=[_,_,_]) hS rfl rfl rfl fun B1 W1 hS=>cI (cs:=[_,_,_]) hS rfl rfl rfl fun B2 W2 hS=>aB rfl rfl (aB rfl rfl (aB rfl rfl (aK (XF.thenN (aH (aH (aN (bC (vs:=[_,_,_]) isAgg25 sizeOf25 rfl (aT.own (j:=0) (m:=3) (hS.at_ 1 rfl) rfl) rfl (bC (vs:=[_,_,_]) isAgg25 sizeOf25 rfl (aT.own (j:=0) (m:=3) (hS.at_ 0 rfl) rfl) rfl (bW (vs:=[_,_]) tO rfl (kG da db _ (hDa (hS.keep K (fun q hq=>by simp [hq])) hKt) (hDb (hS.keep K (fun q hq=>by simp [hq])) hKt)) rfl ?_))))))))))))
 rintro e W9 ⟨rfl,hb9⟩
 refine ⟨_,rfl,?_⟩
 have hS':=hS.grow hb9;clear hS;have hS:=hS';clear hS'
 refine aB rfl rfl (aK (XF.thenN (aH (aN (aA rfl rfl (dR rfl rfl rfl (aK (XF.thenN (bS rfl (fun hc=>?_) (fun hc=>?_))))))))))
 ·have hc14:=of_decide_eq_true hc;clear hc
  refine aH (aN (aA rfl rfl (aB rfl rfl (aB rfl rfl (aB rfl rfl (aK (XF.thenN (cK (XF.thenR (XF.res (zY results30 rfl rfl rfl) ?_))))))))))
  exact ⟨some [],none,0,K,fun h=>absurd h hc14,fun _=>rfl,rfl,fun q hq=>hq,fun _ _=>.inl rfl,(hS.keep K (fun q hq=>by simp [hq])).tail.tail⟩
 ·have hc14:=of_decide_eq_false hc;clear hc
  have h0:cQ da db=0:=Decidable.of_not_not hc14
  obtain ⟨hea,heb,hsy⟩:=lJ h0
  obtain ⟨k,hk,_⟩:=dD hea
  refine bV (XF.thenN (aH (aN (bC (vs:=[_,_,_]) isAgg25 sizeOf25 rfl (aT.own (j:=0) (m:=3) (hS.at_ 1 rfl) rfl) rfl (bC (vs:=[_,_,_]) isAgg25 sizeOf25 rfl (aT.own (j:=0) (m:=3) (hS.at_ 0 rfl) rfl) rfl (bW (vs:=[_,_]) tN rfl (lI da db k Kt _ _ K w0 _ (hS.keep K (fun q hq=>by simp [hq])) hKt hDa hDb hk (hsy.symm.trans hk) hea heb) rfl ?_))))))
  rintro e W9 ⟨qda,qdb,PB,MB,ll,la,fa,ba,lc,fc,bc,K1,hll,rfl,hLa,hLb,hk1,hTB,hM9,hMb,hMK,hS9⟩
  refine ⟨_,rfl,?_⟩
  clear hS;have hS:=hS9;clear hS9
  refine bW (vs:=[_,_]) zF rfl (rT qda qdb (fun x y=>x && !y) 48 PB MB ll la fa ba lc fc bc K1 _ _ K1 w0 _ goes_48 xE hll hS hLa.ok hLb.ok hLa.n4 hLb.n4 (hLa.kk hLb hsy) (fun q hq=>hq) hTB hM9 hMb hMK) rfl ?_
  rintro e W9 ⟨r,wa,wc,K2,hFW,rfl,hk2,hR,hS9⟩
  refine ⟨_,rfl,?_⟩
  clear hS;have hS:=hS9;clear hS9
  refine aA rfl rfl (bO rfl rfl rfl (bO rfl rfl rfl (aB rfl rfl (aB rfl rfl (aK (XF.thenN (aH (aN (aA rfl rfl (gR rfl rfl (aA rfl rfl (aB rfl rfl (aB rfl rfl (aB rfl rfl (aK (XF.thenN (cK (XF.res (zY results30 rfl rfl rfl) ?_))))))))))))))))))
  exact ⟨r,wa,wc,K2,fun _=>hLa.first hLb hsy hFW,fun h=>absurd h0 h,by rw [h0];cases r<;>rfl,fun z hz=>hk2 z (hk1 z hz),hR,(hS.keep K2 (fun q hq=>by simp [hq])).tail.tail⟩
theorem Ap (da:DV) (Kt:List (Nat×World)) (Ot:Own) (G:bN) (K:List (Nat×World)) (w0 w:World) (hS0:St w0 Ot G K w) (hKt:∀ q∈Kt,q∈K) (hDa:cL w0 Kt (fun W=>DIn W da)) :
  Calls prog 21 #[da.val] w (fun e w'=>∃ (r:Option (List Nat)) (wa:Option Addr) (wc:Nat) (Kn:List (Nat×World)),(cU da=0→FW (dFA da) r)∧(cU da≠0→r=none)∧e = .returned (.tuple #[.slice wa (r.getD []).length wc,.bool r.isSome,.int .i64 (cU da)])∧(∀ q∈K,q∈Kn)∧cL w0 Kn (fun W=>Row W wa (wI (r.getD [])))∧St w0 Ot G Kn w'):=by
 refine cP (args:=[da.val]) func21 rfl ntmps21 rfl ?_
 have hS:=hS0
 refine aH (aN (cI (cs:=[_,_,_]) hS rfl rfl rfl fun B1 W1 hS=>aB rfl rfl (aB rfl rfl (aB rfl rfl (aK (XF.thenN (aH (aH (aN (bC (vs:=[_,_,_]) isAgg25 sizeOf25 rfl (aT.own (j:=0) (m:=3) (hS.at_ 0 rfl) rfl) rfl (bW (vs:=[_]) lU rfl (lQ da _ (hDa (hS.keep K (fun q hq=>by simp [hq])) hKt)) rfl ?_)))))))))))
 rintro e W9 ⟨rfl,hb9⟩
 refine ⟨_,rfl,?_⟩
 have hS':=hS.grow hb9;clear hS;have hS:=hS';clear hS'
 refine aB rfl rfl (aK (XF.thenN (aH (aN (aA rfl rfl (dR rfl rfl rfl (aK (XF.thenN (bS rfl (fun hc=>?_) (fun hc=>?_))))))))))
 ·have hc11:=of_decide_eq_true hc;clear hc
  refine aH (aN (aA rfl rfl (aB rfl rfl (aB rfl rfl (aB rfl rfl (aK (XF.thenN (cK (XF.thenR (XF.res (zY results21 rfl rfl rfl) ?_))))))))))
  exact ⟨none,none,0,K,fun h=>absurd h hc11,fun _=>rfl,rfl,fun q hq=>hq,fun _ _=>.inl rfl,(hS.keep K (fun q hq=>by simp [hq])).tail⟩
 ·have hc11:=of_decide_eq_false hc;clear hc
  have h0:cU da=0:=Decidable.of_not_not hc11
  obtain ⟨k,hk,_⟩:=dD h0
  refine bV (XF.thenN (aH (aN (bC (vs:=[_,_,_]) isAgg25 sizeOf25 rfl (aT.own (j:=0) (m:=3) (hS.at_ 0 rfl) rfl) rfl (bC (vs:=[_,_,_]) isAgg25 sizeOf25 rfl (aT.own (j:=0) (m:=3) (hS.at_ 0 rfl) rfl) rfl (bW (vs:=[_,_]) tN rfl (lI da da k Kt _ _ K w0 _ (hS.keep K (fun q hq=>by simp [hq])) hKt hDa hDa hk hk h0 h0) rfl ?_))))))
  rintro e W9 ⟨qda,qdb,PB,MB,ll,la,fa,ba,lc,fc,bc,K1,hll,rfl,hLa,hLb,hk1,hTB,hM9,hMb,hMK,hS9⟩
  refine ⟨_,rfl,?_⟩
  clear hS;have hS:=hS9;clear hS9
  refine bW (vs:=[_,_]) zF rfl (rT qda qdb (fun x y=>x) 41 PB MB ll la fa ba lc fc bc K1 _ _ K1 w0 _ goes_41 Ao hll hS hLa.ok hLb.ok hLa.n4 hLb.n4 (hLa.kk hLb rfl) (fun q hq=>hq) hTB hM9 hMb hMK) rfl ?_
  rintro e W9 ⟨r,wa,wc,K2,hFW,rfl,hk2,hR,hS9⟩
  refine ⟨_,rfl,?_⟩
  clear hS;have hS:=hS9;clear hS9
  refine aA rfl rfl (bO rfl rfl rfl (bO rfl rfl rfl (aB rfl rfl (aB rfl rfl (aK (XF.thenN (aH (aN (aA rfl rfl (aA rfl rfl (aB rfl rfl (aB rfl rfl (aB rfl rfl (aK (XF.thenN (cK (XF.res (zY results21 rfl rfl rfl) ?_)))))))))))))))))
  exact ⟨r,wa,wc,K2,fun _=>(hLa.first hLb rfl hFW).congr rfl (fun u hu=>lC hLa.dok hLa.dok rfl hu),fun h=>absurd h0 h,by rw [h0];rfl,fun z hz=>hk2 z (hk1 z hz),hR,(hS.keep K2 (fun q hq=>by simp [hq])).tail⟩
theorem inf_2:prog.info? 2=some Try.t2:=by kernel_rfl
def MW9:Nat:=1099511627776
def b2n (b:Bool):Nat:=if b then 1 else 0
def qQ (v:List Nat) (xs:List Int):Nat:=(xs.map (fun y=>gN v y.toNat)).sum
def cvE (d:DV) (v:List Nat) (s:Nat):Nat:=(d.ns[s]?).elim 0 (fun r=>min (qQ v r.xs) MW9)
def cv (d:DV):Nat→List Nat
 | 0=>d.bs.map b2n
 | j+1=>(List.range d.nl).map (cvE d (cv d j))
def mQ (d:DV) (n:Int):Int×Int:=if cU d≠0 then (0,cU d) else if n < 0∨10000 < n then (0,5) else (((gN (cv d n.toNat) 0:Nat):Int),0)
abbrev countV (p:Int×Int):Value:=.tuple #[.int .i64 p.1,.int .i64 p.2]
theorem Aq {v:List Nat} {xs:List Int} {x:Nat} {y:Int} (h:xs[x]?=some y):qQ v (xs.take (x+1))=qQ v (xs.take x)+gN v y.toNat:=by
 unfold qQ;rw [List.take_add_one,h];simp
theorem gN_le {v:List Nat} {M:Nat} (h:∀ y∈v,y≤M) (i:Nat):gN v i≤M:=by
 unfold gN
 rw [List.getD_eq_getElem?_getD]
 cases e:v[i]? with
 | none=>exact Nat.zero_le _
 | some y=>exact h y (List.mem_of_getElem? e)
theorem zG {v:List Nat} {M:Nat} (h:∀ y∈v,y≤M):∀ (xs:List Int),qQ v xs≤xs.length * M
 | []=>by simp [qQ]
 | y::xs=>by
  have h1:=zG h xs
  have h2:=gN_le h y.toNat
  unfold qQ at h1 ⊢
  rw [List.map_cons,List.sum_cons,List.length_cons,Nat.succ_mul];omega
theorem Cs {d:DV} (hl:d.bs.length=d.nl):∀ j,(cv d j).length=d.nl
 | 0=>by unfold cv;rw [List.length_map];exact hl
 | j+1=>by unfold cv;simp
theorem cv_le {d:DV}:∀ j,∀ y∈cv d j,y≤MW9
 | 0,y,hy=>by
  obtain ⟨b,_,rfl⟩:=List.mem_map.1 hy
  unfold b2n MW9;split<;>omega
 | j+1,y,hy=>by
  obtain ⟨s,_,rfl⟩:=List.mem_map.1 hy
  unfold cvE
  cases d.ns[s]? with
  | none=>exact Nat.zero_le _
  | some r=>exact Nat.min_le_right _ _
def cz (d:DV) (i:Nat):List Nat:=(d.bs.take i).map b2n++List.replicate (d.nl - i) 0
theorem Ct {d:DV} {i:Nat} (hl:d.bs.length=d.nl) (h:i≤d.nl):(cz d i).length=d.nl:=by unfold cz;simp;omega
theorem zH {d:DV}:cz d 0=List.replicate d.nl 0:=by unfold cz;simp
theorem Cu {d:DV} (hl:d.bs.length=d.nl):cz d d.nl=cv d 0:=by unfold cz cv;rw [Nat.sub_self,List.take_of_length_le (by omega)];simp
theorem Cv {d:DV} {i:Nat} (hl:d.bs.length=d.nl) (h:i < d.nl) (hb:d.bs[i]?=some true):(cz d i).set i 1=cz d (i+1):=by
 unfold cz
 obtain ⟨m,hm⟩:∃ m,d.nl - i=m+1:=⟨d.nl - i - 1,by omega⟩
 rw [hm,show d.nl - (i+1)=m by omega,List.replicate_succ,List.set_append_right _ _ (by simp;omega),List.length_map,List.length_take,Nat.min_eq_left (by omega),Nat.sub_self,List.set_cons_zero,List.take_add_one,hb]
 simp [b2n]
theorem cz_no {d:DV} {i:Nat} (hl:d.bs.length=d.nl) (h:i < d.nl) (hb:d.bs[i]?=some false):cz d i=cz d (i+1):=by
 unfold cz
 obtain ⟨m,hm⟩:∃ m,d.nl - i=m+1:=⟨d.nl - i - 1,by omega⟩
 rw [hm,show d.nl - (i+1)=m by omega,List.replicate_succ,List.take_add_one,hb]
 simp [b2n]
def lz (d:DV) (v ys:List Nat) (s:Nat):List Nat:=(List.range s).map (cvE d v)++ys.drop s
theorem lz_len {d:DV} {v ys:List Nat} {s:Nat} (h:s≤ys.length):(lz d v ys s).length=ys.length:=by unfold lz;simp;omega
theorem lz_zero {d:DV} {v ys:List Nat}:lz d v ys 0=ys:=by unfold lz;simp
theorem lz_end {d:DV} {ys:List Nat} {j:Nat} (h:ys.length=d.nl):lz d (cv d j) ys d.nl=cv d (j+1):=by unfold lz;rw [← h,List.drop_length,List.append_nil,h];rfl
theorem lz_set {d:DV} {v ys:List Nat} {s:Nat} (h:s < ys.length):(lz d v ys s).set s (cvE d v s)=lz d v ys (s+1):=by
 unfold lz
 rw [List.set_append_right _ _ (by simp),List.length_map,List.length_range,Nat.sub_self,List.drop_eq_getElem_cons h,List.set_cons_zero,List.range_succ,List.map_append,List.append_assoc];rfl
theorem zI {l:List Nat} {i:Nat} (h:i < l.length):(i64n l)[0+i * 1]?=some (.int .i64 ((gN l i:Nat):Int)):=by rw [Nat.zero_add,Nat.mul_one];exact lD h
theorem xG (d:DV) (n:Int) (w:World) (hd:DIn w d) :
  Calls prog 23 #[d.val,.int .i64 n] w (fun e w'=>e = .returned (countV (mQ d n))∧Below w.heap.size w w'):=by
 refine cP (args:=[d.val,.int .i64 n]) func23 rfl ntmps23 rfl ?_
 have hS:=St.start w
 refine aH (aN (cI (cs:=[_,_,_]) hS rfl rfl rfl fun B1 W1 hS=>aB rfl rfl (aB rfl rfl (aK (XF.thenN (aH (aH (aN (bC (vs:=[_,_,_]) isAgg25 sizeOf25 rfl (aT.own (j:=0) (m:=3) (hS.at_ 0 rfl) rfl) rfl (dX (vs:=[_]) hS lU rfl (lQ d _ (hd.below hS.below)) rfl fun W2 hS=>aB rfl rfl (aK (XF.thenN (aH (aN (aA rfl rfl (dR rfl rfl rfl (aK (XF.thenN (bS rfl (fun hc=>?_) (fun hc=>?_))))))))))))))))))))
 ·have hc19:=of_decide_eq_true hc;clear hc
  refine aH (aN (aA rfl rfl (aB rfl rfl (aB rfl rfl (aK (XF.thenN (cK (XF.thenR (XF.res (uC results23 rfl rfl) ?_)))))))))
  exact ⟨by rw [show mQ d n=_ from if_pos hc19],hS.below⟩
 ·have hc19:=of_decide_eq_false hc;clear hc
  have he:cU d=0:=Decidable.of_not_not hc19
  obtain ⟨k,hk,h1,h2,h3,h4,h5,h6⟩:=dD he
  have hbl:d.bs.length=d.nl:=by have:=hd.alen;omega
  refine bV (XF.thenN (aH (aH (aN (aA rfl rfl (cH rfl rfl rfl (aA rfl rfl (bZ (d:=23) rfl (fun hc=>?_) (fun hc=>?_)))))))))
  ·have hg23:=of_decide_eq_true hc;clear hc
   refine aQ (d:=23) rfl rfl rfl rfl (aQ (d:=23) rfl rfl rfl rfl (bI rfl rfl rfl (aK (XF.thenN (fT rfl (aH (aN (aB rfl rfl (aB rfl rfl (aK (XF.thenN (cK (XF.thenR (XF.res (uC results23 rfl rfl) ?_))))))))))))))
   exact ⟨by rw [show mQ d n=_ from (if_neg hc19).trans (if_pos (by omega))],hS.below⟩
  ·have hg23:=of_decide_eq_false hc;clear hc
   refine aE (d:=23) rfl rfl (aA rfl rfl (aE (d:=23) rfl rfl (gS rfl rfl rfl (cG rfl rfl rfl (aK (XF.thenN (bS rfl (fun hc=>?_) (fun hc=>?_))))))))
   ·have hc26:=of_decide_eq_true hc;clear hc
    refine aH (aN (aB rfl rfl (aB rfl rfl (aK (XF.thenN (cK (XF.thenR (XF.res (uC results23 rfl rfl) ?_))))))))
    exact ⟨by rw [show mQ d n=_ from (if_neg hc19).trans (if_pos (by omega))],hS.below⟩
   ·have hc26:=of_decide_eq_false hc;clear hc
    obtain ⟨N,rfl⟩:∃ N:Nat,n=(N:Int):=⟨n.toNat,by omega⟩
    refine bV (XF.thenN (aH (aN (aU (o':=1) cO rfl rfl rfl (aP isAgg22 rfl (aD (hS.at_ 0 rfl) rfl) rfl (bX underlying22 rfl rfl ?_))))))
    refine eX (m:=d.nl) (cs:=i64n (List.replicate d.nl 0)) hS underlying75 inf_2 rfl rfl rfl (rfl) (rfl) (lE _) (by show (8:Int) * _≤_;omega) (by omega) rfl fun B3 W3 hS=>?_
    refine aB rfl rfl (aK (XF.thenN (aH (aH (aN (aU (o':=2) cT rfl rfl rfl (aP isAgg23 rfl (aD (hS.at_ 1 rfl) rfl) rfl (bX underlying23 rfl rfl (aA rfl rfl (aK (XF.thenN (bH ?_))))))))))))
    refine cW (fun m l W=>∃ i:Nat,i≤d.nl∧m=d.nl - i∧l=[(1,.int .i64 (N:Int)),(2,.pointer (some ⟨B1,0,none⟩)),(7,.slice (some ⟨B3,0,none⟩) d.nl d.nl),(32,.slice d.aa d.nl d.ac),(33,.int .i64 (d.nl:Int)),(34,.int .i64 (i:Int))]∧St w [(B3,i64n (cz d i),2),(B1,[.int .i64 d.sy,.slice d.na d.nl d.nc,.slice d.aa d.al d.ac],25)] [] [] W) (d.nl - 0) ([(1,_),(2,_),(7,_),(32,_),(33,_),(34,_)]) ⟨rfl,rfl,rfl,by show _=some (Value.slice d.aa d.nl d.ac);rw [← h4];rfl,by show _=some (Value.int .i64 (d.nl:Int));rw [← h4];rfl,rfl,trivial⟩ (⟨0,Nat.zero_le _,rfl,rfl,by rw [zH];exact hS.clear⟩) ?_
    clear hS
    rintro m l W ⟨i,hi,rfl,rfl,hS⟩
    refine aH (aN (cH rfl rfl rfl (aK (XF.thenN (aH (bS rfl (fun hc=>?_) (fun hc=>?_)))))))
    ·have hc35:=of_decide_eq_true hc;clear hc
     obtain ⟨b5,o5,y,hba,hy,hyc⟩:=fE.at9 hd.arow (i:=i) (by omega)
     have k1:=hS.old hyc
     refine bV (XF.thenN (aH (bH (aH (aN (aA rfl rfl ?_))))))
     refine aX (j:=i) (b:=b5) (o:=o5) (m:=d.nl) (c:=d.ac) underlying23 sizeOf4 (by show some (Value.slice d.aa _ _)=_;rw [hba]) rfl rfl (by omega) rfl rfl ?_
     refine aP isAgg4 rfl (k1) rfl (aB rfl rfl (aB rfl rfl (aK (XF.thenN (aH (aN (aA rfl rfl (aK (XF.thenN (bS rfl (fun hc=>?_) (fun hc=>?_)))))))))))
     ·have hc39:=hc;clear hc
      subst hc39
      refine aN (aA rfl rfl (aA rfl rfl (aX (j:=i) underlying75 sizeOf2 rfl rfl (rfl) (by omega) rfl rfl ?_)))
      refine bL (i:=0) (cs':=i64n ((cz d i).set i 1)) (O':=[_,_]) hS sizeOf2 rfl rfl rfl rfl (Nat.ble_eq_true_of_le (by rw [eT,Ct hbl (by omega)];omega)) (fK rfl) rfl fun W51 hS=>?_
      refine aK (XF.blkN (XF.thenN (aN (bY rfl rfl (IntWalk.i64_in _ (by omega)) rfl (aA rfl rfl (aK ?_))))))
      rw [Cv hbl (by omega) hy] at hS
      exact XF.round (d.nl - (i+1)) [(1,_),(2,_),(7,_),(32,_),(33,_),(34,_)] (by omega) ⟨rfl,rfl,rfl,rfl,rfl,rfl,trivial⟩ ⟨i+1,by omega,rfl,rfl,hS.clear⟩
     ·have hc39:=hc;clear hc
      subst hc39
      refine bV (XF.blkN (XF.thenN (aN (bY rfl rfl (IntWalk.i64_in _ (by omega)) rfl (aA rfl rfl (aK ?_))))))
      rw [cz_no hbl (by omega) hy] at hS
      exact XF.round (d.nl - (i+1)) [(1,_),(2,_),(7,_),(32,_),(33,_),(34,_)] (by omega) ⟨rfl,rfl,rfl,rfl,rfl,rfl,trivial⟩ ⟨i+1,by omega,rfl,rfl,hS.clear⟩
    ·have hc35:=of_decide_eq_false hc;clear hc
     have ein:i=d.nl:=by omega
     rw [ein,Cu hbl] at hS
     refine cV (XF.thenX (XF.thenX (XF.blkX (XF.thenN (aH (aN (aU (o':=1) cO rfl rfl rfl (aP isAgg22 rfl (aD (hS.at_ 1 rfl) rfl) rfl (bX underlying22 rfl rfl ?_)))))))))
     refine eX (m:=d.nl) (cs:=i64n (List.replicate d.nl 0)) hS underlying75 inf_2 rfl rfl rfl (rfl) (rfl) (lE _) (by show (8:Int) * _≤_;omega) (by omega) rfl fun B4 W4 hS=>?_
     refine aB rfl rfl (aK (XF.thenN (aH (aH (aN (aA rfl rfl (aA rfl rfl (aK (XF.thenN (bH (cW (fun m l W=>∃ (j XB YB:Nat) (ys:List Nat),j≤N∧m=N - j∧l=[(1,.int .i64 (N:Int)),(2,.pointer (some ⟨B1,0,none⟩)),(7,.slice (some ⟨XB,0,none⟩) d.nl d.nl),(10,.slice (some ⟨YB,0,none⟩) d.nl d.nl),(48,.int .i64 (N:Int)),(49,.int .i64 (j:Int))]∧ys.length=d.nl∧St w [(XB,i64n (cv d j),2),(YB,i64n (ys),2),(B1,[.int .i64 d.sy,.slice d.na d.nl d.nc,.slice d.aa d.al d.ac],25)] [] [] W) (N - 0) ([(1,_),(2,_),(7,_),(10,_),(48,_),(49,_)]) ⟨rfl,rfl,rfl,rfl,rfl,rfl,trivial⟩ (⟨0,_,_,List.replicate d.nl 0,Nat.zero_le _,rfl,rfl,List.length_replicate,(hS.perm (List.Perm.swap _ _ _)).clear⟩) ?_)))))))))))
     clear hS
     rintro m l W ⟨j,XB,YB,ys,hj,rfl,rfl,hys,hS⟩
     have hvl:=Cs hbl j
     have hvm:=cv_le (d:=d) j
     refine aH (aN (cH rfl rfl rfl (aK (XF.thenN (aH (bS rfl (fun hc=>?_) (fun hc=>?_)))))))
     ·have hc50:=of_decide_eq_true hc;clear hc
      refine bV (XF.thenN (aH (bH (aH (aH (aN (aU (o':=1) cO rfl rfl rfl (aP isAgg22 rfl (aD (hS.at_ 2 rfl) rfl) rfl (bX underlying22 rfl rfl (aA rfl rfl (aK (XF.thenN (bH ?_)))))))))))))
      refine cW (fun m l W=>∃ s:Nat,s≤d.nl∧m=d.nl - s∧l=[(1,.int .i64 (N:Int)),(2,.pointer (some ⟨B1,0,none⟩)),(7,.slice (some ⟨XB,0,none⟩) d.nl d.nl),(10,.slice (some ⟨YB,0,none⟩) d.nl d.nl),(48,.int .i64 (N:Int)),(49,.int .i64 (j:Int)),(52,.slice d.na d.nl d.nc),(53,.int .i64 (d.nl:Int)),(54,.int .i64 (s:Int))]∧St w [(XB,i64n (cv d j),2),(YB,i64n (lz d (cv d j) ys s),2),(B1,[.int .i64 d.sy,.slice d.na d.nl d.nc,.slice d.aa d.al d.ac],25)] [] [] W) (d.nl - 0) ([(1,_),(2,_),(7,_),(10,_),(48,_),(49,_),(52,_),(53,_),(54,_)]) ⟨rfl,rfl,rfl,rfl,rfl,rfl,rfl,rfl,rfl,trivial⟩ (⟨0,Nat.zero_le _,rfl,rfl,by rw [lz_zero];exact hS.clear⟩) ?_
      clear hS
      rintro m l W ⟨s,hs,rfl,rfl,hS⟩
      refine aH (aN (cH rfl rfl rfl (aK (XF.thenN (aH (bS rfl (fun hc=>?_) (fun hc=>?_)))))))
      ·have hc55:=of_decide_eq_true hc;clear hc
       obtain ⟨r,hr⟩:∃ r,d.ns[s]?=some r:=⟨_,List.getElem?_eq_getElem (by rw [hd.nlen];omega)⟩
       obtain ⟨c1,o1,hna,hcs⟩:=hd.nrow _ r hr
       have hrm:=List.mem_of_getElem? hr
       obtain ⟨hrr,hrl,_⟩:=hd.rin r hrm
       obtain ⟨hr6,hr7⟩:=h6 r hrm
       have k2:=hS.old hcs
       refine bV (XF.thenN (aH (bH (aH (aN (aA rfl rfl ?_))))))
       refine aX (j:=s) (b:=c1) (o:=o1) (m:=d.nl) (c:=d.nc) underlying22 sizeOf36 (by show some (Value.slice d.na _ _)=_;rw [hna]) rfl rfl (by omega) rfl rfl ?_
       refine aP isAgg36 rfl (k2) rfl (aB rfl rfl (aB rfl rfl (aK (XF.thenN (aH (aN (aB rfl rfl (aK (XF.thenN (aH (aH (aN (aA rfl rfl (bX underlying36 rfl rfl (aA rfl rfl (aK (XF.thenN (bH (cW (fun m l W=>∃ x:Nat,x≤r.l∧m=r.l - x∧l=[(1,.int .i64 (N:Int)),(2,.pointer (some ⟨B1,0,none⟩)),(7,.slice (some ⟨XB,0,none⟩) d.nl d.nl),(10,.slice (some ⟨YB,0,none⟩) d.nl d.nl),(11,.int .i64 (s:Int)),(13,.int .i64 ((qQ (cv d j) (r.xs.take x):Nat):Int)),(48,.int .i64 (N:Int)),(49,.int .i64 (j:Int)),(52,.slice d.na d.nl d.nc),(53,.int .i64 (d.nl:Int)),(54,.int .i64 (s:Int)),(59,.slice r.a r.l r.c),(60,.int .i64 (r.l:Int)),(61,.int .i64 (x:Int))]∧St w [(XB,i64n (cv d j),2),(YB,i64n (lz d (cv d j) ys s),2),(B1,[.int .i64 d.sy,.slice d.na d.nl d.nc,.slice d.aa d.al d.ac],25)] [] [] W) (r.l - 0) ([(1,_),(2,_),(7,_),(10,_),(11,_),(13,_),(48,_),(49,_),(52,_),(53,_),(54,_),(59,_),(60,_),(61,_)]) ⟨rfl,rfl,rfl,rfl,rfl,rfl,rfl,rfl,rfl,rfl,rfl,rfl,rfl,rfl,trivial⟩ (⟨0,Nat.zero_le _,rfl,rfl,hS.clear⟩) ?_)))))))))))))))))))
       clear hS
       rintro m l W ⟨x,hx,rfl,rfl,hS⟩
       refine aH (aN (cH rfl rfl rfl (aK (XF.thenN (aH (bS rfl (fun hc=>?_) (fun hc=>?_)))))))
       ·have hc62:=of_decide_eq_true hc;clear hc
        obtain ⟨d1,g1,z,hra,hz,hzc⟩:=hrr.at1 (i:=x) (by omega)
        have k3:=hS.old hzc
        have hzv:=hr7 z (List.mem_of_getElem? hz)
        have hsn:=Aq (v:=cv d j) hz
        have hgl:=gN_le hvm z.toNat
        have hrs:=zG hvm (r.xs.take x)
        have hmx:(r.xs.take x).length * MW9≤4096 * MW9:=Nat.mul_le_mul_right _ (by rw [List.length_take];omega)
        unfold MW9 at hgl hmx
        refine bV (XF.thenN (aH (bH (aH (aN ?_)))))
        refine aX (j:=x) (b:=d1) (o:=g1) (m:=r.l) (c:=r.c) underlying36 sizeOf3 (by show some (Value.slice r.a _ _)=_;rw [hra]) rfl (by omega) (by omega) rfl rfl ?_
        refine aP isAgg3 rfl (k3) rfl (aB rfl rfl (aK (XF.thenN (aN (aA rfl rfl (aA rfl rfl (aA rfl rfl (aX (j:=z.toNat) underlying75 sizeOf2 rfl rfl (by omega) (by omega) rfl rfl (aP isAgg2 rfl (aD (hS.at_ 0 rfl) (zI (by omega))) rfl ?_)))))))))
        refine bY rfl rfl (IntWalk.i64_in _ (by unfold MW9 at hrs;omega)) rfl ?_
        refine aB rfl rfl (aK (XF.blkN (XF.thenN (aN (bY rfl rfl (IntWalk.i64_in _ (by omega)) rfl (aA rfl rfl (aK ?_)))))))
        exact XF.round (r.l - (x+1)) [(1,.int .i64 (N:Int)),(2,.pointer (some ⟨B1,0,none⟩)),(7,.slice (some ⟨XB,0,none⟩) d.nl d.nl),(10,.slice (some ⟨YB,0,none⟩) d.nl d.nl),(11,.int .i64 (s:Int)),(13,.int .i64 ((qQ (cv d j) (r.xs.take (x+1)):Nat):Int)),(48,.int .i64 (N:Int)),(49,.int .i64 (j:Int)),(52,.slice d.na d.nl d.nc),(53,.int .i64 (d.nl:Int)),(54,.int .i64 (s:Int)),(59,.slice r.a r.l r.c),(60,.int .i64 (r.l:Int)),(61,.int .i64 ((x+1:Nat):Int))] (by omega) ⟨rfl,rfl,rfl,rfl,rfl,by show _=some (Value.int .i64 ((qQ (cv d j) (r.xs.take (x+1)):Nat):Int));rw [hsn];rfl,rfl,rfl,rfl,rfl,rfl,rfl,rfl,rfl,trivial⟩ ⟨x+1,by omega,rfl,rfl,hS.clear⟩
       ·have hc62:=of_decide_eq_false hc;clear hc
        have exr:x=r.l:=by omega
        have hce:cvE d (cv d j) s=min (qQ (cv d j) (r.xs.take x)) MW9:=by unfold cvE;rw [hr,List.take_of_length_le (by omega)];rfl
        refine cV (XF.thenX (XF.thenX (XF.blkX (XF.thenN (aN (aA rfl rfl (aA rfl rfl (aA rfl rfl (Bi rfl rfl rfl (aX (j:=s) underlying75 sizeOf2 rfl rfl (rfl) (by omega) rfl rfl ?_))))))))))
        refine bL (i:=1) (cs':=i64n ((lz d (cv d j) ys s).set s (cvE d (cv d j) s))) (O':=[_,_,_]) hS sizeOf2 rfl rfl rfl rfl (Nat.ble_eq_true_of_le (by rw [eT,lz_len (by omega)];omega)) (fK (by rw [hce];unfold MW9;omega)) rfl fun W52 hS=>?_
        refine aK (XF.blkN (XF.thenN (aN (bY rfl rfl (IntWalk.i64_in _ (by omega)) rfl (aA rfl rfl (aK ?_))))))
        rw [lz_set (by omega)] at hS
        exact XF.round (d.nl - (s+1)) [(1,_),(2,_),(7,_),(10,_),(48,_),(49,_),(52,_),(53,_),(54,_)] (by omega) ⟨rfl,rfl,rfl,rfl,rfl,rfl,rfl,rfl,rfl,trivial⟩ ⟨s+1,by omega,rfl,rfl,hS.clear⟩
      ·have hc55:=of_decide_eq_false hc;clear hc
       have esn:s=d.nl:=by omega
       rw [esn,lz_end hys] at hS
       refine cV (XF.thenX (XF.thenX (XF.blkX (XF.thenN (aN (aA rfl rfl (aA rfl rfl (aB rfl rfl (aB rfl rfl (aK (XF.blkN (XF.thenN (aN (bY rfl rfl (IntWalk.i64_in _ (by omega)) rfl (aA rfl rfl (aK ?_))))))))))))))))
       exact XF.round (N - (j+1)) [(1,_),(2,_),(7,_),(10,_),(48,_),(49,_)] (by omega) ⟨rfl,rfl,rfl,rfl,rfl,rfl,trivial⟩ ⟨j+1,YB,XB,cv d j,by omega,rfl,rfl,hvl,(hS.perm (List.Perm.swap _ _ _)).clear⟩
     ·have hc50:=of_decide_eq_false hc;clear hc
      refine cV (XF.thenX (XF.thenX (XF.blkX (XF.thenN (aH (aN (aA rfl rfl (aX (j:=0) underlying75 sizeOf2 rfl rfl (rfl) (by omega) rfl rfl (aP isAgg2 rfl (aD (hS.at_ 0 rfl) (zI (by omega))) rfl (aB rfl rfl (aB rfl rfl (aK (XF.thenN (cK (XF.res (uC results23 rfl rfl) ?_)))))))))))))))
      have ejn:j=N:=by omega
      exact ⟨by rw [show mQ d (N:Int)=_ from (if_neg hc19).trans (if_neg (by omega)),← ejn];rfl,hS.below⟩
structure Lst (d:DV) (A:FA):Prop where
 e:cU d=0
 len:d.ns.length=d.nl
 xl:∀ r∈d.ns,r.xs.length=r.l
 bl:d.bs.length=d.al
 k:(dFA d).k=A.k
 ord:(dFA d).Ord
 red:(dFA d).Red
 eqv:Eqv (dFA d) 0 A 0
def nP (A:FA):FA:=⟨A.n,A.k,A.nx,fun s => !(A.ac s)⟩
theorem vP {A:FA}:∀ (u:List Nat) (s:Nat),(nP A).run s u=A.run s u
 | [],s=>rfl
 | x::u,s=>vP u (A.nx s x)
theorem Cw {A:FA} {u:List Nat} {s:Nat}:(nP A).acc s u = !(A.acc s u):=by
 unfold FA.acc;rw [vP];rfl
theorem Cx {ns:List IV} {k:Nat} (h:∀ r∈ns,r.xs.length=k) {i x:Nat} {r:IV} (hr:ns[i]?=some r) (hx:x < k):∀ {n:Nat},i < n→n≤ns.length→gN (xsT ns n) (i * k+x)=(r.xs.getD x 0).toNat
 | n+1,hi,hn=>by
  obtain ⟨r',hr'⟩:∃ r',ns[n]?=some r':=⟨_,List.getElem?_eq_getElem (by omega)⟩
  have hl:=tD (ns:=ns) h (i:=n) (by omega)
  rw [qL hr']
  rcases Nat.lt_or_ge i n with h1 | h1
  ·have ih:=Cx h hr hx h1 (by omega)
   have h2:i * k+x < n * k:=iG h1 hx
   unfold gN at ih ⊢
   rw [List.getD_eq_getElem?_getD,List.getElem?_append_left (by omega),← List.getD_eq_getElem?_getD];exact ih
  ·obtain rfl:i=n:=by omega
   rw [hr] at hr'
   obtain rfl:=Option.some.inj hr'
   unfold gN
   rw [List.getD_eq_getElem?_getD,List.getElem?_append_right (by omega),hl,Nat.add_sub_cancel_left,List.getElem?_map,List.getD_eq_getElem?_getD]
   cases r.xs[x]?<;>rfl
section
variable {d:DV}
theorem mS (he:cU d=0) (hl:d.ns.length=d.nl) (hx9:∀ r∈d.ns,r.xs.length=r.l) {i x:Nat} {r:IV} (hr:d.ns[i]?=some r) (hx:x < d.sy.toNat):(dFA d).nx i x=(r.xs.getD x 0).toNat:=by
 obtain ⟨k,hk,h1,h2,h3,h4,h5,h6⟩:=dD he
 have hi:=(List.getElem?_eq_some_iff.1 hr).1
 show gN (xsT d.ns d.nl) (i * d.sy.toNat+x)=_
 rw [show d.sy.toNat=k by omega] at hx ⊢
 exact Cx (fun r hr=>by rw [hx9 r hr];exact (h6 r hr).1) hr hx (by omega) (by omega)
theorem kH (he:cU d=0) (hl:d.ns.length=d.nl) (hx9:∀ r∈d.ns,r.xs.length=r.l):(dFA d).Ok:=by
 obtain ⟨k,hk,h1,h2,h3,h4,h5,h6⟩:=dD he
 refine ⟨h2,fun s x hs hx=>?_⟩
 have hs:s < d.nl:=hs
 have hx:x < d.sy.toNat:=hx
 obtain ⟨r,hr⟩:∃ r,d.ns[s]?=some r:=⟨_,List.getElem?_eq_getElem (by omega)⟩
 have hrm:=List.mem_of_getElem? hr
 rw [mS he hl hx9 hr hx]
 have hxl:x < r.xs.length:=by rw [hx9 r hrm,(h6 r hrm).1];omega
 have h7:=(h6 r hrm).2 (r.xs.getD x 0) (by rw [List.getD_eq_getElem?_getD,List.getElem?_eq_getElem hxl];exact List.getElem_mem hxl)
 show _ < d.nl
 omega
end
theorem vQ {α:Type} {l m:List α} {z:α} (hl:l.length=m.length) (h:∀ i,i < l.length→l.getD i z=m.getD i z):l=m:=by
 apply List.ext_getElem hl
 intro i h1 h2
 have:=h i h1
 rw [List.getD_eq_getElem?_getD,List.getD_eq_getElem?_getD,List.getElem?_eq_getElem h1,List.getElem?_eq_getElem h2] at this
 exact this
theorem vR {d d':DV} {A A':FA} (h:Lst d A) (h':Lst d' A') (hk:A.k=A'.k) (he:Eqv A 0 A' 0):lG d d'=true:=by
 obtain ⟨k,hk1,a1,a2,a3,a4,a5,a6⟩:=dD h.e
 obtain ⟨k',hk2,b1,b2,b3,b4,b5,b6⟩:=dD h'.e
 have hO:=kH h.e h.len h.xl
 have hO':=kH h'.e h'.len h'.xl
 have kk:(dFA d).k=(dFA d').k:=by rw [h.k,h'.k,hk]
 have e0:Eqv (dFA d) 0 (dFA d') 0:=Eqv.trans (B:=A) h.k h.eqv (Eqv.trans (B:=A') hk he (Eqv.symm (by exact h'.k) h'.eqv))
 obtain ⟨c1,c2,c3⟩:=nH hO hO' h.ord h'.ord h.red h'.red kk e0
 have c1:d.nl=d'.nl:=c1
 have kk:d.sy.toNat=d'.sy.toNat:=kk
 unfold lG
 refine decide_eq_true ⟨by omega,c1,by omega,vQ (z:=false) (by rw [h.bl,h'.bl];omega) (fun i hi=>c3 i (by show i < d.nl;rw [h.bl] at hi;omega)),?_⟩
 apply List.ext_getElem?
 intro i
 rw [List.getElem?_map,List.getElem?_map]
 rcases Nat.lt_or_ge i d.nl with hi | hi
 ·obtain ⟨r,hr⟩:∃ r,d.ns[i]?=some r:=⟨_,List.getElem?_eq_getElem (by rw [h.len];exact hi)⟩
  obtain ⟨r',hr'⟩:∃ r',d'.ns[i]?=some r':=⟨_,List.getElem?_eq_getElem (by rw [h'.len];omega)⟩
  have hrm:=List.mem_of_getElem? hr
  have hrm':=List.mem_of_getElem? hr'
  rw [hr,hr']
  show some r.xs=some r'.xs
  have l1:=h.xl r hrm
  have l2:=h'.xl r' hrm'
  have l3:=(a6 r hrm).1
  have l4:=(b6 r' hrm').1
  refine congrArg some (vQ (z:=0) (by omega) fun x hx=>?_)
  have hx1:x < d.sy.toNat:=by omega
  have e1:=mS h.e h.len h.xl hr hx1
  have e2:=mS h'.e h'.len h'.xl hr' (show x < d'.sy.toNat by omega)
  have e3:=c2 (i * d.sy.toNat+x) (iG hi hx1)
  rw [show (dFA d).fl (i * d.sy.toNat+x)=(dFA d).nx i x from FA.fl_at (A:=dFA d) hx1,kk,show (dFA d').fl (i * d'.sy.toNat+x)=(dFA d').nx i x from FA.fl_at (A:=dFA d') (show x < d'.sy.toNat by omega),e1,e2] at e3
  have m1:=(a6 r hrm).2 (r.xs.getD x 0) (by rw [List.getD_eq_getElem?_getD,List.getElem?_eq_getElem hx];exact List.getElem_mem hx)
  have m2:=(b6 r' hrm').2 (r'.xs.getD x 0) (by rw [List.getD_eq_getElem?_getD,List.getElem?_eq_getElem (show x < r'.xs.length by omega)];exact List.getElem_mem _)
  omega
 ·rw [List.getElem?_eq_none (by rw [h.len];exact hi),List.getElem?_eq_none (by rw [h'.len];omega)]
theorem xH {t:TB} {d:DV} {A:FA} (hT:TOk t) (hd:DOfT t d) (ho:t.fa.Ord) (hr:t.fa.Red) (he:Eqv t.fa 0 A 0) (hk:t.k=A.k) (h1:t.n≤1024) (h2:t.k≤4096) (h3:t.n * t.k≤65536):Lst d A∧d.nl=t.n:=by
 have hsy:=hd.sy
 have hnl:=hd.nl
 have hal:=hd.al
 have hpos:=hT.pos
 have hrow:∀ r∈d.ns,r.l=t.k∧r.xs.length=t.k∧∀ y∈r.xs,0≤y∧y < (t.n:Int):=fun r hr=>by
  obtain ⟨i,hi⟩:=List.getElem?_of_mem hr
  obtain ⟨h4,h5⟩:=hd.row i r hi
  have hi2:=(List.getElem?_eq_some_iff.1 hi).1
  rw [hd.len] at hi2
  refine ⟨h4,by rw [h5];unfold lZ;simp,fun y hy=>?_⟩
  rw [h5] at hy
  obtain ⟨x,hx,rfl⟩:=List.mem_map.1 hy
  have:=hT.fa.t0_ i x hi2 (List.mem_range.1 hx)
  have h6:t.fa.n=t.n:=rfl
  omega
 have e0:cU d=0:=by
  unfold cU
  rw [if_neg,if_pos]
  ·rw [List.all_eq_true]
   intro r hr
   obtain ⟨q1,q2,q3⟩:=hrow r hr
   unfold lY
   rw [Bool.and_eq_true,decide_eq_true_eq,List.all_eq_true]
   refine ⟨by omega,fun y hy=>?_⟩
   have:=q3 y hy
   unfold inQ
   simp
   omega
  ·rw [hsy,hnl,hal]
   rw [← Int.natCast_mul]
   omega
 have hl:d.ns.length=d.nl:=by rw [hd.len,hnl]
 have hx:∀ r∈d.ns,r.xs.length=r.l:=fun r hr=>by obtain ⟨q1,q2,_⟩:=hrow r hr;omega
 have hag:Agr (dFA d) t.fa:=by
  refine ⟨hnl,by show d.sy.toNat=t.k;omega,kH e0 hl hx,fun s x hs hx9=>?_,fun s hs=>by show d.bs.getD s false=t.bs.getD s false;rw [hd.bs]⟩
  have hs:s < d.nl:=hs
  have hx9:x < d.sy.toNat:=hx9
  obtain ⟨r,hr⟩:∃ r,d.ns[s]?=some r:=⟨_,List.getElem?_eq_getElem (by omega)⟩
  rw [mS e0 hl hx hr hx9,(hd.row s r hr).2]
  unfold lZ
  rw [List.getD_eq_getElem?_getD,List.getElem?_map,List.getElem?_range (by omega)]
  exact Int.toNat_natCast _
 have hk9:(dFA d).k=t.k:=by show d.sy.toNat=t.k;omega
 exact ⟨⟨e0,hl,hx,by rw [hd.bs,hal];exact hT.bl,hk9.trans hk,hag.ord ho,hag.red hr,Eqv.trans (B:=t.fa) hk9 (hag.eqv (kH e0 hl hx).pos) he⟩,hnl⟩
def iA (A:FA) (f:Nat→Nat) (a b:Nat):Bool:=(f a == f b) && ((A.ac a == A.ac b) && (List.range A.k).all (fun x=>f (A.nx a x) == f (A.nx b x)))
section
variable {A:FA} {f:Nat→Nat} {a b c n:Nat}
theorem fF:iA A f a b=true↔f a=f b∧A.ac a=A.ac b∧∀ x,x < A.k→f (A.nx a x)=f (A.nx b x):=by
 unfold iA;simp [List.all_eq_true]
theorem Cy:iA A f a a=true:=fF.2 ⟨rfl,rfl,fun _ _=>rfl⟩
theorem qR (h:iA A f a b=true):iA A f b a=true:=by
 obtain ⟨h1,h2,h3⟩:=fF.1 h
 exact fF.2 ⟨h1.symm,h2.symm,fun x hx=>(h3 x hx).symm⟩
theorem oJ (h:iA A f a b=true) (h':iA A f b c=true):iA A f a c=true:=by
 obtain ⟨h1,h2,h3⟩:=fF.1 h
 obtain ⟨g1,g2,g3⟩:=fF.1 h'
 exact fF.2 ⟨h1.trans g1,h2.trans g2,fun x hx=>(h3 x hx).trans (g3 x hx)⟩
def mIx (A:FA) (f:Nat→Nat) (met:List Nat) (i:Nat):Nat:=met.findIdx (fun r=>iA A f r i)
def mR (A:FA) (f:Nat→Nat):Nat→List Nat
 | 0=>[]
 | i+1=>if mIx A f (mR A f i) i=(mR A f i).length then mR A f i++[i] else mR A f i
def mC (A:FA) (f:Nat→Nat) (n:Nat):List Nat:=(List.range n).map (fun i=>mIx A f (mR A f i) i)
theorem xI {met:List Nat}:mIx A f met a≤met.length:=List.findIdx_le_length
theorem xJ {met:List Nat} (h:mIx A f met a < met.length):iA A f (met.getD (mIx A f met a) 0) a=true:=by
 have:=List.findIdx_getElem (w:=h) (p:=fun r=>iA A f r a)
 unfold mIx at h ⊢
 rw [List.getD_eq_getElem?_getD,List.getElem?_eq_getElem h];exact this
theorem zJ {met:List Nat} {j:Nat} (h:j < mIx A f met a):iA A f (met.getD j 0) a=false:=by
 have hl:j < met.length:=Nat.lt_of_lt_of_le h xI
 have:=List.not_of_lt_findIdx (p:=fun r=>iA A f r a) h
 rw [List.getD_eq_getElem?_getD,List.getElem?_eq_getElem hl]
 simpa using this
theorem mIx_eq {met:List Nat} {j:Nat} (hl:j < met.length) (h1:iA A f (met.getD j 0) a=true) (h2:∀ i,i < j→iA A f (met.getD i 0) a=false):mIx A f met a=j:=by
 rcases Nat.lt_trichotomy (mIx A f met a) j with h | h | h
 ·have h3:=xJ (Nat.lt_trans h hl)
  rw [h2 _ h] at h3;cases h3
 ·exact h
 ·have h3:=zJ h
  rw [h1] at h3;cases h3
theorem mIx_end {met:List Nat} (h2:∀ i,i < met.length→iA A f (met.getD i 0) a=false):mIx A f met a=met.length:=by
 rcases Nat.lt_or_ge (mIx A f met a) met.length with h | h
 ·have h3:=xJ h
  rw [h2 _ h] at h3;cases h3
 ·exact Nat.le_antisymm xI h
structure MRI (A:FA) (f:Nat→Nat) (i:Nat):Prop where
 lt:∀ s∈mR A f i,s < i
 len:(mR A f i).length≤i
 apart:∀ p q,p < (mR A f i).length→q < (mR A f i).length→iA A f ((mR A f i).getD p 0) ((mR A f i).getD q 0)=true→p=q
 rep:∀ s,s < i→mIx A f (mR A f s) s < (mR A f i).length∧iA A f ((mR A f i).getD (mIx A f (mR A f s) s) 0) s=true
theorem mri:∀ i,MRI A f i
 | 0=>⟨fun s h=>(by cases h),Nat.le_refl _,fun p q h=>(by cases h),fun s h=>(by cases h)⟩
 | i+1=>by
  have ih:=mri i
  have hle:=xI (A:=A) (f:=f) (met:=mR A f i) (a:=i)
  by_cases h:mIx A f (mR A f i) i=(mR A f i).length
  ·have e:mR A f (i+1)=mR A f i++[i]:=by rw [mR,if_pos h]
   have hn:∀ p,p < (mR A f i).length→iA A f ((mR A f i).getD p 0) i=false:=fun p hp=>zJ (by rw [h];exact hp)
   have hll:(mR A f i++[i]).length=(mR A f i).length+1:=by simp
   refine ⟨fun s hs=>?_,by rw [e,hll];have:=ih.len;omega,fun p q hp hq ha=>?_,fun s hs=>?_⟩
   ·rw [e] at hs
    rcases List.mem_append.1 hs with hs | hs
    ·have:=ih.lt s hs;omega
    ·rw [List.mem_singleton.1 hs];exact Nat.lt_succ_self _
   ·rw [e,hll] at hp hq
    rw [e] at ha
    rcases Nat.lt_or_ge p (mR A f i).length with h1 | h1<;>rcases Nat.lt_or_ge q (mR A f i).length with h2 | h2
    ·rw [dB h1,dB h2] at ha;exact ih.apart p q h1 h2 ha
    ·rw [dB h1,dN (i:=q) (by omega),hn p h1] at ha;cases ha
    ·rw [dN (i:=p) (by omega),dB h2] at ha
     have:=qR ha
     rw [hn q h2] at this;cases this
    ·omega
   ·rw [e,hll]
    rcases Nat.lt_or_ge s i with h1 | h1
    ·obtain ⟨r1,r2⟩:=ih.rep s h1
     exact ⟨by omega,by rw [dB r1];exact r2⟩
    ·obtain rfl:s=i:=by omega
     exact ⟨by omega,by rw [dN h];exact Cy⟩
  ·have e:mR A f (i+1)=mR A f i:=by rw [mR,if_neg h]
   have hlt:mIx A f (mR A f i) i < (mR A f i).length:=by omega
   refine ⟨fun s hs=>by rw [e] at hs;have:=ih.lt s hs;omega,by rw [e];have:=ih.len;omega,by rw [e];exact ih.apart,fun s hs=>?_⟩
   rw [e]
   rcases Nat.lt_or_ge s i with h1 | h1
   ·exact ih.rep s h1
   ·obtain rfl:s=i:=by omega
    exact ⟨hlt,xJ hlt⟩
theorem rU {s:Nat} (h:s < n):gN (mC A f n) s=mIx A f (mR A f s) s:=by
 unfold gN mC;rw [List.getD_eq_getElem?_getD,List.getElem?_map,List.getElem?_range h];rfl
theorem xK {s t:Nat} (hs:s < n) (ht:t < n):gN (mC A f n) s=gN (mC A f n) t↔iA A f s t=true:=by
 obtain ⟨r1,r2⟩:=(mri (A:=A) (f:=f) n).rep s hs
 obtain ⟨q1,q2⟩:=(mri (A:=A) (f:=f) n).rep t ht
 rw [rU hs,rU ht]
 constructor
 ·intro e
  rw [e] at r2
  exact oJ (qR r2) q2
 ·intro h
  exact (mri n).apart _ _ r1 q1 (oJ (oJ r2 h) (qR q2))
theorem mC_lt {s:Nat} (hs:s < n):gN (mC A f n) s < (mR A f n).length:=by rw [rU hs];exact ((mri n).rep s hs).1
theorem mC_surj {c:Nat} (hc:c < (mR A f n).length):(mR A f n).getD c 0 < n∧gN (mC A f n) ((mR A f n).getD c 0)=c:=by
 have hlt:(mR A f n).getD c 0 < n:=(mri n).lt _ (by rw [List.getD_eq_getElem?_getD,List.getElem?_eq_getElem hc];exact List.getElem_mem hc)
 obtain ⟨r1,r2⟩:=(mri (A:=A) (f:=f) n).rep _ hlt
 exact ⟨hlt,by rw [rU hlt];exact (mri n).apart _ _ r1 hc r2⟩
end
theorem pK:∀ {S l:List Nat},S.Nodup→(∀ x∈S,x∈l)→S.length≤l.length
 | [],l,_,_=>Nat.zero_le _
 | a::S,l,hn,hs=>by
  have ha:=hs a List.mem_cons_self
  rw [List.nodup_cons] at hn
  have h1:=pK (S:=S) (l:=l.erase a) hn.2 (fun x hx=>(List.mem_erase_of_ne (fun (e:x=a)=>hn.1 (e▸hx))).2 (hs x (List.mem_cons_of_mem _ hx)))
  have h2:=List.length_erase_of_mem ha
  have h3:=List.length_pos_of_mem ha
  rw [List.length_cons];omega
theorem rV:∀ {l S:List Nat},S.Nodup→(∀ x∈S,x∈l)→l.length=S.length→l.Nodup
 | [],S,_,_,_=>List.nodup_nil
 | a::l,S,hn,hs,hl=>by
  rw [List.length_cons] at hl
  have ha:a∉l:=fun h=>by
   have:=pK (l:=l) hn (fun x hx=>(List.mem_cons.1 (hs x hx)).elim (fun e=>by rw [e];exact h) id)
   omega
  have haS:a∈S:=Decidable.byContradiction fun h=>by
   have:=pK (l:=l) hn (fun x hx=>(List.mem_cons.1 (hs x hx)).elim (fun e=>absurd (by rw [← e];exact hx) h) id)
   omega
  rw [List.nodup_cons]
  have h2:=List.length_erase_of_mem haS
  refine ⟨ha,rV (S:=S.erase a) (hn.erase a) (fun x hx=>?_) (by omega)⟩
  have hx2:=List.mem_of_mem_erase hx
  rcases List.mem_cons.1 (hs x hx2) with e | h
  ·subst e;exact absurd hx (fun h9=>by
    have:=(hn.mem_erase_iff).1 h9
    exact this.1 rfl)
  ·exact h
structure MoI (A:FA) (L:List Nat) (cnt:Nat):Prop where
 len:L.length=A.n
 eqv:∀ s t,s < A.n→t < A.n→Eqv A s A t→gN L s=gN L t
 rng:0 < cnt→(∀ s,s < A.n→gN L s < cnt)∧∀ c,c < cnt→∃ s,s < A.n∧gN L s=c
 le:cnt≤A.n
section
variable {A:FA} {L:List Nat} {cnt:Nat}
theorem MoI.covers (h:MoI A L cnt):∀ x∈List.range cnt,x∈(mR A (gN L) A.n).map (gN L):=fun c hc=>by
 have hc:=List.mem_range.1 hc
 obtain ⟨s,hs,e⟩:=(h.rng (by omega)).2 c hc
 obtain ⟨r1,r2⟩:=(mri (A:=A) (f:=gN L) A.n).rep s hs
 refine List.mem_map.2 ⟨(mR A (gN L) A.n).getD (mIx A (gN L) (mR A (gN L) s) s) 0,?_,(fF.1 r2).1.trans e⟩
 rw [List.getD_eq_getElem?_getD,List.getElem?_eq_getElem r1];exact List.getElem_mem r1
theorem MoI.mono (h:MoI A L cnt):cnt≤(mR A (gN L) A.n).length:=by
 have:=pK List.nodup_range h.covers
 rw [List.length_range,List.length_map] at this;exact this
theorem MoI.step (h:MoI A L cnt) (hA:A.Ok):MoI A (mC A (gN L) A.n) (mR A (gN L) A.n).length:=by
 refine ⟨by unfold mC;simp,fun s t hs ht e=>(xK hs ht).2 (fF.2 ⟨h.eqv s t hs ht e,e [] Wd.nil,fun x hx=>h.eqv _ _ (hA.t0_ s x hs hx) (hA.t0_ t x ht hx) (e.nx hx)⟩),fun _=>⟨fun s hs=>mC_lt hs,fun c hc=>⟨_,mC_surj hc⟩⟩,(mri A.n).len⟩
theorem mR_pos {f:Nat→Nat} {n:Nat} (hn:0 < n):0 < (mR A f n).length:=Nat.lt_of_le_of_lt (Nat.zero_le _) ((mri (A:=A) (f:=f) n).rep 0 hn).1
theorem MoI.done (h:MoI A L cnt) (hA:A.Ok) (he:(mR A (gN L) A.n).length=cnt):Cong A (gN (mC A (gN L) A.n)):=by
 have hnd:=rV (S:=List.range cnt) List.nodup_range h.covers (by rw [List.length_map,List.length_range,he])
 have key:∀ s t,s < A.n→t < A.n→gN L s=gN L t→gN (mC A (gN L) A.n) s=gN (mC A (gN L) A.n) t:=fun s t hs ht e=>by
  obtain ⟨r1,r2⟩:=(mri (A:=A) (f:=gN L) A.n).rep s hs
  obtain ⟨q1,q2⟩:=(mri (A:=A) (f:=gN L) A.n).rep t ht
  rw [rU hs,rU ht]
  refine mM hnd (by rw [List.length_map];exact r1) (by rw [List.length_map];exact q1) ?_
  rw [kV (cls:=gN L) r1,kV (cls:=gN L) q1,(fF.1 r2).1,(fF.1 q2).1,e]
 refine ⟨fun s t hs ht e=>(fF.1 ((xK hs ht).1 e)).2.1,fun s t x hs ht hx e=>key _ _ (hA.t0_ s x hs hx) (hA.t0_ t x ht hx) ((fF.1 ((xK hs ht).1 e)).2.2 x hx)⟩
end
theorem qS:prog.built 25 []=some #[.int .i64 0,.slice none 0 0,.slice none 0 0]:=by kernel_rfl
def zD:DV:=⟨0,none,0,0,[],none,0,0,[]⟩
theorem oK {W:World}:DIn W zD:=⟨fun i r h=>(by cases h),rfl,fun r h=>(by cases h),fun i r h=>(by cases h),rfl,by decide,by decide⟩
theorem tP {W:World} {t:TB} {d:DV} (hT:TOk t) (hd:DOfT t d) (h1:DRo d W) (h2:fE W d.aa d.bs):DIn W d:=by
 have hk1:=hT.k1
 have hn1:=hT.n1
 refine ⟨h1.1,by rw [hd.len,hd.nl],fun r hr=>⟨h1.2 r hr,?_⟩,h2,by rw [hd.bs,hd.al];exact hT.bl,by rw [hd.nl];omega,by rw [hd.al];omega⟩
 obtain ⟨i,hi⟩:=List.getElem?_of_mem hr
 obtain ⟨h4,h5⟩:=hd.row i r hi
 rw [h4,h5]
 exact ⟨by unfold lZ;simp,by omega⟩
theorem nQ {W:World} {a:Option Addr} {bs:List Bool} (h:∀ (i:Nat) u,(bvs bs)[i]?=some u→∃ b off,a=some ⟨b,off,none⟩∧W.cell? ⟨b,off+i * 1,none⟩=some u):fE W a bs:=fun i f hi=>h i _ (by unfold bvs;rw [List.getElem?_map,hi];rfl)
structure LX (d d2:DV) (A:FA):Prop where
 ok:cU d=0→Lst d2 A∧d2.nl≤d.nl
 bad:cU d≠0→d2=zD
theorem xL {d:DV} {q:TB} (he:cU d=0) (hk:(q.k:Int)=d.sy) (hn:q.n≤d.nl):q.k=(dFA d).k∧q.n≤1024∧q.k≤4096∧q.n * q.k≤65536:=by
 obtain ⟨k,hk1,a1,a2,a3,a4,a5,a6⟩:=dD he
 obtain rfl:q.k=k:=by omega
 exact ⟨by show q.k=d.sy.toNat;omega,by omega,a1,Nat.le_trans (Nat.mul_le_mul_right _ hn) a5⟩
theorem xM (d:DV) (Kt:List (Nat×World)) (Ot:Own) (G:bN) (K:List (Nat×World)) (w0 w:World) (hS0:St w0 Ot G K w) (hKt:∀ q∈Kt,q∈K) (hD:cL w0 Kt (fun W=>DIn W d)) (he:cU d≠0) :
  Calls prog 11 #[d.val] w (fun e w'=>e = .returned (.tuple #[zD.val,.int .i64 (cU d)])∧St w0 Ot G K w'):=by
 refine cP (args:=[d.val]) func11 rfl ntmps11 rfl ?_
 have hS:=hS0
 refine aH (aN (cI (cs:=[_,_,_]) hS rfl rfl rfl fun B1 W1 hS=>cE (cs:=[_,_,_]) hS zeroValue25 rfl rfl fun B2 W2 hS=>aB rfl rfl (aK (XF.thenN (aH (aH (aN (bC (vs:=[_,_,_]) isAgg25 sizeOf25 rfl (aT.own (j:=0) (m:=3) (hS.at_ 1 rfl) rfl) rfl (bW (vs:=[_]) lU rfl (lQ d _ (hD (hS.keep K (fun q hq=>by simp [hq])) hKt)) rfl ?_)))))))))
 rintro e W9 ⟨rfl,hb9⟩
 refine ⟨_,rfl,?_⟩
 have hS':=hS.grow hb9;clear hS;have hS:=hS';clear hS'
 refine aB rfl rfl (aK (XF.thenN (aH (aN (aA rfl rfl (dR rfl rfl rfl (aK (XF.thenN (bS rfl (fun hc=>?_) (fun hc=>absurd (of_decide_eq_false hc) (by exact absurd he (of_decide_eq_false hc))))))))))))
 have hc:=of_decide_eq_true hc
 refine aH (aN (dP (us:=[]) rfl (qS) rfl (aA rfl rfl (bU (i:=0) (vs:=[_,_,_]) (cs':=[_,_,_]) (O':=(_::_::Ot)) hS sizeOf25 rfl rfl rfl rfl rfl rfl rfl fun W3 hS=>aB rfl rfl (aK (XF.thenN (cK (XF.thenR (XF.res (gX (vs:=[_,_,_]) results11 isAgg25 sizeOf25 rfl (aT.own (j:=0) (m:=3) (hS.at_ 0 rfl) rfl) rfl) ?_)))))))))
 exact ⟨rfl,(hS.keep K (fun q hq=>by simp [hq])).tail.tail⟩
theorem Ar (d:DV) (Kt:List (Nat×World)) (Ot:Own) (G:bN) (K:List (Nat×World)) (w0 w:World) (hS0:St w0 Ot G K w) (hKt:∀ q∈Kt,q∈K) (hD:cL w0 Kt (fun W=>DIn W d)):Calls prog 11 #[d.val] w (fun e w'=>∃ (d2:DV) (Kn:List (Nat×World)),LX d d2 (dFA d)∧e = .returned (.tuple #[d2.val,.int .i64 (cU d)])∧(∀ q∈K,q∈Kn)∧cL w0 Kn (fun W=>DIn W d2)∧St w0 Ot G Kn w'):=by
 by_cases he:cU d=0
 ·obtain ⟨k,hk,_⟩:=dD he
  refine (Am d k Kt Ot G K w0 w hS0 hKt hD hk he).mono ?_
  rintro e w' ⟨q,d2,Kn,rfl,hL,hsub,hR,hS⟩
  obtain ⟨s1,s2,s3,s4⟩:=xL he hL.k hL.n
  obtain ⟨K2,k2,g2,hS2⟩:=hS.rowKeep
  have hl:=xH (A:=dFA d) hL.ok hL.of hL.ord hL.red hL.eqv s1 s2 s3 s4
  refine ⟨d2,K2,⟨fun _=>⟨hl.1,by rw [hl.2];exact hL.n⟩,fun h=>absurd he h⟩,by rw [he],fun z hz=>k2 z (hsub z hz),fun h9 hk9=>tP hL.ok hL.of (hR h9 (fun z hz=>hk9 z (k2 z hz))) (by rw [hL.of.bs];exact nQ (g2 h9 hk9)),hS2⟩
 ·refine (xM d Kt Ot G K w0 w hS0 hKt hD he).mono ?_
  rintro e w' ⟨rfl,hS⟩
  exact ⟨zD,K,⟨fun h=>absurd h he,fun _=>rfl⟩,rfl,fun z hz=>hz,fun _ _=>oK,hS⟩
theorem tQ (v0:Int) (v1a:Option Addr) (v1l:Nat) (v1c:Nat) (v2a:Option Addr) (v2l:Nat) (v2c:Nat):prog.built 25 [(0,.int .i64 v0),(1,.slice v1a v1l v1c),(2,.slice v2a v2l v2c)]=some #[.int .i64 v0,.slice v1a v1l v1c,.slice v2a v2l v2c]:=by kernel_rfl
theorem bs_22_3 (v0a:Option Addr) (v0l:Nat) (v0c:Nat) (v1a:Option Addr) (v1l:Nat) (v1c:Nat) (v2a:Option Addr) (v2l:Nat) (v2c:Nat):Instr.fill (fun i=>some (i * 1,1)) ((Array.range (3 * 1)).map ((Value.cells (.slice none 0 0))[· % (Value.cells (.slice none 0 0)).size]!)) [(0,.slice v0a v0l v0c),(1,.slice v1a v1l v1c),(2,.slice v2a v2l v2c)]=some (List.toArray [.slice v0a v0l v0c,.slice v1a v1l v1c,.slice v2a v2l v2c]):=by kernel_rfl
theorem bs_23_3 (v0:Bool) (v1:Bool) (v2:Bool):Instr.fill (fun i=>some (i * 1,1)) ((Array.range (3 * 1)).map ((Value.cells (.bool false))[· % (Value.cells (.bool false)).size]!)) [(0,.bool v0),(1,.bool v1),(2,.bool v2)]=some (List.toArray [.bool v0,.bool v1,.bool v2]):=by kernel_rfl
theorem goes_21:cC prog 21=true:=by kernel_rfl
theorem goes_23:cC prog 23=true:=by kernel_rfl
def alD (B1 B2 B3 B4 B5:Nat):DV:=⟨1,some ⟨B4,0,none⟩,3,3,[⟨some ⟨B1,0,none⟩,1,1,[1]⟩,⟨some ⟨B2,0,none⟩,1,1,[2]⟩,⟨some ⟨B3,0,none⟩,1,1,[1]⟩],some ⟨B5,0,none⟩,3,3,[true,false,true]⟩
theorem tR {W:World} {B:Nat} {x:Int} {T:TypeId} (h:W.heap[B]?=some (.cells [Value.int .i64 x].toArray T (0,0))):Row W (some ⟨B,0,none⟩) [x]:=.inr ⟨B,0,rfl,fun i hi=>by
 have:i=0:=by simpa using hi
 subst this
 exact aD h rfl⟩
theorem al_din {W:World} {B1 B2 B3 B4 B5:Nat} {T1 T4 T5:TypeId} (h1:W.heap[B1]?=some (.cells [Value.int .i64 1].toArray T1 (0,0))) (h2:W.heap[B2]?=some (.cells [Value.int .i64 2].toArray T1 (0,0))) (h3:W.heap[B3]?=some (.cells [Value.int .i64 1].toArray T1 (0,0))) (h4:W.heap[B4]?=some (.cells [Value.slice (some ⟨B1,0,none⟩) 1 1,.slice (some ⟨B2,0,none⟩) 1 1,.slice (some ⟨B3,0,none⟩) 1 1].toArray T4 (0,0))) (h5:W.heap[B5]?=some (.cells [Value.bool true,.bool false,.bool true].toArray T5 (0,0))):DIn W (alD B1 B2 B3 B4 B5):=by
 refine ⟨fun i r hi=>⟨B4,0,rfl,?_⟩,rfl,fun r hr=>?_,fun i f hi=>⟨B5,0,rfl,?_⟩,rfl,(show 3≤9223372036854775807 by decide),(show 3≤9223372036854775807 by decide)⟩
 ·refine aD h4 ?_
  match i,hi with
  | 0,hi=>obtain rfl:=Option.some.inj hi;rfl
  | 1,hi=>obtain rfl:=Option.some.inj hi;rfl
  | 2,hi=>obtain rfl:=Option.some.inj hi;rfl
 ·simp only [alD,List.mem_cons,List.not_mem_nil,or_false] at hr
  rcases hr with rfl | rfl | rfl
  ·exact ⟨tR h1,rfl,(show 1≤9223372036854775807 by decide)⟩
  ·exact ⟨tR h2,rfl,(show 1≤9223372036854775807 by decide)⟩
  ·exact ⟨tR h3,rfl,(show 1≤9223372036854775807 by decide)⟩
 ·refine aD h5 ?_
  match i,hi with
  | 0,hi=>obtain rfl:=Option.some.inj hi;rfl
  | 1,hi=>obtain rfl:=Option.some.inj hi;rfl
  | 2,hi=>obtain rfl:=Option.some.inj hi;rfl
theorem al_e {B1 B2 B3 B4 B5:Nat}:cU (alD B1 B2 B3 B4 B5)=0:=by
 unfold cU alD
 rw [if_neg (by simp),if_pos (by simp [lY,inQ])]
def alB:FA:=⟨2,1,fun s _=>1 - s,fun s=>s == 0⟩
theorem alB_ok:alB.Ok:=⟨Nat.succ_pos _,fun s x hs hx=>by show 1 - s < 2;omega⟩
theorem alB_ord:alB.Ord:=by
 refine ⟨fun p hp=>?_,fun i hi=>?_⟩
 ·have hp:p < 2:=hp
  rcases (by omega:p=0∨p=1) with rfl | rfl<;>decide
 ·have hi:i < 2:=hi
  rcases (by omega:i=0∨i=1) with rfl | rfl<;>decide
theorem alB_red:alB.Red:=fun s t hs ht he=>by
 have h:=he [] Wd.nil
 have h:(s == 0)=(t == 0):=h
 have hs:s < 2:=hs
 have ht:t < 2:=ht
 rcases (by omega:s=0∨s=1) with rfl | rfl<;>rcases (by omega:t=0∨t=1) with rfl | rfl<;>first | rfl | cases h
theorem Cz {B1 B2 B3 B4 B5:Nat}:∀ (u:List Nat),Wd 1 u→(dFA (alD B1 B2 B3 B4 B5)).acc 0 u=alB.acc 0 u∧(dFA (alD B1 B2 B3 B4 B5)).acc 1 u=alB.acc 1 u∧(dFA (alD B1 B2 B3 B4 B5)).acc 2 u=alB.acc 0 u
 | [],_=>⟨rfl,rfl,rfl⟩
 | x::u,hu=>by
  obtain rfl:x=0:=by have:=hu.head;omega
  obtain ⟨h1,h2,h3⟩:=Cz (B1:=B1) (B2:=B2) (B3:=B3) (B4:=B4) (B5:=B5) u hu.tail
  exact ⟨h2,h3,h2⟩
def alF (na:Option Addr) (nc:Nat) (a0:Option Addr) (c0:Nat) (a1:Option Addr) (c1:Nat) (aa:Option Addr) (ac:Nat):DV:=⟨1,na,2,nc,[⟨a0,1,c0,[1]⟩,⟨a1,1,c1,[0]⟩],aa,2,ac,[true,false]⟩
theorem C0 {xs:List Int} {y:Nat} (hl:xs.length=1) (hp:∀ z∈xs,0≤z) (h:(xs.getD 0 0).toNat=y):xs=[(y:Int)]:=by
 match xs,hl with
 | [z],_ =>
  have:=hp z List.mem_cons_self
  have h:z.toNat=y:=h
  rw [show z=(y:Int) by omega]
theorem al_form {B1 B2 B3 B4 B5:Nat} {d:DV} (h:Lst d (dFA (alD B1 B2 B3 B4 B5))):∃ na nc a0 c0 a1 c1 aa ac,d=alF na nc a0 c0 a1 c1 aa ac:=by
 obtain ⟨k,hk1,q1,q2,q3,q4,q5,q6⟩:=dD h.e
 have hO:=kH h.e h.len h.xl
 have hE:Eqv (dFA d) 0 alB 0:=Eqv.trans (B:=dFA (alD B1 B2 B3 B4 B5)) h.k h.eqv (fun u hu=>(Cz u hu).1)
 obtain ⟨c1,c2,c3⟩:=nH hO alB_ok h.ord alB_ord h.red alB_red h.k hE
 have hn:d.nl=2:=c1
 have hsy:d.sy.toNat=1:=h.k
 have hk:(dFA d).k=1:=h.k
 have hl:=h.len
 have hbl:=h.bl
 have hxl:=h.xl
 have hnx:=fun (i:Nat) (r:IV) (hr:d.ns[i]?=some r)=>mS h.e h.len h.xl hr (show 0 < d.sy.toNat by omega)
 have f0:(dFA d).nx 0 0=1:=by
  have:=c2 0 (by show 0 < d.nl * d.sy.toNat;rw [hn,hsy];decide)
  rwa [show (dFA d).fl 0=(dFA d).nx 0 0 by unfold FA.fl;rw [hk]] at this
 have f1:(dFA d).nx 1 0=0:=by
  have:=c2 1 (by show 1 < d.nl * d.sy.toNat;rw [hn,hsy];decide)
  rwa [show (dFA d).fl 1=(dFA d).nx 1 0 by unfold FA.fl;rw [hk]] at this
 have b0:=c3 0 (by show 0 < d.nl;omega)
 have b1:=c3 1 (by show 1 < d.nl;omega)
 clear c1 c2 c3 hO hE h
 obtain ⟨sy,na,nl,nc,ns,aa,al,ac,bs⟩:=d
 dsimp only at *
 subst hn
 obtain rfl:sy=1:=by omega
 obtain rfl:al=2:=by omega
 match ns,hl,bs,hbl with
 | [⟨a0,l0,c0,x0⟩,⟨a1,l1,c1,x1⟩],_,[u0,u1],_ =>
  have r0:=q6 ⟨a0,l0,c0,x0⟩ (by simp)
  have r1:=q6 ⟨a1,l1,c1,x1⟩ (by simp)
  have y0:=hxl ⟨a0,l0,c0,x0⟩ (by simp)
  have y1:=hxl ⟨a1,l1,c1,x1⟩ (by simp)
  dsimp only at r0 r1 y0 y1
  obtain rfl:l0=1:=by omega
  obtain rfl:l1=1:=by omega
  have z0:=hnx 0 _ rfl
  have z1:=hnx 1 _ rfl
  rw [f0] at z0
  rw [f1] at z1
  have e0:=C0 y0 (fun z hz=>(r0.2 z hz).1) z0.symm
  have e1:=C0 y1 (fun z hz=>(r1.2 z hz).1) z1.symm
  subst e0;subst e1
  have b0:u0=true:=b0
  have b1:u1=false:=b1
  subst b0;subst b1
  exact ⟨na,nc,a0,c0,a1,c1,aa,ac,rfl⟩
section
variable {na a0 a1 aa:Option Addr} {nc c0 c1 ac:Nat}
theorem C1 {r:Option (List Nat)} (h:FW (dFA (alF na nc a0 c0 a1 c1 aa ac)) r):r=some []:=h.one (B:=dFA (alF na nc a0 c0 a1 c1 aa ac)) (r':=some []) ⟨Wd.nil,rfl,fun u _ _=>Nat.zero_le _⟩ rfl (fun u _=>rfl)
theorem C2:cU (alF na nc a0 c0 a1 c1 aa ac)=0:=by
 unfold cU alF
 rw [if_neg (by simp),if_pos (by simp [lY,inQ])]
theorem C3:mQ (alF na nc a0 c0 a1 c1 aa ac) 4=(1,0):=by
 unfold mQ
 rw [C2,if_neg (by decide),if_neg (by decide)];rfl
end
theorem oL (w:World) :
  Calls prog 10 #[] w (fun e w'=>e = .returned (.bool true)∧Below w.heap.size w w'):=by
 refine cP (args:=[]) func10 rfl ntmps10 rfl ?_
 have hS:=St.start w
 refine aH (aN (aB rfl rfl (aK (XF.thenN (aH (aN (bK (us:=[(0,.int .i64 _)]) hS underlying36 sizeOf3 zeroValue3 rfl rfl rfl (fZ _) rfl fun B1 W1 hS=>bK (us:=[(0,.int .i64 _)]) hS underlying36 sizeOf3 zeroValue3 rfl rfl rfl (fZ _) rfl fun B2 W2 hS=>bK (us:=[(0,.int .i64 _)]) hS underlying36 sizeOf3 zeroValue3 rfl rfl rfl (fZ _) rfl fun B3 W3 hS=>bK (us:=[(0,.slice _ _ _),(1,.slice _ _ _),(2,.slice _ _ _)]) hS underlying22 sizeOf36 zeroValue36 rfl rfl rfl (bs_22_3 _ _ _ _ _ _ _ _ _) rfl fun B4 W4 hS=>bK (us:=[(0,.bool _),(1,.bool _),(2,.bool _)]) hS underlying23 sizeOf4 zeroValue4 rfl rfl rfl (bs_23_3 _ _ _) rfl fun B5 W5 hS=>dP (us:=[(0,.int .i64 _),(1,.slice _ _ _),(2,.slice _ _ _)]) rfl (tQ _ _ _ _ _ _ _) rfl ?_)))))))
 obtain ⟨Ka,ka,g5,hS1⟩:=hS.ownKeep
 obtain ⟨Kb,kb,g4,hS2⟩:=hS1.ownKeep
 obtain ⟨Kc,kc,g3,hS3⟩:=hS2.ownKeep
 obtain ⟨Kd,kd,g2,hS4⟩:=hS3.ownKeep
 obtain ⟨Ke,ke,g1,hS5⟩:=hS4.ownKeep
 have hD0:cL w Ke (fun W=>DIn W (alD B1 B2 B3 B4 B5)):=fun h9 hk9=>al_din (g1 h9 hk9) (g2 h9 (fun q hq=>hk9 q (ke q hq))) (g3 h9 (fun q hq=>hk9 q (ke q (kd q hq)))) (g4 h9 (fun q hq=>hk9 q (ke q (kd q (kc q hq))))) (g5 h9 (fun q hq=>hk9 q (ke q (kd q (kc q (kb q hq))))))
 refine bW (vs:=[_]) goes_11 rfl (Ar (alD B1 B2 B3 B4 B5) Ke _ _ Ke w _ hS5 (fun q hq=>hq) hD0) rfl ?_
 rintro e W9 ⟨d2,K6,hLX,rfl,hk6,hD2,hS9⟩
 obtain ⟨na,nc,a0,c0,a1,c1,aa,ac,rfl⟩:=al_form (hLX.ok al_e).1
 rw [al_e]
 refine ⟨_,rfl,?_⟩
 clear hS hS1 hS2 hS3 hS4 hS5;have hS:=hS9;clear hS9
 refine aA rfl rfl (bO rfl rfl rfl (bO rfl rfl rfl (cE (cs:=[_,_,_]) hS zeroValue25 rfl rfl fun B6 W6 hS=>bU (i:=0) (vs:=[_,_,_]) (cs':=[_,_,_]) (O':=[_]) hS sizeOf25 rfl rfl rfl rfl rfl rfl rfl fun W7 hS=>aB rfl rfl (aK (XF.thenN (aH (aN (bC (vs:=[_,_,_]) isAgg25 sizeOf25 rfl (aT.own (j:=0) (m:=3) (hS.at_ 0 rfl) rfl) rfl (bW (vs:=[_]) goes_21 rfl (Ap (alF na nc a0 c0 a1 c1 aa ac) K6 _ _ K6 w _ (hS.keep K6 (fun q hq=>by simp [hq])) (fun q hq=>hq) hD2) rfl ?_)))))))))
 rintro e W9 ⟨r,wa,wc,K7,hF,_,rfl,hk7,hR7,hS9⟩
 obtain rfl:=C1 (hF C2)
 rw [C2]
 refine ⟨_,rfl,?_⟩
 clear hS;have hS:=hS9;clear hS9
 refine aA rfl rfl (bO rfl rfl rfl (bO rfl rfl rfl (bO rfl rfl rfl (aB rfl rfl (aB rfl rfl (aB rfl rfl (aK (XF.thenN (aH (aN (bC (vs:=[_,_,_]) isAgg25 sizeOf25 rfl (aT.own (j:=0) (m:=3) (hS.at_ 0 rfl) rfl) rfl (bW (vs:=[_,_]) goes_23 rfl (xG (alF na nc a0 c0 a1 c1 aa ac) 4 _ (hD2 (hS.keep K7 (fun q hq=>by simp [hq])) (fun q hq=>hk7 q hq))) rfl ?_))))))))))))
 rintro e W9 ⟨rfl,hb9⟩
 rw [C3]
 refine ⟨_,rfl,?_⟩
 have hS':=hS.grow hb9;clear hS;have hS:=hS';clear hS'
 refine aA rfl rfl (bO rfl rfl rfl (bO rfl rfl rfl (aB rfl rfl (aB rfl rfl (aK (XF.thenN (aH ?_)))))))
 have hDI:=hD2 (hS.keep K7 (fun q hq=>by simp [hq])) (fun q hq=>hk7 q hq)
 obtain ⟨nb,no,rfl,hn0⟩:=hDI.nrow 0 _ rfl
 obtain ⟨nb2,no2,hna2,hn1⟩:=hDI.nrow 1 _ rfl
 obtain ⟨rfl,rfl⟩:nb2=nb∧no2=no:=by injection hna2 with h;injection h with h1 h2;exact ⟨h1.symm,h2.symm⟩
 obtain ⟨b0,o0,y0,hra0,hy0,hc0⟩:=(hDI.rin _ (List.mem_cons_self)).1.at1 (i:=0) (show 0 < 1 by decide)
 obtain ⟨b1,o1,y1,hra1,hy1,hc1⟩:=(hDI.rin _ (List.mem_cons_of_mem _ List.mem_cons_self)).1.at1 (i:=0) (show 0 < 1 by decide)
 obtain rfl:y0=1:=(Option.some.inj hy0).symm
 obtain rfl:y1=0:=(Option.some.inj hy1).symm
 obtain ⟨ab,ao,haa,hab⟩:=hDI.arow 0 _ rfl
 dsimp only [alF] at haa hra0 hra1
 subst haa hra0 hra1
 refine aN (aA rfl rfl (fD rfl rfl rfl (aA rfl rfl (bZ (d:=31) rfl (fun hc=>?_) (fun hc=>absurd (of_decide_eq_false hc) (by omega))))))
 have hc:=of_decide_eq_true hc
 refine aE (d:=31) rfl rfl (aA rfl rfl (aE (d:=31) rfl rfl (fD rfl rfl rfl (bI rfl rfl rfl (aA rfl rfl (bZ (d:=35) rfl (fun hc=>?_) (fun hc=>absurd (of_decide_eq_false hc) (by omega))))))))
 have hc:=of_decide_eq_true hc
 refine aE (d:=35) rfl rfl (aA rfl rfl (aE (d:=35) rfl rfl (fD rfl rfl rfl (bI rfl rfl rfl (aA rfl rfl (bZ (d:=39) rfl (fun hc=>?_) (fun hc=>absurd (of_decide_eq_false hc) (by omega))))))))
 have hc:=of_decide_eq_true hc
 refine aE (d:=39) rfl rfl (aU (o':=1) cO rfl rfl rfl (aE (d:=39) rfl rfl (aP isAgg22 rfl (aD (hS.at_ 0 rfl) rfl) rfl (aE (d:=39) rfl rfl (bX underlying22 rfl rfl (aE (d:=39) rfl rfl (fD rfl rfl rfl (bI rfl rfl rfl (aA rfl rfl (bZ (d:=45) rfl (fun hc=>?_) (fun hc=>absurd (of_decide_eq_false hc) (by simp [alF]))))))))))))
 have hc:=of_decide_eq_true hc
 refine aE (d:=45) rfl rfl (aU (o':=1) cO rfl rfl rfl (aE (d:=45) rfl rfl (aP isAgg22 rfl (aD (hS.at_ 0 rfl) rfl) rfl (aE (d:=45) rfl rfl (aX (j:=0) (b:=nb2) (o:=no2) (m:=2) (c:=nc) underlying22 sizeOf36 rfl rfl rfl (by decide) rfl rfl (aE (d:=45) rfl rfl (aP isAgg36 rfl (hn0) rfl (aE (d:=45) rfl rfl (aX (j:=0) (b:=b0) (o:=o0) (m:=1) (c:=c0) underlying36 sizeOf3 rfl rfl rfl (by decide) rfl rfl (aE (d:=45) rfl rfl (aP isAgg3 rfl (hc0) rfl (aE (d:=45) rfl rfl (fD rfl rfl rfl (bI rfl rfl rfl (aA rfl rfl (bZ (d:=54) rfl (fun hc=>?_) (fun hc=>absurd (of_decide_eq_false hc) (by omega))))))))))))))))))
 have hc:=of_decide_eq_true hc
 refine aE (d:=54) rfl rfl (aU (o':=1) cO rfl rfl rfl (aE (d:=54) rfl rfl (aP isAgg22 rfl (aD (hS.at_ 0 rfl) rfl) rfl (aE (d:=54) rfl rfl (aX (j:=1) (b:=nb2) (o:=no2) (m:=2) (c:=nc) underlying22 sizeOf36 rfl rfl rfl (by decide) rfl rfl (aE (d:=54) rfl rfl (aP isAgg36 rfl (hn1) rfl (aE (d:=54) rfl rfl (aX (j:=0) (b:=b1) (o:=o1) (m:=1) (c:=c1) underlying36 sizeOf3 rfl rfl rfl (by decide) rfl rfl (aE (d:=54) rfl rfl (aP isAgg3 rfl (hc1) rfl (aE (d:=54) rfl rfl (fD rfl rfl rfl (bI rfl rfl rfl (aA rfl rfl (bZ (d:=63) rfl (fun hc=>?_) (fun hc=>absurd (of_decide_eq_false hc) (by omega))))))))))))))))))
 have hc:=of_decide_eq_true hc
 refine aE (d:=63) rfl rfl (aU (o':=2) cT rfl rfl rfl (aE (d:=63) rfl rfl (aP isAgg23 rfl (aD (hS.at_ 0 rfl) rfl) rfl (aE (d:=63) rfl rfl (aX (j:=0) (b:=ab) (o:=ao) (m:=2) (c:=ac) underlying23 sizeOf4 rfl rfl rfl (by decide) rfl rfl (aE (d:=63) rfl rfl (aP isAgg4 rfl (hab) rfl (bI rfl rfl rfl (aA rfl rfl (bZ (d:=69) rfl (fun hc=>?_) (fun hc=>absurd hc (by decide))))))))))))
 skip
 refine aE (d:=69) rfl rfl (aA rfl rfl (bI rfl rfl rfl (aA rfl rfl (bZ (d:=72) rfl (fun hc=>?_) (fun hc=>absurd hc (by decide))))))
 skip
 refine aE (d:=72) rfl rfl (aA rfl rfl (aE (d:=72) rfl rfl (bX underlying36 rfl rfl (aE (d:=72) rfl rfl (fD rfl rfl rfl (bI rfl rfl rfl (aA rfl rfl (bZ (d:=77) rfl (fun hc=>?_) (fun hc=>absurd (of_decide_eq_false hc) (by simp))))))))))
 have hc:=of_decide_eq_true hc
 refine aE (d:=77) rfl rfl (aA rfl rfl (aE (d:=77) rfl rfl (fD rfl rfl rfl (bI rfl rfl rfl (aB rfl rfl (aK (XF.thenN (cK (XF.res (cZ results10 rfl) ?_)))))))))
 exact ⟨rfl,hS.below⟩
theorem tS:cC prog 10=true:=by kernel_rfl
theorem zK:cC prog 17=true:=by kernel_rfl
theorem goes_30:cC prog 30=true:=by kernel_rfl
theorem C4:cC prog 9=true:=by kernel_rfl
theorem jM {w:World} {d:DV} (h:DIn w d) (he:cU d=0):(dFA d).Ok:=kH he h.nlen (fun r hr=>(h.rin r hr).2.1)
theorem fB {w:World} {d:DV} (h:DIn w d):cL w [] (fun W=>DIn W d):=fun h9 _=>h.below h9.below
theorem C5 {a b:DV} (h1:cU a=0) (h2:cU b=0) (h3:a.sy=b.sy):cQ a b=0:=by unfold cQ;rw [if_neg (by omega),if_neg (by omega),if_neg (by omega)]
theorem kI {W:World} {a:Option Addr} {L:List Nat} {i:Nat} (h:Row W a (wI L)) (hi:i < L.length):∃ b off,a=some ⟨b,off,none⟩∧W.cell? ⟨b,off+i * 1,none⟩=some (.int .i64 ((gN L i:Nat):Int)):=by
 obtain ⟨b,off,y,e,hy,hc⟩:=h.at1 (i:=i) (by rw [qO];exact hi)
 refine ⟨b,off,e,?_⟩
 have hy2:y=((gN L i:Nat):Int):=by
  unfold wI at hy;rw [List.getElem?_map,uM hi] at hy;exact (Option.some.inj hy).symm
 rw [← hy2];exact hc
theorem xN {A:FA} {f:Nat→Nat} {a b:Nat} (h:¬ (f a=f b∧A.ac a=A.ac b∧∀ x,x < A.k→f (A.nx a x)=f (A.nx b x))):iA A f a b=false:=by
 cases e:iA A f a b with
 | false=>rfl
 | true=>exact absurd (fF.1 e) h
theorem oM {W:World} {d:DV} (hd:DIn W d) (he:cU d=0) {s x:Nat} (hs:s < d.nl) (hx:(x:Int) < d.sy):∃ (r:IV) (nb no:Nat) (rb ro:Nat),d.na=some ⟨nb,no,none⟩∧W.cell? ⟨nb,no+s * 1,none⟩=some r.val∧r.a=some ⟨rb,ro,none⟩∧(r.l:Int)=d.sy∧W.cell? ⟨rb,ro+x * 1,none⟩=some (.int .i64 (((dFA d).nx s x:Nat):Int))∧(dFA d).nx s x < d.nl:=by
 obtain ⟨k,hk,h1,h2,h3,h4,h5,h6⟩:=dD he
 obtain ⟨r,hr⟩:∃ r,d.ns[s]?=some r:=⟨_,List.getElem?_eq_getElem (by rw [hd.nlen];exact hs)⟩
 obtain ⟨nb,no,hna,hcs⟩:=hd.nrow _ r hr
 have hrm:=List.mem_of_getElem? hr
 obtain ⟨hrr,hrl,_⟩:=hd.rin r hrm
 obtain ⟨hr6,hr7⟩:=h6 r hrm
 obtain ⟨rb,ro,z,hra,hz,hzc⟩:=hrr.at1 (i:=x) (by omega)
 have hzv:=hr7 z (List.mem_of_getElem? hz)
 have e:(((dFA d).nx s x:Nat):Int)=z:=by
  rw [mS he hd.nlen (fun r hr=>(hd.rin r hr).2.1) hr (by omega),List.getD_eq_getElem?_getD,hz]
  exact Int.toNat_of_nonneg hzv.1
 exact ⟨r,nb,no,rb,ro,hna,hcs,hra,by omega,by rw [e];exact hzc,(jM hd he).t0_ s x hs (by show x < d.sy.toNat;omega)⟩
theorem As (d:DV) (oa:Option Addr) (oc:Nat) (L:List Nat) (a b:Nat) (w:World) (hd:DIn w d) (hL:Row w oa (wI L)) (hll:L.length=d.nl) (he:cU d=0) (ha:a < d.nl) (hb9:b < d.nl) :
  Calls prog 65 #[d.val,.slice oa d.nl oc,.int .i64 (a:Int),.int .i64 (b:Int)] w (fun e w'=>e = .returned (.bool (iA (dFA d) (gN L) a b))∧Below w.heap.size w w'):=by
 refine cP (args:=[d.val,.slice oa d.nl oc,.int .i64 (a:Int),.int .i64 (b:Int)]) func65 rfl ntmps65 rfl ?_
 have hS:=St.start w
 obtain ⟨k,hk,h1,h2,h3,h4,h5,h6⟩:=dD he
 refine aH (aN (cI (cs:=[_,_,_]) hS rfl rfl rfl fun B1 W1 hS=>aB rfl rfl (aK (XF.thenN (aH (aH ?_))))))
 rcases Nat.decEq (gN L a) (gN L b) with hc1 | hc1
 ·skip
  have hd1:=hd.below hS.below
  have hL1:=hL.below hS.below
  obtain ⟨ob,oo,hoa,k1⟩:=kI hL1 (i:=a) (by omega)
  obtain ⟨ob2,oo2,hoa2,k2⟩:=kI hL1 (i:=b) (by omega)
  obtain ⟨rfl,rfl⟩:ob2=ob∧oo2=oo:=by
   have h8:=hoa2.symm.trans hoa
   injection h8 with h8;injection h8 with h7 h8
   exact ⟨h7,h8⟩
  obtain ⟨ab,ao,ya,haa,hya,hyac⟩:=fE.at9 hd1.arow (i:=a) (by rw [hd.alen];omega)
  obtain ⟨bb,bo,yb,hba,hyb,hybc⟩:=fE.at9 hd1.arow (i:=b) (by rw [hd.alen];omega)
  obtain ⟨rfl,rfl⟩:bb=ab∧bo=ao:=by
   have h8:=hba.symm.trans haa
   injection h8 with h8;injection h8 with h7 h8
   exact ⟨h7,h8⟩
  have hyaE:(dFA d).ac a=ya:=by show d.bs.getD a false=ya;rw [List.getD_eq_getElem?_getD,hya];rfl
  have hybE:(dFA d).ac b=yb:=by show d.bs.getD b false=yb;rw [List.getD_eq_getElem?_getD,hyb];rfl
  refine iF (m:=22) cA hS (by kernel_rfl) (by kernel_rfl) rfl (bR 1 rfl 1 rfl rfl (fun w hw=>aV rfl) rfl (bR 2 rfl 2 rfl rfl (fun w hw=>aV rfl) rfl ?_))
  refine aZ 3 rfl (isV _) (aW _) (rgV (li:=[(10,_),(11,_)]) rfl (aL rfl) ⟨aJ 0 (aC rfl rfl rfl),aJ 1 (aC rfl rfl rfl),trivial⟩ (fun w hw=>bE (j:=a) (b:=ob2) (o:=oo2) (m:=d.nl) (c:=oc) underlying36 sizeOf3 (by show some (Value.slice _ _ _)=_;rw [hoa]) rfl rfl (by omega) rfl) (aG rfl)) ?_
  refine bF 4 rfl 12 2 rfl rfl rfl (fun w hw=>aY isAgg3 rfl ((aO hw 0).cell (Nat.zero_le _) (k1))) rfl (bR 5 rfl 1 rfl rfl (fun w hw=>aV rfl) rfl (bR 6 rfl 3 rfl rfl (fun w hw=>aV rfl) rfl ?_))
  refine aZ 7 rfl (isV _) (aW _) (rgV (li:=[(14,_),(15,_)]) rfl (aL rfl) ⟨aJ 4 (aC rfl rfl rfl),aJ 5 (aC rfl rfl rfl),trivial⟩ (fun w hw=>bE (j:=b) (b:=ob2) (o:=oo2) (m:=d.nl) (c:=oc) underlying36 sizeOf3 (by show some (Value.slice _ _ _)=_;rw [hoa]) rfl rfl (by omega) rfl) (aG rfl)) ?_
  refine bF 8 rfl 16 6 rfl rfl rfl (fun w hw=>aY isAgg3 rfl ((aO hw 0).cell (Nat.zero_le _) (k2))) rfl (aZ 9 rfl (isV (.bool true)) (aW _) (uE (li:=[(13,_),(17,_)]) rfl (aL rfl) ⟨aJ 3 (aC rfl rfl rfl),aJ 7 (aC rfl rfl rfl),trivial⟩ (fun w hw=>kN rfl rfl) (by rw [decide_eq_true (show ((gN L a:Nat):Int)≠((gN L b:Nat):Int) by omega)]) (aG rfl)) (bF 10 rfl 18 8 rfl rfl rfl (fun w hw=>aV rfl) rfl (aZ 11 rfl (isV undef) (aW _) (gF rfl (gG 19 rfl (aC rfl rfl rfl) rfl) (aG rfl)) (aZ 12 rfl (isV undef) (aW _) (gF rfl (gG 19 rfl (aC rfl rfl rfl) rfl) (aG rfl)) (aZ 13 rfl (isV undef) (aW _) (gF rfl (gG 19 rfl (aC rfl rfl rfl) rfl) (aG rfl)) (aZ 14 rfl (isV undef) (aW _) (gF rfl (gG 19 rfl (aC rfl rfl rfl) rfl) (aG rfl)) (aZ 15 rfl (isV undef) (aW _) (gF rfl (gG 19 rfl (aC rfl rfl rfl) rfl) (aG rfl)) (aZ 16 rfl (isV undef) (aW _) (gF rfl (gG 19 rfl (aC rfl rfl rfl) rfl) (aG rfl)) (aZ 17 rfl (isV undef) (aW _) (gF rfl (gG 19 rfl (aC rfl rfl rfl) rfl) (aG rfl)) (aZ 18 rfl (isV undef) (aW _) (gF rfl (gG 19 rfl (aC rfl rfl rfl) rfl) (aG rfl)) (aZ 19 rfl (isV undef) (aW _) (gF rfl (gG 19 rfl (aC rfl rfl rfl) rfl) (aG rfl)) (aZ 20 rfl (isV undef) (aW _) (gF rfl (gG 19 rfl (aC rfl rfl rfl) rfl) (aG rfl)) (aZ 21 rfl (isV undef) (aW _) (gF rfl (gG 19 rfl (aC rfl rfl rfl) rfl) (aG rfl)) (bF 22 rfl 19 9 rfl rfl rfl (fun w hw=>pO rfl rfl) rfl (dJ ?_)))))))))))))))
  intro W2 hbR hS'
  clear hS;have hS:=hS';clear hS'
  refine aI (aI (aI (aI (aI (aI (aI (aI (aI (aI (aI (aI (aI (aI (aI (aI (aI (aI (aI (aI (aI (aI (cN (XF.thenN (fT rfl (aH (aN (aB rfl rfl (aK (XF.thenN (cK (XF.thenR (XF.res (cZ results65 rfl) ?_))))))))))))))))))))))))))))))))
  exact ⟨by rw [xN (fun h=>hc1 h.1)],hS.below⟩
 ·skip
  have hd1:=hd.below hS.below
  have hL1:=hL.below hS.below
  obtain ⟨ob,oo,hoa,k1⟩:=kI hL1 (i:=a) (by omega)
  obtain ⟨ob2,oo2,hoa2,k2⟩:=kI hL1 (i:=b) (by omega)
  obtain ⟨rfl,rfl⟩:ob2=ob∧oo2=oo:=by
   have h8:=hoa2.symm.trans hoa
   injection h8 with h8;injection h8 with h7 h8
   exact ⟨h7,h8⟩
  obtain ⟨ab,ao,ya,haa,hya,hyac⟩:=fE.at9 hd1.arow (i:=a) (by rw [hd.alen];omega)
  obtain ⟨bb,bo,yb,hba,hyb,hybc⟩:=fE.at9 hd1.arow (i:=b) (by rw [hd.alen];omega)
  obtain ⟨rfl,rfl⟩:bb=ab∧bo=ao:=by
   have h8:=hba.symm.trans haa
   injection h8 with h8;injection h8 with h7 h8
   exact ⟨h7,h8⟩
  have hyaE:(dFA d).ac a=ya:=by show d.bs.getD a false=ya;rw [List.getD_eq_getElem?_getD,hya];rfl
  have hybE:(dFA d).ac b=yb:=by show d.bs.getD b false=yb;rw [List.getD_eq_getElem?_getD,hyb];rfl
  refine iF (m:=22) cA hS (by kernel_rfl) (by kernel_rfl) rfl (bR 1 rfl 1 rfl rfl (fun w hw=>aV rfl) rfl (bR 2 rfl 2 rfl rfl (fun w hw=>aV rfl) rfl ?_))
  refine aZ 3 rfl (isV _) (aW _) (rgV (li:=[(10,_),(11,_)]) rfl (aL rfl) ⟨aJ 0 (aC rfl rfl rfl),aJ 1 (aC rfl rfl rfl),trivial⟩ (fun w hw=>bE (j:=a) (b:=ob2) (o:=oo2) (m:=d.nl) (c:=oc) underlying36 sizeOf3 (by show some (Value.slice _ _ _)=_;rw [hoa]) rfl rfl (by omega) rfl) (aG rfl)) ?_
  refine bF 4 rfl 12 2 rfl rfl rfl (fun w hw=>aY isAgg3 rfl ((aO hw 0).cell (Nat.zero_le _) (k1))) rfl (bR 5 rfl 1 rfl rfl (fun w hw=>aV rfl) rfl (bR 6 rfl 3 rfl rfl (fun w hw=>aV rfl) rfl ?_))
  refine aZ 7 rfl (isV _) (aW _) (rgV (li:=[(14,_),(15,_)]) rfl (aL rfl) ⟨aJ 4 (aC rfl rfl rfl),aJ 5 (aC rfl rfl rfl),trivial⟩ (fun w hw=>bE (j:=b) (b:=ob2) (o:=oo2) (m:=d.nl) (c:=oc) underlying36 sizeOf3 (by show some (Value.slice _ _ _)=_;rw [hoa]) rfl rfl (by omega) rfl) (aG rfl)) ?_
  refine bF 8 rfl 16 6 rfl rfl rfl (fun w hw=>aY isAgg3 rfl ((aO hw 0).cell (Nat.zero_le _) (k2))) rfl (aZ 9 rfl (isV (.bool false)) (aW _) (uE (li:=[(13,_),(17,_)]) rfl (aL rfl) ⟨aJ 3 (aC rfl rfl rfl),aJ 7 (aC rfl rfl rfl),trivial⟩ (fun w hw=>kN rfl rfl) (by rw [decide_eq_false (show ¬ ((gN L a:Nat):Int)≠((gN L b:Nat):Int) by omega)]) (aG rfl)) (bF 10 rfl 18 8 rfl rfl rfl (fun w hw=>aV rfl) rfl (aZ 11 rfl (isV _) (aW _) (rgV (li:=[(4,_)]) rfl (eL 19 rfl (aC rfl rfl rfl)) ⟨cD rfl,trivial⟩ (fun w hw=>bA (o':=2) cT rfl rfl) (aG rfl)) (aZ 12 rfl (isV _) (aW _) (rgV (li:=[(20,_)]) rfl (eL 19 rfl (aC rfl rfl rfl)) ⟨aJ 10 (aC rfl rfl rfl),trivial⟩ (fun w hw=>aY isAgg23 rfl ((aO hw 0).cell (Nat.zero_le _) (aD (hS.at_ 0 rfl) rfl))) (aG rfl)) (aZ 13 rfl (isV _) (aW _) (rgV (li:=[(2,_)]) rfl (eL 19 rfl (aC rfl rfl rfl)) ⟨cD rfl,trivial⟩ (fun w hw=>aV rfl) (aG rfl)) ?_)))))
  refine aZ 14 rfl (isV _) (aW _) (rgV (li:=[(21,_),(22,_)]) rfl (eL 19 rfl (aC rfl rfl rfl)) ⟨aJ 11 (aC rfl rfl rfl),aJ 12 (aC rfl rfl rfl),trivial⟩ (fun w hw=>bE (j:=a) (b:=bb) (o:=bo) (m:=d.al) (c:=d.ac) underlying23 sizeOf4 (by show some (Value.slice d.aa _ _)=_;rw [haa]) rfl rfl (by omega) rfl) (aG rfl)) ?_
  refine aZ 15 rfl (isV _) (aW _) (rgV (li:=[(23,_)]) rfl (eL 19 rfl (aC rfl rfl rfl)) ⟨aJ 13 (aC rfl rfl rfl),trivial⟩ (fun w hw=>aY isAgg4 rfl ((aO hw 0).cell (Nat.zero_le _) (hyac))) (aG rfl)) (aZ 16 rfl (isV _) (aW _) (rgV (li:=[(4,_)]) rfl (eL 19 rfl (aC rfl rfl rfl)) ⟨cD rfl,trivial⟩ (fun w hw=>bA (o':=2) cT rfl rfl) (aG rfl)) (aZ 17 rfl (isV _) (aW _) (rgV (li:=[(25,_)]) rfl (eL 19 rfl (aC rfl rfl rfl)) ⟨aJ 15 (aC rfl rfl rfl),trivial⟩ (fun w hw=>aY isAgg23 rfl ((aO hw 0).cell (Nat.zero_le _) (aD (hS.at_ 0 rfl) rfl))) (aG rfl)) (aZ 18 rfl (isV _) (aW _) (rgV (li:=[(3,_)]) rfl (eL 19 rfl (aC rfl rfl rfl)) ⟨cD rfl,trivial⟩ (fun w hw=>aV rfl) (aG rfl)) ?_)))
  refine aZ 19 rfl (isV _) (aW _) (rgV (li:=[(26,_),(27,_)]) rfl (eL 19 rfl (aC rfl rfl rfl)) ⟨aJ 16 (aC rfl rfl rfl),aJ 17 (aC rfl rfl rfl),trivial⟩ (fun w hw=>bE (j:=b) (b:=bb) (o:=bo) (m:=d.al) (c:=d.ac) underlying23 sizeOf4 (by show some (Value.slice d.aa _ _)=_;rw [haa]) rfl rfl (by omega) rfl) (aG rfl)) ?_
  refine aZ 20 rfl (isV _) (aW _) (rgV (li:=[(28,_)]) rfl (eL 19 rfl (aC rfl rfl rfl)) ⟨aJ 18 (aC rfl rfl rfl),trivial⟩ (fun w hw=>aY isAgg4 rfl ((aO hw 0).cell (Nat.zero_le _) (hybc))) (aG rfl)) (aZ 21 rfl (isV _) (aW _) (rgV (li:=[(24,_),(29,_)]) rfl (eL 19 rfl (aC rfl rfl rfl)) ⟨aJ 14 (aC rfl rfl rfl),aJ 19 (aC rfl rfl rfl),trivial⟩ (fun w hw=>xY underlying4 rfl rfl) (aG rfl)) (aZ 22 rfl (isV _) (aW _) (rgV (li:=[(19,_),(30,_)]) rfl (aL rfl) ⟨aJ 9 (aC rfl rfl rfl),aJ 20 (aC rfl rfl rfl),trivial⟩ (fun w hw=>pP rfl rfl) (aG rfl)) (dJ ?_)))
  intro W3 hbR hS'
  clear hS;have hS:=hS';clear hS'
  refine aI (aI (aI (aI (aI (aI (aI (aI (aI (aI (aI (aI (aI (aI (aI (aI (aI (aI (aI (aI (aI (aI (cN (XF.thenN (bS rfl (fun hc=>?_) (fun hc=>?_)))))))))))))))))))))))))
  ·have hc31:=hc;clear hc
   refine aH (aN (aB rfl rfl (aK (XF.thenN (cK (XF.thenR (XF.res (cZ results65 rfl) ?_)))))))
   exact ⟨by rw [xN (fun h=>by have h9:=h.2.1;rw [hyaE,hybE] at h9;rw [h9] at hc31;simp at hc31)],hS.below⟩
  ·have hc31:=hc;clear hc
   have hac:(dFA d).ac a=(dFA d).ac b:=by rw [hyaE,hybE];simpa using hc31
   refine bV (XF.thenN (aH (aH (aN (aB rfl rfl (aK (XF.thenN (bH (cW (fun m l W=>∃ x:Nat,(x:Int)≤d.sy∧m=d.sy.toNat - x∧l=[(1,.slice oa d.nl oc),(2,.int .i64 (a:Int)),(3,.int .i64 (b:Int)),(4,.pointer (some ⟨B1,0,none⟩)),(9,.int .i64 (x:Int))]∧(∀ y,y < x→gN L ((dFA d).nx a y)=gN L ((dFA d).nx b y))∧St w [(B1,[.int .i64 d.sy,.slice d.na d.nl d.nc,.slice d.aa d.al d.ac],25)] [] [] W) (d.sy.toNat - 0) ([(1,_),(2,_),(3,_),(4,_),(9,_)]) ⟨rfl,rfl,rfl,rfl,rfl,trivial⟩ (⟨0,by omega,rfl,rfl,fun y hy=>absurd hy (Nat.not_lt_zero _),hS.clear⟩) ?_)))))))))
   clear hS
   rintro m l W ⟨x,hx,rfl,rfl,hal,hS⟩
   refine aH (aH (aN (aA rfl rfl (aU (o':=0) dC rfl rfl rfl (aP isAgg3 rfl (aD (hS.at_ 0 rfl) rfl) rfl (cH rfl rfl rfl (aK (XF.thenN (bS rfl (fun hc=>?_) (fun hc=>?_))))))))))
   ·have hc35:=of_decide_eq_true hc;clear hc
    have hd1:=hd.below hS.below
    have hL1:=hL.below hS.below
    obtain ⟨r1,nb,no,rb,ro,hna,q1,hra,hrl,q2,hlta⟩:=oM hd1 he ha hc35
    obtain ⟨r2,nb2,no2,rb2,ro2,hna2,q3,hra2,hrl2,q4,hltb⟩:=oM hd1 he hb9 hc35
    obtain ⟨rfl,rfl⟩:nb2=nb∧no2=no:=by
     have h8:=hna2.symm.trans hna
     injection h8 with h8;injection h8 with h7 h8
     exact ⟨h7,h8⟩
    obtain ⟨pb,po,hoa,k1⟩:=kI hL1 (i:=(dFA d).nx a x) (by omega)
    obtain ⟨pb2,po2,hoa2,k2⟩:=kI hL1 (i:=(dFA d).nx b x) (by omega)
    obtain ⟨rfl,rfl⟩:pb2=pb∧po2=po:=by
     have h8:=hoa2.symm.trans hoa
     injection h8 with h8;injection h8 with h7 h8
     exact ⟨h7,h8⟩
    refine bV (XF.thenN (aH (bH (aH (iF (m:=23) cA hS (by kernel_rfl) (by kernel_rfl) rfl (bR 1 rfl 1 rfl rfl (fun w hw=>aV rfl) rfl (bR 2 rfl 4 rfl rfl (fun w hw=>bA (o':=1) cO rfl rfl) rfl (bF 3 rfl 39 1 rfl rfl rfl (fun w hw=>aY isAgg22 rfl ((aO hw 0).cell (Nat.zero_le _) (aD (hS.at_ 0 rfl) rfl))) rfl (bR 4 rfl 2 rfl rfl (fun w hw=>aV rfl) rfl ?_)))))))))
    refine aZ 5 rfl (isV _) (aW _) (rgV (li:=[(40,_),(41,_)]) rfl (aL rfl) ⟨aJ 2 (aC rfl rfl rfl),aJ 3 (aC rfl rfl rfl),trivial⟩ (fun w hw=>bE (j:=a) (b:=nb2) (o:=no2) (m:=d.nl) (c:=d.nc) underlying22 sizeOf36 (by show some (Value.slice _ _ _)=_;rw [hna]) rfl rfl (by omega) rfl) (aG rfl)) ?_
    refine bF 6 rfl 42 4 rfl rfl rfl (fun w hw=>aY isAgg36 rfl ((aO hw 0).cell (Nat.zero_le _) (q1))) rfl (bR 7 rfl 9 rfl rfl (fun w hw=>aV rfl) rfl ?_)
    refine aZ 8 rfl (isV _) (aW _) (rgV (li:=[(43,_),(44,_)]) rfl (aL rfl) ⟨aJ 5 (aC rfl rfl rfl),aJ 6 (aC rfl rfl rfl),trivial⟩ (fun w hw=>bE (j:=x) (b:=rb) (o:=ro) (m:=r1.l) (c:=r1.c) underlying36 sizeOf3 (by show some (Value.slice _ _ _)=_;rw [hra]) rfl (by omega) (by omega) rfl) (aG rfl)) ?_
    refine bF 9 rfl 45 7 rfl rfl rfl (fun w hw=>aY isAgg3 rfl ((aO hw 0).cell (Nat.zero_le _) (q2))) rfl ?_
    refine aZ 10 rfl (isV _) (aW _) (rgV (li:=[(38,_),(46,_)]) rfl (aL rfl) ⟨aJ 0 (aC rfl rfl rfl),aJ 8 (aC rfl rfl rfl),trivial⟩ (fun w hw=>bE (j:=(dFA d).nx a x) (b:=pb2) (o:=po2) (m:=d.nl) (c:=oc) underlying36 sizeOf3 (by show some (Value.slice _ _ _)=_;rw [hoa]) rfl rfl (by omega) rfl) (aG rfl)) ?_
    refine bF 11 rfl 47 9 rfl rfl rfl (fun w hw=>aY isAgg3 rfl ((aO hw 0).cell (Nat.zero_le _) (k1))) rfl (bR 12 rfl 1 rfl rfl (fun w hw=>aV rfl) rfl (bR 13 rfl 4 rfl rfl (fun w hw=>bA (o':=1) cO rfl rfl) rfl (bF 14 rfl 50 12 rfl rfl rfl (fun w hw=>aY isAgg22 rfl ((aO hw 0).cell (Nat.zero_le _) (aD (hS.at_ 0 rfl) rfl))) rfl (bR 15 rfl 3 rfl rfl (fun w hw=>aV rfl) rfl ?_))))
    refine aZ 16 rfl (isV _) (aW _) (rgV (li:=[(51,_),(52,_)]) rfl (aL rfl) ⟨aJ 13 (aC rfl rfl rfl),aJ 14 (aC rfl rfl rfl),trivial⟩ (fun w hw=>bE (j:=b) (b:=nb2) (o:=no2) (m:=d.nl) (c:=d.nc) underlying22 sizeOf36 (by show some (Value.slice _ _ _)=_;rw [hna]) rfl rfl (by omega) rfl) (aG rfl)) ?_
    refine bF 17 rfl 53 15 rfl rfl rfl (fun w hw=>aY isAgg36 rfl ((aO hw 0).cell (Nat.zero_le _) (q3))) rfl (bR 18 rfl 9 rfl rfl (fun w hw=>aV rfl) rfl ?_)
    refine aZ 19 rfl (isV _) (aW _) (rgV (li:=[(54,_),(55,_)]) rfl (aL rfl) ⟨aJ 16 (aC rfl rfl rfl),aJ 17 (aC rfl rfl rfl),trivial⟩ (fun w hw=>bE (j:=x) (b:=rb2) (o:=ro2) (m:=r2.l) (c:=r2.c) underlying36 sizeOf3 (by show some (Value.slice _ _ _)=_;rw [hra2]) rfl (by omega) (by omega) rfl) (aG rfl)) ?_
    refine bF 20 rfl 56 18 rfl rfl rfl (fun w hw=>aY isAgg3 rfl ((aO hw 0).cell (Nat.zero_le _) (q4))) rfl ?_
    refine aZ 21 rfl (isV _) (aW _) (rgV (li:=[(49,_),(57,_)]) rfl (aL rfl) ⟨aJ 11 (aC rfl rfl rfl),aJ 19 (aC rfl rfl rfl),trivial⟩ (fun w hw=>bE (j:=(dFA d).nx b x) (b:=pb2) (o:=po2) (m:=d.nl) (c:=oc) underlying36 sizeOf3 (by show some (Value.slice _ _ _)=_;rw [hoa]) rfl rfl (by omega) rfl) (aG rfl)) ?_
    refine bF 22 rfl 58 20 rfl rfl rfl (fun w hw=>aY isAgg3 rfl ((aO hw 0).cell (Nat.zero_le _) (k2))) rfl (aZ 23 rfl (isV _) (aW _) (rgV (li:=[(48,_),(59,_)]) rfl (aL rfl) ⟨aJ 10 (aC rfl rfl rfl),aJ 21 (aC rfl rfl rfl),trivial⟩ (fun w hw=>kN rfl rfl) (aG rfl)) (dJ ?_))
    intro W4 hbR hS'
    clear hS;have hS:=hS';clear hS'
    refine aI (aI (aI (aI (aI (aI (aI (aI (aI (aI (aI (aI (aI (aI (aI (aI (aI (aI (aI (aI (aI (aI (aI (cN (XF.thenN (bS rfl (fun hc=>?_) (fun hc=>?_))))))))))))))))))))))))))
    ·have hc60:=hc;clear hc
     refine aH (aN (aB rfl rfl (aK (XF.thenN (cK (XF.blkR (XF.thenR (XF.thenR (XF.blkR (XF.thenR (XF.res (cZ results65 rfl) ?_)))))))))))
     exact ⟨by rw [xN (fun h=>(of_decide_eq_true hc60) (by rw [h.2.2 x (by show x < d.sy.toNat;omega)]))],hS.below⟩
    ·have hc60:=hc;clear hc
     refine bV (XF.blkN (XF.thenN (aN (aA rfl rfl (bY rfl rfl (IntWalk.i64_in _ (by omega)) rfl (aB rfl rfl (aK ?_)))))))
     have hc60:((gN L ((dFA d).nx a x):Nat):Int)=((gN L ((dFA d).nx b x):Nat):Int):=Decidable.of_not_not (of_decide_eq_false hc60)
     exact XF.round (d.sy.toNat - (x+1)) [(1,_),(2,_),(3,_),(4,_),(9,_)] (by omega) ⟨rfl,rfl,rfl,rfl,rfl,trivial⟩ ⟨x+1,by omega,rfl,rfl,fun y hy=>(by
      rcases Nat.lt_or_ge y x with h9 | h9
      ·exact hal y h9
      ·rw [show y=x by omega];omega),hS.clear⟩
   ·have hc35:=of_decide_eq_false hc;clear hc
    refine cV (XF.thenX (XF.thenX (XF.blkX (XF.thenN (aH (aN (aB rfl rfl (aK (XF.thenN (cK (XF.res (cZ results65 rfl) ?_)))))))))))
    exact ⟨by rw [fF.2 ⟨hc1,hac,fun y hy=>hal y (by have hy:y < d.sy.toNat:=hy;omega)⟩],hS.below⟩
end
end Go.Proofs.Ytghmbejblbnjjaa
