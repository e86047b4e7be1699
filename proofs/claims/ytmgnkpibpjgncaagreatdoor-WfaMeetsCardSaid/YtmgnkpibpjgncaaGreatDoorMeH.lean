import Derived.Test.YtmgnkpibpjgncaaGreatDoorMeG
set_option maxRecDepth 100000
set_option maxHeartbeats 4000000
set_option linter.unusedVariables false
set_option linter.unusedVariables false
set_option linter.unusedSimpArgs false
set_option linter.unusedSectionVars false
set_option linter.unnecessarySimpa false
namespace Go.Proofs.YtmgnkpibpjgncaaGreatDoor
open Go.Proofs.Tryz
open Go Go.RowKit
theorem goes_10:bP prog 10=true:=by kernel_rfl
theorem goes_11:bP prog 11=true:=by kernel_rfl
theorem goes_14:bP prog 14=true:=by kernel_rfl
theorem goes_25:bP prog 25=true:=by kernel_rfl
theorem goes_26:bP prog 26=true:=by kernel_rfl
theorem goes_27:bP prog 27=true:=by kernel_rfl
theorem Az (ds dd:Nat) (a:AV) (d:DV) (bk:Bool) (fr:Int) (w:World) (hin:AIn w ds dd a) (hdi:DIn w d) (wa:Option Addr) (wl wc:Nat) (ws:List Int) (hwa:Row w wa ws) (hwl:ws.length=wl) (hwm:wl≤9223372036854775807) (ht:Tabs w) :
  Calls prog 6 #[a.val,d.val,.bool bk,.int .i64 fr,.slice wa wl wc] w (fun e w'=>e = .returned (.bool (true))∧Below w.heap.size w w'):=by
 refine cD (args:=[a.val,d.val,.bool bk,.int .i64 fr,.slice wa wl wc]) func6 rfl ntmps6 rfl ?_
 have hS:=St.start w
 obtain ⟨S,py,n,hAx⟩:=auto_ex hin
 refine aM (aQ (bY (cs:=[_,_,_,_,_,_,_]) hS rfl rfl rfl fun B1 W1 hS=>bY (cs:=[_,_,_]) hS rfl rfl rfl fun B2 W2 hS=>aC rfl rfl (aN (XF.thenN (aM (aM (aQ (cA (vs:=[]) hS goes_10 rfl (Qj _ (ht.below hS.below)) rfl fun W3 hS=>eS rfl rfl (aN (XF.thenN (Fu rfl (bI (XF.thenN (aM (aM (aQ (aT (vs:=[_,_,_,_,_,_,_]) isAgg29 sizeOf29 rfl (aF.own (j:=0) (m:=7) (hS.at_ 1 rfl) rfl) rfl (aE rfl rfl (cN (vs:=[_,_]) hS goes_11 rfl (Qi a wa wl wc _) rfl ?_)))))))))))))))))))
 rintro e W4 ⟨b9,rfl,hsm,hb⟩
 refine ⟨_,rfl,hb,fun hS'=>?_⟩
 clear hS;have hS:=hS';clear hS' hb
 refine eS rfl rfl (aE rfl rfl (bH (d:=25) rfl (fun hc=>?_) (fun hc=>?_)))
 ·have hg25:=hc;clear hc
  refine aD (d:=25) rfl rfl rfl rfl (aD (d:=25) rfl rfl rfl rfl (aD (d:=25) rfl rfl rfl rfl (aD (d:=25) rfl rfl rfl rfl (aW rfl rfl rfl (aN (XF.thenN (dT rfl (aM (aQ (aC rfl rfl (aN (XF.thenN (bL (XF.thenR (XF.res (cE results6 rfl) ?_)))))))))))))))
  exact ⟨rfl,hS.below⟩
 ·have hg25:=hc;clear hc
  have hb9:b9=true:=by simpa using hg25
  obtain ⟨hs1,hs2,hs3⟩:=hsm hb9
  refine aB (d:=25) rfl rfl (aK (o':=1) iN rfl rfl rfl (aB (d:=25) rfl rfl (aR isAgg57 rfl (aH (hS.at_ 0 rfl) rfl) rfl (aB (d:=25) rfl rfl (cC underlying57 rfl rfl (aB (d:=25) rfl rfl (gI rfl rfl rfl (bF rfl rfl rfl (aN (XF.thenN (bB rfl (fun hc=>?_) (fun hc=>?_))))))))))))
  ·have hc30:=of_decide_eq_true hc;clear hc
   refine aM (aQ (aC rfl rfl (aN (XF.thenN (bL (XF.thenR (XF.res (cE results6 rfl) ?_)))))))
   exact ⟨rfl,hS.below⟩
  ·have hc30:=of_decide_eq_false hc;clear hc
   refine bI (XF.thenN (aM ?_))
   have hRoot:=hS.below
   have hR5:=hRoot
   have ka:aF W4 B1 0 a.seven:=aF.own (j:=0) (m:=7) (hS.at_ 1 rfl) rfl
   have kd:aF W4 B2 0 d.cells:=aF.own (j:=0) (m:=3) (hS.at_ 0 rfl) rfl
   have hin5:=hin.below hRoot
   have hdi5:=hdi.below hRoot
   have hwa5:=hwa.below hRoot
   have ht5:=ht.below hRoot
   have hA5:dD a=0→AutoOk W4 S py n a:=fun h=>(hAx h).below hRoot
   clear hS;have hS:=St.start W4
   refine aQ (aT (vs:=[_,_,_,_,_,_,_]) isAgg29 sizeOf29 rfl ((aF.agree hS.agree (Nat.zero_le _) ka)) rfl (aT (vs:=[_,_,_]) isAgg60 sizeOf60 rfl ((aF.agree hS.agree (Nat.zero_le _) kd)) rfl (cN (vs:=[_,_]) hS goes_25 rfl ((meetA_c ds dd a.s a.st a.sy a.fa a.fl a.fc a.fs a.ta a.tl a.tc a.ts d.sy d.na d.nl d.nc d.ns d.aa d.al d.ac d.bs _ (hin5.below hS.below) (hdi5.below hS.below) S py n (fun h=>(hA5 h).below hS.below) (ht5.below hS.below)).mono fun e w2 h=>Uu h) rfl ?_)))
   rintro e W5 ⟨q1,u1,y1,f1,l1,c1,t1,m1,k1,ns9,rfl,hm1,hb⟩
   refine ⟨_,rfl,hb,fun hS'=>?_⟩
   clear hS;have hS:=hS';clear hS'
   refine aE rfl rfl (bU rfl rfl rfl (bU rfl rfl rfl (bE (cs:=[_,_,_,_,_,_,_]) hS zeroValue29 rfl rfl fun B6 W6 hS=>aU (i:=0) (vs:=[_,_,_,_,_,_,_]) (cs':=[_,_,_,_,_,_,_]) (O':=[_]) hS sizeOf29 rfl rfl rfl rfl rfl rfl rfl fun W7 hS=>aC rfl rfl (aN (XF.thenN (aM ?_))))))
   have hRoot:=hS.below
   have hR6:=hRoot
   have ka:=aF.agree hS.agree (Nat.zero_le _) ka
   have kd:=aF.agree hS.agree (Nat.zero_le _) kd
   have k11:aF W7 B6 0 [.int .i64 q1.tag,.int .i64 q1.dim,.slice q1.a q1.len q1.cap,.int .i64 u1,.int .i64 y1,.slice f1 l1 c1,.slice t1 m1 k1]:=aF.own (j:=0) (m:=7) (hS.at_ 0 rfl) rfl
   have hin6:=hin5.below hRoot
   have hdi6:=hdi5.below hRoot
   have hwa6:=hwa5.below hRoot
   have ht6:=ht5.below hRoot
   have hA6:dD a=0→AutoOk W7 S py n a:=fun h=>(hA5 h).below hRoot
   have hm1:=hm1.mono (M':=fun W2=>Below W7.heap.size W7 W2) (fun W2 hW=>⟨hRoot.trans (hW.mono hRoot.size),(hS.since 0 rfl).trans (aP hW _)⟩)
   clear hS;have hS:=St.start W7
   refine aQ (aT (vs:=[_,_,_,_,_,_,_]) isAgg29 sizeOf29 rfl ((aF.agree hS.agree (Nat.zero_le _) ka)) rfl (aT (vs:=[_,_,_]) isAgg60 sizeOf60 rfl ((aF.agree hS.agree (Nat.zero_le _) kd)) rfl (cN (vs:=[_,_]) hS goes_26 rfl ((meetR_c ds dd a.s a.st a.sy a.fa a.fl a.fc a.fs a.ta a.tl a.tc a.ts d.sy d.na d.nl d.nc d.ns d.aa d.al d.ac d.bs _ (hin6.below hS.below) (hdi6.below hS.below) S py n (fun h=>(hA6 h).below hS.below)).mono fun e w2 h=>Uu h) rfl ?_)))
   rintro e W8 ⟨q2,u2,y2,f2,l2,c2,t2,m2,k2,ms9,rfl,hm2,hb⟩
   refine ⟨_,rfl,hb,fun hS'=>?_⟩
   clear hS;have hS:=hS';clear hS'
   refine aE rfl rfl (bU rfl rfl rfl (bU rfl rfl rfl (bE (cs:=[_,_,_,_,_,_,_]) hS zeroValue29 rfl rfl fun B9 W9 hS=>aU (i:=0) (vs:=[_,_,_,_,_,_,_]) (cs':=[_,_,_,_,_,_,_]) (O':=[_]) hS sizeOf29 rfl rfl rfl rfl rfl rfl rfl fun W10 hS=>aC rfl rfl (aN (XF.thenN (aM (aM (aQ (aT (vs:=[_,_,_,_,_,_,_]) isAgg29 sizeOf29 rfl ((aF.agree hS.agree (Nat.zero_le _) k11)) rfl (aT (vs:=[_,_,_,_,_,_,_]) isAgg29 sizeOf29 rfl (aF.own (j:=0) (m:=7) (hS.at_ 0 rfl) rfl) rfl (cA (vs:=[_,_]) hS goes_14 rfl (sameMt hm1 hm2 hA6 hS.below ⟨hS.below,by first | exact hS.since 0 rfl | exact hS.since 1 rfl⟩) rfl fun W11 hS=>eS rfl rfl (aE rfl rfl (aB (d:=47) rfl rfl (aE rfl rfl (aB (d:=47) rfl rfl (aE rfl rfl (aB (d:=47) rfl rfl (dA rfl rfl rfl (bF rfl rfl rfl ?_)))))))))))))))))))
   refine aN (XF.thenN (bB rfl (fun hc=>absurd (of_decide_eq_true hc) (by exact fun h=>h rfl)) (fun hc=>?_)))
   have hc:=of_decide_eq_false hc
   refine bI (XF.thenN (aM ?_))
   have hRoot:=hS.below
   have hR9:=hRoot
   have ka:=aF.agree hS.agree (Nat.zero_le _) ka
   have kd:=aF.agree hS.agree (Nat.zero_le _) kd
   have k11:=aF.agree hS.agree (Nat.zero_le _) k11
   have hin9:=hin6.below hRoot
   have hdi9:=hdi6.below hRoot
   have hwa9:=hwa6.below hRoot
   have ht9:=ht6.below hRoot
   have hA9:dD a=0→AutoOk W11 S py n a:=fun h=>(hA6 h).below hRoot
   have hm1:=hm1.mono (M':=fun W2=>Below W11.heap.size W11 W2) (fun W2 hW=>hRoot.trans (hW.mono hRoot.size))
   have hG9:eO a d=0→AuG (some S) (mPl d a.ts) (mXs py d.nl a.ts) (mFs d a.fs) W11 q1 f1 t1 ns9:=fun h=>(hm1.1 h).2.2.2.2 _ (Below.refl _ _)
   clear hS;have hS:=St.start W11
   refine aQ (aT (vs:=[_,_,_,_,_,_,_]) isAgg29 sizeOf29 rfl ((aF.agree hS.agree (Nat.zero_le _) ka)) rfl (aE rfl rfl (aE rfl rfl (aE rfl rfl (cN (vs:=[_,_,_,_]) hS xT rfl (Ay ds dd a S py n bk fr _ (hin9.below hS.below) wa wl wc ws (hwa9.below hS.below) hwl hwm (fun h=>(hA9 (nL h).1).below hS.below) (ht9.below hS.below)) rfl ?_)))))
   rintro e W12 ⟨g1,rfl,hv1,hb⟩
   refine ⟨_,rfl,hb,fun hS'=>?_⟩
   clear hS;have hS:=hS';clear hS'
   refine aE rfl rfl (bU rfl rfl rfl (bU rfl rfl rfl (bE (cs:=[_,_,_,_,_,_]) hS zeroValue44 rfl rfl fun B13 W13 hS=>aU (i:=0) (vs:=[_,_,_,_,_,_]) (cs':=[_,_,_,_,_,_]) (O':=[_]) hS sizeOf44 rfl rfl rfl rfl rfl rfl rfl fun W14 hS=>aC rfl rfl (aN (XF.thenN (aM (aM (aQ (aE rfl rfl (dA rfl rfl rfl (aE rfl rfl (bH (d:=62) rfl (fun hc=>?_) (fun hc=>?_)))))))))))))
   ·have hg62:=of_decide_eq_true hc;clear hc
    refine aD (d:=62) rfl rfl rfl rfl (aD (d:=62) rfl rfl rfl rfl (aW rfl rfl rfl (aN (XF.thenN (dT rfl (aM (aQ (aC rfl rfl (aN (XF.thenN (bL (XF.thenR (XF.res (cE results6 rfl) ?_)))))))))))))
    exact ⟨rfl,((hR5.trans (hR6.mono hR5.size)).trans (hR9.mono (Nat.le_trans hR5.size hR6.size))).trans (hS.below.mono (Nat.le_trans hR5.size (Nat.le_trans hR6.size hR9.size)))⟩
   ·have hg62:=of_decide_eq_false hc;clear hc
    refine aB (d:=62) rfl rfl (aE rfl rfl (aB (d:=62) rfl rfl (dA rfl rfl rfl (bF rfl rfl rfl (aN (XF.thenN (bB rfl (fun hc=>?_) (fun hc=>?_))))))))
    ·have hc65:=of_decide_eq_true hc;clear hc
     refine aM (aQ (aC rfl rfl (aN (XF.thenN (bL (XF.thenR (XF.res (cE results6 rfl) ?_)))))))
     exact ⟨rfl,((hR5.trans (hR6.mono hR5.size)).trans (hR9.mono (Nat.le_trans hR5.size hR6.size))).trans (hS.below.mono (Nat.le_trans hR5.size (Nat.le_trans hR6.size hR9.size)))⟩
    ·have hc65:=of_decide_eq_false hc;clear hc
     have hME:eO a d=0:=Decidable.of_not_not hg62
     have hask:jG a [fr] ws=0:=Decidable.of_not_not hc65
     obtain ⟨p,z,hfp,hz1,hl1⟩:=hv1.1 hask
     obtain ⟨hEa,hEd,hsy,hlim1,hlim2⟩:=tK hME
     have hdk:=Ar hEd
     have hAo:=hA9 hEa
     obtain ⟨hu1,hy1,hl9,hm9,_⟩:=hm1.1 hME
     subst hu1;subst hy1;subst hl9;subst hm9
     obtain ⟨x,py9,hX⟩:=Ut (fc2:=c1) (tc2:=k1) hAo hdi9 hME (hG9 hME)
     have hpq:=(nL hask).2.1 fr (by simp)
     rw [hAo.st,hfp] at hpq
     obtain ⟨p2,hp2,hpn⟩:=dV hpq
     obtain rfl:p2=p:=by omega
     have hdl:=hdk.nl
     have hn4:=hAo.n4
     have hmf:0≤fr * (d.nl:Int)∧fr * (d.nl:Int)≤4194304:=by rw [Int.mul_comm];exact rG (by omega) (by omega) (by omega)
     have hwq:∀ y∈ws,inQ y a.sy=true:=(nL hask).2.2
     have hask2:jG x [fr * (d.nl:Int)] ws=0:=Fg hX.e (fun y hy=>by
      rw [List.mem_singleton.1 hy,hX.ok.st,hfp]
      have h9:=Fm (n:=n) (m:=d.nl) (k:=0) (s:=(p2:Int)) (by omega) (by omega) (by omega)
      simp only [inQ,Bool.and_eq_true,decide_eq_true_eq]
      rw [Int.natCast_mul]
      omega) (fun y hy=>by rw [hX.sy];exact hwq y hy)
     refine bI (XF.thenN (aM (aQ (aT (vs:=[_,_,_,_,_,_,_]) isAgg29 sizeOf29 rfl ((aF.agree hS.agree (Nat.zero_le _) k11)) rfl (aE rfl rfl (aE rfl rfl (aK iN rfl rfl rfl (aR isAgg57 rfl ((aF.agree hS.agree (Nat.zero_le _) kd).2.1) rfl (cC underlying57 rfl rfl (lP rfl rfl (IntWalk.i64_in _ (by omega)) rfl (aE rfl rfl ?_)))))))))))
     refine cN (vs:=[_,_,_,_]) hS xT rfl ((by
      have h9:=Ay 2 2 x S py9 (n * d.nl) bk (fr * (d.nl:Int)) _ (hX.ain.below hS.below) wa wl wc ws (hwa9.below hS.below) hwl hwm (fun _=>hX.ok.below hS.below) (ht9.below hS.below)
      rw [hX.val,hask2] at h9
      exact h9)) rfl ?_
     rintro e W15 ⟨g2,rfl,hv2,hb⟩
     refine ⟨_,rfl,hb,fun hS'=>?_⟩
     clear hS;have hS:=hS';clear hS'
     refine aE rfl rfl (bU rfl rfl rfl (bU rfl rfl rfl (bE (cs:=[_,_,_,_,_,_]) hS zeroValue44 rfl rfl fun B16 W16 hS=>aU (i:=0) (vs:=[_,_,_,_,_,_]) (cs':=[_,_,_,_,_,_]) (O':=[_,_]) hS sizeOf44 rfl rfl rfl rfl rfl rfl rfl fun W17 hS=>aC rfl rfl (aN (XF.thenN (aM (aM ?_)))))))
     obtain ⟨p3,z2,hfp3,hz2,hl2⟩:=hv2.1 hask2
     obtain rfl:p3=p2 * d.nl:=by rw [hfp,← Int.natCast_mul] at hfp3;omega
     have hzz:=Uv hAo hdi9 hdk hsy hX hl1 hl2
     have hz1n:=hz1
     refine aQ (aT (vs:=[_,_,_]) isAgg60 sizeOf60 rfl ((aF.agree hS.agree (Nat.zero_le _) kd)) rfl (aE rfl rfl ?_))
     refine cN (vs:=[_,_]) hS goes_27 rfl (Lm d _ (hdi9.below hS.below) hdk wa wl wc ws (hwa9.below hS.below) hwl hwm (fun y hy=>by rw [hsy];exact hwq y hy)) rfl ?_
     rintro e W18 ⟨rfl,hb⟩
     refine ⟨_,rfl,hb,fun hS'=>?_⟩
     clear hS;have hS:=hS';clear hS'
     refine eS rfl rfl (aN (XF.thenN (bB rfl (fun hc=>?_) (fun hc=>?_))))
     ·have hc81:=hc;clear hc
      refine aQ (aK kF rfl (Nat.add_zero _) rfl (aT (vs:=[_,_,_]) isAgg25 sizeOf25 rfl ((aF.agree hS.agree (Nat.zero_le _) (⟨ka.1,ka.2.1,ka.2.2.1,trivial⟩:aF _ _ 0 [_,_,_]))) rfl (cN (vs:=[_]) hS goes_28 rfl (P9 S a.s.f _ (hAo.si.below hS.below) hAo.ok) rfl ?_)))
      rintro e W19 ⟨g3,rfl,hn3,hb⟩
      refine ⟨_,rfl,hb,fun hS'=>?_⟩
      clear hS;have hS:=hS';clear hS'
      refine aU (i:=1) (vs:=[_,_,_,_,_,_]) (cs':=[_,_,_,_,_,_]) (O':=[_,_]) hS sizeOf44 rfl rfl rfl rfl rfl rfl rfl fun W20 hS=>aN (XF.thenN (aM ?_))
      have hacc:d.bs.getD (gY d ws) false=false:=by simpa using hc81
      rw [if_neg (by rw [hacc];decide)] at hzz
      have hx2:=hz2.is (by first | exact hS.since 0 rfl | exact hS.since 1 rfl | exact hS.since 2 rfl | exact hS.since 3 rfl | exact hS.since 4 rfl)
      have hx3:=(hn3.agree (by first | exact hS.since 0 rfl | exact hS.since 1 rfl | exact hS.since 2 rfl | exact hS.since 3 rfl | exact hS.since 4 rfl)).is
      refine aQ (aE rfl rfl (cY rfl rfl rfl (aE rfl rfl (bH (d:=87) rfl (fun hc=>?_) (fun hc=>absurd (of_decide_eq_false hc) (by exact fun h=>h rfl))))))
      have hc:=of_decide_eq_true hc
      refine aB (d:=87) rfl rfl (aT (vs:=[_,_,_,_,_,_]) isAgg44 sizeOf44 rfl (aF.own (j:=0) (m:=6) (hS.at_ 1 rfl) rfl) rfl (aB (d:=87) rfl rfl (aT (vs:=[_,_,_,_,_,_]) isAgg44 sizeOf44 rfl (aF.own (j:=0) (m:=6) (hS.at_ 0 rfl) rfl) rfl (aB (d:=87) rfl rfl (cA (vs:=[_,_]) hS xF rfl (Lj hx3 hx2 true ⟨fun _=>hzz.symm,fun _=>rfl⟩) rfl fun W21 hS=>aW rfl rfl rfl (aC rfl rfl (aN (XF.thenN (bL (XF.res (cE results6 rfl) ?_))))))))))
      exact ⟨rfl,((hR5.trans (hR6.mono hR5.size)).trans (hR9.mono (Nat.le_trans hR5.size hR6.size))).trans (hS.below.mono (Nat.le_trans hR5.size (Nat.le_trans hR6.size hR9.size)))⟩
     ·have hc81:=hc;clear hc
      refine bI (XF.thenN (aM ?_))
      have hacc:d.bs.getD (gY d ws) false=true:=by simpa using hc81
      rw [if_pos hacc] at hzz
      have hx2:=hz2.is (by first | exact hS.since 0 rfl | exact hS.since 1 rfl | exact hS.since 2 rfl | exact hS.since 3 rfl | exact hS.since 4 rfl)
      have hx3:=hz1.is (by first | exact hS.since 0 rfl | exact hS.since 1 rfl | exact hS.since 2 rfl | exact hS.since 3 rfl | exact hS.since 4 rfl)
      refine aQ (aE rfl rfl (cY rfl rfl rfl (aE rfl rfl (bH (d:=87) rfl (fun hc=>?_) (fun hc=>absurd (of_decide_eq_false hc) (by exact fun h=>h rfl))))))
      have hc:=of_decide_eq_true hc
      refine aB (d:=87) rfl rfl (aT (vs:=[_,_,_,_,_,_]) isAgg44 sizeOf44 rfl (aF.own (j:=0) (m:=6) (hS.at_ 1 rfl) rfl) rfl (aB (d:=87) rfl rfl (aT (vs:=[_,_,_,_,_,_]) isAgg44 sizeOf44 rfl (aF.own (j:=0) (m:=6) (hS.at_ 0 rfl) rfl) rfl (aB (d:=87) rfl rfl (cA (vs:=[_,_]) hS xF rfl (Lj hx3 hx2 true ⟨fun _=>hzz.symm,fun _=>rfl⟩) rfl fun W22 hS=>aW rfl rfl rfl (aC rfl rfl (aN (XF.thenN (bL (XF.res (cE results6 rfl) ?_))))))))))
      exact ⟨rfl,((hR5.trans (hR6.mono hR5.size)).trans (hR9.mono (Nat.le_trans hR5.size hR6.size))).trans (hS.below.mono (Nat.le_trans hR5.size (Nat.le_trans hR6.size hR9.size)))⟩
theorem Be (n0:Nat) (a:AV) (d:DV) (bk:Bool) (fr:Int) (wa:Option Addr) (wl wc:Nat) (ws:List Int) (w:World) (hin:AIn w n0 n0 a) (hdi:DIn w d) (_hfr:(Lit.int .i64 fr).wf=true) (hl:Row w wa ws∧ws.length=wl∧wl≤wc∧wl≤9223372036854775807) (ht:Tabs w):Calls prog 6 #[a.val,d.val,.bool bk,.int .i64 fr,.slice wa wl wc] w (fun e w'=>e = .returned (.bool (true))∧Below w.heap.size w w'):=Az n0 n0 a d bk fr w hin hdi wa wl wc ws hl.1 hl.2.1 hl.2.2.2 ht
end Go.Proofs.YtmgnkpibpjgncaaGreatDoor
namespace Go.Proofs.YtmgnkpibpjgncaaGreatDoor
open Go.Proofs.Tryz
open Go.RowKit Go.ChangeShapes Go.WideShapes Go.Deep Go.Joins
theorem Qk {cs:List Value} (h:cs.length=9):∃ a b c d e f g i j,cs=[a,b,c,d,e,f,g,i,j]:=by
 match cs,h with
 | [a,b,c,d,e,f,g,i,j],_=>exact ⟨a,b,c,d,e,f,g,i,j,rfl⟩
theorem Ls {cs:List Value} (h:cs.length=7):∃ a b c d e f g,cs=[a,b,c,d,e,f,g]:=by
 match cs,h with
 | [a,b,c,d,e,f,g],_=>exact ⟨a,b,c,d,e,f,g,rfl⟩
section
variable {H:Type} {enc:TypeId×Value→H} {w:World} {base:Nat} {spare:Nat→Bool} {held:Bool}
theorem U3 {n:Nat} {cs:List Value} {x:DataW H×List MemPlace} (h:DataW.trod enc prog w base spare held n 66 cs=some x):∃ r:TV,cs=r.nine∧WIn w n r.x:=by
 obtain ⟨xs,n',hn,_,hl,hlen,hg⟩:=DataW.trod_struct underlying66 h
 rw [show prog.cellsOf 66=9 by kernel_rfl] at hl
 obtain ⟨a,b,c,e,f,g,i,j,k,rfl⟩:=Qk hl
 have hlen4:xs.length=4:=hlen
 have g0:=hg 0 _ rfl
 have g1:=hg 1 _ rfl
 have g2:=hg 2 _ rfl
 have g4:=hg 3 _ rfl
 rw [show prog.cellsOf _=1 by kernel_rfl,List.getElem?_eq_getElem (by omega)] at g0 g1 g2
 rw [show prog.cellsOf _=6 by kernel_rfl,List.getElem?_eq_getElem (by omega)] at g4
 obtain ⟨z0,e0,_,w0⟩:=DataW.trod_int (k:=.i64) (by kernel_rfl) g0
 obtain ⟨z1,e1,_,w1⟩:=DataW.trod_int (k:=.i64) (by kernel_rfl) g1
 obtain ⟨z2,e2,_,w2⟩:=DataW.trod_int (k:=.i64) (by kernel_rfl) g2
 simp at e0 e1 e2
 subst e0 e1 e2
 obtain ⟨s,e4,hs⟩:=P2 n' g4
 have e4':[e,f,g,i,j,k]=s.f.six:=by simpa using e4
 simp only [List.cons.injEq,and_true] at e4'
 obtain ⟨rfl,rfl,rfl,rfl,rfl,rfl⟩:=e4'
 exact ⟨⟨z0,z1,z2,s⟩,rfl,hs.more (by omega)⟩
theorem auto_in {n:Nat} {cs:List Value} {x:DataW H×List MemPlace} (h:DataW.trod enc prog w base spare held n 29 cs=some x):∃ p:AV,cs=p.seven∧AIn w n n p:=by
 obtain ⟨xs,n',hn,_,hl,hlen,hg⟩:=DataW.trod_struct underlying29 h
 rw [show prog.cellsOf 29=7 by kernel_rfl] at hl
 obtain ⟨a,b,c,d,e,f,g,rfl⟩:=Ls hl
 have hlen5:xs.length=5:=hlen
 have g0:=hg 0 _ rfl
 have g1:=hg 1 _ rfl
 have g2:=hg 2 _ rfl
 have g3:=hg 3 _ rfl
 have g4:=hg 4 _ rfl
 rw [show prog.cellsOf _=3 by kernel_rfl,List.getElem?_eq_getElem (by omega)] at g0
 rw [show prog.cellsOf _=1 by kernel_rfl,List.getElem?_eq_getElem (by omega)] at g1 g2 g3 g4
 obtain ⟨s,es,hs⟩:=To n' g0
 have es':[a,b,c]=[.int .i64 s.f.tag,.int .i64 s.f.dim,.slice s.f.a s.f.len s.f.cap]:=by simpa using es
 simp only [List.cons.injEq,and_true] at es'
 obtain ⟨rfl,rfl,rfl⟩:=es'
 obtain ⟨z1,e1,_,w1⟩:=DataW.trod_int (k:=.i64) (by kernel_rfl) g1
 obtain ⟨z2,e2,_,w2⟩:=DataW.trod_int (k:=.i64) (by kernel_rfl) g2
 simp at e1 e2
 subst e1 e2
 obtain ⟨fa,fl,fc,fs,rfl,hfrow,hfl,hfc,hfm⟩:=E4 (v:=f) g3
 have hfm9:fl≤9223372036854775807:=by simp only [maxLen] at hfm;omega
 rcases DataW.trod_slice underlying27 g4 with ⟨hcs,_⟩ | ⟨ad,len,cap,elems,rest,n2,hn2,hcs,_,hb,hle,hcap,hel,hi,_,_⟩
 ·simp at hcs
  subst hcs
  exact ⟨⟨s,z1,z2,fa,fl,fc,fs,none,0,0,[]⟩,rfl,⟨hs.more (by omega),hfrow,hfl,.inl rfl,rfl,(fun r hr=>by cases hr),hfm9,Nat.zero_le _⟩⟩
 ·simp at hcs
  subst hcs
  rw [show prog.cellsOf 66=9 by kernel_rfl] at hi
  obtain ⟨rs,hrl,hrs⟩:=oJ len (fun i (r:TV)=>(∀ (j:Nat) u,r.nine[j]?=some u→w.cell? (ad.add (i * 9+j))=some u)∧WIn w n2 r.x) (fun i hil=>by
   have hii:=hi i hil
   rw [List.getElem?_eq_getElem (by omega)] at hii
   obtain ⟨cs',hc,ht⟩:=Option.bind_eq_some_iff.1 hii
   obtain ⟨_,hcl,hat⟩:=World.cells?_some hc
   obtain ⟨r,rfl,hr⟩:=U3 ht
   refine ⟨r,fun j u hj=>?_,hr⟩
   have hj9:j < 9:=(List.getElem?_eq_some_iff.1 hj).1
   have h0:=hat j (by omega)
   rw [Go.Deep.add_add] at h0
   rw [h0];exact hj)
  refine ⟨⟨s,z1,z2,fa,fl,fc,fs,some ad,len,cap,rs⟩,rfl,⟨hs.more (by omega),hfrow,hfl,?_,hrl,fun r hr=>?_,hfm9,by simp only [maxLen] at hcap hle;dsimp only;omega⟩⟩
  ·rcases Nat.eq_zero_or_pos len with h0 | h0
   ·exact .inl (List.length_eq_zero_iff.1 (by dsimp only;omega))
   ·obtain ⟨b,off,spot⟩:=ad
    have h1:=(hrs 0 (rs[0]'(by omega)) (List.getElem?_eq_getElem (by omega))).1 0 _ rfl
    have hspot:spot=none:=by simpa [Addr.add] using World.cell?_spot h1
    subst hspot
    refine .inr ⟨b,off,rfl,fun i r hir=>Ac _ _ fun j u hj=>?_⟩
    have h3:=(hrs i r hir).1 j u hj
    have e:∀ k,({ block:=b,off:=off }:Addr).add k=⟨b,off+k,none⟩:=fun k=>by simp [Addr.add]
    rw [e,← Nat.add_assoc] at h3
    exact h3
  ·obtain ⟨i,hi',hic⟩:=List.mem_iff_getElem.1 hr
   exact (hrs i r (by rw [← hic];exact List.getElem?_eq_getElem hi')).2.more (by omega)
theorem Ql {r:Reach} {b0:Nat} {v:Value} {d:DataW H} {p:List MemPlace} (hv:Value.okWide prog w r b0 29 v) (h:DataW.Trod enc prog w base spare held 29 v d p) :
  ∃ (n:Nat) (s:AV),v=s.val∧AIn w n n s:=by
 obtain ⟨cs,rfl,_⟩:=okWide_struct underlying29 hv
 obtain ⟨n,h⟩:=h
 obtain ⟨s,e,hs⟩:=auto_in (n:=n) h
 have e':cs.toList=_:=e
 exact ⟨n,s,by show Value.agg cs=Value.agg _;congr 1;exact Array.ext' e',hs⟩
end
theorem Lt {cs:List Value} (h:cs.length=3):∃ a b c,cs=[a,b,c]:=by
 match cs,h with
 | [a,b,c],_=>exact ⟨a,b,c,rfl⟩
section
variable {H:Type} {enc:TypeId×Value→H} {w:World} {base:Nat} {spare:Nat→Bool} {held:Bool}
theorem I3 {α:Type} {val:α→Value} {pr:α→Prop} {t e:TypeId} {n:Nat} {v:Value} {x:DataW H×List MemPlace} (ht:prog.underlying t=some (.slice e)) (hc:prog.cellsOf e=1)
  (one:∀ (n:Nat) (cs:List Value) (x:DataW H×List MemPlace),DataW.trod enc prog w base spare held n e cs=some x→∃ y,cs=[val y]∧pr y) (h:DataW.trod enc prog w base spare held n t [v]=some x) :
  ∃ (a:Option Addr) (len cap:Nat) (xs:List α),v = .slice a len cap∧(∀ (i:Nat) r,xs[i]?=some r→∃ b off,a=some ⟨b,off,none⟩∧w.cell? ⟨b,off+i * 1,none⟩=some (val r))∧(∀ r∈xs,pr r)∧xs.length=len∧len≤cap∧cap≤maxLen:=by
 rcases DataW.trod_slice ht h with ⟨hcs,_⟩ | ⟨ad,len,cap,elems,rest,n2,hn2,hcs,_,hb,hle,hcap,hel,hi,_,_⟩
 ·simp at hcs
  subst hcs
  exact ⟨none,0,0,[],rfl,(fun i r hi=>by simp at hi),(fun r hr=>by cases hr),rfl,Nat.le_refl _,Nat.zero_le _⟩
 ·simp at hcs
  subst hcs
  rw [hc] at hi
  obtain ⟨rs,hrl,hrs⟩:=oJ len (fun i (r:α)=>w.cell? (ad.add (i * 1))=some (val r)∧pr r) (fun i hil=>by
   have hii:=hi i hil
   rw [List.getElem?_eq_getElem (by omega)] at hii
   obtain ⟨cs',hc',ht'⟩:=Option.bind_eq_some_iff.1 hii
   obtain ⟨_,hcl,hat⟩:=World.cells?_some hc'
   obtain ⟨r,rfl,hr⟩:=one _ _ _ ht'
   refine ⟨r,?_,hr⟩
   have h0:=hat 0 (by omega)
   rw [Go.Deep.add_add,Nat.add_zero] at h0
   rw [h0];rfl)
  refine ⟨some ad,len,cap,rs,rfl,fun i r hir=>?_,fun r hr=>?_,hrl,hle,hcap⟩
  ·obtain ⟨b,off,spot⟩:=ad
   have h1:=(hrs i r hir).1
   have hl0:0 < rs.length:=Nat.lt_of_le_of_lt (Nat.zero_le _) (List.getElem?_eq_some_iff.1 hir).1
   have h2:=(hrs 0 _ (List.getElem?_eq_getElem hl0)).1
   have hspot:spot=none:=by simpa [Addr.add] using World.cell?_spot h2
   subst hspot
   refine ⟨b,off,rfl,?_⟩
   have e:∀ k,({ block:=b,off:=off }:Addr).add k=⟨b,off+k,none⟩:=fun k=>by simp [Addr.add]
   rw [e] at h1
   exact h1
  ·obtain ⟨i,hi',hic⟩:=List.mem_iff_getElem.1 hr
   exact (hrs i r (by rw [← hic];exact List.getElem?_eq_getElem hi')).2
theorem U4 {r:Reach} {b0:Nat} {v:Value} {d:DataW H} {p:List MemPlace} (hv:Value.okWide prog w r b0 60 v) (h:DataW.Trod enc prog w base spare held 60 v d p) :
  ∃ (s:DV),v=s.val∧DIn w s:=by
 obtain ⟨cs,rfl,_⟩:=okWide_struct underlying60 hv
 obtain ⟨n,h⟩:=h
 obtain ⟨xs,n',hn,_,hl,hlen,hg⟩:=DataW.trod_struct underlying60 h
 rw [show prog.cellsOf 60=3 by kernel_rfl] at hl
 obtain ⟨a,b,c,hcs⟩:=Lt hl
 rw [hcs] at hg
 have hlen3:xs.length=3:=hlen
 have g0:=hg 0 _ rfl
 have g1:=hg 1 _ rfl
 have g2:=hg 2 _ rfl
 rw [show prog.cellsOf _=1 by kernel_rfl,List.getElem?_eq_getElem (by omega)] at g0 g1 g2
 obtain ⟨z0,e0,_,w0⟩:=DataW.trod_int (k:=.i64) (by kernel_rfl) g0
 simp at e0
 subst e0
 obtain ⟨na,nl,nc,ns,rfl,hnr,hni,hnl,hnc,hnm⟩:=I3 (val:=IV.val) (pr:=fun r:IV=>Row w r.a r.xs∧r.xs.length=r.l∧r.l≤9223372036854775807) (e:=26) (v:=b) (by kernel_rfl) (by kernel_rfl) (fun n cs x h=>by
  obtain ⟨y,rfl⟩:∃ y,cs=[y]:=by
   obtain ⟨h1,h2⟩:cs.length=1∧True:=⟨by
    rcases DataW.trod_slice underlying26 h with ⟨h9,_⟩ | ⟨ad,len,cap,elems,rest,n2,hn2,h9,_⟩
    ·rw [h9];rfl
    ·rw [h9];rfl,trivial⟩
   match cs,h1 with
   | [y],_=>exact ⟨y,rfl⟩
  obtain ⟨fa,fl,fc,fs,rfl,h1,h2,h3,h4⟩:=E4 h
  exact ⟨⟨fa,fl,fc,fs⟩,rfl,h1,h2,by simp only [maxLen] at h4;dsimp only;omega⟩) g1
 obtain ⟨aa,al,ac,bs,rfl,har,_,hal,hac,ham⟩:=I3 (val:=Value.bool) (pr:=fun _=>True) (e:=4) (v:=c) (by kernel_rfl) (by kernel_rfl) (fun n cs x h=>by
  obtain ⟨y,h1,_⟩:=DataW.trod_bool (by kernel_rfl) h
  exact ⟨y,h1,trivial⟩) g2
 refine ⟨⟨z0,na,nl,nc,ns,aa,al,ac,bs⟩,?_,⟨hnr,hnl,hni,har,hal,?_,?_⟩⟩
 ·show Value.agg cs=Value.agg _
  congr 1
  exact Array.ext' hcs
 ·simp only [maxLen] at hnm;dsimp only;omega
 ·simp only [maxLen] at ham;dsimp only;omega
end
end Go.Proofs.YtmgnkpibpjgncaaGreatDoor
