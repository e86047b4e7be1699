import Derived.Lib.SmallJoins
import Derived.ChangeSlices
import Derived.ChangeSame
import Derived.ProofKit
import Derived.Deep.Slices
import Derived.Deep.Fields
import Derived.Test.YtghmbejblbnjjaaDoD
set_option maxRecDepth 100000
set_option maxHeartbeats 4000000
set_option linter.unusedVariables false
set_option linter.unusedSimpArgs false
set_option linter.unusedSectionVars false
set_option linter.unnecessarySimpa false
namespace Go.Proofs.Ytghmbejblbnjjaa
open Go.Proofs.Try
section
open Go.RowKit
theorem iS:cB prog 10=true:=by kernel_rfl
theorem vH:cB prog 13=true:=by kernel_rfl
theorem mZ:cB prog 17=true:=by kernel_rfl
theorem vI:cB prog 30=true:=by kernel_rfl
theorem zL:cB prog 9=true:=by kernel_rfl
theorem zM {w:World} {d:DV} (h:DIn w d) (he:cK d=0):(dFA d).Ok:=jQ he h.nlen (fun r hr=>(h.rin r hr).2.1)
theorem gM {w:World} {d:DV} (h:DIn w d):dB w [] (fun W=>DIn W d):=fun h9 _=>h.below h9.below
theorem sG {a b:DV} (h1:cK a=0) (h2:cK b=0) (h3:a.sy=b.sy):iF a b=0:=by unfold iF;rw [if_neg (by omega),if_neg (by omega),if_neg (by omega)]
theorem one_eq {da db dp dq:DV} {r1 r2:Option (List Nat)} (hA:(dFA da).Ok) (hB:(dFA db).Ok) (hk:(dFA da).k=(dFA db).k) (hp:Lst dp (dFA da)) (hq:Lst dq (dFA db)) (h1:FW (cI (dFA da) (dFA db) (fun x y=>x && !y)) r1) (h2:FW (cI (dFA db) (dFA da) (fun x y=>x && !y)) r2):(r1.isNone && r2.isNone)=iR dp dq:=by
 rw [Bool.eq_iff_iff,Bool.and_eq_true,pA hA hB hk h1,pA hB hA hk.symm h2]
 constructor
 ·rintro ⟨g1,g2⟩
  exact sF hp hq hk fun u hu=>Bool.eq_iff_iff.2 ⟨g1 u hu,g2 u (hk▸hu)⟩
 ·intro h
  obtain ⟨_,g⟩:=yX hp.e hp.len hp.xl hq.e hq.len hq.xl h
  have e:Eqv (dFA da) 0 (dFA db) 0:=Eqv.trans (B:=dFA dp) hp.k.symm (Eqv.symm hp.k hp.eqv) (Eqv.trans (B:=dFA dq) (by rw [hp.k,hq.k,hk]) g hq.eqv)
  exact ⟨fun u hu h9=>by rw [← e u hu];exact h9,fun u hu h9=>by rw [e u (hk▸hu)];exact h9⟩
theorem zN {da dn dm dp:DV} (hn:Lst dn (jP (dFA da))) (hm:Lst dm (jP (dFA dn))) (hp:Lst dp (dFA da)):iR dm dp=true :=
 sF hm hp hn.k (Eqv.trans (B:=jP (jP (dFA da))) hn.k (sD hn.eqv) yV)
theorem sH (da db:DV) (w:World) (hDa:DIn w da) (hDb:DIn w db) :
  Calls prog 7 #[da.val,db.val] w (fun e w'=>e = .returned (.bool true)∧Below w.heap.size w w'):=by
 refine cO (args:=[da.val,db.val]) func7 rfl ntmps7 rfl ?_
 have hS:=St.start w
 refine aG (aO (cR (cs:=[_,_,_]) hS rfl rfl rfl fun B1 W1 hS=>cR (cs:=[_,_,_]) hS rfl rfl rfl fun B2 W2 hS=>aB rfl rfl (aJ (XF.thenN (aG (aG (aO (bG (vs:=[_,_,_]) isAgg25 sizeOf25 rfl (aT.own (j:=0) (m:=3) (hS.at_ 1 rfl) rfl) rfl (cX (vs:=[_]) hS zL rfl (oX da _ (hDa.below hS.below)) rfl fun W3 hS=>iY rfl rfl (aA rfl rfl (bN (d:=22) rfl (fun hc=>?_) (fun hc=>?_))))))))))))
 ·have hg22:=hc;clear hc
  refine aE (d:=22) rfl rfl rfl rfl (aE (d:=22) rfl rfl rfl rfl (aE (d:=22) rfl rfl rfl rfl (aY rfl rfl rfl (aA rfl rfl (aE (d:=27) rfl rfl rfl rfl (aE (d:=27) rfl rfl rfl rfl (aE (d:=27) rfl rfl rfl rfl (aY rfl rfl rfl (aA rfl rfl (aE (d:=32) rfl rfl rfl rfl (aE (d:=32) rfl rfl rfl rfl (aE (d:=32) rfl rfl rfl rfl (aY rfl rfl rfl (aA rfl rfl (aE (d:=37) rfl rfl rfl rfl (aE (d:=37) rfl rfl rfl rfl (aE (d:=37) rfl rfl rfl rfl (aE (d:=37) rfl rfl rfl rfl (aE (d:=37) rfl rfl rfl rfl (aY rfl rfl rfl (aJ (XF.thenN (eN rfl (aG (aO (cX (vs:=[]) hS iS rfl (fJ _) rfl fun W4 hS=>aB rfl rfl (aJ (XF.thenN (cH (XF.thenR (XF.res (cT results7 rfl) ?_)))))))))))))))))))))))))))))))
  exact ⟨rfl,hS.below⟩
 ·have hg22:=hc;clear hc
  refine aC (d:=22) rfl rfl (bG (vs:=[_,_,_]) isAgg25 sizeOf25 rfl (aT.own (j:=0) (m:=3) (hS.at_ 0 rfl) rfl) rfl (aC (d:=22) rfl rfl (cX (vs:=[_]) hS zL rfl (oX db _ (hDb.below hS.below)) rfl fun W5 hS=>aC (d:=22) rfl rfl (iY rfl rfl (cJ rfl rfl rfl (aA rfl rfl (bN (d:=27) rfl (fun hc=>?_) (fun hc=>?_))))))))
  ·have hg27:=hc;clear hc
   refine aE (d:=27) rfl rfl rfl rfl (aE (d:=27) rfl rfl rfl rfl (aE (d:=27) rfl rfl rfl rfl (aY rfl rfl rfl (aA rfl rfl (aE (d:=32) rfl rfl rfl rfl (aE (d:=32) rfl rfl rfl rfl (aE (d:=32) rfl rfl rfl rfl (aY rfl rfl rfl (aA rfl rfl (aE (d:=37) rfl rfl rfl rfl (aE (d:=37) rfl rfl rfl rfl (aE (d:=37) rfl rfl rfl rfl (aE (d:=37) rfl rfl rfl rfl (aE (d:=37) rfl rfl rfl rfl (aY rfl rfl rfl (aJ (XF.thenN (eN rfl (aG (aO (cX (vs:=[]) hS iS rfl (fJ _) rfl fun W6 hS=>aB rfl rfl (aJ (XF.thenN (cH (XF.thenR (XF.res (cT results7 rfl) ?_))))))))))))))))))))))))))
   exact ⟨rfl,hS.below⟩
  ·have hg27:=hc;clear hc
   refine aC (d:=27) rfl rfl (bG (vs:=[_,_,_]) isAgg25 sizeOf25 rfl (aT.own (j:=0) (m:=3) (hS.at_ 1 rfl) rfl) rfl (aC (d:=27) rfl rfl (cX (vs:=[_]) hS uV rfl (uF da _ (hDa.below hS.below)) rfl fun W7 hS=>aC (d:=27) rfl rfl (dT rfl rfl rfl (cJ rfl rfl rfl (aA rfl rfl (bN (d:=32) rfl (fun hc=>?_) (fun hc=>?_))))))))
   ·have hg32:=of_decide_eq_true hc;clear hc
    refine aE (d:=32) rfl rfl rfl rfl (aE (d:=32) rfl rfl rfl rfl (aE (d:=32) rfl rfl rfl rfl (aY rfl rfl rfl (aA rfl rfl (aE (d:=37) rfl rfl rfl rfl (aE (d:=37) rfl rfl rfl rfl (aE (d:=37) rfl rfl rfl rfl (aE (d:=37) rfl rfl rfl rfl (aE (d:=37) rfl rfl rfl rfl (aY rfl rfl rfl (aJ (XF.thenN (eN rfl (aG (aO (cX (vs:=[]) hS iS rfl (fJ _) rfl fun W8 hS=>aB rfl rfl (aJ (XF.thenN (cH (XF.thenR (XF.res (cT results7 rfl) ?_)))))))))))))))))))))
    exact ⟨rfl,hS.below⟩
   ·have hg32:=of_decide_eq_false hc;clear hc
    refine aC (d:=32) rfl rfl (bG (vs:=[_,_,_]) isAgg25 sizeOf25 rfl (aT.own (j:=0) (m:=3) (hS.at_ 0 rfl) rfl) rfl (aC (d:=32) rfl rfl (cX (vs:=[_]) hS uV rfl (uF db _ (hDb.below hS.below)) rfl fun W9 hS=>aC (d:=32) rfl rfl (dT rfl rfl rfl (cJ rfl rfl rfl (aA rfl rfl (bN (d:=37) rfl (fun hc=>?_) (fun hc=>?_))))))))
    ·have hg37:=of_decide_eq_true hc;clear hc
     refine aE (d:=37) rfl rfl rfl rfl (aE (d:=37) rfl rfl rfl rfl (aE (d:=37) rfl rfl rfl rfl (aE (d:=37) rfl rfl rfl rfl (aE (d:=37) rfl rfl rfl rfl (aY rfl rfl rfl (aJ (XF.thenN (eN rfl (aG (aO (cX (vs:=[]) hS iS rfl (fJ _) rfl fun W10 hS=>aB rfl rfl (aJ (XF.thenN (cH (XF.thenR (XF.res (cT results7 rfl) ?_))))))))))))))))
     exact ⟨rfl,hS.below⟩
    ·have hg37:=of_decide_eq_false hc;clear hc
     refine aC (d:=37) rfl rfl (aQ (o':=0) dN rfl rfl rfl (aC (d:=37) rfl rfl (aN isAgg3 rfl (aD (hS.at_ 1 rfl) rfl) rfl (aC (d:=37) rfl rfl (aQ (o':=0) dN rfl rfl rfl (aC (d:=37) rfl rfl (aN isAgg3 rfl (aD (hS.at_ 0 rfl) rfl) rfl (aC (d:=37) rfl rfl (dT rfl rfl rfl (cJ rfl rfl rfl (aJ (XF.thenN (bT rfl (fun hc=>?_) (fun hc=>?_))))))))))))))
     ·have hc43:=of_decide_eq_true hc;clear hc
      refine aG (aO (cX (vs:=[]) hS iS rfl (fJ _) rfl fun W11 hS=>aB rfl rfl (aJ (XF.thenN (cH (XF.thenR (XF.res (cT results7 rfl) ?_)))))))
      exact ⟨rfl,hS.below⟩
     ·have hc43:=of_decide_eq_false hc;clear hc
      have hea:cK da=0:=by omega
      have heb:cK db=0:=by omega
      have hsy:da.sy=db.sy:=by omega
      have hbd:=sG hea heb hsy
      have hbd2:=sG heb hea hsy.symm
      have hA:=zM hDa hea
      have hB:=zM hDb heb
      have hkk:(dFA da).k=(dFA db).k:=by show da.sy.toNat=db.sy.toNat;rw [hsy]
      refine bV (XF.thenN (aG (aO (bG (vs:=[_,_,_]) isAgg25 sizeOf25 rfl (aT.own (j:=0) (m:=3) (hS.at_ 1 rfl) rfl) rfl (bQ (vs:=[_]) lO rfl (mE da [] _ _ _ w _ hS (fun q hq=>by cases hq) (gM hDa)) rfl ?_)))))
      rintro e W9 ⟨dp,K1,hdp,rfl,hK1,hDdp,hS9⟩
      rw [hea]
      refine ⟨_,rfl,?_⟩
      clear hS;have hS:=hS9;clear hS9
      refine aA rfl rfl (bL rfl rfl rfl (bL rfl rfl rfl (cG (cs:=[_,_,_]) hS zeroValue25 rfl rfl fun B12 W12 hS=>bY (i:=0) (vs:=[_,_,_]) (cs':=[_,_,_]) (O':=[_,_,_]) hS sizeOf25 rfl rfl rfl rfl rfl rfl rfl fun W13 hS=>aB rfl rfl (aJ (XF.thenN (aG (aO (bG (vs:=[_,_,_]) isAgg25 sizeOf25 rfl (aT.own (j:=0) (m:=3) (hS.at_ 1 rfl) rfl) rfl (bQ (vs:=[_]) lO rfl (mE db [] _ _ K1 w _ (hS.keep K1 (fun q hq=>by simp [hq])) (fun q hq=>by cases hq) (gM hDb)) rfl ?_)))))))))
      rintro e W9 ⟨dq,K2,hdq,rfl,hK2,hDdq,hS9⟩
      rw [heb]
      refine ⟨_,rfl,?_⟩
      clear hS;have hS:=hS9;clear hS9
      refine aA rfl rfl (bL rfl rfl rfl (bL rfl rfl rfl (cG (cs:=[_,_,_]) hS zeroValue25 rfl rfl fun B14 W14 hS=>bY (i:=0) (vs:=[_,_,_]) (cs':=[_,_,_]) (O':=[_,_,_,_]) hS sizeOf25 rfl rfl rfl rfl rfl rfl rfl fun W15 hS=>aB rfl rfl (aJ (XF.thenN (aG (aO (bG (vs:=[_,_,_]) isAgg25 sizeOf25 rfl (aT.own (j:=0) (m:=3) (hS.at_ 3 rfl) rfl) rfl (bG (vs:=[_,_,_]) isAgg25 sizeOf25 rfl (aT.own (j:=0) (m:=3) (hS.at_ 2 rfl) rfl) rfl (bQ (vs:=[_,_]) vI rfl (nY da db [] _ _ K2 w _ (hS.keep K2 (fun q hq=>by simp [hq])) (fun q hq=>by cases hq) (gM hDa) (gM hDb)) rfl ?_))))))))))
      rintro e W9 ⟨r1,war1,wcr1,K3,hfr1,_,rfl,hK3,_,hS9⟩
      rw [hbd]
      refine ⟨_,rfl,?_⟩
      clear hS;have hS:=hS9;clear hS9
      refine aA rfl rfl (bL rfl rfl rfl (bL rfl rfl rfl (bL rfl rfl rfl (aB rfl rfl (aB rfl rfl (aB rfl rfl (aJ (XF.thenN (aG (aO (bG (vs:=[_,_,_]) isAgg25 sizeOf25 rfl (aT.own (j:=0) (m:=3) (hS.at_ 2 rfl) rfl) rfl (bG (vs:=[_,_,_]) isAgg25 sizeOf25 rfl (aT.own (j:=0) (m:=3) (hS.at_ 3 rfl) rfl) rfl (bQ (vs:=[_,_]) vI rfl (nY db da [] _ _ K3 w _ (hS.keep K3 (fun q hq=>by simp [hq])) (fun q hq=>by cases hq) (gM hDb) (gM hDa)) rfl ?_)))))))))))))
      rintro e W9 ⟨r2,war2,wcr2,K4,hfr2,_,rfl,hK4,_,hS9⟩
      rw [hbd2]
      refine ⟨_,rfl,?_⟩
      clear hS;have hS:=hS9;clear hS9
      refine aA rfl rfl (bL rfl rfl rfl (bL rfl rfl rfl (bL rfl rfl rfl (aB rfl rfl (aB rfl rfl (aB rfl rfl (aJ (XF.thenN (aG (aO (bG (vs:=[_,_,_]) isAgg25 sizeOf25 rfl (aT.own (j:=0) (m:=3) (hS.at_ 3 rfl) rfl) rfl (bQ (vs:=[_]) vH rfl (vG da [] _ _ K4 w _ (hS.keep K4 (fun q hq=>by simp [hq])) (fun q hq=>by cases hq) (gM hDa)) rfl ?_))))))))))))
      rintro e W9 ⟨dn,K5,hdn,rfl,hK5,hDdn,hS9⟩
      rw [hea]
      refine ⟨_,rfl,?_⟩
      clear hS;have hS:=hS9;clear hS9
      refine aA rfl rfl (bL rfl rfl rfl (bL rfl rfl rfl (cG (cs:=[_,_,_]) hS zeroValue25 rfl rfl fun B16 W16 hS=>bY (i:=0) (vs:=[_,_,_]) (cs':=[_,_,_]) (O':=[_,_,_,_,_]) hS sizeOf25 rfl rfl rfl rfl rfl rfl rfl fun W17 hS=>aB rfl rfl (aJ (XF.thenN (aG (aO (bG (vs:=[_,_,_]) isAgg25 sizeOf25 rfl (aT.own (j:=0) (m:=3) (hS.at_ 0 rfl) rfl) rfl (bQ (vs:=[_]) vH rfl (vG dn K5 _ _ K5 w _ (hS.keep K5 (fun q hq=>by simp [hq])) (fun q hq=>hq) hDdn) rfl ?_)))))))))
      rintro e W9 ⟨dm,K6,hdm,rfl,hK6,hDdm,hS9⟩
      have hnn:=(hdn.ok hea).1
      rw [hnn.e]
      refine ⟨_,rfl,?_⟩
      clear hS;have hS:=hS9;clear hS9
      refine aA rfl rfl (bL rfl rfl rfl (bL rfl rfl rfl (cG (cs:=[_,_,_]) hS zeroValue25 rfl rfl fun B18 W18 hS=>bY (i:=0) (vs:=[_,_,_]) (cs':=[_,_,_]) (O':=[_,_,_,_,_,_]) hS sizeOf25 rfl rfl rfl rfl rfl rfl rfl fun W19 hS=>aB rfl rfl (aJ (XF.thenN (aG ?_))))))
      have hpp:=(hdp.ok hea).1
      have hqq:=(hdq.ok heb).1
      have heq:=one_eq hA hB hkk hpp hqq (hfr1 hbd) (hfr2 hbd2)
      have hmp:=zN hnn (hdm.ok hnn.e).1 hpp
      refine aO (aA rfl rfl (eA rfl rfl rfl (aA rfl rfl (bN (d:=81) rfl (fun hc=>?_) (fun hc=>absurd (of_decide_eq_false hc) (by omega))))))
      have hc:=of_decide_eq_true hc
      refine aC (d:=81) rfl rfl (aA rfl rfl (aC (d:=81) rfl rfl (eA rfl rfl rfl (aY rfl rfl rfl (aA rfl rfl (bN (d:=85) rfl (fun hc=>?_) (fun hc=>absurd (of_decide_eq_false hc) (by omega))))))))
      have hc:=of_decide_eq_true hc
      refine aC (d:=85) rfl rfl (aA rfl rfl (aC (d:=85) rfl rfl (eA rfl rfl rfl (aY rfl rfl rfl (aA rfl rfl (bN (d:=89) rfl (fun hc=>?_) (fun hc=>absurd (of_decide_eq_false hc) (by omega))))))))
      have hc:=of_decide_eq_true hc
      refine aC (d:=89) rfl rfl (aA rfl rfl (aC (d:=89) rfl rfl (eA rfl rfl rfl (aY rfl rfl rfl (aA rfl rfl (bN (d:=93) rfl (fun hc=>?_) (fun hc=>absurd (of_decide_eq_false hc) (by omega))))))))
      have hc:=of_decide_eq_true hc
      refine aC (d:=93) rfl rfl (aA rfl rfl (aC (d:=93) rfl rfl (eA rfl rfl rfl (aY rfl rfl rfl (aA rfl rfl (bN (d:=97) rfl (fun hc=>?_) (fun hc=>absurd (of_decide_eq_false hc) (by omega))))))))
      have hc:=of_decide_eq_true hc
      refine aC (d:=97) rfl rfl (aA rfl rfl (aC (d:=97) rfl rfl (eA rfl rfl rfl (aY rfl rfl rfl (aA rfl rfl (bN (d:=101) rfl (fun hc=>?_) (fun hc=>absurd (of_decide_eq_false hc) (by omega))))))))
      have hc:=of_decide_eq_true hc
      refine aC (d:=101) rfl rfl (aA rfl rfl (aC (d:=101) rfl rfl (aA rfl rfl (bN (d:=103) rfl (fun hc=>?_) (fun hc=>?_)))))
      ·have hg103:=hc;clear hc
       refine aC (d:=103) rfl rfl (aA rfl rfl (aC (d:=101) rfl rfl (aY rfl rfl rfl (aC (d:=101) rfl rfl (bG (vs:=[_,_,_]) isAgg25 sizeOf25 rfl (aT.own (j:=0) (m:=3) (hS.at_ 3 rfl) rfl) rfl (aC (d:=101) rfl rfl (bG (vs:=[_,_,_]) isAgg25 sizeOf25 rfl (aT.own (j:=0) (m:=3) (hS.at_ 2 rfl) rfl) rfl (aC (d:=101) rfl rfl (cX (vs:=[_,_]) hS mZ rfl (kA dp dq _ (hDdp (hS.keep K6 (fun q hq=>by simp [hq])) (fun q hq=>hK6 q (hK5 q (hK4 q (hK3 q (hK2 q hq)))))) (hDdq (hS.keep K6 (fun q hq=>by simp [hq])) (fun q hq=>hK6 q (hK5 q (hK4 q (hK3 q hq)))))) rfl fun W20 hS=>aC (d:=101) rfl rfl (tM underlying4 rfl rfl rfl (aY rfl rfl rfl (aA rfl rfl ?_))))))))))))
       refine bN (d:=111) rfl (fun hc=>?_) (fun hc=>absurd hc (by rw [hg103,Bool.true_and] at heq;rw [heq];simp))
       skip
       refine aC (d:=111) rfl rfl (bG (vs:=[_,_,_]) isAgg25 sizeOf25 rfl (aT.own (j:=0) (m:=3) (hS.at_ 0 rfl) rfl) rfl (aC (d:=111) rfl rfl (bG (vs:=[_,_,_]) isAgg25 sizeOf25 rfl (aT.own (j:=0) (m:=3) (hS.at_ 3 rfl) rfl) rfl (aC (d:=111) rfl rfl (cX (vs:=[_,_]) hS mZ rfl (kA dm dp _ (hDdm (hS.keep K6 (fun q hq=>by simp [hq])) (fun q hq=>hq)) (hDdp (hS.keep K6 (fun q hq=>by simp [hq])) (fun q hq=>hK6 q (hK5 q (hK4 q (hK3 q (hK2 q hq))))))) rfl fun W21 hS=>aY rfl rfl rfl (aA rfl rfl ?_))))))
       refine bN (d:=116) rfl (fun hc=>?_) (fun hc=>absurd hc (by rw [hmp];decide))
       skip
       refine aC (d:=116) rfl rfl (cX (vs:=[]) hS iS rfl (fJ _) rfl fun W22 hS=>aY rfl rfl rfl (aB rfl rfl (aJ (XF.thenN (cH (XF.res (cT results7 rfl) ?_))))))
       exact ⟨rfl,hS.below⟩
      ·have hg103:=hc;clear hc
       refine aE (d:=103) rfl rfl rfl rfl (aC (d:=101) rfl rfl (cJ rfl rfl rfl (aC (d:=101) rfl rfl (bG (vs:=[_,_,_]) isAgg25 sizeOf25 rfl (aT.own (j:=0) (m:=3) (hS.at_ 3 rfl) rfl) rfl (aC (d:=101) rfl rfl (bG (vs:=[_,_,_]) isAgg25 sizeOf25 rfl (aT.own (j:=0) (m:=3) (hS.at_ 2 rfl) rfl) rfl (aC (d:=101) rfl rfl (cX (vs:=[_,_]) hS mZ rfl (kA dp dq _ (hDdp (hS.keep K6 (fun q hq=>by simp [hq])) (fun q hq=>hK6 q (hK5 q (hK4 q (hK3 q (hK2 q hq)))))) (hDdq (hS.keep K6 (fun q hq=>by simp [hq])) (fun q hq=>hK6 q (hK5 q (hK4 q (hK3 q hq)))))) rfl fun W23 hS=>aC (d:=101) rfl rfl (tM underlying4 rfl rfl rfl (aY rfl rfl rfl (aA rfl rfl ?_)))))))))))
       refine bN (d:=111) rfl (fun hc=>?_) (fun hc=>absurd hc (by rw [hg103,Bool.false_and] at heq;rw [← heq];simp))
       skip
       refine aC (d:=111) rfl rfl (bG (vs:=[_,_,_]) isAgg25 sizeOf25 rfl (aT.own (j:=0) (m:=3) (hS.at_ 0 rfl) rfl) rfl (aC (d:=111) rfl rfl (bG (vs:=[_,_,_]) isAgg25 sizeOf25 rfl (aT.own (j:=0) (m:=3) (hS.at_ 3 rfl) rfl) rfl (aC (d:=111) rfl rfl (cX (vs:=[_,_]) hS mZ rfl (kA dm dp _ (hDdm (hS.keep K6 (fun q hq=>by simp [hq])) (fun q hq=>hq)) (hDdp (hS.keep K6 (fun q hq=>by simp [hq])) (fun q hq=>hK6 q (hK5 q (hK4 q (hK3 q (hK2 q hq))))))) rfl fun W24 hS=>aY rfl rfl rfl (aA rfl rfl ?_))))))
       refine bN (d:=116) rfl (fun hc=>?_) (fun hc=>absurd hc (by rw [hmp];decide))
       skip
       refine aC (d:=116) rfl rfl (cX (vs:=[]) hS iS rfl (fJ _) rfl fun W25 hS=>aY rfl rfl rfl (aB rfl rfl (aJ (XF.thenN (cH (XF.res (cT results7 rfl) ?_))))))
       exact ⟨rfl,hS.below⟩
end
section
open Go.RowKit Go.ChangeShapes Go.WideShapes Go.Deep Go.Joins
theorem pB {α:Type}:∀ (n:Nat) (p:Nat→α→Prop),(∀ i,i < n→∃ c,p i c)→∃ xs:List α,xs.length=n∧∀ i c,xs[i]?=some c→p i c
 | 0,p,h=>⟨[],rfl,fun i c hi=>by simp at hi⟩
 | n+1,p,h=>by
  obtain ⟨xs,hl,hp⟩:=pB n p (fun i hi=>h i (by omega))
  obtain ⟨c,hc⟩:=h n (by omega)
  refine ⟨xs++[c],by simp [hl],fun i d hi=>?_⟩
  rcases Nat.lt_or_ge i n with h1 | h1
  ·rw [List.getElem?_append_left (by omega)] at hi
   exact hp i d hi
  ·obtain ⟨h2,_⟩:=List.getElem?_eq_some_iff.1 hi
   simp [hl] at h2
   obtain rfl:i=n:=by omega
   rw [List.getElem?_append_right (by omega),hl,Nat.sub_self] at hi
   simp at hi
   subst hi
   exact hc
section
variable {H:Type} {enc:TypeId×Value→H} {w:World} {base:Nat} {spare:Nat→Bool} {held:Bool}
end
section
variable {H:Type} {enc:TypeId×Value→H} {w:World} {base:Nat} {spare:Nat→Bool} {held:Bool}
theorem ints_in {n:Nat} {v:Value} {x:DataW H×List MemPlace} (h:DataW.trod enc prog w base spare held n 36 [v]=some x) :
  ∃ (a:Option Addr) (len cap:Nat) (zs:List Int),v = .slice a len cap∧Row w a zs∧zs.length=len∧len≤cap∧cap≤maxLen:=by
 rcases open_ints (t:=36) (e:=3) (k:=.i64) (by kernel_rfl) (by kernel_rfl) (by kernel_rfl) h with ⟨hcs,_⟩ | ⟨x,len,cap,zs,hcs,_,hl,hm,hz,_,hcell,hwz⟩
 ·have hcs':v = .slice none 0 0:=by simpa using hcs
  subst hcs'
  exact ⟨none,0,0,[],rfl,.inl rfl,rfl,Nat.le_refl _,Nat.zero_le _⟩
 ·have hcs':v = .slice (some x) len cap:=by simpa using hcs
  subst hcs'
  have hzl:len≤zs.length:=by rw [hz];split<;>omega
  refine ⟨some x,len,cap,zs.take len,rfl,?_,by simp;omega,hl,hm⟩
  rcases Nat.eq_zero_or_pos len with h0 | h0
  ·subst h0;exact .inl (by simp)
  ·obtain ⟨b,off,spot⟩:=x
   have hc0:=hcell 0 (by omega)
   have hspot:spot=none:=by simpa [Addr.add] using World.cell?_spot hc0
   subst hspot
   refine .inr ⟨b,off,rfl,fun i hi=>?_⟩
   have hi1:i < len:=by simp at hi;omega
   have hi2:i < zs.length:=by omega
   have hc:=hcell i hi2
   have e:({ block:=b,off:=off }:Addr).add i=⟨b,off+i,none⟩:=by simp [Addr.add]
   rw [e] at hc
   rw [hc]
   simp [List.getD,List.getElem?_take,hi1]
end
theorem tL {cs:List Value} (h:cs.length=3):∃ a b c,cs=[a,b,c]:=by
 match cs,h with
 | [a,b,c],_=>exact ⟨a,b,c,rfl⟩
section
variable {H:Type} {enc:TypeId×Value→H} {w:World} {base:Nat} {spare:Nat→Bool} {held:Bool}
theorem sI {α:Type} {val:α→Value} {pr:α→Prop} {t e:TypeId} {n:Nat} {v:Value} {x:DataW H×List MemPlace} (ht:prog.underlying t=some (.slice e)) (hc:prog.cellsOf e=1)
  (one:∀ (n:Nat) (cs:List Value) (x:DataW H×List MemPlace),DataW.trod enc prog w base spare held n e cs=some x→∃ y,cs=[val y]∧pr y) (h:DataW.trod enc prog w base spare held n t [v]=some x) :
  ∃ (a:Option Addr) (len cap:Nat) (xs:List α),v = .slice a len cap∧(∀ (i:Nat) r,xs[i]?=some r→∃ b off,a=some ⟨b,off,none⟩∧w.cell? ⟨b,off+i * 1,none⟩=some (val r))∧(∀ r∈xs,pr r)∧xs.length=len∧len≤cap∧cap≤maxLen:=by
 rcases DataW.trod_slice ht h with ⟨hcs,_⟩ | ⟨ad,len,cap,elems,rest,n2,hn2,hcs,_,hb,hle,hcap,hel,hi,_,_⟩
 ·simp at hcs
  subst hcs
  exact ⟨none,0,0,[],rfl,(fun i r hi=>by simp at hi),(fun r hr=>by cases hr),rfl,Nat.le_refl _,Nat.zero_le _⟩
 ·simp at hcs
  subst hcs
  rw [hc] at hi
  obtain ⟨rs,hrl,hrs⟩:=pB len (fun i (r:α)=>w.cell? (ad.add (i * 1))=some (val r)∧pr r) (fun i hil=>by
   have hii:=hi i hil
   rw [List.getElem?_eq_getElem (by omega)] at hii
   obtain ⟨cs',hc',ht'⟩:=Option.bind_eq_some_iff.1 hii
   obtain ⟨_,hcl,hat⟩:=World.cells?_some hc'
   obtain ⟨r,rfl,hr⟩:=one _ _ _ ht'
   refine ⟨r,?_,hr⟩
   have h0:=hat 0 (by omega)
   rw [Go.Deep.add_add,Nat.add_zero] at h0
   rw [h0];rfl)
  refine ⟨some ad,len,cap,rs,rfl,fun i r hir=>?_,fun r hr=>?_,hrl,hle,hcap⟩
  ·obtain ⟨b,off,spot⟩:=ad
   have h1:=(hrs i r hir).1
   have hl0:0 < rs.length:=Nat.lt_of_le_of_lt (Nat.zero_le _) (List.getElem?_eq_some_iff.1 hir).1
   have h2:=(hrs 0 _ (List.getElem?_eq_getElem hl0)).1
   have hspot:spot=none:=by simpa [Addr.add] using World.cell?_spot h2
   subst hspot
   refine ⟨b,off,rfl,?_⟩
   have e:∀ k,({ block:=b,off:=off }:Addr).add k=⟨b,off+k,none⟩:=fun k=>by simp [Addr.add]
   rw [e] at h1
   exact h1
  ·obtain ⟨i,hi',hic⟩:=List.mem_iff_getElem.1 hr
   exact (hrs i r (by rw [← hic];exact List.getElem?_eq_getElem hi')).2
theorem sJ {r:Reach} {b0:Nat} {v:Value} {d:DataW H} {p:List MemPlace} (hv:Value.okWide prog w r b0 25 v) (h:DataW.Trod enc prog w base spare held 25 v d p) :
  ∃ (s:DV),v=s.val∧DIn w s:=by
 obtain ⟨cs,rfl,_⟩:=okWide_struct underlying25 hv
 obtain ⟨n,h⟩:=h
 obtain ⟨xs,n',hn,_,hl,hlen,hg⟩:=DataW.trod_struct underlying25 h
 rw [show prog.cellsOf 25=3 by kernel_rfl] at hl
 obtain ⟨a,b,c,hcs⟩:=tL hl
 rw [hcs] at hg
 have hlen3:xs.length=3:=hlen
 have g0:=hg 0 _ rfl
 have g1:=hg 1 _ rfl
 have g2:=hg 2 _ rfl
 rw [show prog.cellsOf _=1 by kernel_rfl,List.getElem?_eq_getElem (by omega)] at g0 g1 g2
 obtain ⟨z0,e0,_,w0⟩:=DataW.trod_int (k:=.i64) (by kernel_rfl) g0
 simp at e0
 subst e0
 obtain ⟨na,nl,nc,ns,rfl,hnr,hni,hnl,hnc,hnm⟩:=sI (val:=IV.val) (pr:=fun r:IV=>Row w r.a r.xs∧r.xs.length=r.l∧r.l≤9223372036854775807) (e:=36) (v:=b) (by kernel_rfl) (by kernel_rfl) (fun n cs x h=>by
  obtain ⟨y,rfl⟩:∃ y,cs=[y]:=by
   obtain ⟨h1,h2⟩:cs.length=1∧True:=⟨by
    rcases DataW.trod_slice underlying36 h with ⟨h9,_⟩ | ⟨ad,len,cap,elems,rest,n2,hn2,h9,_⟩
    ·rw [h9];rfl
    ·rw [h9];rfl,trivial⟩
   match cs,h1 with
   | [y],_=>exact ⟨y,rfl⟩
  obtain ⟨fa,fl,fc,fs,rfl,h1,h2,h3,h4⟩:=ints_in h
  exact ⟨⟨fa,fl,fc,fs⟩,rfl,h1,h2,by simp only [maxLen] at h4;dsimp only;omega⟩) g1
 obtain ⟨aa,al,ac,bs,rfl,har,_,hal,hac,ham⟩:=sI (val:=Value.bool) (pr:=fun _=>True) (e:=4) (v:=c) (by kernel_rfl) (by kernel_rfl) (fun n cs x h=>by
  obtain ⟨y,h1,_⟩:=DataW.trod_bool (by kernel_rfl) h
  exact ⟨y,h1,trivial⟩) g2
 refine ⟨⟨z0,na,nl,nc,ns,aa,al,ac,bs⟩,?_,⟨hnr,hnl,hni,har,hal,?_,?_⟩⟩
 ·show Value.agg cs=Value.agg _
  congr 1
  exact Array.ext' hcs
 ·simp only [maxLen] at hnm;dsimp only;omega
 ·simp only [maxLen] at ham;dsimp only;omega
end
end
end Go.Proofs.Ytghmbejblbnjjaa
