import Derived.Lib.SmallJoins
import Derived.ChangeSlices
import Derived.ChangeSame
import Derived.ProofKit
import Derived.Deep.Slices
import Derived.Deep.Fields
import Derived.Test.YtghmbejblbnjjaaDlD
set_option maxRecDepth 100000
set_option maxHeartbeats 4000000
set_option linter.unusedVariables false
set_option linter.unusedSimpArgs false
set_option linter.unusedSectionVars false
set_option linter.unnecessarySimpa false
namespace Go.Proofs.Ytghmbejblbnjjaa
open Go.Proofs.Try
section
open Go.RowKit
theorem goes_65:cD prog 65=true:=by kernel_rfl
def nz (A:FA) (f:Nat→Nat) (n i:Nat):List Nat:=(List.range i).map (fun s=>mIx A f (mR A f s) s)++List.replicate (n - i) 0
theorem Bp {A:FA} {f:Nat→Nat} {n i:Nat} (h:i≤n):(nz A f n i).length=n:=by unfold nz;simp;omega
theorem nz_zero {A:FA} {f:Nat→Nat} {n:Nat}:nz A f n 0=List.replicate n 0:=by unfold nz;simp
theorem nz_end {A:FA} {f:Nat→Nat} {n:Nat}:nz A f n n=mC A f n:=by unfold nz mC;simp
theorem Bq {A:FA} {f:Nat→Nat} {n i:Nat} (h:i < n):(nz A f n i).set i (mIx A f (mR A f i) i)=nz A f n (i+1):=by
 unfold nz
 obtain ⟨m,hm⟩:∃ m,n - i=m+1:=⟨n - i - 1,by omega⟩
 rw [hm,show n - (i+1)=m by omega,List.replicate_succ,List.set_append_right _ _ (by simp),List.length_map,List.length_range,Nat.sub_self,List.set_cons_zero,List.range_succ,List.map_append,List.append_assoc];rfl
theorem yF {d:DV} (h1:1≤d.nl) (hbl:d.bs.length=d.nl):MoI (dFA d) (cv d 0) 0:=by
 refine ⟨A0 hbl 0,fun s t hs ht e=>?_,fun h=>absurd h (Nat.lt_irrefl _),Nat.zero_le _⟩
 have h2:d.bs.getD s false=d.bs.getD t false:=e [] Wd.nil
 have key:∀ s,s < d.nl→gN (cv d 0) s=b2n (d.bs.getD s false):=fun s hs=>by
  unfold gN cv
  rw [List.getD_eq_getElem?_getD,List.getElem?_map,List.getD_eq_getElem?_getD,List.getElem?_eq_getElem (by omega)];rfl
 rw [key s hs,key t ht,h2]
structure ClOk (d:DV) (L:List Nat) (cm:Nat):Prop where
 len:L.length=d.nl
 lt:∀ s,s < d.nl→gN L s < cm
 le:cm≤d.nl
 cong:Cong (dFA d) (gN L)
 eqv:∀ s t,s < d.nl→t < d.nl→Eqv (dFA d) s (dFA d) t→gN L s=gN L t
theorem vJ (d:DV) (Kt:List (Nat×World)) (Ot:Own) (G:bI) (K:List (Nat×World)) (w0 w:World) (hS0:St w0 Ot G K w) (hKt:∀ q∈Kt,q∈K) (hD:dB w0 Kt (fun W=>DIn W d)) (he:cQ d=0) :
  Calls prog 56 #[d.val] w (fun e w'=>∃ (a:Option Addr) (L:List Nat) (cm:Nat) (Kn:List (Nat×World)),e = .returned (.slice a d.nl d.nl)∧ClOk d L cm∧(∀ q∈K,q∈Kn)∧dB w0 Kn (fun W=>Row W a (wI L))∧St w0 Ot G Kn w'):=by
 refine cL (args:=[d.val]) func56 rfl ntmps56 rfl ?_
 have hS:=hS0
 obtain ⟨k9,hk9,h1,h2,h3,h4,h5,h6⟩:=dM he
 have hDI0:=hD hS0 hKt
 have hbl:d.bs.length=d.nl:=by have:=hDI0.alen;omega
 have hO:=vG hDI0 he
 refine aI (aP (cV (cs:=[_,_,_]) hS rfl rfl rfl fun B1 W1 hS=>aB rfl rfl (aK (XF.thenN (aI (aP (aV (o':=1) cJ rfl rfl rfl (aR isAgg22 rfl (aE (hS.at_ 0 rfl) rfl) rfl (bM underlying22 rfl rfl (aB rfl rfl (aK (XF.thenN (aI (aP (aA rfl rfl ?_)))))))))))))))
 refine fQ (m:=d.nl) (cs:=cY (List.replicate d.nl 0)) hS underlying36 lU rfl rfl rfl (rfl) (rfl) (lC _) (by show (8:Int) * _≤_;omega) (by omega) rfl fun B2 W2 hS=>?_
 refine aB rfl rfl (aK (XF.thenN (aI (aI (aP (aB rfl rfl (aK (XF.thenN (bG ?_)))))))))
 refine cO (fun m l W=>∃ i:Nat,i≤d.nl∧m=d.nl - i∧l=[(1,.pointer (some ⟨B1,0,none⟩)),(3,.int .i64 (d.nl:Int)),(4,.slice (some ⟨B2,0,none⟩) d.nl d.nl),(5,.int .i64 (i:Int))]∧St w0 ((B2,cY (cz d i),3)::(B1,[.int .i64 d.sy,.slice d.na d.nl d.nc,.slice d.aa d.al d.ac],25)::Ot) G K W) (d.nl - 0) ([(1,_),(3,_),(4,_),(5,_)]) ⟨rfl,rfl,rfl,rfl,trivial⟩ (⟨0,Nat.zero_le _,rfl,rfl,by rw [xC];exact hS.keep K (fun q hq=>by simp [hq])⟩) ?_
 clear hS
 rintro m l W ⟨i,hi,rfl,rfl,hS⟩
 refine aI (aI (aP (aA rfl rfl (aA rfl rfl (cB rfl rfl rfl (aK (XF.thenN (bP rfl (fun hc=>?_) (fun hc=>?_)))))))))
 ·have hc18:=of_decide_eq_true hc;clear hc
  obtain ⟨b5,o5,y,hba,hy,hyc⟩:=eI.at9 (hD hS (fun q hq=>hKt q hq)).arow (i:=i) (by omega)
  refine bS (XF.thenN (aI (bG (aI (aP (aV (o':=2) cR rfl rfl rfl (aR isAgg23 rfl (aE (hS.at_ 1 rfl) rfl) rfl (aA rfl rfl ?_))))))))
  refine aW (j:=i) (b:=b5) (o:=o5) (m:=d.al) (c:=d.ac) underlying23 sizeOf4 (by show some (Value.slice d.aa _ _)=_;rw [hba]) rfl rfl (by omega) rfl rfl ?_
  refine aR isAgg4 rfl (hyc) rfl (aK (XF.thenN (bP rfl (fun hc=>?_) (fun hc=>?_))))
  ·have hc25:=hc;clear hc
   subst hc25
   refine aP (aA rfl rfl (aA rfl rfl (aW (j:=i) underlying36 sizeOf3 rfl rfl (rfl) (by omega) rfl rfl ?_)))
   refine bN (i:=0) (cs':=cY ((cz d i).set i 1)) (O':=(_::_::Ot)) hS sizeOf3 rfl rfl rfl rfl (Nat.ble_eq_true_of_le (by rw [fU,A2 hbl (by omega)];omega)) (fV rfl) rfl fun W51 hS=>?_
   refine aK (XF.blkN (XF.thenN (aP (aA rfl rfl (bT rfl rfl (IntWalk.i64_in _ (by omega)) rfl (aB rfl rfl (aK ?_)))))))
   rw [A7 hbl (by omega) hy] at hS
   exact XF.round (d.nl - (i+1)) [(1,_),(3,_),(4,_),(5,_)] (by omega) ⟨rfl,rfl,rfl,rfl,trivial⟩ ⟨i+1,by omega,rfl,rfl,hS.keep K (fun q hq=>by simp [hq])⟩
  ·have hc25:=hc;clear hc
   subst hc25
   refine bS (XF.blkN (XF.thenN (aP (aA rfl rfl (bT rfl rfl (IntWalk.i64_in _ (by omega)) rfl (aB rfl rfl (aK ?_)))))))
   rw [cz_no hbl (by omega) hy] at hS
   exact XF.round (d.nl - (i+1)) [(1,_),(3,_),(4,_),(5,_)] (by omega) ⟨rfl,rfl,rfl,rfl,trivial⟩ ⟨i+1,by omega,rfl,rfl,hS.keep K (fun q hq=>by simp [hq])⟩
 ·have hc18:=of_decide_eq_false hc;clear hc
  have ein:i=d.nl:=by omega
  rw [ein,A3 hbl] at hS
  refine cN (XF.thenX (XF.thenX (XF.blkX (XF.thenN (aI (aP (aB rfl rfl (aK (XF.thenN (bG (cO (fun m l W=>∃ (OB:Nat) (L:List Nat) (cnt:Nat),m=d.nl+1 - cnt∧l=[(1,.pointer (some ⟨B1,0,none⟩)),(3,.int .i64 (d.nl:Int)),(4,.slice (some ⟨OB,0,none⟩) d.nl d.nl),(6,.int .i64 (cnt:Int))]∧MoI (dFA d) L cnt∧St w0 ((OB,cY L,3)::(B1,[.int .i64 d.sy,.slice d.na d.nl d.nc,.slice d.aa d.al d.ac],25)::Ot) G K W) (d.nl+1 - 0) ([(1,_),(3,_),(4,_),(6,_)]) ⟨rfl,rfl,rfl,rfl,trivial⟩ (⟨_,cv d 0,0,rfl,rfl,yF h2 hbl,hS.keep K (fun q hq=>by simp [hq])⟩) ?_)))))))))))
  clear hS
  rintro m l W ⟨OB,L,cnt,rfl,rfl,hMo,hS⟩
  have hLl:L.length=d.nl:=hMo.len
  have hcl:cnt≤d.nl:=hMo.le
  refine bG (aI (aP (aA rfl rfl ?_)))
  refine fQ (m:=d.nl) (cs:=cY (List.replicate d.nl 0)) hS underlying36 lU rfl rfl rfl (rfl) (rfl) (lC _) (by show (8:Int) * _≤_;omega) (by omega) rfl fun B3 W3 hS=>?_
  refine aB rfl rfl (aK (XF.thenN (aI (aP (aB rfl rfl (aK (XF.thenN (aI (aI ?_)))))))))
  have hS':=hS.newG 3 1;clear hS;have hS:=hS';clear hS'
  refine aP (aB rfl rfl (aK (XF.thenN (bG ?_))))
  refine cO (fun m l W=>∃ (i ml:Nat) (ma:Option Addr) (mc:Nat),i≤d.nl∧m=d.nl - i∧l=[(1,.pointer (some ⟨B1,0,none⟩)),(3,.int .i64 (d.nl:Int)),(4,.slice (some ⟨OB,0,none⟩) d.nl d.nl),(6,.int .i64 (cnt:Int)),(7,.slice (some ⟨B3,0,none⟩) d.nl d.nl),(8,.slice ma ml mc),(9,.int .i64 (i:Int))]∧(mR (dFA d) (gN L) i).length=ml∧St w0 ((B3,cY (nz (dFA d) (gN L) d.nl (i)),3)::(OB,cY L,3)::(B1,[.int .i64 d.sy,.slice d.na d.nl d.nc,.slice d.aa d.al d.ac],25)::Ot) (⟨.slice ma ml mc,ml,cY (mR (dFA d) (gN L) i),3,1⟩::G) K W) (d.nl - 0) ([(1,_),(3,_),(4,_),(6,_),(7,_),(8,_),(9,_)]) ⟨rfl,rfl,rfl,rfl,rfl,rfl,rfl,trivial⟩ (⟨0,0,none,0,Nat.zero_le _,rfl,rfl,rfl,by rw [nz_zero];exact hS.keep K (fun q hq=>by simp [hq])⟩) ?_
  clear hS
  rintro m l W ⟨i,ml,ma,mc,hi,rfl,rfl,hml,hS⟩
  have hmi:=(mri (A:=dFA d) (f:=gN L) i).len
  refine aI (aI (aP (aA rfl rfl (aA rfl rfl (cB rfl rfl rfl (aK (XF.thenN (bP rfl (fun hc=>?_) (fun hc=>?_)))))))))
  ·have hc33:=of_decide_eq_true hc;clear hc
   refine bS (XF.thenN (aI (bG (aI (aP (aB rfl rfl (aK (XF.thenN (aI (bG (cO (fun m l W=>∃ k:Nat,k≤ml∧m=ml - k∧l=[(1,.pointer (some ⟨B1,0,none⟩)),(3,.int .i64 (d.nl:Int)),(4,.slice (some ⟨OB,0,none⟩) d.nl d.nl),(6,.int .i64 (cnt:Int)),(7,.slice (some ⟨B3,0,none⟩) d.nl d.nl),(8,.slice ma ml mc),(9,.int .i64 (i:Int)),(10,.int .i64 (k:Int))]∧(∀ j,j < k→gJ (dFA d) (gN L) ((mR (dFA d) (gN L) i).getD j 0) i=false)∧St w0 ((B3,cY (nz (dFA d) (gN L) d.nl (i)),3)::(OB,cY L,3)::(B1,[.int .i64 d.sy,.slice d.na d.nl d.nc,.slice d.aa d.al d.ac],25)::Ot) (⟨.slice ma ml mc,ml,cY (mR (dFA d) (gN L) i),3,1⟩::G) K W) (ml - 0) ([(1,_),(3,_),(4,_),(6,_),(7,_),(8,_),(9,_),(10,_)]) ⟨rfl,rfl,rfl,rfl,rfl,rfl,rfl,rfl,trivial⟩ (⟨0,Nat.zero_le _,rfl,rfl,fun j hj=>absurd hj (Nat.not_lt_zero _),hS.keep K (fun q hq=>by simp [hq])⟩) ?_)))))))))))
   clear hS
   rintro m l W ⟨k,hk,rfl,rfl,hal,hS⟩
   refine aI (aI ?_)
   rcases Nat.lt_or_ge k ml with hk8 | hk8
   ·skip
    obtain ⟨mb,rfl⟩:=eO (hS.row 0 rfl) (by omega)
    obtain ⟨r,hrE⟩:∃ r,(mR (dFA d) (gN L) i).getD k 0=r:=⟨_,rfl⟩
    have hrm:(mR (dFA d) (gN L) i)[k]?=some r:=by rw [← hrE,List.getD_eq_getElem?_getD,List.getElem?_eq_getElem (by omega)];rfl
    have hmk:W.cell? ⟨mb,0+k * 1,none⟩=some (.int .i64 (r:Int)):=by
     rw [Nat.zero_add,Nat.mul_one]
     exact cP (hS.row 0 rfl) (k:=k) (by show (cY _)[k]?=_;unfold cY;rw [List.getElem?_map,hrm];rfl)
    have hrlt:=(mri (A:=dFA d) (f:=gN L) i).lt r (List.mem_of_getElem? hrm)
    have hDI:=(hD hS (fun q hq=>hKt q hq))
    have hOF:Row W (some ⟨OB,0,none⟩) (wI L):=rX (hS.at_ 1 rfl)
    refine iF (m:=15) bY hS (by kernel_rfl) (by kernel_rfl) rfl (bO 1 rfl 10 rfl rfl (fun w hw=>aU rfl) rfl (bO 2 rfl 8 rfl rfl (fun w hw=>aU rfl) rfl (bE 3 rfl 37 1 rfl rfl rfl (fun w hw=>iE underlying36 rfl) rfl (aT 4 rfl (isV (.bool true)) (aO _) (nH (li:=[(36,_),(38,_)]) rfl (aJ rfl) ⟨aG 0 (aC rfl rfl rfl),aG 2 (aC rfl rfl rfl),trivial⟩ (fun w hw=>uB rfl rfl) (by rw [decide_eq_true (by omega)]) (aD rfl)) (bE 5 rfl 39 3 rfl rfl rfl (fun w hw=>aU rfl) rfl (aT 6 rfl (isV _) (aO _) (rgV (li:=[(1,_)]) rfl (cK 40 rfl (aC rfl rfl rfl)) ⟨bQ rfl,trivial⟩ (fun w hw=>cX (vs:=[_,_,_]) isAgg25 sizeOf25 rfl (aX.agree (aL hw 0) (Nat.zero_le _) (aX.own (j:=0) (m:=3) (hS.at_ 2 rfl) rfl))) (aD rfl)) (aT 7 rfl (isV _) (aO _) (rgV (li:=[(4,_)]) rfl (cK 40 rfl (aC rfl rfl rfl)) ⟨bQ rfl,trivial⟩ (fun w hw=>aU rfl) (aD rfl)) (aT 8 rfl (isV _) (aO _) (rgV (li:=[(8,_)]) rfl (cK 40 rfl (aC rfl rfl rfl)) ⟨bQ rfl,trivial⟩ (fun w hw=>aU rfl) (aD rfl)) (aT 9 rfl (isV _) (aO _) (rgV (li:=[(10,_)]) rfl (cK 40 rfl (aC rfl rfl rfl)) ⟨bQ rfl,trivial⟩ (fun w hw=>aU rfl) (aD rfl)) (aT 10 rfl (isV _) (aO _) (rgV (li:=[(43,_),(44,_)]) rfl (cK 40 rfl (aC rfl rfl rfl)) ⟨aG 7 (aC rfl rfl rfl),aG 8 (aC rfl rfl rfl),trivial⟩ (fun w hw=>bF (j:=k) (b:=mb) (o:=0) (m:=ml) (c:=mc) underlying36 sizeOf3 rfl rfl rfl (by omega) rfl) (aD rfl)) (aT 11 rfl (isV _) (aO _) (rgV (li:=[(45,_)]) rfl (cK 40 rfl (aC rfl rfl rfl)) ⟨aG 9 (aC rfl rfl rfl),trivial⟩ (fun w hw=>aY isAgg3 rfl ((aL hw 0).cell (Nat.zero_le _) (hmk))) (aD rfl)) (aT 12 rfl (isV _) (aO _) (rgV (li:=[(9,_)]) rfl (cK 40 rfl (aC rfl rfl rfl)) ⟨bQ rfl,trivial⟩ (fun w hw=>aU rfl) (aD rfl)) ?_))))))))))))
    refine aT 13 rfl (isV (.bool (gJ (dFA d) (gN L) r i))) (aO _) (fD [isV _,isV _,isV _,isV _] rfl goes_65 (cK 40 rfl (aC rfl rfl rfl)) ⟨dN (aG 5 (aC rfl rfl rfl)),dN (aG 6 (aC rfl rfl rfl)),dN (aG 10 (aC rfl rfl rfl)),dN (aG 11 (aC rfl rfl rfl)),trivial⟩ (fun vs w' hb hh=>by have e:=dG (us:=[_,_,_,_]) hh;subst e;exact (yE d _ _ L r i w' (hDI.below hb) (hOF.below hb) hLl he (by omega) (by omega)).mono fun e w2 ⟨h1,h2⟩=>⟨_,h1,rfl,h2⟩) (aD rfl)) ?_
    refine aT 14 rfl (isV _) (aO _) (rgV (li:=[(48,_)]) rfl (cK 40 rfl (aC rfl rfl rfl)) ⟨aG 12 (aC rfl rfl rfl),trivial⟩ (fun w hw=>uA rfl) (aD rfl)) (aT 15 rfl (isV _) (aO _) (rgV (li:=[(40,_),(49,_)]) rfl (aJ rfl) ⟨aG 4 (aC rfl rfl rfl),aG 13 (aC rfl rfl rfl),trivial⟩ (fun w hw=>fB rfl rfl) (aD rfl)) (dJ ?_))
    intro W4 hbR hS'
    clear hS;have hS:=hS';clear hS'
    refine aH (aH (aH (aH (aH (aH (aH (aH (aH (aH (aH (aH (aH (aH (aH (cG (XF.thenN (bP rfl (fun hc=>?_) (fun hc=>?_))))))))))))))))))
    ·have hc50:=hc;clear hc
     refine bS (XF.thenN (bG (aP (aA rfl rfl (bT rfl rfl (IntWalk.i64_in _ (by omega)) rfl (aB rfl rfl (aK (XF.blkN ?_))))))))
     have hc50:gJ (dFA d) (gN L) r i=false:=by simpa using hc50
     exact XF.round (ml - (k+1)) [(1,_),(3,_),(4,_),(6,_),(7,_),(8,_),(9,_),(10,_)] (by omega) ⟨rfl,rfl,rfl,rfl,rfl,rfl,rfl,rfl,trivial⟩ ⟨k+1,by omega,rfl,rfl,fun j hj=>(by
      rcases Nat.lt_or_ge j k with h9 | h9
      ·exact hal j h9
      ·rw [show j=k by omega,hrE];exact hc50),hS.keep K (fun q hq=>by simp [hq])⟩
    ·have hc50:=hc;clear hc
     have hmx:mIx (dFA d) (gN L) (mR (dFA d) (gN L) i) i=k:=mIx_eq (by omega) (by rw [hrE];simpa using hc50) hal
     refine cN (XF.thenX (XF.thenX (XF.blkX (XF.thenN (aI (aI (aP (aA rfl rfl (aA rfl rfl (bM underlying36 rfl rfl (fF rfl rfl rfl (aK (XF.thenN (bP rfl (fun hc=>absurd (of_decide_eq_true hc) (by omega)) (fun hc=>?_)))))))))))))))
     have hc:=of_decide_eq_false hc
     refine bS (XF.thenN (aP (aA rfl rfl (aA rfl rfl (aA rfl rfl (aW (j:=i) underlying36 sizeOf3 rfl rfl (rfl) (by omega) rfl rfl ?_))))))
     refine bN (i:=0) (cs':=cY ((nz (dFA d) (gN L) d.nl (i)).set i (mIx (dFA d) (gN L) (mR (dFA d) (gN L) i) i))) (O':=(_::_::_::Ot)) hS sizeOf3 rfl rfl rfl rfl (Nat.ble_eq_true_of_le (by rw [fU,Bp (by omega)];omega)) (fV (by rw [hmx])) rfl fun W52 hS=>?_
     refine aK (XF.blkN (XF.thenN (aP (aA rfl rfl (bT rfl rfl (IntWalk.i64_in _ (by omega)) rfl (aB rfl rfl (aK ?_)))))))
     rw [Bq (by omega)] at hS
     have em:mR (dFA d) (gN L) (i+1)=mR (dFA d) (gN L) i:=by rw [mR,if_neg (by omega)]
     rw [← em] at hS hml
     exact XF.round (d.nl - (i+1)) [(1,_),(3,_),(4,_),(6,_),(7,_),(8,_),(9,_)] (by omega) ⟨rfl,rfl,rfl,rfl,rfl,rfl,rfl,trivial⟩ ⟨i+1,ml,_,mc,by omega,rfl,rfl,hml,hS.keep K (fun q hq=>by simp [hq])⟩
   ·skip
    refine iF (m:=15) bY hS (by kernel_rfl) (by kernel_rfl) rfl (bO 1 rfl 10 rfl rfl (fun w hw=>aU rfl) rfl (bO 2 rfl 8 rfl rfl (fun w hw=>aU rfl) rfl (bE 3 rfl 37 1 rfl rfl rfl (fun w hw=>iE underlying36 rfl) rfl (aT 4 rfl (isV (.bool false)) (aO _) (nH (li:=[(36,_),(38,_)]) rfl (aJ rfl) ⟨aG 0 (aC rfl rfl rfl),aG 2 (aC rfl rfl rfl),trivial⟩ (fun w hw=>uB rfl rfl) (by rw [decide_eq_false (by omega)]) (aD rfl)) (bE 5 rfl 39 3 rfl rfl rfl (fun w hw=>aU rfl) rfl (aT 6 rfl (isV undef) (aO _) (fM rfl (fN 40 rfl (aC rfl rfl rfl) rfl) (aD rfl)) (aT 7 rfl (isV undef) (aO _) (fM rfl (fN 40 rfl (aC rfl rfl rfl) rfl) (aD rfl)) (aT 8 rfl (isV undef) (aO _) (fM rfl (fN 40 rfl (aC rfl rfl rfl) rfl) (aD rfl)) (aT 9 rfl (isV undef) (aO _) (fM rfl (fN 40 rfl (aC rfl rfl rfl) rfl) (aD rfl)) (aT 10 rfl (isV undef) (aO _) (fM rfl (fN 40 rfl (aC rfl rfl rfl) rfl) (aD rfl)) (aT 11 rfl (isV undef) (aO _) (fM rfl (fN 40 rfl (aC rfl rfl rfl) rfl) (aD rfl)) (aT 12 rfl (isV undef) (aO _) (fM rfl (fN 40 rfl (aC rfl rfl rfl) rfl) (aD rfl)) (aT 13 rfl (isV undef) (aO _) (fM rfl (fN 40 rfl (aC rfl rfl rfl) rfl) (aD rfl)) (aT 14 rfl (isV undef) (aO _) (fM rfl (fN 40 rfl (aC rfl rfl rfl) rfl) (aD rfl)) (bE 15 rfl 40 4 rfl rfl rfl (fun w hw=>oD rfl rfl) rfl (dJ ?_))))))))))))))))
    intro W5 hbR hS'
    clear hS;have hS:=hS';clear hS'
    refine aH (aH (aH (aH (aH (aH (aH (aH (aH (aH (aH (aH (aH (aH (aH (cG (XF.thenN (yM rfl (cN (XF.thenX (XF.thenX (XF.blkX (XF.thenN (aI (aI ?_))))))))))))))))))))))))
    have hmx:mIx (dFA d) (gN L) (mR (dFA d) (gN L) i) i=k:=(mIx_end (fun j hj=>hal j (by omega))).trans (by omega)
    refine aP (aA rfl rfl (aA rfl rfl (bM underlying36 rfl rfl (fF rfl rfl rfl (aK (XF.thenN (bP rfl (fun hc=>?_) (fun hc=>absurd (of_decide_eq_false hc) (by omega)))))))))
    have hc:=of_decide_eq_true hc
    refine aP (aA rfl rfl (aA rfl rfl (bU (us:=[(0,.int .i64 _)]) hS underlying36 sizeOf3 zeroValue3 rfl rfl rfl (jE _) rfl fun B6 W6 hS=>?_)))
    refine dI (i:=0) (news:=[_]) hS underlying36 lU rfl rfl (by show 0 < 1;decide) rfl rfl rfl rfl rfl (aX.own (j:=0) (m:=1) (hS.at_ 0 rfl) rfl) rfl rfl (by dsimp only;simp only [maxLen];omega) (by dsimp only;show _ * 8≤_;omega) rfl fun v7 W7 hS=>?_
    obtain ⟨ma9,mc9,e9,_⟩:=bZ (hS.row 0 rfl)
    dsimp only at e9
    subst e9
    refine aB rfl rfl (aK (XF.thenN (aP (aA rfl rfl (aA rfl rfl (aA rfl rfl (aW (j:=i) underlying36 sizeOf3 rfl rfl (rfl) (by omega) rfl rfl ?_)))))))
    refine bN (i:=1) (cs':=cY ((nz (dFA d) (gN L) d.nl (i)).set i (mIx (dFA d) (gN L) (mR (dFA d) (gN L) i) i))) (O':=(_::_::_::_::Ot)) hS sizeOf3 rfl rfl rfl rfl (Nat.ble_eq_true_of_le (by rw [fU,Bp (by omega)];omega)) (fV (by rw [hmx])) rfl fun W52 hS=>?_
    refine aK (XF.blkN (XF.thenN (aP (aA rfl rfl (bT rfl rfl (IntWalk.i64_in _ (by omega)) rfl (aB rfl rfl (aK ?_)))))))
    rw [Bq (by omega)] at hS
    have em:mR (dFA d) (gN L) (i+1)=mR (dFA d) (gN L) i++[i]:=by rw [mR,if_pos (by omega)]
    have hS9:=hS.tail.castG (G':=(⟨.slice ma9 (ml+1) mc9,ml+1,cY (mR (dFA d) (gN L) (i+1)),3,1⟩::G)) (by rw [em,← oU rfl];rfl)
    exact XF.round (d.nl - (i+1)) [(1,_),(3,_),(4,_),(6,_),(7,_),(8,_),(9,_)] (by omega) ⟨rfl,rfl,rfl,rfl,rfl,rfl,rfl,trivial⟩ ⟨i+1,ml+1,ma9,mc9,by omega,rfl,rfl,by rw [em,List.length_append,hml];rfl,hS9.keep K (fun q hq=>by simp [hq])⟩
  ·have hc33:=of_decide_eq_false hc;clear hc
   have ein:i=d.nl:=by omega
   rw [ein,nz_end] at hS
   rw [ein] at hml
   have hst:=hMo.step hO
   have hmo:=hMo.mono
   rw [show (dFA d).n=d.nl from rfl,hml] at hst hmo
   refine cN (XF.thenX (XF.thenX (XF.blkX (XF.thenN (aI (aP (aA rfl rfl (aB rfl rfl (aK (XF.thenN (aI (aI (aP (aA rfl rfl (bM underlying36 rfl rfl (aA rfl rfl (fF rfl rfl rfl (aK (XF.thenN (bP rfl (fun hc=>?_) (fun hc=>?_)))))))))))))))))))))
   ·have hc69:=of_decide_eq_true hc;clear hc
    refine aI (aP (aA rfl rfl (aB rfl rfl (aK (XF.thenN (cH (XF.thenR (XF.blkR (XF.thenR (XF.blkR (XF.res (cU results56 rfl) ?_)))))))))))
    have hlc:ml=cnt:=by omega
    obtain ⟨K1,k1,g1,hS1⟩:=(hS.keep K (fun q hq=>by simp [hq])).tailG.ownKeep
    exact ⟨_,_,ml,K1,rfl,⟨hst.len,(hst.rng (by have:=mR_pos (A:=dFA d) (f:=gN L) (show 0 < d.nl by omega);omega)).1,hst.le,hMo.done hO (hml.trans hlc),hst.eqv⟩,k1,fun h9 hk9=>rX (g1 h9 hk9),hS1.tail.tail⟩
   ·have hc69:=of_decide_eq_false hc;clear hc
    refine bS (XF.thenN (aP (aA rfl rfl (bM underlying36 rfl rfl (aB rfl rfl (aK (XF.blkN ?_)))))))
    have hlt:cnt < ml:=by omega
    have hle:ml≤d.nl:=hst.le
    exact XF.round (d.nl+1 - ml) [(1,_),(3,_),(4,_),(6,_)] (by omega) ⟨rfl,rfl,rfl,rfl,trivial⟩ ⟨_,_,ml,rfl,rfl,hst,(hS.drop2.tailG).keep K (fun q hq=>by simp [hq])⟩
theorem Br {A:FA} {q:TB} {cls:Nat→Nat} {N:Nat} (hQ:QuoOk A cls N) (hn:q.n=N) (hk:q.k=A.k) (hq:TOk q) (hx:∀ p,p < N * A.k→gN q.xs p=qfl A cls p) (hb:∀ i,i < N→q.bs.getD i false=A.ac ((qm A cls (N * A.k)).getD i 0)):Agr q.fa (quo A cls N):=by
 refine ⟨hn,hk,hq.fa,fun s x hs hx9=>?_,fun s hs=>?_⟩
 ·have h1:s < N:=by rw [← hn];exact hs
  have h2:x < A.k:=by rw [← hk];exact hx9
  show gN q.xs (s * q.k+x)=qfl A cls (s * A.k+x)
  rw [hk]
  exact hx _ (hZ h1 h2)
 ·exact hb s (by rw [← hn];exact hs)
theorem sH {A:FA} {cls:Nat→Nat} {n p:Nat} (h:p < n):gN ((List.range n).map (qfl A cls)) p=qfl A cls p:=by
 unfold gN;rw [List.getD_eq_getElem?_getD,List.getElem?_map,List.getElem?_range h];rfl
theorem goes_56:cD prog 56=true:=by kernel_rfl
def lG (l:List Int):List Value:=l.map (fun x=>Value.int .i64 x)
theorem i64z_len {l:List Int}:(lG l).length=l.length:=List.length_map _
theorem sI {l:List Int} {i:Nat} (h:i < l.length):(lG l)[0+i * 1]?=some (.int .i64 (l.getD i 0)):=by
 rw [Nat.zero_add,Nat.mul_one];unfold lG;simp [h]
theorem pE {l:List Int} {i:Nat} {x:Int}:(lG l).set (0+i * 1) (.int .i64 x)=lG (l.set i x):=by
 rw [Nat.zero_add,Nat.mul_one];unfold lG;rw [List.map_set]
theorem made64z (m:Nat):madeCells (Value.int .i64 0).cells (m * 1)=(lG (List.replicate m 0)).toArray:=by
 unfold lG;rw [List.map_replicate,Nat.mul_one];exact rG _ _
def qT (A:FA) (cls:Nat→Nat) (N:Nat):TB:=⟨A.k,N,none,N * A.k,(List.range (N * A.k)).map (qfl A cls),none,0,(List.range N).map (fun j=>A.ac ((qm A cls (N * A.k)).getD j 0))⟩
theorem qT_ok {A:FA} {cls:Nat→Nat} {N:Nat} (hQ:QuoOk A cls N) (h1:N≤100000) (h2:A.k≤100000):TOk (qT A cls N):=by
 refine ⟨by simp [qT],by simp [qT],fun p hp=>?_,hQ.pos,Nat.le_refl _,h1,h2⟩
 have hp:p < N * A.k:=hp
 show gN ((List.range (N * A.k)).map (qfl A cls)) p < N
 rw [sH hp];exact uM hQ hp
theorem qT_agr {A:FA} {cls:Nat→Nat} {N:Nat} (hQ:QuoOk A cls N) (h1:N≤100000) (h2:A.k≤100000):Agr (qT A cls N).fa (quo A cls N):=Br hQ rfl rfl (qT_ok hQ h1 h2) (fun p hp=>sH hp) (fun j hj=>by
 show ((List.range N).map _).getD j false=_
 rw [List.getD_eq_getElem?_getD,List.getElem?_map,List.getElem?_range hj];rfl)
theorem qT_row {A:FA} {cls:Nat→Nat} {N i:Nat} (hi:i < N):lD (qT A cls N) i=(List.range A.k).map (fun x=>((qfl A cls (i * A.k+x):Nat):Int)):=by
 unfold lD
 refine List.map_congr_left fun x hx=>?_
 show ((gN ((List.range (N * A.k)).map (qfl A cls)) (i * A.k+x):Nat):Int)=_
 have hx:x < A.k:=List.mem_range.1 hx
 rw [sH (hZ hi hx)]
def rz (A:FA) (cls:Nat→Nat) (i x:Nat):List Nat:=(List.range x).map (fun y=>qfl A cls (i * A.k+y))++List.replicate (A.k - x) 0
theorem Bt {A:FA} {cls:Nat→Nat} {i x:Nat} (h:x≤A.k):(rz A cls i x).length=A.k:=by unfold rz;simp;omega
theorem rz_zero {A:FA} {cls:Nat→Nat} {i:Nat}:rz A cls i 0=List.replicate A.k 0:=by unfold rz;simp
theorem Bu {A:FA} {cls:Nat→Nat} {i x:Nat} (h:x < A.k):(rz A cls i x).set x (qfl A cls (i * A.k+x))=rz A cls i (x+1):=by
 unfold rz
 obtain ⟨m,hm⟩:∃ m,A.k - x=m+1:=⟨A.k - x - 1,by omega⟩
 rw [hm,show A.k - (x+1)=m by omega,List.replicate_succ,List.set_append_right _ _ (by simp),List.length_map,List.length_range,Nat.sub_self,List.set_cons_zero,List.range_succ,List.map_append,List.append_assoc];rfl
theorem rz_end {A:FA} {cls:Nat→Nat} {i:Nat}:wI (rz A cls i A.k)=(List.range A.k).map (fun x=>((qfl A cls (i * A.k+x):Nat):Int)):=by unfold rz wI;simp
theorem yG {A:FA} {cls:Nat→Nat} {l:List Nat} {i c:Nat} {b:Bool} (h:l.getD i 0=c) (hb:b=A.ac c):(List.range i).map (fun j=>A.ac (l.getD j 0))++[b]=(List.range (i+1)).map (fun j=>A.ac (l.getD j 0)):=by
 rw [List.range_succ,List.map_append,List.map_singleton,h,hb]
theorem qacl_up {A:FA} {cls:Nat→Nat} {i p q:Nat} (h:p≤q) (hi:i≤(qm A cls p).length):(List.range i).map (fun j=>A.ac ((qm A cls q).getD j 0))=(List.range i).map (fun j=>A.ac ((qm A cls p).getD j 0)):=List.map_congr_left fun j hj=>by
 rw [fS h (Nat.lt_of_lt_of_le (List.mem_range.1 hj) hi)]
theorem vK {A:FA} {cls:Nat→Nat} {rs:List IV} {i:Nat} {r:IV} (hl:rs.length=i) (h:∀ (j:Nat) r,rs[j]?=some r→r.l=A.k∧r.xs=(List.range A.k).map (fun x=>((qfl A cls (j * A.k+x):Nat):Int))) (h1:r.l=A.k) (h2:r.xs=(List.range A.k).map (fun x=>((qfl A cls (i * A.k+x):Nat):Int))):∀ (j:Nat) r',(rs++[r])[j]?=some r'→r'.l=A.k∧r'.xs=(List.range A.k).map (fun x=>((qfl A cls (j * A.k+x):Nat):Int)):=fun j r' hj=>by
 rcases Nat.lt_or_ge j rs.length with h3 | h3
 ·rw [List.getElem?_append_left h3] at hj;exact h j r' hj
 ·rw [List.getElem?_append_right h3] at hj
  obtain ⟨h4,h5⟩:=List.getElem?_eq_some_iff.1 hj
  have e:j=i:=by simp at h4;omega
  subst e
  simp at h5
  subst h5
  exact ⟨h1,h2⟩
theorem qF (d:DV) (Kt:List (Nat×World)) (Ot:Own) (G:bI) (K:List (Nat×World)) (w0 w:World) (hS0:St w0 Ot G K w) (hKt:∀ q∈Kt,q∈K) (hD:dB w0 Kt (fun W=>DIn W d)) (he:cQ d=0) :
  Calls prog 35 #[d.val] w (fun e w'=>∃ (d2:DV) (Kn:List (Nat×World)),Lst d2 (dFA d)∧d2.nl≤d.nl∧e = .returned d2.val∧(∀ q∈K,q∈Kn)∧dB w0 Kn (fun W=>DIn W d2)∧St w0 Ot G Kn w'):=by
 refine cL (args:=[d.val]) func35 rfl ntmps35 rfl ?_
 have hS:=hS0
 obtain ⟨k9,hk9,h1,h2,h3,h4,h5,h6⟩:=dM he
 have hDI0:=hD hS0 hKt
 have hbl:d.bs.length=d.nl:=by have:=hDI0.alen;omega
 have hO:=vG hDI0 he
 have hkk:d.sy.toNat=k9:=by omega
 refine aI (aP (cV (cs:=[_,_,_]) hS rfl rfl rfl fun B1 W1 hS=>cE (cs:=[_,_,_]) hS zeroValue25 rfl rfl fun B2 W2 hS=>aK (XF.thenN (aI (aP (bV (vs:=[_,_,_]) isAgg25 sizeOf25 rfl (aX.own (j:=0) (m:=3) (hS.at_ 1 rfl) rfl) rfl (bX (vs:=[_]) goes_56 rfl (vJ d Kt _ _ K w0 _ (hS.keep K (fun q hq=>by simp [hq])) hKt hD he) rfl ?_)))))))
 rintro e W9 ⟨ca,cl,cm,K1,rfl,hCl,hsub1,hR1,hS9⟩
 refine ⟨_,rfl,?_⟩
 clear hS;have hS:=hS9;clear hS9
 have hcl:=hCl.len
 have hclt:∀ s,s < d.nl→gN cl s < d.nl:=fun s hs=>Nat.lt_of_lt_of_le (hCl.lt s hs) hCl.le
 refine aB rfl rfl (aK (XF.thenN (aI (aP (aA rfl rfl (bM underlying36 rfl rfl ?_))))))
 refine fQ (m:=d.nl) (cs:=lG (List.replicate d.nl 0)) hS underlying36 lU rfl rfl rfl (rfl) (rfl) (made64z _) (by show (8:Int) * _≤_;omega) (by omega) rfl fun B3 W3 hS=>?_
 refine aB rfl rfl (aK (XF.thenN (aI (aI (aP (aB rfl rfl (aK (XF.thenN (bG ?_)))))))))
 refine cO (fun m l W=>∃ i:Nat,i≤d.nl∧m=d.nl - i∧l=[(1,.pointer (some ⟨B1,0,none⟩)),(2,.pointer (some ⟨B2,0,none⟩)),(3,.slice ca d.nl d.nl),(4,.slice (some ⟨B3,0,none⟩) d.nl d.nl),(5,.int .i64 (i:Int))]∧St w0 ((B3,lG (zm d.nl i),3)::(B2,[.int .i64 0,.slice none 0 0,.slice none 0 0],25)::(B1,[.int .i64 d.sy,.slice d.na d.nl d.nc,.slice d.aa d.al d.ac],25)::Ot) G K1 W) (d.nl - 0) ([(1,_),(2,_),(3,_),(4,_),(5,_)]) ⟨rfl,rfl,rfl,rfl,rfl,trivial⟩ (⟨0,Nat.zero_le _,rfl,rfl,by rw [wS];exact hS.keep K1 (fun q hq=>by simp [hq])⟩) ?_
 clear hS
 rintro m l W ⟨i,hi,rfl,rfl,hS⟩
 refine aI (aI (aP (aA rfl rfl (aA rfl rfl (bM underlying36 rfl rfl (cB rfl rfl rfl (aK (XF.thenN (bP rfl (fun hc=>?_) (fun hc=>?_))))))))))
 ·have hc20:=of_decide_eq_true hc;clear hc
  refine bS (XF.thenN (aI (bG (aP (aA rfl rfl (aA rfl rfl (aW (j:=i) underlying36 sizeOf3 rfl rfl (rfl) (by omega) rfl rfl ?_)))))))
  refine bN (i:=0) (cs':=lG ((zm d.nl i).set i (-1))) (O':=(_::_::_::Ot)) hS sizeOf3 rfl rfl rfl rfl (Nat.ble_eq_true_of_le (by rw [i64z_len,Ah (by omega)];omega)) pE rfl fun W51 hS=>?_
  refine aK (XF.blkN (XF.thenN (aP (aA rfl rfl (bT rfl rfl (IntWalk.i64_in _ (by omega)) rfl (aB rfl rfl (aK ?_)))))))
  rw [Ai (by omega)] at hS
  exact XF.round (d.nl - (i+1)) [(1,_),(2,_),(3,_),(4,_),(5,_)] (by omega) ⟨rfl,rfl,rfl,rfl,rfl,trivial⟩ ⟨i+1,by omega,rfl,rfl,hS.keep K1 (fun q hq=>by simp [hq])⟩
 ·have hc20:=of_decide_eq_false hc;clear hc
  have eic:i=d.nl:=by omega
  rw [eic,Aj] at hS
  have hnm0:NumOk (gN cl) d.nl [] (List.replicate d.nl (-1)):=NumOk.start
  refine cN (XF.thenX (XF.thenX (XF.blkX (XF.thenN (aI (aP (aV (o':=0) dL rfl rfl rfl (aR isAgg3 rfl (aE (hS.at_ 2 rfl) rfl) rfl (dW (us:=[(0,.int .i64 _)]) rfl (tO _) rfl (cE (cs:=[_,_,_]) hS zeroValue25 rfl rfl fun B4 W4 hS=>bW (i:=0) (vs:=[_,_,_]) (cs':=[_,_,_]) (O':=(_::_::_::_::Ot)) hS sizeOf25 rfl rfl rfl rfl rfl rfl rfl fun W5 hS=>aK (XF.thenN (aI ?_))))))))))))
  have hS':=(hS.newG 4 1).newG 36 1;clear hS;have hS:=hS';clear hS'
  refine aP (bU (us:=[(0,.int .i64 _)]) hS underlying36 sizeOf3 zeroValue3 rfl rfl rfl (jE _) rfl fun B6 W6 hS=>aB rfl rfl (aK (XF.thenN (aI ?_))))
  have hS':=(hS.castO (O':=((B6,[Value.int .i64 0]++[],3)::_::_::_::_::Ot)) rfl).ownRowE (n:=1) (c:=1) (sz:=1) rfl rfl (Nat.le_refl _) (by decide);clear hS;have hS:=hS';clear hS'
  obtain ⟨cb,co,hca,hc0⟩:=jI (hR1 hS (fun q hq=>by simp [hq])) (i:=0) (by omega)
  have hnm1:=hnm0.step (s:=0) (hclt 0 (by omega)) (by simp)
  have hq0:qm (dFA d) (gN cl) (0 * d.sy.toNat)=[0]:=by rw [Nat.zero_mul];rfl
  refine aP (aA rfl rfl (aA rfl rfl ?_))
  refine aW (j:=0) (b:=cb) (o:=co) (m:=d.nl) (c:=d.nl) underlying36 sizeOf3 (by show some (Value.slice _ _ _)=_;rw [hca]) rfl rfl (by omega) rfl rfl ?_
  refine aR isAgg3 rfl (hc0) rfl (aW (j:=gN cl 0) underlying36 sizeOf3 rfl rfl (rfl) (hclt 0 (by omega)) rfl rfl ?_)
  refine bN (i:=1) (cs':=lG ((List.replicate d.nl (-1)).set (gN cl 0) 0)) (O':=(_::_::_::_::Ot)) hS sizeOf3 rfl rfl rfl rfl (Nat.ble_eq_true_of_le (by rw [i64z_len,List.length_replicate];have:=hclt 0 (by omega);omega)) pE rfl fun W91 hS=>?_
  refine aK (XF.thenN (aI (aI (aP (aB rfl rfl (aK (XF.thenN (bG ?_))))))))
  refine cO (fun m l W=>∃ (i sl:Nat) (sa va wa:Option Addr) (sc vc wc:Nat) (nm:List Int) (rs:List IV) (Kk:List (Nat×World)),i≤sl∧m=d.nl - i∧l=[(1,.pointer (some ⟨B1,0,none⟩)),(2,.pointer (some ⟨B2,0,none⟩)),(3,.slice ca d.nl d.nl),(4,.slice (some ⟨B3,0,none⟩) d.nl d.nl),(6,.pointer (some ⟨B4,0,none⟩)),(7,.slice sa sl sc),(8,.int .i64 (i:Int))]∧(qm (dFA d) (gN cl) (i * d.sy.toNat)).length=sl∧(∀ j,j < i→j < (qm (dFA d) (gN cl) (j * d.sy.toNat)).length)∧NumOk (gN cl) d.nl (qm (dFA d) (gN cl) (i * d.sy.toNat)) nm∧rs.length=i∧(∀ (j:Nat) r,rs[j]?=some r→r.l=(dFA d).k∧r.xs=(List.range (dFA d).k).map (fun x=>((qfl (dFA d) (gN cl) (j * (dFA d).k+x):Nat):Int)))∧(∀ q∈K1,q∈Kk)∧dB w0 Kk (fun W=>∀ r∈rs,Row W r.a r.xs)∧St w0 ((B4,[.int .i64 d.sy,.slice va (i) vc,.slice wa (i) wc],25)::(B3,lG (nm),3)::(B2,[.int .i64 0,.slice none 0 0,.slice none 0 0],25)::(B1,[.int .i64 d.sy,.slice d.na d.nl d.nc,.slice d.aa d.al d.ac],25)::Ot) (⟨.slice sa (sl) sc,sl,cY (qm (dFA d) (gN cl) (i * d.sy.toNat)),3,1⟩::⟨.slice va (i) vc,i,(rs).map IV.val,36,1⟩::⟨.slice wa (i) wc,i,bvs ((List.range (i)).map (fun j=>(dFA d).ac ((qm (dFA d) (gN cl) (i * d.sy.toNat)).getD j 0))),4,1⟩::G) Kk W) (d.nl - 0) ([(1,_),(2,_),(3,_),(4,_),(6,_),(7,_),(8,_)]) ⟨rfl,rfl,rfl,rfl,rfl,rfl,rfl,trivial⟩ (⟨0,1,some ⟨B6,0,none⟩,none,none,1,0,0,_,[],K1,Nat.zero_le _,rfl,rfl,by rw [hq0];rfl,fun j hj=>absurd hj (Nat.not_lt_zero _),by rw [hq0];exact hnm1,rfl,fun j r h=>(by cases h),fun q hq=>hq,fun _ _ r h=>(by cases h),by rw [hq0];exact hS.keep K1 (fun q hq=>by simp [hq])⟩) ?_
  clear hS
  rintro m l W ⟨i,sl,sa,va,wa,sc,vc,wc,nm,rs,Kk,hi,rfl,rfl,hsl,hrows,hnm,hrl,hrs,hsub,hRH,hS⟩
  have hqr:fT (dFA d) (gN cl) (i * d.sy.toNat):=fun q hq=>by
   obtain ⟨d1,_,d3⟩:=eE hq
   exact Nat.lt_of_lt_of_le (hrows _ d1) (fH d3)
  obtain ⟨hq1,hq2⟩:=nF (cm:=d.nl) hO (fun _=>hqr) (fun h0=>by have h9:d.sy.toNat=0:=h0;rw [h9,Nat.mul_zero]) hclt
  refine aI (aI (aP (aA rfl rfl (aA rfl rfl (bM underlying36 rfl rfl (cB rfl rfl rfl (aK (XF.thenN (bP rfl (fun hc=>?_) (fun hc=>?_))))))))))
  ·have hc38:=of_decide_eq_true hc;clear hc
   obtain ⟨c,hcE⟩:∃ c,(qm (dFA d) (gN cl) (i * d.sy.toNat)).getD i 0=c:=⟨_,rfl⟩
   have hcx:(qm (dFA d) (gN cl) (i * d.sy.toNat))[i]?=some c:=by rw [← hcE,List.getD_eq_getElem?_getD,List.getElem?_eq_getElem (by omega)];rfl
   have hc9:c < d.nl:=hq2 _ (List.mem_of_getElem? hcx)
   refine bS (XF.thenN (aI (bG (aI (aP (aV (o':=0) dL rfl rfl rfl (aR isAgg3 rfl (aE (hS.at_ 3 rfl) rfl) rfl ?_)))))))
   refine fQ (m:=d.sy.toNat) (cs:=cY (List.replicate d.sy.toNat 0)) hS underlying36 lU rfl rfl rfl (by omega) (by omega) (lC _) (by show (8:Int) * _≤_;omega) (by omega) rfl fun B7 W7 hS=>?_
   refine aB rfl rfl (aK (XF.thenN (aI (aI (aP (aB rfl rfl (aK (XF.thenN (bG ?_)))))))))
   refine cO (fun m l W=>∃ (x sl:Nat) (sa:Option Addr) (sc:Nat) (nm:List Int),x≤d.sy.toNat∧m=d.sy.toNat - x∧l=[(1,.pointer (some ⟨B1,0,none⟩)),(2,.pointer (some ⟨B2,0,none⟩)),(3,.slice ca d.nl d.nl),(4,.slice (some ⟨B3,0,none⟩) d.nl d.nl),(6,.pointer (some ⟨B4,0,none⟩)),(7,.slice sa sl sc),(8,.int .i64 (i:Int)),(9,.slice (some ⟨B7,0,none⟩) d.sy.toNat d.sy.toNat),(10,.int .i64 (x:Int))]∧(qm (dFA d) (gN cl) (i * d.sy.toNat+x)).length=sl∧NumOk (gN cl) d.nl (qm (dFA d) (gN cl) (i * d.sy.toNat+x)) nm∧St w0 ((B7,cY (rz (dFA d) (gN cl) i x),3)::(B4,[.int .i64 d.sy,.slice va (i) vc,.slice wa (i) wc],25)::(B3,lG (nm),3)::(B2,[.int .i64 0,.slice none 0 0,.slice none 0 0],25)::(B1,[.int .i64 d.sy,.slice d.na d.nl d.nc,.slice d.aa d.al d.ac],25)::Ot) (⟨.slice sa (sl) sc,sl,cY (qm (dFA d) (gN cl) (i * d.sy.toNat+x)),3,1⟩::⟨.slice va (i) vc,i,(rs).map IV.val,36,1⟩::⟨.slice wa (i) wc,i,bvs ((List.range (i)).map (fun j=>(dFA d).ac ((qm (dFA d) (gN cl) (i * d.sy.toNat)).getD j 0))),4,1⟩::G) Kk W) (d.sy.toNat - 0) ([(1,_),(2,_),(3,_),(4,_),(6,_),(7,_),(8,_),(9,_),(10,_)]) ⟨rfl,rfl,rfl,rfl,rfl,rfl,rfl,rfl,rfl,trivial⟩ (⟨0,sl,sa,sc,nm,Nat.zero_le _,rfl,rfl,hsl,hnm,by rw [rz_zero];exact hS.keep Kk (fun q hq=>by simp [hq])⟩) ?_
   clear hS
   have hil:i < (qm (dFA d) (gN cl) (i * d.sy.toNat)).length:=by omega
   clear hi
   rintro m l W ⟨x,sl9,sa,sc,nm,hx,rfl,rfl,hsl9,hnm,hS⟩
   refine aI (aI (aP (aA rfl rfl (aV (o':=0) dL rfl rfl rfl (aR isAgg3 rfl (aE (hS.at_ 4 rfl) rfl) rfl (cB rfl rfl rfl (aK (XF.thenN (bP rfl (fun hc=>?_) (fun hc=>?_))))))))))
   ·have hc47:=of_decide_eq_true hc;clear hc
    have hx9:x < d.sy.toNat:=by omega
    obtain ⟨sb,rfl⟩:=eO (hS.row 0 rfl) (by have:=fH (A:=dFA d) (cls:=gN cl) (Nat.le_add_right (i * d.sy.toNat) x);omega)
    have hpk:(i * d.sy.toNat+x) / d.sy.toNat=i∧(i * d.sy.toNat+x) % d.sy.toNat=x:=eZ hx9
    have hgd:(qm (dFA d) (gN cl) (i * d.sy.toNat+x)).getD i 0=c:=(fS (Nat.le_add_right _ _) hil).trans hcE
    have hil2:i < sl9:=by have:=fH (A:=dFA d) (cls:=gN cl) (Nat.le_add_right (i * d.sy.toNat) x);omega
    have hmc:W.cell? ⟨sb,0+i * 1,none⟩=some (.int .i64 (c:Int)):=by
     rw [Nat.zero_add,Nat.mul_one]
     exact cP (hS.row 0 rfl) (k:=i) (by rw [mA (by omega)];exact congrArg (fun z:Nat=>some (Value.int .i64 (z:Int))) hgd)
    obtain ⟨r,nb,no,rb,ro,hna,q1,hra,hrlE,q2,hlt⟩:=vI (hD hS (fun q hq=>by simp [hsub q (hsub1 q (hKt q hq))])) he hc9 hc47
    have hqr2:fT (dFA d) (gN cl) (i * d.sy.toNat+x):=fun q hq=>by
     rcases Nat.lt_or_ge q (i * d.sy.toNat) with h9 | h9
     ·exact hqr q h9
     ·have h8:q / d.sy.toNat=i:=by
       rw [show q=i * d.sy.toNat+(q - i * d.sy.toNat) by omega];exact (eZ (by omega)).1
      rw [show q / (dFA d).k=i from h8]
      exact Nat.lt_of_lt_of_le hil (fH h9)
    obtain ⟨hq3,_⟩:=nF (cm:=d.nl) hO (fun _=>hqr2) (fun h0=>absurd (show d.sy.toNat=0 from h0) (by omega)) hclt
    have hclx:=hclt _ hlt
    have hnml:=hnm.len
    have hnat:=hnm.at_ _ hclx
    have eq1:qm (dFA d) (gN cl) (i * d.sy.toNat+x+1)=mtS (gN cl) (qm (dFA d) (gN cl) (i * d.sy.toNat+x)) ((dFA d).nx c x):=by
     show qm (dFA d) (gN cl) ((i * d.sy.toNat+x)+1)=_
     rw [wO,show (i * d.sy.toNat+x) / (dFA d).k=i from hpk.1,show (i * d.sy.toNat+x) % (dFA d).k=x from hpk.2,hgd]
    have eq2:qfl (dFA d) (gN cl) (i * d.sy.toNat+x)=mtI (gN cl) (qm (dFA d) (gN cl) (i * d.sy.toNat+x)) ((dFA d).nx c x):=by rw [zY,show (i * d.sy.toNat+x) / (dFA d).k=i from hpk.1,show (i * d.sy.toNat+x) % (dFA d).k=x from hpk.2,hgd]
    refine bS (XF.thenN (aI (bG (aI (iF (m:=12) bY hS (by kernel_rfl) (by kernel_rfl) rfl (bO 1 rfl 1 rfl rfl (fun w hw=>bC (o':=1) cJ rfl rfl) rfl (bE 2 rfl 50 0 rfl rfl rfl (fun w hw=>aY isAgg22 rfl ((aL hw 0).cell (Nat.zero_le _) (aE (hS.at_ 4 rfl) rfl))) rfl (bO 3 rfl 7 rfl rfl (fun w hw=>aU rfl) rfl (bO 4 rfl 8 rfl rfl (fun w hw=>aU rfl) rfl (aT 5 rfl (isV _) (aO _) (rgV (li:=[(52,_),(53,_)]) rfl (aJ rfl) ⟨aG 2 (aC rfl rfl rfl),aG 3 (aC rfl rfl rfl),trivial⟩ (fun w hw=>bF (j:=i) (b:=sb) (o:=0) (m:=sl9) (c:=sc) underlying36 sizeOf3 rfl rfl rfl (by omega) rfl) (aD rfl)) (bE 6 rfl 54 4 rfl rfl rfl (fun w hw=>aY isAgg3 rfl ((aL hw 0).cell (Nat.zero_le _) (hmc))) rfl ?_)))))))))))
    refine aT 7 rfl (isV _) (aO _) (rgV (li:=[(51,_),(55,_)]) rfl (aJ rfl) ⟨aG 1 (aC rfl rfl rfl),aG 5 (aC rfl rfl rfl),trivial⟩ (fun w hw=>bF (j:=c) (b:=nb) (o:=no) (m:=d.nl) (c:=d.nc) underlying22 sizeOf36 (by show some (Value.slice _ _ _)=_;rw [hna]) rfl rfl (by omega) rfl) (aD rfl)) ?_
    refine bE 8 rfl 56 6 rfl rfl rfl (fun w hw=>aY isAgg36 rfl ((aL hw 0).cell (Nat.zero_le _) (q1))) rfl (bO 9 rfl 10 rfl rfl (fun w hw=>aU rfl) rfl ?_)
    refine aT 10 rfl (isV _) (aO _) (rgV (li:=[(57,_),(58,_)]) rfl (aJ rfl) ⟨aG 7 (aC rfl rfl rfl),aG 8 (aC rfl rfl rfl),trivial⟩ (fun w hw=>bF (j:=x) (b:=rb) (o:=ro) (m:=r.l) (c:=r.c) underlying36 sizeOf3 (by show some (Value.slice _ _ _)=_;rw [hra]) rfl (by omega) (by omega) rfl) (aD rfl)) ?_
    refine bE 11 rfl 59 9 rfl rfl rfl (fun w hw=>aY isAgg3 rfl ((aL hw 0).cell (Nat.zero_le _) (q2))) rfl (bE 12 rfl 60 10 rfl rfl rfl (fun w hw=>eD rfl) rfl (dJ ?_))
    intro W8 hbR hS'
    clear hS;have hS:=hS';clear hS'
    refine aH (aH (aH (aH (aH (aH (aH (aH (aH (aH (aH (aH (cG (XF.thenN (aI (aI ?_)))))))))))))))
    obtain ⟨cb2,co2,hca2,hcc⟩:=jI (hR1 hS (fun q hq=>by simp [hsub q hq])) (i:=(dFA d).nx c x) (by omega)
    refine aP (aA rfl rfl (aA rfl rfl (aA rfl rfl ?_)))
    refine aW (j:=(dFA d).nx c x) (b:=cb2) (o:=co2) (m:=d.nl) (c:=d.nl) underlying36 sizeOf3 (by show some (Value.slice _ _ _)=_;rw [hca2]) rfl rfl (by omega) rfl rfl ?_
    refine aR isAgg3 rfl (hcc) rfl (aW (j:=gN cl ((dFA d).nx c x)) underlying36 sizeOf3 rfl rfl (rfl) (hclx) rfl rfl (aR isAgg3 rfl (aE (hS.at_ 2 rfl) (sI (by omega))) rfl (cB rfl rfl rfl (aK (XF.thenN (bP rfl (fun hc=>?_) (fun hc=>?_)))))))
    ·have hc68:=of_decide_eq_true hc;clear hc
     have hnew:gN cl ((dFA d).nx c x)∉(qm (dFA d) (gN cl) (i * d.sy.toNat+x)).map (gN cl):=fun h=>by
      rw [if_pos h] at hnat;omega
     have e1:mtS (gN cl) (qm (dFA d) (gN cl) (i * d.sy.toNat+x)) ((dFA d).nx c x)=qm (dFA d) (gN cl) (i * d.sy.toNat+x)++[(dFA d).nx c x]:=nV hnew
     have e2:mtI (gN cl) (qm (dFA d) (gN cl) (i * d.sy.toNat+x)) ((dFA d).nx c x)=sl9:=(rO hnew).trans hsl9
     refine aI (aP (aA rfl rfl (aA rfl rfl (aA rfl rfl ?_))))
     refine aW (j:=(dFA d).nx c x) (b:=cb2) (o:=co2) (m:=d.nl) (c:=d.nl) underlying36 sizeOf3 (by show some (Value.slice _ _ _)=_;rw [hca2]) rfl rfl (by omega) rfl rfl ?_
     refine aR isAgg3 rfl (hcc) rfl (aA rfl rfl (bM underlying36 rfl rfl (aW (j:=gN cl ((dFA d).nx c x)) underlying36 sizeOf3 rfl rfl (rfl) (hclx) rfl rfl ?_)))
     refine bN (i:=2) (cs':=lG (nm.set (gN cl ((dFA d).nx c x)) (sl9:Int))) (O':=(_::_::_::_::_::Ot)) hS sizeOf3 rfl rfl rfl rfl (Nat.ble_eq_true_of_le (by rw [i64z_len];omega)) pE rfl fun W81 hS=>?_
     refine aK (XF.thenN (aP (aA rfl rfl (aA rfl rfl (bU (us:=[(0,.int .i64 _)]) hS underlying36 sizeOf3 zeroValue3 rfl rfl rfl (jE _) rfl fun B9 W9 hS=>?_)))))
     refine dI (i:=0) (news:=[_]) hS underlying36 lU rfl rfl (by show 0 < 1;decide) rfl rfl rfl rfl rfl (aX.own (j:=0) (m:=1) (hS.at_ 0 rfl) rfl) rfl rfl (by dsimp only;simp only [maxLen];omega) (by dsimp only;show _ * 8≤_;omega) rfl fun v10 W10 hS=>?_
     obtain ⟨sa9,sc9,e9,_⟩:=bZ (hS.row 0 rfl)
     dsimp only at e9
     subst e9
     obtain ⟨cb3,co3,hca3,hcc3⟩:=jI (hR1 hS (fun q hq=>by simp [hsub q hq])) (i:=(dFA d).nx c x) (by omega)
     refine aB rfl rfl (aK (XF.thenN (aP (aA rfl rfl (aA rfl rfl (aA rfl rfl (aA rfl rfl (aA rfl rfl ?_))))))))
     refine aW (j:=(dFA d).nx c x) (b:=cb3) (o:=co3) (m:=d.nl) (c:=d.nl) underlying36 sizeOf3 (by show some (Value.slice _ _ _)=_;rw [hca3]) rfl rfl (by omega) rfl rfl ?_
     refine aR isAgg3 rfl (hcc3) rfl (aW (j:=gN cl ((dFA d).nx c x)) underlying36 sizeOf3 rfl rfl (rfl) (hclx) rfl rfl ?_)
     refine aR isAgg3 rfl (aE (hS.at_ 3 rfl) (sI (by rw [List.length_set];omega))) rfl ?_
     refine aW (j:=x) underlying36 sizeOf3 rfl rfl (rfl) (by omega) rfl rfl ?_
     refine bN (i:=1) (cs':=cY ((rz (dFA d) (gN cl) i x).set x (qfl (dFA d) (gN cl) (i * (dFA d).k+x)))) (O':=(_::_::_::_::_::_::Ot)) hS sizeOf3 rfl rfl rfl rfl (Nat.ble_eq_true_of_le (by rw [fU,Bt (show x≤(dFA d).k from hx)];show 0+x * 1+1≤d.sy.toNat;omega)) (fV (by rw [show qfl (dFA d) (gN cl) (i * (dFA d).k+x)=_ from eq2,e2,List.getD_eq_getElem?_getD,List.getElem?_set_self (by omega)];rfl)) rfl fun W82 hS=>?_
     refine aK (XF.blkN (XF.thenN (aP (aA rfl rfl (bT rfl rfl (IntWalk.i64_in _ (by omega)) rfl (aB rfl rfl (aK ?_)))))))
     rw [Bu (show x < (dFA d).k from hx9)] at hS
     rw [e1] at eq1
     have hS9:=hS.tail.castG (G':=(⟨.slice sa9 ((sl9+1)) sc9,(sl9+1),cY (qm (dFA d) (gN cl) (i * d.sy.toNat+x+1)),3,1⟩::⟨.slice va (i) vc,i,(rs).map IV.val,36,1⟩::⟨.slice wa (i) wc,i,bvs ((List.range (i)).map (fun j=>(dFA d).ac ((qm (dFA d) (gN cl) (i * d.sy.toNat)).getD j 0))),4,1⟩::G)) (by rw [eq1,← oU rfl];rfl)
     exact XF.round (d.sy.toNat - (x+1)) [(1,_),(2,_),(3,_),(4,_),(6,_),(7,_),(8,_),(9,_),(10,_)] (by omega) ⟨rfl,rfl,rfl,rfl,rfl,rfl,rfl,rfl,rfl,trivial⟩ ⟨x+1,sl9+1,sa9,sc9,nm.set (gN cl ((dFA d).nx c x)) (sl9:Int),by omega,rfl,rfl,by show (qm (dFA d) (gN cl) (i * d.sy.toNat+x+1)).length=_;rw [eq1,List.length_append,hsl9];rfl,by show NumOk _ _ (qm (dFA d) (gN cl) (i * d.sy.toNat+x+1)) _;rw [eq1,← hsl9];exact hnm.step hclx hnew,hS9.keep Kk (fun q hq=>by simp [hq])⟩
    ·have hc68:=of_decide_eq_false hc;clear hc
     have hold:gN cl ((dFA d).nx c x)∈(qm (dFA d) (gN cl) (i * d.sy.toNat+x)).map (gN cl):=Decidable.of_not_not fun h=>by
      rw [if_neg h] at hnat;omega
     rw [if_pos hold] at hnat
     have e1:mtS (gN cl) (qm (dFA d) (gN cl) (i * d.sy.toNat+x)) ((dFA d).nx c x)=qm (dFA d) (gN cl) (i * d.sy.toNat+x):=lZ hold
     have e2:((mtI (gN cl) (qm (dFA d) (gN cl) (i * d.sy.toNat+x)) ((dFA d).nx c x):Nat):Int)=nm.getD (gN cl ((dFA d).nx c x)) 0:=by rw [hnat];unfold mtI;rw [e1]
     refine bS (XF.thenN (aP (aA rfl rfl (aA rfl rfl (aA rfl rfl (aA rfl rfl (aA rfl rfl ?_)))))))
     refine aW (j:=(dFA d).nx c x) (b:=cb2) (o:=co2) (m:=d.nl) (c:=d.nl) underlying36 sizeOf3 (by show some (Value.slice _ _ _)=_;rw [hca2]) rfl rfl (by omega) rfl rfl ?_
     refine aR isAgg3 rfl (hcc) rfl (aW (j:=gN cl ((dFA d).nx c x)) underlying36 sizeOf3 rfl rfl (rfl) (hclx) rfl rfl (aR isAgg3 rfl (aE (hS.at_ 2 rfl) (sI (by omega))) rfl (aW (j:=x) underlying36 sizeOf3 rfl rfl (rfl) (by omega) rfl rfl ?_)))
     refine bN (i:=0) (cs':=cY ((rz (dFA d) (gN cl) i x).set x (qfl (dFA d) (gN cl) (i * (dFA d).k+x)))) (O':=(_::_::_::_::_::Ot)) hS sizeOf3 rfl rfl rfl rfl (Nat.ble_eq_true_of_le (by rw [fU,Bt (show x≤(dFA d).k from hx)];show 0+x * 1+1≤d.sy.toNat;omega)) (fV (by rw [show qfl (dFA d) (gN cl) (i * (dFA d).k+x)=_ from eq2,e2])) rfl fun W82 hS=>?_
     refine aK (XF.blkN (XF.thenN (aP (aA rfl rfl (bT rfl rfl (IntWalk.i64_in _ (by omega)) rfl (aB rfl rfl (aK ?_)))))))
     rw [Bu (show x < (dFA d).k from hx9)] at hS
     rw [e1] at eq1
     rw [← eq1] at hsl9 hnm hS
     exact XF.round (d.sy.toNat - (x+1)) [(1,_),(2,_),(3,_),(4,_),(6,_),(7,_),(8,_),(9,_),(10,_)] (by omega) ⟨rfl,rfl,rfl,rfl,rfl,rfl,rfl,rfl,rfl,trivial⟩ ⟨x+1,sl9,_,sc,nm,by omega,rfl,rfl,hsl9,hnm,hS.keep Kk (fun q hq=>by simp [hq])⟩
   ·have hc47:=of_decide_eq_false hc;clear hc
    have exk:x=d.sy.toNat:=by omega
    have es:(i+1) * d.sy.toNat=i * d.sy.toNat+x:=by rw [Nat.succ_mul,exk]
    have hle9:i * d.sy.toNat≤(i+1) * d.sy.toNat:=Nat.mul_le_mul_right _ (Nat.le_succ i)
    rw [← es] at hsl9 hnm hS
    have hil2:i < sl9:=by have:=fH (A:=dFA d) (cls:=gN cl) hle9;omega
    rw [exk] at hS
    obtain ⟨K3,k3,g3,hS3⟩:=(hS.keep Kk (fun q hq=>by simp [hq])).ownKeep
    clear hS;have hS:=hS3;clear hS3
    refine cN (XF.thenX (XF.thenX (XF.blkX (XF.thenN (aI (aP (aV (o':=1) cJ rfl rfl rfl (aR isAgg22 rfl (aE (hS.at_ 0 rfl) rfl) rfl (aA rfl rfl (bU (us:=[(0,.slice _ _ _)]) hS underlying22 sizeOf36 zeroValue36 rfl rfl rfl (wV _ _ _) rfl fun B11 W11 hS=>?_))))))))))
    refine dI (i:=1) (news:=[_]) hS underlying22 Ak rfl rfl (by show 0 < 1;decide) rfl rfl rfl rfl rfl (aX.own (j:=0) (m:=1) (hS.at_ 0 rfl) rfl) rfl rfl (by dsimp only;simp only [maxLen];omega) (by dsimp only;show _ * 24≤_;omega) rfl fun v12 W12 hS=>?_
    obtain ⟨va9,vc9,e9,_⟩:=bZ (hS.row 1 rfl)
    dsimp only at e9
    subst e9
    refine aV (o':=1) cJ rfl rfl rfl (bN (i:=1) (cs':=[_,_,_]) (O':=(_::_::_::_::_::Ot)) hS sizeOf22 rfl rfl rfl rfl rfl rfl rfl fun W13 hS=>aK (XF.thenN ?_))
    obtain ⟨sb,rfl⟩:=eO (hS.row 0 rfl) (by omega)
    have hgd:(qm (dFA d) (gN cl) ((i+1) * d.sy.toNat)).getD i 0=c:=(fS hle9 hil).trans hcE
    have hmc:W13.cell? ⟨sb,0+i * 1,none⟩=some (.int .i64 (c:Int)):=by
     rw [Nat.zero_add,Nat.mul_one]
     exact cP (hS.row 0 rfl) (k:=i) (by rw [mA (by omega)];exact congrArg (fun z:Nat=>some (Value.int .i64 (z:Int))) hgd)
    obtain ⟨ab,ao,haa,hac⟩:=eI.get (hD hS (fun q hq=>by simp [k3 q (hsub q (hsub1 q (hKt q hq)))])).arow (i:=c) (by omega)
    refine yS (p:=11) (k:=13) (gi:=2) (m:=1) bY hS rfl rfl (by kernel_rfl) (by kernel_rfl) (by kernel_rfl) (fun d hd=>by cases hd) rfl rfl underlying23 wD rfl rfl (by show 0 < 1;decide) rfl rfl rfl (by dsimp only;simp only [maxLen];omega) (by dsimp only;show _ * 1≤_;omega) ?_
    refine dS 1 rfl rfl (by kernel_rfl) (rgV (li:=[(6,_)]) rfl (aJ rfl) ⟨bQ rfl,trivial⟩ (fun w hw=>bC (o':=2) cR rfl rfl) (aD rfl)) (dS 2 rfl rfl (by kernel_rfl) (rgV (li:=[(97,_)]) rfl (aJ rfl) ⟨aG 0 (aC rfl rfl rfl),trivial⟩ (fun w hw=>aY isAgg23 rfl ((aL hw 0).cell (Nat.zero_le _) (aE (hS.at_ 1 rfl) rfl))) (aD rfl)) (dS 3 rfl rfl (by kernel_rfl) (rgV (li:=[(1,_)]) rfl (aJ rfl) ⟨bQ rfl,trivial⟩ (fun w hw=>bC (o':=2) cR rfl rfl) (aD rfl)) (dS 4 rfl rfl (by kernel_rfl) (rgV (li:=[(99,_)]) rfl (aJ rfl) ⟨aG 2 (aC rfl rfl rfl),trivial⟩ (fun w hw=>aY isAgg23 rfl ((aL hw 0).cell (Nat.zero_le _) (aE (hS.at_ 4 rfl) rfl))) (aD rfl)) (dS 5 rfl rfl (by kernel_rfl) (rgV (li:=[(7,_)]) rfl (aJ rfl) ⟨bQ rfl,trivial⟩ (fun w hw=>aU rfl) (aD rfl)) (dS 6 rfl rfl (by kernel_rfl) (rgV (li:=[(8,_)]) rfl (aJ rfl) ⟨bQ rfl,trivial⟩ (fun w hw=>aU rfl) (aD rfl)) (dS 7 rfl rfl (by kernel_rfl) (rgV (li:=[(101,_),(102,_)]) rfl (aJ rfl) ⟨aG 4 (aC rfl rfl rfl),aG 5 (aC rfl rfl rfl),trivial⟩ (fun w hw=>bF (j:=i) (b:=sb) (o:=0) (m:=sl9) (c:=sc) underlying36 sizeOf3 rfl rfl rfl (by omega) rfl) (aD rfl)) (dS 8 rfl rfl (by kernel_rfl) (rgV (li:=[(103,_)]) rfl (aJ rfl) ⟨aG 6 (aC rfl rfl rfl),trivial⟩ (fun w hw=>aY isAgg3 rfl ((aL hw 0).cell (Nat.zero_le _) (hmc))) (aD rfl)) ?_)))))))
    refine dS 9 rfl rfl (by kernel_rfl) (rgV (li:=[(100,_),(104,_)]) rfl (aJ rfl) ⟨aG 3 (aC rfl rfl rfl),aG 7 (aC rfl rfl rfl),trivial⟩ (fun w hw=>bF (j:=c) (b:=ab) (o:=ao) (m:=d.al) (c:=d.ac) underlying23 sizeOf4 (by show some (Value.slice d.aa _ _)=_;rw [haa]) rfl rfl (by omega) rfl) (aD rfl)) ?_
    refine dS 10 rfl rfl (by kernel_rfl) (rgV (li:=[(105,_)]) rfl (aJ rfl) ⟨aG 8 (aC rfl rfl rfl),trivial⟩ (fun w hw=>aY isAgg4 rfl ((aL hw 0).cell (Nat.zero_le _) (hac))) (aD rfl)) (vS 11 rfl rfl (by kernel_rfl) (fC W13.heap.size 1 4 _) (iY) (nK (us:=[.bool _]) rfl (aJ rfl) underlying23 sizeOf4 zeroValue4 rfl rfl ⟨dN (aG 9 (aC rfl rfl rfl)),trivial⟩ (nR _) (aD rfl)) (nM 12 rfl rfl (iP 13 rfl rfl (rgV (li:=[(6,_)]) rfl (aJ rfl) ⟨bQ rfl,trivial⟩ (fun w hw=>bC (o':=2) cR rfl rfl) (aD rfl)) (lgV (li:=[(6,_)]) rfl (aJ rfl) ⟨bQ rfl,trivial⟩ (fun w=>bC (o':=2) cR rfl rfl) (aD rfl) rfl) (nL ⟨_,_,aG 1 (aC rfl rfl rfl),aG 10 (aC rfl rfl rfl),hC rfl rfl,?_⟩))))
    intro A14 v14 news14 W14 hbR hqA14 hS'
    clear hS;have hS:=hS';clear hS'
    cases hqA14
    refine aH (aH (aH (aH (aH (aH (aH (aH (aH (aH ?_)))))))))
    refine eC ?_;intro _ _
    refine aH (aH ?_)
    obtain ⟨wa9,wc9,e9,_⟩:=bZ (hS.row 2 rfl)
    dsimp only at e9
    subst e9
    refine cG (bN (i:=1) (cs':=[_,_,_]) (O':=(_::_::_::_::_::Ot)) hS sizeOf23 rfl rfl rfl rfl rfl rfl rfl fun W15 hS=>aK (XF.blkN (XF.thenN (aP (aA rfl rfl (bT rfl rfl (IntWalk.i64_in _ (by omega)) rfl (aB rfl rfl (aK ?_))))))))
    have hS9:=hS.tail.castG (G':=(⟨.slice (some ⟨sb,0,none⟩) (sl9) sc,sl9,cY (qm (dFA d) (gN cl) ((i+1) * d.sy.toNat)),3,1⟩::⟨.slice va9 ((i+1)) vc9,(i+1),((rs++[IV.mk (some ⟨B7,0,none⟩) d.sy.toNat d.sy.toNat (wI (rz (dFA d) (gN cl) i d.sy.toNat))])).map IV.val,36,1⟩::⟨.slice wa9 ((i+1)) wc9,(i+1),bvs ((List.range ((i+1))).map (fun j=>(dFA d).ac ((qm (dFA d) (gN cl) ((i+1) * d.sy.toNat)).getD j 0))),4,1⟩::G)) (by show GR.mk _ _ _ _ _::GR.mk _ _ _ _ _::GR.mk _ _ (bvs _++[Value.bool _]) _ _::_=_;rw [nU,← qacl_up (A:=dFA d) (cls:=gN cl) hle9 (show i≤(qm (dFA d) (gN cl) (i * d.sy.toNat)).length by omega),yG (A:=dFA d) (cls:=gN cl) (b:=d.bs.getD c false) hgd rfl,List.map_append];rfl)
    exact XF.round (d.nl - (i+1)) [(1,_),(2,_),(3,_),(4,_),(6,_),(7,_),(8,_)] (by have:=hq1;omega) ⟨rfl,rfl,rfl,rfl,rfl,rfl,rfl,trivial⟩ ⟨i+1,sl9,_,va9,wa9,sc,vc9,wc9,nm,rs++[IV.mk (some ⟨B7,0,none⟩) d.sy.toNat d.sy.toNat (wI (rz (dFA d) (gN cl) i d.sy.toNat))],K3,by omega,rfl,rfl,hsl9,fun j hj=>(by
     rcases Nat.lt_or_ge j i with h9 | h9
     ·exact hrows j h9
     ·rw [show j=i by omega];exact hil),hnm,by simp [hrl],vK hrl hrs rfl rz_end,fun q hq=>k3 q (hsub q hq),fun h9 hk9 r hr=>(by
     rcases List.mem_append.1 hr with h | h
     ·exact hRH h9 (fun q hq=>hk9 q (k3 q hq)) r h
     ·rw [List.mem_singleton.1 h];exact rX (g3 h9 hk9)),hS9.keep K3 (fun q hq=>by simp [hq])⟩
  ·have hc38:=of_decide_eq_false hc;clear hc
   obtain rfl:sl=i:=by omega
   have hQ:QuoOk (dFA d) (gN cl) sl:=⟨hO,hsl,hrows⟩
   have hsln:sl≤d.nl:=by rw [← hsl];exact hq1
   refine cN (XF.thenX (XF.thenX (XF.blkX (XF.thenN (aI (aP (bV (vs:=[_,_,_]) isAgg25 sizeOf25 rfl (aX.own (j:=0) (m:=3) (hS.at_ 0 rfl) rfl) rfl (bW (i:=2) (vs:=[_,_,_]) (cs':=[_,_,_]) (O':=(_::_::_::_::Ot)) hS sizeOf25 rfl rfl rfl rfl rfl rfl rfl fun W16 hS=>aK (XF.thenN (cH (XF.res (pN (vs:=[_,_,_]) results35 isAgg25 sizeOf25 rfl (aX.own (j:=0) (m:=3) (hS.at_ 2 rfl) rfl)) ?_)))))))))))
   obtain ⟨K5,k5,g5,hS5⟩:=((hS.keep Kk (fun q hq=>by simp [hq])).tailG).rowKeep
   obtain ⟨K6,k6,g6,hS6⟩:=hS5.rowKeep
   have hN1:sl≤100000:=by omega
   have hK1:(dFA d).k≤100000:=by show d.sy.toNat≤_;omega
   have hT:=qT_ok hQ hN1 hK1
   have hag:=qT_agr hQ hN1 hK1
   have hof:DOfT (qT (dFA d) (gN cl) sl) ⟨d.sy,va,sl,vc,rs,wa,sl,wc,(List.range (sl)).map (fun j=>(dFA d).ac ((qm (dFA d) (gN cl) (sl * d.sy.toNat)).getD j 0))⟩:=⟨by show d.sy=((d.sy.toNat:Nat):Int);omega,rfl,rfl,hrl,fun j r hr=>(by
    obtain ⟨u1,u2⟩:=hrs j r hr
    have hj:j < rs.length:=(List.getElem?_eq_some_iff.1 hr).1
    exact ⟨u1,u2.trans (qT_row (N:=sl) (show j < sl by omega)).symm⟩),rfl⟩
   have hl:=vB (A:=dFA d) hT hof (hag.ord (vZ hQ)) (hag.red (wA hQ hCl.cong hCl.eqv)) (Eqv.trans (A:=(qT (dFA d) (gN cl) sl).fa) (B:=quo (dFA d) (gN cl) sl) rfl (hag.eqv hT.pos) (rE hQ hCl.cong)) rfl (by show sl≤1024;omega) (by show d.sy.toNat≤4096;omega) (Nat.le_trans (Nat.mul_le_mul hsln (show d.sy.toNat≤k9 by omega)) h5)
   exact ⟨_,K6,hl.1,hsln,rfl,fun z hz=>k6 z (k5 z (hsub z (hsub1 z hz))),fun h9 hk9=>vF hT hof ⟨fun j r hr=>g5 h9 (fun z hz=>hk9 z (k6 z hz)) j _ (by rw [List.getElem?_map,hr];rfl),hRH h9 (fun z hz=>hk9 z (k6 z (k5 z hz)))⟩ (nZ (g6 h9 hk9)),hS6.tail.tail.tail.tail⟩
theorem vL (v0:Int) (v1a:Option Addr) (v1l:Nat) (v1c:Nat):prog.built 25 [(0,.int .i64 v0),(1,.slice v1a v1l v1c)]=some #[.int .i64 v0,.slice v1a v1l v1c,.slice none 0 0]:=by kernel_rfl
theorem xF:cD prog 35=true:=by kernel_rfl
def vM (d:DV) (aa:Option Addr) (ac:Nat):DV:=⟨d.sy,d.na,d.nl,d.nc,d.ns,aa,d.nl,ac,d.bs.map (!·)⟩
theorem negD_e {d:DV} {aa:Option Addr} {ac:Nat} (he:cQ d=0):cQ (vM d aa ac)=0:=by
 obtain ⟨k,hk,h1,h2,h3,h4,h5,h6⟩:=dM he
 have e:cQ (vM d aa ac)=cQ d:=by
  unfold cQ vM
  dsimp only
  rw [h4]
 rw [e];exact he
theorem Bv {d:DV} {aa:Option Addr} {ac:Nat} (hO:(dFA d).Ok) (hb:d.bs.length=d.nl):Agr (dFA (vM d aa ac)) (mW (dFA d)):=⟨rfl,rfl,⟨hO.pos,hO.t0_⟩,fun s x _ _=>rfl,fun s hs=>by
 have hs:s < d.bs.length:=by rw [hb];exact hs
 show (d.bs.map (!·)).getD s false = !(d.bs.getD s false)
 rw [List.getD_eq_getElem?_getD,List.getD_eq_getElem?_getD,List.getElem?_map,List.getElem?_eq_getElem hs];rfl⟩
theorem yH {d:DV} {A B:FA} (h:Lst d A) (hk:A.k=B.k) (he:Eqv A 0 B 0):Lst d B:=⟨h.e,h.len,h.xl,h.bl,h.k.trans hk,h.ord,h.red,Eqv.trans (B:=A) h.k h.eqv he⟩
theorem Bw {W:World} {d:DV} {aa:Option Addr} {ac:Nat} (h:DIn W d) (hb:d.bs.length=d.nl) (ha:eI W aa (d.bs.map (!·))):DIn W (vM d aa ac):=⟨h.nrow,h.nlen,h.rin,ha,by show (d.bs.map (!·)).length=d.nl;rw [List.length_map];exact hb,h.nmax,h.nmax⟩
theorem tV {bs:List Bool} {i:Nat} {y:Bool} (h:bs[i]?=some y):bvs ((bs.take i).map (!·))++[Value.bool (!y)]=bvs ((bs.take (i+1)).map (!·)):=by
 rw [nU,List.take_add_one,h];simp
theorem yI (d:DV) (Kt:List (Nat×World)) (Ot:Own) (G:bI) (K:List (Nat×World)) (w0 w:World) (hS0:St w0 Ot G K w) (hKt:∀ q∈Kt,q∈K) (hD:dB w0 Kt (fun W=>DIn W d)) :
  Calls prog 12 #[d.val] w (fun e w'=>∃ (d2:DV) (Kn:List (Nat×World)),LX d d2 (dFA d)∧e = .returned (.tuple #[d2.val,.int .i64 (cQ d)])∧(∀ q∈K,q∈Kn)∧dB w0 Kn (fun W=>DIn W d2)∧St w0 Ot G Kn w'):=by
 refine cL (args:=[d.val]) func12 rfl ntmps12 rfl ?_
 have hS:=hS0
 refine aI (aP (cV (cs:=[_,_,_]) hS rfl rfl rfl fun B1 W1 hS=>cE (cs:=[_,_,_]) hS zeroValue25 rfl rfl fun B2 W2 hS=>aB rfl rfl (aK (XF.thenN (aI (aP (bV (vs:=[_,_,_]) isAgg25 sizeOf25 rfl (aX.own (j:=0) (m:=3) (hS.at_ 1 rfl) rfl) rfl (bX (vs:=[_]) rT rfl (rH d _ (hD (hS.keep K (fun q hq=>by simp [hq])) hKt)) rfl ?_))))))))
 rintro e W9 ⟨rfl,hb9⟩
 refine ⟨_,rfl,?_⟩
 have hS':=hS.grow hb9;clear hS;have hS:=hS';clear hS'
 refine aB rfl rfl (aK (XF.thenN (aI (aI (aP (aA rfl rfl (eL rfl rfl rfl (aK (XF.thenN (bP rfl (fun hc=>?_) (fun hc=>?_)))))))))))
 ·have hc8:=of_decide_eq_true hc;clear hc
  refine aI (aP (dW (us:=[]) rfl (sA) rfl (aA rfl rfl (bW (i:=0) (vs:=[_,_,_]) (cs':=[_,_,_]) (O':=(_::_::Ot)) hS sizeOf25 rfl rfl rfl rfl rfl rfl rfl fun W3 hS=>aB rfl rfl (aK (XF.thenN (cH (XF.thenR (XF.res (lJ (vs:=[_,_,_]) results12 isAgg25 sizeOf25 rfl (aX.own (j:=0) (m:=3) (hS.at_ 0 rfl) rfl) rfl) ?_)))))))))
  exact ⟨zD,K,⟨fun h=>absurd h hc8,fun _=>rfl⟩,rfl,fun z hz=>hz,fun _ _=>sB,(hS.keep K (fun q hq=>by simp [hq])).tail.tail⟩
 ·have hc8:=of_decide_eq_false hc;clear hc
  have he:cQ d=0:=Decidable.of_not_not hc8
  refine bS (XF.thenN (aI (aP (bV (vs:=[_,_,_]) isAgg25 sizeOf25 rfl (aX.own (j:=0) (m:=3) (hS.at_ 1 rfl) rfl) rfl (bX (vs:=[_]) xF rfl (qF d Kt _ _ K w0 _ (hS.keep K (fun q hq=>by simp [hq])) hKt hD he) rfl ?_)))))
  rintro e W9 ⟨d2,K1,hL,hn2,rfl,hk1,hD2,hS9⟩
  refine ⟨_,rfl,?_⟩
  clear hS;have hS:=hS9;clear hS9
  refine bW (i:=0) (vs:=[_,_,_]) (cs':=[_,_,_]) (O':=(_::_::Ot)) hS sizeOf25 rfl rfl rfl rfl rfl rfl rfl fun W4 hS=>aB rfl rfl (aK (XF.thenN (cH (XF.res (lJ (vs:=[_,_,_]) results12 isAgg25 sizeOf25 rfl (aX.own (j:=0) (m:=3) (hS.at_ 0 rfl) rfl) rfl) ?_))))
  exact ⟨d2,K1,⟨fun _=>⟨hL,hn2⟩,fun h=>absurd he h⟩,by rw [he],hk1,hD2,(hS.keep K1 (fun q hq=>by simp [hq])).tail.tail⟩
theorem rNot_is (d:DV) (Kt:List (Nat×World)) (Ot:Own) (G:bI) (K:List (Nat×World)) (w0 w:World) (hS0:St w0 Ot G K w) (hKt:∀ q∈Kt,q∈K) (hD:dB w0 Kt (fun W=>DIn W d)) :
  Calls prog 14 #[d.val] w (fun e w'=>∃ (d2:DV) (Kn:List (Nat×World)),LX d d2 (mW (dFA d))∧e = .returned (.tuple #[d2.val,.int .i64 (cQ d)])∧(∀ q∈K,q∈Kn)∧dB w0 Kn (fun W=>DIn W d2)∧St w0 Ot G Kn w'):=by
 refine cL (args:=[d.val]) func14 rfl ntmps14 rfl ?_
 have hS:=hS0
 refine aI (aP (cV (cs:=[_,_,_]) hS rfl rfl rfl fun B1 W1 hS=>cE (cs:=[_,_,_]) hS zeroValue25 rfl rfl fun B2 W2 hS=>aB rfl rfl (aK (XF.thenN (aI (aP (bV (vs:=[_,_,_]) isAgg25 sizeOf25 rfl (aX.own (j:=0) (m:=3) (hS.at_ 1 rfl) rfl) rfl (bX (vs:=[_]) rT rfl (rH d _ (hD (hS.keep K (fun q hq=>by simp [hq])) hKt)) rfl ?_))))))))
 rintro e W9 ⟨rfl,hb9⟩
 refine ⟨_,rfl,?_⟩
 have hS':=hS.grow hb9;clear hS;have hS:=hS';clear hS'
 refine aB rfl rfl (aK (XF.thenN (aI (aI (aP (aA rfl rfl (eL rfl rfl rfl (aK (XF.thenN (bP rfl (fun hc=>?_) (fun hc=>?_)))))))))))
 ·have hc10:=of_decide_eq_true hc;clear hc
  refine aI (aP (dW (us:=[]) rfl (sA) rfl (aA rfl rfl (bW (i:=0) (vs:=[_,_,_]) (cs':=[_,_,_]) (O':=(_::_::Ot)) hS sizeOf25 rfl rfl rfl rfl rfl rfl rfl fun W3 hS=>aB rfl rfl (aK (XF.thenN (cH (XF.thenR (XF.res (lJ (vs:=[_,_,_]) results14 isAgg25 sizeOf25 rfl (aX.own (j:=0) (m:=3) (hS.at_ 0 rfl) rfl) rfl) ?_)))))))))
  exact ⟨zD,K,⟨fun h=>absurd h hc10,fun _=>rfl⟩,rfl,fun z hz=>hz,fun _ _=>sB,(hS.keep K (fun q hq=>by simp [hq])).tail.tail⟩
 ·have hc10:=of_decide_eq_false hc;clear hc
  have he:cQ d=0:=Decidable.of_not_not hc10
  obtain ⟨k,hk,h1,h2,h3,h4,h5,h6⟩:=dM he
  have hDI0:=hD hS0 hKt
  have hbl:d.bs.length=d.nl:=by have:=hDI0.alen;omega
  have hO:=lF he hDI0.nlen (fun r hr=>(hDI0.rin r hr).2.1)
  refine bS (XF.thenN (aI (aP (aV (o':=0) dL rfl rfl rfl (aR isAgg3 rfl (aE (hS.at_ 1 rfl) rfl) rfl (aV (o':=1) cJ rfl rfl rfl (aR isAgg22 rfl (aE (hS.at_ 1 rfl) rfl) rfl (dW (us:=[(0,.int .i64 _),(1,.slice _ _ _)]) rfl (vL _ _ _ _) rfl (cE (cs:=[_,_,_]) hS zeroValue25 rfl rfl fun B4 W4 hS=>bW (i:=0) (vs:=[_,_,_]) (cs':=[_,_,_]) (O':=(_::_::_::Ot)) hS sizeOf25 rfl rfl rfl rfl rfl rfl rfl fun W5 hS=>aK (XF.thenN (aI (aI ?_))))))))))))
  have hS':=hS.newG 4 1;clear hS;have hS:=hS';clear hS'
  refine aP (aB rfl rfl (aK (XF.thenN (bG (cO (fun m l W=>∃ (i:Nat) (wa:Option Addr) (wc:Nat),i≤d.nl∧m=d.nl - i∧l=[(1,.pointer (some ⟨B1,0,none⟩)),(2,.pointer (some ⟨B2,0,none⟩)),(5,.pointer (some ⟨B4,0,none⟩)),(6,.int .i64 (i:Int))]∧St w0 ((B4,[.int .i64 d.sy,.slice d.na d.nl d.nc,.slice wa (i) wc],25)::(B2,[.int .i64 0,.slice none 0 0,.slice none 0 0],25)::(B1,[.int .i64 d.sy,.slice d.na d.nl d.nc,.slice d.aa d.al d.ac],25)::Ot) (⟨.slice wa (i) wc,i,bvs ((d.bs.take (i)).map (!·)),4,1⟩::G) K W) (d.nl - 0) ([(1,_),(2,_),(5,_),(6,_)]) ⟨rfl,rfl,rfl,rfl,trivial⟩ (⟨0,none,0,Nat.zero_le _,rfl,rfl,hS.keep K (fun q hq=>by simp [hq])⟩) ?_)))))
  clear hS
  rintro m l W ⟨i,wa,wc,hi,rfl,rfl,hS⟩
  refine aI (aI (aP (aA rfl rfl (aV (o':=2) cR rfl rfl rfl (aR isAgg23 rfl (aE (hS.at_ 2 rfl) rfl) rfl (bM underlying23 rfl rfl (cB rfl rfl rfl (aK (XF.thenN (bP rfl (fun hc=>?_) (fun hc=>?_)))))))))))
  ·have hc22:=of_decide_eq_true hc;clear hc
   have hi9:i < d.nl:=by omega
   obtain ⟨b5,o5,y,hba,hy,hyc⟩:=eI.at9 (hD hS (fun q hq=>hKt q hq)).arow (i:=i) (by omega)
   refine bS (XF.thenN (aI (bG ?_)))
   refine yS (p:=9) (k:=11) (gi:=0) (m:=1) bY hS rfl rfl (by kernel_rfl) (by kernel_rfl) (by kernel_rfl) (fun d hd=>by cases hd) rfl rfl underlying23 wD rfl rfl (by show 0 < 1;decide) rfl rfl rfl (by dsimp only;simp only [maxLen];omega) (by dsimp only;show _ * 1≤_;omega) ?_
   refine dS 1 rfl rfl (by kernel_rfl) (rgV (li:=[(5,_)]) rfl (aJ rfl) ⟨bQ rfl,trivial⟩ (fun w hw=>bC (o':=2) cR rfl rfl) (aD rfl)) (dS 2 rfl rfl (by kernel_rfl) (rgV (li:=[(25,_)]) rfl (aJ rfl) ⟨aG 0 (aC rfl rfl rfl),trivial⟩ (fun w hw=>aY isAgg23 rfl ((aL hw 0).cell (Nat.zero_le _) (aE (hS.at_ 0 rfl) rfl))) (aD rfl)) (dS 3 rfl rfl (by kernel_rfl) (rgV (li:=[(1,_)]) rfl (aJ rfl) ⟨bQ rfl,trivial⟩ (fun w hw=>bC (o':=2) cR rfl rfl) (aD rfl)) (dS 4 rfl rfl (by kernel_rfl) (rgV (li:=[(27,_)]) rfl (aJ rfl) ⟨aG 2 (aC rfl rfl rfl),trivial⟩ (fun w hw=>aY isAgg23 rfl ((aL hw 0).cell (Nat.zero_le _) (aE (hS.at_ 2 rfl) rfl))) (aD rfl)) (dS 5 rfl rfl (by kernel_rfl) (rgV (li:=[(6,_)]) rfl (aJ rfl) ⟨bQ rfl,trivial⟩ (fun w hw=>aU rfl) (aD rfl)) ?_))))
   refine dS 6 rfl rfl (by kernel_rfl) (rgV (li:=[(28,_),(29,_)]) rfl (aJ rfl) ⟨aG 3 (aC rfl rfl rfl),aG 4 (aC rfl rfl rfl),trivial⟩ (fun w hw=>bF (j:=i) (b:=b5) (o:=o5) (m:=d.al) (c:=d.ac) underlying23 sizeOf4 (by show some (Value.slice _ _ _)=_;rw [hba]) rfl rfl (by omega) rfl) (aD rfl)) ?_
   refine dS 7 rfl rfl (by kernel_rfl) (rgV (li:=[(30,_)]) rfl (aJ rfl) ⟨aG 5 (aC rfl rfl rfl),trivial⟩ (fun w hw=>aY isAgg4 rfl ((aL hw 0).cell (Nat.zero_le _) (hyc))) (aD rfl)) (dS 8 rfl rfl (by kernel_rfl) (rgV (li:=[(31,_)]) rfl (aJ rfl) ⟨aG 6 (aC rfl rfl rfl),trivial⟩ (fun w hw=>uA rfl) (aD rfl)) (vS 9 rfl rfl (by kernel_rfl) (fC W.heap.size 1 4 _) (iY) (nK (us:=[.bool _]) rfl (aJ rfl) underlying23 sizeOf4 zeroValue4 rfl rfl ⟨dN (aG 7 (aC rfl rfl rfl)),trivial⟩ (nR _) (aD rfl)) (nM 10 rfl rfl (iP 11 rfl rfl (rgV (li:=[(5,_)]) rfl (aJ rfl) ⟨bQ rfl,trivial⟩ (fun w hw=>bC (o':=2) cR rfl rfl) (aD rfl)) (lgV (li:=[(5,_)]) rfl (aJ rfl) ⟨bQ rfl,trivial⟩ (fun w=>bC (o':=2) cR rfl rfl) (aD rfl) rfl) (nL ⟨_,_,aG 1 (aC rfl rfl rfl),aG 8 (aC rfl rfl rfl),hC rfl rfl,?_⟩)))))
   intro A6 v6 news6 W6 hbR hqA6 hS'
   clear hS;have hS:=hS';clear hS'
   cases hqA6
   refine aH (aH (aH (aH (aH (aH (aH (aH ?_)))))))
   refine eC ?_;intro _ _
   refine aH (aH ?_)
   obtain ⟨wa9,wc9,e9,_⟩:=bZ (hS.row 0 rfl)
   dsimp only at e9
   subst e9
   refine cG (bN (i:=0) (cs':=[_,_,_]) (O':=(_::_::_::Ot)) hS sizeOf23 rfl rfl rfl rfl rfl rfl rfl fun W7 hS=>aK (XF.blkN (XF.thenN (aP (aA rfl rfl (bT rfl rfl (IntWalk.i64_in _ (by omega)) rfl (aB rfl rfl (aK ?_))))))))
   have hS9:=hS.castG (G':=(⟨.slice wa9 (i+1) wc9,i+1,bvs ((d.bs.take (i+1)).map (!·)),4,1⟩::G)) (by rw [← tV hy];rfl)
   exact XF.round (d.nl - (i+1)) [(1,_),(2,_),(5,_),(6,_)] (by omega) ⟨rfl,rfl,rfl,rfl,trivial⟩ ⟨i+1,wa9,wc9,by omega,rfl,rfl,hS9.keep K (fun q hq=>by simp [hq])⟩
  ·have hc22:=of_decide_eq_false hc;clear hc
   have ein:i=d.nl:=by omega
   subst ein
   rw [List.take_of_length_le (by omega)] at hS
   obtain ⟨K1,k1,g1,hS1⟩:=(hS.keep K (fun q hq=>by simp [hq])).rowKeep
   clear hS;have hS:=hS1;clear hS1
   have hDn:dB w0 K1 (fun W=>DIn W (vM d wa wc)):=fun h9 hk9=>Bw (hD h9 (fun q hq=>hk9 q (k1 q (hKt q hq)))) hbl (nZ (g1 h9 hk9))
   refine cN (XF.thenX (XF.thenX (XF.blkX (XF.thenN (aI (aP (bV (vs:=[_,_,_]) isAgg25 sizeOf25 rfl (aX.own (j:=0) (m:=3) (hS.at_ 0 rfl) rfl) rfl (bX (vs:=[_]) xF rfl (qF (vM d wa wc) K1 _ _ K1 w0 _ (hS.keep K1 (fun q hq=>by simp [hq])) (fun q hq=>hq) hDn (negD_e he)) rfl ?_))))))))
   rintro e W9 ⟨d2,K2,hL,hn2,rfl,hk2,hD2,hS9⟩
   refine ⟨_,rfl,?_⟩
   clear hS;have hS:=hS9;clear hS9
   refine bW (i:=1) (vs:=[_,_,_]) (cs':=[_,_,_]) (O':=(_::_::_::Ot)) hS sizeOf25 rfl rfl rfl rfl rfl rfl rfl fun W8 hS=>aB rfl rfl (aK (XF.thenN (cH (XF.res (lJ (vs:=[_,_,_]) results14 isAgg25 sizeOf25 rfl (aX.own (j:=0) (m:=3) (hS.at_ 1 rfl) rfl) rfl) ?_))))
   exact ⟨d2,K2,⟨fun _=>⟨yH hL rfl ((Bv hO hbl).eqv hO.pos),hn2⟩,fun h=>absurd he h⟩,by rw [he],fun z hz=>hk2 z (k1 z hz),hD2,(hS.keep K2 (fun q hq=>by simp [hq])).tail.tail.tail⟩
theorem goes_36:cD prog 36=true:=by kernel_rfl
theorem goes_37:cD prog 37=true:=by kernel_rfl
theorem goes_38:cD prog 38=true:=by kernel_rfl
theorem nA {α:Type} {l m:List α} {n:Nat} (h:l.take n=m.take n) (h1:l.length≤n) (h2:m.length≤n):l=m:=by
 rwa [List.take_of_length_le h1,List.take_of_length_le h2] at h
theorem yJ (a b:Option Addr) (n m ca cb:Nat) (xs ys:List Int) (w:World) (hA:Row w a xs) (hB:Row w b ys) (hn:xs.length=n) (hm:ys.length=m) (hmx:n≤9223372036854775807) :
  Calls prog 37 #[.slice a n ca,.slice b m cb] w (fun e w'=>e = .returned (.bool (decide (xs=ys)))∧Below w.heap.size w w'):=by
 refine cL (args:=[.slice a n ca,.slice b m cb]) func37 rfl ntmps37 rfl ?_
 have hS:=St.start w
 refine aI (aP (aB rfl rfl (aK (XF.thenN (aI (aI (aP (aA rfl rfl (bM underlying36 rfl rfl (aA rfl rfl (bM underlying36 rfl rfl (eL rfl rfl rfl (aK (XF.thenN (bP rfl (fun hc=>?_) (fun hc=>?_))))))))))))))))
 ·have hc10:=of_decide_eq_true hc;clear hc
  refine aI (aP (aB rfl rfl (aK (XF.thenN (cH (XF.thenR (XF.res (cU results37 rfl) ?_)))))))
  exact ⟨by rw [decide_eq_false (fun h=>hc10 (by rw [← hn,← hm,h]))],hS.below⟩
 ·have hc10:=of_decide_eq_false hc;clear hc
  have hnm:n=m:=by have:=Decidable.of_not_not hc10;omega
  refine bS (XF.thenN (aI (aI (aP (aA rfl rfl (bM underlying36 rfl rfl (aA rfl rfl (aK (XF.thenN (bG (cO (fun m9 l W=>∃ i:Nat,i≤n∧m9=n - i∧l=[(0,.slice a n ca),(1,.slice b m cb),(11,.slice a n ca),(12,.int .i64 (n:Int)),(13,.int .i64 (i:Int))]∧xs.take i=ys.take i∧St w [] [] [] W) (n - 0) ([(0,_),(1,_),(11,_),(12,_),(13,_)]) ⟨rfl,rfl,rfl,rfl,rfl,trivial⟩ (⟨0,Nat.zero_le _,rfl,rfl,rfl,hS.clear⟩) ?_)))))))))))
  clear hS
  rintro m9 l W ⟨i,hi,rfl,rfl,hall,hS⟩
  refine aI (aP (cB rfl rfl rfl (aK (XF.thenN (aI (bP rfl (fun hc=>?_) (fun hc=>?_)))))))
  ·have hc14:=of_decide_eq_true hc;clear hc
   obtain ⟨b1,o1,y1,hea,hy1,hc1⟩:=hA.at1 (i:=i) (by omega)
   obtain ⟨b2,o2,y2,heb,hy2,hc2⟩:=hB.at1 (i:=i) (by omega)
   have k1:=hS.old hc1
   have k2:=hS.old hc2
   refine bS (XF.thenN (aI (bG (aI (aP (aA rfl rfl (aB rfl rfl (aK (XF.thenN (aI (iF (m:=9) bY hS (by kernel_rfl) (by kernel_rfl) rfl (bO 1 rfl 0 rfl rfl (fun w hw=>aU rfl) rfl (bO 2 rfl 5 rfl rfl (fun w hw=>aU rfl) rfl ?_)))))))))))))
   refine aT 3 rfl (isV _) (aO _) (rgV (li:=[(16,_),(17,_)]) rfl (aJ rfl) ⟨aG 0 (aC rfl rfl rfl),aG 1 (aC rfl rfl rfl),trivial⟩ (fun w hw=>bF (j:=i) (b:=b1) (o:=o1) (m:=n) (c:=ca) underlying36 sizeOf3 (by show some (Value.slice _ _ _)=_;rw [hea]) rfl rfl (by omega) rfl) (aD rfl)) ?_
   refine bE 4 rfl 18 2 rfl rfl rfl (fun w hw=>aY isAgg3 rfl ((aL hw 0).cell (Nat.zero_le _) (k1))) rfl (bO 5 rfl 1 rfl rfl (fun w hw=>aU rfl) rfl (bO 6 rfl 5 rfl rfl (fun w hw=>aU rfl) rfl ?_))
   refine aT 7 rfl (isV _) (aO _) (rgV (li:=[(20,_),(21,_)]) rfl (aJ rfl) ⟨aG 4 (aC rfl rfl rfl),aG 5 (aC rfl rfl rfl),trivial⟩ (fun w hw=>bF (j:=i) (b:=b2) (o:=o2) (m:=m) (c:=cb) underlying36 sizeOf3 (by show some (Value.slice _ _ _)=_;rw [heb]) rfl rfl (by omega) rfl) (aD rfl)) ?_
   refine bE 8 rfl 22 6 rfl rfl rfl (fun w hw=>aY isAgg3 rfl ((aL hw 0).cell (Nat.zero_le _) (k2))) rfl (aT 9 rfl (isV _) (aO _) (rgV (li:=[(19,_),(23,_)]) rfl (aJ rfl) ⟨aG 3 (aC rfl rfl rfl),aG 7 (aC rfl rfl rfl),trivial⟩ (fun w hw=>jM rfl rfl) (aD rfl)) (dJ ?_))
   intro W1 hbR hS'
   clear hS;have hS:=hS';clear hS'
   refine aH (aH (aH (aH (aH (aH (aH (aH (aH (cG (XF.thenN (bP rfl (fun hc=>?_) (fun hc=>?_))))))))))))
   ·have hc24:=hc;clear hc
    refine aI (aP (aB rfl rfl (aK (XF.thenN (cH (XF.blkR (XF.thenR (XF.thenR (XF.blkR (XF.thenR (XF.res (cU results37 rfl) ?_)))))))))))
    have hne:y1≠y2:=of_decide_eq_true hc24
    exact ⟨by rw [decide_eq_false (fun h=>hne (by rw [h,hy2] at hy1;exact (Option.some.inj hy1).symm))],hS.below⟩
   ·have hc24:=hc;clear hc
    refine bS (XF.blkN (XF.thenN (aP (bT rfl rfl (IntWalk.i64_in _ (by omega)) rfl (aA rfl rfl (aK ?_))))))
    have hye:y1=y2:=Decidable.of_not_not (of_decide_eq_false hc24)
    exact XF.round (n - (i+1)) [(0,_),(1,_),(11,_),(12,_),(13,_)] (by omega) ⟨rfl,rfl,rfl,rfl,rfl,trivial⟩ ⟨i+1,by omega,rfl,rfl,iW hall hy1 hy2 hye,hS.clear⟩
  ·have hc14:=of_decide_eq_false hc;clear hc
   refine cN (XF.thenX (XF.thenX (XF.blkX (XF.thenN (aI (aP (aB rfl rfl (aK (XF.thenN (cH (XF.res (cU results37 rfl) ?_)))))))))))
   exact ⟨by rw [decide_eq_true (nA hall (by omega) (by omega))],hS.below⟩
theorem vN (a b:Option Addr) (n m ca cb:Nat) (xs ys:List Bool) (w:World) (hA:eI w a xs) (hB:eI w b ys) (hn:xs.length=n) (hm:ys.length=m) (hmx:n≤9223372036854775807) :
  Calls prog 38 #[.slice a n ca,.slice b m cb] w (fun e w'=>e = .returned (.bool (decide (xs=ys)))∧Below w.heap.size w w'):=by
 refine cL (args:=[.slice a n ca,.slice b m cb]) func38 rfl ntmps38 rfl ?_
 have hS:=St.start w
 refine aI (aP (aB rfl rfl (aK (XF.thenN (aI (aI (aP (aA rfl rfl (bM underlying23 rfl rfl (aA rfl rfl (bM underlying23 rfl rfl (eL rfl rfl rfl (aK (XF.thenN (bP rfl (fun hc=>?_) (fun hc=>?_))))))))))))))))
 ·have hc10:=of_decide_eq_true hc;clear hc
  refine aI (aP (aB rfl rfl (aK (XF.thenN (cH (XF.thenR (XF.res (cU results38 rfl) ?_)))))))
  exact ⟨by rw [decide_eq_false (fun h=>hc10 (by rw [← hn,← hm,h]))],hS.below⟩
 ·have hc10:=of_decide_eq_false hc;clear hc
  have hnm:n=m:=by have:=Decidable.of_not_not hc10;omega
  refine bS (XF.thenN (aI (aI (aP (aA rfl rfl (bM underlying23 rfl rfl (aA rfl rfl (aK (XF.thenN (bG (cO (fun m9 l W=>∃ i:Nat,i≤n∧m9=n - i∧l=[(0,.slice a n ca),(1,.slice b m cb),(11,.slice a n ca),(12,.int .i64 (n:Int)),(13,.int .i64 (i:Int))]∧xs.take i=ys.take i∧St w [] [] [] W) (n - 0) ([(0,_),(1,_),(11,_),(12,_),(13,_)]) ⟨rfl,rfl,rfl,rfl,rfl,trivial⟩ (⟨0,Nat.zero_le _,rfl,rfl,rfl,hS.clear⟩) ?_)))))))))))
  clear hS
  rintro m9 l W ⟨i,hi,rfl,rfl,hall,hS⟩
  refine aI (aP (cB rfl rfl rfl (aK (XF.thenN (aI (bP rfl (fun hc=>?_) (fun hc=>?_)))))))
  ·have hc14:=of_decide_eq_true hc;clear hc
   obtain ⟨b1,o1,y1,hea,hy1,hc1⟩:=eI.at9 hA (i:=i) (by omega)
   obtain ⟨b2,o2,y2,heb,hy2,hc2⟩:=eI.at9 hB (i:=i) (by omega)
   have k1:=hS.old hc1
   have k2:=hS.old hc2
   refine bS (XF.thenN (aI (bG (aI (aP (aA rfl rfl (aB rfl rfl (aK (XF.thenN (aI (iF (m:=9) bY hS (by kernel_rfl) (by kernel_rfl) rfl (bO 1 rfl 0 rfl rfl (fun w hw=>aU rfl) rfl (bO 2 rfl 5 rfl rfl (fun w hw=>aU rfl) rfl ?_)))))))))))))
   refine aT 3 rfl (isV _) (aO _) (rgV (li:=[(16,_),(17,_)]) rfl (aJ rfl) ⟨aG 0 (aC rfl rfl rfl),aG 1 (aC rfl rfl rfl),trivial⟩ (fun w hw=>bF (j:=i) (b:=b1) (o:=o1) (m:=n) (c:=ca) underlying23 sizeOf4 (by show some (Value.slice _ _ _)=_;rw [hea]) rfl rfl (by omega) rfl) (aD rfl)) ?_
   refine bE 4 rfl 18 2 rfl rfl rfl (fun w hw=>aY isAgg4 rfl ((aL hw 0).cell (Nat.zero_le _) (k1))) rfl (bO 5 rfl 1 rfl rfl (fun w hw=>aU rfl) rfl (bO 6 rfl 5 rfl rfl (fun w hw=>aU rfl) rfl ?_))
   refine aT 7 rfl (isV _) (aO _) (rgV (li:=[(20,_),(21,_)]) rfl (aJ rfl) ⟨aG 4 (aC rfl rfl rfl),aG 5 (aC rfl rfl rfl),trivial⟩ (fun w hw=>bF (j:=i) (b:=b2) (o:=o2) (m:=m) (c:=cb) underlying23 sizeOf4 (by show some (Value.slice _ _ _)=_;rw [heb]) rfl rfl (by omega) rfl) (aD rfl)) ?_
   refine bE 8 rfl 22 6 rfl rfl rfl (fun w hw=>aY isAgg4 rfl ((aL hw 0).cell (Nat.zero_le _) (k2))) rfl (aT 9 rfl (isV _) (aO _) (rgV (li:=[(19,_),(23,_)]) rfl (aJ rfl) ⟨aG 3 (aC rfl rfl rfl),aG 7 (aC rfl rfl rfl),trivial⟩ (fun w hw=>qN underlying4 rfl rfl) (aD rfl)) (dJ ?_))
   intro W1 hbR hS'
   clear hS;have hS:=hS';clear hS'
   refine aH (aH (aH (aH (aH (aH (aH (aH (aH (cG (XF.thenN (bP rfl (fun hc=>?_) (fun hc=>?_))))))))))))
   ·have hc24:=hc;clear hc
    refine aI (aP (aB rfl rfl (aK (XF.thenN (cH (XF.blkR (XF.thenR (XF.thenR (XF.blkR (XF.thenR (XF.res (cU results38 rfl) ?_)))))))))))
    have hne:y1≠y2:=by simpa using hc24
    exact ⟨by rw [decide_eq_false (fun h=>hne (by rw [h,hy2] at hy1;exact (Option.some.inj hy1).symm))],hS.below⟩
   ·have hc24:=hc;clear hc
    refine bS (XF.blkN (XF.thenN (aP (bT rfl rfl (IntWalk.i64_in _ (by omega)) rfl (aA rfl rfl (aK ?_))))))
    have hye:y1=y2:=by simpa using hc24
    exact XF.round (n - (i+1)) [(0,_),(1,_),(11,_),(12,_),(13,_)] (by omega) ⟨rfl,rfl,rfl,rfl,rfl,trivial⟩ ⟨i+1,by omega,rfl,rfl,iW hall hy1 hy2 hye,hS.clear⟩
  ·have hc14:=of_decide_eq_false hc;clear hc
   refine cN (XF.thenX (XF.thenX (XF.blkX (XF.thenN (aI (aP (aB rfl rfl (aK (XF.thenN (cH (XF.res (cU results38 rfl) ?_)))))))))))
   exact ⟨by rw [decide_eq_true (nA hall (by omega) (by omega))],hS.below⟩
theorem yK (a b:Option Addr) (n m ca cb:Nat) (ns ms:List IV) (w:World) (hA:lV w a ns) (hB:lV w b ms) (hrA:∀ r∈ns,Row w r.a r.xs∧r.xs.length=r.l∧r.l≤9223372036854775807) (hrB:∀ r∈ms,Row w r.a r.xs∧r.xs.length=r.l) (hn:ns.length=n) (hm:ms.length=m) (hmx:n≤9223372036854775807) :
  Calls prog 36 #[.slice a n ca,.slice b m cb,.func (.func 37) #[] #[]] w (fun e w'=>e = .returned (.bool (decide (ns.map (·.xs)=ms.map (·.xs))))∧Below w.heap.size w w'):=by
 refine cL (args:=[.slice a n ca,.slice b m cb,.func (.func 37) #[] #[]]) func36 rfl ntmps36 rfl ?_
 have hS:=St.start w
 refine aI (aP (aB rfl rfl (aK (XF.thenN (aI (aI (aP (aA rfl rfl (bM underlying22 rfl rfl (aA rfl rfl (bM underlying22 rfl rfl (eL rfl rfl rfl (aK (XF.thenN (bP rfl (fun hc=>?_) (fun hc=>?_))))))))))))))))
 ·have hc14:=of_decide_eq_true hc;clear hc
  refine aI (aP (aB rfl rfl (aK (XF.thenN (cH (XF.thenR (XF.res (cU results36 rfl) ?_)))))))
  exact ⟨by rw [decide_eq_false (fun h=>hc14 (by have h9:=congrArg List.length h;rw [List.length_map,List.length_map] at h9;omega))],hS.below⟩
 ·have hc14:=of_decide_eq_false hc;clear hc
  have hnm:n=m:=by have:=Decidable.of_not_not hc14;omega
  refine bS (XF.thenN (aI (aI (aP (aA rfl rfl (bM underlying22 rfl rfl (aA rfl rfl (aK (XF.thenN (bG (cO (fun m9 l W=>∃ i:Nat,i≤n∧m9=n - i∧l=[(0,.slice a n ca),(1,.slice b m cb),(2,.func (.func 37) #[] #[]),(15,.slice a n ca),(16,.int .i64 (n:Int)),(17,.int .i64 (i:Int))]∧(ns.map (·.xs)).take i=(ms.map (·.xs)).take i∧St w [] [] [] W) (n - 0) ([(0,_),(1,_),(2,_),(15,_),(16,_),(17,_)]) ⟨rfl,rfl,rfl,rfl,rfl,rfl,trivial⟩ (⟨0,Nat.zero_le _,rfl,rfl,rfl,hS.clear⟩) ?_)))))))))))
  clear hS
  rintro m9 l W ⟨i,hi,rfl,rfl,hall,hS⟩
  refine aI (aP (cB rfl rfl rfl (aK (XF.thenN (aI (bP rfl (fun hc=>?_) (fun hc=>?_)))))))
  ·have hc18:=of_decide_eq_true hc;clear hc
   obtain ⟨r,hr⟩:∃ r,ns[i]?=some r:=⟨_,List.getElem?_eq_getElem (by omega)⟩
   obtain ⟨q,hq⟩:∃ q,ms[i]?=some q:=⟨_,List.getElem?_eq_getElem (by omega)⟩
   obtain ⟨b1,o1,hea,hc1⟩:=hA i r hr
   obtain ⟨b2,o2,heb,hc2⟩:=hB i q hq
   obtain ⟨hr1,hr2,hr3⟩:=hrA r (List.mem_of_getElem? hr)
   obtain ⟨hq1,hq2⟩:=hrB q (List.mem_of_getElem? hq)
   have k1:=hS.old hc1
   have k2:=hS.old hc2
   have z1:(ns.map (·.xs))[i]?=some r.xs:=by rw [List.getElem?_map,hr];rfl
   have z2:(ms.map (·.xs))[i]?=some q.xs:=by rw [List.getElem?_map,hq];rfl
   refine bS (XF.thenN (aI (bG (aI (aP (aA rfl rfl ?_))))))
   refine aW (j:=i) (b:=b1) (o:=o1) (m:=n) (c:=ca) underlying22 sizeOf36 (by show some (Value.slice _ _ _)=_;rw [hea]) rfl rfl (by omega) rfl rfl ?_
   refine aR isAgg36 rfl (k1) rfl (aB rfl rfl (aB rfl rfl (aK (XF.thenN (aI (aP (aA rfl rfl (aA rfl rfl ?_))))))))
   refine aW (j:=i) (b:=b2) (o:=o2) (m:=m) (c:=cb) underlying22 sizeOf36 (by show some (Value.slice _ _ _)=_;rw [heb]) rfl rfl (by omega) rfl rfl ?_
   refine aR isAgg36 rfl (k2) rfl (aB rfl rfl (aK (XF.thenN (aI (aP (aA rfl rfl (aA rfl rfl (aA rfl rfl (zC (vs:=[_,_]) hS rfl goes_37 rfl (yJ r.a q.a r.l q.l r.c q.c r.xs q.xs _ (hr1.below hS.below) (hq1.below hS.below) hr2 hq2 hr3) rfl ?_)))))))))
   rintro e W1 ⟨rfl,hb⟩
   refine ⟨_,rfl,hb,fun hS'=>?_⟩
   clear hS;have hS:=hS';clear hS' hb
   refine kT rfl rfl (aK (XF.thenN (bP rfl (fun hc=>?_) (fun hc=>?_))))
   ·have hc30:=hc;clear hc
    refine aI (aP (aB rfl rfl (aK (XF.thenN (cH (XF.blkR (XF.thenR (XF.thenR (XF.blkR (XF.thenR (XF.res (cU results36 rfl) ?_)))))))))))
    have hne:r.xs≠q.xs:=by simpa using hc30
    exact ⟨by rw [decide_eq_false (fun h=>hne (by rw [h,z2] at z1;exact (Option.some.inj z1).symm))],hS.below⟩
   ·have hc30:=hc;clear hc
    refine bS (XF.blkN (XF.thenN (aP (bT rfl rfl (IntWalk.i64_in _ (by omega)) rfl (aA rfl rfl (aK ?_))))))
    have hye:r.xs=q.xs:=by simpa using hc30
    exact XF.round (n - (i+1)) [(0,_),(1,_),(2,_),(15,_),(16,_),(17,_)] (by omega) ⟨rfl,rfl,rfl,rfl,rfl,rfl,trivial⟩ ⟨i+1,by omega,rfl,rfl,iW hall z1 z2 hye,hS.clear⟩
  ·have hc18:=of_decide_eq_false hc;clear hc
   refine cN (XF.thenX (XF.thenX (XF.blkX (XF.thenN (aI (aP (aB rfl rfl (aK (XF.thenN (cH (XF.res (cU results36 rfl) ?_)))))))))))
   exact ⟨by rw [decide_eq_true (nA hall (by rw [List.length_map];omega) (by rw [List.length_map];omega))],hS.below⟩
theorem qG (d e:DV) (w:World) (hd:DIn w d) (he:DIn w e) :
  Calls prog 18 #[d.val,e.val] w (fun e9 w'=>e9 = .returned (.bool (iK d e))∧Below w.heap.size w w'):=by
 refine cL (args:=[d.val,e.val]) func18 rfl ntmps18 rfl ?_
 have hS:=St.start w
 refine aI (aP (cV (cs:=[_,_,_]) hS rfl rfl rfl fun B1 W1 hS=>cV (cs:=[_,_,_]) hS rfl rfl rfl fun B2 W2 hS=>aB rfl rfl (aK (XF.thenN (aI (aP (aV (o':=0) dL rfl rfl rfl (aR isAgg3 rfl (aE (hS.at_ 1 rfl) rfl) rfl (aV (o':=0) dL rfl rfl rfl (aR isAgg3 rfl (aE (hS.at_ 0 rfl) rfl) rfl (fF rfl rfl rfl (aA rfl rfl (cI (d:=10) rfl (fun hc=>?_) (fun hc=>?_))))))))))))))
 ·have hg10:=of_decide_eq_true hc;clear hc
  refine aN (d:=10) rfl rfl (aV (o':=1) cJ rfl rfl rfl (aN (d:=10) rfl rfl (aR isAgg22 rfl (aE (hS.at_ 1 rfl) rfl) rfl (aN (d:=10) rfl rfl (aV (o':=1) cJ rfl rfl rfl (aN (d:=10) rfl rfl (aR isAgg22 rfl (aE (hS.at_ 0 rfl) rfl) rfl (aN (d:=10) rfl rfl (gE (vs:=[_,_,_]) hS goes_36 rfl (yK d.na e.na d.nl e.nl d.nc e.nc d.ns e.ns _ (hd.below hS.below).nrow (he.below hS.below).nrow (fun r hr=>(hd.below hS.below).rin r hr) (fun r hr=>⟨((he.below hS.below).rin r hr).1,(he.rin r hr).2.1⟩) hd.nlen he.nlen hd.nmax) rfl fun W3 hS=>bL rfl rfl rfl (aA rfl rfl (cI (d:=17) rfl (fun hc=>?_) (fun hc=>?_))))))))))))
  ·have hg17:=hc;clear hc
   refine aN (d:=17) rfl rfl (aV (o':=2) cR rfl rfl rfl (aN (d:=17) rfl rfl (aR isAgg23 rfl (aE (hS.at_ 1 rfl) rfl) rfl (aN (d:=17) rfl rfl (aV (o':=2) cR rfl rfl rfl (aN (d:=17) rfl rfl (aR isAgg23 rfl (aE (hS.at_ 0 rfl) rfl) rfl (aN (d:=17) rfl rfl (gE (vs:=[_,_]) hS goes_38 rfl (vN d.aa e.aa d.al e.al d.ac e.ac d.bs e.bs _ (hd.below hS.below).arow (he.below hS.below).arow hd.alen he.alen hd.amax) rfl fun W4 hS=>bL rfl rfl rfl (aB rfl rfl (aK (XF.thenN (cH (XF.res (cU results18 rfl) ?_))))))))))))))
   have hne:d.ns.map (·.xs)=e.ns.map (·.xs):=of_decide_eq_true hg17
   have hln:d.nl=e.nl:=by have h9:=congrArg List.length hne;rw [List.length_map,List.length_map,hd.nlen,he.nlen] at h9;exact h9
   exact ⟨congrArg Ending.returned (congrArg Value.bool (decide_eq_decide.2 ⟨fun h=>⟨by omega,hln,by have h9:=congrArg List.length h;rw [hd.alen,he.alen] at h9;exact h9,h,hne⟩,fun h=>h.2.2.2.1⟩)),hS.below⟩
  ·have hg17:=hc;clear hc
   refine aQ (d:=17) rfl rfl rfl rfl (aQ (d:=17) rfl rfl rfl rfl (aQ (d:=17) rfl rfl rfl rfl (aQ (d:=17) rfl rfl rfl rfl (aQ (d:=17) rfl rfl rfl rfl (cW rfl rfl rfl (aB rfl rfl (aK (XF.thenN (cH (XF.res (cU results18 rfl) ?_))))))))))
   have hne:d.ns.map (·.xs)≠e.ns.map (·.xs):=of_decide_eq_false hg17
   exact ⟨by rw [fO (fun h=>hne h.2.2.2.2)],hS.below⟩
 ·have hg10:=of_decide_eq_false hc;clear hc
  refine aQ (d:=10) rfl rfl rfl rfl (aQ (d:=10) rfl rfl rfl rfl (aQ (d:=10) rfl rfl rfl rfl (aQ (d:=10) rfl rfl rfl rfl (aQ (d:=10) rfl rfl rfl rfl (cW rfl rfl rfl (aA rfl rfl (aQ (d:=17) rfl rfl rfl rfl (aQ (d:=17) rfl rfl rfl rfl (aQ (d:=17) rfl rfl rfl rfl (aQ (d:=17) rfl rfl rfl rfl (aQ (d:=17) rfl rfl rfl rfl (cW rfl rfl rfl (aB rfl rfl (aK (XF.thenN (cH (XF.res (cU results18 rfl) ?_)))))))))))))))))
  exact ⟨by rw [fO (fun h=>hg10 h.1)],hS.below⟩
abbrev Z3t:List Value:=[.int .i64 0,.slice none 0 0,.slice none 0 0]
def mkN (i:Nat) (s:Mks):Prop:=∀ ON,(i,ON)∉s
def mkO (i:Nat) (X:Own) (s:Mks):Prop:=∀ ON,(i,ON)∈s↔ON=X
def mkA (i:Nat) (X:Own) (s:Mks):Prop:=∀ ON,(i,ON)∈s→ON=X
section
variable {i j:Nat} {X N:Own} {s:Mks}
end
structure QF (da db:DV) (g:Bool→Bool→Bool) (q:TB):Prop where
 ok:TOk q
 k:(q.k:Int)=da.sy
 n:q.n≤da.nl * db.nl
 ord:q.fa.Ord
 red:q.fa.Red
 eqv:Eqv q.fa 0 (cT (dFA da) (dFA db) g) 0
def T1 (w0:World) (O:Own) (G:bI) (K:List (Nat×World)) (OA:Own) (s:Mks) (w:World):Prop:=mkN 2 s∧mkN 7 s∧mkN 8 s∧mkN 9 s∧mkN 10 s∧mkN 12 s∧St w0 (OA++O) G K w
def T4 (w0:World) (O:Own) (G:bI) (K:List (Nat×World)) (da db:DV) (g:Bool→Bool→Bool) (s:Mks) (w:World):Prop:=∃ (q:TB) (K2:List (Nat×World)) (B:Nat) (ON2 ON5 ON7 ON8 ON9 ON12:Own),(2,ON2)∈s∧(5,ON5)∈s∧(7,ON7)∈s∧(8,ON8)∈s∧(9,ON9)∈s∧(12,ON12)∈s∧mkO 11 [(B,Z3t,61)] s∧mkA 8 [(0,[.tuple #[q.val,.bool true]],0)] s∧mkA 10 [(0,[.bool true],0)] s∧QF da db g q∧(∀ q∈K,q∈K2)∧dB w0 K2 (TAt q)∧St w0 ((B,q.cells,61)::O) G K2 w
section
variable {w0 w:World} {O:Own} {G:bI} {K:List (Nat×World)} {da db:DV} {g:Bool→Bool→Bool} {s:Mks}
end
theorem eqv_rfl {A:FA}:Eqv A 0 A 0:=fun _ _=>rfl
theorem goes_12:cD prog 12=true:=by kernel_rfl
theorem goes_14:cD prog 14=true:=by kernel_rfl
theorem xG:cD prog 18=true:=by kernel_rfl
theorem xH {d a b:DV} {A:FA} (h:LX d a A) (h':LX d b A):iK a b=true:=by
 by_cases he:cQ d=0
 ·exact Bd (h.ok he).1 (h'.ok he).1 rfl eqv_rfl
 ·rw [h.bad he,h'.bad he];exact decide_eq_true ⟨rfl,rfl,rfl,rfl,rfl⟩
theorem tW {d:DV}:iK d d=true:=decide_eq_true ⟨rfl,rfl,rfl,rfl,rfl⟩
theorem pM (da db:DV) (w:World) (hDa:DIn w da) (hDb:DIn w db) :
  Calls prog 3 #[da.val,db.val] w (fun e w'=>e = .returned (.bool true)∧Below w.heap.size w w'):=by
 refine cL (args:=[da.val,db.val]) func3 rfl ntmps3 rfl ?_
 have hS:=St.start w
 refine aI (aP (cV (cs:=[_,_,_]) hS rfl rfl rfl fun B1 W1 hS=>cV (cs:=[_,_,_]) hS rfl rfl rfl fun B2 W2 hS=>aB rfl rfl (aK (XF.thenN (aI (aI (aP (bV (vs:=[_,_,_]) isAgg25 sizeOf25 rfl (aX.own (j:=0) (m:=3) (hS.at_ 1 rfl) rfl) rfl (gE (vs:=[_]) hS Bo rfl (qA da _ (hDa.below hS.below)) rfl fun W3 hS=>kT rfl rfl (aA rfl rfl (cI (d:=16) rfl (fun hc=>?_) (fun hc=>?_))))))))))))
 ·have hg16:=hc;clear hc
  refine aQ (d:=16) rfl rfl rfl rfl (aQ (d:=16) rfl rfl rfl rfl (aQ (d:=16) rfl rfl rfl rfl (bL rfl rfl rfl (aK (XF.thenN (fL rfl (aI (aP (gE (vs:=[]) hS sF rfl (mZ _) rfl fun W4 hS=>aB rfl rfl (aK (XF.thenN (cH (XF.thenR (XF.res (cU results3 rfl) ?_))))))))))))))
  exact ⟨rfl,hS.below⟩
 ·have hg16:=hc;clear hc
  refine aN (d:=16) rfl rfl (bV (vs:=[_,_,_]) isAgg25 sizeOf25 rfl (aX.own (j:=0) (m:=3) (hS.at_ 0 rfl) rfl) rfl (aN (d:=16) rfl rfl (gE (vs:=[_]) hS Bo rfl (qA db _ (hDb.below hS.below)) rfl fun W5 hS=>aN (d:=16) rfl rfl (kT rfl rfl (cW rfl rfl rfl (aK (XF.thenN (bP rfl (fun hc=>?_) (fun hc=>?_)))))))))
  ·have hc20:=hc;clear hc
   refine aI (aP (gE (vs:=[]) hS sF rfl (mZ _) rfl fun W6 hS=>aB rfl rfl (aK (XF.thenN (cH (XF.thenR (XF.res (cU results3 rfl) ?_)))))))
   exact ⟨rfl,hS.below⟩
  ·have hc20:=hc;clear hc
   refine bS (XF.thenN (aI (aP (bV (vs:=[_,_,_]) isAgg25 sizeOf25 rfl (aX.own (j:=0) (m:=3) (hS.at_ 1 rfl) rfl) rfl (bX (vs:=[_]) nX rfl (qE da [] _ _ _ w _ hS (fun q hq=>by cases hq) (mF hDa)) rfl ?_)))))
   rintro e W9 ⟨d1,K1,hd1,rfl,hK1,hDd1,hS9⟩
   refine ⟨_,rfl,?_⟩
   clear hS;have hS:=hS9;clear hS9
   refine aA rfl rfl (cA rfl rfl rfl (cA rfl rfl rfl (cE (cs:=[_,_,_]) hS zeroValue25 rfl rfl fun B7 W7 hS=>bW (i:=0) (vs:=[_,_,_]) (cs':=[_,_,_]) (O':=[_,_,_]) hS sizeOf25 rfl rfl rfl rfl rfl rfl rfl fun W8 hS=>aB rfl rfl (aK (XF.thenN (aI (aP (bV (vs:=[_,_,_]) isAgg25 sizeOf25 rfl (aX.own (j:=0) (m:=3) (hS.at_ 2 rfl) rfl) rfl (bX (vs:=[_]) goes_12 rfl (yI da [] _ _ K1 w _ (hS.keep K1 (fun q hq=>by simp [hq])) (fun q hq=>by cases hq) (mF hDa)) rfl ?_)))))))))
   rintro e W9 ⟨d2,K2,hd2,rfl,hK2,hDd2,hS9⟩
   refine ⟨_,rfl,?_⟩
   clear hS;have hS:=hS9;clear hS9
   refine aA rfl rfl (cA rfl rfl rfl (cA rfl rfl rfl (cE (cs:=[_,_,_]) hS zeroValue25 rfl rfl fun B9 W9 hS=>bW (i:=0) (vs:=[_,_,_]) (cs':=[_,_,_]) (O':=[_,_,_,_]) hS sizeOf25 rfl rfl rfl rfl rfl rfl rfl fun W10 hS=>aB rfl rfl (aK (XF.thenN (aI (aP (bV (vs:=[_,_,_]) isAgg25 sizeOf25 rfl (aX.own (j:=0) (m:=3) (hS.at_ 3 rfl) rfl) rfl (bX (vs:=[_]) goes_13 rfl (notX_is da [] _ _ K2 w _ (hS.keep K2 (fun q hq=>by simp [hq])) (fun q hq=>by cases hq) (mF hDa)) rfl ?_)))))))))
   rintro e W9 ⟨d3,K3,hd3,rfl,hK3,hDd3,hS9⟩
   refine ⟨_,rfl,?_⟩
   clear hS;have hS:=hS9;clear hS9
   refine aA rfl rfl (cA rfl rfl rfl (cA rfl rfl rfl (cE (cs:=[_,_,_]) hS zeroValue25 rfl rfl fun B11 W11 hS=>bW (i:=0) (vs:=[_,_,_]) (cs':=[_,_,_]) (O':=[_,_,_,_,_]) hS sizeOf25 rfl rfl rfl rfl rfl rfl rfl fun W12 hS=>aB rfl rfl (aK (XF.thenN (aI (aP (bV (vs:=[_,_,_]) isAgg25 sizeOf25 rfl (aX.own (j:=0) (m:=3) (hS.at_ 4 rfl) rfl) rfl (bX (vs:=[_]) goes_14 rfl (rNot_is da [] _ _ K3 w _ (hS.keep K3 (fun q hq=>by simp [hq])) (fun q hq=>by cases hq) (mF hDa)) rfl ?_)))))))))
   rintro e W9 ⟨d4,K4,hd4,rfl,hK4,hDd4,hS9⟩
   refine ⟨_,rfl,?_⟩
   clear hS;have hS:=hS9;clear hS9
   refine aA rfl rfl (cA rfl rfl rfl (cA rfl rfl rfl (cE (cs:=[_,_,_]) hS zeroValue25 rfl rfl fun B13 W13 hS=>bW (i:=0) (vs:=[_,_,_]) (cs':=[_,_,_]) (O':=[_,_,_,_,_,_]) hS sizeOf25 rfl rfl rfl rfl rfl rfl rfl fun W14 hS=>aB rfl rfl (aK (XF.thenN (aI ?_))))))
   have hs1:=xH hd1 hd2
   have hs2:=xH hd3 hd4
   have hS7:=hS.keep K4 (fun q hq=>by simp [hq])
   have q1:=hDd1 hS7 (fun q hq=>hK4 q (hK3 q (hK2 q hq)))
   have q2:=hDd2 hS7 (fun q hq=>hK4 q (hK3 q hq))
   have q3:=hDd3 hS7 (fun q hq=>hK4 q hq)
   have q4:=hDd4 hS7 (fun q hq=>hq)
   have qa:=hDa.below hS.below
   have qb:=hDb.below hS.below
   refine iF (m:=43) bY hS (by kernel_rfl) (by kernel_rfl) rfl (bO 1 rfl 2 rfl rfl (fun w hw=>cX (vs:=[_,_,_]) isAgg25 sizeOf25 rfl (aX.agree (aL hw 0) (Nat.zero_le _) (aX.own (j:=0) (m:=3) (hS.at_ 5 rfl) rfl))) rfl ?_)
   refine aT 2 rfl (isV (.int .i64 (cQ da))) (aO _) (fD [isV _] rfl mD (aJ rfl) ⟨dN (aG 0 (aC rfl rfl rfl)),trivial⟩ (fun vs w' hb hh=>by have e:=dG (us:=[_]) hh;subst e;exact (lW da w' (qa.below hb)).mono fun e w2 ⟨h1,h2⟩=>⟨_,h1,rfl,h2⟩) (aD rfl)) ?_
   refine bO 3 rfl 2 rfl rfl (fun w hw=>cX (vs:=[_,_,_]) isAgg25 sizeOf25 rfl (aX.agree (aL hw 0) (Nat.zero_le _) (aX.own (j:=0) (m:=3) (hS.at_ 5 rfl) rfl))) rfl ?_
   refine aT 4 rfl (isV (.int .i64 (cQ da))) (aO _) (fD [isV _] rfl rT (aJ rfl) ⟨dN (aG 2 (aC rfl rfl rfl)),trivial⟩ (fun vs w' hb hh=>by have e:=dG (us:=[_]) hh;subst e;exact (rH da w' (qa.below hb)).mono fun e w2 ⟨h1,h2⟩=>⟨_,h1,rfl,h2⟩) (aD rfl)) ?_
   refine aT 5 rfl (isV (.bool true)) (aO _) (nH (li:=[(43,_),(45,_)]) rfl (aJ rfl) ⟨aG 1 (aC rfl rfl rfl),aG 3 (aC rfl rfl rfl),trivial⟩ (fun w hw=>qM rfl rfl) (by rw [decide_eq_true rfl]) (aD rfl)) (bE 6 rfl 46 4 rfl rfl rfl (fun w hw=>aU rfl) rfl (aT 7 rfl (isV _) (aO _) (rgV (li:=[(5,_)]) rfl (cK 47 rfl (aC rfl rfl rfl)) ⟨bQ rfl,trivial⟩ (fun w hw=>cX (vs:=[_,_,_]) isAgg25 sizeOf25 rfl (aX.agree (aL hw 0) (Nat.zero_le _) (aX.own (j:=0) (m:=3) (hS.at_ 3 rfl) rfl))) (aD rfl)) (aT 8 rfl (isV _) (aO _) (rgV (li:=[(7,_)]) rfl (cK 47 rfl (aC rfl rfl rfl)) ⟨bQ rfl,trivial⟩ (fun w hw=>cX (vs:=[_,_,_]) isAgg25 sizeOf25 rfl (aX.agree (aL hw 0) (Nat.zero_le _) (aX.own (j:=0) (m:=3) (hS.at_ 2 rfl) rfl))) (aD rfl)) ?_)))
   refine aT 9 rfl (isV (.bool true)) (aO _) (fD [isV _,isV _] rfl sG (cK 47 rfl (aC rfl rfl rfl)) ⟨dN (aG 6 (aC rfl rfl rfl)),dN (aG 7 (aC rfl rfl rfl)),trivial⟩ (fun vs w' hb hh=>by have e:=dG (us:=[_,_]) hh;subst e;exact (mU d1 d2 w' (q1.below hb) (q2.below hb)).mono fun e w2 ⟨h1,h2⟩=>⟨_,h1.trans (by rw [hs1]),rfl,h2⟩) (aD rfl)) ?_
   refine aT 10 rfl (isV _) (aO _) (rgV (li:=[(47,_),(50,_)]) rfl (aJ rfl) ⟨aG 5 (aC rfl rfl rfl),aG 8 (aC rfl rfl rfl),trivial⟩ (fun w hw=>fB rfl rfl) (aD rfl)) (bE 11 rfl 51 9 rfl rfl rfl (fun w hw=>aU rfl) rfl (aT 12 rfl (isV _) (aO _) (rgV (li:=[(6,_)]) rfl (cK 52 rfl (aC rfl rfl rfl)) ⟨bQ rfl,trivial⟩ (fun w hw=>aU rfl) (aD rfl)) (aT 13 rfl (isV _) (aO _) (rgV (li:=[(8,_)]) rfl (cK 52 rfl (aC rfl rfl rfl)) ⟨bQ rfl,trivial⟩ (fun w hw=>aU rfl) (aD rfl)) (aT 14 rfl (isV (.bool true)) (aO _) (nH (li:=[(53,_),(54,_)]) rfl (cK 52 rfl (aC rfl rfl rfl)) ⟨aG 11 (aC rfl rfl rfl),aG 12 (aC rfl rfl rfl),trivial⟩ (fun w hw=>qM rfl rfl) (by rw [decide_eq_true rfl]) (aD rfl)) (aT 15 rfl (isV _) (aO _) (rgV (li:=[(52,_),(55,_)]) rfl (aJ rfl) ⟨aG 10 (aC rfl rfl rfl),aG 13 (aC rfl rfl rfl),trivial⟩ (fun w hw=>fB rfl rfl) (aD rfl)) (bE 16 rfl 56 14 rfl rfl rfl (fun w hw=>aU rfl) rfl (aT 17 rfl (isV _) (aO _) (rgV (li:=[(9,_)]) rfl (cK 57 rfl (aC rfl rfl rfl)) ⟨bQ rfl,trivial⟩ (fun w hw=>cX (vs:=[_,_,_]) isAgg25 sizeOf25 rfl (aX.agree (aL hw 0) (Nat.zero_le _) (aX.own (j:=0) (m:=3) (hS.at_ 1 rfl) rfl))) (aD rfl)) (aT 18 rfl (isV _) (aO _) (rgV (li:=[(11,_)]) rfl (cK 57 rfl (aC rfl rfl rfl)) ⟨bQ rfl,trivial⟩ (fun w hw=>cX (vs:=[_,_,_]) isAgg25 sizeOf25 rfl (aX.agree (aL hw 0) (Nat.zero_le _) (aX.own (j:=0) (m:=3) (hS.at_ 0 rfl) rfl))) (aD rfl)) ?_))))))))
   refine aT 19 rfl (isV (.bool true)) (aO _) (fD [isV _,isV _] rfl sG (cK 57 rfl (aC rfl rfl rfl)) ⟨dN (aG 16 (aC rfl rfl rfl)),dN (aG 17 (aC rfl rfl rfl)),trivial⟩ (fun vs w' hb hh=>by have e:=dG (us:=[_,_]) hh;subst e;exact (mU d3 d4 w' (q3.below hb) (q4.below hb)).mono fun e w2 ⟨h1,h2⟩=>⟨_,h1.trans (by rw [hs2]),rfl,h2⟩) (aD rfl)) ?_
   refine aT 20 rfl (isV _) (aO _) (rgV (li:=[(57,_),(60,_)]) rfl (aJ rfl) ⟨aG 15 (aC rfl rfl rfl),aG 18 (aC rfl rfl rfl),trivial⟩ (fun w hw=>fB rfl rfl) (aD rfl)) (bE 21 rfl 61 19 rfl rfl rfl (fun w hw=>aU rfl) rfl (aT 22 rfl (isV _) (aO _) (rgV (li:=[(10,_)]) rfl (cK 62 rfl (aC rfl rfl rfl)) ⟨bQ rfl,trivial⟩ (fun w hw=>aU rfl) (aD rfl)) (aT 23 rfl (isV _) (aO _) (rgV (li:=[(12,_)]) rfl (cK 62 rfl (aC rfl rfl rfl)) ⟨bQ rfl,trivial⟩ (fun w hw=>aU rfl) (aD rfl)) (aT 24 rfl (isV (.bool true)) (aO _) (nH (li:=[(63,_),(64,_)]) rfl (cK 62 rfl (aC rfl rfl rfl)) ⟨aG 21 (aC rfl rfl rfl),aG 22 (aC rfl rfl rfl),trivial⟩ (fun w hw=>qM rfl rfl) (by rw [decide_eq_true rfl]) (aD rfl)) (aT 25 rfl (isV _) (aO _) (rgV (li:=[(62,_),(65,_)]) rfl (aJ rfl) ⟨aG 20 (aC rfl rfl rfl),aG 23 (aC rfl rfl rfl),trivial⟩ (fun w hw=>fB rfl rfl) (aD rfl)) (bE 26 rfl 66 24 rfl rfl rfl (fun w hw=>aU rfl) rfl (aT 27 rfl (isV _) (aO _) (rgV (li:=[(2,_)]) rfl (cK 67 rfl (aC rfl rfl rfl)) ⟨bQ rfl,trivial⟩ (fun w hw=>cX (vs:=[_,_,_]) isAgg25 sizeOf25 rfl (aX.agree (aL hw 0) (Nat.zero_le _) (aX.own (j:=0) (m:=3) (hS.at_ 5 rfl) rfl))) (aD rfl)) (aT 28 rfl (isV _) (aO _) (rgV (li:=[(3,_)]) rfl (cK 67 rfl (aC rfl rfl rfl)) ⟨bQ rfl,trivial⟩ (fun w hw=>cX (vs:=[_,_,_]) isAgg25 sizeOf25 rfl (aX.agree (aL hw 0) (Nat.zero_le _) (aX.own (j:=0) (m:=3) (hS.at_ 4 rfl) rfl))) (aD rfl)) ?_))))))))
   refine aT 29 rfl (isV (.bool (iK da db))) (aO _) (fD [isV _,isV _] rfl xG (cK 67 rfl (aC rfl rfl rfl)) ⟨dN (aG 26 (aC rfl rfl rfl)),dN (aG 27 (aC rfl rfl rfl)),trivial⟩ (fun vs w' hb hh=>by have e:=dG (us:=[_,_]) hh;subst e;exact (qG da db w' (qa.below hb) (qb.below hb)).mono fun e w2 ⟨h1,h2⟩=>⟨_,h1,rfl,h2⟩) (aD rfl)) ?_
   refine aT 30 rfl (isV _) (aO _) (rgV (li:=[(2,_)]) rfl (cK 67 rfl (aC rfl rfl rfl)) ⟨bQ rfl,trivial⟩ (fun w hw=>cX (vs:=[_,_,_]) isAgg25 sizeOf25 rfl (aX.agree (aL hw 0) (Nat.zero_le _) (aX.own (j:=0) (m:=3) (hS.at_ 5 rfl) rfl))) (aD rfl)) (aT 31 rfl (isV _) (aO _) (rgV (li:=[(3,_)]) rfl (cK 67 rfl (aC rfl rfl rfl)) ⟨bQ rfl,trivial⟩ (fun w hw=>cX (vs:=[_,_,_]) isAgg25 sizeOf25 rfl (aX.agree (aL hw 0) (Nat.zero_le _) (aX.own (j:=0) (m:=3) (hS.at_ 4 rfl) rfl))) (aD rfl)) ?_)
   refine aT 32 rfl (isV (.bool (iK da db))) (aO _) (fD [isV _,isV _] rfl sG (cK 67 rfl (aC rfl rfl rfl)) ⟨dN (aG 29 (aC rfl rfl rfl)),dN (aG 30 (aC rfl rfl rfl)),trivial⟩ (fun vs w' hb hh=>by have e:=dG (us:=[_,_]) hh;subst e;exact (mU da db w' (qa.below hb) (qb.below hb)).mono fun e w2 ⟨h1,h2⟩=>⟨_,h1,rfl,h2⟩) (aD rfl)) ?_
   refine aT 33 rfl (isV (.bool true)) (aO _) (nH (li:=[(70,_),(73,_)]) rfl (cK 67 rfl (aC rfl rfl rfl)) ⟨aG 28 (aC rfl rfl rfl),aG 31 (aC rfl rfl rfl),trivial⟩ (fun w hw=>rn_eqlB underlying4 rfl rfl) (by simp) (aD rfl)) (aT 34 rfl (isV _) (aO _) (rgV (li:=[(67,_),(74,_)]) rfl (aJ rfl) ⟨aG 25 (aC rfl rfl rfl),aG 32 (aC rfl rfl rfl),trivial⟩ (fun w hw=>fB rfl rfl) (aD rfl)) (bE 35 rfl 75 33 rfl rfl rfl (fun w hw=>aU rfl) rfl (aT 36 rfl (isV _) (aO _) (rgV (li:=[(2,_)]) rfl (cK 76 rfl (aC rfl rfl rfl)) ⟨bQ rfl,trivial⟩ (fun w hw=>cX (vs:=[_,_,_]) isAgg25 sizeOf25 rfl (aX.agree (aL hw 0) (Nat.zero_le _) (aX.own (j:=0) (m:=3) (hS.at_ 5 rfl) rfl))) (aD rfl)) (aT 37 rfl (isV _) (aO _) (rgV (li:=[(2,_)]) rfl (cK 76 rfl (aC rfl rfl rfl)) ⟨bQ rfl,trivial⟩ (fun w hw=>cX (vs:=[_,_,_]) isAgg25 sizeOf25 rfl (aX.agree (aL hw 0) (Nat.zero_le _) (aX.own (j:=0) (m:=3) (hS.at_ 5 rfl) rfl))) (aD rfl)) ?_))))
   refine aT 38 rfl (isV (.bool true)) (aO _) (fD [isV _,isV _] rfl xG (cK 76 rfl (aC rfl rfl rfl)) ⟨dN (aG 35 (aC rfl rfl rfl)),dN (aG 36 (aC rfl rfl rfl)),trivial⟩ (fun vs w' hb hh=>by have e:=dG (us:=[_,_]) hh;subst e;exact (qG da da w' (qa.below hb) (qa.below hb)).mono fun e w2 ⟨h1,h2⟩=>⟨_,h1.trans (by rw [tW]),rfl,h2⟩) (aD rfl)) ?_
   refine aT 39 rfl (isV _) (aO _) (rgV (li:=[(76,_),(79,_)]) rfl (aJ rfl) ⟨aG 34 (aC rfl rfl rfl),aG 37 (aC rfl rfl rfl),trivial⟩ (fun w hw=>fB rfl rfl) (aD rfl)) (bE 40 rfl 80 38 rfl rfl rfl (fun w hw=>aU rfl) rfl ?_)
   refine aT 41 rfl (isV (.bool true)) (aO _) (fD [] rfl sF (cK 81 rfl (aC rfl rfl rfl)) trivial (fun vs w' hb hh=>by have e:vs=[]:=(by cases vs with | nil=>rfl | cons _ _=>exact hh.elim);subst e;exact (mZ w').mono fun e w2 ⟨h1,h2⟩=>⟨_,h1,rfl,h2⟩) (aD rfl)) ?_
   refine aT 42 rfl (isV _) (aO _) (rgV (li:=[(81,_),(82,_)]) rfl (aJ rfl) ⟨aG 39 (aC rfl rfl rfl),aG 40 (aC rfl rfl rfl),trivial⟩ (fun w hw=>fB rfl rfl) (aD rfl)) (bE 43 rfl 83 41 rfl rfl rfl (fun w hw=>eD rfl) rfl (dJ ?_))
   intro W15 hbR hS'
   clear hS;have hS:=hS';clear hS'
   refine aH (aH (aH (aH (aH (aH (aH (aH (aH (aH (aH (aH (aH (aH (aH (aH (aH (aH (aH (aH (aH (aH (aH (aH (aH (aH (aH (aH (aH (aH (aH (aH (aH ?_))))))))))))))))))))))))))))))))
   refine aH (aH (aH (aH (aH (aH (aH (aH (aH (aH (cG (XF.thenN (cH (XF.res (cU results3 rfl) ?_)))))))))))))
   exact ⟨rfl,hS.below⟩
end
section
open Go.RowKit Go.ChangeShapes Go.WideShapes Go.Deep Go.Joins
theorem qH {α:Type}:∀ (n:Nat) (p:Nat→α→Prop),(∀ i,i < n→∃ c,p i c)→∃ xs:List α,xs.length=n∧∀ i c,xs[i]?=some c→p i c
 | 0,p,h=>⟨[],rfl,fun i c hi=>by simp at hi⟩
 | n+1,p,h=>by
  obtain ⟨xs,hl,hp⟩:=qH n p (fun i hi=>h i (by omega))
  obtain ⟨c,hc⟩:=h n (by omega)
  refine ⟨xs++[c],by simp [hl],fun i d hi=>?_⟩
  rcases Nat.lt_or_ge i n with h1 | h1
  ·rw [List.getElem?_append_left (by omega)] at hi
   exact hp i d hi
  ·obtain ⟨h2,_⟩:=List.getElem?_eq_some_iff.1 hi
   simp [hl] at h2
   obtain rfl:i=n:=by omega
   rw [List.getElem?_append_right (by omega),hl,Nat.sub_self] at hi
   simp at hi
   subst hi
   exact hc
section
variable {H:Type} {enc:TypeId×Value→H} {w:World} {base:Nat} {spare:Nat→Bool} {held:Bool}
end
section
variable {H:Type} {enc:TypeId×Value→H} {w:World} {base:Nat} {spare:Nat→Bool} {held:Bool}
theorem ints_in {n:Nat} {v:Value} {x:DataW H×List MemPlace} (h:DataW.trod enc prog w base spare held n 36 [v]=some x) :
  ∃ (a:Option Addr) (len cap:Nat) (zs:List Int),v = .slice a len cap∧Row w a zs∧zs.length=len∧len≤cap∧cap≤maxLen:=by
 rcases open_ints (t:=36) (e:=3) (k:=.i64) (by kernel_rfl) (by kernel_rfl) (by kernel_rfl) h with ⟨hcs,_⟩ | ⟨x,len,cap,zs,hcs,_,hl,hm,hz,_,hcell,hwz⟩
 ·have hcs':v = .slice none 0 0:=by simpa using hcs
  subst hcs'
  exact ⟨none,0,0,[],rfl,.inl rfl,rfl,Nat.le_refl _,Nat.zero_le _⟩
 ·have hcs':v = .slice (some x) len cap:=by simpa using hcs
  subst hcs'
  have hzl:len≤zs.length:=by rw [hz];split<;>omega
  refine ⟨some x,len,cap,zs.take len,rfl,?_,by simp;omega,hl,hm⟩
  rcases Nat.eq_zero_or_pos len with h0 | h0
  ·subst h0;exact .inl (by simp)
  ·obtain ⟨b,off,spot⟩:=x
   have hc0:=hcell 0 (by omega)
   have hspot:spot=none:=by simpa [Addr.add] using World.cell?_spot hc0
   subst hspot
   refine .inr ⟨b,off,rfl,fun i hi=>?_⟩
   have hi1:i < len:=by simp at hi;omega
   have hi2:i < zs.length:=by omega
   have hc:=hcell i hi2
   have e:({ block:=b,off:=off }:Addr).add i=⟨b,off+i,none⟩:=by simp [Addr.add]
   rw [e] at hc
   rw [hc]
   simp [List.getD,List.getElem?_take,hi1]
end
theorem vO {cs:List Value} (h:cs.length=3):∃ a b c,cs=[a,b,c]:=by
 match cs,h with
 | [a,b,c],_=>exact ⟨a,b,c,rfl⟩
section
variable {H:Type} {enc:TypeId×Value→H} {w:World} {base:Nat} {spare:Nat→Bool} {held:Bool}
theorem tX {α:Type} {val:α→Value} {pr:α→Prop} {t e:TypeId} {n:Nat} {v:Value} {x:DataW H×List MemPlace} (ht:prog.underlying t=some (.slice e)) (hc:prog.cellsOf e=1)
  (one:∀ (n:Nat) (cs:List Value) (x:DataW H×List MemPlace),DataW.trod enc prog w base spare held n e cs=some x→∃ y,cs=[val y]∧pr y) (h:DataW.trod enc prog w base spare held n t [v]=some x) :
  ∃ (a:Option Addr) (len cap:Nat) (xs:List α),v = .slice a len cap∧(∀ (i:Nat) r,xs[i]?=some r→∃ b off,a=some ⟨b,off,none⟩∧w.cell? ⟨b,off+i * 1,none⟩=some (val r))∧(∀ r∈xs,pr r)∧xs.length=len∧len≤cap∧cap≤maxLen:=by
 rcases DataW.trod_slice ht h with ⟨hcs,_⟩ | ⟨ad,len,cap,elems,rest,n2,hn2,hcs,_,hb,hle,hcap,hel,hi,_,_⟩
 ·simp at hcs
  subst hcs
  exact ⟨none,0,0,[],rfl,(fun i r hi=>by simp at hi),(fun r hr=>by cases hr),rfl,Nat.le_refl _,Nat.zero_le _⟩
 ·simp at hcs
  subst hcs
  rw [hc] at hi
  obtain ⟨rs,hrl,hrs⟩:=qH len (fun i (r:α)=>w.cell? (ad.add (i * 1))=some (val r)∧pr r) (fun i hil=>by
   have hii:=hi i hil
   rw [List.getElem?_eq_getElem (by omega)] at hii
   obtain ⟨cs',hc',ht'⟩:=Option.bind_eq_some_iff.1 hii
   obtain ⟨_,hcl,hat⟩:=World.cells?_some hc'
   obtain ⟨r,rfl,hr⟩:=one _ _ _ ht'
   refine ⟨r,?_,hr⟩
   have h0:=hat 0 (by omega)
   rw [Go.Deep.add_add,Nat.add_zero] at h0
   rw [h0];rfl)
  refine ⟨some ad,len,cap,rs,rfl,fun i r hir=>?_,fun r hr=>?_,hrl,hle,hcap⟩
  ·obtain ⟨b,off,spot⟩:=ad
   have h1:=(hrs i r hir).1
   have hl0:0 < rs.length:=Nat.lt_of_le_of_lt (Nat.zero_le _) (List.getElem?_eq_some_iff.1 hir).1
   have h2:=(hrs 0 _ (List.getElem?_eq_getElem hl0)).1
   have hspot:spot=none:=by simpa [Addr.add] using World.cell?_spot h2
   subst hspot
   refine ⟨b,off,rfl,?_⟩
   have e:∀ k,({ block:=b,off:=off }:Addr).add k=⟨b,off+k,none⟩:=fun k=>by simp [Addr.add]
   rw [e] at h1
   exact h1
  ·obtain ⟨i,hi',hic⟩:=List.mem_iff_getElem.1 hr
   exact (hrs i r (by rw [← hic];exact List.getElem?_eq_getElem hi')).2
theorem tY {r:Reach} {b0:Nat} {v:Value} {d:DataW H} {p:List MemPlace} (hv:Value.okWide prog w r b0 25 v) (h:DataW.Trod enc prog w base spare held 25 v d p) :
  ∃ (s:DV),v=s.val∧DIn w s:=by
 obtain ⟨cs,rfl,_⟩:=okWide_struct underlying25 hv
 obtain ⟨n,h⟩:=h
 obtain ⟨xs,n',hn,_,hl,hlen,hg⟩:=DataW.trod_struct underlying25 h
 rw [show prog.cellsOf 25=3 by kernel_rfl] at hl
 obtain ⟨a,b,c,hcs⟩:=vO hl
 rw [hcs] at hg
 have hlen3:xs.length=3:=hlen
 have g0:=hg 0 _ rfl
 have g1:=hg 1 _ rfl
 have g2:=hg 2 _ rfl
 rw [show prog.cellsOf _=1 by kernel_rfl,List.getElem?_eq_getElem (by omega)] at g0 g1 g2
 obtain ⟨z0,e0,_,w0⟩:=DataW.trod_int (k:=.i64) (by kernel_rfl) g0
 simp at e0
 subst e0
 obtain ⟨na,nl,nc,ns,rfl,hnr,hni,hnl,hnc,hnm⟩:=tX (val:=IV.val) (pr:=fun r:IV=>Row w r.a r.xs∧r.xs.length=r.l∧r.l≤9223372036854775807) (e:=36) (v:=b) (by kernel_rfl) (by kernel_rfl) (fun n cs x h=>by
  obtain ⟨y,rfl⟩:∃ y,cs=[y]:=by
   obtain ⟨h1,h2⟩:cs.length=1∧True:=⟨by
    rcases DataW.trod_slice underlying36 h with ⟨h9,_⟩ | ⟨ad,len,cap,elems,rest,n2,hn2,h9,_⟩
    ·rw [h9];rfl
    ·rw [h9];rfl,trivial⟩
   match cs,h1 with
   | [y],_=>exact ⟨y,rfl⟩
  obtain ⟨fa,fl,fc,fs,rfl,h1,h2,h3,h4⟩:=ints_in h
  exact ⟨⟨fa,fl,fc,fs⟩,rfl,h1,h2,by simp only [maxLen] at h4;dsimp only;omega⟩) g1
 obtain ⟨aa,al,ac,bs,rfl,har,_,hal,hac,ham⟩:=tX (val:=Value.bool) (pr:=fun _=>True) (e:=4) (v:=c) (by kernel_rfl) (by kernel_rfl) (fun n cs x h=>by
  obtain ⟨y,h1,_⟩:=DataW.trod_bool (by kernel_rfl) h
  exact ⟨y,h1,trivial⟩) g2
 refine ⟨⟨z0,na,nl,nc,ns,aa,al,ac,bs⟩,?_,⟨hnr,hnl,hni,har,hal,?_,?_⟩⟩
 ·show Value.agg cs=Value.agg _
  congr 1
  exact Array.ext' hcs
 ·simp only [maxLen] at hnm;dsimp only;omega
 ·simp only [maxLen] at ham;dsimp only;omega
end
end
end Go.Proofs.Ytghmbejblbnjjaa
