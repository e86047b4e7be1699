import Derived.Test.YtghmbejblbnjjaaDpD
set_option maxRecDepth 100000
set_option maxHeartbeats 4000000
set_option linter.unusedVariables false
set_option linter.unusedSimpArgs false
set_option linter.unusedSectionVars false
set_option linter.unnecessarySimpa false
namespace Go.Proofs.Ytghmbejblbnjjaa
open Go.Proofs.Try
open Go.RowKit
theorem goes_65:cC prog 65=true:=by kernel_rfl
def nz (A:FA) (f:Nat→Nat) (n i:Nat):List Nat:=(List.range i).map (fun s=>mIx A f (mR A f s) s)++List.replicate (n - i) 0
theorem C6 {A:FA} {f:Nat→Nat} {n i:Nat} (h:i≤n):(nz A f n i).length=n:=by unfold nz;simp;omega
theorem nz_zero {A:FA} {f:Nat→Nat} {n:Nat}:nz A f n 0=List.replicate n 0:=by unfold nz;simp
theorem nz_end {A:FA} {f:Nat→Nat} {n:Nat}:nz A f n n=mC A f n:=by unfold nz mC;simp
theorem C7 {A:FA} {f:Nat→Nat} {n i:Nat} (h:i < n):(nz A f n i).set i (mIx A f (mR A f i) i)=nz A f n (i+1):=by
 unfold nz
 obtain ⟨m,hm⟩:∃ m,n - i=m+1:=⟨n - i - 1,by omega⟩
 rw [hm,show n - (i+1)=m by omega,List.replicate_succ,List.set_append_right _ _ (by simp),List.length_map,List.length_range,Nat.sub_self,List.set_cons_zero,List.range_succ,List.map_append,List.append_assoc];rfl
theorem At {d:DV} (h1:1≤d.nl) (hbl:d.bs.length=d.nl):MoI (dFA d) (cv d 0) 0:=by
 refine ⟨Cs hbl 0,fun s t hs ht e=>?_,fun h=>absurd h (Nat.lt_irrefl _),Nat.zero_le _⟩
 have h2:d.bs.getD s false=d.bs.getD t false:=e [] Wd.nil
 have key:∀ s,s < d.nl→gN (cv d 0) s=b2n (d.bs.getD s false):=fun s hs=>by
  unfold gN cv
  rw [List.getD_eq_getElem?_getD,List.getElem?_map,List.getD_eq_getElem?_getD,List.getElem?_eq_getElem (by omega)];rfl
 rw [key s hs,key t ht,h2]
structure ClOk (d:DV) (L:List Nat) (cm:Nat):Prop where
 len:L.length=d.nl
 lt:∀ s,s < d.nl→gN L s < cm
 le:cm≤d.nl
 cong:Cong (dFA d) (gN L)
 eqv:∀ s t,s < d.nl→t < d.nl→Eqv (dFA d) s (dFA d) t→gN L s=gN L t
theorem xO (d:DV) (Kt:List (Nat×World)) (Ot:Own) (G:bN) (K:List (Nat×World)) (w0 w:World) (hS0:St w0 Ot G K w) (hKt:∀ q∈Kt,q∈K) (hD:cL w0 Kt (fun W=>DIn W d)) (he:cU d=0) :
  Calls prog 56 #[d.val] w (fun e w'=>∃ (a:Option Addr) (L:List Nat) (cm:Nat) (Kn:List (Nat×World)),e = .returned (.slice a d.nl d.nl)∧ClOk d L cm∧(∀ q∈K,q∈Kn)∧cL w0 Kn (fun W=>Row W a (wI L))∧St w0 Ot G Kn w'):=by
 refine cP (args:=[d.val]) func56 rfl ntmps56 rfl ?_
 have hS:=hS0
 obtain ⟨k9,hk9,h1,h2,h3,h4,h5,h6⟩:=dD he
 have hDI0:=hD hS0 hKt
 have hbl:d.bs.length=d.nl:=by have:=hDI0.alen;omega
 have hO:=jM hDI0 he
 refine aH (aN (cI (cs:=[_,_,_]) hS rfl rfl rfl fun B1 W1 hS=>aB rfl rfl (aK (XF.thenN (aH (aN (aU (o':=1) cO rfl rfl rfl (aP isAgg22 rfl (aD (hS.at_ 0 rfl) rfl) rfl (bX underlying22 rfl rfl (aB rfl rfl (aK (XF.thenN (aH (aN (aA rfl rfl ?_)))))))))))))))
 refine eX (m:=d.nl) (cs:=i64n (List.replicate d.nl 0)) hS underlying36 iD rfl rfl rfl (rfl) (rfl) (lE _) (by show (8:Int) * _≤_;omega) (by omega) rfl fun B2 W2 hS=>?_
 refine aB rfl rfl (aK (XF.thenN (aH (aH (aN (aB rfl rfl (aK (XF.thenN (bH ?_)))))))))
 refine cW (fun m l W=>∃ i:Nat,i≤d.nl∧m=d.nl - i∧l=[(1,.pointer (some ⟨B1,0,none⟩)),(3,.int .i64 (d.nl:Int)),(4,.slice (some ⟨B2,0,none⟩) d.nl d.nl),(5,.int .i64 (i:Int))]∧St w0 ((B2,i64n (cz d i),3)::(B1,[.int .i64 d.sy,.slice d.na d.nl d.nc,.slice d.aa d.al d.ac],25)::Ot) G K W) (d.nl - 0) ([(1,_),(3,_),(4,_),(5,_)]) ⟨rfl,rfl,rfl,rfl,trivial⟩ (⟨0,Nat.zero_le _,rfl,rfl,by rw [zH];exact hS.keep K (fun q hq=>by simp [hq])⟩) ?_
 clear hS
 rintro m l W ⟨i,hi,rfl,rfl,hS⟩
 refine aH (aH (aN (aA rfl rfl (aA rfl rfl (cH rfl rfl rfl (aK (XF.thenN (bS rfl (fun hc=>?_) (fun hc=>?_)))))))))
 ·have hc18:=of_decide_eq_true hc;clear hc
  obtain ⟨b5,o5,y,hba,hy,hyc⟩:=fE.at9 (hD hS (fun q hq=>hKt q hq)).arow (i:=i) (by omega)
  refine bV (XF.thenN (aH (bH (aH (aN (aU (o':=2) cT rfl rfl rfl (aP isAgg23 rfl (aD (hS.at_ 1 rfl) rfl) rfl (aA rfl rfl ?_))))))))
  refine aX (j:=i) (b:=b5) (o:=o5) (m:=d.al) (c:=d.ac) underlying23 sizeOf4 (by show some (Value.slice d.aa _ _)=_;rw [hba]) rfl rfl (by omega) rfl rfl ?_
  refine aP isAgg4 rfl (hyc) rfl (aK (XF.thenN (bS rfl (fun hc=>?_) (fun hc=>?_))))
  ·have hc25:=hc;clear hc
   subst hc25
   refine aN (aA rfl rfl (aA rfl rfl (aX (j:=i) underlying36 sizeOf3 rfl rfl (rfl) (by omega) rfl rfl ?_)))
   refine bL (i:=0) (cs':=i64n ((cz d i).set i 1)) (O':=(_::_::Ot)) hS sizeOf3 rfl rfl rfl rfl (Nat.ble_eq_true_of_le (by rw [eT,Ct hbl (by omega)];omega)) (fK rfl) rfl fun W51 hS=>?_
   refine aK (XF.blkN (XF.thenN (aN (aA rfl rfl (bY rfl rfl (IntWalk.i64_in _ (by omega)) rfl (aB rfl rfl (aK ?_)))))))
   rw [Cv hbl (by omega) hy] at hS
   exact XF.round (d.nl - (i+1)) [(1,_),(3,_),(4,_),(5,_)] (by omega) ⟨rfl,rfl,rfl,rfl,trivial⟩ ⟨i+1,by omega,rfl,rfl,hS.keep K (fun q hq=>by simp [hq])⟩
  ·have hc25:=hc;clear hc
   subst hc25
   refine bV (XF.blkN (XF.thenN (aN (aA rfl rfl (bY rfl rfl (IntWalk.i64_in _ (by omega)) rfl (aB rfl rfl (aK ?_)))))))
   rw [cz_no hbl (by omega) hy] at hS
   exact XF.round (d.nl - (i+1)) [(1,_),(3,_),(4,_),(5,_)] (by omega) ⟨rfl,rfl,rfl,rfl,trivial⟩ ⟨i+1,by omega,rfl,rfl,hS.keep K (fun q hq=>by simp [hq])⟩
 ·have hc18:=of_decide_eq_false hc;clear hc
  have ein:i=d.nl:=by omega
  rw [ein,Cu hbl] at hS
  refine cV (XF.thenX (XF.thenX (XF.blkX (XF.thenN (aH (aN (aB rfl rfl (aK (XF.thenN (bH (cW (fun m l W=>∃ (OB:Nat) (L:List Nat) (cnt:Nat),m=d.nl+1 - cnt∧l=[(1,.pointer (some ⟨B1,0,none⟩)),(3,.int .i64 (d.nl:Int)),(4,.slice (some ⟨OB,0,none⟩) d.nl d.nl),(6,.int .i64 (cnt:Int))]∧MoI (dFA d) L cnt∧St w0 ((OB,i64n L,3)::(B1,[.int .i64 d.sy,.slice d.na d.nl d.nc,.slice d.aa d.al d.ac],25)::Ot) G K W) (d.nl+1 - 0) ([(1,_),(3,_),(4,_),(6,_)]) ⟨rfl,rfl,rfl,rfl,trivial⟩ (⟨_,cv d 0,0,rfl,rfl,At h2 hbl,hS.keep K (fun q hq=>by simp [hq])⟩) ?_)))))))))))
  clear hS
  rintro m l W ⟨OB,L,cnt,rfl,rfl,hMo,hS⟩
  have hLl:L.length=d.nl:=hMo.len
  have hcl:cnt≤d.nl:=hMo.le
  refine bH (aH (aN (aA rfl rfl ?_)))
  refine eX (m:=d.nl) (cs:=i64n (List.replicate d.nl 0)) hS underlying36 iD rfl rfl rfl (rfl) (rfl) (lE _) (by show (8:Int) * _≤_;omega) (by omega) rfl fun B3 W3 hS=>?_
  refine aB rfl rfl (aK (XF.thenN (aH (aN (aB rfl rfl (aK (XF.thenN (aH (aH ?_)))))))))
  have hS':=hS.newG 3 1;clear hS;have hS:=hS';clear hS'
  refine aN (aB rfl rfl (aK (XF.thenN (bH ?_))))
  refine cW (fun m l W=>∃ (i ml:Nat) (ma:Option Addr) (mc:Nat),i≤d.nl∧m=d.nl - i∧l=[(1,.pointer (some ⟨B1,0,none⟩)),(3,.int .i64 (d.nl:Int)),(4,.slice (some ⟨OB,0,none⟩) d.nl d.nl),(6,.int .i64 (cnt:Int)),(7,.slice (some ⟨B3,0,none⟩) d.nl d.nl),(8,.slice ma ml mc),(9,.int .i64 (i:Int))]∧(mR (dFA d) (gN L) i).length=ml∧St w0 ((B3,i64n (nz (dFA d) (gN L) d.nl (i)),3)::(OB,i64n L,3)::(B1,[.int .i64 d.sy,.slice d.na d.nl d.nc,.slice d.aa d.al d.ac],25)::Ot) (⟨.slice ma ml mc,ml,i64n (mR (dFA d) (gN L) i),3,1⟩::G) K W) (d.nl - 0) ([(1,_),(3,_),(4,_),(6,_),(7,_),(8,_),(9,_)]) ⟨rfl,rfl,rfl,rfl,rfl,rfl,rfl,trivial⟩ (⟨0,0,none,0,Nat.zero_le _,rfl,rfl,rfl,by rw [nz_zero];exact hS.keep K (fun q hq=>by simp [hq])⟩) ?_
  clear hS
  rintro m l W ⟨i,ml,ma,mc,hi,rfl,rfl,hml,hS⟩
  have hmi:=(mri (A:=dFA d) (f:=gN L) i).len
  refine aH (aH (aN (aA rfl rfl (aA rfl rfl (cH rfl rfl rfl (aK (XF.thenN (bS rfl (fun hc=>?_) (fun hc=>?_)))))))))
  ·have hc33:=of_decide_eq_true hc;clear hc
   refine bV (XF.thenN (aH (bH (aH (aN (aB rfl rfl (aK (XF.thenN (aH (bH (cW (fun m l W=>∃ k:Nat,k≤ml∧m=ml - k∧l=[(1,.pointer (some ⟨B1,0,none⟩)),(3,.int .i64 (d.nl:Int)),(4,.slice (some ⟨OB,0,none⟩) d.nl d.nl),(6,.int .i64 (cnt:Int)),(7,.slice (some ⟨B3,0,none⟩) d.nl d.nl),(8,.slice ma ml mc),(9,.int .i64 (i:Int)),(10,.int .i64 (k:Int))]∧(∀ j,j < k→iA (dFA d) (gN L) ((mR (dFA d) (gN L) i).getD j 0) i=false)∧St w0 ((B3,i64n (nz (dFA d) (gN L) d.nl (i)),3)::(OB,i64n L,3)::(B1,[.int .i64 d.sy,.slice d.na d.nl d.nc,.slice d.aa d.al d.ac],25)::Ot) (⟨.slice ma ml mc,ml,i64n (mR (dFA d) (gN L) i),3,1⟩::G) K W) (ml - 0) ([(1,_),(3,_),(4,_),(6,_),(7,_),(8,_),(9,_),(10,_)]) ⟨rfl,rfl,rfl,rfl,rfl,rfl,rfl,rfl,trivial⟩ (⟨0,Nat.zero_le _,rfl,rfl,fun j hj=>absurd hj (Nat.not_lt_zero _),hS.keep K (fun q hq=>by simp [hq])⟩) ?_)))))))))))
   clear hS
   rintro m l W ⟨k,hk,rfl,rfl,hal,hS⟩
   refine aH (aH ?_)
   rcases Nat.lt_or_ge k ml with hk8 | hk8
   ·skip
    obtain ⟨mb,rfl⟩:=eG (hS.row 0 rfl) (by omega)
    obtain ⟨r,hrE⟩:∃ r,(mR (dFA d) (gN L) i).getD k 0=r:=⟨_,rfl⟩
    have hrm:(mR (dFA d) (gN L) i)[k]?=some r:=by rw [← hrE,List.getD_eq_getElem?_getD,List.getElem?_eq_getElem (by omega)];rfl
    have hmk:W.cell? ⟨mb,0+k * 1,none⟩=some (.int .i64 (r:Int)):=by
     rw [Nat.zero_add,Nat.mul_one]
     exact cX (hS.row 0 rfl) (k:=k) (by show (i64n _)[k]?=_;unfold i64n;rw [List.getElem?_map,hrm];rfl)
    have hrlt:=(mri (A:=dFA d) (f:=gN L) i).lt r (List.mem_of_getElem? hrm)
    have hDI:=(hD hS (fun q hq=>hKt q hq))
    have hOF:Row W (some ⟨OB,0,none⟩) (wI L):=gL (hS.at_ 1 rfl)
    refine iF (m:=15) cA hS (by kernel_rfl) (by kernel_rfl) rfl (bR 1 rfl 10 rfl rfl (fun w hw=>aV rfl) rfl (bR 2 rfl 8 rfl rfl (fun w hw=>aV rfl) rfl (bF 3 rfl 37 1 rfl rfl rfl (fun w hw=>iS underlying36 rfl) rfl (aZ 4 rfl (isV (.bool true)) (aW _) (uE (li:=[(36,_),(38,_)]) rfl (aL rfl) ⟨aJ 0 (aC rfl rfl rfl),aJ 2 (aC rfl rfl rfl),trivial⟩ (fun w hw=>wF rfl rfl) (by rw [decide_eq_true (by omega)]) (aG rfl)) (bF 5 rfl 39 3 rfl rfl rfl (fun w hw=>aV rfl) rfl (aZ 6 rfl (isV _) (aW _) (rgV (li:=[(1,_)]) rfl (eL 40 rfl (aC rfl rfl rfl)) ⟨cD rfl,trivial⟩ (fun w hw=>dL (vs:=[_,_,_]) isAgg25 sizeOf25 rfl (aT.agree (aO hw 0) (Nat.zero_le _) (aT.own (j:=0) (m:=3) (hS.at_ 2 rfl) rfl))) (aG rfl)) (aZ 7 rfl (isV _) (aW _) (rgV (li:=[(4,_)]) rfl (eL 40 rfl (aC rfl rfl rfl)) ⟨cD rfl,trivial⟩ (fun w hw=>aV rfl) (aG rfl)) (aZ 8 rfl (isV _) (aW _) (rgV (li:=[(8,_)]) rfl (eL 40 rfl (aC rfl rfl rfl)) ⟨cD rfl,trivial⟩ (fun w hw=>aV rfl) (aG rfl)) (aZ 9 rfl (isV _) (aW _) (rgV (li:=[(10,_)]) rfl (eL 40 rfl (aC rfl rfl rfl)) ⟨cD rfl,trivial⟩ (fun w hw=>aV rfl) (aG rfl)) (aZ 10 rfl (isV _) (aW _) (rgV (li:=[(43,_),(44,_)]) rfl (eL 40 rfl (aC rfl rfl rfl)) ⟨aJ 7 (aC rfl rfl rfl),aJ 8 (aC rfl rfl rfl),trivial⟩ (fun w hw=>bE (j:=k) (b:=mb) (o:=0) (m:=ml) (c:=mc) underlying36 sizeOf3 rfl rfl rfl (by omega) rfl) (aG rfl)) (aZ 11 rfl (isV _) (aW _) (rgV (li:=[(45,_)]) rfl (eL 40 rfl (aC rfl rfl rfl)) ⟨aJ 9 (aC rfl rfl rfl),trivial⟩ (fun w hw=>aY isAgg3 rfl ((aO hw 0).cell (Nat.zero_le _) (hmk))) (aG rfl)) (aZ 12 rfl (isV _) (aW _) (rgV (li:=[(9,_)]) rfl (eL 40 rfl (aC rfl rfl rfl)) ⟨cD rfl,trivial⟩ (fun w hw=>aV rfl) (aG rfl)) ?_))))))))))))
    refine aZ 13 rfl (isV (.bool (iA (dFA d) (gN L) r i))) (aW _) (lK [isV _,isV _,isV _,isV _] rfl goes_65 (eL 40 rfl (aC rfl rfl rfl)) ⟨eN (aJ 5 (aC rfl rfl rfl)),eN (aJ 6 (aC rfl rfl rfl)),eN (aJ 10 (aC rfl rfl rfl)),eN (aJ 11 (aC rfl rfl rfl)),trivial⟩ (fun vs w' hb hh=>by have e:=eP (us:=[_,_,_,_]) hh;subst e;exact (As d _ _ L r i w' (hDI.below hb) (hOF.below hb) hLl he (by omega) (by omega)).mono fun e w2 ⟨h1,h2⟩=>⟨_,h1,rfl,h2⟩) (aG rfl)) ?_
    refine aZ 14 rfl (isV _) (aW _) (rgV (li:=[(48,_)]) rfl (eL 40 rfl (aC rfl rfl rfl)) ⟨aJ 12 (aC rfl rfl rfl),trivial⟩ (fun w hw=>wE rfl) (aG rfl)) (aZ 15 rfl (isV _) (aW _) (rgV (li:=[(40,_),(49,_)]) rfl (aL rfl) ⟨aJ 4 (aC rfl rfl rfl),aJ 13 (aC rfl rfl rfl),trivial⟩ (fun w hw=>pO rfl rfl) (aG rfl)) (dJ ?_))
    intro W4 hbR hS'
    clear hS;have hS:=hS';clear hS'
    refine aI (aI (aI (aI (aI (aI (aI (aI (aI (aI (aI (aI (aI (aI (aI (cN (XF.thenN (bS rfl (fun hc=>?_) (fun hc=>?_))))))))))))))))))
    ·have hc50:=hc;clear hc
     refine bV (XF.thenN (bH (aN (aA rfl rfl (bY rfl rfl (IntWalk.i64_in _ (by omega)) rfl (aB rfl rfl (aK (XF.blkN ?_))))))))
     have hc50:iA (dFA d) (gN L) r i=false:=by simpa using hc50
     exact XF.round (ml - (k+1)) [(1,_),(3,_),(4,_),(6,_),(7,_),(8,_),(9,_),(10,_)] (by omega) ⟨rfl,rfl,rfl,rfl,rfl,rfl,rfl,rfl,trivial⟩ ⟨k+1,by omega,rfl,rfl,fun j hj=>(by
      rcases Nat.lt_or_ge j k with h9 | h9
      ·exact hal j h9
      ·rw [show j=k by omega,hrE];exact hc50),hS.keep K (fun q hq=>by simp [hq])⟩
    ·have hc50:=hc;clear hc
     have hmx:mIx (dFA d) (gN L) (mR (dFA d) (gN L) i) i=k:=mIx_eq (by omega) (by rw [hrE];simpa using hc50) hal
     refine cV (XF.thenX (XF.thenX (XF.blkX (XF.thenN (aH (aH (aN (aA rfl rfl (aA rfl rfl (bX underlying36 rfl rfl (fD rfl rfl rfl (aK (XF.thenN (bS rfl (fun hc=>absurd (of_decide_eq_true hc) (by omega)) (fun hc=>?_)))))))))))))))
     have hc:=of_decide_eq_false hc
     refine bV (XF.thenN (aN (aA rfl rfl (aA rfl rfl (aA rfl rfl (aX (j:=i) underlying36 sizeOf3 rfl rfl (rfl) (by omega) rfl rfl ?_))))))
     refine bL (i:=0) (cs':=i64n ((nz (dFA d) (gN L) d.nl (i)).set i (mIx (dFA d) (gN L) (mR (dFA d) (gN L) i) i))) (O':=(_::_::_::Ot)) hS sizeOf3 rfl rfl rfl rfl (Nat.ble_eq_true_of_le (by rw [eT,C6 (by omega)];omega)) (fK (by rw [hmx])) rfl fun W52 hS=>?_
     refine aK (XF.blkN (XF.thenN (aN (aA rfl rfl (bY rfl rfl (IntWalk.i64_in _ (by omega)) rfl (aB rfl rfl (aK ?_)))))))
     rw [C7 (by omega)] at hS
     have em:mR (dFA d) (gN L) (i+1)=mR (dFA d) (gN L) i:=by rw [mR,if_neg (by omega)]
     rw [← em] at hS hml
     exact XF.round (d.nl - (i+1)) [(1,_),(3,_),(4,_),(6,_),(7,_),(8,_),(9,_)] (by omega) ⟨rfl,rfl,rfl,rfl,rfl,rfl,rfl,trivial⟩ ⟨i+1,ml,_,mc,by omega,rfl,rfl,hml,hS.keep K (fun q hq=>by simp [hq])⟩
   ·skip
    refine iF (m:=15) cA hS (by kernel_rfl) (by kernel_rfl) rfl (bR 1 rfl 10 rfl rfl (fun w hw=>aV rfl) rfl (bR 2 rfl 8 rfl rfl (fun w hw=>aV rfl) rfl (bF 3 rfl 37 1 rfl rfl rfl (fun w hw=>iS underlying36 rfl) rfl (aZ 4 rfl (isV (.bool false)) (aW _) (uE (li:=[(36,_),(38,_)]) rfl (aL rfl) ⟨aJ 0 (aC rfl rfl rfl),aJ 2 (aC rfl rfl rfl),trivial⟩ (fun w hw=>wF rfl rfl) (by rw [decide_eq_false (by omega)]) (aG rfl)) (bF 5 rfl 39 3 rfl rfl rfl (fun w hw=>aV rfl) rfl (aZ 6 rfl (isV undef) (aW _) (gF rfl (gG 40 rfl (aC rfl rfl rfl) rfl) (aG rfl)) (aZ 7 rfl (isV undef) (aW _) (gF rfl (gG 40 rfl (aC rfl rfl rfl) rfl) (aG rfl)) (aZ 8 rfl (isV undef) (aW _) (gF rfl (gG 40 rfl (aC rfl rfl rfl) rfl) (aG rfl)) (aZ 9 rfl (isV undef) (aW _) (gF rfl (gG 40 rfl (aC rfl rfl rfl) rfl) (aG rfl)) (aZ 10 rfl (isV undef) (aW _) (gF rfl (gG 40 rfl (aC rfl rfl rfl) rfl) (aG rfl)) (aZ 11 rfl (isV undef) (aW _) (gF rfl (gG 40 rfl (aC rfl rfl rfl) rfl) (aG rfl)) (aZ 12 rfl (isV undef) (aW _) (gF rfl (gG 40 rfl (aC rfl rfl rfl) rfl) (aG rfl)) (aZ 13 rfl (isV undef) (aW _) (gF rfl (gG 40 rfl (aC rfl rfl rfl) rfl) (aG rfl)) (aZ 14 rfl (isV undef) (aW _) (gF rfl (gG 40 rfl (aC rfl rfl rfl) rfl) (aG rfl)) (bF 15 rfl 40 4 rfl rfl rfl (fun w hw=>pP rfl rfl) rfl (dJ ?_))))))))))))))))
    intro W5 hbR hS'
    clear hS;have hS:=hS';clear hS'
    refine aI (aI (aI (aI (aI (aI (aI (aI (aI (aI (aI (aI (aI (aI (aI (cN (XF.thenN (xX rfl (cV (XF.thenX (XF.thenX (XF.blkX (XF.thenN (aH (aH ?_))))))))))))))))))))))))
    have hmx:mIx (dFA d) (gN L) (mR (dFA d) (gN L) i) i=k:=(mIx_end (fun j hj=>hal j (by omega))).trans (by omega)
    refine aN (aA rfl rfl (aA rfl rfl (bX underlying36 rfl rfl (fD rfl rfl rfl (aK (XF.thenN (bS rfl (fun hc=>?_) (fun hc=>absurd (of_decide_eq_false hc) (by omega)))))))))
    have hc:=of_decide_eq_true hc
    refine aN (aA rfl rfl (aA rfl rfl (bK (us:=[(0,.int .i64 _)]) hS underlying36 sizeOf3 zeroValue3 rfl rfl rfl (fZ _) rfl fun B6 W6 hS=>?_)))
    refine cR (i:=0) (news:=[_]) hS underlying36 iD rfl rfl (by show 0 < 1;decide) rfl rfl rfl rfl rfl (aT.own (j:=0) (m:=1) (hS.at_ 0 rfl) rfl) rfl rfl (by dsimp only;simp only [maxLen];omega) (by dsimp only;show _ * 8≤_;omega) rfl fun v7 W7 hS=>?_
    obtain ⟨ma9,mc9,e9,_⟩:=bQ (hS.row 0 rfl)
    dsimp only at e9
    subst e9
    refine aB rfl rfl (aK (XF.thenN (aN (aA rfl rfl (aA rfl rfl (aA rfl rfl (aX (j:=i) underlying36 sizeOf3 rfl rfl (rfl) (by omega) rfl rfl ?_)))))))
    refine bL (i:=1) (cs':=i64n ((nz (dFA d) (gN L) d.nl (i)).set i (mIx (dFA d) (gN L) (mR (dFA d) (gN L) i) i))) (O':=(_::_::_::_::Ot)) hS sizeOf3 rfl rfl rfl rfl (Nat.ble_eq_true_of_le (by rw [eT,C6 (by omega)];omega)) (fK (by rw [hmx])) rfl fun W52 hS=>?_
    refine aK (XF.blkN (XF.thenN (aN (aA rfl rfl (bY rfl rfl (IntWalk.i64_in _ (by omega)) rfl (aB rfl rfl (aK ?_)))))))
    rw [C7 (by omega)] at hS
    have em:mR (dFA d) (gN L) (i+1)=mR (dFA d) (gN L) i++[i]:=by rw [mR,if_pos (by omega)]
    have hS9:=hS.tail.castG (G':=(⟨.slice ma9 (ml+1) mc9,ml+1,i64n (mR (dFA d) (gN L) (i+1)),3,1⟩::G)) (by rw [em,← lB rfl];rfl)
    exact XF.round (d.nl - (i+1)) [(1,_),(3,_),(4,_),(6,_),(7,_),(8,_),(9,_)] (by omega) ⟨rfl,rfl,rfl,rfl,rfl,rfl,rfl,trivial⟩ ⟨i+1,ml+1,ma9,mc9,by omega,rfl,rfl,by rw [em,List.length_append,hml];rfl,hS9.keep K (fun q hq=>by simp [hq])⟩
  ·have hc33:=of_decide_eq_false hc;clear hc
   have ein:i=d.nl:=by omega
   rw [ein,nz_end] at hS
   rw [ein] at hml
   have hst:=hMo.step hO
   have hmo:=hMo.mono
   rw [show (dFA d).n=d.nl from rfl,hml] at hst hmo
   refine cV (XF.thenX (XF.thenX (XF.blkX (XF.thenN (aH (aN (aA rfl rfl (aB rfl rfl (aK (XF.thenN (aH (aH (aN (aA rfl rfl (bX underlying36 rfl rfl (aA rfl rfl (fD rfl rfl rfl (aK (XF.thenN (bS rfl (fun hc=>?_) (fun hc=>?_)))))))))))))))))))))
   ·have hc69:=of_decide_eq_true hc;clear hc
    refine aH (aN (aA rfl rfl (aB rfl rfl (aK (XF.thenN (cK (XF.thenR (XF.blkR (XF.thenR (XF.blkR (XF.res (cZ results56 rfl) ?_)))))))))))
    have hlc:ml=cnt:=by omega
    obtain ⟨K1,k1,g1,hS1⟩:=(hS.keep K (fun q hq=>by simp [hq])).tailG.ownKeep
    exact ⟨_,_,ml,K1,rfl,⟨hst.len,(hst.rng (by have:=mR_pos (A:=dFA d) (f:=gN L) (show 0 < d.nl by omega);omega)).1,hst.le,hMo.done hO (hml.trans hlc),hst.eqv⟩,k1,fun h9 hk9=>gL (g1 h9 hk9),hS1.tail.tail⟩
   ·have hc69:=of_decide_eq_false hc;clear hc
    refine bV (XF.thenN (aN (aA rfl rfl (bX underlying36 rfl rfl (aB rfl rfl (aK (XF.blkN ?_)))))))
    have hlt:cnt < ml:=by omega
    have hle:ml≤d.nl:=hst.le
    exact XF.round (d.nl+1 - ml) [(1,_),(3,_),(4,_),(6,_)] (by omega) ⟨rfl,rfl,rfl,rfl,trivial⟩ ⟨_,_,ml,rfl,rfl,hst,(hS.drop2.tailG).keep K (fun q hq=>by simp [hq])⟩
theorem St.permR9 {w0 W:World} {O:Own} {G G':bN} {K:List (Nat×World)} (h:St w0 O G K W) (hp:G.Perm G'):St w0 O G' K W where
 below:=h.below
 own:=h.own
 dist:=h.dist
 kept:=h.kept
 rows:=fun g hg=>h.rows g (hp.mem_iff.2 hg)
 gdist:=(hp.pairwise_iff (fun {x y} (h:Value.apart x.v y.v) b hb hc=>h b hc hb)).1 h.gdist
theorem evl29 {a:Act} {t u:Nat} {v x:Value} (h:a.eval (.tmp t)=v) (k:a.eval (.tmp u)=x):∀ z y,evL [(t,v),(u,x)] z=some y→a.eval z=y:=by
 intro z y hz
 cases z with
 | tmp s =>
  simp only [evL,dO] at hz
  cases hb:Nat.beq t s with
  | true=>simp [hb] at hz;rw [← Nat.eq_of_beq_eq_true hb,← hz];exact h
  | false =>
   cases hc:Nat.beq u s with
   | true=>simp [hb,hc] at hz;rw [← Nat.eq_of_beq_eq_true hc,← hz];exact k
   | false=>simp [hb,hc] at hz
 | const c=>exact Option.some.inj hz
 | global g=>exact Option.some.inj hz
 | func f=>exact Option.some.inj hz
theorem C8 {A:FA} {l:List Nat} {i c:Nat} {b:Bool} (h:l.getD i 0=c) (hb:b=A.ac c):(List.range i).map (fun j=>A.ac (l.getD j 0))++[b]=(List.range (i+1)).map (fun j=>A.ac (l.getD j 0)):=by
 rw [List.range_succ,List.map_append,List.map_singleton,h,hb]
theorem acl_up {A:FA} {i p q:Nat} (h:p≤q) (hi:i≤(qm A id p).length):(List.range i).map (fun j=>A.ac ((qm A id q).getD j 0))=(List.range i).map (fun j=>A.ac ((qm A id p).getD j 0)):=List.map_congr_left fun j hj=>by
 rw [eB h (Nat.lt_of_lt_of_le (List.mem_range.1 hj) hi)]
theorem C9 {α:Type} {a b c d:α} {l:List α}:(a::b::c::d::l).Perm (d::a::b::c::l):=List.perm_middle (l₁:=[a,b,c])
theorem permG5 {α:Type} {n a x y z:α} {l:List α}:(n::a::x::y::z::l).Perm (x::y::z::n::a::l):=by
 have h1:([n,a]++([x,y,z]++l)).Perm ([x,y,z]++([n,a]++l)):=List.perm_append_comm_assoc _ _ _
 exact h1
theorem vS {A:FA} {q:TB} {cls:Nat→Nat} {N:Nat} (hQ:QuoOk A cls N) (hn:q.n=N) (hk:q.k=A.k) (hq:TOk q) (hx:∀ p,p < N * A.k→gN q.xs p=qfl A cls p) (hb:∀ i,i < N→q.bs.getD i false=A.ac ((qm A cls (N * A.k)).getD i 0)):Agr q.fa (quo A cls N):=by
 refine ⟨hn,hk,hq.fa,fun s x hs hx9=>?_,fun s hs=>?_⟩
 ·have h1:s < N:=by rw [← hn];exact hs
  have h2:x < A.k:=by rw [← hk];exact hx9
  show gN q.xs (s * q.k+x)=qfl A cls (s * A.k+x)
  rw [hk]
  exact hx _ (iG h1 h2)
 ·exact hb s (by rw [← hn];exact hs)
theorem nR {A:FA} {cls:Nat→Nat} {n p:Nat} (h:p < n):gN ((List.range n).map (qfl A cls)) p=qfl A cls p:=by
 unfold gN;rw [List.getD_eq_getElem?_getD,List.getElem?_map,List.getElem?_range h];rfl
theorem xP (t:TB) (mo:Nat) (Kt:List (Nat×World)) (Ot:Own) (G:bN) (K:List (Nat×World)) (w0 w:World) (v:Value) (hv:v=t.val) (hS0:St w0 Ot G K w) (hT:TOk t) (hKt:∀ q∈Kt,q∈K) (hB:cL w0 Kt (TAt t)) (hmo:t.n≤mo):Calls prog 33 #[v,.int .i64 (mo:Int)] w (fun e w'=>∃ (q:TB) (Kn:List (Nat×World)),e = .returned (.tuple #[q.val,.bool true])∧q.k=t.k∧q.n≤t.n∧TOk q∧q.fa.Ord∧q.fa.Red∧Eqv q.fa 0 t.fa 0∧(∀ q∈K,q∈Kn)∧cL w0 Kn (TAt q)∧St w0 Ot G Kn w'):=by
 subst hv;exact lT t mo Kt Ot G K w0 w hS0 hT hKt hB hmo
theorem zL {A:FA}:Cong A id:=⟨fun s t _ _ e=>by rw [show s=t from e],fun s t x _ _ _ e=>by rw [show s=t from e]⟩
theorem vT (ta tb:TB) (g:Bool→Bool→Bool) (f:FuncId) (mo PB MB ll0:Nat) (la fa ba:Option Addr) (lc fc bc:Nat) (Kt:List (Nat×World)) (Ot:Own) (G:bN) (K:List (Nat×World)) (w0 w:World) (hgo:cC prog f=true) (hf:∀ x y w,Calls prog f #[.bool x,.bool y] w (fun e w'=>e = .returned (.bool (g x y))∧Below w.heap.size w w')) (h1:ll0=1) (hS0:St w0 ((PB,prC ta tb MB (.slice la (ll0) lc) (.slice fa (ll0) fc) (.slice ba (ll0) bc),93)::Ot) (⟨.slice la (ll0) lc,ll0,prs tb.n ([0]),95,2⟩::⟨.slice fa (ll0) fc,ll0,dA ([-1]),21,1⟩::⟨.slice ba (ll0) bc,ll0,dA ([-1]),21,1⟩::G) K w) (hTta:TOk ta) (hTtb:TOk tb) (hna:ta.n≤1024) (hnb:tb.n≤1024) (hk:ta.k=tb.k) (hnn:ta.n * tb.n≤4096) (hmo:ta.n * tb.n≤mo) (hKt:∀ q∈Kt,q∈K) (hB:cL w0 Kt (fun W=>TAt ta W∧TAt tb W)) (hM:MkP tb.n [0] MB w) (hMb:w0.heap.size≤MB) (hMK:∀ q∈K,MB < q.1∨q.2.heap.size≤MB) :
  Calls prog 59 #[.pointer (some ⟨PB,0,none⟩),.int .i64 (mo:Int),.func (.func f) #[] #[]] w (fun e w'=>∃ (q:TB) (Kn:List (Nat×World)),e = .returned (.tuple #[q.val,.bool true])∧TOk q∧q.k=ta.k∧q.n≤ta.n * tb.n∧q.fa.Ord∧q.fa.Red∧Eqv q.fa 0 (aR ta.fa tb.fa g) 0∧(∀ q∈K,q∈Kn)∧cL w0 Kn (TAt q)∧St w0 Ot G Kn w'):=by
 refine cP (args:=[.pointer (some ⟨PB,0,none⟩),.int .i64 (mo:Int),.func (.func f) #[] #[]]) func59 rfl ntmps59 rfl ?_
 have hS:=hS0
 have hA:(aR ta.fa tb.fa g).Ok:=sZ hTta.fa hTtb.fa hk
 have hka:=hTta.k1
 have hS:=hS.markK hM
 have ez:0 * ta.k=0:=Nat.zero_mul _
 refine aH (aN (cE (cs:=[_,_,_]) hS zeroValue61 rfl rfl fun B1 W1 hS=>aB rfl rfl (aK (XF.thenN (aH (aN (aA rfl rfl (bM rfl rfl (aU (o':=0) nO rfl rfl rfl (aU (o':=0) iJ rfl rfl rfl (aP isAgg3 rfl (aD (hS.at_ 1 rfl) rfl) rfl (dP (us:=[(0,.int .i64 _)]) rfl (vJ _) rfl (cE (cs:=[_,_,_]) hS zeroValue61 rfl rfl fun B2 W2 hS=>bU (i:=0) (vs:=[_,_,_]) (cs':=[_,_,_]) (O':=(_::_::_::Ot)) hS sizeOf61 rfl rfl rfl rfl rfl rfl rfl fun W3 hS=>aK (XF.thenN (aH ?_)))))))))))))))
 have hS':=((hS.newG 4 1).newG 21 1).permR9 permG5;clear hS;have hS:=hS';clear hS'
 refine aN (aB rfl rfl (aK (XF.thenN (aH (aH (aN (aB rfl rfl (aK (XF.thenN (bH ?_))))))))))
 refine cW (fun m l W=>∃ (i:Nat) (la fa ba na aa:Option Addr) (lc fc bc nc ac ll:Nat) (F Y:List Int),i≤ll∧m=4096 - i∧l=[(0,.pointer (some ⟨PB,0,none⟩)),(1,.int .i64 (mo:Int)),(2,.func (.func f) #[] #[]),(6,.pointer (some ⟨B1,0,none⟩)),(8,.pointer (some ⟨B2,0,none⟩)),(9,.bool false),(10,.int .i64 (i:Int))]∧(qm (aR ta.fa tb.fa g) id (i * ta.k)).length=ll∧(∀ j,j < i→j < (qm (aR ta.fa tb.fa g) id (j * ta.k)).length)∧MkP tb.n (qm (aR ta.fa tb.fa g) id (i * ta.k)) MB W∧St w0 ((B2,[.int .i64 (ta.k:Int),.slice na (i * ta.k) nc,.slice aa (i) ac],61)::(B1,[.int .i64 0,.slice none 0 0,.slice none 0 0],61)::(PB,prC ta tb MB (.slice la (ll) lc) (.slice fa (ll) fc) (.slice ba (ll) bc),93)::Ot) (⟨.slice la (ll) lc,ll,prs tb.n (qm (aR ta.fa tb.fa g) id (i * ta.k)),95,2⟩::⟨.slice fa (ll) fc,ll,dA (F),21,1⟩::⟨.slice ba (ll) bc,ll,dA (Y),21,1⟩::⟨.slice na (i * ta.k) nc,i * ta.k,i32 ((List.range (i * ta.k)).map (qfl (aR ta.fa tb.fa g) id)),21,1⟩::⟨.slice aa (i) ac,i,bvs ((List.range (i)).map (fun j=>(aR ta.fa tb.fa g).ac ((qm (aR ta.fa tb.fa g) id (i * ta.k)).getD j 0))),4,1⟩::G) K W) (4096 - 0) ([(0,_),(1,_),(2,_),(6,_),(8,_),(9,_),(10,_)]) ⟨rfl,rfl,rfl,rfl,rfl,rfl,rfl,trivial⟩ (⟨0,la,fa,ba,none,none,lc,fc,bc,0,0,ll0,[-1],[-1],Nat.zero_le _,rfl,rfl,by rw [ez];exact h1.symm,fun j hj=>absurd hj (Nat.not_lt_zero _),by rw [ez];exact hM.at_ hS (by simp),by rw [ez];exact hS.keep K (fun q hq=>by simp [hq])⟩) ?_
 clear hS
 rintro m l W ⟨i,la,fa,ba,na,aa,lc,fc,bc,nc,ac,ll,F,Y,hi,rfl,rfl,hll,hrows,hM2,hS⟩
 have hS:=hS.markK hM2
 have hqr:eR (aR ta.fa tb.fa g) id (i * ta.k):=fun q hq=>by
  obtain ⟨d1,_,d3⟩:=dM hq
  exact Nat.lt_of_lt_of_le (hrows _ d1) (dQ d3)
 obtain ⟨hq1,hq2⟩:=jI (cm:=ta.n * tb.n) hA (fun _=>hqr) (fun h0=>by have h9:ta.k=0:=h0;rw [h9,Nat.mul_zero]) (fun x hx=>hx)
 refine aH (aH (aN (aA rfl rfl (aA rfl rfl (bM rfl rfl (aU (o':=7) iL rfl rfl rfl (aP isAgg91 rfl (aD (hS.at_ 2 rfl) rfl) rfl (bX underlying91 rfl rfl (cH rfl rfl rfl (aK (XF.thenN (bS rfl (fun hc=>?_) (fun hc=>?_)))))))))))))
 ·have hc27:=of_decide_eq_true hc;clear hc
  obtain ⟨c,hcE⟩:∃ c,(qm (aR ta.fa tb.fa g) id (i * ta.k)).getD i 0=c:=⟨_,rfl⟩
  have hcx:(qm (aR ta.fa tb.fa g) id (i * ta.k))[i]?=some c:=by rw [← hcE,List.getD_eq_getElem?_getD,List.getElem?_eq_getElem (by omega)];rfl
  have hc9:c < ta.n * tb.n:=hq2 _ (List.mem_of_getElem? hcx)
  obtain ⟨hsta,hstb,_⟩:=dM hc9
  obtain ⟨lb,rfl⟩:=eG (hS.row 0 rfl) (by omega)
  refine bV (XF.thenN (aH (bH (aH (aH (aN (aA rfl rfl (gR rfl rfl (aA rfl rfl (aE (d:=32) rfl rfl (aA rfl rfl (aE (d:=32) rfl rfl (bM rfl rfl (aE (d:=32) rfl rfl (aU (o':=7) iL rfl rfl rfl (aE (d:=32) rfl rfl (aP isAgg91 rfl (aD (hS.at_ 2 rfl) rfl) rfl (aE (d:=32) rfl rfl (bX underlying91 rfl rfl (aE (d:=32) rfl rfl (gS rfl rfl rfl (bI rfl rfl rfl (aK (XF.thenN (bS rfl (fun hc=>absurd (of_decide_eq_true hc) (by omega)) (fun hc=>?_))))))))))))))))))))))))))
  have hc:=of_decide_eq_false hc
  refine bV (XF.thenN (aH (aN (aA rfl rfl (bM rfl rfl (aU (o':=7) iL rfl rfl rfl (aP isAgg91 rfl (aD (hS.at_ 2 rfl) rfl) rfl (aA rfl rfl (aX (j:=i) (b:=lb) (o:=0) (m:=ll) (c:=lc) underlying91 sizeOf95 rfl rfl rfl (by omega) rfl rfl (bC (vs:=[_,_]) isAgg95 sizeOf95 rfl (qI (f:=prc tb.n) (cs:=qm (aR ta.fa tb.fa g) id (i * ta.k)) (hS.row 0 rfl) (fun x=>⟨_,_,rfl⟩) hcx) rfl (cE (cs:=[_,_]) hS zeroValue95 rfl rfl fun B4 W4 hS=>bU (i:=0) (vs:=[_,_]) (cs':=[_,_]) (O':=(_::_::_::_::Ot)) hS sizeOf95 rfl rfl rfl rfl rfl rfl rfl fun W5 hS=>aK (XF.thenN (aH ?_)))))))))))))
  obtain ⟨ab,ao,haa,hac⟩:=fE.get (hB hS (fun q hq=>by simp [hKt q hq])).1.2 (i:=(c / tb.n)) (by rw [hTta.bl];exact hsta)
  obtain ⟨bb,bo,hba,hbc⟩:=fE.get (hB hS (fun q hq=>by simp [hKt q hq])).2.2 (i:=(c % tb.n)) (by rw [hTtb.bl];exact hstb)
  refine yC (p:=23) (k:=25) (gi:=4) (m:=1) cA hS rfl rfl (by kernel_rfl) (by kernel_rfl) (by kernel_rfl) (fun d hd=>by cases hd) rfl rfl underlying23 jC rfl rfl (by show 0 < 1;decide) rfl rfl rfl (by dsimp only;simp only [maxLen];omega) (by dsimp only;show _ * 1≤_;omega) ?_
  refine cY 1 rfl rfl (by kernel_rfl) (rgV (li:=[(8,_)]) rfl (aL rfl) ⟨cD rfl,trivial⟩ (fun w hw=>bA (o':=2) eZ rfl rfl) (aG rfl)) (cY 2 rfl rfl (by kernel_rfl) (rgV (li:=[(52,_)]) rfl (aL rfl) ⟨aJ 0 (aC rfl rfl rfl),trivial⟩ (fun w hw=>aY isAgg23 rfl ((aO hw 0).cell (Nat.zero_le _) (aD (hS.at_ 1 rfl) rfl))) (aG rfl)) (cY 3 rfl rfl (by kernel_rfl) (rgV (li:=[(2,_)]) rfl (aL rfl) ⟨cD rfl,trivial⟩ (fun w hw=>aV rfl) (aG rfl)) (cY 4 rfl rfl (by kernel_rfl) (rgV (li:=[(0,_)]) rfl (aL rfl) ⟨cD rfl,trivial⟩ (fun w hw=>aV rfl) (aG rfl)) (cY 5 rfl rfl (by kernel_rfl) (rgV (li:=[(55,_)]) rfl (aL rfl) ⟨aJ 3 (aC rfl rfl rfl),trivial⟩ (fun w hw=>bP rfl) (aG rfl)) (cY 6 rfl rfl (by kernel_rfl) (rgV (li:=[(56,_)]) rfl (aL rfl) ⟨aJ 4 (aC rfl rfl rfl),trivial⟩ (fun w hw=>bA (o':=0) nO rfl rfl) (aG rfl)) (cY 7 rfl rfl (by kernel_rfl) (rgV (li:=[(57,_)]) rfl (aL rfl) ⟨aJ 5 (aC rfl rfl rfl),trivial⟩ (fun w hw=>bA (o':=2) eZ rfl rfl) (aG rfl)) (cY 8 rfl rfl (by kernel_rfl) (rgV (li:=[(58,_)]) rfl (aL rfl) ⟨aJ 6 (aC rfl rfl rfl),trivial⟩ (fun w hw=>aY isAgg23 rfl ((aO hw 0).cell (Nat.zero_le _) (aD (hS.at_ 3 rfl) rfl))) (aG rfl)) (cY 9 rfl rfl (by kernel_rfl) (rgV (li:=[(11,_)]) rfl (aL rfl) ⟨cD rfl,trivial⟩ (fun w hw=>eV (j:=0) (o':=0) underlying95 sizeOf21 rfl rfl rfl (by decide) rfl) (aG rfl)) (cY 10 rfl rfl (by kernel_rfl) (rgV (li:=[(60,_)]) rfl (aL rfl) ⟨aJ 8 (aC rfl rfl rfl),trivial⟩ (fun w hw=>aY isAgg21 rfl ((aO hw 0).cell (Nat.zero_le _) (aD (hS.at_ 0 rfl) rfl))) (aG rfl)) ?_)))))))))
  refine cY 11 rfl rfl (by kernel_rfl) (rgV (li:=[(59,_),(61,_)]) rfl (aL rfl) ⟨aJ 7 (aC rfl rfl rfl),aJ 9 (aC rfl rfl rfl),trivial⟩ (fun w hw=>bE (j:=(c / tb.n)) (b:=ab) (o:=ao) (m:=ta.n) (c:=ta.ac) underlying23 sizeOf4 (by show some (Value.slice ta.aa _ _)=_;rw [haa]) rfl rfl (by omega) rfl) (aG rfl)) ?_
  refine cY 12 rfl rfl (by kernel_rfl) (rgV (li:=[(62,_)]) rfl (aL rfl) ⟨aJ 10 (aC rfl rfl rfl),trivial⟩ (fun w hw=>aY isAgg4 rfl ((aO hw 0).cell (Nat.zero_le _) (hac))) (aG rfl)) (cY 13 rfl rfl (by kernel_rfl) (rgV (li:=[(0,_)]) rfl (aL rfl) ⟨cD rfl,trivial⟩ (fun w hw=>aV rfl) (aG rfl)) (cY 14 rfl rfl (by kernel_rfl) (rgV (li:=[(64,_)]) rfl (aL rfl) ⟨aJ 12 (aC rfl rfl rfl),trivial⟩ (fun w hw=>bP rfl) (aG rfl)) (cY 15 rfl rfl (by kernel_rfl) (rgV (li:=[(65,_)]) rfl (aL rfl) ⟨aJ 13 (aC rfl rfl rfl),trivial⟩ (fun w hw=>bA (o':=3) pJ rfl rfl) (aG rfl)) (cY 16 rfl rfl (by kernel_rfl) (rgV (li:=[(66,_)]) rfl (aL rfl) ⟨aJ 14 (aC rfl rfl rfl),trivial⟩ (fun w hw=>bA (o':=5) eZ rfl rfl) (aG rfl)) (cY 17 rfl rfl (by kernel_rfl) (rgV (li:=[(67,_)]) rfl (aL rfl) ⟨aJ 15 (aC rfl rfl rfl),trivial⟩ (fun w hw=>aY isAgg23 rfl ((aO hw 0).cell (Nat.zero_le _) (aD (hS.at_ 3 rfl) rfl))) (aG rfl)) (cY 18 rfl rfl (by kernel_rfl) (rgV (li:=[(11,_)]) rfl (aL rfl) ⟨cD rfl,trivial⟩ (fun w hw=>eV (j:=1) (o':=1) underlying95 sizeOf21 rfl rfl rfl (by decide) rfl) (aG rfl)) (cY 19 rfl rfl (by kernel_rfl) (rgV (li:=[(69,_)]) rfl (aL rfl) ⟨aJ 17 (aC rfl rfl rfl),trivial⟩ (fun w hw=>aY isAgg21 rfl ((aO hw 0).cell (Nat.zero_le _) (aD (hS.at_ 0 rfl) rfl))) (aG rfl)) ?_)))))))
  refine cY 20 rfl rfl (by kernel_rfl) (rgV (li:=[(68,_),(70,_)]) rfl (aL rfl) ⟨aJ 16 (aC rfl rfl rfl),aJ 18 (aC rfl rfl rfl),trivial⟩ (fun w hw=>bE (j:=(c % tb.n)) (b:=bb) (o:=bo) (m:=tb.n) (c:=tb.ac) underlying23 sizeOf4 (by show some (Value.slice tb.aa _ _)=_;rw [hba]) rfl rfl (by omega) rfl) (aG rfl)) ?_
  refine cY 21 rfl rfl (by kernel_rfl) (rgV (li:=[(71,_)]) rfl (aL rfl) ⟨aJ 19 (aC rfl rfl rfl),trivial⟩ (fun w hw=>aY isAgg4 rfl ((aO hw 0).cell (Nat.zero_le _) (hbc))) (aG rfl)) ?_
  refine cY 22 rfl rfl (by kernel_rfl) (uT [isV _,isV _] rfl hgo (aL rfl) (aJ 2 (aC rfl rfl rfl)) ⟨eN (aJ 11 (aC rfl rfl rfl)),eN (aJ 20 (aC rfl rfl rfl)),trivial⟩ (fun vs w' hb hh=>by have e:=eP (us:=[_,_]) hh;subst e;exact (hf _ _ w').mono fun e w2 ⟨h1,h2⟩=>⟨_,h1,rfl,h2⟩) (aG rfl)) ?_
  refine uG 23 rfl rfl (by kernel_rfl) (fQ W5.heap.size 1 4 _) (iU) (mX (us:=[.bool _]) rfl (aL rfl) underlying23 sizeOf4 zeroValue4 rfl rfl ⟨eN (aJ 21 (aC rfl rfl rfl)),trivial⟩ (eY _) (aG rfl)) (mZ 24 rfl rfl (iX 25 rfl rfl (rgV (li:=[(8,_)]) rfl (aL rfl) ⟨cD rfl,trivial⟩ (fun w hw=>bA (o':=2) eZ rfl rfl) (aG rfl)) (lgV (li:=[(8,_)]) rfl (aL rfl) ⟨cD rfl,trivial⟩ (fun w=>bA (o':=2) eZ rfl rfl) (aG rfl) rfl) (mY ⟨_,_,aJ 1 (aC rfl rfl rfl),aJ 22 (aC rfl rfl rfl),gY rfl rfl,?_⟩)))
  intro A6 v6 news6 W6 hbR hqA6 hS'
  clear hS;have hS:=hS';clear hS'
  cases hqA6
  refine aI (aI (aI (aI (aI (aI (aI (aI (aI (aI (aI (aI (aI (aI (aI (aI (aI (aI (aI (aI (aI (aI ?_)))))))))))))))))))))
  refine eO ?_;intro _ _
  refine aI (aI ?_)
  obtain ⟨aa9,ac9,e9,_⟩:=bQ (hS.row 4 rfl)
  dsimp only at e9
  subst e9
  refine cN (bL (i:=1) (cs':=[_,_,_]) (O':=(_::_::_::_::Ot)) hS sizeOf23 rfl rfl rfl rfl rfl rfl rfl fun W7 hS=>aK (XF.thenN (aH (iF (m:=9) cA hS (by kernel_rfl) (by kernel_rfl) rfl (bR 1 rfl 0 rfl rfl (fun w hw=>aV rfl) rfl (bF 2 rfl 77 0 rfl rfl rfl (fun w hw=>bP rfl) rfl (bF 3 rfl 78 1 rfl rfl rfl (fun w hw=>bA (o':=3) pJ rfl rfl) rfl (bF 4 rfl 79 2 rfl rfl rfl (fun w hw=>dL (vs:=[_,_,_]) isAgg61 sizeOf61 rfl (aT.agree (aO hw 0) (Nat.zero_le _) (aT.own (j:=3) (m:=3) (hS.at_ 3 rfl) rfl))) rfl (bR 5 rfl 11 rfl rfl (fun w hw=>eV (j:=1) (o':=1) underlying95 sizeOf21 rfl rfl rfl (by decide) rfl) rfl (bF 6 rfl 81 4 rfl rfl rfl (fun w hw=>aY isAgg21 rfl ((aO hw 0).cell (Nat.zero_le _) (aD (hS.at_ 0 rfl) rfl))) rfl (bF 7 rfl 82 5 rfl rfl rfl (fun w hw=>jU underlying21 underlying3 rfl (tM hstb hnb)) rfl ?_)))))))))))
  refine aZ 8 rfl (isV (.slice (fV tb.na tb.nc ((c % tb.n) * tb.k) 1) tb.k (tb.nc - (c % tb.n) * tb.k))) (aW _) (lK [isV _,isV _] rfl lS (aL rfl) ⟨eN (aJ 3 (aC rfl rfl rfl)),eN (aJ 6 (aC rfl rfl rfl)),trivial⟩ (fun vs w' hb hh=>by have e:=eP (us:=[_,_]) hh;subst e;exact (oH tb (c % tb.n) w' hTtb hstb).mono fun e w2 ⟨h1,h2⟩=>⟨_,h1,rfl,h2⟩) (aG rfl)) ?_
  refine bF 9 rfl 84 7 rfl rfl rfl (fun w hw=>dI rfl) rfl (dJ ?_)
  intro W8 hbR hS'
  clear hS;have hS:=hS';clear hS'
  refine aI (aI (aI (aI (aI (aI (aI (aI (aI (cN (XF.thenN (aH (iF (m:=10) cA hS (by kernel_rfl) (by kernel_rfl) rfl (bR 1 rfl 0 rfl rfl (fun w hw=>aV rfl) rfl (bF 2 rfl 85 0 rfl rfl rfl (fun w hw=>bP rfl) rfl (bF 3 rfl 86 1 rfl rfl rfl (fun w hw=>bA (o':=0) nO rfl rfl) rfl (bF 4 rfl 87 2 rfl rfl rfl (fun w hw=>dL (vs:=[_,_,_]) isAgg61 sizeOf61 rfl (aT.agree (aO hw 0) (Nat.zero_le _) (aT.own (j:=0) (m:=3) (hS.at_ 3 rfl) rfl))) rfl (bR 5 rfl 11 rfl rfl (fun w hw=>eV (j:=0) (o':=0) underlying95 sizeOf21 rfl rfl rfl (by decide) rfl) rfl (bF 6 rfl 89 4 rfl rfl rfl (fun w hw=>aY isAgg21 rfl ((aO hw 0).cell (Nat.zero_le _) (aD (hS.at_ 0 rfl) rfl))) rfl (bF 7 rfl 90 5 rfl rfl rfl (fun w hw=>jU underlying21 underlying3 rfl (tM hsta hna)) rfl ?_)))))))))))))))))))
  refine aZ 8 rfl (isV (.slice (fV ta.na ta.nc ((c / tb.n) * ta.k) 1) ta.k (ta.nc - (c / tb.n) * ta.k))) (aW _) (lK [isV _,isV _] rfl lS (aL rfl) ⟨eN (aJ 3 (aC rfl rfl rfl)),eN (aJ 6 (aC rfl rfl rfl)),trivial⟩ (fun vs w' hb hh=>by have e:=eP (us:=[_,_]) hh;subst e;exact (oH ta (c / tb.n) w' hTta hsta).mono fun e w2 ⟨h1,h2⟩=>⟨_,h1,rfl,h2⟩) (aG rfl)) ?_
  refine bF 9 rfl 92 7 rfl rfl rfl (fun w hw=>iS underlying59 rfl) rfl (aZ 10 rfl (isV _) (aW _) (rgV (li:=[]) rfl (aL rfl) trivial (fun w hw=>aV rfl) (aG rfl)) (dJ ?_))
  intro W9 hbR hS'
  clear hS;have hS:=hS';clear hS'
  refine aI (aI (aI (aI (aI (aI (aI (aI (aI (aI (cN (XF.thenN (bH ?_))))))))))))
  refine cW (fun m l W=>∃ (x:Nat) (la fa ba na aa:Option Addr) (lc fc bc nc ac ll:Nat) (F Y:List Int),x≤ta.k∧m=ta.k - x∧l=[(0,.pointer (some ⟨PB,0,none⟩)),(1,.int .i64 (mo:Int)),(2,.func (.func f) #[] #[]),(6,.pointer (some ⟨B1,0,none⟩)),(8,.pointer (some ⟨B2,0,none⟩)),(9,.bool false),(10,.int .i64 (i:Int)),(12,.slice (fV tb.na tb.nc ((c % tb.n) * tb.k) 1) tb.k (tb.nc - (c % tb.n) * tb.k)),(92,.slice (fV ta.na ta.nc ((c / tb.n) * ta.k) 1) ta.k (ta.nc - (c / tb.n) * ta.k)),(93,.int .i64 (ta.k:Int)),(94,.int .i64 (x:Int))]∧(qm (aR ta.fa tb.fa g) id (i * ta.k+x)).length=ll∧MkP tb.n (qm (aR ta.fa tb.fa g) id (i * ta.k+x)) MB W∧St w0 ((B4,prc tb.n c,95)::(B2,[.int .i64 (ta.k:Int),.slice na (i * ta.k+x) nc,.slice aa (i+1) ac],61)::(B1,[.int .i64 0,.slice none 0 0,.slice none 0 0],61)::(PB,prC ta tb MB (.slice la (ll) lc) (.slice fa (ll) fc) (.slice ba (ll) bc),93)::Ot) (⟨.slice la (ll) lc,ll,prs tb.n (qm (aR ta.fa tb.fa g) id (i * ta.k+x)),95,2⟩::⟨.slice fa (ll) fc,ll,dA (F),21,1⟩::⟨.slice ba (ll) bc,ll,dA (Y),21,1⟩::⟨.slice na (i * ta.k+x) nc,i * ta.k+x,i32 ((List.range (i * ta.k+x)).map (qfl (aR ta.fa tb.fa g) id)),21,1⟩::⟨.slice aa (i+1) ac,i+1,bvs ((List.range (i+1)).map (fun j=>(aR ta.fa tb.fa g).ac ((qm (aR ta.fa tb.fa g) id (i * ta.k)).getD j 0))),4,1⟩::G) K W) (ta.k - 0) ([(0,_),(1,_),(2,_),(6,_),(8,_),(9,_),(10,_),(12,_),(92,_),(93,_),(94,_)]) ⟨rfl,rfl,rfl,rfl,rfl,rfl,rfl,rfl,rfl,rfl,rfl,trivial⟩ (⟨0,some ⟨lb,0,none⟩,fa,ba,na,aa9,lc,fc,bc,nc,ac9,ll,F,Y,Nat.zero_le _,rfl,rfl,hll,hM2.at_ hS (by simp),(hS.castG (G':=(⟨.slice (some ⟨lb,0,none⟩) (ll) lc,ll,prs tb.n (qm (aR ta.fa tb.fa g) id (i * ta.k)),95,2⟩::⟨.slice fa (ll) fc,ll,dA (F),21,1⟩::⟨.slice ba (ll) bc,ll,dA (Y),21,1⟩::⟨.slice na (i * ta.k) nc,i * ta.k,i32 ((List.range (i * ta.k)).map (qfl (aR ta.fa tb.fa g) id)),21,1⟩::⟨.slice aa9 (i+1) ac9,i+1,bvs ((List.range (i+1)).map (fun j=>(aR ta.fa tb.fa g).ac ((qm (aR ta.fa tb.fa g) id (i * ta.k)).getD j 0))),4,1⟩::G)) (by show (_::_::_::_::GR.mk _ _ (bvs _++[Value.bool _]) _ _::_)=_;rw [fA,C8 (A:=(aR ta.fa tb.fa g)) (b:=g (tb1 ta (c / tb.n)) (tb1 tb (c % tb.n))) hcE rfl])).keep K (fun q hq=>by simp [hq])⟩) ?_
  clear hS
  have hil:i < ll:=by omega
  clear hi
  rintro m l W ⟨x,la,fa,ba,na,aa,lc,fc,bc,nc,ac,ll2,F,Y,hx,rfl,rfl,hll2,hM2,hS⟩
  have hS:=hS.markK hM2
  refine aH (aN (cH rfl rfl rfl (aK (XF.thenN (aH (bS rfl (fun hc=>?_) (fun hc=>?_)))))))
  ·have hc95:=of_decide_eq_true hc;clear hc
   have hx9:x < ta.k:=by omega
   have hixta:=hTta.ix hsta hx9
   have hixtb:=hTtb.ix hstb (show x < tb.k by omega)
   have hcta:=hTta.cap
   have hctb:=hTtb.cap
   obtain ⟨cb,co,hcu,hc5⟩:=((hB hS (fun q hq=>by simp [hKt q hq])).1.1.cut (i:=(c / tb.n) * ta.k) (L:=ta.k) (c:=ta.nc) (by rw [hTta.len];exact hixta.2) (by omega)).get (i:=x) (by rw [List.length_take,List.length_drop,hTta.len];omega)
   rw [dU (by omega)] at hc5
   have hc5:W.cell? ⟨cb,co+x * 1,none⟩=some (.int .i32 ((ta.fa.nx (c / tb.n) x:Nat):Int)):=hc5
   obtain ⟨cb2,co2,hcu2,hc6⟩:=((hB hS (fun q hq=>by simp [hKt q hq])).2.1.cut (i:=(c % tb.n) * tb.k) (L:=tb.k) (c:=tb.nc) (by rw [hTtb.len];exact hixtb.2) (by omega)).get (i:=x) (by rw [List.length_take,List.length_drop,hTtb.len];omega)
   rw [dU (by omega)] at hc6
   have hc6:W.cell? ⟨cb2,co2+x * 1,none⟩=some (.int .i32 ((tb.fa.nx (c % tb.n) x:Nat):Int)):=hc6
   have hna9:ta.fa.nx (c / tb.n) x < ta.n:=hTta.fa.t0_ _ _ hsta hx9
   have hnb9:tb.fa.nx (c % tb.n) x < tb.n:=hTtb.fa.t0_ _ _ hstb (show x < tb.k by omega)
   refine bV (XF.thenN (aH (bH (aH (aN (aA rfl rfl ?_))))))
   refine aX (j:=x) (b:=cb) (o:=co) (m:=ta.k) (c:=ta.nc - (c / tb.n) * ta.k) underlying59 sizeOf21 (by show some (Value.slice (fV _ _ _ _) _ _)=_;rw [hcu]) rfl rfl (by omega) rfl rfl ?_
   refine aP isAgg21 rfl (hc5) rfl (aB rfl rfl (aB rfl rfl (aK (XF.thenN ?_))))
   have hM3:=hM2.at_ hS (by simp)
   have hS9:=hS.keep K (fun q hq=>by simp [hq])
   clear hS;have hS:=hS9;clear hS9
   have hmul:i * ta.k≤4096 * 100000:=Nat.mul_le_mul (by omega) hka
   obtain ⟨d1,d2⟩:=dY (i:=i) hx9
   obtain ⟨f1,f2⟩:=dY (i:=ta.fa.nx (c / tb.n) x) hnb9
   have hqr2:eR (aR ta.fa tb.fa g) id (i * ta.k+x):=fun q hq=>by
    rcases Nat.lt_or_ge q (i * ta.k) with h9 | h9
    ·exact hqr q h9
    ·have h8:q / ta.k=i:=by
      rw [show q=i * ta.k+(q - i * ta.k) by omega];exact (dY (by omega)).1
     rw [show q / (aR ta.fa tb.fa g).k=i from h8]
     exact Nat.lt_of_lt_of_le (by omega) (dQ h9)
   obtain ⟨hq3,hq4⟩:=jI (cm:=ta.n * tb.n) hA (fun _=>hqr2) (fun h0=>absurd (show ta.k=0 from h0) (by omega)) (fun x hx=>hx)
   have hnc:ncd (aR ta.fa tb.fa g) (i * ta.k+x)=(ta.fa.nx (c / tb.n) x * tb.n+tb.fa.nx (c % tb.n) x):=by
    show (aR ta.fa tb.fa g).nx ((qm (aR ta.fa tb.fa g) id (i * ta.k+x)).getD ((i * ta.k+x) / ta.k) 0) ((i * ta.k+x) % ta.k)=_
    rw [d1,d2,eB (Nat.le_add_right _ _) (show i < (qm (aR ta.fa tb.fa g) id (i * ta.k)).length by omega),hcE];rfl
   have hcell2:cL w0 Kt (fun W=>W.cell? ⟨cb2,co2+x * 1,none⟩=some (.int .i32 ((tb.fa.nx (c % tb.n) x:Nat):Int))):=fun h9 hk9=>by
    obtain ⟨b8,o8,e8,c8⟩:=((hB h9 hk9).2.1.cut (i:=(c % tb.n) * tb.k) (L:=tb.k) (c:=tb.nc) (by rw [hTtb.len];exact hixtb.2) (by omega)).get (i:=x) (by rw [List.length_take,List.length_drop,hTtb.len];omega)
    rw [dU (by omega)] at c8
    obtain ⟨rfl,rfl⟩:b8=cb2∧o8=co2:=by
     have h8:=e8.symm.trans hcu2
     injection h8 with h8;injection h8 with h7 h8
     exact ⟨h7,h8⟩
    exact c8
   refine vH (mk:=[13,14]) (k:=15) (vals:=(fun i8=>match i8 with | 0=>.pointer (some ⟨B2,0+1,none⟩) | 1=>.slice na (i * ta.k+x) nc | 2=>.pointer (some ⟨PB,0,none⟩) | 3=>.int .i32 ((ta.fa.nx (c / tb.n) x:Nat):Int) | 4=>.slice (fV tb.na tb.nc ((c % tb.n) * tb.k) 1) tb.k (tb.nc - (c % tb.n) * tb.k) | 6=>.pointer (some ⟨cb2,co2+x * 1,none⟩) | 7=>.int .i32 ((tb.fa.nx (c % tb.n) x:Nat):Int) | 8=>.agg #[.int .i32 ((ta.fa.nx (c / tb.n) x:Nat):Int),.int .i32 ((tb.fa.nx (c % tb.n) x:Nat):Int)] | 9=>.int .i64 (i:Int) | 10=>.int .i32 (i:Int) | 12=>.int .i32 (x:Int) | _=>.int .i64 (x:Int))) (Pm:=fun i v ON=>(i=13→ON=[(0,[v],0)])∧(i=14→∃ u B,v = .slice (some ⟨B,0,none⟩) 1 1∧ON=[(B,[u],0)])) (fun s w=>(s=[]∧MkP tb.n (qm (aR ta.fa tb.fa g) id (i * ta.k+x)) MB w∧St w0 ((B4,prc tb.n c,95)::(B2,[.int .i64 (ta.k:Int),.slice na (i * ta.k+x) nc,.slice aa (i+1) ac],61)::(B1,[.int .i64 0,.slice none 0 0,.slice none 0 0],61)::(PB,prC ta tb MB (.slice la (ll2) lc) (.slice fa (ll2) fc) (.slice ba (ll2) bc),93)::Ot) (⟨.slice la (ll2) lc,ll2,prs tb.n (qm (aR ta.fa tb.fa g) id (i * ta.k+x)),95,2⟩::⟨.slice fa (ll2) fc,ll2,dA (F),21,1⟩::⟨.slice ba (ll2) bc,ll2,dA (Y),21,1⟩::⟨.slice na (i * ta.k+x) nc,i * ta.k+x,i32 ((List.range (i * ta.k+x)).map (qfl (aR ta.fa tb.fa g) id)),21,1⟩::⟨.slice aa (i+1) ac,i+1,bvs ((List.range (i+1)).map (fun j=>(aR ta.fa tb.fa g).ac ((qm (aR ta.fa tb.fa g) id (i * ta.k)).getD j 0))),4,1⟩::G) K w)∨(∃ v,s=[(13,[(0,[v],0)])]∧∃ (la9 fa9 ba9:Option Addr) (lc9 fc9 bc9 ll9:Nat) (F9 Y9:List Int),(mtS id (qm (aR ta.fa tb.fa g) id (i * ta.k+x)) (ta.fa.nx (c / tb.n) x * tb.n+tb.fa.nx (c % tb.n) x)).length=ll9∧v = .int .i32 ((mtI id (qm (aR ta.fa tb.fa g) id (i * ta.k+x)) (ta.fa.nx (c / tb.n) x * tb.n+tb.fa.nx (c % tb.n) x):Nat):Int)∧MkP tb.n (mtS id (qm (aR ta.fa tb.fa g) id (i * ta.k+x)) (ta.fa.nx (c / tb.n) x * tb.n+tb.fa.nx (c % tb.n) x)) MB w∧St w0 ((B4,prc tb.n c,95)::(B2,[.int .i64 (ta.k:Int),.slice na (i * ta.k+x) nc,.slice aa (i+1) ac],61)::(B1,[.int .i64 0,.slice none 0 0,.slice none 0 0],61)::(PB,prC ta tb MB (.slice la9 (ll9) lc9) (.slice fa9 (ll9) fc9) (.slice ba9 (ll9) bc9),93)::Ot) (⟨.slice la9 (ll9) lc9,ll9,prs tb.n (mtS id (qm (aR ta.fa tb.fa g) id (i * ta.k+x)) (ta.fa.nx (c / tb.n) x * tb.n+tb.fa.nx (c % tb.n) x)),95,2⟩::⟨.slice fa9 (ll9) fc9,ll9,dA F9,21,1⟩::⟨.slice ba9 (ll9) bc9,ll9,dA Y9,21,1⟩::⟨.slice na (i * ta.k+x) nc,i * ta.k+x,i32 ((List.range (i * ta.k+x)).map (qfl (aR ta.fa tb.fa g) id)),21,1⟩::⟨.slice aa (i+1) ac,i+1,bvs ((List.range (i+1)).map (fun j=>(aR ta.fa tb.fa g).ac ((qm (aR ta.fa tb.fa g) id (i * ta.k)).getD j 0))),4,1⟩::G) K w)∨(∃ v B,s=[(14,[(B,[v],0)]),(13,[(0,[v],0)])]∧∃ (la9 fa9 ba9:Option Addr) (lc9 fc9 bc9 ll9:Nat) (F9 Y9:List Int),(mtS id (qm (aR ta.fa tb.fa g) id (i * ta.k+x)) (ta.fa.nx (c / tb.n) x * tb.n+tb.fa.nx (c % tb.n) x)).length=ll9∧v = .int .i32 ((mtI id (qm (aR ta.fa tb.fa g) id (i * ta.k+x)) (ta.fa.nx (c / tb.n) x * tb.n+tb.fa.nx (c % tb.n) x):Nat):Int)∧MkP tb.n (mtS id (qm (aR ta.fa tb.fa g) id (i * ta.k+x)) (ta.fa.nx (c / tb.n) x * tb.n+tb.fa.nx (c % tb.n) x)) MB w∧St w0 ((B,[v],21)::(B4,prc tb.n c,95)::(B2,[.int .i64 (ta.k:Int),.slice na (i * ta.k+x) nc,.slice aa (i+1) ac],61)::(B1,[.int .i64 0,.slice none 0 0,.slice none 0 0],61)::(PB,prC ta tb MB (.slice la9 (ll9) lc9) (.slice fa9 (ll9) fc9) (.slice ba9 (ll9) bc9),93)::Ot) (⟨.slice la9 (ll9) lc9,ll9,prs tb.n (mtS id (qm (aR ta.fa tb.fa g) id (i * ta.k+x)) (ta.fa.nx (c / tb.n) x * tb.n+tb.fa.nx (c % tb.n) x)),95,2⟩::⟨.slice fa9 (ll9) fc9,ll9,dA F9,21,1⟩::⟨.slice ba9 (ll9) bc9,ll9,dA Y9,21,1⟩::⟨.slice na (i * ta.k+x) nc,i * ta.k+x,i32 ((List.range (i * ta.k+x)).map (qfl (aR ta.fa tb.fa g) id)),21,1⟩::⟨.slice aa (i+1) ac,i+1,bvs ((List.range (i+1)).map (fun j=>(aR ta.fa tb.fa g).ac ((qm (aR ta.fa tb.fa g) id (i * ta.k)).getD j 0))),4,1⟩::G) K w)) cA (.inl ⟨rfl,hM3.same (fun _=>rfl),hS.drew⟩) (Nat.le_of_ble_eq_true (by kernel_rfl)) (by kernel_rfl) (by kernel_rfl) ?_ ?_ (by decide) ?_
   ·intro i9 hi9 hin s a0 c9 w ha0 hF9 hG hD
    have hfr:∀ t v,freeT _ t=true→dO _ t=some v→c9.eval (.tmp t)=v:=fun t v h1 h2=>(hF9 t h1).trans (ha0.at_ t v h2)
    have hcell:w.cell? ⟨B2,0+1,none⟩=some (.slice na (i * ta.k+x) nc)∧w.cell? ⟨cb2,co2+x * 1,none⟩=some (.int .i32 ((tb.fa.nx (c % tb.n) x:Nat):Int)):=by
     rcases hG with ⟨_,_,h9⟩ | ⟨v,_,la9,fa9,ba9,lc9,fc9,bc9,ll9,F9,Y9,_,_,_,h9⟩ | ⟨v,B,_,la9,fa9,ba9,lc9,fc9,bc9,ll9,F9,Y9,_,_,_,h9⟩
     ·exact ⟨aD (h9.at_ 1 rfl) rfl,hcell2 h9 hKt⟩
     ·exact ⟨aD (h9.at_ 1 rfl) rfl,hcell2 h9 hKt⟩
     ·exact ⟨aD (h9.at_ 2 rfl) rfl,hcell2 h9 hKt⟩
    match i9,hi9,hin with
    | 0,_,_=>exact ⟨_,rfl,rfl,by
     exact bA (l:=[(8,.pointer (some ⟨B2,0,none⟩))]) iK rfl rfl c9.eval (fW (hfr 8 _ (by kernel_rfl) rfl))⟩
    | 1,_,_=>exact ⟨_,rfl,rfl,by
     have h9:=(hD 0 99 (by kernel_rfl)).1 (by decide)
     exact aY (l:=[(99,.pointer (some ⟨B2,0+1,none⟩))]) isAgg59 rfl hcell.1 c9.eval (fW h9)⟩
    | 2,_,_=>exact ⟨_,rfl,rfl,by
     exact aV (l:=[(0,.pointer (some ⟨PB,0,none⟩))]) rfl c9.eval (fW (hfr 0 _ (by kernel_rfl) rfl))⟩
    | 3,_,_=>exact ⟨_,rfl,rfl,by
     exact aV (l:=[(14,.int .i32 ((ta.fa.nx (c / tb.n) x:Nat):Int))]) rfl c9.eval (fW (hfr 14 _ (by kernel_rfl) rfl))⟩
    | 4,_,_=>exact ⟨_,rfl,rfl,by
     exact aV (l:=[(12,.slice (fV tb.na tb.nc ((c % tb.n) * tb.k) 1) tb.k (tb.nc - (c % tb.n) * tb.k))]) rfl c9.eval (fW (hfr 12 _ (by kernel_rfl) rfl))⟩
    | 5,_,_=>exact ⟨_,rfl,rfl,by
     exact aV (l:=[(13,.int .i64 (x:Int))]) rfl c9.eval (fW (hfr 13 _ (by kernel_rfl) rfl))⟩
    | 6,_,_=>exact ⟨_,rfl,rfl,by
     have h9:=(hD 4 103 (by kernel_rfl)).1 (by decide)
     have h8:=(hD 5 104 (by kernel_rfl)).1 (by decide)
     exact bE (l:=[(103,.slice (fV tb.na tb.nc ((c % tb.n) * tb.k) 1) tb.k (tb.nc - (c % tb.n) * tb.k)),(104,.int .i64 (x:Int))]) (j:=x) (b:=cb2) (o:=co2) (m:=tb.k) (c:=tb.nc - (c % tb.n) * tb.k) underlying59 sizeOf21 (by show some (Value.slice (fV _ _ _ _) _ _)=_;rw [hcu2]) rfl rfl (by omega) rfl c9.eval (evl29 h9 h8)⟩
    | 7,_,_=>exact ⟨_,rfl,rfl,by
     have h9:=(hD 6 105 (by kernel_rfl)).1 (by decide)
     exact aY (l:=[(105,.pointer (some ⟨cb2,co2+x * 1,none⟩))]) isAgg21 rfl hcell.2 c9.eval (fW h9)⟩
    | 8,_,_=>exact ⟨_,rfl,rfl,by
     have h9:=(hD 3 102 (by kernel_rfl)).1 (by decide)
     have h8:=(hD 7 106 (by kernel_rfl)).1 (by decide)
     exact uD (l:=[(102,.int .i32 ((ta.fa.nx (c / tb.n) x:Nat):Int)),(106,.int .i32 ((tb.fa.nx (c % tb.n) x:Nat):Int))]) (us:=[(0,.int .i32 _),(1,.int .i32 _)]) rfl (Cq _ _) c9.eval (evl29 h9 h8)⟩
    | 9,_,_=>exact ⟨_,rfl,rfl,by
     exact aV (l:=[(10,.int .i64 (i:Int))]) rfl c9.eval (fW (hfr 10 _ (by kernel_rfl) rfl))⟩
    | 10,_,_=>exact ⟨_,rfl,rfl,by
     have h9:=(hD 9 108 (by kernel_rfl)).1 (by decide)
     exact iN (l:=[(108,.int .i64 (i:Int))]) underlying3 underlying21 rfl (by omega) c9.eval (fW h9)⟩
    | 11,_,_=>exact ⟨_,rfl,rfl,by
     exact aV (l:=[(13,.int .i64 (x:Int))]) rfl c9.eval (fW (hfr 13 _ (by kernel_rfl) rfl))⟩
    | 12,_,_=>exact ⟨_,rfl,rfl,by
     have h9:=(hD 11 110 (by kernel_rfl)).1 (by decide)
     exact iN (l:=[(110,.int .i64 (x:Int))]) underlying3 underlying21 rfl (by omega) c9.eval (fW h9)⟩
    | 13,_,h9=>exact absurd (by decide) h9
    | 14,_,h9=>exact absurd (by decide) h9
    | i+15,h9,_=>omega
   ·intro i9 him s a0 c9 w ha0 hF9 hG hnew hD
    have hcase:i9=13∨i9=14:=by simpa using him
    rcases hcase with rfl | rfl
    ·have h2:=(hD 2 101 (by kernel_rfl)).1 (by decide)
     have h3:=(hD 8 107 (by kernel_rfl)).1 (by decide)
     have h4:=(hD 10 109 (by kernel_rfl)).1 (by decide)
     have h5:=(hD 12 111 (by kernel_rfl)).1 (by decide)
     rcases hG with ⟨rfl,hM9,h9⟩ | ⟨v,rfl,_⟩ | ⟨v,B,rfl,_⟩
     ·refine gK (vs:=[.pointer (some ⟨PB,0,none⟩),.agg #[.int .i32 ((ta.fa.nx (c / tb.n) x:Nat):Int),.int .i32 ((tb.fa.nx (c % tb.n) x:Nat):Int)],.int .i32 (i:Int),.int .i32 (x:Int)]) rfl tK (by simp only [List.map_cons,List.map_nil,h2,h3,h4,h5]) ?_
      refine (oI ta tb PB MB _ _ _ _ _ _ ll2 _ _ _ _ _ K w0 _ (ta.fa.nx (c / tb.n) x * tb.n+tb.fa.nx (c % tb.n) x) _ _ (h9.perm C9) hM9 hMb hMK hll2 (by omega) (by rw [f1];omega) (by rw [f2];omega) _ _ (by rw [f1]) (by rw [f2])).mono ?_
      rintro e w2 ⟨la9,fa9,ba9,lc9,fc9,bc9,ll9,k1,rfl,k2,k3⟩
      exact ⟨_,[(0,[_],0)],rfl,⟨fun _=>rfl,fun h=>absurd h (by decide)⟩,.inr (.inl ⟨_,rfl,la9,fa9,ba9,lc9,fc9,bc9,ll9,_,_,k1,rfl,k2,k3.perm C9.symm⟩)⟩
     ·exact absurd List.mem_cons_self (hnew _)
     ·exact absurd (List.mem_cons_of_mem _ List.mem_cons_self) (hnew _)
    ·obtain ⟨ON4,h4,hP4⟩:=(hD 13 112 (by kernel_rfl)).2 (by decide)
     have hP4:=hP4.1 rfl
     rcases hG with ⟨rfl,_,h9⟩ | ⟨v,rfl,la9,fa9,ba9,lc9,fc9,bc9,ll9,F9,Y9,k1,k0,k2,k3⟩ | ⟨v,B,rfl,_⟩
     ·cases h4
     ·have e9:c9.eval (.tmp 112)=v:=by
       have h8:=List.mem_singleton.1 h4
       rw [hP4] at h8
       simpa using h8
      subst k0
      refine yY rfl underlying59 sizeOf21 zeroValue21 (eH _) e9 ⟨[(w.heap.size,[_],0)],⟨fun h=>absurd h (by decide),fun _=>⟨_,_,rfl,rfl⟩⟩,.inr (.inr ⟨_,_,rfl,la9,fa9,ba9,lc9,fc9,bc9,ll9,F9,Y9,k1,rfl,k2.below ((Below.refl _ _).alloc (Nat.le_refl _) _),k3.alloc [_] 21⟩)⟩
     ·exact absurd List.mem_cons_self (hnew _)
   ·intro s c9 w hG hsz hdf hfr hval hin hmk hkeys hdist
    obtain ⟨O5,h5⟩:=hin 14 (by decide)
    rcases hG with ⟨rfl,_,h9⟩ | ⟨v,rfl,_⟩ | ⟨v,B,rfl,la9,fa9,ba9,lc9,fc9,bc9,ll9,F9,Y9,k1,rfl,hM9,hS2⟩
    ·cases h5
    ·exact absurd (congrArg Prod.fst (List.mem_singleton.1 h5)) (show (14:Nat)≠13 by decide)
    obtain ⟨O6,h6,hP6⟩:=hmk 14 113 (by decide) rfl
    obtain ⟨u9,Bz,hv9,hO9⟩:=hP6.2 rfl
    have e9:Bz=B:=by
     rw [hO9] at h6
     simp at h6
     exact h6.1
    subst e9
    clear hS;have hS:=hS2.markK hM9;clear hS2
    refine (show cJ _ _ _ _ (List.drop 15 _) [(0,.pointer (some ⟨PB,0,none⟩)),(1,.int .i64 (mo:Int)),(2,.func (.func f) #[] #[]),(6,.pointer (some ⟨B1,0,none⟩)),(8,.pointer (some ⟨B2,0,none⟩)),(9,.bool false),(10,.int .i64 (i:Int)),(12,.slice (fV tb.na tb.nc ((c % tb.n) * tb.k) 1) tb.k (tb.nc - (c % tb.n) * tb.k)),(92,.slice (fV ta.na ta.nc ((c / tb.n) * ta.k) 1) ta.k (ta.nc - (c / tb.n) * ta.k)),(93,.int .i64 (ta.k:Int)),(94,.int .i64 (x:Int)),(100,.slice na (i * ta.k+x) nc),(113,.slice (some ⟨Bz,0,none⟩) 1 1)] w from ?_) c9 (vI.has hsz hdf ⟨hfr 0 _ (by kernel_rfl) rfl,hfr 1 _ (by kernel_rfl) rfl,hfr 2 _ (by kernel_rfl) rfl,hfr 6 _ (by kernel_rfl) rfl,hfr 8 _ (by kernel_rfl) rfl,hfr 9 _ (by kernel_rfl) rfl,hfr 10 _ (by kernel_rfl) rfl,hfr 12 _ (by kernel_rfl) rfl,hfr 92 _ (by kernel_rfl) rfl,hfr 93 _ (by kernel_rfl) rfl,hfr 94 _ (by kernel_rfl) rfl,hval 1 100 (by decide) (by decide) rfl,hv9,trivial⟩)
    refine cR (i:=3) (news:=[_]) hS underlying59 dZ rfl rfl (by show 0 < 1;decide) rfl rfl rfl rfl rfl (aT.own (j:=0) (m:=1) (hS.at_ 0 rfl) rfl) rfl rfl (by dsimp only;simp only [maxLen];omega) (by dsimp only;show _ * 4≤_;omega) rfl fun v10 W10 hS=>?_
    obtain ⟨na8,nc8,e9,_⟩:=bQ (hS.row 3 rfl)
    dsimp only at e9
    subst e9
    refine aU (o':=1) iK rfl rfl rfl (bL (i:=2) (cs':=[_,_,_]) (O':=(_::_::_::_::_::Ot)) hS sizeOf59 rfl rfl rfl rfl rfl rfl rfl fun W11 hS=>aK (XF.blkN (XF.thenN (aN (bY rfl rfl (IntWalk.i64_in _ (by omega)) rfl (aA rfl rfl (aK ?_)))))))
    have hqm:qm (aR ta.fa tb.fa g) id (i * ta.k+x+1)=mtS id (qm (aR ta.fa tb.fa g) id (i * ta.k+x)) (ta.fa.nx (c / tb.n) x * tb.n+tb.fa.nx (c % tb.n) x):=by rw [show i * ta.k+x+1=(i * ta.k+x)+1 from rfl,rO];show mtS id _ (ncd (aR ta.fa tb.fa g) (i * ta.k+x))=_;rw [hnc]
    have eq2:qfl (aR ta.fa tb.fa g) id (i * ta.k+x)=mtI id (qm (aR ta.fa tb.fa g) id (i * ta.k+x)) (ta.fa.nx (c / tb.n) x * tb.n+tb.fa.nx (c % tb.n) x):=by rw [sY];show mtI id _ (ncd (aR ta.fa tb.fa g) (i * ta.k+x))=_;rw [hnc]
    have eq3:(List.range (i * ta.k+x+1)).map (qfl (aR ta.fa tb.fa g) id)=(List.range (i * ta.k+x)).map (qfl (aR ta.fa tb.fa g) id)++[mtI id (qm (aR ta.fa tb.fa g) id (i * ta.k+x)) (ta.fa.nx (c / tb.n) x * tb.n+tb.fa.nx (c % tb.n) x)]:=by
     show (List.range ((i * ta.k+x)+1)).map _=_
     rw [List.range_succ,List.map_append,List.map_singleton,eq2]
    have hM8:=hM9.at_ hS (by simp)
    have hS9:=hS.tail.castG (G':=(⟨.slice la9 (ll9) lc9,ll9,prs tb.n (qm (aR ta.fa tb.fa g) id (i * ta.k+x+1)),95,2⟩::⟨.slice fa9 (ll9) fc9,ll9,dA F9,21,1⟩::⟨.slice ba9 (ll9) bc9,ll9,dA Y9,21,1⟩::⟨.slice na8 (i * ta.k+x+1) nc8,i * ta.k+x+1,i32 ((List.range (i * ta.k+x+1)).map (qfl (aR ta.fa tb.fa g) id)),21,1⟩::⟨.slice aa (i+1) ac,i+1,bvs ((List.range (i+1)).map (fun j=>(aR ta.fa tb.fa g).ac ((qm (aR ta.fa tb.fa g) id (i * ta.k)).getD j 0))),4,1⟩::G)) (by show (_::_::_::GR.mk _ _ (i32 _++[Value.int .i32 _]) _ _::_)=_;rw [eq3,← nJ,hqm])
    rw [← hqm] at k1 hM8
    exact XF.round (ta.k - (x+1)) [(0,_),(1,_),(2,_),(6,_),(8,_),(9,_),(10,_),(12,_),(92,_),(93,_),(94,_)] (by omega) ⟨rfl,rfl,rfl,rfl,rfl,rfl,rfl,rfl,rfl,rfl,rfl,trivial⟩ ⟨x+1,la9,fa9,ba9,na8,aa,lc9,fc9,bc9,nc8,ac,ll9,_,_,by omega,rfl,rfl,k1,hM8,hS9.keep K (fun q hq=>by simp [hq])⟩
  ·have hc95:=of_decide_eq_false hc;clear hc
   have exk:x=ta.k:=by omega
   have es:(i+1) * ta.k=i * ta.k+x:=by rw [Nat.succ_mul,exk]
   have hle9:i * ta.k≤(i+1) * ta.k:=Nat.mul_le_mul_right _ (Nat.le_succ i)
   have hll3:ll≤ll2:=by rw [← hll,← hll2,← es];exact dQ hle9
   rw [← es] at hll2 hM2 hS
   rw [← acl_up hle9 (show i+1≤(qm (aR ta.fa tb.fa g) id (i * ta.k)).length by omega)] at hS
   refine cV (XF.thenX (XF.thenX (XF.blkX (XF.blkN (XF.thenN (aN (aA rfl rfl (bY rfl rfl (IntWalk.i64_in _ (by omega)) rfl (aB rfl rfl (aK ?_))))))))))
   exact XF.round (4096 - (i+1)) [(0,_),(1,_),(2,_),(6,_),(8,_),(9,_),(10,_)] (by omega) ⟨rfl,rfl,rfl,rfl,rfl,rfl,rfl,trivial⟩ ⟨i+1,la,fa,ba,na,aa,lc,fc,bc,nc,ac,ll2,F,Y,by omega,rfl,rfl,hll2,fun j hj=>(by
    rcases Nat.lt_or_ge j i with h9 | h9
    ·exact hrows j h9
    ·rw [show j=i by omega,hll];exact hil),hM2.at_ hS (by simp),hS.tail.keep K (fun q hq=>by simp [hq])⟩
 ·have hc27:=of_decide_eq_false hc;clear hc
  obtain rfl:ll=i:=by omega
  have hQ:QuoOk (aR ta.fa tb.fa g) id ll:=⟨hA,hll,hrows⟩
  refine cV (XF.thenX (XF.thenX (XF.blkX (XF.thenN (aH (aN (bC (vs:=[_,_,_]) isAgg61 sizeOf61 rfl (aT.own (j:=0) (m:=3) (hS.at_ 0 rfl) rfl) rfl (aA rfl rfl ?_))))))))
  obtain ⟨ma1,mc1,e1,hcap⟩:=bQ (hS.row 3 rfl)
  dsimp only at e1 hcap
  injection e1 with _ _ e3
  subst e3
  have hSa:=((hS.keep K (fun q hq=>by simp [hq])).tailG.tailG.tailG)
  obtain ⟨K1,k1,h1h,hS1⟩:=hSa.rowKeep
  obtain ⟨K2,k2,h2h,hS2⟩:=hS1.rowKeep
  obtain ⟨q0,hq0⟩:∃ q0,q0=TB.mk ta.k ll na nc ((List.range (ll * ta.k)).map (qfl (aR ta.fa tb.fa g) id)) aa ac ((List.range (ll)).map (fun j=>(aR ta.fa tb.fa g).ac ((qm (aR ta.fa tb.fa g) id (ll * ta.k)).getD j 0))):=⟨_,rfl⟩
  have hq0T:TOk q0:=by
   subst hq0
   refine ⟨by simp,by simp,fun p hp9=>?_,hQ.pos,hcap,by show ll≤_;omega,hka⟩
   show gN ((List.range (ll * ta.k)).map (qfl (aR ta.fa tb.fa g) id)) p < ll
   rw [nR hp9];exact sQ hQ hp9
  have hag:Agr q0.fa (quo (aR ta.fa tb.fa g) id ll):=vS hQ (by rw [hq0]) (by rw [hq0];rfl) hq0T (fun p hp9=>by rw [hq0];exact nR hp9) (fun j hj=>by
   rw [hq0]
   show ((List.range (ll)).map (fun j=>(aR ta.fa tb.fa g).ac ((qm (aR ta.fa tb.fa g) id (ll * ta.k)).getD j 0))).getD j false=_
   rw [List.getD_eq_getElem?_getD,List.getElem?_map,List.getElem?_range hj];rfl)
  have hB0:cL w0 K2 (TAt q0):=fun h9 hk9=>by
   subst hq0
   exact ⟨fun j u hu=>h1h h9 (fun q hq=>hk9 q (k2 q hq)) j _ (by unfold i32;rw [List.getElem?_map,hu];rfl),fun j u hu=>h2h h9 hk9 j _ (by unfold bvs;rw [List.getElem?_map,hu];rfl)⟩
  refine bW (vs:=[_,_]) pH rfl (xP q0 mo K2 _ _ K2 w0 _ _ (by rw [hq0]) hS2 hq0T (fun q hq=>hq) hB0 (by rw [hq0];show ll≤mo;omega)) rfl ?_
  rintro e W9 ⟨q1,K3,rfl,hqk,hqn,hqT,hqo,hqr,hqe,k3,hqB,hS9⟩
  refine ⟨_,rfl,?_⟩
  clear hS hS1 hSa hS2;have hS:=hS9;clear hS9
  refine bO rfl rfl rfl (bO rfl rfl rfl (bU (i:=1) (vs:=[_,_,_]) (cs':=[_,_,_]) (O':=(_::_::_::Ot)) hS sizeOf61 rfl rfl rfl rfl rfl rfl rfl fun W12 hS=>aB rfl rfl (aK (XF.thenN (cK (XF.res (gX (vs:=[_,_,_]) results59 isAgg61 sizeOf61 rfl (aT.own (j:=0) (m:=3) (hS.at_ 1 rfl) rfl) rfl) ?_))))))
  exact ⟨q1,K3,rfl,hqT,by rw [hqk,hq0],by rw [hq0] at hqn;exact Nat.le_trans hqn (show ll≤_ by rw [← hll];exact hq1),hqo,hqr,Eqv.trans (B:=q0.fa) hqk hqe (Eqv.trans (B:=quo (aR ta.fa tb.fa g) id ll) (by rw [hq0];rfl) (hag.eqv hq0T.pos) (nI hQ zL)),fun z hz=>k3 z (k2 z (k1 z hz)),hqB,(hS.keep K3 (fun q hq=>by simp [hq])).tail.tail.tail⟩
theorem goes_56:cC prog 56=true:=by kernel_rfl
def fG (l:List Int):List Value:=l.map (fun x=>Value.int .i64 x)
theorem i64z_len {l:List Int}:(fG l).length=l.length:=List.length_map _
theorem iM {l:List Int} {i:Nat} (h:i < l.length):(fG l)[0+i * 1]?=some (.int .i64 (l.getD i 0)):=by
 rw [Nat.zero_add,Nat.mul_one];unfold fG;simp [h]
theorem fX {l:List Int} {i:Nat} {x:Int}:(fG l).set (0+i * 1) (.int .i64 x)=fG (l.set i x):=by
 rw [Nat.zero_add,Nat.mul_one];unfold fG;rw [List.map_set]
theorem pL (m:Nat):madeCells (Value.int .i64 0).cells (m * 1)=(fG (List.replicate m 0)).toArray:=by
 unfold fG;rw [List.map_replicate,Nat.mul_one];exact sS _ _
def qT (A:FA) (cls:Nat→Nat) (N:Nat):TB:=⟨A.k,N,none,N * A.k,(List.range (N * A.k)).map (qfl A cls),none,0,(List.range N).map (fun j=>A.ac ((qm A cls (N * A.k)).getD j 0))⟩
theorem Da {A:FA} {cls:Nat→Nat} {N:Nat} (hQ:QuoOk A cls N) (h1:N≤100000) (h2:A.k≤100000):TOk (qT A cls N):=by
 refine ⟨by simp [qT],by simp [qT],fun p hp=>?_,hQ.pos,Nat.le_refl _,h1,h2⟩
 have hp:p < N * A.k:=hp
 show gN ((List.range (N * A.k)).map (qfl A cls)) p < N
 rw [nR hp];exact sQ hQ hp
theorem Db {A:FA} {cls:Nat→Nat} {N:Nat} (hQ:QuoOk A cls N) (h1:N≤100000) (h2:A.k≤100000):Agr (qT A cls N).fa (quo A cls N):=vS hQ rfl rfl (Da hQ h1 h2) (fun p hp=>nR hp) (fun j hj=>by
 show ((List.range N).map _).getD j false=_
 rw [List.getD_eq_getElem?_getD,List.getElem?_map,List.getElem?_range hj];rfl)
theorem Dc {A:FA} {cls:Nat→Nat} {N i:Nat} (hi:i < N):lZ (qT A cls N) i=(List.range A.k).map (fun x=>((qfl A cls (i * A.k+x):Nat):Int)):=by
 unfold lZ
 refine List.map_congr_left fun x hx=>?_
 show ((gN ((List.range (N * A.k)).map (qfl A cls)) (i * A.k+x):Nat):Int)=_
 have hx:x < A.k:=List.mem_range.1 hx
 rw [nR (iG hi hx)]
def rz (A:FA) (cls:Nat→Nat) (i x:Nat):List Nat:=(List.range x).map (fun y=>qfl A cls (i * A.k+y))++List.replicate (A.k - x) 0
theorem tT {A:FA} {cls:Nat→Nat} {i x:Nat} (h:x≤A.k):(rz A cls i x).length=A.k:=by unfold rz;simp;omega
theorem zM {A:FA} {cls:Nat→Nat} {i:Nat}:rz A cls i 0=List.replicate A.k 0:=by unfold rz;simp
theorem tU {A:FA} {cls:Nat→Nat} {i x:Nat} (h:x < A.k):(rz A cls i x).set x (qfl A cls (i * A.k+x))=rz A cls i (x+1):=by
 unfold rz
 obtain ⟨m,hm⟩:∃ m,A.k - x=m+1:=⟨A.k - x - 1,by omega⟩
 rw [hm,show A.k - (x+1)=m by omega,List.replicate_succ,List.set_append_right _ _ (by simp),List.length_map,List.length_range,Nat.sub_self,List.set_cons_zero,List.range_succ,List.map_append,List.append_assoc];rfl
theorem jD {A:FA} {cls:Nat→Nat} {i:Nat}:wI (rz A cls i A.k)=(List.range A.k).map (fun x=>((qfl A cls (i * A.k+x):Nat):Int)):=by unfold rz wI;simp
theorem eU {A:FA} {cls:Nat→Nat} {l:List Nat} {i c:Nat} {b:Bool} (h:l.getD i 0=c) (hb:b=A.ac c):(List.range i).map (fun j=>A.ac (l.getD j 0))++[b]=(List.range (i+1)).map (fun j=>A.ac (l.getD j 0)):=by
 rw [List.range_succ,List.map_append,List.map_singleton,h,hb]
theorem gM {A:FA} {cls:Nat→Nat} {i p q:Nat} (h:p≤q) (hi:i≤(qm A cls p).length):(List.range i).map (fun j=>A.ac ((qm A cls q).getD j 0))=(List.range i).map (fun j=>A.ac ((qm A cls p).getD j 0)):=List.map_congr_left fun j hj=>by
 rw [eB h (Nat.lt_of_lt_of_le (List.mem_range.1 hj) hi)]
theorem eA {A:FA} {cls:Nat→Nat} {rs:List IV} {i:Nat} {r:IV} (hl:rs.length=i) (h:∀ (j:Nat) r,rs[j]?=some r→r.l=A.k∧r.xs=(List.range A.k).map (fun x=>((qfl A cls (j * A.k+x):Nat):Int))) (h1:r.l=A.k) (h2:r.xs=(List.range A.k).map (fun x=>((qfl A cls (i * A.k+x):Nat):Int))):∀ (j:Nat) r',(rs++[r])[j]?=some r'→r'.l=A.k∧r'.xs=(List.range A.k).map (fun x=>((qfl A cls (j * A.k+x):Nat):Int)):=fun j r' hj=>by
 rcases Nat.lt_or_ge j rs.length with h3 | h3
 ·rw [List.getElem?_append_left h3] at hj;exact h j r' hj
 ·rw [List.getElem?_append_right h3] at hj
  obtain ⟨h4,h5⟩:=List.getElem?_eq_some_iff.1 hj
  have e:j=i:=by simp at h4;omega
  subst e
  simp at h5
  subst h5
  exact ⟨h1,h2⟩
theorem jX (d:DV) (Kt:List (Nat×World)) (Ot:Own) (G:bN) (K:List (Nat×World)) (w0 w:World) (hS0:St w0 Ot G K w) (hKt:∀ q∈Kt,q∈K) (hD:cL w0 Kt (fun W=>DIn W d)) (he:cU d=0) :
  Calls prog 35 #[d.val] w (fun e w'=>∃ (d2:DV) (Kn:List (Nat×World)),Lst d2 (dFA d)∧d2.nl≤d.nl∧e = .returned d2.val∧(∀ q∈K,q∈Kn)∧cL w0 Kn (fun W=>DIn W d2)∧St w0 Ot G Kn w'):=by
 refine cP (args:=[d.val]) func35 rfl ntmps35 rfl ?_
 have hS:=hS0
 obtain ⟨k9,hk9,h1,h2,h3,h4,h5,h6⟩:=dD he
 have hDI0:=hD hS0 hKt
 have hbl:d.bs.length=d.nl:=by have:=hDI0.alen;omega
 have hO:=jM hDI0 he
 have hkk:d.sy.toNat=k9:=by omega
 refine aH (aN (cI (cs:=[_,_,_]) hS rfl rfl rfl fun B1 W1 hS=>cE (cs:=[_,_,_]) hS zeroValue25 rfl rfl fun B2 W2 hS=>aK (XF.thenN (aH (aN (bC (vs:=[_,_,_]) isAgg25 sizeOf25 rfl (aT.own (j:=0) (m:=3) (hS.at_ 1 rfl) rfl) rfl (bW (vs:=[_]) goes_56 rfl (xO d Kt _ _ K w0 _ (hS.keep K (fun q hq=>by simp [hq])) hKt hD he) rfl ?_)))))))
 rintro e W9 ⟨ca,cl,cm,K1,rfl,hCl,hsub1,hR1,hS9⟩
 refine ⟨_,rfl,?_⟩
 clear hS;have hS:=hS9;clear hS9
 have hcl:=hCl.len
 have hclt:∀ s,s < d.nl→gN cl s < d.nl:=fun s hs=>Nat.lt_of_lt_of_le (hCl.lt s hs) hCl.le
 refine aB rfl rfl (aK (XF.thenN (aH (aN (aA rfl rfl (bX underlying36 rfl rfl ?_))))))
 refine eX (m:=d.nl) (cs:=fG (List.replicate d.nl 0)) hS underlying36 iD rfl rfl rfl (rfl) (rfl) (pL _) (by show (8:Int) * _≤_;omega) (by omega) rfl fun B3 W3 hS=>?_
 refine aB rfl rfl (aK (XF.thenN (aH (aH (aN (aB rfl rfl (aK (XF.thenN (bH ?_)))))))))
 refine cW (fun m l W=>∃ i:Nat,i≤d.nl∧m=d.nl - i∧l=[(1,.pointer (some ⟨B1,0,none⟩)),(2,.pointer (some ⟨B2,0,none⟩)),(3,.slice ca d.nl d.nl),(4,.slice (some ⟨B3,0,none⟩) d.nl d.nl),(5,.int .i64 (i:Int))]∧St w0 ((B3,fG (zm d.nl i),3)::(B2,[.int .i64 0,.slice none 0 0,.slice none 0 0],25)::(B1,[.int .i64 d.sy,.slice d.na d.nl d.nc,.slice d.aa d.al d.ac],25)::Ot) G K1 W) (d.nl - 0) ([(1,_),(2,_),(3,_),(4,_),(5,_)]) ⟨rfl,rfl,rfl,rfl,rfl,trivial⟩ (⟨0,Nat.zero_le _,rfl,rfl,by rw [pG];exact hS.keep K1 (fun q hq=>by simp [hq])⟩) ?_
 clear hS
 rintro m l W ⟨i,hi,rfl,rfl,hS⟩
 refine aH (aH (aN (aA rfl rfl (aA rfl rfl (bX underlying36 rfl rfl (cH rfl rfl rfl (aK (XF.thenN (bS rfl (fun hc=>?_) (fun hc=>?_))))))))))
 ·have hc20:=of_decide_eq_true hc;clear hc
  refine bV (XF.thenN (aH (bH (aN (aA rfl rfl (aA rfl rfl (aX (j:=i) underlying36 sizeOf3 rfl rfl (rfl) (by omega) rfl rfl ?_)))))))
  refine bL (i:=0) (cs':=fG ((zm d.nl i).set i (-1))) (O':=(_::_::_::Ot)) hS sizeOf3 rfl rfl rfl rfl (Nat.ble_eq_true_of_le (by rw [i64z_len,tA (by omega)];omega)) fX rfl fun W51 hS=>?_
  refine aK (XF.blkN (XF.thenN (aN (aA rfl rfl (bY rfl rfl (IntWalk.i64_in _ (by omega)) rfl (aB rfl rfl (aK ?_)))))))
  rw [tB (by omega)] at hS
  exact XF.round (d.nl - (i+1)) [(1,_),(2,_),(3,_),(4,_),(5,_)] (by omega) ⟨rfl,rfl,rfl,rfl,rfl,trivial⟩ ⟨i+1,by omega,rfl,rfl,hS.keep K1 (fun q hq=>by simp [hq])⟩
 ·have hc20:=of_decide_eq_false hc;clear hc
  have eic:i=d.nl:=by omega
  rw [eic,tC] at hS
  have hnm0:NumOk (gN cl) d.nl [] (List.replicate d.nl (-1)):=NumOk.start
  refine cV (XF.thenX (XF.thenX (XF.blkX (XF.thenN (aH (aN (aU (o':=0) dC rfl rfl rfl (aP isAgg3 rfl (aD (hS.at_ 2 rfl) rfl) rfl (dP (us:=[(0,.int .i64 _)]) rfl (qM _) rfl (cE (cs:=[_,_,_]) hS zeroValue25 rfl rfl fun B4 W4 hS=>bU (i:=0) (vs:=[_,_,_]) (cs':=[_,_,_]) (O':=(_::_::_::_::Ot)) hS sizeOf25 rfl rfl rfl rfl rfl rfl rfl fun W5 hS=>aK (XF.thenN (aH ?_))))))))))))
  have hS':=(hS.newG 4 1).newG 36 1;clear hS;have hS:=hS';clear hS'
  refine aN (bK (us:=[(0,.int .i64 _)]) hS underlying36 sizeOf3 zeroValue3 rfl rfl rfl (fZ _) rfl fun B6 W6 hS=>aB rfl rfl (aK (XF.thenN (aH ?_))))
  have hS':=(hS.castO (O':=((B6,[Value.int .i64 0]++[],3)::_::_::_::_::Ot)) rfl).ownRowE (n:=1) (c:=1) (sz:=1) rfl rfl (Nat.le_refl _) (by decide);clear hS;have hS:=hS';clear hS'
  obtain ⟨cb,co,hca,hc0⟩:=kI (hR1 hS (fun q hq=>by simp [hq])) (i:=0) (by omega)
  have hnm1:=hnm0.step (s:=0) (hclt 0 (by omega)) (by simp)
  have hq0:qm (dFA d) (gN cl) (0 * d.sy.toNat)=[0]:=by rw [Nat.zero_mul];rfl
  refine aN (aA rfl rfl (aA rfl rfl ?_))
  refine aX (j:=0) (b:=cb) (o:=co) (m:=d.nl) (c:=d.nl) underlying36 sizeOf3 (by show some (Value.slice _ _ _)=_;rw [hca]) rfl rfl (by omega) rfl rfl ?_
  refine aP isAgg3 rfl (hc0) rfl (aX (j:=gN cl 0) underlying36 sizeOf3 rfl rfl (rfl) (hclt 0 (by omega)) rfl rfl ?_)
  refine bL (i:=1) (cs':=fG ((List.replicate d.nl (-1)).set (gN cl 0) 0)) (O':=(_::_::_::_::Ot)) hS sizeOf3 rfl rfl rfl rfl (Nat.ble_eq_true_of_le (by rw [i64z_len,List.length_replicate];have:=hclt 0 (by omega);omega)) fX rfl fun W91 hS=>?_
  refine aK (XF.thenN (aH (aH (aN (aB rfl rfl (aK (XF.thenN (bH ?_))))))))
  refine cW (fun m l W=>∃ (i sl:Nat) (sa va wa:Option Addr) (sc vc wc:Nat) (nm:List Int) (rs:List IV) (Kk:List (Nat×World)),i≤sl∧m=d.nl - i∧l=[(1,.pointer (some ⟨B1,0,none⟩)),(2,.pointer (some ⟨B2,0,none⟩)),(3,.slice ca d.nl d.nl),(4,.slice (some ⟨B3,0,none⟩) d.nl d.nl),(6,.pointer (some ⟨B4,0,none⟩)),(7,.slice sa sl sc),(8,.int .i64 (i:Int))]∧(qm (dFA d) (gN cl) (i * d.sy.toNat)).length=sl∧(∀ j,j < i→j < (qm (dFA d) (gN cl) (j * d.sy.toNat)).length)∧NumOk (gN cl) d.nl (qm (dFA d) (gN cl) (i * d.sy.toNat)) nm∧rs.length=i∧(∀ (j:Nat) r,rs[j]?=some r→r.l=(dFA d).k∧r.xs=(List.range (dFA d).k).map (fun x=>((qfl (dFA d) (gN cl) (j * (dFA d).k+x):Nat):Int)))∧(∀ q∈K1,q∈Kk)∧cL w0 Kk (fun W=>∀ r∈rs,Row W r.a r.xs)∧St w0 ((B4,[.int .i64 d.sy,.slice va (i) vc,.slice wa (i) wc],25)::(B3,fG (nm),3)::(B2,[.int .i64 0,.slice none 0 0,.slice none 0 0],25)::(B1,[.int .i64 d.sy,.slice d.na d.nl d.nc,.slice d.aa d.al d.ac],25)::Ot) (⟨.slice sa (sl) sc,sl,i64n (qm (dFA d) (gN cl) (i * d.sy.toNat)),3,1⟩::⟨.slice va (i) vc,i,(rs).map IV.val,36,1⟩::⟨.slice wa (i) wc,i,bvs ((List.range (i)).map (fun j=>(dFA d).ac ((qm (dFA d) (gN cl) (i * d.sy.toNat)).getD j 0))),4,1⟩::G) Kk W) (d.nl - 0) ([(1,_),(2,_),(3,_),(4,_),(6,_),(7,_),(8,_)]) ⟨rfl,rfl,rfl,rfl,rfl,rfl,rfl,trivial⟩ (⟨0,1,some ⟨B6,0,none⟩,none,none,1,0,0,_,[],K1,Nat.zero_le _,rfl,rfl,by rw [hq0];rfl,fun j hj=>absurd hj (Nat.not_lt_zero _),by rw [hq0];exact hnm1,rfl,fun j r h=>(by cases h),fun q hq=>hq,fun _ _ r h=>(by cases h),by rw [hq0];exact hS.keep K1 (fun q hq=>by simp [hq])⟩) ?_
  clear hS
  rintro m l W ⟨i,sl,sa,va,wa,sc,vc,wc,nm,rs,Kk,hi,rfl,rfl,hsl,hrows,hnm,hrl,hrs,hsub,hRH,hS⟩
  have hqr:eR (dFA d) (gN cl) (i * d.sy.toNat):=fun q hq=>by
   obtain ⟨d1,_,d3⟩:=dM hq
   exact Nat.lt_of_lt_of_le (hrows _ d1) (dQ d3)
  obtain ⟨hq1,hq2⟩:=jI (cm:=d.nl) hO (fun _=>hqr) (fun h0=>by have h9:d.sy.toNat=0:=h0;rw [h9,Nat.mul_zero]) hclt
  refine aH (aH (aN (aA rfl rfl (aA rfl rfl (bX underlying36 rfl rfl (cH rfl rfl rfl (aK (XF.thenN (bS rfl (fun hc=>?_) (fun hc=>?_))))))))))
  ·have hc38:=of_decide_eq_true hc;clear hc
   obtain ⟨c,hcE⟩:∃ c,(qm (dFA d) (gN cl) (i * d.sy.toNat)).getD i 0=c:=⟨_,rfl⟩
   have hcx:(qm (dFA d) (gN cl) (i * d.sy.toNat))[i]?=some c:=by rw [← hcE,List.getD_eq_getElem?_getD,List.getElem?_eq_getElem (by omega)];rfl
   have hc9:c < d.nl:=hq2 _ (List.mem_of_getElem? hcx)
   refine bV (XF.thenN (aH (bH (aH (aN (aU (o':=0) dC rfl rfl rfl (aP isAgg3 rfl (aD (hS.at_ 3 rfl) rfl) rfl ?_)))))))
   refine eX (m:=d.sy.toNat) (cs:=i64n (List.replicate d.sy.toNat 0)) hS underlying36 iD rfl rfl rfl (by omega) (by omega) (lE _) (by show (8:Int) * _≤_;omega) (by omega) rfl fun B7 W7 hS=>?_
   refine aB rfl rfl (aK (XF.thenN (aH (aH (aN (aB rfl rfl (aK (XF.thenN (bH ?_)))))))))
   refine cW (fun m l W=>∃ (x sl:Nat) (sa:Option Addr) (sc:Nat) (nm:List Int),x≤d.sy.toNat∧m=d.sy.toNat - x∧l=[(1,.pointer (some ⟨B1,0,none⟩)),(2,.pointer (some ⟨B2,0,none⟩)),(3,.slice ca d.nl d.nl),(4,.slice (some ⟨B3,0,none⟩) d.nl d.nl),(6,.pointer (some ⟨B4,0,none⟩)),(7,.slice sa sl sc),(8,.int .i64 (i:Int)),(9,.slice (some ⟨B7,0,none⟩) d.sy.toNat d.sy.toNat),(10,.int .i64 (x:Int))]∧(qm (dFA d) (gN cl) (i * d.sy.toNat+x)).length=sl∧NumOk (gN cl) d.nl (qm (dFA d) (gN cl) (i * d.sy.toNat+x)) nm∧St w0 ((B7,i64n (rz (dFA d) (gN cl) i x),3)::(B4,[.int .i64 d.sy,.slice va (i) vc,.slice wa (i) wc],25)::(B3,fG (nm),3)::(B2,[.int .i64 0,.slice none 0 0,.slice none 0 0],25)::(B1,[.int .i64 d.sy,.slice d.na d.nl d.nc,.slice d.aa d.al d.ac],25)::Ot) (⟨.slice sa (sl) sc,sl,i64n (qm (dFA d) (gN cl) (i * d.sy.toNat+x)),3,1⟩::⟨.slice va (i) vc,i,(rs).map IV.val,36,1⟩::⟨.slice wa (i) wc,i,bvs ((List.range (i)).map (fun j=>(dFA d).ac ((qm (dFA d) (gN cl) (i * d.sy.toNat)).getD j 0))),4,1⟩::G) Kk W) (d.sy.toNat - 0) ([(1,_),(2,_),(3,_),(4,_),(6,_),(7,_),(8,_),(9,_),(10,_)]) ⟨rfl,rfl,rfl,rfl,rfl,rfl,rfl,rfl,rfl,trivial⟩ (⟨0,sl,sa,sc,nm,Nat.zero_le _,rfl,rfl,hsl,hnm,by rw [zM];exact hS.keep Kk (fun q hq=>by simp [hq])⟩) ?_
   clear hS
   have hil:i < (qm (dFA d) (gN cl) (i * d.sy.toNat)).length:=by omega
   clear hi
   rintro m l W ⟨x,sl9,sa,sc,nm,hx,rfl,rfl,hsl9,hnm,hS⟩
   refine aH (aH (aN (aA rfl rfl (aU (o':=0) dC rfl rfl rfl (aP isAgg3 rfl (aD (hS.at_ 4 rfl) rfl) rfl (cH rfl rfl rfl (aK (XF.thenN (bS rfl (fun hc=>?_) (fun hc=>?_))))))))))
   ·have hc47:=of_decide_eq_true hc;clear hc
    have hx9:x < d.sy.toNat:=by omega
    obtain ⟨sb,rfl⟩:=eG (hS.row 0 rfl) (by have:=dQ (A:=dFA d) (cls:=gN cl) (Nat.le_add_right (i * d.sy.toNat) x);omega)
    have hpk:(i * d.sy.toNat+x) / d.sy.toNat=i∧(i * d.sy.toNat+x) % d.sy.toNat=x:=dY hx9
    have hgd:(qm (dFA d) (gN cl) (i * d.sy.toNat+x)).getD i 0=c:=(eB (Nat.le_add_right _ _) hil).trans hcE
    have hil2:i < sl9:=by have:=dQ (A:=dFA d) (cls:=gN cl) (Nat.le_add_right (i * d.sy.toNat) x);omega
    have hmc:W.cell? ⟨sb,0+i * 1,none⟩=some (.int .i64 (c:Int)):=by
     rw [Nat.zero_add,Nat.mul_one]
     exact cX (hS.row 0 rfl) (k:=i) (by rw [lD (by omega)];exact congrArg (fun z:Nat=>some (Value.int .i64 (z:Int))) hgd)
    obtain ⟨r,nb,no,rb,ro,hna,q1,hra,hrlE,q2,hlt⟩:=oM (hD hS (fun q hq=>by simp [hsub q (hsub1 q (hKt q hq))])) he hc9 hc47
    have hqr2:eR (dFA d) (gN cl) (i * d.sy.toNat+x):=fun q hq=>by
     rcases Nat.lt_or_ge q (i * d.sy.toNat) with h9 | h9
     ·exact hqr q h9
     ·have h8:q / d.sy.toNat=i:=by
       rw [show q=i * d.sy.toNat+(q - i * d.sy.toNat) by omega];exact (dY (by omega)).1
      rw [show q / (dFA d).k=i from h8]
      exact Nat.lt_of_lt_of_le hil (dQ h9)
    obtain ⟨hq3,_⟩:=jI (cm:=d.nl) hO (fun _=>hqr2) (fun h0=>absurd (show d.sy.toNat=0 from h0) (by omega)) hclt
    have hclx:=hclt _ hlt
    have hnml:=hnm.len
    have hnat:=hnm.at_ _ hclx
    have eq1:qm (dFA d) (gN cl) (i * d.sy.toNat+x+1)=mtS (gN cl) (qm (dFA d) (gN cl) (i * d.sy.toNat+x)) ((dFA d).nx c x):=by
     show qm (dFA d) (gN cl) ((i * d.sy.toNat+x)+1)=_
     rw [rO,show (i * d.sy.toNat+x) / (dFA d).k=i from hpk.1,show (i * d.sy.toNat+x) % (dFA d).k=x from hpk.2,hgd]
    have eq2:qfl (dFA d) (gN cl) (i * d.sy.toNat+x)=mtI (gN cl) (qm (dFA d) (gN cl) (i * d.sy.toNat+x)) ((dFA d).nx c x):=by rw [sY,show (i * d.sy.toNat+x) / (dFA d).k=i from hpk.1,show (i * d.sy.toNat+x) % (dFA d).k=x from hpk.2,hgd]
    refine bV (XF.thenN (aH (bH (aH (iF (m:=12) cA hS (by kernel_rfl) (by kernel_rfl) rfl (bR 1 rfl 1 rfl rfl (fun w hw=>bA (o':=1) cO rfl rfl) rfl (bF 2 rfl 50 0 rfl rfl rfl (fun w hw=>aY isAgg22 rfl ((aO hw 0).cell (Nat.zero_le _) (aD (hS.at_ 4 rfl) rfl))) rfl (bR 3 rfl 7 rfl rfl (fun w hw=>aV rfl) rfl (bR 4 rfl 8 rfl rfl (fun w hw=>aV rfl) rfl (aZ 5 rfl (isV _) (aW _) (rgV (li:=[(52,_),(53,_)]) rfl (aL rfl) ⟨aJ 2 (aC rfl rfl rfl),aJ 3 (aC rfl rfl rfl),trivial⟩ (fun w hw=>bE (j:=i) (b:=sb) (o:=0) (m:=sl9) (c:=sc) underlying36 sizeOf3 rfl rfl rfl (by omega) rfl) (aG rfl)) (bF 6 rfl 54 4 rfl rfl rfl (fun w hw=>aY isAgg3 rfl ((aO hw 0).cell (Nat.zero_le _) (hmc))) rfl ?_)))))))))))
    refine aZ 7 rfl (isV _) (aW _) (rgV (li:=[(51,_),(55,_)]) rfl (aL rfl) ⟨aJ 1 (aC rfl rfl rfl),aJ 5 (aC rfl rfl rfl),trivial⟩ (fun w hw=>bE (j:=c) (b:=nb) (o:=no) (m:=d.nl) (c:=d.nc) underlying22 sizeOf36 (by show some (Value.slice _ _ _)=_;rw [hna]) rfl rfl (by omega) rfl) (aG rfl)) ?_
    refine bF 8 rfl 56 6 rfl rfl rfl (fun w hw=>aY isAgg36 rfl ((aO hw 0).cell (Nat.zero_le _) (q1))) rfl (bR 9 rfl 10 rfl rfl (fun w hw=>aV rfl) rfl ?_)
    refine aZ 10 rfl (isV _) (aW _) (rgV (li:=[(57,_),(58,_)]) rfl (aL rfl) ⟨aJ 7 (aC rfl rfl rfl),aJ 8 (aC rfl rfl rfl),trivial⟩ (fun w hw=>bE (j:=x) (b:=rb) (o:=ro) (m:=r.l) (c:=r.c) underlying36 sizeOf3 (by show some (Value.slice _ _ _)=_;rw [hra]) rfl (by omega) (by omega) rfl) (aG rfl)) ?_
    refine bF 11 rfl 59 9 rfl rfl rfl (fun w hw=>aY isAgg3 rfl ((aO hw 0).cell (Nat.zero_le _) (q2))) rfl (bF 12 rfl 60 10 rfl rfl rfl (fun w hw=>dI rfl) rfl (dJ ?_))
    intro W8 hbR hS'
    clear hS;have hS:=hS';clear hS'
    refine aI (aI (aI (aI (aI (aI (aI (aI (aI (aI (aI (aI (cN (XF.thenN (aH (aH ?_)))))))))))))))
    obtain ⟨cb2,co2,hca2,hcc⟩:=kI (hR1 hS (fun q hq=>by simp [hsub q hq])) (i:=(dFA d).nx c x) (by omega)
    refine aN (aA rfl rfl (aA rfl rfl (aA rfl rfl ?_)))
    refine aX (j:=(dFA d).nx c x) (b:=cb2) (o:=co2) (m:=d.nl) (c:=d.nl) underlying36 sizeOf3 (by show some (Value.slice _ _ _)=_;rw [hca2]) rfl rfl (by omega) rfl rfl ?_
    refine aP isAgg3 rfl (hcc) rfl (aX (j:=gN cl ((dFA d).nx c x)) underlying36 sizeOf3 rfl rfl (rfl) (hclx) rfl rfl (aP isAgg3 rfl (aD (hS.at_ 2 rfl) (iM (by omega))) rfl (cH rfl rfl rfl (aK (XF.thenN (bS rfl (fun hc=>?_) (fun hc=>?_)))))))
    ·have hc68:=of_decide_eq_true hc;clear hc
     have hnew:gN cl ((dFA d).nx c x)∉(qm (dFA d) (gN cl) (i * d.sy.toNat+x)).map (gN cl):=fun h=>by
      rw [if_pos h] at hnat;omega
     have e1:mtS (gN cl) (qm (dFA d) (gN cl) (i * d.sy.toNat+x)) ((dFA d).nx c x)=qm (dFA d) (gN cl) (i * d.sy.toNat+x)++[(dFA d).nx c x]:=nL hnew
     have e2:mtI (gN cl) (qm (dFA d) (gN cl) (i * d.sy.toNat+x)) ((dFA d).nx c x)=sl9:=(pE hnew).trans hsl9
     refine aH (aN (aA rfl rfl (aA rfl rfl (aA rfl rfl ?_))))
     refine aX (j:=(dFA d).nx c x) (b:=cb2) (o:=co2) (m:=d.nl) (c:=d.nl) underlying36 sizeOf3 (by show some (Value.slice _ _ _)=_;rw [hca2]) rfl rfl (by omega) rfl rfl ?_
     refine aP isAgg3 rfl (hcc) rfl (aA rfl rfl (bX underlying36 rfl rfl (aX (j:=gN cl ((dFA d).nx c x)) underlying36 sizeOf3 rfl rfl (rfl) (hclx) rfl rfl ?_)))
     refine bL (i:=2) (cs':=fG (nm.set (gN cl ((dFA d).nx c x)) (sl9:Int))) (O':=(_::_::_::_::_::Ot)) hS sizeOf3 rfl rfl rfl rfl (Nat.ble_eq_true_of_le (by rw [i64z_len];omega)) fX rfl fun W81 hS=>?_
     refine aK (XF.thenN (aN (aA rfl rfl (aA rfl rfl (bK (us:=[(0,.int .i64 _)]) hS underlying36 sizeOf3 zeroValue3 rfl rfl rfl (fZ _) rfl fun B9 W9 hS=>?_)))))
     refine cR (i:=0) (news:=[_]) hS underlying36 iD rfl rfl (by show 0 < 1;decide) rfl rfl rfl rfl rfl (aT.own (j:=0) (m:=1) (hS.at_ 0 rfl) rfl) rfl rfl (by dsimp only;simp only [maxLen];omega) (by dsimp only;show _ * 8≤_;omega) rfl fun v10 W10 hS=>?_
     obtain ⟨sa9,sc9,e9,_⟩:=bQ (hS.row 0 rfl)
     dsimp only at e9
     subst e9
     obtain ⟨cb3,co3,hca3,hcc3⟩:=kI (hR1 hS (fun q hq=>by simp [hsub q hq])) (i:=(dFA d).nx c x) (by omega)
     refine aB rfl rfl (aK (XF.thenN (aN (aA rfl rfl (aA rfl rfl (aA rfl rfl (aA rfl rfl (aA rfl rfl ?_))))))))
     refine aX (j:=(dFA d).nx c x) (b:=cb3) (o:=co3) (m:=d.nl) (c:=d.nl) underlying36 sizeOf3 (by show some (Value.slice _ _ _)=_;rw [hca3]) rfl rfl (by omega) rfl rfl ?_
     refine aP isAgg3 rfl (hcc3) rfl (aX (j:=gN cl ((dFA d).nx c x)) underlying36 sizeOf3 rfl rfl (rfl) (hclx) rfl rfl ?_)
     refine aP isAgg3 rfl (aD (hS.at_ 3 rfl) (iM (by rw [List.length_set];omega))) rfl ?_
     refine aX (j:=x) underlying36 sizeOf3 rfl rfl (rfl) (by omega) rfl rfl ?_
     refine bL (i:=1) (cs':=i64n ((rz (dFA d) (gN cl) i x).set x (qfl (dFA d) (gN cl) (i * (dFA d).k+x)))) (O':=(_::_::_::_::_::_::Ot)) hS sizeOf3 rfl rfl rfl rfl (Nat.ble_eq_true_of_le (by rw [eT,tT (show x≤(dFA d).k from hx)];show 0+x * 1+1≤d.sy.toNat;omega)) (fK (by rw [show qfl (dFA d) (gN cl) (i * (dFA d).k+x)=_ from eq2,e2,List.getD_eq_getElem?_getD,List.getElem?_set_self (by omega)];rfl)) rfl fun W82 hS=>?_
     refine aK (XF.blkN (XF.thenN (aN (aA rfl rfl (bY rfl rfl (IntWalk.i64_in _ (by omega)) rfl (aB rfl rfl (aK ?_)))))))
     rw [tU (show x < (dFA d).k from hx9)] at hS
     rw [e1] at eq1
     have hS9:=hS.tail.castG (G':=(⟨.slice sa9 ((sl9+1)) sc9,(sl9+1),i64n (qm (dFA d) (gN cl) (i * d.sy.toNat+x+1)),3,1⟩::⟨.slice va (i) vc,i,(rs).map IV.val,36,1⟩::⟨.slice wa (i) wc,i,bvs ((List.range (i)).map (fun j=>(dFA d).ac ((qm (dFA d) (gN cl) (i * d.sy.toNat)).getD j 0))),4,1⟩::G)) (by rw [eq1,← lB rfl];rfl)
     exact XF.round (d.sy.toNat - (x+1)) [(1,_),(2,_),(3,_),(4,_),(6,_),(7,_),(8,_),(9,_),(10,_)] (by omega) ⟨rfl,rfl,rfl,rfl,rfl,rfl,rfl,rfl,rfl,trivial⟩ ⟨x+1,sl9+1,sa9,sc9,nm.set (gN cl ((dFA d).nx c x)) (sl9:Int),by omega,rfl,rfl,by show (qm (dFA d) (gN cl) (i * d.sy.toNat+x+1)).length=_;rw [eq1,List.length_append,hsl9];rfl,by show NumOk _ _ (qm (dFA d) (gN cl) (i * d.sy.toNat+x+1)) _;rw [eq1,← hsl9];exact hnm.step hclx hnew,hS9.keep Kk (fun q hq=>by simp [hq])⟩
    ·have hc68:=of_decide_eq_false hc;clear hc
     have hold:gN cl ((dFA d).nx c x)∈(qm (dFA d) (gN cl) (i * d.sy.toNat+x)).map (gN cl):=Decidable.of_not_not fun h=>by
      rw [if_neg h] at hnat;omega
     rw [if_pos hold] at hnat
     have e1:mtS (gN cl) (qm (dFA d) (gN cl) (i * d.sy.toNat+x)) ((dFA d).nx c x)=qm (dFA d) (gN cl) (i * d.sy.toNat+x):=lR hold
     have e2:((mtI (gN cl) (qm (dFA d) (gN cl) (i * d.sy.toNat+x)) ((dFA d).nx c x):Nat):Int)=nm.getD (gN cl ((dFA d).nx c x)) 0:=by rw [hnat];unfold mtI;rw [e1]
     refine bV (XF.thenN (aN (aA rfl rfl (aA rfl rfl (aA rfl rfl (aA rfl rfl (aA rfl rfl ?_)))))))
     refine aX (j:=(dFA d).nx c x) (b:=cb2) (o:=co2) (m:=d.nl) (c:=d.nl) underlying36 sizeOf3 (by show some (Value.slice _ _ _)=_;rw [hca2]) rfl rfl (by omega) rfl rfl ?_
     refine aP isAgg3 rfl (hcc) rfl (aX (j:=gN cl ((dFA d).nx c x)) underlying36 sizeOf3 rfl rfl (rfl) (hclx) rfl rfl (aP isAgg3 rfl (aD (hS.at_ 2 rfl) (iM (by omega))) rfl (aX (j:=x) underlying36 sizeOf3 rfl rfl (rfl) (by omega) rfl rfl ?_)))
     refine bL (i:=0) (cs':=i64n ((rz (dFA d) (gN cl) i x).set x (qfl (dFA d) (gN cl) (i * (dFA d).k+x)))) (O':=(_::_::_::_::_::Ot)) hS sizeOf3 rfl rfl rfl rfl (Nat.ble_eq_true_of_le (by rw [eT,tT (show x≤(dFA d).k from hx)];show 0+x * 1+1≤d.sy.toNat;omega)) (fK (by rw [show qfl (dFA d) (gN cl) (i * (dFA d).k+x)=_ from eq2,e2])) rfl fun W82 hS=>?_
     refine aK (XF.blkN (XF.thenN (aN (aA rfl rfl (bY rfl rfl (IntWalk.i64_in _ (by omega)) rfl (aB rfl rfl (aK ?_)))))))
     rw [tU (show x < (dFA d).k from hx9)] at hS
     rw [e1] at eq1
     rw [← eq1] at hsl9 hnm hS
     exact XF.round (d.sy.toNat - (x+1)) [(1,_),(2,_),(3,_),(4,_),(6,_),(7,_),(8,_),(9,_),(10,_)] (by omega) ⟨rfl,rfl,rfl,rfl,rfl,rfl,rfl,rfl,rfl,trivial⟩ ⟨x+1,sl9,_,sc,nm,by omega,rfl,rfl,hsl9,hnm,hS.keep Kk (fun q hq=>by simp [hq])⟩
   ·have hc47:=of_decide_eq_false hc;clear hc
    have exk:x=d.sy.toNat:=by omega
    have es:(i+1) * d.sy.toNat=i * d.sy.toNat+x:=by rw [Nat.succ_mul,exk]
    have hle9:i * d.sy.toNat≤(i+1) * d.sy.toNat:=Nat.mul_le_mul_right _ (Nat.le_succ i)
    rw [← es] at hsl9 hnm hS
    have hil2:i < sl9:=by have:=dQ (A:=dFA d) (cls:=gN cl) hle9;omega
    rw [exk] at hS
    obtain ⟨K3,k3,g3,hS3⟩:=(hS.keep Kk (fun q hq=>by simp [hq])).ownKeep
    clear hS;have hS:=hS3;clear hS3
    refine cV (XF.thenX (XF.thenX (XF.blkX (XF.thenN (aH (aN (aU (o':=1) cO rfl rfl rfl (aP isAgg22 rfl (aD (hS.at_ 0 rfl) rfl) rfl (aA rfl rfl (bK (us:=[(0,.slice _ _ _)]) hS underlying22 sizeOf36 zeroValue36 rfl rfl rfl (tE _ _ _) rfl fun B11 W11 hS=>?_))))))))))
    refine cR (i:=1) (news:=[_]) hS underlying22 xC rfl rfl (by show 0 < 1;decide) rfl rfl rfl rfl rfl (aT.own (j:=0) (m:=1) (hS.at_ 0 rfl) rfl) rfl rfl (by dsimp only;simp only [maxLen];omega) (by dsimp only;show _ * 24≤_;omega) rfl fun v12 W12 hS=>?_
    obtain ⟨va9,vc9,e9,_⟩:=bQ (hS.row 1 rfl)
    dsimp only at e9
    subst e9
    refine aU (o':=1) cO rfl rfl rfl (bL (i:=1) (cs':=[_,_,_]) (O':=(_::_::_::_::_::Ot)) hS sizeOf22 rfl rfl rfl rfl rfl rfl rfl fun W13 hS=>aK (XF.thenN ?_))
    obtain ⟨sb,rfl⟩:=eG (hS.row 0 rfl) (by omega)
    have hgd:(qm (dFA d) (gN cl) ((i+1) * d.sy.toNat)).getD i 0=c:=(eB hle9 hil).trans hcE
    have hmc:W13.cell? ⟨sb,0+i * 1,none⟩=some (.int .i64 (c:Int)):=by
     rw [Nat.zero_add,Nat.mul_one]
     exact cX (hS.row 0 rfl) (k:=i) (by rw [lD (by omega)];exact congrArg (fun z:Nat=>some (Value.int .i64 (z:Int))) hgd)
    obtain ⟨ab,ao,haa,hac⟩:=fE.get (hD hS (fun q hq=>by simp [k3 q (hsub q (hsub1 q (hKt q hq)))])).arow (i:=c) (by omega)
    refine yC (p:=11) (k:=13) (gi:=2) (m:=1) cA hS rfl rfl (by kernel_rfl) (by kernel_rfl) (by kernel_rfl) (fun d hd=>by cases hd) rfl rfl underlying23 jC rfl rfl (by show 0 < 1;decide) rfl rfl rfl (by dsimp only;simp only [maxLen];omega) (by dsimp only;show _ * 1≤_;omega) ?_
    refine cY 1 rfl rfl (by kernel_rfl) (rgV (li:=[(6,_)]) rfl (aL rfl) ⟨cD rfl,trivial⟩ (fun w hw=>bA (o':=2) cT rfl rfl) (aG rfl)) (cY 2 rfl rfl (by kernel_rfl) (rgV (li:=[(97,_)]) rfl (aL rfl) ⟨aJ 0 (aC rfl rfl rfl),trivial⟩ (fun w hw=>aY isAgg23 rfl ((aO hw 0).cell (Nat.zero_le _) (aD (hS.at_ 1 rfl) rfl))) (aG rfl)) (cY 3 rfl rfl (by kernel_rfl) (rgV (li:=[(1,_)]) rfl (aL rfl) ⟨cD rfl,trivial⟩ (fun w hw=>bA (o':=2) cT rfl rfl) (aG rfl)) (cY 4 rfl rfl (by kernel_rfl) (rgV (li:=[(99,_)]) rfl (aL rfl) ⟨aJ 2 (aC rfl rfl rfl),trivial⟩ (fun w hw=>aY isAgg23 rfl ((aO hw 0).cell (Nat.zero_le _) (aD (hS.at_ 4 rfl) rfl))) (aG rfl)) (cY 5 rfl rfl (by kernel_rfl) (rgV (li:=[(7,_)]) rfl (aL rfl) ⟨cD rfl,trivial⟩ (fun w hw=>aV rfl) (aG rfl)) (cY 6 rfl rfl (by kernel_rfl) (rgV (li:=[(8,_)]) rfl (aL rfl) ⟨cD rfl,trivial⟩ (fun w hw=>aV rfl) (aG rfl)) (cY 7 rfl rfl (by kernel_rfl) (rgV (li:=[(101,_),(102,_)]) rfl (aL rfl) ⟨aJ 4 (aC rfl rfl rfl),aJ 5 (aC rfl rfl rfl),trivial⟩ (fun w hw=>bE (j:=i) (b:=sb) (o:=0) (m:=sl9) (c:=sc) underlying36 sizeOf3 rfl rfl rfl (by omega) rfl) (aG rfl)) (cY 8 rfl rfl (by kernel_rfl) (rgV (li:=[(103,_)]) rfl (aL rfl) ⟨aJ 6 (aC rfl rfl rfl),trivial⟩ (fun w hw=>aY isAgg3 rfl ((aO hw 0).cell (Nat.zero_le _) (hmc))) (aG rfl)) ?_)))))))
    refine cY 9 rfl rfl (by kernel_rfl) (rgV (li:=[(100,_),(104,_)]) rfl (aL rfl) ⟨aJ 3 (aC rfl rfl rfl),aJ 7 (aC rfl rfl rfl),trivial⟩ (fun w hw=>bE (j:=c) (b:=ab) (o:=ao) (m:=d.al) (c:=d.ac) underlying23 sizeOf4 (by show some (Value.slice d.aa _ _)=_;rw [haa]) rfl rfl (by omega) rfl) (aG rfl)) ?_
    refine cY 10 rfl rfl (by kernel_rfl) (rgV (li:=[(105,_)]) rfl (aL rfl) ⟨aJ 8 (aC rfl rfl rfl),trivial⟩ (fun w hw=>aY isAgg4 rfl ((aO hw 0).cell (Nat.zero_le _) (hac))) (aG rfl)) (uG 11 rfl rfl (by kernel_rfl) (fQ W13.heap.size 1 4 _) (iU) (mX (us:=[.bool _]) rfl (aL rfl) underlying23 sizeOf4 zeroValue4 rfl rfl ⟨eN (aJ 9 (aC rfl rfl rfl)),trivial⟩ (eY _) (aG rfl)) (mZ 12 rfl rfl (iX 13 rfl rfl (rgV (li:=[(6,_)]) rfl (aL rfl) ⟨cD rfl,trivial⟩ (fun w hw=>bA (o':=2) cT rfl rfl) (aG rfl)) (lgV (li:=[(6,_)]) rfl (aL rfl) ⟨cD rfl,trivial⟩ (fun w=>bA (o':=2) cT rfl rfl) (aG rfl) rfl) (mY ⟨_,_,aJ 1 (aC rfl rfl rfl),aJ 10 (aC rfl rfl rfl),gY rfl rfl,?_⟩))))
    intro A14 v14 news14 W14 hbR hqA14 hS'
    clear hS;have hS:=hS';clear hS'
    cases hqA14
    refine aI (aI (aI (aI (aI (aI (aI (aI (aI (aI ?_)))))))))
    refine eO ?_;intro _ _
    refine aI (aI ?_)
    obtain ⟨wa9,wc9,e9,_⟩:=bQ (hS.row 2 rfl)
    dsimp only at e9
    subst e9
    refine cN (bL (i:=1) (cs':=[_,_,_]) (O':=(_::_::_::_::_::Ot)) hS sizeOf23 rfl rfl rfl rfl rfl rfl rfl fun W15 hS=>aK (XF.blkN (XF.thenN (aN (aA rfl rfl (bY rfl rfl (IntWalk.i64_in _ (by omega)) rfl (aB rfl rfl (aK ?_))))))))
    have hS9:=hS.tail.castG (G':=(⟨.slice (some ⟨sb,0,none⟩) (sl9) sc,sl9,i64n (qm (dFA d) (gN cl) ((i+1) * d.sy.toNat)),3,1⟩::⟨.slice va9 ((i+1)) vc9,(i+1),((rs++[IV.mk (some ⟨B7,0,none⟩) d.sy.toNat d.sy.toNat (wI (rz (dFA d) (gN cl) i d.sy.toNat))])).map IV.val,36,1⟩::⟨.slice wa9 ((i+1)) wc9,(i+1),bvs ((List.range ((i+1))).map (fun j=>(dFA d).ac ((qm (dFA d) (gN cl) ((i+1) * d.sy.toNat)).getD j 0))),4,1⟩::G)) (by show GR.mk _ _ _ _ _::GR.mk _ _ _ _ _::GR.mk _ _ (bvs _++[Value.bool _]) _ _::_=_;rw [fA,← gM (A:=dFA d) (cls:=gN cl) hle9 (show i≤(qm (dFA d) (gN cl) (i * d.sy.toNat)).length by omega),eU (A:=dFA d) (cls:=gN cl) (b:=d.bs.getD c false) hgd rfl,List.map_append];rfl)
    exact XF.round (d.nl - (i+1)) [(1,_),(2,_),(3,_),(4,_),(6,_),(7,_),(8,_)] (by have:=hq1;omega) ⟨rfl,rfl,rfl,rfl,rfl,rfl,rfl,trivial⟩ ⟨i+1,sl9,_,va9,wa9,sc,vc9,wc9,nm,rs++[IV.mk (some ⟨B7,0,none⟩) d.sy.toNat d.sy.toNat (wI (rz (dFA d) (gN cl) i d.sy.toNat))],K3,by omega,rfl,rfl,hsl9,fun j hj=>(by
     rcases Nat.lt_or_ge j i with h9 | h9
     ·exact hrows j h9
     ·rw [show j=i by omega];exact hil),hnm,by simp [hrl],eA hrl hrs rfl jD,fun q hq=>k3 q (hsub q hq),fun h9 hk9 r hr=>(by
     rcases List.mem_append.1 hr with h | h
     ·exact hRH h9 (fun q hq=>hk9 q (k3 q hq)) r h
     ·rw [List.mem_singleton.1 h];exact gL (g3 h9 hk9)),hS9.keep K3 (fun q hq=>by simp [hq])⟩
  ·have hc38:=of_decide_eq_false hc;clear hc
   obtain rfl:sl=i:=by omega
   have hQ:QuoOk (dFA d) (gN cl) sl:=⟨hO,hsl,hrows⟩
   have hsln:sl≤d.nl:=by rw [← hsl];exact hq1
   refine cV (XF.thenX (XF.thenX (XF.blkX (XF.thenN (aH (aN (bC (vs:=[_,_,_]) isAgg25 sizeOf25 rfl (aT.own (j:=0) (m:=3) (hS.at_ 0 rfl) rfl) rfl (bU (i:=2) (vs:=[_,_,_]) (cs':=[_,_,_]) (O':=(_::_::_::_::Ot)) hS sizeOf25 rfl rfl rfl rfl rfl rfl rfl fun W16 hS=>aK (XF.thenN (cK (XF.res (pS (vs:=[_,_,_]) results35 isAgg25 sizeOf25 rfl (aT.own (j:=0) (m:=3) (hS.at_ 2 rfl) rfl)) ?_)))))))))))
   obtain ⟨K5,k5,g5,hS5⟩:=((hS.keep Kk (fun q hq=>by simp [hq])).tailG).rowKeep
   obtain ⟨K6,k6,g6,hS6⟩:=hS5.rowKeep
   have hN1:sl≤100000:=by omega
   have hK1:(dFA d).k≤100000:=by show d.sy.toNat≤_;omega
   have hT:=Da hQ hN1 hK1
   have hag:=Db hQ hN1 hK1
   have hof:DOfT (qT (dFA d) (gN cl) sl) ⟨d.sy,va,sl,vc,rs,wa,sl,wc,(List.range (sl)).map (fun j=>(dFA d).ac ((qm (dFA d) (gN cl) (sl * d.sy.toNat)).getD j 0))⟩:=⟨by show d.sy=((d.sy.toNat:Nat):Int);omega,rfl,rfl,hrl,fun j r hr=>(by
    obtain ⟨u1,u2⟩:=hrs j r hr
    have hj:j < rs.length:=(List.getElem?_eq_some_iff.1 hr).1
    exact ⟨u1,u2.trans (Dc (N:=sl) (show j < sl by omega)).symm⟩),rfl⟩
   have hl:=xH (A:=dFA d) hT hof (hag.ord (yJ hQ)) (hag.red (yK hQ hCl.cong hCl.eqv)) (Eqv.trans (A:=(qT (dFA d) (gN cl) sl).fa) (B:=quo (dFA d) (gN cl) sl) rfl (hag.eqv hT.pos) (nI hQ hCl.cong)) rfl (by show sl≤1024;omega) (by show d.sy.toNat≤4096;omega) (Nat.le_trans (Nat.mul_le_mul hsln (show d.sy.toNat≤k9 by omega)) h5)
   exact ⟨_,K6,hl.1,hsln,rfl,fun z hz=>k6 z (k5 z (hsub z (hsub1 z hz))),fun h9 hk9=>tP hT hof ⟨fun j r hr=>g5 h9 (fun z hz=>hk9 z (k6 z hz)) j _ (by rw [List.getElem?_map,hr];rfl),hRH h9 (fun z hz=>hk9 z (k6 z (k5 z hz)))⟩ (nQ (g6 h9 hk9)),hS6.tail.tail.tail.tail⟩
theorem xQ (v0:Int) (v1a:Option Addr) (v1l:Nat) (v1c:Nat):prog.built 25 [(0,.int .i64 v0),(1,.slice v1a v1l v1c)]=some #[.int .i64 v0,.slice v1a v1l v1c,.slice none 0 0]:=by kernel_rfl
theorem nS:cC prog 35=true:=by kernel_rfl
def xR (d:DV) (aa:Option Addr) (ac:Nat):DV:=⟨d.sy,d.na,d.nl,d.nc,d.ns,aa,d.nl,ac,d.bs.map (!·)⟩
theorem negD_e {d:DV} {aa:Option Addr} {ac:Nat} (he:cU d=0):cU (xR d aa ac)=0:=by
 obtain ⟨k,hk,h1,h2,h3,h4,h5,h6⟩:=dD he
 have e:cU (xR d aa ac)=cU d:=by
  unfold cU xR
  dsimp only
  rw [h4]
 rw [e];exact he
theorem Dd {d:DV} {aa:Option Addr} {ac:Nat} (hO:(dFA d).Ok) (hb:d.bs.length=d.nl):Agr (dFA (xR d aa ac)) (nP (dFA d)):=⟨rfl,rfl,⟨hO.pos,hO.t0_⟩,fun s x _ _=>rfl,fun s hs=>by
 have hs:s < d.bs.length:=by rw [hb];exact hs
 show (d.bs.map (!·)).getD s false = !(d.bs.getD s false)
 rw [List.getD_eq_getElem?_getD,List.getD_eq_getElem?_getD,List.getElem?_map,List.getElem?_eq_getElem hs];rfl⟩
theorem rW {d:DV} {A B:FA} (h:Lst d A) (hk:A.k=B.k) (he:Eqv A 0 B 0):Lst d B:=⟨h.e,h.len,h.xl,h.bl,h.k.trans hk,h.ord,h.red,Eqv.trans (B:=A) h.k h.eqv he⟩
theorem De {W:World} {d:DV} {aa:Option Addr} {ac:Nat} (h:DIn W d) (hb:d.bs.length=d.nl) (ha:fE W aa (d.bs.map (!·))):DIn W (xR d aa ac):=⟨h.nrow,h.nlen,h.rin,ha,by show (d.bs.map (!·)).length=d.nl;rw [List.length_map];exact hb,h.nmax,h.nmax⟩
theorem vU {bs:List Bool} {i:Nat} {y:Bool} (h:bs[i]?=some y):bvs ((bs.take i).map (!·))++[Value.bool (!y)]=bvs ((bs.take (i+1)).map (!·)):=by
 rw [fA,List.take_add_one,h];simp
theorem rNot_is (d:DV) (Kt:List (Nat×World)) (Ot:Own) (G:bN) (K:List (Nat×World)) (w0 w:World) (hS0:St w0 Ot G K w) (hKt:∀ q∈Kt,q∈K) (hD:cL w0 Kt (fun W=>DIn W d)) :
  Calls prog 14 #[d.val] w (fun e w'=>∃ (d2:DV) (Kn:List (Nat×World)),LX d d2 (nP (dFA d))∧e = .returned (.tuple #[d2.val,.int .i64 (cU d)])∧(∀ q∈K,q∈Kn)∧cL w0 Kn (fun W=>DIn W d2)∧St w0 Ot G Kn w'):=by
 refine cP (args:=[d.val]) func14 rfl ntmps14 rfl ?_
 have hS:=hS0
 refine aH (aN (cI (cs:=[_,_,_]) hS rfl rfl rfl fun B1 W1 hS=>cE (cs:=[_,_,_]) hS zeroValue25 rfl rfl fun B2 W2 hS=>aB rfl rfl (aK (XF.thenN (aH (aN (bC (vs:=[_,_,_]) isAgg25 sizeOf25 rfl (aT.own (j:=0) (m:=3) (hS.at_ 1 rfl) rfl) rfl (bW (vs:=[_]) pI rfl (pB d _ (hD (hS.keep K (fun q hq=>by simp [hq])) hKt)) rfl ?_))))))))
 rintro e W9 ⟨rfl,hb9⟩
 refine ⟨_,rfl,?_⟩
 have hS':=hS.grow hb9;clear hS;have hS:=hS';clear hS'
 refine aB rfl rfl (aK (XF.thenN (aH (aH (aN (aA rfl rfl (dR rfl rfl rfl (aK (XF.thenN (bS rfl (fun hc=>?_) (fun hc=>?_)))))))))))
 ·have hc10:=of_decide_eq_true hc;clear hc
  refine aH (aN (dP (us:=[]) rfl (qS) rfl (aA rfl rfl (bU (i:=0) (vs:=[_,_,_]) (cs':=[_,_,_]) (O':=(_::_::Ot)) hS sizeOf25 rfl rfl rfl rfl rfl rfl rfl fun W3 hS=>aB rfl rfl (aK (XF.thenN (cK (XF.thenR (XF.res (gX (vs:=[_,_,_]) results14 isAgg25 sizeOf25 rfl (aT.own (j:=0) (m:=3) (hS.at_ 0 rfl) rfl) rfl) ?_)))))))))
  exact ⟨zD,K,⟨fun h=>absurd h hc10,fun _=>rfl⟩,rfl,fun z hz=>hz,fun _ _=>oK,(hS.keep K (fun q hq=>by simp [hq])).tail.tail⟩
 ·have hc10:=of_decide_eq_false hc;clear hc
  have he:cU d=0:=Decidable.of_not_not hc10
  obtain ⟨k,hk,h1,h2,h3,h4,h5,h6⟩:=dD he
  have hDI0:=hD hS0 hKt
  have hbl:d.bs.length=d.nl:=by have:=hDI0.alen;omega
  have hO:=kH he hDI0.nlen (fun r hr=>(hDI0.rin r hr).2.1)
  refine bV (XF.thenN (aH (aN (aU (o':=0) dC rfl rfl rfl (aP isAgg3 rfl (aD (hS.at_ 1 rfl) rfl) rfl (aU (o':=1) cO rfl rfl rfl (aP isAgg22 rfl (aD (hS.at_ 1 rfl) rfl) rfl (dP (us:=[(0,.int .i64 _),(1,.slice _ _ _)]) rfl (xQ _ _ _ _) rfl (cE (cs:=[_,_,_]) hS zeroValue25 rfl rfl fun B4 W4 hS=>bU (i:=0) (vs:=[_,_,_]) (cs':=[_,_,_]) (O':=(_::_::_::Ot)) hS sizeOf25 rfl rfl rfl rfl rfl rfl rfl fun W5 hS=>aK (XF.thenN (aH (aH ?_))))))))))))
  have hS':=hS.newG 4 1;clear hS;have hS:=hS';clear hS'
  refine aN (aB rfl rfl (aK (XF.thenN (bH (cW (fun m l W=>∃ (i:Nat) (wa:Option Addr) (wc:Nat),i≤d.nl∧m=d.nl - i∧l=[(1,.pointer (some ⟨B1,0,none⟩)),(2,.pointer (some ⟨B2,0,none⟩)),(5,.pointer (some ⟨B4,0,none⟩)),(6,.int .i64 (i:Int))]∧St w0 ((B4,[.int .i64 d.sy,.slice d.na d.nl d.nc,.slice wa (i) wc],25)::(B2,[.int .i64 0,.slice none 0 0,.slice none 0 0],25)::(B1,[.int .i64 d.sy,.slice d.na d.nl d.nc,.slice d.aa d.al d.ac],25)::Ot) (⟨.slice wa (i) wc,i,bvs ((d.bs.take (i)).map (!·)),4,1⟩::G) K W) (d.nl - 0) ([(1,_),(2,_),(5,_),(6,_)]) ⟨rfl,rfl,rfl,rfl,trivial⟩ (⟨0,none,0,Nat.zero_le _,rfl,rfl,hS.keep K (fun q hq=>by simp [hq])⟩) ?_)))))
  clear hS
  rintro m l W ⟨i,wa,wc,hi,rfl,rfl,hS⟩
  refine aH (aH (aN (aA rfl rfl (aU (o':=2) cT rfl rfl rfl (aP isAgg23 rfl (aD (hS.at_ 2 rfl) rfl) rfl (bX underlying23 rfl rfl (cH rfl rfl rfl (aK (XF.thenN (bS rfl (fun hc=>?_) (fun hc=>?_)))))))))))
  ·have hc22:=of_decide_eq_true hc;clear hc
   have hi9:i < d.nl:=by omega
   obtain ⟨b5,o5,y,hba,hy,hyc⟩:=fE.at9 (hD hS (fun q hq=>hKt q hq)).arow (i:=i) (by omega)
   refine bV (XF.thenN (aH (bH ?_)))
   refine yC (p:=9) (k:=11) (gi:=0) (m:=1) cA hS rfl rfl (by kernel_rfl) (by kernel_rfl) (by kernel_rfl) (fun d hd=>by cases hd) rfl rfl underlying23 jC rfl rfl (by show 0 < 1;decide) rfl rfl rfl (by dsimp only;simp only [maxLen];omega) (by dsimp only;show _ * 1≤_;omega) ?_
   refine cY 1 rfl rfl (by kernel_rfl) (rgV (li:=[(5,_)]) rfl (aL rfl) ⟨cD rfl,trivial⟩ (fun w hw=>bA (o':=2) cT rfl rfl) (aG rfl)) (cY 2 rfl rfl (by kernel_rfl) (rgV (li:=[(25,_)]) rfl (aL rfl) ⟨aJ 0 (aC rfl rfl rfl),trivial⟩ (fun w hw=>aY isAgg23 rfl ((aO hw 0).cell (Nat.zero_le _) (aD (hS.at_ 0 rfl) rfl))) (aG rfl)) (cY 3 rfl rfl (by kernel_rfl) (rgV (li:=[(1,_)]) rfl (aL rfl) ⟨cD rfl,trivial⟩ (fun w hw=>bA (o':=2) cT rfl rfl) (aG rfl)) (cY 4 rfl rfl (by kernel_rfl) (rgV (li:=[(27,_)]) rfl (aL rfl) ⟨aJ 2 (aC rfl rfl rfl),trivial⟩ (fun w hw=>aY isAgg23 rfl ((aO hw 0).cell (Nat.zero_le _) (aD (hS.at_ 2 rfl) rfl))) (aG rfl)) (cY 5 rfl rfl (by kernel_rfl) (rgV (li:=[(6,_)]) rfl (aL rfl) ⟨cD rfl,trivial⟩ (fun w hw=>aV rfl) (aG rfl)) ?_))))
   refine cY 6 rfl rfl (by kernel_rfl) (rgV (li:=[(28,_),(29,_)]) rfl (aL rfl) ⟨aJ 3 (aC rfl rfl rfl),aJ 4 (aC rfl rfl rfl),trivial⟩ (fun w hw=>bE (j:=i) (b:=b5) (o:=o5) (m:=d.al) (c:=d.ac) underlying23 sizeOf4 (by show some (Value.slice _ _ _)=_;rw [hba]) rfl rfl (by omega) rfl) (aG rfl)) ?_
   refine cY 7 rfl rfl (by kernel_rfl) (rgV (li:=[(30,_)]) rfl (aL rfl) ⟨aJ 5 (aC rfl rfl rfl),trivial⟩ (fun w hw=>aY isAgg4 rfl ((aO hw 0).cell (Nat.zero_le _) (hyc))) (aG rfl)) (cY 8 rfl rfl (by kernel_rfl) (rgV (li:=[(31,_)]) rfl (aL rfl) ⟨aJ 6 (aC rfl rfl rfl),trivial⟩ (fun w hw=>wE rfl) (aG rfl)) (uG 9 rfl rfl (by kernel_rfl) (fQ W.heap.size 1 4 _) (iU) (mX (us:=[.bool _]) rfl (aL rfl) underlying23 sizeOf4 zeroValue4 rfl rfl ⟨eN (aJ 7 (aC rfl rfl rfl)),trivial⟩ (eY _) (aG rfl)) (mZ 10 rfl rfl (iX 11 rfl rfl (rgV (li:=[(5,_)]) rfl (aL rfl) ⟨cD rfl,trivial⟩ (fun w hw=>bA (o':=2) cT rfl rfl) (aG rfl)) (lgV (li:=[(5,_)]) rfl (aL rfl) ⟨cD rfl,trivial⟩ (fun w=>bA (o':=2) cT rfl rfl) (aG rfl) rfl) (mY ⟨_,_,aJ 1 (aC rfl rfl rfl),aJ 8 (aC rfl rfl rfl),gY rfl rfl,?_⟩)))))
   intro A6 v6 news6 W6 hbR hqA6 hS'
   clear hS;have hS:=hS';clear hS'
   cases hqA6
   refine aI (aI (aI (aI (aI (aI (aI (aI ?_)))))))
   refine eO ?_;intro _ _
   refine aI (aI ?_)
   obtain ⟨wa9,wc9,e9,_⟩:=bQ (hS.row 0 rfl)
   dsimp only at e9
   subst e9
   refine cN (bL (i:=0) (cs':=[_,_,_]) (O':=(_::_::_::Ot)) hS sizeOf23 rfl rfl rfl rfl rfl rfl rfl fun W7 hS=>aK (XF.blkN (XF.thenN (aN (aA rfl rfl (bY rfl rfl (IntWalk.i64_in _ (by omega)) rfl (aB rfl rfl (aK ?_))))))))
   have hS9:=hS.castG (G':=(⟨.slice wa9 (i+1) wc9,i+1,bvs ((d.bs.take (i+1)).map (!·)),4,1⟩::G)) (by rw [← vU hy];rfl)
   exact XF.round (d.nl - (i+1)) [(1,_),(2,_),(5,_),(6,_)] (by omega) ⟨rfl,rfl,rfl,rfl,trivial⟩ ⟨i+1,wa9,wc9,by omega,rfl,rfl,hS9.keep K (fun q hq=>by simp [hq])⟩
  ·have hc22:=of_decide_eq_false hc;clear hc
   have ein:i=d.nl:=by omega
   subst ein
   rw [List.take_of_length_le (by omega)] at hS
   obtain ⟨K1,k1,g1,hS1⟩:=(hS.keep K (fun q hq=>by simp [hq])).rowKeep
   clear hS;have hS:=hS1;clear hS1
   have hDn:cL w0 K1 (fun W=>DIn W (xR d wa wc)):=fun h9 hk9=>De (hD h9 (fun q hq=>hk9 q (k1 q (hKt q hq)))) hbl (nQ (g1 h9 hk9))
   refine cV (XF.thenX (XF.thenX (XF.blkX (XF.thenN (aH (aN (bC (vs:=[_,_,_]) isAgg25 sizeOf25 rfl (aT.own (j:=0) (m:=3) (hS.at_ 0 rfl) rfl) rfl (bW (vs:=[_]) nS rfl (jX (xR d wa wc) K1 _ _ K1 w0 _ (hS.keep K1 (fun q hq=>by simp [hq])) (fun q hq=>hq) hDn (negD_e he)) rfl ?_))))))))
   rintro e W9 ⟨d2,K2,hL,hn2,rfl,hk2,hD2,hS9⟩
   refine ⟨_,rfl,?_⟩
   clear hS;have hS:=hS9;clear hS9
   refine bU (i:=1) (vs:=[_,_,_]) (cs':=[_,_,_]) (O':=(_::_::_::Ot)) hS sizeOf25 rfl rfl rfl rfl rfl rfl rfl fun W8 hS=>aB rfl rfl (aK (XF.thenN (cK (XF.res (gX (vs:=[_,_,_]) results14 isAgg25 sizeOf25 rfl (aT.own (j:=0) (m:=3) (hS.at_ 1 rfl) rfl) rfl) ?_))))
   exact ⟨d2,K2,⟨fun _=>⟨rW hL rfl ((Dd hO hbl).eqv hO.pos),hn2⟩,fun h=>absurd he h⟩,by rw [he],fun z hz=>hk2 z (k1 z hz),hD2,(hS.keep K2 (fun q hq=>by simp [hq])).tail.tail.tail⟩
theorem Au {α:Type} {l m:List α} {n:Nat} (h:l.take n=m.take n) (h1:l.length≤n) (h2:m.length≤n):l=m:=by
 rwa [List.take_of_length_le h1,List.take_of_length_le h2] at h
theorem zN {P:Program} {l:Fr} {W:World} {d:Nat} {ty t u:TypeId} {pos:String} {aft:Array Edge} {x y:Operand} {k:IntKind} {a b c:Int} (hx:evL l x=some (.int k a)) (hy:evL l y=some (.int k b)) (hb:b≠0) (hw:k.wrap (a.tdiv b)=c):dT P l ⟨some d,.binOp .quo t x y u,ty,pos,aft,none⟩ W (.int k c) W:=fun ev he=>by subst hw;exact dW (he x _ hx) (he y _ hy) eK (by simp [binOp,Op.intArith,Op.intDiv,hb])
def mostD (k:Nat):Nat:=if k=0 then 1024 else min 1024 (65536 / k)
theorem most_is (k:Nat) (w:World) (hk:k≤4096) :
  Calls prog 60 #[.int .i64 (k:Int)] w (fun e w'=>e = .returned (.int .i64 ((mostD k:Nat):Int))∧Below w.heap.size w w'):=by
 refine cP (args:=[.int .i64 (k:Int)]) func60 rfl ntmps60 rfl ?_
 have hS:=St.start w
 refine aH (aN (aB rfl rfl (aK (XF.thenN (aH (aH (aN (aA rfl rfl (fD rfl rfl rfl (aK (XF.thenN (bS rfl (fun hc=>?_) (fun hc=>?_)))))))))))))
 ·have hc4:=of_decide_eq_true hc;clear hc
  refine aH (aN (aB rfl rfl (aK (XF.thenN (cK (XF.thenR (XF.res (cZ results60 rfl) ?_)))))))
  exact ⟨by unfold mostD;rw [if_pos (by omega)];rfl,hS.below⟩
 ·have hc4:=of_decide_eq_false hc;clear hc
  refine bV (XF.thenN (aH (aN (aA rfl rfl (opV (zN rfl rfl (by omega) (IntWalk.i64_quo _ _ (by omega))) rfl (Bi rfl rfl rfl (aB rfl rfl (aK (XF.thenN (cK (XF.res (cZ results60 rfl) ?_)))))))))))
  have h9:((65536 / k:Nat):Int)=65536 / (k:Int):=by simp
  exact ⟨by unfold mostD;rw [if_neg (by omega)];exact congrArg Ending.returned (congrArg (Value.int .i64) (by omega)),hS.below⟩
theorem Df (y:Int) (k:Nat) (hy:y=(k:Int)) (w:World) (hk:k≤4096):Calls prog 60 #[.int .i64 y] w (fun e w'=>e = .returned (.int .i64 ((mostD k:Nat):Int))∧Below w.heap.size w w'):=by
 subst hy;exact most_is k w hk
theorem Dg (x y:Bool) (w:World) :
  Calls prog 44 #[.bool x,.bool y] w (fun e w'=>e = .returned (.bool (x && y))∧Below w.heap.size w w'):=by
 refine cP (args:=[.bool x,.bool y]) func44 rfl ntmps44 rfl ?_
 have hS:=St.start w
 refine aH (aN (aB rfl rfl (aK (XF.thenN (aH (aN (aA rfl rfl (aA rfl rfl (bZ (d:=6) rfl (fun hc=>?_) (fun hc=>?_))))))))))
 ·have hg6:=hc;clear hc
  refine aE (d:=6) rfl rfl (aA rfl rfl (bI rfl rfl rfl (aB rfl rfl (aK (XF.thenN (cK (XF.res (cZ results44 rfl) ?_)))))))
  exact ⟨by rw [hg6];rfl,hS.below⟩
 ·have hg6:=hc;clear hc
  refine aQ (d:=6) rfl rfl rfl rfl (cG rfl rfl rfl (aB rfl rfl (aK (XF.thenN (cK (XF.res (cZ results44 rfl) ?_))))))
  exact ⟨by rw [hg6];rfl,hS.below⟩
theorem xS (x y:Bool) (w:World) :
  Calls prog 46 #[.bool x,.bool y] w (fun e w'=>e = .returned (.bool (x || y))∧Below w.heap.size w w'):=by
 refine cP (args:=[.bool x,.bool y]) func46 rfl ntmps46 rfl ?_
 have hS:=St.start w
 refine aH (aN (aB rfl rfl (aK (XF.thenN (aH (aN (aA rfl rfl (aA rfl rfl (bZ (d:=6) rfl (fun hc=>?_) (fun hc=>?_))))))))))
 ·have hg6:=hc;clear hc
  refine aQ (d:=6) rfl rfl rfl rfl (bI rfl rfl rfl (aB rfl rfl (aK (XF.thenN (cK (XF.res (cZ results46 rfl) ?_))))))
  exact ⟨by rw [hg6];rfl,hS.below⟩
 ·have hg6:=hc;clear hc
  refine aE (d:=6) rfl rfl (aA rfl rfl (cG rfl rfl rfl (aB rfl rfl (aK (XF.thenN (cK (XF.res (cZ results46 rfl) ?_)))))))
  exact ⟨by rw [hg6];rfl,hS.below⟩
abbrev Z3t:List Value:=[.int .i64 0,.slice none 0 0,.slice none 0 0]
def mkN (i:Nat) (s:Mks):Prop:=∀ ON,(i,ON)∉s
def mkO (i:Nat) (X:Own) (s:Mks):Prop:=∀ ON,(i,ON)∈s↔ON=X
def mkA (i:Nat) (X:Own) (s:Mks):Prop:=∀ ON,(i,ON)∈s→ON=X
section
variable {i j:Nat} {X N:Own} {s:Mks}
theorem mkN.cons (h:mkN i s) (hij:i≠j):mkN i ((j,N)::s):=fun ON h9=>by
 rcases List.mem_cons.1 h9 with e | h9
 ·exact hij (congrArg Prod.fst e)
 ·exact h ON h9
theorem mkO.cons (h:mkO i X s) (hij:i≠j):mkO i X ((j,N)::s):=fun ON=>by
 rw [List.mem_cons,← h ON]
 exact ⟨fun h9=>h9.elim (fun e=>absurd (congrArg Prod.fst e) hij) id,.inr⟩
theorem mkA.cons (h:mkA i X s) (hij:i≠j):mkA i X ((j,N)::s):=fun ON h9=>by
 rcases List.mem_cons.1 h9 with e | h9
 ·exact absurd (congrArg Prod.fst e) hij
 ·exact h ON h9
theorem mkN.one (h:mkN i s):mkO i N ((i,N)::s):=fun ON=>by
 rw [List.mem_cons]
 exact ⟨fun h9=>h9.elim (fun e=>congrArg Prod.snd e) (fun h9=>absurd h9 (h ON)),fun e=>.inl (by rw [e])⟩
theorem mkO.a (h:mkO i X s):mkA i X s:=fun ON h9=>(h ON).1 h9
theorem mkN.a (h:mkN i s):mkA i X s:=fun ON h9=>absurd h9 (h ON)
theorem mkO.has (h:mkO i X s):(i,X)∈s:=(h X).2 rfl
end
def PmT (i:Nat) (v:Value) (ON:Own):Prop:=(i=11→∃ B,v = .pointer (some ⟨B,0,none⟩)∧ON=[(B,Z3t,61)])∧(i≠11→ON=[(0,[v],0)])
theorem PmT.one {i:Nat} {v:Value} (hi:i≠11):PmT i v [(0,[v],0)]:=⟨fun h=>absurd h hi,fun _=>rfl⟩
theorem PmT.val {i:Nat} {v x:Value} (h:PmT i v [(0,[x],0)]) (hi:i≠11):v=x:=by
 have h1:=h.2 hi
 simp at h1
 exact h1.symm
structure QF (da db:DV) (g:Bool→Bool→Bool) (q:TB):Prop where
 ok:TOk q
 k:(q.k:Int)=da.sy
 n:q.n≤da.nl * db.nl
 ord:q.fa.Ord
 red:q.fa.Red
 eqv:Eqv q.fa 0 (aR (dFA da) (dFA db) g) 0
def T1 (w0:World) (O:Own) (G:bN) (K:List (Nat×World)) (OA:Own) (s:Mks) (w:World):Prop:=mkN 2 s∧mkN 7 s∧mkN 8 s∧mkN 9 s∧mkN 10 s∧mkN 12 s∧St w0 (OA++O) G K w
def T2 (w0:World) (O:Own) (G:bN) (K:List (Nat×World)) (da db:DV) (OA:Own) (s:Mks) (w:World):Prop:=∃ (qda qdb:TB) (PB MB ll:Nat) (la fa ba:Option Addr) (lc fc bc:Nat) (K1:List (Nat×World)),mkO 2 [(0,[.pointer (some ⟨PB,0,none⟩)],0)] s∧mkN 7 s∧mkN 8 s∧mkN 9 s∧mkN 10 s∧mkN 12 s∧ll=1∧LeT da qda∧LeT db qdb∧(∀ q∈K,q∈K1)∧cL w0 K1 (fun W=>TAt qda W∧TAt qdb W)∧MkP qdb.n [0] MB w∧w0.heap.size≤MB∧(∀ q∈K1,MB < q.1∨q.2.heap.size≤MB)∧St w0 ((PB,prC qda qdb MB (.slice la (ll) lc) (.slice fa (ll) fc) (.slice ba (ll) bc),93)::(OA++O)) (⟨.slice la (ll) lc,ll,prs qdb.n ([0]),95,2⟩::⟨.slice fa (ll) fc,ll,dA ([-1]),21,1⟩::⟨.slice ba (ll) bc,ll,dA ([-1]),21,1⟩::G) K1 w
def T3 (w0:World) (O:Own) (G:bN) (K:List (Nat×World)) (da db:DV) (g:Bool→Bool→Bool) (OA:Own) (s:Mks) (w:World):Prop:=∃ (q:TB) (K2:List (Nat×World)) (ON2 ON5:Own),(2,ON2)∈s∧(5,ON5)∈s∧mkO 7 [(0,[.tuple #[q.val,.bool true]],0)] s∧mkA 8 [(0,[.tuple #[q.val,.bool true]],0)] s∧mkA 9 [(0,[q.val],0)] s∧mkA 10 [(0,[.bool true],0)] s∧mkN 12 s∧QF da db g q∧(∀ q∈K,q∈K2)∧cL w0 K2 (TAt q)∧St w0 (OA++O) G K2 w
def T4 (w0:World) (O:Own) (G:bN) (K:List (Nat×World)) (da db:DV) (g:Bool→Bool→Bool) (s:Mks) (w:World):Prop:=∃ (q:TB) (K2:List (Nat×World)) (B:Nat) (ON2 ON5 ON7 ON8 ON9 ON12:Own),(2,ON2)∈s∧(5,ON5)∈s∧(7,ON7)∈s∧(8,ON8)∈s∧(9,ON9)∈s∧(12,ON12)∈s∧mkO 11 [(B,Z3t,61)] s∧mkA 8 [(0,[.tuple #[q.val,.bool true]],0)] s∧mkA 10 [(0,[.bool true],0)] s∧QF da db g q∧(∀ q∈K,q∈K2)∧cL w0 K2 (TAt q)∧St w0 ((B,q.cells,61)::O) G K2 w
def AL (OA:Own) (s:Mks):Prop:=(mkN 11 s∧OA=[])∨∃ B,mkO 11 [(B,Z3t,61)] s∧OA=[(B,Z3t,61)]
def TG (w0:World) (O:Own) (G:bN) (K:List (Nat×World)) (da db:DV) (g:Bool→Bool→Bool) (s:Mks) (w:World):Prop:=(∃ OA,AL OA s∧(T1 w0 O G K OA s w∨T2 w0 O G K da db OA s w∨T3 w0 O G K da db g OA s w))∨T4 w0 O G K da db g s w
theorem AL.cons {OA:Own} {s:Mks} {j:Nat} {N:Own} (h:AL OA s) (hj:11≠j):AL OA ((j,N)::s):=by
 rcases h with ⟨h1,h2⟩ | ⟨B,h1,h2⟩
 ·exact .inl ⟨h1.cons hj,h2⟩
 ·exact .inr ⟨B,h1.cons hj,h2⟩
section
variable {w0 w:World} {O:Own} {G:bN} {K:List (Nat×World)} {da db:DV} {g:Bool→Bool→Bool} {s:Mks}
theorem mkN.nil {i:Nat}:mkN i []:=fun _ h=>(by cases h)
theorem TG.start (hS:St w0 O G K w):TG w0 O G K da db g [] w:=.inl ⟨[],.inl ⟨mkN.nil,rfl⟩,.inl ⟨mkN.nil,mkN.nil,mkN.nil,mkN.nil,mkN.nil,mkN.nil,hS⟩⟩
theorem TG.own (h:TG w0 O G K da db g s w):∀ p∈O,w.heap[p.1]?=some (.cells p.2.1.toArray p.2.2 (0,0)):=fun p hp=>by
 rcases h with ⟨OA,_,⟨_,_,_,_,_,_,hS⟩ | ⟨_,_,_,_,_,_,_,_,_,_,_,_,_,_,_,_,_,_,_,_,_,_,_,_,_,_,hS⟩ | ⟨_,_,_,_,_,_,_,_,_,_,_,_,_,_,hS⟩⟩ | ⟨_,_,_,_,_,_,_,_,_,_,_,_,_,_,_,_,_,_,_,_,_,hS⟩
 ·exact (hS.own p (List.mem_append_right _ hp)).2
 ·exact (hS.own p (List.mem_cons_of_mem _ (List.mem_append_right _ hp))).2
 ·exact (hS.own p (List.mem_append_right _ hp)).2
 ·exact (hS.own p (List.mem_cons_of_mem _ hp)).2
theorem TG.most {w':World} {ON:Own} (h:TG w0 O G K da db g s w) (hn:mkN 5 s) (hb:Below w.heap.size w w'):TG w0 O G K da db g ((5,ON)::s) w':=by
 rcases h with ⟨OA,hA,⟨h2,h7,h8,h9,h10,h12,hS⟩ | ⟨qda,qdb,PB,MB,ll,la,fa,ba,lc,fc,bc,K1,h2,h7,h8,h9,h10,h12,q1,q2,q3,q4,q5,q6,q7,q8,hS⟩ | ⟨q,K2,ON2,ON5,h2,h5,_⟩⟩ | ⟨q,K2,B,ON2,ON5,ON7,ON8,ON9,ON12,h2,h5,_⟩
 ·exact .inl ⟨OA,hA.cons (by decide),.inl ⟨h2.cons (by decide),h7.cons (by decide),h8.cons (by decide),h9.cons (by decide),h10.cons (by decide),h12.cons (by decide),hS.grow hb⟩⟩
 ·exact .inl ⟨OA,hA.cons (by decide),.inr (.inl ⟨qda,qdb,PB,MB,ll,la,fa,ba,lc,fc,bc,K1,h2.cons (by decide),h7.cons (by decide),h8.cons (by decide),h9.cons (by decide),h10.cons (by decide),h12.cons (by decide),q1,q2,q3,q4,q5,q6.below hb,q7,q8,hS.grow hb⟩)⟩
 ·exact absurd h5 (hn _)
 ·exact absurd h5 (hn _)
theorem TG.alloc (h:TG w0 O G K da db g s w) (hn:mkN 11 s):TG w0 O G K da db g ((11,[(w.heap.size,Z3t,61)])::s) (w.alloc (.cells Z3t.toArray 61)):=by
 have hb:Below w.heap.size w (w.alloc (.cells Z3t.toArray 61)):=(Below.refl _ _).alloc (Nat.le_refl _) _
 rcases h with ⟨OA,hA,h⟩ | ⟨q,K2,B,ON2,ON5,ON7,ON8,ON9,ON12,h2,h5,h7,h8,h9,h12,h11,_⟩
 ·rcases hA with ⟨_,rfl⟩ | ⟨B,h11,_⟩
  ·refine .inl ⟨[(w.heap.size,Z3t,61)],.inr ⟨_,hn.one,rfl⟩,?_⟩
   rcases h with ⟨h2,h7,h8,h9,h10,h12,hS⟩ | ⟨qda,qdb,PB,MB,ll,la,fa,ba,lc,fc,bc,K1,h2,h7,h8,h9,h10,h12,q1,q2,q3,q4,q5,q6,q7,q8,hS⟩ | ⟨q,K2,ON2,ON5,h2,h5,h7,h8,h9,h10,h12,q1,q2,q3,hS⟩
   ·exact .inl ⟨h2.cons (by decide),h7.cons (by decide),h8.cons (by decide),h9.cons (by decide),h10.cons (by decide),h12.cons (by decide),hS.alloc _ _⟩
   ·exact .inr (.inl ⟨qda,qdb,PB,MB,ll,la,fa,ba,lc,fc,bc,K1,h2.cons (by decide),h7.cons (by decide),h8.cons (by decide),h9.cons (by decide),h10.cons (by decide),h12.cons (by decide),q1,q2,q3,q4,q5,q6.below hb,q7,q8,(hS.alloc _ _).perm (List.Perm.swap _ _ _)⟩)
   ·exact .inr (.inr ⟨q,K2,ON2,ON5,List.mem_cons_of_mem _ h2,List.mem_cons_of_mem _ h5,h7.cons (by decide),h8.cons (by decide),h9.cons (by decide),h10.cons (by decide),h12.cons (by decide),q1,q2,q3,hS.alloc _ _⟩)
  ·exact absurd h11.has (hn _)
 ·exact absurd h11.has (hn _)
theorem TG.p8 {v:Value} (h:TG w0 O G K da db g s w) (hn:mkN 8 s) (h7:∃ ON,(7,ON)∈s∧PmT 7 v ON):TG w0 O G K da db g ((8,[(0,[v],0)])::s) w:=by
 obtain ⟨O7,h7m,h7p⟩:=h7
 rcases h with ⟨OA,hA,⟨h2,h7,_⟩ | ⟨qda,qdb,PB,MB,ll,la,fa,ba,lc,fc,bc,K1,h2,h7,_⟩ | ⟨q,K2,ON2,ON5,h2,h5,h7,h8,h9,h10,h12,q1,q2,q3,hS⟩⟩ | ⟨q,K2,B,ON2,ON5,ON7,ON8,ON9,ON12,h2,h5,h7,h8,h9,h12,h11,a8,a10,q1,q2,q3,hS⟩
 ·exact absurd h7m (h7 _)
 ·exact absurd h7m (h7 _)
 ·obtain rfl:=(h7 _).1 h7m
  obtain rfl:=h7p.val (by decide)
  exact .inl ⟨OA,hA.cons (by decide),.inr (.inr ⟨q,K2,ON2,ON5,List.mem_cons_of_mem _ h2,List.mem_cons_of_mem _ h5,h7.cons (by decide),hn.one.a,h9.cons (by decide),h10.cons (by decide),h12.cons (by decide),q1,q2,q3,hS⟩)⟩
 ·exact absurd h8 (hn _)
theorem TG.p9 {v:Value} (h:TG w0 O G K da db g s w) (hn:mkN 9 s) (h8x:∃ ON,(8,ON)∈s∧PmT 8 v ON):∃ q:TB,v = .tuple #[q.val,.bool true]∧TG w0 O G K da db g ((9,[(0,[q.val],0)])::s) w:=by
 obtain ⟨O8,h8m,h8p⟩:=h8x
 rcases h with ⟨OA,hA,⟨h2,h7,h8,_⟩ | ⟨qda,qdb,PB,MB,ll,la,fa,ba,lc,fc,bc,K1,h2,h7,h8,_⟩ | ⟨q,K2,ON2,ON5,h2,h5,h7,h8,h9,h10,h12,q1,q2,q3,hS⟩⟩ | ⟨q,K2,B,ON2,ON5,ON7,ON8,ON9,ON12,h2,h5,h7,h8,h9,h12,h11,a8,a10,q1,q2,q3,hS⟩
 ·exact absurd h8m (h8 _)
 ·exact absurd h8m (h8 _)
 ·obtain rfl:=h8 _ h8m
  obtain rfl:=h8p.val (by decide)
  exact ⟨q,rfl,.inl ⟨OA,hA.cons (by decide),.inr (.inr ⟨q,K2,ON2,ON5,List.mem_cons_of_mem _ h2,List.mem_cons_of_mem _ h5,h7.cons (by decide),h8.cons (by decide),hn.one.a,h10.cons (by decide),h12.cons (by decide),q1,q2,q3,hS⟩)⟩⟩
 ·exact absurd h9 (hn _)
theorem TG.p10 {v:Value} (h:TG w0 O G K da db g s w) (hn:mkN 10 s) (h8x:∃ ON,(8,ON)∈s∧PmT 8 v ON):∃ q:TB,v = .tuple #[q.val,.bool true]∧TG w0 O G K da db g ((10,[(0,[.bool true],0)])::s) w:=by
 obtain ⟨O8,h8m,h8p⟩:=h8x
 rcases h with ⟨OA,hA,⟨h2,h7,h8,_⟩ | ⟨qda,qdb,PB,MB,ll,la,fa,ba,lc,fc,bc,K1,h2,h7,h8,_⟩ | ⟨q,K2,ON2,ON5,h2,h5,h7,h8,h9,h10,h12,q1,q2,q3,hS⟩⟩ | ⟨q,K2,B,ON2,ON5,ON7,ON8,ON9,ON12,h2,h5,h7,h8,h9,h12,h11,a8,a10,q1,q2,q3,hS⟩
 ·exact absurd h8m (h8 _)
 ·exact absurd h8m (h8 _)
 ·obtain rfl:=h8 _ h8m
  obtain rfl:=h8p.val (by decide)
  exact ⟨q,rfl,.inl ⟨OA,hA.cons (by decide),.inr (.inr ⟨q,K2,ON2,ON5,List.mem_cons_of_mem _ h2,List.mem_cons_of_mem _ h5,h7.cons (by decide),h8.cons (by decide),h9.cons (by decide),hn.one.a,h12.cons (by decide),q1,q2,q3,hS⟩)⟩⟩
 ·obtain rfl:=a8 _ h8m
  obtain rfl:=h8p.val (by decide)
  exact ⟨q,rfl,.inr ⟨q,K2,B,ON2,ON5,ON7,ON8,ON9,ON12,List.mem_cons_of_mem _ h2,List.mem_cons_of_mem _ h5,List.mem_cons_of_mem _ h7,List.mem_cons_of_mem _ h8,List.mem_cons_of_mem _ h9,List.mem_cons_of_mem _ h12,h11.cons (by decide),a8.cons (by decide),hn.one.a,q1,q2,q3,hS⟩⟩
theorem TG.p12 {v p:Value} (h:TG w0 O G K da db g s w) (hn:mkN 12 s) (h7x:∃ ON,(7,ON)∈s) (h8x:∃ ON,(8,ON)∈s) (h9x:∃ ON,(9,ON)∈s∧PmT 9 v ON) (h11x:∃ ON,(11,ON)∈s∧PmT 11 p ON):∃ (q:TB) (B:Nat),v=q.val∧p = .pointer (some ⟨B,0,none⟩)∧w.heap[B]?=some (.cells Z3t.toArray 61 (0,0))∧∀ ON,TG w0 O G K da db g ((12,ON)::s) (Go.Proofs.Ytghmbejblbnjjaa.setMany w B 0 q.cells):=by
 obtain ⟨O9,h9m,h9p⟩:=h9x
 obtain ⟨O7,h7m⟩:=h7x
 obtain ⟨O8,h8m⟩:=h8x
 obtain ⟨O11,h11m,h11p⟩:=h11x
 rcases h with ⟨OA,hA,⟨h2,h7,h8,h9,_⟩ | ⟨qda,qdb,PB,MB,ll,la,fa,ba,lc,fc,bc,K1,h2,h7,h8,h9,_⟩ | ⟨q,K2,ON2,ON5,h2,h5,h7,h8,h9,h10,h12,q1,q2,q3,hS⟩⟩ | ⟨q,K2,B,ON2,ON5,ON7,ON8,ON9,ON12,h2,h5,h7,h8,h9,h12,_⟩
 ·exact absurd h9m (h9 _)
 ·exact absurd h9m (h9 _)
 ·obtain rfl:=h9 _ h9m
  obtain rfl:=h9p.val (by decide)
  rcases hA with ⟨h11,_⟩ | ⟨B,h11,rfl⟩
  ·exact absurd h11m (h11 _)
  ·obtain rfl:=(h11 _).1 h11m
   obtain ⟨B2,rfl,e2⟩:=h11p.1 rfl
   obtain rfl:B=B2:=by simpa using e2
   refine ⟨q,B,rfl,rfl,hS.at_ 0 rfl,fun ON=>.inr ⟨q,K2,B,ON2,ON5,O7,O8,_,ON,List.mem_cons_of_mem _ h2,List.mem_cons_of_mem _ h5,List.mem_cons_of_mem _ h7m,List.mem_cons_of_mem _ h8m,List.mem_cons_of_mem _ h9m,List.mem_cons_self,h11.cons (by decide),h8.cons (by decide),h10.cons (by decide),q1,q2,q3,?_⟩⟩
   exact hS.setMany 0 q.cells 0 rfl
 ·exact absurd h12 (hn _)
theorem TG.done {p v:Value} (h:TG w0 O G K da db g s w) (h12x:∃ ON,(12,ON)∈s) (h11x:∃ ON,(11,ON)∈s∧PmT 11 p ON) (h10x:∃ ON,(10,ON)∈s∧PmT 10 v ON):∃ (q:TB) (K2:List (Nat×World)) (B:Nat),p = .pointer (some ⟨B,0,none⟩)∧v = .bool true∧QF da db g q∧(∀ q∈K,q∈K2)∧cL w0 K2 (TAt q)∧St w0 ((B,q.cells,61)::O) G K2 w:=by
 obtain ⟨O12,h12m⟩:=h12x
 obtain ⟨O11,h11m,h11p⟩:=h11x
 obtain ⟨O10,h10m,h10p⟩:=h10x
 rcases h with ⟨OA,hA,⟨h2,h7,h8,h9,h10,h12,_⟩ | ⟨qda,qdb,PB,MB,ll,la,fa,ba,lc,fc,bc,K1,h2,h7,h8,h9,h10,h12,_⟩ | ⟨q,K2,ON2,ON5,h2,h5,h7,h8,h9,h10,h12,_⟩⟩ | ⟨q,K2,B,ON2,ON5,ON7,ON8,ON9,ON12,h2,h5,h7,h8,h9,h12,h11,a8,a10,q1,q2,q3,hS⟩
 ·exact absurd h12m (h12 _)
 ·exact absurd h12m (h12 _)
 ·exact absurd h12m (h12 _)
 ·obtain rfl:=(h11 _).1 h11m
  obtain rfl:=a10 _ h10m
  obtain rfl:=h10p.val (by decide)
  obtain ⟨B2,rfl,e2⟩:=h11p.1 rfl
  obtain rfl:B=B2:=by simpa using e2
  exact ⟨q,K2,B,rfl,rfl,q1,q2,q3,hS⟩
theorem kJ {P:Program} {Q:Exit→Act→World→Prop} {ops:Array Oper} {i:Nat} {o:Oper} {a:Act} {w w':World} {v:Value} {ON:Own} {R:Value→Own→World→Prop} (hi:ops[i]?=some o) (hg:o.guard=none) (hrun:(execOp a.eval o).run P w = .ok (.value v) w') (h:R v ON w'):wpOp P ops Q i (fun a' w'=>∃ v ON,a'=a.put ((ops[i]?).bind (·.dst)) v∧R v ON w') a w:=by
 unfold wpOp
 simp only [hi,dV hg,if_true]
 refine .inl ?_
 unfold Oper.wp
 rw [hrun]
 exact ⟨v,ON,rfl,h⟩
theorem oR {P:Program} {Q:Exit→Act→World→Prop} {ops:Array Oper} {i d:Nat} {T:TypeId} {ty:TypeId} {pos:String} {aft:Array Edge} {a:Act} {w:World} {z:Value} {cs:List Value} {R:Act→World→Prop} (hi:ops[i]?=some ⟨some d,.alloc T,ty,pos,aft,none⟩) (hz:∀ w,(zeroValue T).run P w = .ok z w) (hc:z.cells=cs.toArray)
  (h:R (a.put (some d) (.pointer (some ⟨w.heap.size,0,none⟩))) (w.alloc (.cells cs.toArray T))):wpOp P ops Q i R a w :=
 iY hi rfl (v:=.pointer (some ⟨w.heap.size,0,none⟩)) (w':=w.alloc (.cells cs.toArray T)) (by unfold execOp;simp only [];simp [Instr.alloc,newVar,newRow,hz,hc]) h
theorem Av {P:Program} {Q:Exit→Act→World→Prop} {ops:Array Oper} {i B:Nat} {T U:TypeId} {x y:Operand} {ty:TypeId} {pos:String} {aft:Array Edge} {a:Act} {w:World} {cs vs:List Value} {R:Value→Own→World→Prop} (hi:ops[i]?=some ⟨none,.store T x y,ty,pos,aft,none⟩) (hsz:∀ w,(sizeOf T).run P w = .ok vs.length w) (hx:a.eval x = .pointer (some ⟨B,0,none⟩)) (hy:a.eval y = .agg vs.toArray) (hv:vs.all Value.oneCell'=true) (hB:w.heap[B]?=some (.cells cs.toArray U (0,0))) (hl:vs.length≤cs.length)
  (h:∃ ON,R undef ON (Go.Proofs.Ytghmbejblbnjjaa.setMany w B 0 vs)):wpOp P ops Q i (fun a' w'=>∃ v ON,a'=a.put ((ops[i]?).bind (·.dst)) v∧R v ON w') a w:=by
 obtain ⟨ON,h⟩:=h
 unfold wpOp
 simp only [hi,dV (show (⟨none,.store T x y,ty,pos,aft,none⟩:Oper).guard=none from rfl),if_true]
 refine .inl ?_
 unfold Oper.wp execOp
 simp only []
 rw [hx,hy]
 have hst:=fU (P:=P) vs 0 0 w cs hB (by omega) (fun u hu=>List.all_eq_true.1 hv u hu)
 rw [Nat.add_zero] at hst
 have:(Instr.storeAt T (.pointer (some ⟨B,0,none⟩)) (.agg vs.toArray)).run P w = .ok () (Go.Proofs.Ytghmbejblbnjjaa.setMany w B 0 vs):=by
  simp [Instr.storeAt,Instr.sureAddr,storeVar,hsz,Value.cells,hst]
 simp only [Sem.run_bind,this,Result.andThen_ok,Sem.run_pure,Oper.upon_skip]
 exact ⟨undef,ON,rfl,h⟩
end
theorem pM:cC prog 43=true:=by kernel_rfl
theorem goes_44:cC prog 44=true:=by kernel_rfl
theorem goes_46:cC prog 46=true:=by kernel_rfl
theorem goes_59:cC prog 59=true:=by kernel_rfl
theorem goes_60:cC prog 60=true:=by kernel_rfl
theorem oS (da db:DV) (Kt:List (Nat×World)) (Ot:Own) (G:bN) (K:List (Nat×World)) (w0 w:World) (hS0:St w0 Ot G K w) (hKt:∀ q∈Kt,q∈K) (hDa:cL w0 Kt (fun W=>DIn W da)) (hDb:cL w0 Kt (fun W=>DIn W db)) (hsa:da.nl≤24) (hsb:db.nl≤24) (hk6:da.sy≤6) (g:Bool→Bool→Bool) (f:FuncId) (hgo:cC prog f=true) (hf:∀ x y w,Calls prog f #[.bool x,.bool y] w (fun e w'=>e = .returned (.bool (g x y))∧Below w.heap.size w w')) :
  Calls prog 43 #[da.val,db.val,.func (.func f) #[] #[]] w (fun e w'=>∃ (d2:DV) (Kn:List (Nat×World)),(cQ da db=0→Lst d2 (aR (dFA da) (dFA db) g)∧d2.nl≤da.nl * db.nl)∧(cQ da db≠0→d2=zD)∧e = .returned (.tuple #[d2.val,.int .i64 (cQ da db)])∧(∀ q∈K,q∈Kn)∧cL w0 Kn (fun W=>DIn W d2)∧St w0 Ot G Kn w'):=by
 refine cP (args:=[da.val,db.val,.func (.func f) #[] #[]]) func43 rfl ntmps43 rfl ?_
 have hS:=hS0
 refine aH (aN (cI (cs:=[_,_,_]) hS rfl rfl rfl fun B1 W1 hS=>cI (cs:=[_,_,_]) hS rfl rfl rfl fun B2 W2 hS=>cE (cs:=[_,_,_]) hS zeroValue25 rfl rfl fun B3 W3 hS=>aB rfl rfl (aK (XF.thenN (aH (aH (aN (bC (vs:=[_,_,_]) isAgg25 sizeOf25 rfl (aT.own (j:=0) (m:=3) (hS.at_ 2 rfl) rfl) rfl (bC (vs:=[_,_,_]) isAgg25 sizeOf25 rfl (aT.own (j:=0) (m:=3) (hS.at_ 1 rfl) rfl) rfl (bW (vs:=[_,_]) tO rfl (kG da db _ (hDa (hS.keep K (fun q hq=>by simp [hq])) hKt) (hDb (hS.keep K (fun q hq=>by simp [hq])) hKt)) rfl ?_))))))))))
 rintro e W9 ⟨rfl,hb9⟩
 refine ⟨_,rfl,?_⟩
 have hS':=hS.grow hb9;clear hS;have hS:=hS';clear hS'
 refine aB rfl rfl (aK (XF.thenN (aH (aN (aA rfl rfl (dR rfl rfl rfl (aK (XF.thenN (bS rfl (fun hc=>?_) (fun hc=>?_))))))))))
 ·have hc15:=of_decide_eq_true hc;clear hc
  refine aH (aN (dP (us:=[]) rfl (qS) rfl (aA rfl rfl (bU (i:=0) (vs:=[_,_,_]) (cs':=[_,_,_]) (O':=(_::_::_::Ot)) hS sizeOf25 rfl rfl rfl rfl rfl rfl rfl fun W4 hS=>aB rfl rfl (aK (XF.thenN (cK (XF.thenR (XF.res (gX (vs:=[_,_,_]) results43 isAgg25 sizeOf25 rfl (aT.own (j:=0) (m:=3) (hS.at_ 0 rfl) rfl) rfl) ?_)))))))))
  exact ⟨zD,K,fun h=>absurd h hc15,fun _=>rfl,rfl,fun q hq=>hq,fun _ _=>oK,(hS.keep K (fun q hq=>by simp [hq])).tail.tail.tail⟩
 ·have hc15:=of_decide_eq_false hc;clear hc
  have h0:cQ da db=0:=Decidable.of_not_not hc15
  obtain ⟨hea,heb,hsy⟩:=lJ h0
  obtain ⟨k,hk,hk9,_⟩:=dD hea
  have hk5:k≤6:=by omega
  have hmo:576≤mostD k:=by
   unfold mostD
   split
   ·omega
   ·have h9:10922≤65536 / k:=by
     rw [Nat.le_div_iff_mul_le (by omega)];omega
    omega
  refine bV (XF.thenN (aH ?_))
  have hS9:=hS.keep K (fun q hq=>by simp [hq])
  clear hS;have hS:=hS9;clear hS9
  refine vH (mk:=[2,5,7,8,9,10,11,12]) (k:=13) (vals:=(fun i8=>match i8 with | 0=>da.val | 1=>db.val | 3=>.pointer (some ⟨B1,0+0,none⟩) | 4=>.int .i64 da.sy | _=>.func (.func f) #[] #[])) (Pm:=PmT) (fun s w=>TG w0 ((B3,[.int .i64 0,.slice none 0 0,.slice none 0 0],25)::(B2,[.int .i64 db.sy,.slice db.na db.nl db.nc,.slice db.aa db.al db.ac],25)::(B1,[.int .i64 da.sy,.slice da.na da.nl da.nc,.slice da.aa da.al da.ac],25)::Ot) G K da db g s w∧mkA 5 [(0,[.int .i64 ((mostD k:Nat):Int)],0)] s) cA ⟨TG.start hS.drew,mkN.nil.a⟩ (Nat.le_of_ble_eq_true (by kernel_rfl)) (by kernel_rfl) (by kernel_rfl) ?_ ?_ (by decide) ?_
  ·intro i9 hi9 hin s a0 c9 w ha0 hF9 hG hD
   have hfr:∀ t v,freeT _ t=true→dO _ t=some v→c9.eval (.tmp t)=v:=fun t v h1 h2=>(hF9 t h1).trans (ha0.at_ t v h2)
   have hb3:=hG.1.own (B1,[.int .i64 da.sy,.slice da.na da.nl da.nc,.slice da.aa da.al da.ac],25) (List.mem_cons_of_mem _ (List.mem_cons_of_mem _ List.mem_cons_self))
   have hb4:=hG.1.own (B2,[.int .i64 db.sy,.slice db.na db.nl db.nc,.slice db.aa db.al db.ac],25) (List.mem_cons_of_mem _ List.mem_cons_self)
   match i9,hi9,hin with
   | 0,_,_=>exact ⟨_,rfl,rfl,by
    exact dL (l:=[(3,.pointer (some ⟨B1,0,none⟩))]) (vs:=[_,_,_]) isAgg25 sizeOf25 rfl (aT.own (j:=0) (m:=3) hb3 rfl) c9.eval (fW (hfr 3 _ (by kernel_rfl) rfl))⟩
   | 1,_,_=>exact ⟨_,rfl,rfl,by
    exact dL (l:=[(4,.pointer (some ⟨B2,0,none⟩))]) (vs:=[_,_,_]) isAgg25 sizeOf25 rfl (aT.own (j:=0) (m:=3) hb4 rfl) c9.eval (fW (hfr 4 _ (by kernel_rfl) rfl))⟩
   | 2,_,h9=>exact absurd (by decide) h9
   | 3,_,_=>exact ⟨_,rfl,rfl,by
    exact bA (l:=[(3,.pointer (some ⟨B1,0,none⟩))]) dC rfl rfl c9.eval (fW (hfr 3 _ (by kernel_rfl) rfl))⟩
   | 4,_,_=>exact ⟨_,rfl,rfl,by
    have h9:=(hD 3 22 (by kernel_rfl)).1 (by decide)
    exact aY (l:=[(22,.pointer (some ⟨B1,0+0,none⟩))]) isAgg3 rfl (aD hb3 rfl) c9.eval (fW h9)⟩
   | 5,_,h9=>exact absurd (by decide) h9
   | 6,_,_=>exact ⟨_,rfl,rfl,by
    exact aV (l:=[(2,.func (.func f) #[] #[])]) rfl c9.eval (fW (hfr 2 _ (by kernel_rfl) rfl))⟩
   | 7,_,h9=>exact absurd (by decide) h9
   | 8,_,h9=>exact absurd (by decide) h9
   | 9,_,h9=>exact absurd (by decide) h9
   | 10,_,h9=>exact absurd (by decide) h9
   | 11,_,h9=>exact absurd (by decide) h9
   | 12,_,h9=>exact absurd (by decide) h9
   | i+13,h9,_=>omega
  ·intro i9 him s a0 c9 w ha0 hF9 hG hnew hD
   obtain ⟨hG,h5a⟩:=hG
   have hcase:i9=2∨i9=5∨i9=7∨i9=8∨i9=9∨i9=10∨i9=11∨i9=12:=by simpa using him
   rcases hcase with rfl | rfl | rfl | rfl | rfl | rfl | rfl | rfl
   ·have h0:=(hD 0 19 (by kernel_rfl)).1 (by decide)
    have h1:=(hD 1 20 (by kernel_rfl)).1 (by decide)
    rcases hG with ⟨OA,hA,⟨g2,g7,g8,g9,g10,g12,hS9⟩ | ⟨qda,qdb,PB,MB,ll,la,fa,ba,lc,fc,bc,K1,g2,_⟩ | ⟨q,K2,ON2,ON5,g2,_⟩⟩ | ⟨q,K2,B,ON2,ON5,ON7,ON8,ON9,ON12,g2,_⟩
    ·refine gK (vs:=[da.val,db.val]) rfl tN (by simp only [List.map_cons,List.map_nil,h0,h1]) ((lI da db k Kt _ _ K w0 _ hS9 hKt hDa hDb hk (hsy.symm.trans hk) hea heb).mono ?_)
     rintro e w2 ⟨qda,qdb,PB,MB,ll,la,fa,ba,lc,fc,bc,K1,hll,rfl,hLa,hLb,hk1,hTB,hM9,hMb,hMK,hS8⟩
     exact ⟨_,[(0,[_],0)],rfl,PmT.one (by decide),.inl ⟨OA,hA.cons (by decide),.inr (.inl ⟨qda,qdb,PB,MB,ll,la,fa,ba,lc,fc,bc,K1,g2.one,g7.cons (by decide),g8.cons (by decide),g9.cons (by decide),g10.cons (by decide),g12.cons (by decide),hll,hLa,hLb,hk1,hTB,hM9,hMb,hMK,hS8⟩)⟩,h5a.cons (by decide)⟩
    ·exact absurd g2.has (hnew _)
    ·exact absurd g2 (hnew _)
    ·exact absurd g2 (hnew _)
   ·have h4:=(hD 4 23 (by kernel_rfl)).1 (by decide)
    refine gK (vs:=[.int .i64 da.sy]) rfl goes_60 (by simp only [List.map_cons,List.map_nil,h4]) ((Df da.sy k hk _ hk9).mono ?_)
    rintro e w2 ⟨rfl,hb⟩
    exact ⟨_,[(0,[_],0)],rfl,PmT.one (by decide),hG.most hnew hb,(show mkN 5 s from hnew).one.a⟩
   ·obtain ⟨O2,o2,p2⟩:=(hD 2 21 (by kernel_rfl)).2 (by decide)
    obtain ⟨O5,o5,p5⟩:=(hD 5 24 (by kernel_rfl)).2 (by decide)
    have h6:=(hD 6 25 (by kernel_rfl)).1 (by decide)
    obtain rfl:=h5a _ o5
    have e5:=p5.val (by decide)
    rcases hG with ⟨OA,hA,⟨g2,_⟩ | ⟨qda,qdb,PB,MB,ll,la,fa,ba,lc,fc,bc,K1,g2,g7,g8,g9,g10,g12,hll,hLa,hLb,hk1,hTB,hM9,hMb,hMK,hS8⟩ | ⟨q,K2,ON2,ON5,g2,g5,g7,_⟩⟩ | ⟨q,K2,B,ON2,ON5,ON7,ON8,ON9,ON12,g2,g5,g7,_⟩
    ·exact absurd o2 (g2 _)
    ·obtain rfl:=(g2 _).1 o2
     have e2:=p2.val (by decide)
     have hnm:qda.n * qdb.n≤da.nl * db.nl:=Nat.mul_le_mul hLa.n hLb.n
     have hm9:da.nl * db.nl≤24 * 24:=Nat.mul_le_mul hsa hsb
     refine gK (vs:=[.pointer (some ⟨PB,0,none⟩),.int .i64 ((mostD k:Nat):Int),.func (.func f) #[] #[]]) rfl goes_59 (by simp only [List.map_cons,List.map_nil,e2,e5,h6]) ((vT qda qdb g f (mostD k) PB MB ll la fa ba lc fc bc K1 _ _ K1 w0 _ hgo hf hll hS8 hLa.ok hLb.ok hLa.n4 hLb.n4 (hLa.kk hLb hsy) (by omega) (by omega) (fun q hq=>hq) hTB hM9 hMb hMK).mono ?_)
     rintro e w2 ⟨q,K2,rfl,hqT,hqk,hqn,hqo,hqr,hqe,hk2,hqB,hS7⟩
     refine ⟨_,[(0,[_],0)],rfl,PmT.one (by decide),.inl ⟨OA,hA.cons (by decide),.inr (.inr ⟨q,K2,_,_,List.mem_cons_of_mem _ o2,List.mem_cons_of_mem _ o5,g7.one,g8.a.cons (by decide),g9.a.cons (by decide),g10.a.cons (by decide),g12.cons (by decide),⟨hqT,by rw [hqk];exact hLa.k,Nat.le_trans hqn hnm,hqo,hqr,Eqv.trans (B:=aR qda.fa qdb.fa g) hqk hqe (qP hLa.ok.fa hLb.ok.fa hLa.dok hLb.dok (hLa.kk hLb hsy) hLa.kd hLb.kd hLa.eqv hLb.eqv)⟩,fun z hz=>hk2 z (hk1 z hz),hqB,hS7⟩)⟩,h5a.cons (by decide)⟩
    ·exact absurd g7.has (hnew _)
    ·exact absurd g7 (hnew _)
   ·obtain h7x:=(hD 7 26 (by kernel_rfl)).2 (by decide)
    refine kJ (v:=c9.eval (.tmp 26)) (w':=w) rfl rfl ?_ ⟨PmT.one (by decide),hG.p8 hnew h7x,h5a.cons (by decide)⟩
    exact aV (l:=[(26,c9.eval (.tmp 26))]) rfl c9.eval (fW rfl)
   ·obtain ⟨q,e8,h9⟩:=hG.p9 hnew ((hD 8 18 (by kernel_rfl)).2 (by decide))
    refine kJ (v:=q.val) (w':=w) rfl rfl ?_ ⟨PmT.one (by decide),h9,h5a.cons (by decide)⟩
    exact eW (l:=[(18,.tuple #[q.val,.bool true])]) rfl rfl c9.eval (fW e8)
   ·obtain ⟨q,e8,h9⟩:=hG.p10 hnew ((hD 8 18 (by kernel_rfl)).2 (by decide))
    refine kJ (v:=.bool true) (w':=w) rfl rfl ?_ ⟨PmT.one (by decide),h9,h5a.cons (by decide)⟩
    exact eW (l:=[(18,.tuple #[q.val,.bool true])]) rfl rfl c9.eval (fW e8)
   ·refine oR (cs:=Z3t) rfl zeroValue61 rfl ?_
    exact ⟨_,_,rfl,⟨fun _=>⟨_,rfl,rfl⟩,fun h=>absurd rfl h⟩,hG.alloc hnew,h5a.cons (by decide)⟩
   ·obtain ⟨O7,o7,_⟩:=(hD 7 26 (by kernel_rfl)).2 (by decide)
    obtain ⟨O8,o8,_⟩:=(hD 8 18 (by kernel_rfl)).2 (by decide)
    obtain ⟨q,B,ev,ep,hB9,hst⟩:=hG.p12 hnew ⟨_,o7⟩ ⟨_,o8⟩ ((hD 9 27 (by kernel_rfl)).2 (by decide)) ((hD 11 9 (by kernel_rfl)).2 (by decide))
    exact Av (vs:=q.cells) rfl sizeOf61 ep ev rfl hB9 (show 3≤3 from Nat.le_refl _) ⟨[(0,[undef],0)],PmT.one (by decide),hst _,h5a.cons (by decide)⟩
  ·intro s c9 w hG hsz hdf hfr hval hin hmk hkeys hdist
   obtain ⟨q,K2,B9,hp9,hv9,hQF,hk2,hqB,hS2⟩:=hG.1.done (hin 12 (by decide)) (hmk 11 9 (by decide) rfl) (hmk 10 28 (by decide) rfl)
   clear hS;have hS:=hS2;clear hS2
   refine (show cJ _ _ _ _ (List.drop 13 _) [(3,.pointer (some ⟨B1,0,none⟩)),(4,.pointer (some ⟨B2,0,none⟩)),(6,.pointer (some ⟨B3,0,none⟩)),(9,.pointer (some ⟨B9,0,none⟩)),(28,.bool true)] w from ?_) c9 (vI.has hsz hdf ⟨hfr 3 _ (by kernel_rfl) rfl,hfr 4 _ (by kernel_rfl) rfl,hfr 6 _ (by kernel_rfl) rfl,hp9,hv9,trivial⟩)
   refine aB rfl rfl (aK (XF.thenN (aH (aH (aN (aA rfl rfl (gR rfl rfl (aK (XF.thenN (xX rfl (bV (XF.thenN (aH (aN (bC (vs:=[_,_,_]) isAgg61 sizeOf61 rfl (aT.own (j:=0) (m:=3) (hS.at_ 0 rfl) rfl) rfl (bW (vs:=[_]) zC rfl (vL q K2 _ _ K2 w0 _ (hS.keep K2 (fun q hq=>by simp [hq])) hQF.ok (fun q hq=>hq) hqB) rfl ?_))))))))))))))))
   rintro e W9 ⟨d2,K3,rfl,hd2,k3,hdR,hS9⟩
   refine ⟨_,rfl,?_⟩
   clear hS;have hS:=hS9;clear hS9
   refine bU (i:=1) (vs:=[_,_,_]) (cs':=[_,_,_]) (O':=(_::_::_::_::Ot)) hS sizeOf25 rfl rfl rfl rfl rfl rfl rfl fun W5 hS=>aB rfl rfl (aK (XF.thenN (cK (XF.res (gX (vs:=[_,_,_]) results43 isAgg25 sizeOf25 rfl (aT.own (j:=0) (m:=3) (hS.at_ 1 rfl) rfl) rfl) ?_))))
   obtain ⟨K4,k4,g4,hS4⟩:=(hS.keep K3 (fun q hq=>by simp [hq])).rowKeep
   have hqk:q.k=(dFA da).k:=by have:=hQF.k;show q.k=da.sy.toNat;omega
   have hm9:da.nl * db.nl≤24 * 24:=Nat.mul_le_mul hsa hsb
   have hqn:=hQF.n
   have hqk6:q.k≤6:=by have:=hQF.k;omega
   have hl:=xH (A:=aR (dFA da) (dFA db) g) hQF.ok hd2 hQF.ord hQF.red hQF.eqv hqk (by omega) (by omega) (Nat.le_trans (Nat.mul_le_mul (show q.n≤576 by omega) hqk6) (by decide))
   exact ⟨d2,K4,fun _=>⟨hl.1,by rw [hl.2];exact hqn⟩,fun h=>absurd h0 h,by rw [h0],fun z hz=>k4 z (k3 z (hk2 z hz)),fun h9 hk9=>tP hQF.ok hd2 (hdR h9 (fun z hz=>hk9 z (k4 z hz))) (by rw [hd2.bs];exact nQ (g4 h9 hk9)),hS4.tail.tail.tail.tail⟩
theorem Dh (da db:DV) (Kt:List (Nat×World)) (Ot:Own) (G:bN) (K:List (Nat×World)) (w0 w:World) (hS0:St w0 Ot G K w) (hKt:∀ q∈Kt,q∈K) (hDa:cL w0 Kt (fun W=>DIn W da)) (hDb:cL w0 Kt (fun W=>DIn W db)) (hsa:da.nl≤24) (hsb:db.nl≤24) (hk6:da.sy≤6) :
  Calls prog 26 #[da.val,db.val] w (fun e w'=>∃ (d2:DV) (Kn:List (Nat×World)),(cQ da db=0→Lst d2 (aR (dFA da) (dFA db) (fun x y=>(x && y)))∧d2.nl≤da.nl * db.nl)∧(cQ da db≠0→d2=zD)∧e = .returned (.tuple #[d2.val,.int .i64 (cQ da db)])∧(∀ q∈K,q∈Kn)∧cL w0 Kn (fun W=>DIn W d2)∧St w0 Ot G Kn w'):=by
 refine cP (args:=[da.val,db.val]) func26 rfl ntmps26 rfl ?_
 have hS:=hS0
 refine aH (aN (cI (cs:=[_,_,_]) hS rfl rfl rfl fun B1 W1 hS=>cI (cs:=[_,_,_]) hS rfl rfl rfl fun B2 W2 hS=>cE (cs:=[_,_,_]) hS zeroValue25 rfl rfl fun B3 W3 hS=>aB rfl rfl (aK (XF.thenN (aH (aN (bC (vs:=[_,_,_]) isAgg25 sizeOf25 rfl (aT.own (j:=0) (m:=3) (hS.at_ 2 rfl) rfl) rfl (bC (vs:=[_,_,_]) isAgg25 sizeOf25 rfl (aT.own (j:=0) (m:=3) (hS.at_ 1 rfl) rfl) rfl (bW (vs:=[_,_,_]) pM rfl (oS da db Kt _ _ K w0 _ (hS.keep K (fun q hq=>by simp [hq])) hKt hDa hDb hsa hsb hk6 (fun x y=>(x && y)) 44 goes_44 Dg) rfl ?_)))))))))
 rintro e W9 ⟨d2,K2,hok,hbad,rfl,hk2,hD2,hS9⟩
 refine ⟨_,rfl,?_⟩
 clear hS;have hS:=hS9;clear hS9
 refine bO rfl rfl rfl (bO rfl rfl rfl (bU (i:=0) (vs:=[_,_,_]) (cs':=[_,_,_]) (O':=(_::_::_::Ot)) hS sizeOf25 rfl rfl rfl rfl rfl rfl rfl fun W4 hS=>aB rfl rfl (aK (XF.thenN (cK (XF.res (gX (vs:=[_,_,_]) results26 isAgg25 sizeOf25 rfl (aT.own (j:=0) (m:=3) (hS.at_ 0 rfl) rfl) rfl) ?_))))))
 exact ⟨d2,K2,hok,hbad,rfl,hk2,hD2,(hS.keep K2 (fun q hq=>by simp [hq])).tail.tail.tail⟩
theorem xT (da db:DV) (Kt:List (Nat×World)) (Ot:Own) (G:bN) (K:List (Nat×World)) (w0 w:World) (hS0:St w0 Ot G K w) (hKt:∀ q∈Kt,q∈K) (hDa:cL w0 Kt (fun W=>DIn W da)) (hDb:cL w0 Kt (fun W=>DIn W db)) (hsa:da.nl≤24) (hsb:db.nl≤24) (hk6:da.sy≤6) :
  Calls prog 28 #[da.val,db.val] w (fun e w'=>∃ (d2:DV) (Kn:List (Nat×World)),(cQ da db=0→Lst d2 (aR (dFA da) (dFA db) (fun x y=>(x || y)))∧d2.nl≤da.nl * db.nl)∧(cQ da db≠0→d2=zD)∧e = .returned (.tuple #[d2.val,.int .i64 (cQ da db)])∧(∀ q∈K,q∈Kn)∧cL w0 Kn (fun W=>DIn W d2)∧St w0 Ot G Kn w'):=by
 refine cP (args:=[da.val,db.val]) func28 rfl ntmps28 rfl ?_
 have hS:=hS0
 refine aH (aN (cI (cs:=[_,_,_]) hS rfl rfl rfl fun B1 W1 hS=>cI (cs:=[_,_,_]) hS rfl rfl rfl fun B2 W2 hS=>cE (cs:=[_,_,_]) hS zeroValue25 rfl rfl fun B3 W3 hS=>aB rfl rfl (aK (XF.thenN (aH (aN (bC (vs:=[_,_,_]) isAgg25 sizeOf25 rfl (aT.own (j:=0) (m:=3) (hS.at_ 2 rfl) rfl) rfl (bC (vs:=[_,_,_]) isAgg25 sizeOf25 rfl (aT.own (j:=0) (m:=3) (hS.at_ 1 rfl) rfl) rfl (bW (vs:=[_,_,_]) pM rfl (oS da db Kt _ _ K w0 _ (hS.keep K (fun q hq=>by simp [hq])) hKt hDa hDb hsa hsb hk6 (fun x y=>(x || y)) 46 goes_46 xS) rfl ?_)))))))))
 rintro e W9 ⟨d2,K2,hok,hbad,rfl,hk2,hD2,hS9⟩
 refine ⟨_,rfl,?_⟩
 clear hS;have hS:=hS9;clear hS9
 refine bO rfl rfl rfl (bO rfl rfl rfl (bU (i:=0) (vs:=[_,_,_]) (cs':=[_,_,_]) (O':=(_::_::_::Ot)) hS sizeOf25 rfl rfl rfl rfl rfl rfl rfl fun W4 hS=>aB rfl rfl (aK (XF.thenN (cK (XF.res (gX (vs:=[_,_,_]) results28 isAgg25 sizeOf25 rfl (aT.own (j:=0) (m:=3) (hS.at_ 0 rfl) rfl) rfl) ?_))))))
 exact ⟨d2,K2,hok,hbad,rfl,hk2,hD2,(hS.keep K2 (fun q hq=>by simp [hq])).tail.tail.tail⟩
theorem goes_26:cC prog 26=true:=by kernel_rfl
theorem goes_28:cC prog 28=true:=by kernel_rfl
theorem Di {w:World} {d:DV} (hd:DIn w d) (h:iC d=true) (he:cU d=0):d.nl≤24∧d.sy≤6:=by
 obtain ⟨k,hk,h1,h2,h3,h4,h5,h6⟩:=dD he
 unfold iC at h
 simp only [Bool.and_eq_true,decide_eq_true_eq] at h
 refine ⟨h.1,?_⟩
 have hl:=hd.nlen
 obtain ⟨r,hr⟩:∃ r,d.ns[0]?=some r:=⟨_,List.getElem?_eq_getElem (by omega)⟩
 have hm:=List.mem_of_getElem? hr
 have h7:=of_decide_eq_true (List.all_eq_true.1 h.2.2 r hm)
 have h8:=(h6 r hm).1
 omega
theorem tV {d e:DV} {A:FA} (h:Lst d A) (hA:A.k=(dFA e).k) (he:cU e=0):d.sy=e.sy:=by
 obtain ⟨k,hk,_⟩:=dD h.e
 obtain ⟨k',hk',_⟩:=dD he
 have h1:d.sy.toNat=e.sy.toNat:=h.k.trans hA
 omega
theorem Dj {d:DV} {A:FA} (h:Lst d A):(dFA d).Ok:=kH h.e h.len h.xl
theorem pN {A:FA}:Eqv A 0 A 0:=fun _ _=>rfl
theorem goes_14:cC prog 14=true:=by kernel_rfl
structure FRI (A:FA) (p:Nat) (F Y:List Int):Prop where
 lf:F.length=A.n
 ly:Y.length=A.n
 no:∀ s,s < A.n→s∉qm A id p→F.getD s 0 = -1
 f0:F.getD 0 0=0
 at_:∀ i,0 < i→i < (qm A id p).length→F.getD ((qm A id p).getD i 0) 0=(((qm A id p).getD ((qfb A p).getD i (0,0)).1 0:Nat):Int)∧Y.getD ((qm A id p).getD i 0) 0=((((qfb A p).getD i (0,0)).2:Nat):Int)
theorem gH {l:List Int} {i j:Nat} {x:Int} (h:i < l.length):(l.set i x).getD j 0=if j=i then x else l.getD j 0:=by
 rw [List.getD_eq_getElem?_getD,List.getD_eq_getElem?_getD]
 by_cases e:j=i
 ·subst e;rw [if_pos rfl,List.getElem?_set_self h];rfl
 ·rw [if_neg e,List.getElem?_set_ne (Ne.symm e)]
section
variable {A:FA} {p:Nat} {F Y:List Int}
theorem FRI.start (hA:A.Ok) {Y:List Int} (hy:Y.length=A.n):FRI A 0 ((List.replicate A.n (-1)).set 0 0) Y:=by
 have hp:=hA.pos
 refine ⟨by simp,hy,fun s hs hn=>?_,by rw [gH (by simpa using hp),if_pos rfl],fun i h0 hi=>?_⟩
 ·have hne:s≠0:=fun e=>hn (by rw [e];exact List.mem_singleton.2 rfl)
  rw [gH (by simpa using hp),if_neg hne,List.getD_eq_getElem?_getD,List.getElem?_replicate,if_pos hs];rfl
 ·have:(qm A id 0).length=1:=rfl
  omega
theorem FRI.old (h:FRI A p F Y) (hc:ncd A p∈qm A id p):FRI A (p+1) F Y:=by
 have e1:qm A id (p+1)=qm A id p:=jK (by rw [List.map_id];exact List.contains_iff_mem.2 hc)
 have e3:qfb A (p+1)=qfb A p:=by rw [qfb,if_pos (by rw [List.map_id];exact List.contains_iff_mem.2 hc)]
 exact ⟨h.lf,h.ly,by rw [e1];exact h.no,h.f0,by rw [e1,e3];exact h.at_⟩
theorem FRI.new (h:FRI A p F Y) (hB:BI A p) (hp:p / A.k < (qm A id p).length) (hc:ncd A p∉qm A id p) (hlt:ncd A p < A.n) (hm:∀ s∈qm A id p,s < A.n):FRI A (p+1) (F.set (ncd A p) (((qm A id p).getD (p / A.k) 0:Nat):Int)) (Y.set (ncd A p) ((p % A.k:Nat):Int)):=by
 have e1:qm A id (p+1)=qm A id p++[ncd A p]:=iZ (by rw [List.map_id];exact fun h9=>hc (List.contains_iff_mem.1 h9))
 have e3:qfb A (p+1)=qfb A p++[(p / A.k,p % A.k)]:=by rw [qfb,if_neg (by rw [List.map_id];exact fun h9=>hc (List.contains_iff_mem.1 h9))]
 have lf:=h.lf
 have ly:=h.ly
 have hlb:=hB.lf
 have h0m:(0:Nat)∈qm A id p:=by
  obtain ⟨t,ht⟩:=qB (A:=A) (cls:=id) (Nat.zero_le p)
  rw [← ht];exact List.mem_append_left _ (List.mem_singleton.2 rfl)
 have hne0:(0:Nat)≠ncd A p:=fun e=>hc (e▸h0m)
 refine ⟨by rw [List.length_set];exact lf,by rw [List.length_set];exact ly,fun s hs hn=>?_,by rw [gH (by omega),if_neg hne0];exact h.f0,fun i h0 hi=>?_⟩
 ·rw [e1] at hn
  have hne:s≠ncd A p:=fun e=>hn (List.mem_append_right _ (List.mem_singleton.2 e))
  rw [gH (by omega),if_neg hne]
  exact h.no s hs (fun h9=>hn (List.mem_append_left _ h9))
 ·rw [e1,List.length_append,List.length_singleton] at hi
  rw [e1,e3]
  rcases Nat.lt_or_ge i (qm A id p).length with h1 | h1
  ·have hin:(qm A id p).getD i 0∈qm A id p:=by rw [List.getD_eq_getElem?_getD,List.getElem?_eq_getElem h1];exact List.getElem_mem h1
   have hne:(qm A id p).getD i 0≠ncd A p:=fun e=>hc (e▸hin)
   obtain ⟨g1,g2⟩:=h.at_ i h0 h1
   obtain ⟨q,_,hq2,hq3,_⟩:=hB.par i h0 h1
   rw [dB h1,dB (l:=qfb A p) (by omega),gH (by omega),if_neg hne,gH (by omega),if_neg hne,dB (l:=qm A id p) (by rw [hq2];dsimp only;omega)]
   exact ⟨g1,g2⟩
  ·rw [dN (l:=qm A id p) (by omega),dN (l:=qfb A p) (by omega),gH (by omega),if_pos rfl,gH (by omega),if_pos rfl,dB hp]
   exact ⟨rfl,rfl⟩
end
theorem qm_inj {A:FA} {p i j:Nat} (hi:i < (qm A id p).length) (hj:j < (qm A id p).length) (e:(qm A id p).getD i 0=(qm A id p).getD j 0):i=j:=mM (by have:=kU (A:=A) (cls:=id) (p:=p);rwa [List.map_id] at this) hi hj e
theorem qm_z {A:FA} {p:Nat}:(qm A id p).getD 0 0=0:=by rw [eB (Nat.zero_le _) (kC 0)];rfl
def Dk (wa:Option Addr) (xs:List Value) (W:World):Prop:=∀ (i:Nat) u,xs[i]?=some u→∃ b off,wa=some ⟨b,off,none⟩∧W.cell? ⟨b,off+i * 1,none⟩=some u
theorem Dk.src {wa:Option Addr} {xs:List Value} {W:World} {n:Nat} (h:Dk wa xs W) (hn:xs.length=n) (h0:xs=[]→wa=none):(wa=none∧n=0)∨∃ p,wa=some p∧∀ (j:Nat) u,xs[j]?=some u→W.cell? (p.add j)=some u:=by
 cases xs with
 | nil=>exact .inl ⟨h0 rfl,by simpa using hn.symm⟩
 | cons x xs =>
  obtain ⟨b,off,e,_⟩:=h 0 x rfl
  refine .inr ⟨_,e,fun j u hj=>?_⟩
  obtain ⟨b2,off2,e2,hc⟩:=h j u hj
  rw [e] at e2
  injection e2 with e2
  injection e2 with e3 e4
  subst e3;subst e4
  rw [Nat.mul_one] at hc
  rw [Addr.add_lit];exact hc
theorem Dk.row {wa:Option Addr} {u:List Nat} {W:World} (h:Dk wa (i64n u) W):Row W wa (wI u):=by
 rcases u with _ | ⟨x,u⟩
 ·exact .inl rfl
 ·obtain ⟨b,off,e,_⟩:=h 0 _ rfl
  refine .inr ⟨b,off,e,fun i hi=>?_⟩
  rw [qO] at hi
  obtain ⟨b2,off2,e2,hc⟩:=h i _ (lD hi)
  rw [e] at e2
  injection e2 with e2
  injection e2 with e3 e4
  subst e3;subst e4
  rw [Nat.mul_one] at hc
  rw [hc]
  unfold wI
  rw [List.getD_eq_getElem?_getD,List.getElem?_map,uM hi];rfl
theorem Aw (d:DV) (Kt:List (Nat×World)) (Ot:Own) (G:bN) (K:List (Nat×World)) (w0 w:World) (hS0:St w0 Ot G K w) (hKt:∀ q∈Kt,q∈K) (hD:cL w0 Kt (fun W=>DIn W d)) (he:cU d=0) :
  Calls prog 42 #[d.val] w (fun e w'=>∃ (r:Option (List Nat)) (wa:Option Addr) (wc:Nat) (Kn:List (Nat×World)),FW (dFA d) r∧(r.getD []).length≤1024∧e = .returned (.tuple #[.slice wa (r.getD []).length wc,.bool r.isSome])∧(∀ q∈K,q∈Kn)∧cL w0 Kn (fun W=>Row W wa (wI (r.getD [])))∧St w0 Ot G Kn w'):=by
 refine cP (args:=[d.val]) func42 rfl ntmps42 rfl ?_
 have hS:=hS0
 obtain ⟨k9,hk9,h1,h2,h3,h4,h5,h6⟩:=dD he
 have hDI0:=hD hS0 hKt
 have hbl:d.bs.length=d.nl:=by have:=hDI0.alen;omega
 have hO:=jM hDI0 he
 have hkk:d.sy.toNat=k9:=by omega
 refine aH (aN (cI (cs:=[_,_,_]) hS rfl rfl rfl fun B1 W1 hS=>aB rfl rfl (aB rfl rfl (aK (XF.thenN (aH (aN (aU (o':=1) cO rfl rfl rfl (aP isAgg22 rfl (aD (hS.at_ 0 rfl) rfl) rfl (bX underlying22 rfl rfl ?_))))))))))
 refine eX (m:=d.nl) (cs:=fG (List.replicate d.nl 0)) hS underlying36 iD rfl rfl rfl (rfl) (rfl) (pL _) (by show (8:Int) * _≤_;omega) (by omega) rfl fun B2 W2 hS=>?_
 refine aB rfl rfl (aK (XF.thenN (aH (aN (aU (o':=1) cO rfl rfl rfl (aP isAgg22 rfl (aD (hS.at_ 1 rfl) rfl) rfl (bX underlying22 rfl rfl ?_)))))))
 refine eX (m:=d.nl) (cs:=fG (List.replicate d.nl 0)) hS underlying36 iD rfl rfl rfl (rfl) (rfl) (pL _) (by show (8:Int) * _≤_;omega) (by omega) rfl fun B3 W3 hS=>?_
 refine aB rfl rfl (aK (XF.thenN (aH (aH (aN (aB rfl rfl (aK (XF.thenN (bH ?_)))))))))
 refine cW (fun m l W=>∃ i:Nat,i≤d.nl∧m=d.nl - i∧l=[(1,.pointer (some ⟨B1,0,none⟩)),(4,.slice (some ⟨B2,0,none⟩) d.nl d.nl),(5,.slice (some ⟨B3,0,none⟩) d.nl d.nl),(6,.int .i64 (i:Int))]∧St w0 ((B3,fG (List.replicate d.nl 0),3)::(B2,fG (zm d.nl i),3)::(B1,[.int .i64 d.sy,.slice d.na d.nl d.nc,.slice d.aa d.al d.ac],25)::Ot) G K W) (d.nl - 0) ([(1,_),(4,_),(5,_),(6,_)]) ⟨rfl,rfl,rfl,rfl,trivial⟩ (⟨0,Nat.zero_le _,rfl,rfl,by rw [pG];exact hS.keep K (fun q hq=>by simp [hq])⟩) ?_
 clear hS
 rintro m l W ⟨i,hi,rfl,rfl,hS⟩
 refine aH (aH (aN (aA rfl rfl (aA rfl rfl (bX underlying36 rfl rfl (cH rfl rfl rfl (aK (XF.thenN (bS rfl (fun hc=>?_) (fun hc=>?_))))))))))
 ·have hc24:=of_decide_eq_true hc;clear hc
  refine bV (XF.thenN (aH (bH (aN (aA rfl rfl (aA rfl rfl (aX (j:=i) underlying36 sizeOf3 rfl rfl (rfl) (by omega) rfl rfl ?_)))))))
  refine bL (i:=1) (cs':=fG ((zm d.nl i).set i (-1))) (O':=(_::_::_::Ot)) hS sizeOf3 rfl rfl rfl rfl (Nat.ble_eq_true_of_le (by rw [i64z_len,tA (by omega)];omega)) fX rfl fun W51 hS=>?_
  refine aK (XF.blkN (XF.thenN (aN (aA rfl rfl (bY rfl rfl (IntWalk.i64_in _ (by omega)) rfl (aB rfl rfl (aK ?_)))))))
  rw [tB (by omega)] at hS
  exact XF.round (d.nl - (i+1)) [(1,_),(4,_),(5,_),(6,_)] (by omega) ⟨rfl,rfl,rfl,rfl,trivial⟩ ⟨i+1,by omega,rfl,rfl,hS.keep K (fun q hq=>by simp [hq])⟩
 ·have hc24:=of_decide_eq_false hc;clear hc
  have eic:i=d.nl:=by omega
  rw [eic,tC] at hS
  refine cV (XF.thenX (XF.thenX (XF.blkX (XF.thenN (aH (aN (bK (us:=[(0,.int .i64 _)]) hS underlying36 sizeOf3 zeroValue3 rfl rfl rfl (fZ _) rfl fun B4 W4 hS=>aB rfl rfl (aK (XF.thenN (aH ?_))))))))))
  have hS':=(hS.castO (O':=((B4,[Value.int .i64 0]++[],3)::_::_::_::Ot)) rfl).ownRowE (n:=1) (c:=1) (sz:=1) rfl rfl (Nat.le_refl _) (by decide);clear hS;have hS:=hS';clear hS'
  have hq0:qm (dFA d) id (0 * d.sy.toNat)=[0]:=by rw [Nat.zero_mul];rfl
  have ez:0 * d.sy.toNat=0:=Nat.zero_mul _
  refine aN (aA rfl rfl (aX (j:=0) underlying36 sizeOf3 rfl rfl (rfl) (by omega) rfl rfl ?_))
  refine bL (i:=1) (cs':=fG ((List.replicate d.nl (-1)).set 0 0)) (O':=(_::_::_::Ot)) hS sizeOf3 rfl rfl rfl rfl (Nat.ble_eq_true_of_le (by rw [i64z_len,List.length_replicate];omega)) fX rfl fun W91 hS=>?_
  refine aK (XF.thenN (aH (aH (aN (aB rfl rfl (aK (XF.thenN (bH ?_))))))))
  refine cW (fun m l W=>∃ (i sl:Nat) (sa:Option Addr) (sc:Nat) (F Y:List Int),i≤sl∧m=d.nl - i∧l=[(1,.pointer (some ⟨B1,0,none⟩)),(4,.slice (some ⟨B2,0,none⟩) d.nl d.nl),(5,.slice (some ⟨B3,0,none⟩) d.nl d.nl),(7,.slice sa sl sc),(8,.int .i64 (i:Int))]∧(qm (dFA d) id (i * d.sy.toNat)).length=sl∧(∀ j,j < i→j < (qm (dFA d) id (j * d.sy.toNat)).length)∧(∀ j,j < i→(dFA d).ac ((qm (dFA d) id (i * d.sy.toNat)).getD j 0)=false)∧FRI (dFA d) (i * d.sy.toNat) F Y∧St w0 ((B3,fG (Y),3)::(B2,fG (F),3)::(B1,[.int .i64 d.sy,.slice d.na d.nl d.nc,.slice d.aa d.al d.ac],25)::Ot) (⟨.slice sa (sl) sc,sl,i64n (qm (dFA d) id (i * d.sy.toNat)),3,1⟩::G) K W) (d.nl - 0) ([(1,_),(4,_),(5,_),(7,_),(8,_)]) ⟨rfl,rfl,rfl,rfl,rfl,trivial⟩ (⟨0,1,some ⟨B4,0,none⟩,1,(List.replicate d.nl (-1)).set 0 0,List.replicate d.nl 0,Nat.zero_le _,rfl,rfl,by rw [hq0];rfl,fun j hj=>absurd hj (Nat.not_lt_zero _),fun j hj=>absurd hj (Nat.not_lt_zero _),by rw [ez];exact FRI.start hO List.length_replicate,by rw [hq0];exact hS.keep K (fun q hq=>by simp [hq])⟩) ?_
  clear hS
  rintro m l W ⟨i,sl,sa,sc,F,Y,hi,rfl,rfl,hsl,hrows,hno,hFR,hS⟩
  have hqr:eR (dFA d) id (i * d.sy.toNat):=fun q hq=>by
   obtain ⟨d1,_,d3⟩:=dM hq
   exact Nat.lt_of_lt_of_le (hrows _ d1) (dQ d3)
  obtain ⟨hq1,hq2⟩:=jI (cm:=d.nl) hO (fun _=>hqr) (fun h0=>by have h9:d.sy.toNat=0:=h0;rw [h9,Nat.mul_zero]) (fun x hx=>hx)
  refine aH (aH (aN (aA rfl rfl (aA rfl rfl (bX underlying36 rfl rfl (cH rfl rfl rfl (aK (XF.thenN (bS rfl (fun hc=>?_) (fun hc=>?_))))))))))
  ·have hc36:=of_decide_eq_true hc;clear hc
   obtain ⟨c,hcE⟩:∃ c,(qm (dFA d) id (i * d.sy.toNat)).getD i 0=c:=⟨_,rfl⟩
   have hcx:(qm (dFA d) id (i * d.sy.toNat))[i]?=some c:=by rw [← hcE,List.getD_eq_getElem?_getD,List.getElem?_eq_getElem (by omega)];rfl
   have hc9:c < d.nl:=hq2 _ (List.mem_of_getElem? hcx)
   obtain ⟨sb,rfl⟩:=eG (hS.row 0 rfl) (by omega)
   obtain ⟨ab,ao,haa,hac⟩:=fE.get (hD hS (fun q hq=>by simp [hKt q hq])).arow (i:=c) (by omega)
   refine bV (XF.thenN (aH (bH (aH (aN (aA rfl rfl (aA rfl rfl (aX (j:=i) (b:=sb) (o:=0) (m:=sl) (c:=sc) underlying36 sizeOf3 rfl rfl rfl (by omega) rfl rfl ?_))))))))
   refine aP isAgg3 rfl (by rw [Nat.zero_add,Nat.mul_one];exact cX (hS.row 0 rfl) (k:=i) (show (i64n _)[i]?=some (.int .i64 (c:Int)) by unfold i64n;rw [List.getElem?_map,hcx];rfl)) rfl ?_
   refine aB rfl rfl (aK (XF.thenN (aH (aH (aN (aU (o':=2) cT rfl rfl rfl (aP isAgg23 rfl (aD (hS.at_ 2 rfl) rfl) rfl (aA rfl rfl ?_))))))))
   refine aX (j:=c) (b:=ab) (o:=ao) (m:=d.al) (c:=d.ac) underlying23 sizeOf4 (by show some (Value.slice _ _ _)=_;rw [haa]) rfl rfl (by omega) rfl rfl ?_
   refine aP isAgg4 rfl (hac) rfl (aK (XF.thenN (bS rfl (fun hc=>?_) (fun hc=>?_))))
   ·have hc47:=hc;clear hc
    have hacc:(dFA d).ac ((qm (dFA d) id (i * d.sy.toNat)).getD i 0)=true:=by rw [hcE];exact hc47
    have hBI:=pF hqr
    have lfF:F.length=d.nl:=hFR.lf
    have lfY:Y.length=d.nl:=hFR.ly
    refine aH (aN (aB rfl rfl (aK (XF.thenN (aH (bH ?_))))))
    refine cW (fun m l W=>∃ (j:Nat) (suf:List Nat) (wa:Option Addr) (wc:Nat) (Kk:List (Nat×World)),j < sl∧m=j∧l=[(1,.pointer (some ⟨B1,0,none⟩)),(4,.slice (some ⟨B2,0,none⟩) d.nl d.nl),(5,.slice (some ⟨B3,0,none⟩) d.nl d.nl),(9,.int .i64 (((qm (dFA d) id (i * d.sy.toNat)).getD j 0:Nat):Int)),(10,.slice wa suf.length wc)]∧(qw (dFA d) (i * d.sy.toNat)).getD (i) []=(qw (dFA d) (i * d.sy.toNat)).getD (j) []++suf∧(suf=[]→wa=none)∧(∀ q∈K,q∈Kk)∧cL w0 Kk (Dk wa (i64n suf))∧St w0 ((B3,fG (Y),3)::(B2,fG (F),3)::(B1,[.int .i64 d.sy,.slice d.na d.nl d.nc,.slice d.aa d.al d.ac],25)::Ot) (⟨.slice (some ⟨sb,0,none⟩) (sl) sc,sl,i64n (qm (dFA d) id (i * d.sy.toNat)),3,1⟩::G) Kk W) (i) ([(1,_),(4,_),(5,_),(9,_),(10,_)]) ⟨rfl,rfl,rfl,by show _=some (Value.int .i64 (((qm (dFA d) id (i * d.sy.toNat)).getD i 0:Nat):Int));rw [hcE];rfl,rfl,trivial⟩ (⟨i,[],none,0,K,by omega,rfl,rfl,(List.append_nil _).symm,fun _=>rfl,fun q hq=>hq,fun _ _ i u h=>(by cases h),hS.keep K (fun q hq=>by simp [hq])⟩) ?_
    clear hS
    rintro j l W ⟨_,suf,wa,wc,Kk,hj,rfl,rfl,hwd,hsn,hsub,hKR,hS⟩
    refine aH (aH (aN (aA rfl rfl (dR rfl rfl rfl (aK (XF.thenN (bS rfl (fun hc=>?_) (fun hc=>?_))))))))
    ·have hc49:=of_decide_eq_true hc;clear hc
     have hj0:0 < j:=by
      rcases Nat.eq_zero_or_pos j with h0 | h0
      ·rw [h0,qm_z] at hc49;exact absurd rfl hc49
      ·exact h0
     obtain ⟨q,hqp,hqf,hqj,hqw⟩:=hBI.par j hj0 (show j < (qm (dFA d) id (i * d.sy.toNat)).length by omega)
     obtain ⟨hF9,hY9⟩:=hFR.at_ j hj0 (show j < (qm (dFA d) id (i * d.sy.toNat)).length by omega)
     have hqf:(qfb (dFA d) (i * d.sy.toNat)).getD j (0,0)=(q / (dFA d).k,q % (dFA d).k):=hqf
     rw [hqf] at hF9 hY9
     dsimp only at hF9 hY9
     have hsj:(qm (dFA d) id (i * d.sy.toNat)).getD j 0 < d.nl:=hq2 _ (by rw [List.getD_eq_getElem?_getD,List.getElem?_eq_getElem (by omega)];exact List.getElem_mem _)
     have hwl:=hBI.wlen i i (Nat.le_refl _) (show i < (qm (dFA d) id (i * d.sy.toNat)).length by omega)
     have hsl9:suf.length≤i:=by
      have h9:=congrArg List.length hwd
      rw [List.length_append] at h9
      have hwl:((qw (dFA d) (i * d.sy.toNat)).getD i []).length≤i:=hwl
      omega
     refine bV (XF.thenN (bH (aH (aN (aA rfl rfl (aA rfl rfl (aX (j:=(qm (dFA d) id (i * d.sy.toNat)).getD j 0) underlying36 sizeOf3 rfl rfl (rfl) (hsj) rfl rfl (aP isAgg3 rfl (aD (hS.at_ 0 rfl) (iM (by omega))) rfl (bK (us:=[(0,.int .i64 _)]) hS underlying36 sizeOf3 zeroValue3 rfl rfl rfl (fZ _) rfl fun B5 W5 hS=>aA rfl rfl ?_)))))))))
     have hKR9:=hKR (hS.keep Kk (fun q hq=>by simp [hq])) (fun q hq=>hq)
     have hS':=(hS.castO (O':=((B5,[Value.int .i64 (Y.getD ((qm (dFA d) id (i * d.sy.toNat)).getD j 0) 0)]++[],3)::_::_::_::Ot)) rfl).ownRowE (n:=1) (c:=1) (sz:=1) rfl rfl (Nat.le_refl _) (by decide);clear hS;have hS:=hS';clear hS'
     refine pW (i:=0) (news:=i64n suf) hS underlying36 iD rfl rfl (by show 0 < 1;decide) rfl rfl rfl rfl rfl (hKR9.src (by rw [eT]) (fun h=>hsn (by cases suf with | nil=>rfl | cons _ _=>cases h))) (by rw [eT];exact (Nat.mul_one _).symm) (fun u hu=>by unfold i64n at hu;obtain ⟨x,_,rfl⟩:=List.mem_map.1 hu;rfl) (by show 1+suf.length≤maxLen;simp only [maxLen];omega) (by show (1+suf.length) * 8≤_;omega) rfl fun v16 W16 hS=>?_
     obtain ⟨wa9,wc9,e9,_⟩:=bQ (hS.row 0 rfl)
     dsimp only at e9
     subst e9
     have hS9:=(hS.keep Kk (fun q hq=>by simp [hq])).castG (G':=(⟨.slice wa9 (1+suf.length) wc9,1+suf.length,i64n (q % (dFA d).k::suf),3,1⟩::_::G)) (by show GR.mk _ _ ([Value.int .i64 _]++_) _ _::_=_;rw [hY9];rfl)
     obtain ⟨Kn,kn,gn,hS8⟩:=hS9.rowKeep
     clear hS hS9;have hS:=hS8;clear hS8
     refine aB rfl rfl (aK (XF.thenN (aN (aA rfl rfl (aA rfl rfl (aX (j:=(qm (dFA d) id (i * d.sy.toNat)).getD j 0) underlying36 sizeOf3 rfl rfl (rfl) (hsj) rfl rfl (aP isAgg3 rfl (aD (hS.at_ 1 rfl) (iM (by omega))) rfl (aB rfl rfl (aK (XF.blkN ?_))))))))))
     exact XF.round (q / (dFA d).k) [(1,.pointer (some ⟨B1,0,none⟩)),(4,.slice (some ⟨B2,0,none⟩) d.nl d.nl),(5,.slice (some ⟨B3,0,none⟩) d.nl d.nl),(9,.int .i64 (((qm (dFA d) id (i * d.sy.toNat)).getD (q / (dFA d).k) 0:Nat):Int)),(10,.slice wa9 (q % (dFA d).k::suf).length wc9)] hqj ⟨rfl,rfl,rfl,by show _=some (Value.int .i64 (((qm (dFA d) id (i * d.sy.toNat)).getD (q / (dFA d).k) 0:Nat):Int));rw [← hF9];rfl,by show _=some (Value.slice wa9 (q % (dFA d).k::suf).length wc9);rw [List.length_cons,Nat.add_comm suf.length 1];rfl,trivial⟩ ⟨q / (dFA d).k,q % (dFA d).k::suf,wa9,wc9,Kn,by omega,rfl,rfl,by rw [hwd,show (qw (dFA d) (i * d.sy.toNat)).getD j []=_ from hqw,List.append_assoc];rfl,fun h=>(by cases h),fun q hq=>kn q (hsub q hq),gn,hS.keep Kn (fun q hq=>by simp [hq])⟩
    ·have hc49:=of_decide_eq_false hc;clear hc
     have hj0:j=0:=by
      have h9:(qm (dFA d) id (i * d.sy.toNat)).getD j 0=0:=by have:=Decidable.of_not_not hc49;omega
      exact qm_inj (show j < (qm (dFA d) id (i * d.sy.toNat)).length by omega) (kC _) (h9.trans qm_z.symm)
     subst hj0
     have hw0:(qw (dFA d) (i * d.sy.toNat)).getD 0 []=[]:=hBI.w0
     rw [hw0,List.nil_append] at hwd
     refine cV (XF.thenX (XF.thenX (XF.blkX (XF.thenN (aH (aN (aA rfl rfl (aB rfl rfl (aB rfl rfl (aK (XF.thenN (cK (XF.thenR (XF.blkR (XF.thenR (XF.thenR (XF.blkR (XF.thenR (XF.res (uC results42 rfl rfl) ?_)))))))))))))))))))
     exact ⟨some _,wa,wc,Kk,rP hqr (show i < (qm (dFA d) id (i * d.sy.toNat)).length by omega) hno hacc,Nat.le_trans (hBI.wlen i i (Nat.le_refl _) (show i < (qm (dFA d) id (i * d.sy.toNat)).length by omega)) (by omega),by show _=Ending.returned (.tuple #[.slice wa ((qw (dFA d) (i * d.sy.toNat)).getD (i) []).length wc,.bool true]);rw [hwd],hsub,fun h9 hk9=>by show Row _ wa (wI ((qw (dFA d) (i * d.sy.toNat)).getD (i) []));rw [hwd];exact (hKR h9 hk9).row,(hS.keep Kk (fun q hq=>by simp [hq])).tail.tail.tail.tailG⟩
   ·have hc47:=hc;clear hc
    refine bV (XF.thenN (aH (aN (aB rfl rfl (aK (XF.thenN (bH (cW (fun m l W=>∃ (x sl:Nat) (sa:Option Addr) (sc:Nat) (F Y:List Int),x≤d.sy.toNat∧m=d.sy.toNat - x∧l=[(1,.pointer (some ⟨B1,0,none⟩)),(4,.slice (some ⟨B2,0,none⟩) d.nl d.nl),(5,.slice (some ⟨B3,0,none⟩) d.nl d.nl),(7,.slice sa sl sc),(8,.int .i64 (i:Int)),(9,.int .i64 (c:Int)),(11,.int .i64 (x:Int))]∧(qm (dFA d) id (i * d.sy.toNat+x)).length=sl∧FRI (dFA d) (i * d.sy.toNat+x) F Y∧St w0 ((B3,fG (Y),3)::(B2,fG (F),3)::(B1,[.int .i64 d.sy,.slice d.na d.nl d.nc,.slice d.aa d.al d.ac],25)::Ot) (⟨.slice sa (sl) sc,sl,i64n (qm (dFA d) id (i * d.sy.toNat+x)),3,1⟩::G) K W) (d.sy.toNat - 0) ([(1,_),(4,_),(5,_),(7,_),(8,_),(9,_),(11,_)]) ⟨rfl,rfl,rfl,rfl,rfl,rfl,rfl,trivial⟩ (⟨0,sl,some ⟨sb,0,none⟩,sc,F,Y,Nat.zero_le _,rfl,rfl,hsl,hFR,hS.keep K (fun q hq=>by simp [hq])⟩) ?_))))))))
    clear hS
    have hil:i < (qm (dFA d) id (i * d.sy.toNat)).length:=by omega
    clear hi
    rintro m l W ⟨x,sl9,sa,sc,F,Y,hx,rfl,rfl,hsl9,hFR,hS⟩
    refine aH (aH (aN (aA rfl rfl (aU (o':=0) dC rfl rfl rfl (aP isAgg3 rfl (aD (hS.at_ 2 rfl) rfl) rfl (cH rfl rfl rfl (aK (XF.thenN (bS rfl (fun hc=>?_) (fun hc=>?_))))))))))
    ·have hc65:=of_decide_eq_true hc;clear hc
     have hx9:x < d.sy.toNat:=by omega
     have hpk:(i * d.sy.toNat+x) / d.sy.toNat=i∧(i * d.sy.toNat+x) % d.sy.toNat=x:=dY hx9
     have hgd:(qm (dFA d) id (i * d.sy.toNat+x)).getD i 0=c:=(eB (Nat.le_add_right _ _) hil).trans hcE
     obtain ⟨r,nb,no,rb,ro,hna,q1,hra,hrlE,q2,hlt⟩:=oM (hD hS (fun q hq=>by simp [hKt q hq])) he hc9 hc65
     have hqr2:eR (dFA d) id (i * d.sy.toNat+x):=fun q hq=>by
      rcases Nat.lt_or_ge q (i * d.sy.toNat) with h9 | h9
      ·exact hqr q h9
      ·have h8:q / d.sy.toNat=i:=by
        rw [show q=i * d.sy.toNat+(q - i * d.sy.toNat) by omega];exact (dY (by omega)).1
       rw [show q / (dFA d).k=i from h8]
       exact Nat.lt_of_lt_of_le hil (dQ h9)
     obtain ⟨hq3,hq4⟩:=jI (cm:=d.nl) hO (fun _=>hqr2) (fun h0=>absurd (show d.sy.toNat=0 from h0) (by omega)) (fun x hx=>hx)
     have hnc:ncd (dFA d) (i * d.sy.toNat+x)=(dFA d).nx c x:=by
      show (dFA d).nx ((qm (dFA d) id (i * d.sy.toNat+x)).getD ((i * d.sy.toNat+x) / d.sy.toNat) 0) ((i * d.sy.toNat+x) % d.sy.toNat)=_
      rw [hpk.1,hpk.2,hgd]
     have hBI:=BI.all (.inl (show 0 < (dFA d).k by show 0 < d.sy.toNat;omega)) hqr2
     have lfF:=hFR.lf
     have lfY:=hFR.ly
     have lfF:F.length=d.nl:=lfF
     have lfY:Y.length=d.nl:=lfY
     refine bV (XF.thenN (aH (bH (aH (aN (aU (o':=1) cO rfl rfl rfl (aP isAgg22 rfl (aD (hS.at_ 2 rfl) rfl) rfl (aA rfl rfl ?_))))))))
     refine aX (j:=c) (b:=nb) (o:=no) (m:=d.nl) (c:=d.nc) underlying22 sizeOf36 (by show some (Value.slice _ _ _)=_;rw [hna]) rfl rfl (by omega) rfl rfl ?_
     refine aP isAgg36 rfl (q1) rfl (aA rfl rfl ?_)
     refine aX (j:=x) (b:=rb) (o:=ro) (m:=r.l) (c:=r.c) underlying36 sizeOf3 (by show some (Value.slice _ _ _)=_;rw [hra]) rfl (by omega) (by omega) rfl rfl ?_
     refine aP isAgg3 rfl (q2) rfl (aB rfl rfl (aK (XF.thenN (aH (aN (aA rfl rfl (aA rfl rfl (aX (j:=(dFA d).nx c x) underlying36 sizeOf3 rfl rfl (rfl) (by omega) rfl rfl (aP isAgg3 rfl (aD (hS.at_ 1 rfl) (iM (by omega))) rfl (cH rfl rfl rfl (aK (XF.thenN (bS rfl (fun hc=>?_) (fun hc=>?_))))))))))))))
     ·have hc80:=of_decide_eq_true hc;clear hc
      have hnew:ncd (dFA d) (i * d.sy.toNat+x)∉qm (dFA d) id (i * d.sy.toNat+x):=fun h=>by
       obtain ⟨z,hz⟩:=List.getElem?_of_mem h
       obtain ⟨hzl,_⟩:=List.getElem?_eq_some_iff.1 hz
       have hzg:(qm (dFA d) id (i * d.sy.toNat+x)).getD z 0=(dFA d).nx c x:=by rw [List.getD_eq_getElem?_getD,hz];exact hnc
       rcases Nat.eq_zero_or_pos z with h0 | h0
       ·rw [h0,qm_z] at hzg
        rw [← hzg,hFR.f0] at hc80;omega
       ·have h9:=(hFR.at_ z h0 hzl).1
        rw [hzg] at h9;omega
      have hFR9:=hFR.new hBI (by show (i * d.sy.toNat+x) / d.sy.toNat < _;rw [hpk.1];exact Nat.lt_of_lt_of_le hil (dQ (Nat.le_add_right _ _))) hnew (by rw [hnc];exact hlt) hq4
      refine aH (aN (aA rfl rfl (aA rfl rfl (aA rfl rfl (aA rfl rfl (aA rfl rfl (aA rfl rfl (aX (j:=(dFA d).nx c x) underlying36 sizeOf3 rfl rfl (rfl) (by omega) rfl rfl ?_))))))))
      refine bL (i:=1) (cs':=fG (F.set ((dFA d).nx c x) (c:Int))) (O':=(_::_::_::Ot)) hS sizeOf3 rfl rfl rfl rfl (Nat.ble_eq_true_of_le (by rw [i64z_len];omega)) fX rfl fun W92 hS=>?_
      refine aX (j:=(dFA d).nx c x) underlying36 sizeOf3 rfl rfl (rfl) (by omega) rfl rfl ?_
      refine bL (i:=0) (cs':=fG (Y.set ((dFA d).nx c x) (x:Int))) (O':=(_::_::_::Ot)) hS sizeOf3 rfl rfl rfl rfl (Nat.ble_eq_true_of_le (by rw [i64z_len];omega)) fX rfl fun W93 hS=>?_
      refine aK (XF.thenN (aN (aA rfl rfl (aA rfl rfl (bK (us:=[(0,.int .i64 _)]) hS underlying36 sizeOf3 zeroValue3 rfl rfl rfl (fZ _) rfl fun B6 W6 hS=>?_)))))
      refine cR (i:=0) (news:=[_]) hS underlying36 iD rfl rfl (by show 0 < 1;decide) rfl rfl rfl rfl rfl (aT.own (j:=0) (m:=1) (hS.at_ 0 rfl) rfl) rfl rfl (by dsimp only;simp only [maxLen];omega) (by dsimp only;show _ * 8≤_;omega) rfl fun v7 W7 hS=>?_
      obtain ⟨sa9,sc9,e9,_⟩:=bQ (hS.row 0 rfl)
      dsimp only at e9
      subst e9
      refine aB rfl rfl (aK (XF.blkN (XF.thenN (aN (aA rfl rfl (bY rfl rfl (IntWalk.i64_in _ (by omega)) rfl (aB rfl rfl (aK ?_))))))))
      have eq1:qm (dFA d) id (i * d.sy.toNat+x+1)=qm (dFA d) id (i * d.sy.toNat+x)++[(dFA d).nx c x]:=by rw [← hnc];exact iZ (by rw [List.map_id];exact fun h9=>hnew (List.contains_iff_mem.1 h9))
      rw [show (i * d.sy.toNat+x) / (dFA d).k=i from hpk.1,show (i * d.sy.toNat+x) % (dFA d).k=x from hpk.2,hgd,hnc] at hFR9
      have hS9:=hS.tail.castG (G':=(⟨.slice sa9 (sl9+1) sc9,(sl9+1),i64n (qm (dFA d) id (i * d.sy.toNat+x+1)),3,1⟩::G)) (by rw [eq1,← lB rfl];rfl)
      exact XF.round (d.sy.toNat - (x+1)) [(1,_),(4,_),(5,_),(7,_),(8,_),(9,_),(11,_)] (by omega) ⟨rfl,rfl,rfl,rfl,rfl,rfl,rfl,trivial⟩ ⟨x+1,sl9+1,sa9,sc9,_,_,by omega,rfl,rfl,by show (qm (dFA d) id (i * d.sy.toNat+x+1)).length=sl9+1;rw [eq1,List.length_append,hsl9];rfl,hFR9,hS9.keep K (fun q hq=>by simp [hq])⟩
     ·have hc80:=of_decide_eq_false hc;clear hc
      have hold:ncd (dFA d) (i * d.sy.toNat+x)∈qm (dFA d) id (i * d.sy.toNat+x):=Decidable.of_not_not fun h=>by
       have h9:=hFR.no _ (show ncd (dFA d) (i * d.sy.toNat+x) < d.nl by rw [hnc];exact hlt) h
       rw [hnc] at h9;omega
      have hFR9:=hFR.old hold
      refine bV (XF.blkN (XF.thenN (aN (aA rfl rfl (bY rfl rfl (IntWalk.i64_in _ (by omega)) rfl (aB rfl rfl (aK ?_)))))))
      have eq1:qm (dFA d) id (i * d.sy.toNat+x+1)=qm (dFA d) id (i * d.sy.toNat+x):=jK (by rw [List.map_id];exact List.contains_iff_mem.2 hold)
      rw [← eq1] at hsl9 hS
      exact XF.round (d.sy.toNat - (x+1)) [(1,_),(4,_),(5,_),(7,_),(8,_),(9,_),(11,_)] (by omega) ⟨rfl,rfl,rfl,rfl,rfl,rfl,rfl,trivial⟩ ⟨x+1,sl9,sa,sc,F,Y,by omega,rfl,rfl,hsl9,hFR9,hS.keep K (fun q hq=>by simp [hq])⟩
    ·have hc65:=of_decide_eq_false hc;clear hc
     have exk:x=d.sy.toNat:=by omega
     have es:(i+1) * d.sy.toNat=i * d.sy.toNat+x:=by rw [Nat.succ_mul,exk]
     have hle9:i * d.sy.toNat≤(i+1) * d.sy.toNat:=Nat.mul_le_mul_right _ (Nat.le_succ i)
     rw [← es] at hsl9 hFR hS
     have hil2:i < sl9:=by have:=dQ (A:=dFA d) (cls:=id) hle9;omega
     have hno2:∀ j,j < i+1→(dFA d).ac ((qm (dFA d) id ((i+1) * d.sy.toNat)).getD j 0)=false:=fun j hj=>by
      rw [eB hle9 (show j < (qm (dFA d) id (i * d.sy.toNat)).length by omega)]
      rcases Nat.lt_or_ge j i with h9 | h9
      ·exact hno j h9
      ·rw [show j=i by omega,hcE];exact hc47
     refine cV (XF.thenX (XF.thenX (XF.blkX (XF.blkN (XF.thenN (aN (aA rfl rfl (bY rfl rfl (IntWalk.i64_in _ (by omega)) rfl (aB rfl rfl (aK ?_))))))))))
     exact XF.round (d.nl - (i+1)) [(1,_),(4,_),(5,_),(7,_),(8,_)] (by omega) ⟨rfl,rfl,rfl,rfl,rfl,trivial⟩ ⟨i+1,sl9,sa,sc,F,Y,by omega,rfl,rfl,hsl9,fun j hj=>(by
      rcases Nat.lt_or_ge j i with h9 | h9
      ·exact hrows j h9
      ·rw [show j=i by omega];exact hil),hno2,hFR,hS.keep K (fun q hq=>by simp [hq])⟩
  ·have hc36:=of_decide_eq_false hc;clear hc
   refine cV (XF.thenX (XF.thenX (XF.blkX (XF.thenN (aH (aN (aB rfl rfl (aB rfl rfl (aK (XF.thenN (cK (XF.res (uC results42 rfl rfl) ?_))))))))))))
   exact ⟨none,none,0,K,vE hqr (show (qm (dFA d) id (i * d.sy.toNat)).length≤i by omega) hno,Nat.zero_le _,rfl,fun q hq=>hq,fun _ _=>.inl rfl,(hS.keep K (fun q hq=>by simp [hq])).tail.tail.tail.tailG⟩
theorem goes_42:cC prog 42=true:=by kernel_rfl
theorem Dl (a b:Option Addr) (n m ca cb:Nat) (xs ys:List Int) (w:World) (hA:Row w a xs) (hB:Row w b ys) (hn:xs.length=n) (hm:ys.length=m) (hmx:n≤9223372036854775807) :
  Calls prog 25 #[.slice a n ca,.slice b m cb] w (fun e w'=>e = .returned (.bool (decide (xs=ys)))∧Below w.heap.size w w'):=by
 refine cP (args:=[.slice a n ca,.slice b m cb]) func25 rfl ntmps25 rfl ?_
 have hS:=St.start w
 refine aH (aN (aB rfl rfl (aK (XF.thenN (aH (aH (aN (aA rfl rfl (bX underlying36 rfl rfl (aA rfl rfl (bX underlying36 rfl rfl (dR rfl rfl rfl (aK (XF.thenN (bS rfl (fun hc=>?_) (fun hc=>?_))))))))))))))))
 ·have hc10:=of_decide_eq_true hc;clear hc
  refine aH (aN (aB rfl rfl (aK (XF.thenN (cK (XF.thenR (XF.res (cZ results25 rfl) ?_)))))))
  exact ⟨by rw [decide_eq_false (fun h=>hc10 (by rw [← hn,← hm,h]))],hS.below⟩
 ·have hc10:=of_decide_eq_false hc;clear hc
  have hnm:n=m:=by have:=Decidable.of_not_not hc10;omega
  refine bV (XF.thenN (aH (aH (aN (aB rfl rfl (aK (XF.thenN (bH (cW (fun m9 l W=>∃ i:Nat,i≤n∧m9=n - i∧l=[(0,.slice a n ca),(1,.slice b m cb),(5,.int .i64 (i:Int))]∧xs.take i=ys.take i∧St w [] [] [] W) (n - 0) ([(0,_),(1,_),(5,_)]) ⟨rfl,rfl,rfl,trivial⟩ (⟨0,Nat.zero_le _,rfl,rfl,rfl,hS.clear⟩) ?_)))))))))
  clear hS
  rintro m9 l W ⟨i,hi,rfl,rfl,hall,hS⟩
  refine aH (aH (aN (aA rfl rfl (aA rfl rfl (bX underlying36 rfl rfl (cH rfl rfl rfl (aK (XF.thenN (bS rfl (fun hc=>?_) (fun hc=>?_))))))))))
  ·have hc14:=of_decide_eq_true hc;clear hc
   obtain ⟨b1,o1,y1,hea,hy1,hc1⟩:=hA.at1 (i:=i) (by omega)
   obtain ⟨b2,o2,y2,heb,hy2,hc2⟩:=hB.at1 (i:=i) (by omega)
   have k1:=hS.old hc1
   have k2:=hS.old hc2
   refine bV (XF.thenN (aH (bH (aH (iF (m:=9) cA hS (by kernel_rfl) (by kernel_rfl) rfl (bR 1 rfl 0 rfl rfl (fun w hw=>aV rfl) rfl (bR 2 rfl 5 rfl rfl (fun w hw=>aV rfl) rfl ?_)))))))
   refine aZ 3 rfl (isV _) (aW _) (rgV (li:=[(17,_),(18,_)]) rfl (aL rfl) ⟨aJ 0 (aC rfl rfl rfl),aJ 1 (aC rfl rfl rfl),trivial⟩ (fun w hw=>bE (j:=i) (b:=b1) (o:=o1) (m:=n) (c:=ca) underlying36 sizeOf3 (by show some (Value.slice _ _ _)=_;rw [hea]) rfl rfl (by omega) rfl) (aG rfl)) ?_
   refine bF 4 rfl 19 2 rfl rfl rfl (fun w hw=>aY isAgg3 rfl ((aO hw 0).cell (Nat.zero_le _) (k1))) rfl (bR 5 rfl 1 rfl rfl (fun w hw=>aV rfl) rfl (bR 6 rfl 5 rfl rfl (fun w hw=>aV rfl) rfl ?_))
   refine aZ 7 rfl (isV _) (aW _) (rgV (li:=[(21,_),(22,_)]) rfl (aL rfl) ⟨aJ 4 (aC rfl rfl rfl),aJ 5 (aC rfl rfl rfl),trivial⟩ (fun w hw=>bE (j:=i) (b:=b2) (o:=o2) (m:=m) (c:=cb) underlying36 sizeOf3 (by show some (Value.slice _ _ _)=_;rw [heb]) rfl rfl (by omega) rfl) (aG rfl)) ?_
   refine bF 8 rfl 23 6 rfl rfl rfl (fun w hw=>aY isAgg3 rfl ((aO hw 0).cell (Nat.zero_le _) (k2))) rfl (aZ 9 rfl (isV _) (aW _) (rgV (li:=[(20,_),(24,_)]) rfl (aL rfl) ⟨aJ 3 (aC rfl rfl rfl),aJ 7 (aC rfl rfl rfl),trivial⟩ (fun w hw=>kN rfl rfl) (aG rfl)) (dJ ?_))
   intro W1 hbR hS'
   clear hS;have hS:=hS';clear hS'
   refine aI (aI (aI (aI (aI (aI (aI (aI (aI (cN (XF.thenN (bS rfl (fun hc=>?_) (fun hc=>?_))))))))))))
   ·have hc25:=hc;clear hc
    refine aH (aN (aB rfl rfl (aK (XF.thenN (cK (XF.blkR (XF.thenR (XF.thenR (XF.blkR (XF.thenR (XF.res (cZ results25 rfl) ?_)))))))))))
    have hne:y1≠y2:=of_decide_eq_true hc25
    exact ⟨by rw [decide_eq_false (fun h=>hne (by rw [h,hy2] at hy1;exact (Option.some.inj hy1).symm))],hS.below⟩
   ·have hc25:=hc;clear hc
    refine bV (XF.blkN (XF.thenN (aN (aA rfl rfl (bY rfl rfl (IntWalk.i64_in _ (by omega)) rfl (aB rfl rfl (aK ?_)))))))
    have hye:y1=y2:=Decidable.of_not_not (of_decide_eq_false hc25)
    exact XF.round (n - (i+1)) [(0,_),(1,_),(5,_)] (by omega) ⟨rfl,rfl,rfl,trivial⟩ ⟨i+1,by omega,rfl,rfl,nN hall hy1 hy2 hye,hS.clear⟩
  ·have hc14:=of_decide_eq_false hc;clear hc
   refine cV (XF.thenX (XF.thenX (XF.blkX (XF.thenN (aH (aN (aB rfl rfl (aK (XF.thenN (cK (XF.res (cZ results25 rfl) ?_)))))))))))
   exact ⟨by rw [decide_eq_true (Au hall (by omega) (by omega))],hS.below⟩
theorem goes_25:cC prog 25=true:=by kernel_rfl
end Go.Proofs.Ytghmbejblbnjjaa
