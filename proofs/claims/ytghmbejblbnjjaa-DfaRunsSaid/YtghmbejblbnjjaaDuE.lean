import Derived.Lib.SmallJoins
import Derived.ChangeSlices
import Derived.ChangeSame
import Derived.ProofKit
import Derived.Deep.Slices
import Derived.Deep.Fields
import Derived.Test.YtghmbejblbnjjaaDuD
set_option maxRecDepth 100000
set_option maxHeartbeats 4000000
set_option linter.unusedVariables false
set_option linter.unusedSimpArgs false
set_option linter.unusedSectionVars false
set_option linter.unnecessarySimpa false
namespace Go.Proofs.Ytghmbejblbnjjaa
open Go.Proofs.Try
section
open Go.RowKit
theorem goes_42:cD prog 42=true:=by kernel_rfl
def pzc (d:DV) (v:List Nat) (n s:Nat) (y:Nat):List Nat:=(List.range s).map (cvE d v)++(y::List.replicate (n - s - 1) 0)
theorem pzc_len {d:DV} {v:List Nat} {n s y:Nat} (h:s < n):(pzc d v n s y).length=n:=by unfold pzc;simp;omega
theorem pzc_get {d:DV} {v:List Nat} {n s y:Nat}:gN (pzc d v n s y) s=y:=by
 unfold pzc gN;rw [List.getD_eq_getElem?_getD,List.getElem?_append_right (by simp),List.length_map,List.length_range,Nat.sub_self];rfl
theorem pzc_set {d:DV} {v:List Nat} {n s y z:Nat}:(pzc d v n s y).set s z=pzc d v n s z:=by
 unfold pzc;rw [List.set_append_right _ _ (by simp),List.length_map,List.length_range,Nat.sub_self];rfl
theorem pzc_in {d:DV} {v:List Nat} {n s:Nat} (h:s < n):lz d v (List.replicate n 0) s=pzc d v n s 0:=by
 unfold lz pzc
 rw [List.drop_replicate]
 obtain ⟨m,hm⟩:∃ m,n - s=m+1:=⟨n - s - 1,by omega⟩
 rw [hm,show m+1 - 1=m by omega];rfl
theorem pzc_out {d:DV} {v:List Nat} {n s:Nat} (h:s < n):pzc d v n s (cvE d v s)=lz d v (List.replicate n 0) (s+1):=by
 unfold lz pzc
 rw [List.drop_replicate,List.range_succ,List.map_append,List.append_assoc,show n - (s+1)=n - s - 1 by omega];rfl
theorem zU {a b M:Nat}:min (min a M+b) M=min (a+b) M:=by omega
theorem pB (d:DV) (n:Int) (w:World) (hd:DIn w d) :
  Calls prog 24 #[d.val,.int .i64 n] w (fun e w'=>e = .returned (zF (gA d n))∧Below w.heap.size w w'):=by
 refine cP (args:=[d.val,.int .i64 n]) func24 rfl ntmps24 rfl ?_
 have hS:=St.start w
 refine aE (aL (dA (cs:=[_,_,_]) hS rfl rfl rfl fun B1 W1 hS=>aB rfl rfl (aB rfl rfl (aI (XF.thenN (aE (aL (bP (vs:=[_,_,_]) isAgg25 sizeOf25 rfl (aX.own (j:=0) (m:=3) (hS.at_ 0 rfl) rfl) rfl (cW (vs:=[_]) hS qJ rfl (pY d _ (hd.below hS.below)) rfl fun W2 hS=>aB rfl rfl (aI (XF.thenN (aE (aE (aL (aA rfl rfl (fN rfl rfl rfl (aI (XF.thenN (bR rfl (fun hc=>?_) (fun hc=>?_))))))))))))))))))))
 ·have hc15:=of_decide_eq_true hc;clear hc
  refine aE (aL (aA rfl rfl (aB rfl rfl (aB rfl rfl (aI (XF.thenN (cE (XF.thenR (XF.res (mI results24 rfl rfl) ?_)))))))))
  exact ⟨by rw [show gA d n=_ from if_pos hc15],hS.below⟩
 ·have hc15:=of_decide_eq_false hc;clear hc
  have he:cO d=0:=Decidable.of_not_not hc15
  obtain ⟨k,hk,h1,h2,h3,h4,h5,h6⟩:=dU he
  have hbl:d.bs.length=d.nl:=by have:=hd.alen;omega
  refine bT (XF.thenN (aE (aE (aL (aA rfl rfl (bW rfl rfl rfl (aA rfl rfl (bO (d:=19) rfl (fun hc=>?_) (fun hc=>?_)))))))))
  ·have hg19:=of_decide_eq_true hc;clear hc
   refine aP (d:=19) rfl rfl rfl rfl (aP (d:=19) rfl rfl rfl rfl (bD rfl rfl rfl (aI (XF.thenN (fA rfl (aE (aL (aB rfl rfl (aB rfl rfl (aI (XF.thenN (cE (XF.thenR (XF.res (mI results24 rfl rfl) ?_))))))))))))))
   exact ⟨by rw [show gA d n=_ from (if_neg hc15).trans (if_pos (by omega))],hS.below⟩
  ·have hg19:=of_decide_eq_false hc;clear hc
   refine aD (d:=19) rfl rfl (aA rfl rfl (aD (d:=19) rfl rfl (eT rfl rfl rfl (cY rfl rfl rfl (aI (XF.thenN (bR rfl (fun hc=>?_) (fun hc=>?_))))))))
   ·have hc22:=of_decide_eq_true hc;clear hc
    refine aE (aL (aB rfl rfl (aB rfl rfl (aI (XF.thenN (cE (XF.thenR (XF.res (mI results24 rfl rfl) ?_))))))))
    exact ⟨by rw [show gA d n=_ from (if_neg hc15).trans (if_pos (by omega))],hS.below⟩
   ·have hc22:=of_decide_eq_false hc;clear hc
    obtain ⟨N,rfl⟩:∃ N:Nat,n=(N:Int):=⟨n.toNat,by omega⟩
    refine bT (XF.thenN (aE (aL (aT (o':=1) cR rfl rfl rfl (aN isAgg22 rfl (aC (hS.at_ 0 rfl) rfl) rfl (bQ underlying22 rfl rfl ?_))))))
    refine fD (m:=d.nl) (cs:=i64n (List.replicate d.nl 0)) hS underlying75 vG rfl rfl rfl (rfl) (rfl) (lV _) (by show (8:Int) * _≤_;omega) (by omega) rfl fun B3 W3 hS=>?_
    refine aB rfl rfl (aI (XF.thenN (aE (aE (aL (aB rfl rfl (aI (XF.thenN (bE ?_)))))))))
    refine cJ (fun m l W=>∃ i:Nat,i≤d.nl∧m=d.nl - i∧l=[(1,.int .i64 (N:Int)),(2,.pointer (some ⟨B1,0,none⟩)),(7,.slice (some ⟨B3,0,none⟩) d.nl d.nl),(8,.int .i64 (i:Int))]∧St w [(B3,i64n (cz d i),2),(B1,[.int .i64 d.sy,.slice d.na d.nl d.nc,.slice d.aa d.al d.ac],25)] [] [] W) (d.nl - 0) ([(1,_),(2,_),(7,_),(8,_)]) ⟨rfl,rfl,rfl,rfl,trivial⟩ (⟨0,Nat.zero_le _,rfl,rfl,by rw [vI];exact hS.clear⟩) ?_
    clear hS
    rintro m l W ⟨i,hi,rfl,rfl,hS⟩
    refine aE (aE (aL (aA rfl rfl (aA rfl rfl (bQ underlying75 rfl rfl (bW rfl rfl rfl (aI (XF.thenN (bR rfl (fun hc=>?_) (fun hc=>?_))))))))))
    ·have hc30:=of_decide_eq_true hc;clear hc
     obtain ⟨b5,o5,y,hba,hy,hyc⟩:=gD.at9 hd.arow (i:=i) (by omega)
     have k1:=hS.old hyc
     refine bT (XF.thenN (aE (bE (aE (aL (aT (o':=2) eR rfl rfl rfl (aN isAgg23 rfl (aC (hS.at_ 1 rfl) rfl) rfl (aA rfl rfl ?_))))))))
     refine aQ (j:=i) (b:=b5) (o:=o5) (m:=d.al) (c:=d.ac) underlying23 sizeOf4 (by show some (Value.slice d.aa _ _)=_;rw [hba]) rfl rfl (by omega) rfl rfl ?_
     refine aN isAgg4 rfl (k1) rfl (aI (XF.thenN (bR rfl (fun hc=>?_) (fun hc=>?_))))
     ·have hc37:=hc;clear hc
      subst hc37
      refine aL (aA rfl rfl (aA rfl rfl (aQ (j:=i) underlying75 sizeOf2 rfl rfl (rfl) (by omega) rfl rfl ?_)))
      refine bS (i:=0) (cs':=i64n ((cz d i).set i 1)) (O':=[_,_]) hS sizeOf2 rfl rfl rfl rfl (Nat.ble_eq_true_of_le (by rw [fY,zI hbl (by omega)];omega)) (iK rfl) rfl fun W51 hS=>?_
      refine aI (XF.blkN (XF.thenN (aL (aA rfl rfl (bV rfl rfl (IntWalk.i64_in _ (by omega)) rfl (aB rfl rfl (aI ?_)))))))
      rw [zK hbl (by omega) hy] at hS
      exact XF.round (d.nl - (i+1)) [(1,_),(2,_),(7,_),(8,_)] (by omega) ⟨rfl,rfl,rfl,rfl,trivial⟩ ⟨i+1,by omega,rfl,rfl,hS.clear⟩
     ·have hc37:=hc;clear hc
      subst hc37
      refine bT (XF.blkN (XF.thenN (aL (aA rfl rfl (bV rfl rfl (IntWalk.i64_in _ (by omega)) rfl (aB rfl rfl (aI ?_)))))))
      rw [cz_no hbl (by omega) hy] at hS
      exact XF.round (d.nl - (i+1)) [(1,_),(2,_),(7,_),(8,_)] (by omega) ⟨rfl,rfl,rfl,rfl,trivial⟩ ⟨i+1,by omega,rfl,rfl,hS.clear⟩
    ·have hc30:=of_decide_eq_false hc;clear hc
     have ein:i=d.nl:=by omega
     rw [ein,zJ hbl] at hS
     refine cI (XF.thenX (XF.thenX (XF.blkX (XF.thenN (aE (bE (cJ (fun m l W=>∃ (j CB:Nat),j≤N∧m=N - j∧l=[(1,.int .i64 ((N - j:Nat):Int)),(2,.pointer (some ⟨B1,0,none⟩)),(7,.slice (some ⟨CB,0,none⟩) d.nl d.nl)]∧St w [(CB,i64n (cv d j),2),(B1,[.int .i64 d.sy,.slice d.na d.nl d.nc,.slice d.aa d.al d.ac],25)] [] [] W) (N - 0) ([(1,_),(2,_),(7,_)]) ⟨rfl,rfl,rfl,trivial⟩ (⟨0,_,Nat.zero_le _,rfl,rfl,hS.clear⟩) ?_)))))))
     clear hS
     rintro m l W ⟨j,CB,hj,rfl,rfl,hS⟩
     have hvl:=zH hbl j
     have hvm:=cv_le (d:=d) j
     refine aE (aE (aL (aA rfl rfl (eT rfl rfl rfl (aI (XF.thenN (bR rfl (fun hc=>?_) (fun hc=>?_))))))))
     ·have hc42:=of_decide_eq_true hc;clear hc
      refine bT (XF.thenN (aE (bE (aE (aL (aA rfl rfl (bQ underlying75 rfl rfl ?_)))))))
      refine fD (m:=d.nl) (cs:=i64n (List.replicate d.nl 0)) hS underlying75 vG rfl rfl rfl (rfl) (rfl) (lV _) (by show (8:Int) * _≤_;omega) (by omega) rfl fun B4 W4 hS=>?_
      refine aB rfl rfl (aI (XF.thenN (aE (aE (aL (aB rfl rfl (aI (XF.thenN (bE ?_)))))))))
      refine cJ (fun m l W=>∃ s:Nat,s≤d.nl∧m=d.nl - s∧l=[(1,.int .i64 ((N - j:Nat):Int)),(2,.pointer (some ⟨B1,0,none⟩)),(7,.slice (some ⟨CB,0,none⟩) d.nl d.nl),(9,.slice (some ⟨B4,0,none⟩) d.nl d.nl),(10,.int .i64 (s:Int))]∧St w [(B4,i64n (lz d (cv d j) (List.replicate d.nl 0) s),2),(CB,i64n (cv d j),2),(B1,[.int .i64 d.sy,.slice d.na d.nl d.nc,.slice d.aa d.al d.ac],25)] [] [] W) (d.nl - 0) ([(1,_),(2,_),(7,_),(9,_),(10,_)]) ⟨rfl,rfl,rfl,rfl,rfl,trivial⟩ (⟨0,Nat.zero_le _,rfl,rfl,by rw [vJ];exact hS.clear⟩) ?_
      clear hS
      rintro m l W ⟨s,hs,rfl,rfl,hS⟩
      refine aE (aE (aL (aA rfl rfl (aA rfl rfl (bQ underlying75 rfl rfl (bW rfl rfl rfl (aI (XF.thenN (bR rfl (fun hc=>?_) (fun hc=>?_))))))))))
      ·have hc51:=of_decide_eq_true hc;clear hc
       have hs9:s < d.nl:=by omega
       rw [pzc_in hs9] at hS
       obtain ⟨r,hr⟩:∃ r,d.ns[s]?=some r:=⟨_,List.getElem?_eq_getElem (by rw [hd.nlen];omega)⟩
       obtain ⟨c1,o1,hna,hcs⟩:=hd.nrow _ r hr
       have hrm:=List.mem_of_getElem? hr
       obtain ⟨hrr,hrl,_⟩:=hd.rin r hrm
       obtain ⟨hr6,hr7⟩:=h6 r hrm
       refine bT (XF.thenN (aE (bE (aE (aL (aB rfl rfl (aI (XF.thenN (bE (cJ (fun m l W=>∃ x:Nat,x≤r.l∧m=r.l - x∧l=[(1,.int .i64 ((N - j:Nat):Int)),(2,.pointer (some ⟨B1,0,none⟩)),(7,.slice (some ⟨CB,0,none⟩) d.nl d.nl),(9,.slice (some ⟨B4,0,none⟩) d.nl d.nl),(10,.int .i64 (s:Int)),(11,.int .i64 (x:Int))]∧St w [(B4,i64n (pzc d (cv d j) d.nl s (min (jN (cv d j) (r.xs.take x)) MW9)),2),(CB,i64n (cv d j),2),(B1,[.int .i64 d.sy,.slice d.na d.nl d.nc,.slice d.aa d.al d.ac],25)] [] [] W) (r.l - 0) ([(1,_),(2,_),(7,_),(9,_),(10,_),(11,_)]) ⟨rfl,rfl,rfl,rfl,rfl,rfl,trivial⟩ (⟨0,Nat.zero_le _,rfl,rfl,hS.clear⟩) ?_))))))))))
       clear hS
       rintro m l W ⟨x,hx,rfl,rfl,hS⟩
       refine aE (aE (aL (aA rfl rfl (aT (o':=0) dZ rfl rfl rfl (aN isAgg3 rfl (aC (hS.at_ 2 rfl) rfl) rfl (bW rfl rfl rfl (aI (XF.thenN (bR rfl (fun hc=>?_) (fun hc=>?_))))))))))
       ·have hc57:=of_decide_eq_true hc;clear hc
        obtain ⟨d1,g1,z,hra,hz,hzc⟩:=hrr.at1 (i:=x) (by omega)
        have k2:=hS.old hcs
        have k3:=hS.old hzc
        have hzv:=hr7 z (List.mem_of_getElem? hz)
        have hsn:=pA (v:=cv d j) hz
        have hgl:=zG hvm z.toNat
        have hpl:=pzc_len (d:=d) (v:=cv d j) (n:=d.nl) (s:=s) (y:=min (jN (cv d j) (r.xs.take x)) MW9) hs9
        have hpg:=pzc_get (d:=d) (v:=cv d j) (n:=d.nl) (s:=s) (y:=min (jN (cv d j) (r.xs.take x)) MW9)
        unfold MW9 at hgl
        refine bT (XF.thenN (aE (bE (rI cC 20 hS rfl rfl (by kernel_rfl) (by kernel_rfl) (by kernel_rfl) (fun d hd=>by cases hd) (bY 1 rfl 9 rfl rfl (fun w hw=>aU rfl) rfl (bY 2 rfl 10 rfl rfl (fun w hw=>aU rfl) rfl (bY 3 rfl 9 rfl rfl (fun w hw=>aU rfl) rfl (bY 4 rfl 10 rfl rfl (fun w hw=>aU rfl) rfl (bH 5 rfl (isV _) (aZ _) (rgV (li:=[(62,_),(63,_)]) rfl (aK rfl) ⟨aJ 2 (aG rfl rfl rfl),aJ 3 (aG rfl rfl rfl),trivial⟩ (fun w hw=>bM (j:=s) underlying75 sizeOf2 rfl rfl (rfl) (by omega) rfl) (aH rfl)) (bL 6 rfl 64 4 rfl rfl rfl (fun w hw=>bB isAgg2 rfl ((aR hw 0).cell (Nat.zero_le _) (aC (hS.at_ 0 rfl) (lE (by omega))))) rfl (bY 7 rfl 7 rfl rfl (fun w hw=>aU rfl) rfl (bY 8 rfl 2 rfl rfl (fun w hw=>bG (o':=1) cR rfl rfl) rfl (bL 9 rfl 67 7 rfl rfl rfl (fun w hw=>bB isAgg22 rfl ((aR hw 0).cell (Nat.zero_le _) (aC (hS.at_ 2 rfl) rfl))) rfl (bY 10 rfl 10 rfl rfl (fun w hw=>aU rfl) rfl ?_))))))))))))))
        refine bH 11 rfl (isV _) (aZ _) (rgV (li:=[(68,_),(69,_)]) rfl (aK rfl) ⟨aJ 8 (aG rfl rfl rfl),aJ 9 (aG rfl rfl rfl),trivial⟩ (fun w hw=>bM (j:=s) (b:=c1) (o:=o1) (m:=d.nl) (c:=d.nc) underlying22 sizeOf36 (by show some (Value.slice d.na _ _)=_;rw [hna]) rfl rfl (by omega) rfl) (aH rfl)) ?_
        refine bL 12 rfl 70 10 rfl rfl rfl (fun w hw=>bB isAgg36 rfl ((aR hw 0).cell (Nat.zero_le _) (k2))) rfl (bY 13 rfl 11 rfl rfl (fun w hw=>aU rfl) rfl ?_)
        refine bH 14 rfl (isV _) (aZ _) (rgV (li:=[(71,_),(72,_)]) rfl (aK rfl) ⟨aJ 11 (aG rfl rfl rfl),aJ 12 (aG rfl rfl rfl),trivial⟩ (fun w hw=>bM (j:=x) (b:=d1) (o:=g1) (m:=r.l) (c:=r.c) underlying36 sizeOf3 (by show some (Value.slice r.a _ _)=_;rw [hra]) rfl (by omega) (by omega) rfl) (aH rfl)) ?_
        refine bL 15 rfl 73 13 rfl rfl rfl (fun w hw=>bB isAgg3 rfl ((aR hw 0).cell (Nat.zero_le _) (k3))) rfl (bH 16 rfl (isV _) (aZ _) (rgV (li:=[(66,_),(74,_)]) rfl (aK rfl) ⟨aJ 6 (aG rfl rfl rfl),aJ 14 (aG rfl rfl rfl),trivial⟩ (fun w hw=>bM (j:=z.toNat) underlying75 sizeOf2 rfl rfl (by omega) (by omega) rfl) (aH rfl)) (bL 17 rfl 75 15 rfl rfl rfl (fun w hw=>bB isAgg2 rfl ((aR hw 0).cell (Nat.zero_le _) (aC (hS.at_ 1 rfl) (lE (by omega))))) rfl ?_))
        refine bH 18 rfl (isV _) (aZ _) (rgV (li:=[(65,_),(76,_)]) rfl (aK rfl) ⟨aJ 5 (aG rfl rfl rfl),aJ 16 (aG rfl rfl rfl),trivial⟩ (fun w hw=>fZ rfl rfl (IntWalk.i64_in _ (by rw [hpg];unfold MW9;omega))) (aH rfl)) ?_
        refine bL 19 rfl 77 17 rfl rfl rfl (fun w hw=>xK rfl rfl) rfl (bH 20 rfl (isV _) (aZ _) (rgV (li:=[(60,_),(61,_)]) rfl (aK rfl) ⟨aJ 0 (aG rfl rfl rfl),aJ 1 (aG rfl rfl rfl),trivial⟩ (fun w hw=>bM (j:=s) underlying75 sizeOf2 rfl rfl (rfl) (by omega) rfl) (aH rfl)) (dT ?_))
        intro W5 hbR hS'
        clear hS;have hS:=hS';clear hS'
        refine aO (aO (aO (aO (aO (aO (aO (aO (aO (aO (aO (aO (aO (aO (aO (aO (aO (aO (aO (aO (cG ?_))))))))))))))))))))
        refine bS (i:=0) (cs':=i64n ((pzc d (cv d j) d.nl s (min (jN (cv d j) (r.xs.take x)) MW9)).set s (min (jN (cv d j) (r.xs.take (x+1))) MW9))) (O':=[_,_,_]) hS sizeOf2 rfl rfl rfl rfl (Nat.ble_eq_true_of_le (by rw [fY,hpl];omega)) (iK (by rw [hpg,hsn,← zU];unfold MW9;omega)) rfl fun W52 hS=>?_
        refine aI (XF.blkN (XF.thenN (aL (aA rfl rfl (bV rfl rfl (IntWalk.i64_in _ (by omega)) rfl (aB rfl rfl (aI ?_)))))))
        rw [pzc_set] at hS
        exact XF.round (r.l - (x+1)) [(1,_),(2,_),(7,_),(9,_),(10,_),(11,_)] (by omega) ⟨rfl,rfl,rfl,rfl,rfl,rfl,trivial⟩ ⟨x+1,by omega,rfl,rfl,hS.clear⟩
       ·have hc57:=of_decide_eq_false hc;clear hc
        have exr:x=r.l:=by omega
        have hce:cvE d (cv d j) s=min (jN (cv d j) (r.xs.take x)) MW9:=by unfold cvE;rw [hr,List.take_of_length_le (by omega)];rfl
        rw [← hce,pzc_out hs9] at hS
        refine cI (XF.thenX (XF.thenX (XF.blkX (XF.blkN (XF.thenN (aL (aA rfl rfl (bV rfl rfl (IntWalk.i64_in _ (by omega)) rfl (aB rfl rfl (aI ?_))))))))))
        exact XF.round (d.nl - (s+1)) [(1,_),(2,_),(7,_),(9,_),(10,_)] (by omega) ⟨rfl,rfl,rfl,rfl,rfl,trivial⟩ ⟨s+1,by omega,rfl,rfl,hS.clear⟩
      ·have hc51:=of_decide_eq_false hc;clear hc
       have esn:s=d.nl:=by omega
       rw [esn,zL List.length_replicate] at hS
       refine cI (XF.thenX (XF.thenX (XF.blkX (XF.thenN (aL (aA rfl rfl (aB rfl rfl (aI (XF.blkN (XF.thenN (aL (aA rfl rfl (iZ rfl rfl (IntWalk.i64_in _ (by omega)) rfl (aB rfl rfl (aI ?_)))))))))))))))
       have hN9:(((N - j:Nat):Int) - 1)=((N - (j+1):Nat):Int):=by omega
       exact XF.round (N - (j+1)) [(1,.int .i64 ((N - (j+1):Nat):Int)),(2,.pointer (some ⟨B1,0,none⟩)),(7,.slice (some ⟨B4,0,none⟩) d.nl d.nl)] (by omega) ⟨by show _=some (Value.int .i64 ((N - (j+1):Nat):Int));rw [← hN9];rfl,rfl,rfl,trivial⟩ ⟨j+1,_,by omega,rfl,rfl,hS.drop2.clear⟩
     ·have hc42:=of_decide_eq_false hc;clear hc
      refine cI (XF.thenX (XF.thenX (XF.blkX (XF.thenN (aE (aL (aA rfl rfl (aQ (j:=0) underlying75 sizeOf2 rfl rfl (rfl) (by omega) rfl rfl (aN isAgg2 rfl (aC (hS.at_ 0 rfl) (lE (by omega))) rfl (aB rfl rfl (aB rfl rfl (aI (XF.thenN (cE (XF.res (mI results24 rfl rfl) ?_)))))))))))))))
      have ejn:j=N:=by omega
      exact ⟨by rw [show gA d (N:Int)=_ from (if_neg hc15).trans (if_neg (by omega)),← ejn];rfl,hS.below⟩
theorem pC (da:DV) (Kt:List (Nat×World)) (Ot:Own) (G:bJ) (K:List (Nat×World)) (w0 w:World) (hS0:St w0 Ot G K w) (hKt:∀ q∈Kt,q∈K) (hDa:dD w0 Kt (fun W=>DIn W da)) :
  Calls prog 22 #[da.val] w (fun e w'=>∃ (r:Option (List Nat)) (wa:Option Addr) (wc:Nat) (Kn:List (Nat×World)),(cO da=0→FW (dFA da) r)∧(cO da≠0→r=none)∧(r.getD []).length≤1024∧e = .returned (.tuple #[.slice wa (r.getD []).length wc,.bool r.isSome,.int .i64 (cO da)])∧(∀ q∈K,q∈Kn)∧dD w0 Kn (fun W=>Row W wa (wI (r.getD [])))∧St w0 Ot G Kn w'):=by
 refine cP (args:=[da.val]) func22 rfl ntmps22 rfl ?_
 have hS:=hS0
 refine aE (aL (dA (cs:=[_,_,_]) hS rfl rfl rfl fun B1 W1 hS=>aB rfl rfl (aB rfl rfl (aB rfl rfl (aI (XF.thenN (aE (aL (bP (vs:=[_,_,_]) isAgg25 sizeOf25 rfl (aX.own (j:=0) (m:=3) (hS.at_ 0 rfl) rfl) rfl (bZ (vs:=[_]) qJ rfl (pY da _ (hDa (hS.keep K (fun q hq=>by simp [hq])) hKt)) rfl ?_))))))))))
 rintro e W9 ⟨rfl,hb9⟩
 refine ⟨_,rfl,?_⟩
 have hS':=hS.grow hb9;clear hS;have hS:=hS';clear hS'
 refine aB rfl rfl (aI (XF.thenN (aE (aE (aL (aA rfl rfl (fN rfl rfl rfl (aI (XF.thenN (bR rfl (fun hc=>?_) (fun hc=>?_)))))))))))
 ·have hc11:=of_decide_eq_true hc;clear hc
  refine aE (aL (aA rfl rfl (aB rfl rfl (aB rfl rfl (aB rfl rfl (aI (XF.thenN (cE (XF.thenR (XF.res (mK results22 rfl rfl rfl) ?_))))))))))
  exact ⟨none,none,0,K,fun h=>absurd h hc11,fun _=>rfl,Nat.zero_le _,rfl,fun q hq=>hq,fun _ _=>.inl rfl,(hS.keep K (fun q hq=>by simp [hq])).tail⟩
 ·have hc11:=of_decide_eq_false hc;clear hc
  have h0:cO da=0:=Decidable.of_not_not hc11
  refine bT (XF.thenN (aE (aL (bP (vs:=[_,_,_]) isAgg25 sizeOf25 rfl (aX.own (j:=0) (m:=3) (hS.at_ 0 rfl) rfl) rfl (bZ (vs:=[_]) goes_42 rfl (wR da Kt _ _ K w0 _ (hS.keep K (fun q hq=>by simp [hq])) hKt hDa h0) rfl ?_)))))
  rintro e W9 ⟨r,wa,wc,K2,hFW,hwl,rfl,hk2,hR,hS9⟩
  refine ⟨_,rfl,?_⟩
  clear hS;have hS:=hS9;clear hS9
  refine aA rfl rfl (bC rfl rfl rfl (bC rfl rfl rfl (aB rfl rfl (aB rfl rfl (aI (XF.thenN (aE (aL (aA rfl rfl (aA rfl rfl (aB rfl rfl (aB rfl rfl (aB rfl rfl (aI (XF.thenN (cE (XF.res (mK results22 rfl rfl rfl) ?_)))))))))))))))))
  exact ⟨r,wa,wc,K2,fun _=>hFW,fun h=>absurd h0 h,hwl,by rw [h0];rfl,hk2,hR,(hS.keep K2 (fun q hq=>by simp [hq])).tail⟩
theorem sR (a b:Option Addr) (n m ca cb:Nat) (xs ys:List Int) (w:World) (hA:Row w a xs) (hB:Row w b ys) (hn:xs.length=n) (hm:ys.length=m) (hmx:n≤9223372036854775807) :
  Calls prog 25 #[.slice a n ca,.slice b m cb] w (fun e w'=>e = .returned (.bool (decide (xs=ys)))∧Below w.heap.size w w'):=by
 refine cP (args:=[.slice a n ca,.slice b m cb]) func25 rfl ntmps25 rfl ?_
 have hS:=St.start w
 refine aE (aL (aB rfl rfl (aI (XF.thenN (aE (aE (aL (aA rfl rfl (bQ underlying36 rfl rfl (aA rfl rfl (bQ underlying36 rfl rfl (fN rfl rfl rfl (aI (XF.thenN (bR rfl (fun hc=>?_) (fun hc=>?_))))))))))))))))
 ·have hc10:=of_decide_eq_true hc;clear hc
  refine aE (aL (aB rfl rfl (aI (XF.thenN (cE (XF.thenR (XF.res (dG results25 rfl) ?_)))))))
  exact ⟨by rw [decide_eq_false (fun h=>hc10 (by rw [← hn,← hm,h]))],hS.below⟩
 ·have hc10:=of_decide_eq_false hc;clear hc
  have hnm:n=m:=by have:=Decidable.of_not_not hc10;omega
  refine bT (XF.thenN (aE (aE (aL (aB rfl rfl (aI (XF.thenN (bE (cJ (fun m9 l W=>∃ i:Nat,i≤n∧m9=n - i∧l=[(0,.slice a n ca),(1,.slice b m cb),(5,.int .i64 (i:Int))]∧xs.take i=ys.take i∧St w [] [] [] W) (n - 0) ([(0,_),(1,_),(5,_)]) ⟨rfl,rfl,rfl,trivial⟩ (⟨0,Nat.zero_le _,rfl,rfl,rfl,hS.clear⟩) ?_)))))))))
  clear hS
  rintro m9 l W ⟨i,hi,rfl,rfl,hall,hS⟩
  refine aE (aE (aL (aA rfl rfl (aA rfl rfl (bQ underlying36 rfl rfl (bW rfl rfl rfl (aI (XF.thenN (bR rfl (fun hc=>?_) (fun hc=>?_))))))))))
  ·have hc14:=of_decide_eq_true hc;clear hc
   obtain ⟨b1,o1,y1,hea,hy1,hc1⟩:=hA.at1 (i:=i) (by omega)
   obtain ⟨b2,o2,y2,heb,hy2,hc2⟩:=hB.at1 (i:=i) (by omega)
   have k1:=hS.old hc1
   have k2:=hS.old hc2
   refine bT (XF.thenN (aE (bE (aE (kS (m:=9) cC hS (by kernel_rfl) (by kernel_rfl) rfl (bY 1 rfl 0 rfl rfl (fun w hw=>aU rfl) rfl (bY 2 rfl 5 rfl rfl (fun w hw=>aU rfl) rfl ?_)))))))
   refine bH 3 rfl (isV _) (aZ _) (rgV (li:=[(17,_),(18,_)]) rfl (aK rfl) ⟨aJ 0 (aG rfl rfl rfl),aJ 1 (aG rfl rfl rfl),trivial⟩ (fun w hw=>bM (j:=i) (b:=b1) (o:=o1) (m:=n) (c:=ca) underlying36 sizeOf3 (by show some (Value.slice _ _ _)=_;rw [hea]) rfl rfl (by omega) rfl) (aH rfl)) ?_
   refine bL 4 rfl 19 2 rfl rfl rfl (fun w hw=>bB isAgg3 rfl ((aR hw 0).cell (Nat.zero_le _) (k1))) rfl (bY 5 rfl 1 rfl rfl (fun w hw=>aU rfl) rfl (bY 6 rfl 5 rfl rfl (fun w hw=>aU rfl) rfl ?_))
   refine bH 7 rfl (isV _) (aZ _) (rgV (li:=[(21,_),(22,_)]) rfl (aK rfl) ⟨aJ 4 (aG rfl rfl rfl),aJ 5 (aG rfl rfl rfl),trivial⟩ (fun w hw=>bM (j:=i) (b:=b2) (o:=o2) (m:=m) (c:=cb) underlying36 sizeOf3 (by show some (Value.slice _ _ _)=_;rw [heb]) rfl rfl (by omega) rfl) (aH rfl)) ?_
   refine bL 8 rfl 23 6 rfl rfl rfl (fun w hw=>bB isAgg3 rfl ((aR hw 0).cell (Nat.zero_le _) (k2))) rfl (bH 9 rfl (isV _) (aZ _) (rgV (li:=[(20,_),(24,_)]) rfl (aK rfl) ⟨aJ 3 (aG rfl rfl rfl),aJ 7 (aG rfl rfl rfl),trivial⟩ (fun w hw=>sW rfl rfl) (aH rfl)) (dT ?_))
   intro W1 hbR hS'
   clear hS;have hS:=hS';clear hS'
   refine aO (aO (aO (aO (aO (aO (aO (aO (aO (cG (XF.thenN (bR rfl (fun hc=>?_) (fun hc=>?_))))))))))))
   ·have hc25:=hc;clear hc
    refine aE (aL (aB rfl rfl (aI (XF.thenN (cE (XF.blkR (XF.thenR (XF.thenR (XF.blkR (XF.thenR (XF.res (dG results25 rfl) ?_)))))))))))
    have hne:y1≠y2:=of_decide_eq_true hc25
    exact ⟨by rw [decide_eq_false (fun h=>hne (by rw [h,hy2] at hy1;exact (Option.some.inj hy1).symm))],hS.below⟩
   ·have hc25:=hc;clear hc
    refine bT (XF.blkN (XF.thenN (aL (aA rfl rfl (bV rfl rfl (IntWalk.i64_in _ (by omega)) rfl (aB rfl rfl (aI ?_)))))))
    have hye:y1=y2:=Decidable.of_not_not (of_decide_eq_false hc25)
    exact XF.round (n - (i+1)) [(0,_),(1,_),(5,_)] (by omega) ⟨rfl,rfl,rfl,trivial⟩ ⟨i+1,by omega,rfl,rfl,yU hall hy1 hy2 hye,hS.clear⟩
  ·have hc14:=of_decide_eq_false hc;clear hc
   refine cI (XF.thenX (XF.thenX (XF.blkX (XF.thenN (aE (aL (aB rfl rfl (aI (XF.thenN (cE (XF.res (dG results25 rfl) ?_)))))))))))
   exact ⟨by rw [decide_eq_true (wQ hall (by omega) (by omega))],hS.below⟩
theorem vM:cD prog 19=true:=by kernel_rfl
theorem vN:cD prog 20=true:=by kernel_rfl
theorem vO:cD prog 22=true:=by kernel_rfl
theorem vP:cD prog 24=true:=by kernel_rfl
theorem vQ:cD prog 25=true:=by kernel_rfl
theorem Row.takeN {w:World} {a:Option Addr} {xs:List Int} (h:Row w a xs) (n:Nat):Row w a (xs.take n):=by
 rcases h with h | ⟨b,off,e,h⟩
 ·left;rw [h];simp
 ·refine .inr ⟨b,off,e,fun i hi=>?_⟩
  rw [List.length_take] at hi
  rw [h i (by omega),List.getD_eq_getElem?_getD,List.getD_eq_getElem?_getD,List.getElem?_take,if_pos (by omega)]
theorem zV {c s:Nat} {a:Option Addr}:(if c=0 then a else a.map (fun x=>Addr.add x (0 * s)))=a:=by
 rw [Nat.zero_mul]
 split
 ·rfl
 ·cases a with
  | none=>rfl
  | some p=>simp [Addr.add]
theorem sS {P:Program} {l:Fr} {W:World} {d:Nat} {ty:TypeId} {pos:String} {T e:TypeId} {x y:Operand} {kk:IntKind} {a:Option Addr} {m c k s:Nat} {j:Int} {aft:Array Edge} (hU:P.underlying T=some (.slice e)) (hs:∀ w,(sizeOf e).run P w = .ok s w) (hx:evL l x=some (.slice a m c)) (hy:evL l y=some (.int kk j)) (hj:j=(k:Int)) (hk:k≤c) :
  dH P l ⟨some d,.slice T x none (some y) none,ty,pos,aft,none⟩ W (.slice a k c) W:=by
 have h:=mD (P:=P) (l:=l) (W:=W) (d:=d) (ty:=ty) (pos:=pos) (aft:=aft) hU hs hx hy hj hk
 rwa [zV] at h
theorem qX (da:DV) (ua:Option Addr) (ul uc:Nat) (us:List Int) (n:Int) (w:World) (hDa:DIn w da) (hu:Row w ua us∧us.length=ul∧ul≤uc∧ul≤9223372036854775807) :
  Calls prog 4 #[da.val,.slice ua ul uc,.int .i64 n] w (fun e w'=>e = .returned (.bool true)∧Below w.heap.size w w'):=by
 refine cP (args:=[da.val,.slice ua ul uc,.int .i64 n]) func4 rfl ntmps4 rfl ?_
 have hS:=St.start w
 refine aE (aL (dA (cs:=[_,_,_]) hS rfl rfl rfl fun B1 W1 hS=>aB rfl rfl (aI (XF.thenN (aE (aE (aL (bP (vs:=[_,_,_]) isAgg25 sizeOf25 rfl (aX.own (j:=0) (m:=3) (hS.at_ 0 rfl) rfl) rfl (cW (vs:=[_]) hS goes_9 rfl (wL da _ (hDa.below hS.below)) rfl fun W2 hS=>pF rfl rfl (aI (XF.thenN (bR rfl (fun hc=>?_) (fun hc=>?_)))))))))))))
 ·have hc25:=hc;clear hc
  refine aE (aL (cW (vs:=[]) hS qV rfl (lZ _) rfl fun W3 hS=>aB rfl rfl (aI (XF.thenN (cE (XF.thenR (XF.res (dG results4 rfl) ?_)))))))
  exact ⟨rfl,hS.below⟩
 ·have hc25:=hc;clear hc
  refine bT (XF.thenN (aE (aE (aL (aA rfl rfl (bQ underlying36 rfl rfl (eT rfl rfl rfl (aI (XF.thenN (bR rfl (fun hc=>?_) (fun hc=>?_)))))))))))
  ·have hc29:=of_decide_eq_true hc;clear hc
   have hcw:(us.take 300).length=300:=by rw [List.length_take];omega
   refine aL (aA rfl rfl (opV (sS underlying36 sizeOf3 rfl rfl rfl (show 300≤uc by omega)) rfl (aB rfl rfl (aI (XF.thenN (aE (aL (bP (vs:=[_,_,_]) isAgg25 sizeOf25 rfl (aX.own (j:=0) (m:=3) (hS.at_ 0 rfl) rfl) rfl (aA rfl rfl (cW (vs:=[_,_]) hS vM rfl (sM da ua 300 uc (us.take 300) _ (hDa.below hS.below) ((hu.1.takeN 300).below hS.below) hcw (by omega)) rfl fun W4 hS=>aA rfl rfl (bC rfl rfl rfl (bC rfl rfl rfl (bC rfl rfl rfl (aB rfl rfl (aB rfl rfl (aB rfl rfl (aI (XF.thenN (aE (aL (bP (vs:=[_,_,_]) isAgg25 sizeOf25 rfl (aX.own (j:=0) (m:=3) (hS.at_ 0 rfl) rfl) rfl (aA rfl rfl (cW (vs:=[_,_]) hS vN rfl (sN da ua 300 uc (us.take 300) _ (hDa.below hS.below) ((hu.1.takeN 300).below hS.below) hcw (by omega)) rfl fun W5 hS=>aA rfl rfl (bC rfl rfl rfl (bC rfl rfl rfl (bC rfl rfl rfl (aB rfl rfl (aB rfl rfl (aB rfl rfl (aI (XF.thenN (aE (aL (bP (vs:=[_,_,_]) isAgg25 sizeOf25 rfl (aX.own (j:=0) (m:=3) (hS.at_ 0 rfl) rfl) rfl (bZ (vs:=[_]) qS rfl (lY da [] _ _ _ w _ hS (fun q hq=>by cases hq) (lF hDa)) rfl ?_)))))))))))))))))))))))))))))))))))
   rintro e W9 ⟨r1,war1,wcr1,K1,hfr1,hnr1,rfl,hK1,hRr1,hS9⟩
   refine ⟨_,rfl,?_⟩
   clear hS;have hS:=hS9;clear hS9
   refine aA rfl rfl (bC rfl rfl rfl (bC rfl rfl rfl (bC rfl rfl rfl (aB rfl rfl (aB rfl rfl (aB rfl rfl (aI (XF.thenN (aE (aL (bP (vs:=[_,_,_]) isAgg25 sizeOf25 rfl (aX.own (j:=0) (m:=3) (hS.at_ 0 rfl) rfl) rfl (bZ (vs:=[_]) vO rfl (pC da [] _ _ K1 w _ (hS.keep K1 (fun q hq=>by simp [hq])) (fun q hq=>by cases hq) (lF hDa)) rfl ?_))))))))))))
   rintro e W9 ⟨r2,war2,wcr2,K2,hfr2,hnr2,hwl,rfl,hK2,hRr2,hS9⟩
   refine ⟨_,rfl,?_⟩
   clear hS;have hS:=hS9;clear hS9
   have hr12:r1=r2:=by
    by_cases he:cO da=0
    ·exact (hfr1 he).one (hfr2 he) rfl vL
    ·rw [hnr1 he,hnr2 he]
   subst hr12
   refine aA rfl rfl (bC rfl rfl rfl (bC rfl rfl rfl (bC rfl rfl rfl (aB rfl rfl (aB rfl rfl (aB rfl rfl (aI (XF.thenN (aE (aL (bP (vs:=[_,_,_]) isAgg25 sizeOf25 rfl (aX.own (j:=0) (m:=3) (hS.at_ 0 rfl) rfl) rfl (aA rfl rfl (cW (vs:=[_,_]) hS qT rfl (kO da n _ (hDa.below hS.below)) rfl fun W6 hS=>aA rfl rfl (bC rfl rfl rfl (bC rfl rfl rfl (aB rfl rfl (aB rfl rfl (aI (XF.thenN (aE (aL (bP (vs:=[_,_,_]) isAgg25 sizeOf25 rfl (aX.own (j:=0) (m:=3) (hS.at_ 0 rfl) rfl) rfl (aA rfl rfl (cW (vs:=[_,_]) hS vP rfl (pB da n _ (hDa.below hS.below)) rfl fun W7 hS=>aA rfl rfl (bC rfl rfl rfl (bC rfl rfl rfl (aB rfl rfl (aB rfl rfl (aI (XF.thenN (aE (aL (aA rfl rfl (aA rfl rfl (dO rfl rfl rfl (aA rfl rfl ?_))))))))))))))))))))))))))))))))))))
   refine bO (d:=73) rfl (fun hc=>?_) (fun hc=>absurd (of_decide_eq_false hc) (by omega))
   have hc:=of_decide_eq_true hc
   refine aD (d:=73) rfl rfl (aA rfl rfl (aD (d:=73) rfl rfl (aA rfl rfl (aD (d:=73) rfl rfl (mN underlying4 rfl rfl rfl (bD rfl rfl rfl (aA rfl rfl (bO (d:=78) rfl (fun hc=>?_) (fun hc=>absurd hc (by simp))))))))))
   skip
   refine aD (d:=78) rfl rfl (aA rfl rfl (aD (d:=78) rfl rfl (aA rfl rfl (aD (d:=78) rfl rfl (dO rfl rfl rfl (bD rfl rfl rfl (aA rfl rfl (bO (d:=83) rfl (fun hc=>?_) (fun hc=>absurd (of_decide_eq_false hc) (by omega))))))))))
   have hc:=of_decide_eq_true hc
   refine aD (d:=83) rfl rfl (aA rfl rfl (aD (d:=83) rfl rfl (aA rfl rfl (aD (d:=83) rfl rfl (cW (vs:=[_,_]) hS vQ rfl (sR war1 war2 _ _ wcr1 wcr2 (wI (r1.getD [])) (wI (r1.getD [])) _ (hRr1 (hS.keep K2 (fun q hq=>by simp [hq])) (fun q hq=>hK2 q hq)) (hRr2 (hS.keep K2 (fun q hq=>by simp [hq])) (fun q hq=>hq)) lX lX (by omega)) rfl fun W8 hS=>bD rfl rfl rfl (aA rfl rfl (bO (d:=88) rfl (fun hc=>?_) (fun hc=>absurd hc (by simp)))))))))
   skip
   refine aD (d:=88) rfl rfl (aA rfl rfl (aD (d:=88) rfl rfl (aA rfl rfl (aD (d:=88) rfl rfl (mN underlying4 rfl rfl rfl (bD rfl rfl rfl (aA rfl rfl (bO (d:=93) rfl (fun hc=>?_) (fun hc=>absurd hc (by simp))))))))))
   skip
   refine aD (d:=93) rfl rfl (aA rfl rfl (aD (d:=93) rfl rfl (aA rfl rfl (aD (d:=93) rfl rfl (dO rfl rfl rfl (bD rfl rfl rfl (aA rfl rfl (bO (d:=98) rfl (fun hc=>?_) (fun hc=>absurd (of_decide_eq_false hc) (by omega))))))))))
   have hc:=of_decide_eq_true hc
   refine aD (d:=98) rfl rfl (aA rfl rfl (aD (d:=98) rfl rfl (aA rfl rfl (aD (d:=98) rfl rfl (dO rfl rfl rfl (bD rfl rfl rfl (aA rfl rfl (bO (d:=103) rfl (fun hc=>?_) (fun hc=>absurd (of_decide_eq_false hc) (by omega))))))))))
   have hc:=of_decide_eq_true hc
   refine aD (d:=103) rfl rfl (aA rfl rfl (aD (d:=103) rfl rfl (aA rfl rfl (aD (d:=103) rfl rfl (dO rfl rfl rfl (bD rfl rfl rfl (aA rfl rfl (bO (d:=108) rfl (fun hc=>?_) (fun hc=>absurd (of_decide_eq_false hc) (by omega))))))))))
   have hc:=of_decide_eq_true hc
   refine aD (d:=108) rfl rfl (cW (vs:=[]) hS qV rfl (lZ _) rfl fun W9 hS=>bD rfl rfl rfl (aB rfl rfl (aI (XF.thenN (cE (XF.res (dG results4 rfl) ?_))))))
   exact ⟨rfl,hS.below⟩
  ·have hc29:=of_decide_eq_false hc;clear hc
   refine bT (XF.thenN (aE (aL (bP (vs:=[_,_,_]) isAgg25 sizeOf25 rfl (aX.own (j:=0) (m:=3) (hS.at_ 0 rfl) rfl) rfl (aA rfl rfl (cW (vs:=[_,_]) hS vM rfl (sM da ua ul uc us _ (hDa.below hS.below) (hu.1.below hS.below) hu.2.1 hu.2.2.2) rfl fun W10 hS=>aA rfl rfl (bC rfl rfl rfl (bC rfl rfl rfl (bC rfl rfl rfl (aB rfl rfl (aB rfl rfl (aB rfl rfl (aI (XF.thenN (aE (aL (bP (vs:=[_,_,_]) isAgg25 sizeOf25 rfl (aX.own (j:=0) (m:=3) (hS.at_ 0 rfl) rfl) rfl (aA rfl rfl (cW (vs:=[_,_]) hS vN rfl (sN da ua ul uc us _ (hDa.below hS.below) (hu.1.below hS.below) hu.2.1 hu.2.2.2) rfl fun W11 hS=>aA rfl rfl (bC rfl rfl rfl (bC rfl rfl rfl (bC rfl rfl rfl (aB rfl rfl (aB rfl rfl (aB rfl rfl (aI (XF.thenN (aE (aL (bP (vs:=[_,_,_]) isAgg25 sizeOf25 rfl (aX.own (j:=0) (m:=3) (hS.at_ 0 rfl) rfl) rfl (bZ (vs:=[_]) qS rfl (lY da [] _ _ _ w _ hS (fun q hq=>by cases hq) (lF hDa)) rfl ?_)))))))))))))))))))))))))))))))
   rintro e W9 ⟨r1,war1,wcr1,K1,hfr1,hnr1,rfl,hK1,hRr1,hS9⟩
   refine ⟨_,rfl,?_⟩
   clear hS;have hS:=hS9;clear hS9
   refine aA rfl rfl (bC rfl rfl rfl (bC rfl rfl rfl (bC rfl rfl rfl (aB rfl rfl (aB rfl rfl (aB rfl rfl (aI (XF.thenN (aE (aL (bP (vs:=[_,_,_]) isAgg25 sizeOf25 rfl (aX.own (j:=0) (m:=3) (hS.at_ 0 rfl) rfl) rfl (bZ (vs:=[_]) vO rfl (pC da [] _ _ K1 w _ (hS.keep K1 (fun q hq=>by simp [hq])) (fun q hq=>by cases hq) (lF hDa)) rfl ?_))))))))))))
   rintro e W9 ⟨r2,war2,wcr2,K2,hfr2,hnr2,hwl,rfl,hK2,hRr2,hS9⟩
   refine ⟨_,rfl,?_⟩
   clear hS;have hS:=hS9;clear hS9
   have hr12:r1=r2:=by
    by_cases he:cO da=0
    ·exact (hfr1 he).one (hfr2 he) rfl vL
    ·rw [hnr1 he,hnr2 he]
   subst hr12
   refine aA rfl rfl (bC rfl rfl rfl (bC rfl rfl rfl (bC rfl rfl rfl (aB rfl rfl (aB rfl rfl (aB rfl rfl (aI (XF.thenN (aE (aL (bP (vs:=[_,_,_]) isAgg25 sizeOf25 rfl (aX.own (j:=0) (m:=3) (hS.at_ 0 rfl) rfl) rfl (aA rfl rfl (cW (vs:=[_,_]) hS qT rfl (kO da n _ (hDa.below hS.below)) rfl fun W12 hS=>aA rfl rfl (bC rfl rfl rfl (bC rfl rfl rfl (aB rfl rfl (aB rfl rfl (aI (XF.thenN (aE (aL (bP (vs:=[_,_,_]) isAgg25 sizeOf25 rfl (aX.own (j:=0) (m:=3) (hS.at_ 0 rfl) rfl) rfl (aA rfl rfl (cW (vs:=[_,_]) hS vP rfl (pB da n _ (hDa.below hS.below)) rfl fun W13 hS=>aA rfl rfl (bC rfl rfl rfl (bC rfl rfl rfl (aB rfl rfl (aB rfl rfl (aI (XF.thenN (aE (aL (aA rfl rfl (aA rfl rfl (dO rfl rfl rfl (aA rfl rfl ?_))))))))))))))))))))))))))))))))))))
   refine bO (d:=73) rfl (fun hc=>?_) (fun hc=>absurd (of_decide_eq_false hc) (by omega))
   have hc:=of_decide_eq_true hc
   refine aD (d:=73) rfl rfl (aA rfl rfl (aD (d:=73) rfl rfl (aA rfl rfl (aD (d:=73) rfl rfl (mN underlying4 rfl rfl rfl (bD rfl rfl rfl (aA rfl rfl (bO (d:=78) rfl (fun hc=>?_) (fun hc=>absurd hc (by simp))))))))))
   skip
   refine aD (d:=78) rfl rfl (aA rfl rfl (aD (d:=78) rfl rfl (aA rfl rfl (aD (d:=78) rfl rfl (dO rfl rfl rfl (bD rfl rfl rfl (aA rfl rfl (bO (d:=83) rfl (fun hc=>?_) (fun hc=>absurd (of_decide_eq_false hc) (by omega))))))))))
   have hc:=of_decide_eq_true hc
   refine aD (d:=83) rfl rfl (aA rfl rfl (aD (d:=83) rfl rfl (aA rfl rfl (aD (d:=83) rfl rfl (cW (vs:=[_,_]) hS vQ rfl (sR war1 war2 _ _ wcr1 wcr2 (wI (r1.getD [])) (wI (r1.getD [])) _ (hRr1 (hS.keep K2 (fun q hq=>by simp [hq])) (fun q hq=>hK2 q hq)) (hRr2 (hS.keep K2 (fun q hq=>by simp [hq])) (fun q hq=>hq)) lX lX (by omega)) rfl fun W14 hS=>bD rfl rfl rfl (aA rfl rfl (bO (d:=88) rfl (fun hc=>?_) (fun hc=>absurd hc (by simp)))))))))
   skip
   refine aD (d:=88) rfl rfl (aA rfl rfl (aD (d:=88) rfl rfl (aA rfl rfl (aD (d:=88) rfl rfl (mN underlying4 rfl rfl rfl (bD rfl rfl rfl (aA rfl rfl (bO (d:=93) rfl (fun hc=>?_) (fun hc=>absurd hc (by simp))))))))))
   skip
   refine aD (d:=93) rfl rfl (aA rfl rfl (aD (d:=93) rfl rfl (aA rfl rfl (aD (d:=93) rfl rfl (dO rfl rfl rfl (bD rfl rfl rfl (aA rfl rfl (bO (d:=98) rfl (fun hc=>?_) (fun hc=>absurd (of_decide_eq_false hc) (by omega))))))))))
   have hc:=of_decide_eq_true hc
   refine aD (d:=98) rfl rfl (aA rfl rfl (aD (d:=98) rfl rfl (aA rfl rfl (aD (d:=98) rfl rfl (dO rfl rfl rfl (bD rfl rfl rfl (aA rfl rfl (bO (d:=103) rfl (fun hc=>?_) (fun hc=>absurd (of_decide_eq_false hc) (by omega))))))))))
   have hc:=of_decide_eq_true hc
   refine aD (d:=103) rfl rfl (aA rfl rfl (aD (d:=103) rfl rfl (aA rfl rfl (aD (d:=103) rfl rfl (dO rfl rfl rfl (bD rfl rfl rfl (aA rfl rfl (bO (d:=108) rfl (fun hc=>?_) (fun hc=>absurd (of_decide_eq_false hc) (by omega))))))))))
   have hc:=of_decide_eq_true hc
   refine aD (d:=108) rfl rfl (cW (vs:=[]) hS qV rfl (lZ _) rfl fun W15 hS=>bD rfl rfl rfl (aB rfl rfl (aI (XF.thenN (cE (XF.res (dG results4 rfl) ?_))))))
   exact ⟨rfl,hS.below⟩
end
section
open Go.RowKit Go.ChangeShapes Go.WideShapes Go.Deep Go.Joins
theorem pD {α:Type}:∀ (n:Nat) (p:Nat→α→Prop),(∀ i,i < n→∃ c,p i c)→∃ xs:List α,xs.length=n∧∀ i c,xs[i]?=some c→p i c
 | 0,p,h=>⟨[],rfl,fun i c hi=>by simp at hi⟩
 | n+1,p,h=>by
  obtain ⟨xs,hl,hp⟩:=pD n p (fun i hi=>h i (by omega))
  obtain ⟨c,hc⟩:=h n (by omega)
  refine ⟨xs++[c],by simp [hl],fun i d hi=>?_⟩
  rcases Nat.lt_or_ge i n with h1 | h1
  ·rw [List.getElem?_append_left (by omega)] at hi
   exact hp i d hi
  ·obtain ⟨h2,_⟩:=List.getElem?_eq_some_iff.1 hi
   simp [hl] at h2
   obtain rfl:i=n:=by omega
   rw [List.getElem?_append_right (by omega),hl,Nat.sub_self] at hi
   simp at hi
   subst hi
   exact hc
section
variable {H:Type} {enc:TypeId×Value→H} {w:World} {base:Nat} {spare:Nat→Bool} {held:Bool}
end
section
variable {H:Type} {enc:TypeId×Value→H} {w:World} {base:Nat} {spare:Nat→Bool} {held:Bool}
theorem vR {n:Nat} {v:Value} {x:DataW H×List MemPlace} (h:DataW.trod enc prog w base spare held n 36 [v]=some x) :
  ∃ (a:Option Addr) (len cap:Nat) (zs:List Int),v = .slice a len cap∧Row w a zs∧zs.length=len∧len≤cap∧cap≤maxLen:=by
 rcases open_ints (t:=36) (e:=3) (k:=.i64) (by kernel_rfl) (by kernel_rfl) (by kernel_rfl) h with ⟨hcs,_⟩ | ⟨x,len,cap,zs,hcs,_,hl,hm,hz,_,hcell,hwz⟩
 ·have hcs':v = .slice none 0 0:=by simpa using hcs
  subst hcs'
  exact ⟨none,0,0,[],rfl,.inl rfl,rfl,Nat.le_refl _,Nat.zero_le _⟩
 ·have hcs':v = .slice (some x) len cap:=by simpa using hcs
  subst hcs'
  have hzl:len≤zs.length:=by rw [hz];split<;>omega
  refine ⟨some x,len,cap,zs.take len,rfl,?_,by simp;omega,hl,hm⟩
  rcases Nat.eq_zero_or_pos len with h0 | h0
  ·subst h0;exact .inl (by simp)
  ·obtain ⟨b,off,spot⟩:=x
   have hc0:=hcell 0 (by omega)
   have hspot:spot=none:=by simpa [Addr.add] using World.cell?_spot hc0
   subst hspot
   refine .inr ⟨b,off,rfl,fun i hi=>?_⟩
   have hi1:i < len:=by simp at hi;omega
   have hi2:i < zs.length:=by omega
   have hc:=hcell i hi2
   have e:({ block:=b,off:=off }:Addr).add i=⟨b,off+i,none⟩:=by simp [Addr.add]
   rw [e] at hc
   rw [hc]
   simp [List.getD,List.getElem?_take,hi1]
theorem wS {n:Nat} {a:Option Addr} {len cap:Nat} {x:DataW H×List MemPlace} (h:DataW.trod enc prog w base spare held n 36 [.slice a len cap]=some x):∃ zs:List Int,Row w a zs∧zs.length=len∧len≤cap∧len≤9223372036854775807:=by
 obtain ⟨a',len',cap',zs,e,h1,h2,h3,h4⟩:=vR h
 cases e
 exact ⟨zs,h1,h2,h3,by simp only [maxLen] at h4;omega⟩
end
theorem tU {cs:List Value} (h:cs.length=3):∃ a b c,cs=[a,b,c]:=by
 match cs,h with
 | [a,b,c],_=>exact ⟨a,b,c,rfl⟩
section
variable {H:Type} {enc:TypeId×Value→H} {w:World} {base:Nat} {spare:Nat→Bool} {held:Bool}
theorem sT {α:Type} {val:α→Value} {pr:α→Prop} {t e:TypeId} {n:Nat} {v:Value} {x:DataW H×List MemPlace} (ht:prog.underlying t=some (.slice e)) (hc:prog.cellsOf e=1)
  (one:∀ (n:Nat) (cs:List Value) (x:DataW H×List MemPlace),DataW.trod enc prog w base spare held n e cs=some x→∃ y,cs=[val y]∧pr y) (h:DataW.trod enc prog w base spare held n t [v]=some x) :
  ∃ (a:Option Addr) (len cap:Nat) (xs:List α),v = .slice a len cap∧(∀ (i:Nat) r,xs[i]?=some r→∃ b off,a=some ⟨b,off,none⟩∧w.cell? ⟨b,off+i * 1,none⟩=some (val r))∧(∀ r∈xs,pr r)∧xs.length=len∧len≤cap∧cap≤maxLen:=by
 rcases DataW.trod_slice ht h with ⟨hcs,_⟩ | ⟨ad,len,cap,elems,rest,n2,hn2,hcs,_,hb,hle,hcap,hel,hi,_,_⟩
 ·simp at hcs
  subst hcs
  exact ⟨none,0,0,[],rfl,(fun i r hi=>by simp at hi),(fun r hr=>by cases hr),rfl,Nat.le_refl _,Nat.zero_le _⟩
 ·simp at hcs
  subst hcs
  rw [hc] at hi
  obtain ⟨rs,hrl,hrs⟩:=pD len (fun i (r:α)=>w.cell? (ad.add (i * 1))=some (val r)∧pr r) (fun i hil=>by
   have hii:=hi i hil
   rw [List.getElem?_eq_getElem (by omega)] at hii
   obtain ⟨cs',hc',ht'⟩:=Option.bind_eq_some_iff.1 hii
   obtain ⟨_,hcl,hat⟩:=World.cells?_some hc'
   obtain ⟨r,rfl,hr⟩:=one _ _ _ ht'
   refine ⟨r,?_,hr⟩
   have h0:=hat 0 (by omega)
   rw [Go.Deep.add_add,Nat.add_zero] at h0
   rw [h0];rfl)
  refine ⟨some ad,len,cap,rs,rfl,fun i r hir=>?_,fun r hr=>?_,hrl,hle,hcap⟩
  ·obtain ⟨b,off,spot⟩:=ad
   have h1:=(hrs i r hir).1
   have hl0:0 < rs.length:=Nat.lt_of_le_of_lt (Nat.zero_le _) (List.getElem?_eq_some_iff.1 hir).1
   have h2:=(hrs 0 _ (List.getElem?_eq_getElem hl0)).1
   have hspot:spot=none:=by simpa [Addr.add] using World.cell?_spot h2
   subst hspot
   refine ⟨b,off,rfl,?_⟩
   have e:∀ k,({ block:=b,off:=off }:Addr).add k=⟨b,off+k,none⟩:=fun k=>by simp [Addr.add]
   rw [e] at h1
   exact h1
  ·obtain ⟨i,hi',hic⟩:=List.mem_iff_getElem.1 hr
   exact (hrs i r (by rw [← hic];exact List.getElem?_eq_getElem hi')).2
theorem zW {r:Reach} {b0:Nat} {v:Value} {d:DataW H} {p:List MemPlace} (hv:Value.okWide prog w r b0 25 v) (h:DataW.Trod enc prog w base spare held 25 v d p) :
  ∃ (s:DV),v=s.val∧DIn w s:=by
 obtain ⟨cs,rfl,_⟩:=okWide_struct underlying25 hv
 obtain ⟨n,h⟩:=h
 obtain ⟨xs,n',hn,_,hl,hlen,hg⟩:=DataW.trod_struct underlying25 h
 rw [show prog.cellsOf 25=3 by kernel_rfl] at hl
 obtain ⟨a,b,c,hcs⟩:=tU hl
 rw [hcs] at hg
 have hlen3:xs.length=3:=hlen
 have g0:=hg 0 _ rfl
 have g1:=hg 1 _ rfl
 have g2:=hg 2 _ rfl
 rw [show prog.cellsOf _=1 by kernel_rfl,List.getElem?_eq_getElem (by omega)] at g0 g1 g2
 obtain ⟨z0,e0,_,w0⟩:=DataW.trod_int (k:=.i64) (by kernel_rfl) g0
 simp at e0
 subst e0
 obtain ⟨na,nl,nc,ns,rfl,hnr,hni,hnl,hnc,hnm⟩:=sT (val:=IV.val) (pr:=fun r:IV=>Row w r.a r.xs∧r.xs.length=r.l∧r.l≤9223372036854775807) (e:=36) (v:=b) (by kernel_rfl) (by kernel_rfl) (fun n cs x h=>by
  obtain ⟨y,rfl⟩:∃ y,cs=[y]:=by
   obtain ⟨h1,h2⟩:cs.length=1∧True:=⟨by
    rcases DataW.trod_slice underlying36 h with ⟨h9,_⟩ | ⟨ad,len,cap,elems,rest,n2,hn2,h9,_⟩
    ·rw [h9];rfl
    ·rw [h9];rfl,trivial⟩
   match cs,h1 with
   | [y],_=>exact ⟨y,rfl⟩
  obtain ⟨fa,fl,fc,fs,rfl,h1,h2,h3,h4⟩:=vR h
  exact ⟨⟨fa,fl,fc,fs⟩,rfl,h1,h2,by simp only [maxLen] at h4;dsimp only;omega⟩) g1
 obtain ⟨aa,al,ac,bs,rfl,har,_,hal,hac,ham⟩:=sT (val:=Value.bool) (pr:=fun _=>True) (e:=4) (v:=c) (by kernel_rfl) (by kernel_rfl) (fun n cs x h=>by
  obtain ⟨y,h1,_⟩:=DataW.trod_bool (by kernel_rfl) h
  exact ⟨y,h1,trivial⟩) g2
 refine ⟨⟨z0,na,nl,nc,ns,aa,al,ac,bs⟩,?_,⟨hnr,hnl,hni,har,hal,?_,?_⟩⟩
 ·show Value.agg cs=Value.agg _
  congr 1
  exact Array.ext' hcs
 ·simp only [maxLen] at hnm;dsimp only;omega
 ·simp only [maxLen] at ham;dsimp only;omega
end
end
end Go.Proofs.Ytghmbejblbnjjaa
