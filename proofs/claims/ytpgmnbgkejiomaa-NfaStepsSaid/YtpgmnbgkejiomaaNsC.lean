import Derived.Test.YtpgmnbgkejiomaaNsB
set_option maxRecDepth 100000
set_option maxHeartbeats 4000000
set_option linter.unusedVariables false
set_option linter.unusedSimpArgs false
set_option linter.unusedSectionVars false
set_option linter.unnecessarySimpa false
namespace Go.Proofs.Ytpgmnbgkejiomaa
open Go.Proofs.Try
section
open Go.RowKit
theorem qG:bD prog 14=true:=by kernel_rfl
def kU (a:NfV) (ls vs:List Int):Int:=if cM a≠0 then cM a else if ls.all (fun s=>inQ s a.st)=true then (if vs.all (fun s=>inQ s a.sy)=true then 0 else 102) else 101
theorem oP {a:NfV} {ls:List Int}:kU a ls []=cH a ls:=by
 unfold kU cH
 split
 ·rfl
 ·split
  ·rfl
  ·rfl
theorem rR {a:NfV} {ls:List Int} {x:Int}:kU a ls [x]=fX a x ls:=by
 unfold kU fX cH
 by_cases h:cM a≠0
 ·rw [if_pos h,if_pos h,if_pos h]
 ·rw [if_neg h,if_neg h]
  by_cases h1:ls.all (fun s=>inQ s a.st)=true
  ·rw [if_pos h1,if_pos h1];simp
  ·rw [if_neg h1,if_neg h1];simp
theorem lD (a:NfV) (la:Option Addr) (ll lc:Nat) (ls:List Int) (va:Option Addr) (vl vc:Nat) (vs:List Int) (w:World) (hA:NIn w a) (hl:Row w la ls) (hll:ls.length=ll) (hlm:ll≤9223372036854775807) (hv:Row w va vs) (hvl:vs.length=vl) (hvm:vl≤9223372036854775807) :
  Calls prog 26 #[a.val,.slice la ll lc,.slice va vl vc] w (fun e w'=>e = .returned (.int .i64 (kU a ls vs))∧Below w.heap.size w w'):=by
 refine bE (args:=[a.val,.slice la ll lc,.slice va vl vc]) func26 rfl ntmps26 rfl ?_
 have hS:=St.start w
 refine aD (aH (bY (cs:=[_,_,_,_,_]) hS rfl rfl rfl fun B1 W1 hS=>aA rfl rfl (aG (XF.thenN (aD (aH (aO (vs:=[_,_,_,_,_]) isAgg24 sizeOf24 rfl (aK.own (j:=0) (m:=5) (hS.at_ 0 rfl) rfl) rfl (bW (vs:=[_]) hS qG rfl (pW a _ (hA.below hS.below)) rfl fun W2 hS=>aA rfl rfl (aG (XF.thenN (aD (aD (aH (aB rfl rfl (eM rfl rfl rfl (aG (XF.thenN (bC rfl (fun hc=>?_) (fun hc=>?_)))))))))))))))))))
 ·have hc13:=of_decide_eq_true hc;clear hc
  refine aD (aH (aB rfl rfl (aA rfl rfl (aG (XF.thenN (bH (XF.thenR (XF.res (bU results26 rfl) ?_))))))))
  exact ⟨dL (by unfold kU;rw [if_pos hc13]),hS.below⟩
 ·have hc13:=of_decide_eq_false hc;clear hc
  refine aS (XF.thenN (aD (aD (aH (aA rfl rfl (aG (XF.thenN (aL (cE (fun m l W=>∃ i:Nat,i≤ll∧m=ll - i∧l=[(1,.slice la ll lc),(2,.slice va vl vc),(3,.pointer (some ⟨B1,0,none⟩)),(8,.int .i64 (i:Int))]∧(ls.take i).all (fun s=>inQ s a.st)=true∧St w [(B1,a.cells,24)] [] [] W) (ll - 0) ([(1,_),(2,_),(3,_),(8,_)]) ⟨rfl,rfl,rfl,rfl,trivial⟩ (⟨0,Nat.zero_le _,rfl,rfl,rfl,hS.clear⟩) ?_)))))))))
  clear hS
  rintro m l W ⟨i,hi,rfl,rfl,hall,hS⟩
  refine aD (aD (aH (aB rfl rfl (aB rfl rfl (bN underlying25 rfl rfl (bK rfl rfl rfl (aG (XF.thenN (bC rfl (fun hc=>?_) (fun hc=>?_))))))))))
  ·have hc18:=of_decide_eq_true hc;clear hc
   obtain ⟨b,off,y,rfl,hy,hyc⟩:=hl.at1 (show i < ls.length by omega)
   have k2:=hS.old hyc
   refine aS (XF.thenN (aD (aL (aD (lL (m:=7) cQ hS (by kernel_rfl) (by kernel_rfl) rfl (dB 1 rfl 3 rfl rfl (fun w hw=>eA (vs:=[_,_,_,_,_]) isAgg24 sizeOf24 rfl (aK.agree (aY hw 0) (Nat.zero_le _) (aK.own (j:=0) (m:=5) (hS.at_ 0 rfl) rfl))) rfl (dB 2 rfl 1 rfl rfl (fun w hw=>bI rfl) rfl (dB 3 rfl 8 rfl rfl (fun w hw=>bI rfl) rfl (aZ 4 rfl (isV _) (aT _) (rgV (li:=[(22,_),(23,_)]) rfl (bO rfl) ⟨aW 1 (aM rfl rfl rfl),aW 2 (aM rfl rfl rfl),trivial⟩ (fun w hw=>cG  underlying25 sizeOf3 rfl rfl rfl (by omega) rfl) (aV rfl)) (cD 5 rfl 24 3 rfl rfl rfl (fun w hw=>bR isAgg3 rfl ((aY hw 0).cell (Nat.zero_le _) (k2))) rfl ?_))))))))))
   refine aZ 6 rfl (isV (.bool (inQ y a.st))) (aT _) (gL [isV _,isV _] rfl iN (bO rfl) ⟨jD (aW 0 (aM rfl rfl rfl)),jD (aW 4 (aM rfl rfl rfl)),trivial⟩ (fun vs w' hb hh=>by have e:=eI (us:=[_,_]) hh;subst e;exact (fF a y w').mono fun e w2 ⟨h1,h2⟩=>⟨_,h1,rfl,h2⟩) (aV rfl)) ?_
   refine cD 7 rfl 26 5 rfl rfl rfl (fun w hw=>nT rfl) rfl (fM ?_)
   intro W3 hbR hS'
   clear hS;have hS:=hS';clear hS'
   refine aR (aR (aR (aR (aR (aR (aR (dM (XF.thenN (bC rfl (fun hc=>?_) (fun hc=>?_))))))))))
   ·have hc27:=hc;clear hc
    refine aD (aH (aA rfl rfl (aG (XF.thenN (bH (XF.blkR (XF.thenR (XF.thenR (XF.blkR (XF.thenR (XF.res (bU results26 rfl) ?_)))))))))))
    exact ⟨dL (by unfold kU;rw [if_neg hc13,if_neg (by rw [bZ hy (by simpa using hc27)];decide)]),hS.below⟩
   ·have hc27:=hc;clear hc
    refine aS (XF.blkN (XF.thenN (aH (aB rfl rfl (bB rfl rfl (IntWalk.i64_in _ (by omega)) rfl (aA rfl rfl (aG ?_)))))))
    exact XF.round (ll - (i+1)) [(1,_),(2,_),(3,_),(8,_)] (by omega) ⟨rfl,rfl,rfl,rfl,trivial⟩ ⟨i+1,by omega,rfl,rfl,dP hy hall (by simpa using hc27),hS.clear⟩
  ·have hc18:=of_decide_eq_false hc;clear hc
   rw [List.take_of_length_le (by omega)] at hall
   have hall1:=hall
   clear hall
   refine bX (XF.thenX (XF.thenX (XF.blkX (XF.thenN (aD (aD (aH (aA rfl rfl (aG (XF.thenN (aL (cE (fun m l W=>∃ i:Nat,i≤vl∧m=vl - i∧l=[(1,.slice la ll lc),(2,.slice va vl vc),(3,.pointer (some ⟨B1,0,none⟩)),(9,.int .i64 (i:Int))]∧(vs.take i).all (fun s=>inQ s a.sy)=true∧St w [(B1,a.cells,24)] [] [] W) (vl - 0) ([(1,_),(2,_),(3,_),(9,_)]) ⟨rfl,rfl,rfl,rfl,trivial⟩ (⟨0,Nat.zero_le _,rfl,rfl,rfl,hS.clear⟩) ?_))))))))))))
   clear hS
   rintro m l W ⟨i,hi,rfl,rfl,hall,hS⟩
   refine aD (aD (aH (aB rfl rfl (aB rfl rfl (bN underlying25 rfl rfl (bK rfl rfl rfl (aG (XF.thenN (bC rfl (fun hc=>?_) (fun hc=>?_))))))))))
   ·have hc31:=of_decide_eq_true hc;clear hc
    obtain ⟨b,off,y,rfl,hy,hyc⟩:=hv.at1 (show i < vs.length by omega)
    have k2:=hS.old hyc
    refine aS (XF.thenN (aD (aL (aD ?_))))
    rcases (by omega:y < 0∨0≤y) with hy0 | hy0
    ·skip
     refine lL (m:=14) cQ hS (by kernel_rfl) (by kernel_rfl) rfl (dB 1 rfl 2 rfl rfl (fun w hw=>bI rfl) rfl (dB 2 rfl 9 rfl rfl (fun w hw=>bI rfl) rfl (aZ 3 rfl (isV _) (aT _) (rgV (li:=[(34,_),(35,_)]) rfl (bO rfl) ⟨aW 0 (aM rfl rfl rfl),aW 1 (aM rfl rfl rfl),trivial⟩ (fun w hw=>cG  underlying25 sizeOf3 rfl rfl rfl (by omega) rfl) (aV rfl)) (cD 4 rfl 36 2 rfl rfl rfl (fun w hw=>bR isAgg3 rfl ((aY hw 0).cell (Nat.zero_le _) (k2))) rfl (aZ 5 rfl (isV (.bool true)) (aT _) (qZ (li:=[(37,_)]) rfl (bO rfl) ⟨aW 3 (aM rfl rfl rfl),trivial⟩ (fun w hw=>nU rfl rfl) (by rw [decide_eq_true hy0]) (aV rfl)) (cD 6 rfl 38 4 rfl rfl rfl (fun w hw=>bI rfl) rfl (aZ 7 rfl (isV undef) (aT _) (jZ rfl (kA 39 rfl (aM rfl rfl rfl) rfl) (aV rfl)) (aZ 8 rfl (isV undef) (aT _) (jZ rfl (kA 39 rfl (aM rfl rfl rfl) rfl) (aV rfl)) (aZ 9 rfl (isV undef) (aT _) (jZ rfl (kA 39 rfl (aM rfl rfl rfl) rfl) (aV rfl)) (aZ 10 rfl (isV undef) (aT _) (jZ rfl (kA 39 rfl (aM rfl rfl rfl) rfl) (aV rfl)) (aZ 11 rfl (isV undef) (aT _) (jZ rfl (kA 39 rfl (aM rfl rfl rfl) rfl) (aV rfl)) (aZ 12 rfl (isV undef) (aT _) (jZ rfl (kA 39 rfl (aM rfl rfl rfl) rfl) (aV rfl)) (aZ 13 rfl (isV undef) (aT _) (jZ rfl (kA 39 rfl (aM rfl rfl rfl) rfl) (aV rfl)) (cD 14 rfl 39 5 rfl rfl rfl (fun w hw=>eL rfl rfl) rfl (fM ?_)))))))))))))))
     intro W4 hbR hS'
     clear hS;have hS:=hS';clear hS'
     refine aR (aR (aR (aR (aR (aR (aR (aR (aR (aR (aR (aR (aR (aR (dM (XF.thenN (cI rfl (aD (aH (aA rfl rfl (aG (XF.thenN (bH (XF.blkR (XF.thenR (XF.thenR (XF.blkR (XF.thenR (XF.res (bU results26 rfl) ?_))))))))))))))))))))))))))))
     exact ⟨dL (by unfold kU;rw [if_neg hc13,if_pos hall1,if_neg (by rw [bZ hy (by unfold inQ;simp;omega)];decide)]),hS.below⟩
    ·skip
     refine lL (m:=14) cQ hS (by kernel_rfl) (by kernel_rfl) rfl (dB 1 rfl 2 rfl rfl (fun w hw=>bI rfl) rfl (dB 2 rfl 9 rfl rfl (fun w hw=>bI rfl) rfl (aZ 3 rfl (isV _) (aT _) (rgV (li:=[(34,_),(35,_)]) rfl (bO rfl) ⟨aW 0 (aM rfl rfl rfl),aW 1 (aM rfl rfl rfl),trivial⟩ (fun w hw=>cG  underlying25 sizeOf3 rfl rfl rfl (by omega) rfl) (aV rfl)) (cD 4 rfl 36 2 rfl rfl rfl (fun w hw=>bR isAgg3 rfl ((aY hw 0).cell (Nat.zero_le _) (k2))) rfl (aZ 5 rfl (isV (.bool false)) (aT _) (qZ (li:=[(37,_)]) rfl (bO rfl) ⟨aW 3 (aM rfl rfl rfl),trivial⟩ (fun w hw=>nU rfl rfl) (by rw [decide_eq_false (by omega)]) (aV rfl)) (cD 6 rfl 38 4 rfl rfl rfl (fun w hw=>bI rfl) rfl (aZ 7 rfl (isV _) (aT _) (rgV (li:=[(2,_)]) rfl (cO 39 rfl (aM rfl rfl rfl)) ⟨dR rfl,trivial⟩ (fun w hw=>bI rfl) (aV rfl)) (aZ 8 rfl (isV _) (aT _) (rgV (li:=[(9,_)]) rfl (cO 39 rfl (aM rfl rfl rfl)) ⟨dR rfl,trivial⟩ (fun w hw=>bI rfl) (aV rfl)) (aZ 9 rfl (isV _) (aT _) (rgV (li:=[(40,_),(41,_)]) rfl (cO 39 rfl (aM rfl rfl rfl)) ⟨aW 6 (aM rfl rfl rfl),aW 7 (aM rfl rfl rfl),trivial⟩ (fun w hw=>cG  underlying25 sizeOf3 rfl rfl rfl (by omega) rfl) (aV rfl)) (aZ 10 rfl (isV _) (aT _) (rgV (li:=[(42,_)]) rfl (cO 39 rfl (aM rfl rfl rfl)) ⟨aW 8 (aM rfl rfl rfl),trivial⟩ (fun w hw=>bR isAgg3 rfl ((aY hw 0).cell (Nat.zero_le _) (k2))) (aV rfl)) (aZ 11 rfl (isV _) (aT _) (rgV (li:=[(3,_)]) rfl (cO 39 rfl (aM rfl rfl rfl)) ⟨dR rfl,trivial⟩ (fun w hw=>cF (o':=1) dV rfl rfl) (aV rfl)) (aZ 12 rfl (isV _) (aT _) (rgV (li:=[(44,_)]) rfl (cO 39 rfl (aM rfl rfl rfl)) ⟨aW 10 (aM rfl rfl rfl),trivial⟩ (fun w hw=>bR isAgg3 rfl ((aY hw 0).cell (Nat.zero_le _) (aF (hS.at_ 0 rfl) rfl))) (aV rfl)) (aZ 13 rfl (isV _) (aT _) (rgV (li:=[(43,_),(45,_)]) rfl (cO 39 rfl (aM rfl rfl rfl)) ⟨aW 9 (aM rfl rfl rfl),aW 11 (aM rfl rfl rfl),trivial⟩ (fun w hw=>sR rfl rfl) (aV rfl)) (aZ 14 rfl (isV _) (aT _) (rgV (li:=[(39,_),(46,_)]) rfl (bO rfl) ⟨aW 5 (aM rfl rfl rfl),aW 12 (aM rfl rfl rfl),trivial⟩ (fun w hw=>mK rfl rfl) (aV rfl)) (fM ?_)))))))))))))))
     intro W5 hbR hS'
     clear hS;have hS:=hS';clear hS'
     refine aR (aR (aR (aR (aR (aR (aR (aR (aR (aR (aR (aR (aR (aR (dM (XF.thenN (bC rfl (fun hc=>?_) (fun hc=>?_)))))))))))))))))
     ·have hc47:=hc;clear hc
      have q1:a.sy≤y:=by simpa using hc47
      refine aD (aH (aA rfl rfl (aG (XF.thenN (bH (XF.blkR (XF.thenR (XF.thenR (XF.blkR (XF.thenR (XF.res (bU results26 rfl) ?_)))))))))))
      exact ⟨dL (by unfold kU;rw [if_neg hc13,if_pos hall1,if_neg (by rw [bZ hy (by unfold inQ;simp;omega)];decide)]),hS.below⟩
     ·have hc47:=hc;clear hc
      have q1:¬ a.sy≤y:=by simpa using hc47
      refine aS (XF.blkN (XF.thenN (aH (aB rfl rfl (bB rfl rfl (IntWalk.i64_in _ (by omega)) rfl (aA rfl rfl (aG ?_)))))))
      exact XF.round (vl - (i+1)) [(1,_),(2,_),(3,_),(9,_)] (by omega) ⟨rfl,rfl,rfl,rfl,trivial⟩ ⟨i+1,by omega,rfl,rfl,dP hy hall (by unfold inQ;simp;omega),hS.clear⟩
   ·have hc31:=of_decide_eq_false hc;clear hc
    rw [List.take_of_length_le (by omega)] at hall
    refine bX (XF.thenX (XF.thenX (XF.blkX (XF.thenN (aD (aH (aA rfl rfl (aG (XF.thenN (bH (XF.res (bU results26 rfl) ?_)))))))))))
    exact ⟨dL (by unfold kU;rw [if_neg hc13,if_pos hall1,if_pos hall]),hS.below⟩
theorem qH:bD prog 26=true:=by kernel_rfl
theorem qI:bD prog 27=true:=by kernel_rfl
theorem qJ:bD prog 28=true:=by kernel_rfl
theorem goes_31:bD prog 31=true:=by kernel_rfl
theorem nJ {bs:List Bool} {n:Nat} (h:bs.length=n):(dZ bs).length≤n:=by
 unfold dZ
 refine Nat.le_trans (List.length_filter_le _ _) ?_
 rw [List.length_range,h];exact Nat.le_refl _
theorem oQ (a:NfV) (la:Option Addr) (ll lc:Nat) (ls:List Int) (Kt:List (Nat×World)) (Ot:Own) (G:aX) (K:List (Nat×World)) (w0 w:World) (hS0:St w0 Ot G K w) (hKt:∀ q∈Kt,q∈K) (hA:bT w0 Kt (fun W=>NIn W a)) (hLs:bT w0 Kt (fun W=>Row W la ls)) (hll:ls.length=ll) (hlm:ll≤9223372036854775807) :
  Calls prog 9 #[a.val,.slice la ll lc] w (fun e w'=>∃ (l:List Nat) (wa:Option Addr) (wc:Nat) (Kn:List (Nat×World)),(cH a ls=0→IsH a.ar (fun q:Nat=>(q:Int)∈ls) l∧l.length≤4096)∧(cH a ls≠0→l=[])∧e = .returned (.tuple #[.slice wa l.length wc,.int .i64 (cH a ls)])∧(∀ q∈K,q∈Kn)∧bT w0 Kn (fun W=>Row W wa (nI l))∧St w0 Ot G Kn w'):=by
 refine bE (args:=[a.val,.slice la ll lc]) func9 rfl ntmps9 rfl ?_
 have hS:=hS0
 refine aD (aH (bY (cs:=[_,_,_,_,_]) hS rfl rfl rfl fun B1 W1 hS=>aA rfl rfl (aA rfl rfl (aG (XF.thenN (aD (aH (aO (vs:=[_,_,_,_,_]) isAgg24 sizeOf24 rfl (aK.own (j:=0) (m:=5) (hS.at_ 0 rfl) rfl) rfl (aB rfl rfl (aU (vs:=[_,_,_]) qH rfl (lD a la ll lc ls none 0 0 [] _ (hA (hS.keep K (fun q hq=>by simp [hq])) hKt) (hLs (hS.keep K (fun q hq=>by simp [hq])) hKt) hll hlm (.inl rfl) rfl (by decide)) rfl ?_))))))))))
 rintro e W9 ⟨rfl,hb9⟩
 rw [oP]
 refine ⟨_,rfl,?_⟩
 have hS':=hS.grow hb9;clear hS;have hS:=hS';clear hS'
 refine aA rfl rfl (aG (XF.thenN (aD (aD (aH (aB rfl rfl (eM rfl rfl rfl (aG (XF.thenN (bC rfl (fun hc=>?_) (fun hc=>?_)))))))))))
 ·have hc11:=of_decide_eq_true hc;clear hc
  refine aD (aH (aB rfl rfl (aA rfl rfl (aA rfl rfl (aG (XF.thenN (bH (XF.thenR (XF.res (iE results9 rfl rfl) ?_)))))))))
  exact ⟨[],none,0,K,fun h=>absurd h hc11,fun _=>rfl,rfl,fun q hq=>hq,fun _ _=>.inl rfl,(hS.keep K (fun q hq=>by simp [hq])).tail⟩
 ·have hc11:=of_decide_eq_false hc;clear hc
  have h0:cH a ls=0:=Decidable.of_not_not hc11
  obtain ⟨n,k,s,e9,hn,hk,hs0,he0,hn1,hn4,hk4,hsn,hen,hal,hO⟩:=gP (dI h0).1
  have hlen:=(hA (hS.keep K (fun q hq=>by simp [hq])) hKt).alen
  have hw1:IntKind.i64.wrap (0+1)=1:=by decide
  refine aS (XF.thenN (aD (aH (aO (vs:=[_,_,_,_,_]) isAgg24 sizeOf24 rfl (aK.own (j:=0) (m:=5) (hS.at_ 0 rfl) rfl) rfl (aB rfl rfl ?_)))))
  refine aU (vs:=[_,_]) qJ rfl (lC a n (k:Int) la ll lc ls Kt _ G K w0 _ (hS.keep K (fun q hq=>by simp [hq])) hKt hA hLs hll hlm (fun y hy=>(by have:=(dI h0).2 y hy;omega)) hn hn1 hn4 hO) rfl ?_
  rintro e W9 ⟨IB,bs,hb1,hH1,rfl,hS9⟩
  refine ⟨_,rfl,?_⟩
  clear hS;have hS:=hS9;clear hS9
  refine aU (vs:=[_]) qI rfl (nH n IB bs _ G K w0 _ (hS.keep K (fun q hq=>by simp [hq])) hb1 hn4) rfl ?_
  rintro e W9 ⟨wa1,wc1,K1,rfl,hk1,hR1,hS9⟩
  refine ⟨_,rfl,?_⟩
  clear hS;have hS:=hS9;clear hS9
  refine aA rfl rfl (aA rfl rfl (aG (XF.thenN (bH (XF.res (iE results9 rfl rfl) ?_)))))
  exact ⟨dZ bs,wa1,wc1,K1,fun _=>⟨hH1.list,by have:=nJ hb1;omega⟩,fun h=>absurd h0 h,by rw [h0],hk1,hR1,(hS.keep K1 (fun q hq=>by simp [hq])).tail.tail⟩
theorem rS (a:NfV) (la:Option Addr) (ll lc:Nat) (ls:List Int) (x:Int) (Kt:List (Nat×World)) (Ot:Own) (G:aX) (K:List (Nat×World)) (w0 w:World) (hS0:St w0 Ot G K w) (hKt:∀ q∈Kt,q∈K) (hA:bT w0 Kt (fun W=>NIn W a)) (hLs:bT w0 Kt (fun W=>Row W la ls)) (hll:ls.length=ll) (hlm:ll≤9223372036854775807) :
  Calls prog 11 #[a.val,.int .i64 x,.slice la ll lc] w (fun e w'=>∃ (l:List Nat) (wa:Option Addr) (wc:Nat) (Kn:List (Nat×World)),(fX a x ls=0→IsH a.ar (By9 a.ar x (Hd a.ar (fun q:Nat=>(q:Int)∈ls))) l∧l.length≤4096)∧(fX a x ls≠0→l=[])∧e = .returned (.tuple #[.slice wa l.length wc,.int .i64 (fX a x ls)])∧(∀ q∈K,q∈Kn)∧bT w0 Kn (fun W=>Row W wa (nI l))∧St w0 Ot G Kn w'):=by
 refine bE (args:=[a.val,.int .i64 x,.slice la ll lc]) func11 rfl ntmps11 rfl ?_
 have hS:=hS0
 refine aD (aH (bY (cs:=[_,_,_,_,_]) hS rfl rfl rfl fun B1 W1 hS=>aA rfl rfl (aA rfl rfl (aG (XF.thenN (aD (aH (aO (vs:=[_,_,_,_,_]) isAgg24 sizeOf24 rfl (aK.own (j:=0) (m:=5) (hS.at_ 0 rfl) rfl) rfl (aB rfl rfl (aB rfl rfl (bP (us:=[(0,.int .i64 _)]) hS underlying25 sizeOf3 zeroValue3 rfl rfl rfl (dS _) rfl fun B2 W2 hS=>?_)))))))))))
 refine aU (vs:=[_,_,_]) qH rfl (lD a la ll lc ls _ 1 1 [x] _ (hA (hS.keep K (fun q hq=>by simp [hq])) hKt) (hLs (hS.keep K (fun q hq=>by simp [hq])) hKt) hll hlm (.inr ⟨_,0,rfl,fun i hi=>by obtain rfl:i=0:=(by simpa using hi);exact aF (hS.at_ 0 rfl) rfl⟩) rfl (by decide)) rfl ?_
 rintro e W9 ⟨rfl,hb9⟩
 rw [rR]
 refine ⟨_,rfl,?_⟩
 have hS':=hS.grow hb9;clear hS;have hS:=hS';clear hS'
 refine aA rfl rfl (aG (XF.thenN (aD (aD (aH (aB rfl rfl (eM rfl rfl rfl (aG (XF.thenN (bC rfl (fun hc=>?_) (fun hc=>?_)))))))))))
 ·have hc15:=of_decide_eq_true hc;clear hc
  refine aD (aH (aB rfl rfl (aA rfl rfl (aA rfl rfl (aG (XF.thenN (bH (XF.thenR (XF.res (iE results11 rfl rfl) ?_)))))))))
  exact ⟨[],none,0,K,fun h=>absurd h hc15,fun _=>rfl,rfl,fun q hq=>hq,fun _ _=>.inl rfl,(hS.keep K (fun q hq=>by simp [hq])).tail.tail⟩
 ·have hc15:=of_decide_eq_false hc;clear hc
  have h00:fX a x ls=0:=Decidable.of_not_not hc15
  have h0:cH a ls=0:=by
   unfold fX at h00
   split at h00
   ·rename_i h1;exact absurd h00 h1
   ·rename_i h1;exact Decidable.of_not_not h1
  obtain ⟨n,k,s,e9,hn,hk,hs0,he0,hn1,hn4,hk4,hsn,hen,hal,hO⟩:=gP (dI h0).1
  have hlen:=(hA (hS.keep K (fun q hq=>by simp [hq])) hKt).alen
  have hw1:IntKind.i64.wrap (0+1)=1:=by decide
  refine aS (XF.thenN (aD ?_))
  have hS9:=hS.keep K (fun q hq=>by simp [hq])
  clear hS;have hS:=hS9;clear hS9
  obtain ⟨OX,hOX⟩:∃ OX,OX=((B1,a.cells,24)::Ot):=⟨_,rfl⟩
  have hS9:St w0 OX G K W9:=by rw [hOX];exact hS.tail
  clear hS;have hS:=hS9;clear hS9
  refine regMk (mk:=[4,5,6]) (k:=7) (vals:=(fun i8=>match i8 with | 0=>a.val | 1=>.int .i64 x | 2=>a.val | _=>.slice la ll lc)) (Pm:=fun i v ON=>ON=[(0,[v],0)]) (fun s w=>(s=[]∧St w0 OX G K w)∨(∃ IB bs,s=[(4,[(0,[.slice (some ⟨IB,0,none⟩) n n],0)])]∧bs.length=n∧HdB a.ar (fun q:Nat=>(q:Int)∈ls) bs∧St w0 ((IB,zB bs,4)::OX) G K w)∨(∃ IB bs OB b2,s=[(5,[(0,[.slice (some ⟨OB,0,none⟩) n n],0)]),(4,[(0,[.slice (some ⟨IB,0,none⟩) n n],0)])]∧b2.length=n∧HdB a.ar (By9 a.ar x (Hd a.ar (fun q:Nat=>(q:Int)∈ls))) b2∧St w0 ((OB,zB b2,4)::(IB,zB bs,4)::OX) G K w)∨(∃ IB bs OB b2 wa wc K1,s=[(6,[(0,[.slice wa (dZ b2).length wc],0)]),(5,[(0,[.slice (some ⟨OB,0,none⟩) n n],0)]),(4,[(0,[.slice (some ⟨IB,0,none⟩) n n],0)])]∧b2.length=n∧HdB a.ar (By9 a.ar x (Hd a.ar (fun q:Nat=>(q:Int)∈ls))) b2∧(∀ q∈K,q∈K1)∧bT w0 K1 (fun W=>Row W wa (nI (dZ b2)))∧St w0 ((OB,zB b2,4)::(IB,zB bs,4)::OX) G K1 w)) cQ (.inl ⟨rfl,hS.drew⟩) (Nat.le_of_ble_eq_true (by kernel_rfl)) (by kernel_rfl) (by kernel_rfl) ?_ ?_ (by decide) ?_
  ·intro i9 hi9 hin s a0 c9 w ha0 hF9 hG hD
   have hfr:∀ t v,cC _ t=true→look _ t=some v→c9.eval (.tmp t)=v:=fun t v h1 h2=>(hF9 t h1).trans (ha0.at_ t v h2)
   have hb3:w.heap[B1]?=some (.cells a.cells.toArray 24 (0,0)):=by
    have hm:(B1,a.cells,24)∈OX:=by rw [hOX];exact List.mem_cons_self
    rcases hG with ⟨_,h9⟩ | ⟨IB,bs,_,_,_,h9⟩ | ⟨IB,bs,OB,b2,_,_,_,h9⟩ | ⟨IB,bs,OB,b2,wa,wc,K1,_,_,_,_,_,h9⟩
    ·exact (h9.own _ hm).2
    ·exact (h9.own _ (List.mem_cons_of_mem _ hm)).2
    ·exact (h9.own _ (List.mem_cons_of_mem _ (List.mem_cons_of_mem _ hm))).2
    ·exact (h9.own _ (List.mem_cons_of_mem _ (List.mem_cons_of_mem _ hm))).2
   match i9,hi9,hin with
   | 0,_,_=>exact ⟨_,rfl,rfl,by
    exact eA (l:=[(3,.pointer (some ⟨B1,0,none⟩))]) (vs:=[_,_,_,_,_]) isAgg24 sizeOf24 rfl (aK.own (j:=0) (m:=5) hb3 rfl) c9.eval (fW (hfr 3 _ (by kernel_rfl) rfl))⟩
   | 1,_,_=>exact ⟨_,rfl,rfl,by
    exact bI (l:=[(1,.int .i64 x)]) rfl c9.eval (fW (hfr 1 _ (by kernel_rfl) rfl))⟩
   | 2,_,_=>exact ⟨_,rfl,rfl,by
    exact eA (l:=[(3,.pointer (some ⟨B1,0,none⟩))]) (vs:=[_,_,_,_,_]) isAgg24 sizeOf24 rfl (aK.own (j:=0) (m:=5) hb3 rfl) c9.eval (fW (hfr 3 _ (by kernel_rfl) rfl))⟩
   | 3,_,_=>exact ⟨_,rfl,rfl,by
    exact bI (l:=[(2,.slice la ll lc)]) rfl c9.eval (fW (hfr 2 _ (by kernel_rfl) rfl))⟩
   | 4,_,h9=>exact absurd (by decide) h9
   | 5,_,h9=>exact absurd (by decide) h9
   | 6,_,h9=>exact absurd (by decide) h9
   | i+7,h9,_=>omega
  ·intro i9 him s a0 c9 w ha0 hF9 hG hnew hD
   have hcase:i9=4∨i9=5∨i9=6:=by simpa using him
   rcases hcase with rfl | rfl | rfl
   ·have h2:=(hD 2 19 (by kernel_rfl)).1 (by decide)
    have h3:=(hD 3 20 (by kernel_rfl)).1 (by decide)
    rcases hG with ⟨rfl,h9⟩ | ⟨IB,bs,rfl,hb1,hH1,h9⟩ | ⟨IB,bs,OB,b2,rfl,hb2,hH2,h9⟩ | ⟨IB,bs,OB,b2,wa,wc,K1,rfl,_⟩
    ·refine lS (vs:=[a.val,.slice la ll lc]) rfl qJ (by simp only [List.map_cons,List.map_nil,h2,h3]) ?_
     refine (lC a n (k:Int) la ll lc ls Kt _ G K w0 _ h9 hKt hA hLs hll hlm (fun y hy=>(by have:=(dI h0).2 y hy;omega)) hn hn1 hn4 hO).mono ?_
     rintro e w2 ⟨IB,bs,hb1,hH1,rfl,h8⟩
     exact ⟨_,[(0,[_],0)],rfl,rfl,.inr (.inl ⟨IB,bs,rfl,hb1,hH1,h8⟩)⟩
    ·exact absurd List.mem_cons_self (hnew _)
    ·exact absurd (List.mem_cons_of_mem _ List.mem_cons_self) (hnew _)
    ·exact absurd (List.mem_cons_of_mem _ (List.mem_cons_of_mem _ List.mem_cons_self)) (hnew _)
   ·have h0x:=(hD 0 17 (by kernel_rfl)).1 (by decide)
    have h1x:=(hD 1 18 (by kernel_rfl)).1 (by decide)
    obtain ⟨ON4,h4,hP4⟩:=(hD 4 21 (by kernel_rfl)).2 (by decide)
    rcases hG with ⟨rfl,h9⟩ | ⟨IB,bs,rfl,hb1,hH1,h9⟩ | ⟨IB,bs,OB,b2,rfl,hb2,hH2,h9⟩ | ⟨IB,bs,OB,b2,wa,wc,K1,rfl,_⟩
    ·cases h4
    ·have e4:c9.eval (.tmp 21) = .slice (some ⟨IB,0,none⟩) n n:=by
      have h8:=List.mem_singleton.1 h4
      rw [show ON4=_ from hP4] at h8
      simpa using h8
     refine lS (vs:=[a.val,.int .i64 x,.slice (some ⟨IB,0,none⟩) n n]) rfl goes_31 (by simp only [List.map_cons,List.map_nil,h0x,h1x,e4]) ((nBy_is a n (k:Int) x (Hd a.ar (fun q:Nat=>(q:Int)∈ls)) IB bs Kt _ G K w0 _ h9 hKt hA hn hn1 hn4 hO hb1 hH1).mono ?_)
     rintro e w2 ⟨OB,b2,hb2,hH2,rfl,h8⟩
     exact ⟨_,[(0,[_],0)],rfl,rfl,.inr (.inr (.inl ⟨IB,bs,OB,b2,rfl,hb2,hH2,h8⟩))⟩
    ·exact absurd List.mem_cons_self (hnew _)
    ·exact absurd (List.mem_cons_of_mem _ List.mem_cons_self) (hnew _)
   ·obtain ⟨ON5,h5,hP5⟩:=(hD 5 22 (by kernel_rfl)).2 (by decide)
    rcases hG with ⟨rfl,h9⟩ | ⟨IB,bs,rfl,hb1,hH1,h9⟩ | ⟨IB,bs,OB,b2,rfl,hb2,hH2,h9⟩ | ⟨IB,bs,OB,b2,wa,wc,K1,rfl,_⟩
    ·cases h5
    ·exact absurd (congrArg Prod.fst (List.mem_singleton.1 h5)) (show (5:Nat)≠4 by decide)
    ·have e5:c9.eval (.tmp 22) = .slice (some ⟨OB,0,none⟩) n n:=by
      rw [show ON5=_ from hP5] at h5
      simpa using h5
     refine lS (vs:=[.slice (some ⟨OB,0,none⟩) n n]) rfl qI (by simp only [List.map_cons,List.map_nil,e5]) ((nH n OB b2 _ G K w0 _ h9 hb2 hn4).mono ?_)
     rintro e w2 ⟨wa,wc,K1,rfl,hk1,hR1,h8⟩
     exact ⟨_,[(0,[_],0)],rfl,rfl,.inr (.inr (.inr ⟨IB,bs,OB,b2,wa,wc,K1,rfl,hb2,hH2,hk1,hR1,h8⟩))⟩
    ·exact absurd List.mem_cons_self (hnew _)
  ·intro s c9 w hG hsz hdf hfr hval hin hmk hkeys hdist
   obtain ⟨O6,h6,hP6⟩:=hmk 6 23 (by decide) rfl
   rcases hG with ⟨rfl,h9⟩ | ⟨IB,bs,rfl,_⟩ | ⟨IB,bs,OB,b2,rfl,_⟩ | ⟨IB,bs,OB,b2,wa,wc,K1,rfl,hb2,hH2,hk1,hR1,hS2⟩
   ·cases h6
   ·exact absurd (congrArg Prod.fst (List.mem_singleton.1 h6)) (show (6:Nat)≠4 by decide)
   ·exact absurd h6 (by simp)
   have e6:c9.tmps.getD 23 undef = .slice wa (dZ b2).length wc:=by
    rw [show O6=_ from hP6] at h6
    simpa using h6
   clear hS;have hS:=hS2;clear hS2
   refine (show bG _ _ _ _ (List.drop 7 _) [(3,.pointer (some ⟨B1,0,none⟩)),(23,.slice wa (dZ b2).length wc)] w from ?_) c9 (tK.has hsz hdf ⟨hfr 3 _ (by kernel_rfl) rfl,e6,trivial⟩)
   refine aA rfl rfl (aA rfl rfl (aG (XF.thenN (bH (XF.res (iE results11 rfl rfl) ?_)))))
   rw [hOX] at hS
   exact ⟨dZ b2,wa,wc,K1,fun _=>⟨hH2.list,by have:=nJ hb2;omega⟩,fun h=>absurd h00 h,by rw [h00],hk1,hR1,(hS.keep K1 (fun q hq=>by simp [hq])).tail.tail.tail⟩
theorem tT {l m:List Int} {i:Nat} {x y:Int} (h:l.take i=m.take i) (hx:l[i]?=some x) (hy:m[i]?=some y) (e:x=y):l.take (i+1)=m.take (i+1):=by
 rw [List.take_add_one,List.take_add_one,h,hx,hy,e]
theorem rT {l m:List Int} {i:Nat} (h:l.take i=m.take i) (h1:l.length≤i) (h2:m.length≤i):l=m:=by
 rw [List.take_of_length_le h1,List.take_of_length_le h2] at h;exact h
theorem qK (a b:Option Addr) (n m ca cb:Nat) (xs ys:List Int) (w:World) (hA:Row w a xs) (hB:Row w b ys) (hn:xs.length=n) (hm:ys.length=m) (hmx:n≤9223372036854775807) :
  Calls prog 12 #[.slice a n ca,.slice b m cb] w (fun e w'=>e = .returned (.bool (decide (xs=ys)))∧Below w.heap.size w w'):=by
 refine bE (args:=[.slice a n ca,.slice b m cb]) func12 rfl ntmps12 rfl ?_
 have hS:=St.start w
 refine aD (aH (aA rfl rfl (aG (XF.thenN (aD (aD (aH (aB rfl rfl (bN underlying25 rfl rfl (aB rfl rfl (bN underlying25 rfl rfl (eM rfl rfl rfl (aG (XF.thenN (bC rfl (fun hc=>?_) (fun hc=>?_))))))))))))))))
 ·have hc10:=of_decide_eq_true hc;clear hc
  refine aD (aH (aA rfl rfl (aG (XF.thenN (bH (XF.thenR (XF.res (bU results12 rfl) ?_)))))))
  exact ⟨by rw [decide_eq_false (fun h=>hc10 (by rw [← hn,← hm,h]))],hS.below⟩
 ·have hc10:=of_decide_eq_false hc;clear hc
  have hnm:n=m:=by have:=Decidable.of_not_not hc10;omega
  refine aS (XF.thenN (aD (aD (aH (aA rfl rfl (aG (XF.thenN (aL (cE (fun m9 l W=>∃ i:Nat,i≤n∧m9=n - i∧l=[(0,.slice a n ca),(1,.slice b m cb),(5,.int .i64 (i:Int))]∧xs.take i=ys.take i∧St w [] [] [] W) (n - 0) ([(0,_),(1,_),(5,_)]) ⟨rfl,rfl,rfl,trivial⟩ (⟨0,Nat.zero_le _,rfl,rfl,rfl,hS.clear⟩) ?_)))))))))
  clear hS
  rintro m9 l W ⟨i,hi,rfl,rfl,hall,hS⟩
  refine aD (aD (aH (aB rfl rfl (aB rfl rfl (bN underlying25 rfl rfl (bK rfl rfl rfl (aG (XF.thenN (bC rfl (fun hc=>?_) (fun hc=>?_))))))))))
  ·have hc14:=of_decide_eq_true hc;clear hc
   obtain ⟨b1,o1,y1,hea,hy1,hc1⟩:=hA.at1 (i:=i) (by omega)
   obtain ⟨b2,o2,y2,heb,hy2,hc2⟩:=hB.at1 (i:=i) (by omega)
   have k1:=hS.old hc1
   have k2:=hS.old hc2
   refine aS (XF.thenN (aD (aL (aD (lL (m:=9) cQ hS (by kernel_rfl) (by kernel_rfl) rfl (dB 1 rfl 0 rfl rfl (fun w hw=>bI rfl) rfl (dB 2 rfl 5 rfl rfl (fun w hw=>bI rfl) rfl ?_)))))))
   refine aZ 3 rfl (isV _) (aT _) (rgV (li:=[(17,_),(18,_)]) rfl (bO rfl) ⟨aW 0 (aM rfl rfl rfl),aW 1 (aM rfl rfl rfl),trivial⟩ (fun w hw=>cG (j:=i) (b:=b1) (o:=o1) (m:=n) (c:=ca) underlying25 sizeOf3 (by show some (Value.slice _ _ _)=_;rw [hea]) rfl rfl (by omega) rfl) (aV rfl)) ?_
   refine cD 4 rfl 19 2 rfl rfl rfl (fun w hw=>bR isAgg3 rfl ((aY hw 0).cell (Nat.zero_le _) (k1))) rfl (dB 5 rfl 1 rfl rfl (fun w hw=>bI rfl) rfl (dB 6 rfl 5 rfl rfl (fun w hw=>bI rfl) rfl ?_))
   refine aZ 7 rfl (isV _) (aT _) (rgV (li:=[(21,_),(22,_)]) rfl (bO rfl) ⟨aW 4 (aM rfl rfl rfl),aW 5 (aM rfl rfl rfl),trivial⟩ (fun w hw=>cG (j:=i) (b:=b2) (o:=o2) (m:=m) (c:=cb) underlying25 sizeOf3 (by show some (Value.slice _ _ _)=_;rw [heb]) rfl rfl (by omega) rfl) (aV rfl)) ?_
   refine cD 8 rfl 23 6 rfl rfl rfl (fun w hw=>bR isAgg3 rfl ((aY hw 0).cell (Nat.zero_le _) (k2))) rfl (aZ 9 rfl (isV _) (aT _) (rgV (li:=[(20,_),(24,_)]) rfl (bO rfl) ⟨aW 3 (aM rfl rfl rfl),aW 7 (aM rfl rfl rfl),trivial⟩ (fun w hw=>jY rfl rfl) (aV rfl)) (fM ?_))
   intro W1 hbR hS'
   clear hS;have hS:=hS';clear hS'
   refine aR (aR (aR (aR (aR (aR (aR (aR (aR (dM (XF.thenN (bC rfl (fun hc=>?_) (fun hc=>?_))))))))))))
   ·have hc25:=hc;clear hc
    refine aD (aH (aA rfl rfl (aG (XF.thenN (bH (XF.blkR (XF.thenR (XF.thenR (XF.blkR (XF.thenR (XF.res (bU results12 rfl) ?_)))))))))))
    have hne:y1≠y2:=of_decide_eq_true hc25
    exact ⟨by rw [decide_eq_false (fun h=>hne (by rw [h,hy2] at hy1;exact (Option.some.inj hy1).symm))],hS.below⟩
   ·have hc25:=hc;clear hc
    refine aS (XF.blkN (XF.thenN (aH (aB rfl rfl (bB rfl rfl (IntWalk.i64_in _ (by omega)) rfl (aA rfl rfl (aG ?_)))))))
    have hye:y1=y2:=Decidable.of_not_not (of_decide_eq_false hc25)
    exact XF.round (n - (i+1)) [(0,_),(1,_),(5,_)] (by omega) ⟨rfl,rfl,rfl,trivial⟩ ⟨i+1,by omega,rfl,rfl,tT hall hy1 hy2 hye,hS.clear⟩
  ·have hc14:=of_decide_eq_false hc;clear hc
   refine bX (XF.thenX (XF.thenX (XF.blkX (XF.thenN (aD (aH (aA rfl rfl (aG (XF.thenN (bH (XF.res (bU results12 rfl) ?_)))))))))))
   exact ⟨by rw [decide_eq_true (rT hall (by omega) (by omega))],hS.below⟩
theorem goes_50:bD prog 50=true:=by kernel_rfl
theorem tU {k:Int} (h1:0≤k) (h2:k≤9223372036854775808):IntKind.i64.wrap k=k∨IntKind.i64.wrap k < 0:=by
 rcases (by omega:k=9223372036854775808∨k≤9223372036854775807) with rfl | h
 ·right;decide
 ·left;exact IntWalk.i64_in _ (by omega)
def fU (a:NfV) (ws:List Int):Int:=if cM a≠0 then cM a else if ws.all (fun s=>inQ s a.sy)=true then 0 else 102
def AccN (a:NfV) (ws:List Int):Prop:=fZ a.ar (Hd a.ar (fun q=>(q:Int)=a.s0)) ws a.e0.toNat
theorem iS {L:List ArV} {P R:Nat→Prop} (h:∀ q,P q↔R q) (q:Nat):Hd L P q↔Hd L R q:=⟨Hd.mono fun q h1=>(h q).1 h1,Hd.mono fun q h1=>(h q).2 h1⟩
theorem fH {w:World} {a:NfV} (h:NIn w a):bT w [] (fun W=>NIn W a):=fun h9 _=>h.below h9.below
theorem rU (a:Option Addr) (n c:Nat) (xs:List Int) (y:Int) (w:World) (hA:Row w a xs) (hn:xs.length=n) (hmx:n≤9223372036854775807) :
  Calls prog 50 #[.slice a n c,.int .i64 y] w (fun e w'=>∃ j:Int,e = .returned (.int .i64 j)∧(0≤j↔y∈xs)∧Below w.heap.size w w'):=by
 refine bE (args:=[.slice a n c,.int .i64 y]) func50 rfl ntmps50 rfl ?_
 have hS:=St.start w
 refine aD (aH (aA rfl rfl (aG (XF.thenN (aD (aD (aH (aB rfl rfl (bN underlying25 rfl rfl (aB rfl rfl (aG (XF.thenN (aL (cE (fun m l W=>∃ i:Nat,i≤n∧m=n - i∧l=[(0,.slice a n c),(1,.int .i64 y),(7,.int .i64 (n:Int)),(8,.int .i64 (i:Int))]∧y∉xs.take i∧St w [] [] [] W) (n - 0) ([(0,_),(1,_),(7,_),(8,_)]) ⟨rfl,rfl,rfl,rfl,trivial⟩ (⟨0,Nat.zero_le _,rfl,rfl,by simp,hS.clear⟩) ?_))))))))))))))
 clear hS
 rintro m l W ⟨i,hi,rfl,rfl,hno,hS⟩
 refine aD (aH (bK rfl rfl rfl (aG (XF.thenN (aD (bC rfl (fun hc=>?_) (fun hc=>?_)))))))
 ·have hc9:=of_decide_eq_true hc;clear hc
  obtain ⟨b,off,z,rfl,hz,hzc⟩:=hA.at1 (show i < xs.length by omega)
  have k2:=hS.old hzc
  refine aS (XF.thenN (aD (aL (aD (aH (aB rfl rfl (aA rfl rfl (aG (XF.thenN (aD (aH (aB rfl rfl (aB rfl rfl (aB rfl rfl (aQ  underlying25 sizeOf3 rfl rfl rfl (by omega) rfl rfl (aJ isAgg3 rfl (k2) rfl (dN rfl rfl rfl (aG (XF.thenN (bC rfl (fun hc=>?_) (fun hc=>?_)))))))))))))))))))))
  ·have hc16:=of_decide_eq_true hc;clear hc
   refine aD (aH (aB rfl rfl (aA rfl rfl (aG (XF.thenN (bH (XF.blkR (XF.thenR (XF.thenR (XF.blkR (XF.thenR (XF.res (bU results50 rfl) ?_))))))))))))
   have hyz:y=z:=by simpa using hc16
   exact ⟨_,rfl,⟨fun _=>by rw [hyz];exact List.mem_of_getElem? hz,fun _=>by omega⟩,hS.below⟩
  ·have hc16:=of_decide_eq_false hc;clear hc
   refine aS (XF.blkN (XF.thenN (aH (bB rfl rfl (IntWalk.i64_in _ (by omega)) rfl (aB rfl rfl (aG ?_))))))
   have hyz:¬ y=z:=by simpa using hc16
   exact XF.round (n - (i+1)) [(0,_),(1,_),(7,_),(8,_)] (by omega) ⟨rfl,rfl,rfl,rfl,trivial⟩ ⟨i+1,by omega,rfl,rfl,by rw [List.take_add_one,hz];simp [hno,hyz],hS.clear⟩
 ·have hc9:=of_decide_eq_false hc;clear hc
  rw [List.take_of_length_le (by omega)] at hno
  refine bX (XF.thenX (XF.thenX (XF.blkX (XF.thenN (aD (aH (aA rfl rfl (aG (XF.thenN (bH (XF.res (bU results50 rfl) ?_)))))))))))
  exact ⟨_,rfl,⟨fun h=>absurd h (by decide),fun h=>absurd h hno⟩,hS.below⟩
theorem lY (a:Option Addr) (n c:Nat) (xs:List Int) (y:Int) (w:World) (hA:Row w a xs) (hn:xs.length=n) (hmx:n≤9223372036854775807) :
  Calls prog 36 #[.slice a n c,.int .i64 y] w (fun e w'=>e = .returned (.bool (decide (y∈xs)))∧Below w.heap.size w w'):=by
 refine bE (args:=[.slice a n c,.int .i64 y]) func36 rfl ntmps36 rfl ?_
 have hS:=St.start w
 refine aD (aH (aA rfl rfl (aG (XF.thenN (aD (aH (aB rfl rfl (aB rfl rfl (aU (vs:=[_,_]) goes_50 rfl (rU a n c xs y _ (hA.below hS.below) hn hmx) rfl ?_)))))))))
 rintro e W9 ⟨j,rfl,hj,hb9⟩
 refine ⟨_,rfl,?_⟩
 have hS':=hS.grow hb9;clear hS;have hS:=hS';clear hS'
 refine eF rfl rfl rfl (aA rfl rfl (aG (XF.thenN (bH (XF.res (bU results36 rfl) ?_)))))
 exact ⟨eH (decide_eq_decide.2 hj),hS.below⟩
theorem goes_43:bD prog 43=true:=by kernel_rfl
def InI (M:List ArV) (K:Int) (p:Nat) (gs az bs:List Int) (z:Nat):Prop:=(∀ y∈bs,y∈az∨∃ t∈(outs M p).take z,t.s ≠ -1∧0 < K∧y=t.q)∧(∀ y∈az,y∈bs)∧∀ t∈(outs M p).take z,t.s ≠ -1→0 < K→t.q∈bs∨0≤gs.getD t.q.toNat 0
section
variable {M L:List ArV} {K:Int} {p z:Nat} {gs az bs:List Int} {t:ArV}
theorem InI.start:InI M K p gs az az 0:=⟨fun y hy=>.inl hy,fun y hy=>hy,fun t ht=>by cases ht⟩
theorem InI.yes (h:InI M K p gs az bs z) (ht:(outs M p)[z]?=some t) (h1:t.s ≠ -1) (h2:0 < K):InI M K p gs az (bs++[t.q]) (z+1):=by
 refine ⟨fun y hy=>?_,fun y hy=>List.mem_append_left _ (h.2.1 y hy),fun t2 ht2 e1 e2=>?_⟩
 ·rw [List.take_add_one,ht]
  rcases List.mem_append.1 hy with hy | hy
  ·rcases h.1 y hy with h3 | ⟨t2,h3,h4⟩
   ·exact .inl h3
   ·exact .inr ⟨t2,List.mem_append_left _ h3,h4⟩
  ·exact .inr ⟨t,List.mem_append_right _ (by simp),h1,h2,by simpa using hy⟩
 ·rw [List.take_add_one,ht] at ht2
  rcases List.mem_append.1 ht2 with h3 | h3
  ·exact (h.2.2 t2 h3 e1 e2).imp (fun h=>List.mem_append_left _ h) id
  ·obtain rfl:t2=t:=by simpa using h3
   exact .inl (List.mem_append_right _ (by simp))
theorem InI.no (h:InI M K p gs az bs z) (ht:(outs M p)[z]?=some t) (h1:t.s ≠ -1→0 < K→0≤gs.getD t.q.toNat 0):InI M K p gs az bs (z+1):=by
 refine ⟨fun y hy=>?_,h.2.1,fun t2 ht2 e1 e2=>?_⟩
 ·rw [List.take_add_one,ht]
  rcases h.1 y hy with h3 | ⟨t2,h3,h4⟩
  ·exact .inl h3
  ·exact .inr ⟨t2,List.mem_append_left _ h3,h4⟩
 ·rw [List.take_add_one,ht] at ht2
  rcases List.mem_append.1 ht2 with h3 | h3
  ·exact h.2.2 t2 h3 e1 e2
  ·obtain rfl:t2=t:=by simpa using h3
   exact .inr (h1 e1 e2)
theorem InI.done {N n i:Nat} {fs gs az bs:List Int} {lv:List Nat} (h:InI (L.map ArV.flip) K p (gs.set p (n:Int)) az bs (outs (L.map ArV.flip) p).length) (hm:MdI L K N fs gs n lv i az) (hO:eX N K L) (hs:lv[i]?=some p) (hN:p < N) (h0:gs.getD p 0 < 0):MdI L K N fs (gs.set p (n:Int)) n lv (i+1) bs:=by
 unfold InI at h
 rw [List.take_of_length_le (Nat.le_refl _)] at h
 refine hm.new hO hs hN h0 (fun y hy=>?_) h.2.1 (fun t ht e1 e2 e3=>?_)
 ·rcases h.1 y hy with h1 | ⟨t,h1,h2,h3,h4⟩
  ·exact .inl h1
  ·obtain ⟨h5,h6⟩:=List.mem_filter.1 h1
   obtain ⟨s,hs2,rfl⟩:=List.mem_map.1 h5
   exact .inr ⟨s,hs2,of_decide_eq_true h6,h2,h3,h4⟩
 ·exact h.2.2 t.flip (List.mem_filter.2 ⟨List.mem_map_of_mem ht,decide_eq_true (show t.flip.f=_ from e1)⟩) e2 e3
end
def fV (n i:Nat):List Int:=List.replicate i (-1)++List.replicate (n - i) 0
theorem rV {n i:Nat} (h:i≤n):(fV n i).length=n:=by unfold fV;simp;omega
theorem rW {n i:Nat} (h:i < n):(fV n i).set i (-1)=fV n (i+1):=by
 unfold fV
 rw [List.set_append_right _ _ (by simp),List.length_replicate,Nat.sub_self,show n - i=(n - (i+1))+1 by omega,List.replicate_succ,List.set_cons_zero,List.replicate_succ' (n:=i),List.append_assoc]
 rfl
theorem rX {n:Nat}:fV n n=List.replicate n (-1):=by unfold fV;simp
theorem oR {n:Nat}:fV n 0=List.replicate n 0:=by unfold fV;simp
theorem nK (n s0 e0:Nat) (sy:Int) (aa:Option Addr) (al ac:Nat) (L:List ArV) (Kt:List (Nat×World)) (Ot:Own) (G:aX) (K:List (Nat×World)) (w0 w:World) (hS0:St w0 Ot G K w) (hKt:∀ q∈Kt,q∈K) (hA:bT w0 Kt (fun W=>jL W aa L)) (hl:L.length=al) (hal:al≤65536) (hn1:1≤n) (hn4:n≤4096) (hs0:s0 < n) (he0:e0 < n) (hO:eX n sy L) :
  Calls prog 37 #[.agg #[.int .i64 (n:Int),.int .i64 sy,.int .i64 (s0:Int),.int .i64 (e0:Int),.slice aa al ac]] w (fun e w'=>∃ (FB:Nat) (fs:List Int) (Kn:List (Nat×World)),e = .returned (.slice (some ⟨FB,0,none⟩) n n)∧FarOk L sy e0 n fs∧(∀ p,p < n→fs.getD p 0≤8193)∧(∀ q∈K,q∈Kn)∧St w0 ((FB,zI fs,3)::Ot) G Kn w'):=by
 refine bE (args:=[.agg #[.int .i64 (n:Int),.int .i64 sy,.int .i64 (s0:Int),.int .i64 (e0:Int),.slice aa al ac]]) func37 rfl ntmps37 rfl ?_
 have hS:=hS0
 have hflO:=flip_ok hO
 have hfll:(L.map ArV.flip).length≤65536:=by rw [List.length_map];omega
 refine aD (aH (bY (cs:=[_,_,_,_,_]) hS rfl rfl rfl fun B1 W1 hS=>aA rfl rfl (aG (XF.thenN (aD (aH (aO (vs:=[_,_,_,_,_]) isAgg24 sizeOf24 rfl (aK.own (j:=0) (m:=5) (hS.at_ 0 rfl) rfl) rfl (aU (vs:=[_]) goes_43 rfl (oN (n:Int) sy (s0:Int) (e0:Int) aa al ac L Kt _ G K w0 _ (hS.keep K (fun q hq=>by simp [hq])) hKt hA hl hal) rfl ?_))))))))
 rintro e W8 ⟨wa,wc,rfl,hS9⟩
 refine ⟨_,rfl,?_⟩
 obtain ⟨K1,k1,g1,hS1⟩:=St.rowKeepN (o:=⟨.slice wa al wc,al,(L.map ArV.flip).flatMap ArV.three⟩) hS9
 clear hS hS9;have hS:=hS1;clear hS1
 refine aU (vs:=[_]) iQ rfl (iP ⟨(n:Int),sy,(e0:Int),(s0:Int),wa,al,wc,L.map ArV.flip⟩ n sy K1 _ G K1 w0 _ hS (fun q hq=>hq) (fun h9 hk9=>⟨nE (g1 h9 hk9),by show (L.map ArV.flip).length=al;rw [List.length_map];exact hl,by show al≤_;omega⟩) rfl hn1 hn4 hal hflO) rfl ?_
 rintro e W9 ⟨RB,SB,OB,va,vc,K2,rfl,hk2,hOut,hS9⟩
 change bT w0 K2 (fun W=>iO W OB n (L.map ArV.flip) va vc) at hOut
 refine ⟨_,rfl,?_⟩
 clear hS;have hS:=hS9;clear hS9
 refine aA rfl rfl (aG (XF.thenN (aD (aH (aI (o':=0) cW rfl rfl rfl (aJ isAgg3 rfl (aF (hS.at_ 2 rfl) rfl) rfl ?_))))))
 refine lJ (m:=n) (cs:=zI (fV n 0)) hS underlying25 jH rfl rfl rfl (by omega) (by omega) (by rw [oR];exact madeI n) (by show (8:Int) * _≤_;omega) (by omega) rfl fun B2 W2 hS=>?_
 refine aA rfl rfl (aG (XF.thenN (aD (aD ?_))))
 obtain ⟨FB,hFB⟩:∃ FB,FB=B2:=⟨_,rfl⟩
 rw [← hFB] at hS ⊢
 refine aH (aB rfl rfl (bN underlying25 rfl rfl (aB rfl rfl (aG (XF.thenN (aL (cE (fun m l W=>∃ (i:Nat),i≤n∧m=n - i∧l=[(1,.pointer (some ⟨B1,0,none⟩)),(3,.pointer (some ⟨RB,0,none⟩)),(4,.slice (some ⟨FB,0,none⟩) n n),(20,.int .i64 (n:Int)),(21,.int .i64 (i:Int))]∧St w0 ((FB,zI (fV n i),3)::(RB,[.slice (some ⟨OB,0,none⟩) n n,.slice (some ⟨SB,0,none⟩) n n,.int .i64 0],73)::(SB,zI (List.replicate n 0),3)::(B1,[.int .i64 (n:Int),.int .i64 sy,.int .i64 (s0:Int),.int .i64 (e0:Int),.slice aa al ac],24)::Ot) G K2 W) (n - 0) ([(1,_),(3,_),(4,_),(20,_),(21,_)]) ⟨rfl,rfl,rfl,rfl,rfl,trivial⟩ (⟨0,Nat.zero_le _,rfl,rfl,hS.keep K2 (fun q hq=>by simp [hq])⟩) ?_)))))))
 clear hS
 rintro m l W ⟨i,hi,rfl,rfl,hS⟩
 refine aD (aH (bK rfl rfl rfl (aG (XF.thenN (aD (bC rfl (fun hc=>?_) (fun hc=>?_)))))))
 ·have hc22:=of_decide_eq_true hc;clear hc
  refine aS (XF.thenN (aD (aL (aD (aH (aB rfl rfl (aA rfl rfl (aG (XF.thenN (aH (aB rfl rfl (aB rfl rfl (aQ (j:=i) underlying25 sizeOf3 rfl rfl (rfl) (by omega) rfl rfl ?_)))))))))))))
  refine bV (i:=0) (cs':=zI (fV n (i+1))) (O':=((FB,_,_)::_::_::_::Ot)) hS sizeOf3 rfl rfl rfl rfl (Nat.ble_eq_true_of_le (by rw [iA,rV (by omega)];omega)) (by rw [oI,rW (by omega)]) rfl fun W94 hS=>?_
  refine aG (XF.blkN (XF.thenN (aH (bB rfl rfl (IntWalk.i64_in _ (by omega)) rfl (aB rfl rfl (aG ?_))))))
  exact XF.round (n - (i+1)) [(1,_),(3,_),(4,_),(20,_),(21,_)] (by omega) ⟨rfl,rfl,rfl,rfl,rfl,trivial⟩ ⟨i+1,by omega,rfl,rfl,hS.keep K2 (fun q hq=>by simp [hq])⟩
 ·have hc22:=of_decide_eq_false hc;clear hc
  obtain rfl:n=i:=by omega
  rw [rX] at hS
  refine bX (XF.thenX (XF.thenX (XF.blkX (XF.thenN (aD (aH (aB rfl rfl (aI (o':=3) eU rfl rfl rfl (aJ isAgg3 rfl (aF (hS.at_ 3 rfl) rfl) rfl (bP (us:=[(0,.int .i64 _)]) hS underlying25 sizeOf3 zeroValue3 rfl rfl rfl (dS _) rfl fun B3 W3 hS=>?_))))))))))
  obtain ⟨K3,k3,g3,hS2⟩:=(hS.keep K2 (fun q hq=>by simp [hq])).ownKeepN
  clear hS;have hS:=(hS2.perm (by first | exact (List.Perm.swap _ _ _).trans ((List.Perm.swap _ _ _).cons _)));clear hS2
  refine aU (vs:=[_,_]) fP rfl (eJ n (L.map ArV.flip) OB va vc RB SB 0 1 (List.replicate n 0) (some ⟨B3,0,none⟩) 1 1 [(e0:Int)] K3 _ G K3 w0 _ hS (fun q hq=>hq) (hOut.moreN k3) (fun h9 hk9=>.inr ⟨_,0,rfl,fun j hj=>by obtain rfl:j=0:=(by simpa using hj);exact aF (g3 h9 hk9) rfl⟩) rfl (by decide) (fun y hy=>(by obtain rfl:y=(e0:Int):=(by simpa using hy);omega)) (kT hflO) hfll (by simp) (by decide) (jB (by decide)) hn4) rfl ?_
  rintro e W9 ⟨lv1,wa1,wc1,ss1,K4,hH1,rfl,hle1,hsl1,hsf1,hk4,hR1,hS9⟩
  refine ⟨_,rfl,?_⟩
  clear hS;have hS:=hS9.perm (by first | exact ((List.Perm.swap _ _ _).cons _).trans (List.Perm.swap _ _ _));clear hS9
  refine aA rfl rfl (aG (XF.thenN (aD (aD (aH (aA rfl rfl (aG (XF.thenN (aL ?_)))))))))
  refine cE (fun m l W=>∃ (c:Nat) (fs:List Int) (lv:List Nat) (la:Option Addr) (lc:Nat) (ss:List Int) (Kk:List (Nat×World)),m=lvM fs lv∧l=[(1,.pointer (some ⟨B1,0,none⟩)),(3,.pointer (some ⟨RB,0,none⟩)),(4,.slice (some ⟨FB,0,none⟩) n n),(6,.slice la lv.length lc),(7,.int .i64 (c:Int))]∧LvI L sy e0 n fs c lv∧c+lvM fs lv≤2 * n+1∧lv.length≤n∧ss.length=n∧(∀ y∈ss,0≤y∧y≤(c:Int)+1)∧(∀ q∈K2,q∈Kk)∧bT w0 Kk (fun W=>Row W la (nI lv))∧St w0 ((FB,zI fs,3)::(RB,[.slice (some ⟨OB,0,none⟩) n n,.slice (some ⟨SB,0,none⟩) n n,.int .i64 ((c:Int)+1)],73)::(SB,zI ss,3)::(B1,[.int .i64 (n:Int),.int .i64 sy,.int .i64 (s0:Int),.int .i64 (e0:Int),.slice aa al ac],24)::Ot) G Kk W) (_) ([(1,_),(3,_),(4,_),(6,_),(7,_)]) ⟨rfl,rfl,rfl,rfl,rfl,trivial⟩ (⟨0,List.replicate n (-1),lv1,wa1,wc1,ss1,K4,rfl,rfl,LvI.start he0 hO (fun q=>by rw [hH1.at_];exact iS (fun q=>by simp) q),by have:=uN_le (fs:=List.replicate n (-1));rw [List.length_replicate] at this;unfold lvM;split<;>omega,hle1,hsl1,fun y hy=>(hsf1 y hy).elim (fun h=>by rw [List.eq_of_mem_replicate h];decide) (fun h=>by rw [h];decide),fun q hq=>hk4 q (k3 q hq),hR1,hS.keep K4 (fun q hq=>by simp [hq])⟩) ?_
  clear hS
  rintro m l W ⟨c,fs,lv,la,lc,ss,Kk,rfl,rfl,hLv,hcm,hll,hsl,hss,hkk,hRl,hS⟩
  refine aD (aD (aH (aB rfl rfl (bN underlying25 rfl rfl (dU rfl rfl rfl (aG (XF.thenN (bC rfl (fun hc=>?_) (fun hc=>?_)))))))))
  ·have hc35:=of_decide_eq_true hc;clear hc
   refine aS (XF.thenN (aD (aL (aD (aH (aA rfl rfl (aG (XF.thenN (aD (aD ?_))))))))))
   have hlv:=LvI.neg hLv
   have hS':=hS.newG 3 1;clear hS;have hS:=hS';clear hS'
   refine aH (aB rfl rfl (bN underlying25 rfl rfl (aB rfl rfl (aG (XF.thenN (aL (cE (fun m l W=>∃ (i ml:Nat) (wa9:Option Addr) (wc9:Nat) (az gs:List Int),i≤lv.length∧m=lv.length - i∧l=[(1,.pointer (some ⟨B1,0,none⟩)),(3,.pointer (some ⟨RB,0,none⟩)),(4,.slice (some ⟨FB,0,none⟩) n n),(7,.int .i64 (c:Int)),(8,.slice wa9 ml wc9),(38,.slice la lv.length lc),(39,.int .i64 (lv.length:Int)),(40,.int .i64 (i:Int))]∧az.length=ml∧ml≤i * 65536∧MdI L sy n fs gs c lv i az∧St w0 ((FB,zI gs,3)::(RB,[.slice (some ⟨OB,0,none⟩) n n,.slice (some ⟨SB,0,none⟩) n n,.int .i64 ((c:Int)+1)],73)::(SB,zI ss,3)::(B1,[.int .i64 (n:Int),.int .i64 sy,.int .i64 (s0:Int),.int .i64 (e0:Int),.slice aa al ac],24)::Ot) (⟨.slice wa9 ml wc9,ml,zI (az),3,1⟩::G) Kk W) (lv.length - 0) ([(1,_),(3,_),(4,_),(7,_),(8,_),(38,_),(39,_),(40,_)]) ⟨rfl,rfl,rfl,rfl,rfl,rfl,rfl,rfl,trivial⟩ (⟨0,0,none,0,[],fs,Nat.zero_le _,rfl,rfl,rfl,by omega,MdI.start hLv.len hlv,hS.keep Kk (fun q hq=>by simp [hq])⟩) ?_)))))))
   clear hS
   rintro m l W ⟨i,ml,wa9,wc9,az,gs,hi,rfl,rfl,hal9,hml,hmd,hS⟩
   refine aD (aH (bK rfl rfl rfl (aG (XF.thenN (aD (bC rfl (fun hc=>?_) (fun hc=>?_)))))))
   ·have hc41:=of_decide_eq_true hc;clear hc
    obtain ⟨p,hp⟩:∃ p,lv[i]?=some p:=⟨_,List.getElem?_eq_getElem (by omega)⟩
    have hpn:=(hLv.lev p (List.mem_of_getElem? hp)).1
    obtain ⟨b,off,y,hla,hy,hyc⟩:=(hRl (hS.keep Kk (fun q hq=>by simp [hq])) (fun q hq=>hq)).at1 (show i < (nI lv).length by rw [eG];omega)
    obtain rfl:y=(p:Int):=by unfold nI at hy;rw [List.getElem?_map,hp] at hy;exact (Option.some.inj hy).symm
    obtain ⟨hoc,_⟩:=hOut (hS.keep Kk (fun q hq=>by simp [hq])) hkk p hpn
    have hol9:(outs (L.map ArV.flip) p).length≤65536:=Nat.le_trans (List.length_filter_le _ _) hfll
    have hgl:=hmd.len
    refine aS (XF.thenN (aD (aL (aD (aH ?_)))))
    refine aQ (j:=i) (b:=b) (o:=off) (m:=lv.length) (c:=lc) underlying25 sizeOf3 (by show some (Value.slice _ _ _)=_;rw [hla]) rfl rfl (by omega) rfl rfl ?_
    refine aJ isAgg3 rfl (hyc) rfl (aA rfl rfl (aG (XF.thenN (aD (aD (aH (aB rfl rfl (aB rfl rfl (aQ (j:=p) underlying25 sizeOf3 rfl rfl (rfl) (by omega) rfl rfl (aJ isAgg3 rfl (aF (hS.at_ 0 rfl) (jI (by omega))) rfl (eF rfl rfl rfl (aG (XF.thenN (bC rfl (fun hc=>?_) (fun hc=>?_)))))))))))))))
    ·have hc48:=of_decide_eq_true hc;clear hc
     refine bX (XF.thenX (XF.blkX (XF.thenN (aH (bB rfl rfl (IntWalk.i64_in _ (by omega)) rfl (aB rfl rfl (aG ?_)))))))
     have h0:0≤gs.getD p 0:=by simpa using hc48
     exact XF.round (lv.length - (i+1)) [(1,_),(3,_),(4,_),(7,_),(8,_),(38,_),(39,_),(40,_)] (by omega) ⟨rfl,rfl,rfl,rfl,rfl,rfl,rfl,rfl,trivial⟩ ⟨i+1,ml,wa9,wc9,az,gs,by omega,rfl,rfl,hal9,Nat.le_trans hml (Nat.mul_le_mul_right _ (Nat.le_succ _)),hmd.old hp hpn h0,hS.keep Kk (fun q hq=>by simp [hq])⟩
    ·have hc48:=of_decide_eq_false hc;clear hc
     have h0:gs.getD p 0 < 0:=Int.not_le.1 (by simpa using hc48)
     refine aS (XF.thenN (aD (aH (aB rfl rfl (aB rfl rfl (aB rfl rfl (aQ (j:=p) underlying25 sizeOf3 rfl rfl (rfl) (by omega) rfl rfl ?_)))))))
     refine bV (i:=0) (cs':=zI (gs.set p (c:Int))) (O':=((FB,_,_)::_::_::_::Ot)) hS sizeOf3 rfl rfl rfl rfl (Nat.ble_eq_true_of_le (by rw [iA];omega)) oI rfl fun W94 hS=>?_
     have hoc2:=(hOut (hS.keep Kk (fun q hq=>by simp [hq])) hkk p hpn).1
     refine aG (XF.thenN (aD (aH (aB rfl rfl (bJ rfl rfl (aI (o':=0) gQ rfl rfl rfl (aJ isAgg71 rfl (aF (hS.at_ 1 rfl) rfl) rfl (aB rfl rfl (aQ (j:=p) (b:=OB) (o:=0) (m:=n) (c:=n) underlying71 sizeOf22 rfl rfl rfl (by omega) rfl rfl (aJ isAgg22 rfl (hoc2) rfl (bN underlying22 rfl rfl (aB rfl rfl (aG (XF.thenN (aL (cE (fun m l W=>∃ (z ml:Nat) (wa9:Option Addr) (wc9:Nat) (bs:List Int),z≤(outs (L.map ArV.flip) p).length∧m=(outs (L.map ArV.flip) p).length - z∧l=[(1,.pointer (some ⟨B1,0,none⟩)),(3,.pointer (some ⟨RB,0,none⟩)),(4,.slice (some ⟨FB,0,none⟩) n n),(7,.int .i64 (c:Int)),(8,.slice wa9 ml wc9),(38,.slice la lv.length lc),(39,.int .i64 (lv.length:Int)),(40,.int .i64 (i:Int)),(59,.slice (va p) (outs (L.map ArV.flip) p).length (vc p)),(60,.int .i64 ((outs (L.map ArV.flip) p).length:Int)),(61,.int .i64 (z:Int))]∧bs.length=ml∧ml≤i * 65536+z∧InI (L.map ArV.flip) sy p (gs.set p (c:Int)) az bs z∧St w0 ((FB,zI (gs.set p (c:Int)),3)::(RB,[.slice (some ⟨OB,0,none⟩) n n,.slice (some ⟨SB,0,none⟩) n n,.int .i64 ((c:Int)+1)],73)::(SB,zI ss,3)::(B1,[.int .i64 (n:Int),.int .i64 sy,.int .i64 (s0:Int),.int .i64 (e0:Int),.slice aa al ac],24)::Ot) (⟨.slice wa9 ml wc9,ml,zI (bs),3,1⟩::G) Kk W) ((outs (L.map ArV.flip) p).length - 0) ([(1,_),(3,_),(4,_),(7,_),(8,_),(38,_),(39,_),(40,_),(59,_),(60,_),(61,_)]) ⟨rfl,rfl,rfl,rfl,rfl,rfl,rfl,rfl,rfl,rfl,rfl,trivial⟩ (⟨0,ml,wa9,wc9,az,Nat.zero_le _,rfl,rfl,hal9,Nat.le_trans hml (Nat.le_add_right _ _),InI.start,hS.keep Kk (fun q hq=>by simp [hq])⟩) ?_))))))))))))))))
     clear hS
     clear hml hal9 hoc hoc2 hyc hy
     rintro m l W ⟨z,ml,wa9,wc9,bs,hz,rfl,rfl,hbl,hml,hin,hS⟩
     have hib:i * 65536≤4096 * 65536:=Nat.mul_le_mul_right _ (by omega)
     refine aD (aH (bK rfl rfl rfl (aG (XF.thenN (aD (bC rfl (fun hc=>?_) (fun hc=>?_)))))))
     ·have hc62:=of_decide_eq_true hc;clear hc
      obtain ⟨t,ht⟩:∃ t,(outs (L.map ArV.flip) p)[z]?=some t:=⟨_,List.getElem?_eq_getElem (by omega)⟩
      obtain ⟨b,off,haa,hcs⟩:=(hOut (hS.keep Kk (fun q hq=>by simp [hq])) hkk p hpn).2 z t ht
      have k1:=hcs
      have htm:=(List.mem_filter.1 (List.mem_of_getElem? ht)).1
      obtain ⟨hq0,hq1⟩:=(hflO t htm).2.1
      obtain ⟨qn,hqn⟩:∃ k:Nat,t.q=(k:Int):=⟨t.q.toNat,by omega⟩
      have hqn2:t.q.toNat=qn:=by omega
      have hsl9:(gs.set p (c:Int)).length=n:=by rw [List.length_set];exact hgl
      refine aS (XF.thenN (aD (aL (aD (aH ?_)))))
      refine aQ (j:=z) (b:=b) (o:=off) (m:=(outs (L.map ArV.flip) p).length) (c:=vc p) underlying22 sizeOf57 (by show some (Value.slice _ _ _)=_;rw [haa]) rfl rfl (by omega) rfl rfl ?_
      refine aO (vs:=[_,_,_]) isAgg57 sizeOf57 rfl k1 rfl (bS (cs:=[_,_,_]) hS zeroValue57 rfl rfl fun B4 W4 hS=>bQ (i:=0) (vs:=[_,_,_]) (cs':=[_,_,_]) (O':=(_::_::_::_::_::Ot)) hS sizeOf57 rfl rfl rfl rfl rfl rfl rfl fun W5 hS=>aG (XF.thenN (aD (aH (aI (o':=1) dE rfl rfl rfl (aJ isAgg3 rfl (aF (hS.at_ 0 rfl) rfl) rfl (eM rfl rfl rfl (aB rfl rfl (bF (d:=68) rfl (fun hc=>?_) (fun hc=>?_))))))))))
      ·have hg68:=of_decide_eq_true hc;clear hc
       refine aC (d:=68) rfl rfl (aI (o':=1) dV rfl rfl rfl (aC (d:=68) rfl rfl (aJ isAgg3 rfl (aF (hS.at_ 4 rfl) rfl) rfl (aC (d:=68) rfl rfl (dU rfl rfl rfl (aN rfl rfl rfl (aB rfl rfl (bF (d:=73) rfl (fun hc=>?_) (fun hc=>?_)))))))))
       ·have hg73:=of_decide_eq_true hc;clear hc
        refine aC (d:=73) rfl rfl (aB rfl rfl (aC (d:=73) rfl rfl (aI (o':=2) dH rfl rfl rfl (aC (d:=73) rfl rfl (aJ isAgg3 rfl (aF (hS.at_ 0 rfl) rfl) rfl (aC (d:=73) rfl rfl (aQ (j:=qn) underlying25 sizeOf3 rfl rfl (hqn) (by omega) rfl rfl (aC (d:=73) rfl rfl (aJ isAgg3 rfl (aF (hS.at_ 1 rfl) (jI (by omega))) rfl (aC (d:=73) rfl rfl (bK rfl rfl rfl (aN rfl rfl rfl (aG (XF.thenN (bC rfl (fun hc=>?_) (fun hc=>?_))))))))))))))))
        ·have hc80:=of_decide_eq_true hc;clear hc
         refine aH (aB rfl rfl (aI (o':=2) dH rfl rfl rfl (aJ isAgg3 rfl (aF (hS.at_ 0 rfl) rfl) rfl (bP (us:=[(0,.int .i64 _)]) hS underlying25 sizeOf3 zeroValue3 rfl rfl rfl (dS _) rfl fun B6 W6 hS=>?_))))
         refine dT (i:=0) (news:=[_]) hS underlying25 jH rfl rfl (by show 0 < 1;decide) rfl rfl rfl rfl rfl (aK.own (j:=0) (m:=1) (hS.at_ 0 rfl) rfl) rfl rfl (by dsimp only;simp only [maxLen];omega) (by dsimp only;show _ * 8≤_;omega) rfl fun v7 W7 hS=>?_
         obtain ⟨wa8,wc8,e9,_⟩:=cL (hS.row 0 rfl)
         dsimp only at e9
         subst e9
         refine aA rfl rfl (aG (XF.blkN (XF.thenN (aH (bB rfl rfl (IntWalk.i64_in _ (by omega)) rfl (aB rfl rfl (aG ?_)))))))
         have hS9:=hS.tail.tail.castG (G':=(⟨.slice wa8 (ml+1) wc8,(ml+1),zI (bs++[t.q]),3,1⟩::G)) (by show GR.mk _ _ (zI bs++[Value.int .i64 _]) _ _::_=_;rw [lW])
         exact XF.round ((outs (L.map ArV.flip) p).length - (z+1)) [(1,_),(3,_),(4,_),(7,_),(8,_),(38,_),(39,_),(40,_),(59,_),(60,_),(61,_)] (by omega) ⟨rfl,rfl,rfl,rfl,rfl,rfl,rfl,rfl,rfl,rfl,rfl,trivial⟩ ⟨z+1,ml+1,wa8,wc8,bs++[t.q],by omega,rfl,rfl,by simp [hbl],by omega,hin.yes ht (by simpa using hg68) (by simpa using hg73),hS9.keep Kk (fun q hq=>by simp [hq])⟩
        ·have hc80:=of_decide_eq_false hc;clear hc
         refine aS (XF.blkN (XF.thenN (aH (bB rfl rfl (IntWalk.i64_in _ (by omega)) rfl (aB rfl rfl (aG ?_))))))
         exact XF.round ((outs (L.map ArV.flip) p).length - (z+1)) [(1,_),(3,_),(4,_),(7,_),(8,_),(38,_),(39,_),(40,_),(59,_),(60,_),(61,_)] (by omega) ⟨rfl,rfl,rfl,rfl,rfl,rfl,rfl,rfl,rfl,rfl,rfl,trivial⟩ ⟨z+1,ml,wa9,wc9,bs,by omega,rfl,rfl,hbl,by omega,hin.no ht (fun _ _=>by rw [hqn2];exact Int.not_lt.1 (by simpa using hc80)),hS.tail.keep Kk (fun q hq=>by simp [hq])⟩
       ·have hg73:=of_decide_eq_false hc;clear hc
        refine aE (d:=73) rfl rfl rfl rfl (aE (d:=73) rfl rfl rfl rfl (aE (d:=73) rfl rfl rfl rfl (aE (d:=73) rfl rfl rfl rfl (aE (d:=73) rfl rfl rfl rfl (aE (d:=73) rfl rfl rfl rfl (bA rfl rfl rfl (aG (XF.thenN (cB rfl (aS (XF.blkN (XF.thenN (aH (bB rfl rfl (IntWalk.i64_in _ (by omega)) rfl (aB rfl rfl (aG ?_))))))))))))))))
        exact XF.round ((outs (L.map ArV.flip) p).length - (z+1)) [(1,_),(3,_),(4,_),(7,_),(8,_),(38,_),(39,_),(40,_),(59,_),(60,_),(61,_)] (by omega) ⟨rfl,rfl,rfl,rfl,rfl,rfl,rfl,rfl,rfl,rfl,rfl,trivial⟩ ⟨z+1,ml,wa9,wc9,bs,by omega,rfl,rfl,hbl,by omega,hin.no ht (fun _ h9=>absurd h9 (by simpa using hg73)),hS.tail.keep Kk (fun q hq=>by simp [hq])⟩
      ·have hg68:=of_decide_eq_false hc;clear hc
       refine aE (d:=68) rfl rfl rfl rfl (aE (d:=68) rfl rfl rfl rfl (aE (d:=68) rfl rfl rfl rfl (bA rfl rfl rfl (aB rfl rfl (aE (d:=73) rfl rfl rfl rfl (aE (d:=73) rfl rfl rfl rfl (aE (d:=73) rfl rfl rfl rfl (aE (d:=73) rfl rfl rfl rfl (aE (d:=73) rfl rfl rfl rfl (aE (d:=73) rfl rfl rfl rfl (bA rfl rfl rfl (aG (XF.thenN (cB rfl (aS (XF.blkN (XF.thenN (aH (bB rfl rfl (IntWalk.i64_in _ (by omega)) rfl (aB rfl rfl (aG ?_)))))))))))))))))))))
       exact XF.round ((outs (L.map ArV.flip) p).length - (z+1)) [(1,_),(3,_),(4,_),(7,_),(8,_),(38,_),(39,_),(40,_),(59,_),(60,_),(61,_)] (by omega) ⟨rfl,rfl,rfl,rfl,rfl,rfl,rfl,rfl,rfl,rfl,rfl,trivial⟩ ⟨z+1,ml,wa9,wc9,bs,by omega,rfl,rfl,hbl,by omega,hin.no ht (fun h9 _=>absurd (by simpa using hg68) h9),hS.tail.keep Kk (fun q hq=>by simp [hq])⟩
     ·have hc62:=of_decide_eq_false hc;clear hc
      obtain rfl:z=(outs (L.map ArV.flip) p).length:=by omega
      have hmd2:=hin.done hmd hO hp hpn h0
      refine bX (XF.thenX (XF.thenX (XF.blkX (XF.blkN (XF.thenN (aH (bB rfl rfl (IntWalk.i64_in _ (by omega)) rfl (aB rfl rfl (aG ?_)))))))))
      exact XF.round (lv.length - (i+1)) [(1,_),(3,_),(4,_),(7,_),(8,_),(38,_),(39,_),(40,_)] (by omega) ⟨rfl,rfl,rfl,rfl,rfl,rfl,rfl,rfl,trivial⟩ ⟨i+1,ml,wa9,wc9,bs,gs.set p (c:Int),by omega,rfl,rfl,hbl,by omega,hmd2,hS.keep Kk (fun q hq=>by simp [hq])⟩
   ·have hc41:=of_decide_eq_false hc;clear hc
    obtain rfl:i=lv.length:=by omega
    have hib:lv.length * 65536≤4096 * 65536:=Nat.mul_le_mul_right _ (by omega)
    have hc9:c≤8193:=by omega
    obtain ⟨K5,k5,g5,hS1⟩:=St.rowKeepN (o:=⟨.slice wa9 ml wc9,ml,zI az⟩) (hS.keep Kk (fun q hq=>by simp [hq]))
    clear hS;have hS:=hS1;clear hS1
    refine bX (XF.thenX (XF.thenX (XF.blkX (XF.thenN (aH (aB rfl rfl (aB rfl rfl ?_)))))))
    have hS2:=(hS.keep K5 (fun q hq=>by simp [hq])).perm ((List.Perm.swap _ _ _).trans ((List.Perm.swap _ _ _).cons _))
    clear hS;have hS:=hS2;clear hS2
    refine aU (vs:=[_,_]) fP rfl (eJ n (L.map ArV.flip) OB va vc RB SB ((c:Int)+1) ((c:Int)+2) ss wa9 ml wc9 az K5 _ G K5 w0 _ hS (fun q hq=>hq) (hOut.moreN (fun q hq=>k5 q (hkk q hq))) (fun h9 hk9=>fO (g5 h9 hk9)) hal9 (by omega) (fun y hy=>(by obtain ⟨p,rfl,h8,_⟩:=hmd.inn y hy;omega)) (kT hflO) hfll hsl (by rw [IntWalk.i64_in _ (by omega)];omega) (fun y hy=>(by have:=hss y hy;omega)) hn4) rfl ?_
    rintro e W9 ⟨lw,wa8,wc8,ss2,K6,hH,rfl,hle2,hsl2,hsf2,hk6,hR2,hS9⟩
    refine ⟨_,rfl,?_⟩
    clear hS;have hS:=hS9.perm (((List.Perm.swap _ _ _).cons _).trans (List.Perm.swap _ _ _));clear hS9
    refine aA rfl rfl (aG (XF.blkN (XF.thenN (aH (aB rfl rfl (bB rfl rfl (IntWalk.i64_in _ (by omega)) rfl (aA rfl rfl (aG ?_))))))))
    have hlv9:lv≠[]:=by rintro rfl;simp at hc35
    have hless:=hmd.less hlv9 hH.at_
    exact XF.round (lvM gs lw) [(1,_),(3,_),(4,_),(6,_),(7,_)] hless ⟨rfl,rfl,rfl,rfl,rfl,trivial⟩ ⟨c+1,gs,lw,wa8,wc8,ss2,K6,rfl,rfl,hmd.done hLv hO hH.at_,by omega,hle2,hsl2,fun y hy=>(hsf2 y hy).elim (fun h=>by have:=hss y h;omega) (fun h=>by omega),fun q hq=>hk6 q (k5 q (hkk q hq)),hR2,hS.keep K6 (fun q hq=>by simp [hq])⟩
  ·have hc35:=of_decide_eq_false hc;clear hc
   have hl0:lv=[]:=List.eq_nil_of_length_eq_zero (by have h7:=Int.not_lt.1 (show ¬ (0:Int) < (lv.length:Int) from (by simpa using hc35));omega)
   subst hl0
   refine bX (XF.thenX (XF.thenX (XF.blkX (XF.thenN (aD (aH (aB rfl rfl (aA rfl rfl (aG (XF.thenN (bH (XF.res (bU results37 rfl) ?_))))))))))))
   have hS9:=hS.keep Kk (fun q hq=>by simp [hq])
   exact ⟨FB,fs,Kk,rfl,hLv.end_ hO,fun p hp=>(hLv.val p hp).elim (fun h=>by omega) (fun ⟨m,h1,h2,_⟩=>by omega),fun q hq=>hkk q (hk2 q (k1 q hq)),(hS9.perm (((List.Perm.swap _ _ _).trans ((List.Perm.swap _ _ _).cons _)).trans (((List.Perm.swap _ _ _).cons _).cons _))).tail.tail.tail⟩
theorem qL:bD prog 40=true:=by kernel_rfl
theorem goes_51:bD prog 51=true:=by kernel_rfl
def kpN (fs:List Int) (n:Nat) (l:List Nat):List Nat:=l.filter (fun q=>decide (fs.getD q 0=(n:Int)))
section
variable {fs:List Int} {n:Nat} {l xs:List Nat} {i j q:Nat}
theorem qM (h:∀ q∈l,fs.getD q 0=(n:Int)):kpN fs n l=l:=List.filter_eq_self.2 fun q hq=>decide_eq_true (h q hq)
theorem iT:q∈kpN fs n l↔q∈l∧fs.getD q 0=(n:Int):=by unfold kpN;rw [List.mem_filter];simp
theorem kJ (h:l[j]?=some q):kpN fs n (l.take (j+1))=kpN fs n (l.take j)++(if fs.getD q 0=(n:Int) then [q] else []):=by
 unfold kpN
 rw [List.take_add_one,h,List.filter_append]
 congr 1
 show List.filter _ [q]=_
 by_cases h1:fs.getD q 0=(n:Int)
 ·rw [if_pos h1,List.filter_cons_of_pos (by simpa using h1)];rfl
 ·rw [if_neg h1,List.filter_cons_of_neg (by simpa using h1)];rfl
structure DlI (fs:List Int) (n:Nat) (l xs:List Nat) (i j:Nat):Prop where
 len:xs.length=l.length
 lt:i < j
 le:j≤l.length
 kept:xs.take i=kpN fs n (l.take j)
 rest:xs.drop j=l.drop j
theorem DlI.start (h:l[i]?=some q) (hq:¬ fs.getD q 0=(n:Int)) (hp:∀ q∈l.take i,fs.getD q 0=(n:Int)):DlI fs n l l i (i+1) where
 len:=rfl
 lt:=Nat.lt_succ_self _
 le:=(List.getElem?_eq_some_iff.1 h).1
 kept:=by rw [kJ h,if_neg hq,qM hp,List.append_nil]
 rest:=rfl
theorem DlI.at_ (h:DlI fs n l xs i j) (hj:l[j]?=some q):xs[j]?=some q:=by
 have:=congrArg (fun z=>z[0]?) h.rest
 simp only [List.getElem?_drop,Nat.add_zero] at this
 rw [this];exact hj
theorem DlI.no (h:DlI fs n l xs i j) (hj:l[j]?=some q) (hq:¬ fs.getD q 0=(n:Int)):DlI fs n l xs i (j+1) where
 len:=h.len
 lt:=Nat.lt_succ_of_lt h.lt
 le:=(List.getElem?_eq_some_iff.1 hj).1
 kept:=by rw [kJ hj,if_neg hq,List.append_nil];exact h.kept
 rest:=by rw [← List.drop_drop,← List.drop_drop,h.rest]
theorem DlI.yes (h:DlI fs n l xs i j) (hj:l[j]?=some q) (hq:fs.getD q 0=(n:Int)):DlI fs n l (xs.set i q) (i+1) (j+1) where
 len:=by rw [List.length_set];exact h.len
 lt:=Nat.succ_lt_succ h.lt
 le:=(List.getElem?_eq_some_iff.1 hj).1
 kept:=by
  have:=h.lt
  have:=h.le
  have:=h.len
  rw [kJ hj,if_pos hq,← h.kept,List.take_add_one,List.take_set_of_le (Nat.le_refl _),List.getElem?_set_self (by omega)]
  rfl
 rest:=by
  have:=h.lt
  rw [List.drop_set_of_lt (by omega),← List.drop_drop,← List.drop_drop,h.rest]
theorem nI_set {i q:Nat}:(zI (nI xs)).set i (.int .i64 (q:Int))=zI (nI (xs.set i q)):=by unfold zI nI;rw [List.map_map,List.map_map,List.map_set];rfl
theorem nI_at {i q:Nat} (h:xs[i]?=some q):(zI (nI xs))[i]?=some (.int .i64 (q:Int)):=by unfold zI nI;rw [List.map_map,List.getElem?_map,h];rfl
theorem lZ:∀ (new cs:List Value) (j:Nat),j≤cs.length→(cA cs j new).take j=cs.take j
 | [],cs,j,_=>rfl
 | v::new,cs,j,h=>by
  simp only [cA]
  have h1:∀ (k:Nat) (cs2:List Value) (nw:List Value),j≤k→(cA cs2 k nw).take j=cs2.take j:=by
   intro k cs2 nw
   induction nw generalizing k cs2 with
   | nil=>intro _;rfl
   | cons u nw ih=>intro hk;simp only [cA];rw [ih _ _ (by omega),List.take_set_of_le hk]
  rw [h1 _ _ _ (Nat.le_succ _),List.take_set_of_le (Nat.le_refl _)]
end
theorem qN (FX LX:Nat) (fa:Option Addr) (fn fc:Nat) (fs:List Int) (left:Nat) (q:Nat) (Kt:List (Nat×World)) (Ot:Own) (G:aX) (K:List (Nat×World)) (w0 w:World) (hS0:St w0 ((FX,[.slice fa fn fc],25)::(LX,[.int .i64 ((left:Int)+1)],3)::Ot) G K w) (hKt:∀ q∈Kt,q∈K) (hFs:bT w0 Kt (fun W=>Row W fa fs)) (hfn:fs.length=fn) (hl9:left≤1000000) (hq:q < fn) :
  Calls prog 40 #[.int .i64 (q:Int),.pointer (some ⟨FX,0,none⟩),.pointer (some ⟨LX,0,none⟩)] w (fun e w'=>e = .returned (.bool (decide (¬ fs.getD q 0=(left:Int))))∧St w0 ((FX,[.slice fa fn fc],25)::(LX,[.int .i64 ((left:Int)+1)],3)::Ot) G K w'):=by
 refine bE (args:=[.int .i64 (q:Int),.pointer (some ⟨FX,0,none⟩),.pointer (some ⟨LX,0,none⟩)]) func40 rfl ntmps40 rfl ?_
 have hS:=hS0
 obtain ⟨b2,off2,y2,hfa,hy2,hyc2⟩:=(hFs hS0 hKt).at1 (show q < fs.length by omega)
 have hy3:fs.getD q 0=y2:=by rw [List.getD_eq_getElem?_getD,hy2];rfl
 subst hfa
 refine aD (aH (aA rfl rfl (aG (XF.thenN (aD (lL (m:=8) cQ hS (by kernel_rfl) (by kernel_rfl) rfl (dB 1 rfl 1 rfl rfl (fun w hw=>bR isAgg25 rfl ((aY hw 0).cell (Nat.zero_le _) (aF (hS.at_ 0 rfl) rfl))) rfl (dB 2 rfl 0 rfl rfl (fun w hw=>bI rfl) rfl (aZ 3 rfl (isV _) (aT _) (rgV (li:=[(5,_),(6,_)]) rfl (bO rfl) ⟨aW 0 (aM rfl rfl rfl),aW 1 (aM rfl rfl rfl),trivial⟩ (fun w hw=>cG (j:=q) underlying25 sizeOf3 rfl rfl (rfl) (by omega) rfl) (aV rfl)) (cD 4 rfl 7 2 rfl rfl rfl (fun w hw=>bR isAgg3 rfl ((aY hw 0).cell (Nat.zero_le _) (hyc2))) rfl (dB 5 rfl 2 rfl rfl (fun w hw=>bR isAgg3 rfl ((aY hw 0).cell (Nat.zero_le _) (aF (hS.at_ 1 rfl) rfl))) rfl (cD 6 rfl 9 4 rfl rfl rfl (fun w hw=>sS rfl rfl (IntWalk.i64_in _ (by omega))) rfl (aZ 7 rfl (isV _) (aT _) (rgV (li:=[(8,_),(10,_)]) rfl (bO rfl) ⟨aW 3 (aM rfl rfl rfl),aW 5 (aM rfl rfl rfl),trivial⟩ (fun w hw=>jY rfl rfl) (aV rfl)) (cD 8 rfl 11 6 rfl rfl rfl (fun w hw=>fB rfl) rfl (fM ?_)))))))))))))))
 intro W1 hbR hS'
 clear hS;have hS:=hS';clear hS'
 refine aR (aR (aR (aR (aR (aR (aR (aR (dM (XF.thenN (bH (XF.res (bU results40 rfl) ?_)))))))))))
 have e9:(left:Int)+1 - 1=(left:Int):=by omega
 refine ⟨?_,hS.keep K (fun q hq=>by simp [hq])⟩
 rw [hy3,e9]
theorem nIxf_is (FX LX:Nat) (fa:Option Addr) (fn fc:Nat) (fs:List Int) (left:Nat) (wa:Option Addr) (m wc:Nat) (l:List Nat) (Kt:List (Nat×World)) (Ot:Own) (G:aX) (K:List (Nat×World)) (w0 w:World) (hS0:St w0 ((FX,[.slice fa fn fc],25)::(LX,[.int .i64 ((left:Int)+1)],3)::Ot) (⟨.slice wa m wc,m,zI (nI l),3,1⟩::G) K w) (hKt:∀ q∈Kt,q∈K) (hFs:bT w0 Kt (fun W=>Row W fa fs)) (hfn:fs.length=fn) (hl9:left≤1000000) (hm:l.length=m) (hlt:∀ q∈l,q < fn) (hm4:m≤4096) :
  Calls prog 51 #[.slice wa m wc,.func (.func 40) #[] #[.pointer (some ⟨FX,0,none⟩),.pointer (some ⟨LX,0,none⟩)]] w (fun e w'=>(∃ j:Int,e = .returned (.int .i64 j)∧((j = -1∧∀ q∈l,fs.getD q 0=(left:Int))∨∃ (i q:Nat),j=(i:Int)∧l[i]?=some q∧(¬ fs.getD q 0=(left:Int))∧∀ q∈l.take i,fs.getD q 0=(left:Int)))∧St w0 ((FX,[.slice fa fn fc],25)::(LX,[.int .i64 ((left:Int)+1)],3)::Ot) (⟨.slice wa m wc,m,zI (nI l),3,1⟩::G) K w'):=by
 refine bE (args:=[.slice wa m wc,.func (.func 40) #[] #[.pointer (some ⟨FX,0,none⟩),.pointer (some ⟨LX,0,none⟩)]]) func51 rfl ntmps51 rfl ?_
 have hS:=hS0
 refine aD (aH (aA rfl rfl (aG (XF.thenN (aD (aD (aH (aB rfl rfl (bN underlying25 rfl rfl (aB rfl rfl (aG (XF.thenN (aL (cE (fun m2 l2 W=>∃ (i:Nat),i≤m∧m2=m - i∧l2=[(0,.slice wa m wc),(1,.func (.func 40) #[] #[.pointer (some ⟨FX,0,none⟩),.pointer (some ⟨LX,0,none⟩)]),(7,.int .i64 (m:Int)),(8,.int .i64 (i:Int))]∧(∀ q∈l.take i,fs.getD q 0=(left:Int))∧St w0 ((FX,[.slice fa fn fc],25)::(LX,[.int .i64 ((left:Int)+1)],3)::Ot) (⟨.slice wa m wc,m,zI (nI l),3,1⟩::G) K W) (m - 0) ([(0,_),(1,_),(7,_),(8,_)]) ⟨rfl,rfl,rfl,rfl,trivial⟩ (⟨0,Nat.zero_le _,rfl,rfl,fun q hq=>(by cases hq),hS.keep K (fun q hq=>by simp [hq])⟩) ?_))))))))))))))
 clear hS
 rintro m2 l2 W ⟨i,hi,rfl,rfl,hall,hS⟩
 refine aD (aH (bK rfl rfl rfl (aG (XF.thenN (aD (bC rfl (fun hc=>?_) (fun hc=>?_)))))))
 ·have hc9:=of_decide_eq_true hc;clear hc
  obtain ⟨q,hq⟩:∃ q,l[i]?=some q:=⟨_,List.getElem?_eq_getElem (by omega)⟩
  have hqn:=hlt q (List.mem_of_getElem? hq)
  obtain ⟨sb,rfl⟩:=iK (hS.row 0 rfl) (by omega)
  have hmc:W.cell? ⟨sb,0+i * 1,none⟩=some (.int .i64 (q:Int)):=by
   rw [Nat.zero_add,Nat.mul_one]
   exact eT (hS.row 0 rfl) (nI_at hq)
  refine aS (XF.thenN (aD (aL (aD (aH (aB rfl rfl (aA rfl rfl (aG (XF.thenN (aD (aH (aB rfl rfl (aB rfl rfl (aB rfl rfl (aQ (j:=i) (b:=sb) (o:=0) (m:=m) (c:=wc) underlying25 sizeOf3 rfl rfl rfl (by omega) rfl rfl (aJ isAgg3 rfl (hmc) rfl (iL (vs:=[_]) (caps:=[_,_]) rfl qL rfl (qN FX LX fa fn fc fs left q Kt Ot _ K w0 _ (hS.keep K (fun q hq=>by simp [hq])) hKt hFs hfn hl9 hqn) rfl ?_)))))))))))))))))
  rintro e W9 ⟨rfl,hS9⟩
  refine ⟨_,rfl,?_⟩
  clear hS;have hS:=hS9;clear hS9
  refine aG (XF.thenN (bC rfl (fun hc=>?_) (fun hc=>?_)))
  ·have hc16:=hc;clear hc
   refine aD (aH (aB rfl rfl (aA rfl rfl (aG (XF.thenN (bH (XF.blkR (XF.thenR (XF.thenR (XF.blkR (XF.thenR (XF.res (bU results51 rfl) ?_))))))))))))
   have hq9:¬ fs.getD q 0=(left:Int):=by simpa using hc16
   exact ⟨⟨(i:Int),rfl,.inr ⟨i,q,rfl,hq,hq9,hall⟩⟩,hS.keep K (fun q hq=>by simp [hq])⟩
  ·have hc16:=hc;clear hc
   refine aS (XF.blkN (XF.thenN (aH (bB rfl rfl (IntWalk.i64_in _ (by omega)) rfl (aB rfl rfl (aG ?_))))))
   have hq9:fs.getD q 0=(left:Int):=by simpa using hc16
   exact XF.round (m - (i+1)) [(0,_),(1,_),(7,_),(8,_)] (by omega) ⟨rfl,rfl,rfl,rfl,trivial⟩ ⟨i+1,by omega,rfl,rfl,fun q2 hq2=>(by
    rw [List.take_add_one,hq] at hq2
    rcases List.mem_append.1 hq2 with h9 | h9
    ·exact hall q2 h9
    ·obtain rfl:q2=q:=by simpa using h9
     exact hq9),hS.keep K (fun q hq=>by simp [hq])⟩
 ·have hc9:=of_decide_eq_false hc;clear hc
  rw [List.take_of_length_le (by omega)] at hall
  refine bX (XF.thenX (XF.thenX (XF.blkX (XF.thenN (aD (aH (aA rfl rfl (aG (XF.thenN (bH (XF.res (bU results51 rfl) ?_)))))))))))
  exact ⟨⟨-1,rfl,.inl ⟨rfl,hall⟩⟩,hS.keep K (fun q hq=>by simp [hq])⟩
theorem nDel_is (FX LX:Nat) (fa:Option Addr) (fn fc:Nat) (fs:List Int) (left:Nat) (wa:Option Addr) (m wc:Nat) (l:List Nat) (Kt:List (Nat×World)) (Ot:Own) (G:aX) (K:List (Nat×World)) (w0 w:World) (hS0:St w0 ((FX,[.slice fa fn fc],25)::(LX,[.int .i64 ((left:Int)+1)],3)::Ot) (⟨.slice wa m wc,m,zI (nI l),3,1⟩::G) K w) (hKt:∀ q∈Kt,q∈K) (hFs:bT w0 Kt (fun W=>Row W fa fs)) (hfn:fs.length=fn) (hl9:left≤1000000) (hm:l.length=m) (hlt:∀ q∈l,q < fn) (hm4:m≤4096) :
  Calls prog 39 #[.slice wa m wc,.func (.func 40) #[] #[.pointer (some ⟨FX,0,none⟩),.pointer (some ⟨LX,0,none⟩)]] w (fun e w'=>∃ (wa2:Option Addr) (wc2:Nat),e = .returned (.slice wa2 (kpN fs left l).length wc2)∧St w0 ((FX,[.slice fa fn fc],25)::(LX,[.int .i64 ((left:Int)+1)],3)::Ot) (⟨.slice wa2 (kpN fs left l).length wc2,(kpN fs left l).length,zI (nI (kpN fs left l)),3,1⟩::G) K w'):=by
 refine bE (args:=[.slice wa m wc,.func (.func 40) #[] #[.pointer (some ⟨FX,0,none⟩),.pointer (some ⟨LX,0,none⟩)]]) func39 rfl ntmps39 rfl ?_
 have hS:=hS0
 refine aD (aH (aA rfl rfl (aG (XF.thenN (aD (aH (aB rfl rfl (aB rfl rfl (aU (vs:=[_,_]) goes_51 rfl (nIxf_is FX LX fa fn fc fs left wa m wc l Kt Ot _ K w0 _ (hS.keep K (fun q hq=>by simp [hq])) hKt hFs hfn hl9 hm hlt hm4) rfl ?_)))))))))
 rintro e W9 ⟨⟨j0,rfl,hj0⟩,hS9⟩
 refine ⟨_,rfl,?_⟩
 clear hS;have hS:=hS9;clear hS9
 refine aA rfl rfl (aG (XF.thenN (aD (aD (aH (aB rfl rfl (dN rfl rfl rfl (aG (XF.thenN (bC rfl (fun hc=>?_) (fun hc=>?_)))))))))))
 ·have hc12:=of_decide_eq_true hc;clear hc
  have hk:kpN fs left l=l:=by
   rcases hj0 with ⟨_,h⟩ | ⟨i,q,h,_⟩
   ·exact qM h
   ·have h7:j0 = -1:=by simpa using hc12
    omega
  refine aD (aH (aB rfl rfl (aA rfl rfl (aG (XF.thenN (bH (XF.thenR (XF.res (bU results39 rfl) ?_))))))))
  rw [hk,hm]
  exact ⟨wa,wc,rfl,hS.keep K (fun q hq=>by simp [hq])⟩
 ·have hc12:=of_decide_eq_false hc;clear hc
  obtain ⟨i,q,rfl,hiq,hnq,hpre⟩:∃ (i q:Nat),j0=(i:Int)∧l[i]?=some q∧(¬ fs.getD q 0=(left:Int))∧∀ q∈l.take i,fs.getD q 0=(left:Int):=by
   rcases hj0 with ⟨h,_⟩ | h
   ·have h7:¬ j0 = -1:=by simpa using hc12
    exact absurd h h7
   ·exact h
  have hil:=(List.getElem?_eq_some_iff.1 hiq).1
  obtain ⟨sb,rfl⟩:=iK (hS.row 0 rfl) (by omega)
  have hdl:=DlI.start hiq hnq hpre
  refine aS (XF.thenN (aD (aD (aH (aB rfl rfl (bB rfl rfl (IntWalk.i64_in _ (by omega)) rfl (aA rfl rfl (aG (XF.thenN (aL (cE (fun m2 l2 W=>∃ (i j:Nat) (xs:List Nat),m2=m - j∧l2=[(0,.slice (some ⟨sb,0,none⟩) m wc),(1,.func (.func 40) #[] #[.pointer (some ⟨FX,0,none⟩),.pointer (some ⟨LX,0,none⟩)]),(5,.int .i64 (i:Int)),(6,.int .i64 (j:Int))]∧DlI fs left l xs i j∧St w0 ((FX,[.slice fa fn fc],25)::(LX,[.int .i64 ((left:Int)+1)],3)::Ot) (⟨.slice (some ⟨sb,0,none⟩) m wc,m,zI (nI xs),3,1⟩::G) K W) (m - (i+1)) ([(0,_),(1,_),(5,_),(6,_)]) ⟨rfl,rfl,rfl,rfl,trivial⟩ (⟨i,i+1,l,rfl,rfl,hdl,hS.keep K (fun q hq=>by simp [hq])⟩) ?_)))))))))))
  clear hS
  clear hdl hpre hnq hiq hil hj0
  rintro m2 l2 W ⟨i,j,xs,rfl,rfl,hdl,hS⟩
  have hxl:=hdl.len
  have hij:=hdl.lt
  have hjl:=hdl.le
  refine aD (aD (aH (aB rfl rfl (aB rfl rfl (bN underlying25 rfl rfl (bK rfl rfl rfl (aG (XF.thenN (bC rfl (fun hc=>?_) (fun hc=>?_))))))))))
  ·have hc19:=of_decide_eq_true hc;clear hc
   obtain ⟨q,hq⟩:∃ q,l[j]?=some q:=⟨_,List.getElem?_eq_getElem (by omega)⟩
   have hqn:=hlt q (List.mem_of_getElem? hq)
   have hmc:W.cell? ⟨sb,0+j * 1,none⟩=some (.int .i64 (q:Int)):=by
    rw [Nat.zero_add,Nat.mul_one]
    exact eT (hS.row 0 rfl) (nI_at (hdl.at_ hq))
   refine aS (XF.thenN (aD (aL (aD (aH (aB rfl rfl (aB rfl rfl (aQ (j:=j) (b:=sb) (o:=0) (m:=m) (c:=wc) underlying25 sizeOf3 rfl rfl rfl (by omega) rfl rfl (aJ isAgg3 rfl (hmc) rfl (aA rfl rfl (aG (XF.thenN (aD (aH (aB rfl rfl (aB rfl rfl (iL (vs:=[_]) (caps:=[_,_]) rfl qL rfl (qN FX LX fa fn fc fs left q Kt Ot _ K w0 _ (hS.keep K (fun q hq=>by simp [hq])) hKt hFs hfn hl9 hqn) rfl ?_)))))))))))))))))
   rintro e W9 ⟨rfl,hS9⟩
   refine ⟨_,rfl,?_⟩
   clear hS;have hS:=hS9;clear hS9
   refine cN rfl rfl (aG (XF.thenN (bC rfl (fun hc=>?_) (fun hc=>?_))))
   ·have hc29:=hc;clear hc
    refine aD (aH (aB rfl rfl (aB rfl rfl (aB rfl rfl (aQ (j:=i) (b:=sb) (o:=0) (m:=m) (c:=wc) underlying25 sizeOf3 rfl rfl rfl (by omega) (by rw [Nat.zero_add,Nat.mul_one]) rfl ?_)))))
    refine oF (xs':=zI (nI (xs.set i q))) hS sizeOf3 rfl rfl rfl (by omega) (by rw [iA,eG];omega) nI_set fun W94 hS=>?_
    refine aG (XF.thenN (aH (aB rfl rfl (bB rfl rfl (IntWalk.i64_in _ (by omega)) rfl (aA rfl rfl (aG (XF.blkN (XF.thenN (aH (aB rfl rfl (bB rfl rfl (IntWalk.i64_in _ (by omega)) rfl (aA rfl rfl (aG ?_)))))))))))))
    have hq9:fs.getD q 0=(left:Int):=by simpa using hc29
    exact XF.round (m - (j+1)) [(0,_),(1,_),(5,_),(6,_)] (by omega) ⟨rfl,rfl,rfl,rfl,trivial⟩ ⟨i+1,j+1,xs.set i q,rfl,rfl,hdl.yes hq hq9,hS.keep K (fun q hq=>by simp [hq])⟩
   ·have hc29:=hc;clear hc
    refine aS (XF.blkN (XF.thenN (aH (aB rfl rfl (bB rfl rfl (IntWalk.i64_in _ (by omega)) rfl (aA rfl rfl (aG ?_)))))))
    have hq9:¬ fs.getD q 0=(left:Int):=by simpa using hc29
    exact XF.round (m - (j+1)) [(0,_),(1,_),(5,_),(6,_)] (by omega) ⟨rfl,rfl,rfl,rfl,trivial⟩ ⟨i,j+1,xs,rfl,rfl,hdl.no hq hq9,hS.keep K (fun q hq=>by simp [hq])⟩
  ·have hc19:=of_decide_eq_false hc;clear hc
   obtain rfl:j=m:=by omega
   have hkp:xs.take i=kpN fs left l:=by rw [hdl.kept,List.take_of_length_le (by omega)]
   have hrowc:i < wc:=by
    obtain ⟨a8,c8,e8,hc8⟩:=cL (hS.row 0 rfl)
    dsimp only at e8 hc8
    injection e8 with _ _ e8
    omega
   refine bX (XF.thenX (XF.thenX (XF.blkX (XF.thenN (aD (aH (aB rfl rfl (aB rfl rfl (opV (lI (j:=i) underlying25 sizeOf3 rfl rfl rfl (by omega)) rfl ?_)))))))))
   rw [if_neg (show ¬ wc=i by omega)]
   refine oG (j:=i) (nn:=j - i) (xs':=cA (zI (nI xs)) i (List.replicate (j - i) (.int .i64 0))) hS underlying25 zeroValue3 rfl rfl (by show some (Value.slice _ _ _)=some (Value.slice _ _ _);congr 2;simp [Addr.add];try (intro h9;omega)) (by omega) (by omega) rfl fun W95 hS=>?_
   refine aG (XF.thenN (aD (aH (aB rfl rfl (aB rfl rfl (op_cut (k:=i) hS 0 underlying25 sizeOf3 rfl rfl rfl (rfl) (by omega) rfl ?_))))))
   intro hS';clear hS;have hS:=hS';clear hS'
   refine aA rfl rfl (aG (XF.thenN (bH (XF.res (bU results39 rfl) ?_))))
   have hlen9:(kpN fs left l).length=i:=by rw [← hkp,List.length_take];omega
   rw [hlen9]
   have hcs9:(cA (zI (nI xs)) i (List.replicate (j - i) (.int .i64 0))).take (i * 1)=zI (nI (kpN fs left l)):=by
    rw [Nat.mul_one,lZ _ _ _ (by rw [iA,eG];omega),← hkp]
    unfold zI nI
    rw [List.map_map,List.map_map,List.map_take]
   have hS9:=hS.castG (G':=(⟨.slice (some ⟨sb,0,none⟩) i wc,i,zI (nI (kpN fs left l)),3,1⟩::G)) (by show GR.mk _ _ _ _ _::_=_;rw [hcs9])
   exact ⟨_,_,rfl,hS9.keep K (fun q hq=>by simp [hq])⟩
def LmI (S:ArV→Prop) (x:Int):Prop:=(x = -1∧∀ t,¬ S t)∨(0≤x∧(∃ t,S t∧x=max t.s 0)∧∀ t,S t→x≤max t.s 0)
theorem LmI.congr {S R:ArV→Prop} {x:Int} (h:LmI S x) (e:∀ t,S t↔R t):LmI R x:=by
 have:S=R:=funext fun t=>propext (e t)
 rw [← this];exact h
theorem LmI.add {S:ArV→Prop} {x:Int} {t:ArV} (h:LmI S x) (hx:x < 0∨max t.s 0 < x):LmI (fun u=>S u∨u=t) (max t.s 0):=by
 refine .inr ⟨by omega,⟨t,.inr rfl,rfl⟩,fun u hu=>?_⟩
 rcases hu with hu | rfl
 ·rcases h with ⟨h1,h2⟩ | ⟨h1,h2,h3⟩
  ·exact absurd hu (h2 u)
  ·have:=h3 u hu;omega
 ·exact Int.le_refl _
theorem LmI.stay {S:ArV→Prop} {x:Int} {t:ArV} (h:LmI S x) (h0:¬ x < 0) (h1:¬ max t.s 0 < x):LmI (fun u=>S u∨u=t) x:=by
 rcases h with ⟨h2,h3⟩ | ⟨h2,⟨u,h3,h4⟩,h5⟩
 ·omega
 ·refine .inr ⟨h2,⟨u,.inl h3,h4⟩,fun v hv=>?_⟩
  rcases hv with hv | rfl
  ·exact h5 v hv
  ·omega
def LkS (L:List ArV) (fs:List Int) (n:Nat) (lp:List Nat) (i p z:Nat) (t:ArV):Prop:=((∃ p2∈lp.take i,t∈outs L p2)∨t∈(outs L p).take z)∧t.s ≠ -1∧fs.getD t.q.toNat 0=(n:Int)
section
variable {L:List ArV} {fs:List Int} {n i p z:Nat} {lp:List Nat} {t:ArV} {x:Int}
theorem rY:LmI (LkS L fs n lp 0 p 0) (-1):=.inl ⟨rfl,fun t h=>by rcases h.1 with ⟨q,h1,_⟩ | h1<;>cases h1⟩
theorem lks_any {p2:Nat} (h:LmI (LkS L fs n lp i p 0) x):LmI (LkS L fs n lp i p2 0) x:=h.congr fun t=>by unfold LkS;simp
theorem tV (h:LmI (LkS L fs n lp i p z) x) (ht:(outs L p)[z]?=some t) (h1:t.s = -1∨fs.getD t.q.toNat 0≠(n:Int)):LmI (LkS L fs n lp i p (z+1)) x:=h.congr fun u=>by
 unfold LkS
 rw [List.take_add_one,ht]
 constructor
 ·rintro ⟨h2,h3⟩
  exact ⟨h2.imp id (List.mem_append_left _),h3⟩
 ·rintro ⟨h2 | h2,h3⟩
  ·exact ⟨.inl h2,h3⟩
  ·rcases List.mem_append.1 h2 with h2 | h2
   ·exact ⟨.inr h2,h3⟩
   ·obtain rfl:u=t:=by simpa using h2
    exact h1.elim (fun h=>absurd h h3.1) (fun h=>absurd h3.2 h)
theorem mA (h:LmI (fun u=>LkS L fs n lp i p z u∨u=t) x) (ht:(outs L p)[z]?=some t) (h1:t.s ≠ -1) (h2:fs.getD t.q.toNat 0=(n:Int)):LmI (LkS L fs n lp i p (z+1)) x:=h.congr fun u=>by
 unfold LkS
 rw [List.take_add_one,ht]
 constructor
 ·rintro (⟨h2,h3⟩ | rfl)
  ·exact ⟨h2.imp id (List.mem_append_left _),h3⟩
  ·exact ⟨.inr (List.mem_append_right _ (by simp)),h1,h2⟩
 ·rintro ⟨h2 | h2,h3⟩
  ·exact .inl ⟨.inl h2,h3⟩
  ·rcases List.mem_append.1 h2 with h2 | h2
   ·exact .inl ⟨.inr h2,h3⟩
   ·exact .inr (by simpa using h2)
theorem tW (h:LmI (LkS L fs n lp i p (outs L p).length) x) (hp:lp[i]?=some p):LmI (LkS L fs n lp (i+1) 0 0) x:=h.congr fun u=>by
 unfold LkS
 rw [List.take_of_length_le (Nat.le_refl _),List.take_add_one,hp]
 constructor
 ·rintro ⟨⟨p2,h1,h2⟩ | h2,h3⟩
  ·exact ⟨.inl ⟨p2,List.mem_append_left _ h1,h2⟩,h3⟩
  ·exact ⟨.inl ⟨p,List.mem_append_right _ (by simp),h2⟩,h3⟩
 ·rintro ⟨⟨p2,h1,h2⟩ | h2,h3⟩
  ·rcases List.mem_append.1 h1 with h1 | h1
   ·exact ⟨.inl ⟨p2,h1,h2⟩,h3⟩
   ·obtain rfl:p2=p:=by simpa using h1
    exact ⟨.inr h2,h3⟩
  ·cases h2
theorem lks_end (h:LmI (LkS L fs n lp lp.length 0 0) x):LmI (fun t=>(∃ p∈lp,t∈outs L p)∧t.s ≠ -1∧fs.getD t.q.toNat 0=(n:Int)) x:=h.congr fun u=>by
 unfold LkS
 rw [List.take_of_length_le (Nat.le_refl _)]
 constructor
 ·rintro ⟨h2 | h2,h3⟩
  ·exact ⟨h2,h3⟩
  ·cases h2
 ·rintro ⟨h2,h3⟩
  exact ⟨.inl h2,h3⟩
end
theorem mB (n:Nat) (L:List ArV) (OB:Nat) (va:Nat→Option Addr) (vc:Nat→Nat) (RB SB:Nat) (r0:Int) (la:Option Addr) (ll lc:Nat) (lp:List Nat) (fa:Option Addr) (fc:Nat) (fs:List Int) (left:Nat) (Kt:List (Nat×World)) (Ot:Own) (G:aX) (K:List (Nat×World)) (w0 w:World) (hS0:St w0 ((RB,[.slice (some ⟨OB,0,none⟩) n n,.slice (some ⟨SB,0,none⟩) n n,.int .i64 r0],73)::Ot) G K w) (hKt:∀ q∈Kt,q∈K) (hOut:bT w0 Kt (fun W=>iO W OB n L va vc)) (hLs:bT w0 Kt (fun W=>Row W la (nI lp))) (hFs:bT w0 Kt (fun W=>Row W fa fs)) (hll:lp.length=ll) (hln:ll≤n) (hlt:∀ p∈lp,p < n) (hq:∀ t∈L,0≤t.q∧t.q < (n:Int)) (hLl:L.length≤65536) (hfl:fs.length=n) (hn4:n≤4096) (hl9:left≤1000000) :
  Calls prog 38 #[.pointer (some ⟨RB,0,none⟩),.slice la ll lc,.slice fa n fc,.int .i64 ((left:Int)+1)] w (fun e w'=>∃ x:Int,e = .returned (.int .i64 x)∧LmI (fun t=>(∃ p∈lp,t∈outs L p)∧t.s ≠ -1∧fs.getD t.q.toNat 0=(left:Int)) x∧St w0 ((RB,[.slice (some ⟨OB,0,none⟩) n n,.slice (some ⟨SB,0,none⟩) n n,.int .i64 r0],73)::Ot) G K w'):=by
 refine bE (args:=[.pointer (some ⟨RB,0,none⟩),.slice la ll lc,.slice fa n fc,.int .i64 ((left:Int)+1)]) func38 rfl ntmps38 rfl ?_
 have hS:=hS0
 refine aD (aH (aA rfl rfl (aG (XF.thenN (aD (aH (aA rfl rfl (aG (XF.thenN (aD (aD (aH (aB rfl rfl (bN underlying25 rfl rfl (aB rfl rfl (aG (XF.thenN (aL (cE (fun m l W=>∃ (i:Nat) (x:Int),i≤ll∧m=ll - i∧l=[(0,.pointer (some ⟨RB,0,none⟩)),(2,.slice fa n fc),(3,.int .i64 ((left:Int)+1)),(9,.int .i64 x),(15,.slice la ll lc),(16,.int .i64 (ll:Int)),(17,.int .i64 (i:Int))]∧LmI (LkS L fs left lp i 0 0) x∧St w0 ((RB,[.slice (some ⟨OB,0,none⟩) n n,.slice (some ⟨SB,0,none⟩) n n,.int .i64 r0],73)::Ot) G K W) (ll - 0) ([(0,_),(2,_),(3,_),(9,_),(15,_),(16,_),(17,_)]) ⟨rfl,rfl,rfl,rfl,rfl,rfl,rfl,trivial⟩ (⟨0,-1,Nat.zero_le _,rfl,rfl,rY,hS.keep K (fun q hq=>by simp [hq])⟩) ?_)))))))))))))))))))
 clear hS
 rintro m l W ⟨i,x,hi,rfl,rfl,hlm,hS⟩
 refine aD (aH (bK rfl rfl rfl (aG (XF.thenN (aD (bC rfl (fun hc=>?_) (fun hc=>?_)))))))
 ·have hc18:=of_decide_eq_true hc;clear hc
  obtain ⟨p,hp⟩:∃ p,lp[i]?=some p:=⟨_,List.getElem?_eq_getElem (by omega)⟩
  have hpn:=hlt p (List.mem_of_getElem? hp)
  obtain ⟨b,off,y,hla,hy,hyc⟩:=(hLs (hS.keep K (fun q hq=>by simp [hq])) hKt).at1 (show i < (nI lp).length by rw [eG];omega)
  obtain rfl:y=(p:Int):=by unfold nI at hy;rw [List.getElem?_map,hp] at hy;exact (Option.some.inj hy).symm
  obtain ⟨hoc,_⟩:=hOut (hS.keep K (fun q hq=>by simp [hq])) hKt p hpn
  have hol9:(outs L p).length≤65536:=Nat.le_trans (List.length_filter_le _ _) hLl
  have hlm2:=lks_any (p2:=p) hlm
  refine aS (XF.thenN (aD (aL (aD (aH ?_)))))
  refine aQ (j:=i) (b:=b) (o:=off) (m:=ll) (c:=lc) underlying25 sizeOf3 (by show some (Value.slice _ _ _)=_;rw [hla]) rfl rfl (by omega) rfl rfl ?_
  refine aJ isAgg3 rfl (hyc) rfl (aA rfl rfl (aG (XF.thenN (aD (aH (aB rfl rfl (bJ rfl rfl (aI (o':=0) gQ rfl rfl rfl (aJ isAgg71 rfl (aF (hS.at_ 0 rfl) rfl) rfl (aB rfl rfl (aQ (j:=p) (b:=OB) (o:=0) (m:=n) (c:=n) underlying71 sizeOf22 rfl rfl rfl (by omega) rfl rfl (aJ isAgg22 rfl (hoc) rfl (bN underlying22 rfl rfl (aB rfl rfl (aG (XF.thenN (aL (cE (fun m l W=>∃ (z:Nat) (x:Int),z≤(outs L p).length∧m=(outs L p).length - z∧l=[(0,.pointer (some ⟨RB,0,none⟩)),(2,.slice fa n fc),(3,.int .i64 ((left:Int)+1)),(9,.int .i64 x),(15,.slice la ll lc),(16,.int .i64 (ll:Int)),(17,.int .i64 (i:Int)),(27,.slice (va p) (outs L p).length (vc p)),(28,.int .i64 ((outs L p).length:Int)),(29,.int .i64 (z:Int))]∧LmI (LkS L fs left lp i p z) x∧St w0 ((RB,[.slice (some ⟨OB,0,none⟩) n n,.slice (some ⟨SB,0,none⟩) n n,.int .i64 r0],73)::Ot) G K W) ((outs L p).length - 0) ([(0,_),(2,_),(3,_),(9,_),(15,_),(16,_),(17,_),(27,_),(28,_),(29,_)]) ⟨rfl,rfl,rfl,rfl,rfl,rfl,rfl,rfl,rfl,rfl,trivial⟩ (⟨0,x,Nat.zero_le _,rfl,rfl,hlm2,hS.keep K (fun q hq=>by simp [hq])⟩) ?_))))))))))))))))))
  clear hS
  have hil:i < ll:=by omega
  clear hlm hlm2 hi hoc hyc hy
  rintro m l W ⟨z,x,hz,rfl,rfl,hlm,hS⟩
  refine aD (aH (bK rfl rfl rfl (aG (XF.thenN (aD (bC rfl (fun hc=>?_) (fun hc=>?_)))))))
  ·have hc30:=of_decide_eq_true hc;clear hc
   obtain ⟨t,ht⟩:∃ t,(outs L p)[z]?=some t:=⟨_,List.getElem?_eq_getElem (by omega)⟩
   obtain ⟨b,off,haa,hcs⟩:=(hOut (hS.keep K (fun q hq=>by simp [hq])) hKt p hpn).2 z t ht
   have k1:=hcs
   obtain ⟨hq0,hq1⟩:=hq t (List.mem_filter.1 (List.mem_of_getElem? ht)).1
   obtain ⟨qn,hqn⟩:∃ k:Nat,t.q=(k:Int):=⟨t.q.toNat,by omega⟩
   have hqn2:t.q.toNat=qn:=by omega
   refine aS (XF.thenN (aD (aL (aD (aH ?_)))))
   refine aQ (j:=z) (b:=b) (o:=off) (m:=(outs L p).length) (c:=vc p) underlying22 sizeOf57 (by show some (Value.slice _ _ _)=_;rw [haa]) rfl rfl (by omega) rfl rfl ?_
   refine aO (vs:=[_,_,_]) isAgg57 sizeOf57 rfl k1 rfl (bS (cs:=[_,_,_]) hS zeroValue57 rfl rfl fun B1 W1 hS=>bQ (i:=0) (vs:=[_,_,_]) (cs':=[_,_,_]) (O':=(_::_::Ot)) hS sizeOf57 rfl rfl rfl rfl rfl rfl rfl fun W2 hS=>aG (XF.thenN (aD (aD ?_))))
   obtain ⟨b2,off2,y2,hfa,hy2,hyc2⟩:=(hFs (hS.keep K (fun q hq=>by simp [hq])) hKt).at1 (show qn < fs.length by omega)
   have hy3:fs.getD qn 0=y2:=by rw [List.getD_eq_getElem?_getD,hy2];rfl
   refine aH (aI (o':=1) dE rfl rfl rfl (aJ isAgg3 rfl (aF (hS.at_ 0 rfl) rfl) rfl (dN rfl rfl rfl (aB rfl rfl (bF (d:=36) rfl (fun hc=>?_) (fun hc=>?_))))))
   ·have hg36:=of_decide_eq_true hc;clear hc
    refine aE (d:=36) rfl rfl rfl rfl (aE (d:=36) rfl rfl rfl rfl (aE (d:=36) rfl rfl rfl rfl (aE (d:=36) rfl rfl rfl rfl (aE (d:=36) rfl rfl rfl rfl (aE (d:=36) rfl rfl rfl rfl (aE (d:=36) rfl rfl rfl rfl (aE (d:=36) rfl rfl rfl rfl (aN rfl rfl rfl (aG (XF.thenN (cI rfl (bX (XF.thenX (XF.blkX (XF.thenN (aH (bB rfl rfl (IntWalk.i64_in _ (by omega)) rfl (aB rfl rfl (aG ?_)))))))))))))))))))
    exact XF.round ((outs L p).length - (z+1)) [(0,_),(2,_),(3,_),(9,_),(15,_),(16,_),(17,_),(27,_),(28,_),(29,_)] (by omega) ⟨rfl,rfl,rfl,rfl,rfl,rfl,rfl,rfl,rfl,rfl,trivial⟩ ⟨z+1,x,by omega,rfl,rfl,tV hlm ht (.inl (by simpa using hg36)),hS.tail.keep K (fun q hq=>by simp [hq])⟩
   ·have hg36:=of_decide_eq_false hc;clear hc
    refine aC (d:=36) rfl rfl (aB rfl rfl (aC (d:=36) rfl rfl (aI (o':=2) dH rfl rfl rfl (aC (d:=36) rfl rfl (aJ isAgg3 rfl (aF (hS.at_ 0 rfl) rfl) rfl (aC (d:=36) rfl rfl ?_))))))
    refine aQ (j:=qn) (b:=b2) (o:=off2) (m:=n) (c:=fc) underlying25 sizeOf3 (by show some (Value.slice _ _ _)=_;rw [hfa]) rfl hqn (by omega) rfl rfl ?_
    refine aC (d:=36) rfl rfl (aJ isAgg3 rfl (hyc2) rfl (aC (d:=36) rfl rfl (aB rfl rfl (aC (d:=36) rfl rfl (lH rfl rfl (IntWalk.i64_in _ (by omega)) rfl (aC (d:=36) rfl rfl (eM rfl rfl rfl (bA rfl rfl rfl (aG (XF.thenN (bC rfl (fun hc=>?_) (fun hc=>?_))))))))))))
    ·have hc45:=of_decide_eq_true hc;clear hc
     refine bX (XF.thenX (XF.blkX (XF.thenN (aH (bB rfl rfl (IntWalk.i64_in _ (by omega)) rfl (aB rfl rfl (aG ?_)))))))
     exact XF.round ((outs L p).length - (z+1)) [(0,_),(2,_),(3,_),(9,_),(15,_),(16,_),(17,_),(27,_),(28,_),(29,_)] (by omega) ⟨rfl,rfl,rfl,rfl,rfl,rfl,rfl,rfl,rfl,rfl,trivial⟩ ⟨z+1,x,by omega,rfl,rfl,tV hlm ht (.inr (by rw [hqn2,hy3];simpa using hc45)),hS.tail.keep K (fun q hq=>by simp [hq])⟩
    ·have hc45:=of_decide_eq_false hc;clear hc
     have hs1:t.s ≠ -1:=by simpa using hg36
     have hs2:fs.getD t.q.toNat 0=(left:Int):=by rw [hqn2,hy3];simpa using hc45
     refine aS (XF.thenN (aD (aH (aI (o':=1) dE rfl rfl rfl (aJ isAgg3 rfl (aF (hS.at_ 0 rfl) rfl) rfl (op_max rfl rfl rfl (aA rfl rfl (aG (XF.thenN (aD (aH (aB rfl rfl (bK rfl rfl rfl (aB rfl rfl (bF (d:=51) rfl (fun hc=>?_) (fun hc=>?_))))))))))))))))
     ·have hg51:=of_decide_eq_true hc;clear hc
      refine aE (d:=51) rfl rfl rfl rfl (aE (d:=51) rfl rfl rfl rfl (aE (d:=51) rfl rfl rfl rfl (aN rfl rfl rfl (aG (XF.thenN (cI rfl (aH (aB rfl rfl (aA rfl rfl (aG (XF.blkN (XF.thenN (aH (bB rfl rfl (IntWalk.i64_in _ (by omega)) rfl (aB rfl rfl (aG ?_))))))))))))))))
      exact XF.round ((outs L p).length - (z+1)) [(0,_),(2,_),(3,_),(9,_),(15,_),(16,_),(17,_),(27,_),(28,_),(29,_)] (by omega) ⟨rfl,rfl,rfl,rfl,rfl,rfl,rfl,rfl,rfl,rfl,trivial⟩ ⟨z+1,max t.s 0,by omega,rfl,rfl,mA (hlm.add (.inl (by simpa using hg51))) ht hs1 hs2,hS.tail.keep K (fun q hq=>by simp [hq])⟩
     ·have hg51:=of_decide_eq_false hc;clear hc
      refine aC (d:=51) rfl rfl (aB rfl rfl (aC (d:=51) rfl rfl (aB rfl rfl (aC (d:=51) rfl rfl (bK rfl rfl rfl (bA rfl rfl rfl (aG (XF.thenN (bC rfl (fun hc=>?_) (fun hc=>?_))))))))))
      ·have hc55:=of_decide_eq_true hc;clear hc
       refine aH (aB rfl rfl (aA rfl rfl (aG (XF.blkN (XF.thenN (aH (bB rfl rfl (IntWalk.i64_in _ (by omega)) rfl (aB rfl rfl (aG ?_)))))))))
       exact XF.round ((outs L p).length - (z+1)) [(0,_),(2,_),(3,_),(9,_),(15,_),(16,_),(17,_),(27,_),(28,_),(29,_)] (by omega) ⟨rfl,rfl,rfl,rfl,rfl,rfl,rfl,rfl,rfl,rfl,trivial⟩ ⟨z+1,max t.s 0,by omega,rfl,rfl,mA (hlm.add (.inr (by simpa using hc55))) ht hs1 hs2,hS.tail.keep K (fun q hq=>by simp [hq])⟩
      ·have hc55:=of_decide_eq_false hc;clear hc
       refine aS (XF.blkN (XF.thenN (aH (bB rfl rfl (IntWalk.i64_in _ (by omega)) rfl (aB rfl rfl (aG ?_))))))
       exact XF.round ((outs L p).length - (z+1)) [(0,_),(2,_),(3,_),(9,_),(15,_),(16,_),(17,_),(27,_),(28,_),(29,_)] (by omega) ⟨rfl,rfl,rfl,rfl,rfl,rfl,rfl,rfl,rfl,rfl,trivial⟩ ⟨z+1,x,by omega,rfl,rfl,mA (hlm.stay (by simpa using hg51) (by simpa using hc55)) ht hs1 hs2,hS.tail.keep K (fun q hq=>by simp [hq])⟩
  ·have hc30:=of_decide_eq_false hc;clear hc
   obtain rfl:z=(outs L p).length:=by omega
   refine bX (XF.thenX (XF.thenX (XF.blkX (XF.blkN (XF.thenN (aH (bB rfl rfl (IntWalk.i64_in _ (by omega)) rfl (aB rfl rfl (aG ?_)))))))))
   exact XF.round (ll - (i+1)) [(0,_),(2,_),(3,_),(9,_),(15,_),(16,_),(17,_)] (by omega) ⟨rfl,rfl,rfl,rfl,rfl,rfl,rfl,trivial⟩ ⟨i+1,x,by omega,rfl,rfl,tW hlm hp,hS.keep K (fun q hq=>by simp [hq])⟩
 ·have hc18:=of_decide_eq_false hc;clear hc
  obtain rfl:i=ll:=by omega
  have hlm9:LmI (LkS L fs left lp lp.length 0 0) x:=by rw [hll];exact hlm
  refine bX (XF.thenX (XF.thenX (XF.blkX (XF.thenN (aD (aH (aB rfl rfl (aA rfl rfl (aG (XF.thenN (bH (XF.res (bU results38 rfl) ?_))))))))))))
  exact ⟨x,rfl,lks_end hlm9,hS.keep K (fun q hq=>by simp [hq])⟩
theorem goes_36:bD prog 36=true:=by kernel_rfl
theorem nL {n:Nat} {k:Int} {L:List ArV} (ho:eX n k L):∀ (w:List Int) {P:Nat→Prop},(∀ q,P q→q < n)→∀ q,fZ L P w q→q < n
 | [],_,h,q,hq=>h q hq
 | x::w,P,h,q,hq=>nL ho w (fun q h1=>mL ho (fun q h2=>by_lt ho h2) h1) q hq
theorem nM (a:NfV) (wa:Option Addr) (wl wc:Nat) (ws:List Int) (w:World) (hA0:NIn w a) (hW:Row w wa ws) (hwl:ws.length=wl) (hwm:wl≤9223372036854775807) :
  Calls prog 16 #[a.val,.slice wa wl wc] w (fun e w'=>∃ b:Bool,e = .returned (.tuple #[.bool b,.int .i64 (fU a ws)])∧(fU a ws=0→(b=true↔AccN a ws))∧(fU a ws≠0→b=false)∧Below w.heap.size w w'):=by
 refine bE (args:=[a.val,.slice wa wl wc]) func16 rfl ntmps16 rfl ?_
 have hS:=St.start w
 have hA:bT w [] (fun W=>NIn W a):=fH hA0
 refine aD (aH (bY (cs:=[_,_,_,_,_]) hS rfl rfl rfl fun B1 W1 hS=>aA rfl rfl (aA rfl rfl (aG (XF.thenN (aD (aD (aH (aO (vs:=[_,_,_,_,_]) isAgg24 sizeOf24 rfl (aK.own (j:=0) (m:=5) (hS.at_ 0 rfl) rfl) rfl (bW (vs:=[_]) hS jO rfl (jP a _ (hA0.below hS.below)) rfl fun W2 hS=>aA rfl rfl (aG (XF.thenN (aD (aH (aB rfl rfl (eM rfl rfl rfl (aG (XF.thenN (bC rfl (fun hc=>?_) (fun hc=>?_))))))))))))))))))))
 ·have hc16:=of_decide_eq_true hc;clear hc
  refine aD (aH (aB rfl rfl (aA rfl rfl (aA rfl rfl (aG (XF.thenN (bH (XF.thenR (XF.res (iE results16 rfl rfl) ?_)))))))))
  have h9:fU a ws=cM a:=by unfold fU;rw [if_pos hc16]
  exact ⟨false,by rw [h9],fun h=>absurd (h9▸h) hc16,fun _=>rfl,hS.below⟩
 ·have hc16:=of_decide_eq_false hc;clear hc
  refine aS (XF.thenN (aD (aD (aH (aB rfl rfl (bN underlying25 rfl rfl (aB rfl rfl (aG (XF.thenN (aL (cE (fun m l W=>∃ i:Nat,i≤wl∧m=wl - i∧l=[(1,.slice wa wl wc),(2,.pointer (some ⟨B1,0,none⟩)),(18,.slice wa wl wc),(19,.int .i64 (wl:Int)),(20,.int .i64 (i:Int))]∧(ws.take i).all (fun s=>inQ s a.sy)=true∧St w [(B1,a.cells,24)] [] [] W) (wl - 0) ([(1,_),(2,_),(18,_),(19,_),(20,_)]) ⟨rfl,rfl,rfl,rfl,rfl,trivial⟩ (⟨0,Nat.zero_le _,rfl,rfl,rfl,hS.clear⟩) ?_)))))))))))
  clear hS
  rintro m l W ⟨i,hi,rfl,rfl,hall,hS⟩
  refine aD (aH (bK rfl rfl rfl (aG (XF.thenN (aD (bC rfl (fun hc=>?_) (fun hc=>?_)))))))
  ·have hc21:=of_decide_eq_true hc;clear hc
   obtain ⟨b,off,y,hwa,hy,hyc⟩:=hW.at1 (show i < ws.length by omega)
   have k2:=hS.old hyc
   refine aS (XF.thenN (aD (aL (aD (aH ?_)))))
   refine aQ (j:=i) (b:=b) (o:=off) (m:=wl) (c:=wc) underlying25 sizeOf3 (by show some (Value.slice _ _ _)=_;rw [hwa]) rfl rfl (by omega) rfl rfl ?_
   refine aJ isAgg3 rfl (k2) rfl (aA rfl rfl (aG (XF.thenN (aD (aH (aO (vs:=[_,_,_,_,_]) isAgg24 sizeOf24 rfl (aK.own (j:=0) (m:=5) (hS.at_ 0 rfl) rfl) rfl (aB rfl rfl (bW (vs:=[_,_]) hS qD rfl (lA a y _) rfl fun W3 hS=>cN rfl rfl (aG (XF.thenN (bC rfl (fun hc=>?_) (fun hc=>?_))))))))))))
   ·have hc27:=hc;clear hc
    refine aD (aH (aA rfl rfl (aA rfl rfl (aG (XF.thenN (bH (XF.blkR (XF.thenR (XF.thenR (XF.blkR (XF.thenR (XF.res (iE results16 rfl rfl) ?_))))))))))))
    have h9:fU a ws=102:=by unfold fU;rw [if_neg hc16,if_neg (by rw [bZ hy (by simpa using hc27)];decide)]
    exact ⟨false,by rw [h9],fun h=>absurd (h9▸h) (by decide),fun _=>rfl,hS.below⟩
   ·have hc27:=hc;clear hc
    refine aS (XF.blkN (XF.thenN (aH (bB rfl rfl (IntWalk.i64_in _ (by omega)) rfl (aB rfl rfl (aG ?_))))))
    exact XF.round (wl - (i+1)) [(1,_),(2,_),(18,_),(19,_),(20,_)] (by omega) ⟨rfl,rfl,rfl,rfl,rfl,trivial⟩ ⟨i+1,by omega,rfl,rfl,dP hy hall (by simpa using hc27),hS.clear⟩
  ·have hc21:=of_decide_eq_false hc;clear hc
   rw [List.take_of_length_le (by omega)] at hall
   have h0:cM a=0:=Decidable.of_not_not hc16
   have hE:fU a ws=0:=by unfold fU;rw [if_neg hc16,if_pos hall]
   obtain ⟨n,k,s,e9,hn,hk,hs0,he0,hn1,hn4,hk4,hsn,hen,hal,hO⟩:=gP h0
   have hlen:=hA0.alen
   have hw1:IntKind.i64.wrap (0+1)=1:=by decide
   have hKt:∀ q∈([]:List (Nat×World)),q∈([]:List (Nat×World)):=fun q hq=>hq
   refine bX (XF.thenX (XF.thenX (XF.blkX (XF.thenN (aD (aH (aO (vs:=[_,_,_,_,_]) isAgg24 sizeOf24 rfl (aK.own (j:=0) (m:=5) (hS.at_ 0 rfl) rfl) rfl (aU (vs:=[_]) iQ rfl (iP a n (k:Int) [] _ [] [] w _ (hS.keep [] (fun q hq=>by cases hq)) hKt hA hn hn1 hn4 hal hO) rfl ?_))))))))
   rintro e W9 ⟨RB,SB,OB,va,vc,K1,rfl,hk1,hOut,hS9⟩
   refine ⟨_,rfl,?_⟩
   clear hS;have hS:=hS9;clear hS9
   refine aA rfl rfl (aG (XF.thenN (aD (aH (aB rfl rfl (aI (o':=2) dW rfl rfl rfl (aJ isAgg3 rfl (aF (hS.at_ 2 rfl) rfl) rfl (bP (us:=[(0,.int .i64 _)]) hS underlying25 sizeOf3 zeroValue3 rfl rfl rfl (dS _) rfl fun B4 W4 hS=>?_))))))))
   obtain ⟨K2,k2,g2,hS2⟩:=(hS.keep K1 (fun q hq=>by simp [hq])).ownKeepN
   clear hS;have hS:=hS2;clear hS2
   refine aU (vs:=[_,_]) fP rfl (eJ n a.ar OB va vc RB SB 0 1 (List.replicate n 0) (some ⟨B4,0,none⟩) 1 1 [a.s0] K2 _ [] K2 w _ hS (fun q hq=>hq) (hOut.moreN k2) (fun h9 hk9=>.inr ⟨_,0,rfl,fun i hi=>by obtain rfl:i=0:=(by simpa using hi);exact aF (g2 h9 hk9) rfl⟩) rfl (by decide) (fun y hy=>(by obtain rfl:y=a.s0:=(by simpa using hy);omega)) (kT hO) (by omega) (by simp) hw1 (jB (by decide)) hn4) rfl ?_
   rintro e W9 ⟨l1,wa1,wc1,ss1,K3,hH1,rfl,hle1,hsl1,hsf1,hk3,hR1,hS9⟩
   refine ⟨_,rfl,?_⟩
   clear hS;have hS:=hS9;clear hS9
   refine aA rfl rfl (aG (XF.thenN (aD (aD (aH (aB rfl rfl (bN underlying25 rfl rfl (aB rfl rfl (aG (XF.thenN (aL ?_)))))))))))
   refine cE (fun m l W=>∃ (i:Nat) (l9:List Nat) (la:Option Addr) (lc:Nat) (r0:Int) (ss:List Int) (Kk:List (Nat×World)),i≤wl∧m=wl - i∧l=[(2,.pointer (some ⟨B1,0,none⟩)),(9,.pointer (some ⟨RB,0,none⟩)),(10,.slice la l9.length lc),(36,.slice wa wl wc),(37,.int .i64 (wl:Int)),(38,.int .i64 (i:Int))]∧(∀ q:Nat,q∈l9↔fZ a.ar (Hd a.ar (fun q:Nat=>(q:Int)=a.s0)) (ws.take i) q)∧l9.length≤n∧ss.length=n∧(i < wl→r0=(i:Int)+1∧∀ y∈ss,0≤y∧y≤(i:Int)+1)∧(∀ q∈K1,q∈Kk)∧bT w Kk (fun W=>Row W la (nI l9))∧St w ((RB,[.slice (some ⟨OB,0,none⟩) n n,.slice (some ⟨SB,0,none⟩) n n,.int .i64 r0],73)::(SB,zI ss,3)::(B1,a.cells,24)::[]) [] Kk W) (wl - 0) ([(2,_),(9,_),(10,_),(36,_),(37,_),(38,_)]) ⟨rfl,rfl,rfl,rfl,rfl,rfl,trivial⟩ (⟨0,l1,wa1,wc1,1,ss1,K3,Nat.zero_le _,rfl,rfl,fun q=>(by rw [hH1.at_];exact iS (fun q=>by simp) q),hle1,hsl1,fun _=>⟨rfl,fun y hy=>(hsf1 y hy).elim (fun h=>by rw [List.eq_of_mem_replicate h];decide) (fun h=>by rw [h];decide)⟩,fun q hq=>hk3 q (k2 q hq),hR1,hS.keep K3 (fun q hq=>by simp [hq])⟩) ?_
   clear hS
   rintro m l W ⟨i,l9,la,lc,r0,ss,Kk,hi,rfl,rfl,hmem,hl9,hsl,hrr,hkk,hRl,hS⟩
   refine aD (aH (bK rfl rfl rfl (aG (XF.thenN (aD (bC rfl (fun hc=>?_) (fun hc=>?_)))))))
   ·have hc39:=of_decide_eq_true hc;clear hc
    have hrn:∀ q,fZ a.ar (Hd a.ar (fun q:Nat=>(q:Int)=a.s0)) (ws.take i) q→q < n:=nL hO _ (fun q h=>mL hO (fun q h2=>by omega) h)
    obtain ⟨b,off,y,hwa,hy,hyc⟩:=hW.at1 (show i < ws.length by omega)
    have k9:=hS.old hyc
    obtain ⟨hr0,hss⟩:=hrr (by omega)
    have hwn:=tU (k:=(i:Int)+2) (by omega) (by omega)
    obtain ⟨r,hr⟩:∃ r,IntKind.i64.wrap (r0+1)=r:=⟨_,rfl⟩
    have hr2:IntKind.i64.wrap ((i:Int)+2)=r:=by rw [← hr,hr0];congr 1
    rw [hr2] at hwn
    refine aS (XF.thenN (aD (aL (aD (aH ?_)))))
    refine aQ (j:=i) (b:=b) (o:=off) (m:=wl) (c:=wc) underlying25 sizeOf3 (by show some (Value.slice _ _ _)=_;rw [hwa]) rfl rfl (by omega) rfl rfl ?_
    refine aJ isAgg3 rfl (k9) rfl (aA rfl rfl (aG (XF.thenN (aH (aB rfl rfl (aB rfl rfl (aB rfl rfl ?_)))))))
    refine aU (vs:=[_,_,_]) lX rfl (nC n a.ar OB va vc RB SB r0 r ss la l9.length lc l9 y Kk _ [] Kk w _ (hS.keep Kk (fun q hq=>by simp [hq])) (fun q hq=>hq) (hOut.moreN hkk) hRl rfl hl9 (fun p hp=>(by
     have h7:=(hmem p).1 hp
     exact hrn p h7)) (kT hO) (by omega) hsl hr (fun z hz=>(by have:=hss z hz;omega)) hn4) rfl ?_
    rintro e W9 ⟨l2,wa2,wc2,ss2,K4,hH2,rfl,hle2,hsl2,hsf2,hk4,hR2,hS9⟩
    refine ⟨_,rfl,?_⟩
    clear hS;have hS:=hS9;clear hS9
    refine aA rfl rfl (aG (XF.blkN (XF.thenN (aH (bB rfl rfl (IntWalk.i64_in _ (by omega)) rfl (aB rfl rfl (aG ?_)))))))
    exact XF.round (wl - (i+1)) [(2,_),(9,_),(10,_),(36,_),(37,_),(38,_)] (by omega) ⟨rfl,rfl,rfl,rfl,rfl,rfl,trivial⟩ ⟨i+1,l2,wa2,wc2,r,ss2,K4,by omega,rfl,rfl,fun q=>(by
     rw [hH2.at_,List.take_add_one,hy]
     show _↔fZ a.ar _ (ws.take i++[y]) q
     rw [runNP_snoc]
     exact iS (nD hmem) q),hle2,hsl2,fun h9=>⟨by have:=hwn;have h7:=IntWalk.i64_in ((i:Int)+2) (by omega);rw [hr2] at h7;omega,fun z hz=>(by
     have h7:=IntWalk.i64_in ((i:Int)+2) (by omega)
     rw [hr2] at h7
     rcases hsf2 z hz with h8 | h8
     ·have:=hss z h8;omega
     ·omega)⟩,fun z hz=>hk4 z (hkk z hz),hR2,hS.keep K4 (fun q hq=>by simp [hq])⟩
   ·have hc39:=of_decide_eq_false hc;clear hc
    rw [List.take_of_length_le (by omega)] at hmem
    refine bX (XF.thenX (XF.thenX (XF.blkX (XF.thenN (aD (aH (aB rfl rfl (aI (o':=3) eU rfl rfl rfl (aJ isAgg3 rfl (aF (hS.at_ 2 rfl) rfl) rfl (bW (vs:=[_,_]) hS goes_36 rfl (lY la l9.length lc (nI l9) a.e0 _ (hRl (hS.keep Kk (fun q hq=>by simp [hq])) (fun q hq=>hq)) eG (by omega)) rfl fun W5 hS=>aA rfl rfl (aA rfl rfl (aG (XF.thenN (bH (XF.res (iE results16 rfl rfl) ?_)))))))))))))))
    exact ⟨_,by rw [hE],fun _=>(by
     rw [decide_eq_true_eq]
     unfold AccN
     rw [← hmem]
     unfold nI
     rw [List.mem_map]
     constructor
     ·rintro ⟨q,hq,e⟩
      rw [show a.e0.toNat=q by omega];exact hq
     ·intro h
      exact ⟨_,h,by omega⟩),fun h=>absurd hE h,hS.below⟩
theorem goes_37:bD prog 37=true:=by kernel_rfl
theorem goes_38:bD prog 38=true:=by kernel_rfl
theorem goes_39:bD prog 39=true:=by kernel_rfl
theorem kK {L:List ArV} {p:Nat} {t:ArV}:t∈outs L p↔t∈L∧t.f=(p:Int):=by unfold outs;rw [List.mem_filter];simp
theorem lm_next {L:List ArV} {K:Int} {E N n:Nat} {P:Nat→Prop} {fs:List Int} {lp:List Nat} {x:Int} (hF:FarOk L K E N fs) (hO:eX N K L) (hI:LsI L K E P (n+1)) (hA:Nrs L K E P (fun q=>q∈lp) (n+1))
  (h:LmI (fun t=>(∃ p∈lp,t∈outs L p)∧t.s ≠ -1∧fs.getD t.q.toNat 0=(n:Int)) x):0 < K∧(0≤x∧x < K)∧Nx L K E P x n∧∀ y,0≤y→Nx L K E P y n→x≤y:=by
 obtain ⟨p,r,hp,hK,⟨t,ht,e1,e2,e3⟩,hd⟩:=hI.any hA
 have hfs:∀ {t:ArV} {r:Nat},t∈L→t.q=(r:Int)→(fs.getD t.q.toNat 0=(n:Int)↔Ds L K E r n):=fun {t r} ht e=>by
  have hr:=(hO t ht).2.1.2
  rw [show t.q.toNat=r by omega]
  exact hF.ds (by omega)
 rcases h with ⟨_,h⟩ | ⟨h0,⟨t2,⟨⟨p2,hp2,ho2⟩,hs2,hf2⟩,hx⟩,hmin⟩
 ·exact absurd ⟨⟨p,hp,kK.2 ⟨ht,e1⟩⟩,e2,(hfs ht e3).2 hd⟩ (h t)
 ·obtain ⟨ht2,e4⟩:=kK.1 ho2
  have hb:=hO t2 ht2
  have hq2:t2.q=((t2.q.toNat:Nat):Int):=by omega
  refine ⟨hK,⟨h0,by omega⟩,nx_of hA.1 ⟨ht2,⟨p2,hp2,e4⟩,hs2,t2.q.toNat,hq2,(hfs ht2 hq2).1 hf2⟩ (by omega),fun y hy hn=>?_⟩
  obtain ⟨t3,⟨ht3,⟨p3,hp3,e5⟩,hs3,r3,e6,hd3⟩,hy3⟩:=hI.arc hA hK hy hn
  have:=hmin t3 ⟨⟨p3,hp3,kK.2 ⟨ht3,e5⟩⟩,hs3,(hfs ht3 e6).2 hd3⟩
  omega
def LstE (a:NfV) (ok:Bool) (l:List Int):Prop:=(cM a≠0→ok=false∧l=[])∧(cM a=0→(ok=false∧l=[]∧∀ m,¬ Rz a.ar a.sy a.e0.toNat m a.s0.toNat)∨(ok=true∧∃ m,Ds a.ar a.sy a.e0.toNat a.s0.toNat m∧LsW a.ar a.sy a.e0.toNat m (Hd a.ar (fun q=>q=a.s0.toNat)) l))
theorem tX {α:Type} {a b c d:α} {l:List α}:(a::b::c::d::l).Perm (c::d::a::b::l):=(List.perm_middle (l₁:=[a,b]) (a:=c) (l₂:=d::l)).trans ((List.perm_middle (l₁:=[a,b]) (a:=d) (l₂:=l)).cons c)
theorem perm15 {α:Type} {a b c d e:α} {l:List α}:(a::b::c::d::e::l).Perm (e::b::c::d::a::l):=(List.perm_middle (l₁:=[a,b,c,d]) (a:=e) (l₂:=l)).trans ((List.perm_middle (l₁:=[b,c,d]) (a:=a) (l₂:=l)).symm.cons e)
theorem perm31 {α:Type} {a b c d:α} {l:List α}:(a::b::c::d::l).Perm (b::c::d::a::l):=(List.perm_middle (l₁:=[b,c,d]) (a:=a) (l₂:=l)).symm
theorem mC (a:NfV) (n k s e9:Nat) (hst:a.st=(n:Int)) (hsy:a.sy=(k:Int)) (hs0:a.s0=(s:Int)) (he0:a.e0=(e9:Int)) (Kt:List (Nat×World)) (Ot:Own) (G:aX) (K:List (Nat×World)) (w0 w:World) (hS0:St w0 Ot G K w) (hKt:∀ q∈Kt,q∈K) (hA:bT w0 Kt (fun W=>NIn W a)) (hal:a.al≤65536) (hl:a.ar.length=a.al) (hn1:1≤n) (hn4:n≤4096) (hs:s < n) (he:e9 < n) (hO:eX n (k:Int) a.ar) :
  Calls prog 37 #[a.val] w (fun e w'=>∃ (FB:Nat) (fs:List Int) (Kn:List (Nat×World)),e = .returned (.slice (some ⟨FB,0,none⟩) n n)∧FarOk a.ar (k:Int) e9 n fs∧(∀ p,p < n→fs.getD p 0≤8193)∧(∀ q∈K,q∈Kn)∧St w0 ((FB,zI fs,3)::Ot) G Kn w'):=by
 obtain ⟨st,sy,s0,e0,aa,al,ac,ar⟩:=a
 dsimp only at hst hsy hs0 he0 hal hl hO
 subst hst hsy hs0 he0
 exact nK n s e9 (k:Int) aa al ac ar Kt Ot G K w0 w hS0 hKt (fun h9 hk9=>(hA h9 hk9).arow) hl hal hn1 hn4 hs he hO
theorem oS (a:NfV) (w:World) (hA0:NIn w a) :
  Calls prog 18 #[a.val] w (fun e w'=>∃ (ok:Bool) (l:List Int) (wa:Option Addr) (wc:Nat),e = .returned (.tuple #[.slice wa l.length wc,.bool ok,.int .i64 (cM a)])∧LstE a ok l∧l.length≤8193∧Row w' wa l∧Below w.heap.size w w'):=by
 refine bE (args:=[a.val]) func18 rfl ntmps18 rfl ?_
 have hS:=St.start w
 have hA:bT w [] (fun W=>NIn W a):=fH hA0
 have hlen:=hA0.alen
 refine aD (aH (bY (cs:=[_,_,_,_,_]) hS rfl rfl rfl fun B1 W1 hS=>aA rfl rfl (aA rfl rfl (aA rfl rfl (aG (XF.thenN (aD (aD (aH (aO (vs:=[_,_,_,_,_]) isAgg24 sizeOf24 rfl (aK.own (j:=0) (m:=5) (hS.at_ 0 rfl) rfl) rfl (bW (vs:=[_]) hS jO rfl (jP a _ (hA0.below hS.below)) rfl fun W2 hS=>aA rfl rfl (aG (XF.thenN (aD (aH (aB rfl rfl (eM rfl rfl rfl (aG (XF.thenN (bC rfl (fun hc=>?_) (fun hc=>?_)))))))))))))))))))))
 ·have hc15:=of_decide_eq_true hc;clear hc
  refine aD (aH (aB rfl rfl (aA rfl rfl (aA rfl rfl (aA rfl rfl (aG (XF.thenN (bH (XF.thenR (XF.res (res3 results18 rfl rfl rfl) ?_))))))))))
  exact ⟨false,[],none,0,rfl,⟨fun _=>⟨rfl,rfl⟩,fun h=>absurd h hc15⟩,Nat.zero_le _,.inl rfl,hS.below⟩
 ·have hc15:=of_decide_eq_false hc;clear hc
  have h0:cM a=0:=Decidable.of_not_not hc15
  obtain ⟨n,k,s,e9,hn,hk,hs0,he0,hn1,hn4,hk4,hsn,hen,hal,hO⟩:=gP h0
  have hw1:IntKind.i64.wrap (0+1)=1:=by decide
  have hKt:∀ q∈([]:List (Nat×World)),q∈([]:List (Nat×World)):=fun q hq=>hq
  have hs9:a.s0.toNat=s:=by omega
  have he9:a.e0.toNat=e9:=by omega
  refine aS (XF.thenN (aD (aH (aO (vs:=[_,_,_,_,_]) isAgg24 sizeOf24 rfl (aK.own (j:=0) (m:=5) (hS.at_ 0 rfl) rfl) rfl (aU (vs:=[_]) goes_37 rfl (mC a n k s e9 hn hk hs0 he0 [] _ [] [] w _ (hS.keep [] (fun q hq=>by cases hq)) hKt hA hal hlen hn1 hn4 hsn hen hO) rfl ?_)))))
  rintro e W9 ⟨FB,fs,K1,rfl,hF,hFb,hk1,hS9⟩
  refine ⟨_,rfl,?_⟩
  obtain ⟨K2,k2,gF,hS2⟩:=hS9.ownKeepN
  clear hS hS9;have hS:=hS2;clear hS2
  have hfl:=hF.len
  refine bS (cs:=[_]) hS zeroValue25 rfl rfl fun B3 W3 hS=>bV (i:=0) (cs':=[_]) (O':=[_,_]) hS sizeOf25 rfl rfl rfl rfl rfl rfl rfl fun W4 hS=>aG (XF.thenN (aD (aD ?_)))
  have hcF:=aF (gF (hS.keep K2 (fun q hq=>by simp [hq])) (fun q hq=>hq)) (jI (l:=fs) (i:=s) (by omega))
  refine aH (aJ isAgg25 rfl (aF (hS.at_ 0 rfl) rfl) rfl (aI (o':=2) dW rfl rfl rfl (aJ isAgg3 rfl (aF (hS.at_ 1 rfl) rfl) rfl (aQ (j:=s) (b:=FB) (o:=0) (m:=n) (c:=n) underlying25 sizeOf3 rfl rfl (by exact hs0) (by omega) rfl rfl (aJ isAgg3 rfl (hcF) rfl (bK rfl rfl rfl (aG (XF.thenN (bC rfl (fun hc=>?_) (fun hc=>?_))))))))))
  ·have hc24:=of_decide_eq_true hc;clear hc
   have hneg:fs.getD s 0 < 0:=by simpa using hc24
   refine aD (aH (aA rfl rfl (aA rfl rfl (aA rfl rfl (aG (XF.thenN (bH (XF.thenR (XF.res (res3 results18 rfl rfl rfl) ?_)))))))))
   exact ⟨false,[],none,0,by rw [h0];rfl,⟨fun h=>absurd h0 h,fun _=>.inl ⟨rfl,rfl,by rw [hs9,he9,hk];exact (hF.neg hsn).1 hneg⟩⟩,Nat.zero_le _,.inl rfl,hS.below⟩
  ·have hc24:=of_decide_eq_false hc;clear hc
   have hpos:0≤fs.getD s 0:=Int.not_lt.1 (by simpa using hc24)
   obtain ⟨m0,hm0⟩:∃ m0:Nat,fs.getD s 0=(m0:Int):=⟨(fs.getD s 0).toNat,by omega⟩
   have hmb:=hFb s hsn
   have hstart:=hF.start hsn hm0
   refine aS (XF.thenN (aD (aH (aO (vs:=[_,_,_,_,_]) isAgg24 sizeOf24 rfl (aK.own (j:=0) (m:=5) (hS.at_ 1 rfl) rfl) rfl (aU (vs:=[_]) iQ rfl (iP a n (k:Int) [] _ [] K2 w _ (hS.keep K2 (fun q hq=>by simp [hq])) (fun q hq=>by cases hq) hA hn hn1 hn4 hal hO) rfl ?_)))))
   rintro e W9 ⟨RB,SB,OB,va,vc,K3,rfl,hk3,hOut,hS9⟩
   refine ⟨_,rfl,?_⟩
   clear hS;have hS:=hS9;clear hS9
   refine aA rfl rfl (aG (XF.thenN (aD (aH (aB rfl rfl (aI (o':=2) dW rfl rfl rfl (aJ isAgg3 rfl (aF (hS.at_ 3 rfl) rfl) rfl (bP (us:=[(0,.int .i64 _)]) hS underlying25 sizeOf3 zeroValue3 rfl rfl rfl (dS _) rfl fun B5 W5 hS=>?_))))))))
   have hcF2:=aF (gF (hS.keep K3 (fun q hq=>by simp [hq])) (fun q hq=>hk3 q hq)) (jI (l:=fs) (i:=s) (by omega))
   obtain ⟨K4,k4,g4,hS2⟩:=(hS.keep K3 (fun q hq=>by simp [hq])).ownKeepN
   clear hS;have hS:=hS2;clear hS2
   refine aU (vs:=[_,_]) fP rfl (eJ n a.ar OB va vc RB SB 0 1 (List.replicate n 0) (some ⟨B5,0,none⟩) 1 1 [a.s0] K4 _ [] K4 w _ hS (fun q hq=>hq) (hOut.moreN k4) (fun h9 hk9=>.inr ⟨_,0,rfl,fun j hj=>by obtain rfl:j=0:=(by simpa using hj);exact aF (g4 h9 hk9) rfl⟩) rfl (by decide) (fun y hy=>(by obtain rfl:y=a.s0:=(by simpa using hy);omega)) (kT hO) (by omega) (by simp) hw1 (jB (by decide)) hn4) rfl ?_
   rintro e W9 ⟨l1,wa1,wc1,ss1,K5,hH1,rfl,hle1,hsl1,hsf1,hk5,hR1,hS9⟩
   refine ⟨_,rfl,?_⟩
   clear hS;have hS:=hS9;clear hS9
   have hmem1:∀ q,q∈l1↔Hd a.ar (fun q=>q=a.s0.toNat) q:=fun q=>(by rw [hH1.at_];exact iS (fun q=>by simp;omega) q)
   refine aA rfl rfl (aG (XF.thenN (aD (aH (aA rfl rfl (aG (XF.thenN (aD (aD ?_)))))))))
   have hS':=hS.newG 3 1;clear hS;have hS:=hS';clear hS'
   have hcF3:=aF (gF (hS.keep K5 (fun q hq=>by simp [hq])) (fun q hq=>hk5 q (k4 q (hk3 q hq)))) (jI (l:=fs) (i:=s) (by omega))
   rw [hm0] at hcF3
   refine aH (aJ isAgg25 rfl (aF (hS.at_ 2 rfl) rfl) rfl (aI (o':=2) dW rfl rfl rfl (aJ isAgg3 rfl (aF (hS.at_ 3 rfl) rfl) rfl (aQ (j:=s) (b:=FB) (o:=0) (m:=n) (c:=n) underlying25 sizeOf3 rfl rfl (by exact hs0) (by omega) rfl rfl (aJ isAgg3 rfl (hcF3) rfl (bS (cs:=[_]) hS zeroValue3 rfl rfl fun B6 W6 hS=>bV (i:=0) (cs':=[_]) (O':=[_,_,_,_,_]) hS sizeOf3 rfl rfl rfl rfl rfl rfl rfl fun W7 hS=>aG (XF.thenN (aL ?_))))))))
   refine cE (fun m l W=>∃ (left:Nat) (u:List Int) (lp:List Nat) (la:Option Addr) (lc:Nat) (wa:Option Addr) (wc LB:Nat) (ss:List Int) (Kk:List (Nat×World)),m=left+1∧l=[(1,.pointer (some ⟨B1,0,none⟩)),(6,.pointer (some ⟨B3,0,none⟩)),(7,.pointer (some ⟨RB,0,none⟩)),(8,.slice la lp.length lc),(9,.slice wa u.length wc),(10,.pointer (some ⟨LB,0,none⟩))]∧LsI a.ar (k:Int) e9 (fZ a.ar (Hd a.ar (fun q=>q=a.s0.toNat)) u) left∧Nrs a.ar (k:Int) e9 (fZ a.ar (Hd a.ar (fun q=>q=a.s0.toNat)) u) (fun q=>q∈lp) left∧(∀ w9,LsW a.ar (k:Int) e9 left (fZ a.ar (Hd a.ar (fun q=>q=a.s0.toNat)) u) w9→LsW a.ar (k:Int) e9 m0 (Hd a.ar (fun q=>q=a.s0.toNat)) (u++w9))∧u.length+left=m0∧lp.length≤n∧(∀ p∈lp,p < n)∧ss.length=n∧(∀ y∈ss,0≤y∧y≤(u.length:Int)+1)∧(∀ q∈K3,q∈Kk)∧bT w Kk (fun W=>Row W la (nI lp))∧St w ((RB,[.slice (some ⟨OB,0,none⟩) n n,.slice (some ⟨SB,0,none⟩) n n,.int .i64 ((u.length:Int)+1)],73)::(SB,zI ss,3)::(B3,[.slice (some ⟨FB,0,none⟩) n n],25)::(LB,[.int .i64 (left:Int)],3)::(B1,a.cells,24)::[]) [⟨.slice wa u.length wc,u.length,zI u,3,1⟩] Kk W) (m0+1) ([(1,_),(6,_),(7,_),(8,_),(9,_),(10,_)]) ⟨rfl,rfl,rfl,rfl,rfl,rfl,trivial⟩ (⟨m0,[],l1,wa1,wc1,none,0,_,ss1,K5,rfl,rfl,by rw [hs9];exact hstart,⟨fun q hq=>(hmem1 q).1 hq,fun q hq _=>(hmem1 q).2 hq⟩,fun w9 h=>h,by simp,hle1,fun p hp=>(mL hO (fun q hq=>by omega) ((hmem1 p).1 hp)),hsl1,fun y hy=>(hsf1 y hy).elim (fun h=>by rw [List.eq_of_mem_replicate h];decide) (fun h=>by rw [h];decide),fun q hq=>hk5 q (k4 q hq),hR1,(hS.keep K5 (fun q hq=>by simp [hq])).perm perm31⟩) ?_
   clear hS
   rintro m l W ⟨left,u,lp,la,lc,wa,wc,LB,ss,Kk,rfl,rfl,hI,hN,hcont,hlen9,hlpl,hlt,hsl,hss,hkk,hRl,hS⟩
   refine aD (aD (aH (aJ isAgg3 rfl (aF (hS.at_ 3 rfl) rfl) rfl (dU rfl rfl rfl (aG (XF.thenN (bC rfl (fun hc=>?_) (fun hc=>?_))))))))
   ·have hc38:=of_decide_eq_true hc;clear hc
    obtain ⟨lf,rfl⟩:∃ lf,left=lf+1:=⟨left - 1,by omega⟩
    refine aS (XF.thenN (aD (aL (aD (aH (aB rfl rfl (aB rfl rfl (aJ isAgg25 rfl (aF (hS.at_ 2 rfl) rfl) rfl (aJ isAgg3 rfl (aF (hS.at_ 3 rfl) rfl) rfl ?_)))))))))
    refine aU (vs:=[_,_,_,_]) goes_38 rfl (mB n a.ar OB va vc RB SB ((u.length:Int)+1) la lp.length lc lp (some ⟨FB,0,none⟩) n fs lf Kk _ _ Kk w _ (hS.keep Kk (fun q hq=>by simp [hq])) (fun q hq=>hq) (hOut.moreN hkk) hRl (fun h9 hk9=>.inr ⟨_,0,rfl,fun j hj=>aF (gF h9 (fun q hq=>hk9 q (hkk q (hk3 q hq)))) (by have h7:=jI (l:=fs) hj;rw [Nat.mul_one] at h7;exact h7)⟩) rfl hlpl hlt (kT hO) (by omega) hfl hn4 (by omega)) rfl ?_
    rintro e W9 ⟨x,rfl,hlm,hS9⟩
    refine ⟨_,rfl,?_⟩
    clear hS;have hS:=hS9;clear hS9
    obtain ⟨hK0,hx,hnx,hmin⟩:=lm_next hF hO hI hN hlm
    have hul:(u++[x]).length=u.length+1:=by simp
    refine aA rfl rfl (aG (XF.thenN (aD (aH (aB rfl rfl (aB rfl rfl (bP (us:=[(0,.int .i64 _)]) hS underlying25 sizeOf3 zeroValue3 rfl rfl rfl (dS _) rfl fun B8 W8 hS=>?_)))))))
    refine dT (i:=0) (news:=[_]) hS underlying25 jH rfl rfl (by show 0 < 1;decide) rfl rfl rfl rfl rfl (aK.own (j:=0) (m:=1) (hS.at_ 0 rfl) rfl) rfl rfl (by dsimp only;simp only [maxLen];omega) (by dsimp only;show _ * 8≤_;omega) rfl fun v9 W9 hS=>?_
    obtain ⟨wa8,wc8,e9x,_⟩:=cL (hS.row 0 rfl)
    dsimp only at e9x
    subst e9x
    have hS9:=hS.castG (G':=[⟨.slice wa8 (u.length+1) wc8,u.length+1,zI (u++[x]),3,1⟩]) (by show GR.mk _ _ (zI u++[Value.int .i64 _]) _ _::_=_;rw [lW])
    clear hS;have hS:=hS9.tail;clear hS9
    refine aA rfl rfl (aG (XF.thenN (aH (aB rfl rfl (aB rfl rfl (aB rfl rfl ?_))))))
    refine aU (vs:=[_,_,_]) lX rfl (lB n a.ar OB va vc RB SB ((u.length:Int)+1) (((u++[x]).length:Int)+1) ss la lp.length lc lp x Kk _ _ Kk w _ (hS.keep Kk (fun q hq=>by simp [hq])) (fun q hq=>hq) (hOut.moreN hkk) hRl rfl hlpl hlt (kT hO) (by omega) hsl (by rw [IntWalk.i64_in _ (by omega),hul];omega) (fun y hy=>(by have:=hss y hy;omega)) hn4) rfl ?_
    rintro e W9 ⟨l2,wa2,wc2,ss2,K6,hH2,rfl,hle2,hsl2,hsf2,hk6,hS9⟩
    refine ⟨_,rfl,?_⟩
    clear hS;have hS:=hS9;clear hS9
    have hl2n:∀ q∈l2,q < n:=fun q hq=>mL hO (fun q hq=>by_lt hO hq) ((hH2.at_ q).1 hq)
    refine opV (nB rfl rfl) rfl ?_
    refine aU (vs:=[_,_]) goes_39 rfl (nDel_is B3 LB (some ⟨FB,0,none⟩) n n fs lf wa2 l2.length wc2 l2 K6 _ _ K6 w _ ((hS.keep K6 (fun q hq=>by simp [hq])).perm tX) (fun q hq=>hq) (fun h9 hk9=>.inr ⟨_,0,rfl,fun j hj=>aF (gF h9 (fun q hq=>hk9 q (hk6 q (hkk q (hk3 q hq))))) (by have h7:=jI (l:=fs) hj;rw [Nat.mul_one] at h7;exact h7)⟩) hfl (by omega) rfl hl2n (by omega)) rfl ?_
    rintro e W9 ⟨wa3,wc3,rfl,hS9⟩
    refine ⟨_,rfl,?_⟩
    obtain ⟨K7,k7,g7,hS7⟩:=St.rowKeepN (o:=⟨.slice wa3 (kpN fs lf l2).length wc3,(kpN fs lf l2).length,zI (nI (kpN fs lf l2))⟩) hS9
    clear hS hS9;have hS:=hS7.perm tX;clear hS7
    refine aA rfl rfl (aG (XF.blkN (XF.thenN (aD (aD (aH (aJ isAgg3 rfl (aF (hS.at_ 3 rfl) rfl) rfl (aG (XF.thenN (aH (bS (cs:=[_]) hS zeroValue3 rfl rfl fun B10 W10 hS=>bV (i:=0) (cs':=[_]) (O':=[_,_,_,_,_,_]) hS sizeOf3 rfl rfl rfl rfl rfl rfl rfl fun W11 hS=>aG (XF.thenN (aH (aJ isAgg3 rfl (aF (hS.at_ 0 rfl) rfl) rfl (lH rfl rfl (IntWalk.i64_in _ (by omega)) rfl (bV (i:=0) (cs':=[_]) (O':=[_,_,_,_,_,_]) hS sizeOf3 rfl rfl rfl rfl rfl rfl rfl fun W12 hS=>aG ?_))))))))))))))))
    have e9v:(lf:Int)+1 - 1=(lf:Int):=by omega
    rw [e9v] at hS
    have hS9:=((hS.perm perm15).tail).castG (G':=[⟨.slice wa8 (u++[x]).length wc8,(u++[x]).length,zI (u++[x]),3,1⟩]) (by rw [hul])
    exact XF.round (lf+1) [(1,_),(6,_),(7,_),(8,_),(9,_),(10,_)] (by omega) ⟨rfl,rfl,rfl,rfl,rfl,rfl,trivial⟩ ⟨lf,u++[x],kpN fs lf l2,wa3,wc3,wa8,wc8,_,ss2,K7,rfl,by rw [hul],by rw [runNP_snoc];exact hI.next hK0 hx.1 hnx,by rw [runNP_snoc];exact hI.filt hN hK0 hx.1 (fun q=>⟨fun h=>⟨(hH2.at_ q).1 (iT.1 h).1,(hF.ds (hl2n q (iT.1 h).1)).1 (iT.1 h).2⟩,fun h=>iT.2 ⟨(hH2.at_ q).2 h.1,(hF.ds (hl2n q ((hH2.at_ q).2 h.1))).2 h.2⟩⟩),fun w9 h9=>(by rw [runNP_snoc] at h9;have h7:=hcont (x::w9) ⟨x,w9,rfl,hx,hnx,hmin,h9⟩;rw [List.append_assoc];exact h7),by rw [hul];omega,Nat.le_trans (List.length_filter_le _ _) hle2,fun p hp=>hl2n p (iT.1 hp).1,hsl2,fun y hy=>(by
     rw [hul]
     rcases hsf2 y hy with h | h
     ·have:=hss y h;omega
     ·rw [hul] at h;omega),fun q hq=>k7 q (hk6 q (hkk q hq)),fun h9 hk9=>fO (g7 h9 hk9),hS9.keep K7 (fun q hq=>by simp [hq])⟩
   ·have hc38:=of_decide_eq_false hc;clear hc
    obtain rfl:left=0:=by omega
    have hfin:=hcont [] rfl
    rw [List.append_nil] at hfin
    obtain ⟨K8,k8,g8,hS8⟩:=St.rowKeepN (o:=⟨.slice wa u.length wc,u.length,zI u⟩) (hS.keep Kk (fun q hq=>by simp [hq]))
    refine bX (XF.thenX (XF.thenX (XF.blkX (XF.thenN (aD (aH (aB rfl rfl (aA rfl rfl (aA rfl rfl (aA rfl rfl (aG (XF.thenN (bH (XF.res (res3 results18 rfl rfl rfl) ?_))))))))))))))
    exact ⟨true,u,wa,wc,by rw [h0],⟨fun h=>absurd h0 h,fun _=>.inr ⟨rfl,m0,by rw [hs9,he9,hk];exact (hF.ds hsn).1 hm0,by rw [he9,hk];exact hfin⟩⟩,by omega,fO (g8 hS8 (fun q hq=>hq)),hS.below⟩
end
section
open Go.RowKit
open Go.Maps
open Go.ChangeMaps (setBlock)
section
variable {P:Program} {n:Nat} {Q:Exit→Act→World→Prop} {l:Fr} {W w0:World} {ops:Array Oper} {os:List Oper} {d:Nat} {ty:TypeId} {pos:String} {aft:Array Edge} {x y:Operand} {O:Own} {G:aX} {K:List (Nat×World)}
theorem rn_eqlT {t u:TypeId} {p q:ByteArray} {b:Bool} (hx:evL l x=some (.string p)) (hy:evL l y=some (.string q)) (hb:(p.toList == q.toList)=b):cS P l ⟨some d,.binOp .eql t x y u,ty,pos,aft,none⟩ W (.bool b) W:=fun ev he=>cV (he x _ hx) (he y _ hy) rfl (by subst hb;simp [binOp,Op.stringOp])
theorem mD {t u:TypeId} {p q:ByteArray} {b:Bool} (hx:evL l x=some (.string p)) (hy:evL l y=some (.string q)) (hb:(!(p.toList == q.toList))=b):cS P l ⟨some d,.binOp .neq t x y u,ty,pos,aft,none⟩ W (.bool b) W:=fun ev he=>cV (he x _ hx) (he y _ hy) rfl (by subst hb;simp [binOp,Op.stringOp])
theorem lE {T:TypeId} {s:ByteArray} {c:UInt8} {k:IntKind} {i:Int} {j:Nat} (hU:P.underlying T=some .string) (hx:evL l x=some (.string s)) (hy:evL l y=some (.int k i)) (hi:i=(j:Int)) (hs:s[j]?=some c):cS P l ⟨some d,.index T x y,ty,pos,aft,none⟩ W (.int .u8 (c.toNat:Int)) W:=fun ev he=>by
 subst hi
 unfold execOp;simp only [];rw [he x _ hx,he y _ hy]
 simp [Instr.index,asIntOf,run_underlying hU,hs]
end
theorem St.setMapT {w0 W W':World} {O:Own} {G:aX} {K:List (Nat×World)} {b:Nat} (h:St w0 O G K W) (hm:W.mapTurned W' b) (hwb:w0.heap.size≤b) (hK:∀ q∈K,b < q.1∨q.2.heap.size≤b):St w0 O G K W':=by
 have hg:=hm.grown
 obtain ⟨es,clock,_,_,hb,_⟩:=hm
 have ne:∀ (k:Nat) (cs:Array Value) (T:TypeId),W.heap[k]?=some (.cells cs T (0,0))→k≠b:=fun k cs T hk e=>by
  subst e
  rw [hb] at hk;cases hk
 have blk:∀ k,k < W.heap.size→k≠b→W'.heap[k]?=W.heap[k]?:=fun k hk hne=>hg.block _ hk (fun e=>hne (Option.some.inj e))
 refine ⟨h.below.grown hg h.below.size (fun k hk=>by cases hk;exact hwb),fun p hp=>?_,h.dist,fun q hq=>⟨⟨Nat.le_trans (h.kept q hq).1.1 hg.size,fun k h1 h2=>?_⟩,(h.kept q hq).2⟩,fun g hg'=>⟨dQ (h.rows g hg').1 fun k hk=>?_,(h.rows g hg').2⟩,h.gdist⟩
 ·obtain ⟨h1,h2⟩:=h.own p hp
  exact ⟨h1,(blk _ (cT h2) (ne _ _ _ h2)).trans h2⟩
 ·refine (blk k (Nat.lt_of_lt_of_le h2 (h.kept q hq).1.1) ?_).trans ((h.kept q hq).1.2 k h1 h2)
  rcases hK q hq with h3 | h3<;>omega
 ·exact blk k (((h.rows g hg').1.lt k hk).2) (mS (h.rows g hg').1 hb hk)
theorem iU:Go.Maps.Keyed prog 9:=string_keyed underlying9
def MsI (b:Nat) (es:List (List UInt8×Int)) (W:World):Prop:=∃ D:DataW Unit,W.ownsMap prog 9 (plainElem prog 3) b es.length D∧Tidy D∧Maps.size D=es.length∧(∀ l,Maps.has D (.string l)=es.any (fun p=>decide (p.1=l)))∧∀ l z,D.atKey (.string l) z=(match es.find? (fun p=>decide (p.1=l)) with | some p=>.lit (.int .i64 p.2) | none=>z)
theorem MsI.same {b:Nat} {es:List (List UInt8×Int)} {W W':World} (h:MsI b es W) (he:b < W.heap.size→W'.heap[b]?=W.heap[b]?):MsI b es W':=by
 obtain ⟨D,⟨es,clock,h1,h2⟩,h3⟩:=h
 exact ⟨D,⟨es,clock,(he (cT h1)).trans h1,h2⟩,h3⟩
theorem MsI.below {b:Nat} {es:List (List UInt8×Int)} {W W':World} (h:MsI b es W) (hb:Below W.heap.size W W'):MsI b es W':=h.same (fun h1=>hb.block _ h1)
theorem MsI.fresh (W:World):MsI W.heap.size [] (W.alloc (.map #[] 0)):=by
 refine ⟨.map [],World.ownsMap_made W _ _ _,(World.ownsMap_made W prog 9 (plainElem prog 3)).tidy iU,rfl,fun l=>?_,fun l z=>?_⟩
 ·simp [Maps.has]
 ·simp [DataW.atKey]
theorem MsI.made {W:World} {b:Nat} (hb:W.heap[b]?=some (.map #[] 0)):MsI b [] W:=by
 obtain ⟨D,⟨es,clock,h1,h2⟩,h3⟩:=MsI.fresh W
 have h4:=(heap_alloc_new W (.map #[] 0)).symm.trans h1
 injection h4 with h4
 injection h4 with h5 h6
 subst h5;subst h6
 exact ⟨D,⟨_,_,hb,h2⟩,h3⟩
theorem oT {s:ByteArray} (h:s.size≤maxLen):keyOf prog 9 (.string s)=some (.string s.data.toList):=WideMaps.keyOf_string_mk underlying9 h
theorem MsI.look {b:Nat} {es:List (List UInt8×Int)} {W:World} (h:MsI b es W) {s:ByteArray} {x:Int} (hs:s.size≤maxLen) (hf:es.find? (fun p=>decide (p.1=s.data.toList))=some (s.data.toList,x)) (hz:∀ w,(zeroValue 3).run prog w = .ok (.int .i64 0) w):(Instr.lookup 79 (.map (some b)) (.string s) true).run prog W = .ok (.tuple #[.int .i64 x,.bool true]) W:=by
 obtain ⟨D,h1,h2,h3,h4,h5⟩:=h
 obtain ⟨v,ps,h6,h7⟩:=h1.look_ok iU underlying79 (hz W) (plainElem_int underlying3 (a:=0) (by decide)) (oT hs)
 rw [h5,hf] at h7
 obtain ⟨a,rfl,h8,_⟩:=plainElem_int_inv underlying3 h7
 simp only [Prod.mk.injEq] at h8
 obtain ⟨h8,_⟩:=h8
 simp only [DataW.lit.injEq,Lit.int.injEq,true_and] at h8
 subst h8
 rw [h6,h4,List.any_eq_true.2 ⟨_,List.mem_of_find?_eq_some hf,by simp⟩]
theorem MsI.put {b:Nat} {es:List (List UInt8×Int)} {W:World} (h:MsI b es W) {s:ByteArray} {x:Int} (hs:s.size≤maxLen) (hx:(Lit.int .i64 x).wf=true) (hf:es.any (fun p=>decide (p.1=s.data.toList))=false) (hn:es.length < maxLen):∃ w',(Instr.mapUpdate 79 (.map (some b)) (.string s) (.int .i64 x)).run prog W = .ok () w'∧MsI b ((s.data.toList,x)::es) w'∧W.mapTurned w' b:=by
 obtain ⟨D,h1,h2,h3,h4,h5⟩:=h
 obtain ⟨w',h6,h7,h8⟩:=h1.store iU underlying79 hn (oT hs) (plainElem_int underlying3 hx)
 have hk:=iU.key (oT hs)
 have h9:w'.ownsMap prog 9 (plainElem prog 3) b ((s.data.toList,x)::es).length (D.put (.string s.data.toList) (.lit (.int .i64 x))):=h7
 refine ⟨w',h6,⟨D.put (.string s.data.toList) (.lit (.int .i64 x)),h9,h2.put hk _,?_,fun l=>?_,fun l z=>?_⟩,h8⟩
 ·rw [size_put h2,h4,hf,h3];rfl
 ·by_cases e:l=s.data.toList
  ·subst e
   rw [has_put_same h1.isMap hk];simp
  ·rw [has_put_other (fun e2=>e (by injection e2)),h4,List.any_cons,decide_eq_false (fun e2=>e e2.symm),Bool.false_or]
 ·by_cases e:l=s.data.toList
  ·subst e
   rw [atKey_put_same h1.isMap hk,List.find?_cons_of_pos (by simp)]
  ·rw [atKey_put_other (fun e2=>e (by injection e2)),h5,List.find?_cons_of_neg (by simpa using fun e2=>e e2.symm)]
section
variable {n:Nat} {ops:Array Oper} {Q:Exit→Act→World→Prop} {l:Fr} {w0 W:World} {O:Own} {G:aX} {K:List (Nat×World)} {os:List Oper} {d b:Nat} {ty:TypeId} {pos:String} {aft:Array Edge} {x y z:Operand} {es:List (List UInt8×Int)} {s:ByteArray} {v:Int}
theorem tY (hM:MsI b es W) (hs:s.size≤maxLen) (hf:es.find? (fun p=>decide (p.1=s.data.toList))=some (s.data.toList,v)) (hz:∀ w,(zeroValue 3).run prog w = .ok (.int .i64 0) w) (hx:evL l x=some (.map (some b))) (hy:evL l y=some (.string s)):cS prog l ⟨some d,.lookup 79 x y true,ty,pos,aft,none⟩ W (.tuple #[.int .i64 v,.bool true]) W:=fun ev he=>by
 unfold execOp;simp only [];rw [he x _ hx,he y _ hy]
 simp [hM.look hs hf hz,Result.andThen]
theorem oU (hS:St w0 O G K W) (hM:MsI b es W) (hs:s.size≤maxLen) (hv:(Lit.int .i64 v).wf=true) (hf:es.any (fun p=>decide (p.1=s.data.toList))=false) (hn:es.length < maxLen) (hwb:w0.heap.size≤b) (hK:∀ q∈K,b < q.1∨q.2.heap.size≤b) (hx:evL l x=some (.map (some b))) (hy:evL l y=some (.string s)) (hz:evL l z=some (.int .i64 v))
  (h:∀ W',St w0 O G K W'→MsI b ((s.data.toList,v)::es) W'→bG prog n ops Q os l W'):bG prog n ops Q (⟨none,.mapUpdate 79 x y z,ty,pos,aft,none⟩::os) l W:=fun a ha=>by
 obtain ⟨W',h1,h2,h3⟩:=hM.put hs hv hf hn
 refine wpList_plain rfl fun K' hK'=>?_
 unfold Oper.wp execOp
 simp only []
 rw [ha.ev x _ hx,ha.ev y _ hy,ha.ev z _ hz]
 simp only [Sem.run_bind,h1,Result.andThen_ok,Sem.run_pure,Oper.upon_skip]
 exact hK' _ _ (h W' (hS.setMapT h3 hwb hK) h2 a ha)
theorem nN (hM:MsI b es W) (hx:evL l x=some (.map (some b))):cS prog l ⟨some d,.call { callee:=.builtin .len,args:=#[x],argTypes:=#[79] },ty,pos,aft,none⟩ W (.int .i64 (es.length:Int)) W:=fun ev he=>by
 obtain ⟨D,h1,h2,h3,h4,h5⟩:=hM
 have h6:=h1.len underlying79 ty
 rw [h3] at h6
 unfold execOp
 simp only [resolve,invoke,builtin,Sem.run_bind,Sem.run_pure,Result.andThen_ok,List.map_toArray,List.map_cons,List.map_nil,he x _ hx,h6]
end
inductive ReV where
 | mk (op:Int) (nm:ByteArray) (ka:Option Addr) (kl kc:Nat) (kids:List ReV)
def ReV.op:ReV→Int | .mk op _ _ _ _ _=>op
def ReV.nm:ReV→ByteArray | .mk _ nm _ _ _ _=>nm
def ReV.kids:ReV→List ReV | .mk _ _ _ _ _ kids=>kids
def ReV.cells:ReV→List Value | .mk op nm ka kl kc _=>[.int .i64 op,.string nm,.slice ka kl kc]
def ReV.val:ReV→Value | .mk op nm ka kl kc _=>.agg #[.int .i64 op,.string nm,.slice ka kl kc]
inductive ReIn (W:World):ReV→Prop
 | mk {op:Int} {nm:ByteArray} {ka:Option Addr} {kl kc:Nat} {kids:List ReV}:kids.length=kl→kl≤500→kl≤kc→(∀ (i:Nat) k,kids[i]?=some k→∃ b off,ka=some ⟨b,off,none⟩∧aK W b (off+i * 3) k.cells)→(∀ k∈kids,ReIn W k)→ReIn W (.mk op nm ka kl kc kids)
theorem ReIn.keep {W W':World} (hb:Below W.heap.size W W') {x:ReV} (h:ReIn W x):ReIn W' x:=by
 induction h with
 | mk h1 h2 h2c h3 _ ih =>
  refine .mk h1 h2 h2c (fun i k hi=>?_) ih
  obtain ⟨b,off,e,hc⟩:=h3 i k hi
  exact ⟨b,off,e,aK.agree (aY hb 0) (Nat.zero_le _) hc⟩
def oV (p:ByteArray):Prop:=p=⟨#[97]⟩∨p=⟨#[98]⟩
theorem oV.facts {p:ByteArray} (h:oV p):p.size=1∧((p.toList == (⟨#[]⟩:ByteArray).toList)=false)∧∃ c:UInt8,p[0]?=some c∧(97≤(c.toNat:Int)∧(c.toNat:Int)≤122):=by
 rcases h with rfl | rfl
 ·exact ⟨rfl,by rw [ByteArray.toList_eq,ByteArray.toList_eq];rfl,97,rfl,by decide⟩
 ·exact ⟨rfl,by rw [ByteArray.toList_eq,ByteArray.toList_eq];rfl,98,rfl,by decide⟩
inductive FitsR:ReV→Nat→Nat→Nat→Prop
 | mk {x:ReV} {d n:Nat} {f:Nat→Nat}:n+1≤500→d≤50→f 0=n+1→(∀ (i:Nat) k,x.kids[i]?=some k→FitsR k (d+1) (f i) (f (i+1)))→FitsR x d n (f x.kids.length)
def Shp (x:ReV):Prop:=(x.op=1∧oV x.nm∧x.kids=[])∨(x.nm=⟨#[]⟩∧((x.op=3∧x.kids=[])∨((x.op=5∨x.op=6)∧(∀ k∈x.kids,k.op≠x.op)∧2≤x.kids.length)))
inductive WellM:ReV→Prop
 | mk {x:ReV}:(∀ k∈x.kids,WellM k)→Shp x→WellM x
def tZ (W:World) (a:Option Addr) (ns:List ByteArray):Prop:=∀ (i:Nat) s,ns[i]?=some s→∃ b off,a=some ⟨b,off,none⟩∧W.cell? ⟨b,off+i * 1,none⟩=some (.string s)
end
section
open Go.RowKit
theorem cU (w:World) (b o:Nat):(Instr.fieldAt 62 (.pointer (some ⟨b,o,none⟩)) 0).run prog w = .ok (.pointer (some ⟨b,o+0,none⟩)) w:=by
 simp [Instr.fieldAt,run_underlying underlying62,Instr.sureAddr,go_sem,Addr.add_lit]
theorem iV (w:World) (b o:Nat):(Instr.fieldAt 62 (.pointer (some ⟨b,o,none⟩)) 1).run prog w = .ok (.pointer (some ⟨b,o+1,none⟩)) w:=by
 simp [Instr.fieldAt,run_underlying underlying62,Instr.sureAddr,go_sem,Addr.add_lit]
theorem dX (w:World) (b o:Nat):(Instr.fieldAt 62 (.pointer (some ⟨b,o,none⟩)) 2).run prog w = .ok (.pointer (some ⟨b,o+2,none⟩)) w:=by
 simp [Instr.fieldAt,run_underlying underlying62,Instr.sureAddr,go_sem,Addr.add_lit]
theorem goes_81:bD prog 81=true:=by kernel_rfl
theorem qO:bD prog 84=true:=by kernel_rfl
section
variable {P:Program} {n:Nat} {l:Fr} {W:World} {d:Nat} {ty t u:TypeId} {pos:String} {aft:Array Edge} {x y:Operand} {k:IntKind} {a b:Int} {c:Bool}
theorem bL (hx:evL l x=some (.int k a)) (hy:evL l y=some (.int k b)) (hb:decide (a=b)=c):cS P l ⟨some d,.binOp .eql t x y u,ty,pos,aft,none⟩ W (.bool c) W:=by subst hb;exact jX hx hy
theorem gS (hx:evL l x=some (.int k a)) (hy:evL l y=some (.int k b)) (hb:decide (a≠b)=c):cS P l ⟨some d,.binOp .neq t x y u,ty,pos,aft,none⟩ W (.bool c) W:=by subst hb;exact jY hx hy
end
theorem iW (c:Int) (h1:97≤c) (h2:c≤122) (w:World) :
  Calls prog 84 #[.int .u8 c] w (fun e w'=>e = .returned (.bool true)∧Below w.heap.size w w'):=by
 refine bE (args:=[.int .u8 c]) func84 rfl ntmps84 rfl ?_
 have hS:=St.start w
 refine aD (aH (aA rfl rfl (aG (XF.thenN (aD (aH (aB rfl rfl (eF rfl rfl rfl (aB rfl rfl (bF (d:=5) rfl (fun hc=>?_) (fun hc=>?_)))))))))))
 ·have hg5:=of_decide_eq_true hc;clear hc
  refine aC (d:=5) rfl rfl (aB rfl rfl (aC (d:=5) rfl rfl (nV rfl rfl rfl (aN rfl rfl rfl (aB rfl rfl (bF (d:=9) rfl (fun hc=>?_) (fun hc=>?_)))))))
  ·have hg9:=of_decide_eq_true hc;clear hc
   refine aE (d:=9) rfl rfl rfl rfl (aE (d:=9) rfl rfl rfl rfl (aE (d:=9) rfl rfl rfl rfl (tI (d:=12) rfl rfl rfl (tI (d:=12) rfl rfl rfl (aE (d:=9) rfl rfl rfl rfl (aN rfl rfl rfl (aB rfl rfl (aE (d:=17) rfl rfl rfl rfl (aE (d:=17) rfl rfl rfl rfl (aN rfl rfl rfl (aA rfl rfl (aG (XF.thenN (bH (XF.res (bU results84 rfl) ?_)))))))))))))))
   first | exact ⟨eH (decide_eq_true (by omega)),hS.below⟩ | exact ⟨rfl,hS.below⟩ | (exfalso;simp at *;omega)
  ·have hg9:=of_decide_eq_false hc;clear hc
   refine aC (d:=9) rfl rfl (aB rfl rfl (aC (d:=9) rfl rfl (eF rfl rfl rfl (aC (d:=9) rfl rfl (aB rfl rfl (bF (d:=12) rfl (fun hc=>?_) (fun hc=>?_)))))))
   ·have hg12:=of_decide_eq_true hc;clear hc
    refine aC (d:=12) rfl rfl (aB rfl rfl (aC (d:=12) rfl rfl (nV rfl rfl rfl (aC (d:=9) rfl rfl (aN rfl rfl rfl (bA rfl rfl rfl (aB rfl rfl (bF (d:=17) rfl (fun hc=>?_) (fun hc=>?_)))))))))
    ·have hg17:=of_decide_eq_true hc;clear hc
     refine aE (d:=17) rfl rfl rfl rfl (aE (d:=17) rfl rfl rfl rfl (aN rfl rfl rfl (aA rfl rfl (aG (XF.thenN (bH (XF.res (bU results84 rfl) ?_)))))))
     first | exact ⟨eH (decide_eq_true (by omega)),hS.below⟩ | exact ⟨rfl,hS.below⟩ | (exfalso;simp at *;omega)
    ·have hg17:=of_decide_eq_false hc;clear hc
     refine aC (d:=17) rfl rfl (aB rfl rfl (aC (d:=17) rfl rfl (dN rfl rfl rfl (bA rfl rfl rfl (aA rfl rfl (aG (XF.thenN (bH (XF.res (bU results84 rfl) ?_)))))))))
     first | exact ⟨eH (decide_eq_true (by omega)),hS.below⟩ | exact ⟨rfl,hS.below⟩ | (exfalso;simp at *;omega)
   ·have hg12:=of_decide_eq_false hc;clear hc
    refine aE (d:=12) rfl rfl rfl rfl (aE (d:=12) rfl rfl rfl rfl (aC (d:=9) rfl rfl (bA rfl rfl rfl (bA rfl rfl rfl (aB rfl rfl (aC (d:=17) rfl rfl (aB rfl rfl (aC (d:=17) rfl rfl (dN rfl rfl rfl (bA rfl rfl rfl (aA rfl rfl (aG (XF.thenN (bH (XF.res (bU results84 rfl) ?_)))))))))))))))
    first | exact ⟨eH (decide_eq_true (by omega)),hS.below⟩ | exact ⟨rfl,hS.below⟩ | (exfalso;simp at *;omega)
 ·have hg5:=of_decide_eq_false hc;clear hc
  refine aE (d:=5) rfl rfl rfl rfl (aE (d:=5) rfl rfl rfl rfl (bA rfl rfl rfl (aB rfl rfl (aC (d:=9) rfl rfl (aB rfl rfl (aC (d:=9) rfl rfl (eF rfl rfl rfl (aC (d:=9) rfl rfl (aB rfl rfl (bF (d:=12) rfl (fun hc=>?_) (fun hc=>?_)))))))))))
  ·have hg12:=of_decide_eq_true hc;clear hc
   refine aC (d:=12) rfl rfl (aB rfl rfl (aC (d:=12) rfl rfl (nV rfl rfl rfl (aC (d:=9) rfl rfl (aN rfl rfl rfl (bA rfl rfl rfl (aB rfl rfl (bF (d:=17) rfl (fun hc=>?_) (fun hc=>?_)))))))))
   ·have hg17:=of_decide_eq_true hc;clear hc
    refine aE (d:=17) rfl rfl rfl rfl (aE (d:=17) rfl rfl rfl rfl (aN rfl rfl rfl (aA rfl rfl (aG (XF.thenN (bH (XF.res (bU results84 rfl) ?_)))))))
    first | exact ⟨eH (decide_eq_true (by omega)),hS.below⟩ | exact ⟨rfl,hS.below⟩ | (exfalso;simp at *;omega)
   ·have hg17:=of_decide_eq_false hc;clear hc
    refine aC (d:=17) rfl rfl (aB rfl rfl (aC (d:=17) rfl rfl (dN rfl rfl rfl (bA rfl rfl rfl (aA rfl rfl (aG (XF.thenN (bH (XF.res (bU results84 rfl) ?_)))))))))
    first | exact ⟨eH (decide_eq_true (by omega)),hS.below⟩ | exact ⟨rfl,hS.below⟩ | (exfalso;simp at *;omega)
  ·have hg12:=of_decide_eq_false hc;clear hc
   refine aE (d:=12) rfl rfl rfl rfl (aE (d:=12) rfl rfl rfl rfl (aC (d:=9) rfl rfl (bA rfl rfl rfl (bA rfl rfl rfl (aB rfl rfl (aC (d:=17) rfl rfl (aB rfl rfl (aC (d:=17) rfl rfl (dN rfl rfl rfl (bA rfl rfl rfl (aA rfl rfl (aG (XF.thenN (bH (XF.res (bU results84 rfl) ?_)))))))))))))))
   first | exact ⟨eH (decide_eq_true (by omega)),hS.below⟩ | exact ⟨rfl,hS.below⟩ | (exfalso;simp at *;omega)
theorem rZ (p:ByteArray) (hp:oV p) (w:World) :
  Calls prog 81 #[.string p] w (fun e w'=>e = .returned (.bool true)∧Below w.heap.size w w'):=by
 refine bE (args:=[.string p]) func81 rfl ntmps81 rfl ?_
 have hS:=St.start w
 obtain ⟨hsz,hne,c,hc0,hc1,hc2⟩:=hp.facts
 refine aD (aH (aA rfl rfl (aG (XF.thenN (aD (aD (aH (aB rfl rfl (opV (rn_eqlT (b:=false) rfl rfl hne) rfl (aB rfl rfl (aC (d:=6) rfl rfl (aB rfl rfl (aC (d:=6) rfl rfl (pI underlying9 rfl rfl (aC (d:=6) rfl rfl (dU rfl rfl rfl (bA rfl rfl rfl (aB rfl rfl (bF (d:=11) rfl (fun hc=>?_) (fun hc=>?_))))))))))))))))))))
 ·have hg11:=of_decide_eq_true hc;clear hc
  refine aE (d:=11) rfl rfl rfl rfl (aE (d:=11) rfl rfl rfl rfl (aE (d:=11) rfl rfl rfl rfl (aE (d:=11) rfl rfl rfl rfl (aN rfl rfl rfl (aG (XF.thenN (cI rfl (aD (aH (aA rfl rfl (aG (XF.thenN (bH (XF.thenR (XF.res (bU results81 rfl) ?_)))))))))))))))
  exfalso;omega
 ·have hg11:=of_decide_eq_false hc;clear hc
  refine aC (d:=11) rfl rfl (aB rfl rfl (aC (d:=11) rfl rfl (opV (lE (j:=0) (c:=c) underlying9 rfl rfl rfl hc0) rfl (aC (d:=11) rfl rfl (bW (vs:=[_]) hS qO rfl (iW _ hc1 hc2 _) rfl fun W1 hS=>aC (d:=11) rfl rfl (cN rfl rfl (bA rfl rfl rfl (aG (XF.thenN (cB rfl (aS (XF.thenN (aD (aD (aH (aB rfl rfl (pI underlying9 rfl rfl (aB rfl rfl (aG (XF.thenN (aL (cE (fun m l W=>∃ (i:Nat),i≤1∧m=1 - i∧l=[(0,.string p),(18,.int .i64 (p.size:Int)),(19,.int .i64 (i:Int))]∧St w [] [] [] W) (1 - 0) ([(0,_),(18,_),(19,_)]) ⟨rfl,rfl,rfl,trivial⟩ (⟨0,Nat.zero_le _,rfl,rfl,hS.clear⟩) ?_))))))))))))))))))))))
  clear hS
  rintro m l W ⟨i,hi,rfl,rfl,hS⟩
  refine aD (aH (bK rfl rfl rfl (aG (XF.thenN (aD (bC rfl (fun hc=>?_) (fun hc=>?_)))))))
  ·have hc20:=of_decide_eq_true hc;clear hc
   obtain rfl:i=0:=by omega
   refine aS (XF.thenN (aD (aL (aD (aH (aB rfl rfl (aA rfl rfl (aG (XF.thenN (aD (aH (aB rfl rfl (aB rfl rfl (opV (lE (j:=0) (c:=c) underlying9 rfl rfl rfl hc0) rfl (bW (vs:=[_]) hS qO rfl (iW _ hc1 hc2 _) rfl fun W2 hS=>cN rfl rfl (aB rfl rfl (aE (d:=27) rfl rfl rfl rfl (aE (d:=27) rfl rfl rfl rfl (aE (d:=27) rfl rfl rfl rfl (aE (d:=27) rfl rfl rfl rfl (aE (d:=27) rfl rfl rfl rfl (bA rfl rfl rfl (aG (XF.thenN (cB rfl (aS (XF.blkN (XF.thenN (aH (bB rfl rfl (IntWalk.i64_in _ (by omega)) rfl (aB rfl rfl (aG ?_))))))))))))))))))))))))))))))))
   exact XF.round 0 [(0,_),(18,_),(19,_)] (by omega) ⟨rfl,rfl,rfl,trivial⟩ ⟨1,by omega,rfl,rfl,hS.clear⟩
  ·have hc20:=of_decide_eq_false hc;clear hc
   refine bX (XF.thenX (XF.thenX (XF.blkX (XF.thenN (aD (aH (aA rfl rfl (aG (XF.thenN (bH (XF.res (bU results81 rfl) ?_)))))))))))
   exact ⟨rfl,hS.below⟩
theorem oW (nm:ByteArray) (ka:Option Addr) (kc:Nat) (hnm:oV nm) (w:World) :
  Calls prog 70 #[.agg #[.int .i64 1,.string nm,.slice ka 0 kc]] w (fun e w'=>e = .returned (.bool true)∧Below w.heap.size w w'):=by
 refine bE (args:=[.agg #[.int .i64 1,.string nm,.slice ka 0 kc]]) func70 rfl ntmps70 rfl ?_
 have hS:=St.start w
 refine aD (aH (bY (cs:=[_,_,_]) hS rfl rfl rfl fun B1 W1 hS=>aA rfl rfl (aG (XF.thenN (aD (aD (aH (aI (o':=0) cU rfl rfl rfl (aJ isAgg59 rfl (aF (hS.at_ 0 rfl) rfl) rfl (opV (gS (c:=false) rfl rfl (by decide)) rfl (aB rfl rfl (aE (d:=8) rfl rfl rfl rfl (aE (d:=8) rfl rfl rfl rfl (aE (d:=8) rfl rfl rfl rfl (bA rfl rfl rfl (aG (XF.thenN (cB rfl (aS (XF.thenN (aD (aD (aH (aI (o':=0) cU rfl rfl rfl (aJ isAgg59 rfl (aF (hS.at_ 0 rfl) rfl) rfl (aG (XF.thenN (aL (aD (aH (opV (bL (c:=true) rfl rfl (by decide)) rfl (aA rfl rfl (aG (XF.thenN (cI rfl (aD (aH (aI (o':=1) iV rfl rfl rfl (aJ isAgg9 rfl (aF (hS.at_ 0 rfl) rfl) rfl (bW (vs:=[_]) hS goes_81 rfl (rZ nm hnm _) rfl fun W2 hS=>?_))))))))))))))))))))))))))))))))))))))))
 refine aB rfl rfl (aC (d:=20) rfl rfl (aI (o':=2) dX rfl rfl rfl (aC (d:=20) rfl rfl (aJ isAgg60 rfl (aF (hS.at_ 0 rfl) rfl) rfl (aC (d:=20) rfl rfl (bN underlying60 rfl rfl (aC (d:=20) rfl rfl (opV (bL (c:=true) rfl rfl (by decide)) rfl (aN rfl rfl rfl (aA rfl rfl (aG (XF.thenN (bH (XF.blkR (XF.thenR (XF.res (bU results70 rfl) ?_))))))))))))))))
 exact ⟨rfl,hS.below⟩
theorem oX (ka:Option Addr) (kc:Nat) (w:World) :
  Calls prog 70 #[.agg #[.int .i64 3,.string ⟨#[]⟩,.slice ka 0 kc]] w (fun e w'=>e = .returned (.bool true)∧Below w.heap.size w w'):=by
 refine bE (args:=[.agg #[.int .i64 3,.string ⟨#[]⟩,.slice ka 0 kc]]) func70 rfl ntmps70 rfl ?_
 have hS:=St.start w
 refine aD (aH (bY (cs:=[_,_,_]) hS rfl rfl rfl fun B1 W1 hS=>aA rfl rfl (aG (XF.thenN (aD (aD (aH (aI (o':=0) cU rfl rfl rfl (aJ isAgg59 rfl (aF (hS.at_ 0 rfl) rfl) rfl (opV (gS (c:=true) rfl rfl (by decide)) rfl (aB rfl rfl (aC (d:=8) rfl rfl (aI (o':=1) iV rfl rfl rfl (aC (d:=8) rfl rfl (aJ isAgg9 rfl (aF (hS.at_ 0 rfl) rfl) rfl (aC (d:=8) rfl rfl ?_))))))))))))))))
 refine opV (mD (b:=false) rfl rfl (by rw [beq_self_eq_true];rfl)) rfl ?_
 refine aN rfl rfl rfl (aG (XF.thenN (cB rfl (aS (XF.thenN (aD (aD (aH (aI (o':=0) cU rfl rfl rfl (aJ isAgg59 rfl (aF (hS.at_ 0 rfl) rfl) rfl (aG (XF.thenN (aL (aD (aH (opV (bL (c:=false) rfl rfl (by decide)) rfl (aA rfl rfl (aG (XF.thenN (cB rfl (aD (aD (aH (opV (bL (c:=false) rfl rfl (by decide)) rfl (aA rfl rfl (aG (XF.thenN (cB rfl (aD (aH (opV (bL (c:=true) rfl rfl (by decide)) rfl (aA rfl rfl (aG (XF.thenN (cI rfl (aS (XF.thenN (cI rfl (aD (aH (aI (o':=2) dX rfl rfl rfl (aJ isAgg60 rfl (aF (hS.at_ 0 rfl) rfl) rfl ?_))))))))))))))))))))))))))))))))))))))))))
 refine bN underlying60 rfl rfl (opV (bL (c:=true) rfl rfl (by decide)) rfl (aA rfl rfl (aG (XF.thenN (bH (XF.blkR (XF.thenR (XF.res (bU results70 rfl) ?_))))))))
 exact ⟨rfl,hS.below⟩
theorem oY (ka:Option Addr) (kl kc:Nat) (kids:List ReV) (w:World) (hkl:kids.length=kl) (hk5:kl≤500) (hk:∀ (i:Nat) k,kids[i]?=some k→∃ b off,ka=some ⟨b,off,none⟩∧aK w b (off+i * 3) k.cells) (hop:∀ k∈kids,k.op≠5) (h2:2≤kl) :
  Calls prog 70 #[.agg #[.int .i64 5,.string ⟨#[]⟩,.slice ka kl kc]] w (fun e w'=>e = .returned (.bool true)∧Below w.heap.size w w'):=by
 refine bE (args:=[.agg #[.int .i64 5,.string ⟨#[]⟩,.slice ka kl kc]]) func70 rfl ntmps70 rfl ?_
 have hS:=St.start w
 refine aD (aH (bY (cs:=[_,_,_]) hS rfl rfl rfl fun B1 W1 hS=>aA rfl rfl (aG (XF.thenN (aD (aD (aH (aI (o':=0) cU rfl rfl rfl (aJ isAgg59 rfl (aF (hS.at_ 0 rfl) rfl) rfl (opV (gS (c:=true) rfl rfl (by decide)) rfl (aB rfl rfl (aC (d:=8) rfl rfl (aI (o':=1) iV rfl rfl rfl (aC (d:=8) rfl rfl (aJ isAgg9 rfl (aF (hS.at_ 0 rfl) rfl) rfl (aC (d:=8) rfl rfl ?_))))))))))))))))
 refine opV (mD (b:=false) rfl rfl (by rw [beq_self_eq_true];rfl)) rfl ?_
 refine aN rfl rfl rfl (aG (XF.thenN (cB rfl (aS (XF.thenN (aD (aD (aH (aI (o':=0) cU rfl rfl rfl (aJ isAgg59 rfl (aF (hS.at_ 0 rfl) rfl) rfl (aG (XF.thenN (aL (aD (aH (opV (bL (c:=false) rfl rfl (by decide)) rfl (aA rfl rfl (aG (XF.thenN (cB rfl (aD (aD (aH (opV (bL (c:=false) rfl rfl (by decide)) rfl (aA rfl rfl (aG (XF.thenN (cB rfl (aD (aH (opV (bL (c:=false) rfl rfl (by decide)) rfl (aA rfl rfl (aG (XF.thenN (cB rfl (aH (opV (bL (c:=false) rfl rfl (by decide)) rfl (aA rfl rfl (aG (XF.thenN (cB rfl (aD ?_))))))))))))))))))))))))))))))))))))))))))
 refine aD (aH (opV (bL (c:=true) rfl rfl (by decide)) rfl (aA rfl rfl (aG (XF.thenN (cI rfl (aS (XF.thenN (cI rfl (aD (aD (aH (aI (o':=2) dX rfl rfl rfl (aJ isAgg60 rfl (aF (hS.at_ 0 rfl) rfl) rfl (bN underlying60 rfl rfl (aB rfl rfl (aG (XF.thenN (aL (cE (fun m l W=>∃ (i:Nat),i≤kl∧m=kl - i∧l=[(1,.pointer (some ⟨B1,0,none⟩)),(38,.slice ka kl kc),(39,.int .i64 (kl:Int)),(40,.int .i64 (i:Int))]∧St w [(B1,[.int .i64 5,.string ⟨#[]⟩,.slice ka kl kc],62)] [] [] W) (kl - 0) ([(1,_),(38,_),(39,_),(40,_)]) ⟨rfl,rfl,rfl,rfl,trivial⟩ (⟨0,Nat.zero_le _,rfl,rfl,hS.clear⟩) ?_))))))))))))))))))))
 clear hS
 rintro m l W ⟨i,hi,rfl,rfl,hS⟩
 refine aD (aH (bK rfl rfl rfl (aG (XF.thenN (aD (bC rfl (fun hc=>?_) (fun hc=>?_)))))))
 ·have hc41:=of_decide_eq_true hc;clear hc
  obtain ⟨k,hki⟩:∃ k,kids[i]?=some k:=⟨_,List.getElem?_eq_getElem (by omega)⟩
  have hkop:=hop k (List.mem_of_getElem? hki)
  obtain ⟨b,off,hka,hcs⟩:=hk i k hki
  obtain ⟨ko,kn,kka,kkl,kkc,kks⟩:=k
  have k1:aK W b (off+i * 3) [.int .i64 ko,.string kn,.slice kka kkl kkc]:=aK.agree (aY hS.below 0) (Nat.zero_le _) hcs
  replace hkop:ko≠5:=hkop
  refine aS (XF.thenN (aD (aL (aD (aH ?_)))))
  refine aQ (j:=i) (b:=b) (o:=off) (m:=kl) (c:=kc) underlying60 sizeOf62 (by show some (Value.slice _ _ _)=_;rw [hka]) rfl rfl (by omega) rfl rfl ?_
  refine aO (vs:=[_,_,_]) isAgg62 sizeOf62 rfl k1 rfl (bS (cs:=[_,_,_]) hS zeroValue62 rfl rfl fun B2 W2 hS=>bQ (i:=0) (vs:=[_,_,_]) (cs':=[_,_,_]) (O':=[_,_]) hS sizeOf62 rfl rfl rfl rfl rfl rfl rfl fun W3 hS=>aG (XF.thenN (aD (aH (aI (o':=0) cU rfl rfl rfl (aJ isAgg59 rfl (aF (hS.at_ 0 rfl) rfl) rfl (aI (o':=0) cU rfl rfl rfl (aJ isAgg59 rfl (aF (hS.at_ 1 rfl) rfl) rfl (opV (bL (c:=false) rfl rfl (decide_eq_false hkop)) rfl (aG (XF.thenN (cB rfl (aS (XF.blkN (XF.thenN (aH (bB rfl rfl (IntWalk.i64_in _ (by omega)) rfl (aB rfl rfl (aG ?_)))))))))))))))))))
  exact XF.round (kl - (i+1)) [(1,_),(38,_),(39,_),(40,_)] (by omega) ⟨rfl,rfl,rfl,rfl,trivial⟩ ⟨i+1,by omega,rfl,rfl,hS.tail.clear⟩
 ·have hc41:=of_decide_eq_false hc;clear hc
  refine bX (XF.thenX (XF.thenX (XF.blkX (XF.thenN (aD (aH (aI (o':=2) dX rfl rfl rfl (aJ isAgg60 rfl (aF (hS.at_ 0 rfl) rfl) rfl (bN underlying60 rfl rfl (eF rfl rfl rfl (aA rfl rfl (aG (XF.thenN (bH (XF.blkR (XF.thenR (XF.res (bU results70 rfl) ?_)))))))))))))))))
  exact ⟨eH (decide_eq_true (by omega)),hS.below⟩
theorem oZ (ka:Option Addr) (kl kc:Nat) (kids:List ReV) (w:World) (hkl:kids.length=kl) (hk5:kl≤500) (hk:∀ (i:Nat) k,kids[i]?=some k→∃ b off,ka=some ⟨b,off,none⟩∧aK w b (off+i * 3) k.cells) (hop:∀ k∈kids,k.op≠6) (h2:2≤kl) :
  Calls prog 70 #[.agg #[.int .i64 6,.string ⟨#[]⟩,.slice ka kl kc]] w (fun e w'=>e = .returned (.bool true)∧Below w.heap.size w w'):=by
 refine bE (args:=[.agg #[.int .i64 6,.string ⟨#[]⟩,.slice ka kl kc]]) func70 rfl ntmps70 rfl ?_
 have hS:=St.start w
 refine aD (aH (bY (cs:=[_,_,_]) hS rfl rfl rfl fun B1 W1 hS=>aA rfl rfl (aG (XF.thenN (aD (aD (aH (aI (o':=0) cU rfl rfl rfl (aJ isAgg59 rfl (aF (hS.at_ 0 rfl) rfl) rfl (opV (gS (c:=true) rfl rfl (by decide)) rfl (aB rfl rfl (aC (d:=8) rfl rfl (aI (o':=1) iV rfl rfl rfl (aC (d:=8) rfl rfl (aJ isAgg9 rfl (aF (hS.at_ 0 rfl) rfl) rfl (aC (d:=8) rfl rfl ?_))))))))))))))))
 refine opV (mD (b:=false) rfl rfl (by rw [beq_self_eq_true];rfl)) rfl ?_
 refine aN rfl rfl rfl (aG (XF.thenN (cB rfl (aS (XF.thenN (aD (aD (aH (aI (o':=0) cU rfl rfl rfl (aJ isAgg59 rfl (aF (hS.at_ 0 rfl) rfl) rfl (aG (XF.thenN (aL (aD (aH (opV (bL (c:=false) rfl rfl (by decide)) rfl (aA rfl rfl (aG (XF.thenN (cB rfl (aD (aD (aH (opV (bL (c:=false) rfl rfl (by decide)) rfl (aA rfl rfl (aG (XF.thenN (cB rfl (aD (aH (opV (bL (c:=false) rfl rfl (by decide)) rfl (aA rfl rfl (aG (XF.thenN (cB rfl (aH (opV (bL (c:=false) rfl rfl (by decide)) rfl (aA rfl rfl (aG (XF.thenN (cB rfl (aD ?_))))))))))))))))))))))))))))))))))))))))))
 refine aD (aH (opV (bL (c:=false) rfl rfl (by decide)) rfl (aA rfl rfl (aG (XF.thenN (cB rfl (aH (opV (bL (c:=true) rfl rfl (by decide)) rfl (aA rfl rfl (aG (XF.thenN (cI rfl (aD (aD (aH (aI (o':=2) dX rfl rfl rfl (aJ isAgg60 rfl (aF (hS.at_ 0 rfl) rfl) rfl (bN underlying60 rfl rfl (aB rfl rfl (aG (XF.thenN (aL (cE (fun m l W=>∃ (i:Nat),i≤kl∧m=kl - i∧l=[(1,.pointer (some ⟨B1,0,none⟩)),(38,.slice ka kl kc),(39,.int .i64 (kl:Int)),(40,.int .i64 (i:Int))]∧St w [(B1,[.int .i64 6,.string ⟨#[]⟩,.slice ka kl kc],62)] [] [] W) (kl - 0) ([(1,_),(38,_),(39,_),(40,_)]) ⟨rfl,rfl,rfl,rfl,trivial⟩ (⟨0,Nat.zero_le _,rfl,rfl,hS.clear⟩) ?_)))))))))))))))))))))))
 clear hS
 rintro m l W ⟨i,hi,rfl,rfl,hS⟩
 refine aD (aH (bK rfl rfl rfl (aG (XF.thenN (aD (bC rfl (fun hc=>?_) (fun hc=>?_)))))))
 ·have hc41:=of_decide_eq_true hc;clear hc
  obtain ⟨k,hki⟩:∃ k,kids[i]?=some k:=⟨_,List.getElem?_eq_getElem (by omega)⟩
  have hkop:=hop k (List.mem_of_getElem? hki)
  obtain ⟨b,off,hka,hcs⟩:=hk i k hki
  obtain ⟨ko,kn,kka,kkl,kkc,kks⟩:=k
  have k1:aK W b (off+i * 3) [.int .i64 ko,.string kn,.slice kka kkl kkc]:=aK.agree (aY hS.below 0) (Nat.zero_le _) hcs
  replace hkop:ko≠6:=hkop
  refine aS (XF.thenN (aD (aL (aD (aH ?_)))))
  refine aQ (j:=i) (b:=b) (o:=off) (m:=kl) (c:=kc) underlying60 sizeOf62 (by show some (Value.slice _ _ _)=_;rw [hka]) rfl rfl (by omega) rfl rfl ?_
  refine aO (vs:=[_,_,_]) isAgg62 sizeOf62 rfl k1 rfl (bS (cs:=[_,_,_]) hS zeroValue62 rfl rfl fun B2 W2 hS=>bQ (i:=0) (vs:=[_,_,_]) (cs':=[_,_,_]) (O':=[_,_]) hS sizeOf62 rfl rfl rfl rfl rfl rfl rfl fun W3 hS=>aG (XF.thenN (aD (aH (aI (o':=0) cU rfl rfl rfl (aJ isAgg59 rfl (aF (hS.at_ 0 rfl) rfl) rfl (aI (o':=0) cU rfl rfl rfl (aJ isAgg59 rfl (aF (hS.at_ 1 rfl) rfl) rfl (opV (bL (c:=false) rfl rfl (decide_eq_false hkop)) rfl (aG (XF.thenN (cB rfl (aS (XF.blkN (XF.thenN (aH (bB rfl rfl (IntWalk.i64_in _ (by omega)) rfl (aB rfl rfl (aG ?_)))))))))))))))))))
  exact XF.round (kl - (i+1)) [(1,_),(38,_),(39,_),(40,_)] (by omega) ⟨rfl,rfl,rfl,rfl,trivial⟩ ⟨i+1,by omega,rfl,rfl,hS.tail.clear⟩
 ·have hc41:=of_decide_eq_false hc;clear hc
  refine bX (XF.thenX (XF.thenX (XF.blkX (XF.thenN (aD (aH (aI (o':=2) dX rfl rfl rfl (aJ isAgg60 rfl (aF (hS.at_ 0 rfl) rfl) rfl (bN underlying60 rfl rfl (eF rfl rfl rfl (aA rfl rfl (aG (XF.thenN (bH (XF.blkR (XF.thenR (XF.res (bU results70 rfl) ?_)))))))))))))))))
  exact ⟨eH (decide_eq_true (by omega)),hS.below⟩
theorem sA (x:ReV) (w:World) (hx:ReIn w x) (hs:Shp x):Calls prog 70 #[x.val] w (fun e w'=>e = .returned (.bool true)∧Below w.heap.size w w'):=by
 cases hx with
 | @mk op nm ka kl kc kids h1 h2 h2c h3 h4 =>
  rcases hs with ⟨e1,e2,e3⟩ | ⟨e1,⟨e2,e3⟩ | ⟨e2,e3,e4⟩⟩
  ·change op=1 at e1
   change kids=[] at e3
   subst e1 e3
   obtain rfl:0=kl:=h1
   exact oW nm ka kc e2 w
  ·change nm=_ at e1
   change op=3 at e2
   change kids=[] at e3
   subst e1 e2 e3
   obtain rfl:0=kl:=h1
   exact oX ka kc w
  ·change nm=_ at e1
   change op=5∨op=6 at e2
   subst e1
   rcases e2 with rfl | rfl
   ·exact oY ka kl kc kids w h1 h2 h3 e3 (by rw [← h1];exact e4)
   ·exact oZ ka kl kc kids w h1 h2 h3 e3 (by rw [← h1];exact e4)
theorem qP:bD prog 55=true:=by kernel_rfl
theorem qQ:bD prog 56=true:=by kernel_rfl
theorem goes_70:bD prog 70=true:=by kernel_rfl
theorem jC {α:Type} {a b c:α} {l:List α}:(a::b::c::l).Perm (c::a::b::l):=List.perm_middle (l₁:=[a,b]) (a:=c) (l₂:=l)
theorem pA (op:Int) (nm:ByteArray) (ka:Option Addr) (kl kc:Nat) (kids:List ReV) (w:World) (hX:ReIn w (.mk op nm ka kl kc kids)) (hs:Shp (.mk op nm ka kl kc kids)) (hih:∀ k∈kids,∀ w,ReIn w k→Calls prog 56 #[k.val] w (fun e w'=>e = .returned (.bool true)∧Below w.heap.size w w')) :
  Calls prog 56 #[.agg #[.int .i64 op,.string nm,.slice ka kl kc]] w (fun e w'=>e = .returned (.bool true)∧Below w.heap.size w w'):=by
 refine bE (args:=[.agg #[.int .i64 op,.string nm,.slice ka kl kc]]) func56 rfl ntmps56 rfl ?_
 have hS:=St.start w
 obtain ⟨hkl,hk5,hk,hk4⟩:kids.length=kl∧kl≤500∧(∀ (i:Nat) k,kids[i]?=some k→∃ b off,ka=some ⟨b,off,none⟩∧aK w b (off+i * 3) k.cells)∧∀ k∈kids,ReIn w k:=(by cases hX with | mk h1 h2 h2c h3 h4=>exact ⟨h1,h2,h3,h4⟩)
 refine aD (aH (bY (cs:=[_,_,_]) hS rfl rfl rfl fun B1 W1 hS=>aA rfl rfl (aG (XF.thenN (aD (aD (aH (aI (o':=2) dX rfl rfl rfl (aJ isAgg60 rfl (aF (hS.at_ 0 rfl) rfl) rfl (bN underlying60 rfl rfl (aB rfl rfl (aG (XF.thenN (aL (cE (fun m l W=>∃ (i:Nat),i≤kl∧m=kl - i∧l=[(1,.pointer (some ⟨B1,0,none⟩)),(6,.slice ka kl kc),(7,.int .i64 (kl:Int)),(8,.int .i64 (i:Int))]∧St w [(B1,[.int .i64 op,.string nm,.slice ka kl kc],62)] [] [] W) (kl - 0) ([(1,_),(6,_),(7,_),(8,_)]) ⟨rfl,rfl,rfl,rfl,trivial⟩ (⟨0,Nat.zero_le _,rfl,rfl,hS.clear⟩) ?_)))))))))))))))
 clear hS
 rintro m l W ⟨i,hi,rfl,rfl,hS⟩
 refine aD (aH (bK rfl rfl rfl (aG (XF.thenN (aD (bC rfl (fun hc=>?_) (fun hc=>?_)))))))
 ·have hc9:=of_decide_eq_true hc;clear hc
  obtain ⟨k,hki⟩:∃ k,kids[i]?=some k:=⟨_,List.getElem?_eq_getElem (by omega)⟩
  have hkm:=List.mem_of_getElem? hki
  obtain ⟨b,off,hka,hcs0⟩:=hk i k hki
  have hcs:aK W b (off+i * 3) k.cells:=aK.agree (aY hS.below 0) (Nat.zero_le _) hcs0
  have hkx:=hk4 k hkm
  have hkc:=hih k hkm
  obtain ⟨ko,kn,kka,kkl,kkc,kks⟩:=k
  have k1:aK _ b (off+i * 3) [.int .i64 ko,.string kn,.slice kka kkl kkc]:=hcs
  refine aS (XF.thenN (aD (aL (aD (aH ?_)))))
  refine aQ (j:=i) (b:=b) (o:=off) (m:=kl) (c:=kc) underlying60 sizeOf62 (by show some (Value.slice _ _ _)=_;rw [hka]) rfl rfl (by omega) rfl rfl ?_
  refine aO (vs:=[_,_,_]) isAgg62 sizeOf62 rfl k1 rfl (bS (cs:=[_,_,_]) hS zeroValue62 rfl rfl fun B2 W2 hS=>bQ (i:=0) (vs:=[_,_,_]) (cs':=[_,_,_]) (O':=[_,_]) hS sizeOf62 rfl rfl rfl rfl rfl rfl rfl fun W3 hS=>aG (XF.thenN (aD (aH (aO (vs:=[_,_,_]) isAgg62 sizeOf62 rfl (aK.own (j:=0) (m:=3) (hS.at_ 0 rfl) rfl) rfl (bW (vs:=[_]) hS qQ rfl (hkc _ (hkx.keep hS.below)) rfl fun W4 hS=>cN rfl rfl (aG (XF.thenN (cB rfl (aS (XF.blkN (XF.thenN (aH (bB rfl rfl (IntWalk.i64_in _ (by omega)) rfl (aB rfl rfl (aG ?_))))))))))))))))
  exact XF.round (kl - (i+1)) [(1,_),(6,_),(7,_),(8,_)] (by omega) ⟨rfl,rfl,rfl,rfl,trivial⟩ ⟨i+1,by omega,rfl,rfl,hS.tail.clear⟩
 ·have hc9:=of_decide_eq_false hc;clear hc
  refine bX (XF.thenX (XF.thenX (XF.blkX (XF.thenN (aD (aH (aO (vs:=[_,_,_]) isAgg62 sizeOf62 rfl (aK.own (j:=0) (m:=3) (hS.at_ 0 rfl) rfl) rfl (bW (vs:=[_]) hS goes_70 rfl (sA (.mk op nm ka kl kc kids) _ (hX.keep hS.below) hs) rfl fun W5 hS=>aA rfl rfl (aG (XF.thenN (bH (XF.res (bU results56 rfl) ?_))))))))))))
  exact ⟨rfl,hS.below⟩
theorem uA (x:ReV) (hw:WellM x):∀ w,ReIn w x→Calls prog 56 #[x.val] w (fun e w'=>e = .returned (.bool true)∧Below w.heap.size w w'):=by
 induction hw with
 | @mk x h1 h2 ih =>
  intro w hx
  cases x with
  | mk op nm ka kl kc kids=>exact pA op nm ka kl kc kids w hx h2 ih
theorem pB (op:Int) (nm:ByteArray) (ka:Option Addr) (kl kc:Nat) (kids:List ReV) (d n NB:Nat) (f:Nat→Nat) (Kt:List (Nat×World)) (Ot:Own) (G:aX) (K:List (Nat×World)) (w0 w:World) (hS0:St w0 ((NB,[.int .i64 (n:Int)],3)::Ot) G K w) (hKt:∀ q∈Kt,q∈K) (hX:bT w0 Kt (fun W=>ReIn W (.mk op nm ka kl kc kids))) (hn:n+1≤500) (hd:d≤50) (hf0:f 0=n+1) (hih:∀ (i:Nat) k,kids[i]?=some k→∀ (NB:Nat) (Kt:List (Nat×World)) (Ot:Own) (G:aX) (K:List (Nat×World)) (w0 w:World),St w0 ((NB,[.int .i64 (f i:Int)],3)::Ot) G K w→(∀ q∈Kt,q∈K)→bT w0 Kt (fun W=>ReIn W k)→Calls prog 55 #[k.val,.int .i64 ((d+1:Nat):Int),.pointer (some ⟨NB,0,none⟩)] w (fun e w'=>e = .returned (.bool true)∧St w0 ((NB,[.int .i64 (f (i+1):Int)],3)::Ot) G K w')) :
  Calls prog 55 #[.agg #[.int .i64 op,.string nm,.slice ka kl kc],.int .i64 (d:Int),.pointer (some ⟨NB,0,none⟩)] w (fun e w'=>e = .returned (.bool true)∧St w0 ((NB,[.int .i64 (f kids.length:Int)],3)::Ot) G K w'):=by
 refine bE (args:=[.agg #[.int .i64 op,.string nm,.slice ka kl kc],.int .i64 (d:Int),.pointer (some ⟨NB,0,none⟩)]) func55 rfl ntmps55 rfl ?_
 have hS:=hS0
 obtain ⟨hkl,hk5⟩:kids.length=kl∧kl≤500:=(by cases hX hS0 hKt with | mk h1 h2 h2c h3 h4=>exact ⟨h1,h2⟩)
 have hk:bT w0 Kt (fun W=>∀ (i:Nat) k,kids[i]?=some k→∃ b off,ka=some ⟨b,off,none⟩∧aK W b (off+i * 3) k.cells):=fun h9 hk9=>(by cases hX h9 hk9 with | mk h1 h2 h2c h3 h4=>exact h3)
 have hk4:∀ k∈kids,bT w0 Kt (fun W=>ReIn W k):=fun k hk=>(show bT w0 Kt (fun W=>ReIn W k) from fun h9 hk9=>(by cases hX h9 hk9 with | mk h1 h2 h2c h3 h4=>exact h4 k hk))
 refine aD (aH (bY (cs:=[_,_,_]) hS rfl rfl rfl fun B1 W1 hS=>aA rfl rfl (aG (XF.thenN (aD (aH (aB rfl rfl (bJ rfl rfl (aJ isAgg3 rfl (aF (hS.at_ 1 rfl) rfl) rfl (bB rfl rfl (IntWalk.i64_in _ (by omega)) rfl (bJ rfl rfl (bV (i:=1) (cs':=[_]) (O':=(_::_::Ot)) hS sizeOf3 rfl rfl rfl rfl rfl rfl rfl fun W2 hS=>aG (XF.thenN (aD (aD (aH (aB rfl rfl (bJ rfl rfl (aJ isAgg3 rfl (aF (hS.at_ 1 rfl) rfl) rfl (dU rfl rfl rfl (aB rfl rfl (bF (d:=18) rfl (fun hc=>?_) (fun hc=>?_)))))))))))))))))))))))
 ·have hg18:=of_decide_eq_true hc;clear hc
  refine aE (d:=18) rfl rfl rfl rfl (aE (d:=18) rfl rfl rfl rfl (aN rfl rfl rfl (aG (XF.thenN (cI rfl (aD (aH (aA rfl rfl (aG (XF.thenN (bH (XF.thenR (XF.res (bU results55 rfl) ?_)))))))))))))
  exfalso;omega
 ·have hg18:=of_decide_eq_false hc;clear hc
  refine aC (d:=18) rfl rfl (aB rfl rfl (aC (d:=18) rfl rfl (dU rfl rfl rfl (bA rfl rfl rfl (aG (XF.thenN (bC rfl (fun hc=>?_) (fun hc=>?_))))))))
  ·have hc21:=of_decide_eq_true hc;clear hc
   refine aD (aH (aA rfl rfl (aG (XF.thenN (bH (XF.thenR (XF.res (bU results55 rfl) ?_)))))))
   exfalso;omega
  ·have hc21:=of_decide_eq_false hc;clear hc
   refine aS (XF.thenN (aD (aD ?_)))
   have e0:(n:Int)+1=(f 0:Int):=by omega
   rw [e0] at hS
   refine aH (aI (o':=2) dX rfl rfl rfl (aJ isAgg60 rfl (aF (hS.at_ 0 rfl) rfl) rfl (bN underlying60 rfl rfl (aB rfl rfl (aG (XF.thenN (aL (cE (fun m l W=>∃ (i:Nat),i≤kl∧m=kl - i∧l=[(1,.int .i64 (d:Int)),(2,.pointer (some ⟨NB,0,none⟩)),(23,.slice ka kl kc),(24,.int .i64 (kl:Int)),(25,.int .i64 (i:Int))]∧St w0 ((B1,[.int .i64 op,.string nm,.slice ka kl kc],62)::(NB,[.int .i64 (f i:Int)],3)::Ot) G K W) (kl - 0) ([(1,_),(2,_),(23,_),(24,_),(25,_)]) ⟨rfl,rfl,rfl,rfl,rfl,trivial⟩ (⟨0,Nat.zero_le _,rfl,rfl,hS.keep K (fun q hq=>by simp [hq])⟩) ?_))))))))
   clear hS
   rintro m l W ⟨i,hi,rfl,rfl,hS⟩
   refine aD (aH (bK rfl rfl rfl (aG (XF.thenN (aD (bC rfl (fun hc=>?_) (fun hc=>?_)))))))
   ·have hc26:=of_decide_eq_true hc;clear hc
    obtain ⟨k,hki⟩:∃ k,kids[i]?=some k:=⟨_,List.getElem?_eq_getElem (by omega)⟩
    have hkm:=List.mem_of_getElem? hki
    obtain ⟨b,off,hka,hcs⟩:=hk (hS.keep K (fun q hq=>by simp [hq])) hKt i k hki
    have hkx:bT w0 Kt (fun W=>ReIn W k):=hk4 k hkm
    have hkc:=hih i k hki
    obtain ⟨ko,kn,kka,kkl,kkc,kks⟩:=k
    have k1:aK _ b (off+i * 3) [.int .i64 ko,.string kn,.slice kka kkl kkc]:=hcs
    refine aS (XF.thenN (aD (aL (aD (aH ?_)))))
    refine aQ (j:=i) (b:=b) (o:=off) (m:=kl) (c:=kc) underlying60 sizeOf62 (by show some (Value.slice _ _ _)=_;rw [hka]) rfl rfl (by omega) rfl rfl ?_
    refine aO (vs:=[_,_,_]) isAgg62 sizeOf62 rfl k1 rfl (bS (cs:=[_,_,_]) hS zeroValue62 rfl rfl fun B3 W3 hS=>bQ (i:=0) (vs:=[_,_,_]) (cs':=[_,_,_]) (O':=(_::_::_::Ot)) hS sizeOf62 rfl rfl rfl rfl rfl rfl rfl fun W4 hS=>aG (XF.thenN (aD (aH (aO (vs:=[_,_,_]) isAgg62 sizeOf62 rfl (aK.own (j:=0) (m:=3) (hS.at_ 0 rfl) rfl) rfl (aB rfl rfl (bB rfl rfl (IntWalk.i64_in _ (by omega)) rfl (aB rfl rfl (aU (vs:=[_,_,_]) qP rfl (hkc NB Kt _ G K w0 _ ((hS.keep K (fun q hq=>by simp [hq])).perm jC) hKt hkx) rfl ?_)))))))))
    rintro e W9 ⟨rfl,hS9⟩
    refine ⟨_,rfl,?_⟩
    clear hS;have hS:=hS9.perm jC.symm;clear hS9
    refine cN rfl rfl (aG (XF.thenN (cB rfl (aS (XF.blkN (XF.thenN (aH (bB rfl rfl (IntWalk.i64_in _ (by omega)) rfl (aB rfl rfl (aG ?_))))))))))
    exact XF.round (kl - (i+1)) [(1,_),(2,_),(23,_),(24,_),(25,_)] (by omega) ⟨rfl,rfl,rfl,rfl,rfl,trivial⟩ ⟨i+1,by omega,rfl,rfl,hS.tail.keep K (fun q hq=>by simp [hq])⟩
   ·have hc26:=of_decide_eq_false hc;clear hc
    obtain rfl:i=kl:=by omega
    refine bX (XF.thenX (XF.thenX (XF.blkX (XF.thenN (aD (aH (aA rfl rfl (aG (XF.thenN (bH (XF.res (bU results55 rfl) ?_)))))))))))
    rw [hkl]
    exact ⟨rfl,(hS.keep K (fun q hq=>by simp [hq])).tail⟩
theorem uB {x:ReV} {d n n2:Nat} (hF:FitsR x d n n2):∀ (NB:Nat) (Kt:List (Nat×World)) (Ot:Own) (G:aX) (K:List (Nat×World)) (w0 w:World),St w0 ((NB,[.int .i64 (n:Int)],3)::Ot) G K w→(∀ q∈Kt,q∈K)→bT w0 Kt (fun W=>ReIn W x)→Calls prog 55 #[x.val,.int .i64 (d:Int),.pointer (some ⟨NB,0,none⟩)] w (fun e w'=>e = .returned (.bool true)∧St w0 ((NB,[.int .i64 (n2:Int)],3)::Ot) G K w'):=by
 induction hF with
 | @mk x d n f h1 h2 h3 h4 ih =>
  intro NB Kt Ot G K w0 w hS0 hKt hX
  cases x with
  | mk op nm ka kl kc kids=>exact pB op nm ka kl kc kids d n NB f Kt Ot G K w0 w hS0 hKt hX h1 h2 h3 ih
theorem kL (op:Int) (nm:ByteArray) (ka:Option Addr) (kl kc:Nat) (kids:List ReV) (n2:Nat) (w:World) (hX:ReIn w (.mk op nm ka kl kc kids)) (hF:FitsR (.mk op nm ka kl kc kids) 1 0 n2) (hw:WellM (.mk op nm ka kl kc kids)) :
  Calls prog 47 #[.agg #[.int .i64 op,.string nm,.slice ka kl kc]] w (fun e w'=>e = .returned (.int .i64 0)∧Below w.heap.size w w'):=by
 refine bE (args:=[.agg #[.int .i64 op,.string nm,.slice ka kl kc]]) func47 rfl ntmps47 rfl ?_
 have hS:=St.start w
 refine aD (aH (bY (cs:=[_,_,_]) hS rfl rfl rfl fun B1 W1 hS=>aA rfl rfl (aG (XF.thenN (aD (aH (bS (cs:=[_]) hS zeroValue3 rfl rfl fun B2 W2 hS=>bV (i:=0) (cs':=[_]) (O':=[_,_]) hS sizeOf3 rfl rfl rfl rfl rfl rfl rfl fun W3 hS=>aG (XF.thenN (aD (aD (aH (aO (vs:=[_,_,_]) isAgg62 sizeOf62 rfl (aK.own (j:=0) (m:=3) (hS.at_ 1 rfl) rfl) rfl (aU (vs:=[_,_,_]) qP rfl (uB hF B2 [] _ [] [] w _ (hS.keep [] (fun q hq=>by cases hq)) (fun q hq=>hq) (fun h9 hk9=>hX.keep h9.below)) rfl ?_)))))))))))))
 rintro e W9 ⟨rfl,hS9⟩
 refine ⟨_,rfl,?_⟩
 clear hS;have hS:=hS9;clear hS9
 refine cN rfl rfl (aG (XF.thenN (cB rfl (aS (XF.thenN (aD (aD (aH (aO (vs:=[_,_,_]) isAgg62 sizeOf62 rfl (aK.own (j:=0) (m:=3) (hS.at_ 1 rfl) rfl) rfl (bW (vs:=[_]) hS qQ rfl (uA (.mk op nm ka kl kc kids) hw _ (hX.keep hS.below)) rfl fun W4 hS=>cN rfl rfl (aG (XF.thenN (cB rfl (aS (XF.thenN (aD (aH (aA rfl rfl (aG (XF.thenN (bH (XF.res (bU results47 rfl) ?_))))))))))))))))))))))
 exact ⟨rfl,hS.below⟩
theorem iC (v0:Int) (v1:ByteArray):prog.built 62 [(0,.int .i64 v0),(1,.string v1)]=some #[.int .i64 v0,.string v1,.slice none 0 0]:=by kernel_rfl
theorem qR:bD prog 47=true:=by kernel_rfl
def mE:List ByteArray:=[⟨#[97]⟩,⟨#[98]⟩]
def kV:Nat→List (List UInt8×Int)
 | 0=>[]
 | 1=>[([97],0)]
 | _=>[([98],1),([97],0)]
theorem uC {i:Nat} (h:i≤2):(kV i).length=i:=by
 match i,h with
 | 0,_=>rfl
 | 1,_=>rfl
 | 2,_=>rfl
theorem nsAB_at {i:Nat} {s:ByteArray} (h:mE[i]?=some s):oV s∧s.size≤maxLen∧(kV i).any (fun p=>decide (p.1=s.data.toList))=false∧(s.data.toList,(i:Int))::kV i=kV (i+1):=by
 match i,h with
 | 0,h =>
  obtain rfl:(⟨#[97]⟩:ByteArray)=s:=by simpa [mE] using h
  exact ⟨.inl rfl,by decide,rfl,rfl⟩
 | 1,h =>
  obtain rfl:(⟨#[98]⟩:ByteArray)=s:=by simpa [mE] using h
  exact ⟨.inr rfl,by decide,by decide,rfl⟩
 | i+2,h=>simp [mE] at h
theorem mF {W:World} {s:ByteArray} (h:oV s):ReIn W (.mk 1 s none 0 0 [])∧FitsR (.mk 1 s none 0 0 []) 1 0 1∧WellM (.mk 1 s none 0 0 []) :=
 ⟨.mk rfl (by omega) (Nat.le_refl _) (fun i k hi=>by simp at hi) (fun k hk=>by cases hk),FitsR.mk (x:=.mk 1 s none 0 0 []) (f:=fun _=>1) (by omega) (by omega) rfl (fun i k hi=>by simp [ReV.kids] at hi),.mk (fun k hk=>by cases hk) (.inl ⟨rfl,h,rfl⟩)⟩
theorem sB (na:Option Addr) (nc:Nat) (w:World) (hN:tZ w na mE) :
  Calls prog 48 #[.slice na 2 nc] w (fun e w'=>∃ MB:Nat,e = .returned (.tuple #[.map (some MB),.bool true])∧MsI MB (kV 2) w'∧w.heap.size≤MB∧Below w.heap.size w w'):=by
 refine bE (args:=[.slice na 2 nc]) func48 rfl ntmps48 rfl ?_
 have hS:=St.start w
 refine aD (aH (aA rfl rfl (aA rfl rfl (aG (XF.thenN (aD (aH ?_)))))))
 have hsz0:=hS.below.size
 refine oB hS rfl ?_
 intro MB W9 hMB0 hlo hS9
 have hM0:=MsI.made hMB0
 clear hS;have hS:=hS9.clear;clear hS9
 refine aA rfl rfl (aG (XF.thenN (aD (aD (aH (aB rfl rfl (bN underlying77 rfl rfl (aB rfl rfl (aG (XF.thenN (aL (cE (fun m l W=>∃ (i:Nat),i≤2∧m=2 - i∧l=[(0,.slice na 2 nc),(4,.map (some MB)),(8,.slice na 2 nc),(9,.int .i64 ((2:Nat):Int)),(10,.int .i64 (i:Int))]∧MsI MB (kV i) W∧St w [] [] [] W) (2 - 0) ([(0,_),(4,_),(8,_),(9,_),(10,_)]) ⟨rfl,rfl,rfl,rfl,rfl,trivial⟩ (⟨0,Nat.zero_le _,rfl,rfl,hM0,hS.clear⟩) ?_))))))))))))
 clear hS
 have hlo9:w.heap.size≤MB:=Nat.le_trans hsz0 hlo
 rintro m l W ⟨i,hi,rfl,rfl,hM,hS⟩
 refine aD (aH (bK rfl rfl rfl (aG (XF.thenN (aD (bC rfl (fun hc=>?_) (fun hc=>?_)))))))
 ·have hc11:=of_decide_eq_true hc;clear hc
  obtain ⟨s,hs⟩:∃ s,mE[i]?=some s:=⟨_,List.getElem?_eq_getElem (show i < 2 by omega)⟩
  obtain ⟨hs1,hs2,hs3,hs4⟩:=nsAB_at hs
  obtain ⟨b,off,hna,hcs⟩:=hN i s hs
  have k1:=hS.old hcs
  have hlen9:=uC hi
  refine aS (XF.thenN (aD (aL (aD (aH (aB rfl rfl ?_))))))
  refine aQ (j:=i) (b:=b) (o:=off) (m:=2) (c:=nc) underlying77 sizeOf9 (by show some (Value.slice _ _ _)=_;rw [hna]) rfl rfl (by omega) rfl rfl ?_
  refine aJ isAgg9 rfl (k1) rfl (aA rfl rfl (aA rfl rfl (aG (XF.thenN (aD (aD (aH (aB rfl rfl (dF (us:=[(0,.int .i64 _),(1,.string _)]) rfl (iC _ _) rfl (gK (vs:=[_]) hS qR rfl (kL 1 s none 0 0 [] 1 _ (mF (W:=W) hs1).1 (mF (W:=W) hs1).2.1 (mF (W:=W) hs1).2.2) rfl ?_))))))))))
  rintro e W1 ⟨rfl,hb⟩
  refine ⟨_,rfl,hb,fun hS'=>?_⟩
  clear hS;have hS:=hS';clear hS'
  have hM2:=hM.below hb
  clear hb
  refine opV (gS (c:=false) rfl rfl (by decide)) rfl (aG (XF.thenN (cB rfl (aS (XF.thenN (aH (aB rfl rfl (aB rfl rfl (aB rfl rfl ?_)))))))))
  refine oU hS.clear hM2 hs2 (by rcases (by omega:i=0∨i=1) with rfl | rfl<;>rfl) hs3 (by rw [hlen9];simp only [maxLen];omega) hlo9 (fun q hq=>by cases hq) rfl rfl rfl ?_
  intro W95 hS9 hM3
  rw [hs4] at hM3
  clear hS;have hS:=hS9;clear hS9
  refine aG (XF.blkN (XF.thenN (aH (bB rfl rfl (IntWalk.i64_in _ (by omega)) rfl (aB rfl rfl (aG ?_))))))
  exact XF.round (2 - (i+1)) [(0,_),(4,_),(8,_),(9,_),(10,_)] (by omega) ⟨rfl,rfl,rfl,rfl,rfl,trivial⟩ ⟨i+1,by omega,rfl,rfl,hM3,hS.clear⟩
 ·have hc11:=of_decide_eq_false hc;clear hc
  obtain rfl:i=2:=by omega
  refine bX (XF.thenX (XF.thenX (XF.blkX (XF.thenN (aD (aH (aB rfl rfl (aB rfl rfl (opV (nN hM rfl) rfl (aB rfl rfl (bN underlying77 rfl rfl (opV (bL (c:=true) rfl rfl (by decide)) rfl (aA rfl rfl (aA rfl rfl (aG (XF.thenN (bH (XF.res (iE results48 rfl rfl) ?_))))))))))))))))))
  exact ⟨MB,rfl,hM,hlo9,hS.below⟩
theorem dJ (w:World) (b o:Nat):(Instr.fieldAt 94 (.pointer (some ⟨b,o,none⟩)) 0).run prog w = .ok (.pointer (some ⟨b,o+0,none⟩)) w:=by
 simp [Instr.fieldAt,run_underlying underlying94,Instr.sureAddr,go_sem,Addr.add_lit]
theorem fQ (w:World) (b o:Nat):(Instr.fieldAt 94 (.pointer (some ⟨b,o,none⟩)) 2).run prog w = .ok (.pointer (some ⟨b,o+6,none⟩)) w:=by
 simp [Instr.fieldAt,run_underlying underlying94,Instr.sureAddr,go_sem,Addr.add_lit]
inductive Lay (es:List (List UInt8×Int)):ReV→Int→Int→Nat→List ArV→Nat→List ArV→Prop
 | name {x:ReV} {f t v:Int} {n:Nat} {L:List ArV}:x.op=1→x.nm.size≤maxLen→es.find? (fun p=>decide (p.1=x.nm.data.toList))=some (x.nm.data.toList,v)→L.length < 65536→Lay es x f t n L n (L++[⟨f,v,t⟩])
 | emp {x:ReV} {f t:Int} {n:Nat} {L:List ArV}:x.op=3→L.length < 65536→Lay es x f t n L n (L++[⟨f,-1,t⟩])
 | seq {x:ReV} {f t:Int} {k n2:Nat} {L2:List ArV} (fr:Nat→Int) (sn:Nat→Nat) (sL:Nat→List ArV):x.op=5→x.kids.length=k+1→fr 0=f→(∀ i,i < k→sn i < 4096∧fr (i+1)=(sn i:Int)) →
   (∀ (i:Nat) c,i < k→x.kids[i]?=some c→Lay es c (fr i) (fr (i+1)) (sn i+1) (sL i) (sn (i+1)) (sL (i+1)))→(∀ c,x.kids[k]?=some c→Lay es c (fr k) t (sn k) (sL k) n2 L2)→Lay es x f t (sn 0) (sL 0) n2 L2
 | alt {x:ReV} {f t:Int} (sn:Nat→Nat) (sL tL:Nat→List ArV):x.op=6→(∀ i,i < x.kids.length→sn i+2≤4096∧(sL i).length < 65536∧(tL i).length < 65536∧sL (i+1)=tL i++[⟨(sn i:Int)+1,-1,t⟩]) →
   (∀ (i:Nat) c,x.kids[i]?=some c→Lay es c (sn i:Int) ((sn i:Int)+1) (sn i+2) (sL i++[⟨f,-1,(sn i:Int)⟩]) (sn (i+1)) (tL i))→Lay es x f t (sn 0) (sL 0) (sn x.kids.length) (sL x.kids.length)
theorem eO (BB MB n:Nat) (sy s0 e0:Int) (v4:Value) (Ot:Own) (G:aX) (K:List (Nat×World)) (w0 w:World) (hS0:St w0 ((BB,[.int .i64 (n:Int),.int .i64 sy,.int .i64 s0,.int .i64 e0,v4,.map (some MB),.bool false],94)::Ot) G K w) (hn:n < 4096) :
  Calls prog 57 #[.pointer (some ⟨BB,0,none⟩)] w (fun e w'=>e = .returned (.int .i64 (n:Int))∧St w0 ((BB,[.int .i64 ((n+1:Nat):Int),.int .i64 sy,.int .i64 s0,.int .i64 e0,v4,.map (some MB),.bool false],94)::Ot) G K w'):=by
 refine bE (args:=[.pointer (some ⟨BB,0,none⟩)]) func57 rfl ntmps57 rfl ?_
 have hS:=hS0
 refine aD (aH (aA rfl rfl (aG (XF.thenN (aD (aD (aH (aB rfl rfl (bJ rfl rfl (aI (o':=0) dJ rfl rfl rfl (aI (o':=0) cW rfl rfl rfl (aJ isAgg3 rfl (aF (hS.at_ 0 rfl) rfl) rfl (dN rfl rfl rfl (aG (XF.thenN (bC rfl (fun hc=>?_) (fun hc=>?_)))))))))))))))))
 ·have hc8:=of_decide_eq_true hc;clear hc
  refine aD (aH (aB rfl rfl (bJ rfl rfl (aI (o':=6) fQ rfl rfl rfl (bV (i:=0) (cs':=[_,_,_,_,_,_,_]) (O':=(_::Ot)) hS sizeOf4 rfl rfl rfl rfl rfl rfl rfl fun W1 hS=>aG (XF.thenN (aD (aH (aA rfl rfl (aG (XF.thenN (bH (XF.thenR (XF.res (bU results57 rfl) ?_))))))))))))))
  exfalso;omega
 ·have hc8:=of_decide_eq_false hc;clear hc
  refine aS (XF.thenN (aD (aH (aB rfl rfl (bJ rfl rfl (aI (o':=0) dJ rfl rfl rfl (aI (o':=0) cW rfl rfl rfl (aJ isAgg3 rfl (aF (hS.at_ 0 rfl) rfl) rfl (bB rfl rfl (IntWalk.i64_in _ (by omega)) rfl (bJ rfl rfl (aI (o':=0) dJ rfl rfl rfl (aI (o':=0) cW rfl rfl rfl (bV (i:=0) (cs':=[_,_,_,_,_,_,_]) (O':=(_::Ot)) hS sizeOf3 rfl rfl rfl rfl rfl rfl rfl fun W2 hS=>aG (XF.thenN (aD (aH (aB rfl rfl (bJ rfl rfl (aI (o':=0) dJ rfl rfl rfl (aI (o':=0) cW rfl rfl rfl (aJ isAgg3 rfl (aF (hS.at_ 0 rfl) rfl) rfl (lH rfl rfl (IntWalk.i64_in _ (by omega)) rfl (aA rfl rfl (aG (XF.thenN (bH (XF.res (bU results57 rfl) ?_)))))))))))))))))))))))))))
  have e9:(n:Int)+1 - 1=(n:Int):=by omega
  have e8:(n:Int)+1=((n+1:Nat):Int):=by omega
  refine ⟨?_,?_⟩
  ·rw [e9]
  ·rw [← e8];exact hS.keep K (fun q hq=>by simp [hq])
theorem jR (BB MB n:Nat) (sy s0 e0:Int) (f x t:Int) (L:List ArV) (wa:Option Addr) (wc:Nat) (Ot:Own) (G:aX) (K:List (Nat×World)) (w0 w:World) (hS0:St w0 ((BB,[.int .i64 (n:Int),.int .i64 sy,.int .i64 s0,.int .i64 e0,.slice wa L.length wc,.map (some MB),.bool false],94)::Ot) (⟨.slice wa (L).length wc,(L).length,(L).flatMap ArV.three,57,3⟩::G) K w) (hL:L.length < 65536) :
  Calls prog 71 #[.pointer (some ⟨BB,0,none⟩),.int .i64 f,.int .i64 x,.int .i64 t] w (fun e w'=>e = .returned (.tuple #[])∧∃ (wa:Option Addr) (wc:Nat),St w0 ((BB,[.int .i64 ((n:Nat):Int),.int .i64 sy,.int .i64 s0,.int .i64 e0,.slice wa (L++[ArV.mk f x t]).length wc,.map (some MB),.bool false],94)::Ot) (⟨.slice wa (L++[ArV.mk f x t]).length wc,(L++[ArV.mk f x t]).length,(L++[ArV.mk f x t]).flatMap ArV.three,57,3⟩::G) K w'):=by
 refine bE (args:=[.pointer (some ⟨BB,0,none⟩),.int .i64 f,.int .i64 x,.int .i64 t]) func71 rfl ntmps71 rfl ?_
 have hS:=hS0
 refine aD (aD (aH (aB rfl rfl (bJ rfl rfl (aI (o':=0) dJ rfl rfl rfl (aI (o':=4) cR rfl rfl rfl (aJ isAgg22 rfl (aF (hS.at_ 0 rfl) rfl) rfl (bN underlying22 rfl rfl (dN rfl rfl rfl (aG (XF.thenN (bC rfl (fun hc=>?_) (fun hc=>?_)))))))))))))
 ·have hc14:=of_decide_eq_true hc;clear hc
  refine aD (aH (aB rfl rfl (bJ rfl rfl (aI (o':=6) fQ rfl rfl rfl (bV (i:=0) (cs':=[_,_,_,_,_,_,_]) (O':=(_::Ot)) hS sizeOf4 rfl rfl rfl rfl rfl rfl rfl fun W1 hS=>aG (XF.thenN (bH (XF.thenR (XF.res (lG results71) ?_)))))))))
  exfalso;omega
 ·have hc14:=of_decide_eq_false hc;clear hc
  refine aS (XF.thenN (aH (aB rfl rfl (aB rfl rfl (bJ rfl rfl (aI (o':=0) dJ rfl rfl rfl (aI (o':=4) cR rfl rfl rfl (aJ isAgg22 rfl (aF (hS.at_ 0 rfl) rfl) rfl (aB rfl rfl (aB rfl rfl (aB rfl rfl (dF (us:=[(0,.int .i64 _),(1,.int .i64 _),(2,.int .i64 _)]) rfl (iR _ _ _) rfl (bP (us:=[(0,.agg (List.toArray [_,_,_]))]) hS underlying22 sizeOf57 zeroValue57 rfl rfl rfl (pX _ _ _) rfl fun B2 W2 hS=>?_)))))))))))))
  refine dT (i:=0) (news:=[_,_,_]) hS underlying22 oK rfl rfl (by show 0 < 3;decide) rfl rfl rfl rfl rfl (aK.own (j:=0) (m:=3) (hS.at_ 0 rfl) rfl) rfl rfl (by dsimp only;simp only [maxLen];omega) (by dsimp only;show _ * 24≤_;omega) rfl fun v3 W3 hS=>?_
  obtain ⟨wa8,wc8,e9,_⟩:=cL (hS.row 0 rfl)
  dsimp only at e9
  subst e9
  have hS9:=hS.castG (G':=(⟨.slice wa8 (L++[ArV.mk f x t]).length wc8,(L++[ArV.mk f x t]).length,(L++[ArV.mk f x t]).flatMap ArV.three,57,3⟩::G)) (by show GR.mk _ _ (L.flatMap ArV.three++[Value.int .i64 _,_,_]) _ _::_=_;simp)
  clear hS;have hS:=hS9;clear hS9
  refine bJ rfl rfl (aI (o':=0) dJ rfl rfl rfl (aI (o':=4) cR rfl rfl rfl (bV (i:=1) (cs':=[_,_,_,_,_,_,_]) (O':=(_::_::Ot)) hS sizeOf22 rfl rfl rfl rfl rfl rfl rfl fun W4 hS=>aG (XF.resN (lG results71) (⟨rfl,wa8,wc8,?_⟩)))))
  have e8:(L++[ArV.mk f x t]).length=L.length+1:=by simp
  have hS9:=hS.tail.castO (O':=((BB,[.int .i64 (n:Int),.int .i64 sy,.int .i64 s0,.int .i64 e0,.slice wa8 (L++[ArV.mk f x t]).length wc8,.map (some MB),.bool false],94)::Ot)) (by rw [e8])
  exact hS9.keep K (fun q hq=>by simp [hq])
theorem iX:bD prog 57=true:=by kernel_rfl
theorem jS:bD prog 58=true:=by kernel_rfl
theorem jT:bD prog 71=true:=by kernel_rfl
def pC (es:List (List UInt8×Int)) (x:ReV) (f t:Int) (n:Nat) (L:List ArV) (n2:Nat) (L2:List ArV):Prop:=∀ (BB MB:Nat) (sy s0 e0:Int) (wa:Option Addr) (wc:Nat) (Kt:List (Nat×World)) (Ot:Own) (G:aX) (K:List (Nat×World)) (w0 w:World),St w0 ((BB,[.int .i64 ((n:Nat):Int),.int .i64 sy,.int .i64 s0,.int .i64 e0,.slice wa (L).length wc,.map (some MB),.bool false],94)::Ot) (⟨.slice wa (L).length wc,(L).length,(L).flatMap ArV.three,57,3⟩::G) K w→(∀ q∈Kt,q∈K)→bT w0 Kt (fun W=>ReIn W x)→bT w0 Kt (fun W=>MsI MB es W)→Calls prog 58 #[.pointer (some ⟨BB,0,none⟩),x.val,.int .i64 f,.int .i64 t] w (fun e w'=>e = .returned (.tuple #[])∧∃ (wa:Option Addr) (wc:Nat),St w0 ((BB,[.int .i64 ((n2:Nat):Int),.int .i64 sy,.int .i64 s0,.int .i64 e0,.slice wa (L2).length wc,.map (some MB),.bool false],94)::Ot) (⟨.slice wa (L2).length wc,(L2).length,(L2).flatMap ArV.three,57,3⟩::G) K w')
theorem sC (BB MB n:Nat) (sy s0 e0:Int) (L L2:List ArV) (n2:Nat) (wa:Option Addr) (wc:Nat) (op:Int) (nm:ByteArray) (ka:Option Addr) (kl kc:Nat) (kids:List ReV) (f:Int) (es:List (List UInt8×Int)) (Kt:List (Nat×World)) (Ot:Own) (G:aX) (K:List (Nat×World)) (w0 w:World) (hS0:St w0 ((BB,[.int .i64 ((n:Nat):Int),.int .i64 sy,.int .i64 s0,.int .i64 e0,.slice wa (L).length wc,.map (some MB),.bool false],94)::Ot) (⟨.slice wa (L).length wc,(L).length,(L).flatMap ArV.three,57,3⟩::G) K w) (hKt:∀ q∈Kt,q∈K) (hM:bT w0 Kt (fun W=>MsI MB es W)) (hX:bT w0 Kt (fun W=>ReIn W (.mk op nm ka kl kc kids))) (hn:n+2≤4096) (hL:L.length < 65536) (hc:pC es (.mk op nm ka kl kc kids) (n:Int) ((n:Int)+1) (n+2) (L++[⟨f,-1,(n:Int)⟩]) n2 L2) :
  Calls prog 73 #[.pointer (some ⟨BB,0,none⟩),.agg #[.int .i64 op,.string nm,.slice ka kl kc],.int .i64 f] w (fun e w'=>e = .returned (.tuple #[.int .i64 (n:Int),.int .i64 ((n:Int)+1)])∧∃ (wa:Option Addr) (wc:Nat),St w0 ((BB,[.int .i64 ((n2:Nat):Int),.int .i64 sy,.int .i64 s0,.int .i64 e0,.slice wa (L2).length wc,.map (some MB),.bool false],94)::Ot) (⟨.slice wa (L2).length wc,(L2).length,(L2).flatMap ArV.three,57,3⟩::G) K w'):=by
 refine bE (args:=[.pointer (some ⟨BB,0,none⟩),.agg #[.int .i64 op,.string nm,.slice ka kl kc],.int .i64 f]) func73 rfl ntmps73 rfl ?_
 have hS:=hS0
 refine aD (aH (bY (cs:=[_,_,_]) hS rfl rfl rfl fun B1 W1 hS=>aA rfl rfl (aA rfl rfl (aG (XF.thenN (aD (aH (aB rfl rfl (aU (vs:=[_]) iX rfl (eO BB MB (n) sy s0 e0 (.slice wa L.length wc) _ _ K w0 _ ((hS.keep K (fun q hq=>by simp [hq])).perm (List.Perm.swap _ _ _)) (by omega)) rfl ?_)))))))))
 rintro e W9 ⟨rfl,hS9⟩
 refine ⟨_,rfl,?_⟩
 clear hS;have hS:=hS9.perm (List.Perm.swap _ _ _);clear hS9
 refine aB rfl rfl (aU (vs:=[_]) iX rfl (eO BB MB (n+1) sy s0 e0 (.slice wa L.length wc) _ _ K w0 _ ((hS.keep K (fun q hq=>by simp [hq])).perm (List.Perm.swap _ _ _)) (by omega)) rfl ?_)
 rintro e W9 ⟨rfl,hS9⟩
 refine ⟨_,rfl,?_⟩
 clear hS;have hS:=hS9.perm (List.Perm.swap _ _ _);clear hS9
 refine aA rfl rfl (aA rfl rfl (aG (XF.thenN (aD (aH (aB rfl rfl (aB rfl rfl (aB rfl rfl (aU (vs:=[_,_,_,_]) jT rfl (jR BB MB (n+2) sy s0 e0 (f) (-1) ((n:Int)) (L) _ _ _ _ K w0 _ ((hS.keep K (fun q hq=>by simp [hq])).perm (List.Perm.swap _ _ _)) (by omega)) rfl ?_)))))))))
 rintro e W9 ⟨rfl,wa1,wc1,hS9⟩
 refine ⟨_,rfl,?_⟩
 clear hS;have hS:=hS9.perm (List.Perm.swap _ _ _);clear hS9
 refine aG (XF.thenN (aD (aH (aB rfl rfl (aO (vs:=[_,_,_]) isAgg62 sizeOf62 rfl (aK.own (j:=0) (m:=3) (hS.at_ 0 rfl) rfl) rfl (aB rfl rfl (aB rfl rfl (aU (vs:=[_,_,_,_]) jS rfl (hc BB MB sy s0 e0 _ _ Kt _ _ K w0 _ ((hS.keep K (fun q hq=>by simp [hq])).perm (List.Perm.swap _ _ _)) hKt hX hM) rfl ?_))))))))
 rintro e W9 ⟨rfl,wa2,wc2,hS9⟩
 refine ⟨_,rfl,?_⟩
 clear hS;have hS:=hS9.perm (List.Perm.swap _ _ _);clear hS9
 refine aG (XF.thenN (aD (aH (aB rfl rfl (aB rfl rfl (aA rfl rfl (aA rfl rfl (aG (XF.thenN (bH (XF.res (iE results73 rfl rfl) ?_)))))))))))
 exact ⟨rfl,wa2,wc2,(hS.keep K (fun q hq=>by simp [hq])).tail⟩
theorem sD (BB MB n2 k:Nat) (sy s0 e0:Int) (L2:List ArV) (wa:Option Addr) (wc:Nat) (ka:Option Addr) (kl kc:Nat) (kids:List ReV) (f t:Int) (fr:Nat→Int) (sn:Nat→Nat) (sL:Nat→List ArV) (es:List (List UInt8×Int)) (Kt:List (Nat×World)) (Ot:Own) (G:aX) (K:List (Nat×World)) (w0 w:World) (hS0:St w0 ((BB,[.int .i64 ((sn 0:Nat):Int),.int .i64 sy,.int .i64 s0,.int .i64 e0,.slice wa (sL 0).length wc,.map (some MB),.bool false],94)::Ot) (⟨.slice wa (sL 0).length wc,(sL 0).length,(sL 0).flatMap ArV.three,57,3⟩::G) K w) (hKt:∀ q∈Kt,q∈K) (hM:bT w0 Kt (fun W=>MsI MB es W)) (hk3:bT w0 Kt (fun W=>∀ (i:Nat) k,kids[i]?=some k→∃ b off,ka=some ⟨b,off,none⟩∧aK W b (off+i * 3) k.cells)) (hk4:∀ k∈kids,bT w0 Kt (fun W=>ReIn W k)) (hkl:kids.length=kl) (hk5:kl≤500) (hkc:kl≤kc) (hkk:kl=k+1) (hf0:fr 0=f) (h1:∀ i,i < k→sn i < 4096∧fr (i+1)=(sn i:Int)) (h2:∀ (i:Nat) c,i < k→kids[i]?=some c→pC es c (fr i) (fr (i+1)) (sn i+1) (sL i) (sn (i+1)) (sL (i+1))) (h3:∀ c,kids[k]?=some c→pC es c (fr k) t (sn k) (sL k) n2 L2) :
  Calls prog 72 #[.pointer (some ⟨BB,0,none⟩),.slice ka kl kc,.int .i64 f,.int .i64 t] w (fun e w'=>e = .returned (.tuple #[])∧∃ (wa:Option Addr) (wc:Nat),St w0 ((BB,[.int .i64 ((n2:Nat):Int),.int .i64 sy,.int .i64 s0,.int .i64 e0,.slice wa (L2).length wc,.map (some MB),.bool false],94)::Ot) (⟨.slice wa (L2).length wc,(L2).length,(L2).flatMap ArV.three,57,3⟩::G) K w'):=by
 refine bE (args:=[.pointer (some ⟨BB,0,none⟩),.slice ka kl kc,.int .i64 f,.int .i64 t]) func72 rfl ntmps72 rfl ?_
 have hS:=hS0
 subst hf0
 refine aD (aH (aB rfl rfl (bN underlying60 rfl rfl (lH rfl rfl (IntWalk.i64_in _ (by omega)) rfl (aA rfl rfl (aG (XF.thenN (aD (aD ?_)))))))))
 obtain ⟨k0,hki⟩:∃ c,kids[0]?=some c:=⟨_,List.getElem?_eq_getElem (by omega)⟩
 have hkm:=List.mem_of_getElem? hki
 obtain ⟨b,off,hka,hcs⟩:=hk3 (hS.keep K (fun q hq=>by simp [hq])) hKt 0 k0 hki
 have hkx:bT w0 Kt (fun W=>ReIn W k0):=hk4 k0 hkm
 clear hcs hkx
 refine aH (aB rfl rfl (aB rfl rfl (oD (k:=k) underlying60 sizeOf62 rfl rfl (by omega) (by omega) (by omega) (fun p hp=>⟨b,off,Option.some.inj (hp.symm.trans hka)⟩) rfl (bN underlying60 rfl rfl (aB rfl rfl (aG (XF.thenN (aL (cE (fun m l W=>∃ (i:Nat) (wa:Option Addr) (wc:Nat),i≤k∧m=k - i∧l=[(0,.pointer (some ⟨BB,0,none⟩)),(1,.slice ka kl kc),(2,.int .i64 (fr i)),(3,.int .i64 t),(8,.int .i64 ((kl:Int) - 1)),(17,.slice ka k kc),(18,.int .i64 (k:Int)),(19,.int .i64 (i:Int))]∧St w0 ((BB,[.int .i64 ((sn i:Nat):Int),.int .i64 sy,.int .i64 s0,.int .i64 e0,.slice wa (sL i).length wc,.map (some MB),.bool false],94)::Ot) (⟨.slice wa (sL i).length wc,(sL i).length,(sL i).flatMap ArV.three,57,3⟩::G) K W) (k - 0) ([(0,_),(1,_),(2,_),(3,_),(8,_),(17,_),(18,_),(19,_)]) ⟨rfl,rfl,rfl,rfl,rfl,rfl,rfl,rfl,trivial⟩ (⟨0,wa,wc,Nat.zero_le _,rfl,rfl,hS.keep K (fun q hq=>by simp [hq])⟩) ?_)))))))))
 clear hS
 clear hka hki hkm
 rintro m l W ⟨i,wa,wc,hi,rfl,rfl,hS⟩
 refine aD (aH (bK rfl rfl rfl (aG (XF.thenN (aD (bC rfl (fun hc=>?_) (fun hc=>?_)))))))
 ·have hc20:=of_decide_eq_true hc;clear hc
  obtain ⟨k9,hki⟩:∃ c,kids[i]?=some c:=⟨_,List.getElem?_eq_getElem (by omega)⟩
  have hkm:=List.mem_of_getElem? hki
  obtain ⟨b,off,hka,hcs⟩:=hk3 (hS.keep K (fun q hq=>by simp [hq])) hKt i k9 hki
  have hkx:bT w0 Kt (fun W=>ReIn W k9):=hk4 k9 hkm
  obtain ⟨hsn,hfr⟩:=h1 i (by omega)
  have hkl9:=h2 i k9 (by omega) hki
  rw [hfr] at hkl9
  obtain ⟨ko,kn,kka,kkl,kkc,kks⟩:=k9
  have k1:aK _ b (off+i * 3) [.int .i64 ko,.string kn,.slice kka kkl kkc]:=hcs
  refine aS (XF.thenN (aD (aL (aD (aH ?_)))))
  refine aQ (j:=i) (b:=b) (o:=off) (m:=k) (c:=kc) underlying60 sizeOf62 (by show some (Value.slice _ _ _)=_;rw [hka]) rfl rfl (by omega) rfl rfl ?_
  refine aO (vs:=[_,_,_]) isAgg62 sizeOf62 rfl k1 rfl (bS (cs:=[_,_,_]) hS zeroValue62 rfl rfl fun B1 W1 hS=>bQ (i:=0) (vs:=[_,_,_]) (cs':=[_,_,_]) (O':=(_::_::Ot)) hS sizeOf62 rfl rfl rfl rfl rfl rfl rfl fun W2 hS=>aG (XF.thenN (aD (aH (aB rfl rfl (aU (vs:=[_]) iX rfl (eO BB MB (sn i) sy s0 e0 (.slice wa (sL i).length wc) _ _ K w0 _ ((hS.keep K (fun q hq=>by simp [hq])).perm (List.Perm.swap _ _ _)) (by omega)) rfl ?_))))))
  rintro e W9 ⟨rfl,hS9⟩
  refine ⟨_,rfl,?_⟩
  clear hS;have hS:=hS9.perm (List.Perm.swap _ _ _);clear hS9
  refine aA rfl rfl (aG (XF.thenN (aD (aH (aB rfl rfl (aO (vs:=[_,_,_]) isAgg62 sizeOf62 rfl (aK.own (j:=0) (m:=3) (hS.at_ 0 rfl) rfl) rfl (aB rfl rfl (aB rfl rfl (aU (vs:=[_,_,_,_]) jS rfl (hkl9 BB MB sy s0 e0 _ _ Kt _ _ K w0 _ ((hS.keep K (fun q hq=>by simp [hq])).perm (List.Perm.swap _ _ _)) hKt hkx hM) rfl ?_)))))))))
  rintro e W9 ⟨rfl,wa2,wc2,hS9⟩
  refine ⟨_,rfl,?_⟩
  clear hS;have hS:=hS9.perm (List.Perm.swap _ _ _);clear hS9
  refine aG (XF.thenN (aH (aB rfl rfl (aA rfl rfl (aG (XF.blkN (XF.thenN (aH (bB rfl rfl (IntWalk.i64_in _ (by omega)) rfl (aB rfl rfl (aG ?_)))))))))))
  exact XF.round (k - (i+1)) [(0,_),(1,_),(2,_),(3,_),(8,_),(17,_),(18,_),(19,_)] (by omega) ⟨rfl,rfl,rfl,rfl,rfl,rfl,rfl,rfl,trivial⟩ ⟨i+1,wa2,wc2,by omega,rfl,by rw [hfr];rfl,hS.tail.keep K (fun q hq=>by simp [hq])⟩
 ·have hc20:=of_decide_eq_false hc;clear hc
  obtain rfl:i=k:=by omega
  obtain ⟨k9,hki⟩:∃ c,kids[i]?=some c:=⟨_,List.getElem?_eq_getElem (by omega)⟩
  have hkm:=List.mem_of_getElem? hki
  obtain ⟨b,off,hka,hcs⟩:=hk3 (hS.keep K (fun q hq=>by simp [hq])) hKt i k9 hki
  have hkx:bT w0 Kt (fun W=>ReIn W k9):=hk4 k9 hkm
  have hkl9:=h3 k9 hki
  obtain ⟨ko,kn,kka,kkl,kkc,kks⟩:=k9
  have k1:aK _ b (off+i * 3) [.int .i64 ko,.string kn,.slice kka kkl kkc]:=hcs
  refine bX (XF.thenX (XF.thenX (XF.blkX (XF.thenN (aH (aB rfl rfl (aB rfl rfl (aB rfl rfl ?_))))))))
  refine aQ (j:=i) (b:=b) (o:=off) (m:=kl) (c:=kc) underlying60 sizeOf62 (by show some (Value.slice _ _ _)=_;rw [hka]) rfl (by omega) (by omega) rfl rfl ?_
  refine aO (vs:=[_,_,_]) isAgg62 sizeOf62 rfl k1 rfl (aB rfl rfl (aB rfl rfl (aU (vs:=[_,_,_,_]) jS rfl (hkl9 BB MB sy s0 e0 _ _ Kt _ _ K w0 _ ((hS.keep K (fun q hq=>by simp [hq])).perm (List.Perm.refl _)) hKt hkx hM) rfl ?_)))
  rintro e W9 ⟨rfl,wa2,wc2,hS9⟩
  refine ⟨_,rfl,?_⟩
  clear hS;have hS:=hS9.perm (List.Perm.refl _);clear hS9
  refine aG (XF.resN (lG results72) ?_)
  exact ⟨rfl,wa2,wc2,hS.keep K (fun q hq=>by simp [hq])⟩
end
end Go.Proofs.Ytpgmnbgkejiomaa
