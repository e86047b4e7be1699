import Derived.Laws.StructEq
import Derived.Lib.SmallJoins
import Derived.Deep.Slices
import Derived.Deep.Fields
import Derived.ChangeSlices
import Derived.ChangeSame
import Derived.ProofKit
import Derived.SizedLaws
import Derived.Test.YtpgmnbgkejiomaaNtB
set_option maxRecDepth 100000
set_option maxHeartbeats 4000000
set_option linter.unusedVariables false
set_option linter.unusedSimpArgs false
set_option linter.unusedSectionVars false
set_option linter.unnecessarySimpa false
namespace Go.Proofs.Ytpgmnbgkejiomaa
open Go.Proofs.Try
section
open Go.RowKit
def LmI (S:ArV→Prop) (x:Int):Prop:=(x = -1∧∀ t,¬ S t)∨(0≤x∧(∃ t,S t∧x=max t.s 0)∧∀ t,S t→x≤max t.s 0)
theorem LmI.congr {S R:ArV→Prop} {x:Int} (h:LmI S x) (e:∀ t,S t↔R t):LmI R x:=by
 have:S=R:=funext fun t=>propext (e t)
 rw [← this];exact h
theorem LmI.add {S:ArV→Prop} {x:Int} {t:ArV} (h:LmI S x) (hx:x < 0∨max t.s 0 < x):LmI (fun u=>S u∨u=t) (max t.s 0):=by
 refine .inr ⟨by omega,⟨t,.inr rfl,rfl⟩,fun u hu=>?_⟩
 rcases hu with hu | rfl
 ·rcases h with ⟨h1,h2⟩ | ⟨h1,h2,h3⟩
  ·exact absurd hu (h2 u)
  ·have:=h3 u hu;omega
 ·exact Int.le_refl _
theorem LmI.stay {S:ArV→Prop} {x:Int} {t:ArV} (h:LmI S x) (h0:¬ x < 0) (h1:¬ max t.s 0 < x):LmI (fun u=>S u∨u=t) x:=by
 rcases h with ⟨h2,h3⟩ | ⟨h2,⟨u,h3,h4⟩,h5⟩
 ·omega
 ·refine .inr ⟨h2,⟨u,.inl h3,h4⟩,fun v hv=>?_⟩
  rcases hv with hv | rfl
  ·exact h5 v hv
  ·omega
def LkS (L:List ArV) (fs:List Int) (n:Nat) (lp:List Nat) (i p z:Nat) (t:ArV):Prop:=((∃ p2∈lp.take i,t∈outs L p2)∨t∈(outs L p).take z)∧t.s ≠ -1∧fs.getD t.q.toNat 0=(n:Int)
section
variable {L:List ArV} {fs:List Int} {n i p z:Nat} {lp:List Nat} {t:ArV} {x:Int}
theorem qN:LmI (LkS L fs n lp 0 p 0) (-1):=.inl ⟨rfl,fun t h=>by rcases h.1 with ⟨q,h1,_⟩ | h1<;>cases h1⟩
theorem lks_any {p2:Nat} (h:LmI (LkS L fs n lp i p 0) x):LmI (LkS L fs n lp i p2 0) x:=h.congr fun t=>by unfold LkS;simp
theorem sM (h:LmI (LkS L fs n lp i p z) x) (ht:(outs L p)[z]?=some t) (h1:t.s = -1∨fs.getD t.q.toNat 0≠(n:Int)):LmI (LkS L fs n lp i p (z+1)) x:=h.congr fun u=>by
 unfold LkS
 rw [List.take_add_one,ht]
 constructor
 ·rintro ⟨h2,h3⟩
  exact ⟨h2.imp id (List.mem_append_left _),h3⟩
 ·rintro ⟨h2 | h2,h3⟩
  ·exact ⟨.inl h2,h3⟩
  ·rcases List.mem_append.1 h2 with h2 | h2
   ·exact ⟨.inr h2,h3⟩
   ·obtain rfl:u=t:=by simpa using h2
    exact h1.elim (fun h=>absurd h h3.1) (fun h=>absurd h3.2 h)
theorem lJ (h:LmI (fun u=>LkS L fs n lp i p z u∨u=t) x) (ht:(outs L p)[z]?=some t) (h1:t.s ≠ -1) (h2:fs.getD t.q.toNat 0=(n:Int)):LmI (LkS L fs n lp i p (z+1)) x:=h.congr fun u=>by
 unfold LkS
 rw [List.take_add_one,ht]
 constructor
 ·rintro (⟨h2,h3⟩ | rfl)
  ·exact ⟨h2.imp id (List.mem_append_left _),h3⟩
  ·exact ⟨.inr (List.mem_append_right _ (by simp)),h1,h2⟩
 ·rintro ⟨h2 | h2,h3⟩
  ·exact .inl ⟨.inl h2,h3⟩
  ·rcases List.mem_append.1 h2 with h2 | h2
   ·exact .inl ⟨.inr h2,h3⟩
   ·exact .inr (by simpa using h2)
theorem sN (h:LmI (LkS L fs n lp i p (outs L p).length) x) (hp:lp[i]?=some p):LmI (LkS L fs n lp (i+1) 0 0) x:=h.congr fun u=>by
 unfold LkS
 rw [List.take_of_length_le (Nat.le_refl _),List.take_add_one,hp]
 constructor
 ·rintro ⟨⟨p2,h1,h2⟩ | h2,h3⟩
  ·exact ⟨.inl ⟨p2,List.mem_append_left _ h1,h2⟩,h3⟩
  ·exact ⟨.inl ⟨p,List.mem_append_right _ (by simp),h2⟩,h3⟩
 ·rintro ⟨⟨p2,h1,h2⟩ | h2,h3⟩
  ·rcases List.mem_append.1 h1 with h1 | h1
   ·exact ⟨.inl ⟨p2,h1,h2⟩,h3⟩
   ·obtain rfl:p2=p:=by simpa using h1
    exact ⟨.inr h2,h3⟩
  ·cases h2
theorem lks_end (h:LmI (LkS L fs n lp lp.length 0 0) x):LmI (fun t=>(∃ p∈lp,t∈outs L p)∧t.s ≠ -1∧fs.getD t.q.toNat 0=(n:Int)) x:=h.congr fun u=>by
 unfold LkS
 rw [List.take_of_length_le (Nat.le_refl _)]
 constructor
 ·rintro ⟨h2 | h2,h3⟩
  ·exact ⟨h2,h3⟩
  ·cases h2
 ·rintro ⟨h2,h3⟩
  exact ⟨.inl h2,h3⟩
end
theorem lK (n:Nat) (L:List ArV) (OB:Nat) (va:Nat→Option Addr) (vc:Nat→Nat) (RB SB:Nat) (r0:Int) (la:Option Addr) (ll lc:Nat) (lp:List Nat) (fa:Option Addr) (fc:Nat) (fs:List Int) (left:Nat) (Kt:List (Nat×World)) (Ot:Own) (G:aS) (K:List (Nat×World)) (w0 w:World) (hS0:St w0 ((RB,[.slice (some ⟨OB,0,none⟩) n n,.slice (some ⟨SB,0,none⟩) n n,.int .i64 r0],73)::Ot) G K w) (hKt:∀ q∈Kt,q∈K) (hOut:bS w0 Kt (fun W=>iA W OB n L va vc)) (hLs:bS w0 Kt (fun W=>Row W la (nI lp))) (hFs:bS w0 Kt (fun W=>Row W fa fs)) (hll:lp.length=ll) (hln:ll≤n) (hlt:∀ p∈lp,p < n) (hq:∀ t∈L,0≤t.q∧t.q < (n:Int)) (hLl:L.length≤65536) (hfl:fs.length=n) (hn4:n≤4096) (hl9:left≤1000000) :
  Calls prog 38 #[.pointer (some ⟨RB,0,none⟩),.slice la ll lc,.slice fa n fc,.int .i64 ((left:Int)+1)] w (fun e w'=>∃ x:Int,e = .returned (.int .i64 x)∧LmI (fun t=>(∃ p∈lp,t∈outs L p)∧t.s ≠ -1∧fs.getD t.q.toNat 0=(left:Int)) x∧St w0 ((RB,[.slice (some ⟨OB,0,none⟩) n n,.slice (some ⟨SB,0,none⟩) n n,.int .i64 r0],73)::Ot) G K w'):=by
 refine bF (args:=[.pointer (some ⟨RB,0,none⟩),.slice la ll lc,.slice fa n fc,.int .i64 ((left:Int)+1)]) func38 rfl ntmps38 rfl ?_
 have hS:=hS0
 refine aD (aI (aB rfl rfl (aG (XF.thenN (aD (aI (aB rfl rfl (aG (XF.thenN (aD (aD (aI (aA rfl rfl (bI underlying25 rfl rfl (aA rfl rfl (aG (XF.thenN (aL (cF (fun m l W=>∃ (i:Nat) (x:Int),i≤ll∧m=ll - i∧l=[(0,.pointer (some ⟨RB,0,none⟩)),(2,.slice fa n fc),(3,.int .i64 ((left:Int)+1)),(9,.int .i64 x),(15,.slice la ll lc),(16,.int .i64 (ll:Int)),(17,.int .i64 (i:Int))]∧LmI (LkS L fs left lp i 0 0) x∧St w0 ((RB,[.slice (some ⟨OB,0,none⟩) n n,.slice (some ⟨SB,0,none⟩) n n,.int .i64 r0],73)::Ot) G K W) (ll - 0) ([(0,_),(2,_),(3,_),(9,_),(15,_),(16,_),(17,_)]) ⟨rfl,rfl,rfl,rfl,rfl,rfl,rfl,trivial⟩ (⟨0,-1,Nat.zero_le _,rfl,rfl,qN,hS.keep K (fun q hq=>by simp [hq])⟩) ?_)))))))))))))))))))
 clear hS
 rintro m l W ⟨i,x,hi,rfl,rfl,hlm,hS⟩
 refine aD (aI (bJ rfl rfl rfl (aG (XF.thenN (aD (bE rfl (fun hc=>?_) (fun hc=>?_)))))))
 ·have hc18:=of_decide_eq_true hc;clear hc
  obtain ⟨p,hp⟩:∃ p,lp[i]?=some p:=⟨_,List.getElem?_eq_getElem (by omega)⟩
  have hpn:=hlt p (List.mem_of_getElem? hp)
  obtain ⟨b,off,y,hla,hy,hyc⟩:=(hLs (hS.keep K (fun q hq=>by simp [hq])) hKt).at1 (show i < (nI lp).length by rw [fS];omega)
  obtain rfl:y=(p:Int):=by unfold nI at hy;rw [List.getElem?_map,hp] at hy;exact (Option.some.inj hy).symm
  obtain ⟨hoc,_⟩:=hOut (hS.keep K (fun q hq=>by simp [hq])) hKt p hpn
  have hol9:(outs L p).length≤65536:=Nat.le_trans (List.length_filter_le _ _) hLl
  have hlm2:=lks_any (p2:=p) hlm
  refine aP (XF.thenN (aD (aL (aD (aI ?_)))))
  refine aR (j:=i) (b:=b) (o:=off) (m:=ll) (c:=lc) underlying25 sizeOf3 (by show some (Value.slice _ _ _)=_;rw [hla]) rfl rfl (by omega) rfl rfl ?_
  refine aJ isAgg3 rfl (hyc) rfl (aB rfl rfl (aG (XF.thenN (aD (aI (aA rfl rfl (bB rfl rfl (aH (o':=0) fY rfl rfl rfl (aJ isAgg71 rfl (aE (hS.at_ 0 rfl) rfl) rfl (aA rfl rfl (aR (j:=p) (b:=OB) (o:=0) (m:=n) (c:=n) underlying71 sizeOf22 rfl rfl rfl (by omega) rfl rfl (aJ isAgg22 rfl (hoc) rfl (bI underlying22 rfl rfl (aA rfl rfl (aG (XF.thenN (aL (cF (fun m l W=>∃ (z:Nat) (x:Int),z≤(outs L p).length∧m=(outs L p).length - z∧l=[(0,.pointer (some ⟨RB,0,none⟩)),(2,.slice fa n fc),(3,.int .i64 ((left:Int)+1)),(9,.int .i64 x),(15,.slice la ll lc),(16,.int .i64 (ll:Int)),(17,.int .i64 (i:Int)),(27,.slice (va p) (outs L p).length (vc p)),(28,.int .i64 ((outs L p).length:Int)),(29,.int .i64 (z:Int))]∧LmI (LkS L fs left lp i p z) x∧St w0 ((RB,[.slice (some ⟨OB,0,none⟩) n n,.slice (some ⟨SB,0,none⟩) n n,.int .i64 r0],73)::Ot) G K W) ((outs L p).length - 0) ([(0,_),(2,_),(3,_),(9,_),(15,_),(16,_),(17,_),(27,_),(28,_),(29,_)]) ⟨rfl,rfl,rfl,rfl,rfl,rfl,rfl,rfl,rfl,rfl,trivial⟩ (⟨0,x,Nat.zero_le _,rfl,rfl,hlm2,hS.keep K (fun q hq=>by simp [hq])⟩) ?_))))))))))))))))))
  clear hS
  have hil:i < ll:=by omega
  clear hlm hlm2 hi hoc hyc hy
  rintro m l W ⟨z,x,hz,rfl,rfl,hlm,hS⟩
  refine aD (aI (bJ rfl rfl rfl (aG (XF.thenN (aD (bE rfl (fun hc=>?_) (fun hc=>?_)))))))
  ·have hc30:=of_decide_eq_true hc;clear hc
   obtain ⟨t,ht⟩:∃ t,(outs L p)[z]?=some t:=⟨_,List.getElem?_eq_getElem (by omega)⟩
   obtain ⟨b,off,haa,hcs⟩:=(hOut (hS.keep K (fun q hq=>by simp [hq])) hKt p hpn).2 z t ht
   have k1:=hcs
   obtain ⟨hq0,hq1⟩:=hq t (List.mem_filter.1 (List.mem_of_getElem? ht)).1
   obtain ⟨qn,hqn⟩:∃ k:Nat,t.q=(k:Int):=⟨t.q.toNat,by omega⟩
   have hqn2:t.q.toNat=qn:=by omega
   refine aP (XF.thenN (aD (aL (aD (aI ?_)))))
   refine aR (j:=z) (b:=b) (o:=off) (m:=(outs L p).length) (c:=vc p) underlying22 sizeOf57 (by show some (Value.slice _ _ _)=_;rw [haa]) rfl rfl (by omega) rfl rfl ?_
   refine aN (vs:=[_,_,_]) isAgg57 sizeOf57 rfl k1 rfl (aX (cs:=[_,_,_]) hS zeroValue57 rfl rfl fun B1 W1 hS=>aV (i:=0) (vs:=[_,_,_]) (cs':=[_,_,_]) (O':=(_::_::Ot)) hS sizeOf57 rfl rfl rfl rfl rfl rfl rfl fun W2 hS=>aG (XF.thenN (aD (aD ?_))))
   obtain ⟨b2,off2,y2,hfa,hy2,hyc2⟩:=(hFs (hS.keep K (fun q hq=>by simp [hq])) hKt).at1 (show qn < fs.length by omega)
   have hy3:fs.getD qn 0=y2:=by rw [List.getD_eq_getElem?_getD,hy2];rfl
   refine aI (aH (o':=1) dH rfl rfl rfl (aJ isAgg3 rfl (aE (hS.at_ 0 rfl) rfl) rfl (dX rfl rfl rfl (aA rfl rfl (bD (d:=36) rfl (fun hc=>?_) (fun hc=>?_))))))
   ·have hg36:=of_decide_eq_true hc;clear hc
    refine aF (d:=36) rfl rfl rfl rfl (aF (d:=36) rfl rfl rfl rfl (aF (d:=36) rfl rfl rfl rfl (aF (d:=36) rfl rfl rfl rfl (aF (d:=36) rfl rfl rfl rfl (aF (d:=36) rfl rfl rfl rfl (aF (d:=36) rfl rfl rfl rfl (aF (d:=36) rfl rfl rfl rfl (aM rfl rfl rfl (aG (XF.thenN (cH rfl (bW (XF.thenX (XF.blkX (XF.thenN (aI (bC rfl rfl (IntWalk.i64_in _ (by omega)) rfl (aA rfl rfl (aG ?_)))))))))))))))))))
    exact XF.round ((outs L p).length - (z+1)) [(0,_),(2,_),(3,_),(9,_),(15,_),(16,_),(17,_),(27,_),(28,_),(29,_)] (by omega) ⟨rfl,rfl,rfl,rfl,rfl,rfl,rfl,rfl,rfl,rfl,trivial⟩ ⟨z+1,x,by omega,rfl,rfl,sM hlm ht (.inl (by simpa using hg36)),hS.tail.keep K (fun q hq=>by simp [hq])⟩
   ·have hg36:=of_decide_eq_false hc;clear hc
    refine aC (d:=36) rfl rfl (aA rfl rfl (aC (d:=36) rfl rfl (aH (o':=2) dS rfl rfl rfl (aC (d:=36) rfl rfl (aJ isAgg3 rfl (aE (hS.at_ 0 rfl) rfl) rfl (aC (d:=36) rfl rfl ?_))))))
    refine aR (j:=qn) (b:=b2) (o:=off2) (m:=n) (c:=fc) underlying25 sizeOf3 (by show some (Value.slice _ _ _)=_;rw [hfa]) rfl hqn (by omega) rfl rfl ?_
    refine aC (d:=36) rfl rfl (aJ isAgg3 rfl (hyc2) rfl (aC (d:=36) rfl rfl (aA rfl rfl (aC (d:=36) rfl rfl (iL rfl rfl (IntWalk.i64_in _ (by omega)) rfl (aC (d:=36) rfl rfl (gJ rfl rfl rfl (aQ rfl rfl rfl (aG (XF.thenN (bE rfl (fun hc=>?_) (fun hc=>?_))))))))))))
    ·have hc45:=of_decide_eq_true hc;clear hc
     refine bW (XF.thenX (XF.blkX (XF.thenN (aI (bC rfl rfl (IntWalk.i64_in _ (by omega)) rfl (aA rfl rfl (aG ?_)))))))
     exact XF.round ((outs L p).length - (z+1)) [(0,_),(2,_),(3,_),(9,_),(15,_),(16,_),(17,_),(27,_),(28,_),(29,_)] (by omega) ⟨rfl,rfl,rfl,rfl,rfl,rfl,rfl,rfl,rfl,rfl,trivial⟩ ⟨z+1,x,by omega,rfl,rfl,sM hlm ht (.inr (by rw [hqn2,hy3];simpa using hc45)),hS.tail.keep K (fun q hq=>by simp [hq])⟩
    ·have hc45:=of_decide_eq_false hc;clear hc
     have hs1:t.s ≠ -1:=by simpa using hg36
     have hs2:fs.getD t.q.toNat 0=(left:Int):=by rw [hqn2,hy3];simpa using hc45
     refine aP (XF.thenN (aD (aI (aH (o':=1) dH rfl rfl rfl (aJ isAgg3 rfl (aE (hS.at_ 0 rfl) rfl) rfl (op_max rfl rfl rfl (aB rfl rfl (aG (XF.thenN (aD (aI (aA rfl rfl (bJ rfl rfl rfl (aA rfl rfl (bD (d:=51) rfl (fun hc=>?_) (fun hc=>?_))))))))))))))))
     ·have hg51:=of_decide_eq_true hc;clear hc
      refine aF (d:=51) rfl rfl rfl rfl (aF (d:=51) rfl rfl rfl rfl (aF (d:=51) rfl rfl rfl rfl (aM rfl rfl rfl (aG (XF.thenN (cH rfl (aI (aA rfl rfl (aB rfl rfl (aG (XF.blkN (XF.thenN (aI (bC rfl rfl (IntWalk.i64_in _ (by omega)) rfl (aA rfl rfl (aG ?_))))))))))))))))
      exact XF.round ((outs L p).length - (z+1)) [(0,_),(2,_),(3,_),(9,_),(15,_),(16,_),(17,_),(27,_),(28,_),(29,_)] (by omega) ⟨rfl,rfl,rfl,rfl,rfl,rfl,rfl,rfl,rfl,rfl,trivial⟩ ⟨z+1,max t.s 0,by omega,rfl,rfl,lJ (hlm.add (.inl (by simpa using hg51))) ht hs1 hs2,hS.tail.keep K (fun q hq=>by simp [hq])⟩
     ·have hg51:=of_decide_eq_false hc;clear hc
      refine aC (d:=51) rfl rfl (aA rfl rfl (aC (d:=51) rfl rfl (aA rfl rfl (aC (d:=51) rfl rfl (bJ rfl rfl rfl (aQ rfl rfl rfl (aG (XF.thenN (bE rfl (fun hc=>?_) (fun hc=>?_))))))))))
      ·have hc55:=of_decide_eq_true hc;clear hc
       refine aI (aA rfl rfl (aB rfl rfl (aG (XF.blkN (XF.thenN (aI (bC rfl rfl (IntWalk.i64_in _ (by omega)) rfl (aA rfl rfl (aG ?_)))))))))
       exact XF.round ((outs L p).length - (z+1)) [(0,_),(2,_),(3,_),(9,_),(15,_),(16,_),(17,_),(27,_),(28,_),(29,_)] (by omega) ⟨rfl,rfl,rfl,rfl,rfl,rfl,rfl,rfl,rfl,rfl,trivial⟩ ⟨z+1,max t.s 0,by omega,rfl,rfl,lJ (hlm.add (.inr (by simpa using hc55))) ht hs1 hs2,hS.tail.keep K (fun q hq=>by simp [hq])⟩
      ·have hc55:=of_decide_eq_false hc;clear hc
       refine aP (XF.blkN (XF.thenN (aI (bC rfl rfl (IntWalk.i64_in _ (by omega)) rfl (aA rfl rfl (aG ?_))))))
       exact XF.round ((outs L p).length - (z+1)) [(0,_),(2,_),(3,_),(9,_),(15,_),(16,_),(17,_),(27,_),(28,_),(29,_)] (by omega) ⟨rfl,rfl,rfl,rfl,rfl,rfl,rfl,rfl,rfl,rfl,trivial⟩ ⟨z+1,x,by omega,rfl,rfl,lJ (hlm.stay (by simpa using hg51) (by simpa using hc55)) ht hs1 hs2,hS.tail.keep K (fun q hq=>by simp [hq])⟩
  ·have hc30:=of_decide_eq_false hc;clear hc
   obtain rfl:z=(outs L p).length:=by omega
   refine bW (XF.thenX (XF.thenX (XF.blkX (XF.blkN (XF.thenN (aI (bC rfl rfl (IntWalk.i64_in _ (by omega)) rfl (aA rfl rfl (aG ?_)))))))))
   exact XF.round (ll - (i+1)) [(0,_),(2,_),(3,_),(9,_),(15,_),(16,_),(17,_)] (by omega) ⟨rfl,rfl,rfl,rfl,rfl,rfl,rfl,trivial⟩ ⟨i+1,x,by omega,rfl,rfl,sN hlm hp,hS.keep K (fun q hq=>by simp [hq])⟩
 ·have hc18:=of_decide_eq_false hc;clear hc
  obtain rfl:i=ll:=by omega
  have hlm9:LmI (LkS L fs left lp lp.length 0 0) x:=by rw [hll];exact hlm
  refine bW (XF.thenX (XF.thenX (XF.blkX (XF.thenN (aD (aI (aA rfl rfl (aB rfl rfl (aG (XF.thenN (bH (XF.res (bT results38 rfl) ?_))))))))))))
  exact ⟨x,rfl,lks_end hlm9,hS.keep K (fun q hq=>by simp [hq])⟩
theorem goes_36:bA prog 36=true:=by kernel_rfl
theorem mL {n:Nat} {k:Int} {L:List ArV} (ho:fC n k L):∀ (w:List Int) {P:Nat→Prop},(∀ q,P q→q < n)→∀ q,eO L P w q→q < n
 | [],_,h,q,hq=>h q hq
 | x::w,P,h,q,hq=>mL ho w (fun q h1=>oM ho (fun q h2=>by_lt ho h2) h1) q hq
theorem iF (a:NfV) (wa:Option Addr) (wl wc:Nat) (ws:List Int) (w:World) (hA0:NIn w a) (hW:Row w wa ws) (hwl:ws.length=wl) (hwm:wl≤9223372036854775807) :
  Calls prog 16 #[a.val,.slice wa wl wc] w (fun e w'=>∃ b:Bool,e = .returned (.tuple #[.bool b,.int .i64 (dO a ws)])∧(dO a ws=0→(b=true↔nO a ws))∧(dO a ws≠0→b=false)∧Below w.heap.size w w'):=by
 refine bF (args:=[a.val,.slice wa wl wc]) func16 rfl ntmps16 rfl ?_
 have hS:=St.start w
 have hA:bS w [] (fun W=>NIn W a):=mJ hA0
 refine aD (aI (bY (cs:=[_,_,_,_,_]) hS rfl rfl rfl fun B1 W1 hS=>aB rfl rfl (aB rfl rfl (aG (XF.thenN (aD (aD (aI (aN (vs:=[_,_,_,_,_]) isAgg24 sizeOf24 rfl (aK.own (j:=0) (m:=5) (hS.at_ 0 rfl) rfl) rfl (bO (vs:=[_]) hS lB rfl (lC a _ (hA0.below hS.below)) rfl fun W2 hS=>aB rfl rfl (aG (XF.thenN (aD (aI (aA rfl rfl (gJ rfl rfl rfl (aG (XF.thenN (bE rfl (fun hc=>?_) (fun hc=>?_))))))))))))))))))))
 ·have hc16:=of_decide_eq_true hc;clear hc
  refine aD (aI (aA rfl rfl (aB rfl rfl (aB rfl rfl (aG (XF.thenN (bH (XF.thenR (XF.res (rE results16 rfl rfl) ?_)))))))))
  have h9:dO a ws=cB a:=by unfold dO;rw [if_pos hc16]
  exact ⟨false,by rw [h9],fun h=>absurd (h9▸h) hc16,fun _=>rfl,hS.below⟩
 ·have hc16:=of_decide_eq_false hc;clear hc
  refine aP (XF.thenN (aD (aD (aI (aA rfl rfl (bI underlying25 rfl rfl (aA rfl rfl (aG (XF.thenN (aL (cF (fun m l W=>∃ i:Nat,i≤wl∧m=wl - i∧l=[(1,.slice wa wl wc),(2,.pointer (some ⟨B1,0,none⟩)),(18,.slice wa wl wc),(19,.int .i64 (wl:Int)),(20,.int .i64 (i:Int))]∧(ws.take i).all (fun s=>inQ s a.sy)=true∧St w [(B1,a.cells,24)] [] [] W) (wl - 0) ([(1,_),(2,_),(18,_),(19,_),(20,_)]) ⟨rfl,rfl,rfl,rfl,rfl,trivial⟩ (⟨0,Nat.zero_le _,rfl,rfl,rfl,hS.clear⟩) ?_)))))))))))
  clear hS
  rintro m l W ⟨i,hi,rfl,rfl,hall,hS⟩
  refine aD (aI (bJ rfl rfl rfl (aG (XF.thenN (aD (bE rfl (fun hc=>?_) (fun hc=>?_)))))))
  ·have hc21:=of_decide_eq_true hc;clear hc
   obtain ⟨b,off,y,hwa,hy,hyc⟩:=hW.at1 (show i < ws.length by omega)
   have k2:=hS.old hyc
   refine aP (XF.thenN (aD (aL (aD (aI ?_)))))
   refine aR (j:=i) (b:=b) (o:=off) (m:=wl) (c:=wc) underlying25 sizeOf3 (by show some (Value.slice _ _ _)=_;rw [hwa]) rfl rfl (by omega) rfl rfl ?_
   refine aJ isAgg3 rfl (k2) rfl (aB rfl rfl (aG (XF.thenN (aD (aI (aN (vs:=[_,_,_,_,_]) isAgg24 sizeOf24 rfl (aK.own (j:=0) (m:=5) (hS.at_ 0 rfl) rfl) rfl (aA rfl rfl (bO (vs:=[_,_]) hS goes_29 rfl (qA a y _) rfl fun W3 hS=>cO rfl rfl (aG (XF.thenN (bE rfl (fun hc=>?_) (fun hc=>?_))))))))))))
   ·have hc27:=hc;clear hc
    refine aD (aI (aB rfl rfl (aB rfl rfl (aG (XF.thenN (bH (XF.blkR (XF.thenR (XF.thenR (XF.blkR (XF.thenR (XF.res (rE results16 rfl rfl) ?_))))))))))))
    have h9:dO a ws=102:=by unfold dO;rw [if_neg hc16,if_neg (by rw [cE hy (by simpa using hc27)];decide)]
    exact ⟨false,by rw [h9],fun h=>absurd (h9▸h) (by decide),fun _=>rfl,hS.below⟩
   ·have hc27:=hc;clear hc
    refine aP (XF.blkN (XF.thenN (aI (bC rfl rfl (IntWalk.i64_in _ (by omega)) rfl (aA rfl rfl (aG ?_))))))
    exact XF.round (wl - (i+1)) [(1,_),(2,_),(18,_),(19,_),(20,_)] (by omega) ⟨rfl,rfl,rfl,rfl,rfl,trivial⟩ ⟨i+1,by omega,rfl,rfl,fP hy hall (by simpa using hc27),hS.clear⟩
  ·have hc21:=of_decide_eq_false hc;clear hc
   rw [List.take_of_length_le (by omega)] at hall
   have h0:cB a=0:=Decidable.of_not_not hc16
   have hE:dO a ws=0:=by unfold dO;rw [if_neg hc16,if_pos hall]
   obtain ⟨n,k,s,e9,hn,hk,hs0,he0,hn1,hn4,hk4,hsn,hen,hal,hO⟩:=hZ h0
   have hlen:=hA0.alen
   have hw1:IntKind.i64.wrap (0+1)=1:=by decide
   have hKt:∀ q∈([]:List (Nat×World)),q∈([]:List (Nat×World)):=fun q hq=>hq
   refine bW (XF.thenX (XF.thenX (XF.blkX (XF.thenN (aD (aI (aN (vs:=[_,_,_,_,_]) isAgg24 sizeOf24 rfl (aK.own (j:=0) (m:=5) (hS.at_ 0 rfl) rfl) rfl (aU (vs:=[_]) lG rfl (lF a n (k:Int) [] _ [] [] w _ (hS.keep [] (fun q hq=>by cases hq)) hKt hA hn hn1 hn4 hal hO) rfl ?_))))))))
   rintro e W9 ⟨RB,SB,OB,va,vc,K1,rfl,hk1,hOut,hS9⟩
   refine ⟨_,rfl,?_⟩
   clear hS;have hS:=hS9;clear hS9
   refine aB rfl rfl (aG (XF.thenN (aD (aI (aA rfl rfl (aH (o':=2) dA rfl rfl rfl (aJ isAgg3 rfl (aE (hS.at_ 2 rfl) rfl) rfl (bG (us:=[(0,.int .i64 _)]) hS underlying25 sizeOf3 zeroValue3 rfl rfl rfl (dR _) rfl fun B4 W4 hS=>?_))))))))
   obtain ⟨K2,k2,g2,hS2⟩:=(hS.keep K1 (fun q hq=>by simp [hq])).ownKeepN
   clear hS;have hS:=hS2;clear hS2
   refine aU (vs:=[_,_]) iB rfl (gA n a.ar OB va vc RB SB 0 1 (List.replicate n 0) (some ⟨B4,0,none⟩) 1 1 [a.s0] K2 _ [] K2 w _ hS (fun q hq=>hq) (hOut.moreN k2) (fun h9 hk9=>.inr ⟨_,0,rfl,fun i hi=>by obtain rfl:i=0:=(by simpa using hi);exact aE (g2 h9 hk9) rfl⟩) rfl (by decide) (fun y hy=>(by obtain rfl:y=a.s0:=(by simpa using hy);omega)) (nM hO) (by omega) (by simp) hw1 (nL (by decide)) hn4) rfl ?_
   rintro e W9 ⟨l1,wa1,wc1,ss1,K3,hH1,rfl,hle1,hsl1,hsf1,hk3,hR1,hS9⟩
   refine ⟨_,rfl,?_⟩
   clear hS;have hS:=hS9;clear hS9
   refine aB rfl rfl (aG (XF.thenN (aD (aD (aI (aA rfl rfl (bI underlying25 rfl rfl (aA rfl rfl (aG (XF.thenN (aL ?_)))))))))))
   refine cF (fun m l W=>∃ (i:Nat) (l9:List Nat) (la:Option Addr) (lc:Nat) (r0:Int) (ss:List Int) (Kk:List (Nat×World)),i≤wl∧m=wl - i∧l=[(2,.pointer (some ⟨B1,0,none⟩)),(9,.pointer (some ⟨RB,0,none⟩)),(10,.slice la l9.length lc),(36,.slice wa wl wc),(37,.int .i64 (wl:Int)),(38,.int .i64 (i:Int))]∧(∀ q:Nat,q∈l9↔eO a.ar (Hd a.ar (fun q:Nat=>(q:Int)=a.s0)) (ws.take i) q)∧l9.length≤n∧ss.length=n∧(i < wl→r0=(i:Int)+1∧∀ y∈ss,0≤y∧y≤(i:Int)+1)∧(∀ q∈K1,q∈Kk)∧bS w Kk (fun W=>Row W la (nI l9))∧St w ((RB,[.slice (some ⟨OB,0,none⟩) n n,.slice (some ⟨SB,0,none⟩) n n,.int .i64 r0],73)::(SB,zI ss,3)::(B1,a.cells,24)::[]) [] Kk W) (wl - 0) ([(2,_),(9,_),(10,_),(36,_),(37,_),(38,_)]) ⟨rfl,rfl,rfl,rfl,rfl,rfl,trivial⟩ (⟨0,l1,wa1,wc1,1,ss1,K3,Nat.zero_le _,rfl,rfl,fun q=>(by rw [hH1.at_];exact iD (fun q=>by simp) q),hle1,hsl1,fun _=>⟨rfl,fun y hy=>(hsf1 y hy).elim (fun h=>by rw [List.eq_of_mem_replicate h];decide) (fun h=>by rw [h];decide)⟩,fun q hq=>hk3 q (k2 q hq),hR1,hS.keep K3 (fun q hq=>by simp [hq])⟩) ?_
   clear hS
   rintro m l W ⟨i,l9,la,lc,r0,ss,Kk,hi,rfl,rfl,hmem,hl9,hsl,hrr,hkk,hRl,hS⟩
   refine aD (aI (bJ rfl rfl rfl (aG (XF.thenN (aD (bE rfl (fun hc=>?_) (fun hc=>?_)))))))
   ·have hc39:=of_decide_eq_true hc;clear hc
    have hrn:∀ q,eO a.ar (Hd a.ar (fun q:Nat=>(q:Int)=a.s0)) (ws.take i) q→q < n:=mL hO _ (fun q h=>oM hO (fun q h2=>by omega) h)
    obtain ⟨b,off,y,hwa,hy,hyc⟩:=hW.at1 (show i < ws.length by omega)
    have k9:=hS.old hyc
    obtain ⟨hr0,hss⟩:=hrr (by omega)
    have hwn:=sK (k:=(i:Int)+2) (by omega) (by omega)
    obtain ⟨r,hr⟩:∃ r,IntKind.i64.wrap (r0+1)=r:=⟨_,rfl⟩
    have hr2:IntKind.i64.wrap ((i:Int)+2)=r:=by rw [← hr,hr0];congr 1
    rw [hr2] at hwn
    refine aP (XF.thenN (aD (aL (aD (aI ?_)))))
    refine aR (j:=i) (b:=b) (o:=off) (m:=wl) (c:=wc) underlying25 sizeOf3 (by show some (Value.slice _ _ _)=_;rw [hwa]) rfl rfl (by omega) rfl rfl ?_
    refine aJ isAgg3 rfl (k9) rfl (aB rfl rfl (aG (XF.thenN (aI (aA rfl rfl (aA rfl rfl (aA rfl rfl ?_)))))))
    refine aU (vs:=[_,_,_]) pF rfl (sH n a.ar OB va vc RB SB r0 r ss la l9.length lc l9 y Kk _ [] Kk w _ (hS.keep Kk (fun q hq=>by simp [hq])) (fun q hq=>hq) (hOut.moreN hkk) hRl rfl hl9 (fun p hp=>(by
     have h7:=(hmem p).1 hp
     exact hrn p h7)) (nM hO) (by omega) hsl hr (fun z hz=>(by have:=hss z hz;omega)) hn4) rfl ?_
    rintro e W9 ⟨l2,wa2,wc2,ss2,K4,hH2,rfl,hle2,hsl2,hsf2,hk4,hR2,hS9⟩
    refine ⟨_,rfl,?_⟩
    clear hS;have hS:=hS9;clear hS9
    refine aB rfl rfl (aG (XF.blkN (XF.thenN (aI (bC rfl rfl (IntWalk.i64_in _ (by omega)) rfl (aA rfl rfl (aG ?_)))))))
    exact XF.round (wl - (i+1)) [(2,_),(9,_),(10,_),(36,_),(37,_),(38,_)] (by omega) ⟨rfl,rfl,rfl,rfl,rfl,rfl,trivial⟩ ⟨i+1,l2,wa2,wc2,r,ss2,K4,by omega,rfl,rfl,fun q=>(by
     rw [hH2.at_,List.take_add_one,hy]
     show _↔eO a.ar _ (ws.take i++[y]) q
     rw [runNP_snoc]
     exact iD (sI hmem) q),hle2,hsl2,fun h9=>⟨by have:=hwn;have h7:=IntWalk.i64_in ((i:Int)+2) (by omega);rw [hr2] at h7;omega,fun z hz=>(by
     have h7:=IntWalk.i64_in ((i:Int)+2) (by omega)
     rw [hr2] at h7
     rcases hsf2 z hz with h8 | h8
     ·have:=hss z h8;omega
     ·omega)⟩,fun z hz=>hk4 z (hkk z hz),hR2,hS.keep K4 (fun q hq=>by simp [hq])⟩
   ·have hc39:=of_decide_eq_false hc;clear hc
    rw [List.take_of_length_le (by omega)] at hmem
    refine bW (XF.thenX (XF.thenX (XF.blkX (XF.thenN (aD (aI (aA rfl rfl (aH (o':=3) dG rfl rfl rfl (aJ isAgg3 rfl (aE (hS.at_ 2 rfl) rfl) rfl (bO (vs:=[_,_]) hS goes_36 rfl (lH la l9.length lc (nI l9) a.e0 _ (hRl (hS.keep Kk (fun q hq=>by simp [hq])) (fun q hq=>hq)) fS (by omega)) rfl fun W5 hS=>aB rfl rfl (aB rfl rfl (aG (XF.thenN (bH (XF.res (rE results16 rfl rfl) ?_)))))))))))))))
    exact ⟨_,by rw [hE],fun _=>(by
     rw [decide_eq_true_eq]
     unfold nO
     rw [← hmem]
     unfold nI
     rw [List.mem_map]
     constructor
     ·rintro ⟨q,hq,e⟩
      rw [show a.e0.toNat=q by omega];exact hq
     ·intro h
      exact ⟨_,h,by omega⟩),fun h=>absurd hE h,hS.below⟩
theorem goes_37:bA prog 37=true:=by kernel_rfl
theorem goes_38:bA prog 38=true:=by kernel_rfl
theorem goes_39:bA prog 39=true:=by kernel_rfl
theorem jV {L:List ArV} {p:Nat} {t:ArV}:t∈outs L p↔t∈L∧t.f=(p:Int):=by unfold outs;rw [List.mem_filter];simp
theorem lm_next {L:List ArV} {K:Int} {E N n:Nat} {P:Nat→Prop} {fs:List Int} {lp:List Nat} {x:Int} (hF:FarOk L K E N fs) (hO:fC N K L) (hI:LsI L K E P (n+1)) (hA:Nrs L K E P (fun q=>q∈lp) (n+1))
  (h:LmI (fun t=>(∃ p∈lp,t∈outs L p)∧t.s ≠ -1∧fs.getD t.q.toNat 0=(n:Int)) x):0 < K∧(0≤x∧x < K)∧Nx L K E P x n∧∀ y,0≤y→Nx L K E P y n→x≤y:=by
 obtain ⟨p,r,hp,hK,⟨t,ht,e1,e2,e3⟩,hd⟩:=hI.any hA
 have hfs:∀ {t:ArV} {r:Nat},t∈L→t.q=(r:Int)→(fs.getD t.q.toNat 0=(n:Int)↔Ds L K E r n):=fun {t r} ht e=>by
  have hr:=(hO t ht).2.1.2
  rw [show t.q.toNat=r by omega]
  exact hF.ds (by omega)
 rcases h with ⟨_,h⟩ | ⟨h0,⟨t2,⟨⟨p2,hp2,ho2⟩,hs2,hf2⟩,hx⟩,hmin⟩
 ·exact absurd ⟨⟨p,hp,jV.2 ⟨ht,e1⟩⟩,e2,(hfs ht e3).2 hd⟩ (h t)
 ·obtain ⟨ht2,e4⟩:=jV.1 ho2
  have hb:=hO t2 ht2
  have hq2:t2.q=((t2.q.toNat:Nat):Int):=by omega
  refine ⟨hK,⟨h0,by omega⟩,nx_of hA.1 ⟨ht2,⟨p2,hp2,e4⟩,hs2,t2.q.toNat,hq2,(hfs ht2 hq2).1 hf2⟩ (by omega),fun y hy hn=>?_⟩
  obtain ⟨t3,⟨ht3,⟨p3,hp3,e5⟩,hs3,r3,e6,hd3⟩,hy3⟩:=hI.arc hA hK hy hn
  have:=hmin t3 ⟨⟨p3,hp3,jV.2 ⟨ht3,e5⟩⟩,hs3,(hfs ht3 e6).2 hd3⟩
  omega
def LstE (a:NfV) (ok:Bool) (l:List Int):Prop:=(cB a≠0→ok=false∧l=[])∧(cB a=0→(ok=false∧l=[]∧∀ m,¬ Rz a.ar a.sy a.e0.toNat m a.s0.toNat)∨(ok=true∧∃ m,Ds a.ar a.sy a.e0.toNat a.s0.toNat m∧LsW a.ar a.sy a.e0.toNat m (Hd a.ar (fun q=>q=a.s0.toNat)) l))
theorem sO {α:Type} {a b c d:α} {l:List α}:(a::b::c::d::l).Perm (c::d::a::b::l):=(List.perm_middle (l₁:=[a,b]) (a:=c) (l₂:=d::l)).trans ((List.perm_middle (l₁:=[a,b]) (a:=d) (l₂:=l)).cons c)
theorem perm15 {α:Type} {a b c d e:α} {l:List α}:(a::b::c::d::e::l).Perm (e::b::c::d::a::l):=(List.perm_middle (l₁:=[a,b,c,d]) (a:=e) (l₂:=l)).trans ((List.perm_middle (l₁:=[b,c,d]) (a:=a) (l₂:=l)).symm.cons e)
theorem perm31 {α:Type} {a b c d:α} {l:List α}:(a::b::c::d::l).Perm (b::c::d::a::l):=(List.perm_middle (l₁:=[b,c,d]) (a:=a) (l₂:=l)).symm
theorem lL (a:NfV) (n k s e9:Nat) (hst:a.st=(n:Int)) (hsy:a.sy=(k:Int)) (hs0:a.s0=(s:Int)) (he0:a.e0=(e9:Int)) (Kt:List (Nat×World)) (Ot:Own) (G:aS) (K:List (Nat×World)) (w0 w:World) (hS0:St w0 Ot G K w) (hKt:∀ q∈Kt,q∈K) (hA:bS w0 Kt (fun W=>NIn W a)) (hal:a.al≤65536) (hl:a.ar.length=a.al) (hn1:1≤n) (hn4:n≤4096) (hs:s < n) (he:e9 < n) (hO:fC n (k:Int) a.ar) :
  Calls prog 37 #[a.val] w (fun e w'=>∃ (FB:Nat) (fs:List Int) (Kn:List (Nat×World)),e = .returned (.slice (some ⟨FB,0,none⟩) n n)∧FarOk a.ar (k:Int) e9 n fs∧(∀ p,p < n→fs.getD p 0≤8193)∧(∀ q∈K,q∈Kn)∧St w0 ((FB,zI fs,3)::Ot) G Kn w'):=by
 obtain ⟨st,sy,s0,e0,aa,al,ac,ar⟩:=a
 dsimp only at hst hsy hs0 he0 hal hl hO
 subst hst hsy hs0 he0
 exact mK n s e9 (k:Int) aa al ac ar Kt Ot G K w0 w hS0 hKt (fun h9 hk9=>(hA h9 hk9).arow) hl hal hn1 hn4 hs he hO
theorem nQ (a:NfV) (w:World) (hA0:NIn w a) :
  Calls prog 18 #[a.val] w (fun e w'=>∃ (ok:Bool) (l:List Int) (wa:Option Addr) (wc:Nat),e = .returned (.tuple #[.slice wa l.length wc,.bool ok,.int .i64 (cB a)])∧LstE a ok l∧l.length≤8193∧Row w' wa l∧Below w.heap.size w w'):=by
 refine bF (args:=[a.val]) func18 rfl ntmps18 rfl ?_
 have hS:=St.start w
 have hA:bS w [] (fun W=>NIn W a):=mJ hA0
 have hlen:=hA0.alen
 refine aD (aI (bY (cs:=[_,_,_,_,_]) hS rfl rfl rfl fun B1 W1 hS=>aB rfl rfl (aB rfl rfl (aB rfl rfl (aG (XF.thenN (aD (aD (aI (aN (vs:=[_,_,_,_,_]) isAgg24 sizeOf24 rfl (aK.own (j:=0) (m:=5) (hS.at_ 0 rfl) rfl) rfl (bO (vs:=[_]) hS lB rfl (lC a _ (hA0.below hS.below)) rfl fun W2 hS=>aB rfl rfl (aG (XF.thenN (aD (aI (aA rfl rfl (gJ rfl rfl rfl (aG (XF.thenN (bE rfl (fun hc=>?_) (fun hc=>?_)))))))))))))))))))))
 ·have hc15:=of_decide_eq_true hc;clear hc
  refine aD (aI (aA rfl rfl (aB rfl rfl (aB rfl rfl (aB rfl rfl (aG (XF.thenN (bH (XF.thenR (XF.res (res3 results18 rfl rfl rfl) ?_))))))))))
  exact ⟨false,[],none,0,rfl,⟨fun _=>⟨rfl,rfl⟩,fun h=>absurd h hc15⟩,Nat.zero_le _,.inl rfl,hS.below⟩
 ·have hc15:=of_decide_eq_false hc;clear hc
  have h0:cB a=0:=Decidable.of_not_not hc15
  obtain ⟨n,k,s,e9,hn,hk,hs0,he0,hn1,hn4,hk4,hsn,hen,hal,hO⟩:=hZ h0
  have hw1:IntKind.i64.wrap (0+1)=1:=by decide
  have hKt:∀ q∈([]:List (Nat×World)),q∈([]:List (Nat×World)):=fun q hq=>hq
  have hs9:a.s0.toNat=s:=by omega
  have he9:a.e0.toNat=e9:=by omega
  refine aP (XF.thenN (aD (aI (aN (vs:=[_,_,_,_,_]) isAgg24 sizeOf24 rfl (aK.own (j:=0) (m:=5) (hS.at_ 0 rfl) rfl) rfl (aU (vs:=[_]) goes_37 rfl (lL a n k s e9 hn hk hs0 he0 [] _ [] [] w _ (hS.keep [] (fun q hq=>by cases hq)) hKt hA hal hlen hn1 hn4 hsn hen hO) rfl ?_)))))
  rintro e W9 ⟨FB,fs,K1,rfl,hF,hFb,hk1,hS9⟩
  refine ⟨_,rfl,?_⟩
  obtain ⟨K2,k2,gF,hS2⟩:=hS9.ownKeepN
  clear hS hS9;have hS:=hS2;clear hS2
  have hfl:=hF.len
  refine aX (cs:=[_]) hS zeroValue25 rfl rfl fun B3 W3 hS=>bQ (i:=0) (cs':=[_]) (O':=[_,_]) hS sizeOf25 rfl rfl rfl rfl rfl rfl rfl fun W4 hS=>aG (XF.thenN (aD (aD ?_)))
  have hcF:=aE (gF (hS.keep K2 (fun q hq=>by simp [hq])) (fun q hq=>hq)) (iX (l:=fs) (i:=s) (by omega))
  refine aI (aJ isAgg25 rfl (aE (hS.at_ 0 rfl) rfl) rfl (aH (o':=2) dA rfl rfl rfl (aJ isAgg3 rfl (aE (hS.at_ 1 rfl) rfl) rfl (aR (j:=s) (b:=FB) (o:=0) (m:=n) (c:=n) underlying25 sizeOf3 rfl rfl (by exact hs0) (by omega) rfl rfl (aJ isAgg3 rfl (hcF) rfl (bJ rfl rfl rfl (aG (XF.thenN (bE rfl (fun hc=>?_) (fun hc=>?_))))))))))
  ·have hc24:=of_decide_eq_true hc;clear hc
   have hneg:fs.getD s 0 < 0:=by simpa using hc24
   refine aD (aI (aB rfl rfl (aB rfl rfl (aB rfl rfl (aG (XF.thenN (bH (XF.thenR (XF.res (res3 results18 rfl rfl rfl) ?_)))))))))
   exact ⟨false,[],none,0,by rw [h0];rfl,⟨fun h=>absurd h0 h,fun _=>.inl ⟨rfl,rfl,by rw [hs9,he9,hk];exact (hF.neg hsn).1 hneg⟩⟩,Nat.zero_le _,.inl rfl,hS.below⟩
  ·have hc24:=of_decide_eq_false hc;clear hc
   have hpos:0≤fs.getD s 0:=Int.not_lt.1 (by simpa using hc24)
   obtain ⟨m0,hm0⟩:∃ m0:Nat,fs.getD s 0=(m0:Int):=⟨(fs.getD s 0).toNat,by omega⟩
   have hmb:=hFb s hsn
   have hstart:=hF.start hsn hm0
   refine aP (XF.thenN (aD (aI (aN (vs:=[_,_,_,_,_]) isAgg24 sizeOf24 rfl (aK.own (j:=0) (m:=5) (hS.at_ 1 rfl) rfl) rfl (aU (vs:=[_]) lG rfl (lF a n (k:Int) [] _ [] K2 w _ (hS.keep K2 (fun q hq=>by simp [hq])) (fun q hq=>by cases hq) hA hn hn1 hn4 hal hO) rfl ?_)))))
   rintro e W9 ⟨RB,SB,OB,va,vc,K3,rfl,hk3,hOut,hS9⟩
   refine ⟨_,rfl,?_⟩
   clear hS;have hS:=hS9;clear hS9
   refine aB rfl rfl (aG (XF.thenN (aD (aI (aA rfl rfl (aH (o':=2) dA rfl rfl rfl (aJ isAgg3 rfl (aE (hS.at_ 3 rfl) rfl) rfl (bG (us:=[(0,.int .i64 _)]) hS underlying25 sizeOf3 zeroValue3 rfl rfl rfl (dR _) rfl fun B5 W5 hS=>?_))))))))
   have hcF2:=aE (gF (hS.keep K3 (fun q hq=>by simp [hq])) (fun q hq=>hk3 q hq)) (iX (l:=fs) (i:=s) (by omega))
   obtain ⟨K4,k4,g4,hS2⟩:=(hS.keep K3 (fun q hq=>by simp [hq])).ownKeepN
   clear hS;have hS:=hS2;clear hS2
   refine aU (vs:=[_,_]) iB rfl (gA n a.ar OB va vc RB SB 0 1 (List.replicate n 0) (some ⟨B5,0,none⟩) 1 1 [a.s0] K4 _ [] K4 w _ hS (fun q hq=>hq) (hOut.moreN k4) (fun h9 hk9=>.inr ⟨_,0,rfl,fun j hj=>by obtain rfl:j=0:=(by simpa using hj);exact aE (g4 h9 hk9) rfl⟩) rfl (by decide) (fun y hy=>(by obtain rfl:y=a.s0:=(by simpa using hy);omega)) (nM hO) (by omega) (by simp) hw1 (nL (by decide)) hn4) rfl ?_
   rintro e W9 ⟨l1,wa1,wc1,ss1,K5,hH1,rfl,hle1,hsl1,hsf1,hk5,hR1,hS9⟩
   refine ⟨_,rfl,?_⟩
   clear hS;have hS:=hS9;clear hS9
   have hmem1:∀ q,q∈l1↔Hd a.ar (fun q=>q=a.s0.toNat) q:=fun q=>(by rw [hH1.at_];exact iD (fun q=>by simp;omega) q)
   refine aB rfl rfl (aG (XF.thenN (aD (aI (aB rfl rfl (aG (XF.thenN (aD (aD ?_)))))))))
   have hS':=hS.newG 3 1;clear hS;have hS:=hS';clear hS'
   have hcF3:=aE (gF (hS.keep K5 (fun q hq=>by simp [hq])) (fun q hq=>hk5 q (k4 q (hk3 q hq)))) (iX (l:=fs) (i:=s) (by omega))
   rw [hm0] at hcF3
   refine aI (aJ isAgg25 rfl (aE (hS.at_ 2 rfl) rfl) rfl (aH (o':=2) dA rfl rfl rfl (aJ isAgg3 rfl (aE (hS.at_ 3 rfl) rfl) rfl (aR (j:=s) (b:=FB) (o:=0) (m:=n) (c:=n) underlying25 sizeOf3 rfl rfl (by exact hs0) (by omega) rfl rfl (aJ isAgg3 rfl (hcF3) rfl (aX (cs:=[_]) hS zeroValue3 rfl rfl fun B6 W6 hS=>bQ (i:=0) (cs':=[_]) (O':=[_,_,_,_,_]) hS sizeOf3 rfl rfl rfl rfl rfl rfl rfl fun W7 hS=>aG (XF.thenN (aL ?_))))))))
   refine cF (fun m l W=>∃ (left:Nat) (u:List Int) (lp:List Nat) (la:Option Addr) (lc:Nat) (wa:Option Addr) (wc LB:Nat) (ss:List Int) (Kk:List (Nat×World)),m=left+1∧l=[(1,.pointer (some ⟨B1,0,none⟩)),(6,.pointer (some ⟨B3,0,none⟩)),(7,.pointer (some ⟨RB,0,none⟩)),(8,.slice la lp.length lc),(9,.slice wa u.length wc),(10,.pointer (some ⟨LB,0,none⟩))]∧LsI a.ar (k:Int) e9 (eO a.ar (Hd a.ar (fun q=>q=a.s0.toNat)) u) left∧Nrs a.ar (k:Int) e9 (eO a.ar (Hd a.ar (fun q=>q=a.s0.toNat)) u) (fun q=>q∈lp) left∧(∀ w9,LsW a.ar (k:Int) e9 left (eO a.ar (Hd a.ar (fun q=>q=a.s0.toNat)) u) w9→LsW a.ar (k:Int) e9 m0 (Hd a.ar (fun q=>q=a.s0.toNat)) (u++w9))∧u.length+left=m0∧lp.length≤n∧(∀ p∈lp,p < n)∧ss.length=n∧(∀ y∈ss,0≤y∧y≤(u.length:Int)+1)∧(∀ q∈K3,q∈Kk)∧bS w Kk (fun W=>Row W la (nI lp))∧St w ((RB,[.slice (some ⟨OB,0,none⟩) n n,.slice (some ⟨SB,0,none⟩) n n,.int .i64 ((u.length:Int)+1)],73)::(SB,zI ss,3)::(B3,[.slice (some ⟨FB,0,none⟩) n n],25)::(LB,[.int .i64 (left:Int)],3)::(B1,a.cells,24)::[]) [⟨.slice wa u.length wc,u.length,zI u,3,1⟩] Kk W) (m0+1) ([(1,_),(6,_),(7,_),(8,_),(9,_),(10,_)]) ⟨rfl,rfl,rfl,rfl,rfl,rfl,trivial⟩ (⟨m0,[],l1,wa1,wc1,none,0,_,ss1,K5,rfl,rfl,by rw [hs9];exact hstart,⟨fun q hq=>(hmem1 q).1 hq,fun q hq _=>(hmem1 q).2 hq⟩,fun w9 h=>h,by simp,hle1,fun p hp=>(oM hO (fun q hq=>by omega) ((hmem1 p).1 hp)),hsl1,fun y hy=>(hsf1 y hy).elim (fun h=>by rw [List.eq_of_mem_replicate h];decide) (fun h=>by rw [h];decide),fun q hq=>hk5 q (k4 q hq),hR1,(hS.keep K5 (fun q hq=>by simp [hq])).perm perm31⟩) ?_
   clear hS
   rintro m l W ⟨left,u,lp,la,lc,wa,wc,LB,ss,Kk,rfl,rfl,hI,hN,hcont,hlen9,hlpl,hlt,hsl,hss,hkk,hRl,hS⟩
   refine aD (aD (aI (aJ isAgg3 rfl (aE (hS.at_ 3 rfl) rfl) rfl (dP rfl rfl rfl (aG (XF.thenN (bE rfl (fun hc=>?_) (fun hc=>?_))))))))
   ·have hc38:=of_decide_eq_true hc;clear hc
    obtain ⟨lf,rfl⟩:∃ lf,left=lf+1:=⟨left - 1,by omega⟩
    refine aP (XF.thenN (aD (aL (aD (aI (aA rfl rfl (aA rfl rfl (aJ isAgg25 rfl (aE (hS.at_ 2 rfl) rfl) rfl (aJ isAgg3 rfl (aE (hS.at_ 3 rfl) rfl) rfl ?_)))))))))
    refine aU (vs:=[_,_,_,_]) goes_38 rfl (lK n a.ar OB va vc RB SB ((u.length:Int)+1) la lp.length lc lp (some ⟨FB,0,none⟩) n fs lf Kk _ _ Kk w _ (hS.keep Kk (fun q hq=>by simp [hq])) (fun q hq=>hq) (hOut.moreN hkk) hRl (fun h9 hk9=>.inr ⟨_,0,rfl,fun j hj=>aE (gF h9 (fun q hq=>hk9 q (hkk q (hk3 q hq)))) (by have h7:=iX (l:=fs) hj;rw [Nat.mul_one] at h7;exact h7)⟩) rfl hlpl hlt (nM hO) (by omega) hfl hn4 (by omega)) rfl ?_
    rintro e W9 ⟨x,rfl,hlm,hS9⟩
    refine ⟨_,rfl,?_⟩
    clear hS;have hS:=hS9;clear hS9
    obtain ⟨hK0,hx,hnx,hmin⟩:=lm_next hF hO hI hN hlm
    have hul:(u++[x]).length=u.length+1:=by simp
    refine aB rfl rfl (aG (XF.thenN (aD (aI (aA rfl rfl (aA rfl rfl (bG (us:=[(0,.int .i64 _)]) hS underlying25 sizeOf3 zeroValue3 rfl rfl rfl (dR _) rfl fun B8 W8 hS=>?_)))))))
    refine dJ (i:=0) (news:=[_]) hS underlying25 iW rfl rfl (by show 0 < 1;decide) rfl rfl rfl rfl rfl (aK.own (j:=0) (m:=1) (hS.at_ 0 rfl) rfl) rfl rfl (by dsimp only;simp only [maxLen];omega) (by dsimp only;show _ * 8≤_;omega) rfl fun v9 W9 hS=>?_
    obtain ⟨wa8,wc8,e9x,_⟩:=cD (hS.row 0 rfl)
    dsimp only at e9x
    subst e9x
    have hS9:=hS.castG (G':=[⟨.slice wa8 (u.length+1) wc8,u.length+1,zI (u++[x]),3,1⟩]) (by show GR.mk _ _ (zI u++[Value.int .i64 _]) _ _::_=_;rw [jQ])
    clear hS;have hS:=hS9.tail;clear hS9
    refine aB rfl rfl (aG (XF.thenN (aI (aA rfl rfl (aA rfl rfl (aA rfl rfl ?_))))))
    refine aU (vs:=[_,_,_]) pF rfl (kM n a.ar OB va vc RB SB ((u.length:Int)+1) (((u++[x]).length:Int)+1) ss la lp.length lc lp x Kk _ _ Kk w _ (hS.keep Kk (fun q hq=>by simp [hq])) (fun q hq=>hq) (hOut.moreN hkk) hRl rfl hlpl hlt (nM hO) (by omega) hsl (by rw [IntWalk.i64_in _ (by omega),hul];omega) (fun y hy=>(by have:=hss y hy;omega)) hn4) rfl ?_
    rintro e W9 ⟨l2,wa2,wc2,ss2,K6,hH2,rfl,hle2,hsl2,hsf2,hk6,hS9⟩
    refine ⟨_,rfl,?_⟩
    clear hS;have hS:=hS9;clear hS9
    have hl2n:∀ q∈l2,q < n:=fun q hq=>oM hO (fun q hq=>by_lt hO hq) ((hH2.at_ q).1 hq)
    refine opV (mI rfl rfl) rfl ?_
    refine aU (vs:=[_,_]) goes_39 rfl (nDel_is B3 LB (some ⟨FB,0,none⟩) n n fs lf wa2 l2.length wc2 l2 K6 _ _ K6 w _ ((hS.keep K6 (fun q hq=>by simp [hq])).perm sO) (fun q hq=>hq) (fun h9 hk9=>.inr ⟨_,0,rfl,fun j hj=>aE (gF h9 (fun q hq=>hk9 q (hk6 q (hkk q (hk3 q hq))))) (by have h7:=iX (l:=fs) hj;rw [Nat.mul_one] at h7;exact h7)⟩) hfl (by omega) rfl hl2n (by omega)) rfl ?_
    rintro e W9 ⟨wa3,wc3,rfl,hS9⟩
    refine ⟨_,rfl,?_⟩
    obtain ⟨K7,k7,g7,hS7⟩:=St.rowKeepN (o:=⟨.slice wa3 (kpN fs lf l2).length wc3,(kpN fs lf l2).length,zI (nI (kpN fs lf l2))⟩) hS9
    clear hS hS9;have hS:=hS7.perm sO;clear hS7
    refine aB rfl rfl (aG (XF.blkN (XF.thenN (aD (aD (aI (aJ isAgg3 rfl (aE (hS.at_ 3 rfl) rfl) rfl (aG (XF.thenN (aI (aX (cs:=[_]) hS zeroValue3 rfl rfl fun B10 W10 hS=>bQ (i:=0) (cs':=[_]) (O':=[_,_,_,_,_,_]) hS sizeOf3 rfl rfl rfl rfl rfl rfl rfl fun W11 hS=>aG (XF.thenN (aI (aJ isAgg3 rfl (aE (hS.at_ 0 rfl) rfl) rfl (iL rfl rfl (IntWalk.i64_in _ (by omega)) rfl (bQ (i:=0) (cs':=[_]) (O':=[_,_,_,_,_,_]) hS sizeOf3 rfl rfl rfl rfl rfl rfl rfl fun W12 hS=>aG ?_))))))))))))))))
    have e9v:(lf:Int)+1 - 1=(lf:Int):=by omega
    rw [e9v] at hS
    have hS9:=((hS.perm perm15).tail).castG (G':=[⟨.slice wa8 (u++[x]).length wc8,(u++[x]).length,zI (u++[x]),3,1⟩]) (by rw [hul])
    exact XF.round (lf+1) [(1,_),(6,_),(7,_),(8,_),(9,_),(10,_)] (by omega) ⟨rfl,rfl,rfl,rfl,rfl,rfl,trivial⟩ ⟨lf,u++[x],kpN fs lf l2,wa3,wc3,wa8,wc8,_,ss2,K7,rfl,by rw [hul],by rw [runNP_snoc];exact hI.next hK0 hx.1 hnx,by rw [runNP_snoc];exact hI.filt hN hK0 hx.1 (fun q=>⟨fun h=>⟨(hH2.at_ q).1 (iE.1 h).1,(hF.ds (hl2n q (iE.1 h).1)).1 (iE.1 h).2⟩,fun h=>iE.2 ⟨(hH2.at_ q).2 h.1,(hF.ds (hl2n q ((hH2.at_ q).2 h.1))).2 h.2⟩⟩),fun w9 h9=>(by rw [runNP_snoc] at h9;have h7:=hcont (x::w9) ⟨x,w9,rfl,hx,hnx,hmin,h9⟩;rw [List.append_assoc];exact h7),by rw [hul];omega,Nat.le_trans (List.length_filter_le _ _) hle2,fun p hp=>hl2n p (iE.1 hp).1,hsl2,fun y hy=>(by
     rw [hul]
     rcases hsf2 y hy with h | h
     ·have:=hss y h;omega
     ·rw [hul] at h;omega),fun q hq=>k7 q (hk6 q (hkk q hq)),fun h9 hk9=>eX (g7 h9 hk9),hS9.keep K7 (fun q hq=>by simp [hq])⟩
   ·have hc38:=of_decide_eq_false hc;clear hc
    obtain rfl:left=0:=by omega
    have hfin:=hcont [] rfl
    rw [List.append_nil] at hfin
    obtain ⟨K8,k8,g8,hS8⟩:=St.rowKeepN (o:=⟨.slice wa u.length wc,u.length,zI u⟩) (hS.keep Kk (fun q hq=>by simp [hq]))
    refine bW (XF.thenX (XF.thenX (XF.blkX (XF.thenN (aD (aI (aA rfl rfl (aB rfl rfl (aB rfl rfl (aB rfl rfl (aG (XF.thenN (bH (XF.res (res3 results18 rfl rfl rfl) ?_))))))))))))))
    exact ⟨true,u,wa,wc,by rw [h0],⟨fun h=>absurd h0 h,fun _=>.inr ⟨rfl,m0,by rw [hs9,he9,hk];exact (hF.ds hsn).1 hm0,by rw [he9,hk];exact hfin⟩⟩,by omega,eX (g8 hS8 (fun q hq=>hq)),hS.below⟩
end
section
open Go.RowKit
open Go.Maps
open Go.ChangeMaps (setBlock)
section
variable {P:Program} {n:Nat} {Q:Exit→Act→World→Prop} {l:Fr} {W w0:World} {ops:Array Oper} {os:List Oper} {d:Nat} {ty:TypeId} {pos:String} {aft:Array Edge} {x y:Operand} {O:Own} {G:aS} {K:List (Nat×World)}
theorem rn_eqlT {t u:TypeId} {p q:ByteArray} {b:Bool} (hx:evL l x=some (.string p)) (hy:evL l y=some (.string q)) (hb:(p.toList == q.toList)=b):cJ P l ⟨some d,.binOp .eql t x y u,ty,pos,aft,none⟩ W (.bool b) W:=fun ev he=>cG (he x _ hx) (he y _ hy) rfl (by subst hb;simp [binOp,Op.stringOp])
theorem lM {t u:TypeId} {p q:ByteArray} {b:Bool} (hx:evL l x=some (.string p)) (hy:evL l y=some (.string q)) (hb:(!(p.toList == q.toList))=b):cJ P l ⟨some d,.binOp .neq t x y u,ty,pos,aft,none⟩ W (.bool b) W:=fun ev he=>cG (he x _ hx) (he y _ hy) rfl (by subst hb;simp [binOp,Op.stringOp])
theorem kN {T:TypeId} {s:ByteArray} {c:UInt8} {k:IntKind} {i:Int} {j:Nat} (hU:P.underlying T=some .string) (hx:evL l x=some (.string s)) (hy:evL l y=some (.int k i)) (hi:i=(j:Int)) (hs:s[j]?=some c):cJ P l ⟨some d,.index T x y,ty,pos,aft,none⟩ W (.int .u8 (c.toNat:Int)) W:=fun ev he=>by
 subst hi
 unfold execOp;simp only [];rw [he x _ hx,he y _ hy]
 simp [Instr.index,asIntOf,run_underlying hU,hs]
end
theorem St.setMapT {w0 W W':World} {O:Own} {G:aS} {K:List (Nat×World)} {b:Nat} (h:St w0 O G K W) (hm:W.mapTurned W' b) (hwb:w0.heap.size≤b) (hK:∀ q∈K,b < q.1∨q.2.heap.size≤b):St w0 O G K W':=by
 have hg:=hm.grown
 obtain ⟨es,clock,_,_,hb,_⟩:=hm
 have ne:∀ (k:Nat) (cs:Array Value) (T:TypeId),W.heap[k]?=some (.cells cs T (0,0))→k≠b:=fun k cs T hk e=>by
  subst e
  rw [hb] at hk;cases hk
 have blk:∀ k,k < W.heap.size→k≠b→W'.heap[k]?=W.heap[k]?:=fun k hk hne=>hg.block _ hk (fun e=>hne (Option.some.inj e))
 refine ⟨h.below.grown hg h.below.size (fun k hk=>by cases hk;exact hwb),fun p hp=>?_,h.dist,fun q hq=>⟨⟨Nat.le_trans (h.kept q hq).1.1 hg.size,fun k h1 h2=>?_⟩,(h.kept q hq).2⟩,fun g hg'=>⟨dL (h.rows g hg').1 fun k hk=>?_,(h.rows g hg').2⟩,h.gdist⟩
 ·obtain ⟨h1,h2⟩:=h.own p hp
  exact ⟨h1,(blk _ (cP h2) (ne _ _ _ h2)).trans h2⟩
 ·refine (blk k (Nat.lt_of_lt_of_le h2 (h.kept q hq).1.1) ?_).trans ((h.kept q hq).1.2 k h1 h2)
  rcases hK q hq with h3 | h3<;>omega
 ·exact blk k (((h.rows g hg').1.lt k hk).2) (mA (h.rows g hg').1 hb hk)
theorem iG:Go.Maps.Keyed prog 9:=string_keyed underlying9
def MsI (b:Nat) (es:List (List UInt8×Int)) (W:World):Prop:=∃ D:DataW Unit,W.ownsMap prog 9 (plainElem prog 3) b es.length D∧Tidy D∧Maps.size D=es.length∧(∀ l,Maps.has D (.string l)=es.any (fun p=>decide (p.1=l)))∧∀ l z,D.atKey (.string l) z=(match es.find? (fun p=>decide (p.1=l)) with | some p=>.lit (.int .i64 p.2) | none=>z)
theorem MsI.same {b:Nat} {es:List (List UInt8×Int)} {W W':World} (h:MsI b es W) (he:b < W.heap.size→W'.heap[b]?=W.heap[b]?):MsI b es W':=by
 obtain ⟨D,⟨es,clock,h1,h2⟩,h3⟩:=h
 exact ⟨D,⟨es,clock,(he (cP h1)).trans h1,h2⟩,h3⟩
theorem MsI.below {b:Nat} {es:List (List UInt8×Int)} {W W':World} (h:MsI b es W) (hb:Below W.heap.size W W'):MsI b es W':=h.same (fun h1=>hb.block _ h1)
theorem MsI.fresh (W:World):MsI W.heap.size [] (W.alloc (.map #[] 0)):=by
 refine ⟨.map [],World.ownsMap_made W _ _ _,(World.ownsMap_made W prog 9 (plainElem prog 3)).tidy iG,rfl,fun l=>?_,fun l z=>?_⟩
 ·simp [Maps.has]
 ·simp [DataW.atKey]
theorem MsI.made {W:World} {b:Nat} (hb:W.heap[b]?=some (.map #[] 0)):MsI b [] W:=by
 obtain ⟨D,⟨es,clock,h1,h2⟩,h3⟩:=MsI.fresh W
 have h4:=(heap_alloc_new W (.map #[] 0)).symm.trans h1
 injection h4 with h4
 injection h4 with h5 h6
 subst h5;subst h6
 exact ⟨D,⟨_,_,hb,h2⟩,h3⟩
theorem nR {s:ByteArray} (h:s.size≤maxLen):keyOf prog 9 (.string s)=some (.string s.data.toList):=WideMaps.keyOf_string_mk underlying9 h
theorem MsI.look {b:Nat} {es:List (List UInt8×Int)} {W:World} (h:MsI b es W) {s:ByteArray} {x:Int} (hs:s.size≤maxLen) (hf:es.find? (fun p=>decide (p.1=s.data.toList))=some (s.data.toList,x)) (hz:∀ w,(zeroValue 3).run prog w = .ok (.int .i64 0) w):(Instr.lookup 79 (.map (some b)) (.string s) true).run prog W = .ok (.tuple #[.int .i64 x,.bool true]) W:=by
 obtain ⟨D,h1,h2,h3,h4,h5⟩:=h
 obtain ⟨v,ps,h6,h7⟩:=h1.look_ok iG underlying79 (hz W) (plainElem_int underlying3 (a:=0) (by decide)) (nR hs)
 rw [h5,hf] at h7
 obtain ⟨a,rfl,h8,_⟩:=plainElem_int_inv underlying3 h7
 simp only [Prod.mk.injEq] at h8
 obtain ⟨h8,_⟩:=h8
 simp only [DataW.lit.injEq,Lit.int.injEq,true_and] at h8
 subst h8
 rw [h6,h4,List.any_eq_true.2 ⟨_,List.mem_of_find?_eq_some hf,by simp⟩]
theorem MsI.put {b:Nat} {es:List (List UInt8×Int)} {W:World} (h:MsI b es W) {s:ByteArray} {x:Int} (hs:s.size≤maxLen) (hx:(Lit.int .i64 x).wf=true) (hf:es.any (fun p=>decide (p.1=s.data.toList))=false) (hn:es.length < maxLen):∃ w',(Instr.mapUpdate 79 (.map (some b)) (.string s) (.int .i64 x)).run prog W = .ok () w'∧MsI b ((s.data.toList,x)::es) w'∧W.mapTurned w' b:=by
 obtain ⟨D,h1,h2,h3,h4,h5⟩:=h
 obtain ⟨w',h6,h7,h8⟩:=h1.store iG underlying79 hn (nR hs) (plainElem_int underlying3 hx)
 have hk:=iG.key (nR hs)
 have h9:w'.ownsMap prog 9 (plainElem prog 3) b ((s.data.toList,x)::es).length (D.put (.string s.data.toList) (.lit (.int .i64 x))):=h7
 refine ⟨w',h6,⟨D.put (.string s.data.toList) (.lit (.int .i64 x)),h9,h2.put hk _,?_,fun l=>?_,fun l z=>?_⟩,h8⟩
 ·rw [size_put h2,h4,hf,h3];rfl
 ·by_cases e:l=s.data.toList
  ·subst e
   rw [has_put_same h1.isMap hk];simp
  ·rw [has_put_other (fun e2=>e (by injection e2)),h4,List.any_cons,decide_eq_false (fun e2=>e e2.symm),Bool.false_or]
 ·by_cases e:l=s.data.toList
  ·subst e
   rw [atKey_put_same h1.isMap hk,List.find?_cons_of_pos (by simp)]
  ·rw [atKey_put_other (fun e2=>e (by injection e2)),h5,List.find?_cons_of_neg (by simpa using fun e2=>e e2.symm)]
section
variable {n:Nat} {ops:Array Oper} {Q:Exit→Act→World→Prop} {l:Fr} {w0 W:World} {O:Own} {G:aS} {K:List (Nat×World)} {os:List Oper} {d b:Nat} {ty:TypeId} {pos:String} {aft:Array Edge} {x y z:Operand} {es:List (List UInt8×Int)} {s:ByteArray} {v:Int}
theorem sP (hM:MsI b es W) (hs:s.size≤maxLen) (hf:es.find? (fun p=>decide (p.1=s.data.toList))=some (s.data.toList,v)) (hz:∀ w,(zeroValue 3).run prog w = .ok (.int .i64 0) w) (hx:evL l x=some (.map (some b))) (hy:evL l y=some (.string s)):cJ prog l ⟨some d,.lookup 79 x y true,ty,pos,aft,none⟩ W (.tuple #[.int .i64 v,.bool true]) W:=fun ev he=>by
 unfold execOp;simp only [];rw [he x _ hx,he y _ hy]
 simp [hM.look hs hf hz,Result.andThen]
theorem nS (hS:St w0 O G K W) (hM:MsI b es W) (hs:s.size≤maxLen) (hv:(Lit.int .i64 v).wf=true) (hf:es.any (fun p=>decide (p.1=s.data.toList))=false) (hn:es.length < maxLen) (hwb:w0.heap.size≤b) (hK:∀ q∈K,b < q.1∨q.2.heap.size≤b) (hx:evL l x=some (.map (some b))) (hy:evL l y=some (.string s)) (hz:evL l z=some (.int .i64 v))
  (h:∀ W',St w0 O G K W'→MsI b ((s.data.toList,v)::es) W'→aW prog n ops Q os l W'):aW prog n ops Q (⟨none,.mapUpdate 79 x y z,ty,pos,aft,none⟩::os) l W:=fun a ha=>by
 obtain ⟨W',h1,h2,h3⟩:=hM.put hs hv hf hn
 refine wpList_plain rfl fun K' hK'=>?_
 unfold Oper.wp execOp
 simp only []
 rw [ha.ev x _ hx,ha.ev y _ hy,ha.ev z _ hz]
 simp only [Sem.run_bind,h1,Result.andThen_ok,Sem.run_pure,Oper.upon_skip]
 exact hK' _ _ (h W' (hS.setMapT h3 hwb hK) h2 a ha)
theorem mM (hM:MsI b es W) (hx:evL l x=some (.map (some b))):cJ prog l ⟨some d,.call { callee:=.builtin .len,args:=#[x],argTypes:=#[79] },ty,pos,aft,none⟩ W (.int .i64 (es.length:Int)) W:=fun ev he=>by
 obtain ⟨D,h1,h2,h3,h4,h5⟩:=hM
 have h6:=h1.len underlying79 ty
 rw [h3] at h6
 unfold execOp
 simp only [resolve,invoke,builtin,Sem.run_bind,Sem.run_pure,Result.andThen_ok,List.map_toArray,List.map_cons,List.map_nil,he x _ hx,h6]
end
inductive ReV where
 | mk (op:Int) (nm:ByteArray) (ka:Option Addr) (kl kc:Nat) (kids:List ReV)
def ReV.op:ReV→Int | .mk op _ _ _ _ _=>op
def ReV.nm:ReV→ByteArray | .mk _ nm _ _ _ _=>nm
def ReV.kids:ReV→List ReV | .mk _ _ _ _ _ kids=>kids
def ReV.cells:ReV→List Value | .mk op nm ka kl kc _=>[.int .i64 op,.string nm,.slice ka kl kc]
def ReV.val:ReV→Value | .mk op nm ka kl kc _=>.agg #[.int .i64 op,.string nm,.slice ka kl kc]
inductive ReIn (W:World):ReV→Prop
 | mk {op:Int} {nm:ByteArray} {ka:Option Addr} {kl kc:Nat} {kids:List ReV}:kids.length=kl→kl≤500→kl≤kc→(∀ (i:Nat) k,kids[i]?=some k→∃ b off,ka=some ⟨b,off,none⟩∧aK W b (off+i * 3) k.cells)→(∀ k∈kids,ReIn W k)→ReIn W (.mk op nm ka kl kc kids)
theorem ReIn.keep {W W':World} (hb:Below W.heap.size W W') {x:ReV} (h:ReIn W x):ReIn W' x:=by
 induction h with
 | mk h1 h2 h2c h3 _ ih =>
  refine .mk h1 h2 h2c (fun i k hi=>?_) ih
  obtain ⟨b,off,e,hc⟩:=h3 i k hi
  exact ⟨b,off,e,aK.agree (aT hb 0) (Nat.zero_le _) hc⟩
def nT (p:ByteArray):Prop:=p=⟨#[97]⟩∨p=⟨#[98]⟩
theorem nT.facts {p:ByteArray} (h:nT p):p.size=1∧((p.toList == (⟨#[]⟩:ByteArray).toList)=false)∧∃ c:UInt8,p[0]?=some c∧(97≤(c.toNat:Int)∧(c.toNat:Int)≤122):=by
 rcases h with rfl | rfl
 ·exact ⟨rfl,by rw [ByteArray.toList_eq,ByteArray.toList_eq];rfl,97,rfl,by decide⟩
 ·exact ⟨rfl,by rw [ByteArray.toList_eq,ByteArray.toList_eq];rfl,98,rfl,by decide⟩
inductive FitsR:ReV→Nat→Nat→Nat→Prop
 | mk {x:ReV} {d n:Nat} {f:Nat→Nat}:n+1≤500→d≤50→f 0=n+1→(∀ (i:Nat) k,x.kids[i]?=some k→FitsR k (d+1) (f i) (f (i+1)))→FitsR x d n (f x.kids.length)
def Shp (x:ReV):Prop:=(x.op=1∧nT x.nm∧x.kids=[])∨(x.nm=⟨#[]⟩∧((x.op=3∧x.kids=[])∨((x.op=5∨x.op=6)∧(∀ k∈x.kids,k.op≠x.op)∧2≤x.kids.length)))
inductive WellM:ReV→Prop
 | mk {x:ReV}:(∀ k∈x.kids,WellM k)→Shp x→WellM x
def sQ (W:World) (a:Option Addr) (ns:List ByteArray):Prop:=∀ (i:Nat) s,ns[i]?=some s→∃ b off,a=some ⟨b,off,none⟩∧W.cell? ⟨b,off+i * 1,none⟩=some (.string s)
end
section
open Go.RowKit
theorem cR (w:World) (b o:Nat):(Instr.fieldAt 62 (.pointer (some ⟨b,o,none⟩)) 0).run prog w = .ok (.pointer (some ⟨b,o+0,none⟩)) w:=by
 simp [Instr.fieldAt,run_underlying underlying62,Instr.sureAddr,go_sem,Addr.add_lit]
theorem iH (w:World) (b o:Nat):(Instr.fieldAt 62 (.pointer (some ⟨b,o,none⟩)) 1).run prog w = .ok (.pointer (some ⟨b,o+1,none⟩)) w:=by
 simp [Instr.fieldAt,run_underlying underlying62,Instr.sureAddr,go_sem,Addr.add_lit]
theorem dT (w:World) (b o:Nat):(Instr.fieldAt 62 (.pointer (some ⟨b,o,none⟩)) 2).run prog w = .ok (.pointer (some ⟨b,o+2,none⟩)) w:=by
 simp [Instr.fieldAt,run_underlying underlying62,Instr.sureAddr,go_sem,Addr.add_lit]
theorem goes_81:bA prog 81=true:=by kernel_rfl
theorem pK:bA prog 84=true:=by kernel_rfl
section
variable {P:Program} {n:Nat} {l:Fr} {W:World} {d:Nat} {ty t u:TypeId} {pos:String} {aft:Array Edge} {x y:Operand} {k:IntKind} {a b:Int} {c:Bool}
theorem aZ (hx:evL l x=some (.int k a)) (hy:evL l y=some (.int k b)) (hb:decide (a=b)=c):cJ P l ⟨some d,.binOp .eql t x y u,ty,pos,aft,none⟩ W (.bool c) W:=by subst hb;exact rL hx hy
theorem dI (hx:evL l x=some (.int k a)) (hy:evL l y=some (.int k b)) (hb:decide (a≠b)=c):cJ P l ⟨some d,.binOp .neq t x y u,ty,pos,aft,none⟩ W (.bool c) W:=by subst hb;exact kQ hx hy
end
theorem iI (c:Int) (h1:97≤c) (h2:c≤122) (w:World) :
  Calls prog 84 #[.int .u8 c] w (fun e w'=>e = .returned (.bool true)∧Below w.heap.size w w'):=by
 refine bF (args:=[.int .u8 c]) func84 rfl ntmps84 rfl ?_
 have hS:=St.start w
 refine aD (aI (aB rfl rfl (aG (XF.thenN (aD (aI (aA rfl rfl (dQ rfl rfl rfl (aA rfl rfl (bD (d:=5) rfl (fun hc=>?_) (fun hc=>?_)))))))))))
 ·have hg5:=of_decide_eq_true hc;clear hc
  refine aC (d:=5) rfl rfl (aA rfl rfl (aC (d:=5) rfl rfl (mV rfl rfl rfl (aM rfl rfl rfl (aA rfl rfl (bD (d:=9) rfl (fun hc=>?_) (fun hc=>?_)))))))
  ·have hg9:=of_decide_eq_true hc;clear hc
   refine aF (d:=9) rfl rfl rfl rfl (aF (d:=9) rfl rfl rfl rfl (aF (d:=9) rfl rfl rfl rfl (sB (d:=12) rfl rfl rfl (sB (d:=12) rfl rfl rfl (aF (d:=9) rfl rfl rfl rfl (aM rfl rfl rfl (aA rfl rfl (aF (d:=17) rfl rfl rfl rfl (aF (d:=17) rfl rfl rfl rfl (aM rfl rfl rfl (aB rfl rfl (aG (XF.thenN (bH (XF.res (bT results84 rfl) ?_)))))))))))))))
   first | exact ⟨dY (decide_eq_true (by omega)),hS.below⟩ | exact ⟨rfl,hS.below⟩ | (exfalso;simp at *;omega)
  ·have hg9:=of_decide_eq_false hc;clear hc
   refine aC (d:=9) rfl rfl (aA rfl rfl (aC (d:=9) rfl rfl (dQ rfl rfl rfl (aC (d:=9) rfl rfl (aA rfl rfl (bD (d:=12) rfl (fun hc=>?_) (fun hc=>?_)))))))
   ·have hg12:=of_decide_eq_true hc;clear hc
    refine aC (d:=12) rfl rfl (aA rfl rfl (aC (d:=12) rfl rfl (mV rfl rfl rfl (aC (d:=9) rfl rfl (aM rfl rfl rfl (aQ rfl rfl rfl (aA rfl rfl (bD (d:=17) rfl (fun hc=>?_) (fun hc=>?_)))))))))
    ·have hg17:=of_decide_eq_true hc;clear hc
     refine aF (d:=17) rfl rfl rfl rfl (aF (d:=17) rfl rfl rfl rfl (aM rfl rfl rfl (aB rfl rfl (aG (XF.thenN (bH (XF.res (bT results84 rfl) ?_)))))))
     first | exact ⟨dY (decide_eq_true (by omega)),hS.below⟩ | exact ⟨rfl,hS.below⟩ | (exfalso;simp at *;omega)
    ·have hg17:=of_decide_eq_false hc;clear hc
     refine aC (d:=17) rfl rfl (aA rfl rfl (aC (d:=17) rfl rfl (dX rfl rfl rfl (aQ rfl rfl rfl (aB rfl rfl (aG (XF.thenN (bH (XF.res (bT results84 rfl) ?_)))))))))
     first | exact ⟨dY (decide_eq_true (by omega)),hS.below⟩ | exact ⟨rfl,hS.below⟩ | (exfalso;simp at *;omega)
   ·have hg12:=of_decide_eq_false hc;clear hc
    refine aF (d:=12) rfl rfl rfl rfl (aF (d:=12) rfl rfl rfl rfl (aC (d:=9) rfl rfl (aQ rfl rfl rfl (aQ rfl rfl rfl (aA rfl rfl (aC (d:=17) rfl rfl (aA rfl rfl (aC (d:=17) rfl rfl (dX rfl rfl rfl (aQ rfl rfl rfl (aB rfl rfl (aG (XF.thenN (bH (XF.res (bT results84 rfl) ?_)))))))))))))))
    first | exact ⟨dY (decide_eq_true (by omega)),hS.below⟩ | exact ⟨rfl,hS.below⟩ | (exfalso;simp at *;omega)
 ·have hg5:=of_decide_eq_false hc;clear hc
  refine aF (d:=5) rfl rfl rfl rfl (aF (d:=5) rfl rfl rfl rfl (aQ rfl rfl rfl (aA rfl rfl (aC (d:=9) rfl rfl (aA rfl rfl (aC (d:=9) rfl rfl (dQ rfl rfl rfl (aC (d:=9) rfl rfl (aA rfl rfl (bD (d:=12) rfl (fun hc=>?_) (fun hc=>?_)))))))))))
  ·have hg12:=of_decide_eq_true hc;clear hc
   refine aC (d:=12) rfl rfl (aA rfl rfl (aC (d:=12) rfl rfl (mV rfl rfl rfl (aC (d:=9) rfl rfl (aM rfl rfl rfl (aQ rfl rfl rfl (aA rfl rfl (bD (d:=17) rfl (fun hc=>?_) (fun hc=>?_)))))))))
   ·have hg17:=of_decide_eq_true hc;clear hc
    refine aF (d:=17) rfl rfl rfl rfl (aF (d:=17) rfl rfl rfl rfl (aM rfl rfl rfl (aB rfl rfl (aG (XF.thenN (bH (XF.res (bT results84 rfl) ?_)))))))
    first | exact ⟨dY (decide_eq_true (by omega)),hS.below⟩ | exact ⟨rfl,hS.below⟩ | (exfalso;simp at *;omega)
   ·have hg17:=of_decide_eq_false hc;clear hc
    refine aC (d:=17) rfl rfl (aA rfl rfl (aC (d:=17) rfl rfl (dX rfl rfl rfl (aQ rfl rfl rfl (aB rfl rfl (aG (XF.thenN (bH (XF.res (bT results84 rfl) ?_)))))))))
    first | exact ⟨dY (decide_eq_true (by omega)),hS.below⟩ | exact ⟨rfl,hS.below⟩ | (exfalso;simp at *;omega)
  ·have hg12:=of_decide_eq_false hc;clear hc
   refine aF (d:=12) rfl rfl rfl rfl (aF (d:=12) rfl rfl rfl rfl (aC (d:=9) rfl rfl (aQ rfl rfl rfl (aQ rfl rfl rfl (aA rfl rfl (aC (d:=17) rfl rfl (aA rfl rfl (aC (d:=17) rfl rfl (dX rfl rfl rfl (aQ rfl rfl rfl (aB rfl rfl (aG (XF.thenN (bH (XF.res (bT results84 rfl) ?_)))))))))))))))
   first | exact ⟨dY (decide_eq_true (by omega)),hS.below⟩ | exact ⟨rfl,hS.below⟩ | (exfalso;simp at *;omega)
theorem qO (p:ByteArray) (hp:nT p) (w:World) :
  Calls prog 81 #[.string p] w (fun e w'=>e = .returned (.bool true)∧Below w.heap.size w w'):=by
 refine bF (args:=[.string p]) func81 rfl ntmps81 rfl ?_
 have hS:=St.start w
 obtain ⟨hsz,hne,c,hc0,hc1,hc2⟩:=hp.facts
 refine aD (aI (aB rfl rfl (aG (XF.thenN (aD (aD (aI (aA rfl rfl (opV (rn_eqlT (b:=false) rfl rfl hne) rfl (aA rfl rfl (aC (d:=6) rfl rfl (aA rfl rfl (aC (d:=6) rfl rfl (oL underlying9 rfl rfl (aC (d:=6) rfl rfl (dP rfl rfl rfl (aQ rfl rfl rfl (aA rfl rfl (bD (d:=11) rfl (fun hc=>?_) (fun hc=>?_))))))))))))))))))))
 ·have hg11:=of_decide_eq_true hc;clear hc
  refine aF (d:=11) rfl rfl rfl rfl (aF (d:=11) rfl rfl rfl rfl (aF (d:=11) rfl rfl rfl rfl (aF (d:=11) rfl rfl rfl rfl (aM rfl rfl rfl (aG (XF.thenN (cH rfl (aD (aI (aB rfl rfl (aG (XF.thenN (bH (XF.thenR (XF.res (bT results81 rfl) ?_)))))))))))))))
  exfalso;omega
 ·have hg11:=of_decide_eq_false hc;clear hc
  refine aC (d:=11) rfl rfl (aA rfl rfl (aC (d:=11) rfl rfl (opV (kN (j:=0) (c:=c) underlying9 rfl rfl rfl hc0) rfl (aC (d:=11) rfl rfl (bO (vs:=[_]) hS pK rfl (iI _ hc1 hc2 _) rfl fun W1 hS=>aC (d:=11) rfl rfl (cO rfl rfl (aQ rfl rfl rfl (aG (XF.thenN (bU rfl (aP (XF.thenN (aD (aD (aI (aA rfl rfl (oL underlying9 rfl rfl (aA rfl rfl (aG (XF.thenN (aL (cF (fun m l W=>∃ (i:Nat),i≤1∧m=1 - i∧l=[(0,.string p),(18,.int .i64 (p.size:Int)),(19,.int .i64 (i:Int))]∧St w [] [] [] W) (1 - 0) ([(0,_),(18,_),(19,_)]) ⟨rfl,rfl,rfl,trivial⟩ (⟨0,Nat.zero_le _,rfl,rfl,hS.clear⟩) ?_))))))))))))))))))))))
  clear hS
  rintro m l W ⟨i,hi,rfl,rfl,hS⟩
  refine aD (aI (bJ rfl rfl rfl (aG (XF.thenN (aD (bE rfl (fun hc=>?_) (fun hc=>?_)))))))
  ·have hc20:=of_decide_eq_true hc;clear hc
   obtain rfl:i=0:=by omega
   refine aP (XF.thenN (aD (aL (aD (aI (aA rfl rfl (aB rfl rfl (aG (XF.thenN (aD (aI (aA rfl rfl (aA rfl rfl (opV (kN (j:=0) (c:=c) underlying9 rfl rfl rfl hc0) rfl (bO (vs:=[_]) hS pK rfl (iI _ hc1 hc2 _) rfl fun W2 hS=>cO rfl rfl (aA rfl rfl (aF (d:=27) rfl rfl rfl rfl (aF (d:=27) rfl rfl rfl rfl (aF (d:=27) rfl rfl rfl rfl (aF (d:=27) rfl rfl rfl rfl (aF (d:=27) rfl rfl rfl rfl (aQ rfl rfl rfl (aG (XF.thenN (bU rfl (aP (XF.blkN (XF.thenN (aI (bC rfl rfl (IntWalk.i64_in _ (by omega)) rfl (aA rfl rfl (aG ?_))))))))))))))))))))))))))))))))
   exact XF.round 0 [(0,_),(18,_),(19,_)] (by omega) ⟨rfl,rfl,rfl,trivial⟩ ⟨1,by omega,rfl,rfl,hS.clear⟩
  ·have hc20:=of_decide_eq_false hc;clear hc
   refine bW (XF.thenX (XF.thenX (XF.blkX (XF.thenN (aD (aI (aB rfl rfl (aG (XF.thenN (bH (XF.res (bT results81 rfl) ?_)))))))))))
   exact ⟨rfl,hS.below⟩
theorem nU (nm:ByteArray) (ka:Option Addr) (kc:Nat) (hnm:nT nm) (w:World) :
  Calls prog 70 #[.agg #[.int .i64 1,.string nm,.slice ka 0 kc]] w (fun e w'=>e = .returned (.bool true)∧Below w.heap.size w w'):=by
 refine bF (args:=[.agg #[.int .i64 1,.string nm,.slice ka 0 kc]]) func70 rfl ntmps70 rfl ?_
 have hS:=St.start w
 refine aD (aI (bY (cs:=[_,_,_]) hS rfl rfl rfl fun B1 W1 hS=>aB rfl rfl (aG (XF.thenN (aD (aD (aI (aH (o':=0) cR rfl rfl rfl (aJ isAgg59 rfl (aE (hS.at_ 0 rfl) rfl) rfl (opV (dI (c:=false) rfl rfl (by decide)) rfl (aA rfl rfl (aF (d:=8) rfl rfl rfl rfl (aF (d:=8) rfl rfl rfl rfl (aF (d:=8) rfl rfl rfl rfl (aQ rfl rfl rfl (aG (XF.thenN (bU rfl (aP (XF.thenN (aD (aD (aI (aH (o':=0) cR rfl rfl rfl (aJ isAgg59 rfl (aE (hS.at_ 0 rfl) rfl) rfl (aG (XF.thenN (aL (aD (aI (opV (aZ (c:=true) rfl rfl (by decide)) rfl (aB rfl rfl (aG (XF.thenN (cH rfl (aD (aI (aH (o':=1) iH rfl rfl rfl (aJ isAgg9 rfl (aE (hS.at_ 0 rfl) rfl) rfl (bO (vs:=[_]) hS goes_81 rfl (qO nm hnm _) rfl fun W2 hS=>?_))))))))))))))))))))))))))))))))))))))))
 refine aA rfl rfl (aC (d:=20) rfl rfl (aH (o':=2) dT rfl rfl rfl (aC (d:=20) rfl rfl (aJ isAgg60 rfl (aE (hS.at_ 0 rfl) rfl) rfl (aC (d:=20) rfl rfl (bI underlying60 rfl rfl (aC (d:=20) rfl rfl (opV (aZ (c:=true) rfl rfl (by decide)) rfl (aM rfl rfl rfl (aB rfl rfl (aG (XF.thenN (bH (XF.blkR (XF.thenR (XF.res (bT results70 rfl) ?_))))))))))))))))
 exact ⟨rfl,hS.below⟩
theorem nV (ka:Option Addr) (kc:Nat) (w:World) :
  Calls prog 70 #[.agg #[.int .i64 3,.string ⟨#[]⟩,.slice ka 0 kc]] w (fun e w'=>e = .returned (.bool true)∧Below w.heap.size w w'):=by
 refine bF (args:=[.agg #[.int .i64 3,.string ⟨#[]⟩,.slice ka 0 kc]]) func70 rfl ntmps70 rfl ?_
 have hS:=St.start w
 refine aD (aI (bY (cs:=[_,_,_]) hS rfl rfl rfl fun B1 W1 hS=>aB rfl rfl (aG (XF.thenN (aD (aD (aI (aH (o':=0) cR rfl rfl rfl (aJ isAgg59 rfl (aE (hS.at_ 0 rfl) rfl) rfl (opV (dI (c:=true) rfl rfl (by decide)) rfl (aA rfl rfl (aC (d:=8) rfl rfl (aH (o':=1) iH rfl rfl rfl (aC (d:=8) rfl rfl (aJ isAgg9 rfl (aE (hS.at_ 0 rfl) rfl) rfl (aC (d:=8) rfl rfl ?_))))))))))))))))
 refine opV (lM (b:=false) rfl rfl (by rw [beq_self_eq_true];rfl)) rfl ?_
 refine aM rfl rfl rfl (aG (XF.thenN (bU rfl (aP (XF.thenN (aD (aD (aI (aH (o':=0) cR rfl rfl rfl (aJ isAgg59 rfl (aE (hS.at_ 0 rfl) rfl) rfl (aG (XF.thenN (aL (aD (aI (opV (aZ (c:=false) rfl rfl (by decide)) rfl (aB rfl rfl (aG (XF.thenN (bU rfl (aD (aD (aI (opV (aZ (c:=false) rfl rfl (by decide)) rfl (aB rfl rfl (aG (XF.thenN (bU rfl (aD (aI (opV (aZ (c:=true) rfl rfl (by decide)) rfl (aB rfl rfl (aG (XF.thenN (cH rfl (aP (XF.thenN (cH rfl (aD (aI (aH (o':=2) dT rfl rfl rfl (aJ isAgg60 rfl (aE (hS.at_ 0 rfl) rfl) rfl ?_))))))))))))))))))))))))))))))))))))))))))
 refine bI underlying60 rfl rfl (opV (aZ (c:=true) rfl rfl (by decide)) rfl (aB rfl rfl (aG (XF.thenN (bH (XF.blkR (XF.thenR (XF.res (bT results70 rfl) ?_))))))))
 exact ⟨rfl,hS.below⟩
theorem nW (ka:Option Addr) (kl kc:Nat) (kids:List ReV) (w:World) (hkl:kids.length=kl) (hk5:kl≤500) (hk:∀ (i:Nat) k,kids[i]?=some k→∃ b off,ka=some ⟨b,off,none⟩∧aK w b (off+i * 3) k.cells) (hop:∀ k∈kids,k.op≠5) (h2:2≤kl) :
  Calls prog 70 #[.agg #[.int .i64 5,.string ⟨#[]⟩,.slice ka kl kc]] w (fun e w'=>e = .returned (.bool true)∧Below w.heap.size w w'):=by
 refine bF (args:=[.agg #[.int .i64 5,.string ⟨#[]⟩,.slice ka kl kc]]) func70 rfl ntmps70 rfl ?_
 have hS:=St.start w
 refine aD (aI (bY (cs:=[_,_,_]) hS rfl rfl rfl fun B1 W1 hS=>aB rfl rfl (aG (XF.thenN (aD (aD (aI (aH (o':=0) cR rfl rfl rfl (aJ isAgg59 rfl (aE (hS.at_ 0 rfl) rfl) rfl (opV (dI (c:=true) rfl rfl (by decide)) rfl (aA rfl rfl (aC (d:=8) rfl rfl (aH (o':=1) iH rfl rfl rfl (aC (d:=8) rfl rfl (aJ isAgg9 rfl (aE (hS.at_ 0 rfl) rfl) rfl (aC (d:=8) rfl rfl ?_))))))))))))))))
 refine opV (lM (b:=false) rfl rfl (by rw [beq_self_eq_true];rfl)) rfl ?_
 refine aM rfl rfl rfl (aG (XF.thenN (bU rfl (aP (XF.thenN (aD (aD (aI (aH (o':=0) cR rfl rfl rfl (aJ isAgg59 rfl (aE (hS.at_ 0 rfl) rfl) rfl (aG (XF.thenN (aL (aD (aI (opV (aZ (c:=false) rfl rfl (by decide)) rfl (aB rfl rfl (aG (XF.thenN (bU rfl (aD (aD (aI (opV (aZ (c:=false) rfl rfl (by decide)) rfl (aB rfl rfl (aG (XF.thenN (bU rfl (aD (aI (opV (aZ (c:=false) rfl rfl (by decide)) rfl (aB rfl rfl (aG (XF.thenN (bU rfl (aI (opV (aZ (c:=false) rfl rfl (by decide)) rfl (aB rfl rfl (aG (XF.thenN (bU rfl (aD ?_))))))))))))))))))))))))))))))))))))))))))
 refine aD (aI (opV (aZ (c:=true) rfl rfl (by decide)) rfl (aB rfl rfl (aG (XF.thenN (cH rfl (aP (XF.thenN (cH rfl (aD (aD (aI (aH (o':=2) dT rfl rfl rfl (aJ isAgg60 rfl (aE (hS.at_ 0 rfl) rfl) rfl (bI underlying60 rfl rfl (aA rfl rfl (aG (XF.thenN (aL (cF (fun m l W=>∃ (i:Nat),i≤kl∧m=kl - i∧l=[(1,.pointer (some ⟨B1,0,none⟩)),(38,.slice ka kl kc),(39,.int .i64 (kl:Int)),(40,.int .i64 (i:Int))]∧St w [(B1,[.int .i64 5,.string ⟨#[]⟩,.slice ka kl kc],62)] [] [] W) (kl - 0) ([(1,_),(38,_),(39,_),(40,_)]) ⟨rfl,rfl,rfl,rfl,trivial⟩ (⟨0,Nat.zero_le _,rfl,rfl,hS.clear⟩) ?_))))))))))))))))))))
 clear hS
 rintro m l W ⟨i,hi,rfl,rfl,hS⟩
 refine aD (aI (bJ rfl rfl rfl (aG (XF.thenN (aD (bE rfl (fun hc=>?_) (fun hc=>?_)))))))
 ·have hc41:=of_decide_eq_true hc;clear hc
  obtain ⟨k,hki⟩:∃ k,kids[i]?=some k:=⟨_,List.getElem?_eq_getElem (by omega)⟩
  have hkop:=hop k (List.mem_of_getElem? hki)
  obtain ⟨b,off,hka,hcs⟩:=hk i k hki
  obtain ⟨ko,kn,kka,kkl,kkc,kks⟩:=k
  have k1:aK W b (off+i * 3) [.int .i64 ko,.string kn,.slice kka kkl kkc]:=aK.agree (aT hS.below 0) (Nat.zero_le _) hcs
  replace hkop:ko≠5:=hkop
  refine aP (XF.thenN (aD (aL (aD (aI ?_)))))
  refine aR (j:=i) (b:=b) (o:=off) (m:=kl) (c:=kc) underlying60 sizeOf62 (by show some (Value.slice _ _ _)=_;rw [hka]) rfl rfl (by omega) rfl rfl ?_
  refine aN (vs:=[_,_,_]) isAgg62 sizeOf62 rfl k1 rfl (aX (cs:=[_,_,_]) hS zeroValue62 rfl rfl fun B2 W2 hS=>aV (i:=0) (vs:=[_,_,_]) (cs':=[_,_,_]) (O':=[_,_]) hS sizeOf62 rfl rfl rfl rfl rfl rfl rfl fun W3 hS=>aG (XF.thenN (aD (aI (aH (o':=0) cR rfl rfl rfl (aJ isAgg59 rfl (aE (hS.at_ 0 rfl) rfl) rfl (aH (o':=0) cR rfl rfl rfl (aJ isAgg59 rfl (aE (hS.at_ 1 rfl) rfl) rfl (opV (aZ (c:=false) rfl rfl (decide_eq_false hkop)) rfl (aG (XF.thenN (bU rfl (aP (XF.blkN (XF.thenN (aI (bC rfl rfl (IntWalk.i64_in _ (by omega)) rfl (aA rfl rfl (aG ?_)))))))))))))))))))
  exact XF.round (kl - (i+1)) [(1,_),(38,_),(39,_),(40,_)] (by omega) ⟨rfl,rfl,rfl,rfl,trivial⟩ ⟨i+1,by omega,rfl,rfl,hS.tail.clear⟩
 ·have hc41:=of_decide_eq_false hc;clear hc
  refine bW (XF.thenX (XF.thenX (XF.blkX (XF.thenN (aD (aI (aH (o':=2) dT rfl rfl rfl (aJ isAgg60 rfl (aE (hS.at_ 0 rfl) rfl) rfl (bI underlying60 rfl rfl (dQ rfl rfl rfl (aB rfl rfl (aG (XF.thenN (bH (XF.blkR (XF.thenR (XF.res (bT results70 rfl) ?_)))))))))))))))))
  exact ⟨dY (decide_eq_true (by omega)),hS.below⟩
theorem nX (ka:Option Addr) (kl kc:Nat) (kids:List ReV) (w:World) (hkl:kids.length=kl) (hk5:kl≤500) (hk:∀ (i:Nat) k,kids[i]?=some k→∃ b off,ka=some ⟨b,off,none⟩∧aK w b (off+i * 3) k.cells) (hop:∀ k∈kids,k.op≠6) (h2:2≤kl) :
  Calls prog 70 #[.agg #[.int .i64 6,.string ⟨#[]⟩,.slice ka kl kc]] w (fun e w'=>e = .returned (.bool true)∧Below w.heap.size w w'):=by
 refine bF (args:=[.agg #[.int .i64 6,.string ⟨#[]⟩,.slice ka kl kc]]) func70 rfl ntmps70 rfl ?_
 have hS:=St.start w
 refine aD (aI (bY (cs:=[_,_,_]) hS rfl rfl rfl fun B1 W1 hS=>aB rfl rfl (aG (XF.thenN (aD (aD (aI (aH (o':=0) cR rfl rfl rfl (aJ isAgg59 rfl (aE (hS.at_ 0 rfl) rfl) rfl (opV (dI (c:=true) rfl rfl (by decide)) rfl (aA rfl rfl (aC (d:=8) rfl rfl (aH (o':=1) iH rfl rfl rfl (aC (d:=8) rfl rfl (aJ isAgg9 rfl (aE (hS.at_ 0 rfl) rfl) rfl (aC (d:=8) rfl rfl ?_))))))))))))))))
 refine opV (lM (b:=false) rfl rfl (by rw [beq_self_eq_true];rfl)) rfl ?_
 refine aM rfl rfl rfl (aG (XF.thenN (bU rfl (aP (XF.thenN (aD (aD (aI (aH (o':=0) cR rfl rfl rfl (aJ isAgg59 rfl (aE (hS.at_ 0 rfl) rfl) rfl (aG (XF.thenN (aL (aD (aI (opV (aZ (c:=false) rfl rfl (by decide)) rfl (aB rfl rfl (aG (XF.thenN (bU rfl (aD (aD (aI (opV (aZ (c:=false) rfl rfl (by decide)) rfl (aB rfl rfl (aG (XF.thenN (bU rfl (aD (aI (opV (aZ (c:=false) rfl rfl (by decide)) rfl (aB rfl rfl (aG (XF.thenN (bU rfl (aI (opV (aZ (c:=false) rfl rfl (by decide)) rfl (aB rfl rfl (aG (XF.thenN (bU rfl (aD ?_))))))))))))))))))))))))))))))))))))))))))
 refine aD (aI (opV (aZ (c:=false) rfl rfl (by decide)) rfl (aB rfl rfl (aG (XF.thenN (bU rfl (aI (opV (aZ (c:=true) rfl rfl (by decide)) rfl (aB rfl rfl (aG (XF.thenN (cH rfl (aD (aD (aI (aH (o':=2) dT rfl rfl rfl (aJ isAgg60 rfl (aE (hS.at_ 0 rfl) rfl) rfl (bI underlying60 rfl rfl (aA rfl rfl (aG (XF.thenN (aL (cF (fun m l W=>∃ (i:Nat),i≤kl∧m=kl - i∧l=[(1,.pointer (some ⟨B1,0,none⟩)),(38,.slice ka kl kc),(39,.int .i64 (kl:Int)),(40,.int .i64 (i:Int))]∧St w [(B1,[.int .i64 6,.string ⟨#[]⟩,.slice ka kl kc],62)] [] [] W) (kl - 0) ([(1,_),(38,_),(39,_),(40,_)]) ⟨rfl,rfl,rfl,rfl,trivial⟩ (⟨0,Nat.zero_le _,rfl,rfl,hS.clear⟩) ?_)))))))))))))))))))))))
 clear hS
 rintro m l W ⟨i,hi,rfl,rfl,hS⟩
 refine aD (aI (bJ rfl rfl rfl (aG (XF.thenN (aD (bE rfl (fun hc=>?_) (fun hc=>?_)))))))
 ·have hc41:=of_decide_eq_true hc;clear hc
  obtain ⟨k,hki⟩:∃ k,kids[i]?=some k:=⟨_,List.getElem?_eq_getElem (by omega)⟩
  have hkop:=hop k (List.mem_of_getElem? hki)
  obtain ⟨b,off,hka,hcs⟩:=hk i k hki
  obtain ⟨ko,kn,kka,kkl,kkc,kks⟩:=k
  have k1:aK W b (off+i * 3) [.int .i64 ko,.string kn,.slice kka kkl kkc]:=aK.agree (aT hS.below 0) (Nat.zero_le _) hcs
  replace hkop:ko≠6:=hkop
  refine aP (XF.thenN (aD (aL (aD (aI ?_)))))
  refine aR (j:=i) (b:=b) (o:=off) (m:=kl) (c:=kc) underlying60 sizeOf62 (by show some (Value.slice _ _ _)=_;rw [hka]) rfl rfl (by omega) rfl rfl ?_
  refine aN (vs:=[_,_,_]) isAgg62 sizeOf62 rfl k1 rfl (aX (cs:=[_,_,_]) hS zeroValue62 rfl rfl fun B2 W2 hS=>aV (i:=0) (vs:=[_,_,_]) (cs':=[_,_,_]) (O':=[_,_]) hS sizeOf62 rfl rfl rfl rfl rfl rfl rfl fun W3 hS=>aG (XF.thenN (aD (aI (aH (o':=0) cR rfl rfl rfl (aJ isAgg59 rfl (aE (hS.at_ 0 rfl) rfl) rfl (aH (o':=0) cR rfl rfl rfl (aJ isAgg59 rfl (aE (hS.at_ 1 rfl) rfl) rfl (opV (aZ (c:=false) rfl rfl (decide_eq_false hkop)) rfl (aG (XF.thenN (bU rfl (aP (XF.blkN (XF.thenN (aI (bC rfl rfl (IntWalk.i64_in _ (by omega)) rfl (aA rfl rfl (aG ?_)))))))))))))))))))
  exact XF.round (kl - (i+1)) [(1,_),(38,_),(39,_),(40,_)] (by omega) ⟨rfl,rfl,rfl,rfl,trivial⟩ ⟨i+1,by omega,rfl,rfl,hS.tail.clear⟩
 ·have hc41:=of_decide_eq_false hc;clear hc
  refine bW (XF.thenX (XF.thenX (XF.blkX (XF.thenN (aD (aI (aH (o':=2) dT rfl rfl rfl (aJ isAgg60 rfl (aE (hS.at_ 0 rfl) rfl) rfl (bI underlying60 rfl rfl (dQ rfl rfl rfl (aB rfl rfl (aG (XF.thenN (bH (XF.blkR (XF.thenR (XF.res (bT results70 rfl) ?_)))))))))))))))))
  exact ⟨dY (decide_eq_true (by omega)),hS.below⟩
theorem qP (x:ReV) (w:World) (hx:ReIn w x) (hs:Shp x):Calls prog 70 #[x.val] w (fun e w'=>e = .returned (.bool true)∧Below w.heap.size w w'):=by
 cases hx with
 | @mk op nm ka kl kc kids h1 h2 h2c h3 h4 =>
  rcases hs with ⟨e1,e2,e3⟩ | ⟨e1,⟨e2,e3⟩ | ⟨e2,e3,e4⟩⟩
  ·change op=1 at e1
   change kids=[] at e3
   subst e1 e3
   obtain rfl:0=kl:=h1
   exact nU nm ka kc e2 w
  ·change nm=_ at e1
   change op=3 at e2
   change kids=[] at e3
   subst e1 e2 e3
   obtain rfl:0=kl:=h1
   exact nV ka kc w
  ·change nm=_ at e1
   change op=5∨op=6 at e2
   subst e1
   rcases e2 with rfl | rfl
   ·exact nW ka kl kc kids w h1 h2 h3 e3 (by rw [← h1];exact e4)
   ·exact nX ka kl kc kids w h1 h2 h3 e3 (by rw [← h1];exact e4)
theorem pL:bA prog 55=true:=by kernel_rfl
theorem pM:bA prog 56=true:=by kernel_rfl
theorem goes_70:bA prog 70=true:=by kernel_rfl
theorem iQ {α:Type} {a b c:α} {l:List α}:(a::b::c::l).Perm (c::a::b::l):=List.perm_middle (l₁:=[a,b]) (a:=c) (l₂:=l)
theorem nY (op:Int) (nm:ByteArray) (ka:Option Addr) (kl kc:Nat) (kids:List ReV) (w:World) (hX:ReIn w (.mk op nm ka kl kc kids)) (hs:Shp (.mk op nm ka kl kc kids)) (hih:∀ k∈kids,∀ w,ReIn w k→Calls prog 56 #[k.val] w (fun e w'=>e = .returned (.bool true)∧Below w.heap.size w w')) :
  Calls prog 56 #[.agg #[.int .i64 op,.string nm,.slice ka kl kc]] w (fun e w'=>e = .returned (.bool true)∧Below w.heap.size w w'):=by
 refine bF (args:=[.agg #[.int .i64 op,.string nm,.slice ka kl kc]]) func56 rfl ntmps56 rfl ?_
 have hS:=St.start w
 obtain ⟨hkl,hk5,hk,hk4⟩:kids.length=kl∧kl≤500∧(∀ (i:Nat) k,kids[i]?=some k→∃ b off,ka=some ⟨b,off,none⟩∧aK w b (off+i * 3) k.cells)∧∀ k∈kids,ReIn w k:=(by cases hX with | mk h1 h2 h2c h3 h4=>exact ⟨h1,h2,h3,h4⟩)
 refine aD (aI (bY (cs:=[_,_,_]) hS rfl rfl rfl fun B1 W1 hS=>aB rfl rfl (aG (XF.thenN (aD (aD (aI (aH (o':=2) dT rfl rfl rfl (aJ isAgg60 rfl (aE (hS.at_ 0 rfl) rfl) rfl (bI underlying60 rfl rfl (aA rfl rfl (aG (XF.thenN (aL (cF (fun m l W=>∃ (i:Nat),i≤kl∧m=kl - i∧l=[(1,.pointer (some ⟨B1,0,none⟩)),(6,.slice ka kl kc),(7,.int .i64 (kl:Int)),(8,.int .i64 (i:Int))]∧St w [(B1,[.int .i64 op,.string nm,.slice ka kl kc],62)] [] [] W) (kl - 0) ([(1,_),(6,_),(7,_),(8,_)]) ⟨rfl,rfl,rfl,rfl,trivial⟩ (⟨0,Nat.zero_le _,rfl,rfl,hS.clear⟩) ?_)))))))))))))))
 clear hS
 rintro m l W ⟨i,hi,rfl,rfl,hS⟩
 refine aD (aI (bJ rfl rfl rfl (aG (XF.thenN (aD (bE rfl (fun hc=>?_) (fun hc=>?_)))))))
 ·have hc9:=of_decide_eq_true hc;clear hc
  obtain ⟨k,hki⟩:∃ k,kids[i]?=some k:=⟨_,List.getElem?_eq_getElem (by omega)⟩
  have hkm:=List.mem_of_getElem? hki
  obtain ⟨b,off,hka,hcs0⟩:=hk i k hki
  have hcs:aK W b (off+i * 3) k.cells:=aK.agree (aT hS.below 0) (Nat.zero_le _) hcs0
  have hkx:=hk4 k hkm
  have hkc:=hih k hkm
  obtain ⟨ko,kn,kka,kkl,kkc,kks⟩:=k
  have k1:aK _ b (off+i * 3) [.int .i64 ko,.string kn,.slice kka kkl kkc]:=hcs
  refine aP (XF.thenN (aD (aL (aD (aI ?_)))))
  refine aR (j:=i) (b:=b) (o:=off) (m:=kl) (c:=kc) underlying60 sizeOf62 (by show some (Value.slice _ _ _)=_;rw [hka]) rfl rfl (by omega) rfl rfl ?_
  refine aN (vs:=[_,_,_]) isAgg62 sizeOf62 rfl k1 rfl (aX (cs:=[_,_,_]) hS zeroValue62 rfl rfl fun B2 W2 hS=>aV (i:=0) (vs:=[_,_,_]) (cs':=[_,_,_]) (O':=[_,_]) hS sizeOf62 rfl rfl rfl rfl rfl rfl rfl fun W3 hS=>aG (XF.thenN (aD (aI (aN (vs:=[_,_,_]) isAgg62 sizeOf62 rfl (aK.own (j:=0) (m:=3) (hS.at_ 0 rfl) rfl) rfl (bO (vs:=[_]) hS pM rfl (hkc _ (hkx.keep hS.below)) rfl fun W4 hS=>cO rfl rfl (aG (XF.thenN (bU rfl (aP (XF.blkN (XF.thenN (aI (bC rfl rfl (IntWalk.i64_in _ (by omega)) rfl (aA rfl rfl (aG ?_))))))))))))))))
  exact XF.round (kl - (i+1)) [(1,_),(6,_),(7,_),(8,_)] (by omega) ⟨rfl,rfl,rfl,rfl,trivial⟩ ⟨i+1,by omega,rfl,rfl,hS.tail.clear⟩
 ·have hc9:=of_decide_eq_false hc;clear hc
  refine bW (XF.thenX (XF.thenX (XF.blkX (XF.thenN (aD (aI (aN (vs:=[_,_,_]) isAgg62 sizeOf62 rfl (aK.own (j:=0) (m:=3) (hS.at_ 0 rfl) rfl) rfl (bO (vs:=[_]) hS goes_70 rfl (qP (.mk op nm ka kl kc kids) _ (hX.keep hS.below) hs) rfl fun W5 hS=>aB rfl rfl (aG (XF.thenN (bH (XF.res (bT results56 rfl) ?_))))))))))))
  exact ⟨rfl,hS.below⟩
theorem sR (x:ReV) (hw:WellM x):∀ w,ReIn w x→Calls prog 56 #[x.val] w (fun e w'=>e = .returned (.bool true)∧Below w.heap.size w w'):=by
 induction hw with
 | @mk x h1 h2 ih =>
  intro w hx
  cases x with
  | mk op nm ka kl kc kids=>exact nY op nm ka kl kc kids w hx h2 ih
theorem nZ (op:Int) (nm:ByteArray) (ka:Option Addr) (kl kc:Nat) (kids:List ReV) (d n NB:Nat) (f:Nat→Nat) (Kt:List (Nat×World)) (Ot:Own) (G:aS) (K:List (Nat×World)) (w0 w:World) (hS0:St w0 ((NB,[.int .i64 (n:Int)],3)::Ot) G K w) (hKt:∀ q∈Kt,q∈K) (hX:bS w0 Kt (fun W=>ReIn W (.mk op nm ka kl kc kids))) (hn:n+1≤500) (hd:d≤50) (hf0:f 0=n+1) (hih:∀ (i:Nat) k,kids[i]?=some k→∀ (NB:Nat) (Kt:List (Nat×World)) (Ot:Own) (G:aS) (K:List (Nat×World)) (w0 w:World),St w0 ((NB,[.int .i64 (f i:Int)],3)::Ot) G K w→(∀ q∈Kt,q∈K)→bS w0 Kt (fun W=>ReIn W k)→Calls prog 55 #[k.val,.int .i64 ((d+1:Nat):Int),.pointer (some ⟨NB,0,none⟩)] w (fun e w'=>e = .returned (.bool true)∧St w0 ((NB,[.int .i64 (f (i+1):Int)],3)::Ot) G K w')) :
  Calls prog 55 #[.agg #[.int .i64 op,.string nm,.slice ka kl kc],.int .i64 (d:Int),.pointer (some ⟨NB,0,none⟩)] w (fun e w'=>e = .returned (.bool true)∧St w0 ((NB,[.int .i64 (f kids.length:Int)],3)::Ot) G K w'):=by
 refine bF (args:=[.agg #[.int .i64 op,.string nm,.slice ka kl kc],.int .i64 (d:Int),.pointer (some ⟨NB,0,none⟩)]) func55 rfl ntmps55 rfl ?_
 have hS:=hS0
 obtain ⟨hkl,hk5⟩:kids.length=kl∧kl≤500:=(by cases hX hS0 hKt with | mk h1 h2 h2c h3 h4=>exact ⟨h1,h2⟩)
 have hk:bS w0 Kt (fun W=>∀ (i:Nat) k,kids[i]?=some k→∃ b off,ka=some ⟨b,off,none⟩∧aK W b (off+i * 3) k.cells):=fun h9 hk9=>(by cases hX h9 hk9 with | mk h1 h2 h2c h3 h4=>exact h3)
 have hk4:∀ k∈kids,bS w0 Kt (fun W=>ReIn W k):=fun k hk=>(show bS w0 Kt (fun W=>ReIn W k) from fun h9 hk9=>(by cases hX h9 hk9 with | mk h1 h2 h2c h3 h4=>exact h4 k hk))
 refine aD (aI (bY (cs:=[_,_,_]) hS rfl rfl rfl fun B1 W1 hS=>aB rfl rfl (aG (XF.thenN (aD (aI (aA rfl rfl (bB rfl rfl (aJ isAgg3 rfl (aE (hS.at_ 1 rfl) rfl) rfl (bC rfl rfl (IntWalk.i64_in _ (by omega)) rfl (bB rfl rfl (bQ (i:=1) (cs':=[_]) (O':=(_::_::Ot)) hS sizeOf3 rfl rfl rfl rfl rfl rfl rfl fun W2 hS=>aG (XF.thenN (aD (aD (aI (aA rfl rfl (bB rfl rfl (aJ isAgg3 rfl (aE (hS.at_ 1 rfl) rfl) rfl (dP rfl rfl rfl (aA rfl rfl (bD (d:=18) rfl (fun hc=>?_) (fun hc=>?_)))))))))))))))))))))))
 ·have hg18:=of_decide_eq_true hc;clear hc
  refine aF (d:=18) rfl rfl rfl rfl (aF (d:=18) rfl rfl rfl rfl (aM rfl rfl rfl (aG (XF.thenN (cH rfl (aD (aI (aB rfl rfl (aG (XF.thenN (bH (XF.thenR (XF.res (bT results55 rfl) ?_)))))))))))))
  exfalso;omega
 ·have hg18:=of_decide_eq_false hc;clear hc
  refine aC (d:=18) rfl rfl (aA rfl rfl (aC (d:=18) rfl rfl (dP rfl rfl rfl (aQ rfl rfl rfl (aG (XF.thenN (bE rfl (fun hc=>?_) (fun hc=>?_))))))))
  ·have hc21:=of_decide_eq_true hc;clear hc
   refine aD (aI (aB rfl rfl (aG (XF.thenN (bH (XF.thenR (XF.res (bT results55 rfl) ?_)))))))
   exfalso;omega
  ·have hc21:=of_decide_eq_false hc;clear hc
   refine aP (XF.thenN (aD (aD ?_)))
   have e0:(n:Int)+1=(f 0:Int):=by omega
   rw [e0] at hS
   refine aI (aH (o':=2) dT rfl rfl rfl (aJ isAgg60 rfl (aE (hS.at_ 0 rfl) rfl) rfl (bI underlying60 rfl rfl (aA rfl rfl (aG (XF.thenN (aL (cF (fun m l W=>∃ (i:Nat),i≤kl∧m=kl - i∧l=[(1,.int .i64 (d:Int)),(2,.pointer (some ⟨NB,0,none⟩)),(23,.slice ka kl kc),(24,.int .i64 (kl:Int)),(25,.int .i64 (i:Int))]∧St w0 ((B1,[.int .i64 op,.string nm,.slice ka kl kc],62)::(NB,[.int .i64 (f i:Int)],3)::Ot) G K W) (kl - 0) ([(1,_),(2,_),(23,_),(24,_),(25,_)]) ⟨rfl,rfl,rfl,rfl,rfl,trivial⟩ (⟨0,Nat.zero_le _,rfl,rfl,hS.keep K (fun q hq=>by simp [hq])⟩) ?_))))))))
   clear hS
   rintro m l W ⟨i,hi,rfl,rfl,hS⟩
   refine aD (aI (bJ rfl rfl rfl (aG (XF.thenN (aD (bE rfl (fun hc=>?_) (fun hc=>?_)))))))
   ·have hc26:=of_decide_eq_true hc;clear hc
    obtain ⟨k,hki⟩:∃ k,kids[i]?=some k:=⟨_,List.getElem?_eq_getElem (by omega)⟩
    have hkm:=List.mem_of_getElem? hki
    obtain ⟨b,off,hka,hcs⟩:=hk (hS.keep K (fun q hq=>by simp [hq])) hKt i k hki
    have hkx:bS w0 Kt (fun W=>ReIn W k):=hk4 k hkm
    have hkc:=hih i k hki
    obtain ⟨ko,kn,kka,kkl,kkc,kks⟩:=k
    have k1:aK _ b (off+i * 3) [.int .i64 ko,.string kn,.slice kka kkl kkc]:=hcs
    refine aP (XF.thenN (aD (aL (aD (aI ?_)))))
    refine aR (j:=i) (b:=b) (o:=off) (m:=kl) (c:=kc) underlying60 sizeOf62 (by show some (Value.slice _ _ _)=_;rw [hka]) rfl rfl (by omega) rfl rfl ?_
    refine aN (vs:=[_,_,_]) isAgg62 sizeOf62 rfl k1 rfl (aX (cs:=[_,_,_]) hS zeroValue62 rfl rfl fun B3 W3 hS=>aV (i:=0) (vs:=[_,_,_]) (cs':=[_,_,_]) (O':=(_::_::_::Ot)) hS sizeOf62 rfl rfl rfl rfl rfl rfl rfl fun W4 hS=>aG (XF.thenN (aD (aI (aN (vs:=[_,_,_]) isAgg62 sizeOf62 rfl (aK.own (j:=0) (m:=3) (hS.at_ 0 rfl) rfl) rfl (aA rfl rfl (bC rfl rfl (IntWalk.i64_in _ (by omega)) rfl (aA rfl rfl (aU (vs:=[_,_,_]) pL rfl (hkc NB Kt _ G K w0 _ ((hS.keep K (fun q hq=>by simp [hq])).perm iQ) hKt hkx) rfl ?_)))))))))
    rintro e W9 ⟨rfl,hS9⟩
    refine ⟨_,rfl,?_⟩
    clear hS;have hS:=hS9.perm iQ.symm;clear hS9
    refine cO rfl rfl (aG (XF.thenN (bU rfl (aP (XF.blkN (XF.thenN (aI (bC rfl rfl (IntWalk.i64_in _ (by omega)) rfl (aA rfl rfl (aG ?_))))))))))
    exact XF.round (kl - (i+1)) [(1,_),(2,_),(23,_),(24,_),(25,_)] (by omega) ⟨rfl,rfl,rfl,rfl,rfl,trivial⟩ ⟨i+1,by omega,rfl,rfl,hS.tail.keep K (fun q hq=>by simp [hq])⟩
   ·have hc26:=of_decide_eq_false hc;clear hc
    obtain rfl:i=kl:=by omega
    refine bW (XF.thenX (XF.thenX (XF.blkX (XF.thenN (aD (aI (aB rfl rfl (aG (XF.thenN (bH (XF.res (bT results55 rfl) ?_)))))))))))
    rw [hkl]
    exact ⟨rfl,(hS.keep K (fun q hq=>by simp [hq])).tail⟩
theorem sS {x:ReV} {d n n2:Nat} (hF:FitsR x d n n2):∀ (NB:Nat) (Kt:List (Nat×World)) (Ot:Own) (G:aS) (K:List (Nat×World)) (w0 w:World),St w0 ((NB,[.int .i64 (n:Int)],3)::Ot) G K w→(∀ q∈Kt,q∈K)→bS w0 Kt (fun W=>ReIn W x)→Calls prog 55 #[x.val,.int .i64 (d:Int),.pointer (some ⟨NB,0,none⟩)] w (fun e w'=>e = .returned (.bool true)∧St w0 ((NB,[.int .i64 (n2:Int)],3)::Ot) G K w'):=by
 induction hF with
 | @mk x d n f h1 h2 h3 h4 ih =>
  intro NB Kt Ot G K w0 w hS0 hKt hX
  cases x with
  | mk op nm ka kl kc kids=>exact nZ op nm ka kl kc kids d n NB f Kt Ot G K w0 w hS0 hKt hX h1 h2 h3 ih
theorem jW (op:Int) (nm:ByteArray) (ka:Option Addr) (kl kc:Nat) (kids:List ReV) (n2:Nat) (w:World) (hX:ReIn w (.mk op nm ka kl kc kids)) (hF:FitsR (.mk op nm ka kl kc kids) 1 0 n2) (hw:WellM (.mk op nm ka kl kc kids)) :
  Calls prog 47 #[.agg #[.int .i64 op,.string nm,.slice ka kl kc]] w (fun e w'=>e = .returned (.int .i64 0)∧Below w.heap.size w w'):=by
 refine bF (args:=[.agg #[.int .i64 op,.string nm,.slice ka kl kc]]) func47 rfl ntmps47 rfl ?_
 have hS:=St.start w
 refine aD (aI (bY (cs:=[_,_,_]) hS rfl rfl rfl fun B1 W1 hS=>aB rfl rfl (aG (XF.thenN (aD (aI (aX (cs:=[_]) hS zeroValue3 rfl rfl fun B2 W2 hS=>bQ (i:=0) (cs':=[_]) (O':=[_,_]) hS sizeOf3 rfl rfl rfl rfl rfl rfl rfl fun W3 hS=>aG (XF.thenN (aD (aD (aI (aN (vs:=[_,_,_]) isAgg62 sizeOf62 rfl (aK.own (j:=0) (m:=3) (hS.at_ 1 rfl) rfl) rfl (aU (vs:=[_,_,_]) pL rfl (sS hF B2 [] _ [] [] w _ (hS.keep [] (fun q hq=>by cases hq)) (fun q hq=>hq) (fun h9 hk9=>hX.keep h9.below)) rfl ?_)))))))))))))
 rintro e W9 ⟨rfl,hS9⟩
 refine ⟨_,rfl,?_⟩
 clear hS;have hS:=hS9;clear hS9
 refine cO rfl rfl (aG (XF.thenN (bU rfl (aP (XF.thenN (aD (aD (aI (aN (vs:=[_,_,_]) isAgg62 sizeOf62 rfl (aK.own (j:=0) (m:=3) (hS.at_ 1 rfl) rfl) rfl (bO (vs:=[_]) hS pM rfl (sR (.mk op nm ka kl kc kids) hw _ (hX.keep hS.below)) rfl fun W4 hS=>cO rfl rfl (aG (XF.thenN (bU rfl (aP (XF.thenN (aD (aI (aB rfl rfl (aG (XF.thenN (bH (XF.res (bT results47 rfl) ?_))))))))))))))))))))))
 exact ⟨rfl,hS.below⟩
theorem gS (v0:Int) (v1:ByteArray):prog.built 62 [(0,.int .i64 v0),(1,.string v1)]=some #[.int .i64 v0,.string v1,.slice none 0 0]:=by kernel_rfl
theorem pN:bA prog 47=true:=by kernel_rfl
def lN:List ByteArray:=[⟨#[97]⟩,⟨#[98]⟩]
def kG:Nat→List (List UInt8×Int)
 | 0=>[]
 | 1=>[([97],0)]
 | _=>[([98],1),([97],0)]
theorem sT {i:Nat} (h:i≤2):(kG i).length=i:=by
 match i,h with
 | 0,_=>rfl
 | 1,_=>rfl
 | 2,_=>rfl
theorem nsAB_at {i:Nat} {s:ByteArray} (h:lN[i]?=some s):nT s∧s.size≤maxLen∧(kG i).any (fun p=>decide (p.1=s.data.toList))=false∧(s.data.toList,(i:Int))::kG i=kG (i+1):=by
 match i,h with
 | 0,h =>
  obtain rfl:(⟨#[97]⟩:ByteArray)=s:=by simpa [lN] using h
  exact ⟨.inl rfl,by decide,rfl,rfl⟩
 | 1,h =>
  obtain rfl:(⟨#[98]⟩:ByteArray)=s:=by simpa [lN] using h
  exact ⟨.inr rfl,by decide,by decide,rfl⟩
 | i+2,h=>simp [lN] at h
theorem lO {W:World} {s:ByteArray} (h:nT s):ReIn W (.mk 1 s none 0 0 [])∧FitsR (.mk 1 s none 0 0 []) 1 0 1∧WellM (.mk 1 s none 0 0 []) :=
 ⟨.mk rfl (by omega) (Nat.le_refl _) (fun i k hi=>by simp at hi) (fun k hk=>by cases hk),FitsR.mk (x:=.mk 1 s none 0 0 []) (f:=fun _=>1) (by omega) (by omega) rfl (fun i k hi=>by simp [ReV.kids] at hi),.mk (fun k hk=>by cases hk) (.inl ⟨rfl,h,rfl⟩)⟩
theorem qQ (na:Option Addr) (nc:Nat) (w:World) (hN:sQ w na lN) :
  Calls prog 48 #[.slice na 2 nc] w (fun e w'=>∃ MB:Nat,e = .returned (.tuple #[.map (some MB),.bool true])∧MsI MB (kG 2) w'∧w.heap.size≤MB∧Below w.heap.size w w'):=by
 refine bF (args:=[.slice na 2 nc]) func48 rfl ntmps48 rfl ?_
 have hS:=St.start w
 refine aD (aI (aB rfl rfl (aB rfl rfl (aG (XF.thenN (aD (aI ?_)))))))
 have hsz0:=hS.below.size
 refine nC hS rfl ?_
 intro MB W9 hMB0 hlo hS9
 have hM0:=MsI.made hMB0
 clear hS;have hS:=hS9.clear;clear hS9
 refine aB rfl rfl (aG (XF.thenN (aD (aD (aI (aA rfl rfl (bI underlying77 rfl rfl (aA rfl rfl (aG (XF.thenN (aL (cF (fun m l W=>∃ (i:Nat),i≤2∧m=2 - i∧l=[(0,.slice na 2 nc),(4,.map (some MB)),(8,.slice na 2 nc),(9,.int .i64 ((2:Nat):Int)),(10,.int .i64 (i:Int))]∧MsI MB (kG i) W∧St w [] [] [] W) (2 - 0) ([(0,_),(4,_),(8,_),(9,_),(10,_)]) ⟨rfl,rfl,rfl,rfl,rfl,trivial⟩ (⟨0,Nat.zero_le _,rfl,rfl,hM0,hS.clear⟩) ?_))))))))))))
 clear hS
 have hlo9:w.heap.size≤MB:=Nat.le_trans hsz0 hlo
 rintro m l W ⟨i,hi,rfl,rfl,hM,hS⟩
 refine aD (aI (bJ rfl rfl rfl (aG (XF.thenN (aD (bE rfl (fun hc=>?_) (fun hc=>?_)))))))
 ·have hc11:=of_decide_eq_true hc;clear hc
  obtain ⟨s,hs⟩:∃ s,lN[i]?=some s:=⟨_,List.getElem?_eq_getElem (show i < 2 by omega)⟩
  obtain ⟨hs1,hs2,hs3,hs4⟩:=nsAB_at hs
  obtain ⟨b,off,hna,hcs⟩:=hN i s hs
  have k1:=hS.old hcs
  have hlen9:=sT hi
  refine aP (XF.thenN (aD (aL (aD (aI (aA rfl rfl ?_))))))
  refine aR (j:=i) (b:=b) (o:=off) (m:=2) (c:=nc) underlying77 sizeOf9 (by show some (Value.slice _ _ _)=_;rw [hna]) rfl rfl (by omega) rfl rfl ?_
  refine aJ isAgg9 rfl (k1) rfl (aB rfl rfl (aB rfl rfl (aG (XF.thenN (aD (aD (aI (aA rfl rfl (cM (us:=[(0,.int .i64 _),(1,.string _)]) rfl (gS _ _) rfl (dM (vs:=[_]) hS pN rfl (jW 1 s none 0 0 [] 1 _ (lO (W:=W) hs1).1 (lO (W:=W) hs1).2.1 (lO (W:=W) hs1).2.2) rfl ?_))))))))))
  rintro e W1 ⟨rfl,hb⟩
  refine ⟨_,rfl,hb,fun hS'=>?_⟩
  clear hS;have hS:=hS';clear hS'
  have hM2:=hM.below hb
  clear hb
  refine opV (dI (c:=false) rfl rfl (by decide)) rfl (aG (XF.thenN (bU rfl (aP (XF.thenN (aI (aA rfl rfl (aA rfl rfl (aA rfl rfl ?_)))))))))
  refine nS hS.clear hM2 hs2 (by rcases (by omega:i=0∨i=1) with rfl | rfl<;>rfl) hs3 (by rw [hlen9];simp only [maxLen];omega) hlo9 (fun q hq=>by cases hq) rfl rfl rfl ?_
  intro W95 hS9 hM3
  rw [hs4] at hM3
  clear hS;have hS:=hS9;clear hS9
  refine aG (XF.blkN (XF.thenN (aI (bC rfl rfl (IntWalk.i64_in _ (by omega)) rfl (aA rfl rfl (aG ?_))))))
  exact XF.round (2 - (i+1)) [(0,_),(4,_),(8,_),(9,_),(10,_)] (by omega) ⟨rfl,rfl,rfl,rfl,rfl,trivial⟩ ⟨i+1,by omega,rfl,rfl,hM3,hS.clear⟩
 ·have hc11:=of_decide_eq_false hc;clear hc
  obtain rfl:i=2:=by omega
  refine bW (XF.thenX (XF.thenX (XF.blkX (XF.thenN (aD (aI (aA rfl rfl (aA rfl rfl (opV (mM hM rfl) rfl (aA rfl rfl (bI underlying77 rfl rfl (opV (aZ (c:=true) rfl rfl (by decide)) rfl (aB rfl rfl (aB rfl rfl (aG (XF.thenN (bH (XF.res (rE results48 rfl rfl) ?_))))))))))))))))))
  exact ⟨MB,rfl,hM,hlo9,hS.below⟩
theorem dC (w:World) (b o:Nat):(Instr.fieldAt 94 (.pointer (some ⟨b,o,none⟩)) 0).run prog w = .ok (.pointer (some ⟨b,o+0,none⟩)) w:=by
 simp [Instr.fieldAt,run_underlying underlying94,Instr.sureAddr,go_sem,Addr.add_lit]
theorem eZ (w:World) (b o:Nat):(Instr.fieldAt 94 (.pointer (some ⟨b,o,none⟩)) 2).run prog w = .ok (.pointer (some ⟨b,o+6,none⟩)) w:=by
 simp [Instr.fieldAt,run_underlying underlying94,Instr.sureAddr,go_sem,Addr.add_lit]
inductive Lay (es:List (List UInt8×Int)):ReV→Int→Int→Nat→List ArV→Nat→List ArV→Prop
 | name {x:ReV} {f t v:Int} {n:Nat} {L:List ArV}:x.op=1→x.nm.size≤maxLen→es.find? (fun p=>decide (p.1=x.nm.data.toList))=some (x.nm.data.toList,v)→L.length < 65536→Lay es x f t n L n (L++[⟨f,v,t⟩])
 | emp {x:ReV} {f t:Int} {n:Nat} {L:List ArV}:x.op=3→L.length < 65536→Lay es x f t n L n (L++[⟨f,-1,t⟩])
 | seq {x:ReV} {f t:Int} {k n2:Nat} {L2:List ArV} (fr:Nat→Int) (sn:Nat→Nat) (sL:Nat→List ArV):x.op=5→x.kids.length=k+1→fr 0=f→(∀ i,i < k→sn i < 4096∧fr (i+1)=(sn i:Int)) →
   (∀ (i:Nat) c,i < k→x.kids[i]?=some c→Lay es c (fr i) (fr (i+1)) (sn i+1) (sL i) (sn (i+1)) (sL (i+1)))→(∀ c,x.kids[k]?=some c→Lay es c (fr k) t (sn k) (sL k) n2 L2)→Lay es x f t (sn 0) (sL 0) n2 L2
 | alt {x:ReV} {f t:Int} (sn:Nat→Nat) (sL tL:Nat→List ArV):x.op=6→(∀ i,i < x.kids.length→sn i+2≤4096∧(sL i).length < 65536∧(tL i).length < 65536∧sL (i+1)=tL i++[⟨(sn i:Int)+1,-1,t⟩]) →
   (∀ (i:Nat) c,x.kids[i]?=some c→Lay es c (sn i:Int) ((sn i:Int)+1) (sn i+2) (sL i++[⟨f,-1,(sn i:Int)⟩]) (sn (i+1)) (tL i))→Lay es x f t (sn 0) (sL 0) (sn x.kids.length) (sL x.kids.length)
theorem eF (BB MB n:Nat) (sy s0 e0:Int) (v4:Value) (Ot:Own) (G:aS) (K:List (Nat×World)) (w0 w:World) (hS0:St w0 ((BB,[.int .i64 (n:Int),.int .i64 sy,.int .i64 s0,.int .i64 e0,v4,.map (some MB),.bool false],94)::Ot) G K w) (hn:n < 4096) :
  Calls prog 57 #[.pointer (some ⟨BB,0,none⟩)] w (fun e w'=>e = .returned (.int .i64 (n:Int))∧St w0 ((BB,[.int .i64 ((n+1:Nat):Int),.int .i64 sy,.int .i64 s0,.int .i64 e0,v4,.map (some MB),.bool false],94)::Ot) G K w'):=by
 refine bF (args:=[.pointer (some ⟨BB,0,none⟩)]) func57 rfl ntmps57 rfl ?_
 have hS:=hS0
 refine aD (aI (aB rfl rfl (aG (XF.thenN (aD (aD (aI (aA rfl rfl (bB rfl rfl (aH (o':=0) dC rfl rfl rfl (aH (o':=0) cS rfl rfl rfl (aJ isAgg3 rfl (aE (hS.at_ 0 rfl) rfl) rfl (dX rfl rfl rfl (aG (XF.thenN (bE rfl (fun hc=>?_) (fun hc=>?_)))))))))))))))))
 ·have hc8:=of_decide_eq_true hc;clear hc
  refine aD (aI (aA rfl rfl (bB rfl rfl (aH (o':=6) eZ rfl rfl rfl (bQ (i:=0) (cs':=[_,_,_,_,_,_,_]) (O':=(_::Ot)) hS sizeOf4 rfl rfl rfl rfl rfl rfl rfl fun W1 hS=>aG (XF.thenN (aD (aI (aB rfl rfl (aG (XF.thenN (bH (XF.thenR (XF.res (bT results57 rfl) ?_))))))))))))))
  exfalso;omega
 ·have hc8:=of_decide_eq_false hc;clear hc
  refine aP (XF.thenN (aD (aI (aA rfl rfl (bB rfl rfl (aH (o':=0) dC rfl rfl rfl (aH (o':=0) cS rfl rfl rfl (aJ isAgg3 rfl (aE (hS.at_ 0 rfl) rfl) rfl (bC rfl rfl (IntWalk.i64_in _ (by omega)) rfl (bB rfl rfl (aH (o':=0) dC rfl rfl rfl (aH (o':=0) cS rfl rfl rfl (bQ (i:=0) (cs':=[_,_,_,_,_,_,_]) (O':=(_::Ot)) hS sizeOf3 rfl rfl rfl rfl rfl rfl rfl fun W2 hS=>aG (XF.thenN (aD (aI (aA rfl rfl (bB rfl rfl (aH (o':=0) dC rfl rfl rfl (aH (o':=0) cS rfl rfl rfl (aJ isAgg3 rfl (aE (hS.at_ 0 rfl) rfl) rfl (iL rfl rfl (IntWalk.i64_in _ (by omega)) rfl (aB rfl rfl (aG (XF.thenN (bH (XF.res (bT results57 rfl) ?_)))))))))))))))))))))))))))
  have e9:(n:Int)+1 - 1=(n:Int):=by omega
  have e8:(n:Int)+1=((n+1:Nat):Int):=by omega
  refine ⟨?_,?_⟩
  ·rw [e9]
  ·rw [← e8];exact hS.keep K (fun q hq=>by simp [hq])
theorem jD (BB MB n:Nat) (sy s0 e0:Int) (f x t:Int) (L:List ArV) (wa:Option Addr) (wc:Nat) (Ot:Own) (G:aS) (K:List (Nat×World)) (w0 w:World) (hS0:St w0 ((BB,[.int .i64 (n:Int),.int .i64 sy,.int .i64 s0,.int .i64 e0,.slice wa L.length wc,.map (some MB),.bool false],94)::Ot) (⟨.slice wa (L).length wc,(L).length,(L).flatMap ArV.three,57,3⟩::G) K w) (hL:L.length < 65536) :
  Calls prog 71 #[.pointer (some ⟨BB,0,none⟩),.int .i64 f,.int .i64 x,.int .i64 t] w (fun e w'=>e = .returned (.tuple #[])∧∃ (wa:Option Addr) (wc:Nat),St w0 ((BB,[.int .i64 ((n:Nat):Int),.int .i64 sy,.int .i64 s0,.int .i64 e0,.slice wa (L++[ArV.mk f x t]).length wc,.map (some MB),.bool false],94)::Ot) (⟨.slice wa (L++[ArV.mk f x t]).length wc,(L++[ArV.mk f x t]).length,(L++[ArV.mk f x t]).flatMap ArV.three,57,3⟩::G) K w'):=by
 refine bF (args:=[.pointer (some ⟨BB,0,none⟩),.int .i64 f,.int .i64 x,.int .i64 t]) func71 rfl ntmps71 rfl ?_
 have hS:=hS0
 refine aD (aD (aI (aA rfl rfl (bB rfl rfl (aH (o':=0) dC rfl rfl rfl (aH (o':=4) cA rfl rfl rfl (aJ isAgg22 rfl (aE (hS.at_ 0 rfl) rfl) rfl (bI underlying22 rfl rfl (dX rfl rfl rfl (aG (XF.thenN (bE rfl (fun hc=>?_) (fun hc=>?_)))))))))))))
 ·have hc14:=of_decide_eq_true hc;clear hc
  refine aD (aI (aA rfl rfl (bB rfl rfl (aH (o':=6) eZ rfl rfl rfl (bQ (i:=0) (cs':=[_,_,_,_,_,_,_]) (O':=(_::Ot)) hS sizeOf4 rfl rfl rfl rfl rfl rfl rfl fun W1 hS=>aG (XF.thenN (bH (XF.thenR (XF.res (kP results71) ?_)))))))))
  exfalso;omega
 ·have hc14:=of_decide_eq_false hc;clear hc
  refine aP (XF.thenN (aI (aA rfl rfl (aA rfl rfl (bB rfl rfl (aH (o':=0) dC rfl rfl rfl (aH (o':=4) cA rfl rfl rfl (aJ isAgg22 rfl (aE (hS.at_ 0 rfl) rfl) rfl (aA rfl rfl (aA rfl rfl (aA rfl rfl (cM (us:=[(0,.int .i64 _),(1,.int .i64 _),(2,.int .i64 _)]) rfl (eY _ _ _) rfl (bG (us:=[(0,.agg (List.toArray [_,_,_]))]) hS underlying22 sizeOf57 zeroValue57 rfl rfl rfl (lD _ _ _) rfl fun B2 W2 hS=>?_)))))))))))))
  refine dJ (i:=0) (news:=[_,_,_]) hS underlying22 lE rfl rfl (by show 0 < 3;decide) rfl rfl rfl rfl rfl (aK.own (j:=0) (m:=3) (hS.at_ 0 rfl) rfl) rfl rfl (by dsimp only;simp only [maxLen];omega) (by dsimp only;show _ * 24≤_;omega) rfl fun v3 W3 hS=>?_
  obtain ⟨wa8,wc8,e9,_⟩:=cD (hS.row 0 rfl)
  dsimp only at e9
  subst e9
  have hS9:=hS.castG (G':=(⟨.slice wa8 (L++[ArV.mk f x t]).length wc8,(L++[ArV.mk f x t]).length,(L++[ArV.mk f x t]).flatMap ArV.three,57,3⟩::G)) (by show GR.mk _ _ (L.flatMap ArV.three++[Value.int .i64 _,_,_]) _ _::_=_;simp)
  clear hS;have hS:=hS9;clear hS9
  refine bB rfl rfl (aH (o':=0) dC rfl rfl rfl (aH (o':=4) cA rfl rfl rfl (bQ (i:=1) (cs':=[_,_,_,_,_,_,_]) (O':=(_::_::Ot)) hS sizeOf22 rfl rfl rfl rfl rfl rfl rfl fun W4 hS=>aG (XF.resN (kP results71) (⟨rfl,wa8,wc8,?_⟩)))))
  have e8:(L++[ArV.mk f x t]).length=L.length+1:=by simp
  have hS9:=hS.tail.castO (O':=((BB,[.int .i64 (n:Int),.int .i64 sy,.int .i64 s0,.int .i64 e0,.slice wa8 (L++[ArV.mk f x t]).length wc8,.map (some MB),.bool false],94)::Ot)) (by rw [e8])
  exact hS9.keep K (fun q hq=>by simp [hq])
theorem iJ:bA prog 57=true:=by kernel_rfl
theorem jE:bA prog 58=true:=by kernel_rfl
theorem jF:bA prog 71=true:=by kernel_rfl
def oA (es:List (List UInt8×Int)) (x:ReV) (f t:Int) (n:Nat) (L:List ArV) (n2:Nat) (L2:List ArV):Prop:=∀ (BB MB:Nat) (sy s0 e0:Int) (wa:Option Addr) (wc:Nat) (Kt:List (Nat×World)) (Ot:Own) (G:aS) (K:List (Nat×World)) (w0 w:World),St w0 ((BB,[.int .i64 ((n:Nat):Int),.int .i64 sy,.int .i64 s0,.int .i64 e0,.slice wa (L).length wc,.map (some MB),.bool false],94)::Ot) (⟨.slice wa (L).length wc,(L).length,(L).flatMap ArV.three,57,3⟩::G) K w→(∀ q∈Kt,q∈K)→bS w0 Kt (fun W=>ReIn W x)→bS w0 Kt (fun W=>MsI MB es W)→Calls prog 58 #[.pointer (some ⟨BB,0,none⟩),x.val,.int .i64 f,.int .i64 t] w (fun e w'=>e = .returned (.tuple #[])∧∃ (wa:Option Addr) (wc:Nat),St w0 ((BB,[.int .i64 ((n2:Nat):Int),.int .i64 sy,.int .i64 s0,.int .i64 e0,.slice wa (L2).length wc,.map (some MB),.bool false],94)::Ot) (⟨.slice wa (L2).length wc,(L2).length,(L2).flatMap ArV.three,57,3⟩::G) K w')
theorem qR (BB MB n:Nat) (sy s0 e0:Int) (L L2:List ArV) (n2:Nat) (wa:Option Addr) (wc:Nat) (op:Int) (nm:ByteArray) (ka:Option Addr) (kl kc:Nat) (kids:List ReV) (f:Int) (es:List (List UInt8×Int)) (Kt:List (Nat×World)) (Ot:Own) (G:aS) (K:List (Nat×World)) (w0 w:World) (hS0:St w0 ((BB,[.int .i64 ((n:Nat):Int),.int .i64 sy,.int .i64 s0,.int .i64 e0,.slice wa (L).length wc,.map (some MB),.bool false],94)::Ot) (⟨.slice wa (L).length wc,(L).length,(L).flatMap ArV.three,57,3⟩::G) K w) (hKt:∀ q∈Kt,q∈K) (hM:bS w0 Kt (fun W=>MsI MB es W)) (hX:bS w0 Kt (fun W=>ReIn W (.mk op nm ka kl kc kids))) (hn:n+2≤4096) (hL:L.length < 65536) (hc:oA es (.mk op nm ka kl kc kids) (n:Int) ((n:Int)+1) (n+2) (L++[⟨f,-1,(n:Int)⟩]) n2 L2) :
  Calls prog 73 #[.pointer (some ⟨BB,0,none⟩),.agg #[.int .i64 op,.string nm,.slice ka kl kc],.int .i64 f] w (fun e w'=>e = .returned (.tuple #[.int .i64 (n:Int),.int .i64 ((n:Int)+1)])∧∃ (wa:Option Addr) (wc:Nat),St w0 ((BB,[.int .i64 ((n2:Nat):Int),.int .i64 sy,.int .i64 s0,.int .i64 e0,.slice wa (L2).length wc,.map (some MB),.bool false],94)::Ot) (⟨.slice wa (L2).length wc,(L2).length,(L2).flatMap ArV.three,57,3⟩::G) K w'):=by
 refine bF (args:=[.pointer (some ⟨BB,0,none⟩),.agg #[.int .i64 op,.string nm,.slice ka kl kc],.int .i64 f]) func73 rfl ntmps73 rfl ?_
 have hS:=hS0
 refine aD (aI (bY (cs:=[_,_,_]) hS rfl rfl rfl fun B1 W1 hS=>aB rfl rfl (aB rfl rfl (aG (XF.thenN (aD (aI (aA rfl rfl (aU (vs:=[_]) iJ rfl (eF BB MB (n) sy s0 e0 (.slice wa L.length wc) _ _ K w0 _ ((hS.keep K (fun q hq=>by simp [hq])).perm (List.Perm.swap _ _ _)) (by omega)) rfl ?_)))))))))
 rintro e W9 ⟨rfl,hS9⟩
 refine ⟨_,rfl,?_⟩
 clear hS;have hS:=hS9.perm (List.Perm.swap _ _ _);clear hS9
 refine aA rfl rfl (aU (vs:=[_]) iJ rfl (eF BB MB (n+1) sy s0 e0 (.slice wa L.length wc) _ _ K w0 _ ((hS.keep K (fun q hq=>by simp [hq])).perm (List.Perm.swap _ _ _)) (by omega)) rfl ?_)
 rintro e W9 ⟨rfl,hS9⟩
 refine ⟨_,rfl,?_⟩
 clear hS;have hS:=hS9.perm (List.Perm.swap _ _ _);clear hS9
 refine aB rfl rfl (aB rfl rfl (aG (XF.thenN (aD (aI (aA rfl rfl (aA rfl rfl (aA rfl rfl (aU (vs:=[_,_,_,_]) jF rfl (jD BB MB (n+2) sy s0 e0 (f) (-1) ((n:Int)) (L) _ _ _ _ K w0 _ ((hS.keep K (fun q hq=>by simp [hq])).perm (List.Perm.swap _ _ _)) (by omega)) rfl ?_)))))))))
 rintro e W9 ⟨rfl,wa1,wc1,hS9⟩
 refine ⟨_,rfl,?_⟩
 clear hS;have hS:=hS9.perm (List.Perm.swap _ _ _);clear hS9
 refine aG (XF.thenN (aD (aI (aA rfl rfl (aN (vs:=[_,_,_]) isAgg62 sizeOf62 rfl (aK.own (j:=0) (m:=3) (hS.at_ 0 rfl) rfl) rfl (aA rfl rfl (aA rfl rfl (aU (vs:=[_,_,_,_]) jE rfl (hc BB MB sy s0 e0 _ _ Kt _ _ K w0 _ ((hS.keep K (fun q hq=>by simp [hq])).perm (List.Perm.swap _ _ _)) hKt hX hM) rfl ?_))))))))
 rintro e W9 ⟨rfl,wa2,wc2,hS9⟩
 refine ⟨_,rfl,?_⟩
 clear hS;have hS:=hS9.perm (List.Perm.swap _ _ _);clear hS9
 refine aG (XF.thenN (aD (aI (aA rfl rfl (aA rfl rfl (aB rfl rfl (aB rfl rfl (aG (XF.thenN (bH (XF.res (rE results73 rfl rfl) ?_)))))))))))
 exact ⟨rfl,wa2,wc2,(hS.keep K (fun q hq=>by simp [hq])).tail⟩
theorem qS (BB MB n2 k:Nat) (sy s0 e0:Int) (L2:List ArV) (wa:Option Addr) (wc:Nat) (ka:Option Addr) (kl kc:Nat) (kids:List ReV) (f t:Int) (fr:Nat→Int) (sn:Nat→Nat) (sL:Nat→List ArV) (es:List (List UInt8×Int)) (Kt:List (Nat×World)) (Ot:Own) (G:aS) (K:List (Nat×World)) (w0 w:World) (hS0:St w0 ((BB,[.int .i64 ((sn 0:Nat):Int),.int .i64 sy,.int .i64 s0,.int .i64 e0,.slice wa (sL 0).length wc,.map (some MB),.bool false],94)::Ot) (⟨.slice wa (sL 0).length wc,(sL 0).length,(sL 0).flatMap ArV.three,57,3⟩::G) K w) (hKt:∀ q∈Kt,q∈K) (hM:bS w0 Kt (fun W=>MsI MB es W)) (hk3:bS w0 Kt (fun W=>∀ (i:Nat) k,kids[i]?=some k→∃ b off,ka=some ⟨b,off,none⟩∧aK W b (off+i * 3) k.cells)) (hk4:∀ k∈kids,bS w0 Kt (fun W=>ReIn W k)) (hkl:kids.length=kl) (hk5:kl≤500) (hkc:kl≤kc) (hkk:kl=k+1) (hf0:fr 0=f) (h1:∀ i,i < k→sn i < 4096∧fr (i+1)=(sn i:Int)) (h2:∀ (i:Nat) c,i < k→kids[i]?=some c→oA es c (fr i) (fr (i+1)) (sn i+1) (sL i) (sn (i+1)) (sL (i+1))) (h3:∀ c,kids[k]?=some c→oA es c (fr k) t (sn k) (sL k) n2 L2) :
  Calls prog 72 #[.pointer (some ⟨BB,0,none⟩),.slice ka kl kc,.int .i64 f,.int .i64 t] w (fun e w'=>e = .returned (.tuple #[])∧∃ (wa:Option Addr) (wc:Nat),St w0 ((BB,[.int .i64 ((n2:Nat):Int),.int .i64 sy,.int .i64 s0,.int .i64 e0,.slice wa (L2).length wc,.map (some MB),.bool false],94)::Ot) (⟨.slice wa (L2).length wc,(L2).length,(L2).flatMap ArV.three,57,3⟩::G) K w'):=by
 refine bF (args:=[.pointer (some ⟨BB,0,none⟩),.slice ka kl kc,.int .i64 f,.int .i64 t]) func72 rfl ntmps72 rfl ?_
 have hS:=hS0
 subst hf0
 refine aD (aI (aA rfl rfl (bI underlying60 rfl rfl (iL rfl rfl (IntWalk.i64_in _ (by omega)) rfl (aB rfl rfl (aG (XF.thenN (aD (aD ?_)))))))))
 obtain ⟨k0,hki⟩:∃ c,kids[0]?=some c:=⟨_,List.getElem?_eq_getElem (by omega)⟩
 have hkm:=List.mem_of_getElem? hki
 obtain ⟨b,off,hka,hcs⟩:=hk3 (hS.keep K (fun q hq=>by simp [hq])) hKt 0 k0 hki
 have hkx:bS w0 Kt (fun W=>ReIn W k0):=hk4 k0 hkm
 clear hcs hkx
 refine aI (aA rfl rfl (aA rfl rfl (nE (k:=k) underlying60 sizeOf62 rfl rfl (by omega) (by omega) (by omega) (fun p hp=>⟨b,off,Option.some.inj (hp.symm.trans hka)⟩) rfl (bI underlying60 rfl rfl (aA rfl rfl (aG (XF.thenN (aL (cF (fun m l W=>∃ (i:Nat) (wa:Option Addr) (wc:Nat),i≤k∧m=k - i∧l=[(0,.pointer (some ⟨BB,0,none⟩)),(1,.slice ka kl kc),(2,.int .i64 (fr i)),(3,.int .i64 t),(8,.int .i64 ((kl:Int) - 1)),(17,.slice ka k kc),(18,.int .i64 (k:Int)),(19,.int .i64 (i:Int))]∧St w0 ((BB,[.int .i64 ((sn i:Nat):Int),.int .i64 sy,.int .i64 s0,.int .i64 e0,.slice wa (sL i).length wc,.map (some MB),.bool false],94)::Ot) (⟨.slice wa (sL i).length wc,(sL i).length,(sL i).flatMap ArV.three,57,3⟩::G) K W) (k - 0) ([(0,_),(1,_),(2,_),(3,_),(8,_),(17,_),(18,_),(19,_)]) ⟨rfl,rfl,rfl,rfl,rfl,rfl,rfl,rfl,trivial⟩ (⟨0,wa,wc,Nat.zero_le _,rfl,rfl,hS.keep K (fun q hq=>by simp [hq])⟩) ?_)))))))))
 clear hS
 clear hka hki hkm
 rintro m l W ⟨i,wa,wc,hi,rfl,rfl,hS⟩
 refine aD (aI (bJ rfl rfl rfl (aG (XF.thenN (aD (bE rfl (fun hc=>?_) (fun hc=>?_)))))))
 ·have hc20:=of_decide_eq_true hc;clear hc
  obtain ⟨k9,hki⟩:∃ c,kids[i]?=some c:=⟨_,List.getElem?_eq_getElem (by omega)⟩
  have hkm:=List.mem_of_getElem? hki
  obtain ⟨b,off,hka,hcs⟩:=hk3 (hS.keep K (fun q hq=>by simp [hq])) hKt i k9 hki
  have hkx:bS w0 Kt (fun W=>ReIn W k9):=hk4 k9 hkm
  obtain ⟨hsn,hfr⟩:=h1 i (by omega)
  have hkl9:=h2 i k9 (by omega) hki
  rw [hfr] at hkl9
  obtain ⟨ko,kn,kka,kkl,kkc,kks⟩:=k9
  have k1:aK _ b (off+i * 3) [.int .i64 ko,.string kn,.slice kka kkl kkc]:=hcs
  refine aP (XF.thenN (aD (aL (aD (aI ?_)))))
  refine aR (j:=i) (b:=b) (o:=off) (m:=k) (c:=kc) underlying60 sizeOf62 (by show some (Value.slice _ _ _)=_;rw [hka]) rfl rfl (by omega) rfl rfl ?_
  refine aN (vs:=[_,_,_]) isAgg62 sizeOf62 rfl k1 rfl (aX (cs:=[_,_,_]) hS zeroValue62 rfl rfl fun B1 W1 hS=>aV (i:=0) (vs:=[_,_,_]) (cs':=[_,_,_]) (O':=(_::_::Ot)) hS sizeOf62 rfl rfl rfl rfl rfl rfl rfl fun W2 hS=>aG (XF.thenN (aD (aI (aA rfl rfl (aU (vs:=[_]) iJ rfl (eF BB MB (sn i) sy s0 e0 (.slice wa (sL i).length wc) _ _ K w0 _ ((hS.keep K (fun q hq=>by simp [hq])).perm (List.Perm.swap _ _ _)) (by omega)) rfl ?_))))))
  rintro e W9 ⟨rfl,hS9⟩
  refine ⟨_,rfl,?_⟩
  clear hS;have hS:=hS9.perm (List.Perm.swap _ _ _);clear hS9
  refine aB rfl rfl (aG (XF.thenN (aD (aI (aA rfl rfl (aN (vs:=[_,_,_]) isAgg62 sizeOf62 rfl (aK.own (j:=0) (m:=3) (hS.at_ 0 rfl) rfl) rfl (aA rfl rfl (aA rfl rfl (aU (vs:=[_,_,_,_]) jE rfl (hkl9 BB MB sy s0 e0 _ _ Kt _ _ K w0 _ ((hS.keep K (fun q hq=>by simp [hq])).perm (List.Perm.swap _ _ _)) hKt hkx hM) rfl ?_)))))))))
  rintro e W9 ⟨rfl,wa2,wc2,hS9⟩
  refine ⟨_,rfl,?_⟩
  clear hS;have hS:=hS9.perm (List.Perm.swap _ _ _);clear hS9
  refine aG (XF.thenN (aI (aA rfl rfl (aB rfl rfl (aG (XF.blkN (XF.thenN (aI (bC rfl rfl (IntWalk.i64_in _ (by omega)) rfl (aA rfl rfl (aG ?_)))))))))))
  exact XF.round (k - (i+1)) [(0,_),(1,_),(2,_),(3,_),(8,_),(17,_),(18,_),(19,_)] (by omega) ⟨rfl,rfl,rfl,rfl,rfl,rfl,rfl,rfl,trivial⟩ ⟨i+1,wa2,wc2,by omega,rfl,by rw [hfr];rfl,hS.tail.keep K (fun q hq=>by simp [hq])⟩
 ·have hc20:=of_decide_eq_false hc;clear hc
  obtain rfl:i=k:=by omega
  obtain ⟨k9,hki⟩:∃ c,kids[i]?=some c:=⟨_,List.getElem?_eq_getElem (by omega)⟩
  have hkm:=List.mem_of_getElem? hki
  obtain ⟨b,off,hka,hcs⟩:=hk3 (hS.keep K (fun q hq=>by simp [hq])) hKt i k9 hki
  have hkx:bS w0 Kt (fun W=>ReIn W k9):=hk4 k9 hkm
  have hkl9:=h3 k9 hki
  obtain ⟨ko,kn,kka,kkl,kkc,kks⟩:=k9
  have k1:aK _ b (off+i * 3) [.int .i64 ko,.string kn,.slice kka kkl kkc]:=hcs
  refine bW (XF.thenX (XF.thenX (XF.blkX (XF.thenN (aI (aA rfl rfl (aA rfl rfl (aA rfl rfl ?_))))))))
  refine aR (j:=i) (b:=b) (o:=off) (m:=kl) (c:=kc) underlying60 sizeOf62 (by show some (Value.slice _ _ _)=_;rw [hka]) rfl (by omega) (by omega) rfl rfl ?_
  refine aN (vs:=[_,_,_]) isAgg62 sizeOf62 rfl k1 rfl (aA rfl rfl (aA rfl rfl (aU (vs:=[_,_,_,_]) jE rfl (hkl9 BB MB sy s0 e0 _ _ Kt _ _ K w0 _ ((hS.keep K (fun q hq=>by simp [hq])).perm (List.Perm.refl _)) hKt hkx hM) rfl ?_)))
  rintro e W9 ⟨rfl,wa2,wc2,hS9⟩
  refine ⟨_,rfl,?_⟩
  clear hS;have hS:=hS9.perm (List.Perm.refl _);clear hS9
  refine aG (XF.resN (kP results72) ?_)
  exact ⟨rfl,wa2,wc2,hS.keep K (fun q hq=>by simp [hq])⟩
theorem fa_94_1 (w:World) (b o:Nat):(Instr.fieldAt 94 (.pointer (some ⟨b,o,none⟩)) 1).run prog w = .ok (.pointer (some ⟨b,o+5,none⟩)) w:=by
 simp [Instr.fieldAt,run_underlying underlying94,Instr.sureAddr,go_sem,Addr.add_lit]
theorem goes_72:bA prog 72=true:=by kernel_rfl
theorem goes_73:bA prog 73=true:=by kernel_rfl
theorem qT (BB MB n:Nat) (sy s0 e0:Int) (L:List ArV) (wa:Option Addr) (wc:Nat) (nm:ByteArray) (ka:Option Addr) (kl kc:Nat) (f t:Int) (v:Int) (es:List (List UInt8×Int)) (Kt:List (Nat×World)) (Ot:Own) (G:aS) (K:List (Nat×World)) (w0 w:World) (hS0:St w0 ((BB,[.int .i64 ((n:Nat):Int),.int .i64 sy,.int .i64 s0,.int .i64 e0,.slice wa (L).length wc,.map (some MB),.bool false],94)::Ot) (⟨.slice wa (L).length wc,(L).length,(L).flatMap ArV.three,57,3⟩::G) K w) (hKt:∀ q∈Kt,q∈K) (hM:bS w0 Kt (fun W=>MsI MB es W)) (hL:L.length < 65536) (hsz:nm.size≤maxLen) (hf:es.find? (fun p=>decide (p.1=nm.data.toList))=some (nm.data.toList,v)) :
  Calls prog 58 #[.pointer (some ⟨BB,0,none⟩),.agg #[.int .i64 1,.string nm,.slice ka kl kc],.int .i64 f,.int .i64 t] w (fun e w'=>e = .returned (.tuple #[])∧∃ (wa:Option Addr) (wc:Nat),St w0 ((BB,[.int .i64 ((n:Nat):Int),.int .i64 sy,.int .i64 s0,.int .i64 e0,.slice wa (L++[ArV.mk f v t]).length wc,.map (some MB),.bool false],94)::Ot) (⟨.slice wa (L++[ArV.mk f v t]).length wc,(L++[ArV.mk f v t]).length,(L++[ArV.mk f v t]).flatMap ArV.three,57,3⟩::G) K w'):=by
 refine bF (args:=[.pointer (some ⟨BB,0,none⟩),.agg #[.int .i64 1,.string nm,.slice ka kl kc],.int .i64 f,.int .i64 t]) func58 rfl ntmps58 rfl ?_
 have hS:=hS0
 refine aD (aI (bY (cs:=[_,_,_]) hS rfl rfl rfl fun B1 W1 hS=>aG (XF.thenN (aD (aD (aI (aA rfl rfl (bB rfl rfl (aH (o':=6) eZ rfl rfl rfl (aJ isAgg4 rfl (aE (hS.at_ 1 rfl) rfl) rfl (aG (XF.thenN (bU rfl (aP (XF.thenN (aD (aI (aB rfl rfl (aG (XF.thenN (aD (aI (aH (o':=0) cR rfl rfl rfl (aJ isAgg59 rfl (aE (hS.at_ 0 rfl) rfl) rfl (aG (XF.thenN (aL (aD (aL (aD (aL (aD (aL (aD (aL (aD (aL (aD (aL ?_)))))))))))))))))))))))))))))))))))))))
 refine aD (aL (aD (aD (aD (aI (opV (aZ (c:=true) rfl rfl (by decide)) rfl (aB rfl rfl (aG (XF.thenN (cH rfl (bW (XF.thenX (XF.thenX (XF.blkX (XF.thenN (aD (aD ?_)))))))))))))))))
 have hM9:=hM (hS.keep K (fun q hq=>by simp [hq])) hKt
 refine rP (m:=12) dE hS (by kernel_rfl) (by kernel_rfl) rfl (eD 1 rfl 0 rfl rfl (fun w hw=>dF rfl) rfl (cQ 2 rfl 38 0 rfl rfl rfl (fun w hw=>cN rfl) rfl (cQ 3 rfl 39 1 rfl rfl rfl (fun w hw=>bX (o':=5) fa_94_1 rfl rfl) rfl (cQ 4 rfl 40 2 rfl rfl rfl (fun w hw=>bN isAgg79 rfl ((aT hw 0).cell (Nat.zero_le _) (aE (hS.at_ 1 rfl) rfl))) rfl (eD 5 rfl 5 rfl rfl (fun w hw=>bX (o':=1) iH rfl rfl) rfl (cQ 6 rfl 42 4 rfl rfl rfl (fun w hw=>bN isAgg9 rfl ((aT hw 0).cell (Nat.zero_le _) (aE (hS.at_ 0 rfl) rfl))) rfl (cX 7 rfl (isV _) (cL _) (rgV (li:=[(41,_),(43,_)]) rfl (bR rfl) ⟨bP 3 (bK rfl rfl rfl),bP 5 (bK rfl rfl rfl),trivial⟩ (fun w hw=>sP (hM9.below hw) hsz hf zeroValue3 rfl rfl) (bM rfl)) (cQ 8 rfl 44 6 rfl rfl rfl (fun w hw=>dF rfl) rfl (cQ 9 rfl 37 7 rfl rfl rfl (fun w hw=>gI rfl rfl) rfl (cX 10 rfl (isV (.bool true)) (cL _) (rgVe (li:=[(37,_)]) rfl (bR rfl) ⟨bP 7 (bK rfl rfl rfl),trivial⟩ (fun w hw=>gI rfl rfl) (rfl) (bM rfl)) (cQ 11 rfl 45 8 rfl rfl rfl (fun w hw=>fT rfl) rfl (cQ 12 rfl 46 9 rfl rfl rfl (fun w hw=>fT rfl) rfl (jL ?_)))))))))))))
 intro W2 hbR hS'
 clear hS;have hS:=hS';clear hS'
 refine bL (bL (bL (bL (bL (bL (bL (bL (bL (bL (bL (bL (dZ (XF.thenN (aD (aI (aA rfl rfl (aG (XF.thenN (cH rfl (aI (aA rfl rfl (aA rfl rfl (aA rfl rfl (aA rfl rfl (aU (vs:=[_,_,_,_]) jF rfl (jD BB MB (n) sy s0 e0 (f) (v) (t) (L) _ _ _ _ K w0 _ ((hS.keep K (fun q hq=>by simp [hq])).perm (List.Perm.swap _ _ _)) (by omega)) rfl ?_)))))))))))))))))))))))))
 rintro e W9 ⟨rfl,wa1,wc1,hS9⟩
 refine ⟨_,rfl,?_⟩
 clear hS;have hS:=hS9.perm (List.Perm.swap _ _ _);clear hS9
 refine aG (XF.thenN (bW (XF.blkO rfl (XF.thenX (XF.blkO rfl (XF.thenX (XF.blkO rfl (XF.thenX (XF.blkO rfl (XF.thenX (XF.blkO rfl (XF.thenX (XF.blkO rfl (XF.thenX (XF.blkX (XF.resN (kP results58) ?_))))))))))))))))
 exact ⟨rfl,wa1,wc1,(hS.keep K (fun q hq=>by simp [hq])).tail⟩
theorem sU (BB MB n:Nat) (sy s0 e0:Int) (L:List ArV) (wa:Option Addr) (wc:Nat) (nm:ByteArray) (ka:Option Addr) (kl kc:Nat) (f t:Int) (Ot:Own) (G:aS) (K:List (Nat×World)) (w0 w:World) (hS0:St w0 ((BB,[.int .i64 ((n:Nat):Int),.int .i64 sy,.int .i64 s0,.int .i64 e0,.slice wa (L).length wc,.map (some MB),.bool false],94)::Ot) (⟨.slice wa (L).length wc,(L).length,(L).flatMap ArV.three,57,3⟩::G) K w) (hL:L.length < 65536) :
  Calls prog 58 #[.pointer (some ⟨BB,0,none⟩),.agg #[.int .i64 3,.string nm,.slice ka kl kc],.int .i64 f,.int .i64 t] w (fun e w'=>e = .returned (.tuple #[])∧∃ (wa:Option Addr) (wc:Nat),St w0 ((BB,[.int .i64 ((n:Nat):Int),.int .i64 sy,.int .i64 s0,.int .i64 e0,.slice wa (L++[ArV.mk f (-1) t]).length wc,.map (some MB),.bool false],94)::Ot) (⟨.slice wa (L++[ArV.mk f (-1) t]).length wc,(L++[ArV.mk f (-1) t]).length,(L++[ArV.mk f (-1) t]).flatMap ArV.three,57,3⟩::G) K w'):=by
 refine bF (args:=[.pointer (some ⟨BB,0,none⟩),.agg #[.int .i64 3,.string nm,.slice ka kl kc],.int .i64 f,.int .i64 t]) func58 rfl ntmps58 rfl ?_
 have hS:=hS0
 refine aD (aI (bY (cs:=[_,_,_]) hS rfl rfl rfl fun B1 W1 hS=>aG (XF.thenN (aD (aD (aI (aA rfl rfl (bB rfl rfl (aH (o':=6) eZ rfl rfl rfl (aJ isAgg4 rfl (aE (hS.at_ 1 rfl) rfl) rfl (aG (XF.thenN (bU rfl (aP (XF.thenN (aD (aI (aB rfl rfl (aG (XF.thenN (aD (aI (aH (o':=0) cR rfl rfl rfl (aJ isAgg59 rfl (aE (hS.at_ 0 rfl) rfl) rfl (aG (XF.thenN (aL (aD (aL (aD (aL (aD (aL (aD (aL (aD (aL (aD (aL ?_)))))))))))))))))))))))))))))))))))))))
 refine aD (aL (aD (aD (aD (aI (opV (aZ (c:=false) rfl rfl (by decide)) rfl (aB rfl rfl (aG (XF.thenN (bU rfl (aP (XF.thenN (aD (aD (aI (opV (aZ (c:=false) rfl rfl (by decide)) rfl (aB rfl rfl (aG (XF.thenN (bU rfl (aP (XF.thenN (aD (aD (aI (opV (aZ (c:=true) rfl rfl (by decide)) rfl (aB rfl rfl (aG (XF.thenN (cH rfl (bW (XF.thenX (XF.thenX (XF.blkO rfl (XF.thenX (XF.blkO rfl (XF.thenX (XF.blkX ?_))))))))))))))))))))))))))))))))))))))
 refine XF.thenN (aD (aI (aA rfl rfl (aA rfl rfl (aA rfl rfl (aA rfl rfl (aU (vs:=[_,_,_,_]) jF rfl (jD BB MB (n) sy s0 e0 (f) (-1) (t) (L) _ _ _ _ K w0 _ ((hS.keep K (fun q hq=>by simp [hq])).perm (List.Perm.swap _ _ _)) (by omega)) rfl ?_)))))))
 rintro e W9 ⟨rfl,wa1,wc1,hS9⟩
 refine ⟨_,rfl,?_⟩
 clear hS;have hS:=hS9.perm (List.Perm.swap _ _ _);clear hS9
 refine aG (XF.thenN (bW (XF.blkO rfl (XF.thenX (XF.blkO rfl (XF.thenX (XF.blkO rfl (XF.thenX (XF.blkO rfl (XF.thenX (XF.blkX (XF.resN (kP results58) ?_))))))))))))
 exact ⟨rfl,wa1,wc1,(hS.keep K (fun q hq=>by simp [hq])).tail⟩
theorem sV (BB MB n2 k:Nat) (sy s0 e0:Int) (L2:List ArV) (wa:Option Addr) (wc:Nat) (nm:ByteArray) (ka:Option Addr) (kl kc:Nat) (f t:Int) (kids:List ReV) (fr:Nat→Int) (sn:Nat→Nat) (sL:Nat→List ArV) (es:List (List UInt8×Int)) (Kt:List (Nat×World)) (Ot:Own) (G:aS) (K:List (Nat×World)) (w0 w:World) (hS0:St w0 ((BB,[.int .i64 ((sn 0:Nat):Int),.int .i64 sy,.int .i64 s0,.int .i64 e0,.slice wa (sL 0).length wc,.map (some MB),.bool false],94)::Ot) (⟨.slice wa (sL 0).length wc,(sL 0).length,(sL 0).flatMap ArV.three,57,3⟩::G) K w) (hKt:∀ q∈Kt,q∈K) (hM:bS w0 Kt (fun W=>MsI MB es W)) (hX:bS w0 Kt (fun W=>ReIn W (.mk 5 nm ka kl kc kids))) (hkk:kids.length=k+1) (hf0:fr 0=f) (h1:∀ i,i < k→sn i < 4096∧fr (i+1)=(sn i:Int)) (h2:∀ (i:Nat) c,i < k→kids[i]?=some c→oA es c (fr i) (fr (i+1)) (sn i+1) (sL i) (sn (i+1)) (sL (i+1))) (h3:∀ c,kids[k]?=some c→oA es c (fr k) t (sn k) (sL k) n2 L2) :
  Calls prog 58 #[.pointer (some ⟨BB,0,none⟩),.agg #[.int .i64 5,.string nm,.slice ka kl kc],.int .i64 f,.int .i64 t] w (fun e w'=>e = .returned (.tuple #[])∧∃ (wa:Option Addr) (wc:Nat),St w0 ((BB,[.int .i64 ((n2:Nat):Int),.int .i64 sy,.int .i64 s0,.int .i64 e0,.slice wa (L2).length wc,.map (some MB),.bool false],94)::Ot) (⟨.slice wa (L2).length wc,(L2).length,(L2).flatMap ArV.three,57,3⟩::G) K w'):=by
 refine bF (args:=[.pointer (some ⟨BB,0,none⟩),.agg #[.int .i64 5,.string nm,.slice ka kl kc],.int .i64 f,.int .i64 t]) func58 rfl ntmps58 rfl ?_
 have hS:=hS0
 obtain ⟨hkl,hk5,hkc⟩:kids.length=kl∧kl≤500∧kl≤kc:=(by cases hX hS0 hKt with | mk h1 h2 h2c h3 h4=>exact ⟨h1,h2,h2c⟩)
 have hk3:bS w0 Kt (fun W=>∀ (i:Nat) k,kids[i]?=some k→∃ b off,ka=some ⟨b,off,none⟩∧aK W b (off+i * 3) k.cells):=fun h9 hk9=>(by cases hX h9 hk9 with | mk h1 h2 h2c h3 h4=>exact h3)
 have hk4:∀ k∈kids,bS w0 Kt (fun W=>ReIn W k):=fun k hk=>(show bS w0 Kt (fun W=>ReIn W k) from fun h9 hk9=>(by cases hX h9 hk9 with | mk h1 h2 h2c h3 h4=>exact h4 k hk))
 refine aD (aI (bY (cs:=[_,_,_]) hS rfl rfl rfl fun B1 W1 hS=>aG (XF.thenN (aD (aD (aI (aA rfl rfl (bB rfl rfl (aH (o':=6) eZ rfl rfl rfl (aJ isAgg4 rfl (aE (hS.at_ 1 rfl) rfl) rfl (aG (XF.thenN (bU rfl (aP (XF.thenN (aD (aI (aB rfl rfl (aG (XF.thenN (aD (aI (aH (o':=0) cR rfl rfl rfl (aJ isAgg59 rfl (aE (hS.at_ 0 rfl) rfl) rfl (aG (XF.thenN (aL (aD (aL (aD (aL (aD (aL (aD (aL (aD (aL (aD (aL ?_)))))))))))))))))))))))))))))))))))))))
 refine aD (aL (aD (aD (aD (aI (opV (aZ (c:=false) rfl rfl (by decide)) rfl (aB rfl rfl (aG (XF.thenN (bU rfl (aP (XF.thenN (aD (aD (aI (opV (aZ (c:=false) rfl rfl (by decide)) rfl (aB rfl rfl (aG (XF.thenN (bU rfl (aP (XF.thenN (aD (aD (aI (opV (aZ (c:=false) rfl rfl (by decide)) rfl (aB rfl rfl (aG (XF.thenN (bU rfl (aP (XF.thenN (aD (aD (aI (opV (aZ (c:=true) rfl rfl (by decide)) rfl (aB rfl rfl (aG (XF.thenN (cH rfl ?_))))))))))))))))))))))))))))))))))))))))
 refine bW (XF.thenX (XF.thenX (XF.blkO rfl (XF.thenX (XF.blkO rfl (XF.thenX (XF.blkO rfl (XF.thenX (XF.blkX (XF.thenN (aD (aI (aA rfl rfl (aH (o':=2) dT rfl rfl rfl (aJ isAgg60 rfl (aE (hS.at_ 0 rfl) rfl) rfl (aA rfl rfl (aA rfl rfl (aU (vs:=[_,_,_,_]) goes_72 rfl (qS BB MB n2 k sy s0 e0 L2 _ _ ka kl kc kids f t fr sn sL es Kt _ _ K w0 _ ((hS.keep K (fun q hq=>by simp [hq])).perm (List.Perm.swap _ _ _)) hKt hM hk3 hk4 hkl hk5 hkc (by omega) hf0 h1 h2 h3) rfl ?_))))))))))))))))))
 rintro e W9 ⟨rfl,wa1,wc1,hS9⟩
 refine ⟨_,rfl,?_⟩
 clear hS;have hS:=hS9.perm (List.Perm.swap _ _ _);clear hS9
 refine aG (XF.thenN (bW (XF.blkO rfl (XF.thenX (XF.blkO rfl (XF.thenX (XF.blkO rfl (XF.thenX (XF.blkX (XF.resN (kP results58) ?_))))))))))
 exact ⟨rfl,wa1,wc1,(hS.keep K (fun q hq=>by simp [hq])).tail⟩
theorem sW (BB MB:Nat) (sy s0 e0:Int) (wa:Option Addr) (wc:Nat) (nm:ByteArray) (ka:Option Addr) (kl kc:Nat) (f t:Int) (kids:List ReV) (sn:Nat→Nat) (sL tL:Nat→List ArV) (es:List (List UInt8×Int)) (Kt:List (Nat×World)) (Ot:Own) (G:aS) (K:List (Nat×World)) (w0 w:World) (hS0:St w0 ((BB,[.int .i64 ((sn 0:Nat):Int),.int .i64 sy,.int .i64 s0,.int .i64 e0,.slice wa (sL 0).length wc,.map (some MB),.bool false],94)::Ot) (⟨.slice wa (sL 0).length wc,(sL 0).length,(sL 0).flatMap ArV.three,57,3⟩::G) K w) (hKt:∀ q∈Kt,q∈K) (hM:bS w0 Kt (fun W=>MsI MB es W)) (hX:bS w0 Kt (fun W=>ReIn W (.mk 6 nm ka kl kc kids))) (h1:∀ i,i < kids.length→sn i+2≤4096∧(sL i).length < 65536∧(tL i).length < 65536∧sL (i+1)=tL i++[⟨(sn i:Int)+1,-1,t⟩]) (h2:∀ (i:Nat) c,kids[i]?=some c→oA es c (sn i:Int) ((sn i:Int)+1) (sn i+2) (sL i++[⟨f,-1,(sn i:Int)⟩]) (sn (i+1)) (tL i)) :
  Calls prog 58 #[.pointer (some ⟨BB,0,none⟩),.agg #[.int .i64 6,.string nm,.slice ka kl kc],.int .i64 f,.int .i64 t] w (fun e w'=>e = .returned (.tuple #[])∧∃ (wa:Option Addr) (wc:Nat),St w0 ((BB,[.int .i64 ((sn kids.length:Nat):Int),.int .i64 sy,.int .i64 s0,.int .i64 e0,.slice wa (sL kids.length).length wc,.map (some MB),.bool false],94)::Ot) (⟨.slice wa (sL kids.length).length wc,(sL kids.length).length,(sL kids.length).flatMap ArV.three,57,3⟩::G) K w'):=by
 refine bF (args:=[.pointer (some ⟨BB,0,none⟩),.agg #[.int .i64 6,.string nm,.slice ka kl kc],.int .i64 f,.int .i64 t]) func58 rfl ntmps58 rfl ?_
 have hS:=hS0
 obtain ⟨hkl,hk5,hkc⟩:kids.length=kl∧kl≤500∧kl≤kc:=(by cases hX hS0 hKt with | mk h1 h2 h2c h3 h4=>exact ⟨h1,h2,h2c⟩)
 have hk3:bS w0 Kt (fun W=>∀ (i:Nat) k,kids[i]?=some k→∃ b off,ka=some ⟨b,off,none⟩∧aK W b (off+i * 3) k.cells):=fun h9 hk9=>(by cases hX h9 hk9 with | mk h1 h2 h2c h3 h4=>exact h3)
 have hk4:∀ k∈kids,bS w0 Kt (fun W=>ReIn W k):=fun k hk=>(show bS w0 Kt (fun W=>ReIn W k) from fun h9 hk9=>(by cases hX h9 hk9 with | mk h1 h2 h2c h3 h4=>exact h4 k hk))
 refine aD (aI (bY (cs:=[_,_,_]) hS rfl rfl rfl fun B1 W1 hS=>aG (XF.thenN (aD (aD (aI (aA rfl rfl (bB rfl rfl (aH (o':=6) eZ rfl rfl rfl (aJ isAgg4 rfl (aE (hS.at_ 1 rfl) rfl) rfl (aG (XF.thenN (bU rfl (aP (XF.thenN (aD (aI (aB rfl rfl (aG (XF.thenN (aD (aI (aH (o':=0) cR rfl rfl rfl (aJ isAgg59 rfl (aE (hS.at_ 0 rfl) rfl) rfl (aG (XF.thenN (aL (aD (aL (aD (aL (aD (aL (aD (aL (aD (aL (aD (aL ?_)))))))))))))))))))))))))))))))))))))))
 refine aD (aL (aD (aD (aD (aI (opV (aZ (c:=false) rfl rfl (by decide)) rfl (aB rfl rfl (aG (XF.thenN (bU rfl (aP (XF.thenN (aD (aD (aI (opV (aZ (c:=false) rfl rfl (by decide)) rfl (aB rfl rfl (aG (XF.thenN (bU rfl (aP (XF.thenN (aD (aD (aI (opV (aZ (c:=false) rfl rfl (by decide)) rfl (aB rfl rfl (aG (XF.thenN (bU rfl (aP (XF.thenN (aD (aD (aI (opV (aZ (c:=false) rfl rfl (by decide)) rfl (aB rfl rfl (aG (XF.thenN (bU rfl ?_))))))))))))))))))))))))))))))))))))))))
 refine aP (XF.thenN (aD (aD (aI (opV (aZ (c:=true) rfl rfl (by decide)) rfl (aB rfl rfl (aG (XF.thenN (cH rfl (bW (XF.thenX (XF.thenX (XF.blkO rfl (XF.thenX (XF.blkO rfl (XF.thenX (XF.blkO rfl (XF.thenX (XF.blkO rfl (XF.thenX (XF.blkX (XF.thenN (aD (aD (aI (aH (o':=2) dT rfl rfl rfl (aJ isAgg60 rfl (aE (hS.at_ 0 rfl) rfl) rfl (bI underlying60 rfl rfl (aA rfl rfl (aG (XF.thenN (aL (cF (fun m l W=>∃ (i:Nat) (wa:Option Addr) (wc:Nat),i≤kl∧m=kl - i∧l=[(0,.pointer (some ⟨BB,0,none⟩)),(2,.int .i64 f),(3,.int .i64 t),(65,.slice ka kl kc),(66,.int .i64 (kl:Int)),(67,.int .i64 (i:Int))]∧St w0 ((B1,[.int .i64 6,.string nm,.slice ka kl kc],62)::(BB,[.int .i64 ((sn i:Nat):Int),.int .i64 sy,.int .i64 s0,.int .i64 e0,.slice wa (sL i).length wc,.map (some MB),.bool false],94)::Ot) (⟨.slice wa (sL i).length wc,(sL i).length,(sL i).flatMap ArV.three,57,3⟩::G) K W) (kl - 0) ([(0,_),(2,_),(3,_),(65,_),(66,_),(67,_)]) ⟨rfl,rfl,rfl,rfl,rfl,rfl,trivial⟩ (⟨0,wa,wc,Nat.zero_le _,rfl,rfl,hS.keep K (fun q hq=>by simp [hq])⟩) ?_)))))))))))))))))))))))))))))))))
 clear hS
 rintro m l W ⟨i,wa,wc,hi,rfl,rfl,hS⟩
 refine aD (aI (bJ rfl rfl rfl (aG (XF.thenN (aD (bE rfl (fun hc=>?_) (fun hc=>?_)))))))
 ·have hc68:=of_decide_eq_true hc;clear hc
  obtain ⟨k9,hki⟩:∃ c,kids[i]?=some c:=⟨_,List.getElem?_eq_getElem (by omega)⟩
  have hkm:=List.mem_of_getElem? hki
  obtain ⟨b,off,hka,hcs⟩:=hk3 (hS.keep K (fun q hq=>by simp [hq])) hKt i k9 hki
  have hkx:bS w0 Kt (fun W=>ReIn W k9):=hk4 k9 hkm
  obtain ⟨hsn,hsl,htl,hsl2⟩:=h1 i (by omega)
  have hkl9:=h2 i k9 hki
  obtain ⟨ko,kn,kka,kkl,kkc,kks⟩:=k9
  have k1:aK _ b (off+i * 3) [.int .i64 ko,.string kn,.slice kka kkl kkc]:=hcs
  refine aP (XF.thenN (aD (aL (aD (aI ?_)))))
  refine aR (j:=i) (b:=b) (o:=off) (m:=kl) (c:=kc) underlying60 sizeOf62 (by show some (Value.slice _ _ _)=_;rw [hka]) rfl rfl (by omega) rfl rfl ?_
  refine aN (vs:=[_,_,_]) isAgg62 sizeOf62 rfl k1 rfl (aX (cs:=[_,_,_]) hS zeroValue62 rfl rfl fun B2 W2 hS=>aV (i:=0) (vs:=[_,_,_]) (cs':=[_,_,_]) (O':=(_::_::_::Ot)) hS sizeOf62 rfl rfl rfl rfl rfl rfl rfl fun W3 hS=>aG (XF.thenN (aD (aI (aA rfl rfl (aN (vs:=[_,_,_]) isAgg62 sizeOf62 rfl (aK.own (j:=0) (m:=3) (hS.at_ 0 rfl) rfl) rfl (aA rfl rfl (aU (vs:=[_,_,_]) goes_73 rfl (qR BB MB (sn i) sy s0 e0 (sL i) (tL i) (sn (i+1)) _ _ ko kn kka kkl kkc kks f es Kt _ _ K w0 _ ((hS.keep K (fun q hq=>by simp [hq])).perm iQ) hKt hM hkx hsn hsl hkl9) rfl ?_))))))))
  rintro e W9 ⟨rfl,wa1,wc1,hS9⟩
  refine ⟨_,rfl,?_⟩
  clear hS;have hS:=hS9.perm iQ.symm;clear hS9
  refine aA rfl rfl (aY rfl rfl rfl (aY rfl rfl rfl (aB rfl rfl (aB rfl rfl (aG (XF.thenN (aI (aA rfl rfl (aA rfl rfl (aA rfl rfl (aU (vs:=[_,_,_,_]) jF rfl (jD BB MB (sn (i+1)) sy s0 e0 ((sn i:Int)+1) (-1) (t) (tL i) _ _ _ _ K w0 _ ((hS.keep K (fun q hq=>by simp [hq])).perm iQ) (by omega)) rfl ?_)))))))))))
  rintro e W9 ⟨rfl,wa3,wc3,hS9⟩
  refine ⟨_,rfl,?_⟩
  clear hS;have hS:=hS9.perm iQ.symm;clear hS9
  refine aG (XF.blkN (XF.thenN (aI (bC rfl rfl (IntWalk.i64_in _ (by omega)) rfl (aA rfl rfl (aG ?_))))))
  rw [← hsl2] at hS
  exact XF.round (kl - (i+1)) [(0,_),(2,_),(3,_),(65,_),(66,_),(67,_)] (by omega) ⟨rfl,rfl,rfl,rfl,rfl,rfl,trivial⟩ ⟨i+1,wa3,wc3,by omega,rfl,rfl,hS.tail.keep K (fun q hq=>by simp [hq])⟩
 ·have hc68:=of_decide_eq_false hc;clear hc
  obtain rfl:i=kl:=by omega
  refine bW (XF.thenX (XF.thenX (XF.blkX (XF.thenN (bW (XF.blkO rfl (XF.thenX (XF.blkO rfl (XF.thenX (XF.blkX (XF.resN (kP results58) ?_)))))))))))
  rw [hkl]
  exact ⟨rfl,wa,wc,(hS.keep K (fun q hq=>by simp [hq])).tail⟩
theorem lay_is {es:List (List UInt8×Int)} {x:ReV} {f t:Int} {n n2:Nat} {L L2:List ArV} (h:Lay es x f t n L n2 L2):oA es x f t n L n2 L2:=by
 induction h with
 | @name x f t v n L h1 h2 h3 h4 =>
  intro BB MB sy s0 e0 wa wc Kt Ot G K w0 w hS0 hKt hX hM
  cases x with
  | mk op nm ka kl kc kids =>
   change op=1 at h1
   subst h1
   exact qT BB MB n sy s0 e0 L wa wc nm ka kl kc f t v es Kt Ot G K w0 w hS0 hKt hM h4 h2 h3
 | @emp x f t n L h1 h2 =>
  intro BB MB sy s0 e0 wa wc Kt Ot G K w0 w hS0 hKt hX hM
  cases x with
  | mk op nm ka kl kc kids =>
   change op=3 at h1
   subst h1
   exact sU BB MB n sy s0 e0 L wa wc nm ka kl kc f t Ot G K w0 w hS0 h2
 | @seq x f t k n2 L2 fr sn sL h1 h2 h3 h4 h5 h6 ih1 ih2 =>
  intro BB MB sy s0 e0 wa wc Kt Ot G K w0 w hS0 hKt hX hM
  cases x with
  | mk op nm ka kl kc kids =>
   change op=5 at h1
   subst h1
   exact sV BB MB n2 k sy s0 e0 L2 wa wc nm ka kl kc f t kids fr sn sL es Kt Ot G K w0 w hS0 hKt hM hX h2 h3 h4 ih1 ih2
 | @alt x f t sn sL tL h1 h2 h3 ih =>
  intro BB MB sy s0 e0 wa wc Kt Ot G K w0 w hS0 hKt hX hM
  cases x with
  | mk op nm ka kl kc kids =>
   change op=6 at h1
   subst h1
   exact sW BB MB sy s0 e0 wa wc nm ka kl kc f t kids sn sL tL es Kt Ot G K w0 w hS0 hKt hM hX h2 ih
theorem sX (v1:Option Nat):prog.built 94 [(1,.map v1)]=some #[.int .i64 0,.int .i64 0,.int .i64 0,.int .i64 0,.slice none 0 0,.map v1,.bool false]:=by kernel_rfl
def exV (B1 B2:Nat):ReV:=.mk 5 ⟨#[]⟩ (some ⟨B2,0,none⟩) 2 2 [.mk 1 ⟨#[97]⟩ none 0 0 [],.mk 6 ⟨#[]⟩ (some ⟨B1,0,none⟩) 2 2 [.mk 1 ⟨#[98]⟩ none 0 0 [],.mk 3 ⟨#[]⟩ none 0 0 []]]
def exL:List ArV:=[⟨0,0,2⟩,⟨2,-1,3⟩,⟨3,1,4⟩,⟨4,-1,1⟩,⟨2,-1,5⟩,⟨5,-1,6⟩,⟨6,-1,1⟩]
theorem sY {op:Int} {nm:ByteArray} {n d:Nat} (hn:n+1≤500) (hd:d≤50):FitsR (.mk op nm none 0 0 []) d n (n+1):=FitsR.mk (x:=.mk op nm none 0 0 []) (f:=fun _=>n+1) hn hd rfl (fun i k hi=>by simp [ReV.kids] at hi)
theorem sZ (B1 B2:Nat):FitsR (exV B1 B2) 1 0 5:=by
 refine FitsR.mk (x:=exV B1 B2) (f:=fun i=>match i with | 0=>1 | 1=>2 | _=>5) (by omega) (by omega) rfl fun i k hi=>?_
 match i,hi with
 | 0,hi =>
  obtain rfl:ReV.mk 1 ⟨#[97]⟩ none 0 0 []=k:=by simpa [exV,ReV.kids] using hi
  exact sY (n:=1) (by omega) (by omega)
 | 1,hi =>
  obtain rfl:ReV.mk 6 ⟨#[]⟩ (some ⟨B1,0,none⟩) 2 2 [.mk 1 ⟨#[98]⟩ none 0 0 [],.mk 3 ⟨#[]⟩ none 0 0 []]=k:=by simpa [exV,ReV.kids] using hi
  refine FitsR.mk (n:=2) (f:=fun i=>match i with | 0=>3 | 1=>4 | _=>5) (by omega) (by omega) rfl fun i k hi=>?_
  match i,hi with
  | 0,hi =>
   obtain rfl:ReV.mk 1 ⟨#[98]⟩ none 0 0 []=k:=by simpa [ReV.kids] using hi
   exact sY (n:=3) (by omega) (by omega)
  | 1,hi =>
   obtain rfl:ReV.mk 3 ⟨#[]⟩ none 0 0 []=k:=by simpa [ReV.kids] using hi
   exact sY (n:=4) (by omega) (by omega)
  | i+2,hi=>simp [ReV.kids] at hi
 | i+2,hi=>simp [exV,ReV.kids] at hi
theorem tA (B1 B2:Nat):WellM (exV B1 B2):=by
 have hb:WellM (.mk 1 ⟨#[98]⟩ none 0 0 []):=.mk (fun k hk=>by cases hk) (.inl ⟨rfl,.inr rfl,rfl⟩)
 have ha:WellM (.mk 1 ⟨#[97]⟩ none 0 0 []):=.mk (fun k hk=>by cases hk) (.inl ⟨rfl,.inl rfl,rfl⟩)
 have he:WellM (.mk 3 ⟨#[]⟩ none 0 0 []):=.mk (fun k hk=>by cases hk) (.inr ⟨rfl,.inl ⟨rfl,rfl⟩⟩)
 refine .mk (fun k hk=>?_) (.inr ⟨rfl,.inr ⟨.inl rfl,fun k hk=>?_,Nat.le_refl _⟩⟩)
 ·simp only [exV,ReV.kids,List.mem_cons,List.not_mem_nil,or_false] at hk
  rcases hk with rfl | rfl
  ·exact ha
  ·refine .mk (fun k hk=>?_) (.inr ⟨rfl,.inr ⟨.inr rfl,fun k hk=>?_,Nat.le_refl _⟩⟩)
   ·simp only [ReV.kids,List.mem_cons,List.not_mem_nil,or_false] at hk
    rcases hk with rfl | rfl
    ·exact hb
    ·exact he
   ·simp only [ReV.kids,List.mem_cons,List.not_mem_nil,or_false] at hk
    rcases hk with rfl | rfl
    ·show (1:Int)≠6;decide
    ·show (3:Int)≠6;decide
 ·simp only [exV,ReV.kids,List.mem_cons,List.not_mem_nil,or_false] at hk
  rcases hk with rfl | rfl
  ·show (1:Int)≠5;decide
  ·show (6:Int)≠5;decide
theorem exV_lay (B1 B2:Nat):Lay (kG 2) (exV B1 B2) 0 1 2 [] 7 exL:=by
 refine Lay.seq (x:=exV B1 B2) (k:=1) (fun i=>match i with | 0=>0 | _=>2) (fun i=>match i with | 0=>2 | _=>3) (fun i=>match i with | 0=>[] | _=>[⟨0,0,2⟩]) rfl rfl rfl (fun i hi=>?_) (fun i c hi hc=>?_) (fun c hc=>?_)
 ·obtain rfl:i=0:=by omega
  exact ⟨by decide,rfl⟩
 ·obtain rfl:i=0:=by omega
  obtain rfl:ReV.mk 1 ⟨#[97]⟩ none 0 0 []=c:=by simpa [exV,ReV.kids] using hc
  exact Lay.name (v:=0) (L:=[]) rfl (by decide) (by decide) (by decide)
 ·obtain rfl:ReV.mk 6 ⟨#[]⟩ (some ⟨B1,0,none⟩) 2 2 [.mk 1 ⟨#[98]⟩ none 0 0 [],.mk 3 ⟨#[]⟩ none 0 0 []]=c:=by simpa [exV,ReV.kids] using hc
  refine Lay.alt (x:=.mk 6 ⟨#[]⟩ (some ⟨B1,0,none⟩) 2 2 [.mk 1 ⟨#[98]⟩ none 0 0 [],.mk 3 ⟨#[]⟩ none 0 0 []]) (t:=1) (f:=2) (fun i=>match i with | 0=>3 | 1=>5 | _=>7) (fun i=>match i with | 0=>[⟨0,0,2⟩] | 1=>[⟨0,0,2⟩,⟨2,-1,3⟩,⟨3,1,4⟩,⟨4,-1,1⟩] | _=>exL) (fun i=>match i with | 0=>[⟨0,0,2⟩,⟨2,-1,3⟩,⟨3,1,4⟩] | _=>[⟨0,0,2⟩,⟨2,-1,3⟩,⟨3,1,4⟩,⟨4,-1,1⟩,⟨2,-1,5⟩,⟨5,-1,6⟩]) rfl (fun i hi=>?_) (fun i c hc=>?_)
  ·match i,hi with
   | 0,_=>exact ⟨by decide,by decide,by decide,rfl⟩
   | 1,_=>exact ⟨by decide,by decide,by decide,rfl⟩
   | i+2,hi=>simp [ReV.kids] at hi;omega
  ·match i,hc with
   | 0,hc =>
    obtain rfl:ReV.mk 1 ⟨#[98]⟩ none 0 0 []=c:=by simpa [ReV.kids] using hc
    exact Lay.name (v:=1) (L:=[⟨0,0,2⟩,⟨2,-1,3⟩]) rfl (by decide) (by decide) (by decide)
   | 1,hc =>
    obtain rfl:ReV.mk 3 ⟨#[]⟩ none 0 0 []=c:=by simpa [ReV.kids] using hc
    exact Lay.emp (L:=[⟨0,0,2⟩,⟨2,-1,3⟩,⟨3,1,4⟩,⟨4,-1,1⟩,⟨2,-1,5⟩]) rfl (by decide)
   | i+2,hc=>simp [ReV.kids] at hc
theorem tB (MB n2:Nat) (L2:List ArV) (op:Int) (nm:ByteArray) (ka:Option Addr) (kl kc:Nat) (kids:List ReV) (es:List (List UInt8×Int)) (Kt:List (Nat×World)) (Ot:Own) (G:aS) (K:List (Nat×World)) (w0 w:World) (hS0:St w0 Ot G K w) (hKt:∀ q∈Kt,q∈K) (hM:bS w0 Kt (fun W=>MsI MB es W)) (hX:bS w0 Kt (fun W=>ReIn W (.mk op nm ka kl kc kids))) (hl:Lay es (.mk op nm ka kl kc kids) 0 1 2 [] n2 L2) :
  Calls prog 49 #[.agg #[.int .i64 op,.string nm,.slice ka kl kc],.map (some MB)] w (fun e w'=>∃ (wa:Option Addr) (wc:Nat),e = .returned (.tuple #[NfV.val ⟨(n2:Int),(es.length:Int),0,1,wa,L2.length,wc,L2⟩,.bool true])∧St w0 Ot (⟨.slice wa (L2).length wc,(L2).length,(L2).flatMap ArV.three,57,3⟩::G) K w'):=by
 refine bF (args:=[.agg #[.int .i64 op,.string nm,.slice ka kl kc],.map (some MB)]) func49 rfl ntmps49 rfl ?_
 have hS:=hS0
 refine aD (aI (bY (cs:=[_,_,_]) hS rfl rfl rfl fun B1 W1 hS=>aX (cs:=[_,_,_,_,_]) hS zeroValue24 rfl rfl fun B2 W2 hS=>aB rfl rfl (aG (XF.thenN (aD (aI (aA rfl rfl (cM (us:=[(1,.map _)]) rfl (sX _) rfl (aX (cs:=[_,_,_,_,_,_,_]) hS zeroValue94 rfl rfl fun B3 W3 hS=>aV (i:=0) (vs:=[_,_,_,_,_,_,_]) (cs':=[_,_,_,_,_,_,_]) (O':=(_::_::_::Ot)) hS sizeOf94 rfl rfl rfl rfl rfl rfl rfl fun W4 hS=>aG (XF.thenN (aD (aI (aA rfl rfl (opV (mM (hM (hS.keep K (fun q hq=>by simp [hq])) hKt) rfl) rfl (aH (o':=0) dC rfl rfl rfl (aH (o':=1) dN rfl rfl rfl (bQ (i:=0) (cs':=[_,_,_,_,_,_,_]) (O':=(_::_::_::Ot)) hS sizeOf3 rfl rfl rfl rfl rfl rfl rfl fun W5 hS=>aG (XF.thenN (aD ?_)))))))))))))))))))
 have hS':=hS.newG 57 3;clear hS;have hS:=hS';clear hS'
 refine aI (aU (vs:=[_]) iJ rfl (eF B3 MB 0 (es.length:Int) 0 0 (.slice none 0 0) _ _ K w0 _ (hS.keep K (fun q hq=>by simp [hq])) (by omega)) rfl ?_)
 rintro e W8 ⟨rfl,hS9⟩
 refine ⟨_,rfl,?_⟩
 clear hS;have hS:=hS9;clear hS9
 refine aU (vs:=[_]) iJ rfl (eF B3 MB 1 (es.length:Int) 0 0 (.slice none 0 0) _ _ K w0 _ (hS.keep K (fun q hq=>by simp [hq])) (by omega)) rfl ?_
 rintro e W9 ⟨rfl,hS9⟩
 refine ⟨_,rfl,?_⟩
 clear hS;have hS:=hS9;clear hS9
 refine aH (o':=0) dC rfl rfl rfl (aH (o':=2) dA rfl rfl rfl (bQ (i:=0) (cs':=[_,_,_,_,_,_,_]) (O':=(_::_::_::Ot)) hS sizeOf3 rfl rfl rfl rfl rfl rfl rfl fun W6 hS=>aH (o':=0) dC rfl rfl rfl (aH (o':=3) dG rfl rfl rfl (bQ (i:=0) (cs':=[_,_,_,_,_,_,_]) (O':=(_::_::_::Ot)) hS sizeOf3 rfl rfl rfl rfl rfl rfl rfl fun W7 hS=>aG (XF.thenN (aD (aI (aN (vs:=[_,_,_]) isAgg62 sizeOf62 rfl (aK.own (j:=0) (m:=3) (hS.at_ 2 rfl) rfl) rfl (aH (o':=0) dC rfl rfl rfl (aH (o':=2) dA rfl rfl rfl (aJ isAgg3 rfl (aE (hS.at_ 0 rfl) rfl) rfl (aH (o':=0) dC rfl rfl rfl (aH (o':=3) dG rfl rfl rfl (aJ isAgg3 rfl (aE (hS.at_ 0 rfl) rfl) rfl (aU (vs:=[_,_,_,_]) jE rfl (lay_is hl B3 MB (es.length:Int) 0 1 none 0 Kt _ _ K w0 _ (hS.keep K (fun q hq=>by simp [hq])) hKt hX hM) rfl ?_)))))))))))))))
 rintro e W9 ⟨rfl,wa2,wc2,hS9⟩
 refine ⟨_,rfl,?_⟩
 clear hS;have hS:=hS9;clear hS9
 refine aG (XF.thenN (aD (regS (ef:=5) (jy:=7) (ca:=iM (fun _=>[])) (ta:=fun _=>0) (Os:=kY _ 1 0 B2 ([.int .i64 0,.int .i64 0,.int .i64 0,.int .i64 0,.slice none 0 0]) ([.int .i64 (n2:Int),.int .i64 (es.length:Int),.int .i64 0,.int .i64 1,.slice wa2 L2.length wc2]) 24) (Gs:=mY _) (al:=[]) (k:=6) (ds:=[5]) dE rfl hS rfl (by kernel_rfl) (by kernel_rfl) rfl (by decide) rfl (some) (.inl ⟨rfl,rfl⟩) rfl rfl (bZ 1 rfl rfl (isV _) (fun hNo=>sgV [(6,_)] rfl rfl rfl rfl hNo (bR rfl) ⟨fI rfl,trivial⟩ (fun ev w he hw=>bX (o':=0) dC rfl rfl) (bM rfl)) (bZ 2 rfl rfl (isV _) (fun hNo=>sgV [(27,_)] rfl rfl rfl rfl hNo (bR rfl) ⟨bP 0 (bK rfl rfl rfl),trivial⟩ (fun ev w he hw=>fH (vs:=[_,_,_,_,_]) isAgg24 sizeOf24 rfl ((aK.own (j:=0) (m:=5) (hw.at_ 0 (oU (i:=0) (j:=1) rfl rfl)) rfl))) (bM rfl)) (bZ 3 rfl rfl (isV _) (fun hNo=>sgV [(6,_)] rfl rfl rfl rfl hNo (bR rfl) ⟨fI rfl,trivial⟩ (fun ev w he hw=>bX (o':=6) eZ rfl rfl) (bM rfl)) (bZ 4 rfl rfl (isV _) (fun hNo=>sgV [(29,_)] rfl rfl rfl rfl hNo (bR rfl) ⟨bP 2 (bK rfl rfl rfl),trivial⟩ (fun ev w he hw=>bN isAgg4 rfl ((aE (hw.at_ 0 (oU (i:=0) (j:=1) rfl rfl)) rfl))) (bM rfl)) (bZ 5 rfl rfl (isV _) (fun hNo=>sgV [(30,_)] rfl rfl rfl rfl hNo (bR rfl) ⟨bP 3 (bK rfl rfl rfl),trivial⟩ (fun ev w he hw=>rH rfl) (bM rfl)) ?_))))))))
 refine kV 6 rfl (eff_stO (m:=5) 1 0 [(4,_),(28,_)] rfl rfl rfl rfl (fun j hj=>by rcases hj with h | rfl<;>first | (cases h<;>rfl) | rfl) ⟨fI rfl,bP 1 (bK rfl rfl rfl),trivial⟩ rfl rfl rfl sizeOf24 rfl rfl rfl rfl) ?_
 refine kU ?_
 intro Bf8 y8 W8 Ks8 hsz8 hKs8 hS' hcov8
 clear hS;have hS:=hS'.castO (O':=(_::_::_::Ot)) rfl;clear hS'
 refine oT (L':=[AwS _ _ (isV _),AwS _ _ (isV _),AwS _ _ (isV _),AwS _ _ (isV _),AwS _ _ (isV _),isV _]) rfl (cK (cK (cK (cK (cK (rT (dZ (aB rfl rfl (aG (XF.thenN (bH (XF.res (jK (vs:=[_,_,_,_,_]) results49 isAgg24 sizeOf24 rfl (aK.own (j:=0) (m:=5) (hS.at_ 1 rfl) rfl) rfl) ?_))))))))))))
 exact ⟨wa2,wc2,rfl,((hS.keep K (fun q hq=>by simp [hq])).tail.tail.tail)⟩
theorem oB:prog.built 24 []=some #[.int .i64 0,.int .i64 0,.int .i64 0,.int .i64 0,.slice none 0 0]:=by kernel_rfl
theorem jX (v0:Int) (v2a:Option Addr) (v2l:Nat) (v2c:Nat):prog.built 62 [(0,.int .i64 v0),(2,.slice v2a v2l v2c)]=some #[.int .i64 v0,.string ByteArray.empty,.slice v2a v2l v2c]:=by kernel_rfl
theorem tC (v0:Int):prog.built 62 [(0,.int .i64 v0)]=some #[.int .i64 v0,.string ByteArray.empty,.slice none 0 0]:=by kernel_rfl
theorem pO (v00:Value) (v01:Value) (v02:Value) (v10:Value) (v11:Value) (v12:Value):Instr.fill (fun i=>some (i * 3,3)) ((Array.range (2 * 3)).map ((Value.cells (.agg #[.int .i64 0,.string ByteArray.empty,.slice none 0 0]))[· % (Value.cells (.agg #[.int .i64 0,.string ByteArray.empty,.slice none 0 0])).size]!)) [(0,.agg #[v00,v01,v02]),(1,.agg #[v10,v11,v12])]=some (List.toArray [v00,v01,v02,v10,v11,v12]):=by kernel_rfl
theorem goes_48:bA prog 48=true:=by kernel_rfl
theorem goes_49:bA prog 49=true:=by kernel_rfl
theorem mN {n:Nat} {w A W:World} (hn:n=w.heap.size) (h1:Below n w A) (h2:Below n w W) (h3:cW n A W):Below A.heap.size A W where
 os:=h2.os.trans h1.os.symm
 tape:=h2.tape.trans h1.tape.symm
 output:=h2.output.trans h1.output.symm
 size:=h3.1
 block:=fun k hk=>by
  rcases Nat.lt_or_ge k n with h | h
  ·exact (h2.block k h).trans (h1.block k h).symm
  ·exact h3.2 k h hk
theorem NIn.agree {A W:World} {a:NfV} (h:NIn A a) (hg:cW 0 A W):NIn W a:=⟨fun i r hi=>by
 obtain ⟨b,off,e,hc⟩:=h.arow i r hi
 exact ⟨b,off,e,aK.agree hg (Nat.zero_le _) hc⟩,h.alen,h.amax⟩
theorem tD {w0 W4:World} {lo MB:Nat} {es:List (List UInt8×Int)} (h:MsI MB es W4) (hlo:lo≤MB):bS w0 [(lo,W4)] (fun W=>MsI MB es W):=fun h9 hk9=>h.same (fun hlt=>(h9.kept _ (hk9 _ (List.mem_singleton.2 rfl))).1.2 MB hlo hlt)
theorem exV_in {W:World} {B1 B2:Nat} {T:TypeId} (h1:W.heap[B1]?=some (.cells #[.int .i64 1,.string ⟨#[98]⟩,.slice none 0 0,.int .i64 3,.string ⟨#[]⟩,.slice none 0 0] T (0,0))) (h2:W.heap[B2]?=some (.cells #[.int .i64 1,.string ⟨#[97]⟩,.slice none 0 0,.int .i64 6,.string ⟨#[]⟩,.slice (some ⟨B1,0,none⟩) 2 2] T (0,0))):ReIn W (exV B1 B2):=by
 have leaf:∀ (op:Int) (nm:ByteArray),ReIn W (.mk op nm none 0 0 []):=fun op nm=>.mk rfl (by omega) (Nat.le_refl _) (fun i k hi=>by simp at hi) (fun k hk=>by cases hk)
 refine .mk rfl (by omega) (Nat.le_refl _) (fun i k hi=>⟨B2,0,rfl,?_⟩) (fun k hk=>?_)
 ·match i,hi with
  | 0,hi =>
   obtain rfl:=Option.some.inj hi
   exact aK.own (j:=0) (m:=3) (cs:=[_,_,_,_,_,_]) h2 rfl
  | 1,hi =>
   obtain rfl:=Option.some.inj hi
   exact aK.own (j:=3) (m:=3) (cs:=[_,_,_,_,_,_]) h2 rfl
  | i+2,hi=>simp at hi
 ·simp only [List.mem_cons,List.not_mem_nil,or_false] at hk
  rcases hk with rfl | rfl
  ·exact leaf _ _
  ·refine .mk rfl (by omega) (Nat.le_refl _) (fun i k hi=>⟨B1,0,rfl,?_⟩) (fun k hk=>?_)
   ·match i,hi with
    | 0,hi =>
     obtain rfl:=Option.some.inj hi
     exact aK.own (j:=0) (m:=3) (cs:=[_,_,_,_,_,_]) h1 rfl
    | 1,hi =>
     obtain rfl:=Option.some.inj hi
     exact aK.own (j:=3) (m:=3) (cs:=[_,_,_,_,_,_]) h1 rfl
    | i+2,hi=>simp at hi
   ·simp only [List.mem_cons,List.not_mem_nil,or_false] at hk
    rcases hk with rfl | rfl<;>exact leaf _ _
theorem nmAB_in {W:World} {B:Nat} {T:TypeId} (h:W.heap[B]?=some (.cells #[.string ⟨#[97]⟩,.string ⟨#[98]⟩] T (0,0))):sQ W (some ⟨B,0,none⟩) lN:=fun i s hs=>by
 match i,hs with
 | 0,hs =>
  obtain rfl:=Option.some.inj hs
  exact ⟨B,0,rfl,aE (cs:=[_,_]) h rfl⟩
 | 1,hs =>
  obtain rfl:=Option.some.inj hs
  exact ⟨B,0,rfl,aE (cs:=[_,_]) h rfl⟩
 | i+2,hs=>simp [lN] at hs
def exA (wa:Option Addr) (wc:Nat):NfV:=⟨7,2,0,1,wa,7,wc,exL⟩
theorem oC {wa:Option Addr} {wc:Nat}:cB (exA wa wc)=0:=by
 have e:cB (exA wa wc)=cB (exA none 0):=rfl
 rw [e];decide
theorem tE {q:Nat} (h:E1 exL 0 q):False:=by
 obtain ⟨t,ht,e1,e2,_⟩:=h
 simp only [exL,List.mem_cons,List.not_mem_nil,or_false] at ht
 rcases ht with rfl | rfl | rfl | rfl | rfl | rfl | rfl<;>simp at e1 e2
theorem exL_hd0 {q:Nat} (h:Hd exL (fun q=>(q:Int)=0) q):q=0:=Hd.sub (R:=fun q=>q=0) (fun q h=>by omega) (fun p q hp e=>by subst hp;exact (tE e).elim) h
theorem iK {t:ArV} (h:t∈exL) {p q:Nat} (h1:t.f=(p:Int)) (h2:t.s = -1) (h3:t.q=(q:Int)):E1 exL p q:=⟨t,h,h1,h2,h3⟩
theorem tF {wa:Option Addr} {wc:Nat}:nO (exA wa wc) [0,1]:=by
 show Hd exL (By9 exL 1 (Hd exL (By9 exL 0 (Hd exL (fun q=>(q:Int)=0))))) 1
 have h2:Hd exL (By9 exL 0 (Hd exL (fun q=>(q:Int)=0))) 2:=.base ⟨0,.base rfl,⟨0,0,2⟩,by simp [exL],rfl,.inl rfl,rfl⟩
 have h3:Hd exL (By9 exL 0 (Hd exL (fun q=>(q:Int)=0))) 3:=.arc h2 (iK (t:=⟨2,-1,3⟩) (by simp [exL]) rfl rfl rfl)
 have h4:Hd exL (By9 exL 1 (Hd exL (By9 exL 0 (Hd exL (fun q=>(q:Int)=0))))) 4:=.base ⟨3,h3,⟨3,1,4⟩,by simp [exL],rfl,.inl rfl,rfl⟩
 exact .arc h4 (iK (t:=⟨4,-1,1⟩) (by simp [exL]) rfl rfl rfl)
theorem tG {wa:Option Addr} {wc:Nat}:¬ nO (exA wa wc) [1]:=by
 intro h
 have h1:Hd exL (By9 exL 1 (Hd exL (fun q=>(q:Int)=0))) 1:=h
 refine Hd.sub (R:=fun _=>False) (fun q hq=>?_) (fun _ _ h _=>h) h1
 obtain ⟨p,hp,t,ht,e1,e2,_⟩:=hq
 obtain rfl:=exL_hd0 hp
 simp only [exL,List.mem_cons,List.not_mem_nil,or_false] at ht
 rcases ht with rfl | rfl | rfl | rfl | rfl | rfl | rfl<;>simp at e1 e2
theorem exL_rz0 {n p:Nat} (h:Rz exL 2 1 n p):n=0→p≠0:=by
 induction h with
 | end_=>exact fun _=>by decide
 | eps _ e ih=>intro _ hp;subst hp;exact tE e
 | sym _ _ _=>exact fun h=>absurd h (by omega)
theorem pP:Rz exL 2 1 1 0:=by
 have h6:Rz exL 2 1 0 6:=.eps .end_ (iK (t:=⟨6,-1,1⟩) (by simp [exL]) rfl rfl rfl)
 have h5:Rz exL 2 1 0 5:=.eps h6 (iK (t:=⟨5,-1,6⟩) (by simp [exL]) rfl rfl rfl)
 have h2:Rz exL 2 1 0 2:=.eps h5 (iK (t:=⟨2,-1,5⟩) (by simp [exL]) rfl rfl rfl)
 exact .sym h2 ⟨by decide,⟨0,0,2⟩,by simp [exL],rfl,by decide,rfl⟩
theorem qU {wa:Option Addr} {wc:Nat} {ok:Bool} {l:List Int} (h:LstE (exA wa wc) ok l):ok=true∧l.length=1:=by
 rcases h.2 oC with ⟨_,_,h1⟩ | ⟨h1,m,h2,h3⟩
 ·exact absurd pP (h1 1)
 ·refine ⟨h1,?_⟩
  rw [h3.len]
  have h4:m≤1:=h2.2 1 pP
  have h5:m≠0:=fun e=>exL_rz0 h2.1 e rfl
  omega
theorem gB {wa:Option Addr} {wc:Nat}:dO (exA wa wc) [0,1]=0∧dO (exA wa wc) [1]=0:=by
 unfold dO
 rw [oC]
 exact ⟨rfl,rfl⟩
theorem tH (wa:Option Addr) (wc B:Nat) (T:TypeId) (w:World) (hA:NIn w (exA wa wc)) (h:w.heap[B]?=some (.cells #[.int .i64 0,.int .i64 1] T (0,0))):Calls prog 16 #[(exA wa wc).val,.slice (some ⟨B,0,none⟩) 2 2] w (fun e w'=>e = .returned (.tuple #[.bool true,.int .i64 0])∧Below w.heap.size w w'):=by
 refine (iF (exA wa wc) (some ⟨B,0,none⟩) 2 2 [0,1] w hA (.inr ⟨B,0,rfl,fun j hj=>?_⟩) rfl (by decide)).mono ?_
 ·match j,hj with
  | 0,_=>exact aE (cs:=[_,_]) h rfl
  | 1,_=>exact aE (cs:=[_,_]) h rfl
  | j+2,hj=>simp at hj;omega
 ·rintro e w1 ⟨b,rfl,h1,_,hb⟩
  have:=(h1 gB.1).2 tF
  subst this
  rw [gB.1]
  exact ⟨rfl,hb⟩
theorem run1_is (wa:Option Addr) (wc B:Nat) (T:TypeId) (w:World) (hA:NIn w (exA wa wc)) (h:w.heap[B]?=some (.cells #[.int .i64 1] T (0,0))):Calls prog 16 #[(exA wa wc).val,.slice (some ⟨B,0,none⟩) 1 1] w (fun e w'=>e = .returned (.tuple #[.bool false,.int .i64 0])∧Below w.heap.size w w'):=by
 refine (iF (exA wa wc) (some ⟨B,0,none⟩) 1 1 [1] w hA (.inr ⟨B,0,rfl,fun j hj=>?_⟩) rfl (by decide)).mono ?_
 ·match j,hj with
  | 0,_=>exact aE (cs:=[_]) h rfl
  | j+1,hj=>simp at hj
 ·rintro e w1 ⟨b,rfl,h1,_,hb⟩
  have h2:b=false:=by
   cases b with
   | false=>rfl
   | true=>exact absurd ((h1 gB.2).1 rfl) tG
  subst h2
  rw [gB.2]
  exact ⟨rfl,hb⟩
theorem oD (wa:Option Addr) (wc:Nat) (w:World) (hA:NIn w (exA wa wc)):Calls prog 18 #[(exA wa wc).val] w (fun e w'=>∃ (la:Option Addr) (lc:Nat),e = .returned (.tuple #[.slice la 1 lc,.bool true,.int .i64 0])∧Below w.heap.size w w'):=by
 refine (nQ (exA wa wc) w hA).mono ?_
 rintro e w1 ⟨ok,l,la,lc,rfl,h1,_,_,hb⟩
 obtain ⟨rfl,h2⟩:=qU h1
 rw [oC,h2]
 exact ⟨la,lc,rfl,hb⟩
theorem qV (L2:List ArV) (n2 n3:Nat) (op:Int) (nm:ByteArray) (ka:Option Addr) (kl kc:Nat) (kids:List ReV) (na:Option Addr) (nc:Nat) (w:World) (hX:ReIn w (.mk op nm ka kl kc kids)) (hF:FitsR (.mk op nm ka kl kc kids) 1 0 n3) (hW:WellM (.mk op nm ka kl kc kids)) (hl:Lay (kG 2) (.mk op nm ka kl kc kids) 0 1 2 [] n2 L2) (hN:sQ w na lN) :
  Calls prog 34 #[.agg #[.int .i64 op,.string nm,.slice ka kl kc],.slice na 2 nc] w (fun e w'=>∃ (wa:Option Addr) (wc:Nat),e = .returned (.tuple #[NfV.val ⟨(n2:Int),2,0,1,wa,L2.length,wc,L2⟩,.int .i64 0])∧hY w' wa L2∧Below w.heap.size w w'):=by
 refine bF (args:=[.agg #[.int .i64 op,.string nm,.slice ka kl kc],.slice na 2 nc]) func34 rfl ntmps34 rfl ?_
 have hS:=St.start w
 refine aD (aI (bY (cs:=[_,_,_]) hS rfl rfl rfl fun B1 W1 hS=>aX (cs:=[_,_,_,_,_]) hS zeroValue24 rfl rfl fun B2 W2 hS=>aB rfl rfl (aG (XF.thenN (aD (aD (aI (aN (vs:=[_,_,_]) isAgg62 sizeOf62 rfl (aK.own (j:=0) (m:=3) (hS.at_ 1 rfl) rfl) rfl (bO (vs:=[_]) hS pN rfl (jW op nm ka kl kc kids n3 _ (hX.keep hS.below) hF hW) rfl fun W3 hS=>aB rfl rfl (aG (XF.thenN (aD (aI (aA rfl rfl (opV (dI (c:=false) rfl rfl (by decide)) rfl (aG (XF.thenN (bU rfl (aP (XF.thenN (aD (aI (aA rfl rfl ?_)))))))))))))))))))))))
 refine dM (vs:=[_]) hS goes_48 rfl (qQ na nc _ (fun i s hs=>by obtain ⟨b,off,e,hc⟩:=hN i s hs;exact ⟨b,off,e,hS.old hc⟩)) rfl ?_
 rintro e W4 ⟨MB,rfl,hMs,hlo,hb⟩
 refine ⟨_,rfl,hb,fun hS'=>?_⟩
 clear hS;have hS:=hS';clear hS' hb
 obtain ⟨Km,hM,hS9⟩:∃ Km,bS w Km (fun W=>MsI MB (kG 2) W)∧St w _ _ Km _:=⟨[(_,_)],tD hMs hlo,hS.keep _ (fun q hq=>by simp at hq;simp [hq])⟩
 clear hS;have hS:=hS9;clear hS9
 refine aA rfl rfl (aY rfl rfl rfl (aY rfl rfl rfl (aB rfl rfl (aB rfl rfl (aG (XF.thenN (aD (aD (aI (aA rfl rfl (cO rfl rfl (aA rfl rfl (aC (d:=23) rfl rfl (aA rfl rfl (aC (d:=23) rfl rfl (bI underlying77 rfl rfl (aC (d:=23) rfl rfl (dP rfl rfl rfl (aQ rfl rfl rfl (aG (XF.thenN (bE rfl (fun hc=>?_) (fun hc=>?_)))))))))))))))))))))))
 ·have hc27:=of_decide_eq_true hc;clear hc
  refine aD (aI (cM (us:=[]) rfl (oB) rfl (aV (i:=0) (vs:=[_,_,_,_,_]) (cs':=[_,_,_,_,_]) (O':=[_,_]) hS sizeOf24 rfl rfl rfl rfl rfl rfl rfl fun W5 hS=>aB rfl rfl (aG (XF.thenN (bH (XF.thenR (XF.res (jK (vs:=[_,_,_,_,_]) results34 isAgg24 sizeOf24 rfl (aK.own (j:=0) (m:=5) (hS.at_ 0 rfl) rfl) rfl) ?_))))))))
  exfalso;simp at hc27
 ·have hc27:=of_decide_eq_false hc;clear hc
  refine aP (XF.thenN (aD (aI (aN (vs:=[_,_,_]) isAgg62 sizeOf62 rfl (aK.own (j:=0) (m:=3) (hS.at_ 1 rfl) rfl) rfl (aA rfl rfl (aU (vs:=[_,_]) goes_49 rfl (tB MB n2 L2 op nm ka kl kc kids (kG 2) Km _ _ Km w _ (hS.keep Km (fun q hq=>by simp [hq])) (fun q hq=>hq) hM (fun h9 hk9=>hX.keep h9.below) hl) rfl ?_))))))
  rintro e W9 ⟨wa2,wc2,rfl,hS9⟩
  refine ⟨_,rfl,?_⟩
  clear hS;have hS:=hS9;clear hS9
  refine aA rfl rfl (aY rfl rfl rfl (aY rfl rfl rfl (aX (cs:=[_,_,_,_,_]) hS zeroValue24 rfl rfl fun B6 W6 hS=>aV (i:=0) (vs:=[_,_,_,_,_]) (cs':=[_,_,_,_,_]) (O':=[_,_,_]) hS sizeOf24 rfl rfl rfl rfl rfl rfl rfl fun W7 hS=>aB rfl rfl (aG (XF.thenN (aD (aD (aI (aA rfl rfl (cO rfl rfl (aG (XF.thenN (bU rfl (aP (XF.thenN (aD (aI (aN (vs:=[_,_,_,_,_]) isAgg24 sizeOf24 rfl (aK.own (j:=0) (m:=5) (hS.at_ 0 rfl) rfl) rfl (aV (i:=1) (vs:=[_,_,_,_,_]) (cs':=[_,_,_,_,_]) (O':=[_,_,_]) hS sizeOf24 rfl rfl rfl rfl rfl rfl rfl fun W8 hS=>aB rfl rfl (aG (XF.thenN (bH (XF.res (jK (vs:=[_,_,_,_,_]) results34 isAgg24 sizeOf24 rfl (aK.own (j:=0) (m:=5) (hS.at_ 1 rfl) rfl) rfl) ?_)))))))))))))))))))))))
  obtain ⟨K8,k8,g8,hS8⟩:=St.rowKeepN (o:=⟨.slice wa2 L2.length wc2,L2.length,L2.flatMap ArV.three⟩) hS
  exact ⟨wa2,wc2,rfl,iC (g8 hS8 (fun q hq=>hq)),hS.below⟩
theorem oE (w:World) :
  Calls prog 35 #[] w (fun e w'=>∃ B1 B2:Nat,e = .returned (exV B1 B2).val∧ReIn w' (exV B1 B2)∧Below w.heap.size w w'):=by
 refine bF (args:=[]) func35 rfl ntmps35 rfl ?_
 have hS:=St.start w
 refine aD (aI (aX (cs:=[_,_,_]) hS zeroValue62 rfl rfl fun B1 W1 hS=>aG (XF.thenN (aD (aI (cM (us:=[(0,.int .i64 _),(1,.string _)]) rfl (gS _ _) rfl (cM (us:=[(0,.int .i64 _)]) rfl (tC _) rfl (bG (us:=[(0,.agg (List.toArray [_,_,_])),(1,.agg (List.toArray [_,_,_]))]) hS underlying60 sizeOf62 zeroValue62 rfl rfl rfl (pO _ _ _ _ _ _) rfl fun B2 W2 hS=>cM (us:=[(0,.int .i64 _),(2,.slice _ _ _)]) rfl (jX _ _ _ _) rfl (aX (cs:=[_,_,_]) hS zeroValue62 rfl rfl fun B3 W3 hS=>aV (i:=0) (vs:=[_,_,_]) (cs':=[_,_,_]) (O':=[_,_,_]) hS sizeOf62 rfl rfl rfl rfl rfl rfl rfl fun W4 hS=>aG (XF.thenN (aD (aI (cM (us:=[(0,.int .i64 _),(1,.string _)]) rfl (gS _ _) rfl (aN (vs:=[_,_,_]) isAgg62 sizeOf62 rfl (aK.own (j:=0) (m:=3) (hS.at_ 0 rfl) rfl) rfl (bG (us:=[(0,.agg (List.toArray [_,_,_])),(1,.agg (List.toArray [_,_,_]))]) hS underlying60 sizeOf62 zeroValue62 rfl rfl rfl (pO _ _ _ _ _ _) rfl fun B5 W5 hS=>cM (us:=[(0,.int .i64 _),(2,.slice _ _ _)]) rfl (jX _ _ _ _) rfl (aV (i:=3) (vs:=[_,_,_]) (cs':=[_,_,_]) (O':=[_,_,_,_]) hS sizeOf62 rfl rfl rfl rfl rfl rfl rfl fun W6 hS=>aG (XF.thenN (bH (XF.res (resC1 (vs:=[_,_,_]) results35 isAgg62 sizeOf62 rfl (aK.own (j:=0) (m:=3) (hS.at_ 3 rfl) rfl)) ?_)))))))))))))))))))
 exact ⟨B2,B5,rfl,exV_in (hS.at_ 2 rfl) (hS.at_ 0 rfl),hS.below⟩
theorem bs_77_2 (v0:ByteArray) (v1:ByteArray):Instr.fill (fun i=>some (i * 1,1)) ((Array.range (2 * 1)).map ((Value.cells (.string ByteArray.empty))[· % (Value.cells (.string ByteArray.empty)).size]!)) [(0,.string v0),(1,.string v1)]=some (List.toArray [.string v0,.string v1]):=by kernel_rfl
theorem jG:bA prog 16=true:=by kernel_rfl
theorem goes_18:bA prog 18=true:=by kernel_rfl
theorem goes_34:bA prog 34=true:=by kernel_rfl
theorem goes_35:bA prog 35=true:=by kernel_rfl
theorem qW (w:World) :
  Calls prog 15 #[] w (fun e w'=>e = .returned (.bool true)∧Below w.heap.size w w'):=by
 refine bF (args:=[]) func15 rfl ntmps15 rfl ?_
 have hS:=St.start w
 refine aD (aI (aB rfl rfl (aG (XF.thenN (aD (aI (dM (vs:=[]) hS goes_35 rfl (oE _) rfl ?_)))))))
 rintro e W1 ⟨E1,E2,rfl,hEx,hb⟩
 refine ⟨_,rfl,hb,fun hS'=>?_⟩
 clear hS;have hS:=hS';clear hS'
 have hbE:=hb
 clear hb
 refine bG (us:=[(0,.string _),(1,.string _)]) hS underlying77 sizeOf9 zeroValue9 rfl rfl rfl (bs_77_2 _ _) rfl fun B2 W2 hS=>dM (vs:=[_,_]) hS goes_34 rfl (qV exL 7 5 _ _ _ _ _ _ _ _ _ (hEx.keep (mN rfl hbE hS.below (hS.since 0 rfl))) (sZ E1 E2) (tA E1 E2) (exV_lay E1 E2) (nmAB_in (hS.at_ 0 rfl))) rfl ?_
 rintro e W8 ⟨wa,wc,rfl,hAr,hb⟩
 refine ⟨_,rfl,hb,fun hS'=>?_⟩
 clear hS;have hS:=(hS'.tail).mark 0 (fun p hp=>by cases hp) rfl;clear hS' hb
 have hNin:NIn W8 (exA wa wc):=⟨hAr,rfl,by show 7≤_;decide⟩
 refine aA rfl rfl (aY rfl rfl rfl (aY rfl rfl rfl (aX (cs:=[_,_,_,_,_]) hS zeroValue24 rfl rfl fun B3 W3 hS=>aV (i:=0) (vs:=[_,_,_,_,_]) (cs':=[_,_,_,_,_]) (O':=[_]) hS sizeOf24 rfl rfl rfl rfl rfl rfl rfl fun W4 hS=>aB rfl rfl (aG (XF.thenN (aD (aI (aN (vs:=[_,_,_,_,_]) isAgg24 sizeOf24 rfl (aK.own (j:=0) (m:=5) (hS.at_ 0 rfl) rfl) rfl (bG (us:=[(0,.int .i64 _),(1,.int .i64 _)]) hS underlying25 sizeOf3 zeroValue3 rfl rfl rfl (bs_25_2 _ _) rfl fun B5 W5 hS=>bO (vs:=[_,_]) hS jG rfl (tH wa wc _ _ _ (hNin.agree (hS.since 0 rfl)) (hS.at_ 0 rfl)) rfl fun W6 hS=>aA rfl rfl (aY rfl rfl rfl (aY rfl rfl rfl (aB rfl rfl (aB rfl rfl (aG (XF.thenN (aD (aI (aN (vs:=[_,_,_,_,_]) isAgg24 sizeOf24 rfl (aK.own (j:=0) (m:=5) (hS.at_ 1 rfl) rfl) rfl (bG (us:=[(0,.int .i64 _)]) hS underlying25 sizeOf3 zeroValue3 rfl rfl rfl (dR _) rfl fun B7 W7 hS=>bO (vs:=[_,_]) hS jG rfl (run1_is wa wc _ _ _ (hNin.agree (hS.since 1 rfl)) (hS.at_ 0 rfl)) rfl fun W8 hS=>aA rfl rfl (aY rfl rfl rfl (aY rfl rfl rfl (aB rfl rfl (aB rfl rfl (aG (XF.thenN (aD (aI (aN (vs:=[_,_,_,_,_]) isAgg24 sizeOf24 rfl (aK.own (j:=0) (m:=5) (hS.at_ 2 rfl) rfl) rfl (dM (vs:=[_]) hS goes_18 rfl (oD wa wc _ (hNin.agree (hS.since 2 rfl))) rfl ?_)))))))))))))))))))))))))))))
 rintro e W9 ⟨la,lc,rfl,hb⟩
 refine ⟨_,rfl,hb,fun hS'=>?_⟩
 clear hS;have hS:=hS';clear hS' hb
 refine aA rfl rfl (aY rfl rfl rfl (aY rfl rfl rfl (aY rfl rfl rfl (aB rfl rfl (aB rfl rfl (aB rfl rfl (aG (XF.thenN (aD (aI (aA rfl rfl (opV (aZ (c:=true) rfl rfl (by decide)) rfl (aA rfl rfl (aC (d:=36) rfl rfl (aA rfl rfl (aC (d:=36) rfl rfl (opV (aZ (c:=true) rfl rfl (by decide)) rfl (aM rfl rfl rfl (aA rfl rfl (aC (d:=40) rfl rfl (aA rfl rfl (aC (d:=40) rfl rfl (opV (aZ (c:=true) rfl rfl (by decide)) rfl (aM rfl rfl rfl (aA rfl rfl (aC (d:=44) rfl rfl (aA rfl rfl (aC (d:=44) rfl rfl (opV (aZ (c:=true) rfl rfl (by decide)) rfl (aM rfl rfl rfl (aA rfl rfl (aC (d:=48) rfl rfl (aA rfl rfl (aM rfl rfl rfl ?_))))))))))))))))))))))))))))))))))
 refine aA rfl rfl (aC (d:=51) rfl rfl (aA rfl rfl (aC (d:=51) rfl rfl (cO rfl rfl (aM rfl rfl rfl (aA rfl rfl (aC (d:=55) rfl rfl (aA rfl rfl (aM rfl rfl rfl (aA rfl rfl (aC (d:=58) rfl rfl (aA rfl rfl (aC (d:=58) rfl rfl (bI underlying25 rfl rfl (aC (d:=58) rfl rfl (opV (aZ (c:=true) rfl rfl (by decide)) rfl (aM rfl rfl rfl (aB rfl rfl (aG (XF.thenN (bH (XF.res (bT results15 rfl) ?_))))))))))))))))))))))
 exact ⟨rfl,hS.below⟩
inductive Pw (L:List ArV):Nat→List Int→Nat→Prop
 | nil {p:Nat}:Pw L p [] p
 | eps {p q r:Nat} {w:List Int}:E1 L p q→Pw L q w r→Pw L p w r
 | sym {p q r:Nat} {x:Int} {w:List Int}:(∃ t∈L,t.f=(p:Int)∧(t.s=x∨t.s = -2)∧t.q=(q:Int))→Pw L q w r→Pw L p (x::w) r
section
variable {L:List ArV}
theorem Pw.trans {p q r:Nat} {u v:List Int} (h:Pw L p u q) (h2:Pw L q v r):Pw L p (u++v) r:=by
 induction h with
 | nil=>exact h2
 | eps e _ ih=>exact .eps e (ih h2)
 | sym e _ ih=>exact .sym e (ih h2)
theorem Pw.rev {p q:Nat} {w:List Int} (h:Pw L p w q):Pw (L.map ArV.flip) q w.reverse p:=by
 induction h with
 | nil=>exact .nil
 | eps e _ ih =>
  have h1:=ih.trans (.eps (gT.2 e) .nil)
  rwa [List.append_nil] at h1
 | sym e _ ih =>
  obtain ⟨t,ht,e1,e2,e3⟩:=e
  rw [List.reverse_cons]
  exact ih.trans (.sym ⟨t.flip,List.mem_map_of_mem ht,e3,e2,e1⟩ .nil)
theorem tI:(L.map ArV.flip).map ArV.flip=L:=by
 rw [List.map_map]
 conv=>rhs;rw [← List.map_id L]
 exact List.map_congr_left fun t _=>rfl
theorem hd_pw {P:Nat→Prop} {q:Nat} (h:Hd L P q):∃ p,P p∧Pw L p [] q:=by
 induction h with
 | base h1=>exact ⟨_,h1,.nil⟩
 | arc _ e ih =>
  obtain ⟨p,h1,h2⟩:=ih
  exact ⟨p,h1,h2.trans (.eps e .nil)⟩
theorem pw_hd {P:Nat→Prop} {p q:Nat} {w:List Int} (h:Pw L p w q):Hd L P p→w=[]→Hd L P q:=by
 induction h with
 | nil=>exact fun h _=>h
 | eps e _ ih=>exact fun h h0=>ih (.arc h e) h0
 | sym _ _ _=>exact fun _ h0=>by cases h0
theorem pw_cons {p r:Nat} {v:List Int} (h:Pw L p v r):∀ x w,v=x::w→∃ p0 q:Nat,Pw L p [] p0∧(∃ t∈L,t.f=(p0:Int)∧(t.s=x∨t.s = -2)∧t.q=(q:Int))∧Pw L q w r:=by
 induction h with
 | nil=>intro x w h;cases h
 | eps e _ ih =>
  intro x w h
  obtain ⟨p0,q,h1,h2,h3⟩:=ih x w h
  exact ⟨p0,q,.eps e h1,h2,h3⟩
 | sym e h1 _ =>
  intro x w h
  cases h
  exact ⟨_,_,.nil,e,h1⟩
theorem oF:∀ (w:List Int) {P:Nat→Prop} (q:Nat),eO L (Hd L P) w q↔∃ p,P p∧Pw L p w q
 | [],P,q=>⟨fun h=>hd_pw h,fun ⟨p,h1,h2⟩=>pw_hd h2 (.base h1) rfl⟩
 | x::w,P,q=>by
  show eO L (Hd L (By9 L x (Hd L P))) w q↔_
  rw [oF w q]
  constructor
  ·rintro ⟨r,⟨p0,h1,h2⟩,h3⟩
   obtain ⟨p,h4,h5⟩:=hd_pw h1
   exact ⟨p,h4,h5.trans (.sym h2 h3)⟩
  ·rintro ⟨p,h1,h2⟩
   obtain ⟨p0,r,h3,h4,h5⟩:=pw_cons h2 x w rfl
   exact ⟨r,⟨p0,pw_hd h3 (.base h1) rfl,h4⟩,h5⟩
end
theorem oG (w:World) (d:Nat) (f:Int):(Op.equalIn (d+1) 3 (.int .i64 f) (.int .i64 f)).run prog w = .ok true w:=by
 simp [Op.equalIn,run_underlying underlying3]
theorem mO (w:World) (f s q:Int):(binOp .neq 57 (.agg #[.int .i64 f,.int .i64 s,.int .i64 q]) (.agg #[.int .i64 f,.int .i64 s,.int .i64 q])).run prog w = .ok (.bool false) w:=by
 rw [run_neq_struct,run_equalIn_agg w 9999 57 _ _ (by kernel_rfl) Try.stoodInHeld57]
 have hf:(prog.fieldsOf 57).toList=[{ name := "From",type:=3,offset:=0,embedded:=false,tag := "",pkgPath := "",byteOffset:=0 },{ name := "Sym",type:=3,offset:=1,embedded:=false,tag := "",pkgPath := "",byteOffset:=8 },{ name := "To",type:=3,offset:=2,embedded:=false,tag := "",pkgPath := "",byteOffset:=16 }]:=by kernel_rfl
 have hi:∀ (w:World) (f:Int),(Op.equalIn 9999 3 (.int .i64 f) (.int .i64 f)).run prog w = .ok true w:=fun w f=>oG w 9998 f
 rw [hf]
 simp [Op.eqFields,part,isAgg3,sizeOf3,hi]
theorem oH {l:Fr} {W:World} {d:Nat} {ty u:TypeId} {pos:String} {aft:Array Edge} {x y:Operand} {f s q:Int} (hx:evL l x=some (.agg #[.int .i64 f,.int .i64 s,.int .i64 q])) (hy:evL l y=some (.agg #[.int .i64 f,.int .i64 s,.int .i64 q])):cJ prog l ⟨some d,.binOp .neq 57 x y u,ty,pos,aft,none⟩ W (.bool false) W:=fun ev he=>cG (he x _ hx) (he y _ hy) (run_eqGuard_agg _ _ _ _ _ _ _ Try.eqGuardType57) (mO W f s q)
theorem jY (a:NfV) (ba:Option Addr) (bc:Nat) (w:World) (hA:NIn w a) (hB:hY w ba a.ar) :
  Calls prog 22 #[a.val,.agg #[.int .i64 a.st,.int .i64 a.sy,.int .i64 a.s0,.int .i64 a.e0,.slice ba a.al bc]] w (fun e w'=>e = .returned (.bool true)∧Below w.heap.size w w'):=by
 refine bF (args:=[a.val,.agg #[.int .i64 a.st,.int .i64 a.sy,.int .i64 a.s0,.int .i64 a.e0,.slice ba a.al bc]]) func22 rfl ntmps22 rfl ?_
 have hS:=St.start w
 have hlen:=hA.alen
 have hmx:=hA.amax
 refine aD (aI (bY (cs:=[_,_,_,_,_]) hS rfl rfl rfl fun B1 W1 hS=>bY (cs:=[_,_,_,_,_]) hS rfl rfl rfl fun B2 W2 hS=>aB rfl rfl (aG (XF.thenN (aD (aD (aI (aH (o':=0) cS rfl rfl rfl (aJ isAgg3 rfl (aE (hS.at_ 1 rfl) rfl) rfl (aH (o':=0) cS rfl rfl rfl (aJ isAgg3 rfl (aE (hS.at_ 0 rfl) rfl) rfl (opV (dI (c:=false) rfl rfl (by simp)) rfl (aA rfl rfl (aC (d:=11) rfl rfl (aH (o':=1) dN rfl rfl rfl (aC (d:=11) rfl rfl (aJ isAgg3 rfl (aE (hS.at_ 1 rfl) rfl) rfl (aC (d:=11) rfl rfl (aH (o':=1) dN rfl rfl rfl (aC (d:=11) rfl rfl (aJ isAgg3 rfl (aE (hS.at_ 0 rfl) rfl) rfl (aC (d:=11) rfl rfl (opV (dI (c:=false) rfl rfl (by simp)) rfl (aQ rfl rfl rfl (aA rfl rfl (aC (d:=18) rfl rfl (aH (o':=2) dA rfl rfl rfl (aC (d:=18) rfl rfl (aJ isAgg3 rfl (aE (hS.at_ 1 rfl) rfl) rfl (aC (d:=18) rfl rfl (aH (o':=2) dA rfl rfl rfl (aC (d:=18) rfl rfl (aJ isAgg3 rfl (aE (hS.at_ 0 rfl) rfl) rfl ?_)))))))))))))))))))))))))))))))))
 refine aC (d:=18) rfl rfl (opV (dI (c:=false) rfl rfl (by simp)) rfl (aQ rfl rfl rfl (aA rfl rfl (aC (d:=25) rfl rfl (aH (o':=3) dG rfl rfl rfl (aC (d:=25) rfl rfl (aJ isAgg3 rfl (aE (hS.at_ 1 rfl) rfl) rfl (aC (d:=25) rfl rfl (aH (o':=3) dG rfl rfl rfl (aC (d:=25) rfl rfl (aJ isAgg3 rfl (aE (hS.at_ 0 rfl) rfl) rfl (aC (d:=25) rfl rfl (opV (dI (c:=false) rfl rfl (by simp)) rfl (aQ rfl rfl rfl (aA rfl rfl (aC (d:=32) rfl rfl (aH (o':=4) cA rfl rfl rfl (aC (d:=32) rfl rfl (aJ isAgg22 rfl (aE (hS.at_ 1 rfl) rfl) rfl (aC (d:=32) rfl rfl (bI underlying22 rfl rfl (aC (d:=32) rfl rfl (aH (o':=4) cA rfl rfl rfl (aC (d:=32) rfl rfl (aJ isAgg22 rfl (aE (hS.at_ 0 rfl) rfl) rfl (aC (d:=32) rfl rfl (bI underlying22 rfl rfl (aC (d:=32) rfl rfl (opV (dI (c:=false) rfl rfl (by simp)) rfl (aQ rfl rfl rfl (aG (XF.thenN (bU rfl ?_)))))))))))))))))))))))))))))))))
 refine aP (XF.thenN (aD (aD (aI (aB rfl rfl (aG (XF.thenN (aL (cF (fun m l W=>∃ (i:Nat),i≤a.al∧m=a.al - i∧l=[(2,.pointer (some ⟨B1,0,none⟩)),(3,.pointer (some ⟨B2,0,none⟩)),(5,.int .i64 (i:Int))]∧St w [(B2,[.int .i64 a.st,.int .i64 a.sy,.int .i64 a.s0,.int .i64 a.e0,.slice ba a.al bc],24),(B1,a.cells,24)] [] [] W) (a.al - 0) ([(2,_),(3,_),(5,_)]) ⟨rfl,rfl,rfl,trivial⟩ (⟨0,Nat.zero_le _,rfl,rfl,hS.clear⟩) ?_)))))))))
 clear hS
 rintro m l W ⟨i,hi,rfl,rfl,hS⟩
 refine aD (aD (aI (aA rfl rfl (aH (o':=4) cA rfl rfl rfl (aJ isAgg22 rfl (aE (hS.at_ 1 rfl) rfl) rfl (bI underlying22 rfl rfl (bJ rfl rfl rfl (aG (XF.thenN (bE rfl (fun hc=>?_) (fun hc=>?_)))))))))))
 ·have hc45:=of_decide_eq_true hc;clear hc
  obtain ⟨t,ht⟩:∃ t,a.ar[i]?=some t:=⟨_,List.getElem?_eq_getElem (by omega)⟩
  obtain ⟨b,off,haa,hcs⟩:=(hA.below hS.below).arow i t ht
  obtain ⟨b8,off8,hbb,hcs8⟩:=(hB.below hS.below) i t ht
  have k1:aK W b (off+i * 3) [.int .i64 t.f,.int .i64 t.s,.int .i64 t.q]:=hcs
  have k8:aK W b8 (off8+i * 3) [.int .i64 t.f,.int .i64 t.s,.int .i64 t.q]:=hcs8
  refine aP (XF.thenN (aD (aL (aD (rP (m:=11) dE hS (by kernel_rfl) (by kernel_rfl) rfl (eD 1 rfl 2 rfl rfl (fun w hw=>bX (o':=4) cA rfl rfl) rfl (cQ 2 rfl 48 0 rfl rfl rfl (fun w hw=>bN isAgg22 rfl ((aT hw 0).cell (Nat.zero_le _) (aE (hS.at_ 1 rfl) rfl))) rfl (eD 3 rfl 5 rfl rfl (fun w hw=>dF rfl) rfl ?_))))))))
  refine cX 4 rfl (isV _) (cL _) (rgV (li:=[(49,_),(50,_)]) rfl (bR rfl) ⟨bP 1 (bK rfl rfl rfl),bP 2 (bK rfl rfl rfl),trivial⟩ (fun w hw=>cV (j:=i) (b:=b) (o:=off) (m:=a.al) (c:=a.ac) underlying22 sizeOf57 (by show some (Value.slice _ _ _)=_;rw [haa]) rfl rfl (by omega) rfl) (bM rfl)) ?_
  refine cQ 5 rfl 51 3 rfl rfl rfl (fun w hw=>fH (vs:=[_,_,_]) isAgg57 sizeOf57 rfl (aK.agree (aT hw 0) (Nat.zero_le _) (k1))) rfl (eD 6 rfl 3 rfl rfl (fun w hw=>bX (o':=4) cA rfl rfl) rfl (cQ 7 rfl 53 5 rfl rfl rfl (fun w hw=>bN isAgg22 rfl ((aT hw 0).cell (Nat.zero_le _) (aE (hS.at_ 0 rfl) rfl))) rfl (eD 8 rfl 5 rfl rfl (fun w hw=>dF rfl) rfl ?_)))
  refine cX 9 rfl (isV _) (cL _) (rgV (li:=[(54,_),(55,_)]) rfl (bR rfl) ⟨bP 6 (bK rfl rfl rfl),bP 7 (bK rfl rfl rfl),trivial⟩ (fun w hw=>cV (j:=i) (b:=b8) (o:=off8) (m:=a.al) (c:=bc) underlying22 sizeOf57 (by show some (Value.slice _ _ _)=_;rw [hbb]) rfl rfl (by omega) rfl) (bM rfl)) ?_
  refine cQ 10 rfl 56 8 rfl rfl rfl (fun w hw=>fH (vs:=[_,_,_]) isAgg57 sizeOf57 rfl (aK.agree (aT hw 0) (Nat.zero_le _) (k8))) rfl (cX 11 rfl (isV (.bool false)) (cL _) (rgVe (li:=[(52,_),(57,_)]) rfl (bR rfl) ⟨bP 4 (bK rfl rfl rfl),bP 9 (bK rfl rfl rfl),trivial⟩ (fun w hw=>oH rfl rfl) (rfl) (bM rfl)) (jL ?_))
  intro W3 hbR hS'
  clear hS;have hS:=hS';clear hS'
  refine bL (bL (bL (bL (bL (bL (bL (bL (bL (bL (bL (dZ (XF.thenN (bU rfl (aP (XF.blkN (XF.thenN (aI (aA rfl rfl (bC rfl rfl (IntWalk.i64_in _ (by omega)) rfl (aB rfl rfl (aG ?_)))))))))))))))))))))
  exact XF.round (a.al - (i+1)) [(2,_),(3,_),(5,_)] (by omega) ⟨rfl,rfl,rfl,trivial⟩ ⟨i+1,by omega,rfl,rfl,hS.clear⟩
 ·have hc45:=of_decide_eq_false hc;clear hc
  refine bW (XF.thenX (XF.thenX (XF.blkX (XF.thenN (aD (aI (aB rfl rfl (aG (XF.thenN (bH (XF.res (bT results22 rfl) ?_)))))))))))
  exact ⟨rfl,hS.below⟩
def tnV (a:NfV) (wa:Option Addr) (wc:Nat):NfV:=if cB a=0 then ⟨a.st,a.sy,a.e0,a.s0,wa,a.al,wc,a.ar.map ArV.flip⟩ else ⟨0,0,0,0,none,0,0,[]⟩
theorem eG {a:NfV} {wa:Option Addr} {wc:Nat} (h:cB a=0):tnV a wa wc=⟨a.st,a.sy,a.e0,a.s0,wa,a.al,wc,a.ar.map ArV.flip⟩:=if_pos h
theorem gC {a:NfV} {wa:Option Addr} {wc:Nat} (h:cB a≠0):tnV a wa wc=⟨0,0,0,0,none,0,0,[]⟩:=if_neg h
theorem jZ {w:World}:NIn w ⟨0,0,0,0,none,0,0,[]⟩:=⟨fun i r hi=>by simp at hi,rfl,by decide⟩
theorem tJ {a:NfV} (h:cB a=0):a.al≤65536:=by obtain ⟨n,k,s,e,_,_,_,_,_,_,_,_,_,h,_⟩:=hZ h;exact h
theorem kO (a:NfV) (w:World) (hA0:NIn w a) :
  Calls prog 20 #[a.val] w (fun e w'=>∃ (wa:Option Addr) (wc:Nat),e = .returned (.tuple #[(tnV a wa wc).val,.int .i64 (cB a)])∧NIn w' (tnV a wa wc)∧Below w.heap.size w w'):=by
 refine bF (args:=[a.val]) func20 rfl ntmps20 rfl ?_
 have hS:=St.start w
 refine aD (aI (bY (cs:=[_,_,_,_,_]) hS rfl rfl rfl fun B1 W1 hS=>aX (cs:=[_,_,_,_,_]) hS zeroValue24 rfl rfl fun B2 W2 hS=>aB rfl rfl (aG (XF.thenN (aD (aD (aI (aN (vs:=[_,_,_,_,_]) isAgg24 sizeOf24 rfl (aK.own (j:=0) (m:=5) (hS.at_ 1 rfl) rfl) rfl (bO (vs:=[_]) hS lB rfl (lC a _ (hA0.below hS.below)) rfl fun W3 hS=>aB rfl rfl (aG (XF.thenN (aD (aI (aA rfl rfl (gJ rfl rfl rfl (aG (XF.thenN (bE rfl (fun hc=>?_) (fun hc=>?_)))))))))))))))))))
 ·have hc8:=of_decide_eq_true hc;clear hc
  refine aD (aI (cM (us:=[]) rfl (oB) rfl (aA rfl rfl (aV (i:=0) (vs:=[_,_,_,_,_]) (cs':=[_,_,_,_,_]) (O':=[_,_]) hS sizeOf24 rfl rfl rfl rfl rfl rfl rfl fun W4 hS=>aB rfl rfl (aG (XF.thenN (bH (XF.thenR (XF.res (jK (vs:=[_,_,_,_,_]) results20 isAgg24 sizeOf24 rfl (aK.own (j:=0) (m:=5) (hS.at_ 0 rfl) rfl) rfl) ?_)))))))))
  refine ⟨none,0,?_,by rw [gC hc8];exact jZ,hS.below⟩
  rw [gC hc8]
 ·have hc8:=of_decide_eq_false hc;clear hc
  have h0:cB a=0:=Decidable.of_not_not hc8
  have hal:=tJ h0
  have hA:bS w [] (fun W=>hY W a.aa a.ar):=fun h9 _=>(hA0.below h9.below).arow
  refine aP (XF.thenN (aD (aI (aN (vs:=[_,_,_,_,_]) isAgg24 sizeOf24 rfl (aK.own (j:=0) (m:=5) (hS.at_ 1 rfl) rfl) rfl (aU (vs:=[_]) pG rfl (jT a.st a.sy a.s0 a.e0 a.aa a.al a.ac a.ar [] _ [] [] w _ (hS.keep [] (fun q hq=>by cases hq)) (fun q hq=>hq) hA hA0.alen hal) rfl ?_)))))
  rintro e W9 ⟨wa,wc,rfl,hS9⟩
  refine ⟨_,rfl,?_⟩
  clear hS;have hS:=hS9;clear hS9
  refine aV (i:=0) (vs:=[_,_,_,_,_]) (cs':=[_,_,_,_,_]) (O':=[_,_]) hS sizeOf24 rfl rfl rfl rfl rfl rfl rfl fun W5 hS=>aB rfl rfl (aG (XF.thenN (bH (XF.res (jK (vs:=[_,_,_,_,_]) results20 isAgg24 sizeOf24 rfl (aK.own (j:=0) (m:=5) (hS.at_ 0 rfl) rfl) rfl) ?_))))
  obtain ⟨K1,k1,g1,hS1⟩:=St.rowKeepN (o:=⟨.slice wa a.al wc,a.al,(a.ar.map ArV.flip).flatMap ArV.three⟩) hS
  refine ⟨wa,wc,?_,?_,hS.below⟩
  ·rw [eG h0,h0]
  ·rw [eG h0];exact ⟨iC (g1 hS1 (fun q hq=>hq)),by show (a.ar.map ArV.flip).length=a.al;rw [List.length_map];exact hA0.alen,by show a.al≤_;omega⟩
theorem qX (a:NfV) (w:World) (hA0:NIn w a) :
  Calls prog 21 #[a.val] w (fun e w'=>∃ (wa:Option Addr) (wc:Nat),e = .returned (.tuple #[(tnV a wa wc).val,.int .i64 (cB a)])∧NIn w' (tnV a wa wc)∧Below w.heap.size w w'):=by
 refine bF (args:=[a.val]) func21 rfl ntmps21 rfl ?_
 have hS:=St.start w
 refine aD (aI (bY (cs:=[_,_,_,_,_]) hS rfl rfl rfl fun B1 W1 hS=>aX (cs:=[_,_,_,_,_]) hS zeroValue24 rfl rfl fun B2 W2 hS=>aB rfl rfl (aG (XF.thenN (aD (aI (aN (vs:=[_,_,_,_,_]) isAgg24 sizeOf24 rfl (aK.own (j:=0) (m:=5) (hS.at_ 1 rfl) rfl) rfl (bO (vs:=[_]) hS goes_14 rfl (nfaR_is a _ (hA0.below hS.below)) rfl fun W3 hS=>aB rfl rfl (aG (XF.thenN (aD (aD (aI (aA rfl rfl (gJ rfl rfl rfl (aG (XF.thenN (bE rfl (fun hc=>?_) (fun hc=>?_)))))))))))))))))))
 ·have hc11:=of_decide_eq_true hc;clear hc
  refine aD (aI (cM (us:=[]) rfl (oB) rfl (aA rfl rfl (aV (i:=0) (vs:=[_,_,_,_,_]) (cs':=[_,_,_,_,_]) (O':=[_,_]) hS sizeOf24 rfl rfl rfl rfl rfl rfl rfl fun W4 hS=>aB rfl rfl (aG (XF.thenN (bH (XF.thenR (XF.res (jK (vs:=[_,_,_,_,_]) results21 isAgg24 sizeOf24 rfl (aK.own (j:=0) (m:=5) (hS.at_ 0 rfl) rfl) rfl) ?_)))))))))
  refine ⟨none,0,?_,by rw [gC hc11];exact jZ,hS.below⟩
  rw [gC hc11]
 ·have hc11:=of_decide_eq_false hc;clear hc
  have h0:cB a=0:=Decidable.of_not_not hc11
  have hal:=tJ h0
  have hlen:=hA0.alen
  refine aP (XF.thenN (aD (aI (aN (vs:=[_,_,_,_,_]) isAgg24 sizeOf24 rfl (aK.own (j:=0) (m:=5) (hS.at_ 1 rfl) rfl) rfl (aX (cs:=[_,_,_,_,_]) hS zeroValue24 rfl rfl fun B5 W5 hS=>aV (i:=0) (vs:=[_,_,_,_,_]) (cs':=[_,_,_,_,_]) (O':=[_,_,_]) hS sizeOf24 rfl rfl rfl rfl rfl rfl rfl fun W6 hS=>aG (XF.thenN (aD (regS (ef:=5) (jy:=1) (ca:=iM (fun _=>[])) (ta:=fun _=>0) (Os:=osY _ 0 (2) B5 (a.cells) 24) (Gs:=mY _) (al:=[]) (k:=6) (ds:=[20,21]) dE rfl hS rfl (by kernel_rfl) (by kernel_rfl) rfl (by decide) rfl some (.inl ⟨rfl,rfl⟩) rfl rfl (bZ 1 rfl rfl (isV _) (fun hNo=>sgV [(1,_)] rfl rfl rfl rfl hNo (bR rfl) ⟨fI rfl,trivial⟩ (fun ev w he hw=>bX (o':=3) dG rfl rfl) (bM rfl)) (bZ 2 rfl rfl (isV _) (fun hNo=>sgV [(15,_)] rfl rfl rfl rfl hNo (bR rfl) ⟨bP 0 (bK rfl rfl rfl),trivial⟩ (fun ev w he hw=>bN isAgg3 rfl ((aE (hw.at_ 2 (iP (i:=2) (j:=0) rfl rfl)) rfl))) (bM rfl)) (bZ 3 rfl rfl (isV _) (fun hNo=>sgV [(1,_)] rfl rfl rfl rfl hNo (bR rfl) ⟨fI rfl,trivial⟩ (fun ev w he hw=>bX (o':=2) dA rfl rfl) (bM rfl)) (bZ 4 rfl rfl (isV _) (fun hNo=>sgV [(17,_)] rfl rfl rfl rfl hNo (bR rfl) ⟨bP 2 (bK rfl rfl rfl),trivial⟩ (fun ev w he hw=>bN isAgg3 rfl ((aE (hw.at_ 2 (iP (i:=2) (j:=0) rfl rfl)) rfl))) (bM rfl)) (bZ 5 rfl rfl (isV _) (fun hNo=>sgV [(5,_)] rfl rfl rfl rfl hNo (bR rfl) ⟨fI rfl,trivial⟩ (fun ev w he hw=>bX (o':=2) dA rfl rfl) (bM rfl)) ?_)))))))))))))
  refine kV 6 rfl (pA (py:=isV _) (m:=1) 0 (2) [(19,_)] rfl rfl rfl rfl (by kernel_rfl) rfl rfl (fun j hj=>by rcases hj with h | rfl<;>first | (cases h<;>rfl) | rfl) ⟨bP 4 (bK rfl rfl rfl),trivial⟩ rfl rfl sizeOf3 (fun v w e=>⟨[v],by rw [show v=_ from e];rfl,rfl,by rw [show v=_ from e];rfl⟩) rfl) ?_
  refine kU ?_
  intro Bf7 y7 W7 Ks7 hsz7 hKs7 hS' hcov7
  clear hS;have hS:=hS'.castO (O':=[_,_,_]) rfl;clear hS'
  refine oT (L':=[AwS _ _ (isV _),(fun v0_ w0_=>v0_=_∧AwS _ _ (isV _) v0_ w0_),AwS _ _ (isV _),AwS _ _ (isV _),AwS _ _ (isV _),isV _]) rfl (cK ?_)
  refine oO ?_;rintro _ ⟨rfl,hA7⟩;have hA7:=hA7.here;cases hA7
  refine cK (cK (cK (rT (dZ (aH (o':=3) dG rfl rfl rfl (bQ (i:=0) (cs':=[_,_,_,_,_]) (O':=[_,_,_]) hS sizeOf3 rfl rfl rfl rfl rfl rfl rfl fun W8 hS=>aH (o':=4) cA rfl rfl rfl (bQ (i:=0) (cs':=[_,_,_,_,_]) (O':=[_,_,_]) hS sizeOf22 rfl rfl rfl rfl rfl rfl rfl fun W9 hS=>aG (XF.thenN (aD (aD ?_))))))))))
  have hS':=hS.newG 57 3;clear hS;have hS:=hS';clear hS'
  refine aI (aB rfl rfl (aG (XF.thenN (aL (cF (fun m l W=>∃ (i:Nat) (wa:Option Addr) (wc:Nat),i≤a.al∧m=a.al - i∧l=[(1,.pointer (some ⟨B1,0,none⟩)),(2,.pointer (some ⟨B2,0,none⟩)),(5,.pointer (some ⟨B5,0,none⟩)),(6,.int .i64 (i:Int))]∧St w [(B5,[.int .i64 a.st,.int .i64 a.sy,.int .i64 a.e0,.int .i64 a.s0,.slice wa i wc],24),(B2,[.int .i64 0,.int .i64 0,.int .i64 0,.int .i64 0,.slice none 0 0],24),(B1,a.cells,24)] [⟨.slice wa i wc,i,((a.ar.take i).map ArV.flip).flatMap ArV.three,57,3⟩] [] W) (a.al - 0) ([(1,_),(2,_),(5,_),(6,_)]) ⟨rfl,rfl,rfl,rfl,trivial⟩ (⟨0,none,0,Nat.zero_le _,rfl,rfl,hS.keep [] (fun q hq=>by cases hq)⟩) ?_)))))
  clear hS
  rintro m l W ⟨i,wa,wc,hi,rfl,rfl,hS⟩
  refine aD (aD (aI (aA rfl rfl (aH (o':=4) cA rfl rfl rfl (aJ isAgg22 rfl (aE (hS.at_ 2 rfl) rfl) rfl (bI underlying22 rfl rfl (bJ rfl rfl rfl (aG (XF.thenN (bE rfl (fun hc=>?_) (fun hc=>?_)))))))))))
  ·have hc26:=of_decide_eq_true hc;clear hc
   obtain ⟨t,ht⟩:∃ t,a.ar[i]?=some t:=⟨_,List.getElem?_eq_getElem (by omega)⟩
   obtain ⟨b,off,haa,hcs⟩:=(hA0.below hS.below).arow i t ht
   have k1:=hcs
   refine aP (XF.thenN (aD (aL (aD (aI (aH (o':=4) cA rfl rfl rfl (aJ isAgg22 rfl (aE (hS.at_ 2 rfl) rfl) rfl (aA rfl rfl ?_))))))))
   refine aR (j:=i) (b:=b) (o:=off) (m:=a.al) (c:=a.ac) underlying22 sizeOf57 (by show some (Value.slice _ _ _)=_;rw [haa]) rfl rfl (by omega) rfl rfl ?_
   refine aN (vs:=[_,_,_]) isAgg57 sizeOf57 rfl k1 rfl (aX (cs:=[_,_,_]) hS zeroValue57 rfl rfl fun B10 W10 hS=>aV (i:=0) (vs:=[_,_,_]) (cs':=[_,_,_]) (O':=[_,_,_,_]) hS sizeOf57 rfl rfl rfl rfl rfl rfl rfl fun W11 hS=>aG (XF.thenN (aI (aH (o':=4) cA rfl rfl rfl (aJ isAgg22 rfl (aE (hS.at_ 1 rfl) rfl) rfl (aH (o':=2) dS rfl rfl rfl (aJ isAgg3 rfl (aE (hS.at_ 0 rfl) rfl) rfl (aH (o':=1) dH rfl rfl rfl (aJ isAgg3 rfl (aE (hS.at_ 0 rfl) rfl) rfl (aH (o':=0) fW rfl rfl rfl (aJ isAgg3 rfl (aE (hS.at_ 0 rfl) rfl) rfl (cM (us:=[(0,.int .i64 _),(1,.int .i64 _),(2,.int .i64 _)]) rfl (eY _ _ _) rfl (bG (us:=[(0,.agg (List.toArray [_,_,_]))]) hS underlying22 sizeOf57 zeroValue57 rfl rfl rfl (lD _ _ _) rfl fun B12 W12 hS=>?_)))))))))))))
   refine dJ (i:=0) (news:=[_,_,_]) hS underlying22 lE rfl rfl (by show 0 < 3;decide) rfl rfl rfl rfl rfl (aK.own (j:=0) (m:=3) (hS.at_ 0 rfl) rfl) rfl rfl (by dsimp only;simp only [maxLen];omega) (by dsimp only;show _ * 24≤_;omega) rfl fun v13 W13 hS=>?_
   obtain ⟨wa8,wc8,e9,_⟩:=cD (hS.row 0 rfl)
   dsimp only at e9
   subst e9
   have hS9:=hS.castG (G':=[⟨.slice wa8 (i+1) wc8,i+1,((a.ar.take (i+1)).map ArV.flip).flatMap ArV.three,57,3⟩]) (by show GR.mk _ _ (((a.ar.take i).map ArV.flip).flatMap ArV.three++[Value.int .i64 _,_,_]) _ _::_=_;rw [List.take_add_one,ht];simp [ArV.flip])
   clear hS;have hS:=hS9;clear hS9
   refine aH (o':=4) cA rfl rfl rfl (bQ (i:=2) (cs':=[_,_,_,_,_]) (O':=[_,_,_,_,_]) hS sizeOf22 rfl rfl rfl rfl rfl rfl rfl fun W14 hS=>aG (XF.blkN (XF.thenN (aI (aA rfl rfl (bC rfl rfl (IntWalk.i64_in _ (by omega)) rfl (aB rfl rfl (aG ?_))))))))
   exact XF.round (a.al - (i+1)) [(1,_),(2,_),(5,_),(6,_)] (by omega) ⟨rfl,rfl,rfl,rfl,trivial⟩ ⟨i+1,wa8,wc8,by omega,rfl,rfl,hS.tail.tail.keep [] (fun q hq=>by cases hq)⟩
  ·have hc26:=of_decide_eq_false hc;clear hc
   obtain rfl:i=a.al:=by omega
   rw [List.take_of_length_le (by omega)] at hS
   refine bW (XF.thenX (XF.thenX (XF.blkX (XF.thenN (aD (aI (aN (vs:=[_,_,_,_,_]) isAgg24 sizeOf24 rfl (aK.own (j:=0) (m:=5) (hS.at_ 0 rfl) rfl) rfl (aV (i:=1) (vs:=[_,_,_,_,_]) (cs':=[_,_,_,_,_]) (O':=[_,_,_]) hS sizeOf24 rfl rfl rfl rfl rfl rfl rfl fun W15 hS=>aB rfl rfl (aG (XF.thenN (bH (XF.res (jK (vs:=[_,_,_,_,_]) results21 isAgg24 sizeOf24 rfl (aK.own (j:=0) (m:=5) (hS.at_ 1 rfl) rfl) rfl) ?_))))))))))))
   obtain ⟨K1,k1,g1,hS1⟩:=St.rowKeepN (o:=⟨.slice wa a.al wc,a.al,(a.ar.map ArV.flip).flatMap ArV.three⟩) hS
   refine ⟨wa,wc,?_,?_,hS.below⟩
   ·rw [eG h0,h0]
   ·rw [eG h0];exact ⟨iC (g1 hS1 (fun q hq=>hq)),by show (a.ar.map ArV.flip).length=a.al;rw [List.length_map];exact hA0.alen,by show a.al≤_;omega⟩
theorem goes_15:bA prog 15=true:=by kernel_rfl
theorem tK {P:Program} {l:Fr} {W:World} {d:Nat} {ty t u:TypeId} {pos:String} {aft:Array Edge} {x y:Operand} {p:Bool} (hB:P.underlying t=some .bool) (hx:evL l x=some (.bool p)) (hy:evL l y=some (.bool p)):cJ P l ⟨some d,.binOp .eql t x y u,ty,pos,aft,none⟩ W (.bool true) W:=by
 have h:=rn_eqlB (P:=P) (W:=W) (d:=d) (ty:=ty) (u:=u) (pos:=pos) (aft:=aft) hB hx hy
 rw [beq_self_eq_true] at h
 exact h
theorem pQ:bA prog 20=true:=by kernel_rfl
theorem goes_21:bA prog 21=true:=by kernel_rfl
theorem pR:bA prog 22=true:=by kernel_rfl
theorem iR {a:NfV} {wb:Option Addr} {wc:Nat} (h:cB a=0):cB ⟨a.st,a.sy,a.e0,a.s0,wb,a.al,wc,a.ar.map ArV.flip⟩=0:=by
 obtain ⟨n,k,s,e,hn,hk,hs,he,h1,h2,h3,h4,h5,h6,hO⟩:=hZ h
 unfold cB
 dsimp only
 rw [if_neg (by omega),if_neg (by omega),if_pos ⟨by unfold inQ;simp;omega,by unfold inQ;simp;omega⟩,if_pos (List.all_eq_true.2 fun t ht=>by
  obtain ⟨u,hu,rfl⟩:=List.mem_map.1 ht
  have:=hO u hu
  unfold arB inQ ArV.flip
  simp;omega)]
theorem tM {a:NfV} {wb:Option Addr} {wc:Nat} {ws:List Int} (h:cB a=0):dO ⟨a.st,a.sy,a.e0,a.s0,wb,a.al,wc,a.ar.map ArV.flip⟩ ws.reverse=dO a ws:=by
 unfold dO
 rw [iR h,h,List.all_reverse]
theorem tN {a:NfV} {wb:Option Addr} {wc:Nat} {ws:List Int} (h:cB a=0):nO ⟨a.st,a.sy,a.e0,a.s0,wb,a.al,wc,a.ar.map ArV.flip⟩ ws.reverse↔nO a ws:=by
 obtain ⟨n,k,s,e,hn,hk,hs,he,h1,h2,h3,h4,h5,h6,hO⟩:=hZ h
 unfold nO
 rw [oF,oF]
 dsimp only
 constructor
 ·rintro ⟨p,hp,h7⟩
  have h8:=h7.rev
  rw [tI,List.reverse_reverse] at h8
  exact ⟨a.s0.toNat,by omega,by rw [show a.e0.toNat=p by omega];exact h8⟩
 ·rintro ⟨p,hp,h7⟩
  have h8:=h7.rev
  exact ⟨a.e0.toNat,by omega,by rw [show a.s0.toNat=p by omega];exact h8⟩
theorem qY (a:NfV) (wb wd:Option Addr) (wbc wdc:Nat) (w:World) (h1:NIn w (tnV a wb wbc)) (h2:NIn w (tnV a wd wdc)):Calls prog 22 #[(tnV a wb wbc).val,(tnV a wd wdc).val] w (fun e w'=>e = .returned (.bool true)∧Below w.heap.size w w'):=by
 by_cases h0:cB a=0
 ·rw [eG h0] at h1 h2 ⊢
  rw [eG h0]
  exact jY ⟨a.st,a.sy,a.e0,a.s0,wb,a.al,wbc,a.ar.map ArV.flip⟩ wd wdc w h1 h2.arow
 ·rw [gC h0,gC h0]
  exact jY ⟨0,0,0,0,none,0,0,[]⟩ none 0 w jZ (fun i r hi=>by simp at hi)
theorem tn_tn {a:NfV} {wb we:Option Addr} {wbc wec:Nat} (h0:cB a=0):tnV (tnV a wb wbc) we wec=⟨a.st,a.sy,a.s0,a.e0,we,a.al,wec,a.ar⟩:=by
 rw [eG h0,eG (iR h0)]
 dsimp only
 rw [tI]
theorem mP (a:NfV) (wb we:Option Addr) (wbc wec:Nat) (w:World) (h0:cB a=0) (h1:NIn w (tnV (tnV a wb wbc) we wec)) (h2:NIn w a):Calls prog 22 #[(tnV (tnV a wb wbc) we wec).val,a.val] w (fun e w'=>e = .returned (.bool true)∧Below w.heap.size w w'):=by
 rw [tn_tn h0] at h1 ⊢
 exact jY ⟨a.st,a.sy,a.s0,a.e0,we,a.al,wec,a.ar⟩ a.aa a.ac w h1 h2.arow
theorem tO {ws:List Int} {j:Nat} {y:Int} (hy:ws[ws.length - 1 - j]?=some y) (hj:j < ws.length):ws.reverse.take j++[y]=ws.reverse.take (j+1):=by
 rw [List.take_add_one,List.getElem?_reverse hj,hy];rfl
theorem kH (a:NfV) (wa:Option Addr) (wl wc:Nat) (ws:List Int) (w:World) (hA0:NIn w a) (hW0:Row w wa ws∧ws.length=wl∧wl≤wc∧wl≤9223372036854775807) (hcap:wl * 8≤140737488351232) :
  Calls prog 5 #[a.val,.slice wa wl wc] w (fun e w'=>e = .returned (.bool true)∧Below w.heap.size w w'):=by
 refine bF (args:=[a.val,.slice wa wl wc]) func5 rfl ntmps5 rfl ?_
 have hS:=St.start w
 obtain ⟨hW,hwl,hwc,hwm⟩:=hW0
 refine aD (aI (bY (cs:=[_,_,_,_,_]) hS rfl rfl rfl fun B1 W1 hS=>aB rfl rfl (aG (XF.thenN (aD (aD (aI (bO (vs:=[]) hS goes_15 rfl (qW _) rfl fun W2 hS=>cO rfl rfl (aG (XF.thenN (bU rfl (aP (XF.thenN (aD ?_))))))))))))))
 have hRoot:=hS.below
 have hR3:=hRoot
 have hA3:=hA0.below hRoot
 have hW3:=hW.below hRoot
 have ka3:aK W2 B1 0 a.cells:=aK.own (j:=0) (m:=5) (hS.at_ 0 rfl) rfl
 clear hS;have hS:=St.start W2
 refine aI (aN (vs:=[.int .i64 a.st,.int .i64 a.sy,.int .i64 a.s0,.int .i64 a.e0,.slice a.aa a.al a.ac]) isAgg24 sizeOf24 rfl (aK.agree hS.agree (Nat.zero_le _) ka3) rfl (dM (vs:=[_]) hS pQ rfl (kO a _ (hA3.below hS.below)) rfl ?_))
 rintro e W8 ⟨wb,wbc,rfl,hB,hb⟩
 refine ⟨_,rfl,hb,fun hS'=>?_⟩
 clear hS;have hS:=hS'.mark 0 (fun p hp=>by cases hp) rfl;clear hS' hb
 refine aA rfl rfl (aY rfl rfl rfl (aY rfl rfl rfl (aX (cs:=[_,_,_,_,_]) hS zeroValue24 rfl rfl fun B3 W3 hS=>aV (i:=0) (vs:=[_,_,_,_,_]) (cs':=[_,_,_,_,_]) (O':=[_]) hS sizeOf24 rfl rfl rfl rfl rfl rfl rfl fun W4 hS=>aB rfl rfl (aG (XF.thenN (aD ?_))))))
 have hRoot:=hS.below
 have hR4:=hRoot
 have hT4:=hR3.trans (hR4.mono hR3.size)
 have hA4:=hA3.below hRoot
 have hW4:=hW3.below hRoot
 have hB4:=hB.agree (hS.since 0 rfl)
 have ka4:aK W4 B1 0 a.cells:=aK.agree hS.agree (Nat.zero_le _) ka3
 have kb4:aK W4 B3 0 (tnV a wb wbc).cells:=aK.own (j:=0) (m:=5) (hS.at_ 0 rfl) rfl
 clear hS;have hS:=St.start W4
 refine aI (aN (vs:=[.int .i64 a.st,.int .i64 a.sy,.int .i64 a.s0,.int .i64 a.e0,.slice a.aa a.al a.ac]) isAgg24 sizeOf24 rfl (aK.agree hS.agree (Nat.zero_le _) ka4) rfl (dM (vs:=[_]) hS goes_21 rfl (qX a _ (hA4.below hS.below)) rfl ?_))
 rintro e W9 ⟨wd,wdc,rfl,hC,hb⟩
 refine ⟨_,rfl,hb,fun hS'=>?_⟩
 clear hS;have hS:=hS'.mark 0 (fun p hp=>by cases hp) rfl;clear hS' hb
 refine aA rfl rfl (aY rfl rfl rfl (aY rfl rfl rfl (aX (cs:=[_,_,_,_,_]) hS zeroValue24 rfl rfl fun B5 W5 hS=>aV (i:=0) (vs:=[_,_,_,_,_]) (cs':=[_,_,_,_,_]) (O':=[_]) hS sizeOf24 rfl rfl rfl rfl rfl rfl rfl fun W6 hS=>aB rfl rfl (aG (XF.thenN (aD (aD (aI (aA rfl rfl (aA rfl rfl (opV (dI (c:=false) rfl rfl (by simp)) rfl (aA rfl rfl (aC (d:=32) rfl rfl (aN (vs:=[.int .i64 (tnV a wb wbc).st,.int .i64 (tnV a wb wbc).sy,.int .i64 (tnV a wb wbc).s0,.int .i64 (tnV a wb wbc).e0,.slice (tnV a wb wbc).aa (tnV a wb wbc).al (tnV a wb wbc).ac]) isAgg24 sizeOf24 rfl (aK.agree hS.agree (Nat.zero_le _) kb4) rfl (aC (d:=32) rfl rfl (aN (vs:=[_,_,_,_,_]) isAgg24 sizeOf24 rfl (aK.own (j:=0) (m:=5) (hS.at_ 0 rfl) rfl) rfl (aC (d:=32) rfl rfl (bO (vs:=[_,_]) hS pR rfl (qY a wb wd wbc wdc _ (hB4.below hS.below) (hC.agree (hS.since 0 rfl))) rfl fun W7 hS=>aC (d:=32) rfl rfl (cO rfl rfl (aQ rfl rfl rfl (aG (XF.thenN (bU rfl (aP (XF.thenN (aD (aD (aI (aA rfl rfl (gJ rfl rfl rfl (aG (XF.thenN (bE rfl (fun hc=>?_) (fun hc=>?_))))))))))))))))))))))))))))))))))
 ·have hc39:=of_decide_eq_true hc;clear hc
  refine aD (aI (aB rfl rfl (aG (XF.thenN (bH (XF.thenR (XF.res (bT results5 rfl) ?_)))))))
  exact ⟨rfl,hT4.trans (hS.below.mono hT4.size)⟩
 ·have hc39:=of_decide_eq_false hc;clear hc
  have h0:cB a=0:=by simpa using hc39
  refine aP (XF.thenN (aD ?_))
  have hRoot:=hS.below
  have hR9:=hRoot
  have hT9:=hT4.trans (hR9.mono hT4.size)
  have hA9:=hA4.below hRoot
  have hW9:=hW4.below hRoot
  have hB9:=hB4.below hRoot
  have ka9:aK W7 B1 0 a.cells:=aK.agree hS.agree (Nat.zero_le _) ka4
  have kb9:aK W7 B3 0 (tnV a wb wbc).cells:=aK.agree hS.agree (Nat.zero_le _) kb4
  obtain ⟨w9,hw9⟩:∃ w9,w9=W7:=⟨_,rfl⟩
  clear hS;have hS:=St.start W7
  refine aI (aB rfl rfl (aG (XF.thenN (aD (aD ?_)))))
  have hS':=hS.newG 3 1;clear hS;have hS:=hS';clear hS'
  refine aI (aA rfl rfl (bI underlying25 rfl rfl (iL rfl rfl (IntWalk.i64_in _ (by omega)) rfl (aB rfl rfl (aG (XF.thenN (aL ?_)))))))
  refine cF (fun m l W=>∃ (j:Nat) (wa9:Option Addr) (wc9:Nat),j≤wl∧m=wl - j∧l=[(1,.slice wa wl wc),(2,.pointer (some ⟨B1,0,none⟩)),(5,.pointer (some ⟨B3,0,none⟩)),(9,.slice wa9 j wc9),(10,.int .i64 ((wl:Int) - 1 - (j:Int)))]∧St w9 [] [⟨.slice wa9 j wc9,j,zI (ws.reverse.take j),3,1⟩] [] W) (wl - 0) ([(1,_),(2,_),(5,_),(9,_),(10,_)]) ⟨rfl,rfl,rfl,rfl,rfl,trivial⟩ (⟨0,none,0,Nat.zero_le _,rfl,by rw [show (wl:Int) - 1 - ((0:Nat):Int)=(wl:Int) - 1 by omega],by rw [hw9];exact hS.keep [] (fun q hq=>by cases hq)⟩) ?_
  clear hS
  rintro m l W ⟨j,wa9,wc9,hj,rfl,rfl,hS⟩
  refine aD (aD (aI (aA rfl rfl (dQ rfl rfl rfl (aG (XF.thenN (bE rfl (fun hc=>?_) (fun hc=>?_))))))))
  ·have hc44:=of_decide_eq_true hc;clear hc
   obtain ⟨b,off,y,hwa,hy,hyc⟩:=hW9.at1 (show ws.length - 1 - j < ws.length by omega)
   rw [← hw9] at hyc
   have k1:=hS.old hyc
   refine aP (XF.thenN (aD (aL (aI (aA rfl rfl (aA rfl rfl (aA rfl rfl ?_)))))))
   refine aR (j:=ws.length - 1 - j) (b:=b) (o:=off) (m:=wl) (c:=wc) underlying25 sizeOf3 (by show some (Value.slice _ _ _)=_;rw [hwa]) rfl (by omega) (by omega) rfl rfl ?_
   refine aJ isAgg3 rfl (k1) rfl (bG (us:=[(0,.int .i64 _)]) hS underlying25 sizeOf3 zeroValue3 rfl rfl rfl (dR _) rfl fun B8 W8 hS=>?_)
   refine dJ (i:=0) (news:=[_]) hS underlying25 iW rfl rfl (by show 0 < 1;decide) rfl rfl rfl rfl rfl (aK.own (j:=0) (m:=1) (hS.at_ 0 rfl) rfl) rfl rfl (by dsimp only;simp only [maxLen];omega) (by dsimp only;show _ * 8≤_;omega) rfl fun v9 W9 hS=>?_
   obtain ⟨wa8,wc8,e9,_⟩:=cD (hS.row 0 rfl)
   dsimp only at e9
   subst e9
   have hS9:=hS.castG (G':=[⟨.slice wa8 (j+1) wc8,j+1,zI (ws.reverse.take (j+1)),3,1⟩]) (by show GR.mk _ _ (zI _++[Value.int .i64 _]) _ _::_=_;rw [jQ,tO hy (by omega)])
   clear hS;have hS:=hS9;clear hS9
   refine aB rfl rfl (aG (XF.blkN (XF.thenN (aI (aA rfl rfl (iL rfl rfl (IntWalk.i64_in _ (by omega)) rfl (aB rfl rfl (aG ?_))))))))
   exact XF.round (wl - (j+1)) [(1,_),(2,_),(5,_),(9,_),(10,_)] (by omega) ⟨rfl,rfl,rfl,rfl,rfl,trivial⟩ ⟨j+1,wa8,wc8,by omega,rfl,by rw [show (wl:Int) - 1 - ((j+1:Nat):Int)=(wl:Int) - 1 - (j:Int) - 1 by omega],hS.tail.keep [] (fun q hq=>by cases hq)⟩
  ·have hc44:=of_decide_eq_false hc;clear hc
   obtain rfl:j=wl:=by omega
   rw [List.take_of_length_le (by rw [List.length_reverse];omega)] at hS
   subst hw9
   obtain ⟨K1,k1,g1,hS1⟩:=St.rowKeepN (o:=⟨.slice wa9 j wc9,j,zI ws.reverse⟩) hS
   clear hS;have hS:=hS1;clear hS1
   refine bW (XF.thenX (XF.thenX (XF.blkX (XF.thenN (aD (aI (aN (vs:=[.int .i64 a.st,.int .i64 a.sy,.int .i64 a.s0,.int .i64 a.e0,.slice a.aa a.al a.ac]) isAgg24 sizeOf24 rfl (aK.agree hS.agree (Nat.zero_le _) ka9) rfl (aA rfl rfl (dM (vs:=[_,_]) hS jG rfl (iF a wa j wc ws _ (hA9.below hS.below) (hW9.below hS.below) hwl hwm) rfl ?_)))))))))
   rintro e W10 ⟨b1,rfl,ha1,ha2,hb⟩
   refine ⟨_,rfl,hb,fun hS'=>?_⟩
   clear hS;have hS:=hS';clear hS' hb
   refine aA rfl rfl (aY rfl rfl rfl (aY rfl rfl rfl (aB rfl rfl (aB rfl rfl (aG (XF.thenN (aD (aI (aN (vs:=[.int .i64 (tnV a wb wbc).st,.int .i64 (tnV a wb wbc).sy,.int .i64 (tnV a wb wbc).s0,.int .i64 (tnV a wb wbc).e0,.slice (tnV a wb wbc).aa (tnV a wb wbc).al (tnV a wb wbc).ac]) isAgg24 sizeOf24 rfl (aK.agree hS.agree (Nat.zero_le _) kb9) rfl (aA rfl rfl ?_))))))))))
   refine dM (vs:=[_,_]) hS jG rfl (iF (tnV a wb wbc) wa9 j wc9 ws.reverse _ (hB9.below hS.below) (eX (g1 (hS.keep K1 (fun q hq=>by simp [hq])) (fun q hq=>hq))) (by rw [List.length_reverse];exact hwl) hwm) rfl ?_
   rintro e W11 ⟨b2,rfl,hd1,hd2,hb⟩
   refine ⟨_,rfl,hb,fun hS'=>?_⟩
   clear hS;have hS:=hS';clear hS' hb
   refine aA rfl rfl (aY rfl rfl rfl (aY rfl rfl rfl (aB rfl rfl (aB rfl rfl (aG (XF.thenN (aD (aI (aN (vs:=[.int .i64 (tnV a wb wbc).st,.int .i64 (tnV a wb wbc).sy,.int .i64 (tnV a wb wbc).s0,.int .i64 (tnV a wb wbc).e0,.slice (tnV a wb wbc).aa (tnV a wb wbc).al (tnV a wb wbc).ac]) isAgg24 sizeOf24 rfl (aK.agree hS.agree (Nat.zero_le _) kb9) rfl (dM (vs:=[_]) hS pQ rfl (kO (tnV a wb wbc) _ (hB9.below hS.below)) rfl ?_))))))))))
   rintro e W19 ⟨we,wec,rfl,hD,hb⟩
   refine ⟨_,rfl,hb,fun hS'=>?_⟩
   clear hS;have hS:=hS'.mark 0 (fun p hp=>by cases hp) rfl;clear hS' hb
   refine aA rfl rfl (aY rfl rfl rfl (aY rfl rfl rfl (aX (cs:=[_,_,_,_,_]) hS zeroValue24 rfl rfl fun B12 W12 hS=>aV (i:=0) (vs:=[_,_,_,_,_]) (cs':=[_,_,_,_,_]) (O':=[_]) hS sizeOf24 rfl rfl rfl rfl rfl rfl rfl fun W13 hS=>aB rfl rfl (aG (XF.thenN (aD ?_))))))
   have hrr:dO a ws=dO (tnV a wb wbc) ws.reverse:=by rw [eG h0];exact (tM h0).symm
   have hbb:b1=b2:=by
    by_cases h9:dO a ws=0
    ·have h1:=ha1 h9
     have h2:=hd1 (hrr▸h9)
     rw [eG h0,tN h0] at h2
     cases b1<;>cases b2<;>simp_all
    ·rw [ha2 h9,hd2 (hrr▸h9)]
   subst hbb
   have hbE:cB (tnV a wb wbc)=0:=by rw [eG h0];exact iR h0
   refine aI (aA rfl rfl (aA rfl rfl (opV (tK underlying4 rfl rfl) rfl (aA rfl rfl (aC (d:=74) rfl rfl (aA rfl rfl (aC (d:=74) rfl rfl (aA rfl rfl (aC (d:=74) rfl rfl (opV (aZ (c:=true) rfl rfl (decide_eq_true hrr)) rfl (aM rfl rfl rfl (aA rfl rfl (aC (d:=79) rfl rfl (aA rfl rfl (aC (d:=79) rfl rfl (opV (aZ (c:=true) rfl rfl (decide_eq_true hbE)) rfl (aM rfl rfl rfl (aA rfl rfl (aC (d:=83) rfl rfl (aN (vs:=[_,_,_,_,_]) isAgg24 sizeOf24 rfl (aK.own (j:=0) (m:=5) (hS.at_ 0 rfl) rfl) rfl (aC (d:=83) rfl rfl (aN (vs:=[.int .i64 a.st,.int .i64 a.sy,.int .i64 a.s0,.int .i64 a.e0,.slice a.aa a.al a.ac]) isAgg24 sizeOf24 rfl (aK.agree hS.agree (Nat.zero_le _) ka9) rfl (aC (d:=83) rfl rfl (bO (vs:=[_,_]) hS pR rfl (mP a wb we wbc wec _ h0 (hD.agree (hS.since 0 rfl)) (hA9.below hS.below)) rfl fun W14 hS=>aM rfl rfl rfl (aB rfl rfl (aG (XF.thenN (bH (XF.res (bT results5 rfl) ?_)))))))))))))))))))))))))))))
   exact ⟨rfl,hT9.trans (hS.below.mono hT9.size)⟩
end
section
open Go.RowKit Go.ChangeShapes Go.WideShapes Go.Deep Go.Joins
theorem kA {α:Type}:∀ (n:Nat) (p:Nat→α→Prop),(∀ i,i < n→∃ c,p i c)→∃ xs:List α,xs.length=n∧∀ i c,xs[i]?=some c→p i c
 | 0,p,h=>⟨[],rfl,fun i c hi=>by simp at hi⟩
 | n+1,p,h=>by
  obtain ⟨xs,hl,hp⟩:=kA n p (fun i hi=>h i (by omega))
  obtain ⟨c,hc⟩:=h n (by omega)
  refine ⟨xs++[c],by simp [hl],fun i d hi=>?_⟩
  rcases Nat.lt_or_ge i n with h1 | h1
  ·rw [List.getElem?_append_left (by omega)] at hi
   exact hp i d hi
  ·obtain ⟨h2,_⟩:=List.getElem?_eq_some_iff.1 hi
   simp [hl] at h2
   obtain rfl:i=n:=by omega
   rw [List.getElem?_append_right (by omega),hl,Nat.sub_self] at hi
   simp at hi
   subst hi
   exact hc
theorem oI {cs:List Value} (h:cs.length=3):∃ a b c,cs=[a,b,c]:=by
 match cs,h with
 | [a,b,c],_=>exact ⟨a,b,c,rfl⟩
theorem qZ {cs:List Value} (h:cs.length=5):∃ a b c d e,cs=[a,b,c,d,e]:=by
 match cs,h with
 | [a,b,c,d,e],_=>exact ⟨a,b,c,d,e,rfl⟩
section
variable {H:Type} {enc:TypeId×Value→H} {w:World} {base:Nat} {spare:Nat→Bool} {held:Bool}
theorem mQ {α:Type} {f:α→List Value} {sz:Nat} {t e:TypeId} {n:Nat} {v:Value} {x:DataW H×List MemPlace} (ht:prog.underlying t=some (.slice e)) (hc:prog.cellsOf e=sz) (hp:0 < sz) (hf:∀ y,(f y).length=sz)
  (one:∀ (n:Nat) (cs:List Value) (x:DataW H×List MemPlace),DataW.trod enc prog w base spare held n e cs=some x→∃ y,cs=f y) (h:DataW.trod enc prog w base spare held n t [v]=some x) :
  ∃ (a:Option Addr) (len cap:Nat) (xs:List α),v = .slice a len cap∧(xs=[]∨∃ b off,a=some ⟨b,off,none⟩∧∀ (i:Nat) x,xs[i]?=some x→aK w b (off+i * sz) (f x))∧xs.length=len∧len≤cap∧cap≤maxLen:=by
 rcases DataW.trod_slice ht h with ⟨hcs,_⟩ | ⟨ad,len,cap,elems,rest,n2,hn2,hcs,_,hb,hle,hcap,hel,hi,_,_⟩
 ·simp at hcs
  subst hcs
  exact ⟨none,0,0,[],rfl,.inl rfl,rfl,Nat.le_refl _,Nat.zero_le _⟩
 ·simp at hcs
  subst hcs
  rw [hc] at hi
  obtain ⟨rs,hrl,hrs⟩:=kA len (fun i (r:α)=>∀ (j:Nat) u,(f r)[j]?=some u→w.cell? (ad.add (i * sz+j))=some u) (fun i hil=>by
   have hii:=hi i hil
   rw [List.getElem?_eq_getElem (by omega)] at hii
   obtain ⟨cs',hc',ht'⟩:=Option.bind_eq_some_iff.1 hii
   obtain ⟨_,hcl,hat⟩:=World.cells?_some hc'
   obtain ⟨r,rfl⟩:=one _ _ _ ht'
   refine ⟨r,fun j u hj=>?_⟩
   have hjs:j < sz:=by have:=(List.getElem?_eq_some_iff.1 hj).1;rw [hf] at this;exact this
   have h0:=hat j hjs
   rw [Go.Deep.add_add] at h0
   rw [h0];exact hj)
  refine ⟨some ad,len,cap,rs,rfl,?_,hrl,hle,hcap⟩
  rcases Nat.eq_zero_or_pos len with h0 | h0
  ·exact .inl (List.length_eq_zero_iff.1 (by omega))
  ·obtain ⟨b,off,spot⟩:=ad
   have h1:=hrs 0 (rs[0]'(by omega)) (List.getElem?_eq_getElem (by omega)) 0 _ (List.getElem?_eq_getElem (by rw [hf];exact hp))
   have hspot:spot=none:=by simpa [Addr.add] using World.cell?_spot h1
   subst hspot
   refine .inr ⟨b,off,rfl,fun i r hir=>aK.of fun j u hj=>?_⟩
   have h3:=hrs i r hir j u hj
   have e:∀ k,({ block:=b,off:=off }:Addr).add k=⟨b,off+k,none⟩:=fun k=>by simp [Addr.add]
   rw [e,← Nat.add_assoc] at h3
   exact h3
theorem oJ {n:Nat} {a:Option Addr} {len cap:Nat} {x:DataW H×List MemPlace} (h:DataW.trod enc prog w base spare held n 25 [.slice a len cap]=some x):∃ zs:List Int,Row w a zs∧zs.length=len∧len≤cap∧len≤9223372036854775807:=by
 obtain ⟨a',len',cap',zs,e,h1,h2,h3,h4⟩:=mQ (f:=fun x:Int=>[Value.int .i64 x]) (e:=3) (sz:=1) (by kernel_rfl) (by kernel_rfl) (by omega) (fun _=>rfl) (fun n cs x h=>by
  obtain ⟨z0,e0,_,_⟩:=DataW.trod_int (k:=.i64) (by kernel_rfl) h
  exact ⟨z0,e0⟩) h
 cases e
 refine ⟨zs,?_,h2,h3,by simp only [maxLen] at h4;omega⟩
 rcases h1 with rfl | ⟨b,off,rfl,h1⟩
 ·exact .inl rfl
 ·refine .inr ⟨b,off,rfl,fun j hj=>?_⟩
  have h5:=(h1 j _ (List.getElem?_eq_getElem hj)).1
  rw [Nat.mul_one] at h5
  rw [h5];simp [hj]
theorem tP {r:Reach} {b0:Nat} {v:Value} {d:DataW H} {p:List MemPlace} (hv:Value.okWide prog w r b0 24 v) (h:DataW.Trod enc prog w base spare held 24 v d p) :
  ∃ (s:NfV),v=s.val∧NIn w s:=by
 obtain ⟨cs,rfl,_⟩:=okWide_struct underlying24 hv
 obtain ⟨n,h⟩:=h
 obtain ⟨xs,n',hn,_,hl,hlen,hg⟩:=DataW.trod_struct underlying24 h
 rw [show prog.cellsOf 24=5 by kernel_rfl] at hl
 obtain ⟨a,b,c,d9,e9,hcs⟩:=qZ hl
 rw [hcs] at hg
 have hlen5:xs.length=5:=hlen
 have g0:=hg 0 _ rfl
 have g1:=hg 1 _ rfl
 have g2:=hg 2 _ rfl
 have g3:=hg 3 _ rfl
 have g4:=hg 4 _ rfl
 rw [show prog.cellsOf _=1 by kernel_rfl,List.getElem?_eq_getElem (by omega)] at g0 g1 g2 g3 g4
 obtain ⟨z0,e0,_,_⟩:=DataW.trod_int (k:=.i64) (by kernel_rfl) g0
 simp at e0
 subst e0
 obtain ⟨z1,e1,_,_⟩:=DataW.trod_int (k:=.i64) (by kernel_rfl) g1
 simp at e1
 subst e1
 obtain ⟨z2,e2,_,_⟩:=DataW.trod_int (k:=.i64) (by kernel_rfl) g2
 simp at e2
 subst e2
 obtain ⟨z3,e3,_,_⟩:=DataW.trod_int (k:=.i64) (by kernel_rfl) g3
 simp at e3
 subst e3
 obtain ⟨aa,al,ac,ar,rfl,har,hal,hac,ham⟩:=mQ (f:=ArV.three) (sz:=3) (e:=57) (v:=e9) (by kernel_rfl) (by kernel_rfl) (by omega) (fun _=>rfl) (fun n cs x h=>by
  obtain ⟨ys,n2,hn2,_,hl2,hlen2,hg2⟩:=DataW.trod_struct underlying57 h
  rw [show prog.cellsOf 57=3 by kernel_rfl] at hl2
  obtain ⟨u0,u1,u2,rfl⟩:=oI hl2
  have hlen3:ys.length=3:=hlen2
  have k0:=hg2 0 _ rfl
  have k1:=hg2 1 _ rfl
  have k2:=hg2 2 _ rfl
  rw [show prog.cellsOf _=1 by kernel_rfl,List.getElem?_eq_getElem (by omega)] at k0 k1 k2
  obtain ⟨x0,e0,_,_⟩:=DataW.trod_int (k:=.i64) (by kernel_rfl) k0
  obtain ⟨x1,e1,_,_⟩:=DataW.trod_int (k:=.i64) (by kernel_rfl) k1
  obtain ⟨x2,e2,_,_⟩:=DataW.trod_int (k:=.i64) (by kernel_rfl) k2
  simp at e0 e1 e2
  subst e0 e1 e2
  exact ⟨⟨x0,x1,x2⟩,rfl⟩) g4
 refine ⟨⟨z0,z1,z2,z3,aa,al,ac,ar⟩,?_,⟨fun i r hi=>?_,hal,?_⟩⟩
 ·show Value.agg cs=Value.agg _
  congr 1
  exact Array.ext' hcs
 ·rcases har with rfl | ⟨b,off,rfl,h1⟩
  ·simp at hi
  ·exact ⟨b,off,rfl,h1 i r hi⟩
 ·simp only [maxLen] at ham;dsimp only;omega
end
end
section
open Go.RowKit Go.ChangeShapes Go.WideShapes Go.Deep
section
variable {H:Type} {enc:TypeId×Value→H} {w:World} {base:Nat} {spare:Nat→Bool} {held:Bool}
def oK (d:DataW H) (n:Nat):Prop:=(n=0∧d = .nil)∨∃ es sp,d = .slice es sp∧es.length=n
theorem rA {n:Nat} {a:Option Addr} {len cap:Nat} {x:DataW H×List MemPlace} (h:DataW.trod enc prog w base spare held n 25 [.slice a len cap]=some x):oK x.1 len:=by
 rcases open_slice underlying25 h with ⟨hcs,e⟩ | ⟨ad,len',cap',m,n',D,Pl,hcs,hb,hl,hm,hmm,e,hi⟩
 ·simp at hcs
  obtain ⟨rfl,rfl,rfl⟩:=hcs
  exact .inl ⟨rfl,by rw [e]⟩
 ·simp at hcs
  obtain ⟨rfl,rfl,rfl⟩:=hcs
  exact .inr ⟨_,_,by rw [e],by simp⟩
theorem bytesIN:prog.bytesOf 3=8:=by kernel_rfl
theorem mR {ts:List TypeId} {ds:List (DataW H)} {j:Nat} {d:DataW H} {n:Nat} (h:(DataW.weightsEach prog ts ds).all (· ≤ reachBytes)=true) (ht:ts[j]?=some 25) (hd:ds[j]?=some d) (hx:oK d n):n * 8≤140737488351232:=by
 rcases hx with ⟨rfl,_⟩ | ⟨es,sp,rfl,rfl⟩
 ·simp
 ·have:=sized_slice h ht hd underlying25
  rw [bytesIN] at this
  simp only [reachBytes] at this
  omega
end
end
end Go.Proofs.Ytpgmnbgkejiomaa
