import Derived.Lib.SmallJoins
import Derived.ChangeSlices
import Derived.ChangeSame
import Derived.ProofKit
import Derived.Deep.Slices
import Derived.Deep.Fields
import Derived.Test.YtghmbejblbnjjaaDpE
set_option maxRecDepth 100000
set_option maxHeartbeats 4000000
set_option linter.unusedVariables false
set_option linter.unusedSimpArgs false
set_option linter.unusedSectionVars false
set_option linter.unnecessarySimpa false
namespace Go.Proofs.Ytghmbejblbnjjaa
open Go.Proofs.Try
section
open Go.RowKit
def gB (bo x y:Bool):Bool:=bo && x && y || !bo && (x || y)
theorem rn_rem9 {P:Program} {l:Fr} {W:World} {d:Nat} {ty t u:TypeId} {pos:String} {aft:Array Edge} {x y:Operand} {k:IntKind} {a b c:Int} (hx:evL l x=some (.int k a)) (hy:evL l y=some (.int k b)) (hb:b≠0) (hw:a.tmod b=c):dT P l ⟨some d,.binOp .rem t x y u,ty,pos,aft,none⟩ W (.int k c) W:=fun ev he=>by subst hw;exact dW (he x _ hx) (he y _ hy) eK (by simp [binOp,Op.intArith,Op.intDiv,hb])
theorem qU {x:Nat} (h:x≤1000000000):IntKind.i64.wrap ((x:Nat):Int)=((x:Nat):Int):=IntWalk.i64_in _ (by omega)
theorem prd_of {t:TB} {d:DV} (hT:TOk t) (hd:DOfT t d) (h1:t.n≤1024) (h2:t.k≤4096) (h3:t.n * t.k≤65536):cU d=0∧Agr (dFA d) t.fa:=by
 have hsy:=hd.sy
 have hnl:=hd.nl
 have hal:=hd.al
 have hpos:=hT.pos
 have hrow:∀ r∈d.ns,r.l=t.k∧r.xs.length=t.k∧∀ y∈r.xs,0≤y∧y < (t.n:Int):=fun r hr=>by
  obtain ⟨i,hi⟩:=List.getElem?_of_mem hr
  obtain ⟨h4,h5⟩:=hd.row i r hi
  have hi2:=(List.getElem?_eq_some_iff.1 hi).1
  rw [hd.len] at hi2
  refine ⟨h4,by rw [h5];unfold lZ;simp,fun y hy=>?_⟩
  rw [h5] at hy
  obtain ⟨x,hx,rfl⟩:=List.mem_map.1 hy
  have:=hT.fa.t0_ i x hi2 (List.mem_range.1 hx)
  have h6:t.fa.n=t.n:=rfl
  omega
 have e0:cU d=0:=by
  unfold cU
  rw [if_neg,if_pos]
  ·rw [List.all_eq_true]
   intro r hr
   obtain ⟨q1,q2,q3⟩:=hrow r hr
   unfold lY
   rw [Bool.and_eq_true,decide_eq_true_eq,List.all_eq_true]
   refine ⟨by omega,fun y hy=>?_⟩
   have:=q3 y hy
   unfold inQ
   simp
   omega
  ·rw [hsy,hnl,hal]
   rw [← Int.natCast_mul]
   omega
 have hl:d.ns.length=d.nl:=by rw [hd.len,hnl]
 have hx:∀ r∈d.ns,r.xs.length=r.l:=fun r hr=>by obtain ⟨q1,q2,_⟩:=hrow r hr;omega
 refine ⟨e0,hnl,by show d.sy.toNat=t.k;omega,kH e0 hl hx,fun s x hs hx9=>?_,fun s hs=>by show d.bs.getD s false=t.bs.getD s false;rw [hd.bs]⟩
 have hs:s < d.nl:=hs
 have hx9:x < d.sy.toNat:=hx9
 obtain ⟨r,hr⟩:∃ r,d.ns[s]?=some r:=⟨_,List.getElem?_eq_getElem (by omega)⟩
 rw [mS e0 hl hx hr hx9,(hd.row s r hr).2]
 unfold lZ
 rw [List.getD_eq_getElem?_getD,List.getElem?_map,List.getElem?_range (by omega)]
 exact Int.toNat_natCast _
theorem oT (da db:DV) (bo:Bool) (Kt:List (Nat×World)) (Ot:Own) (G:bN) (K:List (Nat×World)) (w0 w:World) (hS0:St w0 Ot G K w) (hKt:∀ q∈Kt,q∈K) (hDa:cL w0 Kt (fun W=>DIn W da)) (hDb:cL w0 Kt (fun W=>DIn W db)) (hea:cU da=0) (heb:cU db=0) (hsy:da.sy=db.sy) (hM:(da.nl * db.nl)≤1024) (hMk:(da.nl * db.nl) * da.sy.toNat≤65536) :
  Calls prog 50 #[da.val,db.val,.bool bo] w (fun e w'=>∃ (d2:DV) (Kn:List (Nat×World)),cU d2=0∧d2.nl≤(da.nl * db.nl)∧d2.sy=da.sy∧Eqv (dFA d2) 0 (aR (dFA da) (dFA db) (gB bo)) 0∧e = .returned d2.val∧(∀ q∈K,q∈Kn)∧cL w0 Kn (fun W=>DIn W d2)∧St w0 Ot G Kn w'):=by
 refine cP (args:=[da.val,db.val,.bool bo]) func50 rfl ntmps50 rfl ?_
 have hS:=hS0
 obtain ⟨ka,hka,a1,a2,a3,a4,a5,a6⟩:=dD hea
 obtain ⟨kb,hkb,b1,b2,b3,b4,b5,b6⟩:=dD heb
 have hDa0:=hDa hS0 hKt
 have hDb0:=hDb hS0 hKt
 have hbla:da.bs.length=da.nl:=by have:=hDa0.alen;omega
 have hblb:db.bs.length=db.nl:=by have:=hDb0.alen;omega
 have hOa:=jM hDa0 hea
 have hOb:=jM hDb0 heb
 have hkk:(dFA da).k=(dFA db).k:=by show da.sy.toNat=db.sy.toNat;rw [hsy]
 have hO:(aR (dFA da) (dFA db) (gB bo)).Ok:=sZ hOa hOb hkk
 have hMp:0 < (da.nl * db.nl):=hO.pos
 refine aH (aN (cI (cs:=[_,_,_]) hS rfl rfl rfl fun B1 W1 hS=>cI (cs:=[_,_,_]) hS rfl rfl rfl fun B2 W2 hS=>cE (cs:=[_,_,_]) hS zeroValue25 rfl rfl fun B3 W3 hS=>aK (XF.thenN (aH (aN (aU (o':=0) dC rfl rfl rfl (aP isAgg3 rfl (aD (hS.at_ 2 rfl) rfl) rfl (dP (us:=[(0,.int .i64 _)]) rfl (qM _) rfl (cE (cs:=[_,_,_]) hS zeroValue25 rfl rfl fun B4 W4 hS=>bU (i:=0) (vs:=[_,_,_]) (cs':=[_,_,_]) (O':=(_::_::_::_::Ot)) hS sizeOf25 rfl rfl rfl rfl rfl rfl rfl fun W5 hS=>aK (XF.thenN (aH (aN (aU (o':=1) cO rfl rfl rfl (aP isAgg22 rfl (aD (hS.at_ 2 rfl) rfl) rfl (bX underlying22 rfl rfl (aB rfl rfl (aK (XF.thenN (aH (aN (aU (o':=1) cO rfl rfl rfl (aP isAgg22 rfl (aD (hS.at_ 3 rfl) rfl) rfl (bX underlying22 rfl rfl (aA rfl rfl ?_))))))))))))))))))))))))
 refine nV rfl rfl (show IntKind.i64.wrap ((da.nl:Int) * (db.nl:Int))=(((da.nl * db.nl):Nat):Int) from by rw [← Int.natCast_mul];exact IntWalk.i64_in _ (by omega)) rfl ?_
 refine eX (m:=(da.nl * db.nl)) (cs:=fG (List.replicate (da.nl * db.nl) 0)) hS underlying36 iD rfl rfl rfl (rfl) (rfl) (pL _) (by show (8:Int) * _≤_;omega) (by omega) rfl fun B6 W6 hS=>?_
 refine aB rfl rfl (aK (XF.thenN (aH (aH (aN (aB rfl rfl (aK (XF.thenN (bH ?_)))))))))
 refine cW (fun m l W=>∃ i:Nat,i≤(da.nl * db.nl)∧m=(da.nl * db.nl) - i∧l=[(2,.bool bo),(3,.pointer (some ⟨B1,0,none⟩)),(4,.pointer (some ⟨B2,0,none⟩)),(6,.pointer (some ⟨B3,0,none⟩)),(7,.pointer (some ⟨B4,0,none⟩)),(8,.int .i64 (db.nl:Int)),(9,.slice (some ⟨B6,0,none⟩) (da.nl * db.nl) (da.nl * db.nl)),(10,.int .i64 (i:Int))]∧St w0 ((B6,fG (zm (da.nl * db.nl) i),3)::(B4,[.int .i64 da.sy,.slice none 0 0,.slice none 0 0],25)::(B3,[.int .i64 0,.slice none 0 0,.slice none 0 0],25)::(B2,[.int .i64 db.sy,.slice db.na db.nl db.nc,.slice db.aa db.al db.ac],25)::(B1,[.int .i64 da.sy,.slice da.na da.nl da.nc,.slice da.aa da.al da.ac],25)::Ot) G K W) ((da.nl * db.nl) - 0) ([(2,_),(3,_),(4,_),(6,_),(7,_),(8,_),(9,_),(10,_)]) ⟨rfl,rfl,rfl,rfl,rfl,rfl,rfl,rfl,trivial⟩ (⟨0,Nat.zero_le _,rfl,rfl,by rw [pG];exact hS.keep K (fun q hq=>by simp [hq])⟩) ?_
 clear hS
 rintro m l W ⟨i,hi,rfl,rfl,hS⟩
 refine aH (aH (aN (aA rfl rfl (aA rfl rfl (bX underlying36 rfl rfl (cH rfl rfl rfl (aK (XF.thenN (bS rfl (fun hc=>?_) (fun hc=>?_))))))))))
 ·have hc35:=of_decide_eq_true hc;clear hc
  refine bV (XF.thenN (aH (bH (aN (aA rfl rfl (aA rfl rfl (aX (j:=i) underlying36 sizeOf3 rfl rfl (rfl) (by omega) rfl rfl ?_)))))))
  refine bL (i:=0) (cs':=fG ((zm (da.nl * db.nl) i).set i (-1))) (O':=(_::_::_::_::_::Ot)) hS sizeOf3 rfl rfl rfl rfl (Nat.ble_eq_true_of_le (by rw [i64z_len,tA (by omega)];omega)) fX rfl fun W51 hS=>?_
  refine aK (XF.blkN (XF.thenN (aN (aA rfl rfl (bY rfl rfl (IntWalk.i64_in _ (by omega)) rfl (aB rfl rfl (aK ?_)))))))
  rw [tB (by omega)] at hS
  exact XF.round ((da.nl * db.nl) - (i+1)) [(2,_),(3,_),(4,_),(6,_),(7,_),(8,_),(9,_),(10,_)] (by omega) ⟨rfl,rfl,rfl,rfl,rfl,rfl,rfl,rfl,trivial⟩ ⟨i+1,by omega,rfl,rfl,hS.keep K (fun q hq=>by simp [hq])⟩
 ·have hc35:=of_decide_eq_false hc;clear hc
  have eic:i=(da.nl * db.nl):=by omega
  rw [eic,tC] at hS
  have hnm0:NumOk id (da.nl * db.nl) [] (List.replicate (da.nl * db.nl) (-1)):=NumOk.start
  have hnm1:=hnm0.step (s:=0) (show id 0 < _ from hMp) (by simp)
  have hq0:qm (aR (dFA da) (dFA db) (gB bo)) id (0 * da.sy.toNat)=[0]:=by rw [Nat.zero_mul];rfl
  refine cV (XF.thenX (XF.thenX (XF.blkX (XF.thenN (aH ?_)))))
  have hS':=(hS.newG 4 1).newG 36 1;clear hS;have hS:=hS';clear hS'
  refine aN (bK (us:=[(0,.int .i64 _)]) hS underlying36 sizeOf3 zeroValue3 rfl rfl rfl (fZ _) rfl fun B7 W7 hS=>aB rfl rfl (aK (XF.thenN (aH ?_))))
  have hS':=(hS.castO (O':=((B7,[Value.int .i64 0]++[],3)::_::_::_::_::_::Ot)) rfl).ownRowE (n:=1) (c:=1) (sz:=1) rfl rfl (Nat.le_refl _) (by decide);clear hS;have hS:=hS';clear hS'
  refine aN (aA rfl rfl (aX (j:=0) underlying36 sizeOf3 rfl rfl (rfl) (hMp) rfl rfl ?_))
  refine bL (i:=0) (cs':=fG ((List.replicate (da.nl * db.nl) (-1)).set 0 0)) (O':=(_::_::_::_::_::Ot)) hS sizeOf3 rfl rfl rfl rfl (Nat.ble_eq_true_of_le (by rw [i64z_len,List.length_replicate];omega)) fX rfl fun W91 hS=>?_
  refine aK (XF.thenN (aH (aH (aN (aB rfl rfl (aK (XF.thenN (bH ?_))))))))
  refine cW (fun m l W=>∃ (i sl:Nat) (sa va wa:Option Addr) (sc vc wc:Nat) (nm:List Int) (rs:List IV) (Kk:List (Nat×World)),i≤sl∧m=(da.nl * db.nl) - i∧l=[(2,.bool bo),(3,.pointer (some ⟨B1,0,none⟩)),(4,.pointer (some ⟨B2,0,none⟩)),(6,.pointer (some ⟨B3,0,none⟩)),(7,.pointer (some ⟨B4,0,none⟩)),(8,.int .i64 (db.nl:Int)),(9,.slice (some ⟨B6,0,none⟩) (da.nl * db.nl) (da.nl * db.nl)),(11,.slice sa sl sc),(12,.int .i64 (i:Int))]∧(qm (aR (dFA da) (dFA db) (gB bo)) id (i * da.sy.toNat)).length=sl∧(∀ j,j < i→j < (qm (aR (dFA da) (dFA db) (gB bo)) id (j * da.sy.toNat)).length)∧NumOk id (da.nl * db.nl) (qm (aR (dFA da) (dFA db) (gB bo)) id (i * da.sy.toNat)) nm∧rs.length=i∧(∀ (j:Nat) r,rs[j]?=some r→r.l=(aR (dFA da) (dFA db) (gB bo)).k∧r.xs=(List.range (aR (dFA da) (dFA db) (gB bo)).k).map (fun x=>((qfl (aR (dFA da) (dFA db) (gB bo)) id (j * (aR (dFA da) (dFA db) (gB bo)).k+x):Nat):Int)))∧(∀ q∈K,q∈Kk)∧cL w0 Kk (fun W=>∀ r∈rs,Row W r.a r.xs)∧St w0 ((B6,fG (nm),3)::(B4,[.int .i64 da.sy,.slice va (i) vc,.slice wa (i) wc],25)::(B3,[.int .i64 0,.slice none 0 0,.slice none 0 0],25)::(B2,[.int .i64 db.sy,.slice db.na db.nl db.nc,.slice db.aa db.al db.ac],25)::(B1,[.int .i64 da.sy,.slice da.na da.nl da.nc,.slice da.aa da.al da.ac],25)::Ot) (⟨.slice sa (sl) sc,sl,i64n (qm (aR (dFA da) (dFA db) (gB bo)) id (i * da.sy.toNat)),3,1⟩::⟨.slice va (i) vc,i,(rs).map IV.val,36,1⟩::⟨.slice wa (i) wc,i,bvs ((List.range (i)).map (fun j=>(aR (dFA da) (dFA db) (gB bo)).ac ((qm (aR (dFA da) (dFA db) (gB bo)) id (i * da.sy.toNat)).getD j 0))),4,1⟩::G) Kk W) ((da.nl * db.nl) - 0) ([(2,_),(3,_),(4,_),(6,_),(7,_),(8,_),(9,_),(11,_),(12,_)]) ⟨rfl,rfl,rfl,rfl,rfl,rfl,rfl,rfl,rfl,trivial⟩ (⟨0,1,some ⟨B7,0,none⟩,none,none,1,0,0,_,[],K,Nat.zero_le _,rfl,rfl,by rw [hq0];rfl,fun j hj=>absurd hj (Nat.not_lt_zero _),by rw [hq0];exact hnm1,rfl,fun j r h=>(by cases h),fun q hq=>hq,fun _ _ r h=>(by cases h),by rw [hq0];exact hS.keep K (fun q hq=>by simp [hq])⟩) ?_
  clear hS
  rintro m l W ⟨i,sl,sa,va,wa,sc,vc,wc,nm,rs,Kk,hi,rfl,rfl,hsl,hrows,hnm,hrl,hrs,hsub,hRH,hS⟩
  have hqr:eR (aR (dFA da) (dFA db) (gB bo)) id (i * da.sy.toNat):=fun q hq=>by
   obtain ⟨d1,_,d3⟩:=dM hq
   exact Nat.lt_of_lt_of_le (hrows _ d1) (dQ d3)
  obtain ⟨hq1,hq2⟩:=jI (cm:=(da.nl * db.nl)) hO (fun _=>hqr) (fun h0=>by have h9:da.sy.toNat=0:=h0;rw [h9,Nat.mul_zero]) (fun x hx=>hx)
  refine aH (aH (aN (aA rfl rfl (aA rfl rfl (bX underlying36 rfl rfl (cH rfl rfl rfl (aK (XF.thenN (bS rfl (fun hc=>?_) (fun hc=>?_))))))))))
  ·have hc47:=of_decide_eq_true hc;clear hc
   obtain ⟨c,hcE⟩:∃ c,(qm (aR (dFA da) (dFA db) (gB bo)) id (i * da.sy.toNat)).getD i 0=c:=⟨_,rfl⟩
   have hcx:(qm (aR (dFA da) (dFA db) (gB bo)) id (i * da.sy.toNat))[i]?=some c:=by rw [← hcE,List.getD_eq_getElem?_getD,List.getElem?_eq_getElem (by omega)];rfl
   have hc9:c < (da.nl * db.nl):=hq2 _ (List.mem_of_getElem? hcx)
   obtain ⟨hsa,hsb,_⟩:=dM hc9
   obtain ⟨sb,rfl⟩:=eG (hS.row 0 rfl) (by omega)
   have hmc:W.cell? ⟨sb,0+i * 1,none⟩=some (.int .i64 (c:Int)):=by
    rw [Nat.zero_add,Nat.mul_one]
    exact cX (hS.row 0 rfl) (k:=i) (by show (i64n _)[i]?=_;unfold i64n;rw [List.getElem?_map,hcx];rfl)
   refine bV (XF.thenN (aH (bH (aH (iF (m:=14) cA hS (by kernel_rfl) (by kernel_rfl) rfl (bR 1 rfl 11 rfl rfl (fun w hw=>aV rfl) rfl (bR 2 rfl 12 rfl rfl (fun w hw=>aV rfl) rfl (aZ 3 rfl (isV _) (aW _) (rgV (li:=[(50,_),(51,_)]) rfl (aL rfl) ⟨aJ 0 (aC rfl rfl rfl),aJ 1 (aC rfl rfl rfl),trivial⟩ (fun w hw=>bE (j:=i) (b:=sb) (o:=0) (m:=sl) (c:=sc) underlying36 sizeOf3 rfl rfl rfl (by omega) rfl) (aG rfl)) (bF 4 rfl 52 2 rfl rfl rfl (fun w hw=>aY isAgg3 rfl ((aO hw 0).cell (Nat.zero_le _) (hmc))) rfl (bR 5 rfl 8 rfl rfl (fun w hw=>aV rfl) rfl (aZ 6 rfl (isV _) (aW _) (rgV (li:=[(53,_),(54,_)]) rfl (aL rfl) ⟨aJ 3 (aC rfl rfl rfl),aJ 4 (aC rfl rfl rfl),trivial⟩ (fun w hw=>zN rfl rfl (by omega) (show IntKind.i64.wrap (((c / db.nl):Nat):Int)=(((c / db.nl):Nat):Int) from qU (by omega))) (aG rfl)) (bR 7 rfl 11 rfl rfl (fun w hw=>aV rfl) rfl (bR 8 rfl 12 rfl rfl (fun w hw=>aV rfl) rfl (aZ 9 rfl (isV _) (aW _) (rgV (li:=[(56,_),(57,_)]) rfl (aL rfl) ⟨aJ 6 (aC rfl rfl rfl),aJ 7 (aC rfl rfl rfl),trivial⟩ (fun w hw=>bE (j:=i) (b:=sb) (o:=0) (m:=sl) (c:=sc) underlying36 sizeOf3 rfl rfl rfl (by omega) rfl) (aG rfl)) (bF 10 rfl 58 8 rfl rfl rfl (fun w hw=>aY isAgg3 rfl ((aO hw 0).cell (Nat.zero_le _) (hmc))) rfl (bR 11 rfl 8 rfl rfl (fun w hw=>aV rfl) rfl (aZ 12 rfl (isV _) (aW _) (rgV (li:=[(59,_),(60,_)]) rfl (aL rfl) ⟨aJ 9 (aC rfl rfl rfl),aJ 10 (aC rfl rfl rfl),trivial⟩ (fun w hw=>rn_rem9 rfl rfl (by omega) (show ((c:Nat):Int).tmod ((db.nl:Nat):Int)=(((c % db.nl):Nat):Int) from rfl)) (aG rfl)) (bF 13 rfl 55 5 rfl rfl rfl (fun w hw=>dI rfl) rfl (bF 14 rfl 61 11 rfl rfl rfl (fun w hw=>dI rfl) rfl (dJ ?_))))))))))))))))))))
   intro W8 hbR hS'
   clear hS;have hS:=hS';clear hS'
   refine aI (aI (aI (aI (aI (aI (aI (aI (aI (aI (aI (aI (aI (aI (cN (XF.thenN (aH (aN (aU (o':=0) dC rfl rfl rfl (aP isAgg3 rfl (aD (hS.at_ 4 rfl) rfl) rfl ?_)))))))))))))))))))
   refine eX (m:=da.sy.toNat) (cs:=i64n (List.replicate da.sy.toNat 0)) hS underlying36 iD rfl rfl rfl (by omega) (by omega) (lE _) (by show (8:Int) * _≤_;omega) (by omega) rfl fun B9 W9 hS=>?_
   refine aB rfl rfl (aK (XF.thenN (aH (aH (aN (aB rfl rfl (aK (XF.thenN (bH ?_)))))))))
   refine cW (fun m l W=>∃ (x sl:Nat) (sa:Option Addr) (sc:Nat) (nm:List Int),x≤da.sy.toNat∧m=da.sy.toNat - x∧l=[(2,.bool bo),(3,.pointer (some ⟨B1,0,none⟩)),(4,.pointer (some ⟨B2,0,none⟩)),(6,.pointer (some ⟨B3,0,none⟩)),(7,.pointer (some ⟨B4,0,none⟩)),(8,.int .i64 (db.nl:Int)),(9,.slice (some ⟨B6,0,none⟩) (da.nl * db.nl) (da.nl * db.nl)),(11,.slice sa sl sc),(12,.int .i64 (i:Int)),(13,.int .i64 (((c / db.nl):Nat):Int)),(14,.int .i64 (((c % db.nl):Nat):Int)),(15,.slice (some ⟨B9,0,none⟩) da.sy.toNat da.sy.toNat),(16,.int .i64 (x:Int))]∧(qm (aR (dFA da) (dFA db) (gB bo)) id (i * da.sy.toNat+x)).length=sl∧NumOk id (da.nl * db.nl) (qm (aR (dFA da) (dFA db) (gB bo)) id (i * da.sy.toNat+x)) nm∧St w0 ((B9,i64n (rz (aR (dFA da) (dFA db) (gB bo)) id i x),3)::(B6,fG (nm),3)::(B4,[.int .i64 da.sy,.slice va (i) vc,.slice wa (i) wc],25)::(B3,[.int .i64 0,.slice none 0 0,.slice none 0 0],25)::(B2,[.int .i64 db.sy,.slice db.na db.nl db.nc,.slice db.aa db.al db.ac],25)::(B1,[.int .i64 da.sy,.slice da.na da.nl da.nc,.slice da.aa da.al da.ac],25)::Ot) (⟨.slice sa (sl) sc,sl,i64n (qm (aR (dFA da) (dFA db) (gB bo)) id (i * da.sy.toNat+x)),3,1⟩::⟨.slice va (i) vc,i,(rs).map IV.val,36,1⟩::⟨.slice wa (i) wc,i,bvs ((List.range (i)).map (fun j=>(aR (dFA da) (dFA db) (gB bo)).ac ((qm (aR (dFA da) (dFA db) (gB bo)) id (i * da.sy.toNat)).getD j 0))),4,1⟩::G) Kk W) (da.sy.toNat - 0) ([(2,_),(3,_),(4,_),(6,_),(7,_),(8,_),(9,_),(11,_),(12,_),(13,_),(14,_),(15,_),(16,_)]) ⟨rfl,rfl,rfl,rfl,rfl,rfl,rfl,rfl,rfl,rfl,rfl,rfl,rfl,trivial⟩ (⟨0,sl,some ⟨sb,0,none⟩,sc,nm,Nat.zero_le _,rfl,rfl,hsl,hnm,by rw [zM];exact hS.keep Kk (fun q hq=>by simp [hq])⟩) ?_
   clear hS
   have hil:i < (qm (aR (dFA da) (dFA db) (gB bo)) id (i * da.sy.toNat)).length:=by omega
   clear hi
   rintro m l W ⟨x,sl9,sa,sc,nm,hx,rfl,rfl,hsl9,hnm,hS⟩
   refine aH (aH (aN (aA rfl rfl (aU (o':=0) dC rfl rfl rfl (aP isAgg3 rfl (aD (hS.at_ 5 rfl) rfl) rfl (cH rfl rfl rfl (aK (XF.thenN (bS rfl (fun hc=>?_) (fun hc=>?_))))))))))
   ·have hc68:=of_decide_eq_true hc;clear hc
    have hx9:x < da.sy.toNat:=by omega
    have hpk:(i * da.sy.toNat+x) / da.sy.toNat=i∧(i * da.sy.toNat+x) % da.sy.toNat=x:=dY hx9
    have hgd:(qm (aR (dFA da) (dFA db) (gB bo)) id (i * da.sy.toNat+x)).getD i 0=c:=(eB (Nat.le_add_right _ _) hil).trans hcE
    have hil2:i < sl9:=by have:=dQ (A:=(aR (dFA da) (dFA db) (gB bo))) (cls:=id) (Nat.le_add_right (i * da.sy.toNat) x);omega
    obtain ⟨r1,nb,no,rb,ro,hna,q1,hra,hrl1,q2,hlta⟩:=oM (hDa hS (fun q hq=>by simp [hsub q (hKt q hq)])) hea hsa hc68
    obtain ⟨r2,nb2,no2,rb2,ro2,hna2,q3,hra2,hrl2,q4,hltb⟩:=oM (hDb hS (fun q hq=>by simp [hsub q (hKt q hq)])) heb hsb (show (x:Int) < db.sy by omega)
    have hlt:(((dFA da).nx (c / db.nl) x) * db.nl+((dFA db).nx (c % db.nl) x)) < (da.nl * db.nl):=iG hlta hltb
    have hqr2:eR (aR (dFA da) (dFA db) (gB bo)) id (i * da.sy.toNat+x):=fun q hq=>by
     rcases Nat.lt_or_ge q (i * da.sy.toNat) with h9 | h9
     ·exact hqr q h9
     ·have h8:q / da.sy.toNat=i:=by
       rw [show q=i * da.sy.toNat+(q - i * da.sy.toNat) by omega];exact (dY (by omega)).1
      rw [show q / (aR (dFA da) (dFA db) (gB bo)).k=i from h8]
      exact Nat.lt_of_lt_of_le hil (dQ h9)
    obtain ⟨hq3,_⟩:=jI (cm:=(da.nl * db.nl)) hO (fun _=>hqr2) (fun h0=>absurd (show da.sy.toNat=0 from h0) (by omega)) (fun x hx=>hx)
    have hnml:=hnm.len
    have hnat:=hnm.at_ _ (show id (((dFA da).nx (c / db.nl) x) * db.nl+((dFA db).nx (c % db.nl) x)) < _ from hlt)
    have hnxE:(aR (dFA da) (dFA db) (gB bo)).nx c x=(((dFA da).nx (c / db.nl) x) * db.nl+((dFA db).nx (c % db.nl) x)):=rfl
    have eq1:qm (aR (dFA da) (dFA db) (gB bo)) id (i * da.sy.toNat+x+1)=mtS id (qm (aR (dFA da) (dFA db) (gB bo)) id (i * da.sy.toNat+x)) (((dFA da).nx (c / db.nl) x) * db.nl+((dFA db).nx (c % db.nl) x)):=by
     show qm (aR (dFA da) (dFA db) (gB bo)) id ((i * da.sy.toNat+x)+1)=_
     rw [rO,show (i * da.sy.toNat+x) / (aR (dFA da) (dFA db) (gB bo)).k=i from hpk.1,show (i * da.sy.toNat+x) % (aR (dFA da) (dFA db) (gB bo)).k=x from hpk.2,hgd];rfl
    have eq2:qfl (aR (dFA da) (dFA db) (gB bo)) id (i * da.sy.toNat+x)=mtI id (qm (aR (dFA da) (dFA db) (gB bo)) id (i * da.sy.toNat+x)) (((dFA da).nx (c / db.nl) x) * db.nl+((dFA db).nx (c % db.nl) x)):=by rw [sY,show (i * da.sy.toNat+x) / (aR (dFA da) (dFA db) (gB bo)).k=i from hpk.1,show (i * da.sy.toNat+x) % (aR (dFA da) (dFA db) (gB bo)).k=x from hpk.2,hgd];rfl
    have hmul9:((dFA da).nx (c / db.nl) x) * db.nl≤1024:=by
     have:=Nat.mul_le_mul_right db.nl (Nat.le_of_lt hlta);omega
    have hn1:((((dFA da).nx (c / db.nl) x):Nat):Int) * ((db.nl:Nat):Int)=((((dFA da).nx (c / db.nl) x) * db.nl:Nat):Int):=(Int.natCast_mul _ _).symm
    refine bV (XF.thenN (aH (bH (aH (iF (m:=20) cA hS (by kernel_rfl) (by kernel_rfl) rfl (bR 1 rfl 3 rfl rfl (fun w hw=>bA (o':=1) cO rfl rfl) rfl (bF 2 rfl 71 0 rfl rfl rfl (fun w hw=>aY isAgg22 rfl ((aO hw 0).cell (Nat.zero_le _) (aD (hS.at_ 5 rfl) rfl))) rfl (bR 3 rfl 13 rfl rfl (fun w hw=>aV rfl) rfl ?_))))))))
    refine aZ 4 rfl (isV _) (aW _) (rgV (li:=[(72,_),(73,_)]) rfl (aL rfl) ⟨aJ 1 (aC rfl rfl rfl),aJ 2 (aC rfl rfl rfl),trivial⟩ (fun w hw=>bE (j:=(c / db.nl)) (b:=nb) (o:=no) (m:=da.nl) (c:=da.nc) underlying22 sizeOf36 (by show some (Value.slice _ _ _)=_;rw [hna]) rfl rfl (by omega) rfl) (aG rfl)) ?_
    refine bF 5 rfl 74 3 rfl rfl rfl (fun w hw=>aY isAgg36 rfl ((aO hw 0).cell (Nat.zero_le _) (q1))) rfl (bR 6 rfl 16 rfl rfl (fun w hw=>aV rfl) rfl ?_)
    refine aZ 7 rfl (isV _) (aW _) (rgV (li:=[(75,_),(76,_)]) rfl (aL rfl) ⟨aJ 4 (aC rfl rfl rfl),aJ 5 (aC rfl rfl rfl),trivial⟩ (fun w hw=>bE (j:=x) (b:=rb) (o:=ro) (m:=r1.l) (c:=r1.c) underlying36 sizeOf3 (by show some (Value.slice _ _ _)=_;rw [hra]) rfl (by omega) (by omega) rfl) (aG rfl)) ?_
    refine bF 8 rfl 77 6 rfl rfl rfl (fun w hw=>aY isAgg3 rfl ((aO hw 0).cell (Nat.zero_le _) (q2))) rfl (bR 9 rfl 8 rfl rfl (fun w hw=>aV rfl) rfl ?_)
    refine aZ 10 rfl (isV _) (aW _) (rgV (li:=[(78,_),(79,_)]) rfl (aL rfl) ⟨aJ 7 (aC rfl rfl rfl),aJ 8 (aC rfl rfl rfl),trivial⟩ (fun w hw=>wG rfl rfl (show IntKind.i64.wrap (((((dFA da).nx (c / db.nl) x):Nat):Int) * ((db.nl:Nat):Int))=((((dFA da).nx (c / db.nl) x) * db.nl:Nat):Int) from by rw [hn1];exact qU (by omega))) (aG rfl)) ?_
    refine bR 11 rfl 4 rfl rfl (fun w hw=>bA (o':=1) cO rfl rfl) rfl (bF 12 rfl 81 10 rfl rfl rfl (fun w hw=>aY isAgg22 rfl ((aO hw 0).cell (Nat.zero_le _) (aD (hS.at_ 4 rfl) rfl))) rfl (bR 13 rfl 14 rfl rfl (fun w hw=>aV rfl) rfl ?_))
    refine aZ 14 rfl (isV _) (aW _) (rgV (li:=[(82,_),(83,_)]) rfl (aL rfl) ⟨aJ 11 (aC rfl rfl rfl),aJ 12 (aC rfl rfl rfl),trivial⟩ (fun w hw=>bE (j:=(c % db.nl)) (b:=nb2) (o:=no2) (m:=db.nl) (c:=db.nc) underlying22 sizeOf36 (by show some (Value.slice _ _ _)=_;rw [hna2]) rfl rfl (by omega) rfl) (aG rfl)) ?_
    refine bF 15 rfl 84 13 rfl rfl rfl (fun w hw=>aY isAgg36 rfl ((aO hw 0).cell (Nat.zero_le _) (q3))) rfl (bR 16 rfl 16 rfl rfl (fun w hw=>aV rfl) rfl ?_)
    refine aZ 17 rfl (isV _) (aW _) (rgV (li:=[(85,_),(86,_)]) rfl (aL rfl) ⟨aJ 14 (aC rfl rfl rfl),aJ 15 (aC rfl rfl rfl),trivial⟩ (fun w hw=>bE (j:=x) (b:=rb2) (o:=ro2) (m:=r2.l) (c:=r2.c) underlying36 sizeOf3 (by show some (Value.slice _ _ _)=_;rw [hra2]) rfl (by omega) (by omega) rfl) (aG rfl)) ?_
    refine bF 18 rfl 87 16 rfl rfl rfl (fun w hw=>aY isAgg3 rfl ((aO hw 0).cell (Nat.zero_le _) (q4))) rfl ?_
    refine aZ 19 rfl (isV _) (aW _) (rgV (li:=[(80,_),(88,_)]) rfl (aL rfl) ⟨aJ 9 (aC rfl rfl rfl),aJ 17 (aC rfl rfl rfl),trivial⟩ (fun w hw=>iB rfl rfl (show IntKind.i64.wrap (((((dFA da).nx (c / db.nl) x) * db.nl:Nat):Int)+((((dFA db).nx (c % db.nl) x):Nat):Int))=(((((dFA da).nx (c / db.nl) x) * db.nl+((dFA db).nx (c % db.nl) x)):Nat):Int) from by rw [← Int.natCast_add];exact qU (by omega))) (aG rfl)) ?_
    refine bF 20 rfl 89 18 rfl rfl rfl (fun w hw=>dI rfl) rfl (dJ ?_)
    intro W10 hbR hS'
    clear hS;have hS:=hS';clear hS'
    refine aI (aI (aI (aI (aI (aI (aI (aI (aI (aI (aI (aI (aI (aI (aI (aI (aI (aI (aI (aI (cN (XF.thenN (aH (aH (aN (aA rfl rfl (aA rfl rfl (aX (j:=(((dFA da).nx (c / db.nl) x) * db.nl+((dFA db).nx (c % db.nl) x))) underlying36 sizeOf3 rfl rfl (rfl) (hlt) rfl rfl (aP isAgg3 rfl (aD (hS.at_ 1 rfl) (iM (by omega))) rfl (cH rfl rfl rfl (aK (XF.thenN (bS rfl (fun hc=>?_) (fun hc=>?_)))))))))))))))))))))))))))))))))
    ·have hc94:=of_decide_eq_true hc;clear hc
     have hnew:id (((dFA da).nx (c / db.nl) x) * db.nl+((dFA db).nx (c % db.nl) x))∉(qm (aR (dFA da) (dFA db) (gB bo)) id (i * da.sy.toNat+x)).map id:=fun h=>by
      rw [if_pos h] at hnat;simp only [id] at hnat;omega
     have e1:mtS id (qm (aR (dFA da) (dFA db) (gB bo)) id (i * da.sy.toNat+x)) (((dFA da).nx (c / db.nl) x) * db.nl+((dFA db).nx (c % db.nl) x))=qm (aR (dFA da) (dFA db) (gB bo)) id (i * da.sy.toNat+x)++[(((dFA da).nx (c / db.nl) x) * db.nl+((dFA db).nx (c % db.nl) x))]:=nL hnew
     have e2:mtI id (qm (aR (dFA da) (dFA db) (gB bo)) id (i * da.sy.toNat+x)) (((dFA da).nx (c / db.nl) x) * db.nl+((dFA db).nx (c % db.nl) x))=sl9:=(pE hnew).trans hsl9
     refine aH (aN (aA rfl rfl (aA rfl rfl (aA rfl rfl (bX underlying36 rfl rfl (aX (j:=(((dFA da).nx (c / db.nl) x) * db.nl+((dFA db).nx (c % db.nl) x))) underlying36 sizeOf3 rfl rfl (rfl) (hlt) rfl rfl ?_))))))
     refine bL (i:=1) (cs':=fG (nm.set (((dFA da).nx (c / db.nl) x) * db.nl+((dFA db).nx (c % db.nl) x)) (sl9:Int))) (O':=(_::_::_::_::_::_::Ot)) hS sizeOf3 rfl rfl rfl rfl (Nat.ble_eq_true_of_le (by rw [i64z_len];omega)) fX rfl fun W81 hS=>?_
     refine aK (XF.thenN (aN (aA rfl rfl (aA rfl rfl (bK (us:=[(0,.int .i64 _)]) hS underlying36 sizeOf3 zeroValue3 rfl rfl rfl (fZ _) rfl fun B11 W11 hS=>?_)))))
     refine cR (i:=0) (news:=[_]) hS underlying36 iD rfl rfl (by show 0 < 1;decide) rfl rfl rfl rfl rfl (aT.own (j:=0) (m:=1) (hS.at_ 0 rfl) rfl) rfl rfl (by dsimp only;simp only [maxLen];omega) (by dsimp only;show _ * 8≤_;omega) rfl fun v12 W12 hS=>?_
     obtain ⟨sa9,sc9,e9,_⟩:=bQ (hS.row 0 rfl)
     dsimp only at e9
     subst e9
     refine aB rfl rfl (aK (XF.thenN (aN (aA rfl rfl (aA rfl rfl (aA rfl rfl (aA rfl rfl (aX (j:=(((dFA da).nx (c / db.nl) x) * db.nl+((dFA db).nx (c % db.nl) x))) underlying36 sizeOf3 rfl rfl (rfl) (hlt) rfl rfl ?_))))))))
     refine aP isAgg3 rfl (aD (hS.at_ 2 rfl) (iM (by rw [List.length_set];omega))) rfl ?_
     refine aX (j:=x) underlying36 sizeOf3 rfl rfl (rfl) (by omega) rfl rfl ?_
     refine bL (i:=1) (cs':=i64n ((rz (aR (dFA da) (dFA db) (gB bo)) id i x).set x (qfl (aR (dFA da) (dFA db) (gB bo)) id (i * (aR (dFA da) (dFA db) (gB bo)).k+x)))) (O':=(_::_::_::_::_::_::_::Ot)) hS sizeOf3 rfl rfl rfl rfl (Nat.ble_eq_true_of_le (by rw [eT,tT (show x≤(aR (dFA da) (dFA db) (gB bo)).k from hx)];show 0+x * 1+1≤da.sy.toNat;omega)) (fK (by rw [show qfl (aR (dFA da) (dFA db) (gB bo)) id (i * (aR (dFA da) (dFA db) (gB bo)).k+x)=_ from eq2,e2,List.getD_eq_getElem?_getD,List.getElem?_set_self (by omega)];rfl)) rfl fun W82 hS=>?_
     refine aK (XF.blkN (XF.thenN (aN (aA rfl rfl (bY rfl rfl (IntWalk.i64_in _ (by omega)) rfl (aB rfl rfl (aK ?_)))))))
     rw [tU (show x < (aR (dFA da) (dFA db) (gB bo)).k from hx9)] at hS
     rw [e1] at eq1
     have hS9:=hS.tail.castG (G':=(⟨.slice sa9 ((sl9+1)) sc9,(sl9+1),i64n (qm (aR (dFA da) (dFA db) (gB bo)) id (i * da.sy.toNat+x+1)),3,1⟩::⟨.slice va (i) vc,i,(rs).map IV.val,36,1⟩::⟨.slice wa (i) wc,i,bvs ((List.range (i)).map (fun j=>(aR (dFA da) (dFA db) (gB bo)).ac ((qm (aR (dFA da) (dFA db) (gB bo)) id (i * da.sy.toNat)).getD j 0))),4,1⟩::G)) (by rw [eq1,← lB rfl];rfl)
     exact XF.round (da.sy.toNat - (x+1)) [(2,_),(3,_),(4,_),(6,_),(7,_),(8,_),(9,_),(11,_),(12,_),(13,_),(14,_),(15,_),(16,_)] (by omega) ⟨rfl,rfl,rfl,rfl,rfl,rfl,rfl,rfl,rfl,rfl,rfl,rfl,rfl,trivial⟩ ⟨x+1,sl9+1,sa9,sc9,nm.set (((dFA da).nx (c / db.nl) x) * db.nl+((dFA db).nx (c % db.nl) x)) (sl9:Int),by omega,rfl,rfl,by show (qm (aR (dFA da) (dFA db) (gB bo)) id (i * da.sy.toNat+x+1)).length=_;rw [eq1,List.length_append,hsl9];rfl,by show NumOk _ _ (qm (aR (dFA da) (dFA db) (gB bo)) id (i * da.sy.toNat+x+1)) _;rw [eq1,← hsl9];exact hnm.step (show id (((dFA da).nx (c / db.nl) x) * db.nl+((dFA db).nx (c % db.nl) x)) < _ from hlt) hnew,hS9.keep Kk (fun q hq=>by simp [hq])⟩
    ·have hc94:=of_decide_eq_false hc;clear hc
     have hold:id (((dFA da).nx (c / db.nl) x) * db.nl+((dFA db).nx (c % db.nl) x))∈(qm (aR (dFA da) (dFA db) (gB bo)) id (i * da.sy.toNat+x)).map id:=Decidable.of_not_not fun h=>by
      rw [if_neg h] at hnat;simp only [id] at hnat;omega
     rw [if_pos hold] at hnat
     have e1:mtS id (qm (aR (dFA da) (dFA db) (gB bo)) id (i * da.sy.toNat+x)) (((dFA da).nx (c / db.nl) x) * db.nl+((dFA db).nx (c % db.nl) x))=qm (aR (dFA da) (dFA db) (gB bo)) id (i * da.sy.toNat+x):=lR hold
     have e2:((mtI id (qm (aR (dFA da) (dFA db) (gB bo)) id (i * da.sy.toNat+x)) (((dFA da).nx (c / db.nl) x) * db.nl+((dFA db).nx (c % db.nl) x)):Nat):Int)=nm.getD (((dFA da).nx (c / db.nl) x) * db.nl+((dFA db).nx (c % db.nl) x)) 0:=by rw [show nm.getD (((dFA da).nx (c / db.nl) x) * db.nl+((dFA db).nx (c % db.nl) x)) 0=_ from hnat];unfold mtI;rw [e1]
     refine bV (XF.thenN (aN (aA rfl rfl (aA rfl rfl (aA rfl rfl (aA rfl rfl (aX (j:=(((dFA da).nx (c / db.nl) x) * db.nl+((dFA db).nx (c % db.nl) x))) underlying36 sizeOf3 rfl rfl (rfl) (hlt) rfl rfl (aP isAgg3 rfl (aD (hS.at_ 1 rfl) (iM (by omega))) rfl (aX (j:=x) underlying36 sizeOf3 rfl rfl (rfl) (by omega) rfl rfl ?_)))))))))
     refine bL (i:=0) (cs':=i64n ((rz (aR (dFA da) (dFA db) (gB bo)) id i x).set x (qfl (aR (dFA da) (dFA db) (gB bo)) id (i * (aR (dFA da) (dFA db) (gB bo)).k+x)))) (O':=(_::_::_::_::_::_::Ot)) hS sizeOf3 rfl rfl rfl rfl (Nat.ble_eq_true_of_le (by rw [eT,tT (show x≤(aR (dFA da) (dFA db) (gB bo)).k from hx)];show 0+x * 1+1≤da.sy.toNat;omega)) (fK (by rw [show qfl (aR (dFA da) (dFA db) (gB bo)) id (i * (aR (dFA da) (dFA db) (gB bo)).k+x)=_ from eq2,e2])) rfl fun W82 hS=>?_
     refine aK (XF.blkN (XF.thenN (aN (aA rfl rfl (bY rfl rfl (IntWalk.i64_in _ (by omega)) rfl (aB rfl rfl (aK ?_)))))))
     rw [tU (show x < (aR (dFA da) (dFA db) (gB bo)).k from hx9)] at hS
     rw [e1] at eq1
     rw [← eq1] at hsl9 hnm hS
     exact XF.round (da.sy.toNat - (x+1)) [(2,_),(3,_),(4,_),(6,_),(7,_),(8,_),(9,_),(11,_),(12,_),(13,_),(14,_),(15,_),(16,_)] (by omega) ⟨rfl,rfl,rfl,rfl,rfl,rfl,rfl,rfl,rfl,rfl,rfl,rfl,rfl,trivial⟩ ⟨x+1,sl9,sa,sc,nm,by omega,rfl,rfl,hsl9,hnm,hS.keep Kk (fun q hq=>by simp [hq])⟩
   ·have hc68:=of_decide_eq_false hc;clear hc
    have exk:x=da.sy.toNat:=by omega
    have es:(i+1) * da.sy.toNat=i * da.sy.toNat+x:=by rw [Nat.succ_mul,exk]
    have hle9:i * da.sy.toNat≤(i+1) * da.sy.toNat:=Nat.mul_le_mul_right _ (Nat.le_succ i)
    rw [← es] at hsl9 hnm hS
    have hil2:i < sl9:=by have:=dQ (A:=(aR (dFA da) (dFA db) (gB bo))) (cls:=id) hle9;omega
    rw [exk] at hS
    obtain ⟨K3,k3,g3,hS3⟩:=(hS.keep Kk (fun q hq=>by simp [hq])).ownKeep
    clear hS;have hS:=hS3;clear hS3
    refine cV (XF.thenX (XF.thenX (XF.blkX (XF.thenN (aH (aN (aU (o':=1) cO rfl rfl rfl (aP isAgg22 rfl (aD (hS.at_ 1 rfl) rfl) rfl (aA rfl rfl (bK (us:=[(0,.slice _ _ _)]) hS underlying22 sizeOf36 zeroValue36 rfl rfl rfl (tE _ _ _) rfl fun B13 W13 hS=>?_))))))))))
    refine cR (i:=1) (news:=[_]) hS underlying22 xC rfl rfl (by show 0 < 1;decide) rfl rfl rfl rfl rfl (aT.own (j:=0) (m:=1) (hS.at_ 0 rfl) rfl) rfl rfl (by dsimp only;simp only [maxLen];omega) (by dsimp only;show _ * 24≤_;omega) rfl fun v14 W14 hS=>?_
    obtain ⟨va9,vc9,e9,_⟩:=bQ (hS.row 1 rfl)
    dsimp only at e9
    subst e9
    refine aU (o':=1) cO rfl rfl rfl (bL (i:=2) (cs':=[_,_,_]) (O':=(_::_::_::_::_::_::Ot)) hS sizeOf22 rfl rfl rfl rfl rfl rfl rfl fun W15 hS=>aK (XF.thenN (aH ?_)))
    have hgd:(qm (aR (dFA da) (dFA db) (gB bo)) id ((i+1) * da.sy.toNat)).getD i 0=c:=(eB hle9 hil).trans hcE
    obtain ⟨ab,ao,haa,hac⟩:=fE.get (hDa hS (fun q hq=>by simp [k3 q (hsub q (hKt q hq))])).arow (i:=(c / db.nl)) (by omega)
    obtain ⟨bb,bo9,hba,hbc⟩:=fE.get (hDb hS (fun q hq=>by simp [k3 q (hsub q (hKt q hq))])).arow (i:=(c % db.nl)) (by omega)
    obtain ⟨xa,hxa⟩:∃ xa,da.bs.getD (c / db.nl) false=xa:=⟨_,rfl⟩
    obtain ⟨xb,hxb⟩:∃ xb,db.bs.getD (c % db.nl) false=xb:=⟨_,rfl⟩
    rw [hxa] at hac
    rw [hxb] at hbc
    refine iF (m:=12) cA hS (by kernel_rfl) (by kernel_rfl) rfl (bR 1 rfl 3 rfl rfl (fun w hw=>bA (o':=2) cT rfl rfl) rfl (bF 2 rfl 117 0 rfl rfl rfl (fun w hw=>aY isAgg23 rfl ((aO hw 0).cell (Nat.zero_le _) (aD (hS.at_ 5 rfl) rfl))) rfl (bR 3 rfl 13 rfl rfl (fun w hw=>aV rfl) rfl ?_)))
    refine aZ 4 rfl (isV _) (aW _) (rgV (li:=[(118,_),(119,_)]) rfl (aL rfl) ⟨aJ 1 (aC rfl rfl rfl),aJ 2 (aC rfl rfl rfl),trivial⟩ (fun w hw=>bE (j:=(c / db.nl)) (b:=ab) (o:=ao) (m:=da.al) (c:=da.ac) underlying23 sizeOf4 (by show some (Value.slice _ _ _)=_;rw [haa]) rfl rfl (by omega) rfl) (aG rfl)) ?_
    refine bF 5 rfl 120 3 rfl rfl rfl (fun w hw=>aY isAgg4 rfl ((aO hw 0).cell (Nat.zero_le _) (hac))) rfl (bR 6 rfl 4 rfl rfl (fun w hw=>bA (o':=2) cT rfl rfl) rfl (bF 7 rfl 122 5 rfl rfl rfl (fun w hw=>aY isAgg23 rfl ((aO hw 0).cell (Nat.zero_le _) (aD (hS.at_ 4 rfl) rfl))) rfl (bR 8 rfl 14 rfl rfl (fun w hw=>aV rfl) rfl ?_)))
    refine aZ 9 rfl (isV _) (aW _) (rgV (li:=[(123,_),(124,_)]) rfl (aL rfl) ⟨aJ 6 (aC rfl rfl rfl),aJ 7 (aC rfl rfl rfl),trivial⟩ (fun w hw=>bE (j:=(c % db.nl)) (b:=bb) (o:=bo9) (m:=db.al) (c:=db.ac) underlying23 sizeOf4 (by show some (Value.slice _ _ _)=_;rw [hba]) rfl rfl (by omega) rfl) (aG rfl)) ?_
    refine bF 10 rfl 125 8 rfl rfl rfl (fun w hw=>aY isAgg4 rfl ((aO hw 0).cell (Nat.zero_le _) (hbc))) rfl (bF 11 rfl 121 4 rfl rfl rfl (fun w hw=>dI rfl) rfl (bF 12 rfl 126 9 rfl rfl rfl (fun w hw=>dI rfl) rfl (dJ ?_)))
    intro W16 hbR hS'
    clear hS;have hS:=hS';clear hS'
    refine aI (aI (aI (aI (aI (aI (aI (aI (aI (aI (aI (aI (cN (XF.thenN (aN (aU (o':=2) cT rfl rfl rfl (aP isAgg23 rfl (aD (hS.at_ 2 rfl) rfl) rfl (aA rfl rfl (aA rfl rfl (bZ (d:=130) rfl (fun hc=>?_) (fun hc=>?_))))))))))))))))))))
    ·have hg130:=hc;clear hc
     refine aE (d:=130) rfl rfl (aA rfl rfl (bI rfl rfl rfl (aA rfl rfl (bZ (d:=133) rfl (fun hc=>?_) (fun hc=>?_)))))
     ·have hg133:=hc;clear hc
      refine aE (d:=133) rfl rfl (aA rfl rfl (bI rfl rfl rfl (aA rfl rfl (bZ (d:=136) rfl (fun hc=>?_) (fun hc=>?_)))))
      ·have hg136:=hc;clear hc
       refine aQ (d:=136) rfl rfl rfl rfl (aQ (d:=136) rfl rfl rfl rfl (aQ (d:=136) rfl rfl rfl rfl (mP (d:=139) rfl rfl rfl (mP (d:=139) rfl rfl rfl (mP (d:=141) rfl rfl rfl (mP (d:=139) rfl rfl rfl (aQ (d:=136) rfl rfl rfl rfl (bI rfl rfl rfl (bK (us:=[(0,.bool _)]) hS underlying23 sizeOf4 zeroValue4 rfl rfl rfl (eY _) rfl fun B17 W17 hS=>?_)))))))))
       refine cR (i:=2) (news:=[_]) hS underlying23 jC rfl rfl (by show 0 < 1;decide) rfl rfl rfl rfl rfl (aT.own (j:=0) (m:=1) (hS.at_ 0 rfl) rfl) rfl rfl (by dsimp only;simp only [maxLen];omega) (by dsimp only;show _ * 1≤_;omega) rfl fun v18 W18 hS=>?_
       obtain ⟨wa9,wc9,e9,_⟩:=bQ (hS.row 2 rfl)
       dsimp only at e9
       subst e9
       refine aU (o':=2) cT rfl rfl rfl (bL (i:=3) (cs':=[_,_,_]) (O':=(_::_::_::_::_::_::_::Ot)) hS sizeOf23 rfl rfl rfl rfl rfl rfl rfl fun W19 hS=>aK (XF.blkN (XF.thenN (aN (aA rfl rfl (bY rfl rfl (IntWalk.i64_in _ (by omega)) rfl (aB rfl rfl (aK ?_))))))))
       have hbv:(aR (dFA da) (dFA db) (gB bo)).ac c=gB bo xa xb:=by show gB bo (da.bs.getD (c / db.nl) false) (db.bs.getD (c % db.nl) false)=_;rw [hxa,hxb]
       have hS9:=hS.tail.tail.castG (G':=(⟨.slice sa (sl9) sc,sl9,i64n (qm (aR (dFA da) (dFA db) (gB bo)) id ((i+1) * da.sy.toNat)),3,1⟩::⟨.slice va9 ((i+1)) vc9,(i+1),((rs++[IV.mk (some ⟨B9,0,none⟩) da.sy.toNat da.sy.toNat (wI (rz (aR (dFA da) (dFA db) (gB bo)) id i da.sy.toNat))])).map IV.val,36,1⟩::⟨.slice wa9 ((i+1)) wc9,(i+1),bvs ((List.range ((i+1))).map (fun j=>(aR (dFA da) (dFA db) (gB bo)).ac ((qm (aR (dFA da) (dFA db) (gB bo)) id ((i+1) * da.sy.toNat)).getD j 0))),4,1⟩::G)) (by show GR.mk _ _ _ _ _::GR.mk _ _ _ _ _::GR.mk _ _ (bvs _++[Value.bool _]) _ _::_=_;rw [fA,← gM (A:=(aR (dFA da) (dFA db) (gB bo))) (cls:=id) hle9 (show i≤(qm (aR (dFA da) (dFA db) (gB bo)) id (i * da.sy.toNat)).length by omega),eU (A:=(aR (dFA da) (dFA db) (gB bo))) (cls:=id) hgd ?_,List.map_append];rfl;rw [hbv];unfold gB;cases bo<;>cases xa<;>cases xb<;>first | rfl | contradiction)
       exact XF.round ((da.nl * db.nl) - (i+1)) [(2,_),(3,_),(4,_),(6,_),(7,_),(8,_),(9,_),(11,_),(12,_)] (by have:=hq1;omega) ⟨rfl,rfl,rfl,rfl,rfl,rfl,rfl,rfl,rfl,trivial⟩ ⟨i+1,sl9,sa,va9,wa9,sc,vc9,wc9,nm,(rs++[IV.mk (some ⟨B9,0,none⟩) da.sy.toNat da.sy.toNat (wI (rz (aR (dFA da) (dFA db) (gB bo)) id i da.sy.toNat))]),K3,by omega,rfl,rfl,hsl9,fun j hj=>(by
        rcases Nat.lt_or_ge j i with h9 | h9
        ·exact hrows j h9
        ·rw [show j=i by omega];exact hil),hnm,by simp [hrl],eA hrl hrs rfl jD,fun q hq=>k3 q (hsub q hq),fun h9 hk9 r hr=>(by
        rcases List.mem_append.1 hr with h | h
        ·exact hRH h9 (fun q hq=>hk9 q (k3 q hq)) r h
        ·rw [List.mem_singleton.1 h];exact gL (g3 h9 hk9)),hS9.keep K3 (fun q hq=>by simp [hq])⟩
      ·have hg136:=hc;clear hc
       refine aE (d:=136) rfl rfl (aA rfl rfl (aE (d:=136) rfl rfl (gR rfl rfl (aE (d:=136) rfl rfl (aA rfl rfl (bZ (d:=139) rfl (fun hc=>?_) (fun hc=>?_)))))))
       ·have hg139:=hc;clear hc
        refine aE (d:=139) rfl rfl (aA rfl rfl (aE (d:=139) rfl rfl (aA rfl rfl (bZ (d:=141) rfl (fun hc=>?_) (fun hc=>?_)))))
        ·have hg141:=hc;clear hc
         refine aQ (d:=141) rfl rfl rfl rfl (aE (d:=139) rfl rfl (bI rfl rfl rfl (aE (d:=136) rfl rfl (bI rfl rfl rfl (cG rfl rfl rfl (bK (us:=[(0,.bool _)]) hS underlying23 sizeOf4 zeroValue4 rfl rfl rfl (eY _) rfl fun B20 W20 hS=>?_))))))
         refine cR (i:=2) (news:=[_]) hS underlying23 jC rfl rfl (by show 0 < 1;decide) rfl rfl rfl rfl rfl (aT.own (j:=0) (m:=1) (hS.at_ 0 rfl) rfl) rfl rfl (by dsimp only;simp only [maxLen];omega) (by dsimp only;show _ * 1≤_;omega) rfl fun v21 W21 hS=>?_
         obtain ⟨wa9,wc9,e9,_⟩:=bQ (hS.row 2 rfl)
         dsimp only at e9
         subst e9
         refine aU (o':=2) cT rfl rfl rfl (bL (i:=3) (cs':=[_,_,_]) (O':=(_::_::_::_::_::_::_::Ot)) hS sizeOf23 rfl rfl rfl rfl rfl rfl rfl fun W22 hS=>aK (XF.blkN (XF.thenN (aN (aA rfl rfl (bY rfl rfl (IntWalk.i64_in _ (by omega)) rfl (aB rfl rfl (aK ?_))))))))
         have hbv:(aR (dFA da) (dFA db) (gB bo)).ac c=gB bo xa xb:=by show gB bo (da.bs.getD (c / db.nl) false) (db.bs.getD (c % db.nl) false)=_;rw [hxa,hxb]
         have hS9:=hS.tail.tail.castG (G':=(⟨.slice sa (sl9) sc,sl9,i64n (qm (aR (dFA da) (dFA db) (gB bo)) id ((i+1) * da.sy.toNat)),3,1⟩::⟨.slice va9 ((i+1)) vc9,(i+1),((rs++[IV.mk (some ⟨B9,0,none⟩) da.sy.toNat da.sy.toNat (wI (rz (aR (dFA da) (dFA db) (gB bo)) id i da.sy.toNat))])).map IV.val,36,1⟩::⟨.slice wa9 ((i+1)) wc9,(i+1),bvs ((List.range ((i+1))).map (fun j=>(aR (dFA da) (dFA db) (gB bo)).ac ((qm (aR (dFA da) (dFA db) (gB bo)) id ((i+1) * da.sy.toNat)).getD j 0))),4,1⟩::G)) (by show GR.mk _ _ _ _ _::GR.mk _ _ _ _ _::GR.mk _ _ (bvs _++[Value.bool _]) _ _::_=_;rw [fA,← gM (A:=(aR (dFA da) (dFA db) (gB bo))) (cls:=id) hle9 (show i≤(qm (aR (dFA da) (dFA db) (gB bo)) id (i * da.sy.toNat)).length by omega),eU (A:=(aR (dFA da) (dFA db) (gB bo))) (cls:=id) hgd ?_,List.map_append];rfl;rw [hbv];unfold gB;cases bo<;>cases xa<;>cases xb<;>first | rfl | contradiction)
         exact XF.round ((da.nl * db.nl) - (i+1)) [(2,_),(3,_),(4,_),(6,_),(7,_),(8,_),(9,_),(11,_),(12,_)] (by have:=hq1;omega) ⟨rfl,rfl,rfl,rfl,rfl,rfl,rfl,rfl,rfl,trivial⟩ ⟨i+1,sl9,sa,va9,wa9,sc,vc9,wc9,nm,(rs++[IV.mk (some ⟨B9,0,none⟩) da.sy.toNat da.sy.toNat (wI (rz (aR (dFA da) (dFA db) (gB bo)) id i da.sy.toNat))]),K3,by omega,rfl,rfl,hsl9,fun j hj=>(by
          rcases Nat.lt_or_ge j i with h9 | h9
          ·exact hrows j h9
          ·rw [show j=i by omega];exact hil),hnm,by simp [hrl],eA hrl hrs rfl jD,fun q hq=>k3 q (hsub q hq),fun h9 hk9 r hr=>(by
          rcases List.mem_append.1 hr with h | h
          ·exact hRH h9 (fun q hq=>hk9 q (k3 q hq)) r h
          ·rw [List.mem_singleton.1 h];exact gL (g3 h9 hk9)),hS9.keep K3 (fun q hq=>by simp [hq])⟩
        ·have hg141:=hc;clear hc
         refine aE (d:=141) rfl rfl (aA rfl rfl (aE (d:=139) rfl rfl (cG rfl rfl rfl (aE (d:=136) rfl rfl (bI rfl rfl rfl (cG rfl rfl rfl (bK (us:=[(0,.bool _)]) hS underlying23 sizeOf4 zeroValue4 rfl rfl rfl (eY _) rfl fun B23 W23 hS=>?_)))))))
         refine cR (i:=2) (news:=[_]) hS underlying23 jC rfl rfl (by show 0 < 1;decide) rfl rfl rfl rfl rfl (aT.own (j:=0) (m:=1) (hS.at_ 0 rfl) rfl) rfl rfl (by dsimp only;simp only [maxLen];omega) (by dsimp only;show _ * 1≤_;omega) rfl fun v24 W24 hS=>?_
         obtain ⟨wa9,wc9,e9,_⟩:=bQ (hS.row 2 rfl)
         dsimp only at e9
         subst e9
         refine aU (o':=2) cT rfl rfl rfl (bL (i:=3) (cs':=[_,_,_]) (O':=(_::_::_::_::_::_::_::Ot)) hS sizeOf23 rfl rfl rfl rfl rfl rfl rfl fun W25 hS=>aK (XF.blkN (XF.thenN (aN (aA rfl rfl (bY rfl rfl (IntWalk.i64_in _ (by omega)) rfl (aB rfl rfl (aK ?_))))))))
         have hbv:(aR (dFA da) (dFA db) (gB bo)).ac c=gB bo xa xb:=by show gB bo (da.bs.getD (c / db.nl) false) (db.bs.getD (c % db.nl) false)=_;rw [hxa,hxb]
         have hS9:=hS.tail.tail.castG (G':=(⟨.slice sa (sl9) sc,sl9,i64n (qm (aR (dFA da) (dFA db) (gB bo)) id ((i+1) * da.sy.toNat)),3,1⟩::⟨.slice va9 ((i+1)) vc9,(i+1),((rs++[IV.mk (some ⟨B9,0,none⟩) da.sy.toNat da.sy.toNat (wI (rz (aR (dFA da) (dFA db) (gB bo)) id i da.sy.toNat))])).map IV.val,36,1⟩::⟨.slice wa9 ((i+1)) wc9,(i+1),bvs ((List.range ((i+1))).map (fun j=>(aR (dFA da) (dFA db) (gB bo)).ac ((qm (aR (dFA da) (dFA db) (gB bo)) id ((i+1) * da.sy.toNat)).getD j 0))),4,1⟩::G)) (by show GR.mk _ _ _ _ _::GR.mk _ _ _ _ _::GR.mk _ _ (bvs _++[Value.bool _]) _ _::_=_;rw [fA,← gM (A:=(aR (dFA da) (dFA db) (gB bo))) (cls:=id) hle9 (show i≤(qm (aR (dFA da) (dFA db) (gB bo)) id (i * da.sy.toNat)).length by omega),eU (A:=(aR (dFA da) (dFA db) (gB bo))) (cls:=id) hgd ?_,List.map_append];rfl;rw [hbv];unfold gB;cases bo<;>cases xa<;>cases xb<;>first | rfl | contradiction)
         exact XF.round ((da.nl * db.nl) - (i+1)) [(2,_),(3,_),(4,_),(6,_),(7,_),(8,_),(9,_),(11,_),(12,_)] (by have:=hq1;omega) ⟨rfl,rfl,rfl,rfl,rfl,rfl,rfl,rfl,rfl,trivial⟩ ⟨i+1,sl9,sa,va9,wa9,sc,vc9,wc9,nm,(rs++[IV.mk (some ⟨B9,0,none⟩) da.sy.toNat da.sy.toNat (wI (rz (aR (dFA da) (dFA db) (gB bo)) id i da.sy.toNat))]),K3,by omega,rfl,rfl,hsl9,fun j hj=>(by
          rcases Nat.lt_or_ge j i with h9 | h9
          ·exact hrows j h9
          ·rw [show j=i by omega];exact hil),hnm,by simp [hrl],eA hrl hrs rfl jD,fun q hq=>k3 q (hsub q hq),fun h9 hk9 r hr=>(by
          rcases List.mem_append.1 hr with h | h
          ·exact hRH h9 (fun q hq=>hk9 q (k3 q hq)) r h
          ·rw [List.mem_singleton.1 h];exact gL (g3 h9 hk9)),hS9.keep K3 (fun q hq=>by simp [hq])⟩
       ·have hg139:=hc;clear hc
        refine aQ (d:=139) rfl rfl rfl rfl (aQ (d:=139) rfl rfl rfl rfl (mP (d:=141) rfl rfl rfl (aQ (d:=139) rfl rfl rfl rfl (aE (d:=136) rfl rfl (cG rfl rfl rfl (cG rfl rfl rfl (bK (us:=[(0,.bool _)]) hS underlying23 sizeOf4 zeroValue4 rfl rfl rfl (eY _) rfl fun B26 W26 hS=>?_)))))))
        refine cR (i:=2) (news:=[_]) hS underlying23 jC rfl rfl (by show 0 < 1;decide) rfl rfl rfl rfl rfl (aT.own (j:=0) (m:=1) (hS.at_ 0 rfl) rfl) rfl rfl (by dsimp only;simp only [maxLen];omega) (by dsimp only;show _ * 1≤_;omega) rfl fun v27 W27 hS=>?_
        obtain ⟨wa9,wc9,e9,_⟩:=bQ (hS.row 2 rfl)
        dsimp only at e9
        subst e9
        refine aU (o':=2) cT rfl rfl rfl (bL (i:=3) (cs':=[_,_,_]) (O':=(_::_::_::_::_::_::_::Ot)) hS sizeOf23 rfl rfl rfl rfl rfl rfl rfl fun W28 hS=>aK (XF.blkN (XF.thenN (aN (aA rfl rfl (bY rfl rfl (IntWalk.i64_in _ (by omega)) rfl (aB rfl rfl (aK ?_))))))))
        have hbv:(aR (dFA da) (dFA db) (gB bo)).ac c=gB bo xa xb:=by show gB bo (da.bs.getD (c / db.nl) false) (db.bs.getD (c % db.nl) false)=_;rw [hxa,hxb]
        have hS9:=hS.tail.tail.castG (G':=(⟨.slice sa (sl9) sc,sl9,i64n (qm (aR (dFA da) (dFA db) (gB bo)) id ((i+1) * da.sy.toNat)),3,1⟩::⟨.slice va9 ((i+1)) vc9,(i+1),((rs++[IV.mk (some ⟨B9,0,none⟩) da.sy.toNat da.sy.toNat (wI (rz (aR (dFA da) (dFA db) (gB bo)) id i da.sy.toNat))])).map IV.val,36,1⟩::⟨.slice wa9 ((i+1)) wc9,(i+1),bvs ((List.range ((i+1))).map (fun j=>(aR (dFA da) (dFA db) (gB bo)).ac ((qm (aR (dFA da) (dFA db) (gB bo)) id ((i+1) * da.sy.toNat)).getD j 0))),4,1⟩::G)) (by show GR.mk _ _ _ _ _::GR.mk _ _ _ _ _::GR.mk _ _ (bvs _++[Value.bool _]) _ _::_=_;rw [fA,← gM (A:=(aR (dFA da) (dFA db) (gB bo))) (cls:=id) hle9 (show i≤(qm (aR (dFA da) (dFA db) (gB bo)) id (i * da.sy.toNat)).length by omega),eU (A:=(aR (dFA da) (dFA db) (gB bo))) (cls:=id) hgd ?_,List.map_append];rfl;rw [hbv];unfold gB;cases bo<;>cases xa<;>cases xb<;>first | rfl | contradiction)
        exact XF.round ((da.nl * db.nl) - (i+1)) [(2,_),(3,_),(4,_),(6,_),(7,_),(8,_),(9,_),(11,_),(12,_)] (by have:=hq1;omega) ⟨rfl,rfl,rfl,rfl,rfl,rfl,rfl,rfl,rfl,trivial⟩ ⟨i+1,sl9,sa,va9,wa9,sc,vc9,wc9,nm,(rs++[IV.mk (some ⟨B9,0,none⟩) da.sy.toNat da.sy.toNat (wI (rz (aR (dFA da) (dFA db) (gB bo)) id i da.sy.toNat))]),K3,by omega,rfl,rfl,hsl9,fun j hj=>(by
         rcases Nat.lt_or_ge j i with h9 | h9
         ·exact hrows j h9
         ·rw [show j=i by omega];exact hil),hnm,by simp [hrl],eA hrl hrs rfl jD,fun q hq=>k3 q (hsub q hq),fun h9 hk9 r hr=>(by
         rcases List.mem_append.1 hr with h | h
         ·exact hRH h9 (fun q hq=>hk9 q (k3 q hq)) r h
         ·rw [List.mem_singleton.1 h];exact gL (g3 h9 hk9)),hS9.keep K3 (fun q hq=>by simp [hq])⟩
     ·have hg133:=hc;clear hc
      refine aQ (d:=133) rfl rfl rfl rfl (cG rfl rfl rfl (aA rfl rfl (aE (d:=136) rfl rfl (aA rfl rfl (aE (d:=136) rfl rfl (gR rfl rfl (aE (d:=136) rfl rfl (aA rfl rfl (bZ (d:=139) rfl (fun hc=>?_) (fun hc=>?_))))))))))
      ·have hg139:=hc;clear hc
       refine aE (d:=139) rfl rfl (aA rfl rfl (aE (d:=139) rfl rfl (aA rfl rfl (bZ (d:=141) rfl (fun hc=>?_) (fun hc=>?_)))))
       ·have hg141:=hc;clear hc
        refine aQ (d:=141) rfl rfl rfl rfl (aE (d:=139) rfl rfl (bI rfl rfl rfl (aE (d:=136) rfl rfl (bI rfl rfl rfl (cG rfl rfl rfl (bK (us:=[(0,.bool _)]) hS underlying23 sizeOf4 zeroValue4 rfl rfl rfl (eY _) rfl fun B29 W29 hS=>?_))))))
        refine cR (i:=2) (news:=[_]) hS underlying23 jC rfl rfl (by show 0 < 1;decide) rfl rfl rfl rfl rfl (aT.own (j:=0) (m:=1) (hS.at_ 0 rfl) rfl) rfl rfl (by dsimp only;simp only [maxLen];omega) (by dsimp only;show _ * 1≤_;omega) rfl fun v30 W30 hS=>?_
        obtain ⟨wa9,wc9,e9,_⟩:=bQ (hS.row 2 rfl)
        dsimp only at e9
        subst e9
        refine aU (o':=2) cT rfl rfl rfl (bL (i:=3) (cs':=[_,_,_]) (O':=(_::_::_::_::_::_::_::Ot)) hS sizeOf23 rfl rfl rfl rfl rfl rfl rfl fun W31 hS=>aK (XF.blkN (XF.thenN (aN (aA rfl rfl (bY rfl rfl (IntWalk.i64_in _ (by omega)) rfl (aB rfl rfl (aK ?_))))))))
        have hbv:(aR (dFA da) (dFA db) (gB bo)).ac c=gB bo xa xb:=by show gB bo (da.bs.getD (c / db.nl) false) (db.bs.getD (c % db.nl) false)=_;rw [hxa,hxb]
        have hS9:=hS.tail.tail.castG (G':=(⟨.slice sa (sl9) sc,sl9,i64n (qm (aR (dFA da) (dFA db) (gB bo)) id ((i+1) * da.sy.toNat)),3,1⟩::⟨.slice va9 ((i+1)) vc9,(i+1),((rs++[IV.mk (some ⟨B9,0,none⟩) da.sy.toNat da.sy.toNat (wI (rz (aR (dFA da) (dFA db) (gB bo)) id i da.sy.toNat))])).map IV.val,36,1⟩::⟨.slice wa9 ((i+1)) wc9,(i+1),bvs ((List.range ((i+1))).map (fun j=>(aR (dFA da) (dFA db) (gB bo)).ac ((qm (aR (dFA da) (dFA db) (gB bo)) id ((i+1) * da.sy.toNat)).getD j 0))),4,1⟩::G)) (by show GR.mk _ _ _ _ _::GR.mk _ _ _ _ _::GR.mk _ _ (bvs _++[Value.bool _]) _ _::_=_;rw [fA,← gM (A:=(aR (dFA da) (dFA db) (gB bo))) (cls:=id) hle9 (show i≤(qm (aR (dFA da) (dFA db) (gB bo)) id (i * da.sy.toNat)).length by omega),eU (A:=(aR (dFA da) (dFA db) (gB bo))) (cls:=id) hgd ?_,List.map_append];rfl;rw [hbv];unfold gB;cases bo<;>cases xa<;>cases xb<;>first | rfl | contradiction)
        exact XF.round ((da.nl * db.nl) - (i+1)) [(2,_),(3,_),(4,_),(6,_),(7,_),(8,_),(9,_),(11,_),(12,_)] (by have:=hq1;omega) ⟨rfl,rfl,rfl,rfl,rfl,rfl,rfl,rfl,rfl,trivial⟩ ⟨i+1,sl9,sa,va9,wa9,sc,vc9,wc9,nm,(rs++[IV.mk (some ⟨B9,0,none⟩) da.sy.toNat da.sy.toNat (wI (rz (aR (dFA da) (dFA db) (gB bo)) id i da.sy.toNat))]),K3,by omega,rfl,rfl,hsl9,fun j hj=>(by
         rcases Nat.lt_or_ge j i with h9 | h9
         ·exact hrows j h9
         ·rw [show j=i by omega];exact hil),hnm,by simp [hrl],eA hrl hrs rfl jD,fun q hq=>k3 q (hsub q hq),fun h9 hk9 r hr=>(by
         rcases List.mem_append.1 hr with h | h
         ·exact hRH h9 (fun q hq=>hk9 q (k3 q hq)) r h
         ·rw [List.mem_singleton.1 h];exact gL (g3 h9 hk9)),hS9.keep K3 (fun q hq=>by simp [hq])⟩
       ·have hg141:=hc;clear hc
        refine aE (d:=141) rfl rfl (aA rfl rfl (aE (d:=139) rfl rfl (cG rfl rfl rfl (aE (d:=136) rfl rfl (bI rfl rfl rfl (cG rfl rfl rfl (bK (us:=[(0,.bool _)]) hS underlying23 sizeOf4 zeroValue4 rfl rfl rfl (eY _) rfl fun B32 W32 hS=>?_)))))))
        refine cR (i:=2) (news:=[_]) hS underlying23 jC rfl rfl (by show 0 < 1;decide) rfl rfl rfl rfl rfl (aT.own (j:=0) (m:=1) (hS.at_ 0 rfl) rfl) rfl rfl (by dsimp only;simp only [maxLen];omega) (by dsimp only;show _ * 1≤_;omega) rfl fun v33 W33 hS=>?_
        obtain ⟨wa9,wc9,e9,_⟩:=bQ (hS.row 2 rfl)
        dsimp only at e9
        subst e9
        refine aU (o':=2) cT rfl rfl rfl (bL (i:=3) (cs':=[_,_,_]) (O':=(_::_::_::_::_::_::_::Ot)) hS sizeOf23 rfl rfl rfl rfl rfl rfl rfl fun W34 hS=>aK (XF.blkN (XF.thenN (aN (aA rfl rfl (bY rfl rfl (IntWalk.i64_in _ (by omega)) rfl (aB rfl rfl (aK ?_))))))))
        have hbv:(aR (dFA da) (dFA db) (gB bo)).ac c=gB bo xa xb:=by show gB bo (da.bs.getD (c / db.nl) false) (db.bs.getD (c % db.nl) false)=_;rw [hxa,hxb]
        have hS9:=hS.tail.tail.castG (G':=(⟨.slice sa (sl9) sc,sl9,i64n (qm (aR (dFA da) (dFA db) (gB bo)) id ((i+1) * da.sy.toNat)),3,1⟩::⟨.slice va9 ((i+1)) vc9,(i+1),((rs++[IV.mk (some ⟨B9,0,none⟩) da.sy.toNat da.sy.toNat (wI (rz (aR (dFA da) (dFA db) (gB bo)) id i da.sy.toNat))])).map IV.val,36,1⟩::⟨.slice wa9 ((i+1)) wc9,(i+1),bvs ((List.range ((i+1))).map (fun j=>(aR (dFA da) (dFA db) (gB bo)).ac ((qm (aR (dFA da) (dFA db) (gB bo)) id ((i+1) * da.sy.toNat)).getD j 0))),4,1⟩::G)) (by show GR.mk _ _ _ _ _::GR.mk _ _ _ _ _::GR.mk _ _ (bvs _++[Value.bool _]) _ _::_=_;rw [fA,← gM (A:=(aR (dFA da) (dFA db) (gB bo))) (cls:=id) hle9 (show i≤(qm (aR (dFA da) (dFA db) (gB bo)) id (i * da.sy.toNat)).length by omega),eU (A:=(aR (dFA da) (dFA db) (gB bo))) (cls:=id) hgd ?_,List.map_append];rfl;rw [hbv];unfold gB;cases bo<;>cases xa<;>cases xb<;>first | rfl | contradiction)
        exact XF.round ((da.nl * db.nl) - (i+1)) [(2,_),(3,_),(4,_),(6,_),(7,_),(8,_),(9,_),(11,_),(12,_)] (by have:=hq1;omega) ⟨rfl,rfl,rfl,rfl,rfl,rfl,rfl,rfl,rfl,trivial⟩ ⟨i+1,sl9,sa,va9,wa9,sc,vc9,wc9,nm,(rs++[IV.mk (some ⟨B9,0,none⟩) da.sy.toNat da.sy.toNat (wI (rz (aR (dFA da) (dFA db) (gB bo)) id i da.sy.toNat))]),K3,by omega,rfl,rfl,hsl9,fun j hj=>(by
         rcases Nat.lt_or_ge j i with h9 | h9
         ·exact hrows j h9
         ·rw [show j=i by omega];exact hil),hnm,by simp [hrl],eA hrl hrs rfl jD,fun q hq=>k3 q (hsub q hq),fun h9 hk9 r hr=>(by
         rcases List.mem_append.1 hr with h | h
         ·exact hRH h9 (fun q hq=>hk9 q (k3 q hq)) r h
         ·rw [List.mem_singleton.1 h];exact gL (g3 h9 hk9)),hS9.keep K3 (fun q hq=>by simp [hq])⟩
      ·have hg139:=hc;clear hc
       refine aQ (d:=139) rfl rfl rfl rfl (aQ (d:=139) rfl rfl rfl rfl (mP (d:=141) rfl rfl rfl (aQ (d:=139) rfl rfl rfl rfl (aE (d:=136) rfl rfl (cG rfl rfl rfl (cG rfl rfl rfl (bK (us:=[(0,.bool _)]) hS underlying23 sizeOf4 zeroValue4 rfl rfl rfl (eY _) rfl fun B35 W35 hS=>?_)))))))
       refine cR (i:=2) (news:=[_]) hS underlying23 jC rfl rfl (by show 0 < 1;decide) rfl rfl rfl rfl rfl (aT.own (j:=0) (m:=1) (hS.at_ 0 rfl) rfl) rfl rfl (by dsimp only;simp only [maxLen];omega) (by dsimp only;show _ * 1≤_;omega) rfl fun v36 W36 hS=>?_
       obtain ⟨wa9,wc9,e9,_⟩:=bQ (hS.row 2 rfl)
       dsimp only at e9
       subst e9
       refine aU (o':=2) cT rfl rfl rfl (bL (i:=3) (cs':=[_,_,_]) (O':=(_::_::_::_::_::_::_::Ot)) hS sizeOf23 rfl rfl rfl rfl rfl rfl rfl fun W37 hS=>aK (XF.blkN (XF.thenN (aN (aA rfl rfl (bY rfl rfl (IntWalk.i64_in _ (by omega)) rfl (aB rfl rfl (aK ?_))))))))
       have hbv:(aR (dFA da) (dFA db) (gB bo)).ac c=gB bo xa xb:=by show gB bo (da.bs.getD (c / db.nl) false) (db.bs.getD (c % db.nl) false)=_;rw [hxa,hxb]
       have hS9:=hS.tail.tail.castG (G':=(⟨.slice sa (sl9) sc,sl9,i64n (qm (aR (dFA da) (dFA db) (gB bo)) id ((i+1) * da.sy.toNat)),3,1⟩::⟨.slice va9 ((i+1)) vc9,(i+1),((rs++[IV.mk (some ⟨B9,0,none⟩) da.sy.toNat da.sy.toNat (wI (rz (aR (dFA da) (dFA db) (gB bo)) id i da.sy.toNat))])).map IV.val,36,1⟩::⟨.slice wa9 ((i+1)) wc9,(i+1),bvs ((List.range ((i+1))).map (fun j=>(aR (dFA da) (dFA db) (gB bo)).ac ((qm (aR (dFA da) (dFA db) (gB bo)) id ((i+1) * da.sy.toNat)).getD j 0))),4,1⟩::G)) (by show GR.mk _ _ _ _ _::GR.mk _ _ _ _ _::GR.mk _ _ (bvs _++[Value.bool _]) _ _::_=_;rw [fA,← gM (A:=(aR (dFA da) (dFA db) (gB bo))) (cls:=id) hle9 (show i≤(qm (aR (dFA da) (dFA db) (gB bo)) id (i * da.sy.toNat)).length by omega),eU (A:=(aR (dFA da) (dFA db) (gB bo))) (cls:=id) hgd ?_,List.map_append];rfl;rw [hbv];unfold gB;cases bo<;>cases xa<;>cases xb<;>first | rfl | contradiction)
       exact XF.round ((da.nl * db.nl) - (i+1)) [(2,_),(3,_),(4,_),(6,_),(7,_),(8,_),(9,_),(11,_),(12,_)] (by have:=hq1;omega) ⟨rfl,rfl,rfl,rfl,rfl,rfl,rfl,rfl,rfl,trivial⟩ ⟨i+1,sl9,sa,va9,wa9,sc,vc9,wc9,nm,(rs++[IV.mk (some ⟨B9,0,none⟩) da.sy.toNat da.sy.toNat (wI (rz (aR (dFA da) (dFA db) (gB bo)) id i da.sy.toNat))]),K3,by omega,rfl,rfl,hsl9,fun j hj=>(by
        rcases Nat.lt_or_ge j i with h9 | h9
        ·exact hrows j h9
        ·rw [show j=i by omega];exact hil),hnm,by simp [hrl],eA hrl hrs rfl jD,fun q hq=>k3 q (hsub q hq),fun h9 hk9 r hr=>(by
        rcases List.mem_append.1 hr with h | h
        ·exact hRH h9 (fun q hq=>hk9 q (k3 q hq)) r h
        ·rw [List.mem_singleton.1 h];exact gL (g3 h9 hk9)),hS9.keep K3 (fun q hq=>by simp [hq])⟩
    ·have hg130:=hc;clear hc
     refine aQ (d:=130) rfl rfl rfl rfl (cG rfl rfl rfl (aA rfl rfl (aQ (d:=133) rfl rfl rfl rfl (cG rfl rfl rfl (aA rfl rfl (aE (d:=136) rfl rfl (aA rfl rfl (aE (d:=136) rfl rfl (gR rfl rfl (aE (d:=136) rfl rfl (aA rfl rfl (bZ (d:=139) rfl (fun hc=>?_) (fun hc=>?_)))))))))))))
     ·have hg139:=hc;clear hc
      refine aE (d:=139) rfl rfl (aA rfl rfl (aE (d:=139) rfl rfl (aA rfl rfl (bZ (d:=141) rfl (fun hc=>?_) (fun hc=>?_)))))
      ·have hg141:=hc;clear hc
       refine aQ (d:=141) rfl rfl rfl rfl (aE (d:=139) rfl rfl (bI rfl rfl rfl (aE (d:=136) rfl rfl (bI rfl rfl rfl (cG rfl rfl rfl (bK (us:=[(0,.bool _)]) hS underlying23 sizeOf4 zeroValue4 rfl rfl rfl (eY _) rfl fun B38 W38 hS=>?_))))))
       refine cR (i:=2) (news:=[_]) hS underlying23 jC rfl rfl (by show 0 < 1;decide) rfl rfl rfl rfl rfl (aT.own (j:=0) (m:=1) (hS.at_ 0 rfl) rfl) rfl rfl (by dsimp only;simp only [maxLen];omega) (by dsimp only;show _ * 1≤_;omega) rfl fun v39 W39 hS=>?_
       obtain ⟨wa9,wc9,e9,_⟩:=bQ (hS.row 2 rfl)
       dsimp only at e9
       subst e9
       refine aU (o':=2) cT rfl rfl rfl (bL (i:=3) (cs':=[_,_,_]) (O':=(_::_::_::_::_::_::_::Ot)) hS sizeOf23 rfl rfl rfl rfl rfl rfl rfl fun W40 hS=>aK (XF.blkN (XF.thenN (aN (aA rfl rfl (bY rfl rfl (IntWalk.i64_in _ (by omega)) rfl (aB rfl rfl (aK ?_))))))))
       have hbv:(aR (dFA da) (dFA db) (gB bo)).ac c=gB bo xa xb:=by show gB bo (da.bs.getD (c / db.nl) false) (db.bs.getD (c % db.nl) false)=_;rw [hxa,hxb]
       have hS9:=hS.tail.tail.castG (G':=(⟨.slice sa (sl9) sc,sl9,i64n (qm (aR (dFA da) (dFA db) (gB bo)) id ((i+1) * da.sy.toNat)),3,1⟩::⟨.slice va9 ((i+1)) vc9,(i+1),((rs++[IV.mk (some ⟨B9,0,none⟩) da.sy.toNat da.sy.toNat (wI (rz (aR (dFA da) (dFA db) (gB bo)) id i da.sy.toNat))])).map IV.val,36,1⟩::⟨.slice wa9 ((i+1)) wc9,(i+1),bvs ((List.range ((i+1))).map (fun j=>(aR (dFA da) (dFA db) (gB bo)).ac ((qm (aR (dFA da) (dFA db) (gB bo)) id ((i+1) * da.sy.toNat)).getD j 0))),4,1⟩::G)) (by show GR.mk _ _ _ _ _::GR.mk _ _ _ _ _::GR.mk _ _ (bvs _++[Value.bool _]) _ _::_=_;rw [fA,← gM (A:=(aR (dFA da) (dFA db) (gB bo))) (cls:=id) hle9 (show i≤(qm (aR (dFA da) (dFA db) (gB bo)) id (i * da.sy.toNat)).length by omega),eU (A:=(aR (dFA da) (dFA db) (gB bo))) (cls:=id) hgd ?_,List.map_append];rfl;rw [hbv];unfold gB;cases bo<;>cases xa<;>cases xb<;>first | rfl | contradiction)
       exact XF.round ((da.nl * db.nl) - (i+1)) [(2,_),(3,_),(4,_),(6,_),(7,_),(8,_),(9,_),(11,_),(12,_)] (by have:=hq1;omega) ⟨rfl,rfl,rfl,rfl,rfl,rfl,rfl,rfl,rfl,trivial⟩ ⟨i+1,sl9,sa,va9,wa9,sc,vc9,wc9,nm,(rs++[IV.mk (some ⟨B9,0,none⟩) da.sy.toNat da.sy.toNat (wI (rz (aR (dFA da) (dFA db) (gB bo)) id i da.sy.toNat))]),K3,by omega,rfl,rfl,hsl9,fun j hj=>(by
        rcases Nat.lt_or_ge j i with h9 | h9
        ·exact hrows j h9
        ·rw [show j=i by omega];exact hil),hnm,by simp [hrl],eA hrl hrs rfl jD,fun q hq=>k3 q (hsub q hq),fun h9 hk9 r hr=>(by
        rcases List.mem_append.1 hr with h | h
        ·exact hRH h9 (fun q hq=>hk9 q (k3 q hq)) r h
        ·rw [List.mem_singleton.1 h];exact gL (g3 h9 hk9)),hS9.keep K3 (fun q hq=>by simp [hq])⟩
      ·have hg141:=hc;clear hc
       refine aE (d:=141) rfl rfl (aA rfl rfl (aE (d:=139) rfl rfl (cG rfl rfl rfl (aE (d:=136) rfl rfl (bI rfl rfl rfl (cG rfl rfl rfl (bK (us:=[(0,.bool _)]) hS underlying23 sizeOf4 zeroValue4 rfl rfl rfl (eY _) rfl fun B41 W41 hS=>?_)))))))
       refine cR (i:=2) (news:=[_]) hS underlying23 jC rfl rfl (by show 0 < 1;decide) rfl rfl rfl rfl rfl (aT.own (j:=0) (m:=1) (hS.at_ 0 rfl) rfl) rfl rfl (by dsimp only;simp only [maxLen];omega) (by dsimp only;show _ * 1≤_;omega) rfl fun v42 W42 hS=>?_
       obtain ⟨wa9,wc9,e9,_⟩:=bQ (hS.row 2 rfl)
       dsimp only at e9
       subst e9
       refine aU (o':=2) cT rfl rfl rfl (bL (i:=3) (cs':=[_,_,_]) (O':=(_::_::_::_::_::_::_::Ot)) hS sizeOf23 rfl rfl rfl rfl rfl rfl rfl fun W43 hS=>aK (XF.blkN (XF.thenN (aN (aA rfl rfl (bY rfl rfl (IntWalk.i64_in _ (by omega)) rfl (aB rfl rfl (aK ?_))))))))
       have hbv:(aR (dFA da) (dFA db) (gB bo)).ac c=gB bo xa xb:=by show gB bo (da.bs.getD (c / db.nl) false) (db.bs.getD (c % db.nl) false)=_;rw [hxa,hxb]
       have hS9:=hS.tail.tail.castG (G':=(⟨.slice sa (sl9) sc,sl9,i64n (qm (aR (dFA da) (dFA db) (gB bo)) id ((i+1) * da.sy.toNat)),3,1⟩::⟨.slice va9 ((i+1)) vc9,(i+1),((rs++[IV.mk (some ⟨B9,0,none⟩) da.sy.toNat da.sy.toNat (wI (rz (aR (dFA da) (dFA db) (gB bo)) id i da.sy.toNat))])).map IV.val,36,1⟩::⟨.slice wa9 ((i+1)) wc9,(i+1),bvs ((List.range ((i+1))).map (fun j=>(aR (dFA da) (dFA db) (gB bo)).ac ((qm (aR (dFA da) (dFA db) (gB bo)) id ((i+1) * da.sy.toNat)).getD j 0))),4,1⟩::G)) (by show GR.mk _ _ _ _ _::GR.mk _ _ _ _ _::GR.mk _ _ (bvs _++[Value.bool _]) _ _::_=_;rw [fA,← gM (A:=(aR (dFA da) (dFA db) (gB bo))) (cls:=id) hle9 (show i≤(qm (aR (dFA da) (dFA db) (gB bo)) id (i * da.sy.toNat)).length by omega),eU (A:=(aR (dFA da) (dFA db) (gB bo))) (cls:=id) hgd ?_,List.map_append];rfl;rw [hbv];unfold gB;cases bo<;>cases xa<;>cases xb<;>first | rfl | contradiction)
       exact XF.round ((da.nl * db.nl) - (i+1)) [(2,_),(3,_),(4,_),(6,_),(7,_),(8,_),(9,_),(11,_),(12,_)] (by have:=hq1;omega) ⟨rfl,rfl,rfl,rfl,rfl,rfl,rfl,rfl,rfl,trivial⟩ ⟨i+1,sl9,sa,va9,wa9,sc,vc9,wc9,nm,(rs++[IV.mk (some ⟨B9,0,none⟩) da.sy.toNat da.sy.toNat (wI (rz (aR (dFA da) (dFA db) (gB bo)) id i da.sy.toNat))]),K3,by omega,rfl,rfl,hsl9,fun j hj=>(by
        rcases Nat.lt_or_ge j i with h9 | h9
        ·exact hrows j h9
        ·rw [show j=i by omega];exact hil),hnm,by simp [hrl],eA hrl hrs rfl jD,fun q hq=>k3 q (hsub q hq),fun h9 hk9 r hr=>(by
        rcases List.mem_append.1 hr with h | h
        ·exact hRH h9 (fun q hq=>hk9 q (k3 q hq)) r h
        ·rw [List.mem_singleton.1 h];exact gL (g3 h9 hk9)),hS9.keep K3 (fun q hq=>by simp [hq])⟩
     ·have hg139:=hc;clear hc
      refine aQ (d:=139) rfl rfl rfl rfl (aQ (d:=139) rfl rfl rfl rfl (mP (d:=141) rfl rfl rfl (aQ (d:=139) rfl rfl rfl rfl (aE (d:=136) rfl rfl (cG rfl rfl rfl (cG rfl rfl rfl (bK (us:=[(0,.bool _)]) hS underlying23 sizeOf4 zeroValue4 rfl rfl rfl (eY _) rfl fun B44 W44 hS=>?_)))))))
      refine cR (i:=2) (news:=[_]) hS underlying23 jC rfl rfl (by show 0 < 1;decide) rfl rfl rfl rfl rfl (aT.own (j:=0) (m:=1) (hS.at_ 0 rfl) rfl) rfl rfl (by dsimp only;simp only [maxLen];omega) (by dsimp only;show _ * 1≤_;omega) rfl fun v45 W45 hS=>?_
      obtain ⟨wa9,wc9,e9,_⟩:=bQ (hS.row 2 rfl)
      dsimp only at e9
      subst e9
      refine aU (o':=2) cT rfl rfl rfl (bL (i:=3) (cs':=[_,_,_]) (O':=(_::_::_::_::_::_::_::Ot)) hS sizeOf23 rfl rfl rfl rfl rfl rfl rfl fun W46 hS=>aK (XF.blkN (XF.thenN (aN (aA rfl rfl (bY rfl rfl (IntWalk.i64_in _ (by omega)) rfl (aB rfl rfl (aK ?_))))))))
      have hbv:(aR (dFA da) (dFA db) (gB bo)).ac c=gB bo xa xb:=by show gB bo (da.bs.getD (c / db.nl) false) (db.bs.getD (c % db.nl) false)=_;rw [hxa,hxb]
      have hS9:=hS.tail.tail.castG (G':=(⟨.slice sa (sl9) sc,sl9,i64n (qm (aR (dFA da) (dFA db) (gB bo)) id ((i+1) * da.sy.toNat)),3,1⟩::⟨.slice va9 ((i+1)) vc9,(i+1),((rs++[IV.mk (some ⟨B9,0,none⟩) da.sy.toNat da.sy.toNat (wI (rz (aR (dFA da) (dFA db) (gB bo)) id i da.sy.toNat))])).map IV.val,36,1⟩::⟨.slice wa9 ((i+1)) wc9,(i+1),bvs ((List.range ((i+1))).map (fun j=>(aR (dFA da) (dFA db) (gB bo)).ac ((qm (aR (dFA da) (dFA db) (gB bo)) id ((i+1) * da.sy.toNat)).getD j 0))),4,1⟩::G)) (by show GR.mk _ _ _ _ _::GR.mk _ _ _ _ _::GR.mk _ _ (bvs _++[Value.bool _]) _ _::_=_;rw [fA,← gM (A:=(aR (dFA da) (dFA db) (gB bo))) (cls:=id) hle9 (show i≤(qm (aR (dFA da) (dFA db) (gB bo)) id (i * da.sy.toNat)).length by omega),eU (A:=(aR (dFA da) (dFA db) (gB bo))) (cls:=id) hgd ?_,List.map_append];rfl;rw [hbv];unfold gB;cases bo<;>cases xa<;>cases xb<;>first | rfl | contradiction)
      exact XF.round ((da.nl * db.nl) - (i+1)) [(2,_),(3,_),(4,_),(6,_),(7,_),(8,_),(9,_),(11,_),(12,_)] (by have:=hq1;omega) ⟨rfl,rfl,rfl,rfl,rfl,rfl,rfl,rfl,rfl,trivial⟩ ⟨i+1,sl9,sa,va9,wa9,sc,vc9,wc9,nm,(rs++[IV.mk (some ⟨B9,0,none⟩) da.sy.toNat da.sy.toNat (wI (rz (aR (dFA da) (dFA db) (gB bo)) id i da.sy.toNat))]),K3,by omega,rfl,rfl,hsl9,fun j hj=>(by
       rcases Nat.lt_or_ge j i with h9 | h9
       ·exact hrows j h9
       ·rw [show j=i by omega];exact hil),hnm,by simp [hrl],eA hrl hrs rfl jD,fun q hq=>k3 q (hsub q hq),fun h9 hk9 r hr=>(by
       rcases List.mem_append.1 hr with h | h
       ·exact hRH h9 (fun q hq=>hk9 q (k3 q hq)) r h
       ·rw [List.mem_singleton.1 h];exact gL (g3 h9 hk9)),hS9.keep K3 (fun q hq=>by simp [hq])⟩
  ·have hc47:=of_decide_eq_false hc;clear hc
   obtain rfl:sl=i:=by omega
   have hQ:QuoOk (aR (dFA da) (dFA db) (gB bo)) id sl:=⟨hO,hsl,hrows⟩
   have hsln:sl≤(da.nl * db.nl):=by rw [← hsl];exact hq1
   refine cV (XF.thenX (XF.thenX (XF.blkX (XF.thenN (aH (aN (bC (vs:=[_,_,_]) isAgg25 sizeOf25 rfl (aT.own (j:=0) (m:=3) (hS.at_ 1 rfl) rfl) rfl (bU (i:=2) (vs:=[_,_,_]) (cs':=[_,_,_]) (O':=(_::_::_::_::_::Ot)) hS sizeOf25 rfl rfl rfl rfl rfl rfl rfl fun W47 hS=>aK (XF.thenN (cK (XF.res (pS (vs:=[_,_,_]) results50 isAgg25 sizeOf25 rfl (aT.own (j:=0) (m:=3) (hS.at_ 2 rfl) rfl)) ?_)))))))))))
   obtain ⟨K5,k5,g5,hS5⟩:=((hS.keep Kk (fun q hq=>by simp [hq])).tailG).rowKeep
   obtain ⟨K6,k6,g6,hS6⟩:=hS5.rowKeep
   have hN1:sl≤100000:=by omega
   have hK1:(aR (dFA da) (dFA db) (gB bo)).k≤100000:=by show da.sy.toNat≤_;omega
   have hT:=Da hQ hN1 hK1
   have hag:=Db hQ hN1 hK1
   have hof:DOfT (qT (aR (dFA da) (dFA db) (gB bo)) id sl) ⟨da.sy,va,sl,vc,rs,wa,sl,wc,(List.range (sl)).map (fun j=>(aR (dFA da) (dFA db) (gB bo)).ac ((qm (aR (dFA da) (dFA db) (gB bo)) id (sl * da.sy.toNat)).getD j 0))⟩:=⟨by show da.sy=((da.sy.toNat:Nat):Int);omega,rfl,rfl,hrl,fun j r hr=>(by
    obtain ⟨u1,u2⟩:=hrs j r hr
    have hj:j < rs.length:=(List.getElem?_eq_some_iff.1 hr).1
    exact ⟨u1,u2.trans (Dc (N:=sl) (show j < sl by omega)).symm⟩),rfl⟩
   obtain ⟨p1,p2⟩:=prd_of hT hof (by show sl≤1024;omega) (by show da.sy.toNat≤4096;omega) (Nat.le_trans (Nat.mul_le_mul_right _ hsln) hMk)
   exact ⟨_,K6,p1,hsln,rfl,Eqv.trans (B:=(qT (aR (dFA da) (dFA db) (gB bo)) id sl).fa) p2.k (p2.eqv (show 0 < sl from hQ.pos)) (Eqv.trans (A:=(qT (aR (dFA da) (dFA db) (gB bo)) id sl).fa) (B:=quo (aR (dFA da) (dFA db) (gB bo)) id sl) rfl (hag.eqv hT.pos) (nI hQ zL)),rfl,fun z hz=>k6 z (k5 z (hsub z hz)),fun h9 hk9=>tP hT hof ⟨fun j r hr=>g5 h9 (fun z hz=>hk9 z (k6 z hz)) j _ (by rw [List.getElem?_map,hr];rfl),hRH h9 (fun z hz=>hk9 z (k6 z (k5 z hz)))⟩ (nQ (g6 h9 hk9)),hS6.tail.tail.tail.tail.tail⟩
theorem zO:cC prog 45=true:=by kernel_rfl
theorem zP:cC prog 49=true:=by kernel_rfl
theorem zQ:cC prog 50=true:=by kernel_rfl
theorem zR {d:DV} (h:cU d≠0):cU d=90:=by
 unfold cU at h ⊢
 split
 ·rfl
 ·split
  ·rename_i h1 h2;rw [if_neg h1,if_pos h2] at h;exact absurd rfl h
  ·rfl
theorem zS {a b:DV} (h:cU a≠0):cQ a b=90:=by unfold cQ;rw [if_pos h];exact zR h
theorem bothD_b {a b:DV} (h:cU b≠0):cQ a b=90:=by
 by_cases h1:cU a=0
 ·unfold cQ;rw [if_neg (by omega),if_pos h];exact zR h
 ·exact zS h1
theorem bothD_s {a b:DV} (h1:cU a=0) (h2:cU b=0) (h3:a.sy≠b.sy):cQ a b=1:=by unfold cQ;rw [if_neg (by omega),if_neg (by omega),if_pos h3]
theorem Dm:gB true=fun x y=>(x && y):=by funext x y;cases x<;>cases y<;>rfl
theorem gB_or:gB false=fun x y=>(x || y):=by funext x y;cases x<;>cases y<;>rfl
theorem vV {d1 d3 d5:DV} {A B:FA} {g:Bool→Bool→Bool} (h1:Lst d1 A) (h3:Lst d3 B) (hA:A.Ok) (hB:B.Ok) (hk:A.k=B.k) (k5:d5.sy=d1.sy) (e:Eqv (dFA d5) 0 (aR (dFA d1) (dFA d3) g) 0):Eqv (dFA d5) 0 (aR A B g) 0 :=
 Eqv.trans (A:=dFA d5) (B:=aR (dFA d1) (dFA d3) g) (show d5.sy.toNat=d1.sy.toNat by rw [k5]) e (qP (Dj h1) (Dj h3) hA hB (by rw [h1.k,h3.k,hk]) h1.k h3.k h1.eqv h3.eqv)
theorem zT {A:FA} (h:A.Ok):(nP A).Ok:=⟨h.pos,fun s x hs hx=>h.t0_ s x hs hx⟩
theorem xU {A B:FA} (hA:A.Ok) (hB:B.Ok) (hk:A.k=B.k):Eqv (aR A (nP B) (gB true)) 0 (aR A B (fun x y=>x && !y)) 0:=fun u hu=>by
 have hu:Wd A.k u:=hu
 rw [lC hA (zT hB) hk hu,lC hA hB hk hu,Cw,Dm]
theorem rX:lG zD zD=true:=by decide
abbrev Z3u:List Value:=[.int .i64 0,.slice none 0 0,.slice none 0 0]
def PmQ (al i:Nat) (v:Value) (ON:Own):Prop:=(i=al→∃ B,v = .pointer (some ⟨B,0,none⟩)∧ON=[(B,Z3u,25)])∧(i≠al→ON=[(0,[v],0)])
theorem PmQ.one {al i:Nat} {v:Value} (hi:i≠al):PmQ al i v [(0,[v],0)]:=⟨fun h=>absurd h hi,fun _=>rfl⟩
def ALq (al:Nat) (OA:Own) (s:Mks):Prop:=(mkN al s∧OA=[])∨∃ B,mkO al [(B,Z3u,25)] s∧OA=[(B,Z3u,25)]
theorem ALq.cons {al j:Nat} {OA N:Own} {s:Mks} (h:ALq al OA s) (hj:al≠j):ALq al OA ((j,N)::s):=by
 rcases h with ⟨h1,h2⟩ | ⟨B,h1,h2⟩
 ·exact .inl ⟨h1.cons hj,h2⟩
 ·exact .inr ⟨B,h1.cons hj,h2⟩
abbrev Kns:=List (Nat×World)
def RAt (al:Nat) (R:Nat→Value→Kns→Prop) (s:Mks) (Kq:Kns):Prop:=∀ (j:Nat) (v:Value),j≠al→(∃ ON,(j,ON)∈s∧PmQ al j v ON)→R j v Kq
def GQ (al:Nat) (R:Nat→Value→Kns→Prop) (w0:World) (O:Own) (G:bN) (K:Kns) (s:Mks) (w:World):Prop:=∃ (OA:Own) (Kq:Kns),ALq al OA s∧(∀ q∈K,q∈Kq)∧RAt al R s Kq∧St w0 (OA++O) G Kq w
section
variable {al:Nat} {R:Nat→Value→Kns→Prop} {w0 w:World} {O:Own} {G:bN} {K:Kns} {s:Mks}
theorem GQ.start (hS:St w0 O G K w):GQ al R w0 O G K [] w:=⟨[],K,.inl ⟨mkN.nil,rfl⟩,fun _ h=>h,fun j v _ h=>(by obtain ⟨ON,h,_⟩:=h;cases h),hS⟩
theorem GQ.own (h:GQ al R w0 O G K s w):∀ p∈O,w.heap[p.1]?=some (.cells p.2.1.toArray p.2.2 (0,0)):=fun p hp=>by
 obtain ⟨OA,Kq,_,_,_,hS⟩:=h
 exact (hS.own p (List.mem_append_right _ hp)).2
theorem GQ.put (hm:∀ j v K1 K2,(∀ q∈K1,q∈K2)→R j v K1→R j v K2) {OA:Own} {Kq Kn:Kns} {w':World} {i:Nat} {v:Value} (hA:ALq al OA s) (hk:∀ q∈K,q∈Kq) (hR:RAt al R s Kq) (hi:i≠al) (hkn:∀ q∈Kq,q∈Kn) (hr:R i v Kn) (hS:St w0 (OA++O) G Kn w'):GQ al R w0 O G K ((i,[(0,[v],0)])::s) w':=by
 refine ⟨OA,Kn,hA.cons (Ne.symm hi),fun q hq=>hkn q (hk q hq),fun j v' hj hON=>?_,hS⟩
 obtain ⟨ON,h,hp⟩:=hON
 rcases List.mem_cons.1 h with e | h
 ·obtain ⟨rfl,rfl⟩:=Prod.mk.inj e
  have h1:=hp.2 hj
  simp at h1
  rw [← h1];exact hr
 ·exact hm j v' Kq Kn hkn (hR j v' hj ⟨ON,h,hp⟩)
theorem GQ.alloc (h:GQ al R w0 O G K s w) (hn:mkN al s):GQ al R w0 O G K ((al,[(w.heap.size,Z3u,25)])::s) (w.alloc (.cells Z3u.toArray 25)):=by
 obtain ⟨OA,Kq,hA,hk,hR,hS⟩:=h
 rcases hA with ⟨_,rfl⟩ | ⟨B,h11,_⟩
 ·refine ⟨[(w.heap.size,Z3u,25)],Kq,.inr ⟨_,hn.one,rfl⟩,hk,fun j v' hj hON=>?_,hS.alloc _ _⟩
  obtain ⟨ON,h,hp⟩:=hON
  rcases List.mem_cons.1 h with e | h
  ·exact absurd (Prod.mk.inj e).1 hj
  ·exact hR j v' hj ⟨ON,h,hp⟩
 ·exact absurd h11.has (hn _)
theorem GQ.done (h:GQ al R w0 O G K s w) {p:Value} (hp:∃ ON,(al,ON)∈s∧PmQ al al p ON):∃ (B:Nat) (Kq:Kns),p = .pointer (some ⟨B,0,none⟩)∧(∀ q∈K,q∈Kq)∧RAt al R s Kq∧St w0 ((B,Z3u,25)::O) G Kq w:=by
 obtain ⟨OA,Kq,hA,hk,hR,hS⟩:=h
 obtain ⟨ON,h9,hP⟩:=hp
 rcases hA with ⟨hn,_⟩ | ⟨B,h11,rfl⟩
 ·exact absurd h9 (hn _)
 ·obtain rfl:=(h11 _).1 h9
  obtain ⟨B2,rfl,e2⟩:=hP.1 rfl
  obtain rfl:B=B2:=by simpa using e2
  exact ⟨B,Kq,rfl,hk,hR,hS⟩
theorem GQ.end9 (h:GQ al R w0 O G K s w) (hn:mkN al s):∃ (Kq:Kns),(∀ q∈K,q∈Kq)∧RAt al R s Kq∧St w0 O G Kq w:=by
 obtain ⟨OA,Kq,hA,hk,hR,hS⟩:=h
 rcases hA with ⟨_,rfl⟩ | ⟨B,h11,rfl⟩
 ·exact ⟨Kq,hk,hR,hS⟩
 ·exact absurd h11.has (hn _)
end
def RMd (w0:World) (da db:DV) (bo:Bool) (j:Nat) (v:Value) (Kq:Kns):Prop :=
 if j=1 then ∃ d:DV,v=d.val∧Lst d (dFA da)∧d.nl≤da.nl∧cL w0 Kq (fun W=>DIn W d)
 else if j=3 then ∃ d:DV,v=d.val∧Lst d (dFA db)∧d.nl≤db.nl∧cL w0 Kq (fun W=>DIn W d)
 else if j=5 then ∃ d:DV,v=d.val∧cU d=0∧d.sy=da.sy∧Eqv (dFA d) 0 (aR (dFA da) (dFA db) (gB bo)) 0∧cL w0 Kq (fun W=>DIn W d)
 else if j=6 then ∃ d:DV,v=d.val∧Lst d (aR (dFA da) (dFA db) (gB bo))∧cL w0 Kq (fun W=>DIn W d)
 else True
theorem RMd.mono {w0:World} {da db:DV} {bo:Bool}:∀ j v K1 K2,(∀ q∈K1,q∈K2)→RMd w0 da db bo j v K1→RMd w0 da db bo j v K2:=fun j v K1 K2 hk h=>by
 unfold RMd at h ⊢
 split
 ·rename_i e;rw [if_pos e] at h;obtain ⟨d,h1,h2,h3,h4⟩:=h;exact ⟨d,h1,h2,h3,h4.moreK hk⟩
 ·rename_i e;rw [if_neg e] at h
  split
  ·rename_i e;rw [if_pos e] at h;obtain ⟨d,h1,h2,h3,h4⟩:=h;exact ⟨d,h1,h2,h3,h4.moreK hk⟩
  ·rename_i e;rw [if_neg e] at h
   split
   ·rename_i e;rw [if_pos e] at h;obtain ⟨d,h1,h2,h3,h4,h5⟩:=h;exact ⟨d,h1,h2,h3,h4,h5.moreK hk⟩
   ·rename_i e;rw [if_neg e] at h
    split
    ·rename_i e;rw [if_pos e] at h;obtain ⟨d,h1,h2,h3⟩:=h;exact ⟨d,h1,h2,h3.moreK hk⟩
    ·trivial
def RWd (w0:World) (da d2:DV) (B:FA) (j:Nat) (v:Value) (Kq:Kns):Prop :=
 if j=1 then ∃ d:DV,v=d.val∧Lst d (dFA da)∧d.nl≤da.nl∧cL w0 Kq (fun W=>DIn W d)
 else if j=3 then ∃ d:DV,v=d.val∧cU d=0∧d.sy=da.sy∧Eqv (dFA d) 0 (aR (dFA da) B (gB true)) 0∧cL w0 Kq (fun W=>DIn W d)
 else if j=4∨j=5 then ∃ (r:Option (List Nat)) (wa:Option Addr) (wc:Nat),v = .tuple #[.slice wa (r.getD []).length wc,.bool r.isSome]∧FW (aR (dFA da) B (gB true)) r∧(r.getD []).length≤1024∧cL w0 Kq (fun W=>Row W wa (wI (r.getD [])))
 else if j=6∨j=8 then ∃ (r:Option (List Nat)) (wa:Option Addr) (wc:Nat),v = .slice wa (r.getD []).length wc∧FW (aR (dFA da) B (gB true)) r∧(r.getD []).length≤1024∧cL w0 Kq (fun W=>Row W wa (wI (r.getD [])))
 else if j=7 then ∃ (r:Option (List Nat)),v = .bool r.isSome∧FW (aR (dFA da) B (gB true)) r
 else True
theorem RWd.mono {w0:World} {da d2:DV} {B:FA}:∀ j v K1 K2,(∀ q∈K1,q∈K2)→RWd w0 da d2 B j v K1→RWd w0 da d2 B j v K2:=fun j v K1 K2 hk h=>by
 unfold RWd at h ⊢
 split
 ·rename_i e;rw [if_pos e] at h;obtain ⟨d,h1,h2,h3,h4⟩:=h;exact ⟨d,h1,h2,h3,h4.moreK hk⟩
 ·rename_i e;rw [if_neg e] at h
  split
  ·rename_i e;rw [if_pos e] at h;obtain ⟨d,h1,h2,h3,h4,h5⟩:=h;exact ⟨d,h1,h2,h3,h4,h5.moreK hk⟩
  ·rename_i e;rw [if_neg e] at h
   split
   ·rename_i e;rw [if_pos e] at h;obtain ⟨r,wa,wc,h1,h2,h3,h4⟩:=h;exact ⟨r,wa,wc,h1,h2,h3,h4.moreK hk⟩
   ·rename_i e;rw [if_neg e] at h
    split
    ·rename_i e;rw [if_pos e] at h;obtain ⟨r,wa,wc,h1,h2,h3,h4⟩:=h;exact ⟨r,wa,wc,h1,h2,h3,h4.moreK hk⟩
    ·rename_i e;rw [if_neg e] at h;exact h
theorem vW (da db:DV) (w:World) (hDa:DIn w da) (hDb:DIn w db) :
  Calls prog 49 #[da.val,db.val] w (fun e w'=>e = .returned (.int .i64 (cQ da db))∧Below w.heap.size w w'):=by
 refine cP (args:=[da.val,db.val]) func49 rfl ntmps49 rfl ?_
 have hS:=St.start w
 refine aH (aN (cI (cs:=[_,_,_]) hS rfl rfl rfl fun B1 W1 hS=>cI (cs:=[_,_,_]) hS rfl rfl rfl fun B2 W2 hS=>aB rfl rfl (aK (XF.thenN (aH (aH (aN (bC (vs:=[_,_,_]) isAgg25 sizeOf25 rfl (aT.own (j:=0) (m:=3) (hS.at_ 1 rfl) rfl) rfl (dX (vs:=[_]) hS pI rfl (pB da _ (hDa.below hS.below)) rfl fun W3 hS=>dR rfl rfl rfl (aA rfl rfl (bZ (d:=8) rfl (fun hc=>?_) (fun hc=>?_))))))))))))
 ·have hg8:=of_decide_eq_true hc;clear hc
  refine aQ (d:=8) rfl rfl rfl rfl (aQ (d:=8) rfl rfl rfl rfl (aQ (d:=8) rfl rfl rfl rfl (bI rfl rfl rfl (aK (XF.thenN (fT rfl (aH (aN (aB rfl rfl (aK (XF.thenN (cK (XF.thenR (XF.res (cZ results49 rfl) ?_))))))))))))))
  exact ⟨gO (by rw [zS hg8]),hS.below⟩
 ·have hg8:=of_decide_eq_false hc;clear hc
  refine aE (d:=8) rfl rfl (bC (vs:=[_,_,_]) isAgg25 sizeOf25 rfl (aT.own (j:=0) (m:=3) (hS.at_ 0 rfl) rfl) rfl (aE (d:=8) rfl rfl (dX (vs:=[_]) hS pI rfl (pB db _ (hDb.below hS.below)) rfl fun W4 hS=>aE (d:=8) rfl rfl (dR rfl rfl rfl (cG rfl rfl rfl (aK (XF.thenN (bS rfl (fun hc=>?_) (fun hc=>?_)))))))))
  ·have hc12:=of_decide_eq_true hc;clear hc
   refine aH (aN (aB rfl rfl (aK (XF.thenN (cK (XF.thenR (XF.res (cZ results49 rfl) ?_)))))))
   exact ⟨gO (by rw [bothD_b hc12]),hS.below⟩
  ·have hc12:=of_decide_eq_false hc;clear hc
   refine bV (XF.thenN (aH (aH (aN (aU (o':=0) dC rfl rfl rfl (aP isAgg3 rfl (aD (hS.at_ 1 rfl) rfl) rfl (aU (o':=0) dC rfl rfl rfl (aP isAgg3 rfl (aD (hS.at_ 0 rfl) rfl) rfl (dR rfl rfl rfl (aK (XF.thenN (bS rfl (fun hc=>?_) (fun hc=>?_)))))))))))))
   ·have hc17:=of_decide_eq_true hc;clear hc
    refine aH (aN (aB rfl rfl (aK (XF.thenN (cK (XF.thenR (XF.res (cZ results49 rfl) ?_)))))))
    exact ⟨gO (by rw [bothD_s (by omega) (by omega) hc17]),hS.below⟩
   ·have hc17:=of_decide_eq_false hc;clear hc
    refine bV (XF.thenN (aH (aN (aB rfl rfl (aK (XF.thenN (cK (XF.res (cZ results49 rfl) ?_))))))))
    exact ⟨gO (by rw [C5 (by omega) (by omega) (by omega)]),hS.below⟩
theorem nT (da db:DV) (Kt:List (Nat×World)) (Ot:Own) (G:bN) (K:List (Nat×World)) (w0 w:World) (hS0:St w0 Ot G K w) (hKt:∀ q∈Kt,q∈K) (hDa:cL w0 Kt (fun W=>DIn W da)) (hDb:cL w0 Kt (fun W=>DIn W db)) (f:FuncId) (hbad:cQ da db≠0) :
  Calls prog 43 #[da.val,db.val,.func (.func f) #[] #[]] w (fun e w'=>e = .returned (.tuple #[zD.val,.int .i64 (cQ da db)])∧St w0 Ot G K w'):=by
 refine cP (args:=[da.val,db.val,.func (.func f) #[] #[]]) func43 rfl ntmps43 rfl ?_
 have hS:=hS0
 refine aH (aN (cI (cs:=[_,_,_]) hS rfl rfl rfl fun B1 W1 hS=>cI (cs:=[_,_,_]) hS rfl rfl rfl fun B2 W2 hS=>cE (cs:=[_,_,_]) hS zeroValue25 rfl rfl fun B3 W3 hS=>aB rfl rfl (aK (XF.thenN (aH (aH (aN (bC (vs:=[_,_,_]) isAgg25 sizeOf25 rfl (aT.own (j:=0) (m:=3) (hS.at_ 2 rfl) rfl) rfl (bC (vs:=[_,_,_]) isAgg25 sizeOf25 rfl (aT.own (j:=0) (m:=3) (hS.at_ 1 rfl) rfl) rfl (bW (vs:=[_,_]) tO rfl (kG da db _ (hDa (hS.keep K (fun q hq=>by simp [hq])) hKt) (hDb (hS.keep K (fun q hq=>by simp [hq])) hKt)) rfl ?_))))))))))
 rintro e W9 ⟨rfl,hb9⟩
 refine ⟨_,rfl,?_⟩
 have hS':=hS.grow hb9;clear hS;have hS:=hS';clear hS'
 refine aB rfl rfl (aK (XF.thenN (aH (aN (aA rfl rfl (dR rfl rfl rfl (aK (XF.thenN (bS rfl (fun hc=>?_) (fun hc=>absurd (of_decide_eq_false hc) (by exact absurd hbad (of_decide_eq_false hc))))))))))))
 have hc:=of_decide_eq_true hc
 refine aH (aN (dP (us:=[]) rfl (qS) rfl (aA rfl rfl (bU (i:=0) (vs:=[_,_,_]) (cs':=[_,_,_]) (O':=(_::_::_::Ot)) hS sizeOf25 rfl rfl rfl rfl rfl rfl rfl fun W4 hS=>aB rfl rfl (aK (XF.thenN (cK (XF.thenR (XF.res (gX (vs:=[_,_,_]) results43 isAgg25 sizeOf25 rfl (aT.own (j:=0) (m:=3) (hS.at_ 0 rfl) rfl) rfl) ?_)))))))))
 exact ⟨rfl,(hS.keep K (fun q hq=>by simp [hq])).tail.tail.tail⟩
theorem Ax (da db:DV) (Kt:List (Nat×World)) (Ot:Own) (G:bN) (K:List (Nat×World)) (w0 w:World) (hS0:St w0 Ot G K w) (hKt:∀ q∈Kt,q∈K) (hDa:cL w0 Kt (fun W=>DIn W da)) (hDb:cL w0 Kt (fun W=>DIn W db)) (hbad:cQ da db≠0) :
  Calls prog 26 #[da.val,db.val] w (fun e w'=>e = .returned (.tuple #[zD.val,.int .i64 (cQ da db)])∧St w0 Ot G K w'):=by
 refine cP (args:=[da.val,db.val]) func26 rfl ntmps26 rfl ?_
 have hS:=hS0
 refine aH (aN (cI (cs:=[_,_,_]) hS rfl rfl rfl fun B1 W1 hS=>cI (cs:=[_,_,_]) hS rfl rfl rfl fun B2 W2 hS=>cE (cs:=[_,_,_]) hS zeroValue25 rfl rfl fun B3 W3 hS=>aB rfl rfl (aK (XF.thenN (aH (aN (bC (vs:=[_,_,_]) isAgg25 sizeOf25 rfl (aT.own (j:=0) (m:=3) (hS.at_ 2 rfl) rfl) rfl (bC (vs:=[_,_,_]) isAgg25 sizeOf25 rfl (aT.own (j:=0) (m:=3) (hS.at_ 1 rfl) rfl) rfl (bW (vs:=[_,_,_]) pM rfl (nT da db Kt _ _ K w0 _ (hS.keep K (fun q hq=>by simp [hq])) hKt hDa hDb 44 hbad) rfl ?_)))))))))
 rintro e W9 ⟨rfl,hS9⟩
 refine ⟨_,rfl,?_⟩
 clear hS;have hS:=hS9;clear hS9
 refine bO rfl rfl rfl (bO rfl rfl rfl (bU (i:=0) (vs:=[_,_,_]) (cs':=[_,_,_]) (O':=(_::_::_::Ot)) hS sizeOf25 rfl rfl rfl rfl rfl rfl rfl fun W4 hS=>aB rfl rfl (aK (XF.thenN (cK (XF.res (gX (vs:=[_,_,_]) results26 isAgg25 sizeOf25 rfl (aT.own (j:=0) (m:=3) (hS.at_ 0 rfl) rfl) rfl) ?_))))))
 exact ⟨rfl,(hS.keep K (fun q hq=>by simp [hq])).tail.tail.tail⟩
theorem vX (da db:DV) (Kt:List (Nat×World)) (Ot:Own) (G:bN) (K:List (Nat×World)) (w0 w:World) (hS0:St w0 Ot G K w) (hKt:∀ q∈Kt,q∈K) (hDa:cL w0 Kt (fun W=>DIn W da)) (hDb:cL w0 Kt (fun W=>DIn W db)) (hbad:cQ da db≠0) :
  Calls prog 28 #[da.val,db.val] w (fun e w'=>e = .returned (.tuple #[zD.val,.int .i64 (cQ da db)])∧St w0 Ot G K w'):=by
 refine cP (args:=[da.val,db.val]) func28 rfl ntmps28 rfl ?_
 have hS:=hS0
 refine aH (aN (cI (cs:=[_,_,_]) hS rfl rfl rfl fun B1 W1 hS=>cI (cs:=[_,_,_]) hS rfl rfl rfl fun B2 W2 hS=>cE (cs:=[_,_,_]) hS zeroValue25 rfl rfl fun B3 W3 hS=>aB rfl rfl (aK (XF.thenN (aH (aN (bC (vs:=[_,_,_]) isAgg25 sizeOf25 rfl (aT.own (j:=0) (m:=3) (hS.at_ 2 rfl) rfl) rfl (bC (vs:=[_,_,_]) isAgg25 sizeOf25 rfl (aT.own (j:=0) (m:=3) (hS.at_ 1 rfl) rfl) rfl (bW (vs:=[_,_,_]) pM rfl (nT da db Kt _ _ K w0 _ (hS.keep K (fun q hq=>by simp [hq])) hKt hDa hDb 46 hbad) rfl ?_)))))))))
 rintro e W9 ⟨rfl,hS9⟩
 refine ⟨_,rfl,?_⟩
 clear hS;have hS:=hS9;clear hS9
 refine bO rfl rfl rfl (bO rfl rfl rfl (bU (i:=0) (vs:=[_,_,_]) (cs':=[_,_,_]) (O':=(_::_::_::Ot)) hS sizeOf25 rfl rfl rfl rfl rfl rfl rfl fun W4 hS=>aB rfl rfl (aK (XF.thenN (cK (XF.res (gX (vs:=[_,_,_]) results28 isAgg25 sizeOf25 rfl (aT.own (j:=0) (m:=3) (hS.at_ 0 rfl) rfl) rfl) ?_))))))
 exact ⟨rfl,(hS.keep K (fun q hq=>by simp [hq])).tail.tail.tail⟩
theorem xV (da db:DV) (Kt:List (Nat×World)) (Ot:Own) (G:bN) (K:List (Nat×World)) (w0 w:World) (hS0:St w0 Ot G K w) (hKt:∀ q∈Kt,q∈K) (hDa:cL w0 Kt (fun W=>DIn W da)) (hDb:cL w0 Kt (fun W=>DIn W db)) (hsa:da.nl≤24) (hsb:db.nl≤24) (hk6:cQ da db=0→da.sy≤6):Calls prog 26 #[da.val,db.val] w (fun e w'=>∃ (d2:DV) (Kn:List (Nat×World)),(cQ da db=0→Lst d2 (aR (dFA da) (dFA db) (fun x y=>(x && y))))∧(cQ da db≠0→d2=zD)∧e = .returned (.tuple #[d2.val,.int .i64 (cQ da db)])∧(∀ q∈K,q∈Kn)∧cL w0 Kn (fun W=>DIn W d2)∧St w0 Ot G Kn w'):=by
 by_cases hb:cQ da db=0
 ·refine (Dh da db Kt Ot G K w0 w hS0 hKt hDa hDb hsa hsb (hk6 hb)).mono ?_
  rintro e w' ⟨d2,Kn,h1,h2,h3,h4,h5,h6⟩
  exact ⟨d2,Kn,fun h=>(h1 h).1,h2,h3,h4,h5,h6⟩
 ·refine (Ax da db Kt Ot G K w0 w hS0 hKt hDa hDb hb).mono ?_
  rintro e w' ⟨h3,h6⟩
  exact ⟨zD,K,fun h=>absurd h hb,fun _=>rfl,h3,fun q hq=>hq,fun _ _=>oK,h6⟩
theorem tW (da db:DV) (Kt:List (Nat×World)) (Ot:Own) (G:bN) (K:List (Nat×World)) (w0 w:World) (hS0:St w0 Ot G K w) (hKt:∀ q∈Kt,q∈K) (hDa:cL w0 Kt (fun W=>DIn W da)) (hDb:cL w0 Kt (fun W=>DIn W db)) (hsa:da.nl≤24) (hsb:db.nl≤24) (hk6:cQ da db=0→da.sy≤6):Calls prog 28 #[da.val,db.val] w (fun e w'=>∃ (d2:DV) (Kn:List (Nat×World)),(cQ da db=0→Lst d2 (aR (dFA da) (dFA db) (fun x y=>(x || y))))∧(cQ da db≠0→d2=zD)∧e = .returned (.tuple #[d2.val,.int .i64 (cQ da db)])∧(∀ q∈K,q∈Kn)∧cL w0 Kn (fun W=>DIn W d2)∧St w0 Ot G Kn w'):=by
 by_cases hb:cQ da db=0
 ·refine (xT da db Kt Ot G K w0 w hS0 hKt hDa hDb hsa hsb (hk6 hb)).mono ?_
  rintro e w' ⟨d2,Kn,h1,h2,h3,h4,h5,h6⟩
  exact ⟨d2,Kn,fun h=>(h1 h).1,h2,h3,h4,h5,h6⟩
 ·refine (vX da db Kt Ot G K w0 w hS0 hKt hDa hDb hb).mono ?_
  rintro e w' ⟨h3,h6⟩
  exact ⟨zD,K,fun h=>absurd h hb,fun _=>rfl,h3,fun q hq=>hq,fun _ _=>oK,h6⟩
theorem rY (da db:DV) (Kt:List (Nat×World)) (Ot:Own) (G:bN) (K:List (Nat×World)) (w0 w:World) (hS0:St w0 Ot G K w) (hKt:∀ q∈Kt,q∈K) (hDa:cL w0 Kt (fun W=>DIn W da)) (hDb:cL w0 Kt (fun W=>DIn W db)) (bo:Bool) (hsa:da.nl≤24) (hsb:db.nl≤24) (hk6:cQ da db=0→da.sy≤6) :
  Calls prog 45 #[da.val,db.val,.bool bo] w (fun e w'=>∃ (d2:DV) (Kn:List (Nat×World)),(cQ da db=0→Lst d2 (aR (dFA da) (dFA db) (gB bo)))∧(cQ da db≠0→d2=zD)∧e = .returned (.tuple #[d2.val,.int .i64 (cQ da db)])∧(∀ q∈K,q∈Kn)∧cL w0 Kn (fun W=>DIn W d2)∧St w0 Ot G Kn w'):=by
 refine cP (args:=[da.val,db.val,.bool bo]) func45 rfl ntmps45 rfl ?_
 have hS:=hS0
 refine aH (aN (cI (cs:=[_,_,_]) hS rfl rfl rfl fun B1 W1 hS=>cI (cs:=[_,_,_]) hS rfl rfl rfl fun B2 W2 hS=>cE (cs:=[_,_,_]) hS zeroValue25 rfl rfl fun B3 W3 hS=>aB rfl rfl (aK (XF.thenN (aH (aN (bC (vs:=[_,_,_]) isAgg25 sizeOf25 rfl (aT.own (j:=0) (m:=3) (hS.at_ 2 rfl) rfl) rfl (bC (vs:=[_,_,_]) isAgg25 sizeOf25 rfl (aT.own (j:=0) (m:=3) (hS.at_ 1 rfl) rfl) rfl (bW (vs:=[_,_]) zP rfl (vW da db _ (hDa (hS.keep K (fun q hq=>by simp [hq])) hKt) (hDb (hS.keep K (fun q hq=>by simp [hq])) hKt)) rfl ?_)))))))))
 rintro e W9 ⟨rfl,hb9⟩
 refine ⟨_,rfl,?_⟩
 have hS':=hS.grow hb9;clear hS;have hS:=hS';clear hS'
 refine aB rfl rfl (aK (XF.thenN (aH (aH (aN (aA rfl rfl (dR rfl rfl rfl (aK (XF.thenN (bS rfl (fun hc=>?_) (fun hc=>?_)))))))))))
 ·have hc14:=of_decide_eq_true hc;clear hc
  refine aH (aN (dP (us:=[]) rfl (qS) rfl (aA rfl rfl (bU (i:=0) (vs:=[_,_,_]) (cs':=[_,_,_]) (O':=(_::_::_::Ot)) hS sizeOf25 rfl rfl rfl rfl rfl rfl rfl fun W4 hS=>aB rfl rfl (aK (XF.thenN (cK (XF.thenR (XF.res (gX (vs:=[_,_,_]) results45 isAgg25 sizeOf25 rfl (aT.own (j:=0) (m:=3) (hS.at_ 0 rfl) rfl) rfl) ?_)))))))))
  exact ⟨zD,K,fun h=>absurd h hc14,fun _=>rfl,rfl,fun q hq=>hq,fun _ _=>oK,(hS.keep K (fun q hq=>by simp [hq])).tail.tail.tail⟩
 ·have hc14:=of_decide_eq_false hc;clear hc
  have h0:cQ da db=0:=Decidable.of_not_not hc14
  have hk9:=hk6 h0
  obtain ⟨hea,heb,hsy⟩:=lJ h0
  have hOa:=jM (hDa (hS.keep K (fun q hq=>by simp [hq])) hKt) hea
  have hOb:=jM (hDb (hS.keep K (fun q hq=>by simp [hq])) hKt) heb
  have hkk:(dFA da).k=(dFA db).k:=by show da.sy.toNat=db.sy.toNat;rw [hsy]
  refine bV (XF.thenN (aH ?_))
  have hS9:=hS.keep K (fun q hq=>by simp [hq])
  clear hS;have hS:=hS9;clear hS9
  refine vH (mk:=[1,3,5,6,7]) (k:=8) (vals:=(fun i8=>match i8 with | 0=>da.val | 2=>db.val | _=>.bool bo)) (Pm:=PmQ 7) (GQ 7 (RMd w0 da db bo) w0 ((B3,[.int .i64 0,.slice none 0 0,.slice none 0 0],25)::(B2,[.int .i64 db.sy,.slice db.na db.nl db.nc,.slice db.aa db.al db.ac],25)::(B1,[.int .i64 da.sy,.slice da.na da.nl da.nc,.slice da.aa da.al da.ac],25)::Ot) G K) cA (GQ.start hS.drew) (Nat.le_of_ble_eq_true (by kernel_rfl)) (by kernel_rfl) (by kernel_rfl) ?_ ?_ (by decide) ?_
  ·intro i9 hi9 hin s a0 c9 w ha0 hF9 hG hD
   have hfr:∀ t v,freeT _ t=true→dO _ t=some v→c9.eval (.tmp t)=v:=fun t v h1 h2=>(hF9 t h1).trans (ha0.at_ t v h2)
   have hb3:=hG.own (B1,[.int .i64 da.sy,.slice da.na da.nl da.nc,.slice da.aa da.al da.ac],25) (List.mem_cons_of_mem _ (List.mem_cons_of_mem _ List.mem_cons_self))
   have hb4:=hG.own (B2,[.int .i64 db.sy,.slice db.na db.nl db.nc,.slice db.aa db.al db.ac],25) (List.mem_cons_of_mem _ List.mem_cons_self)
   match i9,hi9,hin with
   | 0,_,_=>exact ⟨_,rfl,rfl,by
    exact dL (l:=[(3,.pointer (some ⟨B1,0,none⟩))]) (vs:=[_,_,_]) isAgg25 sizeOf25 rfl (aT.own (j:=0) (m:=3) hb3 rfl) c9.eval (fW (hfr 3 _ (by kernel_rfl) rfl))⟩
   | 1,_,h9=>exact absurd (by decide) h9
   | 2,_,_=>exact ⟨_,rfl,rfl,by
    exact dL (l:=[(4,.pointer (some ⟨B2,0,none⟩))]) (vs:=[_,_,_]) isAgg25 sizeOf25 rfl (aT.own (j:=0) (m:=3) hb4 rfl) c9.eval (fW (hfr 4 _ (by kernel_rfl) rfl))⟩
   | 3,_,h9=>exact absurd (by decide) h9
   | 4,_,_=>exact ⟨_,rfl,rfl,by
    exact aV (l:=[(2,.bool bo)]) rfl c9.eval (fW (hfr 2 _ (by kernel_rfl) rfl))⟩
   | 5,_,h9=>exact absurd (by decide) h9
   | 6,_,h9=>exact absurd (by decide) h9
   | 7,_,h9=>exact absurd (by decide) h9
   | i+8,h9,_=>omega
  ·intro i9 him s a0 c9 w ha0 hF9 hG hnew hD
   have hcase:i9=1∨i9=3∨i9=5∨i9=6∨i9=7:=by simpa using him
   rcases hcase with rfl | rfl | rfl | rfl | rfl
   ·have h0:=(hD 0 17 (by kernel_rfl)).1 (by decide)
    obtain ⟨OA,Kq,hA,hkq,hR,hS9⟩:=hG
    refine gK (vs:=[da.val]) rfl nS (by simp only [List.map_cons,List.map_nil,h0]) ((jX da Kt _ _ Kq w0 _ hS9 (fun q hq=>hkq q (hKt q hq)) hDa hea).mono ?_)
    rintro e w2 ⟨d2,K2,hL,hn2,rfl,hk2,hD2,hS8⟩
    exact ⟨_,[(0,[_],0)],rfl,PmQ.one (by decide),GQ.put RMd.mono hA hkq hR (by decide) hk2 (show RMd w0 da db bo 1 _ _ from ⟨d2,rfl,hL,hn2,hD2⟩) hS8⟩
   ·have h0:=(hD 2 19 (by kernel_rfl)).1 (by decide)
    obtain ⟨OA,Kq,hA,hkq,hR,hS9⟩:=hG
    refine gK (vs:=[db.val]) rfl nS (by simp only [List.map_cons,List.map_nil,h0]) ((jX db Kt _ _ Kq w0 _ hS9 (fun q hq=>hkq q (hKt q hq)) hDb heb).mono ?_)
    rintro e w2 ⟨d2,K2,hL,hn2,rfl,hk2,hD2,hS8⟩
    exact ⟨_,[(0,[_],0)],rfl,PmQ.one (by decide),GQ.put RMd.mono hA hkq hR (by decide) hk2 (show RMd w0 da db bo 3 _ _ from ⟨d2,rfl,hL,hn2,hD2⟩) hS8⟩
   ·have h4:=(hD 4 21 (by kernel_rfl)).1 (by decide)
    obtain ⟨OA,Kq,hA,hkq,hR,hS9⟩:=hG
    have e1:=hR 1 _ (by decide) ((hD 1 18 (by kernel_rfl)).2 (by decide))
    have e3:=hR 3 _ (by decide) ((hD 3 20 (by kernel_rfl)).2 (by decide))
    obtain ⟨d1,v1,hL1,hn1,hD1⟩:=(show ∃ d:DV,_ from e1)
    obtain ⟨d3,v3,hL3,hn3,hD3⟩:=(show ∃ d:DV,_ from e3)
    have hsy1:=tV hL1 rfl hea
    have hsy3:=tV hL3 rfl heb
    have hmm:d1.nl * d3.nl≤24 * 24:=Nat.mul_le_mul (by omega) (by omega)
    refine gK (vs:=[d1.val,d3.val,.bool bo]) rfl zQ (by simp only [List.map_cons,List.map_nil,v1,v3,h4]) ((oT d1 d3 bo Kq _ _ Kq w0 _ hS9 (fun q hq=>hq) hD1 hD3 hL1.e hL3.e (by omega) (by omega) (Nat.le_trans (Nat.mul_le_mul hmm (show d1.sy.toNat≤6 by omega)) (by decide))).mono ?_)
    rintro e w2 ⟨d2,K2,hE,hn2,hs2,hq2,rfl,hk2,hD2,hS8⟩
    exact ⟨_,[(0,[_],0)],rfl,PmQ.one (by decide),GQ.put RMd.mono hA hkq hR (by decide) hk2 (show RMd w0 da db bo 5 _ _ from ⟨d2,rfl,hE,hs2.trans hsy1,vV hL1 hL3 hOa hOb hkk hs2 hq2,hD2⟩) hS8⟩
   ·obtain ⟨OA,Kq,hA,hkq,hR,hS9⟩:=hG
    have e5:=hR 5 _ (by decide) ((hD 5 22 (by kernel_rfl)).2 (by decide))
    obtain ⟨d5,v5,hE5,hs5,hq5,hD5⟩:=(show ∃ d:DV,_ from e5)
    refine gK (vs:=[d5.val]) rfl nS (by simp only [List.map_cons,List.map_nil,v5]) ((jX d5 Kq _ _ Kq w0 _ hS9 (fun q hq=>hq) hD5 hE5).mono ?_)
    rintro e w2 ⟨d2,K2,hL,hn2,rfl,hk2,hD2,hS8⟩
    exact ⟨_,[(0,[_],0)],rfl,PmQ.one (by decide),GQ.put RMd.mono hA hkq hR (by decide) hk2 (show RMd w0 da db bo 6 _ _ from ⟨d2,rfl,rW hL (show d5.sy.toNat=da.sy.toNat by rw [hs5]) hq5,hD2⟩) hS8⟩
   ·refine oR (cs:=Z3u) rfl zeroValue25 rfl ?_
    exact ⟨_,_,rfl,⟨fun _=>⟨_,rfl,rfl⟩,fun h=>absurd rfl h⟩,hG.alloc hnew⟩
  ·intro s c9 w hG hsz hdf hfr hval hin hmk hkeys hdist
   obtain ⟨B9,Kq,hp9,hkq,hR,hS2⟩:=hG.done (hmk 7 9 (by decide) rfl)
   obtain ⟨d4,v4,hL4,hD4⟩:=(show ∃ d:DV,_ from hR 6 _ (by decide) (hmk 6 23 (by decide) rfl))
   clear hS;have hS:=hS2;clear hS2
   refine (show cJ _ _ _ _ (List.drop 8 _) [(3,.pointer (some ⟨B1,0,none⟩)),(4,.pointer (some ⟨B2,0,none⟩)),(6,.pointer (some ⟨B3,0,none⟩)),(9,.pointer (some ⟨B9,0,none⟩)),(23,d4.val)] w from ?_) c9 (vI.has hsz hdf ⟨hfr 3 _ (by kernel_rfl) rfl,hfr 4 _ (by kernel_rfl) rfl,hfr 6 _ (by kernel_rfl) rfl,hp9,v4,trivial⟩)
   refine bU (i:=0) (vs:=[_,_,_]) (cs':=[_,_,_]) (O':=(_::_::_::_::Ot)) hS sizeOf25 rfl rfl rfl rfl rfl rfl rfl fun W5 hS=>aK (XF.thenN (aH (aH (aN (bC (vs:=[_,_,_]) isAgg25 sizeOf25 rfl (aT.own (j:=0) (m:=3) (hS.at_ 0 rfl) rfl) rfl (dX (vs:=[_]) hS pI rfl (pB d4 _ (hD4 (hS.keep Kq (fun q hq=>by simp [hq])) (fun q hq=>hq))) rfl fun W6 hS=>dR rfl rfl rfl (aK (XF.thenN (bS rfl (fun hc=>absurd (of_decide_eq_true hc) (by exact absurd hL4.e (of_decide_eq_true hc))) (fun hc=>?_))))))))))
   have hc:=of_decide_eq_false hc
   refine bV (XF.thenN (aH (aN (bC (vs:=[_,_,_]) isAgg25 sizeOf25 rfl (aT.own (j:=0) (m:=3) (hS.at_ 0 rfl) rfl) rfl (bU (i:=1) (vs:=[_,_,_]) (cs':=[_,_,_]) (O':=(_::_::_::_::Ot)) hS sizeOf25 rfl rfl rfl rfl rfl rfl rfl fun W7 hS=>aB rfl rfl (aK (XF.thenN (cK (XF.res (gX (vs:=[_,_,_]) results45 isAgg25 sizeOf25 rfl (aT.own (j:=0) (m:=3) (hS.at_ 1 rfl) rfl) rfl) ?_)))))))))
   exact ⟨d4,Kq,fun _=>hL4,fun h=>absurd h0 h,by rw [h0],hkq,hD4,(hS.keep Kq (fun q hq=>by simp [hq])).tail.tail.tail.tail⟩
theorem Ay (da db:DV) (Kt:List (Nat×World)) (Ot:Own) (G:bN) (K:List (Nat×World)) (w0 w:World) (hS0:St w0 Ot G K w) (hKt:∀ q∈Kt,q∈K) (hDa:cL w0 Kt (fun W=>DIn W da)) (hDb:cL w0 Kt (fun W=>DIn W db)) (hsa:da.nl≤24) (hsb:db.nl≤24) (hk6:cQ da db=0→da.sy≤6) :
  Calls prog 27 #[da.val,db.val] w (fun e w'=>∃ (d2:DV) (Kn:List (Nat×World)),(cQ da db=0→Lst d2 (aR (dFA da) (dFA db) (fun x y=>(x && y))))∧(cQ da db≠0→d2=zD)∧e = .returned (.tuple #[d2.val,.int .i64 (cQ da db)])∧(∀ q∈K,q∈Kn)∧cL w0 Kn (fun W=>DIn W d2)∧St w0 Ot G Kn w'):=by
 refine cP (args:=[da.val,db.val]) func27 rfl ntmps27 rfl ?_
 have hS:=hS0
 refine aH (aN (cI (cs:=[_,_,_]) hS rfl rfl rfl fun B1 W1 hS=>cI (cs:=[_,_,_]) hS rfl rfl rfl fun B2 W2 hS=>cE (cs:=[_,_,_]) hS zeroValue25 rfl rfl fun B3 W3 hS=>aB rfl rfl (aK (XF.thenN (aH (aN (bC (vs:=[_,_,_]) isAgg25 sizeOf25 rfl (aT.own (j:=0) (m:=3) (hS.at_ 2 rfl) rfl) rfl (bC (vs:=[_,_,_]) isAgg25 sizeOf25 rfl (aT.own (j:=0) (m:=3) (hS.at_ 1 rfl) rfl) rfl (bW (vs:=[_,_,_]) zO rfl (rY da db Kt _ _ K w0 _ (hS.keep K (fun q hq=>by simp [hq])) hKt hDa hDb true hsa hsb hk6) rfl ?_)))))))))
 rw [Dm]
 rintro e W9 ⟨d2,K2,hok,hbad,rfl,hk2,hD2,hS9⟩
 refine ⟨_,rfl,?_⟩
 clear hS;have hS:=hS9;clear hS9
 refine bO rfl rfl rfl (bO rfl rfl rfl (bU (i:=0) (vs:=[_,_,_]) (cs':=[_,_,_]) (O':=(_::_::_::Ot)) hS sizeOf25 rfl rfl rfl rfl rfl rfl rfl fun W4 hS=>aB rfl rfl (aK (XF.thenN (cK (XF.res (gX (vs:=[_,_,_]) results27 isAgg25 sizeOf25 rfl (aT.own (j:=0) (m:=3) (hS.at_ 0 rfl) rfl) rfl) ?_))))))
 exact ⟨d2,K2,hok,hbad,rfl,hk2,hD2,(hS.keep K2 (fun q hq=>by simp [hq])).tail.tail.tail⟩
theorem vY (da db:DV) (Kt:List (Nat×World)) (Ot:Own) (G:bN) (K:List (Nat×World)) (w0 w:World) (hS0:St w0 Ot G K w) (hKt:∀ q∈Kt,q∈K) (hDa:cL w0 Kt (fun W=>DIn W da)) (hDb:cL w0 Kt (fun W=>DIn W db)) (hsa:da.nl≤24) (hsb:db.nl≤24) (hk6:cQ da db=0→da.sy≤6) :
  Calls prog 29 #[da.val,db.val] w (fun e w'=>∃ (d2:DV) (Kn:List (Nat×World)),(cQ da db=0→Lst d2 (aR (dFA da) (dFA db) (fun x y=>(x || y))))∧(cQ da db≠0→d2=zD)∧e = .returned (.tuple #[d2.val,.int .i64 (cQ da db)])∧(∀ q∈K,q∈Kn)∧cL w0 Kn (fun W=>DIn W d2)∧St w0 Ot G Kn w'):=by
 refine cP (args:=[da.val,db.val]) func29 rfl ntmps29 rfl ?_
 have hS:=hS0
 refine aH (aN (cI (cs:=[_,_,_]) hS rfl rfl rfl fun B1 W1 hS=>cI (cs:=[_,_,_]) hS rfl rfl rfl fun B2 W2 hS=>cE (cs:=[_,_,_]) hS zeroValue25 rfl rfl fun B3 W3 hS=>aB rfl rfl (aK (XF.thenN (aH (aN (bC (vs:=[_,_,_]) isAgg25 sizeOf25 rfl (aT.own (j:=0) (m:=3) (hS.at_ 2 rfl) rfl) rfl (bC (vs:=[_,_,_]) isAgg25 sizeOf25 rfl (aT.own (j:=0) (m:=3) (hS.at_ 1 rfl) rfl) rfl (bW (vs:=[_,_,_]) zO rfl (rY da db Kt _ _ K w0 _ (hS.keep K (fun q hq=>by simp [hq])) hKt hDa hDb false hsa hsb hk6) rfl ?_)))))))))
 rw [gB_or]
 rintro e W9 ⟨d2,K2,hok,hbad,rfl,hk2,hD2,hS9⟩
 refine ⟨_,rfl,?_⟩
 clear hS;have hS:=hS9;clear hS9
 refine bO rfl rfl rfl (bO rfl rfl rfl (bU (i:=0) (vs:=[_,_,_]) (cs':=[_,_,_]) (O':=(_::_::_::Ot)) hS sizeOf25 rfl rfl rfl rfl rfl rfl rfl fun W4 hS=>aB rfl rfl (aK (XF.thenN (cK (XF.res (gX (vs:=[_,_,_]) results29 isAgg25 sizeOf25 rfl (aT.own (j:=0) (m:=3) (hS.at_ 0 rfl) rfl) rfl) ?_))))))
 exact ⟨d2,K2,hok,hbad,rfl,hk2,hD2,(hS.keep K2 (fun q hq=>by simp [hq])).tail.tail.tail⟩
theorem vZ (da db:DV) (Kt:List (Nat×World)) (Ot:Own) (G:bN) (K:List (Nat×World)) (w0 w:World) (hS0:St w0 Ot G K w) (hKt:∀ q∈Kt,q∈K) (hDa:cL w0 Kt (fun W=>DIn W da)) (hDb:cL w0 Kt (fun W=>DIn W db)) (hsa:da.nl≤24) (hsb:db.nl≤24) (hk6:cQ da db=0→da.sy≤6) :
  Calls prog 31 #[da.val,db.val] w (fun e w'=>∃ (r:Option (List Nat)) (wa:Option Addr) (wc:Nat) (Kn:List (Nat×World)),(cQ da db=0→FW (aR (dFA da) (dFA db) (fun x y=>x && !y)) r)∧(cQ da db≠0→r=some [])∧(r.getD []).length≤1024∧e = .returned (.tuple #[.bool r.isNone,.slice wa (r.getD []).length wc,.int .i64 (cQ da db)])∧(∀ q∈K,q∈Kn)∧cL w0 Kn (fun W=>Row W wa (wI (r.getD [])))∧St w0 Ot G Kn w'):=by
 refine cP (args:=[da.val,db.val]) func31 rfl ntmps31 rfl ?_
 have hS:=hS0
 refine aH (aN (cI (cs:=[_,_,_]) hS rfl rfl rfl fun B1 W1 hS=>cI (cs:=[_,_,_]) hS rfl rfl rfl fun B2 W2 hS=>aB rfl rfl (aB rfl rfl (aB rfl rfl (aK (XF.thenN (aH (aN (bC (vs:=[_,_,_]) isAgg25 sizeOf25 rfl (aT.own (j:=0) (m:=3) (hS.at_ 1 rfl) rfl) rfl (bC (vs:=[_,_,_]) isAgg25 sizeOf25 rfl (aT.own (j:=0) (m:=3) (hS.at_ 0 rfl) rfl) rfl (bW (vs:=[_,_]) zP rfl (vW da db _ (hDa (hS.keep K (fun q hq=>by simp [hq])) hKt) (hDb (hS.keep K (fun q hq=>by simp [hq])) hKt)) rfl ?_)))))))))))
 rintro e W9 ⟨rfl,hb9⟩
 refine ⟨_,rfl,?_⟩
 have hS':=hS.grow hb9;clear hS;have hS:=hS';clear hS'
 refine aB rfl rfl (aK (XF.thenN (aH (aH (aN (aA rfl rfl (dR rfl rfl rfl (aK (XF.thenN (bS rfl (fun hc=>?_) (fun hc=>?_)))))))))))
 ·have hc16:=of_decide_eq_true hc;clear hc
  refine aH (aN (aA rfl rfl (aB rfl rfl (aB rfl rfl (aB rfl rfl (aK (XF.thenN (cK (XF.thenR (XF.res (zY results31 rfl rfl rfl) ?_))))))))))
  exact ⟨some [],none,0,K,fun h=>absurd h hc16,fun _=>rfl,by decide,rfl,fun q hq=>hq,fun _ _=>.inl rfl,(hS.keep K (fun q hq=>by simp [hq])).tail.tail⟩
 ·have hc16:=of_decide_eq_false hc;clear hc
  have h0:cQ da db=0:=Decidable.of_not_not hc16
  have hk9:=hk6 h0
  obtain ⟨hea,heb,hsy⟩:=lJ h0
  have hOa:=jM (hDa (hS.keep K (fun q hq=>by simp [hq])) hKt) hea
  have hOb:=jM (hDb (hS.keep K (fun q hq=>by simp [hq])) hKt) heb
  have hkk:(dFA da).k=(dFA db).k:=by show da.sy.toNat=db.sy.toNat;rw [hsy]
  refine bV (XF.thenN (aH (aN (bC (vs:=[_,_,_]) isAgg25 sizeOf25 rfl (aT.own (j:=0) (m:=3) (hS.at_ 0 rfl) rfl) rfl (bW (vs:=[_]) goes_14 rfl (rNot_is db Kt _ _ K w0 _ (hS.keep K (fun q hq=>by simp [hq])) hKt hDb) rfl ?_)))))
  rintro e W9 ⟨d2,K1,hLX,rfl,hk1,hD2,hS9⟩
  obtain ⟨hL2,hn2⟩:=hLX.ok heb
  refine ⟨_,rfl,?_⟩
  clear hS;have hS:=hS9;clear hS9
  refine aA rfl rfl (bO rfl rfl rfl (bO rfl rfl rfl (cE (cs:=[_,_,_]) hS zeroValue25 rfl rfl fun B3 W3 hS=>bU (i:=0) (vs:=[_,_,_]) (cs':=[_,_,_]) (O':=(_::_::_::Ot)) hS sizeOf25 rfl rfl rfl rfl rfl rfl rfl fun W4 hS=>aB rfl rfl (aK (XF.thenN (aH ?_))))))
  have hS9:=hS.keep K1 (fun q hq=>by simp [hq])
  clear hS;have hS:=hS9;clear hS9
  refine vH (mk:=[1,3,4,5,6,7,8]) (k:=9) (vals:=(fun i8=>match i8 with | 0=>da.val | _=>d2.val)) (Pm:=PmQ 100) (GQ 100 (RWd w0 da d2 (nP (dFA db))) w0 ((B3,[.int .i64 d2.sy,.slice d2.na d2.nl d2.nc,.slice d2.aa d2.al d2.ac],25)::(B2,[.int .i64 db.sy,.slice db.na db.nl db.nc,.slice db.aa db.al db.ac],25)::(B1,[.int .i64 da.sy,.slice da.na da.nl da.nc,.slice da.aa da.al da.ac],25)::Ot) G K1) cA (GQ.start hS.drew) (Nat.le_of_ble_eq_true (by kernel_rfl)) (by kernel_rfl) (by kernel_rfl) ?_ ?_ (by decide) ?_
  ·intro i9 hi9 hin s a0 c9 w ha0 hF9 hG hD
   have hfr:∀ t v,freeT _ t=true→dO _ t=some v→c9.eval (.tmp t)=v:=fun t v h1 h2=>(hF9 t h1).trans (ha0.at_ t v h2)
   have hb2:=hG.own (B1,[.int .i64 da.sy,.slice da.na da.nl da.nc,.slice da.aa da.al da.ac],25) (List.mem_cons_of_mem _ (List.mem_cons_of_mem _ List.mem_cons_self))
   have hb8:=hG.own (B3,[.int .i64 d2.sy,.slice d2.na d2.nl d2.nc,.slice d2.aa d2.al d2.ac],25) List.mem_cons_self
   match i9,hi9,hin with
   | 0,_,_=>exact ⟨_,rfl,rfl,by
    exact dL (l:=[(2,.pointer (some ⟨B1,0,none⟩))]) (vs:=[_,_,_]) isAgg25 sizeOf25 rfl (aT.own (j:=0) (m:=3) hb2 rfl) c9.eval (fW (hfr 2 _ (by kernel_rfl) rfl))⟩
   | 1,_,h9=>exact absurd (by decide) h9
   | 2,_,_=>exact ⟨_,rfl,rfl,by
    exact dL (l:=[(8,.pointer (some ⟨B3,0,none⟩))]) (vs:=[_,_,_]) isAgg25 sizeOf25 rfl (aT.own (j:=0) (m:=3) hb8 rfl) c9.eval (fW (hfr 8 _ (by kernel_rfl) rfl))⟩
   | 3,_,h9=>exact absurd (by decide) h9
   | 4,_,h9=>exact absurd (by decide) h9
   | 5,_,h9=>exact absurd (by decide) h9
   | 6,_,h9=>exact absurd (by decide) h9
   | 7,_,h9=>exact absurd (by decide) h9
   | 8,_,h9=>exact absurd (by decide) h9
   | i+9,h9,_=>omega
  ·intro i9 him s a0 c9 w ha0 hF9 hG hnew hD
   have hcase:i9=1∨i9=3∨i9=4∨i9=5∨i9=6∨i9=7∨i9=8:=by simpa using him
   rcases hcase with rfl | rfl | rfl | rfl | rfl | rfl | rfl
   ·have h0:=(hD 0 24 (by kernel_rfl)).1 (by decide)
    obtain ⟨OA,Kq,hA,hkq,hR,hS9⟩:=hG
    refine gK (vs:=[da.val]) rfl nS (by simp only [List.map_cons,List.map_nil,h0]) ((jX da Kt _ _ Kq w0 _ hS9 (fun q hq=>hkq q (hk1 q (hKt q hq))) hDa hea).mono ?_)
    rintro e w2 ⟨d1,K2,hL,hn2,rfl,hk2,hD1,hS8⟩
    exact ⟨_,[(0,[_],0)],rfl,⟨PmQ.one (by decide),GQ.put RWd.mono hA hkq hR (by decide) hk2 (show RWd w0 da d2 (nP (dFA db)) 1 _ _ from ⟨d1,rfl,hL,hn2,hD1⟩) hS8⟩⟩
   ·have h2:=(hD 2 26 (by kernel_rfl)).1 (by decide)
    obtain ⟨OA,Kq,hA,hkq,hR,hS9⟩:=hG
    have e1:=hR 1 _ (by decide) ((hD 1 25 (by kernel_rfl)).2 (by decide))
    obtain ⟨d1,v1,hL1,hn1,hD1⟩:=(show ∃ d:DV,_ from e1)
    have hsy1:=tV hL1 rfl hea
    have hsy3:=tV hL2 rfl heb
    have hmm:d1.nl * d2.nl≤24 * 24:=Nat.mul_le_mul (by omega) (by omega)
    refine gK (vs:=[d1.val,d2.val,.bool true]) rfl zQ (by simp only [List.map_cons,List.map_nil,v1,h2];rfl) ?_
    refine (oT d1 d2 true Kq _ _ Kq w0 _ hS9 (fun q hq=>hq) hD1 (hD2.moreK hkq) hL1.e hL2.e (by omega) (by omega) (Nat.le_trans (Nat.mul_le_mul hmm (show d1.sy.toNat≤6 by omega)) (by decide))).mono ?_
    rintro e w2 ⟨d5,K2,hE,hn2,hs2,hq2,rfl,hk2,hD5,hS8⟩
    exact ⟨_,[(0,[_],0)],rfl,⟨PmQ.one (by decide),GQ.put RWd.mono hA hkq hR (by decide) hk2 (show RWd w0 da d2 (nP (dFA db)) 3 _ _ from ⟨d5,rfl,hE,hs2.trans hsy1,vV hL1 hL2 hOa (zT hOb) hkk hs2 hq2,hD5⟩) hS8⟩⟩
   ·obtain ⟨OA,Kq,hA,hkq,hR,hS9⟩:=hG
    have e3:=hR 3 _ (by decide) ((hD 3 27 (by kernel_rfl)).2 (by decide))
    obtain ⟨d5,v5,hE5,hs5,hq5,hD5⟩:=(show ∃ d:DV,_ from e3)
    refine gK (vs:=[d5.val]) rfl goes_42 (by simp only [List.map_cons,List.map_nil,v5]) ((Aw d5 Kq _ _ Kq w0 _ hS9 (fun q hq=>hq) hD5 hE5).mono ?_)
    rintro e w2 ⟨r,wa,wc,K2,hF,hwl,rfl,hk2,hRw,hS8⟩
    exact ⟨_,[(0,[_],0)],rfl,⟨PmQ.one (by decide),GQ.put RWd.mono hA hkq hR (by decide) hk2 (show RWd w0 da d2 (nP (dFA db)) 4 _ _ from ⟨r,wa,wc,rfl,hF.congr (show d5.sy.toNat=da.sy.toNat by rw [hs5]) hq5,hwl,hRw⟩) hS8⟩⟩
   ·obtain ⟨OA,Kq,hA,hkq,hR,hS9⟩:=hG
    have e4:=hR 4 _ (by decide) ((hD 4 28 (by kernel_rfl)).2 (by decide))
    refine kJ (v:=c9.eval (.tmp 28)) (w':=w) rfl rfl ?_ ⟨PmQ.one (by decide),GQ.put RWd.mono hA hkq hR (by decide) (fun _ h=>h) (show RWd w0 da d2 (nP (dFA db)) 5 _ _ from e4) hS9⟩
    exact aV (l:=[(28,c9.eval (.tmp 28))]) rfl c9.eval (fW rfl)
   ·obtain ⟨OA,Kq,hA,hkq,hR,hS9⟩:=hG
    have e5:=hR 5 _ (by decide) ((hD 5 23 (by kernel_rfl)).2 (by decide))
    obtain ⟨r,wa,wc,v5,hF,hwl,hRw⟩:=(show ∃ (r:Option (List Nat)) (wa:Option Addr) (wc:Nat),_ from e5)
    refine kJ (v:=.slice wa (r.getD []).length wc) (w':=w) rfl rfl ?_ ⟨PmQ.one (by decide),GQ.put RWd.mono hA hkq hR (by decide) (fun _ h=>h) (show RWd w0 da d2 (nP (dFA db)) 6 _ _ from ⟨r,wa,wc,rfl,hF,hwl,hRw⟩) hS9⟩
    exact eW (l:=[(23,.tuple #[.slice wa (r.getD []).length wc,.bool r.isSome])]) rfl rfl c9.eval (fW v5)
   ·obtain ⟨OA,Kq,hA,hkq,hR,hS9⟩:=hG
    have e5:=hR 5 _ (by decide) ((hD 5 23 (by kernel_rfl)).2 (by decide))
    obtain ⟨r,wa,wc,v5,hF,hwl,hRw⟩:=(show ∃ (r:Option (List Nat)) (wa:Option Addr) (wc:Nat),_ from e5)
    refine kJ (v:=.bool r.isSome) (w':=w) rfl rfl ?_ ⟨PmQ.one (by decide),GQ.put RWd.mono hA hkq hR (by decide) (fun _ h=>h) (show RWd w0 da d2 (nP (dFA db)) 7 _ _ from ⟨r,rfl,hF⟩) hS9⟩
    exact eW (l:=[(23,.tuple #[.slice wa (r.getD []).length wc,.bool r.isSome])]) rfl rfl c9.eval (fW v5)
   ·obtain ⟨OA,Kq,hA,hkq,hR,hS9⟩:=hG
    have e6:=hR 6 _ (by decide) ((hD 6 29 (by kernel_rfl)).2 (by decide))
    refine kJ (v:=c9.eval (.tmp 29)) (w':=w) rfl rfl ?_ ⟨PmQ.one (by decide),GQ.put RWd.mono hA hkq hR (by decide) (fun _ h=>h) (show RWd w0 da d2 (nP (dFA db)) 8 _ _ from e6) hS9⟩
    exact dI (l:=[(29,c9.eval (.tmp 29))]) rfl c9.eval (fW rfl)
  ·intro s c9 w hG hsz hdf hfr hval hin hmk hkeys hdist
   obtain ⟨Kq,hkq,hR,hS2⟩:=hG.end9 (fun ON h=>absurd (show (100:Nat)∈[1,3,4,5,6,7,8] from hkeys _ h) (by decide))
   obtain ⟨r,wa,wc,v6,hF,hwl,hRw⟩:=(show ∃ (r:Option (List Nat)) (wa:Option Addr) (wc:Nat),_ from hR 8 _ (by decide) (hmk 8 10 (by decide) rfl))
   obtain ⟨r7,v7,hF7⟩:=(show ∃ (r:Option (List Nat)),_ from hR 7 _ (by decide) (hmk 7 30 (by decide) rfl))
   obtain rfl:=hF7.one hF rfl pN
   clear hS;have hS:=hS2;clear hS2
   refine (show cJ _ _ _ _ (List.drop 9 _) [(2,.pointer (some ⟨B1,0,none⟩)),(3,.pointer (some ⟨B2,0,none⟩)),(8,.pointer (some ⟨B3,0,none⟩)),(10,.slice wa (r7.getD []).length wc),(30,.bool r7.isSome)] w from ?_) c9 (vI.has hsz hdf ⟨hfr 2 _ (by kernel_rfl) rfl,hfr 3 _ (by kernel_rfl) rfl,hfr 8 _ (by kernel_rfl) rfl,v6,v7,trivial⟩)
   refine aB rfl rfl (aK (XF.thenN (aH (aN (aA rfl rfl (gR rfl rfl (aA rfl rfl (aB rfl rfl (aB rfl rfl (aB rfl rfl (aK (XF.thenN (cK (XF.res (zY results31 rfl rfl rfl) ?_))))))))))))))
   exact ⟨r7,wa,wc,Kq,fun _=>hF.congr rfl (xU hOa hOb hkk),fun h=>absurd h0 h,hwl,by rw [h0];cases r7<;>rfl,fun z hz=>hkq z (hk1 z hz),hRw,(hS.keep Kq (fun q hq=>by simp [hq])).tail.tail.tail⟩
theorem goes_27:cC prog 27=true:=by kernel_rfl
theorem goes_29:cC prog 29=true:=by kernel_rfl
theorem goes_31:cC prog 31=true:=by kernel_rfl
theorem wA {d:DV} (h:iC d=true):d.nl≤24:=by
 unfold iC at h
 simp only [Bool.and_eq_true,decide_eq_true_eq] at h
 exact h.1
theorem rE (da db:DV) (w:World) (hDa:DIn w da) (hDb:DIn w db) :
  Calls prog 5 #[da.val,db.val] w (fun e w'=>e = .returned (.bool true)∧Below w.heap.size w w'):=by
 refine cP (args:=[da.val,db.val]) func5 rfl ntmps5 rfl ?_
 have hS:=St.start w
 refine aH (aN (cI (cs:=[_,_,_]) hS rfl rfl rfl fun B1 W1 hS=>cI (cs:=[_,_,_]) hS rfl rfl rfl fun B2 W2 hS=>aB rfl rfl (aK (XF.thenN (aH (aH (aN (bC (vs:=[_,_,_]) isAgg25 sizeOf25 rfl (aT.own (j:=0) (m:=3) (hS.at_ 1 rfl) rfl) rfl (dX (vs:=[_]) hS C4 rfl (rS da _ (hDa.below hS.below)) rfl fun W3 hS=>gR rfl rfl (aA rfl rfl (bZ (d:=22) rfl (fun hc=>?_) (fun hc=>?_))))))))))))
 ·have hg22:=hc;clear hc
  refine aQ (d:=22) rfl rfl rfl rfl (aQ (d:=22) rfl rfl rfl rfl (aQ (d:=22) rfl rfl rfl rfl (bI rfl rfl rfl (aK (XF.thenN (fT rfl (aH (aN (dX (vs:=[]) hS tS rfl (oL _) rfl fun W4 hS=>aB rfl rfl (aK (XF.thenN (cK (XF.thenR (XF.res (cZ results5 rfl) ?_))))))))))))))
  exact ⟨rfl,hS.below⟩
 ·have hg22:=hc;clear hc
  refine aE (d:=22) rfl rfl (bC (vs:=[_,_,_]) isAgg25 sizeOf25 rfl (aT.own (j:=0) (m:=3) (hS.at_ 0 rfl) rfl) rfl (aE (d:=22) rfl rfl (dX (vs:=[_]) hS C4 rfl (rS db _ (hDb.below hS.below)) rfl fun W5 hS=>aE (d:=22) rfl rfl (gR rfl rfl (cG rfl rfl rfl (aK (XF.thenN (bS rfl (fun hc=>?_) (fun hc=>?_)))))))))
  ·have hc26:=hc;clear hc
   refine aH (aN (dX (vs:=[]) hS tS rfl (oL _) rfl fun W6 hS=>aB rfl rfl (aK (XF.thenN (cK (XF.thenR (XF.res (cZ results5 rfl) ?_)))))))
   exact ⟨rfl,hS.below⟩
  ·have hc26:=hc;clear hc
   refine bV (XF.thenN (aH ?_))
   have hsm1:iC da=true:=by simpa using hg22
   have hsm2:iC db=true:=by simpa using hc26
   have hn1:=wA hsm1
   have hn2:=wA hsm2
   have hk6:cQ da db=0→da.sy≤6:=fun h0=>(Di hDa hsm1 (lJ h0).1).2
   refine aN (bC (vs:=[_,_,_]) isAgg25 sizeOf25 rfl (aT.own (j:=0) (m:=3) (hS.at_ 1 rfl) rfl) rfl (bC (vs:=[_,_,_]) isAgg25 sizeOf25 rfl (aT.own (j:=0) (m:=3) (hS.at_ 0 rfl) rfl) rfl (bW (vs:=[_,_]) goes_26 rfl (xV da db [] _ _ _ w _ hS (fun q hq=>by cases hq) (fB hDa) (fB hDb) hn1 hn2 hk6) rfl ?_)))
   rintro e W9 ⟨d1,K1,ok1,bad1,rfl,hK1,hD1,hS9⟩
   refine ⟨_,rfl,?_⟩
   clear hS;have hS:=hS9;clear hS9
   refine aA rfl rfl (bO rfl rfl rfl (bO rfl rfl rfl (cE (cs:=[_,_,_]) hS zeroValue25 rfl rfl fun B7 W7 hS=>bU (i:=0) (vs:=[_,_,_]) (cs':=[_,_,_]) (O':=[_,_,_]) hS sizeOf25 rfl rfl rfl rfl rfl rfl rfl fun W8 hS=>aB rfl rfl (aK (XF.thenN (aH (aN (bC (vs:=[_,_,_]) isAgg25 sizeOf25 rfl (aT.own (j:=0) (m:=3) (hS.at_ 2 rfl) rfl) rfl (bC (vs:=[_,_,_]) isAgg25 sizeOf25 rfl (aT.own (j:=0) (m:=3) (hS.at_ 1 rfl) rfl) rfl (bW (vs:=[_,_]) goes_27 rfl (Ay da db [] _ _ K1 w _ (hS.keep K1 (fun q hq=>by simp [hq])) (fun q hq=>by cases hq) (fB hDa) (fB hDb) hn1 hn2 hk6) rfl ?_))))))))))
   rintro e W9 ⟨d2,K2,ok2,bad2,rfl,hK2,hD2,hS9⟩
   refine ⟨_,rfl,?_⟩
   clear hS;have hS:=hS9;clear hS9
   refine aA rfl rfl (bO rfl rfl rfl (bO rfl rfl rfl (cE (cs:=[_,_,_]) hS zeroValue25 rfl rfl fun B9 W9 hS=>bU (i:=0) (vs:=[_,_,_]) (cs':=[_,_,_]) (O':=[_,_,_,_]) hS sizeOf25 rfl rfl rfl rfl rfl rfl rfl fun W10 hS=>aB rfl rfl (aK (XF.thenN (aH (aN (bC (vs:=[_,_,_]) isAgg25 sizeOf25 rfl (aT.own (j:=0) (m:=3) (hS.at_ 3 rfl) rfl) rfl (bC (vs:=[_,_,_]) isAgg25 sizeOf25 rfl (aT.own (j:=0) (m:=3) (hS.at_ 2 rfl) rfl) rfl (bW (vs:=[_,_]) goes_28 rfl (tW da db [] _ _ K2 w _ (hS.keep K2 (fun q hq=>by simp [hq])) (fun q hq=>by cases hq) (fB hDa) (fB hDb) hn1 hn2 hk6) rfl ?_))))))))))
   rintro e W9 ⟨d3,K3,ok3,bad3,rfl,hK3,hD3,hS9⟩
   refine ⟨_,rfl,?_⟩
   clear hS;have hS:=hS9;clear hS9
   refine aA rfl rfl (bO rfl rfl rfl (bO rfl rfl rfl (cE (cs:=[_,_,_]) hS zeroValue25 rfl rfl fun B11 W11 hS=>bU (i:=0) (vs:=[_,_,_]) (cs':=[_,_,_]) (O':=[_,_,_,_,_]) hS sizeOf25 rfl rfl rfl rfl rfl rfl rfl fun W12 hS=>aB rfl rfl (aK (XF.thenN (aH (aN (bC (vs:=[_,_,_]) isAgg25 sizeOf25 rfl (aT.own (j:=0) (m:=3) (hS.at_ 4 rfl) rfl) rfl (bC (vs:=[_,_,_]) isAgg25 sizeOf25 rfl (aT.own (j:=0) (m:=3) (hS.at_ 3 rfl) rfl) rfl (bW (vs:=[_,_]) goes_29 rfl (vY da db [] _ _ K3 w _ (hS.keep K3 (fun q hq=>by simp [hq])) (fun q hq=>by cases hq) (fB hDa) (fB hDb) hn1 hn2 hk6) rfl ?_))))))))))
   rintro e W9 ⟨d4,K4,ok4,bad4,rfl,hK4,hD4,hS9⟩
   refine ⟨_,rfl,?_⟩
   clear hS;have hS:=hS9;clear hS9
   refine aA rfl rfl (bO rfl rfl rfl (bO rfl rfl rfl (cE (cs:=[_,_,_]) hS zeroValue25 rfl rfl fun B13 W13 hS=>bU (i:=0) (vs:=[_,_,_]) (cs':=[_,_,_]) (O':=[_,_,_,_,_,_]) hS sizeOf25 rfl rfl rfl rfl rfl rfl rfl fun W14 hS=>aB rfl rfl (aK (XF.thenN (aH (aN (bC (vs:=[_,_,_]) isAgg25 sizeOf25 rfl (aT.own (j:=0) (m:=3) (hS.at_ 5 rfl) rfl) rfl (bC (vs:=[_,_,_]) isAgg25 sizeOf25 rfl (aT.own (j:=0) (m:=3) (hS.at_ 4 rfl) rfl) rfl (bW (vs:=[_,_]) goes_30 rfl (xF da db [] _ _ K4 w _ (hS.keep K4 (fun q hq=>by simp [hq])) (fun q hq=>by cases hq) (fB hDa) (fB hDb)) rfl ?_))))))))))
   rintro e W9 ⟨r5,wa5,wc5,K5,hf5,hn5x,rfl,hK5,hR5,hS9⟩
   refine ⟨_,rfl,?_⟩
   clear hS;have hS:=hS9;clear hS9
   refine aA rfl rfl (bO rfl rfl rfl (bO rfl rfl rfl (bO rfl rfl rfl (aB rfl rfl (aB rfl rfl (aB rfl rfl (aK (XF.thenN (aH (aN (bC (vs:=[_,_,_]) isAgg25 sizeOf25 rfl (aT.own (j:=0) (m:=3) (hS.at_ 5 rfl) rfl) rfl (bC (vs:=[_,_,_]) isAgg25 sizeOf25 rfl (aT.own (j:=0) (m:=3) (hS.at_ 4 rfl) rfl) rfl (bW (vs:=[_,_]) goes_31 rfl (vZ da db [] _ _ K5 w _ (hS.keep K5 (fun q hq=>by simp [hq])) (fun q hq=>by cases hq) (fB hDa) (fB hDb) hn1 hn2 hk6) rfl ?_)))))))))))))
   rintro e W9 ⟨r6,wa6,wc6,K6,hf6,hn6x,hwl,rfl,hK6,hR6,hS9⟩
   refine ⟨_,rfl,?_⟩
   clear hS;have hS:=hS9;clear hS9
   refine aA rfl rfl (bO rfl rfl rfl (bO rfl rfl rfl (bO rfl rfl rfl (aB rfl rfl (aB rfl rfl (aB rfl rfl (aK (XF.thenN (aH ?_)))))))))
   have e12:lG d1 d2=true:=by
    by_cases h0:cQ da db=0
    ·exact vR (ok1 h0) (ok2 h0) rfl pN
    ·rw [bad1 h0,bad2 h0];exact rX
   have e34:lG d3 d4=true:=by
    by_cases h0:cQ da db=0
    ·exact vR (ok3 h0) (ok4 h0) rfl pN
    ·rw [bad3 h0,bad4 h0];exact rX
   have hr56:r5=r6:=by
    by_cases h0:cQ da db=0
    ·exact (hf5 h0).one (hf6 h0) rfl pN
    ·rw [hn5x h0,hn6x h0]
   subst hr56
   refine aN (bC (vs:=[_,_,_]) isAgg25 sizeOf25 rfl (aT.own (j:=0) (m:=3) (hS.at_ 3 rfl) rfl) rfl (bC (vs:=[_,_,_]) isAgg25 sizeOf25 rfl (aT.own (j:=0) (m:=3) (hS.at_ 2 rfl) rfl) rfl (dX (vs:=[_,_]) hS zK rfl (rR d1 d2 _ (hD1 (hS.keep K6 (fun q hq=>by simp [hq])) (fun q hq=>hK6 q (hK5 q (hK4 q (hK3 q (hK2 q (hq))))))) (hD2 (hS.keep K6 (fun q hq=>by simp [hq])) (fun q hq=>hK6 q (hK5 q (hK4 q (hK3 q (hq))))))) rfl fun W15 hS=>aA rfl rfl ?_)))
   refine bZ (d:=69) rfl (fun hc=>?_) (fun hc=>absurd hc (by rw [e12];decide))
   skip
   refine aE (d:=69) rfl rfl (aA rfl rfl (aE (d:=69) rfl rfl (aA rfl rfl (aE (d:=69) rfl rfl (fD rfl rfl rfl (bI rfl rfl rfl (aA rfl rfl (bZ (d:=74) rfl (fun hc=>?_) (fun hc=>absurd (of_decide_eq_false hc) (by omega))))))))))
   have hc:=of_decide_eq_true hc
   refine aE (d:=74) rfl rfl (bC (vs:=[_,_,_]) isAgg25 sizeOf25 rfl (aT.own (j:=0) (m:=3) (hS.at_ 1 rfl) rfl) rfl (aE (d:=74) rfl rfl (bC (vs:=[_,_,_]) isAgg25 sizeOf25 rfl (aT.own (j:=0) (m:=3) (hS.at_ 0 rfl) rfl) rfl (aE (d:=74) rfl rfl (dX (vs:=[_,_]) hS zK rfl (rR d3 d4 _ (hD3 (hS.keep K6 (fun q hq=>by simp [hq])) (fun q hq=>hK6 q (hK5 q (hK4 q (hq))))) (hD4 (hS.keep K6 (fun q hq=>by simp [hq])) (fun q hq=>hK6 q (hK5 q (hq))))) rfl fun W16 hS=>bI rfl rfl rfl (aA rfl rfl ?_))))))
   refine bZ (d:=79) rfl (fun hc=>?_) (fun hc=>absurd hc (by rw [e34];decide))
   skip
   refine aE (d:=79) rfl rfl (aA rfl rfl (aE (d:=79) rfl rfl (aA rfl rfl (aE (d:=79) rfl rfl (fD rfl rfl rfl (bI rfl rfl rfl (aA rfl rfl (bZ (d:=84) rfl (fun hc=>?_) (fun hc=>absurd (of_decide_eq_false hc) (by omega))))))))))
   have hc:=of_decide_eq_true hc
   refine aE (d:=84) rfl rfl (aA rfl rfl (aE (d:=84) rfl rfl (aA rfl rfl (aE (d:=84) rfl rfl (op_eqlB underlying4 rfl rfl rfl (bI rfl rfl rfl (aA rfl rfl (bZ (d:=89) rfl (fun hc=>?_) (fun hc=>absurd hc (by simp))))))))))
   skip
   refine aE (d:=89) rfl rfl (aA rfl rfl (aE (d:=89) rfl rfl (aA rfl rfl (aE (d:=89) rfl rfl (dX (vs:=[_,_]) hS goes_25 rfl (Dl wa5 wa6 _ _ wc5 wc6 (wI (r5.getD [])) (wI (r5.getD [])) _ (hR5 (hS.keep K6 (fun q hq=>by simp [hq])) (fun q hq=>hK6 q (hq))) (hR6 (hS.keep K6 (fun q hq=>by simp [hq])) (fun q hq=>hq)) qO qO (by omega)) rfl fun W17 hS=>bI rfl rfl rfl (aA rfl rfl (bZ (d:=94) rfl (fun hc=>?_) (fun hc=>absurd hc (by simp)))))))))
   skip
   refine aE (d:=94) rfl rfl (aA rfl rfl (aE (d:=94) rfl rfl (aA rfl rfl (aE (d:=94) rfl rfl (fD rfl rfl rfl (bI rfl rfl rfl (aA rfl rfl (bZ (d:=99) rfl (fun hc=>?_) (fun hc=>absurd (of_decide_eq_false hc) (by omega))))))))))
   have hc:=of_decide_eq_true hc
   refine aE (d:=99) rfl rfl (dX (vs:=[]) hS tS rfl (oL _) rfl fun W18 hS=>bI rfl rfl rfl (aB rfl rfl (aK (XF.thenN (cK (XF.res (cZ results5 rfl) ?_))))))
   exact ⟨rfl,hS.below⟩
end
section
open Go.RowKit Go.ChangeShapes Go.WideShapes Go.Deep Go.Joins
theorem rZ {α:Type}:∀ (n:Nat) (p:Nat→α→Prop),(∀ i,i < n→∃ c,p i c)→∃ xs:List α,xs.length=n∧∀ i c,xs[i]?=some c→p i c
 | 0,p,h=>⟨[],rfl,fun i c hi=>by simp at hi⟩
 | n+1,p,h=>by
  obtain ⟨xs,hl,hp⟩:=rZ n p (fun i hi=>h i (by omega))
  obtain ⟨c,hc⟩:=h n (by omega)
  refine ⟨xs++[c],by simp [hl],fun i d hi=>?_⟩
  rcases Nat.lt_or_ge i n with h1 | h1
  ·rw [List.getElem?_append_left (by omega)] at hi
   exact hp i d hi
  ·obtain ⟨h2,_⟩:=List.getElem?_eq_some_iff.1 hi
   simp [hl] at h2
   obtain rfl:i=n:=by omega
   rw [List.getElem?_append_right (by omega),hl,Nat.sub_self] at hi
   simp at hi
   subst hi
   exact hc
section
variable {H:Type} {enc:TypeId×Value→H} {w:World} {base:Nat} {spare:Nat→Bool} {held:Bool}
end
section
variable {H:Type} {enc:TypeId×Value→H} {w:World} {base:Nat} {spare:Nat→Bool} {held:Bool}
theorem ints_in {n:Nat} {v:Value} {x:DataW H×List MemPlace} (h:DataW.trod enc prog w base spare held n 36 [v]=some x) :
  ∃ (a:Option Addr) (len cap:Nat) (zs:List Int),v = .slice a len cap∧Row w a zs∧zs.length=len∧len≤cap∧cap≤maxLen:=by
 rcases open_ints (t:=36) (e:=3) (k:=.i64) (by kernel_rfl) (by kernel_rfl) (by kernel_rfl) h with ⟨hcs,_⟩ | ⟨x,len,cap,zs,hcs,_,hl,hm,hz,_,hcell,hwz⟩
 ·have hcs':v = .slice none 0 0:=by simpa using hcs
  subst hcs'
  exact ⟨none,0,0,[],rfl,.inl rfl,rfl,Nat.le_refl _,Nat.zero_le _⟩
 ·have hcs':v = .slice (some x) len cap:=by simpa using hcs
  subst hcs'
  have hzl:len≤zs.length:=by rw [hz];split<;>omega
  refine ⟨some x,len,cap,zs.take len,rfl,?_,by simp;omega,hl,hm⟩
  rcases Nat.eq_zero_or_pos len with h0 | h0
  ·subst h0;exact .inl (by simp)
  ·obtain ⟨b,off,spot⟩:=x
   have hc0:=hcell 0 (by omega)
   have hspot:spot=none:=by simpa [Addr.add] using World.cell?_spot hc0
   subst hspot
   refine .inr ⟨b,off,rfl,fun i hi=>?_⟩
   have hi1:i < len:=by simp at hi;omega
   have hi2:i < zs.length:=by omega
   have hc:=hcell i hi2
   have e:({ block:=b,off:=off }:Addr).add i=⟨b,off+i,none⟩:=by simp [Addr.add]
   rw [e] at hc
   rw [hc]
   simp [List.getD,List.getElem?_take,hi1]
end
theorem xW {cs:List Value} (h:cs.length=3):∃ a b c,cs=[a,b,c]:=by
 match cs,h with
 | [a,b,c],_=>exact ⟨a,b,c,rfl⟩
section
variable {H:Type} {enc:TypeId×Value→H} {w:World} {base:Nat} {spare:Nat→Bool} {held:Bool}
theorem wB {α:Type} {val:α→Value} {pr:α→Prop} {t e:TypeId} {n:Nat} {v:Value} {x:DataW H×List MemPlace} (ht:prog.underlying t=some (.slice e)) (hc:prog.cellsOf e=1)
  (one:∀ (n:Nat) (cs:List Value) (x:DataW H×List MemPlace),DataW.trod enc prog w base spare held n e cs=some x→∃ y,cs=[val y]∧pr y) (h:DataW.trod enc prog w base spare held n t [v]=some x) :
  ∃ (a:Option Addr) (len cap:Nat) (xs:List α),v = .slice a len cap∧(∀ (i:Nat) r,xs[i]?=some r→∃ b off,a=some ⟨b,off,none⟩∧w.cell? ⟨b,off+i * 1,none⟩=some (val r))∧(∀ r∈xs,pr r)∧xs.length=len∧len≤cap∧cap≤maxLen:=by
 rcases DataW.trod_slice ht h with ⟨hcs,_⟩ | ⟨ad,len,cap,elems,rest,n2,hn2,hcs,_,hb,hle,hcap,hel,hi,_,_⟩
 ·simp at hcs
  subst hcs
  exact ⟨none,0,0,[],rfl,(fun i r hi=>by simp at hi),(fun r hr=>by cases hr),rfl,Nat.le_refl _,Nat.zero_le _⟩
 ·simp at hcs
  subst hcs
  rw [hc] at hi
  obtain ⟨rs,hrl,hrs⟩:=rZ len (fun i (r:α)=>w.cell? (ad.add (i * 1))=some (val r)∧pr r) (fun i hil=>by
   have hii:=hi i hil
   rw [List.getElem?_eq_getElem (by omega)] at hii
   obtain ⟨cs',hc',ht'⟩:=Option.bind_eq_some_iff.1 hii
   obtain ⟨_,hcl,hat⟩:=World.cells?_some hc'
   obtain ⟨r,rfl,hr⟩:=one _ _ _ ht'
   refine ⟨r,?_,hr⟩
   have h0:=hat 0 (by omega)
   rw [Go.Deep.add_add,Nat.add_zero] at h0
   rw [h0];rfl)
  refine ⟨some ad,len,cap,rs,rfl,fun i r hir=>?_,fun r hr=>?_,hrl,hle,hcap⟩
  ·obtain ⟨b,off,spot⟩:=ad
   have h1:=(hrs i r hir).1
   have hl0:0 < rs.length:=Nat.lt_of_le_of_lt (Nat.zero_le _) (List.getElem?_eq_some_iff.1 hir).1
   have h2:=(hrs 0 _ (List.getElem?_eq_getElem hl0)).1
   have hspot:spot=none:=by simpa [Addr.add] using World.cell?_spot h2
   subst hspot
   refine ⟨b,off,rfl,?_⟩
   have e:∀ k,({ block:=b,off:=off }:Addr).add k=⟨b,off+k,none⟩:=fun k=>by simp [Addr.add]
   rw [e] at h1
   exact h1
  ·obtain ⟨i,hi',hic⟩:=List.mem_iff_getElem.1 hr
   exact (hrs i r (by rw [← hic];exact List.getElem?_eq_getElem hi')).2
theorem wC {r:Reach} {b0:Nat} {v:Value} {d:DataW H} {p:List MemPlace} (hv:Value.okWide prog w r b0 25 v) (h:DataW.Trod enc prog w base spare held 25 v d p) :
  ∃ (s:DV),v=s.val∧DIn w s:=by
 obtain ⟨cs,rfl,_⟩:=okWide_struct underlying25 hv
 obtain ⟨n,h⟩:=h
 obtain ⟨xs,n',hn,_,hl,hlen,hg⟩:=DataW.trod_struct underlying25 h
 rw [show prog.cellsOf 25=3 by kernel_rfl] at hl
 obtain ⟨a,b,c,hcs⟩:=xW hl
 rw [hcs] at hg
 have hlen3:xs.length=3:=hlen
 have g0:=hg 0 _ rfl
 have g1:=hg 1 _ rfl
 have g2:=hg 2 _ rfl
 rw [show prog.cellsOf _=1 by kernel_rfl,List.getElem?_eq_getElem (by omega)] at g0 g1 g2
 obtain ⟨z0,e0,_,w0⟩:=DataW.trod_int (k:=.i64) (by kernel_rfl) g0
 simp at e0
 subst e0
 obtain ⟨na,nl,nc,ns,rfl,hnr,hni,hnl,hnc,hnm⟩:=wB (val:=IV.val) (pr:=fun r:IV=>Row w r.a r.xs∧r.xs.length=r.l∧r.l≤9223372036854775807) (e:=36) (v:=b) (by kernel_rfl) (by kernel_rfl) (fun n cs x h=>by
  obtain ⟨y,rfl⟩:∃ y,cs=[y]:=by
   obtain ⟨h1,h2⟩:cs.length=1∧True:=⟨by
    rcases DataW.trod_slice underlying36 h with ⟨h9,_⟩ | ⟨ad,len,cap,elems,rest,n2,hn2,h9,_⟩
    ·rw [h9];rfl
    ·rw [h9];rfl,trivial⟩
   match cs,h1 with
   | [y],_=>exact ⟨y,rfl⟩
  obtain ⟨fa,fl,fc,fs,rfl,h1,h2,h3,h4⟩:=ints_in h
  exact ⟨⟨fa,fl,fc,fs⟩,rfl,h1,h2,by simp only [maxLen] at h4;dsimp only;omega⟩) g1
 obtain ⟨aa,al,ac,bs,rfl,har,_,hal,hac,ham⟩:=wB (val:=Value.bool) (pr:=fun _=>True) (e:=4) (v:=c) (by kernel_rfl) (by kernel_rfl) (fun n cs x h=>by
  obtain ⟨y,h1,_⟩:=DataW.trod_bool (by kernel_rfl) h
  exact ⟨y,h1,trivial⟩) g2
 refine ⟨⟨z0,na,nl,nc,ns,aa,al,ac,bs⟩,?_,⟨hnr,hnl,hni,har,hal,?_,?_⟩⟩
 ·show Value.agg cs=Value.agg _
  congr 1
  exact Array.ext' hcs
 ·simp only [maxLen] at hnm;dsimp only;omega
 ·simp only [maxLen] at ham;dsimp only;omega
end
end
end Go.Proofs.Ytghmbejblbnjjaa
