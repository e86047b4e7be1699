import Derived.Lib.SmallJoins
import Derived.ChangeSlices
import Derived.ChangeSame
import Derived.ProofKit
import Derived.Deep.Slices
import Derived.Deep.Fields
import Derived.Test.YtghmbejblbnjjaaDrD
set_option maxRecDepth 100000
set_option maxHeartbeats 4000000
set_option linter.unusedVariables false
set_option linter.unusedSimpArgs false
set_option linter.unusedSectionVars false
set_option linter.unnecessarySimpa false
namespace Go.Proofs.Ytghmbejblbnjjaa
open Go.Proofs.Try
section
open Go.RowKit
theorem vP:bU prog 43=true:=by kernel_rfl
theorem goes_44:bU prog 44=true:=by kernel_rfl
theorem goes_46:bU prog 46=true:=by kernel_rfl
theorem goes_59:bU prog 59=true:=by kernel_rfl
theorem goes_60:bU prog 60=true:=by kernel_rfl
theorem mP (da db:DV) (Kt:List (Nat×World)) (Ot:Own) (G:bH) (K:List (Nat×World)) (w0 w:World) (hS0:St w0 Ot G K w) (hKt:∀ q∈Kt,q∈K) (hDa:cP w0 Kt (fun W=>DIn W da)) (hDb:cP w0 Kt (fun W=>DIn W db)) (hsa:da.nl≤24) (hsb:db.nl≤24) (hk6:da.sy≤6) (g:Bool→Bool→Bool) (f:FuncId) (hgo:bU prog f=true) (hf:∀ x y w,Calls prog f #[.bool x,.bool y] w (fun e w'=>e = .returned (.bool (g x y))∧Below w.heap.size w w')) :
  Calls prog 43 #[da.val,db.val,.func (.func f) #[] #[]] w (fun e w'=>∃ (d2:DV) (Kn:List (Nat×World)),(eQ da db=0→Lst d2 (bE (dFA da) (dFA db) g)∧d2.nl≤da.nl * db.nl)∧(eQ da db≠0→d2=zD)∧e = .returned (.tuple #[d2.val,.int .i64 (eQ da db)])∧(∀ q∈K,q∈Kn)∧cP w0 Kn (fun W=>DIn W d2)∧St w0 Ot G Kn w'):=by
 refine cK (args:=[da.val,db.val,.func (.func f) #[] #[]]) func43 rfl ntmps43 rfl ?_
 have hS:=hS0
 refine aH (aN (cN (cs:=[_,_,_]) hS rfl rfl rfl fun B1 W1 hS=>cN (cs:=[_,_,_]) hS rfl rfl rfl fun B2 W2 hS=>cI (cs:=[_,_,_]) hS zeroValue25 rfl rfl fun B3 W3 hS=>aB rfl rfl (aK (XF.thenN (aH (aH (aN (bG (vs:=[_,_,_]) isAgg25 sizeOf25 rfl (aQ.own (j:=0) (m:=3) (hS.at_ 2 rfl) rfl) rfl (bG (vs:=[_,_,_]) isAgg25 sizeOf25 rfl (aQ.own (j:=0) (m:=3) (hS.at_ 1 rfl) rfl) rfl (bP (vs:=[_,_]) vJ rfl (lT da db _ (hDa (hS.keep K (fun q hq=>by simp [hq])) hKt) (hDb (hS.keep K (fun q hq=>by simp [hq])) hKt)) rfl ?_))))))))))
 rintro e W9 ⟨rfl,hb9⟩
 refine ⟨_,rfl,?_⟩
 have hS':=hS.grow hb9;clear hS;have hS:=hS';clear hS'
 refine aB rfl rfl (aK (XF.thenN (aH (aN (aA rfl rfl (dZ rfl rfl rfl (aK (XF.thenN (bW rfl (fun hc=>?_) (fun hc=>?_))))))))))
 ·have hc15:=of_decide_eq_true hc;clear hc
  refine aH (aN (eN (us:=[]) rfl (zE) rfl (aA rfl rfl (cB (i:=0) (vs:=[_,_,_]) (cs':=[_,_,_]) (O':=(_::_::_::Ot)) hS sizeOf25 rfl rfl rfl rfl rfl rfl rfl fun W4 hS=>aB rfl rfl (aK (XF.thenN (cG (XF.thenR (XF.res (mJ (vs:=[_,_,_]) results43 isAgg25 sizeOf25 rfl (aQ.own (j:=0) (m:=3) (hS.at_ 0 rfl) rfl) rfl) ?_)))))))))
  exact ⟨zD,K,fun h=>absurd h hc15,fun _=>rfl,rfl,fun q hq=>hq,fun _ _=>zF,(hS.keep K (fun q hq=>by simp [hq])).tail.tail.tail⟩
 ·have hc15:=of_decide_eq_false hc;clear hc
  have h0:eQ da db=0:=Decidable.of_not_not hc15
  obtain ⟨hea,heb,hsy⟩:=sM h0
  obtain ⟨k,hk,hk9,_⟩:=eB hea
  have hk5:k≤6:=by omega
  have hmo:576≤mostD k:=by
   unfold mostD
   split
   ·omega
   ·have h9:10922≤65536 / k:=by
     rw [Nat.le_div_iff_mul_le (by omega)];omega
    omega
  refine bV (XF.thenN (aH ?_))
  have hS9:=hS.keep K (fun q hq=>by simp [hq])
  clear hS;have hS:=hS9;clear hS9
  refine yM (mk:=[2,5,7,8,9,10,11,12]) (k:=13) (vals:=(fun i8=>match i8 with | 0=>da.val | 1=>db.val | 3=>.pointer (some ⟨B1,0+0,none⟩) | 4=>.int .i64 da.sy | _=>.func (.func f) #[] #[])) (Pm:=PmT) (fun s w=>TG w0 ((B3,[.int .i64 0,.slice none 0 0,.slice none 0 0],25)::(B2,[.int .i64 db.sy,.slice db.na db.nl db.nc,.slice db.aa db.al db.ac],25)::(B1,[.int .i64 da.sy,.slice da.na da.nl da.nc,.slice da.aa da.al da.ac],25)::Ot) G K da db g s w∧mkA 5 [(0,[.int .i64 ((mostD k:Nat):Int)],0)] s) cD ⟨TG.start hS.drew,mkN.nil.a⟩ (Nat.le_of_ble_eq_true (by kernel_rfl)) (by kernel_rfl) (by kernel_rfl) ?_ ?_ (by decide) ?_
  ·intro i9 hi9 hin s a0 c9 w ha0 hF9 hG hD
   have hfr:∀ t v,freeT _ t=true→dD _ t=some v→c9.eval (.tmp t)=v:=fun t v h1 h2=>(hF9 t h1).trans (ha0.at_ t v h2)
   have hb3:=hG.1.own (B1,[.int .i64 da.sy,.slice da.na da.nl da.nc,.slice da.aa da.al da.ac],25) (List.mem_cons_of_mem _ (List.mem_cons_of_mem _ List.mem_cons_self))
   have hb4:=hG.1.own (B2,[.int .i64 db.sy,.slice db.na db.nl db.nc,.slice db.aa db.al db.ac],25) (List.mem_cons_of_mem _ List.mem_cons_self)
   match i9,hi9,hin with
   | 0,_,_=>exact ⟨_,rfl,rfl,by
    exact dU (l:=[(3,.pointer (some ⟨B1,0,none⟩))]) (vs:=[_,_,_]) isAgg25 sizeOf25 rfl (aQ.own (j:=0) (m:=3) hb3 rfl) c9.eval (hY (hfr 3 _ (by kernel_rfl) rfl))⟩
   | 1,_,_=>exact ⟨_,rfl,rfl,by
    exact dU (l:=[(4,.pointer (some ⟨B2,0,none⟩))]) (vs:=[_,_,_]) isAgg25 sizeOf25 rfl (aQ.own (j:=0) (m:=3) hb4 rfl) c9.eval (hY (hfr 4 _ (by kernel_rfl) rfl))⟩
   | 2,_,h9=>exact absurd (by decide) h9
   | 3,_,_=>exact ⟨_,rfl,rfl,by
    exact bC (l:=[(3,.pointer (some ⟨B1,0,none⟩))]) dO rfl rfl c9.eval (hY (hfr 3 _ (by kernel_rfl) rfl))⟩
   | 4,_,_=>exact ⟨_,rfl,rfl,by
    have h9:=(hD 3 22 (by kernel_rfl)).1 (by decide)
    exact bD (l:=[(22,.pointer (some ⟨B1,0+0,none⟩))]) isAgg3 rfl (aE hb3 rfl) c9.eval (hY h9)⟩
   | 5,_,h9=>exact absurd (by decide) h9
   | 6,_,_=>exact ⟨_,rfl,rfl,by
    exact aW (l:=[(2,.func (.func f) #[] #[])]) rfl c9.eval (hY (hfr 2 _ (by kernel_rfl) rfl))⟩
   | 7,_,h9=>exact absurd (by decide) h9
   | 8,_,h9=>exact absurd (by decide) h9
   | 9,_,h9=>exact absurd (by decide) h9
   | 10,_,h9=>exact absurd (by decide) h9
   | 11,_,h9=>exact absurd (by decide) h9
   | 12,_,h9=>exact absurd (by decide) h9
   | i+13,h9,_=>omega
  ·intro i9 him s a0 c9 w ha0 hF9 hG hnew hD
   obtain ⟨hG,h5a⟩:=hG
   have hcase:i9=2∨i9=5∨i9=7∨i9=8∨i9=9∨i9=10∨i9=11∨i9=12:=by simpa using him
   rcases hcase with rfl | rfl | rfl | rfl | rfl | rfl | rfl | rfl
   ·have h0:=(hD 0 19 (by kernel_rfl)).1 (by decide)
    have h1:=(hD 1 20 (by kernel_rfl)).1 (by decide)
    rcases hG with ⟨OA,hA,⟨g2,g7,g8,g9,g10,g12,hS9⟩ | ⟨qda,qdb,PB,MB,ll,la,fa,ba,lc,fc,bc,K1,g2,_⟩ | ⟨q,K2,ON2,ON5,g2,_⟩⟩ | ⟨q,K2,B,ON2,ON5,ON7,ON8,ON9,ON12,g2,_⟩
    ·refine nB (vs:=[da.val,db.val]) rfl qT (by simp only [List.map_cons,List.map_nil,h0,h1]) ((jT da db k Kt _ _ K w0 _ hS9 hKt hDa hDb hk (hsy.symm.trans hk) hea heb).mono ?_)
     rintro e w2 ⟨qda,qdb,PB,MB,ll,la,fa,ba,lc,fc,bc,K1,hll,rfl,hLa,hLb,hk1,hTB,hM9,hMb,hMK,hS8⟩
     exact ⟨_,[(0,[_],0)],rfl,PmT.one (by decide),.inl ⟨OA,hA.cons (by decide),.inr (.inl ⟨qda,qdb,PB,MB,ll,la,fa,ba,lc,fc,bc,K1,g2.one,g7.cons (by decide),g8.cons (by decide),g9.cons (by decide),g10.cons (by decide),g12.cons (by decide),hll,hLa,hLb,hk1,hTB,hM9,hMb,hMK,hS8⟩)⟩,h5a.cons (by decide)⟩
    ·exact absurd g2.has (hnew _)
    ·exact absurd g2 (hnew _)
    ·exact absurd g2 (hnew _)
   ·have h4:=(hD 4 23 (by kernel_rfl)).1 (by decide)
    refine nB (vs:=[.int .i64 da.sy]) rfl goes_60 (by simp only [List.map_cons,List.map_nil,h4]) ((zP da.sy k hk _ hk9).mono ?_)
    rintro e w2 ⟨rfl,hb⟩
    exact ⟨_,[(0,[_],0)],rfl,PmT.one (by decide),hG.most hnew hb,(show mkN 5 s from hnew).one.a⟩
   ·obtain ⟨O2,o2,p2⟩:=(hD 2 21 (by kernel_rfl)).2 (by decide)
    obtain ⟨O5,o5,p5⟩:=(hD 5 24 (by kernel_rfl)).2 (by decide)
    have h6:=(hD 6 25 (by kernel_rfl)).1 (by decide)
    obtain rfl:=h5a _ o5
    have e5:=p5.val (by decide)
    rcases hG with ⟨OA,hA,⟨g2,_⟩ | ⟨qda,qdb,PB,MB,ll,la,fa,ba,lc,fc,bc,K1,g2,g7,g8,g9,g10,g12,hll,hLa,hLb,hk1,hTB,hM9,hMb,hMK,hS8⟩ | ⟨q,K2,ON2,ON5,g2,g5,g7,_⟩⟩ | ⟨q,K2,B,ON2,ON5,ON7,ON8,ON9,ON12,g2,g5,g7,_⟩
    ·exact absurd o2 (g2 _)
    ·obtain rfl:=(g2 _).1 o2
     have e2:=p2.val (by decide)
     have hnm:qda.n * qdb.n≤da.nl * db.nl:=Nat.mul_le_mul hLa.n hLb.n
     have hm9:da.nl * db.nl≤24 * 24:=Nat.mul_le_mul hsa hsb
     refine nB (vs:=[.pointer (some ⟨PB,0,none⟩),.int .i64 ((mostD k:Nat):Int),.func (.func f) #[] #[]]) rfl goes_59 (by simp only [List.map_cons,List.map_nil,e2,e5,h6]) ((sN qda qdb g f (mostD k) PB MB ll la fa ba lc fc bc K1 _ _ K1 w0 _ hgo hf hll hS8 hLa.ok hLb.ok hLa.n4 hLb.n4 (hLa.kk hLb hsy) (by omega) (by omega) (fun q hq=>hq) hTB hM9 hMb hMK).mono ?_)
     rintro e w2 ⟨q,K2,rfl,hqT,hqk,hqn,hqo,hqr,hqe,hk2,hqB,hS7⟩
     refine ⟨_,[(0,[_],0)],rfl,PmT.one (by decide),.inl ⟨OA,hA.cons (by decide),.inr (.inr ⟨q,K2,_,_,List.mem_cons_of_mem _ o2,List.mem_cons_of_mem _ o5,g7.one,g8.a.cons (by decide),g9.a.cons (by decide),g10.a.cons (by decide),g12.cons (by decide),⟨hqT,by rw [hqk];exact hLa.k,Nat.le_trans hqn hnm,hqo,hqr,Eqv.trans (B:=bE qda.fa qdb.fa g) hqk hqe (sL hLa.ok.fa hLb.ok.fa hLa.dok hLb.dok (hLa.kk hLb hsy) hLa.kd hLb.kd hLa.eqv hLb.eqv)⟩,fun z hz=>hk2 z (hk1 z hz),hqB,hS7⟩)⟩,h5a.cons (by decide)⟩
    ·exact absurd g7.has (hnew _)
    ·exact absurd g7 (hnew _)
   ·obtain h7x:=(hD 7 26 (by kernel_rfl)).2 (by decide)
    refine qW (v:=c9.eval (.tmp 26)) (w':=w) rfl rfl ?_ ⟨PmT.one (by decide),hG.p8 hnew h7x,h5a.cons (by decide)⟩
    exact aW (l:=[(26,c9.eval (.tmp 26))]) rfl c9.eval (hY rfl)
   ·obtain ⟨q,e8,h9⟩:=hG.p9 hnew ((hD 8 18 (by kernel_rfl)).2 (by decide))
    refine qW (v:=q.val) (w':=w) rfl rfl ?_ ⟨PmT.one (by decide),h9,h5a.cons (by decide)⟩
    exact fE (l:=[(18,.tuple #[q.val,.bool true])]) rfl rfl c9.eval (hY e8)
   ·obtain ⟨q,e8,h9⟩:=hG.p10 hnew ((hD 8 18 (by kernel_rfl)).2 (by decide))
    refine qW (v:=.bool true) (w':=w) rfl rfl ?_ ⟨PmT.one (by decide),h9,h5a.cons (by decide)⟩
    exact fE (l:=[(18,.tuple #[q.val,.bool true])]) rfl rfl c9.eval (hY e8)
   ·refine sO (cs:=Z3t) rfl zeroValue61 rfl ?_
    exact ⟨_,_,rfl,⟨fun _=>⟨_,rfl,rfl⟩,fun h=>absurd rfl h⟩,hG.alloc hnew,h5a.cons (by decide)⟩
   ·obtain ⟨O7,o7,_⟩:=(hD 7 26 (by kernel_rfl)).2 (by decide)
    obtain ⟨O8,o8,_⟩:=(hD 8 18 (by kernel_rfl)).2 (by decide)
    obtain ⟨q,B,ev,ep,hB9,hst⟩:=hG.p12 hnew ⟨_,o7⟩ ⟨_,o8⟩ ((hD 9 27 (by kernel_rfl)).2 (by decide)) ((hD 11 9 (by kernel_rfl)).2 (by decide))
    exact wS (vs:=q.cells) rfl sizeOf61 ep ev rfl hB9 (show 3≤3 from Nat.le_refl _) ⟨[(0,[undef],0)],PmT.one (by decide),hst _,h5a.cons (by decide)⟩
  ·intro s c9 w hG hsz hdf hfr hval hin hmk hkeys hdist
   obtain ⟨q,K2,B9,hp9,hv9,hQF,hk2,hqB,hS2⟩:=hG.1.done (hin 12 (by decide)) (hmk 11 9 (by decide) rfl) (hmk 10 28 (by decide) rfl)
   clear hS;have hS:=hS2;clear hS2
   refine (show bS _ _ _ _ (List.drop 13 _) [(3,.pointer (some ⟨B1,0,none⟩)),(4,.pointer (some ⟨B2,0,none⟩)),(6,.pointer (some ⟨B3,0,none⟩)),(9,.pointer (some ⟨B9,0,none⟩)),(28,.bool true)] w from ?_) c9 (wJ.has hsz hdf ⟨hfr 3 _ (by kernel_rfl) rfl,hfr 4 _ (by kernel_rfl) rfl,hfr 6 _ (by kernel_rfl) rfl,hp9,hv9,trivial⟩)
   refine aB rfl rfl (aK (XF.thenN (aH (aH (aN (aA rfl rfl (gE rfl rfl (aK (XF.thenN (wU rfl (bV (XF.thenN (aH (aN (bG (vs:=[_,_,_]) isAgg61 sizeOf61 rfl (aQ.own (j:=0) (m:=3) (hS.at_ 0 rfl) rfl) rfl (bP (vs:=[_]) vG rfl (sI q K2 _ _ K2 w0 _ (hS.keep K2 (fun q hq=>by simp [hq])) hQF.ok (fun q hq=>hq) hqB) rfl ?_))))))))))))))))
   rintro e W9 ⟨d2,K3,rfl,hd2,k3,hdR,hS9⟩
   refine ⟨_,rfl,?_⟩
   clear hS;have hS:=hS9;clear hS9
   refine cB (i:=1) (vs:=[_,_,_]) (cs':=[_,_,_]) (O':=(_::_::_::_::Ot)) hS sizeOf25 rfl rfl rfl rfl rfl rfl rfl fun W5 hS=>aB rfl rfl (aK (XF.thenN (cG (XF.res (mJ (vs:=[_,_,_]) results43 isAgg25 sizeOf25 rfl (aQ.own (j:=0) (m:=3) (hS.at_ 1 rfl) rfl) rfl) ?_))))
   obtain ⟨K4,k4,g4,hS4⟩:=(hS.keep K3 (fun q hq=>by simp [hq])).rowKeep
   have hqk:q.k=(dFA da).k:=by have:=hQF.k;show q.k=da.sy.toNat;omega
   have hm9:da.nl * db.nl≤24 * 24:=Nat.mul_le_mul hsa hsb
   have hqn:=hQF.n
   have hqk6:q.k≤6:=by have:=hQF.k;omega
   have hl:=zC (A:=bE (dFA da) (dFA db) g) hQF.ok hd2 hQF.ord hQF.red hQF.eqv hqk (by omega) (by omega) (Nat.le_trans (Nat.mul_le_mul (show q.n≤576 by omega) hqk6) (by decide))
   exact ⟨d2,K4,fun _=>⟨hl.1,by rw [hl.2];exact hqn⟩,fun h=>absurd h0 h,by rw [h0],fun z hz=>k4 z (k3 z (hk2 z hz)),fun h9 hk9=>zG hQF.ok hd2 (hdR h9 (fun z hz=>hk9 z (k4 z hz))) (by rw [hd2.bs];exact vN (g4 h9 hk9)),hS4.tail.tail.tail.tail⟩
theorem zR (da db:DV) (Kt:List (Nat×World)) (Ot:Own) (G:bH) (K:List (Nat×World)) (w0 w:World) (hS0:St w0 Ot G K w) (hKt:∀ q∈Kt,q∈K) (hDa:cP w0 Kt (fun W=>DIn W da)) (hDb:cP w0 Kt (fun W=>DIn W db)) (hsa:da.nl≤24) (hsb:db.nl≤24) (hk6:da.sy≤6) :
  Calls prog 26 #[da.val,db.val] w (fun e w'=>∃ (d2:DV) (Kn:List (Nat×World)),(eQ da db=0→Lst d2 (bE (dFA da) (dFA db) (fun x y=>(x && y)))∧d2.nl≤da.nl * db.nl)∧(eQ da db≠0→d2=zD)∧e = .returned (.tuple #[d2.val,.int .i64 (eQ da db)])∧(∀ q∈K,q∈Kn)∧cP w0 Kn (fun W=>DIn W d2)∧St w0 Ot G Kn w'):=by
 refine cK (args:=[da.val,db.val]) func26 rfl ntmps26 rfl ?_
 have hS:=hS0
 refine aH (aN (cN (cs:=[_,_,_]) hS rfl rfl rfl fun B1 W1 hS=>cN (cs:=[_,_,_]) hS rfl rfl rfl fun B2 W2 hS=>cI (cs:=[_,_,_]) hS zeroValue25 rfl rfl fun B3 W3 hS=>aB rfl rfl (aK (XF.thenN (aH (aN (bG (vs:=[_,_,_]) isAgg25 sizeOf25 rfl (aQ.own (j:=0) (m:=3) (hS.at_ 2 rfl) rfl) rfl (bG (vs:=[_,_,_]) isAgg25 sizeOf25 rfl (aQ.own (j:=0) (m:=3) (hS.at_ 1 rfl) rfl) rfl (bP (vs:=[_,_,_]) vP rfl (mP da db Kt _ _ K w0 _ (hS.keep K (fun q hq=>by simp [hq])) hKt hDa hDb hsa hsb hk6 (fun x y=>(x && y)) 44 goes_44 zQ) rfl ?_)))))))))
 rintro e W9 ⟨d2,K2,hok,hbad,rfl,hk2,hD2,hS9⟩
 refine ⟨_,rfl,?_⟩
 clear hS;have hS:=hS9;clear hS9
 refine bI rfl rfl rfl (bI rfl rfl rfl (cB (i:=0) (vs:=[_,_,_]) (cs':=[_,_,_]) (O':=(_::_::_::Ot)) hS sizeOf25 rfl rfl rfl rfl rfl rfl rfl fun W4 hS=>aB rfl rfl (aK (XF.thenN (cG (XF.res (mJ (vs:=[_,_,_]) results26 isAgg25 sizeOf25 rfl (aQ.own (j:=0) (m:=3) (hS.at_ 0 rfl) rfl) rfl) ?_))))))
 exact ⟨d2,K2,hok,hbad,rfl,hk2,hD2,(hS.keep K2 (fun q hq=>by simp [hq])).tail.tail.tail⟩
theorem uA (da db:DV) (Kt:List (Nat×World)) (Ot:Own) (G:bH) (K:List (Nat×World)) (w0 w:World) (hS0:St w0 Ot G K w) (hKt:∀ q∈Kt,q∈K) (hDa:cP w0 Kt (fun W=>DIn W da)) (hDb:cP w0 Kt (fun W=>DIn W db)) (hsa:da.nl≤24) (hsb:db.nl≤24) (hk6:da.sy≤6) :
  Calls prog 28 #[da.val,db.val] w (fun e w'=>∃ (d2:DV) (Kn:List (Nat×World)),(eQ da db=0→Lst d2 (bE (dFA da) (dFA db) (fun x y=>(x || y)))∧d2.nl≤da.nl * db.nl)∧(eQ da db≠0→d2=zD)∧e = .returned (.tuple #[d2.val,.int .i64 (eQ da db)])∧(∀ q∈K,q∈Kn)∧cP w0 Kn (fun W=>DIn W d2)∧St w0 Ot G Kn w'):=by
 refine cK (args:=[da.val,db.val]) func28 rfl ntmps28 rfl ?_
 have hS:=hS0
 refine aH (aN (cN (cs:=[_,_,_]) hS rfl rfl rfl fun B1 W1 hS=>cN (cs:=[_,_,_]) hS rfl rfl rfl fun B2 W2 hS=>cI (cs:=[_,_,_]) hS zeroValue25 rfl rfl fun B3 W3 hS=>aB rfl rfl (aK (XF.thenN (aH (aN (bG (vs:=[_,_,_]) isAgg25 sizeOf25 rfl (aQ.own (j:=0) (m:=3) (hS.at_ 2 rfl) rfl) rfl (bG (vs:=[_,_,_]) isAgg25 sizeOf25 rfl (aQ.own (j:=0) (m:=3) (hS.at_ 1 rfl) rfl) rfl (bP (vs:=[_,_,_]) vP rfl (mP da db Kt _ _ K w0 _ (hS.keep K (fun q hq=>by simp [hq])) hKt hDa hDb hsa hsb hk6 (fun x y=>(x || y)) 46 goes_46 tZ) rfl ?_)))))))))
 rintro e W9 ⟨d2,K2,hok,hbad,rfl,hk2,hD2,hS9⟩
 refine ⟨_,rfl,?_⟩
 clear hS;have hS:=hS9;clear hS9
 refine bI rfl rfl rfl (bI rfl rfl rfl (cB (i:=0) (vs:=[_,_,_]) (cs':=[_,_,_]) (O':=(_::_::_::Ot)) hS sizeOf25 rfl rfl rfl rfl rfl rfl rfl fun W4 hS=>aB rfl rfl (aK (XF.thenN (cG (XF.res (mJ (vs:=[_,_,_]) results28 isAgg25 sizeOf25 rfl (aQ.own (j:=0) (m:=3) (hS.at_ 0 rfl) rfl) rfl) ?_))))))
 exact ⟨d2,K2,hok,hbad,rfl,hk2,hD2,(hS.keep K2 (fun q hq=>by simp [hq])).tail.tail.tail⟩
theorem goes_26:bU prog 26=true:=by kernel_rfl
theorem goes_28:bU prog 28=true:=by kernel_rfl
theorem sP {w:World} {d:DV} (hd:DIn w d) (h:jR d=true) (he:cQ d=0):d.nl≤24∧d.sy≤6:=by
 obtain ⟨k,hk,h1,h2,h3,h4,h5,h6⟩:=eB he
 unfold jR at h
 simp only [Bool.and_eq_true,decide_eq_true_eq] at h
 refine ⟨h.1,?_⟩
 have hl:=hd.nlen
 obtain ⟨r,hr⟩:∃ r,d.ns[0]?=some r:=⟨_,List.getElem?_eq_getElem (by omega)⟩
 have hm:=List.mem_of_getElem? hr
 have h7:=of_decide_eq_true (List.all_eq_true.1 h.2.2 r hm)
 have h8:=(h6 r hm).1
 omega
theorem zS {d e:DV} {A:FA} (h:Lst d A) (hA:A.k=(dFA e).k) (he:cQ e=0):d.sy=e.sy:=by
 obtain ⟨k,hk,_⟩:=eB h.e
 obtain ⟨k',hk',_⟩:=eB he
 have h1:d.sy.toNat=e.sy.toNat:=h.k.trans hA
 omega
theorem zT {d:DV} {A:FA} (h:Lst d A):(dFA d).Ok:=oE h.e h.len h.xl
theorem pA {d e:DV} {A B:FA} {r:Option (List Nat)} (hd:(dFA d).Ok) (he:(dFA e).Ok) (hk:(dFA d).k=(dFA e).k) (h1:Eqv (dFA d) 0 A 0) (h2:Eqv (dFA e) 0 B 0) (hw:∀ u,Wd (dFA d).k u→A.acc 0 u=true→B.acc 0 u=true) (hf:FW (bE (dFA d) (dFA e) (fun x y=>x && !y)) r):r.isNone=true :=
 (kG hd he hk hf).2 fun u hu ha=>by rw [h2 u (hk▸hu)];exact hw u hu (by rw [← h1 u hu];exact ha)
theorem vQ {A:FA}:Eqv A 0 A 0:=fun _ _=>rfl
theorem oO (da db dc:DV) (w:World) (hDa:DIn w da) (hDb:DIn w db) (hDc:DIn w dc) :
  Calls prog 8 #[da.val,db.val,dc.val] w (fun e w'=>e = .returned (.bool true)∧Below w.heap.size w w'):=by
 refine cK (args:=[da.val,db.val,dc.val]) func8 rfl ntmps8 rfl ?_
 have hS:=St.start w
 refine aH (aN (cN (cs:=[_,_,_]) hS rfl rfl rfl fun B1 W1 hS=>cN (cs:=[_,_,_]) hS rfl rfl rfl fun B2 W2 hS=>cN (cs:=[_,_,_]) hS rfl rfl rfl fun B3 W3 hS=>aB rfl rfl (aK (XF.thenN (aH (aH (aN (bG (vs:=[_,_,_]) isAgg25 sizeOf25 rfl (aQ.own (j:=0) (m:=3) (hS.at_ 2 rfl) rfl) rfl (cT (vs:=[_]) hS tW rfl (mH da _ (hDa.below hS.below)) rfl fun W4 hS=>gE rfl rfl (aA rfl rfl (bN (d:=29) rfl (fun hc=>?_) (fun hc=>?_))))))))))))
 ·have hg29:=hc;clear hc
  refine aC (d:=29) rfl rfl rfl rfl (aC (d:=29) rfl rfl rfl rfl (aC (d:=29) rfl rfl rfl rfl (aU rfl rfl rfl (aA rfl rfl (aC (d:=34) rfl rfl rfl rfl (aC (d:=34) rfl rfl rfl rfl (aC (d:=34) rfl rfl rfl rfl (aU rfl rfl rfl (aA rfl rfl (aC (d:=39) rfl rfl rfl rfl (aC (d:=39) rfl rfl rfl rfl (aC (d:=39) rfl rfl rfl rfl (aU rfl rfl rfl (aA rfl rfl (aC (d:=44) rfl rfl rfl rfl (aC (d:=44) rfl rfl rfl rfl (aC (d:=44) rfl rfl rfl rfl (aU rfl rfl rfl (aA rfl rfl (aC (d:=49) rfl rfl rfl rfl (aC (d:=49) rfl rfl rfl rfl (aC (d:=49) rfl rfl rfl rfl (aU rfl rfl rfl (aA rfl rfl (aC (d:=54) rfl rfl rfl rfl (aC (d:=54) rfl rfl rfl rfl (aC (d:=54) rfl rfl rfl rfl (aC (d:=54) rfl rfl rfl rfl (aC (d:=54) rfl rfl rfl rfl (aU rfl rfl rfl (aA rfl rfl (aC (d:=61) rfl rfl rfl rfl ?_))))))))))))))))))))))))))))))))
  refine aC (d:=61) rfl rfl rfl rfl (aC (d:=61) rfl rfl rfl rfl (aC (d:=61) rfl rfl rfl rfl (aC (d:=61) rfl rfl rfl rfl (aU rfl rfl rfl (aK (XF.thenN (eK rfl (aH (aN (cT (vs:=[]) hS fR rfl (dX _) rfl fun W5 hS=>aB rfl rfl (aK (XF.thenN (cG (XF.thenR (XF.res (cR results8 rfl) ?_)))))))))))))))
  exact ⟨rfl,hS.below⟩
 ·have hg29:=hc;clear hc
  refine aD (d:=29) rfl rfl (bG (vs:=[_,_,_]) isAgg25 sizeOf25 rfl (aQ.own (j:=0) (m:=3) (hS.at_ 1 rfl) rfl) rfl (aD (d:=29) rfl rfl (cT (vs:=[_]) hS tW rfl (mH db _ (hDb.below hS.below)) rfl fun W6 hS=>aD (d:=29) rfl rfl (gE rfl rfl (cE rfl rfl rfl (aA rfl rfl (bN (d:=34) rfl (fun hc=>?_) (fun hc=>?_))))))))
  ·have hg34:=hc;clear hc
   refine aC (d:=34) rfl rfl rfl rfl (aC (d:=34) rfl rfl rfl rfl (aC (d:=34) rfl rfl rfl rfl (aU rfl rfl rfl (aA rfl rfl (aC (d:=39) rfl rfl rfl rfl (aC (d:=39) rfl rfl rfl rfl (aC (d:=39) rfl rfl rfl rfl (aU rfl rfl rfl (aA rfl rfl (aC (d:=44) rfl rfl rfl rfl (aC (d:=44) rfl rfl rfl rfl (aC (d:=44) rfl rfl rfl rfl (aU rfl rfl rfl (aA rfl rfl (aC (d:=49) rfl rfl rfl rfl (aC (d:=49) rfl rfl rfl rfl (aC (d:=49) rfl rfl rfl rfl (aU rfl rfl rfl (aA rfl rfl (aC (d:=54) rfl rfl rfl rfl (aC (d:=54) rfl rfl rfl rfl (aC (d:=54) rfl rfl rfl rfl (aC (d:=54) rfl rfl rfl rfl (aC (d:=54) rfl rfl rfl rfl (aU rfl rfl rfl (aA rfl rfl (aC (d:=61) rfl rfl rfl rfl (aC (d:=61) rfl rfl rfl rfl (aC (d:=61) rfl rfl rfl rfl (aC (d:=61) rfl rfl rfl rfl (aC (d:=61) rfl rfl rfl rfl (aU rfl rfl rfl ?_))))))))))))))))))))))))))))))))
   refine aK (XF.thenN (eK rfl (aH (aN (cT (vs:=[]) hS fR rfl (dX _) rfl fun W7 hS=>aB rfl rfl (aK (XF.thenN (cG (XF.thenR (XF.res (cR results8 rfl) ?_))))))))))
   exact ⟨rfl,hS.below⟩
  ·have hg34:=hc;clear hc
   refine aD (d:=34) rfl rfl (bG (vs:=[_,_,_]) isAgg25 sizeOf25 rfl (aQ.own (j:=0) (m:=3) (hS.at_ 0 rfl) rfl) rfl (aD (d:=34) rfl rfl (cT (vs:=[_]) hS tW rfl (mH dc _ (hDc.below hS.below)) rfl fun W8 hS=>aD (d:=34) rfl rfl (gE rfl rfl (cE rfl rfl rfl (aA rfl rfl (bN (d:=39) rfl (fun hc=>?_) (fun hc=>?_))))))))
   ·have hg39:=hc;clear hc
    refine aC (d:=39) rfl rfl rfl rfl (aC (d:=39) rfl rfl rfl rfl (aC (d:=39) rfl rfl rfl rfl (aU rfl rfl rfl (aA rfl rfl (aC (d:=44) rfl rfl rfl rfl (aC (d:=44) rfl rfl rfl rfl (aC (d:=44) rfl rfl rfl rfl (aU rfl rfl rfl (aA rfl rfl (aC (d:=49) rfl rfl rfl rfl (aC (d:=49) rfl rfl rfl rfl (aC (d:=49) rfl rfl rfl rfl (aU rfl rfl rfl (aA rfl rfl (aC (d:=54) rfl rfl rfl rfl (aC (d:=54) rfl rfl rfl rfl (aC (d:=54) rfl rfl rfl rfl (aC (d:=54) rfl rfl rfl rfl (aC (d:=54) rfl rfl rfl rfl (aU rfl rfl rfl (aA rfl rfl (aC (d:=61) rfl rfl rfl rfl (aC (d:=61) rfl rfl rfl rfl (aC (d:=61) rfl rfl rfl rfl (aC (d:=61) rfl rfl rfl rfl (aC (d:=61) rfl rfl rfl rfl (aU rfl rfl rfl (aK (XF.thenN (eK rfl (aH (aN (cT (vs:=[]) hS fR rfl (dX _) rfl fun W9 hS=>aB rfl rfl ?_)))))))))))))))))))))))))))))))))
    refine aK (XF.thenN (cG (XF.thenR (XF.res (cR results8 rfl) ?_))))
    exact ⟨rfl,hS.below⟩
   ·have hg39:=hc;clear hc
    refine aD (d:=39) rfl rfl (bG (vs:=[_,_,_]) isAgg25 sizeOf25 rfl (aQ.own (j:=0) (m:=3) (hS.at_ 2 rfl) rfl) rfl (aD (d:=39) rfl rfl (cT (vs:=[_]) hS qL rfl (pZ da _ (hDa.below hS.below)) rfl fun W10 hS=>aD (d:=39) rfl rfl (dZ rfl rfl rfl (cE rfl rfl rfl (aA rfl rfl (bN (d:=44) rfl (fun hc=>?_) (fun hc=>?_))))))))
    ·have hg44:=of_decide_eq_true hc;clear hc
     refine aC (d:=44) rfl rfl rfl rfl (aC (d:=44) rfl rfl rfl rfl (aC (d:=44) rfl rfl rfl rfl (aU rfl rfl rfl (aA rfl rfl (aC (d:=49) rfl rfl rfl rfl (aC (d:=49) rfl rfl rfl rfl (aC (d:=49) rfl rfl rfl rfl (aU rfl rfl rfl (aA rfl rfl (aC (d:=54) rfl rfl rfl rfl (aC (d:=54) rfl rfl rfl rfl (aC (d:=54) rfl rfl rfl rfl (aC (d:=54) rfl rfl rfl rfl (aC (d:=54) rfl rfl rfl rfl (aU rfl rfl rfl (aA rfl rfl (aC (d:=61) rfl rfl rfl rfl (aC (d:=61) rfl rfl rfl rfl (aC (d:=61) rfl rfl rfl rfl (aC (d:=61) rfl rfl rfl rfl (aC (d:=61) rfl rfl rfl rfl (aU rfl rfl rfl (aK (XF.thenN (eK rfl (aH (aN (cT (vs:=[]) hS fR rfl (dX _) rfl fun W11 hS=>aB rfl rfl (aK (XF.thenN (cG (XF.thenR (XF.res (cR results8 rfl) ?_)))))))))))))))))))))))))))))))))
     exact ⟨rfl,hS.below⟩
    ·have hg44:=of_decide_eq_false hc;clear hc
     refine aD (d:=44) rfl rfl (bG (vs:=[_,_,_]) isAgg25 sizeOf25 rfl (aQ.own (j:=0) (m:=3) (hS.at_ 1 rfl) rfl) rfl (aD (d:=44) rfl rfl (cT (vs:=[_]) hS qL rfl (pZ db _ (hDb.below hS.below)) rfl fun W12 hS=>aD (d:=44) rfl rfl (dZ rfl rfl rfl (cE rfl rfl rfl (aA rfl rfl (bN (d:=49) rfl (fun hc=>?_) (fun hc=>?_))))))))
     ·have hg49:=of_decide_eq_true hc;clear hc
      refine aC (d:=49) rfl rfl rfl rfl (aC (d:=49) rfl rfl rfl rfl (aC (d:=49) rfl rfl rfl rfl (aU rfl rfl rfl (aA rfl rfl (aC (d:=54) rfl rfl rfl rfl (aC (d:=54) rfl rfl rfl rfl (aC (d:=54) rfl rfl rfl rfl (aC (d:=54) rfl rfl rfl rfl (aC (d:=54) rfl rfl rfl rfl (aU rfl rfl rfl (aA rfl rfl (aC (d:=61) rfl rfl rfl rfl (aC (d:=61) rfl rfl rfl rfl (aC (d:=61) rfl rfl rfl rfl (aC (d:=61) rfl rfl rfl rfl (aC (d:=61) rfl rfl rfl rfl (aU rfl rfl rfl (aK (XF.thenN (eK rfl (aH (aN (cT (vs:=[]) hS fR rfl (dX _) rfl fun W13 hS=>aB rfl rfl (aK (XF.thenN (cG (XF.thenR (XF.res (cR results8 rfl) ?_))))))))))))))))))))))))))))
      exact ⟨rfl,hS.below⟩
     ·have hg49:=of_decide_eq_false hc;clear hc
      refine aD (d:=49) rfl rfl (bG (vs:=[_,_,_]) isAgg25 sizeOf25 rfl (aQ.own (j:=0) (m:=3) (hS.at_ 0 rfl) rfl) rfl (aD (d:=49) rfl rfl (cT (vs:=[_]) hS qL rfl (pZ dc _ (hDc.below hS.below)) rfl fun W14 hS=>aD (d:=49) rfl rfl (dZ rfl rfl rfl (cE rfl rfl rfl (aA rfl rfl (bN (d:=54) rfl (fun hc=>?_) (fun hc=>?_))))))))
      ·have hg54:=of_decide_eq_true hc;clear hc
       refine aC (d:=54) rfl rfl rfl rfl (aC (d:=54) rfl rfl rfl rfl (aC (d:=54) rfl rfl rfl rfl (aC (d:=54) rfl rfl rfl rfl (aC (d:=54) rfl rfl rfl rfl (aU rfl rfl rfl (aA rfl rfl (aC (d:=61) rfl rfl rfl rfl (aC (d:=61) rfl rfl rfl rfl (aC (d:=61) rfl rfl rfl rfl (aC (d:=61) rfl rfl rfl rfl (aC (d:=61) rfl rfl rfl rfl (aU rfl rfl rfl (aK (XF.thenN (eK rfl (aH (aN (cT (vs:=[]) hS fR rfl (dX _) rfl fun W15 hS=>aB rfl rfl (aK (XF.thenN (cG (XF.thenR (XF.res (cR results8 rfl) ?_)))))))))))))))))))))))
       exact ⟨rfl,hS.below⟩
      ·have hg54:=of_decide_eq_false hc;clear hc
       refine aD (d:=54) rfl rfl (aR (o':=0) dO rfl rfl rfl (aD (d:=54) rfl rfl (aO isAgg3 rfl (aE (hS.at_ 2 rfl) rfl) rfl (aD (d:=54) rfl rfl (aR (o':=0) dO rfl rfl rfl (aD (d:=54) rfl rfl (aO isAgg3 rfl (aE (hS.at_ 1 rfl) rfl) rfl (aD (d:=54) rfl rfl (dZ rfl rfl rfl (cE rfl rfl rfl (aA rfl rfl (bN (d:=61) rfl (fun hc=>?_) (fun hc=>?_)))))))))))))
       ·have hg61:=of_decide_eq_true hc;clear hc
        refine aC (d:=61) rfl rfl rfl rfl (aC (d:=61) rfl rfl rfl rfl (aC (d:=61) rfl rfl rfl rfl (aC (d:=61) rfl rfl rfl rfl (aC (d:=61) rfl rfl rfl rfl (aU rfl rfl rfl (aK (XF.thenN (eK rfl (aH (aN (cT (vs:=[]) hS fR rfl (dX _) rfl fun W16 hS=>aB rfl rfl (aK (XF.thenN (cG (XF.thenR (XF.res (cR results8 rfl) ?_))))))))))))))))
        exact ⟨rfl,hS.below⟩
       ·have hg61:=of_decide_eq_false hc;clear hc
        refine aD (d:=61) rfl rfl (aR (o':=0) dO rfl rfl rfl (aD (d:=61) rfl rfl (aO isAgg3 rfl (aE (hS.at_ 1 rfl) rfl) rfl (aD (d:=61) rfl rfl (aR (o':=0) dO rfl rfl rfl (aD (d:=61) rfl rfl (aO isAgg3 rfl (aE (hS.at_ 0 rfl) rfl) rfl (aD (d:=61) rfl rfl (dZ rfl rfl rfl (cE rfl rfl rfl (aK (XF.thenN (bW rfl (fun hc=>?_) (fun hc=>?_))))))))))))))
        ·have hc67:=of_decide_eq_true hc;clear hc
         refine aH (aN (cT (vs:=[]) hS fR rfl (dX _) rfl fun W17 hS=>aB rfl rfl (aK (XF.thenN (cG (XF.thenR (XF.res (cR results8 rfl) ?_)))))))
         exact ⟨rfl,hS.below⟩
        ·have hc67:=of_decide_eq_false hc;clear hc
         have hea:cQ da=0:=by omega
         have heb:cQ db=0:=by omega
         have hec:cQ dc=0:=by omega
         have hsy:da.sy=db.sy:=by omega
         have hsy2:db.sy=dc.sy:=by omega
         have hsa:=sP hDa (by simpa using hg29) hea
         have hsb:=sP hDb (by simpa using hg34) heb
         have hbd:=jU hea heb hsy
         have hbd2:=jU heb hec hsy2
         have hbd3:=jU hea hec (hsy.trans hsy2)
         have hA:=tX hDa hea
         have hB:=tX hDb heb
         have hC:=tX hDc hec
         have hkk:(dFA da).k=(dFA db).k:=by show da.sy.toNat=db.sy.toNat;rw [hsy]
         have hkk2:(dFA db).k=(dFA dc).k:=by show db.sy.toNat=dc.sy.toNat;rw [hsy2]
         refine bV (XF.thenN (aH (aN (bG (vs:=[_,_,_]) isAgg25 sizeOf25 rfl (aQ.own (j:=0) (m:=3) (hS.at_ 2 rfl) rfl) rfl (bG (vs:=[_,_,_]) isAgg25 sizeOf25 rfl (aQ.own (j:=0) (m:=3) (hS.at_ 1 rfl) rfl) rfl (bP (vs:=[_,_]) goes_26 rfl (zR da db [] _ _ _ w _ hS (fun q hq=>by cases hq) (eD hDa) (eD hDb) hsa.1 hsb.1 hsa.2) rfl ?_))))))
         rintro e W9 ⟨dp,K1,hdp,_,rfl,hK1,hDdp,hS9⟩
         rw [hbd]
         refine ⟨_,rfl,?_⟩
         clear hS;have hS:=hS9;clear hS9
         refine aA rfl rfl (bI rfl rfl rfl (bI rfl rfl rfl (cI (cs:=[_,_,_]) hS zeroValue25 rfl rfl fun B18 W18 hS=>cB (i:=0) (vs:=[_,_,_]) (cs':=[_,_,_]) (O':=[_,_,_,_]) hS sizeOf25 rfl rfl rfl rfl rfl rfl rfl fun W19 hS=>aB rfl rfl (aK (XF.thenN (aH (aN (bG (vs:=[_,_,_]) isAgg25 sizeOf25 rfl (aQ.own (j:=0) (m:=3) (hS.at_ 3 rfl) rfl) rfl (bG (vs:=[_,_,_]) isAgg25 sizeOf25 rfl (aQ.own (j:=0) (m:=3) (hS.at_ 2 rfl) rfl) rfl (bP (vs:=[_,_]) goes_28 rfl (uA da db [] _ _ K1 w _ (hS.keep K1 (fun q hq=>by simp [hq])) (fun q hq=>by cases hq) (eD hDa) (eD hDb) hsa.1 hsb.1 hsa.2) rfl ?_))))))))))
         rintro e W9 ⟨dq,K2,hdq,_,rfl,hK2,hDdq,hS9⟩
         rw [hbd]
         refine ⟨_,rfl,?_⟩
         clear hS;have hS:=hS9;clear hS9
         refine aA rfl rfl (bI rfl rfl rfl (bI rfl rfl rfl (cI (cs:=[_,_,_]) hS zeroValue25 rfl rfl fun B20 W20 hS=>cB (i:=0) (vs:=[_,_,_]) (cs':=[_,_,_]) (O':=[_,_,_,_,_]) hS sizeOf25 rfl rfl rfl rfl rfl rfl rfl fun W21 hS=>aB rfl rfl (aK (XF.thenN (aH (aH (aN (aA rfl rfl (dZ rfl rfl rfl (aA rfl rfl (bN (d:=83) rfl (fun hc=>absurd (of_decide_eq_true hc) (by omega)) (fun hc=>?_)))))))))))))
         have hc:=of_decide_eq_false hc
         refine aD (d:=83) rfl rfl (aA rfl rfl (aD (d:=83) rfl rfl (dZ rfl rfl rfl (cE rfl rfl rfl (aK (XF.thenN (bW rfl (fun hc=>absurd (of_decide_eq_true hc) (by omega)) (fun hc=>?_))))))))
         have hc:=of_decide_eq_false hc
         refine bV (XF.thenN (aH ?_))
         have hp:=(hdp hbd).1
         have hq:=(hdq hbd).1
         have hP:=zT hp
         have hQ:=zT hq
         have hpa:=jU hp.e hea (zS hp rfl hea)
         have hqa:=jU hea hq.e (zS hq rfl hea).symm
         refine aN (bG (vs:=[_,_,_]) isAgg25 sizeOf25 rfl (aQ.own (j:=0) (m:=3) (hS.at_ 1 rfl) rfl) rfl (bG (vs:=[_,_,_]) isAgg25 sizeOf25 rfl (aQ.own (j:=0) (m:=3) (hS.at_ 4 rfl) rfl) rfl (bP (vs:=[_,_]) lV rfl (hZ dp da K1 _ _ K2 w _ (hS.keep K2 (fun q hq=>by simp [hq])) (fun q hq=>hK2 q hq) hDdp (cP.moreK (eD hDa) (fun q hq=>by cases hq))) rfl ?_)))
         rintro e W9 ⟨rx,warx,wcrx,K3,hfrx,_,rfl,hK3,_,hS9⟩
         rw [hpa]
         refine ⟨_,rfl,?_⟩
         clear hS;have hS:=hS9;clear hS9
         refine aA rfl rfl (bI rfl rfl rfl (bI rfl rfl rfl (bI rfl rfl rfl (aB rfl rfl (aB rfl rfl (aB rfl rfl (aK (XF.thenN (aH (aN (bG (vs:=[_,_,_]) isAgg25 sizeOf25 rfl (aQ.own (j:=0) (m:=3) (hS.at_ 4 rfl) rfl) rfl (bG (vs:=[_,_,_]) isAgg25 sizeOf25 rfl (aQ.own (j:=0) (m:=3) (hS.at_ 0 rfl) rfl) rfl (bP (vs:=[_,_]) lV rfl (hZ da dq K2 _ _ K3 w _ (hS.keep K3 (fun q hq=>by simp [hq])) (fun q hq=>hK3 q hq) (cP.moreK (eD hDa) (fun q hq=>by cases hq)) hDdq) rfl ?_)))))))))))))
         rintro e W9 ⟨ry,wary,wcry,K4,hfry,_,rfl,hK4,_,hS9⟩
         rw [hqa]
         refine ⟨_,rfl,?_⟩
         clear hS;have hS:=hS9;clear hS9
         refine aA rfl rfl (bI rfl rfl rfl (bI rfl rfl rfl (bI rfl rfl rfl (aB rfl rfl (aB rfl rfl (aB rfl rfl (aK (XF.thenN (aH (aN (bG (vs:=[_,_,_]) isAgg25 sizeOf25 rfl (aQ.own (j:=0) (m:=3) (hS.at_ 4 rfl) rfl) rfl (bG (vs:=[_,_,_]) isAgg25 sizeOf25 rfl (aQ.own (j:=0) (m:=3) (hS.at_ 3 rfl) rfl) rfl (bP (vs:=[_,_]) lV rfl (hZ da db [] _ _ K4 w _ (hS.keep K4 (fun q hq=>by simp [hq])) (fun q hq=>by cases hq) (eD hDa) (eD hDb)) rfl ?_)))))))))))))
         rintro e W9 ⟨ru,waru,wcru,K5,hfru,_,rfl,hK5,_,hS9⟩
         rw [hbd]
         refine ⟨_,rfl,?_⟩
         clear hS;have hS:=hS9;clear hS9
         refine aA rfl rfl (bI rfl rfl rfl (bI rfl rfl rfl (bI rfl rfl rfl (aB rfl rfl (aB rfl rfl (aB rfl rfl (aK (XF.thenN (aH (aN (bG (vs:=[_,_,_]) isAgg25 sizeOf25 rfl (aQ.own (j:=0) (m:=3) (hS.at_ 3 rfl) rfl) rfl (bG (vs:=[_,_,_]) isAgg25 sizeOf25 rfl (aQ.own (j:=0) (m:=3) (hS.at_ 2 rfl) rfl) rfl (bP (vs:=[_,_]) lV rfl (hZ db dc [] _ _ K5 w _ (hS.keep K5 (fun q hq=>by simp [hq])) (fun q hq=>by cases hq) (eD hDb) (eD hDc)) rfl ?_)))))))))))))
         rintro e W9 ⟨rv,warv,wcrv,K6,hfrv,_,rfl,hK6,_,hS9⟩
         rw [hbd2]
         refine ⟨_,rfl,?_⟩
         clear hS;have hS:=hS9;clear hS9
         refine aA rfl rfl (bI rfl rfl rfl (bI rfl rfl rfl (bI rfl rfl rfl (aB rfl rfl (aB rfl rfl (aB rfl rfl (aK (XF.thenN (aH (aN (bG (vs:=[_,_,_]) isAgg25 sizeOf25 rfl (aQ.own (j:=0) (m:=3) (hS.at_ 4 rfl) rfl) rfl (bG (vs:=[_,_,_]) isAgg25 sizeOf25 rfl (aQ.own (j:=0) (m:=3) (hS.at_ 2 rfl) rfl) rfl (bP (vs:=[_,_]) lV rfl (hZ da dc [] _ _ K6 w _ (hS.keep K6 (fun q hq=>by simp [hq])) (fun q hq=>by cases hq) (eD hDa) (eD hDc)) rfl ?_)))))))))))))
         rintro e W9 ⟨rw9,warw9,wcrw9,K7,hfrw9,_,rfl,hK7,_,hS9⟩
         rw [hbd3]
         refine ⟨_,rfl,?_⟩
         clear hS;have hS:=hS9;clear hS9
         refine aA rfl rfl (bI rfl rfl rfl (bI rfl rfl rfl (bI rfl rfl rfl (aB rfl rfl (aB rfl rfl (aB rfl rfl (aK (XF.thenN (aH ?_)))))))))
         have hx:rx.isNone=true:=pA hP hA hp.k hp.eqv vQ (fun u hu h9=>by
          have hu:Wd (dFA da).k u:=hp.k▸hu
          rw [gZ hA hB hkk hu] at h9
          exact (Bool.and_eq_true_iff.1 h9).1) (hfrx hpa)
         have hy:ry.isNone=true:=pA hA hQ hq.k.symm vQ hq.eqv (fun u hu h9=>by
          rw [gZ hA hB hkk hu,h9];rfl) (hfry hqa)
         have hu9:=kG hA hB hkk (hfru hbd)
         have hv9:=kG hB hC hkk2 (hfrv hbd2)
         have hw9:=kG hA hC (hkk.trans hkk2) (hfrw9 hbd3)
         have huvw:ru.isNone=true→rv.isNone=true→rw9.isNone=true:=fun h1 h2=>hw9.2 fun u hu h9=>hv9.1 h2 u (hkk▸hu) (hu9.1 h1 u hu h9)
         refine aN (aA rfl rfl (eL rfl rfl rfl (aA rfl rfl (bN (d:=124) rfl (fun hc=>?_) (fun hc=>absurd (of_decide_eq_false hc) (by omega))))))
         have hc:=of_decide_eq_true hc
         refine aD (d:=124) rfl rfl (aA rfl rfl (aD (d:=124) rfl rfl (eL rfl rfl rfl (aU rfl rfl rfl (aA rfl rfl (bN (d:=128) rfl (fun hc=>?_) (fun hc=>absurd (of_decide_eq_false hc) (by omega))))))))
         have hc:=of_decide_eq_true hc
         refine aD (d:=128) rfl rfl (aA rfl rfl (aD (d:=128) rfl rfl (eL rfl rfl rfl (aU rfl rfl rfl (aA rfl rfl (bN (d:=132) rfl (fun hc=>?_) (fun hc=>absurd (of_decide_eq_false hc) (by omega))))))))
         have hc:=of_decide_eq_true hc
         refine aD (d:=132) rfl rfl (aA rfl rfl (aD (d:=132) rfl rfl (eL rfl rfl rfl (aU rfl rfl rfl (aA rfl rfl (bN (d:=136) rfl (fun hc=>?_) (fun hc=>absurd (of_decide_eq_false hc) (by omega))))))))
         have hc:=of_decide_eq_true hc
         refine aD (d:=136) rfl rfl (aA rfl rfl (aD (d:=136) rfl rfl (eL rfl rfl rfl (aU rfl rfl rfl (aA rfl rfl (bN (d:=140) rfl (fun hc=>?_) (fun hc=>absurd (of_decide_eq_false hc) (by omega))))))))
         have hc:=of_decide_eq_true hc
         refine aD (d:=140) rfl rfl (aA rfl rfl (aU rfl rfl rfl (aA rfl rfl ?_)))
         refine bN (d:=143) rfl (fun hc=>?_) (fun hc=>absurd hc (by rw [hx];decide))
         skip
         refine aD (d:=143) rfl rfl (aA rfl rfl (aU rfl rfl rfl (aA rfl rfl ?_)))
         refine bN (d:=146) rfl (fun hc=>?_) (fun hc=>absurd hc (by rw [hy];decide))
         skip
         refine aD (d:=146) rfl rfl (aA rfl rfl (aD (d:=146) rfl rfl (gE rfl rfl (aD (d:=146) rfl rfl (aA rfl rfl (bN (d:=149) rfl (fun hc=>?_) (fun hc=>?_)))))))
         ·have hg149:=hc;clear hc
          refine aC (d:=149) rfl rfl rfl rfl (aC (d:=149) rfl rfl rfl rfl (aD (d:=146) rfl rfl (aU rfl rfl rfl (aD (d:=146) rfl rfl (aA rfl rfl (aC (d:=153) rfl rfl rfl rfl (aD (d:=146) rfl rfl (aU rfl rfl rfl (aU rfl rfl rfl (aA rfl rfl (aD (d:=157) rfl rfl (cT (vs:=[]) hS fR rfl (dX _) rfl fun W22 hS=>aU rfl rfl rfl (aB rfl rfl (aK (XF.thenN (cG (XF.res (cR results8 rfl) ?_)))))))))))))))))
          exact ⟨rfl,hS.below⟩
         ·have hg149:=hc;clear hc
          refine aD (d:=149) rfl rfl (aA rfl rfl (aD (d:=149) rfl rfl (gE rfl rfl (aD (d:=146) rfl rfl (cE rfl rfl rfl (aD (d:=146) rfl rfl (aA rfl rfl (bN (d:=153) rfl (fun hc=>?_) (fun hc=>?_)))))))))
          ·have hg153:=hc;clear hc
           refine aC (d:=153) rfl rfl rfl rfl (aD (d:=146) rfl rfl (aU rfl rfl rfl (aU rfl rfl rfl (aA rfl rfl (aD (d:=157) rfl rfl (cT (vs:=[]) hS fR rfl (dX _) rfl fun W23 hS=>aU rfl rfl rfl (aB rfl rfl (aK (XF.thenN (cG (XF.res (cR results8 rfl) ?_)))))))))))
           exact ⟨rfl,hS.below⟩
          ·have hg153:=hc;clear hc
           refine aD (d:=153) rfl rfl (aA rfl rfl (aD (d:=146) rfl rfl (cE rfl rfl rfl (aU rfl rfl rfl (aA rfl rfl ?_)))))
           refine bN (d:=157) rfl (fun hc=>?_) (fun hc=>absurd hc (by rw [huvw (by simpa using hg149) (by simpa using hg153)];decide))
           skip
           refine aD (d:=157) rfl rfl (cT (vs:=[]) hS fR rfl (dX _) rfl fun W24 hS=>aU rfl rfl rfl (aB rfl rfl (aK (XF.thenN (cG (XF.res (cR results8 rfl) ?_))))))
           exact ⟨rfl,hS.below⟩
end
section
open Go.RowKit Go.ChangeShapes Go.WideShapes Go.Deep Go.Joins
theorem pB {α:Type}:∀ (n:Nat) (p:Nat→α→Prop),(∀ i,i < n→∃ c,p i c)→∃ xs:List α,xs.length=n∧∀ i c,xs[i]?=some c→p i c
 | 0,p,h=>⟨[],rfl,fun i c hi=>by simp at hi⟩
 | n+1,p,h=>by
  obtain ⟨xs,hl,hp⟩:=pB n p (fun i hi=>h i (by omega))
  obtain ⟨c,hc⟩:=h n (by omega)
  refine ⟨xs++[c],by simp [hl],fun i d hi=>?_⟩
  rcases Nat.lt_or_ge i n with h1 | h1
  ·rw [List.getElem?_append_left (by omega)] at hi
   exact hp i d hi
  ·obtain ⟨h2,_⟩:=List.getElem?_eq_some_iff.1 hi
   simp [hl] at h2
   obtain rfl:i=n:=by omega
   rw [List.getElem?_append_right (by omega),hl,Nat.sub_self] at hi
   simp at hi
   subst hi
   exact hc
section
variable {H:Type} {enc:TypeId×Value→H} {w:World} {base:Nat} {spare:Nat→Bool} {held:Bool}
end
section
variable {H:Type} {enc:TypeId×Value→H} {w:World} {base:Nat} {spare:Nat→Bool} {held:Bool}
theorem ints_in {n:Nat} {v:Value} {x:DataW H×List MemPlace} (h:DataW.trod enc prog w base spare held n 36 [v]=some x) :
  ∃ (a:Option Addr) (len cap:Nat) (zs:List Int),v = .slice a len cap∧Row w a zs∧zs.length=len∧len≤cap∧cap≤maxLen:=by
 rcases open_ints (t:=36) (e:=3) (k:=.i64) (by kernel_rfl) (by kernel_rfl) (by kernel_rfl) h with ⟨hcs,_⟩ | ⟨x,len,cap,zs,hcs,_,hl,hm,hz,_,hcell,hwz⟩
 ·have hcs':v = .slice none 0 0:=by simpa using hcs
  subst hcs'
  exact ⟨none,0,0,[],rfl,.inl rfl,rfl,Nat.le_refl _,Nat.zero_le _⟩
 ·have hcs':v = .slice (some x) len cap:=by simpa using hcs
  subst hcs'
  have hzl:len≤zs.length:=by rw [hz];split<;>omega
  refine ⟨some x,len,cap,zs.take len,rfl,?_,by simp;omega,hl,hm⟩
  rcases Nat.eq_zero_or_pos len with h0 | h0
  ·subst h0;exact .inl (by simp)
  ·obtain ⟨b,off,spot⟩:=x
   have hc0:=hcell 0 (by omega)
   have hspot:spot=none:=by simpa [Addr.add] using World.cell?_spot hc0
   subst hspot
   refine .inr ⟨b,off,rfl,fun i hi=>?_⟩
   have hi1:i < len:=by simp at hi;omega
   have hi2:i < zs.length:=by omega
   have hc:=hcell i hi2
   have e:({ block:=b,off:=off }:Addr).add i=⟨b,off+i,none⟩:=by simp [Addr.add]
   rw [e] at hc
   rw [hc]
   simp [List.getD,List.getElem?_take,hi1]
end
theorem uB {cs:List Value} (h:cs.length=3):∃ a b c,cs=[a,b,c]:=by
 match cs,h with
 | [a,b,c],_=>exact ⟨a,b,c,rfl⟩
section
variable {H:Type} {enc:TypeId×Value→H} {w:World} {base:Nat} {spare:Nat→Bool} {held:Bool}
theorem sQ {α:Type} {val:α→Value} {pr:α→Prop} {t e:TypeId} {n:Nat} {v:Value} {x:DataW H×List MemPlace} (ht:prog.underlying t=some (.slice e)) (hc:prog.cellsOf e=1)
  (one:∀ (n:Nat) (cs:List Value) (x:DataW H×List MemPlace),DataW.trod enc prog w base spare held n e cs=some x→∃ y,cs=[val y]∧pr y) (h:DataW.trod enc prog w base spare held n t [v]=some x) :
  ∃ (a:Option Addr) (len cap:Nat) (xs:List α),v = .slice a len cap∧(∀ (i:Nat) r,xs[i]?=some r→∃ b off,a=some ⟨b,off,none⟩∧w.cell? ⟨b,off+i * 1,none⟩=some (val r))∧(∀ r∈xs,pr r)∧xs.length=len∧len≤cap∧cap≤maxLen:=by
 rcases DataW.trod_slice ht h with ⟨hcs,_⟩ | ⟨ad,len,cap,elems,rest,n2,hn2,hcs,_,hb,hle,hcap,hel,hi,_,_⟩
 ·simp at hcs
  subst hcs
  exact ⟨none,0,0,[],rfl,(fun i r hi=>by simp at hi),(fun r hr=>by cases hr),rfl,Nat.le_refl _,Nat.zero_le _⟩
 ·simp at hcs
  subst hcs
  rw [hc] at hi
  obtain ⟨rs,hrl,hrs⟩:=pB len (fun i (r:α)=>w.cell? (ad.add (i * 1))=some (val r)∧pr r) (fun i hil=>by
   have hii:=hi i hil
   rw [List.getElem?_eq_getElem (by omega)] at hii
   obtain ⟨cs',hc',ht'⟩:=Option.bind_eq_some_iff.1 hii
   obtain ⟨_,hcl,hat⟩:=World.cells?_some hc'
   obtain ⟨r,rfl,hr⟩:=one _ _ _ ht'
   refine ⟨r,?_,hr⟩
   have h0:=hat 0 (by omega)
   rw [Go.Deep.add_add,Nat.add_zero] at h0
   rw [h0];rfl)
  refine ⟨some ad,len,cap,rs,rfl,fun i r hir=>?_,fun r hr=>?_,hrl,hle,hcap⟩
  ·obtain ⟨b,off,spot⟩:=ad
   have h1:=(hrs i r hir).1
   have hl0:0 < rs.length:=Nat.lt_of_le_of_lt (Nat.zero_le _) (List.getElem?_eq_some_iff.1 hir).1
   have h2:=(hrs 0 _ (List.getElem?_eq_getElem hl0)).1
   have hspot:spot=none:=by simpa [Addr.add] using World.cell?_spot h2
   subst hspot
   refine ⟨b,off,rfl,?_⟩
   have e:∀ k,({ block:=b,off:=off }:Addr).add k=⟨b,off+k,none⟩:=fun k=>by simp [Addr.add]
   rw [e] at h1
   exact h1
  ·obtain ⟨i,hi',hic⟩:=List.mem_iff_getElem.1 hr
   exact (hrs i r (by rw [← hic];exact List.getElem?_eq_getElem hi')).2
theorem oF {r:Reach} {b0:Nat} {v:Value} {d:DataW H} {p:List MemPlace} (hv:Value.okWide prog w r b0 25 v) (h:DataW.Trod enc prog w base spare held 25 v d p) :
  ∃ (s:DV),v=s.val∧DIn w s:=by
 obtain ⟨cs,rfl,_⟩:=okWide_struct underlying25 hv
 obtain ⟨n,h⟩:=h
 obtain ⟨xs,n',hn,_,hl,hlen,hg⟩:=DataW.trod_struct underlying25 h
 rw [show prog.cellsOf 25=3 by kernel_rfl] at hl
 obtain ⟨a,b,c,hcs⟩:=uB hl
 rw [hcs] at hg
 have hlen3:xs.length=3:=hlen
 have g0:=hg 0 _ rfl
 have g1:=hg 1 _ rfl
 have g2:=hg 2 _ rfl
 rw [show prog.cellsOf _=1 by kernel_rfl,List.getElem?_eq_getElem (by omega)] at g0 g1 g2
 obtain ⟨z0,e0,_,w0⟩:=DataW.trod_int (k:=.i64) (by kernel_rfl) g0
 simp at e0
 subst e0
 obtain ⟨na,nl,nc,ns,rfl,hnr,hni,hnl,hnc,hnm⟩:=sQ (val:=IV.val) (pr:=fun r:IV=>Row w r.a r.xs∧r.xs.length=r.l∧r.l≤9223372036854775807) (e:=36) (v:=b) (by kernel_rfl) (by kernel_rfl) (fun n cs x h=>by
  obtain ⟨y,rfl⟩:∃ y,cs=[y]:=by
   obtain ⟨h1,h2⟩:cs.length=1∧True:=⟨by
    rcases DataW.trod_slice underlying36 h with ⟨h9,_⟩ | ⟨ad,len,cap,elems,rest,n2,hn2,h9,_⟩
    ·rw [h9];rfl
    ·rw [h9];rfl,trivial⟩
   match cs,h1 with
   | [y],_=>exact ⟨y,rfl⟩
  obtain ⟨fa,fl,fc,fs,rfl,h1,h2,h3,h4⟩:=ints_in h
  exact ⟨⟨fa,fl,fc,fs⟩,rfl,h1,h2,by simp only [maxLen] at h4;dsimp only;omega⟩) g1
 obtain ⟨aa,al,ac,bs,rfl,har,_,hal,hac,ham⟩:=sQ (val:=Value.bool) (pr:=fun _=>True) (e:=4) (v:=c) (by kernel_rfl) (by kernel_rfl) (fun n cs x h=>by
  obtain ⟨y,h1,_⟩:=DataW.trod_bool (by kernel_rfl) h
  exact ⟨y,h1,trivial⟩) g2
 refine ⟨⟨z0,na,nl,nc,ns,aa,al,ac,bs⟩,?_,⟨hnr,hnl,hni,har,hal,?_,?_⟩⟩
 ·show Value.agg cs=Value.agg _
  congr 1
  exact Array.ext' hcs
 ·simp only [maxLen] at hnm;dsimp only;omega
 ·simp only [maxLen] at ham;dsimp only;omega
end
end
end Go.Proofs.Ytghmbejblbnjjaa
