import Derived.Test.YtmgnkpibpjgncaaGreatDoorVaG
set_option maxRecDepth 100000
set_option maxHeartbeats 4000000
set_option linter.unusedVariables false
set_option linter.unusedVariables false
set_option linter.unusedSimpArgs false
set_option linter.unusedSectionVars false
set_option linter.unnecessarySimpa false
namespace Go.Proofs.YtmgnkpibpjgncaaGreatDoor
open Go.Proofs.Tryz
open Go Go.RowKit
theorem zJ:bH prog 52=true:=by kernel_rfl
theorem Pr:bH prog 53=true:=by kernel_rfl
theorem goes_54:bH prog 54=true:=by kernel_rfl
theorem Ps:bH prog 55=true:=by kernel_rfl
theorem goes_56:bH prog 56=true:=by kernel_rfl
theorem Pt:bH prog 58=true:=by kernel_rfl
theorem J9 {S:PS} {n:Nat}:inC S (List.replicate n (bP S))=List.replicate n (Value.bool false):=by simp [inC,lG.2 rfl]
theorem xT (ds d:Nat) (a:AV) (S:PS) (py:TV→PX) (n:Nat) (bk:Bool) (p:Nat) (w:World) (hin:AIn w ds d a) (hA:AutoOk w S py n a) (hp:p < n) (wa:Option Addr) (wl wc:Nat) (ws:List Int) (hwa:Row w wa ws) (hwl:ws.length=wl) (hwm:wl≤9223372036854775807) (hask:eM a [(p:Int)] ws=0) (ht:Tabs w) :
  Calls prog 16 #[a.val,.bool bk,.int .i64 (p:Int),.slice wa wl wc] w (fun e w'=>∃ (f:WF) (z:PX),e = .returned (.tuple #[f.val,.int .i64 0])∧gT w.heap.size w' S f z∧LubX S (xP S bk (egsX kSym py a.ts) (a.fs.map Int.toNat) p ws) z∧Below w.heap.size w w'):=by
 refine cB (args:=[a.val,.bool bk,.int .i64 (p:Int),.slice wa wl wc]) func16 rfl ntmps16 rfl ?_
 have hS:=St.start w
 have hsy:=(kU hask).2.2
 have hsyy:=hA.sy
 refine aJ (aQ (bR (cs:=[_,_,_,_,_,_,_]) hS rfl rfl rfl fun B1 W1 hS=>bB (cs:=[_,_,_,_,_,_]) hS zeroValue44 rfl rfl fun B2 W2 hS=>aC rfl rfl (aN (XF.thenN (aJ (aJ (aQ (aS (vs:=[_,_,_,_,_,_,_]) isAgg29 sizeOf29 rfl (aB.own (j:=0) (m:=7) (hS.at_ 1 rfl) rfl) rfl (aE rfl rfl (cN (us:=[(0,.int .i64 _)]) hS underlying26 sizeOf3 zeroValue3 rfl rfl rfl (hQ _) rfl fun B3 W3 hS=>cC (vs:=[_,_]) hS zJ rfl (mU ds d a _ (hin.below hS.below) _ 1 1 [(p:Int)] (Ch (hS.at_ 0 rfl)) rfl (by decide)) rfl fun W4 hS=>aC rfl rfl (aN (XF.thenN (aJ (aQ (aE rfl rfl (dX rfl rfl rfl (aN (XF.thenN (bA rfl (fun hc=>absurd (of_decide_eq_true hc) (by exact fun h=>h (wO hask))) (fun hc=>?_))))))))))))))))))))
 have hc:=of_decide_eq_false hc
 refine bM (XF.thenN (aJ (aJ (aQ (aE rfl rfl (cX underlying26 rfl rfl (aE rfl rfl (aN (XF.thenN (bQ (eI (fun m l W=>∃ i:Nat,i≤wl∧m=wl - i∧l=[(1,.bool bk),(2,.int .i64 (p:Int)),(3,.slice wa wl wc),(4,.pointer (some ⟨B1,0,none⟩)),(8,.pointer (some ⟨B2,0,none⟩)),(24,.slice wa wl wc),(25,.int .i64 (wl:Int)),(26,.int .i64 (i:Int))]∧St w [(B2,[.bool false,.int .i64 0,.int .u64 0,.slice none 0 0,.slice none 0 0,.slice none 0 0],44),(B1,a.seven,29)] [] [] W) (wl - 0) ([(1,_),(2,_),(3,_),(4,_),(8,_),(24,_),(25,_),(26,_)]) ⟨rfl,rfl,rfl,rfl,rfl,rfl,rfl,rfl,trivial⟩ (⟨0,Nat.zero_le _,rfl,rfl,hS.tail.clear⟩) ?_)))))))))))
 clear hS
 rintro m l W ⟨i,hi,rfl,rfl,hS⟩
 refine aJ (aQ (cY rfl rfl rfl (aN (XF.thenN (aJ (bA rfl (fun hc=>?_) (fun hc=>?_)))))))
 ·have hc27:=of_decide_eq_true hc;clear hc
  have hk:i < wl:=by omega
  obtain ⟨b,off,y,rfl,hy,hyc⟩:=hwa.at1 (show i < ws.length by omega)
  have k1:=hS.old hyc
  have hyq:=hsy y (List.mem_of_getElem? hy)
  simp only [inQ,Bool.and_eq_true,decide_eq_true_eq] at hyq
  refine bM (XF.thenN (aJ (bQ (aJ (aQ (cK  underlying26 sizeOf3 rfl rfl rfl (by omega) rfl rfl (aT isAgg3 rfl (k1) rfl (aC rfl rfl (aN (XF.thenN (aJ (aQ (aE rfl rfl (cY rfl rfl rfl (aE rfl rfl (cI (d:=32) rfl (fun hc=>absurd (of_decide_eq_true hc) (by omega)) (fun hc=>?_)))))))))))))))))
  have hc:=of_decide_eq_false hc
  refine aM (d:=32) rfl rfl (aE rfl rfl (aM (d:=32) rfl rfl (aO (o':=4) mT rfl rfl rfl (aM (d:=32) rfl rfl (aT isAgg3 rfl (aH (hS.at_ 1 rfl) rfl) rfl (aM (d:=32) rfl rfl (oH rfl rfl rfl (cH rfl rfl rfl (aN (XF.thenN (bA rfl (fun hc=>absurd (of_decide_eq_true hc) (by omega)) (fun hc=>?_))))))))))))
  have hc:=of_decide_eq_false hc
  refine bM (XF.blkN (XF.thenN (aQ (cZ rfl rfl (IntWalk.i64_in _ (by omega)) rfl (aE rfl rfl (aN ?_))))))
  exact XF.round (wl - (i+1)) [(1,_),(2,_),(3,_),(4,_),(8,_),(24,_),(25,_),(26,_)] (by omega) ⟨rfl,rfl,rfl,rfl,rfl,rfl,rfl,rfl,trivial⟩ ⟨i+1,by omega,rfl,rfl,hS⟩
 ·have hc27:=of_decide_eq_false hc;clear hc
  refine eF (XF.thenX (XF.thenX (XF.blkX (XF.thenN (aJ (aQ (aS (vs:=[_,_,_,_,_,_,_]) isAgg29 sizeOf29 rfl (aB.own (j:=0) (m:=7) (hS.at_ 1 rfl) rfl) rfl (aE rfl rfl (fY (vs:=[_,_]) Pr rfl (wH S a bk n _ _ w _ hS hA.si hA.ok hA.st hA.n4) rfl ?_)))))))))
  rintro e W9 ⟨RB,VA,IA,WA,VX,IX,WX,bm,f0,Kr,rfl,hKr,H0,hwb,hmap,hKb,hS9⟩
  refine ⟨_,rfl,?_⟩
  clear hS;have hS:=hS9.perm (Wv _ _ _ _ _ _ _ _);clear hS9
  refine aC rfl rfl (aN (XF.thenN (aJ (aQ (aE rfl rfl (fY (vs:=[_]) goes_54 rfl (Wm S a f0 bk bm VA VX RB _ Kr w _ hS hmap hwb hKb hA.trow hA.tlen hA.tl hA.ky) rfl ?_))))))
  rintro e W10 ⟨lo,Kb,rfl,hKb2,hlo,hM,hS9⟩
  refine ⟨_,rfl,?_⟩
  clear hS;have hS:=(((hS9.newG 3 1).newG 3 1).castO (O':=(RB,rdC f0 a bk bm VA VX,109)::(VA,gU (.slice none 0 0) n IA WA,139)::(IA,inC S (List.replicate n (bP S)),4)::(WA,wC (List.replicate n (⟨false,0,0,none,0,0,[],none,0,0,[],none,0,0⟩:WF)),44)::(VX,gU (.slice none 0 0) n IX WX,139)::(IX,inC S (List.replicate n (bP S)),4)::(WX,wC (List.replicate n (⟨false,0,0,none,0,0,[],none,0,0,[],none,0,0⟩:WF)),44)::_) (by rw [J9])).castG (G':=[⟨(.slice none 0 0),([]:List Nat).length,atC ([]:List Nat),3,1⟩,⟨(.slice none 0 0),([]:List Nat).length,atC ([]:List Nat),3,1⟩]) rfl;clear hS9
  replace H0:mE w Kb (fun W=>XIs W S f0 (bP S)):=H0.more hKb2
  refine aN (XF.thenN (aJ (aQ (aE rfl rfl (aE rfl rfl (fY (vs:=[_,_]) Ps rfl (Ci S a f0 bk bm VA VX RB IA WA n _ (List.replicate n (⟨false,0,0,none,0,0,[],none,0,0,[],none,0,0⟩:WF)) p _ _ Kb w lo py kSym _ hS (VecOk.emptied (by simp)) hA.n4 hp hM hA.trow hA.tlen hA.tl hA.tt hA.px (hA.kf kSym (fun _=>rfl)) (Cg hA.ok) hA.si hA.ok ht H0) rfl ?_))))))
  rintro e W11 ⟨u9,l9,fs9,xs9,Kn9,rfl,hsub9,hV9,hE9,hC9,hS9⟩
  refine ⟨_,rfl,?_⟩
  clear hS;have hS:=hS9;clear hS9
  have hF9:=yH hA.ok (lI hA.py) (hA.eb kSym (fun _=>rfl)) hp hE9 hV9.ok hC9
  refine aN (XF.thenN (aJ (aJ (aQ (aE rfl rfl (cX underlying26 rfl rfl (aE rfl rfl (aN (XF.thenN (bQ (eI (fun m lf W=>∃ (i VA VX IA WA IX WX:Nat) (va vx:Value) (fs fx:List WF) (xs xx:List PX) (l lx:List Nat) (Kk:List (Nat×World)),i≤wl∧m=wl - i∧lf=[(8,.pointer (some ⟨B2,0,none⟩)),(13,.pointer (some ⟨RB,0,none⟩)),(48,.slice wa wl wc),(49,.int .i64 (wl:Int)),(50,.int .i64 (i:Int))]∧(∀ q∈Kb,q∈Kk)∧VecOk S w Kk n fs xs l∧VecOk S w Kk n fx xx lx∧Full S bk (egsX kSym py a.ts) p (ws.take i) xs∧St w ((RB,rdC f0 a bk bm VA VX,109)::(VA,gU va n IA WA,139)::(IA,inC S xs,4)::(WA,wC fs,44)::(VX,gU vx n IX WX,139)::(IX,inC S xx,4)::(WX,wC fx,44)::[(B2,[.bool false,.int .i64 0,.int .u64 0,.slice none 0 0,.slice none 0 0,.slice none 0 0],44),(B1,a.seven,29)]) [⟨va,l.length,atC l,3,1⟩,⟨vx,lx.length,atC lx,3,1⟩] Kk W) (wl - 0) ([(8,_),(13,_),(48,_),(49,_),(50,_)]) ⟨rfl,rfl,rfl,rfl,rfl,trivial⟩ (⟨0,VA,VX,IA,WA,IX,WX,u9,_,fs9,(List.replicate n (⟨false,0,0,none,0,0,[],none,0,0,[],none,0,0⟩:WF)),xs9,(List.replicate n (bP S)),l9,[],Kn9,Nat.zero_le _,rfl,rfl,hsub9,hV9,VecOk.emptied (by simp),hF9,hS⟩) ?_)))))))))))
  clear hS
  clear hV9 hE9 hC9 hF9 hsub9;rintro m lf W ⟨i,VA,VX,IA,WA,IX,WX,va,vx,fs,fx,xs,xx,l,lx,Kk,hi,rfl,rfl,hKk,hVA,hVX,hF,hS⟩
  refine aJ (aQ (cY rfl rfl rfl (aN (XF.thenN (aJ (bA rfl (fun hc=>?_) (fun hc=>?_)))))))
  ·have hc51:=of_decide_eq_true hc;clear hc
   have hk:i < wl:=by omega
   obtain ⟨b,off,y,rfl,hy,hyc⟩:=hwa.at1 (show i < ws.length by omega)
   have k1:=hS.old hyc
   have hyq:=hsy y (List.mem_of_getElem? hy)
   simp only [inQ,Bool.and_eq_true,decide_eq_true_eq] at hyq
   refine bM (XF.thenN (aJ (bQ (aJ (aQ (cK  underlying26 sizeOf3 rfl rfl rfl (by omega) rfl rfl (aT isAgg3 rfl (k1) rfl (aC rfl rfl (aN (XF.thenN (aJ (aQ (aE rfl rfl (aE rfl rfl ?_))))))))))))))
   have hS1:=(hS.perm (perm33 _ _ _ _ _ _ _ _)).permG (List.Perm.swap _ _ _)
   refine fY (vs:=[_,_]) goes_56 rfl (Rz S a f0 bk bm VA VX RB IA WA IX WX n vx va fx fs xx xs lx l _ _ Kk w lo py y _ hS1 hVX hVA hA.n4 (hM.more hKk) hA.trow hA.tlen hA.tl hA.tt hA.px (by omega) hA.si hA.ok ht (H0.more hKk)) rfl ?_
   rintro e W12 ⟨u9,v9,l9,fs9,Kn9,rfl,hsub9,hV9,hS9⟩
   refine ⟨_,rfl,?_⟩
   clear hS hS1;have hS:=hS9;clear hS9
   refine aN (XF.thenN (aQ (aE rfl rfl (fY (vs:=[_]) Pq rfl (yG S a f0 bk bm VX VA RB IX WX n u9 fs9 (kS S bk py a.ts xs y l (List.replicate n (bP S))) l9 _ _ Kn9 w lo py kSym _ hS hV9 hA.n4 (hM.more (fun q hq=>hsub9 q (hKk q hq))) hA.trow hA.tlen hA.tl hA.tt hA.px (hA.kf kSym (fun _=>rfl)) (Cg hA.ok) hA.si hA.ok ht (H0.more (fun q hq=>hsub9 q (hKk q hq)))) rfl ?_))))
   rintro e W13 ⟨u7,l7,fs7,xs7,Kn7,rfl,hsub7,hV7,hE7,hC7,hS7⟩
   refine ⟨_,rfl,?_⟩
   clear hS;have hS:=hS7;clear hS7
   have hF7:=Mz hA.ok hA.py hA.inN hF hVA.ok hVA.xl hVA.ats (show y ≠ -1 by omega) hE7 hV7.ok hC7
   refine aN (XF.blkN (XF.thenN (aQ (cZ rfl rfl (IntWalk.i64_in _ (by omega)) rfl (aE rfl rfl (aN ?_))))))
   exact XF.round (wl - (i+1)) [(8,_),(13,_),(48,_),(49,_),(50,_)] (by omega) ⟨rfl,rfl,rfl,rfl,rfl,trivial⟩ ⟨i+1,VX,VA,IX,WX,IA,WA,u7,v9,fs7,fs,xs7,xs,l7,l,Kn7,by omega,rfl,rfl,(fun q hq=>hsub7 q (hsub9 q (hKk q hq))),hV7,hVA.more (fun q hq=>hsub7 q (hsub9 q hq)),(by rw [List.take_add_one,hy];exact hF7),hS⟩
  ·have hc51:=of_decide_eq_false hc;clear hc
   rw [List.take_of_length_le (by omega)] at hF
   refine eF (XF.thenX (XF.thenX (XF.blkX (XF.thenN (aJ (aQ (aE rfl rfl ?_)))))))
   have hszE:=hS.below.size
   refine cL (vs:=[_]) hS Pt rfl (Jw S a f0 bk bm VA VX RB IA WA n va fs xs _ (hS.at_ 0 rfl) (hS.at_ 1 rfl) (hS.at_ 2 rfl) (hS.at_ 3 rfl) hVA.fl hVA.xl (fun i f x h1 h2 h3=>(hVA.held i f x h1 h2 h3) hS (fun q hq=>hq)) hVA.ok hA.n4 (hA.frow.below hS.below) hA.flen hA.fmax hA.fq (hA.si.below hS.below) hA.ok (ht.below hS.below)) rfl ?_
   rintro e W5 ⟨f9,rfl,hn9,hb⟩
   refine ⟨_,rfl,hb,fun hS'=>?_⟩
   clear hS;have hS:=hS';clear hS'
   refine aU (i:=7) (vs:=[_,_,_,_,_,_]) (cs':=[_,_,_,_,_,_]) (O':=[_,_,_,_,_,_,_,_,_]) hS sizeOf44 rfl rfl rfl rfl rfl rfl rfl fun W6 hS=>aC rfl rfl (aN (XF.thenN (bX (XF.res (mG (vs:=[_,_,_,_,_,_]) results16 isAgg44 sizeOf44 rfl (aB.own (j:=0) (m:=6) (hS.at_ 7 rfl) rfl) rfl) ?_))))
   have hlub:=Pj hA.ok (lI hA.py) hF hVA.ok a.fs (fun s hs=>by obtain ⟨i9,h1,h2⟩:=fK (hA.fq s hs);rw [h1,Int.toNat_natCast,hVA.xl];exact h2)
   exact ⟨f9,_,rfl,(hn9.agree (hS.since 0 rfl)).mono hszE,hlub,hS.below⟩
theorem M9 (ds d:Nat) (a:AV) (bk:Bool) (fr:Int) (w:World) (hin:AIn w ds d a) (wa:Option Addr) (wl wc:Nat) (ws:List Int) (hwa:Row w wa ws) (hwl:ws.length=wl) (hwm:wl≤9223372036854775807) (hask:eM a [fr] ws≠0) :
  Calls prog 16 #[a.val,.bool bk,.int .i64 fr,.slice wa wl wc] w (fun e w'=>e = .returned (.tuple #[.agg #[.bool false,.int .i64 0,.int .u64 0,.slice none 0 0,.slice none 0 0,.slice none 0 0],.int .i64 (eM a [fr] ws)])∧Below w.heap.size w w'):=by
 refine cB (args:=[a.val,.bool bk,.int .i64 fr,.slice wa wl wc]) func16 rfl ntmps16 rfl ?_
 have hS:=St.start w
 refine aJ (aQ (bR (cs:=[_,_,_,_,_,_,_]) hS rfl rfl rfl fun B1 W1 hS=>bB (cs:=[_,_,_,_,_,_]) hS zeroValue44 rfl rfl fun B2 W2 hS=>aC rfl rfl (aN (XF.thenN (aJ (aJ (aQ (aS (vs:=[_,_,_,_,_,_,_]) isAgg29 sizeOf29 rfl (aB.own (j:=0) (m:=7) (hS.at_ 1 rfl) rfl) rfl (aE rfl rfl (cN (us:=[(0,.int .i64 _)]) hS underlying26 sizeOf3 zeroValue3 rfl rfl rfl (hQ _) rfl fun B3 W3 hS=>cC (vs:=[_,_]) hS zJ rfl (mU ds d a _ (hin.below hS.below) _ 1 1 [fr] (Ch (hS.at_ 0 rfl)) rfl (by decide)) rfl fun W4 hS=>aC rfl rfl (aN (XF.thenN (aJ (aQ (aE rfl rfl (dX rfl rfl rfl (aN (XF.thenN (bA rfl (fun hc=>?_) (fun hc=>?_))))))))))))))))))))
 ·have hc21:=of_decide_eq_true hc;clear hc
  refine aJ (aQ (cV (us:=[]) rfl (lA) rfl (aE rfl rfl (aU (i:=1) (vs:=[_,_,_,_,_,_]) (cs':=[_,_,_,_,_,_]) (O':=[_,_,_]) hS sizeOf44 rfl rfl rfl rfl rfl rfl rfl fun W5 hS=>aC rfl rfl (aN (XF.thenN (bX (XF.thenR (XF.res (mG (vs:=[_,_,_,_,_,_]) results16 isAgg44 sizeOf44 rfl (aB.own (j:=0) (m:=6) (hS.at_ 1 rfl) rfl) rfl) ?_)))))))))
  exact ⟨by rw [R6 (ws:=ws) hc21],hS.below⟩
 ·have hc21:=of_decide_eq_false hc;clear hc
  have h0:eM a [fr] []=0:=Decidable.of_not_not hc21
  refine bM (XF.thenN (aJ (aJ (aQ (aE rfl rfl (cX underlying26 rfl rfl (aE rfl rfl (aN (XF.thenN (bQ (eI (fun m l W=>∃ i:Nat,i≤wl∧m=wl - i∧l=[(1,.bool bk),(2,.int .i64 fr),(3,.slice wa wl wc),(4,.pointer (some ⟨B1,0,none⟩)),(8,.pointer (some ⟨B2,0,none⟩)),(24,.slice wa wl wc),(25,.int .i64 (wl:Int)),(26,.int .i64 (i:Int))]∧(ws.take i).all (fun y=>inQ y a.sy)=true∧St w [(B2,[.bool false,.int .i64 0,.int .u64 0,.slice none 0 0,.slice none 0 0,.slice none 0 0],44),(B1,a.seven,29)] [] [] W) (wl - 0) ([(1,_),(2,_),(3,_),(4,_),(8,_),(24,_),(25,_),(26,_)]) ⟨rfl,rfl,rfl,rfl,rfl,rfl,rfl,rfl,trivial⟩ (⟨0,Nat.zero_le _,rfl,rfl,rfl,hS.tail.clear⟩) ?_)))))))))))
  clear hS
  rintro m l W ⟨i,hi,rfl,rfl,hall,hS⟩
  refine aJ (aQ (cY rfl rfl rfl (aN (XF.thenN (aJ (bA rfl (fun hc=>?_) (fun hc=>?_)))))))
  ·have hc27:=of_decide_eq_true hc;clear hc
   have hk:i < wl:=by omega
   obtain ⟨b,off,y,rfl,hy,hyc⟩:=hwa.at1 (show i < ws.length by omega)
   have k1:=hS.old hyc
   refine bM (XF.thenN (aJ (bQ (aJ (aQ (cK  underlying26 sizeOf3 rfl rfl rfl (by omega) rfl rfl (aT isAgg3 rfl (k1) rfl (aC rfl rfl (aN (XF.thenN (aJ (aQ (aE rfl rfl (cY rfl rfl rfl (aE rfl rfl (cI (d:=32) rfl (fun hc=>?_) (fun hc=>?_)))))))))))))))))
   ·have hg32:=of_decide_eq_true hc;clear hc
    have e5:inQ y a.sy=false:=by simp [inQ];omega
    refine aP (d:=32) rfl rfl rfl rfl (aP (d:=32) rfl rfl rfl rfl (aP (d:=32) rfl rfl rfl rfl (aP (d:=32) rfl rfl rfl rfl (bV rfl rfl rfl (aN (XF.thenN (gW rfl (aJ (aQ (cV (us:=[]) rfl (lA) rfl (aU (i:=0) (vs:=[_,_,_,_,_,_]) (cs':=[_,_,_,_,_,_]) (O':=[_,_]) hS sizeOf44 rfl rfl rfl rfl rfl rfl rfl fun W6 hS=>aC rfl rfl (aN (XF.thenN (bX (XF.blkR (XF.thenR (XF.thenR (XF.blkR (XF.thenR (XF.res (mG (vs:=[_,_,_,_,_,_]) results16 isAgg44 sizeOf44 rfl (aB.own (j:=0) (m:=6) (hS.at_ 0 rfl) rfl) rfl) ?_))))))))))))))))))))
    exact ⟨by rw [Et h0 (dB hy e5)],hS.below⟩
   ·have hg32:=of_decide_eq_false hc;clear hc
    refine aM (d:=32) rfl rfl (aE rfl rfl (aM (d:=32) rfl rfl (aO (o':=4) mT rfl rfl rfl (aM (d:=32) rfl rfl (aT isAgg3 rfl (aH (hS.at_ 1 rfl) rfl) rfl (aM (d:=32) rfl rfl (oH rfl rfl rfl (cH rfl rfl rfl (aN (XF.thenN (bA rfl (fun hc=>?_) (fun hc=>?_))))))))))))
    ·have hc37:=of_decide_eq_true hc;clear hc
     have e5:inQ y a.sy=false:=by simp [inQ];omega
     refine aJ (aQ (cV (us:=[]) rfl (lA) rfl (aU (i:=0) (vs:=[_,_,_,_,_,_]) (cs':=[_,_,_,_,_,_]) (O':=[_,_]) hS sizeOf44 rfl rfl rfl rfl rfl rfl rfl fun W7 hS=>aC rfl rfl (aN (XF.thenN (bX (XF.blkR (XF.thenR (XF.thenR (XF.blkR (XF.thenR (XF.res (mG (vs:=[_,_,_,_,_,_]) results16 isAgg44 sizeOf44 rfl (aB.own (j:=0) (m:=6) (hS.at_ 0 rfl) rfl) rfl) ?_))))))))))))
     exact ⟨by rw [Et h0 (dB hy e5)],hS.below⟩
    ·have hc37:=of_decide_eq_false hc;clear hc
     have e5:inQ y a.sy=true:=by simp [inQ];omega
     refine bM (XF.blkN (XF.thenN (aQ (cZ rfl rfl (IntWalk.i64_in _ (by omega)) rfl (aE rfl rfl (aN ?_))))))
     exact XF.round (wl - (i+1)) [(1,_),(2,_),(3,_),(4,_),(8,_),(24,_),(25,_),(26,_)] (by omega) ⟨rfl,rfl,rfl,rfl,rfl,rfl,rfl,rfl,trivial⟩ ⟨i+1,by omega,rfl,rfl,fP hy hall e5,hS⟩
  ·have hc27:=of_decide_eq_false hc;clear hc
   exact absurd (by rw [List.take_of_length_le (by omega)] at hall;obtain ⟨h1,h2,_⟩:=kU h0;exact Pk h1 h2 (fun y hy=>List.all_eq_true.1 hall y hy)) hask
theorem goes_63:bH prog 63=true:=by kernel_rfl
theorem R8 (ds d:Nat) (a:AV) (S:PS) (py:TV→PX) (n:Nat) (bk:Bool) (p:Nat) (w:World) (hin:AIn w ds d a) (hA:AutoOk w S py n a) (hp:p < n) (hask:eM a [(p:Int)] []=0) (ht:Tabs w) :
  Calls prog 18 #[a.val,.bool bk,.int .i64 (p:Int)] w (fun e w'=>∃ (f:WF) (z:PX),e = .returned (.tuple #[f.val,.int .i64 0])∧gT w.heap.size w' S f z∧LubX S (xP S bk (egsX qQ py a.ts) (a.fs.map Int.toNat) p []) z∧Below w.heap.size w w'):=by
 refine cB (args:=[a.val,.bool bk,.int .i64 (p:Int)]) func18 rfl ntmps18 rfl ?_
 have hS:=St.start w
 refine aJ (aQ (bR (cs:=[_,_,_,_,_,_,_]) hS rfl rfl rfl fun B1 W1 hS=>bB (cs:=[_,_,_,_,_,_]) hS zeroValue44 rfl rfl fun B2 W2 hS=>aC rfl rfl (aN (XF.thenN (aJ (aJ (aQ (aS (vs:=[_,_,_,_,_,_,_]) isAgg29 sizeOf29 rfl (aB.own (j:=0) (m:=7) (hS.at_ 1 rfl) rfl) rfl (aE rfl rfl (cN (us:=[(0,.int .i64 _)]) hS underlying26 sizeOf3 zeroValue3 rfl rfl rfl (hQ _) rfl fun B3 W3 hS=>cC (vs:=[_,_]) hS zJ rfl (mU ds d a _ (hin.below hS.below) _ 1 1 [(p:Int)] (Ch (hS.at_ 0 rfl)) rfl (by decide)) rfl fun W4 hS=>aC rfl rfl (aN (XF.thenN (aJ (aQ (aE rfl rfl (dX rfl rfl rfl (aN (XF.thenN (bA rfl (fun hc=>absurd (of_decide_eq_true hc) (by exact fun h=>h hask)) (fun hc=>?_))))))))))))))))))))
 have hc:=of_decide_eq_false hc
 refine bM (XF.thenN (aJ (aQ (aS (vs:=[_,_,_,_,_,_,_]) isAgg29 sizeOf29 rfl (aB.own (j:=0) (m:=7) (hS.at_ 2 rfl) rfl) rfl (aE rfl rfl (fY (vs:=[_,_]) Pr rfl (wH S a bk n _ _ w _ hS hA.si hA.ok hA.st hA.n4) rfl ?_))))))
 rintro e W9 ⟨RB,VA,IA,WA,VX,IX,WX,bm,f0,Kr,rfl,hKr,H0,hwb,hmap,hKb,hS9⟩
 refine ⟨_,rfl,?_⟩
 clear hS;have hS:=hS9.perm (Wv _ _ _ _ _ _ _ _);clear hS9
 refine aC rfl rfl (aN (XF.thenN (aJ (aQ (aE rfl rfl (fY (vs:=[_]) goes_63 rfl (Ju S a f0 bk bm VA VX RB _ Kr w _ hS hmap hwb hKb hA.trow hA.tlen hA.tl hA.ky) rfl ?_))))))
 rintro e W10 ⟨lo,Kb,rfl,hKb2,hlo,hM,hS9⟩
 refine ⟨_,rfl,?_⟩
 clear hS;have hS:=(((hS9.newG 3 1).newG 3 1).castO (O':=(RB,rdC f0 a bk bm VA VX,109)::(VA,gU (.slice none 0 0) n IA WA,139)::(IA,inC S (List.replicate n (bP S)),4)::(WA,wC (List.replicate n (⟨false,0,0,none,0,0,[],none,0,0,[],none,0,0⟩:WF)),44)::(VX,gU (.slice none 0 0) n IX WX,139)::(IX,inC S (List.replicate n (bP S)),4)::(WX,wC (List.replicate n (⟨false,0,0,none,0,0,[],none,0,0,[],none,0,0⟩:WF)),44)::_) (by rw [J9])).castG (G':=[⟨(.slice none 0 0),([]:List Nat).length,atC ([]:List Nat),3,1⟩,⟨(.slice none 0 0),([]:List Nat).length,atC ([]:List Nat),3,1⟩]) rfl;clear hS9
 replace H0:mE w Kb (fun W=>XIs W S f0 (bP S)):=H0.more hKb2
 refine aN (XF.thenN (aJ (aQ (aE rfl rfl (aE rfl rfl (fY (vs:=[_,_]) Ps rfl (Ci S a f0 bk bm VA VX RB IA WA n _ (List.replicate n (⟨false,0,0,none,0,0,[],none,0,0,[],none,0,0⟩:WF)) p _ _ Kb w lo py qQ _ hS (VecOk.emptied (by simp)) hA.n4 hp hM hA.trow hA.tlen hA.tl hA.tt hA.px (hA.kf qQ (fun _=>rfl)) (Cg hA.ok) hA.si hA.ok ht H0) rfl ?_))))))
 rintro e W11 ⟨u9,l9,fs9,xs9,Kn9,rfl,hsub9,hV9,hE9,hC9,hS9⟩
 refine ⟨_,rfl,?_⟩
 clear hS;have hS:=hS9;clear hS9
 have hF9:=yH hA.ok (lI hA.py) (hA.eb qQ (fun _=>rfl)) hp hE9 hV9.ok hC9
 refine aN (XF.thenN (aJ (aQ (aE rfl rfl ?_))))
 have hszE:=hS.below.size
 refine cL (vs:=[_]) hS Pt rfl (Jw S a f0 bk bm VA VX RB IA WA n u9 fs9 xs9 _ (hS.at_ 0 rfl) (hS.at_ 1 rfl) (hS.at_ 2 rfl) (hS.at_ 3 rfl) hV9.fl hV9.xl (fun i f x h1 h2 h3=>(hV9.held i f x h1 h2 h3) hS (fun q hq=>hq)) hV9.ok hA.n4 (hA.frow.below hS.below) hA.flen hA.fmax hA.fq (hA.si.below hS.below) hA.ok (ht.below hS.below)) rfl ?_
 rintro e W5 ⟨f9,rfl,hn9,hb⟩
 refine ⟨_,rfl,hb,fun hS'=>?_⟩
 clear hS;have hS:=hS';clear hS'
 refine aU (i:=8) (vs:=[_,_,_,_,_,_]) (cs':=[_,_,_,_,_,_]) (O':=[_,_,_,_,_,_,_,_,_,_]) hS sizeOf44 rfl rfl rfl rfl rfl rfl rfl fun W6 hS=>aC rfl rfl (aN (XF.thenN (bX (XF.res (mG (vs:=[_,_,_,_,_,_]) results18 isAgg44 sizeOf44 rfl (aB.own (j:=0) (m:=6) (hS.at_ 8 rfl) rfl) rfl) ?_))))
 have hlub:=Pj hA.ok (lI hA.py) hF9 hV9.ok a.fs (fun s hs=>by obtain ⟨i9,h1,h2⟩:=fK (hA.fq s hs);rw [h1,Int.toNat_natCast,hV9.xl];exact h2)
 exact ⟨f9,_,rfl,(hn9.agree (hS.since 0 rfl)).mono hszE,hlub,hS.below⟩
theorem Na (ds d:Nat) (a:AV) (bk:Bool) (fr:Int) (w:World) (hin:AIn w ds d a) (hask:eM a [fr] []≠0) :
  Calls prog 18 #[a.val,.bool bk,.int .i64 fr] w (fun e w'=>e = .returned (.tuple #[.agg #[.bool false,.int .i64 0,.int .u64 0,.slice none 0 0,.slice none 0 0,.slice none 0 0],.int .i64 (eM a [fr] [])])∧Below w.heap.size w w'):=by
 refine cB (args:=[a.val,.bool bk,.int .i64 fr]) func18 rfl ntmps18 rfl ?_
 have hS:=St.start w
 refine aJ (aQ (bR (cs:=[_,_,_,_,_,_,_]) hS rfl rfl rfl fun B1 W1 hS=>bB (cs:=[_,_,_,_,_,_]) hS zeroValue44 rfl rfl fun B2 W2 hS=>aC rfl rfl (aN (XF.thenN (aJ (aJ (aQ (aS (vs:=[_,_,_,_,_,_,_]) isAgg29 sizeOf29 rfl (aB.own (j:=0) (m:=7) (hS.at_ 1 rfl) rfl) rfl (aE rfl rfl (cN (us:=[(0,.int .i64 _)]) hS underlying26 sizeOf3 zeroValue3 rfl rfl rfl (hQ _) rfl fun B3 W3 hS=>cC (vs:=[_,_]) hS zJ rfl (mU ds d a _ (hin.below hS.below) _ 1 1 [fr] (Ch (hS.at_ 0 rfl)) rfl (by decide)) rfl fun W4 hS=>aC rfl rfl (aN (XF.thenN (aJ (aQ (aE rfl rfl (dX rfl rfl rfl (aN (XF.thenN (bA rfl (fun hc=>?_) (fun hc=>absurd (of_decide_eq_false hc) (by exact fun h=>h hask)))))))))))))))))))))
 have hc:=of_decide_eq_true hc
 refine aJ (aQ (cV (us:=[]) rfl (lA) rfl (aE rfl rfl (aU (i:=1) (vs:=[_,_,_,_,_,_]) (cs':=[_,_,_,_,_,_]) (O':=[_,_,_]) hS sizeOf44 rfl rfl rfl rfl rfl rfl rfl fun W5 hS=>aC rfl rfl (aN (XF.thenN (bX (XF.thenR (XF.res (mG (vs:=[_,_,_,_,_,_]) results18 isAgg44 sizeOf44 rfl (aB.own (j:=0) (m:=6) (hS.at_ 1 rfl) rfl) rfl) ?_)))))))))
 exact ⟨rfl,hS.below⟩
abbrev S9:PS:=.one 2 9
abbrev exE:List Eg:=[⟨0,0,1,.one (pC 3)⟩,⟨0,-1,0,.one (pC 1)⟩,⟨0,0,1,.one (pC 5)⟩]
theorem mJ:S9.ok:=by show bI 2 9 0=true;decide
theorem Ka {c:Int} (h0:0≤c) (h1:c≤9):OkX S9 (.one (pC c)):=OkP.cost c rfl h0 h1
theorem Nb:∀ e∈exE,OkX S9 e.y:=fun e he=>by
 simp only [List.mem_cons,List.not_mem_nil,or_false] at he
 rcases he with rfl | rfl | rfl
 ·exact Ka (by decide) (by decide)
 ·exact Ka (by decide) (by decide)
 ·exact Ka (by decide) (by decide)
theorem Kc {x:PX} (hx:OkX S9 x):LeX S9 x (jW S9):=by
 cases x with
 | two a b=>exact hx.elim
 | one a =>
  rcases gY hx with rfl | ⟨c,rfl,h0,h1⟩
  ·exact wM (mL mJ)
  ·show PX.one (dK 2 9 (pC 0) (pC c))=PX.one (pC 0)
   rw [mC,Int.min_eq_left h0]
theorem ex_lub {z:PX} (h:LubX S9 (xP S9 false exE [1] 0 [0]) z):z = .one (pC 3):=by
 have hA:=Gz (b:=false) (F:=[1]) (p:=0) (u:=[0]) mJ Nb
 have h3:OkX S9 (.one (pC 3)):=Ka (by decide) (by decide)
 refine h.uniq mJ hA ⟨Fs.one ?_ h3,?_⟩
 ·refine ⟨1,by simp,?_⟩
  have h9:=Pth.sym (S:=S9) (b:=false) (E:=exE) (p:=0) (e:=⟨0,0,1,.one (pC 3)⟩) .nil (by simp) rfl (by decide)
  rw [show dP S9 false (jW S9) (PX.one (pC 3))=PX.one (pC 3) from Wq mJ h3] at h9
  exact h9
 ·rintro x ⟨q,_,hp⟩
  have key:∀ {u q x},Pth S9 false exE 0 u q x→(u=[]→q=0)∧(u=[0]→q=1∧LeX S9 x (.one (pC 3))):=by
   intro u q x hp
   induction hp with
   | nil=>exact ⟨fun _=>rfl,fun h=>by cases h⟩
   | @eps u q x e h0 he hf hg ih =>
    simp only [List.mem_cons,List.not_mem_nil,or_false] at he
    rcases he with rfl | rfl | rfl
    ·exact absurd hg (by decide)
    ·refine ⟨fun _=>rfl,fun hu=>?_⟩
     have h1:=(ih.2 hu).1
     rw [← hf] at h1
     exact absurd h1 (by decide)
    ·exact absurd hg (by decide)
   | @sym u q x e h0 he hf hg ih =>
    refine ⟨fun h=>by simp at h,fun hu=>?_⟩
    have hxo:=h0.ok mJ Nb
    have h1:OkX S9 (PX.one (pC 3)):=h3
    simp only [List.mem_cons,List.not_mem_nil,or_false] at he
    rcases he with rfl | rfl | rfl
    ·refine ⟨rfl,?_⟩
     have h9:=qH (b:=false) mJ hxo (mL mJ) h3 (Kc hxo)
     rw [Wq mJ h3] at h9
     exact h9
    ·exact absurd rfl hg
    ·refine ⟨rfl,?_⟩
     have h5:OkX S9 (PX.one (pC 5)):=Ka (by decide) (by decide)
     have h9:=qH (b:=false) mJ hxo (mL mJ) h5 (Kc hxo)
     rw [Wq mJ h5] at h9
     refine eN mJ (eB mJ hxo h5) h5 h3 h9 ?_
     show PX.one (dK 2 9 (pC 3) (pC 5))=PX.one (pC 3)
     rw [mC];rfl
  exact ((key hp).2 rfl).2
theorem ex_none {z:PX} (h:LubX S9 (xP S9 false exE [1] 1 [0]) z):z=bP S9:=by
 have hA:=Gz (b:=false) (F:=[1]) (p:=1) (u:=[0]) mJ Nb
 refine h.uniq mJ hA (LubX.none ?_)
 rintro x ⟨q,_,hp⟩
 have key:∀ {u q x},Pth S9 false exE 1 u q x→u=[]∧q=1:=by
  intro u q x hp
  induction hp with
  | nil=>exact ⟨rfl,rfl⟩
  | @eps u q x e h0 he hf hg ih =>
   have h1:=ih.2
   rw [← hf] at h1
   simp only [List.mem_cons,List.not_mem_nil,or_false] at he
   rcases he with rfl | rfl | rfl<;>exact absurd h1 (by decide)
  | @sym u q x e h0 he hf hg ih =>
   have h1:=ih.2
   rw [← hf] at h1
   simp only [List.mem_cons,List.not_mem_nil,or_false] at he
   rcases he with rfl | rfl | rfl<;>exact absurd h1 (by decide)
 exact absurd (key hp).1 (by simp)
theorem xU (v00:Value) (v01:Value) (v02:Value) (v1:Int) (v2:Int) (v3a:Option Addr) (v3l:Nat) (v3c:Nat) (v4a:Option Addr) (v4l:Nat) (v4c:Nat):prog.built 29 [(0,.agg #[v00,v01,v02]),(1,.int .i64 v1),(2,.int .i64 v2),(3,.slice v3a v3l v3c),(4,.slice v4a v4l v4c)]=some #[v00,v01,v02,.int .i64 v1,.int .i64 v2,.slice v3a v3l v3c,.slice v4a v4l v4c]:=by kernel_rfl
theorem wP (v1:Int) (v2:Int) (v30:Value) (v31:Value) (v32:Value) (v33:Value) (v34:Value) (v35:Value):prog.built 66 [(1,.int .i64 v1),(2,.int .i64 v2),(3,.agg #[v30,v31,v32,v33,v34,v35])]=some #[.int .i64 0,.int .i64 v1,.int .i64 v2,v30,v31,v32,v33,v34,v35]:=by kernel_rfl
theorem Nc (v1:Int) (v30:Value) (v31:Value) (v32:Value) (v33:Value) (v34:Value) (v35:Value):prog.built 66 [(1,.int .i64 v1),(3,.agg #[v30,v31,v32,v33,v34,v35])]=some #[.int .i64 0,.int .i64 v1,.int .i64 0,v30,v31,v32,v33,v34,v35]:=by kernel_rfl
theorem bs_27_3 (v00:Value) (v01:Value) (v02:Value) (v03:Value) (v04:Value) (v05:Value) (v06:Value) (v07:Value) (v08:Value) (v10:Value) (v11:Value) (v12:Value) (v13:Value) (v14:Value) (v15:Value) (v16:Value) (v17:Value) (v18:Value) (v20:Value) (v21:Value) (v22:Value) (v23:Value) (v24:Value) (v25:Value) (v26:Value) (v27:Value) (v28:Value):Instr.fill (fun i=>some (i * 9,9)) ((Array.range (3 * 9)).map ((Value.cells (.agg #[.int .i64 0,.int .i64 0,.int .i64 0,.bool false,.int .i64 0,.int .u64 0,.slice none 0 0,.slice none 0 0,.slice none 0 0]))[· % (Value.cells (.agg #[.int .i64 0,.int .i64 0,.int .i64 0,.bool false,.int .i64 0,.int .u64 0,.slice none 0 0,.slice none 0 0,.slice none 0 0])).size]!)) [(0,.agg #[v00,v01,v02,v03,v04,v05,v06,v07,v08]),(1,.agg #[v10,v11,v12,v13,v14,v15,v16,v17,v18]),(2,.agg #[v20,v21,v22,v23,v24,v25,v26,v27,v28])]=some (List.toArray [v00,v01,v02,v03,v04,v05,v06,v07,v08,v10,v11,v12,v13,v14,v15,v16,v17,v18,v20,v21,v22,v23,v24,v25,v26,v27,v28]):=by kernel_rfl
def wC9 (c:Int):WV:=.mk ⟨false,c,0,none,0,0,[],none,0,0,[],none,0,0⟩ []
abbrev exA (b1 b2:Nat):AV:=⟨.mk ⟨2,9,none,0,0⟩ [],2,1,some ⟨b1,0,none⟩,1,1,[1],some ⟨b2,0,none⟩,3,3,[⟨0,0,1,wC9 3⟩,⟨0,-1,0,wC9 1⟩,⟨0,0,1,wC9 5⟩]⟩
def pyC (t:TV):PX:=.one t.x.f.pf
theorem Xa (w:World) (c:Int):WIn w 1 (wC9 c):=⟨⟨.inl rfl,rfl,by show 0 < 18446744073709551616;decide,(fun r hr=>by cases hr),.inl rfl,rfl,(fun c hc=>by cases hc),Nat.zero_le _⟩,rfl,.inl rfl,fun p hp=>by cases hp⟩
theorem Kd {w:World} {c:Int} (h0:0≤c) (h1:c≤9):XIs w S9 (wC9 c).f (.one (wC9 c).f.pf):=PIs.of (t:=2) (n:=9) (by decide) (Xa w c).1 (by simp [fU,wC9,WV.f,iY,iX,h0,h1])
theorem exA_in {w:World} {b1 b2:Nat} {T1 T2:TypeId} (h1:w.heap[b1]?=some (.cells (List.toArray [.int .i64 1]) T1 (0,0)))
  (h2:w.heap[b2]?=some (.cells (List.toArray ((⟨0,0,1,wC9 3⟩:TV).nine++(⟨0,-1,0,wC9 1⟩:TV).nine++(⟨0,0,1,wC9 5⟩:TV).nine)) T2 (0,0))):AIn w 1 1 (exA b1 b2):=by
 refine ⟨⟨rfl,.inl rfl,fun p hp=>by cases hp⟩,Ch h1,rfl,.inr ⟨b2,0,rfl,fun i r hi=>?_⟩,rfl,fun r hr=>?_,by show 1≤9223372036854775807;decide,by show 3≤9223372036854775807;decide⟩
 ·match i,hi with
  | 0,hi=>cases hi;exact aB.own (j:=0) (m:=9) h2 rfl
  | 1,hi=>cases hi;exact aB.own (j:=9) (m:=9) h2 rfl
  | 2,hi=>cases hi;exact aB.own (j:=18) (m:=9) h2 rfl
  | i+3,hi=>exact absurd hi (by simp)
 ·simp only [List.mem_cons,List.not_mem_nil,or_false] at hr
  rcases hr with rfl | rfl | rfl<;>exact Xa w _
theorem Xb {w:World} {b1 b2:Nat} (h:AIn w 1 1 (exA b1 b2)):AutoOk w S9 pyC 2 (exA b1 b2):=by
 refine ⟨mJ,⟨none,0,rfl⟩,rfl,by decide,h.frow,h.flen,h.fmax,h.trow,h.tlen,by show 3≤65536;decide,?_,?_,?_,?_,by show (0:Int)≤1∧(1:Int)≤4096;decide,?_⟩
 ·intro s hs;simp at hs;subst hs;decide
 ·intro t ht;simp only [List.mem_cons,List.not_mem_nil,or_false] at ht;rcases ht with rfl | rfl | rfl<;>decide
 ·intro t ht;simp only [List.mem_cons,List.not_mem_nil,or_false] at ht;rcases ht with rfl | rfl | rfl<;>decide
 ·intro t ht
  show -1≤t.g∧t.g < 1
  simp only [List.mem_cons,List.not_mem_nil,or_false] at ht
  rcases ht with rfl | rfl | rfl<;>(dsimp only;omega)
 ·intro t ht;simp only [List.mem_cons,List.not_mem_nil,or_false] at ht;rcases ht with rfl | rfl | rfl
  ·exact Kd (by decide) (by decide)
  ·exact Kd (by decide) (by decide)
  ·exact Kd (by decide) (by decide)
theorem exA_E {b1 b2:Nat}:fA (exA b1 b2)=0:=by
 have e1:dW (exA b1 b2).s=0:=by show dW (.mk ⟨2,9,none,0,0⟩ [])=0;decide
 have e2:dI (exA b1 b2).st (exA b1 b2).sy (exA b1 b2).fs (exA b1 b2).ts=true:=by show dI 2 1 [1] [⟨0,0,1,wC9 3⟩,⟨0,-1,0,wC9 1⟩,⟨0,0,1,wC9 5⟩]=true;decide
 have e3:∀ c:Int,c=3∨c=1∨c=5→lT (exA b1 b2).s (wC9 c)=0:=fun c hc=>by rcases hc with rfl | rfl | rfl<;>(show lT (.mk ⟨2,9,none,0,0⟩ []) _=0;decide)
 unfold fA
 rw [if_neg (fun h=>h e1),if_neg (by show ¬ 65536 < 3;decide),if_neg (by rw [e2];decide),if_pos]
 refine List.all_eq_true.2 fun t ht=>decide_eq_true ?_
 simp only [List.mem_cons,List.not_mem_nil,or_false] at ht
 rcases ht with rfl | rfl | rfl
 ·exact e3 3 (.inl rfl)
 ·exact e3 1 (.inr (.inl rfl))
 ·exact e3 5 (.inr (.inr rfl))
theorem Pu {b1 b2:Nat} (p:Int) (hp:p=0∨p=1):eM (exA b1 b2) [p] [0]=0:=Pk exA_E (fun y hy=>by simp at hy;subst hy;show inQ y 2=true;rcases hp with rfl | rfl<;>decide) (fun y hy=>by simp at hy;subst hy;show inQ 0 1=true;decide)
theorem yJ (w:World) :
  Calls prog 35 #[] w (fun e w'=>∃ b1 b2,e = .returned (exA b1 b2).val∧(∀ w2,dD w.heap.size w' w2→AIn w2 1 1 (exA b1 b2))∧Below w.heap.size w w'):=by
 refine cB (args:=[]) func35 rfl ntmps35 rfl ?_
 have hS:=St.start w
 refine aJ (aQ (bB (cs:=[_,_,_,_,_,_,_]) hS zeroValue29 rfl rfl fun B1 W1 hS=>aN (XF.thenN (aJ (aQ (cV (us:=[(0,.int .i64 _),(1,.int .i64 _)]) rfl (Kz _ _) rfl (cN (us:=[(0,.int .i64 _)]) hS underlying26 sizeOf3 zeroValue3 rfl rfl rfl (hQ _) rfl fun B2 W2 hS=>cV (us:=[(1,.int .i64 _)]) rfl (zM _) rfl (cV (us:=[(1,.int .i64 _),(2,.int .i64 _),(3,.agg (List.toArray [_,_,_,_,_,_]))]) rfl (wP _ _ _ _ _ _ _ _) rfl (cV (us:=[(1,.int .i64 _)]) rfl (zM _) rfl (cV (us:=[(1,.int .i64 _),(3,.agg (List.toArray [_,_,_,_,_,_]))]) rfl (Nc _ _ _ _ _ _ _) rfl (cV (us:=[(1,.int .i64 _)]) rfl (zM _) rfl (cV (us:=[(1,.int .i64 _),(2,.int .i64 _),(3,.agg (List.toArray [_,_,_,_,_,_]))]) rfl (wP _ _ _ _ _ _ _ _) rfl (cN (us:=[(0,.agg (List.toArray [_,_,_,_,_,_,_,_,_])),(1,.agg (List.toArray [_,_,_,_,_,_,_,_,_])),(2,.agg (List.toArray [_,_,_,_,_,_,_,_,_]))]) hS underlying27 sizeOf66 zeroValue66 rfl rfl rfl (bs_27_3 _ _ _ _ _ _ _ _ _ _ _ _ _ _ _ _ _ _ _ _ _ _ _ _ _ _ _) rfl fun B3 W3 hS=>cV (us:=[(0,.agg (List.toArray [_,_,_])),(1,.int .i64 _),(2,.int .i64 _),(3,.slice _ _ _),(4,.slice _ _ _)]) rfl (xU _ _ _ _ _ _ _ _ _ _ _) rfl (aU (i:=2) (vs:=[_,_,_,_,_,_,_]) (cs':=[_,_,_,_,_,_,_]) (O':=[_,_,_]) hS sizeOf29 rfl rfl rfl rfl rfl rfl rfl fun W4 hS=>aN (XF.thenN (bX (XF.res (dJ (vs:=[_,_,_,_,_,_,_]) results35 isAgg29 sizeOf29 rfl (aB.own (j:=0) (m:=7) (hS.at_ 2 rfl) rfl)) ?_)))))))))))))))))
 exact ⟨B2,B3,rfl,fun w2 hg=>exA_in ((hg.2 _ (hS.ge 1 rfl) (bY (hS.at_ 1 rfl))).trans (hS.at_ 1 rfl)) ((hg.2 _ (hS.ge 0 rfl) (bY (hS.at_ 0 rfl))).trans (hS.at_ 0 rfl)),hS.below⟩
theorem R9 (a:AV) (wa:Option Addr) (wl wc:Nat) (w:World) :
  Calls prog 11 #[a.val,.slice wa wl wc] w (fun e w'=>∃ b:Bool,e = .returned (.bool b)∧(b=true→(a.tl:Int)≤300∧a.st≤300∧(wl:Int)≤40)∧Below w.heap.size w w'):=by
 refine cB (args:=[a.val,.slice wa wl wc]) func11 rfl ntmps11 rfl ?_
 have hS:=St.start w
 refine aJ (aQ (bR (cs:=[_,_,_,_,_,_,_]) hS rfl rfl rfl fun B1 W1 hS=>aC rfl rfl (aN (XF.thenN (aJ (aQ (aO (o':=6) gF rfl rfl rfl (aT isAgg27 rfl (aH (hS.at_ 0 rfl) rfl) rfl (cX underlying27 rfl rfl (wQ rfl rfl rfl (aE rfl rfl (cI (d:=9) rfl (fun hc=>?_) (fun hc=>?_)))))))))))))
 ·have hg9:=of_decide_eq_true hc;clear hc
  refine aM (d:=9) rfl rfl (aO (o':=3) kO rfl rfl rfl (aM (d:=9) rfl rfl (aT isAgg3 rfl (aH (hS.at_ 0 rfl) rfl) rfl (aM (d:=9) rfl rfl (wQ rfl rfl rfl (bV rfl rfl rfl (aE rfl rfl (cI (d:=14) rfl (fun hc=>?_) (fun hc=>?_)))))))))
  ·have hg14:=of_decide_eq_true hc;clear hc
   refine aM (d:=14) rfl rfl (aE rfl rfl (aM (d:=14) rfl rfl (cX underlying26 rfl rfl (aM (d:=14) rfl rfl (wQ rfl rfl rfl (bV rfl rfl rfl (aC rfl rfl (aN (XF.thenN (bX (XF.res (cQ results11 rfl) ?_)))))))))))
   exact ⟨_,rfl,fun h=>⟨hg9,hg14,of_decide_eq_true h⟩,hS.below⟩
  ·have hg14:=of_decide_eq_false hc;clear hc
   refine aP (d:=14) rfl rfl rfl rfl (aP (d:=14) rfl rfl rfl rfl (aP (d:=14) rfl rfl rfl rfl (cH rfl rfl rfl (aC rfl rfl (aN (XF.thenN (bX (XF.res (cQ results11 rfl) ?_))))))))
   exact ⟨false,rfl,fun h=>by (cases h),hS.below⟩
 ·have hg9:=of_decide_eq_false hc;clear hc
  refine aP (d:=9) rfl rfl rfl rfl (aP (d:=9) rfl rfl rfl rfl (aP (d:=9) rfl rfl rfl rfl (cH rfl rfl rfl (aE rfl rfl (aP (d:=14) rfl rfl rfl rfl (aP (d:=14) rfl rfl rfl rfl (aP (d:=14) rfl rfl rfl rfl (cH rfl rfl rfl (aC rfl rfl (aN (XF.thenN (bX (XF.res (cQ results11 rfl) ?_)))))))))))))
  exact ⟨false,rfl,fun h=>by (cases h),hS.below⟩
theorem G6:bH prog 16=true:=by kernel_rfl
theorem Pv:bH prog 35=true:=by kernel_rfl
theorem Sa (w:World) (ht:Tabs w) :
  Calls prog 10 #[] w (fun e w'=>e = .returned (.bool (true))∧Below w.heap.size w w'):=by
 refine cB (args:=[]) func10 rfl ntmps10 rfl ?_
 have hS:=St.start w
 refine aJ (aQ (aC rfl rfl (aN (XF.thenN (aJ (aQ (cL (vs:=[]) hS Pv rfl (yJ _) rfl ?_)))))))
 rintro e W1 ⟨b1,b2,rfl,hex,hb⟩
 refine ⟨_,rfl,hb,fun hS'=>?_⟩
 clear hS;have hS:=hS';clear hS'
 refine cN (us:=[(0,.int .i64 _)]) hS underlying26 sizeOf3 zeroValue3 rfl rfl rfl (hQ _) rfl fun B2 W2 hS=>?_
 have hx0:=hex _ (hS.since 0 rfl)
 refine cL (vs:=[_,_,_,_]) hS G6 rfl (xT 1 1 (exA b1 b2) S9 pyC 2 false 0 _ hx0 (Xb hx0) (by decide) _ 1 1 [0] (Ch (hS.at_ 0 rfl)) rfl (by decide) (Pu _ (.inl rfl)) (ht.below hS.below)) rfl ?_
 rintro e W3 ⟨f1,z1,rfl,hn1,hl1,hb⟩
 refine ⟨_,rfl,hb,fun hS'=>?_⟩
 clear hS;have hS:=hS';clear hS'
 have hz1:z1 = .one (pC 3):=ex_lub hl1
 subst hz1
 have hc1:f1.c=3:=(mD hn1.is.pf).2.1
 have hz1:f1.z=false:=(mD hn1.is.pf).1
 refine aE rfl rfl (bJ rfl rfl rfl (bJ rfl rfl rfl (bB (cs:=[_,_,_,_,_,_]) hS zeroValue44 rfl rfl fun B4 W4 hS=>aU (i:=0) (vs:=[_,_,_,_,_,_]) (cs':=[_,_,_,_,_,_]) (O':=[_,_]) hS sizeOf44 rfl rfl rfl rfl rfl rfl rfl fun W5 hS=>aC rfl rfl (aN (XF.thenN (aJ (aQ (cL (vs:=[]) hS Pv rfl (yJ _) rfl ?_))))))))
 rintro e W6 ⟨b3,b4,rfl,hex2,hb⟩
 refine ⟨_,rfl,hb,fun hS'=>?_⟩
 clear hS;have hS:=hS';clear hS'
 refine cN (us:=[(0,.int .i64 _)]) hS underlying26 sizeOf3 zeroValue3 rfl rfl rfl (hQ _) rfl fun B7 W7 hS=>?_
 have hx1:=hex2 _ (hS.since 0 rfl)
 refine cL (vs:=[_,_,_,_]) hS G6 rfl (xT 1 1 (exA b3 b4) S9 pyC 2 false 1 _ hx1 (Xb hx1) (by decide) _ 1 1 [0] (Ch (hS.at_ 0 rfl)) rfl (by decide) (Pu _ (.inr rfl)) (ht.below hS.below)) rfl ?_
 rintro e W8 ⟨f2,z2,rfl,hn2,hl2,hb⟩
 refine ⟨_,rfl,hb,fun hS'=>?_⟩
 clear hS;have hS:=hS';clear hS'
 have hz2:z2=bP S9:=ex_none hl2
 subst hz2
 have hz2:f2.z=true:=(mD hn2.is.pf).1
 refine aE rfl rfl (bJ rfl rfl rfl (bJ rfl rfl rfl (bB (cs:=[_,_,_,_,_,_]) hS zeroValue44 rfl rfl fun B9 W9 hS=>aU (i:=0) (vs:=[_,_,_,_,_,_]) (cs':=[_,_,_,_,_,_]) (O':=[_,_,_,_]) hS sizeOf44 rfl rfl rfl rfl rfl rfl rfl fun W10 hS=>aC rfl rfl (aN (XF.thenN (aJ (aQ (aE rfl rfl (cG rfl rfl rfl (aE rfl rfl (cI (d:=19) rfl (fun hc=>?_) (fun hc=>absurd (of_decide_eq_false hc) (by simp)))))))))))))
 have hc:=of_decide_eq_true hc
 refine aM (d:=19) rfl rfl (aE rfl rfl (aM (d:=19) rfl rfl (cG rfl rfl rfl (bV rfl rfl rfl (aE rfl rfl (cI (d:=23) rfl (fun hc=>?_) (fun hc=>absurd (of_decide_eq_false hc) (by simp))))))))
 have hc:=of_decide_eq_true hc
 refine aM (d:=23) rfl rfl (aO (o':=1) eV rfl rfl rfl (aM (d:=23) rfl rfl (aT isAgg3 rfl (aH (hS.at_ 2 rfl) rfl) rfl (aM (d:=23) rfl rfl (cG rfl rfl rfl (bV rfl rfl rfl (aE rfl rfl (cI (d:=28) rfl (fun hc=>?_) (fun hc=>absurd (of_decide_eq_false hc) (by exact fun h=>h hc1))))))))))
 have hc:=of_decide_eq_true hc
 refine aM (d:=28) rfl rfl (aO (o':=0) dR rfl rfl rfl (aM (d:=28) rfl rfl (aT isAgg4 rfl (aH (hS.at_ 2 rfl) rfl) rfl (aM (d:=28) rfl rfl (fS rfl rfl (bV rfl rfl rfl (aE rfl rfl ?_)))))))
 refine cI (d:=33) rfl (fun hc=>?_) (fun hc=>absurd hc (by rw [hz1];decide))
 skip
 refine aM (d:=33) rfl rfl (aO (o':=0) dR rfl rfl rfl (aM (d:=33) rfl rfl (aT isAgg4 rfl (aH (hS.at_ 0 rfl) rfl) rfl (bV rfl rfl rfl (aC rfl rfl (aN (XF.thenN (bX (XF.res (cQ results10 rfl) ?_)))))))))
 exact ⟨bT hz2,hS.below⟩
theorem Ke (ds d:Nat) (a:AV) (bk:Bool) (fr:Int) (w:World) (hin:AIn w ds d a) (wa:Option Addr) (wl wc:Nat) (ws:List Int) (hwa:Row w wa ws) (hwl:ws.length=wl) (hwm:wl≤9223372036854775807) (hask:eM a [fr] ws≠0) :
  Calls prog 17 #[a.val,.bool bk,.int .i64 fr,.slice wa wl wc] w (fun e w'=>e = .returned (.tuple #[.agg #[.bool false,.int .i64 0,.int .u64 0,.slice none 0 0,.slice none 0 0,.slice none 0 0],.int .i64 (eM a [fr] ws)])∧Below w.heap.size w w'):=by
 refine cB (args:=[a.val,.bool bk,.int .i64 fr,.slice wa wl wc]) func17 rfl ntmps17 rfl ?_
 have hS:=St.start w
 refine aJ (aQ (bR (cs:=[_,_,_,_,_,_,_]) hS rfl rfl rfl fun B1 W1 hS=>bB (cs:=[_,_,_,_,_,_]) hS zeroValue44 rfl rfl fun B2 W2 hS=>aC rfl rfl (aN (XF.thenN (aJ (aQ (aS (vs:=[_,_,_,_,_,_,_]) isAgg29 sizeOf29 rfl (aB.own (j:=0) (m:=7) (hS.at_ 1 rfl) rfl) rfl (aE rfl rfl (cN (us:=[(0,.int .i64 _)]) hS underlying26 sizeOf3 zeroValue3 rfl rfl rfl (hQ _) rfl fun B3 W3 hS=>aE rfl rfl (cC (vs:=[_,_,_]) hS zI rfl (tD ds d a.s a.st a.sy a.fa a.fl a.fc a.fs a.ta a.tl a.tc a.ts _ (hin.below hS.below).s (hin.below hS.below).frow (hin.below hS.below).flen (hin.below hS.below).trow (hin.below hS.below).tlen (hin.below hS.below).tin hin.fmax hin.tmax _ 1 1 [fr] wa wl wc ws (Ch (hS.at_ 0 rfl)) rfl (by decide) (hwa.below hS.below) hwl hwm) rfl fun W4 hS=>aC rfl rfl (aN (XF.thenN (aJ (aJ (aQ (aE rfl rfl (dX rfl rfl rfl (aN (XF.thenN (bA rfl (fun hc=>?_) (fun hc=>absurd (of_decide_eq_false hc) (by exact fun h=>h hask))))))))))))))))))))))
 have hc:=of_decide_eq_true hc
 refine aJ (aQ (cV (us:=[]) rfl (lA) rfl (aE rfl rfl (aU (i:=1) (vs:=[_,_,_,_,_,_]) (cs':=[_,_,_,_,_,_]) (O':=[_,_,_]) hS sizeOf44 rfl rfl rfl rfl rfl rfl rfl fun W5 hS=>aC rfl rfl (aN (XF.thenN (bX (XF.thenR (XF.res (mG (vs:=[_,_,_,_,_,_]) results17 isAgg44 sizeOf44 rfl (aB.own (j:=0) (m:=6) (hS.at_ 1 rfl) rfl) rfl) ?_)))))))))
 exact ⟨rfl,hS.below⟩
theorem Kf (ds d:Nat) (a:AV) (bk:Bool) (fr:Int) (w:World) (hin:AIn w ds d a) (hask:eM a [fr] []≠0) :
  Calls prog 19 #[a.val,.bool bk,.int .i64 fr] w (fun e w'=>e = .returned (.tuple #[.agg #[.bool false,.int .i64 0,.int .u64 0,.slice none 0 0,.slice none 0 0,.slice none 0 0],.int .i64 (eM a [fr] [])])∧Below w.heap.size w w'):=by
 refine cB (args:=[a.val,.bool bk,.int .i64 fr]) func19 rfl ntmps19 rfl ?_
 have hS:=St.start w
 refine aJ (aQ (bR (cs:=[_,_,_,_,_,_,_]) hS rfl rfl rfl fun B1 W1 hS=>bB (cs:=[_,_,_,_,_,_]) hS zeroValue44 rfl rfl fun B2 W2 hS=>aC rfl rfl (aN (XF.thenN (aJ (aQ (aS (vs:=[_,_,_,_,_,_,_]) isAgg29 sizeOf29 rfl (aB.own (j:=0) (m:=7) (hS.at_ 1 rfl) rfl) rfl (aE rfl rfl (cN (us:=[(0,.int .i64 _)]) hS underlying26 sizeOf3 zeroValue3 rfl rfl rfl (hQ _) rfl fun B3 W3 hS=>cC (vs:=[_,_,_]) hS zI rfl (tD ds d a.s a.st a.sy a.fa a.fl a.fc a.fs a.ta a.tl a.tc a.ts _ (hin.below hS.below).s (hin.below hS.below).frow (hin.below hS.below).flen (hin.below hS.below).trow (hin.below hS.below).tlen (hin.below hS.below).tin hin.fmax hin.tmax _ 1 1 [fr] none 0 0 [] (Ch (hS.at_ 0 rfl)) rfl (by decide) (.inl rfl) rfl (by decide)) rfl fun W4 hS=>aC rfl rfl (aN (XF.thenN (aJ (aJ (aQ (aE rfl rfl (dX rfl rfl rfl (aN (XF.thenN (bA rfl (fun hc=>?_) (fun hc=>absurd (of_decide_eq_false hc) (by exact fun h=>h hask)))))))))))))))))))))
 have hc:=of_decide_eq_true hc
 refine aJ (aQ (cV (us:=[]) rfl (lA) rfl (aE rfl rfl (aU (i:=1) (vs:=[_,_,_,_,_,_]) (cs':=[_,_,_,_,_,_]) (O':=[_,_,_]) hS sizeOf44 rfl rfl rfl rfl rfl rfl rfl fun W5 hS=>aC rfl rfl (aN (XF.thenN (bX (XF.thenR (XF.res (mG (vs:=[_,_,_,_,_,_]) results19 isAgg44 sizeOf44 rfl (aB.own (j:=0) (m:=6) (hS.at_ 1 rfl) rfl) rfl) ?_)))))))))
 exact ⟨rfl,hS.below⟩
def G7 (S:PS) (bk:Bool) (kf:TV→Int×Int) (py:TV→PX) (a:AV) (fr:Int) (ws:List Int) (M:World→Prop) (f:WF):Prop:=(eM a [fr] ws=0→∃ (p:Nat) (z:PX),fr=(p:Int)∧gR M S f z∧LubX S (xP S bk (egsX kf py a.ts) (a.fs.map Int.toNat) p ws) z)∧(eM a [fr] ws≠0→f=(wC9 0).f)
theorem G7.mono {S:PS} {bk:Bool} {kf:TV→Int×Int} {py:TV→PX} {a:AV} {fr:Int} {ws:List Int} {M M':World→Prop} {f:WF} (h:G7 S bk kf py a fr ws M f) (hm:∀ W,M' W→M W):G7 S bk kf py a fr ws M' f:=⟨fun h0=>by
 obtain ⟨p,z,h1,h2,h3⟩:=h.1 h0
 exact ⟨p,z,h1,h2.mono hm,h3⟩,h.2⟩
theorem Nd (ds d:Nat) (a:AV) (S:PS) (py:TV→PX) (n:Nat) (bk:Bool) (fr:Int) (w:World) (hin:AIn w ds d a) (wa:Option Addr) (wl wc:Nat) (ws:List Int) (hwa:Row w wa ws) (hwl:ws.length=wl) (hwm:wl≤9223372036854775807) (hA:eM a [fr] ws=0→AutoOk w S py n a) (ht:Tabs w) :
  Calls prog 16 #[a.val,.bool bk,.int .i64 fr,.slice wa wl wc] w (fun e w'=>∃ f:WF,e = .returned (.tuple #[f.val,.int .i64 (eM a [fr] ws)])∧G7 S bk kSym py a fr ws (fun W2=>dD w.heap.size w' W2) f∧Below w.heap.size w w'):=by
 by_cases h0:eM a [fr] ws=0
 ·have hA9:=hA h0
  have h1:=(kU h0).2.1 fr (by simp)
  rw [hA9.st] at h1
  obtain ⟨p,rfl,hp⟩:=fK h1
  refine (xT ds d a S py n bk p w hin hA9 hp wa wl wc ws hwa hwl hwm h0 ht).mono ?_
  rintro e w' ⟨f,z,rfl,hn,hl,hb⟩
  exact ⟨f,by rw [h0],⟨fun _=>⟨p,z,rfl,hn.far,hl⟩,fun h=>absurd h0 h⟩,hb⟩
 ·refine (M9 ds d a bk fr w hin wa wl wc ws hwa hwl hwm h0).mono ?_
  rintro e w' ⟨rfl,hb⟩
  exact ⟨(wC9 0).f,rfl,⟨fun h=>absurd h h0,fun _=>rfl⟩,hb⟩
theorem Kg (ds d:Nat) (a:AV) (S:PS) (py:TV→PX) (n:Nat) (bk:Bool) (fr:Int) (w:World) (hin:AIn w ds d a) (wa:Option Addr) (wl wc:Nat) (ws:List Int) (hwa:Row w wa ws) (hwl:ws.length=wl) (hwm:wl≤9223372036854775807) (hA:eM a [fr] ws=0→AutoOk w S py n a) :
  Calls prog 17 #[a.val,.bool bk,.int .i64 fr,.slice wa wl wc] w (fun e w'=>∃ f:WF,e = .returned (.tuple #[f.val,.int .i64 (eM a [fr] ws)])∧G7 S bk kSym py a fr ws (fun W2=>Below w.heap.size w W2∧dD w.heap.size w' W2) f∧Below w.heap.size w w'):=by
 by_cases h0:eM a [fr] ws=0
 ·have hA9:=hA h0
  have h1:=(kU h0).2.1 fr (by simp)
  rw [hA9.st] at h1
  obtain ⟨p,rfl,hp⟩:=fK h1
  refine (M7 ds d n a S py bk p w hin hA9 hp wa wl wc ws hwa hwl hwm h0).mono ?_
  rintro e w' ⟨f,z,rfl,hn,hl,hb⟩
  exact ⟨f,by rw [h0],⟨fun _=>⟨p,z,rfl,hn,hl⟩,fun h=>absurd h0 h⟩,hb⟩
 ·refine (Ke ds d a bk fr w hin wa wl wc ws hwa hwl hwm h0).mono ?_
  rintro e w' ⟨rfl,hb⟩
  exact ⟨(wC9 0).f,rfl,⟨fun h=>absurd h h0,fun _=>rfl⟩,hb⟩
theorem Nf (ds d:Nat) (a:AV) (S:PS) (py:TV→PX) (n:Nat) (bk:Bool) (fr:Int) (w:World) (hin:AIn w ds d a) (hA:eM a [fr] []=0→AutoOk w S py n a) (ht:Tabs w) :
  Calls prog 18 #[a.val,.bool bk,.int .i64 fr] w (fun e w'=>∃ f:WF,e = .returned (.tuple #[f.val,.int .i64 (eM a [fr] [])])∧G7 S bk qQ py a fr [] (fun W2=>dD w.heap.size w' W2) f∧Below w.heap.size w w'):=by
 by_cases h0:eM a [fr] []=0
 ·have hA9:=hA h0
  have h1:=(kU h0).2.1 fr (by simp)
  rw [hA9.st] at h1
  obtain ⟨p,rfl,hp⟩:=fK h1
  refine (R8 ds d a S py n bk p w hin hA9 hp h0 ht).mono ?_
  rintro e w' ⟨f,z,rfl,hn,hl,hb⟩
  exact ⟨f,by rw [h0],⟨fun _=>⟨p,z,rfl,hn.far,hl⟩,fun h=>absurd h0 h⟩,hb⟩
 ·refine (Na ds d a bk fr w hin h0).mono ?_
  rintro e w' ⟨rfl,hb⟩
  exact ⟨(wC9 0).f,rfl,⟨fun h=>absurd h h0,fun _=>rfl⟩,hb⟩
theorem Kh (ds d:Nat) (a:AV) (S:PS) (py:TV→PX) (n:Nat) (bk:Bool) (fr:Int) (w:World) (hin:AIn w ds d a) (hA:eM a [fr] []=0→AutoOk w S py n a) :
  Calls prog 19 #[a.val,.bool bk,.int .i64 fr] w (fun e w'=>∃ f:WF,e = .returned (.tuple #[f.val,.int .i64 (eM a [fr] [])])∧G7 S bk qQ py a fr [] (fun W2=>Below w.heap.size w W2∧dD w.heap.size w' W2) f∧Below w.heap.size w w'):=by
 by_cases h0:eM a [fr] []=0
 ·have hA9:=hA h0
  have h1:=(kU h0).2.1 fr (by simp)
  rw [hA9.st] at h1
  obtain ⟨p,rfl,hp⟩:=fK h1
  refine (M8 ds d n a S py bk p w hin hA9 hp h0).mono ?_
  rintro e w' ⟨f,z,rfl,hn,hl,hb⟩
  exact ⟨f,by rw [h0],⟨fun _=>⟨p,z,rfl,hn,hl⟩,fun h=>absurd h0 h⟩,hb⟩
 ·refine (Kf ds d a bk fr w hin h0).mono ?_
  rintro e w' ⟨rfl,hb⟩
  exact ⟨(wC9 0).f,rfl,⟨fun h=>absurd h h0,fun _=>rfl⟩,hb⟩
theorem Pw {S:PS} {bk:Bool} {kf:TV→Int×Int} {py:TV→PX} {a:AV} {fr:Int} {ws:List Int} {M1 M2:World→Prop} {f g:WF} {w:World} {w0:World} {n:Nat} (h1:G7 S bk kf py a fr ws M1 f) (h2:G7 S bk kf py a fr ws M2 g) (hA:eM a [fr] ws=0→AutoOk w0 S py n a) (hm1:M1 w) (hm2:M2 w) :
  Calls prog 20 #[f.val,g.val] w fun e w'=>e = .returned (.bool true)∧Below w.heap.size w w':=by
 by_cases h0:eM a [fr] ws=0
 ·obtain ⟨p,z,hp,hf,hl⟩:=h1.1 h0
  obtain ⟨p2,z2,hp2,hg,hl2⟩:=h2.1 h0
  obtain rfl:p2=p:=by omega
  have hA9:=hA h0
  have e:=LubX.uniq hA9.ok (Gz hA9.ok (lI hA9.py)) hl hl2
  subst e
  exact M5 (hf.is hm1) (hg.is hm2) true ⟨fun _=>rfl,fun _=>rfl⟩
 ·obtain rfl:=h1.2 h0
  obtain rfl:=h2.2 h0
  exact M5 (Kd (c:=0) (by decide) (by decide)) (Kd (c:=0) (by decide) (by decide)) true ⟨fun _=>rfl,fun _=>rfl⟩
theorem Xc {w:World} {ds d:Nat} {a:AV} {fr:Int} (hin:AIn w ds d a):∃ S py n,eM a [fr] []=0→AutoOk w S py n a:=by
 by_cases h1:eM a [fr] []=0
 ·obtain ⟨S,py,n,h⟩:=R5 hin (kU h1).1
  exact ⟨S,py,n,fun _=>h⟩
 ·exact ⟨.one 1 0,fun _=>.one dF,0,fun h=>absurd h h1⟩
theorem goes_10:bH prog 10=true:=by kernel_rfl
theorem goes_11:bH prog 11=true:=by kernel_rfl
theorem goes_17:bH prog 17=true:=by kernel_rfl
theorem goes_18:bH prog 18=true:=by kernel_rfl
theorem goes_19:bH prog 19=true:=by kernel_rfl
theorem yQ (ds d:Nat) (a:AV) (bk:Bool) (fr:Int) (w:World) (hin:AIn w ds d a) (wa:Option Addr) (wl wc:Nat) (ws:List Int) (hwa:Row w wa ws) (hwl:ws.length=wl) (hwm:wl≤9223372036854775807) (ht:Tabs w) :
  Calls prog 4 #[a.val,.bool bk,.int .i64 fr,.slice wa wl wc] w (fun e w'=>e = .returned (.bool (true))∧Below w.heap.size w w'):=by
 refine cB (args:=[a.val,.bool bk,.int .i64 fr,.slice wa wl wc]) func4 rfl ntmps4 rfl ?_
 have hS:=St.start w
 obtain ⟨S,py,n,hAx⟩:=Xc (fr:=fr) hin
 refine aJ (aQ (bR (cs:=[_,_,_,_,_,_,_]) hS rfl rfl rfl fun B1 W1 hS=>aC rfl rfl (aN (XF.thenN (aJ (aJ (aQ (cC (vs:=[]) hS goes_10 rfl (Sa _ (ht.below hS.below)) rfl fun W2 hS=>fS rfl rfl (aN (XF.thenN (Hc rfl (bM (XF.thenN (aJ (aJ (aQ (aS (vs:=[_,_,_,_,_,_,_]) isAgg29 sizeOf29 rfl (aB.own (j:=0) (m:=7) (hS.at_ 0 rfl) rfl) rfl (aE rfl rfl (cL (vs:=[_,_]) hS goes_11 rfl (R9 a wa wl wc _) rfl ?_)))))))))))))))))))
 rintro e W3 ⟨b9,rfl,hsm,hb⟩
 refine ⟨_,rfl,hb,fun hS'=>?_⟩
 clear hS;have hS:=hS';clear hS' hb
 refine fS rfl rfl (aN (XF.thenN (bA rfl (fun hc=>?_) (fun hc=>?_))))
 ·have hc22:=hc;clear hc
  refine aJ (aQ (aC rfl rfl (aN (XF.thenN (bX (XF.thenR (XF.res (cQ results4 rfl) ?_)))))))
  exact ⟨rfl,hS.below⟩
 ·have hc22:=hc;clear hc
  refine bM (XF.thenN (aJ (aQ (aS (vs:=[_,_,_,_,_,_,_]) isAgg29 sizeOf29 rfl (aB.own (j:=0) (m:=7) (hS.at_ 0 rfl) rfl) rfl (aE rfl rfl (aE rfl rfl (aE rfl rfl (cL (vs:=[_,_,_,_]) hS G6 rfl (Nd ds d a S py n bk fr _ (hin.below hS.below) wa wl wc ws (hwa.below hS.below) hwl hwm (fun h=>(hAx (wO h)).below hS.below) (ht.below hS.below)) rfl ?_))))))))
  rintro e W4 ⟨f1,rfl,hv1,hb⟩
  refine ⟨_,rfl,hb,fun hS'=>?_⟩
  clear hS;have hS:=hS';clear hS'
  refine aE rfl rfl (bJ rfl rfl rfl (bJ rfl rfl rfl (bB (cs:=[_,_,_,_,_,_]) hS zeroValue44 rfl rfl fun B5 W5 hS=>aU (i:=0) (vs:=[_,_,_,_,_,_]) (cs':=[_,_,_,_,_,_]) (O':=[_,_]) hS sizeOf44 rfl rfl rfl rfl rfl rfl rfl fun W6 hS=>aC rfl rfl (aN (XF.thenN (aJ ?_))))))
  have hRoot:=hS.below
  have hR6:=hRoot
  have ka:aB W6 B1 0 a.seven:=aB.own (j:=0) (m:=7) (hS.at_ 1 rfl) rfl
  have k9:aB W6 B5 0 f1.six:=aB.own (j:=0) (m:=6) (hS.at_ 0 rfl) rfl
  have hin6:=hin.below hRoot
  have hwa6:=hwa.below hRoot
  have ht6:=ht.below hRoot
  have hA6:eM a [fr] []=0→AutoOk W6 S py n a:=fun h=>(hAx h).below hRoot
  have hv1:=hv1.mono (M':=fun W2=>Below W6.heap.size W6 W2) (fun W2 hW=>(hS.since 0 rfl).trans (aK hW _))
  clear hS;have hS:=St.start W6
  refine aQ (aS (vs:=[_,_,_,_,_,_,_]) isAgg29 sizeOf29 rfl ((aB.agree hS.agree (Nat.zero_le _) ka)) rfl (aE rfl rfl (aE rfl rfl (aE rfl rfl (cL (vs:=[_,_,_,_]) hS goes_17 rfl (Kg ds d a S py n bk fr _ (hin6.below hS.below) wa wl wc ws (hwa6.below hS.below) hwl hwm (fun h=>(hA6 (wO h)).below hS.below)) rfl ?_)))))
  rintro e W7 ⟨f2,rfl,hv2,hb⟩
  refine ⟨_,rfl,hb,fun hS'=>?_⟩
  clear hS;have hS:=hS';clear hS'
  refine aE rfl rfl (bJ rfl rfl rfl (bJ rfl rfl rfl (bB (cs:=[_,_,_,_,_,_]) hS zeroValue44 rfl rfl fun B8 W8 hS=>aU (i:=0) (vs:=[_,_,_,_,_,_]) (cs':=[_,_,_,_,_,_]) (O':=[_]) hS sizeOf44 rfl rfl rfl rfl rfl rfl rfl fun W9 hS=>aC rfl rfl (aN (XF.thenN (aJ (aQ (aS (vs:=[_,_,_,_,_,_,_]) isAgg29 sizeOf29 rfl ((aB.agree hS.agree (Nat.zero_le _) ka)) rfl (aE rfl rfl (aE rfl rfl (cL (vs:=[_,_,_]) hS goes_18 rfl (Nf ds d a S py n bk fr _ (hin6.below hS.below) (fun h=>(hA6 h).below hS.below) (ht6.below hS.below)) rfl ?_)))))))))))
  rintro e W10 ⟨f3,rfl,hv3,hb⟩
  refine ⟨_,rfl,hb,fun hS'=>?_⟩
  clear hS;have hS:=hS';clear hS'
  refine aE rfl rfl (bJ rfl rfl rfl (bJ rfl rfl rfl (bB (cs:=[_,_,_,_,_,_]) hS zeroValue44 rfl rfl fun B11 W11 hS=>aU (i:=0) (vs:=[_,_,_,_,_,_]) (cs':=[_,_,_,_,_,_]) (O':=[_,_]) hS sizeOf44 rfl rfl rfl rfl rfl rfl rfl fun W12 hS=>aC rfl rfl (aN (XF.thenN (aJ ?_))))))
  have hRoot:=hS.below
  have hR8:=hRoot
  have ka:=aB.agree hS.agree (Nat.zero_le _) ka
  have k9:=aB.agree hS.agree (Nat.zero_le _) k9
  have k11:aB W12 B8 0 f2.six:=aB.own (j:=0) (m:=6) (hS.at_ 1 rfl) rfl
  have k13:aB W12 B11 0 f3.six:=aB.own (j:=0) (m:=6) (hS.at_ 0 rfl) rfl
  have hin8:=hin6.below hRoot
  have hA8:eM a [fr] []=0→AutoOk W12 S py n a:=fun h=>(hA6 h).below hRoot
  have hv1:=hv1.mono (M':=fun W2=>Below W12.heap.size W12 W2) (fun W2 hW=>hRoot.trans (hW.mono hRoot.size))
  have hv2:=hv2.mono (M':=fun W2=>Below W12.heap.size W12 W2) (fun W2 hW=>⟨hRoot.trans (hW.mono hRoot.size),(hS.since 1 rfl).trans (aK hW _)⟩)
  have hv3:=hv3.mono (M':=fun W2=>Below W12.heap.size W12 W2) (fun W2 hW=>(hS.since 0 rfl).trans (aK hW _))
  clear hS;have hS:=St.start W12
  refine aQ (aS (vs:=[_,_,_,_,_,_,_]) isAgg29 sizeOf29 rfl ((aB.agree hS.agree (Nat.zero_le _) ka)) rfl (aE rfl rfl (aE rfl rfl (cL (vs:=[_,_,_]) hS goes_19 rfl (Kh ds d a S py n bk fr _ (hin8.below hS.below) (fun h=>(hA8 h).below hS.below)) rfl ?_))))
  rintro e W13 ⟨f4,rfl,hv4,hb⟩
  refine ⟨_,rfl,hb,fun hS'=>?_⟩
  clear hS;have hS:=hS';clear hS'
  refine aE rfl rfl (bJ rfl rfl rfl (bJ rfl rfl rfl (bB (cs:=[_,_,_,_,_,_]) hS zeroValue44 rfl rfl fun B14 W14 hS=>aU (i:=0) (vs:=[_,_,_,_,_,_]) (cs':=[_,_,_,_,_,_]) (O':=[_]) hS sizeOf44 rfl rfl rfl rfl rfl rfl rfl fun W15 hS=>aC rfl rfl (aN (XF.thenN (aJ (aQ (aS (vs:=[_,_,_,_,_,_]) isAgg44 sizeOf44 rfl ((aB.agree hS.agree (Nat.zero_le _) k9)) rfl (aS (vs:=[_,_,_,_,_,_]) isAgg44 sizeOf44 rfl ((aB.agree hS.agree (Nat.zero_le _) k11)) rfl (cC (vs:=[_,_]) hS yT rfl (Pw hv1 hv2 (fun h=>hA8 (wO h)) hS.below hS.below) rfl fun W16 hS=>aE rfl rfl (aM (d:=56) rfl rfl (aE rfl rfl (aM (d:=56) rfl rfl (aE rfl rfl (aM (d:=56) rfl rfl (cG rfl rfl rfl (bV rfl rfl rfl (aE rfl rfl (cI (d:=61) rfl (fun hc=>?_) (fun hc=>absurd (of_decide_eq_false hc) (by simp)))))))))))))))))))))
  have hc:=of_decide_eq_true hc
  refine aM (d:=61) rfl rfl (aS (vs:=[_,_,_,_,_,_]) isAgg44 sizeOf44 rfl ((aB.agree hS.agree (Nat.zero_le _) k13)) rfl (aM (d:=61) rfl rfl (aS (vs:=[_,_,_,_,_,_]) isAgg44 sizeOf44 rfl (aB.own (j:=0) (m:=6) (hS.at_ 0 rfl) rfl) rfl (aM (d:=61) rfl rfl (cC (vs:=[_,_]) hS yT rfl (Pw hv3 hv4 hA8 hS.below ⟨hS.below,by first | exact hS.since 0 rfl | exact hS.since 1 rfl | exact hS.since 2 rfl⟩) rfl fun W17 hS=>bV rfl rfl rfl (aE rfl rfl (aM (d:=66) rfl rfl (aE rfl rfl (aM (d:=66) rfl rfl (aE rfl rfl (aM (d:=66) rfl rfl (cG rfl rfl rfl (bV rfl rfl rfl (aC rfl rfl (aN (XF.thenN (bX (XF.res (cQ results4 rfl) ?_))))))))))))))))))
  exact ⟨bT (by simp),(hR6.trans (hR8.mono hR6.size)).trans (hS.below.mono (Nat.le_trans hR6.size hR8.size))⟩
theorem Cj (n0:Nat) (a:AV) (bk:Bool) (fr:Int) (wa:Option Addr) (wl wc:Nat) (ws:List Int) (w:World) (hin:AIn w n0 n0 a) (_hfr:(Lit.int .i64 fr).wf=true) (hl:Row w wa ws∧ws.length=wl∧wl≤wc∧wl≤9223372036854775807) (ht:Tabs w):Calls prog 4 #[a.val,.bool bk,.int .i64 fr,.slice wa wl wc] w (fun e w'=>e = .returned (.bool (true))∧Below w.heap.size w w'):=yQ n0 n0 a bk fr w hin wa wl wc ws hl.1 hl.2.1 hl.2.2.2 ht
end Go.Proofs.YtmgnkpibpjgncaaGreatDoor
namespace Go.Proofs.YtmgnkpibpjgncaaGreatDoor
open Go.Proofs.Tryz
open Go.RowKit Go.ChangeShapes Go.WideShapes Go.Deep Go.Joins
theorem Sb {cs:List Value} (h:cs.length=9):∃ a b c d e f g i j,cs=[a,b,c,d,e,f,g,i,j]:=by
 match cs,h with
 | [a,b,c,d,e,f,g,i,j],_=>exact ⟨a,b,c,d,e,f,g,i,j,rfl⟩
theorem Ng {cs:List Value} (h:cs.length=7):∃ a b c d e f g,cs=[a,b,c,d,e,f,g]:=by
 match cs,h with
 | [a,b,c,d,e,f,g],_=>exact ⟨a,b,c,d,e,f,g,rfl⟩
section
variable {H:Type} {enc:TypeId×Value→H} {w:World} {base:Nat} {spare:Nat→Bool} {held:Bool}
theorem Xd {n:Nat} {cs:List Value} {x:DataW H×List MemPlace} (h:DataW.trod enc prog w base spare held n 66 cs=some x):∃ r:TV,cs=r.nine∧WIn w n r.x:=by
 obtain ⟨xs,n',hn,_,hl,hlen,hg⟩:=DataW.trod_struct underlying66 h
 rw [show prog.cellsOf 66=9 by kernel_rfl] at hl
 obtain ⟨a,b,c,e,f,g,i,j,k,rfl⟩:=Sb hl
 have hlen4:xs.length=4:=hlen
 have g0:=hg 0 _ rfl
 have g1:=hg 1 _ rfl
 have g2:=hg 2 _ rfl
 have g4:=hg 3 _ rfl
 rw [show prog.cellsOf _=1 by kernel_rfl,List.getElem?_eq_getElem (by omega)] at g0 g1 g2
 rw [show prog.cellsOf _=6 by kernel_rfl,List.getElem?_eq_getElem (by omega)] at g4
 obtain ⟨z0,e0,_,w0⟩:=DataW.trod_int (k:=.i64) (by kernel_rfl) g0
 obtain ⟨z1,e1,_,w1⟩:=DataW.trod_int (k:=.i64) (by kernel_rfl) g1
 obtain ⟨z2,e2,_,w2⟩:=DataW.trod_int (k:=.i64) (by kernel_rfl) g2
 simp at e0 e1 e2
 subst e0 e1 e2
 obtain ⟨s,e4,hs⟩:=Rm n' g4
 have e4':[e,f,g,i,j,k]=s.f.six:=by simpa using e4
 simp only [List.cons.injEq,and_true] at e4'
 obtain ⟨rfl,rfl,rfl,rfl,rfl,rfl⟩:=e4'
 exact ⟨⟨z0,z1,z2,s⟩,rfl,hs.more (by omega)⟩
theorem auto_in {n:Nat} {cs:List Value} {x:DataW H×List MemPlace} (h:DataW.trod enc prog w base spare held n 29 cs=some x):∃ p:AV,cs=p.seven∧AIn w n n p:=by
 obtain ⟨xs,n',hn,_,hl,hlen,hg⟩:=DataW.trod_struct underlying29 h
 rw [show prog.cellsOf 29=7 by kernel_rfl] at hl
 obtain ⟨a,b,c,d,e,f,g,rfl⟩:=Ng hl
 have hlen5:xs.length=5:=hlen
 have g0:=hg 0 _ rfl
 have g1:=hg 1 _ rfl
 have g2:=hg 2 _ rfl
 have g3:=hg 3 _ rfl
 have g4:=hg 4 _ rfl
 rw [show prog.cellsOf _=3 by kernel_rfl,List.getElem?_eq_getElem (by omega)] at g0
 rw [show prog.cellsOf _=1 by kernel_rfl,List.getElem?_eq_getElem (by omega)] at g1 g2 g3 g4
 obtain ⟨s,es,hs⟩:=V7 n' g0
 have es':[a,b,c]=[.int .i64 s.f.tag,.int .i64 s.f.dim,.slice s.f.a s.f.len s.f.cap]:=by simpa using es
 simp only [List.cons.injEq,and_true] at es'
 obtain ⟨rfl,rfl,rfl⟩:=es'
 obtain ⟨z1,e1,_,w1⟩:=DataW.trod_int (k:=.i64) (by kernel_rfl) g1
 obtain ⟨z2,e2,_,w2⟩:=DataW.trod_int (k:=.i64) (by kernel_rfl) g2
 simp at e1 e2
 subst e1 e2
 obtain ⟨fa,fl,fc,fs,rfl,hfrow,hfl,hfc,hfm⟩:=Ov (v:=f) g3
 have hfm9:fl≤9223372036854775807:=by simp only [maxLen] at hfm;omega
 rcases DataW.trod_slice underlying27 g4 with ⟨hcs,_⟩ | ⟨ad,len,cap,elems,rest,n2,hn2,hcs,_,hb,hle,hcap,hel,hi,_,_⟩
 ·simp at hcs
  subst hcs
  exact ⟨⟨s,z1,z2,fa,fl,fc,fs,none,0,0,[]⟩,rfl,⟨hs.more (by omega),hfrow,hfl,.inl rfl,rfl,(fun r hr=>by cases hr),hfm9,Nat.zero_le _⟩⟩
 ·simp at hcs
  subst hcs
  rw [show prog.cellsOf 66=9 by kernel_rfl] at hi
  obtain ⟨rs,hrl,hrs⟩:=sY len (fun i (r:TV)=>(∀ (j:Nat) u,r.nine[j]?=some u→w.cell? (ad.add (i * 9+j))=some u)∧WIn w n2 r.x) (fun i hil=>by
   have hii:=hi i hil
   rw [List.getElem?_eq_getElem (by omega)] at hii
   obtain ⟨cs',hc,ht⟩:=Option.bind_eq_some_iff.1 hii
   obtain ⟨_,hcl,hat⟩:=World.cells?_some hc
   obtain ⟨r,rfl,hr⟩:=Xd ht
   refine ⟨r,fun j u hj=>?_,hr⟩
   have hj9:j < 9:=(List.getElem?_eq_some_iff.1 hj).1
   have h0:=hat j (by omega)
   rw [Go.Deep.add_add] at h0
   rw [h0];exact hj)
  refine ⟨⟨s,z1,z2,fa,fl,fc,fs,some ad,len,cap,rs⟩,rfl,⟨hs.more (by omega),hfrow,hfl,?_,hrl,fun r hr=>?_,hfm9,by simp only [maxLen] at hcap hle;dsimp only;omega⟩⟩
  ·rcases Nat.eq_zero_or_pos len with h0 | h0
   ·exact .inl (List.length_eq_zero_iff.1 (by dsimp only;omega))
   ·obtain ⟨b,off,spot⟩:=ad
    have h1:=(hrs 0 (rs[0]'(by omega)) (List.getElem?_eq_getElem (by omega))).1 0 _ rfl
    have hspot:spot=none:=by simpa [Addr.add] using World.cell?_spot h1
    subst hspot
    refine .inr ⟨b,off,rfl,fun i r hir=>Bn _ _ fun j u hj=>?_⟩
    have h3:=(hrs i r hir).1 j u hj
    have e:∀ k,({ block:=b,off:=off }:Addr).add k=⟨b,off+k,none⟩:=fun k=>by simp [Addr.add]
    rw [e,← Nat.add_assoc] at h3
    exact h3
  ·obtain ⟨i,hi',hic⟩:=List.mem_iff_getElem.1 hr
   exact (hrs i r (by rw [← hic];exact List.getElem?_eq_getElem hi')).2.more (by omega)
theorem Sc {r:Reach} {b0:Nat} {v:Value} {d:DataW H} {p:List MemPlace} (hv:Value.okWide prog w r b0 29 v) (h:DataW.Trod enc prog w base spare held 29 v d p) :
  ∃ (n:Nat) (s:AV),v=s.val∧AIn w n n s:=by
 obtain ⟨cs,rfl,_⟩:=okWide_struct underlying29 hv
 obtain ⟨n,h⟩:=h
 obtain ⟨s,e,hs⟩:=auto_in (n:=n) h
 have e':cs.toList=_:=e
 exact ⟨n,s,by show Value.agg cs=Value.agg _;congr 1;exact Array.ext' e',hs⟩
end
end Go.Proofs.YtmgnkpibpjgncaaGreatDoor
