import Derived.Shelf.SlSortCmp.WholeK
import Derived.Shelf.SlGeneric
import Derived.Shelf.SlSortCmp.NoneTotal
import Derived.Ground.SlsfProg
import Derived.Test.YtbmieipifgailaaGreatDoorCkG
set_option maxRecDepth 100000
set_option maxHeartbeats 4000000
set_option linter.unusedVariables false
set_option linter.unusedSimpArgs false
set_option linter.unusedSectionVars false
set_option linter.unnecessarySimpa false
namespace Go.Proofs.YtbmieipifgailaaGreatDoor
open Go.Proofs.Tryz
open Go.RowKit
theorem goes_41:bJ prog 41=true:=by kernel_rfl
theorem goes_42:bJ prog 42=true:=by kernel_rfl
theorem goes_43:bJ prog 43=true:=by kernel_rfl
theorem goes_44:bJ prog 44=true:=by kernel_rfl
theorem goes_45:bJ prog 45=true:=by kernel_rfl
theorem goes_47:bJ prog 47=true:=by kernel_rfl
theorem Xb {S:PS} {n:Nat}:inC S (List.replicate n (bU S))=List.replicate n (Value.bool false):=by simp [inC,iC.2 rfl]
theorem Ey (ds d:Nat) (a:AV) (S:PS) (py:TV→PX) (n:Nat) (bk:Bool) (p:Nat) (w:World) (hin:AIn w ds d a) (hA:AutoOk w S py n a) (hp:p < n) (wa:Option Addr) (wl wc:Nat) (ws:List Int) (hwa:Row w wa ws) (hwl:ws.length=wl) (hwm:wl≤9223372036854775807) (hask:wG a [(p:Int)] ws=0) (ht:Tabs w) :
  Calls prog 18 #[a.val,.bool bk,.int .i64 (p:Int),.slice wa wl wc] w (fun e w'=>∃ (f:WF) (z:PX),e = .returned (.tuple #[f.val,.int .i64 0])∧gY w.heap.size w' S f z∧LubX S (M6 S bk (egsX kSym py a.ts) (a.fs.map Int.toNat) p ws) z∧Below w.heap.size w w'):=by
 refine cG (args:=[a.val,.bool bk,.int .i64 (p:Int),.slice wa wl wc]) func18 rfl ntmps18 rfl ?_;have hS:=St.start w;have hsy:=(Pu hask).2.2;have hsyy:=hA.sy;refine aO (aQ (bY (cs:=[_,_,_,_,_,_,_]) hS rfl rfl rfl fun B1 W1 hS=>bF (cs:=[_,_,_,_,_,_]) hS zeroValue46 rfl rfl fun B2 W2 hS=>aB rfl rfl (aP (XF.thenN (aO (aO (aQ (aT (vs:=[_,_,_,_,_,_,_]) isAgg29 sizeOf29 rfl (aC.own (j:=0) (m:=7) (hS.at_ 1 rfl) rfl) rfl (aH rfl rfl (cX (us:=[(0,.int .i64 _)]) hS underlying26 sizeOf3 zeroValue3 rfl rfl rfl (pY _) rfl fun B3 W3 hS=>cH (vs:=[_,_]) hS goes_41 rfl (Hb ds d a _ (hin.below hS.below) _ 1 1 [(p:Int)] (row1 (hS.at_ 0 rfl)) rfl (by decide)) rfl fun W4 hS=>aB rfl rfl (aP (XF.thenN (aO (aQ (aH rfl rfl (dG rfl rfl rfl (aP (XF.thenN (bB rfl (fun hc=>absurd (of_decide_eq_true hc) (by exact fun h=>h (Wo hask))) (fun hc=>?_))))))))))))))))))));have hc:=of_decide_eq_false hc;refine bP (XF.thenN (aO (aO (aQ (aH rfl rfl (cL underlying26 rfl rfl (aH rfl rfl (aP (XF.thenN (bX (eJ (fun m l W=>∃ i:Nat,i≤wl∧m=wl - i∧l=[(1,.bool bk),(2,.int .i64 (p:Int)),(3,.slice wa wl wc),(4,.pointer (some ⟨B1,0,none⟩)),(8,.pointer (some ⟨B2,0,none⟩)),(24,.slice wa wl wc),(25,.int .i64 (wl:Int)),(26,.int .i64 (i:Int))]∧St w [(B2,[.bool false,.int .i64 0,.int .u64 0,.slice none 0 0,.slice none 0 0,.slice none 0 0],46),(B1,a.seven,29)] [] [] W) (wl - 0) ([(1,_),(2,_),(3,_),(4,_),(8,_),(24,_),(25,_),(26,_)]) ⟨rfl,rfl,rfl,rfl,rfl,rfl,rfl,rfl,trivial⟩ (⟨0,Nat.zero_le _,rfl,rfl,hS.tail.clear⟩) ?_)))))))))));clear hS;rintro m l W ⟨i,hi,rfl,rfl,hS⟩;refine aO (aQ (cT rfl rfl rfl (aP (XF.thenN (aO (bB rfl (fun hc=>?_) (fun hc=>?_)))))))
 ·have hc27:=of_decide_eq_true hc;clear hc;have hk:i < wl:=by omega
  obtain ⟨b,off,y,rfl,hy,hyc⟩:=hwa.at1 (show i < ws.length by omega);have k1:=hS.old hyc;have hyq:=hsy y (List.mem_of_getElem? hy);simp only [inQ,Bool.and_eq_true,decide_eq_true_eq] at hyq;refine bP (XF.thenN (aO (bX (aO (aQ (cK  underlying26 sizeOf3 rfl rfl rfl (by omega) rfl rfl (aR isAgg3 rfl (k1) rfl (aB rfl rfl (aP (XF.thenN (aO (aQ (aH rfl rfl (cT rfl rfl rfl (aH rfl rfl (cB (d:=32) rfl (fun hc=>absurd (of_decide_eq_true hc) (by omega)) (fun hc=>?_)))))))))))))))));have hc:=of_decide_eq_false hc;refine aI (d:=32) rfl rfl (aH rfl rfl (aI (d:=32) rfl rfl (aN (o':=4) jJ rfl rfl rfl (aI (d:=32) rfl rfl (aR isAgg3 rfl (aK (hS.at_ 1 rfl) rfl) rfl (aI (d:=32) rfl rfl (tV rfl rfl rfl (bR rfl rfl rfl (aP (XF.thenN (bB rfl (fun hc=>absurd (of_decide_eq_true hc) (by omega)) (fun hc=>?_))))))))))));have hc:=of_decide_eq_false hc;refine bP (XF.blkN (XF.thenN (aQ (cY rfl rfl (IntWalk.i64_in _ (by omega)) rfl (aH rfl rfl (aP ?_))))));exact XF.round (wl - (i+1)) [(1,_),(2,_),(3,_),(4,_),(8,_),(24,_),(25,_),(26,_)] (by omega) ⟨rfl,rfl,rfl,rfl,rfl,rfl,rfl,rfl,trivial⟩ ⟨i+1,by omega,rfl,rfl,hS⟩
 ·have hc27:=of_decide_eq_false hc;clear hc;refine dT (XF.thenX (XF.thenX (XF.blkX (XF.thenN (aO (aQ (aT (vs:=[_,_,_,_,_,_,_]) isAgg29 sizeOf29 rfl (aC.own (j:=0) (m:=7) (hS.at_ 1 rfl) rfl) rfl (aH rfl rfl (fY (vs:=[_,_]) goes_42 rfl (G1 S a bk n _ _ w _ hS hA.si hA.ok hA.st hA.n4) rfl ?_)))))))));rintro e W9 ⟨RB,VA,IA,WA,VX,IX,WX,bm,f0,Kr,rfl,hKr,H0,hwb,hmap,hKb,hS9⟩;refine ⟨_,rfl,?_⟩;clear hS;have hS:=hS9.perm (perm71 _ _ _ _ _ _ _ _);clear hS9;refine aB rfl rfl (aP (XF.thenN (aO (aQ (aH rfl rfl (fY (vs:=[_]) goes_43 rfl (Wh S a f0 bk bm VA VX RB _ Kr w _ hS hmap hwb hKb hA.trow hA.tlen hA.tl hA.ky) rfl ?_))))));rintro e W10 ⟨lo,Kb,rfl,hKb2,hlo,hM,hS9⟩;refine ⟨_,rfl,?_⟩;clear hS;have hS:=(((hS9.newG 3 1).newG 3 1).castO (O':=(RB,rdC f0 a bk bm VA VX,109)::(VA,gZ (.slice none 0 0) n IA WA,116)::(IA,inC S (List.replicate n (bU S)),4)::(WA,wC (List.replicate n (⟨false,0,0,none,0,0,[],none,0,0,[],none,0,0⟩:WF)),46)::(VX,gZ (.slice none 0 0) n IX WX,116)::(IX,inC S (List.replicate n (bU S)),4)::(WX,wC (List.replicate n (⟨false,0,0,none,0,0,[],none,0,0,[],none,0,0⟩:WF)),46)::_) (by rw [Xb])).castG (G':=[⟨(.slice none 0 0),([]:List Nat).length,atC ([]:List Nat),3,1⟩,⟨(.slice none 0 0),([]:List Nat).length,atC ([]:List Nat),3,1⟩]) rfl;clear hS9
  replace H0:jC w Kb (fun W=>XIs W S f0 (bU S)):=H0.more hKb2
  refine aP (XF.thenN (aO (aQ (aH rfl rfl (aH rfl rfl (fY (vs:=[_,_]) goes_44 rfl (Ni S a f0 bk bm VA VX RB IA WA n _ (List.replicate n (⟨false,0,0,none,0,0,[],none,0,0,[],none,0,0⟩:WF)) p _ _ Kb w lo py kSym _ hS (VecOk.emptied (by simp)) hA.n4 hp hM hA.trow hA.tlen hA.tl hA.tt hA.px (hA.kf kSym (fun _=>rfl)) (J1 hA.ok) hA.si hA.ok ht H0) rfl ?_))))));rintro e W11 ⟨u9,l9,fs9,xs9,Kn9,rfl,hsub9,hV9,hE9,hC9,hS9⟩;refine ⟨_,rfl,?_⟩;clear hS;have hS:=hS9;clear hS9;have hF9:=J0 hA.ok (Na hA.py) (hA.eb kSym (fun _=>rfl)) hp hE9 hV9.ok hC9;refine aP (XF.thenN (aO (aO (aQ (aH rfl rfl (cL underlying26 rfl rfl (aH rfl rfl (aP (XF.thenN (bX (eJ (fun m lf W=>∃ (i VA VX IA WA IX WX:Nat) (va vx:Value) (fs fx:List WF) (xs xx:List PX) (l lx:List Nat) (Kk:List (Nat×World)),i≤wl∧m=wl - i∧lf=[(8,.pointer (some ⟨B2,0,none⟩)),(13,.pointer (some ⟨RB,0,none⟩)),(48,.slice wa wl wc),(49,.int .i64 (wl:Int)),(50,.int .i64 (i:Int))]∧(∀ q∈Kb,q∈Kk)∧VecOk S w Kk n fs xs l∧VecOk S w Kk n fx xx lx∧Full S bk (egsX kSym py a.ts) p (ws.take i) xs∧St w ((RB,rdC f0 a bk bm VA VX,109)::(VA,gZ va n IA WA,116)::(IA,inC S xs,4)::(WA,wC fs,46)::(VX,gZ vx n IX WX,116)::(IX,inC S xx,4)::(WX,wC fx,46)::[(B2,[.bool false,.int .i64 0,.int .u64 0,.slice none 0 0,.slice none 0 0,.slice none 0 0],46),(B1,a.seven,29)]) [⟨va,l.length,atC l,3,1⟩,⟨vx,lx.length,atC lx,3,1⟩] Kk W) (wl - 0) ([(8,_),(13,_),(48,_),(49,_),(50,_)]) ⟨rfl,rfl,rfl,rfl,rfl,trivial⟩ (⟨0,VA,VX,IA,WA,IX,WX,u9,_,fs9,(List.replicate n (⟨false,0,0,none,0,0,[],none,0,0,[],none,0,0⟩:WF)),xs9,(List.replicate n (bU S)),l9,[],Kn9,Nat.zero_le _,rfl,rfl,hsub9,hV9,VecOk.emptied (by simp),hF9,hS⟩) ?_)))))))))));clear hS;clear hV9 hE9 hC9 hF9 hsub9;rintro m lf W ⟨i,VA,VX,IA,WA,IX,WX,va,vx,fs,fx,xs,xx,l,lx,Kk,hi,rfl,rfl,hKk,hVA,hVX,hF,hS⟩;refine aO (aQ (cT rfl rfl rfl (aP (XF.thenN (aO (bB rfl (fun hc=>?_) (fun hc=>?_)))))))
  ·have hc51:=of_decide_eq_true hc;clear hc;have hk:i < wl:=by omega
   obtain ⟨b,off,y,rfl,hy,hyc⟩:=hwa.at1 (show i < ws.length by omega);have k1:=hS.old hyc;have hyq:=hsy y (List.mem_of_getElem? hy);simp only [inQ,Bool.and_eq_true,decide_eq_true_eq] at hyq;refine bP (XF.thenN (aO (bX (aO (aQ (cK  underlying26 sizeOf3 rfl rfl rfl (by omega) rfl rfl (aR isAgg3 rfl (k1) rfl (aB rfl rfl (aP (XF.thenN (aO (aQ (aH rfl rfl (aH rfl rfl ?_))))))))))))));have hS1:=(hS.perm (perm33 _ _ _ _ _ _ _ _)).permG (List.Perm.swap _ _ _);refine fY (vs:=[_,_]) goes_45 rfl (Ss S a f0 bk bm VA VX RB IA WA IX WX n vx va fx fs xx xs lx l _ _ Kk w lo py y _ hS1 hVX hVA hA.n4 (hM.more hKk) hA.trow hA.tlen hA.tl hA.tt hA.px (by omega) hA.si hA.ok ht (H0.more hKk)) rfl ?_;rintro e W12 ⟨u9,v9,l9,fs9,Kn9,rfl,hsub9,hV9,hS9⟩;refine ⟨_,rfl,?_⟩;clear hS hS1;have hS:=hS9;clear hS9;refine aP (XF.thenN (aQ (aH rfl rfl (fY (vs:=[_]) P6 rfl (yE S a f0 bk bm VX VA RB IX WX n u9 fs9 (kX S bk py a.ts xs y l (List.replicate n (bU S))) l9 _ _ Kn9 w lo py kSym _ hS hV9 hA.n4 (hM.more (fun q hq=>hsub9 q (hKk q hq))) hA.trow hA.tlen hA.tl hA.tt hA.px (hA.kf kSym (fun _=>rfl)) (J1 hA.ok) hA.si hA.ok ht (H0.more (fun q hq=>hsub9 q (hKk q hq)))) rfl ?_))));rintro e W13 ⟨u7,l7,fs7,xs7,Kn7,rfl,hsub7,hV7,hE7,hC7,hS7⟩;refine ⟨_,rfl,?_⟩;clear hS;have hS:=hS7;clear hS7;have hF7:=Nb hA.ok hA.py hA.inN hF hVA.ok hVA.xl hVA.ats (show y ≠ -1 by omega) hE7 hV7.ok hC7;refine aP (XF.blkN (XF.thenN (aQ (cY rfl rfl (IntWalk.i64_in _ (by omega)) rfl (aH rfl rfl (aP ?_))))));exact XF.round (wl - (i+1)) [(8,_),(13,_),(48,_),(49,_),(50,_)] (by omega) ⟨rfl,rfl,rfl,rfl,rfl,trivial⟩ ⟨i+1,VX,VA,IX,WX,IA,WA,u7,v9,fs7,fs,xs7,xs,l7,l,Kn7,by omega,rfl,rfl,(fun q hq=>hsub7 q (hsub9 q (hKk q hq))),hV7,hVA.more (fun q hq=>hsub7 q (hsub9 q hq)),(by rw [List.take_add_one,hy];exact hF7),hS⟩
  ·have hc51:=of_decide_eq_false hc;clear hc;rw [List.take_of_length_le (by omega)] at hF;refine dT (XF.thenX (XF.thenX (XF.blkX (XF.thenN (aO (aQ (aH rfl rfl ?_)))))));have hszE:=hS.below.size;refine cS (vs:=[_]) hS goes_47 rfl (Wi S a f0 bk bm VA VX RB IA WA n va fs xs _ (hS.at_ 0 rfl) (hS.at_ 1 rfl) (hS.at_ 2 rfl) (hS.at_ 3 rfl) hVA.fl hVA.xl (fun i f x h1 h2 h3=>(hVA.held i f x h1 h2 h3) hS (fun q hq=>hq)) hVA.ok hA.n4 (hA.frow.below hS.below) hA.flen hA.fmax hA.fq (hA.si.below hS.below) hA.ok (ht.below hS.below)) rfl ?_;rintro e W5 ⟨f9,rfl,hn9,hb⟩;refine ⟨_,rfl,hb,?_⟩;clear hS;intro hS;refine aU (i:=7) (vs:=[_,_,_,_,_,_]) (cs':=[_,_,_,_,_,_]) (O':=[_,_,_,_,_,_,_,_,_]) hS sizeOf46 rfl rfl rfl rfl rfl rfl rfl fun W6 hS=>aB rfl rfl (aP (XF.thenN (bL (XF.res (rB (vs:=[_,_,_,_,_,_]) results18 isAgg46 sizeOf46 rfl (aC.own (j:=0) (m:=6) (hS.at_ 7 rfl) rfl) rfl) ?_))))
   have hlub:=end_lub hA.ok (Na hA.py) hF hVA.ok a.fs (fun s hs=>by obtain ⟨i9,h1,h2⟩:=lN (hA.fq s hs);rw [h1,Int.toNat_natCast,hVA.xl];exact h2);exact ⟨f9,_,rfl,(hn9.agree (hS.since 0 rfl)).mono hszE,hlub,hS.below⟩
abbrev S9:PS:=.one 2 9
abbrev exE:List Eg:=[⟨0,0,1,.one (pC 3)⟩,⟨0,-1,0,.one (pC 1)⟩,⟨0,0,1,.one (pC 5)⟩]
theorem mK:S9.ok:=by show bV 2 9 0=true;decide
theorem Kf {c:Int} (h0:0≤c) (h1:c≤9):OkX S9 (.one (pC c)):=OkP.cost c rfl h0 h1
theorem Nj:∀ e∈exE,OkX S9 e.y:=fun e he=>by
 simp only [List.mem_cons,List.not_mem_nil,or_false] at he;rcases he with rfl | rfl | rfl
 ·exact Kf (by decide) (by decide)
 ·exact Kf (by decide) (by decide)
 ·exact Kf (by decide) (by decide)
theorem Kg {x:PX} (hx:OkX S9 x):LeX S9 x (oW S9):=by
 cases x with
 | two a b=>exact hx.elim
 | one a =>
  rcases iN hx with rfl | ⟨c,rfl,h0,h1⟩
  ·exact wI (pS mK)
  ·show PX.one (dM 2 9 (pC 0) (pC c))=PX.one (pC 0);rw [mG,Int.min_eq_left h0]
theorem ex_lub {z:PX} (h:LubX S9 (M6 S9 false exE [1] 0 [0]) z):z = .one (pC 3):=by
 have hA:=M7 (b:=false) (F:=[1]) (p:=0) (u:=[0]) mK Nj;have h3:OkX S9 (.one (pC 3)):=Kf (by decide) (by decide);refine h.uniq mK hA ⟨Fs.one ?_ h3,?_⟩
 ·refine ⟨1,by simp,?_⟩;have h9:=Pth.sym (S:=S9) (b:=false) (E:=exE) (p:=0) (e:=⟨0,0,1,.one (pC 3)⟩) .nil (by simp) rfl (by decide);rw [show iJ S9 false (oW S9) (PX.one (pC 3))=PX.one (pC 3) from oneD mK h3] at h9;exact h9
 ·rintro x ⟨q,_,hp⟩;have key:∀ {u q x},Pth S9 false exE 0 u q x→(u=[]→q=0)∧(u=[0]→q=1∧LeX S9 x (.one (pC 3))):=by
   intro u q x hp
   induction hp with
   | nil=>exact ⟨fun _=>rfl,fun h=>by cases h⟩
   | @eps u q x e h0 he hf hg ih =>
    simp only [List.mem_cons,List.not_mem_nil,or_false] at he;rcases he with rfl | rfl | rfl
    ·exact absurd hg (by decide)
    ·refine ⟨fun _=>rfl,fun hu=>?_⟩;have h1:=(ih.2 hu).1;rw [← hf] at h1;exact absurd h1 (by decide)
    ·exact absurd hg (by decide)
   | @sym u q x e h0 he hf hg ih =>
    refine ⟨fun h=>by simp at h,fun hu=>?_⟩;have hxo:=h0.ok mK Nj;have h1:OkX S9 (PX.one (pC 3)):=h3;simp only [List.mem_cons,List.not_mem_nil,or_false] at he;rcases he with rfl | rfl | rfl
    ·refine ⟨rfl,?_⟩;have h9:=qG (b:=false) mK hxo (pS mK) h3 (Kg hxo);rw [oneD mK h3] at h9;exact h9
    ·exact absurd rfl hg
    ·refine ⟨rfl,?_⟩;have h5:OkX S9 (PX.one (pC 5)):=Kf (by decide) (by decide);have h9:=qG (b:=false) mK hxo (pS mK) h5 (Kg hxo);rw [oneD mK h5] at h9;refine gN mK (iI mK hxo h5) h5 h3 h9 ?_;show PX.one (dM 2 9 (pC 3) (pC 5))=PX.one (pC 3);rw [mG];rfl
  exact ((key hp).2 rfl).2
theorem ex_none {z:PX} (h:LubX S9 (M6 S9 false exE [1] 1 [0]) z):z=bU S9:=by
 have hA:=M7 (b:=false) (F:=[1]) (p:=1) (u:=[0]) mK Nj;refine h.uniq mK hA (LubX.none ?_);rintro x ⟨q,_,hp⟩;have key:∀ {u q x},Pth S9 false exE 1 u q x→u=[]∧q=1:=by
  intro u q x hp
  induction hp with
  | nil=>exact ⟨rfl,rfl⟩
  | @eps u q x e h0 he hf hg ih =>
   have h1:=ih.2;rw [← hf] at h1;simp only [List.mem_cons,List.not_mem_nil,or_false] at he;rcases he with rfl | rfl | rfl<;>exact absurd h1 (by decide)
  | @sym u q x e h0 he hf hg ih =>
   have h1:=ih.2;rw [← hf] at h1;simp only [List.mem_cons,List.not_mem_nil,or_false] at he;rcases he with rfl | rfl | rfl<;>exact absurd h1 (by decide)
 exact absurd (key hp).1 (by simp)
theorem xO (v00:Value) (v01:Value) (v02:Value) (v1:Int) (v2:Int) (v3a:Option Addr) (v3l:Nat) (v3c:Nat) (v4a:Option Addr) (v4l:Nat) (v4c:Nat):prog.built 29 [(0,.agg #[v00,v01,v02]),(1,.int .i64 v1),(2,.int .i64 v2),(3,.slice v3a v3l v3c),(4,.slice v4a v4l v4c)]=some #[v00,v01,v02,.int .i64 v1,.int .i64 v2,.slice v3a v3l v3c,.slice v4a v4l v4c]:=by kernel_rfl
theorem wN (v1:Int) (v2:Int) (v30:Value) (v31:Value) (v32:Value) (v33:Value) (v34:Value) (v35:Value):prog.built 48 [(1,.int .i64 v1),(2,.int .i64 v2),(3,.agg #[v30,v31,v32,v33,v34,v35])]=some #[.int .i64 0,.int .i64 v1,.int .i64 v2,v30,v31,v32,v33,v34,v35]:=by kernel_rfl
theorem Nk (v1:Int) (v30:Value) (v31:Value) (v32:Value) (v33:Value) (v34:Value) (v35:Value):prog.built 48 [(1,.int .i64 v1),(3,.agg #[v30,v31,v32,v33,v34,v35])]=some #[.int .i64 0,.int .i64 v1,.int .i64 0,v30,v31,v32,v33,v34,v35]:=by kernel_rfl
theorem bs_27_3 (v00:Value) (v01:Value) (v02:Value) (v03:Value) (v04:Value) (v05:Value) (v06:Value) (v07:Value) (v08:Value) (v10:Value) (v11:Value) (v12:Value) (v13:Value) (v14:Value) (v15:Value) (v16:Value) (v17:Value) (v18:Value) (v20:Value) (v21:Value) (v22:Value) (v23:Value) (v24:Value) (v25:Value) (v26:Value) (v27:Value) (v28:Value):Instr.fill (fun i=>some (i * 9,9)) ((Array.range (3 * 9)).map ((Value.cells (.agg #[.int .i64 0,.int .i64 0,.int .i64 0,.bool false,.int .i64 0,.int .u64 0,.slice none 0 0,.slice none 0 0,.slice none 0 0]))[· % (Value.cells (.agg #[.int .i64 0,.int .i64 0,.int .i64 0,.bool false,.int .i64 0,.int .u64 0,.slice none 0 0,.slice none 0 0,.slice none 0 0])).size]!)) [(0,.agg #[v00,v01,v02,v03,v04,v05,v06,v07,v08]),(1,.agg #[v10,v11,v12,v13,v14,v15,v16,v17,v18]),(2,.agg #[v20,v21,v22,v23,v24,v25,v26,v27,v28])]=some (List.toArray [v00,v01,v02,v03,v04,v05,v06,v07,v08,v10,v11,v12,v13,v14,v15,v16,v17,v18,v20,v21,v22,v23,v24,v25,v26,v27,v28]):=by kernel_rfl
def wC9 (c:Int):WV:=.mk ⟨false,c,0,none,0,0,[],none,0,0,[],none,0,0⟩ []
abbrev exA (b1 b2:Nat):AV:=⟨.mk ⟨2,9,none,0,0⟩ [],2,1,some ⟨b1,0,none⟩,1,1,[1],some ⟨b2,0,none⟩,3,3,[⟨0,0,1,wC9 3⟩,⟨0,-1,0,wC9 1⟩,⟨0,0,1,wC9 5⟩]⟩
def pyC (t:TV):PX:=.one t.x.f.pf
theorem Xc (w:World) (c:Int):WIn w 1 (wC9 c):=⟨⟨.inl rfl,rfl,by show 0 < 18446744073709551616;decide,(fun r hr=>by cases hr),.inl rfl,rfl,(fun c hc=>by cases hc),Nat.zero_le _⟩,rfl,.inl rfl,fun p hp=>by cases hp⟩
theorem Xd {w:World} {c:Int} (h0:0≤c) (h1:c≤9):XIs w S9 (wC9 c).f (.one (wC9 c).f.pf):=PIs.of (t:=2) (n:=9) (by decide) (Xc w c).1 (by simp [fO,wC9,WV.f,iS,iR,h0,h1])
theorem exA_in {w:World} {b1 b2:Nat} {T1 T2:TypeId} (h1:w.heap[b1]?=some (.cells (List.toArray [.int .i64 1]) T1 (0,0)))
  (h2:w.heap[b2]?=some (.cells (List.toArray ((⟨0,0,1,wC9 3⟩:TV).nine++(⟨0,-1,0,wC9 1⟩:TV).nine++(⟨0,0,1,wC9 5⟩:TV).nine)) T2 (0,0))):AIn w 1 1 (exA b1 b2):=by
 refine ⟨⟨rfl,.inl rfl,fun p hp=>by cases hp⟩,row1 h1,rfl,.inr ⟨b2,0,rfl,fun i r hi=>?_⟩,rfl,fun r hr=>?_,by show 1≤9223372036854775807;decide,by show 3≤9223372036854775807;decide⟩
 ·match i,hi with
  | 0,hi=>cases hi;exact aC.own (j:=0) (m:=9) h2 rfl
  | 1,hi=>cases hi;exact aC.own (j:=9) (m:=9) h2 rfl
  | 2,hi=>cases hi;exact aC.own (j:=18) (m:=9) h2 rfl
  | i+3,hi=>exact absurd hi (by simp)
 ·simp only [List.mem_cons,List.not_mem_nil,or_false] at hr;rcases hr with rfl | rfl | rfl<;>exact Xc w _
theorem Xe {w:World} {b1 b2:Nat} (h:AIn w 1 1 (exA b1 b2)):AutoOk w S9 pyC 2 (exA b1 b2):=by
 refine ⟨mK,⟨none,0,rfl⟩,rfl,by decide,h.frow,h.flen,h.fmax,h.trow,h.tlen,by show 3≤65536;decide,?_,?_,?_,?_,by show (0:Int)≤1∧(1:Int)≤4096;decide,?_⟩
 ·intro s hs;simp at hs;subst hs;decide
 ·intro t ht;simp only [List.mem_cons,List.not_mem_nil,or_false] at ht;rcases ht with rfl | rfl | rfl<;>decide
 ·intro t ht;simp only [List.mem_cons,List.not_mem_nil,or_false] at ht;rcases ht with rfl | rfl | rfl<;>decide
 ·intro t ht;show -1≤t.g∧t.g < 1;simp only [List.mem_cons,List.not_mem_nil,or_false] at ht;rcases ht with rfl | rfl | rfl<;>(dsimp only;omega)
 ·intro t ht;simp only [List.mem_cons,List.not_mem_nil,or_false] at ht;rcases ht with rfl | rfl | rfl
  ·exact Xd (by decide) (by decide)
  ·exact Xd (by decide) (by decide)
  ·exact Xd (by decide) (by decide)
theorem exA_E {b1 b2:Nat}:dJ (exA b1 b2)=0:=by
 have e1:dR (exA b1 b2).s=0:=by show dR (.mk ⟨2,9,none,0,0⟩ [])=0;decide
 have e2:dE (exA b1 b2).st (exA b1 b2).sy (exA b1 b2).fs (exA b1 b2).ts=true:=by show dE 2 1 [1] [⟨0,0,1,wC9 3⟩,⟨0,-1,0,wC9 1⟩,⟨0,0,1,wC9 5⟩]=true;decide
 have e3:∀ c:Int,c=3∨c=1∨c=5→lY (exA b1 b2).s (wC9 c)=0:=fun c hc=>by rcases hc with rfl | rfl | rfl<;>(show lY (.mk ⟨2,9,none,0,0⟩ []) _=0;decide)
 unfold dJ;rw [if_neg (fun h=>h e1),if_neg (by show ¬ 65536 < 3;decide),if_neg (by rw [e2];decide),if_pos];refine List.all_eq_true.2 fun t ht=>decide_eq_true ?_
 simp only [List.mem_cons,List.not_mem_nil,or_false] at ht;rcases ht with rfl | rfl | rfl
 ·exact e3 3 (.inl rfl)
 ·exact e3 1 (.inr (.inl rfl))
 ·exact e3 5 (.inr (.inr rfl))
theorem P7 {b1 b2:Nat} (p:Int) (hp:p=0∨p=1):wG (exA b1 b2) [p] [0]=0:=askE_of exA_E (fun y hy=>by simp at hy;subst hy;show inQ y 2=true;rcases hp with rfl | rfl<;>decide) (fun y hy=>by simp at hy;subst hy;show inQ 0 1=true;decide)
theorem yF (w:World) :
  Calls prog 19 #[] w (fun e w'=>∃ b1 b2,e = .returned (exA b1 b2).val∧(∀ w2,dD w.heap.size w' w2→AIn w2 1 1 (exA b1 b2))∧Below w.heap.size w w'):=by
 refine cG (args:=[]) func19 rfl ntmps19 rfl ?_;have hS:=St.start w;refine aO (aQ (bF (cs:=[_,_,_,_,_,_,_]) hS zeroValue29 rfl rfl fun B1 W1 hS=>aP (XF.thenN (aO (aQ (dY (us:=[(0,.int .i64 _),(1,.int .i64 _)]) rfl (Ll _ _) rfl (cX (us:=[(0,.int .i64 _)]) hS underlying26 sizeOf3 zeroValue3 rfl rfl rfl (pY _) rfl fun B2 W2 hS=>dY (us:=[(1,.int .i64 _)]) rfl (Ad _) rfl (dY (us:=[(1,.int .i64 _),(2,.int .i64 _),(3,.agg (List.toArray [_,_,_,_,_,_]))]) rfl (wN _ _ _ _ _ _ _ _) rfl (dY (us:=[(1,.int .i64 _)]) rfl (Ad _) rfl (dY (us:=[(1,.int .i64 _),(3,.agg (List.toArray [_,_,_,_,_,_]))]) rfl (Nk _ _ _ _ _ _ _) rfl (dY (us:=[(1,.int .i64 _)]) rfl (Ad _) rfl (dY (us:=[(1,.int .i64 _),(2,.int .i64 _),(3,.agg (List.toArray [_,_,_,_,_,_]))]) rfl (wN _ _ _ _ _ _ _ _) rfl (cX (us:=[(0,.agg (List.toArray [_,_,_,_,_,_,_,_,_])),(1,.agg (List.toArray [_,_,_,_,_,_,_,_,_])),(2,.agg (List.toArray [_,_,_,_,_,_,_,_,_]))]) hS underlying27 sizeOf48 zeroValue48 rfl rfl rfl (bs_27_3 _ _ _ _ _ _ _ _ _ _ _ _ _ _ _ _ _ _ _ _ _ _ _ _ _ _ _) rfl fun B3 W3 hS=>dY (us:=[(0,.agg (List.toArray [_,_,_])),(1,.int .i64 _),(2,.int .i64 _),(3,.slice _ _ _),(4,.slice _ _ _)]) rfl (xO _ _ _ _ _ _ _ _ _ _ _) rfl (aU (i:=2) (vs:=[_,_,_,_,_,_,_]) (cs':=[_,_,_,_,_,_,_]) (O':=[_,_,_]) hS sizeOf29 rfl rfl rfl rfl rfl rfl rfl fun W4 hS=>aP (XF.thenN (bL (XF.res (eE (vs:=[_,_,_,_,_,_,_]) results19 isAgg29 sizeOf29 rfl (aC.own (j:=0) (m:=7) (hS.at_ 2 rfl) rfl)) ?_)))))))))))))))));exact ⟨B2,B3,rfl,fun w2 hg=>exA_in ((hg.2 _ (hS.ge 1 rfl) (cA (hS.at_ 1 rfl))).trans (hS.at_ 1 rfl)) ((hg.2 _ (hS.ge 0 rfl) (cA (hS.at_ 0 rfl))).trans (hS.at_ 0 rfl)),hS.below⟩
theorem S4 (a:AV) (wa:Option Addr) (wl wc:Nat) (w:World) :
  Calls prog 7 #[a.val,.slice wa wl wc] w (fun e w'=>∃ b:Bool,e = .returned (.bool b)∧(b=true→(a.tl:Int)≤300∧a.st≤300∧(wl:Int)≤40)∧Below w.heap.size w w'):=by
 refine cG (args:=[a.val,.slice wa wl wc]) func7 rfl ntmps7 rfl ?_;have hS:=St.start w;refine aO (aQ (bY (cs:=[_,_,_,_,_,_,_]) hS rfl rfl rfl fun B1 W1 hS=>aB rfl rfl (aP (XF.thenN (aO (aQ (aN (o':=6) dB rfl rfl rfl (aR isAgg27 rfl (aK (hS.at_ 0 rfl) rfl) rfl (cL underlying27 rfl rfl (wU rfl rfl rfl (aH rfl rfl (cB (d:=9) rfl (fun hc=>?_) (fun hc=>?_)))))))))))))
 ·have hg9:=of_decide_eq_true hc;clear hc;refine aI (d:=9) rfl rfl (aN (o':=3) iH rfl rfl rfl (aI (d:=9) rfl rfl (aR isAgg3 rfl (aK (hS.at_ 0 rfl) rfl) rfl (aI (d:=9) rfl rfl (wU rfl rfl rfl (bC rfl rfl rfl (aH rfl rfl (cB (d:=14) rfl (fun hc=>?_) (fun hc=>?_)))))))))
  ·have hg14:=of_decide_eq_true hc;clear hc;refine aI (d:=14) rfl rfl (aH rfl rfl (aI (d:=14) rfl rfl (cL underlying26 rfl rfl (aI (d:=14) rfl rfl (wU rfl rfl rfl (bC rfl rfl rfl (aB rfl rfl (aP (XF.thenN (bL (XF.res (cI results7 rfl) ?_)))))))))));exact ⟨_,rfl,fun h=>⟨hg9,hg14,of_decide_eq_true h⟩,hS.below⟩
  ·have hg14:=of_decide_eq_false hc;clear hc;refine aD (d:=14) rfl rfl rfl rfl (aD (d:=14) rfl rfl rfl rfl (aD (d:=14) rfl rfl rfl rfl (bR rfl rfl rfl (aB rfl rfl (aP (XF.thenN (bL (XF.res (cI results7 rfl) ?_))))))));exact ⟨false,rfl,fun h=>by (cases h),hS.below⟩
 ·have hg9:=of_decide_eq_false hc;clear hc;refine aD (d:=9) rfl rfl rfl rfl (aD (d:=9) rfl rfl rfl rfl (aD (d:=9) rfl rfl rfl rfl (bR rfl rfl rfl (aH rfl rfl (aD (d:=14) rfl rfl rfl rfl (aD (d:=14) rfl rfl rfl rfl (aD (d:=14) rfl rfl rfl rfl (bR rfl rfl rfl (aB rfl rfl (aP (XF.thenN (bL (XF.res (cI results7 rfl) ?_)))))))))))));exact ⟨false,rfl,fun h=>by (cases h),hS.below⟩
theorem P8:bJ prog 18=true:=by kernel_rfl
theorem P9:bJ prog 19=true:=by kernel_rfl
theorem S5 (w:World) (ht:Tabs w) :
  Calls prog 6 #[] w (fun e w'=>e = .returned (.bool (true))∧Below w.heap.size w w'):=by
 refine cG (args:=[]) func6 rfl ntmps6 rfl ?_;have hS:=St.start w;refine aO (aQ (aB rfl rfl (aP (XF.thenN (aO (aQ (cS (vs:=[]) hS P9 rfl (yF _) rfl ?_)))))));rintro e W1 ⟨b1,b2,rfl,hex,hb⟩;refine ⟨_,rfl,hb,?_⟩;clear hS;intro hS;refine cX (us:=[(0,.int .i64 _)]) hS underlying26 sizeOf3 zeroValue3 rfl rfl rfl (pY _) rfl fun B2 W2 hS=>?_
 have hx0:=hex _ (hS.since 0 rfl);refine cS (vs:=[_,_,_,_]) hS P8 rfl (Ey 1 1 (exA b1 b2) S9 pyC 2 false 0 _ hx0 (Xe hx0) (by decide) _ 1 1 [0] (row1 (hS.at_ 0 rfl)) rfl (by decide) (P7 _ (.inl rfl)) (ht.below hS.below)) rfl ?_;rintro e W3 ⟨f1,z1,rfl,hn1,hl1,hb⟩;refine ⟨_,rfl,hb,?_⟩;clear hS;intro hS;have hz1:z1 = .one (pC 3):=ex_lub hl1;subst hz1;have hc1:f1.c=3:=(mH hn1.is.pf).2.1;have hz1:f1.z=false:=(mH hn1.is.pf).1;refine aH rfl rfl (bZ rfl rfl rfl (bZ rfl rfl rfl (bF (cs:=[_,_,_,_,_,_]) hS zeroValue46 rfl rfl fun B4 W4 hS=>aU (i:=0) (vs:=[_,_,_,_,_,_]) (cs':=[_,_,_,_,_,_]) (O':=[_,_]) hS sizeOf46 rfl rfl rfl rfl rfl rfl rfl fun W5 hS=>aB rfl rfl (aP (XF.thenN (aO (aQ (cS (vs:=[]) hS P9 rfl (yF _) rfl ?_))))))));rintro e W6 ⟨b3,b4,rfl,hex2,hb⟩;refine ⟨_,rfl,hb,?_⟩;clear hS;intro hS;refine cX (us:=[(0,.int .i64 _)]) hS underlying26 sizeOf3 zeroValue3 rfl rfl rfl (pY _) rfl fun B7 W7 hS=>?_
 have hx1:=hex2 _ (hS.since 0 rfl);refine cS (vs:=[_,_,_,_]) hS P8 rfl (Ey 1 1 (exA b3 b4) S9 pyC 2 false 1 _ hx1 (Xe hx1) (by decide) _ 1 1 [0] (row1 (hS.at_ 0 rfl)) rfl (by decide) (P7 _ (.inr rfl)) (ht.below hS.below)) rfl ?_;rintro e W8 ⟨f2,z2,rfl,hn2,hl2,hb⟩;refine ⟨_,rfl,hb,?_⟩;clear hS;intro hS;have hz2:z2=bU S9:=ex_none hl2;subst hz2;have hz2:f2.z=true:=(mH hn2.is.pf).1;refine aH rfl rfl (bZ rfl rfl rfl (bZ rfl rfl rfl (bF (cs:=[_,_,_,_,_,_]) hS zeroValue46 rfl rfl fun B9 W9 hS=>aU (i:=0) (vs:=[_,_,_,_,_,_]) (cs':=[_,_,_,_,_,_]) (O':=[_,_,_,_]) hS sizeOf46 rfl rfl rfl rfl rfl rfl rfl fun W10 hS=>aB rfl rfl (aP (XF.thenN (aO (aQ (aH rfl rfl (cR rfl rfl rfl (aH rfl rfl (cB (d:=19) rfl (fun hc=>?_) (fun hc=>absurd (of_decide_eq_false hc) (by simp)))))))))))));have hc:=of_decide_eq_true hc;refine aI (d:=19) rfl rfl (aH rfl rfl (aI (d:=19) rfl rfl (cR rfl rfl rfl (bC rfl rfl rfl (aH rfl rfl (cB (d:=23) rfl (fun hc=>?_) (fun hc=>absurd (of_decide_eq_false hc) (by simp))))))));have hc:=of_decide_eq_true hc;refine aI (d:=23) rfl rfl (aN (o':=1) fQ rfl rfl rfl (aI (d:=23) rfl rfl (aR isAgg3 rfl (aK (hS.at_ 2 rfl) rfl) rfl (aI (d:=23) rfl rfl (cR rfl rfl rfl (bC rfl rfl rfl (aH rfl rfl (cB (d:=28) rfl (fun hc=>?_) (fun hc=>absurd (of_decide_eq_false hc) (by exact fun h=>h hc1))))))))));have hc:=of_decide_eq_true hc;refine aI (d:=28) rfl rfl (aN (o':=0) eF rfl rfl rfl (aI (d:=28) rfl rfl (aR isAgg4 rfl (aK (hS.at_ 2 rfl) rfl) rfl (aI (d:=28) rfl rfl (fB rfl rfl (bC rfl rfl rfl (aH rfl rfl ?_)))))));refine cB (d:=33) rfl (fun hc=>?_) (fun hc=>absurd hc (by rw [hz1];decide));skip;refine aI (d:=33) rfl rfl (aN (o':=0) eF rfl rfl rfl (aI (d:=33) rfl rfl (aR isAgg4 rfl (aK (hS.at_ 0 rfl) rfl) rfl (bC rfl rfl rfl (aB rfl rfl (aP (XF.thenN (bL (XF.res (cI results6 rfl) ?_)))))))));exact ⟨bG hz2,hS.below⟩
theorem xP {k:Nat} (a b:AV) (w:World) (h1:AIn w k k a) (h2:AIn w k k b) (c1:ACap k a) (c2:ACap k b):Calls prog 10 #[a.val,b.val] w (fun e w'=>e = .returned (.bool (mC k a b))∧Below w.heap.size w w'):=sameR_c k a.s b.s a.st a.sy b.st b.sy a.fa b.fa a.fl a.fc b.fl b.fc a.fs b.fs a.ta b.ta a.tl a.tc b.tl b.tc a.ts b.ts w h1 h2 c1 c2
theorem Ez {k:Nat} (a b:AV) (w:World) (h1:AIn w k k a) (h2:AIn w k k b) (c1:ACap k a) (c2:ACap k b):Calls prog 11 #[a.val,b.val] w (fun e w'=>e = .returned (.bool (mC k a b))∧Below w.heap.size w w'):=sameA_c k a.s b.s a.st a.sy b.st b.sy a.fa b.fa a.fl a.fc b.fl b.fc a.fs b.fs a.ta b.ta a.tl a.tc b.tl b.tc a.ts b.ts w h1 h2 c1 c2
theorem Xf {w:World} {ds d:Nat} {a:AV} (hin:AIn w ds d a):∃ S py n,dJ a=0→AutoOk w S py n a:=by
 by_cases h1:dJ a=0
 ·obtain ⟨S,py,n,h⟩:=Su hin h1;exact ⟨S,py,n,fun _=>h⟩
 ·exact ⟨.one 1 0,fun _=>.one dL,0,fun h=>absurd h h1⟩
def xQ (S:PS) (py:TV→PX) (a:AV) (M:World→Prop) (sq:SF) (st9 sy9:Int) (fa2:Option Addr) (fl2 fc2:Nat) (ta2:Option Addr) (tl2 tc2:Nat) (ms:List M9):Prop :=
 (dJ a=0→st9=a.st∧sy9=a.sy∧fl2=a.fl∧tl2=ms.length∧∀ W2,M W2→AuG (some S) ((nzK S (gP S py a.ts)).map (·.1)) ((nzK S (gP S py a.ts)).map (·.2)) a.fs W2 sq fa2 ta2 ms) ∧
  (dJ a≠0→sq=⟨0,0,none,0,0⟩∧st9=0∧sy9=0∧fa2=none∧fl2=0∧fc2=0∧ta2=none∧tl2=0∧tc2=0∧ms=[])
theorem xQ.mono {S:PS} {py:TV→PX} {a:AV} {M M':World→Prop} {sq:SF} {st9 sy9:Int} {fa2:Option Addr} {fl2 fc2:Nat} {ta2:Option Addr} {tl2 tc2:Nat} {ms:List M9} (h:xQ S py a M sq st9 sy9 fa2 fl2 fc2 ta2 tl2 tc2 ms) (hm:∀ W,M' W→M W):xQ S py a M' sq st9 sy9 fa2 fl2 fc2 ta2 tl2 tc2 ms :=
 ⟨fun h0=>⟨(h.1 h0).1,(h.1 h0).2.1,(h.1 h0).2.2.1,(h.1 h0).2.2.2.1,fun W2 h2=>(h.1 h0).2.2.2.2 W2 (hm W2 h2)⟩,h.2⟩
theorem Xg {S:PS} {py:TV→PX} {a:AV} {w w':World} {e:Ending} (h:Wr S py a w e w'):∃ (sq:SF) (st9 sy9:Int) (fa2:Option Addr) (fl2 fc2:Nat) (ta2:Option Addr) (tl2 tc2:Nat) (ms:List M9),e = .returned (.tuple #[.agg #[.int .i64 sq.tag,.int .i64 sq.dim,.slice sq.a sq.len sq.cap,.int .i64 st9,.int .i64 sy9,.slice fa2 fl2 fc2,.slice ta2 tl2 tc2],.int .i64 (dJ a)])∧xQ S py a (fun W2=>Below w.heap.size w W2∧dD w.heap.size w' W2) sq st9 sy9 fa2 fl2 fc2 ta2 tl2 tc2 ms∧Below w.heap.size w w':=by
 obtain ⟨hb,⟨rfl,hne⟩ | ⟨h0,sq,fa2,ta2,fc2,tc2,ms,rfl,hG⟩⟩:=h
 ·exact ⟨⟨0,0,none,0,0⟩,0,0,none,0,0,none,0,0,[],rfl,⟨fun h=>absurd h hne,fun _=>⟨rfl,rfl,rfl,rfl,rfl,rfl,rfl,rfl,rfl,rfl⟩⟩,hb⟩
 ·exact ⟨sq,_,_,fa2,_,fc2,ta2,_,tc2,ms,by rw [h0],⟨fun _=>⟨rfl,rfl,rfl,rfl,fun W2 hW=>hG W2 hW.1 hW.2⟩,fun h=>absurd h0 h⟩,hb⟩
theorem Xh {S:PS} {py:TV→PX} (ts:List TV):(nzK S (gP S py ts)).length≤ts.length:=by have h1:=wK (S:=S) (py:=py) ts [];have h2:(nzK S (gP S py ts)).length≤(gP S py ts).length:=List.length_filter_le _ _;unfold gP at h2 ⊢;simp only [List.length_nil] at h1;omega
theorem Hc {w:World}:∀ {d j:Nat} {s:SV},SIn w d s→mxS j s=true→mxS d s=true
 | 0,_,_,h,_=>h.elim
 | d+1,0,.mk f ps,_,h=>by simp [mxS] at h
 | d+1,j+1,.mk f ps,hs,h=>by simp only [mxS,Bool.and_eq_true,decide_eq_true_eq,List.all_eq_true] at h ⊢;exact ⟨h.1,fun p hp=>Hc (hs.2.2 p hp) (h.2 p hp)⟩
theorem Xi {w:World}:∀ {d:Nat} {s t:SV},eqS d s t=true→mxS d s=true→SIn w d s→SIn w d t→mxS d t=true
 | 0,_,_,_,_,_,h=>h.elim
 | d+1,.mk f ps,.mk g qs,he,hs,hi0,ht=>by simp only [eqS,Bool.and_eq_true,decide_eq_true_eq,List.all_eq_true] at he;simp only [mxS,Bool.and_eq_true,decide_eq_true_eq,List.all_eq_true] at hs ⊢;obtain ⟨_,_,hl,hz⟩:=he;refine ⟨by have h1:=ht.1;have h3:=hi0.1;have h2:=hs.1;omega,fun q hq=>?_⟩;obtain ⟨i,hi,rfl⟩:=List.mem_iff_getElem.1 hq;have hz9:=hz (ps[i]'(by omega),qs[i]) (List.mem_iff_getElem?.2 ⟨i,List.getElem?_zip_eq_some.2 ⟨List.getElem?_eq_getElem _,List.getElem?_eq_getElem _⟩⟩);exact Xi hz9 (hs.2 _ (List.getElem_mem _)) (hi0.2.2 _ (List.getElem_mem _)) (ht.2.2 _ hq)
theorem same9v {w:World} {S:PS} {f g:WF} {x:PX} (hx:XIs w S f x) (hy:XIs w S g x):∃ v u:WV,v.f=f∧u.f=g∧WIn w 2 v∧WIn w 2 u∧mxN 2 v=true∧mxN 2 u=true∧eqW 2 v u=true:=by
 cases S<;>cases x<;>first | exact hx.elim | skip
 ·exact ⟨.mk f [],.mk g [],rfl,rfl,sT hx 1,sT hy 1,pW (jH hx 1),pW (jH hy 1),by
   have h1:=qC hx hy;rw [jG] at h1 ⊢;exact h1.2 rfl⟩
 ·obtain ⟨ra,ca,rc,cc,pc,fb,fo,f1,f2,rfl,h6,h7,h8,h9⟩:=hx.two;obtain ⟨ra',ca',rc',cc',pc',gb,go,g1,g2,rfl,h6',h7',h8',h9'⟩:=hy.two;have sm:∀ {t n u m:Int} {a b:PF} {f1 f2:WF} {ra ca:Option Addr} {rc cc pc fb fo:Nat},PIs w t n f1 a→PIs w u m f2 b→mxN 2 (.mk ⟨false,0,0,ra,0,rc,[],ca,0,cc,[],some ⟨fb,fo,none⟩,2,pc⟩ [.mk f1 [],.mk f2 []])=true:=by intro t n u m a b f1 f2 ra ca rc cc pc fb fo ha hb;have e1:=pW (jH ha 0);have e2:=pW (jH hb 0);show (decide _ && (decide _ && (decide _ && [WV.mk f1 [],WV.mk f2 []].all (mxN 1))))=true;simp [e1,e2]
  exact ⟨_,_,rfl,rfl,pV h6 h7 h8 h9,pV h6' h7' h8' h9',sm h8 h9,sm h8' h9',by
   rw [jG];have e1:=qC h8 h8';have e2:=qC h9 h9';simp [e1,e2]⟩
theorem trow9 {w:World} {ta:Option Addr} {ns:List M9} {ts:List TV} (h:∀ (i:Nat) r,ns[i]?=some r→∃ b off,ta=some ⟨b,off,none⟩∧aC w b (off+i * 9) r.nine) (hl:ts.length=ns.length) (he:∀ (i:Nat) t r,ts[i]?=some t→ns[i]?=some r→t.nine=r.nine):mQ w ta ts:=by
 rcases Nat.eq_zero_or_pos ts.length with h0 | h0
 ·exact .inl (List.length_eq_zero_iff.1 h0)
 ·obtain ⟨b,off,rfl,_⟩:=h 0 (ns[0]'(by omega)) (List.getElem?_eq_getElem _);refine .inr ⟨b,off,rfl,fun i t ht=>?_⟩;have hi:=(List.getElem?_eq_some_iff.1 ht).1;have hr:=List.getElem?_eq_getElem (l:=ns) (i:=i) (by omega);obtain ⟨b2,o2,e2,hc⟩:=h i _ hr;cases e2;rw [he i t _ ht hr];exact hc
theorem sameAuH (S:PS) (pl:List (Int×Int×Int)) (xs:List PX) (fs:List Int) (q1 q2:SF) (st sy:Int) (f1 f2 t1 t2:Option Addr) (fl c1 c2 d1 d2:Nat) (ns ms:List M9) (w:World) (k1:AuG (some S) pl xs fs w q1 f1 t1 ns) (k2:AuG (some S) pl xs fs w q2 f2 t2 ms) (hfl:fs.length=fl) (hfm:fl≤9223372036854775807) (hnm:ns.length≤9223372036854775807) :
  Calls prog 10 #[.agg #[.int .i64 q1.tag,.int .i64 q1.dim,.slice q1.a q1.len q1.cap,.int .i64 st,.int .i64 sy,.slice f1 fl c1,.slice t1 ns.length d1],.agg #[.int .i64 q2.tag,.int .i64 q2.dim,.slice q2.a q2.len q2.cap,.int .i64 st,.int .i64 sy,.slice f2 fl c2,.slice t2 ms.length d2]] w fun e w'=>e = .returned (.bool true)∧Below w.heap.size w w':=by
 obtain ⟨s,t,rfl,rfl,hs,ht,hsm,hst⟩:=sameSp9 k1.sp.2 k2.sp.2;have hpl:=k1.pl.trans k2.pl.symm;have hx1:=k1.x S rfl;have hx2:=k2.x S rfl;have hnl:ns.length=ms.length:=hx1.1.trans hx2.1.symm;obtain ⟨ps,hpn,hps⟩:=oS ns.length (fun i (p:TV×TV)=>∃ r q,ns[i]?=some r∧ms[i]?=some q∧p.1.nine=r.nine∧p.2.nine=q.nine∧WIn w 2 p.1.x∧WIn w 2 p.2.x∧mxN 2 p.1.x=true∧mxN 2 p.2.x=true∧eqT 2 p.1 p.2=true) (fun i hi=>by
  have hr:=List.getElem?_eq_getElem (l:=ns) (i:=i) hi;have hq:=List.getElem?_eq_getElem (l:=ms) (i:=i) (by omega);have hx:=List.getElem?_eq_getElem (l:=xs) (i:=i) (by have:=hx1.1;omega);obtain ⟨v,u,e1,e2,g1,g2,g3,g4,g5⟩:=same9v ((hx1.2 i _ _ hr hx).is (Below.refl _ _)) ((hx2.2 i _ _ hq hx).is (Below.refl _ _));have hp:(ns[i]).pl=(ms[i]'(by omega)).pl:=by
   have h9:(ns.map M9.pl)[i]?=(ms.map M9.pl)[i]?:=by rw [hpl]
   rw [List.getElem?_map,List.getElem?_map,hr,hq] at h9;exact Option.some.inj h9
  simp only [M9.pl,Prod.mk.injEq] at hp;refine ⟨(⟨(ns[i]).f,(ns[i]).g,(ns[i]).t,v⟩,⟨(ms[i]'(by omega)).f,(ms[i]'(by omega)).g,(ms[i]'(by omega)).t,u⟩),_,_,hr,hq,?_,?_,g1,g2,g3,g4,?_⟩
  ·simp only [TV.nine,e1]
  ·simp only [TV.nine,e2]
  ·rw [Py hp.1 hp.2.1 hp.2.2];exact g5)
 have hat:∀ (i:Nat) p,(ps.map (·.1))[i]?=some p→∃ q,ps[i]?=some q∧q.1=p:=fun i p h=>by rw [List.getElem?_map] at h;exact Option.map_eq_some_iff.1 h
 have hbt:∀ (i:Nat) p,(ps.map (·.2))[i]?=some p→∃ q,ps[i]?=some q∧q.2=p:=fun i p h=>by rw [List.getElem?_map] at h;exact Option.map_eq_some_iff.1 h
 have a1:AIn w 2 2 ⟨s,st,sy,f1,fl,c1,fs,t1,ns.length,d1,ps.map (·.1)⟩:=⟨hs,k1.f,hfl,trow9 k1.t (by simp [hpn]) (fun i x r h1 h2=>by
   obtain ⟨q,hq,rfl⟩:=hat i x h1;obtain ⟨r',q',g1,g2,g3,_⟩:=hps i q hq;rw [g1] at h2;cases h2;exact g3),by simp [hpn],fun x hx=>by
   obtain ⟨i,hi⟩:=List.getElem?_of_mem hx;obtain ⟨q,hq,rfl⟩:=hat i x hi;obtain ⟨_,_,_,_,_,_,g,_⟩:=hps i q hq;exact g,hfm,hnm⟩
 have a2:AIn w 2 2 ⟨t,st,sy,f2,fl,c2,fs,t2,ms.length,d2,ps.map (·.2)⟩:=⟨ht,k2.f,hfl,trow9 k2.t (by simp [hpn,hnl]) (fun i x r h1 h2=>by
   obtain ⟨q,hq,rfl⟩:=hbt i x h1;obtain ⟨r',q',g1,g2,g3,g4,_⟩:=hps i q hq;rw [g2] at h2;cases h2;exact g4),by simp [hpn,hnl],fun x hx=>by
   obtain ⟨i,hi⟩:=List.getElem?_of_mem hx;obtain ⟨q,hq,rfl⟩:=hbt i x hi;obtain ⟨_,_,_,_,_,_,_,g,_⟩:=hps i q hq;exact g,hfm,hnl▸hnm⟩
 have c1':ACap 2 ⟨s,st,sy,f1,fl,c1,fs,t1,ns.length,d1,ps.map (·.1)⟩:=⟨Hc hs (L8 hsm),fun x hx=>by
   obtain ⟨i,hi⟩:=List.getElem?_of_mem hx;obtain ⟨q,hq,rfl⟩:=hat i x hi;obtain ⟨_,_,_,_,_,_,_,_,g,_⟩:=hps i q hq;exact g⟩
 have c2':ACap 2 ⟨t,st,sy,f2,fl,c2,fs,t2,ms.length,d2,ps.map (·.2)⟩:=⟨Xi (hst.2 rfl) (Hc hs (L8 hsm)) hs ht,fun x hx=>by
   obtain ⟨i,hi⟩:=List.getElem?_of_mem hx;obtain ⟨q,hq,rfl⟩:=hbt i x hi;obtain ⟨_,_,_,_,_,_,_,_,_,g,_⟩:=hps i q hq;exact g⟩
 have heq:mC 2 ⟨s,st,sy,f1,fl,c1,fs,t1,ns.length,d1,ps.map (·.1)⟩ ⟨t,st,sy,f2,fl,c2,fs,t2,ms.length,d2,ps.map (·.2)⟩=true:=by
  unfold mC qO;have h9:(((ps.map (·.1)).zip (ps.map (·.2))).all fun x=>eqT 2 x.1 x.2)=true:=List.all_eq_true.2 fun x hx=>by obtain ⟨i,hi⟩:=List.getElem?_of_mem hx;obtain ⟨h1,h2⟩:=List.getElem?_zip_eq_some.1 hi;obtain ⟨q,hq,e1⟩:=hat i _ h1;obtain ⟨q2,hq2,e2⟩:=hbt i _ h2;rw [hq] at hq2;cases hq2;obtain ⟨_,_,_,_,_,_,_,_,_,_,g⟩:=hps i q hq;rw [← e1,← e2];exact g
  dsimp only;rw [hst.2 rfl,h9];simp
 have h9:=xP _ _ w a1 a2 c1' c2';rw [heq] at h9;exact h9
theorem sameZ9 (w:World):Calls prog 10 #[.agg #[.int .i64 0,.int .i64 0,.slice none 0 0,.int .i64 0,.int .i64 0,.slice none 0 0,.slice none 0 0],.agg #[.int .i64 0,.int .i64 0,.slice none 0 0,.int .i64 0,.int .i64 0,.slice none 0 0,.slice none 0 0]] w fun e w'=>e = .returned (.bool true)∧Below w.heap.size w w':=by have a1:AIn w 1 1 ⟨.mk ⟨0,0,none,0,0⟩ [],0,0,none,0,0,[],none,0,0,[]⟩:=⟨⟨rfl,.inl rfl,fun p hp=>by cases hp⟩,.inl rfl,rfl,.inl rfl,rfl,fun t ht=>(by cases ht),Nat.zero_le _,Nat.zero_le _⟩;have c1:ACap 1 ⟨.mk ⟨0,0,none,0,0⟩ [],0,0,none,0,0,[],none,0,0,[]⟩:=⟨by simp [mxS],fun t ht=>by cases ht⟩;have h9:=xP _ _ w a1 a1 c1 c1;rw [Ev a1] at h9;exact h9
theorem sameCn {S:PS} {py:TV→PX} {a:AV} {M1 M2:World→Prop} {q1 q2:SF} {u1 u2 y1 y2:Int} {f1 f2:Option Addr} {l1 l2 c1 c2:Nat} {t1 t2:Option Addr} {m1 m2 k1 k2:Nat} {ns ms:List M9} {w w0:World} {n:Nat} (h1:xQ S py a M1 q1 u1 y1 f1 l1 c1 t1 m1 k1 ns) (h2:xQ S py a M2 q2 u2 y2 f2 l2 c2 t2 m2 k2 ms) (hA:dJ a=0→AutoOk w0 S py n a) (hfl:a.fs.length=a.fl) (hw1:M1 w) (hw2:M2 w) :
  Calls prog 10 #[.agg #[.int .i64 q1.tag,.int .i64 q1.dim,.slice q1.a q1.len q1.cap,.int .i64 u1,.int .i64 y1,.slice f1 l1 c1,.slice t1 m1 k1],.agg #[.int .i64 q2.tag,.int .i64 q2.dim,.slice q2.a q2.len q2.cap,.int .i64 u2,.int .i64 y2,.slice f2 l2 c2,.slice t2 m2 k2]] w fun e w'=>e = .returned (.bool true)∧Below w.heap.size w w':=by
 by_cases h0:dJ a=0
 ·obtain ⟨rfl,rfl,rfl,rfl,g1⟩:=h1.1 h0;obtain ⟨rfl,rfl,rfl,e4,g2⟩:=h2.1 h0;have k1:=g1 w hw1;have k2:=g2 w hw2;have hA9:=hA h0;have hfin:=xM h0;have e5:ns.length=ms.length:=by have h8:=congrArg List.length (k1.pl.trans k2.pl.symm);rw [List.length_map,List.length_map] at h8;exact h8
  have e6:ns.length=(nzK S (gP S py a.ts)).length:=by have h8:=congrArg List.length k1.pl;rw [List.length_map,List.length_map] at h8;exact h8
  have e7:=Xh (S:=S) (py:=py) a.ts;have e8:=hA9.tl;have e9:=hA9.tlen;subst e4;refine sameAuH S _ _ _ q1 q2 _ _ f1 f2 t1 t2 _ c1 c2 _ _ ns ms w k1 k2 hfl ?_ ?_
  ·have g4:=Cd hfin.1;omega
  ·omega
 ·obtain ⟨rfl,rfl,rfl,rfl,rfl,rfl,rfl,rfl,rfl,rfl⟩:=h1.2 h0;obtain ⟨rfl,rfl,rfl,rfl,rfl,rfl,rfl,rfl,rfl,rfl⟩:=h2.2 h0;exact sameZ9 w
theorem AIn.more {w:World} {n m:Nat} {a:AV} (h:AIn w n n a) (hk:n≤m):AIn w m m a:=⟨h.s.more hk,h.frow,h.flen,h.trow,h.tlen,fun t ht=>(h.tin t ht).more hk,h.fmax,h.tmax⟩
theorem ACap.more {n m:Nat} {a:AV} (h:ACap n a) (hk:n≤m):ACap m a:=⟨rQ hk h.s,fun t ht=>rR hk (h.t t ht)⟩
section
variable {P:Program} {n:Nat} {ops:Array Oper} {Q:Exit→Act→World→Prop} {l:Fr} {w0 W:World} {O:Own} {G:cV} {K:List (Nat×World)} {os:List Oper} {ty:TypeId} {pos:String} {aft:Array Edge}
theorem yG {α:Type} {G:List α} {i:Nat} {g:α} (h:G[i]?=some g):G.set i g=G:=by
 apply List.ext_getElem?;intro k;rw [List.getElem?_set];by_cases hk:i=k
 ·subst hk;rw [if_pos rfl,h];simp [(List.getElem?_eq_some_iff.1 h).1]
 ·rw [if_neg hk]
theorem St.setRowMany {b c nn size:Nat} {e:TypeId} (i:Nat):∀ (vs:List Value) (jx:Nat) {G:cV} {W:World} {xs:List Value},St w0 O G K W→G[i]?=some ⟨.slice (some ⟨b,0,none⟩) nn c,nn,xs,e,size⟩→jx+vs.length≤nn * size→St w0 O (G.set i ⟨.slice (some ⟨b,0,none⟩) nn c,nn,eQ xs jx vs,e,size⟩) K (Go.Proofs.YtbmieipifgailaaGreatDoor.setMany W b jx vs)
 | [],jx,G,W,xs,h,hi,_=>by
  rw [show eQ xs jx []=xs from rfl,yG hi];exact h
 | v::vs,jx,G,W,xs,h,hi,hl=>by simp only [List.length_cons] at hl;have h1:=h.setRow i hi v (show jx < nn * size by omega);have hlt:=(List.getElem?_eq_some_iff.1 hi).1;have h2:=St.setRowMany i vs (jx+1) h1 (List.getElem?_set_self hlt) (by omega);rw [List.set_set] at h2;exact h2
theorem S6 {T U:TypeId} {x y:Operand} {b c nn size j i:Nat} {xs vs:List Value} (hS:St w0 O G K W) (hsz:∀ w,(sizeOf T).run P w = .ok vs.length w) (hi:G[i]?=some ⟨.slice (some ⟨b,0,none⟩) nn c,nn,xs,U,size⟩) (hx:evL l x=some (.pointer (some ⟨b,j,none⟩))) (hy:evL l y=some (.agg vs.toArray)) (hv:vs.all Value.oneCell'=true) (hj:j+vs.length≤nn * size)
  (h:∀ W',St w0 O (G.set i ⟨.slice (some ⟨b,0,none⟩) nn c,nn,eQ xs j vs,U,size⟩) K W'→cO P n ops Q os l W'):cO P n ops Q (⟨none,.store T x y,ty,pos,aft,none⟩::os) l W:=fun a ha=>by
 refine wpList_plain rfl fun K' hK=>?_
 unfold Oper.wp execOp;simp only [];rw [ha.ev x _ hx,ha.ev y _ hy];have h2:=h _ (hS.setRowMany i vs j hi hj);obtain ⟨cs,hc,hcl⟩:∃ cs:List Value,W.heap[b]?=some (.cells cs.toArray U (0,0))∧nn * size≤cs.length:=by
  have hr:=(hS.rows _ (List.mem_of_getElem? hi)).1;rcases hr.2 with ⟨e1,_⟩ | ⟨g,cap,cur,e1,hg,hh,hn2,hm,hs,ht⟩
  ·cases e1
  ·injection e1 with e1 _ _
   injection e1 with e1
   injection e1 with e1
   subst e1;exact ⟨cur.toList,by simpa using hh,by
    have h9:=Nat.mul_le_mul_right size hn2;have h8:cur.toList.length=cur.size:=by simp
    rw [h8];dsimp only at hs h9;omega⟩
 have hst:=iB (P:=P) vs 0 j W cs hc (by omega) (fun u hu=>List.all_eq_true.1 hv u hu);rw [Nat.add_zero] at hst
 have:(Instr.storeAt T (.pointer (some ⟨b,j,none⟩)) (.agg vs.toArray)).run P W = .ok () (Go.Proofs.YtbmieipifgailaaGreatDoor.setMany W b j vs):=by simp [Instr.storeAt,Instr.sureAddr,storeVar,hsz,Value.cells,hst]
 simp only [Sem.run_bind,this,Result.andThen_ok,Sem.run_pure,Oper.upon_skip];exact hK _ _ (h2 _ ha)
end
def tA (ops:Array Oper) (k j:Nat):Bool:=match ops[k]? with | some o=>o.after.any fun e=>e.on == j && Region.binds .any e | none=>false
def rV (ops:Array Oper) (k:Nat):Bool :=
 decide (k+1=ops.size) && (List.range k).all fun j=>tA ops k j || (List.range k).any fun i=>tA ops k i && tA ops i j
section
variable {P:Program} {ops:Array Oper} {Q:Exit→Act→World→Prop} {t0:Array Value} {d0:List Deferred} {G:World→Prop} {I:Nat→Value→World→Prop}
def Qa (ops:Array Oper) (L:Array Bool):Prop:=∀ i j,L.getD i false=true→tA ops i j=true→L.getD j false=true
theorem rW {L:Array Bool} {i j:Nat} {o:Oper} (ho:ops[i]?=some o) (hdep:∀ e∈o.after,Region.binds .any e=true→L.getD e.on false=true) (h:tA ops i j=true):L.getD j false=true:=by simp only [tA,ho] at h;obtain ⟨e,he,h2⟩:=Array.any_eq_true'.1 h;simp only [Bool.and_eq_true,beq_iff_eq] at h2;have:=hdep e he h2.2;rw [h2.1] at this;exact this
theorem rX {L:Array Bool} {i j:Nat} (h:L.getD j false=true):(L.setIfInBounds i true).getD j false=true:=by
 by_cases e:j=i
 ·subst e;rw [Array.getD_eq_getD_getElem?] at h ⊢;cases hL:L[j]? with
  | none=>rw [hL] at h;cases h
  | some b=>rw [Array.getElem?_setIfInBounds_self_of_lt (Array.getElem?_eq_some_iff.1 hL).1];rfl
 ·rw [getD_set_ne false (Ne.symm e)];exact h
theorem Qa.next {L:Array Bool} {i:Nat} {o:Oper} (h:Qa ops L) (ho:ops[i]?=some o) (hdep:∀ e∈o.after,Region.binds .any e=true→L.getD e.on false=true):Qa ops (L.setIfInBounds i true):=fun a b ha hb=>by
 by_cases e:a=i
 ·subst e;exact rX (rW ho hdep hb)
 ·rw [getD_set_ne false (Ne.symm e)] at ha;exact rX (h a b ha hb)
theorem Hd {k:Nat} (hl:rV ops k=true) (ht:dO ops t0.size=true) (hst:∀ i v w w',G w→I i v w→Below w.heap.size w w'→I i v w')
  (hstep:∀ i,i < k→fH P ops Q t0 G I i) (hfin:wT ops t0 d0 G I k (wpOp P ops Q k (Q .normal))) :
  ∀ (fuel:Nat) (L:Array Bool) (a:Act) (w:World),L.size=ops.size→L.getD k true=false→L.toList.count false≤fuel→Qa ops L→RInv ops t0 d0 G I L a w→wpAny P .any ops Q fuel L a w:=by
 simp only [rV,Bool.and_eq_true,decide_eq_true_eq] at hl;obtain ⟨hk,hl⟩:=hl;have cnt:∀ (L:Array Bool) i,L.getD i true=false→L.toList[i]?=some false:=fun L i h1=>by
  rw [Array.getD_eq_getD_getElem?] at h1;rw [Array.getElem?_toList];cases hL:L[i]? with
  | none=>rw [hL] at h1;cases h1
  | some b=>rw [hL] at h1;simpa using h1
 intro fuel
 induction fuel with
 | zero =>
  intro L a w hs hlk hc hsh h;have:=fF _ _ (cnt L k hlk);omega
 | succ fuel ih =>
  intro L a w hs hlk hc hsh h;refine ⟨fun hr=>?_,fun i hi=>?_⟩
  ·rw [gI ht hs hr k (by omega)] at hlk;cases hlk
  ·obtain ⟨h1,o,ho,hdep⟩:=mem_ready.1 hi;have his:i < ops.size:=(Array.getElem?_eq_some_iff.1 ho).1;have hc1:=fF _ _ (cnt L i h1);by_cases hik:i=k
   ·subst hik;have hall:∀ j,j < i→L.getD j false=true:=fun j hj=>by
     have:=List.all_eq_true.1 hl j (List.mem_range.2 hj);rw [Bool.or_eq_true] at this;rcases this with h2 | h2
     ·exact rW ho hdep h2
     ·obtain ⟨m,_,hm⟩:=List.any_eq_true.1 h2;rw [Bool.and_eq_true] at hm;exact hsh m j (rW ho hdep hm.1) hm.2
    refine wpOp_mono ?_ (hfin a w h.size h.defers h.frame h.glob fun j d hj hd=>h.done j d hd (hall j hj));intro a' w' hq;have hnil:Region.ready .any ops (L.setIfInBounds i true)=[]:=by
     cases hr:Region.ready .any ops (L.setIfInBounds i true) with
     | nil=>rfl
     | cons j rest =>
      have hj:j∈Region.ready .any ops (L.setIfInBounds i true):=by rw [hr];exact List.mem_cons_self
      obtain ⟨h5,o',ho',_⟩:=mem_ready.1 hj;have hjs:j < ops.size:=(Array.getElem?_eq_some_iff.1 ho').1;by_cases hji:j=i
      ·subst hji;rw [Array.getD_eq_getD_getElem?,Array.getElem?_eq_getElem (by simpa using (by omega:j < L.size))] at h5;simp at h5
      ·rw [getD_set_ne true (Ne.symm hji)] at h5;have h6:=hall j (by omega);rw [Array.getD_eq_getD_getElem?] at h5 h6;rw [Array.getElem?_eq_getElem (by omega)] at h5 h6;simp at h5 h6;rw [h5] at h6;cases h6
    cases fuel with
    | zero=>exact ⟨hnil,hq⟩
    | succ fuel=>exact ⟨fun _=>hq,by rw [hnil];simp⟩
   ·refine wpOp_mono ?_ (hstep i (by omega) a w h.frameE h.glob (h.deps hi));rintro a' w' ⟨⟨v,rfl,hI⟩,hG,hB⟩;refine ih _ _ _ (by simpa using hs) (by rw [getD_set_ne true hik];exact hlk) ?_ (hsh.next ho hdep) (h.next ht h1 hst hI hG hB);rw [Array.toList_setIfInBounds];omega
theorem tE {id:Nat} {a:Act} {w:World} (hm:P.follows .mixedOrders=true) (k:Nat) (G:World→Prop) (I:Nat→Value→World→Prop) (hG:G w.drew) (hl:rV ops k=true)
  (ht:dO ops a.tmps.size=true) (hst:∀ i v w w',G w→I i v w→Below w.heap.size w w'→I i v w')
  (hstep:∀ i,i < k→fH P ops Q a.tmps G I i) (hfin:wT ops a.tmps a.defers G I k (wpOp P ops Q k (Q .normal))):(Code.region id ops true).wp P Q a w :=
 wp_region_any hm (Hd hl ht hst hstep hfin _ _ _ _ (by simp) (by
  have hk:k < ops.size:=by simp only [rV,Bool.and_eq_true,decide_eq_true_eq] at hl;omega
  rw [Array.getD_eq_getD_getElem?,Array.getElem?_replicate,if_pos hk];rfl) (iP _) (fun i j h _=>by
   rw [Array.getD_eq_getD_getElem?,Array.getElem?_replicate] at h;split at h<;>simp at h) (oT hG))
theorem qP {id:Nat} {L:List Asr} {a:Act} {w:World} (hm:P.follows .mixedOrders=true) (k:Nat) (hl:rV ops k=true) (ht:dO ops a.tmps.size=true) (hst:mY L)
  (hstep:sF (RS P ops Q a.tmps w L) k 0) (hfin:wT ops a.tmps a.defers (fun w'=>Below w.heap.size w w') (atI L) k (wpOp P ops Q k (Q .normal))):(Code.region id ops true).wp P Q a w :=
 tE hm k _ (atI L) ((Below.refl _ _).drew) hl ht (fun i v w w' _ h hb=>mZ hst i v w w' h hb) (fun i hi=>by have:=pM hstep i hi;rwa [Nat.zero_add] at this) hfin
end
section
variable {P:Program} {n:Nat} {Q:Exit→Act→World→Prop} {l:Fr} {W w0:World} {O:Own} {G:cV} {K:List (Nat×World)} {os:List Oper}
theorem regDLC {id:Nat} {o:Oper} (hm:P.follows .mixedOrders=true) (L:List Asr) (hS:St w0 O G K W) (hl:rV (os++[o]).toArray os.length=true) (ht:dO (os++[o]).toArray n=true) (hdst:os.all (fun o=>o.dst.isSome)=true) (hfree:∀ d,o.dst=some d→look l d=none)
  (hstep:Ib P n (os++[o]).toArray Q l W L os.length 0) (hst:mY L)
  (hfin:∀ W',Below W.heap.size W W'→St w0 O G ((W.heap.size,W')::K) W'→jY os L l (fun l' W'=>cO P n (os++[o]).toArray Q [o] l' W') W'):eW P n (.region id (os++[o]).toArray true) Q l W:=fun a ha=>by
 refine qP hm os.length hl (by rw [ha.size];exact ht) hst (sG ha hstep) ?_;intro a' W' hs hd hf hG hI;have hk:((os++[o]).toArray)[os.length]?=some o:=by simp
 refine pO os L l (fun i d hi hd'=>hI i d hi (by simp [List.getElem?_append_left hi];simpa using hd')) (hs.trans ha.size) (hd.trans ha.defers) ?_ (fun o ho=>?_) (fun l' h ha'=>?_) (hfin W' hG (hS.call hG))
 ·intro t v hv hno;rw [hf t (by
   unfold freeT;rw [Array.all_eq_true'];intro o' ho'
   have:o'∈os++[o]:=by simpa using ho'
   rcases List.mem_append.1 this with h1 | h1
   ·simpa using hno o' h1
   ·simp only [List.mem_singleton] at h1;subst h1;cases hx:o'.dst with
    | none=>simp
    | some d=>simp;intro e;subst e;rw [hfree d hx] at hv;cases hv)]
  exact ha.at_ t v hv
 ·have:=List.all_eq_true.1 hdst o ho;exact Option.isSome_iff_exists.1 this
 ·have h1:=h a' ha';unfold wpOp;rw [hk];exact h1
theorem regDKC {id:Nat} {o:Oper} (hm:P.follows .mixedOrders=true) (L:List Asr) (k:Nat) (hS:St w0 O G K W) (hk:os[k]?=some o) (hlen:os.length=k+1) (hl:rV os.toArray k=true) (ht:dO os.toArray n=true) (hdst:(os.take k).all (fun o=>o.dst.isSome)=true) (hfree:∀ d,o.dst=some d→look l d=none)
  (hstep:Ib P n os.toArray Q l W L k 0) (hst:mY L)
  (hfin:∀ W',Below W.heap.size W W'→St w0 O G ((W.heap.size,W')::K) W'→jY (os.take k) L l (fun l' W'=>cO P n os.toArray Q [o] l' W') W'):eW P n (.region id os.toArray true) Q l W:=by
 have e:os=os.take k++[o]:=by
  apply List.ext_getElem?;intro j;by_cases hj:j < k
  ·rw [List.getElem?_append_left (by simp;omega),List.getElem?_take,if_pos hj]
  ·by_cases hj2:j=k
   ·subst hj2;rw [List.getElem?_append_right (by simp;omega),hk];simp [show min j os.length=j by omega]
   ·rw [List.getElem?_eq_none (by omega),List.getElem?_eq_none (by simp;omega)]
 have hkl:(os.take k).length=k:=by simp;omega
 generalize hg:os.take k=os1 at *;subst hkl;subst e;exact regDLC hm L hS hl ht hdst hfree hstep hst hfin
theorem regBKC {id:Nat} {o:Oper} (hm:P.follows .mixedOrders=true) (k:Nat) (hS:St w0 O G K W) (hk:os[k]?=some o) (hlen:os.length=k+1) (hl:rV os.toArray k=true) (ht:dO os.toArray n=true) (hdst:(os.take k).all (fun o=>o.dst.isSome)=true) (hfree:∀ d,o.dst=some d→look l d=none)
  (h:BL P n os.toArray Q l W (fun Lr=>∀ W',Below W.heap.size W W'→St w0 O G ((W.heap.size,W')::K) W'→jY (os.take k) Lr.reverse l (fun l' W'=>cO P n os.toArray Q [o] l' W') W') k [] 0):eW P n (.region id os.toArray true) Q l W:=by
 obtain ⟨Lr,h1,h2,h3,h4⟩:=Fw ht k 0 [] rfl (fun p hp=>by cases hp) (fun i hi=>by omega) h;exact regDKC hm Lr.reverse k hS hk hlen hl ht hdst hfree (yS k 0 (by simpa using h3)) (lW fun p hp=>h2 p (List.mem_reverse.1 hp)) h4
end
theorem Kh {α:Type} {enc:α→List Value} {k:Nat} (hk:∀ x,(enc x).length=k):∀ (l:List α) (j r:Nat),r < k→(l.flatMap enc)[j * k+r]?=(l[j]?).bind fun x=>(enc x)[r]?
 | [],j,r,_=>by simp
 | x::l,0,r,h=>by
  rw [List.flatMap_cons,Nat.zero_mul,Nat.zero_add,List.getElem?_append_left (by rw [hk];exact h)];rfl
 | x::l,j+1,r,h=>by rw [List.flatMap_cons,List.getElem?_append_right (by rw [hk,Nat.add_mul];omega),hk,show (j+1) * k+r - k=j * k+r by rw [Nat.add_mul];omega,Kh hk l j r h];rfl
theorem E0 {α:Type} {enc:α→List Value} {k:Nat} (hk:∀ x,(enc x).length=k) (l:List α):(l.flatMap enc).length=l.length * k:=by
 induction l with
 | nil=>simp
 | cons x l ih=>rw [List.flatMap_cons,List.length_append,ih,hk,List.length_cons,Nat.add_mul];omega
theorem E1 {α:Type} [Inhabited α] {enc:α→List Value} {k:Nat} (hk:∀ x,(enc x).length=k) (d:Array α) {t:Nat} (h:t < d.size * k):(d.toList.flatMap enc)[t]?=some (Go.Sort.flatK enc k d)[t]!:=by
 have k0:0 < k:=by
  rcases Nat.eq_zero_or_pos k with h0 | h0
  ·subst h0;simp at h
  ·exact h0
 have hj:t / k < d.size:=(Nat.div_lt_iff_lt_mul k0).2 h;have hr:t % k < k:=Nat.mod_lt _ k0;have h1:=Kh hk d.toList (t / k) (t % k) hr;rw [show t / k * k+t % k=t by rw [Nat.mul_comm];exact Nat.div_add_mod t k] at h1;rw [h1,Go.Sort.get_flatK _ _ _ _ h,Array.getElem?_toList,Array.getElem?_eq_getElem hj];show (enc d[t / k])[t % k]?=_;have h2:d[t / k]! =d[t / k]:=getElem!_pos d _ hj;have h3:t % k < (enc d[t / k]).length:=by rw [hk];exact hr
 rw [h2,List.getElem?_eq_getElem h3,getElem!_pos (enc d[t / k]) _ h3]
section
variable {P:Program} {n:Nat} {ops:Array Oper} {Q:Exit→Act→World→Prop} {l:Fr} {w0 W:World} {O:Own} {G:cV} {K:List (Nat×World)} {os:List Oper} {d:Nat} {ty:TypeId} {pos:String} {aft:Array Edge}
theorem S7 {α:Type} [Inhabited α] {enc:α→List Value} {k b c nn:Nat} {e:TypeId} {dk:Array α} {base:Nat} (hk:∀ x,(enc x).length=k) (hd:dk.size=nn) (h:W.ownsRow base e k (.slice (some ⟨b,0,none⟩) nn c) nn (dk.toList.flatMap enc)):Go.Sort.HoldsK enc k W b 0 dk:=by
 rcases h.2 with ⟨e1,_⟩ | ⟨g,cap,cur,e1,hg,hh,hn2,hm,hs,ht⟩
 ·cases e1
 ·injection e1 with e1 _ _
  injection e1 with e1
  injection e1 with e1
  subst e1;intro j hj;rw [Go.Sort.size_flatK] at hj;have h1:=E1 hk dk hj;rw [← ht,List.getElem?_take_of_lt (by rw [← hd];exact hj),Array.getElem?_toList] at h1;refine ⟨?_,?_⟩
  ·simp only [World.cell?,hh,Nat.zero_add];simpa using h1
  ·simp [World.frozen?,hh]
theorem Cx {α:Type} [Inhabited α] {enc:α→List Value} {k:Nat} (hk:∀ x,(enc x).length=k) (dk:Array α) (cur:Array Value) (hl:dk.size * k≤cur.size):(Go.Sort.putCells id 0 (Go.Sort.flatK enc k dk) cur).toList.take (dk.size * k)=dk.toList.flatMap enc:=by
 apply List.ext_getElem?;intro t;by_cases ht:t < dk.size * k
 ·rw [List.getElem?_take_of_lt ht,E1 hk dk ht,Array.getElem?_toList];unfold Go.Sort.putCells;rw [Array.getElem?_mapIdx,Array.getElem?_eq_getElem (by omega)];simp only [Option.map_some,Nat.zero_le,true_and,Nat.zero_add,Nat.sub_zero,Go.Sort.size_flatK,ht,if_true,id]
 ·rw [List.getElem?_eq_none (by simp;omega),List.getElem?_eq_none (by rw [E0 hk];simp;omega)]
theorem St.sorted {α:Type} [Inhabited α] (hS:St w0 O G K W) (i:Nat) {enc:α→List Value} {k b c nn:Nat} {e:TypeId} {xs:List Value} (hk:∀ x,(enc x).length=k) (hi:G[i]?=some ⟨.slice (some ⟨b,0,none⟩) nn c,nn,xs,e,k⟩) (dk:Array α) (hd:dk.size=nn) (m:Nat) (osn:Array Obj) :
  St w0 O (G.set i ⟨.slice (some ⟨b,0,none⟩) nn c,nn,dk.toList.flatMap enc,e,k⟩) K (Go.Proofs.sortWorldK enc k W b 0 m dk osn):=by
 have hrow:=(hS.rows _ (List.mem_of_getElem? hi)).1;have hlt:=(hS.glt (List.mem_of_getElem? hi) (b:=b) rfl).2;have hsz:(Go.Sort.putRowK enc k (Go.Sort.ahead W m) b 0 dk).heap.size=W.heap.size:=by simp [Go.Sort.putRowK,Go.Sort.putRow,Go.Sort.mapBlock,Go.Sort.ahead]
 have hat:∀ q,q < W.heap.size→(Go.Proofs.sortWorldK enc k W b 0 m dk osn).heap[q]?=(Go.Sort.putRowK enc k (Go.Sort.ahead W m) b 0 dk).heap[q]?:=fun q hq=>by show ((Go.Sort.putRowK enc k (Go.Sort.ahead W m) b 0 dk).heap++osn)[q]?=_;rw [Array.getElem?_append_left (by rw [hsz];exact hq)]
 refine hS.setG i hi (v':=.slice (some ⟨b,0,none⟩) nn c) ?_ ⟨rfl,rfl,rfl,by rw [Go.Proofs.sortWorldK,Go.Sort.size_grow,hsz];omega,fun q hq hne=>?_⟩ (.inl rfl)
 ·refine ⟨by rw [E0 hk];simp [hd],?_⟩;rcases hrow.2 with ⟨e1,_⟩ | ⟨g,cap,cur,e1,hg,hh,hn2,hm,hs,ht⟩
  ·cases e1
  ·injection e1 with e1 _ e2
   injection e1 with e1
   injection e1 with e1
   subst e1;subst e2;refine .inr ⟨b,c,Go.Sort.putCells id 0 (Go.Sort.flatK enc k dk) cur,rfl,hg,?_,hn2,hm,?_,?_⟩
   ·rw [hat b hlt];simp only [Go.Sort.putRowK,Go.Sort.putRow,Go.Sort.mapBlock,Go.Sort.ahead,Array.getElem?_modify,if_true];rw [hh];rfl
   ·simpa [Go.Sort.putCells] using hs
   ·rw [← hd];refine Cx hk dk cur ?_;dsimp only at hs hn2;rw [hs,hd];exact Nat.mul_le_mul_right _ hn2
 ·rw [hat q hq];have hne':b≠q:=fun e=>hne (by rw [e];rfl)
  simp [Go.Sort.putRowK,Go.Sort.putRow,Go.Sort.mapBlock,Go.Sort.ahead,Array.getElem?_modify,hne']
theorem Xj {α:Type} [Inhabited α] {f g:FuncId} {x y:Operand} {ts:Array TypeId} {v:Value} {enc:α→List Value} {k nn:Nat} {e1:TypeId} {cf:α→α→Int} {dl:List α} (hS:St w0 O G K W) (i:Nat) (hgo:bJ P f=true) (hx:evL l x=some v) (hy:evL l y=some (.func (.func g) #[] #[]))
  (hi:G[i]?=some ⟨v,nn,dl.flatMap enc,e1,k⟩) (hdl:dl.length=nn) (hk:∀ x,(enc x).length=k) (hn63:nn < 4611686018427387904)
  (hc:∀ (blk off cap:Nat) (dk:Array α) (w:World),Go.Sort.HoldsK enc k w blk off dk→blk < w.heap.size→dk.size < 4611686018427387904→Calls P f #[.slice (some ⟨blk,off,none⟩) dk.size cap,.func (.func g) #[] #[]] w fun e w'=>e = .returned (.tuple #[])∧∃ d' q os,Go.Sort.PermIn 0 dk.size dk d'∧Go.Sort.SortedIn (Go.Proofs.ltOf cf) 0 dk.size d'∧w'=Go.Proofs.sortWorldK enc k w blk off q d' os)
  (hc0:∀ (a:Option Addr) (cap:Nat) (fv:Value) (w:World),Calls P f #[.slice a 0 cap,fv] w fun e w'=>e = .returned (.tuple #[])∧w'=w)
  (hd:Nat.blt d n=true) (h:∀ (dl':List α) W',dl'.Perm dl→dl'.Pairwise (fun a b=>¬ cf b a < 0)→St w0 O (G.set i ⟨v,nn,dl'.flatMap enc,e1,k⟩) K W'→cO P n ops Q os ((d,.tuple #[])::l) W'):cO P n ops Q (⟨some d,.call { callee:=.value (.func f),args:=#[x,y],argTypes:=ts },ty,pos,aft,none⟩::os) l W:=by
 have hrow:W.ownsRow w0.heap.size e1 k v nn (dl.flatMap enc):=hS.row i hi;by_cases hv:v = .slice none 0 0
 ·subst hv;have hn:nn=0:=by
   rcases hrow.2 with ⟨_,h0⟩ | ⟨g,cap,cur,e0,_⟩
   ·exact h0
   ·cases e0
  have hz:dl=[]:=List.eq_nil_of_length_eq_zero (hdl.trans hn);subst hz;refine fY (vs:=[.slice none 0 0,.func (.func g) #[] #[]]) hgo (by simp [hx,hy]) (hc0 none 0 _ W) hd ?_;rintro e W' ⟨rfl,rfl⟩;refine ⟨_,rfl,h [] W' (List.Perm.refl _) List.Pairwise.nil ?_⟩;rw [yG hi];exact hS
 ·rcases hrow.2 with ⟨e0,_⟩ | ⟨g9,cap,cur,rfl,_⟩
  ·exact absurd e0 hv
  ·have hlt:=(hS.glt (List.mem_of_getElem? hi) (b:=g9) rfl).2;have hH:=S7 (dk:=dl.toArray) hk (by simpa using hdl) (by simpa using hrow);have h1:=hc g9 0 cap dl.toArray W hH hlt (by simpa [hdl] using hn63);have e2:(Value.slice (some ⟨g9,0,none⟩) dl.toArray.size cap) = .slice (some ⟨g9,0,none⟩) nn cap:=by simp [hdl]
   rw [e2] at h1;refine fY (vs:=[.slice (some ⟨g9,0,none⟩) nn cap,.func (.func g) #[] #[]]) hgo (by simp [hx,hy]) h1 hd ?_;rintro e W' ⟨rfl,d',q,osn,hp,hs,rfl⟩;have hsz:d'.size=dl.length:=by simpa using hp.1
   have hpm:d'.toList.Perm dl:=by have h2:=hp.2.2;simp only [List.size_toArray] at h2;rw [Array.toList_extract,Array.toList_extract] at h2;simpa [List.extract,List.take_of_length_le,hsz] using h2
   refine ⟨_,rfl,h d'.toList _ hpm ?_ (hS.sorted i hk hi d' (hsz.trans hdl) q osn)⟩;rw [List.pairwise_iff_getElem];intro a b ha hb hab;have hb':b < d'.size:=by simpa using hb
   have h3:=hs a b (Nat.zero_le _) hab (by simp;omega);rw [getElem!_pos d' a (by omega),getElem!_pos d' b hb'] at h3;simpa [Go.Proofs.ltOf] using h3
end
end Go.Proofs.YtbmieipifgailaaGreatDoor
namespace Go.Proofs
open Go.Shelf
def Tryz.sortTr_ren:Go.Shelf.Ren:=⟨fun | 6=>25 | 15=>53 | 14=>52 | 28=>84 | 29=>85 | 20=>76 | 21=>77 | 22=>78 | 23=>79 | 24=>80 | 25=>81 | 26=>82 | 27=>83 | 46=>106 | 47=>107 | 48=>108 | 49=>109 | 50=>110 | 57=>126 | n=>n,fun | 22=>27 | 24=>48 | 25=>68 | 3=>3 | 39=>89 | 0=>0 | 53=>129 | 55=>39 | 4=>4 | 46=>123 | 45=>122 | 50=>64 | 5=>5 | 9=>9 | 66=>149 | 70=>153 | 76=>165 | 77=>166 | n=>n,fun | n=>n⟩
theorem Tryz.sortTr:Go.Proofs.SlLaysF0.n6 prog Tryz.sortTr_ren:={
 mixed:=by kernel_rfl
 f6:=⟨Tryz.f25.name,by decide,func25.trans (congrArg some (by kernel_rfl))⟩
 f14:=⟨Tryz.f52.name,by decide,func52.trans (congrArg some (by kernel_rfl))⟩
 f15:=func53.trans (congrArg some (by kernel_rfl))
 f20:=⟨Tryz.f76.name,by decide,func76.trans (congrArg some (by kernel_rfl))⟩
 f21:=⟨Tryz.f77.name,by decide,func77.trans (congrArg some (by kernel_rfl))⟩
 f22:=⟨Tryz.f78.name,by decide,func78.trans (congrArg some (by kernel_rfl))⟩
 f23:=⟨Tryz.f79.name,by decide,func79.trans (congrArg some (by kernel_rfl))⟩
 f24:=⟨Tryz.f80.name,by decide,func80.trans (congrArg some (by kernel_rfl))⟩
 f25:=⟨Tryz.f81.name,by decide,func81.trans (congrArg some (by kernel_rfl))⟩
 f26:=⟨Tryz.f82.name,by decide,func82.trans (congrArg some (by kernel_rfl))⟩
 f27:=⟨Tryz.f83.name,by decide,func83.trans (congrArg some (by kernel_rfl))⟩
 f28:=func84.trans (congrArg some (by kernel_rfl))
 f29:=func85.trans (congrArg some (by kernel_rfl))
 f46:=⟨Tryz.f106.name,by decide,func106.trans (congrArg some (by kernel_rfl))⟩
 f47:=func107.trans (congrArg some (by kernel_rfl))
 f48:=func108.trans (congrArg some (by kernel_rfl))
 f49:=⟨Tryz.f109.name,by decide,func109.trans (congrArg some (by kernel_rfl))⟩
 f50:=⟨Tryz.f110.name,by decide,func110.trans (congrArg some (by kernel_rfl))⟩
 f57:=⟨Tryz.f126.name,by decide,func126.trans (congrArg some (by kernel_rfl))⟩
 t0:=underlying0
 a0:=isAgg0
 z0:=sizeOf0
 v0:=zeroValue0
 t3:=underlying3
 a3:=isAgg3
 z3:=sizeOf3
 v3:=zeroValue3
 t4:=underlying4
 a4:=isAgg4
 z4:=sizeOf4
 v4:=zeroValue4
 t5:=underlying5
 a5:=isAgg5
 z5:=sizeOf5
 v5:=zeroValue5
 t9:=underlying9
 a9:=isAgg9
 z9:=sizeOf9
 v9:=zeroValue9
 t22:=underlying27
 a22:=isAgg27
 z22:=sizeOf27
 v22:=zeroValue27
 t25:=underlying68
 a25:=isAgg68
 z25:=sizeOf68
 v25:=zeroValue68
 t39:=underlying89
 a39:=isAgg89
 z39:=sizeOf89
 v39:=zeroValue89
 t45:=underlying122
 a45:=isAgg122
 z45:=sizeOf122
 v45:=zeroValue122
 t46:=underlying123
 a46:=isAgg123
 z46:=sizeOf123
 v46:=zeroValue123
 t50:=underlying64
 a50:=isAgg64
 z50:=sizeOf64
 v50:=zeroValue64
 t53:=underlying129
 a53:=isAgg129
 z53:=sizeOf129
 v53:=zeroValue129
 t55:=underlying39
 a55:=isAgg39
 z55:=sizeOf39
 v55:=zeroValue39
 t66:=underlying149
 a66:=isAgg149
 z66:=sizeOf149
 v66:=zeroValue149
 t70:=underlying153
 a70:=isAgg153
 z70:=sizeOf153
 v70:=zeroValue153
 t76:=underlying165
 a76:=isAgg165
 z76:=sizeOf165
 v76:=zeroValue165
 t77:=underlying166
 a77:=isAgg166
 z77:=sizeOf166
 v77:=zeroValue166 }
end Go.Proofs
namespace Go.Proofs.YtbmieipifgailaaGreatDoor
open Go.Proofs.Tryz
open Go.RowKit
instance:Inhabited M9:=⟨⟨0,0,0,⟨false,0,0,none,0,0,[],none,0,0,[],none,0,0⟩⟩⟩
theorem Xk (blk off size:Nat) (w:World):Go.Proofs.CmpLays prog 26 #[] M9.nine 9 G8 blk off size w:=fun m os dk hd x y=>(P4 x.f x.g x.t y.f y.g y.t x.x y.x _).mono fun e w' h=>⟨h.1,h.2.grow⟩
theorem sort_is (blk off cap:Nat) (dk:Array M9) (w:World) (hH:Go.Sort.HoldsK M9.nine 9 w blk off dk) (hb:blk < w.heap.size) (hsz:dk.size < 4611686018427387904):Calls prog 25 #[.slice (some ⟨blk,off,none⟩) dk.size cap,.func (.func 26) #[] #[]] w fun e w'=>e = .returned (.tuple #[])∧∃ d' q os,Go.Sort.PermIn 0 dk.size dk d'∧Go.Sort.SortedIn (Go.Proofs.ltOf G8) 0 dk.size d'∧w'=Go.Proofs.sortWorldK M9.nine 9 w blk off q d' os :=
 AnyQ.slices_SortFunc Tryz.sortTr 9 isAgg48 sizeOf48 M9.nine (fun _=>rfl) (fun x v hv=>Cf (ls:=[x]) v (by simpa using hv)) G8 Wu 26 #[] blk off cap dk w (enters_of func26 (by kernel_rfl) rfl) (Xk blk off dk.size w) hH hb hsz
theorem S8 (a:Option Addr) (cap:Nat) (fv:Value) (w:World):Calls prog 25 #[.slice a 0 cap,fv] w fun e w'=>e = .returned (.tuple #[])∧w'=w:=AnyF.slices_SortFunc_none Tryz.sortTr a cap fv w
theorem He (v0:Int) (v1:Int) (v2:Int):prog.built 63 [(0,.int .i64 v0),(1,.int .i64 v1),(2,.int .i64 v2)]=some #[.int .i64 v0,.int .i64 v1,.int .i64 v2]:=by kernel_rfl
theorem goes_21:bJ prog 21=true:=by kernel_rfl
theorem goes_25:bJ prog 25=true:=by kernel_rfl
theorem E2 {A:List (TK×PX)} {f:TK→Option Nat} {k:TK} (hfk:∀ k j,f k=some j↔∃ p,A[j]?=some p∧p.1=k) (h:f k=none):∀ p∈A,p.1≠k:=fun p hp e=>by obtain ⟨j,hj⟩:=List.getElem?_of_mem hp;have h1:=(hfk k j).2 ⟨p,hj,e⟩;rw [h] at h1;cases h1
theorem appA_ne {A:List (TK×PX)} {k:TK} {x:PX} (hne:A.Pairwise (fun p q=>p.1≠q.1)) (h:∀ p∈A,p.1≠k):(A++[(k,x)]).Pairwise (fun p q=>p.1≠q.1):=List.pairwise_append.2 ⟨hne,List.pairwise_singleton _ _,fun p hp q hq=>by rw [List.mem_singleton.1 hq];exact h p hp⟩
theorem appA_no {A:List (TK×PX)} {k:TK} (h:∀ p∈A,p.1≠k):atK A k=none:=by unfold atK;rw [List.find?_eq_none.2 fun p hp=>by simpa using h p hp];rfl
theorem appA_at {A:List (TK×PX)} {k:TK} {x:PX} (h:∀ p∈A,p.1≠k) (k2:TK):atK (A++[(k,x)]) k2=if k=k2 then some x else atK A k2:=by
 by_cases e:k=k2
 ·subst e;rw [if_pos rfl];unfold atK;rw [List.find?_append,List.find?_eq_none.2 fun p hp=>by simpa using h p hp];simp
 ·rw [if_neg e];unfold atK;rw [List.find?_append];have h1:[(k,x)].find? (fun p=>decide (p.1=k2))=none:=by simp [e]
  rw [h1,Option.or_none]
theorem appA_fk {A:List (TK×PX)} {f:TK→Option Nat} {k:TK} {x:PX} {n:Nat} (hfk:∀ k j,f k=some j↔∃ p,A[j]?=some p∧p.1=k) (hn:n=A.length) (h:f k=none) (k2:TK) (j:Nat):(if k2=k then some n else f k2)=some j↔∃ p,(A++[(k,x)])[j]?=some p∧p.1=k2:=by
 by_cases e:k2=k
 ·subst e;rw [if_pos rfl];constructor
  ·intro h1;cases h1;exact ⟨(k2,x),by rw [hn];simp,rfl⟩
  ·rintro ⟨p,hp,hk⟩;rcases Nat.lt_or_ge j A.length with hj | hj
   ·rw [List.getElem?_append_left hj] at hp;exact absurd hk (E2 hfk h p (List.mem_of_getElem? hp))
   ·have h2:=(List.getElem?_eq_some_iff.1 hp).1;rw [List.length_append,List.length_singleton] at h2;exact congrArg some (by omega)
 ·rw [if_neg e,hfk];constructor
  ·rintro ⟨p,hp,hk⟩;exact ⟨p,by rw [List.getElem?_append_left (List.getElem?_eq_some_iff.1 hp).1];exact hp,hk⟩
  ·rintro ⟨p,hp,hk⟩;rcases Nat.lt_or_ge j A.length with hj | hj
   ·rw [List.getElem?_append_left hj] at hp;exact ⟨p,hp,hk⟩
   ·rw [List.getElem?_append_right hj] at hp;have h8:=List.mem_of_getElem? hp;rw [List.mem_singleton.1 h8] at hk;exact absurd hk.symm e
theorem Xl (ds d:Nat) (s:SV) (st sy:Int) (fa:Option Addr) (fl fc:Nat) (fs:List Int) (ta:Option Addr) (tl tc:Nat) (ts:List TV) (w:World) (hin:AIn w ds d ⟨s,st,sy,fa,fl,fc,fs,ta,tl,tc,ts⟩) (S:PS) (py:TV→PX) (n:Nat) (hAx:dJ ⟨s,st,sy,fa,fl,fc,fs,ta,tl,tc,ts⟩=0→AutoOk w S py n ⟨s,st,sy,fa,fl,fc,fs,ta,tl,tc,ts⟩) (ht:Tabs w) :
  Calls prog 8 #[.agg #[.int .i64 s.f.tag,.int .i64 s.f.dim,.slice s.f.a s.f.len s.f.cap,.int .i64 st,.int .i64 sy,.slice fa fl fc,.slice ta tl tc]] w (Wr S py ⟨s,st,sy,fa,fl,fc,fs,ta,tl,tc,ts⟩ w):=by
 refine cG (args:=[.agg #[.int .i64 s.f.tag,.int .i64 s.f.dim,.slice s.f.a s.f.len s.f.cap,.int .i64 st,.int .i64 sy,.slice fa fl fc,.slice ta tl tc]]) func8 rfl ntmps8 rfl ?_;have hS:=St.start w;have htrow:mQ w ta ts:=hin.trow;have htlen:ts.length=tl:=hin.tlen;have hfrow:Row w fa fs:=hin.frow;have hflen:fs.length=fl:=hin.flen;refine aO (aQ (bY (cs:=[_,_,_,_,_,_,_]) hS rfl rfl rfl fun B1 W1 hS=>bF (cs:=[_,_,_,_,_,_,_]) hS zeroValue29 rfl rfl fun B2 W2 hS=>aB rfl rfl (aP (XF.thenN (aO (aO (aQ (aT (vs:=[_,_,_,_,_,_,_]) isAgg29 sizeOf29 rfl (aC.own (j:=0) (m:=7) (hS.at_ 1 rfl) rfl) rfl (cH (vs:=[_]) hS Ms rfl (Bq ds d ⟨s,st,sy,fa,fl,fc,fs,ta,tl,tc,ts⟩ _ (hin.below hS.below)) rfl fun W3 hS=>aB rfl rfl (aP (XF.thenN (aO (aQ (aH rfl rfl (dG rfl rfl rfl (aP (XF.thenN (bB rfl (fun hc=>?_) (fun hc=>?_)))))))))))))))))))
 ·have hc16:=of_decide_eq_true hc;clear hc;refine aO (aQ (dY (us:=[]) rfl (Wv) rfl (aH rfl rfl ?_)));refine aU (i:=0) (vs:=[_,_,_,_,_,_,_]) (cs':=[_,_,_,_,_,_,_]) (O':=[_,_]) hS sizeOf29 rfl rfl (by first | rfl | (have h0:=hS.oneV 0 _ rfl;simp only [List.all_cons,List.all_nil,Bool.and_true,Bool.and_eq_true];exact ⟨rfl,rfl,rfl,rfl,rfl,rfl,h0⟩)) rfl rfl rfl rfl fun W4 hS=>?_
  refine aB rfl rfl (aP (XF.thenN (bL (XF.thenR (XF.res (rB (vs:=[_,_,_,_,_,_,_]) results8 isAgg29 sizeOf29 rfl (aC.own (j:=0) (m:=7) (hS.at_ 0 rfl) rfl) rfl) ?_)))));exact ⟨hS.below,.inl ⟨rfl,hc16⟩⟩
 ·have hc16:=of_decide_eq_false hc;clear hc;have hE:dJ ⟨s,st,sy,fa,fl,fc,fs,ta,tl,tc,ts⟩=0:=Decidable.of_not_not hc16;have hA:=hAx hE;have htl9:tl≤65536:=hA.tl;have hfin:=xM hE;have hfl4:=Cd hfin.1;have hfl5:fl≤4096:=by have h9:(fs.length:Int)≤max st 0:=hfl4;have h8:st≤4096:=hfin.2.2;omega
  refine bP (XF.thenN (aO (aQ (aN (o':=0) iQ rfl rfl rfl (aT (vs:=[_,_,_]) isAgg25 sizeOf25 rfl (aC.own (j:=0) (m:=3) (hS.at_ 1 rfl) rfl) rfl (cS (vs:=[_]) hS O1 rfl (Eh S s.f _ (hA.si.below hS.below) hA.ok) rfl ?_))))));rintro e W5 ⟨f0,rfl,hf0,hb⟩;refine ⟨_,rfl,hb,?_⟩;clear hS;intro hS;have HZ:jC w [(W3.heap.size,W5)] (fun W2=>XIs W2 S f0 (bU S)):=jC.one (p:=fun W2=>XIs W2 S f0 (bU S)) (fun W2 hg=>(hf0.agree hg).is);refine bF (cs:=[_,_,_,_,_,_,_,_,_]) hS zeroValue57 rfl rfl fun B6 W6 hS=>?_
  refine aU (i:=0) (vs:=[_,_,_,_,_,_,_,_,_]) (cs':=[_,_,_,_,_,_,_,_,_]) (O':=[_,_,_]) hS sizeOf57 rfl rfl (by first | rfl | (have h0:=hS.oneV 0 _ rfl;simp only [List.all_cons,List.all_nil,Bool.and_true,Bool.and_eq_true];exact ⟨rfl,rfl,rfl,rfl,rfl,rfl,h0⟩)) rfl rfl rfl rfl fun W7 hS=>?_
  refine aP (XF.thenN (aO (aQ (aT (vs:=[_,_,_,_,_,_,_]) isAgg29 sizeOf29 rfl (aC.own (j:=0) (m:=7) (hS.at_ 2 rfl) rfl) rfl ?_))));refine cS (vs:=[_]) hS goes_21 rfl (Sz S ⟨s,st,sy,fa,fl,fc,fs,ta,tl,tc,ts⟩ _ (hA.si.below hS.below) hA.ok (hfrow.below hS.below) hflen (by show fl≤8192;omega)) rfl ?_;rintro e W8 ⟨sq,fa9,fc9,rfl,hsq,hfq,hb⟩;refine ⟨_,rfl,hb,?_⟩;clear hS;intro hS;have HQ:jC w [(W7.heap.size,W8)] (fun W2=>SIs W2 S sq∧Row W2 fa9 fs):=jC.one (p:=fun W2=>SIs W2 S sq∧Row W2 fa9 fs) (fun W2 hg=>⟨hsq W2 hg,hfq W2 hg⟩);refine bF (cs:=[_,_,_,_,_,_,_]) hS zeroValue29 rfl rfl fun B9 W9 hS=>?_
  refine aU (i:=0) (vs:=[_,_,_,_,_,_,_]) (cs':=[_,_,_,_,_,_,_]) (O':=[_,_,_,_]) hS sizeOf29 rfl rfl (by first | rfl | (have h0:=hS.oneV 0 _ rfl;simp only [List.all_cons,List.all_nil,Bool.and_true,Bool.and_eq_true];exact ⟨rfl,rfl,rfl,rfl,rfl,rfl,h0⟩)) rfl rfl rfl rfl fun W10 hS=>?_
  refine aP (XF.thenN (aO (aQ (Mg hS rfl ?_))));have hsz6:=hS.below.size;have hKs6:=fun q hq=>(hS.kept q hq).1.1
  clear hS;intro bM W8 hbM hlM hS;have hmt:=mI.made hbM;have hS:=hS.keep _ (fun q hq=>List.mem_cons_of_mem _ hq);have hKb:=fun (q:Nat×World) hq=>(Or.inr (Nat.le_trans (hKs6 q hq) hlM):bM < q.1∨q.2.heap.size≤bM)
  have hwb:w.heap.size≤bM:=Nat.le_trans hsz6 hlM;refine aB rfl rfl (aP (XF.thenN (aO (aO ?_))));have hS:=hS.newG 48 9;refine aQ (aN (o':=6) dB rfl rfl rfl (aR isAgg27 rfl (aK (hS.at_ 3 rfl) rfl) rfl (cL underlying27 rfl rfl (aH rfl rfl (aP (XF.thenN (bX ?_)))))));refine eJ (fun m l W=>∃ (i:Nat) (vt:Value) (ms:List M9) (A:List (TK×PX)) (f:TK→Option Nat) (nn:Nat) (K9:List (Nat×World)),i≤tl∧m=tl - i∧l=[(1,.pointer (some ⟨B1,0,none⟩)),(2,.pointer (some ⟨B2,0,none⟩)),(5,.pointer (some ⟨B6,0,none⟩)),(6,.pointer (some ⟨B9,0,none⟩)),(7,.map (some bM)),(26,.slice ta tl tc),(27,.int .i64 (tl:Int)),(28,.int .i64 (i:Int))]∧jC w K9 (fun W2=>XIs W2 S f0 (bU S))∧jC w K9 (fun W2=>SIs W2 S sq∧Row W2 fa9 fs)∧(∀ q∈K9,bM < q.1∨q.2.heap.size≤bM)∧mI bM nn f W∧nn≤i∧iY (MB w K9) S ms A∧ms.length≤i∧A.Pairwise (fun p q=>p.1≠q.1)∧(∀ k,atK A k=vK S py (ts.take i) k)∧(∀ k j,f k=some j↔∃ p,A[j]?=some p∧p.1=k)∧(∀ p∈A,p.2≠bU S)∧St w [(B9,[.int .i64 sq.tag,.int .i64 sq.dim,.slice sq.a sq.len sq.cap,.int .i64 st,.int .i64 sy,.slice fa9 fl fc9,vt],29),(B6,[.int .i64 s.f.tag,.int .i64 s.f.dim,.slice s.f.a s.f.len s.f.cap,.bool f0.z,.int .i64 f0.c,.int .u64 (f0.g:Int),.slice f0.ra f0.rl f0.rc,.slice f0.ca f0.cl f0.cc,.slice f0.pa f0.pl f0.pc],57),(B2,[.int .i64 0,.int .i64 0,.slice none 0 0,.int .i64 0,.int .i64 0,.slice none 0 0,.slice none 0 0],29),(B1,[.int .i64 s.f.tag,.int .i64 s.f.dim,.slice s.f.a s.f.len s.f.cap,.int .i64 st,.int .i64 sy,.slice fa fl fc,.slice ta tl tc],29)] [⟨vt,ms.length,ms.flatMap M9.nine,48,9⟩] K9 W) (tl - 0) ([(1,_),(2,_),(5,_),(6,_),(7,_),(26,_),(27,_),(28,_)]) ⟨rfl,rfl,rfl,rfl,rfl,rfl,rfl,rfl,trivial⟩ (⟨0,_,[],[],(fun _=>none),0,_,Nat.zero_le _,rfl,rfl,HZ.more (fun q hq=>by rw [List.mem_singleton.1 hq];simp),HQ.more (fun q hq=>by rw [List.mem_singleton.1 hq];simp),hKb,hmt,Nat.le_refl _,⟨rfl,XM.nil⟩,Nat.le_refl _,List.Pairwise.nil,(fun k=>rfl),(fun k j=>by simp),(fun p hp=>by cases hp),hS⟩) ?_;clear hS;clear HZ HQ hmt hKb;rintro m l W ⟨i,vt,ms,A,f,nn,K9,hi,rfl,rfl,HZ,HQ,hKb,hmt,hnn,hsay,hml,hne,hat,hfk,hnz,hS⟩;obtain ⟨es9,ck9,hbk9⟩:=hmt.blk;obtain ⟨W9,hW9⟩:∃ w9,w9=W:=⟨_,rfl⟩;have hS:=hS.markMap hbk9;rw [← hW9] at hmt;have hmk:(bM,oI W bM)=(bM,oI W9 bM):=by rw [hW9]
  rw [hmk] at hS;refine aO (aQ (cT rfl rfl rfl (aP (XF.thenN (aO (bB rfl (fun hc=>?_) (fun hc=>?_)))))))
  ·have hc29:=of_decide_eq_true hc;clear hc;have hk:i < tl:=by omega
   obtain ⟨r,hr⟩:∃ r,ts[i]?=some r:=⟨ts[i]'(by omega),by simp [show i < ts.length by omega]⟩;obtain ⟨b,off,rfl,hcs⟩:=htrow.at_ hr;have hmr:=List.mem_of_getElem? hr;have hpr:=hA.px r hmr;obtain ⟨fN,hfN,hfN2⟩:=lN (hA.tf r hmr);obtain ⟨tN,htN,htN2⟩:=lN (hA.tt r hmr);have hgm:=hA.tg r hmr;have hsy9:=hA.sy;have hn49:=hA.n4;obtain ⟨rf,rg,rt,rx⟩:=r;dsimp only at hpr hfN htN hgm hsy9;have hkr:KRk (rf,rg,rt):=⟨xJ (by dsimp only;omega) (by dsimp only;omega),xJ (by dsimp only;omega) (by dsimp only;omega),xJ (by dsimp only;omega) (by dsimp only;omega)⟩;dsimp only [TV.nine] at hcs;have k1:=aC.agree hS.agree (Nat.zero_le _) hcs;refine bP (XF.thenN (aO (bX (aO (aQ (cK  underlying27 sizeOf48 rfl rfl rfl (by omega) rfl rfl (aT (vs:=[_,_,_,_,_,_,_,_,_]) isAgg48 sizeOf48 rfl (k1) rfl (bF (cs:=[_,_,_,_,_,_,_,_,_]) hS zeroValue48 rfl rfl fun B11 W11 hS=>?_))))))));refine aU (i:=0) (vs:=[_,_,_,_,_,_,_,_,_]) (cs':=[_,_,_,_,_,_,_,_,_]) (O':=[_,_,_,_,_]) hS sizeOf48 rfl rfl (by first | rfl | (have h0:=hS.oneV 0 _ rfl;simp only [List.all_cons,List.all_nil,Bool.and_true,Bool.and_eq_true];exact ⟨rfl,rfl,rfl,rfl,rfl,rfl,h0⟩)) rfl rfl rfl rfl fun W12 hS=>?_
   refine aP (XF.thenN (aO (aO (aQ (aT (vs:=[_,_,_,_,_,_,_,_,_]) isAgg57 sizeOf57 rfl (aC.own (j:=0) (m:=9) (hS.at_ 2 rfl) rfl) rfl (aN (o':=3) fS rfl rfl rfl (aT (vs:=[_,_,_,_,_,_]) isAgg46 sizeOf46 rfl (aC.own (j:=3) (m:=6) (hS.at_ 0 rfl) rfl) rfl (cS (vs:=[_,_]) hS Ph rfl (tM S s.f f0 rx.f (py ⟨rf,rg,rt,rx⟩) _ (HZ hS (fun q hq=>by simp [hq])) (hpr.below hS.below)) rfl ?_))))))));rintro e W13 ⟨rfl,hb⟩;refine ⟨_,rfl,hb,?_⟩;clear hS;intro hS;refine aP (XF.thenN (bB rfl (fun hc=>?_) (fun hc=>?_)))
   ·have hc35:=hc;clear hc;have hz9:¬ nzX S (py ⟨rf,rg,rt,rx⟩)=true:=by simpa using hc35
    refine dT (XF.thenX (XF.blkX (XF.thenN (aQ (cY rfl rfl (IntWalk.i64_in _ (by omega)) rfl (aH rfl rfl (aP ?_)))))));have hmt9:=hmt.kept hS (by simp);exact XF.round (tl - (i+1)) [(1,_),(2,_),(5,_),(6,_),(7,_),(26,_),(27,_),(28,_)] (by omega) ⟨rfl,rfl,rfl,rfl,rfl,rfl,rfl,rfl,trivial⟩ ⟨i+1,vt,ms,A,f,nn,K9,by omega,rfl,rfl,HZ,HQ,hKb,hmt9,by omega,hsay,by omega,hne,(fun k=>by rw [hat k,vK_take hr,if_neg hz9];split<;>rfl),hfk,hnz,(hS.tail.keep K9 (fun q hq=>by simp [hq]))⟩
   ·have hc35:=hc;clear hc;have hz9:nzX S (py ⟨rf,rg,rt,rx⟩)=true:=by simpa using hc35
    refine bP (XF.thenN (aO (aQ (aN (o':=0) jI rfl rfl rfl (aR isAgg3 rfl (aK (hS.at_ 0 rfl) rfl) rfl (aN (o':=1) iF rfl rfl rfl (aR isAgg3 rfl (aK (hS.at_ 0 rfl) rfl) rfl (aN (o':=2) iG rfl rfl rfl (aR isAgg3 rfl (aK (hS.at_ 0 rfl) rfl) rfl (dY (us:=[(0,.int .i64 _),(1,.int .i64 _),(2,.int .i64 _)]) rfl (He _ _ _) rfl (bF (cs:=[_,_,_]) hS zeroValue63 rfl rfl fun B14 W14 hS=>?_)))))))))));refine aU (i:=0) (vs:=[_,_,_]) (cs':=[_,_,_]) (O':=[_,_,_,_,_,_]) hS sizeOf63 rfl rfl (by first | rfl | (have h0:=hS.oneV 0 _ rfl;simp only [List.all_cons,List.all_nil,Bool.and_true,Bool.and_eq_true];exact ⟨rfl,rfl,rfl,rfl,rfl,rfl,h0⟩)) rfl rfl rfl rfl fun W15 hS=>?_
    refine aP (XF.thenN (aO ?_));have hmt12:=hmt.kept hS (by simp);refine aQ (aH rfl rfl (aT (vs:=[_,_,_]) isAgg63 sizeOf63 rfl (aC.own (j:=0) (m:=3) (hS.at_ 0 rfl) rfl) rfl (Wy hmt12 hkr rfl rfl rfl (aH rfl rfl (bZ rfl rfl rfl (bZ rfl rfl rfl (aB rfl rfl (aB rfl rfl (aP (XF.thenN (aO (aQ (aH rfl rfl (aP (XF.thenN (bB rfl (fun hc=>?_) (fun hc=>?_)))))))))))))))))
    ·have hc49:=hc;clear hc;obtain ⟨j,hj⟩:∃ j,f (rf,rg,rt)=some j:=Option.isSome_iff_exists.1 hc49;obtain ⟨p9,hp9,hpk⟩:=(hfk _ j).1 hj;have hjl:j < ms.length:=by rw [hsay.len];exact (List.getElem?_eq_some_iff.1 hp9).1
     obtain ⟨q,hq⟩:∃ q,ms[j]?=some q:=⟨_,List.getElem?_eq_getElem hjl⟩;have hkey:=hsay.key hq hp9;have hfq:=hsay.far hq hp9;have hnp:=hnz p9 (List.mem_of_getElem? hp9);obtain ⟨b9,c9,e9⟩:∃ b c,vt = .slice (some ⟨b,0,none⟩) ms.length c:=by
      rcases (hS.row 0 rfl).2 with ⟨h1,h2⟩ | ⟨g,cap,cur,h1,_⟩
      ·dsimp only at h2;omega
      ·exact ⟨g,cap,h1⟩
     subst e9;have hxq:=hfq.is (MB.of hS (fun q hq=>by simp [hq]));have hxr:=hpr.below hS.below;obtain ⟨b8,o8,e8,kq⟩:=qH (hS.row 0 rfl) j q hq;injection e8 with e8
     injection e8 with e8 e7
     subst e8;subst e7;have kw:aC _ b9 (0+j * 9+3) q.x.six:=kq.2.2.2;have hbl14:=(hmt.kept hS (by simp)).lt;refine regBKC cC 16 hS rfl rfl (by kernel_rfl) (by kernel_rfl) (by kernel_rfl) (fun d hd=>by cases hd) (cE 1 rfl 6 rfl rfl (fun w hw=>aV (o':=6) dB rfl rfl) rfl (aZ 2 rfl 50 0 rfl rfl rfl (fun w hw=>bA isAgg27 rfl ((aL hw 0).cell (Nat.zero_le _) (aK (hS.at_ 2 rfl) rfl))) rfl (cE 3 rfl 11 rfl rfl (fun w hw=>aW rfl) rfl (cE 4 rfl 5 rfl rfl (fun w hw=>aY (vs:=[_,_,_,_,_,_,_,_,_]) isAgg57 sizeOf57 rfl (aC.agree (aL hw 0) (Nat.zero_le _) (aC.own (j:=0) (m:=9) (hS.at_ 3 rfl) rfl))) rfl (cE 5 rfl 6 rfl rfl (fun w hw=>aV (o':=6) dB rfl rfl) rfl (aZ 6 rfl 54 4 rfl rfl rfl (fun w hw=>bA isAgg27 rfl ((aL hw 0).cell (Nat.zero_le _) (aK (hS.at_ 2 rfl) rfl))) rfl (cE 7 rfl 11 rfl rfl (fun w hw=>aW rfl) rfl ?_)))))));refine aJ 8 rfl (isV _) (aE _) (rgV (li:=[(55,_),(56,_)]) rfl (aS rfl) ⟨aM 5 (aA rfl rfl rfl),aM 6 (aA rfl rfl rfl),trivial⟩ (fun w hw=>bE (j:=j) underlying27 sizeOf48 rfl rfl (by rw [hj];rfl) (hjl) rfl) (aF rfl)) ?_;refine aZ 9 rfl 57 7 rfl rfl rfl (fun w hw=>aV fS rfl rfl) rfl (aJ 10 rfl (isX S p9.2) (lZ) (rgP (li:=[(58,_)]) rfl (aS rfl) ⟨aM 8 (aA rfl rfl rfl),trivial⟩ (fun w hw=>aY (vs:=[_,_,_,_,_,_]) isAgg46 sizeOf46 rfl (aC.agree (aL hw 0) (Nat.zero_le _) kw)) (fun w hw=>⟨q.x,rfl,hxq.below hw⟩) (aF rfl)) (cE 11 rfl 9 rfl rfl (fun w hw=>aV (o':=3) fS rfl rfl) rfl (aJ 12 rfl (isX S (py ⟨rf,rg,rt,rx⟩)) (lZ) (rgP (li:=[(60,_)]) rfl (aS rfl) ⟨aM 10 (aA rfl rfl rfl),trivial⟩ (fun w hw=>aY (vs:=[_,_,_,_,_,_]) isAgg46 sizeOf46 rfl (aC.agree (aL hw 0) (Nat.zero_le _) (aC.own (j:=3) (m:=6) (hS.at_ 1 rfl) rfl))) (fun w hw=>⟨rx.f,rfl,hxr.below hw⟩) (aF rfl)) (aJ 13 rfl (kU S [p9.2,(py ⟨rf,rg,rt,rx⟩)]) (nW) (A6 rfl (aS rfl) ⟨bT (aM 9 (aA rfl rfl rfl)),bT (aM 11 (aA rfl rfl rfl)),trivial⟩ (aF rfl)) (aJ 14 rfl (dP W15.heap.size S (cD S p9.2 (py ⟨rf,rg,rt,rx⟩))) (dU) (cN [isV (gR s.f f0),kU S [p9.2,(py ⟨rf,rg,rt,rx⟩)]] rfl zC (aS rfl) ⟨bT (aM 3 (aA rfl rfl rfl)),bT (aM 12 (aA rfl rfl rfl)),trivial⟩ (fun vs w' hb hh=>plus2 hh (hA.si.below (hS.below.trans (hb.mono hS.below.size))) hA.ok hxq.ok (ht.below (hS.below.trans (hb.mono hS.below.size))) hb.size) (aF rfl)) ?_)))));refine aJ 15 rfl (isV _) (aE _) (rgV (li:=[(51,_),(52,_)]) rfl (aS rfl) ⟨aM 1 (aA rfl rfl rfl),aM 2 (aA rfl rfl rfl),trivial⟩ (fun w hw=>bE (j:=j) underlying27 sizeOf48 rfl rfl (by rw [hj];rfl) (hjl) rfl) (aF rfl)) ?_;refine aZ 16 rfl 64 14 rfl rfl rfl (fun w hw=>aV fS rfl rfl) rfl (dI ?_);intro W16 hbR;clear hS;intro hS;refine aG (aG (aG (aG (aG (aG (aG (aG (aG ?_))))))));refine dF ?_;intro _ _;refine aG ?_;refine dF ?_;intro _ _;refine dF ?_;intro _ _;refine dF ?_;rintro _ ⟨f9,rfl,hn9⟩;refine aG (aG ?_);have H9:jZ (MB w [(W15.heap.size,W16)]) S f9 (cD S p9.2 (py ⟨rf,rg,rt,rx⟩)):=hn9.far.mono fun W2 hW=>hW.2 _ List.mem_cons_self
     obtain ⟨KN,hKN⟩:∃ k,k=(W15.heap.size,W16)::K9:=⟨_,rfl⟩;have hKbN:∀ q∈KN,bM < q.1∨q.2.heap.size≤bM:=fun q hq=>by
      rw [hKN] at hq;rcases List.mem_cons.1 hq with rfl | hq
      ·exact .inl hbl14
      ·exact hKb q hq
     have hK9N:∀ q∈K9,q∈KN:=fun q hq=>by rw [hKN];exact List.mem_cons_of_mem _ hq
     have H9N:=H9.keep (K2:=KN) (fun q hq=>by rw [List.mem_singleton.1 hq,hKN];exact List.mem_cons_self);refine cM ?_;refine S6 (i:=0) (vs:=f9.six) hS sizeOf46 rfl rfl rfl rfl (by show 0+j * 9+3+6≤ms.length * 9;omega) fun W14 hS=>?_
     refine aP (XF.blkN (XF.thenN (aQ (cY rfl rfl (IntWalk.i64_in _ (by omega)) rfl (aH rfl rfl (aP ?_))))));have hmt9:=hmt.kept hS (by simp);have e14:eQ (ms.flatMap M9.nine) (0+j * 9+3) f9.six=(ms.set j ⟨q.f,q.g,q.t,f9⟩).flatMap M9.nine:=by have h9:=Et (cs:=[]) (g:=f9) hq;simpa using h9
     have hS9:=(hS.tail.tail.keep KN (fun q hq=>by rw [hKN] at hq;rcases List.mem_cons.1 hq with rfl | hq<;>simp [*])).castG (G':=[⟨.slice (some ⟨b9,0,none⟩) ms.length c9,(ms.set j ⟨q.f,q.g,q.t,f9⟩).length,(ms.set j ⟨q.f,q.g,q.t,f9⟩).flatMap M9.nine,48,9⟩]) (by rw [← e14,List.length_set];rfl);exact XF.round (tl - (i+1)) [(1,_),(2,_),(5,_),(6,_),(7,_),(26,_),(27,_),(28,_)] (by omega) ⟨rfl,rfl,rfl,rfl,rfl,rfl,rfl,rfl,trivial⟩ ⟨i+1,_,(ms.set j ⟨q.f,q.g,q.t,f9⟩),A.set j (p9.1,(cD S p9.2 (py ⟨rf,rg,rt,rx⟩))),f,nn,KN,by omega,rfl,rfl,HZ.more hK9N,HQ.more hK9N,hKbN,hmt9,by omega,(hsay.mono fun W2 hW=>⟨hW.1,fun q hq=>hW.2 q (hK9N q hq)⟩).set hq hp9 H9N,by rw [List.length_set];omega,P3.2 (by rw [Ex hp9];exact P3.1 hne),(fun k=>by
       rw [setA_at hne hp9 k,vK_take hr,if_pos hz9,hpk,← hat k];by_cases hk2:(rf,rg,rt)=k
       ·have h8:atK A k=some p9.2:=by rw [← hk2,← hpk];exact (G7 hne).1 (List.mem_of_getElem? hp9)
        rw [if_pos hk2,if_pos hk2,h8];rfl
       ·rw [if_neg hk2,if_neg hk2]),(fun k m=>(hfk k m).trans (setA_fk hp9 m k).symm),(fun p hp=>by
       rcases List.mem_or_eq_of_mem_set hp with h | rfl
       ·exact hnz p h
       ·exact zF hA.ok hxq.ok hpr.ok hnp),hS9⟩
    ·have hc49:=hc;clear hc;have hno:f (rf,rg,rt)=none:=by simpa using hc49
     obtain ⟨a9,c9,rfl⟩:=hS.headSl;refine aO (aQ (aH rfl rfl (aT (vs:=[_,_,_]) isAgg63 sizeOf63 rfl (aC.own (j:=0) (m:=3) (hS.at_ 0 rfl) rfl) rfl (aN (o':=6) dB rfl rfl rfl (aR isAgg27 rfl (aK (hS.at_ 2 rfl) rfl) rfl (cL underlying27 rfl rfl ?_))))));have hmt15:=hmt.kept hS (by simp);have hS:=hS.keep K9 (fun q hq=>by simp [hq]);refine op_putN hS hmt15 hkr (v:=ms.length) (by omega) (by simp only [maxLen];omega) hwb hKb rfl rfl rfl ?_;clear hS hmt15;intro W15 hS hmt15;obtain ⟨es15,ck15,hbk15⟩:=hmt15.blk;obtain ⟨W8,hW8⟩:∃ w8,w8=W15:=⟨_,rfl⟩;have hS:=hS.markMap hbk15;rw [← hW8] at hmt15;have hmk15:(bM,oI W15 bM)=(bM,oI W8 bM):=by rw [hW8]
     rw [hmk15] at hS;refine aP (XF.thenN (aO ?_));have hbl16:=(hmt15.kept hS (by simp)).lt;refine aQ (aT (vs:=[_,_,_,_,_,_,_,_,_]) isAgg57 sizeOf57 rfl (aC.own (j:=0) (m:=9) (hS.at_ 3 rfl) rfl) rfl (aN (o':=3) fS rfl rfl rfl (aT (vs:=[_,_,_,_,_,_]) isAgg46 sizeOf46 rfl (aC.own (j:=3) (m:=6) (hS.at_ 1 rfl) rfl) rfl (cS (vs:=[_,_]) hS goes_24 rfl (Ja S s.f f0 rx.f (py ⟨rf,rg,rt,rx⟩) _ (hA.si.below hS.below) hA.ok (hpr.below hS.below) (ht.below hS.below)) rfl ?_))));rintro e W17 ⟨f8,rfl,hn8,hb⟩;refine ⟨_,rfl,hb,?_⟩;clear hS;intro hS;have H9:jZ (MB w [(W15.heap.size,W17)]) S f8 (py ⟨rf,rg,rt,rx⟩):=hn8.far.mono fun W2 hW=>hW.2 _ List.mem_cons_self
     obtain ⟨KN,hKN⟩:∃ k,k=(W15.heap.size,W17)::K9:=⟨_,rfl⟩;have hKbN:∀ q∈KN,bM < q.1∨q.2.heap.size≤bM:=fun q hq=>by
      rw [hKN] at hq;rcases List.mem_cons.1 hq with rfl | hq
      ·exact .inl hbl16
      ·exact hKb q hq
     have hK9N:∀ q∈K9,q∈KN:=fun q hq=>by rw [hKN];exact List.mem_cons_of_mem _ hq
     have H9N:=H9.keep (K2:=KN) (fun q hq=>by rw [List.mem_singleton.1 hq,hKN];exact List.mem_cons_self);refine aN (o':=3) fS rfl rfl rfl ?_;refine aU (i:=1) (vs:=[_,_,_,_,_,_]) (cs':=[_,_,_,_,_,_,_,_,_]) (O':=[_,_,_,_,_,_]) hS sizeOf46 rfl rfl (by first | rfl | (have h0:=hS.oneV 0 _ rfl;simp only [List.all_cons,List.all_nil,Bool.and_true,Bool.and_eq_true];exact ⟨rfl,rfl,rfl,rfl,rfl,rfl,h0⟩)) rfl rfl rfl rfl fun W18 hS=>?_
     refine aP (XF.thenN (aQ (aN (o':=6) dB rfl rfl rfl (aR isAgg27 rfl (aK (hS.at_ 2 rfl) rfl) rfl (aT (vs:=[_,_,_,_,_,_,_,_,_]) isAgg48 sizeOf48 rfl (aC.own (j:=0) (m:=9) (hS.at_ 1 rfl) rfl) rfl (cX (us:=[(0,.agg (List.toArray [_,_,_,_,_,_,_,_,_]))]) hS underlying27 sizeOf48 zeroValue48 rfl rfl rfl (wL _ _ _ _ _ _ _ _ _) rfl fun B19 W19 hS=>?_))))));refine jS (i:=0) (news:=[_,_,_,_,_,_,_,_,_]) hS underlying27 nL rfl rfl (by show 0 < 9;decide) rfl rfl rfl rfl rfl (aC.own (j:=0) (m:=9) (hS.at_ 0 rfl) rfl) rfl rfl (by dsimp only;simp only [maxLen];omega) (by dsimp only;show _ * 120≤_;omega) rfl fun v20 W20 hS=>?_
     refine aN (o':=6) dB rfl rfl rfl (dK (i:=3) (cs':=[_,_,_,_,_,_,_]) (O':=[_,_,_,_,_,_,_]) hS sizeOf27 rfl rfl (by first | rfl | exact (hS.oneV 0 _ rfl :) | exact (hS.oneV 1 _ rfl :) | exact (hS.oneV 2 _ rfl :) | exact (hS.oneV 3 _ rfl :)) rfl rfl rfl rfl fun W21 hS=>aP (XF.blkN (XF.thenN (aQ (cY rfl rfl (IntWalk.i64_in _ (by omega)) rfl (aH rfl rfl (aP ?_)))))));have hmt9:=hmt15.kept hS (by simp);have hna:=E2 hfk hno;have hS9:=(hS.tail.tail.tail.keep KN (fun q hq=>by rw [hKN] at hq;rcases List.mem_cons.1 hq with rfl | hq<;>simp [*])).castG (G':=[⟨_,(ms++[(⟨rf,rg,rt,f8⟩:M9)]).length,(ms++[(⟨rf,rg,rt,f8⟩:M9)]).flatMap M9.nine,48,9⟩]) (by rw [List.length_append,List.flatMap_append];rfl);exact XF.round (tl - (i+1)) [(1,_),(2,_),(5,_),(6,_),(7,_),(26,_),(27,_),(28,_)] (by omega) ⟨rfl,rfl,rfl,rfl,rfl,rfl,rfl,rfl,trivial⟩ ⟨i+1,_,(ms++[(⟨rf,rg,rt,f8⟩:M9)]),A++[((rf,rg,rt),py ⟨rf,rg,rt,rx⟩)],(fun y=>if y=(rf,rg,rt) then some ms.length else f y),nn+1,KN,by omega,rfl,rfl,HZ.more hK9N,HQ.more hK9N,hKbN,hmt9,by omega,(hsay.mono fun W2 hW=>⟨hW.1,fun q hq=>hW.2 q (hK9N q hq)⟩).app rfl H9N,by rw [List.length_append,List.length_singleton];omega,appA_ne hne hna,(fun k=>by
       rw [appA_at hna k,vK_take hr,if_pos hz9,← hat k];by_cases hk2:(rf,rg,rt)=k
       ·have h8:atK A k=none:=by rw [← hk2];exact appA_no hna
        rw [if_pos hk2,if_pos hk2,h8];rfl
       ·rw [if_neg hk2,if_neg hk2]),(fun k m=>appA_fk hfk hsay.len hno k m),(fun p hp=>by
       rcases List.mem_append.1 hp with h | h
       ·exact hnz p h
       ·rw [List.mem_singleton.1 h];exact jD.1 hz9),hS9⟩
  ·have hc29:=of_decide_eq_false hc;clear hc;rw [List.take_of_length_le (by omega)] at hat;refine dT (XF.thenX (XF.thenX (XF.blkX (XF.thenN (aO (aQ (aN (o':=6) dB rfl rfl rfl (aR isAgg27 rfl (aK (hS.at_ 0 rfl) rfl) rfl (Xj (enc:=M9.nine) (cf:=G8) (dl:=ms) hS 0 goes_25 rfl rfl rfl rfl (fun _=>rfl) (by omega) sort_is S8 rfl fun ms2 W19 hpm hsr hS=>?_)))))))));obtain ⟨A2,hpA,hsay2⟩:=hsay.perm hpm;have hne2:A2.Pairwise (fun p q=>p.1≠q.1):=hpA.symm.pairwise hne (fun h=>Ne.symm h);have hcn:A2=nzK S (gP S py ts):=Ws hA.ok (fun t ht=>(hA.px t ht).ok) hne hat (say_srt hsay2 hne2 hsr) (fun p=>hpA.mem_iff);have hml2:=hpm.length_eq;have hS:=hS.castG (G':=[⟨vt,ms2.length,ms2.flatMap M9.nine,48,9⟩]) (by rw [hml2];rfl);refine aP (XF.thenN (aO (aQ (aT (vs:=[_,_,_,_,_,_,_]) isAgg29 sizeOf29 rfl (aC.own (j:=0) (m:=7) (hS.at_ 0 rfl) rfl) rfl ?_))));refine aU (i:=2) (vs:=[_,_,_,_,_,_,_]) (cs':=[_,_,_,_,_,_,_]) (O':=[_,_,_,_]) hS sizeOf29 rfl rfl (by first | rfl | (have h0:=hS.oneV 0 _ rfl;simp only [List.all_cons,List.all_nil,Bool.and_true,Bool.and_eq_true];exact ⟨rfl,rfl,rfl,rfl,rfl,rfl,h0⟩)) rfl rfl rfl rfl fun W22 hS=>?_
   refine aB rfl rfl (aP (XF.thenN (bL (XF.res (rB (vs:=[_,_,_,_,_,_,_]) results8 isAgg29 sizeOf29 rfl (aC.own (j:=0) (m:=7) (hS.at_ 2 rfl) rfl) rfl) ?_))));obtain ⟨a8,c8,rfl⟩:=hS.headSl;exact ⟨hS.below,.inr ⟨hE,sq,fa9,a8,fc9,c8,ms2,rfl,fun W2 hb hg=>⟨⟨hA.ok,(HQ (MB.st (Ch hS hb hg)) (fun q hq=>by simp [hq])).1⟩,(HQ (MB.st (Ch hS hb hg)) (fun q hq=>by simp [hq])).2,qH (fJ (hS.row 0 rfl) hg),(fun S9 e9=>by cases e9;rw [← hcn];exact hsay2.2.mono fun W3 h=>have h9:=Ch hS (hb.trans (h.mono hb.size)) (hg.trans (aL h _));⟨h9.1,fun q hq=>h9.2 q (by simp [hq])⟩),(fun h=>by cases h),by rw [← hcn];exact hsay2.1⟩⟩⟩
theorem Qb:bJ prog 10=true:=by kernel_rfl
theorem Qc:bJ prog 11=true:=by kernel_rfl
theorem goes_6:bJ prog 6=true:=by kernel_rfl
theorem goes_7:bJ prog 7=true:=by kernel_rfl
theorem goes_8:bJ prog 8=true:=by kernel_rfl
theorem goes_9:bJ prog 9=true:=by kernel_rfl
theorem yO (k:Nat) (a b:AV) (w:World) (h1:AIn w k k a) (h2:AIn w k k b) (hca:ACap k a) (hcb:ACap k b) (ht:Tabs w) :
  Calls prog 3 #[a.val,b.val] w (fun e w'=>e = .returned (.bool (true))∧Below w.heap.size w w'):=by
 refine cG (args:=[a.val,b.val]) func3 rfl ntmps3 rfl ?_;have hS:=St.start w;obtain ⟨S,py,n,hAx⟩:=Xf h1;refine aO (aQ (bY (cs:=[_,_,_,_,_,_,_]) hS rfl rfl rfl fun B1 W1 hS=>bY (cs:=[_,_,_,_,_,_,_]) hS rfl rfl rfl fun B2 W2 hS=>aB rfl rfl (aP (XF.thenN (aO (aO (iX (m:=9) cC hS (by kernel_rfl) (by kernel_rfl) rfl (cE 1 rfl 2 rfl rfl (fun w hw=>aY (vs:=[_,_,_,_,_,_,_]) isAgg29 sizeOf29 rfl (aC.agree (aL hw 0) (Nat.zero_le _) (aC.own (j:=0) (m:=7) (hS.at_ 1 rfl) rfl))) rfl ?_))))))));refine aJ 2 rfl (isV (.int .i64 (dJ a))) (aE _) (cN [isV _] rfl Ms (aS rfl) ⟨bT (aM 0 (aA rfl rfl rfl)),trivial⟩ (fun vs w' hb hh=>by have e:=bW (us:=[_]) hh;subst e;exact (Bq k k a w' (h1.below (hS.below.trans (hb.mono hS.below.size)))).mono fun e w2 h=>⟨_,h.1,rfl,h.2⟩) (aF rfl)) ?_;refine cE 3 rfl 2 rfl rfl (fun w hw=>aY (vs:=[_,_,_,_,_,_,_]) isAgg29 sizeOf29 rfl (aC.agree (aL hw 0) (Nat.zero_le _) (aC.own (j:=0) (m:=7) (hS.at_ 1 rfl) rfl))) rfl ?_;refine aJ 4 rfl (isV (.int .i64 (dJ a))) (aE _) (cN [isV _] rfl Vy (aS rfl) ⟨bT (aM 2 (aA rfl rfl rfl)),trivial⟩ (fun vs w' hb hh=>by have e:=bW (us:=[_]) hh;subst e;exact (Je k k a w' (h1.below (hS.below.trans (hb.mono hS.below.size)))).mono fun e w2 h=>⟨_,h.1,rfl,h.2⟩) (aF rfl)) ?_;refine aJ 5 rfl (isV (.bool false)) (aE _) (lG (li:=[(10,_),(12,_)]) rfl (aS rfl) ⟨aM 1 (aA rfl rfl rfl),aM 3 (aA rfl rfl rfl),trivial⟩ (fun w hw=>Ab rfl rfl) (by simp) (aF rfl)) (aZ 6 rfl 13 4 rfl rfl rfl (fun w hw=>aW rfl) rfl ?_);refine aJ 7 rfl (isV (.bool true)) (aE _) (cN [] rfl goes_6 (bD 14 rfl (aA rfl rfl rfl)) trivial (fun vs w' hb hh=>by have e:=bW (us:=[]) hh;subst e;exact (S5 w' (ht.below (hS.below.trans (hb.mono hS.below.size)))).mono fun e w2 h=>⟨_,h.1,rfl,h.2⟩) (aF rfl)) ?_;refine aJ 8 rfl (isV (.bool false)) (aE _) (lG (li:=[(15,_)]) rfl (bD 14 rfl (aA rfl rfl rfl)) ⟨aM 6 (aA rfl rfl rfl),trivial⟩ (fun w hw=>jN rfl) (rfl) (aF rfl)) (aJ 9 rfl (isV _) (aE _) (rgV (li:=[(14,_),(16,_)]) rfl (aS rfl) ⟨aM 5 (aA rfl rfl rfl),aM 7 (aA rfl rfl rfl),trivial⟩ (fun w hw=>eD rfl rfl) (aF rfl)) (dI ?_));intro W3 hbR;clear hS;intro hS;refine aG (aG (aG (aG (aG (aG (aG (aG (aG (cM (XF.thenN (tI rfl (bP (XF.thenN (aO (aO (aQ (aT (vs:=[_,_,_,_,_,_,_]) isAgg29 sizeOf29 rfl (aC.own (j:=0) (m:=7) (hS.at_ 1 rfl) rfl) rfl (cS (vs:=[_,_]) hS goes_7 rfl (S4 a none 0 0 _) rfl ?_))))))))))))))))));rintro e W4 ⟨b9,rfl,hsm,hb⟩;refine ⟨_,rfl,hb,?_⟩;clear hS;intro hS;clear hb;refine fB rfl rfl (aH rfl rfl (cB (d:=21) rfl (fun hc=>?_) (fun hc=>?_)))
 ·have hg21:=hc;clear hc;refine aD (d:=21) rfl rfl rfl rfl (aD (d:=21) rfl rfl rfl rfl (aD (d:=21) rfl rfl rfl rfl (aD (d:=21) rfl rfl rfl rfl (bC rfl rfl rfl (aP (XF.thenN (fD rfl (aO (aQ (aB rfl rfl (aP (XF.thenN (bL (XF.thenR (XF.res (cI results3 rfl) ?_)))))))))))))));exact ⟨rfl,hS.below⟩
 ·have hg21:=hc;clear hc;refine aI (d:=21) rfl rfl (aN (o':=6) dB rfl rfl rfl (aI (d:=21) rfl rfl (aR isAgg27 rfl (aK (hS.at_ 0 rfl) rfl) rfl (aI (d:=21) rfl rfl (cL underlying27 rfl rfl (aI (d:=21) rfl rfl (nZ rfl rfl rfl (bR rfl rfl rfl (aP (XF.thenN (bB rfl (fun hc=>?_) (fun hc=>?_))))))))))))
  ·have hc26:=of_decide_eq_true hc;clear hc;refine aO (aQ (aB rfl rfl (aP (XF.thenN (bL (XF.thenR (XF.res (cI results3 rfl) ?_)))))));exact ⟨rfl,hS.below⟩
  ·have hc26:=of_decide_eq_false hc;clear hc;refine bP (XF.thenN (aO ?_));have hRoot:=hS.below;have hR5:=hRoot;have ka:aC W4 B1 0 a.seven:=aC.own (j:=0) (m:=7) (hS.at_ 1 rfl) rfl;have kb:aC W4 B2 0 b.seven:=aC.own (j:=0) (m:=7) (hS.at_ 0 rfl) rfl;have hin5:=h1.below hRoot;have hjn5:=h2.below hRoot;have ht5:=ht.below hRoot;have hA5:dJ a=0→AutoOk W4 S py n a:=fun h=>(hAx h).below hRoot
   clear hS;have hS:=St.start W4;refine aQ (aT (vs:=[_,_,_,_,_,_,_]) isAgg29 sizeOf29 rfl ((aC.agree hS.agree (Nat.zero_le _) ka)) rfl (cS (vs:=[_]) hS goes_8 rfl ((Xl k k a.s a.st a.sy a.fa a.fl a.fc a.fs a.ta a.tl a.tc a.ts _ (hin5.below hS.below) S py n (fun h=>(hA5 h).below hS.below) (ht5.below hS.below)).mono fun e w2 h=>Xg h) rfl ?_));rintro e W5 ⟨q1,u1,y1,f1,l1,c1,t1,m1,k1,ns9,rfl,hm1,hb⟩;refine ⟨_,rfl,hb,?_⟩;clear hS;intro hS;refine aH rfl rfl (bZ rfl rfl rfl (bZ rfl rfl rfl (bF (cs:=[_,_,_,_,_,_,_]) hS zeroValue29 rfl rfl fun B6 W6 hS=>aU (i:=0) (vs:=[_,_,_,_,_,_,_]) (cs':=[_,_,_,_,_,_,_]) (O':=[_]) hS sizeOf29 rfl rfl rfl rfl rfl rfl rfl fun W7 hS=>aB rfl rfl (aP (XF.thenN (aO ?_))))));have hRoot:=hS.below;have hR6:=hRoot;have ka:=aC.agree hS.agree (Nat.zero_le _) ka;have kb:=aC.agree hS.agree (Nat.zero_le _) kb;have k11:aC W7 B6 0 [.int .i64 q1.tag,.int .i64 q1.dim,.slice q1.a q1.len q1.cap,.int .i64 u1,.int .i64 y1,.slice f1 l1 c1,.slice t1 m1 k1]:=aC.own (j:=0) (m:=7) (hS.at_ 0 rfl) rfl;have hin6:=hin5.below hRoot;have hjn6:=hjn5.below hRoot;have ht6:=ht5.below hRoot;have hA6:dJ a=0→AutoOk W7 S py n a:=fun h=>(hA5 h).below hRoot
   have hm1:=hm1.mono (M':=fun W2=>Below W7.heap.size W7 W2) (fun W2 hW=>⟨hRoot.trans (hW.mono hRoot.size),(hS.since 0 rfl).trans (aL hW _)⟩);clear hS;have hS:=St.start W7;refine aQ (aT (vs:=[_,_,_,_,_,_,_]) isAgg29 sizeOf29 rfl ((aC.agree hS.agree (Nat.zero_le _) ka)) rfl (cS (vs:=[_]) hS goes_9 rfl ((Xa k k a.s a.st a.sy a.fa a.fl a.fc a.fs a.ta a.tl a.tc a.ts _ (hin6.below hS.below) S py n (fun h=>(hA6 h).below hS.below)).mono fun e w2 h=>Xg h) rfl ?_));rintro e W8 ⟨q2,u2,y2,f2,l2,c2,t2,m2,k2,ms9,rfl,hm2,hb⟩;refine ⟨_,rfl,hb,?_⟩;clear hS;intro hS;refine aH rfl rfl (bZ rfl rfl rfl (bZ rfl rfl rfl (bF (cs:=[_,_,_,_,_,_,_]) hS zeroValue29 rfl rfl fun B9 W9 hS=>aU (i:=0) (vs:=[_,_,_,_,_,_,_]) (cs':=[_,_,_,_,_,_,_]) (O':=[_]) hS sizeOf29 rfl rfl rfl rfl rfl rfl rfl fun W10 hS=>aB rfl rfl (aP (XF.thenN (aO ?_))))));have hRoot:=hS.below;have hR7:=hRoot;have ka:=aC.agree hS.agree (Nat.zero_le _) ka;have kb:=aC.agree hS.agree (Nat.zero_le _) kb;have k11:=aC.agree hS.agree (Nat.zero_le _) k11;have k12:aC W10 B9 0 [.int .i64 q2.tag,.int .i64 q2.dim,.slice q2.a q2.len q2.cap,.int .i64 u2,.int .i64 y2,.slice f2 l2 c2,.slice t2 m2 k2]:=aC.own (j:=0) (m:=7) (hS.at_ 0 rfl) rfl;have hin7:=hin6.below hRoot;have hjn7:=hjn6.below hRoot;have hA7:dJ a=0→AutoOk W10 S py n a:=fun h=>(hA6 h).below hRoot
   have hm1:=hm1.mono (M':=fun W2=>Below W10.heap.size W10 W2) (fun W2 hW=>hRoot.trans (hW.mono hRoot.size));have hm2:=hm2.mono (M':=fun W2=>Below W10.heap.size W10 W2) (fun W2 hW=>⟨hRoot.trans (hW.mono hRoot.size),(hS.since 0 rfl).trans (aL hW _)⟩);clear hS;have hS:=St.start W10;refine iX (m:=23) cC hS (by kernel_rfl) (by kernel_rfl) rfl (cE 1 rfl 5 rfl rfl (fun w hw=>aY (vs:=[_,_,_,_,_,_,_]) isAgg29 sizeOf29 rfl (aC.agree (aL hw 0) (Nat.zero_le _) (k11))) rfl (cE 2 rfl 7 rfl rfl (fun w hw=>aY (vs:=[_,_,_,_,_,_,_]) isAgg29 sizeOf29 rfl (aC.agree (aL hw 0) (Nat.zero_le _) (k12))) rfl ?_));refine aJ 3 rfl (isV (.bool true)) (aE _) (cN [isV _,isV _] rfl Qb (aS rfl) ⟨bT (aM 0 (aA rfl rfl rfl)),bT (aM 1 (aA rfl rfl rfl)),trivial⟩ (fun vs w' hb hh=>by have e:=bW (us:=[_,_]) hh;subst e;exact (sameCn hm1 hm2 hA7 h1.flen (hS.below.trans (hb.mono hS.below.size)) (hS.below.trans (hb.mono hS.below.size))).mono fun e w2 h=>⟨_,h.1,rfl,h.2⟩) (aF rfl)) ?_;refine aZ 4 rfl 39 2 rfl rfl rfl (fun w hw=>aW rfl) rfl (aJ 5 rfl (isV _) (aE _) (rgV (li:=[(6,_)]) rfl (bD 40 rfl (aA rfl rfl rfl)) ⟨cJ rfl,trivial⟩ (fun w hw=>aW rfl) (aF rfl)) (aJ 6 rfl (isV _) (aE _) (rgV (li:=[(8,_)]) rfl (bD 40 rfl (aA rfl rfl rfl)) ⟨cJ rfl,trivial⟩ (fun w hw=>aW rfl) (aF rfl)) (aJ 7 rfl (isV (.bool true)) (aE _) (lG (li:=[(41,_),(42,_)]) rfl (bD 40 rfl (aA rfl rfl rfl)) ⟨aM 4 (aA rfl rfl rfl),aM 5 (aA rfl rfl rfl),trivial⟩ (fun w hw=>rA rfl rfl) (by simp) (aF rfl)) (aJ 8 rfl (isV _) (aE _) (rgV (li:=[(40,_),(43,_)]) rfl (aS rfl) ⟨aM 3 (aA rfl rfl rfl),aM 6 (aA rfl rfl rfl),trivial⟩ (fun w hw=>eC rfl rfl) (aF rfl)) (aZ 9 rfl 44 7 rfl rfl rfl (fun w hw=>aW rfl) rfl (aJ 10 rfl (isV _) (aE _) (rgV (li:=[(2,_)]) rfl (bD 45 rfl (aA rfl rfl rfl)) ⟨cJ rfl,trivial⟩ (fun w hw=>aY (vs:=[_,_,_,_,_,_,_]) isAgg29 sizeOf29 rfl (aC.agree (aL hw 0) (Nat.zero_le _) (ka))) (aF rfl)) (aJ 11 rfl (isV _) (aE _) (rgV (li:=[(3,_)]) rfl (bD 45 rfl (aA rfl rfl rfl)) ⟨cJ rfl,trivial⟩ (fun w hw=>aY (vs:=[_,_,_,_,_,_,_]) isAgg29 sizeOf29 rfl (aC.agree (aL hw 0) (Nat.zero_le _) (kb))) (aF rfl)) ?_)))))));refine aJ 12 rfl (isV (.bool (mC k a b))) (aE _) (cN [isV _,isV _] rfl Qc (bD 45 rfl (aA rfl rfl rfl)) ⟨bT (aM 9 (aA rfl rfl rfl)),bT (aM 10 (aA rfl rfl rfl)),trivial⟩ (fun vs w' hb hh=>by have e:=bW (us:=[_,_]) hh;subst e;exact (Ez a b w' (hin7.below (hS.below.trans (hb.mono hS.below.size))) (hjn7.below (hS.below.trans (hb.mono hS.below.size))) hca hcb).mono fun e w2 h=>⟨_,h.1,rfl,h.2⟩) (aF rfl)) ?_;refine aJ 13 rfl (isV _) (aE _) (rgV (li:=[(2,_)]) rfl (bD 45 rfl (aA rfl rfl rfl)) ⟨cJ rfl,trivial⟩ (fun w hw=>aY (vs:=[_,_,_,_,_,_,_]) isAgg29 sizeOf29 rfl (aC.agree (aL hw 0) (Nat.zero_le _) (ka))) (aF rfl)) (aJ 14 rfl (isV _) (aE _) (rgV (li:=[(3,_)]) rfl (bD 45 rfl (aA rfl rfl rfl)) ⟨cJ rfl,trivial⟩ (fun w hw=>aY (vs:=[_,_,_,_,_,_,_]) isAgg29 sizeOf29 rfl (aC.agree (aL hw 0) (Nat.zero_le _) (kb))) (aF rfl)) ?_);refine aJ 15 rfl (isV (.bool (mC k a b))) (aE _) (cN [isV _,isV _] rfl Qb (bD 45 rfl (aA rfl rfl rfl)) ⟨bT (aM 12 (aA rfl rfl rfl)),bT (aM 13 (aA rfl rfl rfl)),trivial⟩ (fun vs w' hb hh=>by have e:=bW (us:=[_,_]) hh;subst e;exact (xP a b w' (hin7.below (hS.below.trans (hb.mono hS.below.size))) (hjn7.below (hS.below.trans (hb.mono hS.below.size))) hca hcb).mono fun e w2 h=>⟨_,h.1,rfl,h.2⟩) (aF rfl)) ?_
   refine aJ 16 rfl (isV (.bool true)) (aE _) (lG (li:=[(48,_),(51,_)]) rfl (bD 45 rfl (aA rfl rfl rfl)) ⟨aM 11 (aA rfl rfl rfl),aM 14 (aA rfl rfl rfl),trivial⟩ (fun w hw=>Nv underlying4 rfl rfl) (by simp) (aF rfl)) (aJ 17 rfl (isV _) (aE _) (rgV (li:=[(45,_),(52,_)]) rfl (aS rfl) ⟨aM 8 (aA rfl rfl rfl),aM 15 (aA rfl rfl rfl),trivial⟩ (fun w hw=>eC rfl rfl) (aF rfl)) (aZ 18 rfl 53 16 rfl rfl rfl (fun w hw=>aW rfl) rfl (aJ 19 rfl (isV _) (aE _) (rgV (li:=[(2,_)]) rfl (bD 54 rfl (aA rfl rfl rfl)) ⟨cJ rfl,trivial⟩ (fun w hw=>aY (vs:=[_,_,_,_,_,_,_]) isAgg29 sizeOf29 rfl (aC.agree (aL hw 0) (Nat.zero_le _) (ka))) (aF rfl)) (aJ 20 rfl (isV _) (aE _) (rgV (li:=[(2,_)]) rfl (bD 54 rfl (aA rfl rfl rfl)) ⟨cJ rfl,trivial⟩ (fun w hw=>aY (vs:=[_,_,_,_,_,_,_]) isAgg29 sizeOf29 rfl (aC.agree (aL hw 0) (Nat.zero_le _) (ka))) (aF rfl)) ?_))));refine aJ 21 rfl (isV (.bool true)) (aE _) (cN [isV _,isV _] rfl Qc (bD 54 rfl (aA rfl rfl rfl)) ⟨bT (aM 18 (aA rfl rfl rfl)),bT (aM 19 (aA rfl rfl rfl)),trivial⟩ (fun vs w' hb hh=>by have e:=bW (us:=[_,_]) hh;subst e;exact ((Ev hin7▸Ez a a w' (hin7.below (hS.below.trans (hb.mono hS.below.size))) (hin7.below (hS.below.trans (hb.mono hS.below.size))) hca hca)).mono fun e w2 h=>⟨_,h.1,rfl,h.2⟩) (aF rfl)) ?_;refine aJ 22 rfl (isV _) (aE _) (rgV (li:=[(54,_),(57,_)]) rfl (aS rfl) ⟨aM 17 (aA rfl rfl rfl),aM 20 (aA rfl rfl rfl),trivial⟩ (fun w hw=>eC rfl rfl) (aF rfl)) (aZ 23 rfl 58 21 rfl rfl rfl (fun w hw=>fU rfl) rfl (dI ?_));intro W11 hbR;clear hS;intro hS;refine aG (aG (aG (aG (aG (aG (aG (aG (aG (aG (aG (aG (aG (aG (aG (aG (aG (aG (aG (aG (aG (aG (aG (cM (XF.thenN (bL (XF.res (cI results3 rfl) ?_))))))))))))))))))))))))));exact ⟨rfl,((hR5.trans (hR6.mono hR5.size)).trans (hR7.mono (Nat.le_trans hR5.size hR6.size))).trans (hS.below.mono (Nat.le_trans hR5.size (Nat.le_trans hR6.size hR7.size)))⟩
theorem Ck (n1 n2:Nat) (a b:AV) (w:World) (h1:AIn w n1 n1 a∧ACap n1 a) (h2:AIn w n2 n2 b∧ACap n2 b) (ht:Tabs w):Calls prog 3 #[a.val,b.val] w (fun e w'=>e = .returned (.bool (true))∧Below w.heap.size w w'):=yO (max n1 n2) a b w (h1.1.more (Nat.le_max_left _ _)) (h2.1.more (Nat.le_max_right _ _)) (h1.2.more (Nat.le_max_left _ _)) (h2.2.more (Nat.le_max_right _ _)) ht
end Go.Proofs.YtbmieipifgailaaGreatDoor
