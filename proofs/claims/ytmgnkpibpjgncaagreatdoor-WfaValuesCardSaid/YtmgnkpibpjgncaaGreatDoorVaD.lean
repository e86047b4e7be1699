import Derived.Lib.OwnBridge
import Derived.Test.YtmgnkpibpjgncaaGreatDoorVaC
set_option maxRecDepth 100000
set_option maxHeartbeats 4000000
set_option linter.unusedVariables false
set_option linter.unusedVariables false
set_option linter.unusedSimpArgs false
set_option linter.unusedSectionVars false
set_option linter.unnecessarySimpa false
namespace Go.Proofs.YtmgnkpibpjgncaaGreatDoor
open Go.Proofs.Tryz
open Go Go.RowKit
theorem PIs.pw {w:World} {t n:Int} {f:WF} {x:PF} (h:PIs w t n f x):fU t n f=true:=by
 obtain ⟨ez,ec,eg,er,ex⟩:=mD h.pf
 have hrl:=h.at_.rl;have hcl:=h.at_.cl;have hpl:=h.pl
 rw [er] at hrl;rw [ex] at hcl
 unfold fU iY iX
 rw [ez,ec,eg,er,ex,hpl,← hrl,← hcl]
 cases h.ok with
 | zero=>simp [dF]
 | bool ht=>rw [ht];simp [pC]
 | cost c ht h0 h1=>rw [ht];simp [pC,h0,h1]
 | facts m g rows ht hn hg=>rw [ht,hn];simp [pF,uA hg]
 | cells m cs ht hn hv=>rw [ht,hn];simp [pX,hv.chk]
theorem SIs.sin {w:World} {S:PS} {f:SF} (h:SIs w S f) (hok:S.ok):∃ s:SV,s.f=f∧SIn w 2 s∧dW s=0:=by
 cases S with
 | one t n =>
  obtain ⟨a,c,rfl⟩:=h
  exact ⟨.mk ⟨t,n,a,0,c⟩ [],rfl,⟨rfl,.inl rfl,by simp⟩,by
   show (if bI t n 0=true then (0:Int) else _)=0
   rw [if_pos (show bI t n 0=true from hok)]⟩
 | two t n u m =>
  obtain ⟨b,off,c,a1,c1,a2,c2,rfl,h1,h2⟩:=h
  refine ⟨.mk ⟨5,0,some ⟨b,off,none⟩,2,c⟩ [.mk ⟨t,n,a1,0,c1⟩ [],.mk ⟨u,m,a2,0,c2⟩ []],rfl,⟨rfl,.inr ⟨b,off,rfl,fun i p hi=>?_⟩,?_⟩,?_⟩
  ·match i,hi with
   | 0,hi=>simp at hi;subst hi;simpa [SV.f] using h1
   | 1,hi=>simp at hi;subst hi;simpa [SV.f] using h2
  ·intro p hp
   simp at hp
   rcases hp with rfl | rfl<;>exact ⟨rfl,.inl rfl,by simp⟩
  ·have e1:SV.pl (.mk ⟨t,n,a1,0,c1⟩ [])=true:=hok.1
   have e2:SV.pl (.mk ⟨u,m,a2,0,c2⟩ [])=true:=hok.2
   simp only [dW]
   rw [if_neg (by simp [bI]),if_pos ⟨trivial,trivial,rfl,by simp [e1,e2]⟩]
theorem XIs.two {w:World} {t n u m:Int} {f:WF} {a b:PF} (h:XIs w (.two t n u m) f (.two a b)):∃ (ra ca:Option Addr) (rc cc pc fb fo:Nat) (f1 f2:WF),f=⟨false,0,0,ra,0,rc,[],ca,0,cc,[],some ⟨fb,fo,none⟩,2,pc⟩∧W6 w fb fo f1∧W6 w fb (fo+6) f2∧PIs w t n f1 a∧PIs w u m f2 b:=by
 obtain ⟨h1,h2,h3,h4,blk,off,g,k,h5,h6,h7,h8,h9⟩:=h
 obtain ⟨z,c,gg,ra,rl,rc,rows,ca,cl,cc,cells,pa,pl,pc⟩:=f
 simp only [WF.pf,pC,PF.mk.injEq] at h1
 obtain ⟨rfl,rfl,rfl,rfl,rfl⟩:=h1
 dsimp only at h2 h3 h4 h5
 subst h2;subst h3;subst h4;subst h5
 exact ⟨ra,ca,rc,cc,pc,blk,off,g,k,rfl,h6,h7,h8,h9⟩
theorem vQ {w:World} {t n u m:Int} {ra ca:Option Addr} {rc cc pc fb fo:Nat} {f1 f2:WF} {a b:PF} (h6:W6 w fb fo f1) (h7:W6 w fb (fo+6) f2) (h8:PIs w t n f1 a) (h9:PIs w u m f2 b) :
  WIn w 2 (.mk ⟨false,0,0,ra,0,rc,[],ca,0,cc,[],some ⟨fb,fo,none⟩,2,pc⟩ [.mk f1 [],.mk f2 []]):=by
 refine ⟨⟨.inl rfl,rfl,(by show (0:Nat) < _;decide),(fun r hr=>by cases hr),.inl rfl,rfl,(fun c hc=>by cases hc),(by show (0:Nat)≤_;decide)⟩,rfl,.inr ⟨fb,fo,rfl,fun i p hi=>?_⟩,fun p hp=>?_⟩
 ·match i,hi with
  | 0,hi=>simp at hi;subst hi;simpa [WV.f] using h6
  | 1,hi=>simp at hi;subst hi;simpa [WV.f] using h7
 ·simp at hp
  rcases hp with rfl | rfl
  ·exact ⟨h8.at_,h8.pl.symm,.inl rfl,by simp⟩
  ·exact ⟨h9.at_,h9.pl.symm,.inl rfl,by simp⟩
theorem L7 {w:World} {t n u m:Int} {ra ca:Option Addr} {a1 a2:Option Addr} {c1 c2 rc cc pc fb fo:Nat} {f1 f2:WF} {a b:PF} (h8:PIs w t n f1 a) (h9:PIs w u m f2 b) :
  iM (.mk ⟨t,n,a1,0,c1⟩ []) (.mk ⟨u,m,a2,0,c2⟩ []) ⟨false,0,0,ra,0,rc,[],ca,0,cc,[],some ⟨fb,fo,none⟩,2,pc⟩ [.mk f1 [],.mk f2 []]=true:=by
 have e1:fU t n f1=true:=h8.pw
 have e2:fU u m f2=true:=h9.pw
 simp [iM,iY,iX,pwAt,SV.f,WV.f,e1,e2]
section
variable {w:World} {S:PS} {sf:SF} {f g:WF} {x y:PX}
theorem Oi {t n u m:Int} {b off sc:Nat} {a1 a2:Option Addr} {c1 c2:Nat} (h1:S3 w b off ⟨t,n,a1,0,c1⟩) (h2:S3 w b (off+3) ⟨u,m,a2,0,c2⟩):SIn w 2 (.mk ⟨5,0,some ⟨b,off,none⟩,2,sc⟩ [.mk ⟨t,n,a1,0,c1⟩ [],.mk ⟨u,m,a2,0,c2⟩ []]):=by
 refine ⟨rfl,.inr ⟨b,off,rfl,fun i p hi=>?_⟩,?_⟩
 ·match i,hi with
  | 0,hi=>simp at hi;subst hi;simpa [SV.f] using h1
  | 1,hi=>simp at hi;subst hi;simpa [SV.f] using h2
 ·intro p hp
  simp at hp
  rcases hp with rfl | rfl<;>exact ⟨rfl,.inl rfl,by simp⟩
theorem isA_ok (hs:SIs w S sf) (hok:S.ok) (hx:XIs w S f x):Calls prog 103 #[sf.val,f.val] w fun e w'=>e = .returned (.bool true)∧Below w.heap.size w w':=by
 cases S<;>cases x<;>first | exact hx.elim | skip
 ·obtain ⟨a,c,rfl⟩:=hs
  exact nH _ _ _ _ _ _ hok (Nat.zero_le _) w (PIs.at_ hx) true (PIs.pw hx)
 ·obtain ⟨b,off,c,a1,c1,a2,c2,rfl,h1,h2⟩:=hs
  obtain ⟨ra,ca,rc,cc,pc,fb,fo,f1,f2,rfl,h6,h7,h8,h9⟩:=hx.two
  exact D8 1 _ _ _ _ _ _ w (Oi h1 h2) hok.1 hok.2 1 (vQ h6 h7 h8 h9) (fun _ _=>Nat.zero_le _) true (L7 h8 h9)
theorem xG (hs:SIs w S sf) (hok:S.ok):Calls prog 29 #[sf.val] w fun e w'=>e = .returned (.int .i64 0)∧Below w.heap.size w w':=by
 obtain ⟨s,rfl,h1,h2⟩:=hs.sin hok
 exact wZ 2 s 0 w h1 h2
theorem wExt_is (hs:SIs w S sf) (hok:S.ok) (hx:XIs w S f x) (hy:XIs w S g y) (ht:Tabs w):Calls prog 148 #[sf.val,f.val,g.val] w (gH S (iW S x y) w):=by
 cases S<;>cases x<;>cases y<;>first | exact hx.elim | exact hy.elim | skip
 ·obtain ⟨a,c,rfl⟩:=hs
  exact uI _ _ _ _ _ _ _ _ _ hok hx hy ht
 ·obtain ⟨b,off,c,a1,c1,a2,c2,rfl,h1,h2⟩:=hs
  obtain ⟨ra,ca,rc,cc,pc,fb,fo,f1,f2,rfl,h6,h7,h8,h9⟩:=hx.two
  obtain ⟨ra',ca',rc',cc',pc',gb,go,g1,g2,rfl,h6',h7',h8',h9'⟩:=hy.two
  exact Q5 _ _ _ _ _ _ _ _ _ _ _ _ h1 h2 hok.1 hok.2 _ _ _ _ _ _ _ _ _ _ _ h6 h7 h8 h9 _ _ _ _ _ _ _ _ _ _ _ h6' h7' h8' h9' ht
theorem oneA_ok (hs:SIs w S sf) (hok:S.ok):Calls prog 125 #[sf.val] w (gH S (jW S) w):=by
 cases S with
 | one t n =>
  obtain ⟨a,c,rfl⟩:=hs
  exact uJ _ _ _ _ _ hok
 | two t n u m =>
  obtain ⟨b,off,c,a1,c1,a2,c2,rfl,h1,h2⟩:=hs
  exact Q6 _ _ _ _ _ _ _ _ _ _ _ _ h1 h2 hok.1 hok.2
theorem Il (hs:SIs w S sf) (hok:S.ok):Calls prog 107 #[sf.val] w (gH S (bP S) w):=by
 cases S with
 | one t n =>
  obtain ⟨a,c,rfl⟩:=hs
  refine (yA t n a 0 c (zB hok) w).mono ?_
  rintro e w' ⟨rfl,hb⟩
  exact ⟨tJ,rfl,oW _ _ _ _,hb⟩
 | two t n u m =>
  obtain ⟨b,off,c,a1,c1,a2,c2,rfl,h1,h2⟩:=hs
  exact L6 1 _ _ _ _ w (Oi h1 h2) hok.1 hok.2
end
theorem Oj {w:World} {base:Nat} {v:Value} {g h:WF} (hr:w.ownsRow base 44 6 v 2 (g.six++h.six)):∃ b c,v = .slice (some ⟨b,0,none⟩) 2 c∧base≤b∧W6 w b 0 g∧W6 w b 6 h:=by
 rcases hr.2 with ⟨_,h2⟩ | ⟨b,cap,cur,rfl,hb,hh,h1,h2,h3,h4⟩
 ·cases h2
 ·have key:∀ i v,(g.six++h.six)[i]?=some v→w.cell? ⟨b,i,none⟩=some v:=fun i v hi=>by
   rw [← h4,List.getElem?_take] at hi
   split at hi
   ·unfold World.cell?;simp only [hh];simpa using hi
   ·cases hi
  exact ⟨b,cap,rfl,hb,⟨key 0 _ rfl,key 1 _ rfl,key 2 _ rfl,key 3 _ rfl,key 4 _ rfl,key 5 _ rfl⟩,⟨key 6 _ rfl,key 7 _ rfl,key 8 _ rfl,key 9 _ rfl,key 10 _ rfl,key 11 _ rfl⟩⟩
theorem L8 {w W:World} {t n u m:Int} {ra ca:Option Addr} {rc cc lo1 lo2:Nat} {v:Value} {g h:WF} {x y:PF} (hb:Below w.heap.size w W) (hr:W.ownsRow w.heap.size 44 6 v 2 (g.six++h.six)) (h1:w.heap.size≤lo1) (k1:PNew lo1 W t n g x) (h2:w.heap.size≤lo2) (k2:PNew lo2 W u m h y) :
  gH (.two t n u m) (.two x y) w (.returned (.agg (List.toArray [.bool false,.int .i64 0,.int .u64 0,.slice ra 0 rc,.slice ca 0 cc,v]))) W:=by
 obtain ⟨b,c,rfl,hb0,h6,h7⟩:=Oj hr
 exact ⟨⟨false,0,0,ra,0,rc,[],ca,0,cc,[],some ⟨b,0,none⟩,2,c⟩,rfl,⟨rfl,rfl,rfl,rfl,b,g,h,rfl,hb0,h6,h7,k1.mono h1,k2.mono h2⟩,hb⟩
theorem Im (t n u m0:Int) (w:World) (fra fca:Option Addr) (frc fcc fpc fb fo:Nat) (f1 f2:WF) (x1 x2:PF) (hf6:W6 w fb fo f1) (hf7:W6 w fb (fo+6) f2) (hx1:PIs w t n f1 x1) (hx2:PIs w u m0 f2 x2) :
  Calls prog 137 #[.agg #[.bool false,.int .i64 0,.int .u64 0,.slice fra 0 frc,.slice fca 0 fcc,.slice (some ⟨fb,fo,none⟩) 2 fpc]] w (gH (.two t n u m0) (.two x1 x2) w):=by
 refine cB (args:=[.agg #[.bool false,.int .i64 0,.int .u64 0,.slice fra 0 frc,.slice fca 0 fcc,.slice (some ⟨fb,fo,none⟩) 2 fpc]]) func137 rfl ntmps137 rfl ?_
 have hS:=St.start w
 refine aJ (aQ (bR (cs:=[_,_,_,_,_,_]) hS rfl rfl rfl fun B1 W1 hS=>bB (cs:=[_,_,_,_,_,_]) hS zeroValue44 rfl rfl fun B2 W2 hS=>aN (XF.thenN (aJ (aQ (aO (o':=2) eR rfl rfl rfl (aO (o':=3) yR rfl rfl rfl (aT isAgg38 rfl (aH (hS.at_ 1 rfl) rfl) rfl (cL (vs:=[_]) hS Sw rfl (Ac _ _ [] _ (by simp) (.inl rfl) 0 rfl) rfl ?_)))))))))
 rintro e W3 ⟨v,rfl,hown,hb⟩
 refine ⟨_,rfl,hb,fun hS'=>?_⟩
 clear hS;have hS:=hS';clear hS' hb
 obtain ⟨ra1,rc1,rfl,_,_⟩:=(yC (rows:=[]) hown).2
 clear hown
 refine aO (o':=2) eR rfl rfl rfl (aO (o':=3) yR rfl rfl rfl (dS (i:=1) (cs':=[_,_,_,_,_,_]) (O':=[_,_]) hS sizeOf38 rfl rfl rfl rfl rfl rfl rfl fun W4 hS=>aN (XF.thenN (aJ (aQ (aO (o':=4) dG rfl rfl rfl (aT isAgg41 rfl (aH (hS.at_ 1 rfl) rfl) rfl (cL (vs:=[_]) hS Sx rfl (D9 _ _ [] _ (by simp) (.inl rfl) 0 rfl) rfl ?_))))))))
 rintro e W5 ⟨ca1,cc1,rfl,_,_,hb⟩
 refine ⟨_,rfl,hb,fun hS'=>?_⟩
 clear hS;have hS:=hS';clear hS' hb
 refine aO (o':=4) dG rfl rfl rfl (dS (i:=1) (cs':=[_,_,_,_,_,_]) (O':=[_,_]) hS sizeOf41 rfl rfl rfl rfl rfl rfl rfl fun W6 hS=>aN (XF.thenN (aJ (aQ (aC rfl rfl (aN (XF.thenN (aJ (aJ ?_)))))))))
 have hS:=(hS.newG 44 6).clear
 refine aQ (aO (o':=5) cW rfl rfl rfl (aT isAgg42 rfl (aH (hS.at_ 1 rfl) rfl) rfl (cX underlying42 rfl rfl (aE rfl rfl (aN (XF.thenN (bQ (eI (fun m l W=>(m=2∧l=[(1,.pointer (some ⟨B1,0,none⟩)),(2,.pointer (some ⟨B2,0,none⟩)),(3,.slice none 0 0),(17,.slice (some ⟨fb,fo,none⟩) 2 fpc),(18,.int .i64 2),(19,.int .i64 0)]∧St w [(B2,[.bool false,.int .i64 0,.int .u64 0,.slice none 0 0,.slice none 0 0,.slice none 0 0],44),(B1,[.bool false,.int .i64 0,.int .u64 0,.slice ra1 0 rc1,.slice ca1 0 cc1,.slice (some ⟨fb,fo,none⟩) 2 fpc],44)] [⟨.slice none 0 0,0,[],44,6⟩] [] W)∨(∃ v1 lo1 A1 h1,m=1∧l=[(1,.pointer (some ⟨B1,0,none⟩)),(2,.pointer (some ⟨B2,0,none⟩)),(3,v1),(17,.slice (some ⟨fb,fo,none⟩) 2 fpc),(18,.int .i64 2),(19,.int .i64 1)]∧w.heap.size≤lo1∧PNew lo1 A1 t n h1 x1∧St w [(B2,[.bool false,.int .i64 0,.int .u64 0,.slice none 0 0,.slice none 0 0,.slice none 0 0],44),(B1,[.bool false,.int .i64 0,.int .u64 0,.slice ra1 0 rc1,.slice ca1 0 cc1,.slice (some ⟨fb,fo,none⟩) 2 fpc],44)] [⟨v1,1,h1.six,44,6⟩] [(lo1,A1)] W)∨(∃ v2 lo1 A1 h1 lo2 A2 h2,m=0∧l=[(1,.pointer (some ⟨B1,0,none⟩)),(2,.pointer (some ⟨B2,0,none⟩)),(3,v2),(17,.slice (some ⟨fb,fo,none⟩) 2 fpc),(18,.int .i64 2),(19,.int .i64 2)]∧w.heap.size≤lo1∧PNew lo1 A1 t n h1 x1∧w.heap.size≤lo2∧PNew lo2 A2 u m0 h2 x2∧St w [(B2,[.bool false,.int .i64 0,.int .u64 0,.slice none 0 0,.slice none 0 0,.slice none 0 0],44),(B1,[.bool false,.int .i64 0,.int .u64 0,.slice ra1 0 rc1,.slice ca1 0 cc1,.slice (some ⟨fb,fo,none⟩) 2 fpc],44)] [⟨v2,2,h1.six++h2.six,44,6⟩] [(lo2,A2),(lo1,A1)] W)) (2) ([(1,_),(2,_),(3,_),(17,_),(18,_),(19,_)]) ⟨rfl,rfl,rfl,rfl,rfl,rfl,trivial⟩ (.inl ⟨rfl,rfl,hS⟩) ?_))))))))
 clear hS
 rintro m l W (⟨rfl,rfl,hS⟩ | ⟨v1,lo1,A1,h1,rfl,rfl,hlo1,hn1,hS⟩ | ⟨v2,lo1,A1,h1,lo2,A2,h2,rfl,rfl,hlo1,hn1,hlo2,hn2,hS⟩)
 ·have k1:=aB.agree hS.agree (Nat.zero_le _) hf6.cells
  refine aJ (aQ (cY rfl rfl rfl (aN (XF.thenN (aJ (bA rfl (fun hc=>?_) (fun hc=>absurd (of_decide_eq_false hc) (by omega))))))))
  have hc:=of_decide_eq_true hc
  refine bM (XF.thenN (aJ (bQ (aJ (aQ (cK (j:=0) underlying42 sizeOf44 rfl rfl rfl (by omega) (Nat.add_zero _) rfl (aS (vs:=[_,_,_,_,_,_]) isAgg44 sizeOf44 rfl (by assumption) rfl (bB (cs:=[_,_,_,_,_,_]) hS zeroValue44 rfl rfl fun B7 W7 hS=>aU (i:=0) (vs:=[_,_,_,_,_,_]) (cs':=[_,_,_,_,_,_]) (O':=[_,_,_]) hS sizeOf44 rfl rfl rfl rfl rfl rfl rfl fun W8 hS=>aN (XF.thenN (aQ (aE rfl rfl (aS (vs:=[_,_,_,_,_,_]) isAgg44 sizeOf44 rfl (aB.own (j:=0) (m:=6) (hS.at_ 0 rfl) rfl) rfl ?_))))))))))))
  have hsz:=hS.below.size
  refine cL (vs:=[_]) hS rA rfl (kL t n f1 _ _ (hx1.below hS.below)) rfl ?_
  rintro e W9 ⟨h1,rfl,hn,hb⟩
  refine ⟨_,rfl,hb,fun hS'=>?_⟩
  clear hS;have hS:=hS';clear hS'
  refine cN (us:=[(0,.agg (List.toArray [_,_,_,_,_,_]))]) hS underlying42 sizeOf44 zeroValue44 rfl rfl rfl (sH _ _ _ _ _ _) rfl fun B10 W10 hS=>?_
  refine mV (i:=0) (news:=[_,_,_,_,_,_]) hS underlying42 wT rfl rfl (by show 0 < 6;decide) rfl rfl rfl rfl rfl (aB.own (j:=0) (m:=6) (hS.at_ 0 rfl) rfl) rfl rfl (by dsimp only;simp only [maxLen];omega) (by dsimp only;show _ * 96≤_;omega) rfl fun v11 W11 hS=>?_
  refine aC rfl rfl (aN (XF.blkN (XF.thenN (aQ (cZ rfl rfl (IntWalk.i64_in _ (by omega)) rfl (aE rfl rfl (aN ?_)))))))
  exact XF.round 1 [(1,_),(2,_),(3,_),(17,_),(18,_),(19,_)] (by omega) ⟨rfl,rfl,rfl,rfl,rfl,rfl,trivial⟩ (.inr (.inl ⟨_,_,_,h1,rfl,rfl,hsz,hn,hS.tail.tail⟩))
 ·have k1:=aB.agree hS.agree (Nat.zero_le _) hf7.cells
  refine aJ (aQ (cY rfl rfl rfl (aN (XF.thenN (aJ (bA rfl (fun hc=>?_) (fun hc=>absurd (of_decide_eq_false hc) (by omega))))))))
  have hc:=of_decide_eq_true hc
  refine bM (XF.thenN (aJ (bQ (aJ (aQ (cK (j:=1) underlying42 sizeOf44 rfl rfl rfl (by omega) rfl rfl (aS (vs:=[_,_,_,_,_,_]) isAgg44 sizeOf44 rfl (by assumption) rfl (bB (cs:=[_,_,_,_,_,_]) hS zeroValue44 rfl rfl fun B12 W12 hS=>aU (i:=0) (vs:=[_,_,_,_,_,_]) (cs':=[_,_,_,_,_,_]) (O':=[_,_,_]) hS sizeOf44 rfl rfl rfl rfl rfl rfl rfl fun W13 hS=>aN (XF.thenN (aQ (aE rfl rfl (aS (vs:=[_,_,_,_,_,_]) isAgg44 sizeOf44 rfl (aB.own (j:=0) (m:=6) (hS.at_ 0 rfl) rfl) rfl ?_))))))))))))
  have hsz:=hS.below.size
  refine cL (vs:=[_]) hS rA rfl (kL u m0 f2 _ _ (hx2.below hS.below)) rfl ?_
  rintro e W14 ⟨h2,rfl,hn,hb⟩
  refine ⟨_,rfl,hb,fun hS'=>?_⟩
  clear hS;have hS:=hS';clear hS'
  refine cN (us:=[(0,.agg (List.toArray [_,_,_,_,_,_]))]) hS underlying42 sizeOf44 zeroValue44 rfl rfl rfl (sH _ _ _ _ _ _) rfl fun B15 W15 hS=>?_
  refine mV (i:=0) (news:=[_,_,_,_,_,_]) hS underlying42 wT rfl rfl (by show 0 < 6;decide) rfl rfl rfl rfl rfl (aB.own (j:=0) (m:=6) (hS.at_ 0 rfl) rfl) rfl rfl (by dsimp only;simp only [maxLen];omega) (by dsimp only;show _ * 96≤_;omega) rfl fun v16 W16 hS=>?_
  refine aC rfl rfl (aN (XF.blkN (XF.thenN (aQ (cZ rfl rfl (IntWalk.i64_in _ (by omega)) rfl (aE rfl rfl (aN ?_)))))))
  exact XF.round 0 [(1,_),(2,_),(3,_),(17,_),(18,_),(19,_)] (by omega) ⟨rfl,rfl,rfl,rfl,rfl,rfl,trivial⟩ (.inr (.inr ⟨_,_,_,h1,_,_,h2,rfl,rfl,hlo1,hn1,hsz,hn,hS.tail.tail⟩))
 ·skip
  refine aJ (aQ (cY rfl rfl rfl (aN (XF.thenN (aJ (bA rfl (fun hc=>absurd (of_decide_eq_true hc) (by omega)) (fun hc=>?_)))))))
  have hc:=of_decide_eq_false hc
  refine eF (XF.thenX (XF.thenX (XF.blkX (XF.thenN (aJ ?_)))))
  obtain ⟨gb,gc,rfl,hgb,hg6,hg7⟩:=Oj (hS.row 0 rfl)
  clear hgb hg6 hg7
  refine aQ (aE rfl rfl (aO (o':=5) cW rfl rfl rfl (dS (i:=1) (cs':=[_,_,_,_,_,_]) (O':=[_,_]) hS sizeOf42 rfl rfl rfl rfl rfl rfl rfl fun W17 hS=>aN (XF.thenN (aJ (aQ (aS (vs:=[_,_,_,_,_,_]) isAgg44 sizeOf44 rfl (aB.own (j:=0) (m:=6) (hS.at_ 1 rfl) rfl) rfl (aU (i:=0) (vs:=[_,_,_,_,_,_]) (cs':=[_,_,_,_,_,_]) (O':=[_,_]) hS sizeOf44 rfl rfl rfl rfl rfl rfl rfl fun W18 hS=>aN (XF.thenN (bX (XF.res (dJ (vs:=[_,_,_,_,_,_]) results137 isAgg44 sizeOf44 rfl (aB.own (j:=0) (m:=6) (hS.at_ 0 rfl) rfl)) ?_)))))))))))
  exact L8 hS.below (hS.row 0 rfl) hlo1 (hn1.agree (hS.since 1 rfl)) hlo2 (hn2.agree (hS.since 0 rfl))
section
variable {w:World} {S:PS} {sf:SF} {f g:WF} {x y:PX}
theorem Q8 (hx:XIs w S f x):Calls prog 137 #[f.val] w (gH S x w):=by
 cases S<;>cases x<;>first | exact hx.elim | skip
 ·exact kL _ _ _ _ _ hx
 ·obtain ⟨ra,ca,rc,cc,pc,fb,fo,f1,f2,rfl,h6,h7,h8,h9⟩:=hx.two
  exact Im _ _ _ _ _ _ _ _ _ _ _ _ _ _ _ _ h6 h7 h8 h9
theorem Va (hs:SIs w S sf) (hok:S.ok) (hx:XIs w S f x) (hy:XIs w S g y) (ht:Tabs w):Calls prog 108 #[sf.val,f.val,g.val] w (gH S (bZ S x y) w):=by
 cases S<;>cases x<;>cases y<;>first | exact hx.elim | exact hy.elim | skip
 ·obtain ⟨a,c,rfl⟩:=hs
  exact rP _ _ _ _ _ _ _ _ _ hok hx hy ht
 ·obtain ⟨b,off,c,a1,c1,a2,c2,rfl,h1,h2⟩:=hs
  obtain ⟨ra,ca,rc,cc,pc,fb,fo,f1,f2,rfl,h6,h7,h8,h9⟩:=hx.two
  obtain ⟨ra',ca',rc',cc',pc',gb,go,g1,g2,rfl,h6',h7',h8',h9'⟩:=hy.two
  exact L5 _ _ _ _ _ _ _ _ _ _ _ _ h1 h2 hok.1 hok.2 _ _ _ _ _ _ _ _ _ _ _ h6 h7 h8 h9 _ _ _ _ _ _ _ _ _ _ _ h6' h7' h8' h9' ht
end
def qP (w:World) (a:Option Addr) (fs:List WF):Prop:=fs=[]∨∃ b off,a=some ⟨b,off,none⟩∧∀ (i:Nat) f,fs[i]?=some f→W6 w b (off+i * 6) f
theorem qP.at_ {w:World} {a:Option Addr} {fs:List WF} (h:qP w a fs) {i:Nat} {f:WF} (hi:fs[i]?=some f):∃ b off,a=some ⟨b,off,none⟩∧W6 w b (off+i * 6) f:=by
 rcases h with rfl | ⟨b,off,ha,hc⟩
 ·simp at hi
 ·exact ⟨b,off,ha,hc i f hi⟩
def XL (w:World) (S:PS) (fs:List WF) (xs:List PX):Prop:=fs.length=xs.length∧∀ (i:Nat) f x,fs[i]?=some f→xs[i]?=some x→XIs w S f x
theorem XL.at_ {w:World} {S:PS} {fs:List WF} {xs:List PX} (h:XL w S fs xs) {k:Nat} (hk:k < fs.length):∃ f x,fs[k]?=some f∧xs[k]?=some x∧XIs w S f x :=
 ⟨fs[k],xs[k]'(by have:=h.1;omega),by simp [hk],by have:=h.1;simp [show k < xs.length by omega],h.2 k _ _ (by simp [hk]) (by have:=h.1;simp [show k < xs.length by omega])⟩
def Eb (S:PS) (x:PX) (e0:Int) (w:World) (e:Ending) (w':World):Prop:=∃ f:WF,e = .returned (.tuple #[f.val,.int .i64 e0])∧gT w.heap.size w' S f x∧Below w.heap.size w w'
theorem Ec {α β:Type} {f:β→α→β} {b:β} {xs:List α} {k:Nat} {x:α} (h:xs[k]?=some x):(xs.take (k+1)).foldl f b=f ((xs.take k).foldl f b) x:=by
 rw [List.take_add_one,h];simp [List.foldl_append]
theorem qP.below {w w':World} {a:Option Addr} {fs:List WF} (h:qP w a fs) (hb:Below w.heap.size w w'):qP w' a fs:=by
 rcases h with h | ⟨b,off,rfl,hc⟩
 ·exact .inl h
 ·exact .inr ⟨b,off,rfl,fun i f hi=>(hc i f hi).below hb⟩
theorem XL.below {w w':World} {S:PS} {fs:List WF} {xs:List PX} (h:XL w S fs xs) (hb:Below w.heap.size w w'):XL w' S fs xs:=⟨h.1,fun i f x hf hx=>(h.2 i f x hf hx).below hb⟩
theorem vR (S:PS) (sf:SF) (w:World) (hs:SIs w S sf) (hok:S.ok) (a:Option Addr) (c m:Nat) (fs:List WF) (xs:List PX) (hr:qP w a fs) (hx:XL w S fs xs) (hm:fs.length=m) (hmx:m≤9223372036854775807) :
  Calls prog 77 #[sf.val,.slice a m c] w (fun e w'=>e = .returned (.int .i64 0)∧Below w.heap.size w w'):=by
 refine cB (args:=[sf.val,.slice a m c]) func77 rfl ntmps77 rfl ?_
 have hS:=St.start w
 refine aJ (aQ (bR (cs:=[_,_,_]) hS rfl rfl rfl fun B1 W1 hS=>aC rfl rfl (aN (XF.thenN (aJ (aJ (aQ (aS (vs:=[_,_,_]) isAgg25 sizeOf25 rfl (aB.own (j:=0) (m:=3) (hS.at_ 0 rfl) rfl) rfl (cC (vs:=[_]) hS uX rfl (xG (hs.below hS.below) hok) rfl fun W2 hS=>aC rfl rfl (aN (XF.thenN (aJ (aQ (aE rfl rfl (dX rfl rfl rfl (aN (XF.thenN (bA rfl (fun hc=>absurd (of_decide_eq_true hc) (by omega)) (fun hc=>?_)))))))))))))))))))
 have hc:=of_decide_eq_false hc
 refine bM (XF.thenN (aJ (aJ (aQ (aE rfl rfl (cX underlying42 rfl rfl (aE rfl rfl (aN (XF.thenN (bQ (eI (fun q l W=>∃ k:Nat,k≤m∧q=m - k∧l=[(2,.pointer (some ⟨B1,0,none⟩)),(13,.slice a m c),(14,.int .i64 (m:Int)),(15,.int .i64 (k:Int))]∧St w [(B1,[.int .i64 sf.tag,.int .i64 sf.dim,.slice sf.a sf.len sf.cap],25)] [] [] W) (m - 0) ([(2,_),(13,_),(14,_),(15,_)]) ⟨rfl,rfl,rfl,rfl,trivial⟩ (⟨0,Nat.zero_le _,rfl,rfl,hS.clear⟩) ?_)))))))))))
 clear hS
 rintro q l W ⟨k,hkm,rfl,rfl,hS⟩
 refine aJ (aQ (cY rfl rfl rfl (aN (XF.thenN (aJ (bA rfl (fun hc=>?_) (fun hc=>?_)))))))
 ·have hc16:=of_decide_eq_true hc;clear hc
  have hk:k < m:=by omega
  obtain ⟨f,x,hf,hxk,hxx⟩:=hx.at_ (k:=k) (by omega)
  obtain ⟨b,off,rfl,h6⟩:=hr.at_ hf
  have k1:=aB.agree hS.agree (Nat.zero_le _) h6.cells
  refine bM (XF.thenN (aJ (bQ (aJ (aQ (cK  underlying42 sizeOf44 rfl rfl rfl (by omega) rfl rfl (aS (vs:=[_,_,_,_,_,_]) isAgg44 sizeOf44 rfl (by assumption) rfl (bB (cs:=[_,_,_,_,_,_]) hS zeroValue44 rfl rfl fun B3 W3 hS=>aU (i:=0) (vs:=[_,_,_,_,_,_]) (cs':=[_,_,_,_,_,_]) (O':=[_,_]) hS sizeOf44 rfl rfl rfl rfl rfl rfl rfl fun W4 hS=>aN (XF.thenN (aJ (aQ (aS (vs:=[_,_,_]) isAgg25 sizeOf25 rfl (aB.own (j:=0) (m:=3) (hS.at_ 1 rfl) rfl) rfl (aS (vs:=[_,_,_,_,_,_]) isAgg44 sizeOf44 rfl (aB.own (j:=0) (m:=6) (hS.at_ 0 rfl) rfl) rfl (cC (vs:=[_,_]) hS rB rfl (isA_ok (hs.below hS.below) hok (hxx.below hS.below)) rfl fun W5 hS=>fS rfl rfl (aN (XF.thenN (Hc rfl (bM (XF.blkN (XF.thenN (aQ ?_)))))))))))))))))))))
  refine cZ rfl rfl (IntWalk.i64_in _ (by omega)) rfl (aE rfl rfl (aN ?_))
  exact XF.round (m - (k+1)) [(2,_),(13,_),(14,_),(15,_)] (by omega) ⟨rfl,rfl,rfl,rfl,trivial⟩ ⟨k+1,by omega,rfl,rfl,hS.tail.clear⟩
 ·have hc16:=of_decide_eq_false hc;clear hc
  refine eF (XF.thenX (XF.thenX (XF.blkX (XF.thenN (aJ (aQ (aC rfl rfl (aN (XF.thenN (bX (XF.res (cQ results77 rfl) ?_)))))))))))
  exact ⟨rfl,hS.below⟩
theorem In (S:PS) (sf:SF) (w:World) (hs:SIs w S sf) (hok:S.ok) (a:Option Addr) (c m:Nat) (fs:List WF) (xs:List PX) (hr:qP w a fs) (hx:XL w S fs xs) (hm:fs.length=m) (hmx:m≤9223372036854775807) (ht:Tabs w) :
  Calls prog 82 #[sf.val,.slice a m c] w (Eb S (xs.foldl (bZ S) (bP S)) 0 w):=by
 refine cB (args:=[sf.val,.slice a m c]) func82 rfl ntmps82 rfl ?_
 have hS:=St.start w
 refine aJ (aQ (bR (cs:=[_,_,_]) hS rfl rfl rfl fun B1 W1 hS=>bB (cs:=[_,_,_,_,_,_]) hS zeroValue44 rfl rfl fun B2 W2 hS=>aC rfl rfl (aN (XF.thenN (aJ (aJ (aQ (aS (vs:=[_,_,_]) isAgg25 sizeOf25 rfl (aB.own (j:=0) (m:=3) (hS.at_ 1 rfl) rfl) rfl (aE rfl rfl (cC (vs:=[_,_]) hS E3 rfl (vR S sf _ (hs.below hS.below) hok a c m fs xs (hr.below hS.below) (hx.below hS.below) hm hmx) rfl fun W3 hS=>aC rfl rfl (aN (XF.thenN (aJ (aQ (aE rfl rfl (dX rfl rfl rfl (aN (XF.thenN (bA rfl (fun hc=>absurd (of_decide_eq_true hc) (by omega)) (fun hc=>?_))))))))))))))))))))
 have hc:=of_decide_eq_false hc
 refine bM (XF.thenN (aJ (aQ (aS (vs:=[_,_,_]) isAgg25 sizeOf25 rfl (aB.own (j:=0) (m:=3) (hS.at_ 1 rfl) rfl) rfl ?_))))
 have hsz:=hS.below.size
 refine cL (vs:=[_]) hS He rfl (Il (hs.below hS.below) hok) rfl ?_
 rintro e W4 ⟨f0,rfl,hn,hb⟩
 refine ⟨_,rfl,hb,fun hS'=>?_⟩
 clear hS;have hS:=hS';clear hS'
 refine bB (cs:=[_,_,_,_,_,_]) hS zeroValue44 rfl rfl fun B5 W5 hS=>aU (i:=0) (vs:=[_,_,_,_,_,_]) (cs':=[_,_,_,_,_,_]) (O':=[_,_,_]) hS sizeOf44 rfl rfl rfl rfl rfl rfl rfl fun W6 hS=>aN (XF.thenN (aJ (aJ (aQ (aE rfl rfl (cX underlying42 rfl rfl (aE rfl rfl (aN (XF.thenN (bQ ?_))))))))))
 refine eI (fun q l W=>∃ (k:Nat) (f0:WF) (lo:Nat) (A:World),k≤m∧q=m - k∧l=[(2,.pointer (some ⟨B1,0,none⟩)),(4,.pointer (some ⟨B2,0,none⟩)),(7,.pointer (some ⟨B5,0,none⟩)),(19,.slice a m c),(20,.int .i64 (m:Int)),(21,.int .i64 (k:Int))]∧w.heap.size≤lo∧gT lo A S f0 ((xs.take k).foldl (bZ S) (bP S))∧St w [(B5,f0.six,44),(B2,[.bool false,.int .i64 0,.int .u64 0,.slice none 0 0,.slice none 0 0,.slice none 0 0],44),(B1,[.int .i64 sf.tag,.int .i64 sf.dim,.slice sf.a sf.len sf.cap],25)] [] [(lo,A)] W) (m - 0) ([(2,_),(4,_),(7,_),(19,_),(20,_),(21,_)]) ⟨rfl,rfl,rfl,rfl,rfl,rfl,trivial⟩ (⟨0,f0,_,_,Nat.zero_le _,rfl,rfl,hsz,hn,hS.keep [_] (fun q hq=>by simp at hq;subst hq;exact List.mem_cons_self)⟩) ?_
 clear hS
 rintro q l W ⟨k,f0,lo,A,hkm,rfl,rfl,hlo,hn0,hS⟩
 refine aJ (aQ (cY rfl rfl rfl (aN (XF.thenN (aJ (bA rfl (fun hc=>?_) (fun hc=>?_)))))))
 ·have hc22:=of_decide_eq_true hc;clear hc
  have hk:k < m:=by omega
  obtain ⟨f,x,hf,hxk,hxx⟩:=hx.at_ (k:=k) (by omega)
  obtain ⟨b,off,rfl,h6⟩:=hr.at_ hf
  have k1:=aB.agree hS.agree (Nat.zero_le _) h6.cells
  refine bM (XF.thenN (aJ (bQ (aJ (aQ (cK  underlying42 sizeOf44 rfl rfl rfl (by omega) rfl rfl (aS (vs:=[_,_,_,_,_,_]) isAgg44 sizeOf44 rfl (by assumption) rfl (bB (cs:=[_,_,_,_,_,_]) hS zeroValue44 rfl rfl fun B7 W7 hS=>aU (i:=0) (vs:=[_,_,_,_,_,_]) (cs':=[_,_,_,_,_,_]) (O':=[_,_,_,_]) hS sizeOf44 rfl rfl rfl rfl rfl rfl rfl fun W8 hS=>aN (XF.thenN (aQ (aS (vs:=[_,_,_]) isAgg25 sizeOf25 rfl (aB.own (j:=0) (m:=3) (hS.at_ 3 rfl) rfl) rfl (aS (vs:=[_,_,_,_,_,_]) isAgg44 sizeOf44 rfl (aB.own (j:=0) (m:=6) (hS.at_ 1 rfl) rfl) rfl (aS (vs:=[_,_,_,_,_,_]) isAgg44 sizeOf44 rfl (aB.own (j:=0) (m:=6) (hS.at_ 0 rfl) rfl) rfl ?_)))))))))))))
  have hsz2:=hS.below.size
  have hb0:=hS.below
  refine cL (vs:=[_,_,_]) hS zQ rfl (Va (hs.below hS.below) hok ((hn0.agree (hS.since 0 rfl)).is) (hxx.below hS.below) (ht.below hS.below)) rfl ?_
  rintro e W9 ⟨f2,rfl,hn2,hb⟩
  refine ⟨_,rfl,hb,fun hS'=>?_⟩
  clear hS;have hS:=hS';clear hS'
  refine aU (i:=1) (vs:=[_,_,_,_,_,_]) (cs':=[_,_,_,_,_,_]) (O':=[_,_,_,_]) hS sizeOf44 rfl rfl rfl rfl rfl rfl rfl fun W10 hS=>aN (XF.blkN (XF.thenN (aQ (cZ rfl rfl (IntWalk.i64_in _ (by omega)) rfl (aE rfl rfl (aN ?_))))))
  exact XF.round (m - (k+1)) [(2,_),(4,_),(7,_),(19,_),(20,_),(21,_)] (by omega) ⟨rfl,rfl,rfl,rfl,rfl,rfl,trivial⟩ ⟨k+1,f2,_,_,by omega,rfl,rfl,hsz2,by rw [Ec hxk];exact hn2,hS.tail.keep [_] (fun q hq=>by simp at hq;subst hq;exact List.mem_cons_self)⟩
 ·have hc22:=of_decide_eq_false hc;clear hc
  refine eF (XF.thenX (XF.thenX (XF.blkX (XF.thenN (aJ (aQ (aS (vs:=[_,_,_,_,_,_]) isAgg44 sizeOf44 rfl (aB.own (j:=0) (m:=6) (hS.at_ 0 rfl) rfl) rfl (aU (i:=1) (vs:=[_,_,_,_,_,_]) (cs':=[_,_,_,_,_,_]) (O':=[_,_,_]) hS sizeOf44 rfl rfl rfl rfl rfl rfl rfl fun W11 hS=>aC rfl rfl (aN (XF.thenN (bX (XF.res (mG (vs:=[_,_,_,_,_,_]) results82 isAgg44 sizeOf44 rfl (aB.own (j:=0) (m:=6) (hS.at_ 1 rfl) rfl) rfl) ?_))))))))))))
  have e1:xs.take k=xs:=List.take_of_length_le (by have:=hx.1;omega)
  rw [e1] at hn0
  exact ⟨f0,rfl,(hn0.agree (hS.since 0 rfl)).mono hlo,hS.below⟩
theorem XL.tail {w:World} {S:PS} {f:WF} {fs:List WF} {x:PX} {xs:List PX} (h:XL w S (f::fs) (x::xs)):XL w S fs xs :=
 ⟨by have:=h.1;simpa using this,fun i g y hg hy=>h.2 (i+1) g y (by simpa using hg) (by simpa using hy)⟩
theorem qP.tail {w:World} {a a':Option Addr} {f:WF} {fs:List WF} {m c:Nat} (h:qP w a (f::fs)) (hm:fs.length+1=m) (hmc:m≤c) (h1:c=1→a'=a) (h2:c≠1→a'=a.map (·.add (1 * 6))):qP w a' fs:=by
 by_cases hc:c=1
 ·exact .inl (List.eq_nil_of_length_eq_zero (by omega))
 ·rcases h with h | ⟨b,off,rfl,hh⟩
  ·cases h
  ·refine .inr ⟨b,off+6,by rw [h2 hc,Option.map_some,Addr.add_lit],fun i g hg=>?_⟩
   have:=hh (i+1) g (by simpa using hg)
   rwa [show off+(i+1) * 6=off+6+i * 6 by omega] at this
theorem L9 (S:PS) (sf:SF) (w:World) (hs:SIs w S sf) (hok:S.ok) (a:Option Addr) (c m:Nat) (f0:WF) (x0:PX) (ft:List WF) (xt:List PX) (hr:qP w a (f0::ft)) (hx:XL w S (f0::ft) (x0::xt)) (hm:ft.length+1=m) (hmc:m≤c) (hmx:m≤9223372036854775807) (ht:Tabs w) :
  Calls prog 126 #[sf.val,.slice a m c] w (Eb S (xt.foldl (iW S) x0) 0 w):=by
 refine cB (args:=[sf.val,.slice a m c]) func126 rfl ntmps126 rfl ?_
 have hS:=St.start w
 refine aJ (aQ (bR (cs:=[_,_,_]) hS rfl rfl rfl fun B1 W1 hS=>bB (cs:=[_,_,_,_,_,_]) hS zeroValue44 rfl rfl fun B2 W2 hS=>aC rfl rfl (aN (XF.thenN (aJ (aJ (aQ (aS (vs:=[_,_,_]) isAgg25 sizeOf25 rfl (aB.own (j:=0) (m:=3) (hS.at_ 1 rfl) rfl) rfl (aE rfl rfl (cC (vs:=[_,_]) hS E3 rfl (vR S sf _ (hs.below hS.below) hok a c m _ _ (hr.below hS.below) (hx.below hS.below) (by simpa using hm) hmx) rfl fun W3 hS=>aC rfl rfl (aN (XF.thenN (aJ (aQ (aE rfl rfl (dX rfl rfl rfl (aN (XF.thenN (bA rfl (fun hc=>absurd (of_decide_eq_true hc) (by omega)) (fun hc=>?_))))))))))))))))))))
 have hc:=of_decide_eq_false hc
 refine bM (XF.thenN (aJ (aJ (aQ (aE rfl rfl (cX underlying42 rfl rfl (cG rfl rfl rfl (aN (XF.thenN (bA rfl (fun hc=>absurd (of_decide_eq_true hc) (by omega)) (fun hc=>?_)))))))))))
 have hc:=of_decide_eq_false hc
 refine bM (XF.thenN (aJ ?_))
 obtain ⟨b,off,rfl,h6⟩:=hr.at_ (i:=0) rfl
 have k0:aB W3 b off f0.six:=aB.agree hS.agree (Nat.zero_le _) (show W6 w b off f0 by simpa using h6).cells
 have hsz:=hS.below.size
 refine aQ (aE rfl rfl (cK (j:=0) underlying42 sizeOf44 rfl rfl rfl (by omega) (Nat.add_zero _) rfl (aS (vs:=[_,_,_,_,_,_]) isAgg44 sizeOf44 rfl (by assumption) rfl (cL (vs:=[_]) hS rA rfl (Q8 ((hx.2 0 f0 x0 rfl rfl).below hS.below)) rfl ?_))))
 rintro e W4 ⟨f1,rfl,hn,hb⟩
 refine ⟨_,rfl,hb,fun hS'=>?_⟩
 clear hS;have hS:=hS';clear hS'
 refine bB (cs:=[_,_,_,_,_,_]) hS zeroValue44 rfl rfl fun B5 W5 hS=>aU (i:=0) (vs:=[_,_,_,_,_,_]) (cs':=[_,_,_,_,_,_]) (O':=[_,_,_]) hS sizeOf44 rfl rfl rfl rfl rfl rfl rfl fun W6 hS=>aN (XF.thenN (aJ (aJ (aQ (aE rfl rfl (uU (j:=1) underlying42 sizeOf44 rfl rfl rfl (by omega) rfl ?_))))))
 intro ad7 hadE7 hadN7
 have hrt:=qP.tail hr hm hmc hadE7 hadN7
 have hxt:=XL.tail hx
 clear hadE7 hadN7
 refine cX underlying42 rfl rfl (aE rfl rfl (aN (XF.thenN (bQ ?_))))
 refine eI (fun q l W=>∃ (k:Nat) (g:WF) (lo:Nat) (A:World),k≤m - 1∧q=m - 1 - k∧l=[(2,.pointer (some ⟨B1,0,none⟩)),(4,.pointer (some ⟨B2,0,none⟩)),(7,.pointer (some ⟨B5,0,none⟩)),(27,.slice ad7 (m - 1) (c - 1)),(28,.int .i64 ((m - 1:Nat):Int)),(29,.int .i64 (k:Int))]∧w.heap.size≤lo∧gT lo A S g ((xt.take k).foldl (iW S) x0)∧St w [(B5,g.six,44),(B2,[.bool false,.int .i64 0,.int .u64 0,.slice none 0 0,.slice none 0 0,.slice none 0 0],44),(B1,[.int .i64 sf.tag,.int .i64 sf.dim,.slice sf.a sf.len sf.cap],25)] [] [(lo,A)] W) (m - 1 - 0) ([(2,_),(4,_),(7,_),(27,_),(28,_),(29,_)]) ⟨rfl,rfl,rfl,rfl,rfl,rfl,trivial⟩ (⟨0,f1,_,_,Nat.zero_le _,rfl,rfl,hsz,hn,hS.keep [_] (fun q hq=>by simp at hq;subst hq;exact List.mem_cons_self)⟩) ?_
 clear hS
 rintro q l W ⟨k,g,lo,A,hkm,rfl,rfl,hlo,hn0,hS⟩
 refine aJ (aQ (cY rfl rfl rfl (aN (XF.thenN (aJ (bA rfl (fun hc=>?_) (fun hc=>?_)))))))
 ·have hc30:=of_decide_eq_true hc;clear hc
  have hk:k < m - 1:=by omega
  obtain ⟨f,x,hf,hxk,hxx⟩:=hxt.at_ (k:=k) (by omega)
  obtain ⟨b2,off2,rfl,h62⟩:=hrt.at_ hf
  have k1:=aB.agree hS.agree (Nat.zero_le _) h62.cells
  refine bM (XF.thenN (aJ (bQ (aJ (aQ (cK  underlying42 sizeOf44 rfl rfl rfl (by omega) rfl rfl (aS (vs:=[_,_,_,_,_,_]) isAgg44 sizeOf44 rfl (by assumption) rfl (bB (cs:=[_,_,_,_,_,_]) hS zeroValue44 rfl rfl fun B8 W8 hS=>aU (i:=0) (vs:=[_,_,_,_,_,_]) (cs':=[_,_,_,_,_,_]) (O':=[_,_,_,_]) hS sizeOf44 rfl rfl rfl rfl rfl rfl rfl fun W9 hS=>aN (XF.thenN (aQ (aS (vs:=[_,_,_]) isAgg25 sizeOf25 rfl (aB.own (j:=0) (m:=3) (hS.at_ 3 rfl) rfl) rfl (aS (vs:=[_,_,_,_,_,_]) isAgg44 sizeOf44 rfl (aB.own (j:=0) (m:=6) (hS.at_ 1 rfl) rfl) rfl (aS (vs:=[_,_,_,_,_,_]) isAgg44 sizeOf44 rfl (aB.own (j:=0) (m:=6) (hS.at_ 0 rfl) rfl) rfl ?_)))))))))))))
  have hsz2:=hS.below.size
  refine cL (vs:=[_,_,_]) hS zR rfl (wExt_is (hs.below hS.below) hok ((hn0.agree (hS.since 0 rfl)).is) (hxx.below hS.below) (ht.below hS.below)) rfl ?_
  rintro e W10 ⟨f2,rfl,hn2,hb⟩
  refine ⟨_,rfl,hb,fun hS'=>?_⟩
  clear hS;have hS:=hS';clear hS'
  refine aU (i:=1) (vs:=[_,_,_,_,_,_]) (cs':=[_,_,_,_,_,_]) (O':=[_,_,_,_]) hS sizeOf44 rfl rfl rfl rfl rfl rfl rfl fun W11 hS=>aN (XF.blkN (XF.thenN (aQ (cZ rfl rfl (IntWalk.i64_in _ (by omega)) rfl (aE rfl rfl (aN ?_))))))
  exact XF.round (m - 1 - (k+1)) [(2,_),(4,_),(7,_),(27,_),(28,_),(29,_)] (by omega) ⟨rfl,rfl,rfl,rfl,rfl,rfl,trivial⟩ ⟨k+1,f2,_,_,by omega,rfl,rfl,hsz2,by rw [Ec hxk];exact hn2,hS.tail.keep [_] (fun q hq=>by simp at hq;subst hq;exact List.mem_cons_self)⟩
 ·have hc30:=of_decide_eq_false hc;clear hc
  refine eF (XF.thenX (XF.thenX (XF.blkX (XF.thenN (aJ (aQ (aS (vs:=[_,_,_,_,_,_]) isAgg44 sizeOf44 rfl (aB.own (j:=0) (m:=6) (hS.at_ 0 rfl) rfl) rfl (aU (i:=1) (vs:=[_,_,_,_,_,_]) (cs':=[_,_,_,_,_,_]) (O':=[_,_,_]) hS sizeOf44 rfl rfl rfl rfl rfl rfl rfl fun W12 hS=>aC rfl rfl (aN (XF.thenN (bX (XF.res (mG (vs:=[_,_,_,_,_,_]) results126 isAgg44 sizeOf44 rfl (aB.own (j:=0) (m:=6) (hS.at_ 1 rfl) rfl) rfl) ?_))))))))))))
  have e1:xt.take k=xt:=List.take_of_length_le (by have:=hxt.1;omega)
  rw [e1] at hn0
  exact ⟨g,rfl,(hn0.agree (hS.since 0 rfl)).mono hlo,hS.below⟩
theorem OneW_ok (S:PS) (sf:SF) (w:World) (hs:SIs w S sf) (hok:S.ok) :
  Calls prog 97 #[sf.val] w (Eb S (jW S) 0 w):=by
 refine cB (args:=[sf.val]) func97 rfl ntmps97 rfl ?_
 have hS:=St.start w
 refine aJ (aQ (bR (cs:=[_,_,_]) hS rfl rfl rfl fun B1 W1 hS=>bB (cs:=[_,_,_,_,_,_]) hS zeroValue44 rfl rfl fun B2 W2 hS=>aC rfl rfl (aN (XF.thenN (aJ (aJ (aQ (aS (vs:=[_,_,_]) isAgg25 sizeOf25 rfl (aB.own (j:=0) (m:=3) (hS.at_ 1 rfl) rfl) rfl (cC (vs:=[_]) hS uX rfl (xG (hs.below hS.below) hok) rfl fun W3 hS=>aC rfl rfl (aN (XF.thenN (aJ (aQ (aE rfl rfl (dX rfl rfl rfl (aN (XF.thenN (bA rfl (fun hc=>absurd (of_decide_eq_true hc) (by omega)) (fun hc=>?_)))))))))))))))))))
 have hc:=of_decide_eq_false hc
 refine bM (XF.thenN (aJ (aQ (aS (vs:=[_,_,_]) isAgg25 sizeOf25 rfl (aB.own (j:=0) (m:=3) (hS.at_ 1 rfl) rfl) rfl ?_))))
 have hsz:=hS.below.size
 refine cL (vs:=[_]) hS zN rfl (oneA_ok (hs.below hS.below) hok) rfl ?_
 rintro e W4 ⟨f,rfl,hn,hb⟩
 refine ⟨_,rfl,hb,fun hS'=>?_⟩
 clear hS;have hS:=hS';clear hS'
 refine aU (i:=0) (vs:=[_,_,_,_,_,_]) (cs':=[_,_,_,_,_,_]) (O':=[_,_]) hS sizeOf44 rfl rfl rfl rfl rfl rfl rfl fun W5 hS=>aC rfl rfl (aN (XF.thenN (bX (XF.res (mG (vs:=[_,_,_,_,_,_]) results97 isAgg44 sizeOf44 rfl (aB.own (j:=0) (m:=6) (hS.at_ 0 rfl) rfl) rfl) ?_))))
 exact ⟨f,rfl,(hn.agree (hS.since 0 rfl)).mono hsz,hS.below⟩
theorem Io (S:PS) (sf:SF) (w:World) (hs:SIs w S sf) (hok:S.ok) :
  Calls prog 79 #[sf.val] w (Eb S (bP S) 0 w):=by
 refine cB (args:=[sf.val]) func79 rfl ntmps79 rfl ?_
 have hS:=St.start w
 refine aJ (aQ (bR (cs:=[_,_,_]) hS rfl rfl rfl fun B1 W1 hS=>bB (cs:=[_,_,_,_,_,_]) hS zeroValue44 rfl rfl fun B2 W2 hS=>aC rfl rfl (aN (XF.thenN (aJ (aJ (aQ (aS (vs:=[_,_,_]) isAgg25 sizeOf25 rfl (aB.own (j:=0) (m:=3) (hS.at_ 1 rfl) rfl) rfl (cC (vs:=[_]) hS uX rfl (xG (hs.below hS.below) hok) rfl fun W3 hS=>aC rfl rfl (aN (XF.thenN (aJ (aQ (aE rfl rfl (dX rfl rfl rfl (aN (XF.thenN (bA rfl (fun hc=>absurd (of_decide_eq_true hc) (by omega)) (fun hc=>?_)))))))))))))))))))
 have hc:=of_decide_eq_false hc
 refine bM (XF.thenN (aJ (aQ (aS (vs:=[_,_,_]) isAgg25 sizeOf25 rfl (aB.own (j:=0) (m:=3) (hS.at_ 1 rfl) rfl) rfl ?_))))
 have hsz:=hS.below.size
 refine cL (vs:=[_]) hS He rfl (Il (hs.below hS.below) hok) rfl ?_
 rintro e W4 ⟨f,rfl,hn,hb⟩
 refine ⟨_,rfl,hb,fun hS'=>?_⟩
 clear hS;have hS:=hS';clear hS'
 refine aU (i:=0) (vs:=[_,_,_,_,_,_]) (cs':=[_,_,_,_,_,_]) (O':=[_,_]) hS sizeOf44 rfl rfl rfl rfl rfl rfl rfl fun W5 hS=>aC rfl rfl (aN (XF.thenN (bX (XF.res (mG (vs:=[_,_,_,_,_,_]) results79 isAgg44 sizeOf44 rfl (aB.own (j:=0) (m:=6) (hS.at_ 0 rfl) rfl) rfl) ?_))))
 exact ⟨f,rfl,(hn.agree (hS.since 0 rfl)).mono hsz,hS.below⟩
def smN:Nat→WV→Bool
 | 0,_=>false
 | k+1,.mk f ps=>decide (f.rl≤70) && (decide (f.cl≤70) && (decide (f.pl≤3) && ps.all (smN k)))
theorem dB {α:Type} {l:List α} {q:α→Bool} {i:Nat} {x:α} (h:l[i]?=some x) (hq:q x=false):l.all q=false:=by
 rw [List.all_eq_false];exact ⟨x,List.mem_of_getElem? h,by rw [hq];decide⟩
theorem fP {α:Type} {l:List α} {q:α→Bool} {i:Nat} {x:α} (h:l[i]?=some x) (ha:(l.take i).all q=true) (hq:q x=true):(l.take (i+1)).all q=true:=by
 rw [List.take_add_one,h];simp [ha,hq]
def okW (s:SV) (x:WV):Bool:=if bI s.f.tag s.f.dim s.f.len=true then fU s.f.tag s.f.dim x.f else match s.ps with | [p,q]=>iM p q x.f x.ps | _=>false
def lT (s:SV) (x:WV):Int:=if dW s=0 then (if okW s x=true then 0 else 51) else dW s
theorem kM {r:Bool} {C:Prop} (hr:r=true↔C) (h:¬ C):false=r:=by
 cases r
 ·rfl
 ·exact absurd (hr.1 rfl) h
theorem r_true {r:Bool} {C:Prop} (hr:r=true↔C) (h:C):true=r:=(hr.2 h).symm
theorem Ip {W:World} {B:Nat} {T:TypeId} {f g:WF} (h:W.heap[B]?=some (.cells (List.toArray (f.six++g.six)) T (0,0))):qP W (some ⟨B,0,none⟩) [f,g] :=
 .inr ⟨B,0,rfl,fun i k hi=>by
  match i,hi with
  | 0,hi=>simp at hi;subst hi;exact W6.of_cells (aB.own (j:=0) (m:=6) h rfl)
  | 1,hi=>simp at hi;subst hi;exact W6.of_cells (aB.own (j:=6) (m:=6) h rfl)⟩
theorem sS {w:World} {S:PS} {f:WF} {x:PX} {fs:List WF} {xs:List PX} (h:XIs w S f x) (hx:XL w S fs xs):XL w S (f::fs) (x::xs) :=
 ⟨by simp [hx.1],fun i g y hg hy=>by
  match i,hg,hy with
  | 0,hg,hy=>simp at hg hy;subst hg;subst hy;exact h
  | i+1,hg,hy=>exact hx.2 i g y (by simpa using hg) (by simpa using hy)⟩
theorem Ma {w:World} {S:PS}:XL w S [] []:=⟨rfl,fun i g y hg=>by simp at hg⟩
end Go.Proofs.YtmgnkpibpjgncaaGreatDoor
namespace Go.Proofs.YtmgnkpibpjgncaaGreatDoor
open Go.Proofs.Tryz
open Go.RowKit
set_option linter.unusedSimpArgs false
def pc:Nat→Nat→Nat
 | 0,_=>0
 | n+1,f=>pc n f+(if f.testBit n then 1 else 0)
theorem Iq:∀ n f,pc n f≤n
 | 0,_=>Nat.le_refl _
 | n+1,f=>by
  have:=Iq n f
  unfold pc
  split<;>omega
theorem F9:∀ {n a b:Nat},(∀ i,i < n→a.testBit i=true→b.testBit i=true)→pc n a≤pc n b
 | 0,_,_,_=>Nat.le_refl _
 | n+1,a,b,h=>by
  have ih:=F9 (n:=n) (a:=a) (b:=b) (fun i hi=>h i (by omega))
  unfold pc
  cases ha:a.testBit n
  ·simp;omega
  ·rw [h n (by omega) ha];simp;omega
theorem Vb:∀ {n a b:Nat},(∀ i,i < n→a.testBit i=true→b.testBit i=true)→(∃ i,i < n∧a.testBit i=false∧b.testBit i=true)→pc n a < pc n b
 | 0,_,_,_,h=>by obtain ⟨i,hi,_⟩:=h;omega
 | n+1,a,b,h,hx=>by
  obtain ⟨i,hi,ha,hb⟩:=hx
  rcases Nat.lt_or_ge i n with h1 | h1
  ·have ih:=Vb (n:=n) (a:=a) (b:=b) (fun i hi=>h i (by omega)) ⟨i,h1,ha,hb⟩
   unfold pc
   cases ha2:a.testBit n
   ·simp;omega
   ·rw [h n (by omega) ha2];simp;omega
  ·obtain rfl:i=n:=by omega
   have ih:=F9 (n:=i) (a:=a) (b:=b) (fun j hj=>h j (by omega))
   unfold pc
   rw [ha,hb];simp;omega
def kN (n:Nat) (c:Cl):Nat:=if c.k=2 then n+2 else pc n c.f+(if c.k=1 then 1 else 0)
def rQ (n:Nat):List Cl→Nat
 | []=>0
 | c::r=>kN n c+rQ n r
theorem rank_le (n:Nat) (c:Cl):kN n c≤n+2:=by
 have:=Iq n c.f
 unfold kN
 split
 ·exact Nat.le_refl _
 ·split<;>omega
theorem Ir (n:Nat):∀ xs:List Cl,rQ n xs≤xs.length * (n+2)
 | []=>by simp [rQ]
 | c::r=>by
  have h1:=Ir n r
  have h2:=rank_le n c
  simp [rQ,Nat.add_mul];omega
theorem rank_up {n:Nat} {a b:Cl} (hn:n≤64) (ha:jV n a=true) (hb:jV n b=true) (h:join a b=b):a=b∨kN n a < kN n b:=by
 obtain ⟨fa,ka⟩:=iG.1 ha
 obtain ⟨fb,kb⟩:=iG.1 hb
 have oa:a.ok:=⟨lR hn fa,ka⟩
 have ob:b.ok:=⟨lR hn fb,kb⟩
 have fbit:∀ {f g:Nat},f < 2 ^ n→g < 2 ^ n→f ||| g=g→f=g∨pc n f < pc n g:=by
  intro f g hf hg hor
  by_cases e:f=g
  ·exact .inl e
  ·right
   have hsub:∀ i,f.testBit i=true→g.testBit i=true:=fun i hi=>by rw [← hor,Nat.testBit_or,hi];rfl
   refine Vb (fun i _=>hsub i) ?_
   apply Classical.byContradiction
   intro hno
   apply e
   apply Nat.eq_of_testBit_eq
   intro i
   cases h1:f.testBit i
   ·cases h2:g.testBit i
    ·rfl
    ·exfalso
     apply hno
     refine ⟨i,?_,h1,h2⟩
     rcases Nat.lt_or_ge i n with h3 | h3
     ·exact h3
     ·rw [Nat.testBit_lt_two_pow (Nat.lt_of_lt_of_le hg (Nat.pow_le_pow_right (by decide) h3))] at h2
      cases h2
   ·exact (hsub i h1).symm
 have hp:=Iq n a.f
 rcases iR oa with ⟨f,rfl⟩ | ⟨f,v,rfl⟩ | rfl<;>rcases iR ob with ⟨f2,rfl⟩ | ⟨f2,v2,rfl⟩ | rfl
 ·simp [join,joinK,dU] at h
  rcases fbit fa fb h with rfl | h2
  ·exact .inl rfl
  ·right;simpa [kN] using h2
 ·simp [join,joinK,dU] at h
  rcases fbit fa fb h with rfl | h2
  ·right;simp [kN]
  ·right;simp [kN];simp at h2;omega
 ·right;simp [kN,jQ];simp at hp;omega
 ·simp [join,joinK,dU] at h
 ·simp only [join,joinK,dU,Cl.mk.injEq] at h
  by_cases hv:v=v2
  ·subst hv
   simp at h
   rcases fbit fa fb h with rfl | h2
   ·exact .inl rfl
   ·right;simpa [kN] using h2
  ·simp [hv] at h
 ·right;simp [kN,jQ];simp at hp;omega
 ·simp [join,joinK,dU,jQ] at h
 ·simp [join,joinK,dU,jQ] at h
 ·exact .inl rfl
theorem Is {n:Nat} (hn:n≤64):∀ {xs ys:List Cl},xs.length=ys.length→(∀ c∈xs,jV n c=true)→(∀ c∈ys,jV n c=true)→dC xs ys=ys→xs=ys∨rQ n xs < rQ n ys
 | [],[],_,_,_,_=>.inl rfl
 | [],_::_,h,_,_,_=>by simp at h
 | _::_,[],h,_,_,_=>by simp at h
 | a::r,b::t,h,hx,hy,hb=>by
  simp only [dC,List.zipWith_cons_cons,List.cons.injEq] at hb
  have ih:=Is hn (xs:=r) (ys:=t) (by simpa using h) (fun c hc=>hx c (List.mem_cons_of_mem _ hc)) (fun c hc=>hy c (List.mem_cons_of_mem _ hc)) hb.2
  have h1:=rank_up hn (hx a List.mem_cons_self) (hy b List.mem_cons_self) hb.1
  rcases h1 with rfl | h1<;>rcases ih with rfl | ih
  ·exact .inl rfl
  ·right;simp [rQ];exact ih
  ·right;simp [rQ];exact h1
  ·right;simp [rQ];omega
theorem Val.all {n:Nat} {xs:List Cl} (h:Val n xs):∀ c∈xs,jV n c=true:=fun c hc=>by
 obtain ⟨i,hi,e⟩:=List.mem_iff_getElem.1 hc
 exact h.ok i c (by rw [← e];exact List.getElem?_eq_getElem hi)
theorem Vc {n:Nat} {xs:List Cl} (hx:Val n xs):rQ n xs≤n * (n+2):=by
 have:=Ir n xs
 rw [hx.len] at this;exact this
theorem pc_up {m a b:Nat} (hb:b < 2 ^ m) (h:∀ j,a.testBit j=true→b.testBit j=true):a=b∨pc m a < pc m b:=by
 by_cases e:a=b
 ·exact .inl e
 ·right
  obtain ⟨j,hj⟩:∃ j,a.testBit j≠b.testBit j:=Classical.byContradiction fun hn=>e (Nat.eq_of_testBit_eq fun j=>Classical.byContradiction fun hj=>hn ⟨j,hj⟩)
  have h1:a.testBit j=false:=by
   cases ha:a.testBit j with
   | false=>rfl
   | true=>exact absurd (by rw [ha,h j ha]) hj
  have h2:b.testBit j=true:=by
   cases hb2:b.testBit j with
   | true=>rfl
   | false=>exact absurd (by rw [h1,hb2]) hj
  refine Vb (fun i _=>h i) ⟨j,?_,h1,h2⟩
  rcases Nat.lt_or_ge j m with hlt | hge
  ·exact hlt
  ·have:=Nat.testBit_lt_two_pow (Nat.lt_of_lt_of_le hb (Nat.pow_le_pow_right (by decide) hge))
   rw [this] at h2;cases h2
def qL (m g:Nat):List Nat→Nat
 | []=>0
 | r::rs=>pc m (r ||| g)+qL m g rs
theorem It (m g:Nat):∀ rs:List Nat,qL m g rs≤rs.length * m
 | []=>by simp [qL]
 | r::rs=>by
  have h1:=It m g rs
  have h2:=Iq m (r ||| g)
  simp [qL,Nat.add_mul];omega
theorem uK {m g g':Nat}:∀ {xs ys:List Nat},xs.length=ys.length→(∀ (i:Nat) (r r':Nat),xs[i]?=some r→ys[i]?=some r'→∀ j,(r ||| g).testBit j=true→(r' ||| g').testBit j=true)→qL m g xs≤qL m g' ys
 | [],[],_,_=>Nat.le_refl _
 | [],_::_,h,_=>by simp at h
 | _::_,[],h,_=>by simp at h
 | r::xs,r'::ys,hl,h=>by
  have ih:=uK (m:=m) (xs:=xs) (ys:=ys) (by simpa using hl) (fun i a b ha hb=>h (i+1) a b (by simpa using ha) (by simpa using hb))
  have h1:pc m (r ||| g)≤pc m (r' ||| g'):=F9 fun j _=>h 0 r r' rfl rfl j
  simp only [qL];omega
theorem or_off {a b g:Nat} (ha:a &&& g=0) (hb:b &&& g=0) (h:a ||| g=b ||| g):a=b:=by
 apply Nat.eq_of_testBit_eq
 intro j
 have h1:=congrArg (fun n=>n.testBit j) h
 have h2:=congrArg (fun n=>n.testBit j) ha
 have h3:=congrArg (fun n=>n.testBit j) hb
 simp only [Nat.testBit_or,Nat.testBit_and,Nat.zero_testBit] at h1 h2 h3
 cases e1:a.testBit j<;>cases e2:b.testBit j<;>cases e3:g.testBit j<;>simp_all
theorem Iu {m g:Nat} (hg:g < 2 ^ m):∀ {xs ys:List Nat},xs.length=ys.length→(∀ r∈ys,r < 2 ^ m)→(∀ r∈xs,r &&& g=0)→(∀ r∈ys,r &&& g=0)→(∀ (i:Nat) (r r':Nat),xs[i]?=some r→ys[i]?=some r'→∀ j,(r ||| g).testBit j=true→(r' ||| g).testBit j=true)→xs=ys∨qL m g xs < qL m g ys
 | [],[],_,_,_,_,_=>.inl rfl
 | [],_::_,h,_,_,_,_=>by simp at h
 | _::_,[],h,_,_,_,_=>by simp at h
 | r::xs,r'::ys,hl,hy,cx,cy,h=>by
  have ht:=fun i a b (ha:xs[i]?=some a) (hb:ys[i]?=some b)=>h (i+1) a b (by simpa using ha) (by simpa using hb)
  have ih:=Iu hg (xs:=xs) (ys:=ys) (by simpa using hl) (fun q hq=>hy q (List.mem_cons_of_mem _ hq)) (fun q hq=>cx q (List.mem_cons_of_mem _ hq)) (fun q hq=>cy q (List.mem_cons_of_mem _ hq)) ht
  have hm:=uK (m:=m) (g:=g) (g':=g) (xs:=xs) (ys:=ys) (by simpa using hl) ht
  have h1:=pc_up (m:=m) (a:=r ||| g) (b:=r' ||| g) (Nat.or_lt_two_pow (hy r' List.mem_cons_self) hg) (h 0 r r' rfl rfl)
  rcases h1 with h1 | h1
  ·have e:r=r':=or_off (cx r List.mem_cons_self) (cy r' List.mem_cons_self) h1
   subst e
   rcases ih with rfl | ih
   ·exact .inl rfl
   ·right;simp only [qL];omega
  ·right;simp only [qL];omega
def A8 (m g:Nat) (rows:List Nat):Nat:=pc m g+qL m g rows
theorem Vd {m g:Nat} {rows:List Nat} (h:Good m g rows):A8 m g rows≤m * (m+1):=by
 have h1:=Iq m g
 have h2:=It m g rows
 rw [h.hl] at h2
 unfold A8
 rw [Nat.mul_add,Nat.mul_one];omega
theorem Ve {m ga gb:Nat} {xs ys:List Nat} (ha:Good m ga xs) (hb:Good m gb ys):(ga ||| gb=ga∧eG (ga ||| gb) (orL xs ys)=xs)∨A8 m ga xs < A8 m (ga ||| gb) (eG (ga ||| gb) (orL xs ys)):=by
 have hc:=ha.comb hb
 have hlen:ys.length=xs.length:=by rw [ha.hl,hb.hl]
 have hll:xs.length=(eG (ga ||| gb) (orL xs ys)).length:=by rw [jD,yY hlen]
 have hp:∀ (i:Nat) (r r':Nat),xs[i]?=some r→(eG (ga ||| gb) (orL xs ys))[i]?=some r'→∀ j,(r ||| ga).testBit j=true→(r' ||| (ga ||| gb)).testBit j=true:=by
  intro i r r' h1 h2 j hj
  obtain ⟨hi,_⟩:=List.getElem?_eq_some_iff.1 h1
  have hy:ys[i]?=some (ys[i]'(by omega)):=List.getElem?_eq_getElem _
  have ho:=Ls h1 hy
  unfold eG at h2
  rw [List.getElem?_map,ho] at h2
  have e:andn (r ||| ys[i]'(by omega)) (ga ||| gb)=r':=by simpa using h2
  subst e
  have k1:r < 18446744073709551616:=ha.r64 r (List.mem_of_getElem? h1)
  have k2:ys[i]'(by omega) < 18446744073709551616:=hb.r64 _ (List.mem_of_getElem? hy)
  rw [Nat.testBit_or,rH (Nat.or_lt_two_pow (n:=64) k1 k2) hc.g64,Nat.testBit_or,Nat.testBit_or]
  rw [Nat.testBit_or] at hj
  cases e1:r.testBit j<;>cases e2:ga.testBit j<;>cases e3:gb.testBit j<;>simp_all
 rcases pc_up (m:=m) (a:=ga) (b:=ga ||| gb) hc.hg (fun j h=>by rw [Nat.testBit_or,h];rfl) with e | h1
 ·rw [← e] at hc hll hp ⊢
  rcases Iu ha.hg hll hc.hr ha.hc hc.hc hp with e2 | h2
  ·exact .inl ⟨rfl,e2.symm⟩
  ·right;unfold A8;omega
 ·right
  have h2:=uK (m:=m) hll hp
  unfold A8;omega
def rkP (t n:Int) (a:PF):Nat:=if a.z=true then 0 else 1+(if t=2 then (n - a.c).toNat else if t=3 then A8 n.toNat a.g a.rows else if t=4 then rQ n.toNat a.cells else 0)
def oY (t n:Int):Int:=if t=1 then 1 else if t=2 then n+1 else if t=3 then n * (n+1)+1 else if t=4 then n * (n+2)+1 else 0
theorem Mb {t n:Int} {l:Nat} {a:PF} (h:bI t n l=true) (ha:OkP t n a):(rkP t n a:Int)≤oY t n:=by
 rcases (dN h).2 with ⟨rfl,hn⟩ | ⟨rfl,h0,h1⟩ | ⟨rfl,m,rfl,hm⟩ | ⟨rfl,m,rfl,hm⟩
 ·rcases iH ha with rfl | rfl<;>simp [rkP,oY,dF,pC]
 ·rcases gY ha with rfl | ⟨x,rfl,hx⟩
  ·simp [rkP,oY,dF];omega
  ·simp [rkP,oY,pC];omega
 ·have hz:(0:Int)≤(m:Int) * ((m:Int)+1):=Int.mul_nonneg (by omega) (by omega)
  rcases iI ha with rfl | ⟨g,xs,rfl,hx⟩
  ·simp [rkP,oY,dF];omega
  ·have:=Vd hx
   have e:((m * (m+1):Nat):Int)=(m:Int) * ((m:Int)+1):=by push_cast;rfl
   simp [rkP,oY,pF];omega
 ·have hz:(0:Int)≤(m:Int) * ((m:Int)+2):=Int.mul_nonneg (by omega) (by omega)
  rcases iJ ha with rfl | ⟨xs,rfl,hx⟩
  ·simp [rkP,oY,dF];omega
  ·have:=Vc hx
   have e:((m * (m+2):Nat):Int)=(m:Int) * ((m:Int)+2):=by push_cast;rfl
   simp [rkP,oY,pX];omega
theorem Mc {t n:Int} {l:Nat} {a b:PF} (h:bI t n l=true) (ha:OkP t n a) (hb:OkP t n b):dK t n a b=a∨rkP t n a < rkP t n (dK t n a b):=by
 by_cases zb:b=dF
 ·subst zb;exact .inl (eE ha)
 have hbz:b.z=false:=by cases hb<;>first | exact absurd rfl zb | rfl
 by_cases za:a=dF
 ·subst za;rw [eA];right;unfold rkP;rw [hbz];simp [dF];omega
 rcases (dN h).2 with ⟨rfl,hn⟩ | ⟨rfl,h0,h1⟩ | ⟨rfl,m,rfl,hm⟩ | ⟨rfl,m,rfl,hm⟩
 ·obtain rfl:=(iH ha).resolve_left za;obtain rfl:=(iH hb).resolve_left zb
  exact .inl rM
 ·obtain ⟨x,rfl,hx⟩:=(gY ha).resolve_left za;obtain ⟨y,rfl,hy⟩:=(gY hb).resolve_left zb
  rw [mC]
  rcases Int.lt_or_le y x with h2 | h2
  ·right;simp [rkP,pC];omega
  ·left;congr 1;omega
 ·obtain ⟨g,x,rfl,hx⟩:=(iI ha).resolve_left za;obtain ⟨g2,y,rfl,hy⟩:=(iI hb).resolve_left zb
  rw [pR,uB hx hy,uC hx hy]
  rcases Ve hx hy with ⟨e1,e2⟩ | h2
  ·left;rw [e1] at e2 ⊢;rw [e2]
  ·right;simp [rkP,pF];omega
 ·obtain ⟨x,rfl,hx⟩:=(iJ ha).resolve_left za;obtain ⟨y,rfl,hy⟩:=(iJ hb).resolve_left zb
  rw [oJ]
  have hv:=rL hx hy
  rcases Is hx.le (by rw [hx.len,hv.len]) hx.all hv.all (by rw [← Ar hx hx hy,Dx hx]) with e | h2
  ·left;rw [← e]
  ·right;simp [rkP,pX];omega
def rkX:PS→PX→Nat
 | .one t n,.one a=>rkP t n a
 | .two t n u m,.two a b=>rkP t n a+rkP u m b
 | _,_=>0
def Iv:PS→Int
 | .one t n=>oY t n
 | .two t n u m=>oY t n+oY u m
theorem rkX_le {S:PS} {x:PX} (h:S.ok) (hx:OkX S x):(rkX S x:Int)≤Iv S:=by
 match S,x,h,hx with
 | .one t n,.one a,h,hx=>exact Mb h hx
 | .two t n u m,.two a b,h,hx =>
  have h1:=Mb h.1 hx.1
  have h2:=Mb h.2 hx.2
  simp only [rkX,Iv];omega
theorem rkX_up {S:PS} {x y:PX} (h:S.ok) (hx:OkX S x) (hy:OkX S y):bZ S x y=x∨rkX S x < rkX S (bZ S x y):=by
 match S,x,y,h,hx,hy with
 | .one t n,.one a,.one b,h,hx,hy =>
  rcases Mc h hx hy with e | h1
  ·left;simp only [bZ,e]
  ·exact .inr h1
 | .two t n u m,.two a b,.two c d,h,hx,hy =>
  rcases Mc h.1 hx.1 hy.1 with e1 | h1<;>rcases Mc h.2 hx.2 hy.2 with e2 | h2
  ·left;simp only [bZ,e1,e2]
  ·right;simp only [bZ,rkX,e1];omega
  ·right;simp only [bZ,rkX,e2];omega
  ·right;simp only [bZ,rkX];omega
theorem uL {t n:Int} {l:Nat} (h:bI t n l=true):0≤oY t n∧oY t n≤1048577:=by
 rcases (dN h).2 with ⟨rfl,hn⟩ | ⟨rfl,h0,h1⟩ | ⟨rfl,m,rfl,hm⟩ | ⟨rfl,m,rfl,hm⟩
 ·simp [oY]
 ·simp [oY];omega
 ·have h1:m * (m+1)≤64 * 65:=Nat.mul_le_mul hm (by omega)
  have e:((m * (m+1):Nat):Int)=(m:Int) * ((m:Int)+1):=by push_cast;rfl
  simp [oY];omega
 ·have h1:m * (m+2)≤64 * 66:=Nat.mul_le_mul hm (by omega)
  have e:((m * (m+2):Nat):Int)=(m:Int) * ((m:Int)+2):=by push_cast;rfl
  simp [oY];omega
end Go.Proofs.YtmgnkpibpjgncaaGreatDoor
namespace Go.Proofs.YtmgnkpibpjgncaaGreatDoor
open Go.Proofs.Tryz
open Go Go.RowKit
theorem Q9 (P:Program) (ev:Operand→Value) (w:World) (x:Operand) (f:FuncId) (args:Array Operand) (ts:Array TypeId) (o:Oper) (h:o.op = .call { callee:=.value x,args:=args,argTypes:=ts }) (hf:ev x = .func (.func f) #[] #[]) (hb:bH P f=true):(execOp ev o).run P w = .ok (.enter f (args.map ev)) w:=by
 unfold bH at hb
 cases hx:P.funcs[f]? with
 | none=>rw [hx] at hb;cases hb
 | some fn =>
  rw [hx] at hb
  simp only [Bool.and_eq_true,Bool.not_eq_true',beq_eq_false_iff_ne,ne_eq] at hb
  obtain ⟨c,hc⟩:=Option.isSome_iff_exists.1 hb.1
  unfold execOp;simp only [h];simp [go_sem,resolve,hf,callFunc,hx,hc,hb.2]
section
variable {P:Program} {n:Nat} {Q:Exit→Act→World→Prop} {l:Fr} {w0 W:World} {ops:Array Oper} {os:List Oper} {O:Own} {G:cU} {K:List (Nat×World)} {d:Nat} {ty:TypeId} {pos:String} {aft:Array Edge}
theorem Vf {x:Operand} {f:FuncId} {args:Array Operand} {ts:Array TypeId} {vs:List Value} {R:Ending→World→Prop} (hS:St w0 O G K W) (hx:evL l x=some (.func (.func f) #[] #[])) (hgo:bH P f=true) (ha:args.toList.map (evL l)=vs.map some) (hc:Calls P f vs.toArray W R)
  (hd:Nat.blt d n=true)
  (h:∀ e W',R e W'→∃ v,e = .returned v∧Below W.heap.size W W'∧(St w0 O G ((W.heap.size,W')::K) W'→cS P n ops Q os ((d,v)::l) W')):cS P n ops Q (⟨some d,.call { callee:=.value x,args:=args,argTypes:=ts },ty,pos,aft,none⟩::os) l W:=fun a hl=>by
 refine wpList_plain rfl fun K' hK=>?_
 unfold Oper.wp
 rw [Q9 P a.eval W x f args ts _ rfl (hl.ev x _ hx) hgo,Oper.upon_enter]
 have hargs:args.map a.eval=vs.toArray:=by
  have key:∀ (xs:List Operand) (us:List Value),xs.map (evL l)=us.map some→xs.map a.eval=us:=by
   intro xs
   induction xs with
   | nil=>intro us h;cases us<;>simp at h ⊢
   | cons x xs ih =>
    intro us h
    cases us with
    | nil=>simp at h
    | cons u us =>
     simp only [List.map_cons,List.cons.injEq] at h
     simp only [List.map_cons,hl.ev x u h.1,ih us h.2]
  apply Array.ext'
  rw [Array.toList_map,key _ _ ha]
 rw [hargs]
 refine hc.mono ?_
 intro e W' hRe
 obtain ⟨v,rfl,hb,hn⟩:=h e W' hRe
 exact hK _ _ (hn (hS.call hb) _ (hl.put hd))
end
def eqW:Nat→WV→WV→Bool
 | 0,_,_=>false
 | k+1,.mk f ps,.mk g qs=>decide (f.z=g.z∧f.c=g.c∧f.g=g.g∧f.rows=g.rows) && (xW f.cells g.cells && (decide (ps.length=qs.length) && (ps.zip qs).all fun x=>eqW k x.1 x.2))
theorem A9 {r b:Bool} {p:Prop} (hr:r=true↔p) (h:p↔b=true):b=r:=by
 cases r<;>cases b<;>simp_all
theorem vS {j:Nat} {f:WF} {ps:List WV} (h:smN (j+1) (.mk f ps)=true):f.rl≤70∧f.cl≤70∧f.pl≤3∧∀ p∈ps,smN j p=true:=by
 simp only [smN,Bool.and_eq_true,decide_eq_true_eq,List.all_eq_true] at h
 exact h
theorem Iw (k j:Nat) (az:Bool) (ac:Int) (ag:Nat) (ara:Option Addr) (arl arc:Nat) (arows:List Nat) (aca:Option Addr) (acl acc:Nat) (acells:List Cl) (apa:Option Addr) (apl apc:Nat)(bz:Bool) (bc:Int) (bg:Nat) (bra:Option Addr) (brl brc:Nat) (brows:List Nat) (bca:Option Addr) (bcl bcc:Nat) (bcells:List Cl) (bpa:Option Addr) (bpl bpc:Nat)(ps qs:List WV) (w:World) (hra:fQ w ara (u64s arows)) (hla:arows.length=arl) (hma:arl≤100) (hca:eZ w aca acells) (hka:acells.length=acl) (hna:acl≤100)(hrb:fQ w bra (u64s brows)) (hlb:brows.length=brl) (hmb:brl≤100) (hcb:eZ w bca bcells) (hkb:bcells.length=bcl) (hnb:bcl≤100)(hps:ps.length=apl) (hqs:qs.length=bpl) (hrow:yN w apa ps) (hrow2:yN w bpa qs) (hin:∀ p∈ps,WIn w k p) (hin2:∀ p∈qs,WIn w k p) (hpl:apl≤9223372036854775807) (hsm:∀ p∈ps,smN j p=true) (hsm2:∀ p∈qs,smN j p=true) (ih:∀ (p q:WV) (W:World),WIn W k p→WIn W k q→smN j p=true→smN j q=true→Calls prog 20 #[p.f.val,q.f.val] W fun e w'=>e = .returned (.bool (eqW k p q))∧Below W.heap.size W w') (r:Bool) (hr:r=true↔(az=bz∧ac=bc∧ag=bg∧arows=brows∧acells=bcells∧(decide (ps.length=qs.length) && (ps.zip qs).all fun x=>eqW k x.1 x.2)=true)) :
  Calls prog 20 #[.agg #[.bool az,.int .i64 ac,.int .u64 (ag:Int),.slice ara arl arc,.slice aca acl acc,.slice apa apl apc],.agg #[.bool bz,.int .i64 bc,.int .u64 (bg:Int),.slice bra brl brc,.slice bca bcl bcc,.slice bpa bpl bpc]] w (fun e w'=>e = .returned (.bool r)∧Below w.heap.size w w'):=by
 refine cB (args:=[.agg #[.bool az,.int .i64 ac,.int .u64 (ag:Int),.slice ara arl arc,.slice aca acl acc,.slice apa apl apc],.agg #[.bool bz,.int .i64 bc,.int .u64 (bg:Int),.slice bra brl brc,.slice bca bcl bcc,.slice bpa bpl bpc]]) func20 rfl ntmps20 rfl ?_
 have hS:=St.start w
 refine aJ (aQ (bR (cs:=[_,_,_,_,_,_]) hS rfl rfl rfl fun B1 W1 hS=>bR (cs:=[_,_,_,_,_,_]) hS rfl rfl rfl fun B2 W2 hS=>aC rfl rfl (aN (XF.thenN (aJ (aJ (aQ (aO (o':=0) dR rfl rfl rfl (aT isAgg4 rfl (aH (hS.at_ 1 rfl) rfl) rfl (aO (o':=0) dR rfl rfl rfl (aT isAgg4 rfl (aH (hS.at_ 0 rfl) rfl) rfl (op_neqB underlying4 rfl rfl rfl (aE rfl rfl (cI (d:=12) rfl (fun hc=>?_) (fun hc=>?_)))))))))))))))
 ·have hg12:=hc;clear hc
  refine aP (d:=12) rfl rfl rfl rfl (aP (d:=12) rfl rfl rfl rfl (aP (d:=12) rfl rfl rfl rfl (aP (d:=12) rfl rfl rfl rfl (aP (d:=12) rfl rfl rfl rfl (bV rfl rfl rfl (aE rfl rfl (aP (d:=19) rfl rfl rfl rfl (aP (d:=19) rfl rfl rfl rfl (aP (d:=19) rfl rfl rfl rfl (aP (d:=19) rfl rfl rfl rfl (aP (d:=19) rfl rfl rfl rfl (aP (d:=19) rfl rfl rfl rfl (bV rfl rfl rfl (aE rfl rfl (aP (d:=27) rfl rfl rfl rfl (aP (d:=27) rfl rfl rfl rfl (aP (d:=27) rfl rfl rfl rfl (aP (d:=27) rfl rfl rfl rfl (aP (d:=27) rfl rfl rfl rfl (aP (d:=27) rfl rfl rfl rfl ?_))))))))))))))))))))
  refine aP (d:=27) rfl rfl rfl rfl (bV rfl rfl rfl (aE rfl rfl (aP (d:=36) rfl rfl rfl rfl (aP (d:=36) rfl rfl rfl rfl (aP (d:=36) rfl rfl rfl rfl (aP (d:=36) rfl rfl rfl rfl (aP (d:=36) rfl rfl rfl rfl (aP (d:=36) rfl rfl rfl rfl (aP (d:=36) rfl rfl rfl rfl (bV rfl rfl rfl (aN (XF.thenN (gW rfl (aJ (aQ (aC rfl rfl (aN (XF.thenN (bX (XF.thenR (XF.res (cQ results20 rfl) ?_)))))))))))))))))))))
  exact ⟨bT (kM hr (fun h=>by have h1:=h.1;subst h1;simp at hg12)),hS.below⟩
 ·have hg12:=hc;clear hc
  refine aM (d:=12) rfl rfl (aO (o':=1) eV rfl rfl rfl (aM (d:=12) rfl rfl (aT isAgg3 rfl (aH (hS.at_ 1 rfl) rfl) rfl (aM (d:=12) rfl rfl (aO (o':=1) eV rfl rfl rfl (aM (d:=12) rfl rfl (aT isAgg3 rfl (aH (hS.at_ 0 rfl) rfl) rfl (aM (d:=12) rfl rfl (dX rfl rfl rfl (cH rfl rfl rfl (aE rfl rfl (cI (d:=19) rfl (fun hc=>?_) (fun hc=>?_)))))))))))))
  ·have hg19:=of_decide_eq_true hc;clear hc
   refine aP (d:=19) rfl rfl rfl rfl (aP (d:=19) rfl rfl rfl rfl (aP (d:=19) rfl rfl rfl rfl (aP (d:=19) rfl rfl rfl rfl (aP (d:=19) rfl rfl rfl rfl (aP (d:=19) rfl rfl rfl rfl (bV rfl rfl rfl (aE rfl rfl (aP (d:=27) rfl rfl rfl rfl (aP (d:=27) rfl rfl rfl rfl (aP (d:=27) rfl rfl rfl rfl (aP (d:=27) rfl rfl rfl rfl (aP (d:=27) rfl rfl rfl rfl (aP (d:=27) rfl rfl rfl rfl (aP (d:=27) rfl rfl rfl rfl (bV rfl rfl rfl (aE rfl rfl (aP (d:=36) rfl rfl rfl rfl (aP (d:=36) rfl rfl rfl rfl (aP (d:=36) rfl rfl rfl rfl (aP (d:=36) rfl rfl rfl rfl ?_))))))))))))))))))))
   refine aP (d:=36) rfl rfl rfl rfl (aP (d:=36) rfl rfl rfl rfl (aP (d:=36) rfl rfl rfl rfl (bV rfl rfl rfl (aN (XF.thenN (gW rfl (aJ (aQ (aC rfl rfl (aN (XF.thenN (bX (XF.thenR (XF.res (cQ results20 rfl) ?_))))))))))))))
   exact ⟨bT (kM hr (fun h=>hg19 h.2.1)),hS.below⟩
  ·have hg19:=of_decide_eq_false hc;clear hc
   refine aM (d:=19) rfl rfl (aO (o':=2) eR rfl rfl rfl (aM (d:=19) rfl rfl (aS (vs:=[_,_]) isAgg40 sizeOf40 rfl (aB.own (j:=2) (m:=2) (hS.at_ 1 rfl) rfl) rfl (aM (d:=19) rfl rfl (aO (o':=2) eR rfl rfl rfl (aM (d:=19) rfl rfl (aS (vs:=[_,_]) isAgg40 sizeOf40 rfl (aB.own (j:=2) (m:=2) (hS.at_ 0 rfl) rfl) rfl (aM (d:=19) rfl rfl (cC (vs:=[_,_]) hS goes_64 rfl (Ho _ _ _ _ _ _ _ _ _ (by omega) (by omega) (fQ.below hra hS.below) (fQ.below hrb hS.below) _ rfl _ _ hla hlb) rfl fun W3 hS=>aM (d:=19) rfl rfl (fS rfl rfl (cH rfl rfl rfl (aE rfl rfl (cI (d:=27) rfl (fun hc=>?_) (fun hc=>?_))))))))))))))
   ·have hg27:=hc;clear hc
    refine aP (d:=27) rfl rfl rfl rfl (aP (d:=27) rfl rfl rfl rfl (aP (d:=27) rfl rfl rfl rfl (aP (d:=27) rfl rfl rfl rfl (aP (d:=27) rfl rfl rfl rfl (aP (d:=27) rfl rfl rfl rfl (aP (d:=27) rfl rfl rfl rfl (bV rfl rfl rfl (aE rfl rfl (aP (d:=36) rfl rfl rfl rfl (aP (d:=36) rfl rfl rfl rfl (aP (d:=36) rfl rfl rfl rfl (aP (d:=36) rfl rfl rfl rfl (aP (d:=36) rfl rfl rfl rfl (aP (d:=36) rfl rfl rfl rfl (aP (d:=36) rfl rfl rfl rfl (bV rfl rfl rfl (aN (XF.thenN (gW rfl (aJ (aQ (aC rfl rfl ?_))))))))))))))))))))))
    refine aN (XF.thenN (bX (XF.thenR (XF.res (cQ results20 rfl) ?_))))
    exact ⟨bT (kM hr (fun h=>by obtain ⟨_,_,h3,h4,_⟩:=h;subst h3;subst h4;rw [C9] at hg27;cases hg27)),hS.below⟩
   ·have hg27:=hc;clear hc
    refine aM (d:=27) rfl rfl (aO (o':=4) dG rfl rfl rfl (aM (d:=27) rfl rfl (aT isAgg41 rfl (aH (hS.at_ 1 rfl) rfl) rfl (aM (d:=27) rfl rfl (cX underlying41 rfl rfl (aM (d:=27) rfl rfl (aO (o':=4) dG rfl rfl rfl (aM (d:=27) rfl rfl (aT isAgg41 rfl (aH (hS.at_ 0 rfl) rfl) rfl (aM (d:=27) rfl rfl (cX underlying41 rfl rfl (aM (d:=27) rfl rfl (dX rfl rfl rfl (cH rfl rfl rfl (aE rfl rfl (cI (d:=36) rfl (fun hc=>?_) (fun hc=>?_)))))))))))))))))
    ·have hg36:=of_decide_eq_true hc;clear hc
     refine aP (d:=36) rfl rfl rfl rfl (aP (d:=36) rfl rfl rfl rfl (aP (d:=36) rfl rfl rfl rfl (aP (d:=36) rfl rfl rfl rfl (aP (d:=36) rfl rfl rfl rfl (aP (d:=36) rfl rfl rfl rfl (aP (d:=36) rfl rfl rfl rfl (bV rfl rfl rfl (aN (XF.thenN (gW rfl (aJ (aQ (aC rfl rfl (aN (XF.thenN (bX (XF.thenR (XF.res (cQ results20 rfl) ?_))))))))))))))))))
     exact ⟨bT (kM hr (fun h=>by have h5:=h.2.2.2.2.1;subst h5;omega)),hS.below⟩
    ·have hg36:=of_decide_eq_false hc;clear hc
     have hz:az=bz:=by simpa using hg12
     have hcc:ac=bc:=by omega
     have hff:ag=bg∧arows=brows:=by simpa [qK] using hg27
     have hcl:acl=bcl:=by omega
     refine aM (d:=36) rfl rfl (aO (o':=5) cW rfl rfl rfl (aM (d:=36) rfl rfl (aT isAgg42 rfl (aH (hS.at_ 1 rfl) rfl) rfl (aM (d:=36) rfl rfl (cX underlying42 rfl rfl (aM (d:=36) rfl rfl (aO (o':=5) cW rfl rfl rfl (aM (d:=36) rfl rfl (aT isAgg42 rfl (aH (hS.at_ 0 rfl) rfl) rfl (aM (d:=36) rfl rfl (cX underlying42 rfl rfl (aM (d:=36) rfl rfl (dX rfl rfl rfl (cH rfl rfl rfl (aN (XF.thenN (bA rfl (fun hc=>?_) (fun hc=>?_))))))))))))))))))
     ·have hc44:=of_decide_eq_true hc;clear hc
      refine aJ (aQ (aC rfl rfl (aN (XF.thenN (bX (XF.thenR (XF.res (cQ results20 rfl) ?_)))))))
      exact ⟨bT (kM hr (fun h=>by have h6:=h.2.2.2.2.2;rw [decide_eq_false (show ¬ ps.length=qs.length by omega)] at h6;cases h6)),hS.below⟩
     ·have hc44:=of_decide_eq_false hc;clear hc
      refine bM (XF.thenN (aJ (aJ (aQ (aC rfl rfl (aN (XF.thenN (bQ (eI (fun q l W=>∃ i:Nat,i≤acl∧q=acl - i∧l=[(2,.pointer (some ⟨B1,0,none⟩)),(3,.pointer (some ⟨B2,0,none⟩)),(5,.int .i64 (i:Int))]∧acells.take i=bcells.take i∧St w [(B2,[.bool bz,.int .i64 bc,.int .u64 (bg:Int),.slice bra brl brc,.slice bca bcl bcc,.slice bpa bpl bpc],44),(B1,[.bool az,.int .i64 ac,.int .u64 (ag:Int),.slice ara arl arc,.slice aca acl acc,.slice apa apl apc],44)] [] [] W) (acl - 0) ([(2,_),(3,_),(5,_)]) ⟨rfl,rfl,rfl,trivial⟩ (⟨0,Nat.zero_le _,rfl,rfl,rfl,hS.clear⟩) ?_)))))))))
      clear hS
      rintro q l W ⟨i,hi,rfl,rfl,hall,hS⟩
      refine aJ (aJ (aQ (aE rfl rfl (aO (o':=4) dG rfl rfl rfl (aT isAgg41 rfl (aH (hS.at_ 1 rfl) rfl) rfl (cX underlying41 rfl rfl (cY rfl rfl rfl (aN (XF.thenN (bA rfl (fun hc=>?_) (fun hc=>?_)))))))))))
      ·have hc49:=of_decide_eq_true hc;clear hc
       have hk:i < acl:=by omega
       obtain ⟨b1,o1,x,hx1,hx2,_,x0,x1,x2⟩:=hca.at_ (k:=i) (by omega)
       obtain ⟨b2,o2,y,hy1,hy2,_,y0,y1,y2⟩:=hcb.at_ (k:=i) (by omega)
       subst hx1;subst hy1
       have k1:aB W b1 (o1+i * 3) [.int .u64 (x.f:Int),.int .i64 x.k,.int .i64 x.v]:=aB.agree hS.agree (Nat.zero_le _) ⟨x0,x1,x2,trivial⟩
       have k2:aB W b2 (o2+i * 3) [.int .u64 (y.f:Int),.int .i64 y.k,.int .i64 y.v]:=aB.agree hS.agree (Nat.zero_le _) ⟨y0,y1,y2,trivial⟩
       refine bM (XF.thenN (aJ (bQ (aJ (mK (m:=11) cD hS (by kernel_rfl) (by kernel_rfl) rfl (cJ 1 rfl 2 rfl rfl (fun w hw=>aV (o':=4) dG rfl rfl) rfl (aZ 2 rfl 52 0 rfl rfl rfl (fun w hw=>bC isAgg41 rfl ((aK hw 0).cell (Nat.zero_le _) (aH (hS.at_ 1 rfl) rfl))) rfl (cJ 3 rfl 5 rfl rfl (fun w hw=>aY rfl) rfl (aI 4 rfl (isV _) (aF _) (rgV (li:=[(53,_),(54,_)]) rfl (aR rfl) ⟨aL 1 (aA rfl rfl rfl),aL 2 (aA rfl rfl rfl),trivial⟩ (fun w hw=>bE  underlying41 sizeOf105 rfl rfl rfl (by omega) rfl) (aD rfl)) (aZ 5 rfl 55 3 rfl rfl rfl (fun w hw=>aX (vs:=[_,_,_]) isAgg105 sizeOf105 rfl (aB.agree (aK hw 0) (Nat.zero_le _) (by assumption))) rfl (cJ 6 rfl 3 rfl rfl (fun w hw=>aV (o':=4) dG rfl rfl) rfl (aZ 7 rfl 57 5 rfl rfl rfl (fun w hw=>bC isAgg41 rfl ((aK hw 0).cell (Nat.zero_le _) (aH (hS.at_ 0 rfl) rfl))) rfl (cJ 8 rfl 5 rfl rfl (fun w hw=>aY rfl) rfl (aI 9 rfl (isV _) (aF _) (rgV (li:=[(58,_),(59,_)]) rfl (aR rfl) ⟨aL 6 (aA rfl rfl rfl),aL 7 (aA rfl rfl rfl),trivial⟩ (fun w hw=>bE  underlying41 sizeOf105 rfl rfl rfl (by omega) rfl) (aD rfl)) (aZ 10 rfl 60 8 rfl rfl rfl (fun w hw=>aX (vs:=[_,_,_]) isAgg105 sizeOf105 rfl (aB.agree (aK hw 0) (Nat.zero_le _) (by assumption))) rfl (aI 11 rfl (isV _) (aF _) (rgV (li:=[(56,_),(61,_)]) rfl (aR rfl) ⟨aL 4 (aA rfl rfl rfl),aL 9 (aA rfl rfl rfl),trivial⟩ (fun w hw=>rn_binG rfl rfl (run_eqGuard_agg _ _ _ _ _ _ _ (by kernel_rfl)) (Lx x y _ rfl w)) (aD rfl)) (dV ?_)))))))))))))))))
       intro W4 hbR hS'
       clear hS;have hS:=hS';clear hS'
       refine aG (aG (aG (aG (aG (aG (aG (aG (aG (aG (aG (cO (XF.thenN (bA rfl (fun hc=>?_) (fun hc=>?_))))))))))))))
       ·have hc62:=hc;clear hc
        refine aJ (aQ (aC rfl rfl (aN (XF.thenN (bX (XF.blkR (XF.thenR (XF.thenR (XF.blkR (XF.thenR (XF.res (cQ results20 rfl) ?_)))))))))))
        exact ⟨bT (kM hr (fun h=>by have h5:=h.2.2.2.2.1;subst h5;rw [hx2] at hy2;cases hy2;simp [lE] at hc62)),hS.below⟩
       ·have hc62:=hc;clear hc
        have hxy:x=y:=by
         obtain ⟨xf,xk,xv⟩:=x
         obtain ⟨yf,yk,yv⟩:=y
         simp [lE] at hc62
         simp [hc62]
        subst hxy
        refine bM (XF.blkN (XF.thenN (aQ (aE rfl rfl (cZ rfl rfl (IntWalk.i64_in _ (by omega)) rfl (aC rfl rfl (aN ?_)))))))
        exact XF.round (acl - (i+1)) [(2,_),(3,_),(5,_)] (by omega) ⟨rfl,rfl,rfl,trivial⟩ ⟨i+1,by omega,rfl,rfl,by rw [List.take_add_one,List.take_add_one,hx2,hy2,hall],hS.clear⟩
      ·have hc49:=of_decide_eq_false hc;clear hc
       have hce:acells=bcells:=by
        rw [List.take_of_length_le (by omega),List.take_of_length_le (by omega)] at hall
        exact hall
       refine eF (XF.thenX (XF.thenX (XF.blkX (XF.thenN (aJ (aJ (aQ (aC rfl rfl (aN (XF.thenN (bQ (eI (fun q l W=>∃ i:Nat,i≤apl∧q=apl - i∧l=[(2,.pointer (some ⟨B1,0,none⟩)),(3,.pointer (some ⟨B2,0,none⟩)),(6,.int .i64 (i:Int))]∧((ps.zip qs).take i).all (fun x=>eqW k x.1 x.2)=true∧St w [(B2,[.bool bz,.int .i64 bc,.int .u64 (bg:Int),.slice bra brl brc,.slice bca bcl bcc,.slice bpa bpl bpc],44),(B1,[.bool az,.int .i64 ac,.int .u64 (ag:Int),.slice ara arl arc,.slice aca acl acc,.slice apa apl apc],44)] [] [] W) (apl - 0) ([(2,_),(3,_),(6,_)]) ⟨rfl,rfl,rfl,trivial⟩ (⟨0,Nat.zero_le _,rfl,rfl,rfl,hS.clear⟩) ?_))))))))))))
       clear hS
       rintro q l W ⟨i,hi,rfl,rfl,hall2,hS⟩
       refine aJ (aJ (aQ (aE rfl rfl (aO (o':=5) cW rfl rfl rfl (aT isAgg42 rfl (aH (hS.at_ 1 rfl) rfl) rfl (cX underlying42 rfl rfl (cY rfl rfl rfl (aN (XF.thenN (bA rfl (fun hc=>?_) (fun hc=>?_)))))))))))
       ·have hc67:=of_decide_eq_true hc;clear hc
        have hk:i < apl:=by omega
        obtain ⟨p,hp⟩:∃ p,ps[i]?=some p:=⟨ps[i]'(by omega),List.getElem?_eq_getElem _⟩
        obtain ⟨q,hq⟩:∃ q,qs[i]?=some q:=⟨qs[i]'(by omega),List.getElem?_eq_getElem _⟩
        have hzp:(ps.zip qs)[i]?=some (p,q):=List.getElem?_zip_eq_some.2 ⟨hp,hq⟩
        obtain ⟨b,off,rfl,hb,h6⟩:=hrow.at_ hp
        obtain ⟨b2,off2,rfl,hb2,h7⟩:=hrow2.at_ hq
        have k1:=aB.agree hS.agree (Nat.zero_le _) h6.cells
        have k2:=aB.agree hS.agree (Nat.zero_le _) h7.cells
        refine bM (XF.thenN (aJ (bQ (aJ (mK (m:=12) cD hS (by kernel_rfl) (by kernel_rfl) rfl (cJ 1 rfl 2 rfl rfl (fun w hw=>aV (o':=5) cW rfl rfl) rfl (aZ 2 rfl 70 0 rfl rfl rfl (fun w hw=>bC isAgg42 rfl ((aK hw 0).cell (Nat.zero_le _) (aH (hS.at_ 1 rfl) rfl))) rfl (cJ 3 rfl 6 rfl rfl (fun w hw=>aY rfl) rfl (aI 4 rfl (isV _) (aF _) (rgV (li:=[(71,_),(72,_)]) rfl (aR rfl) ⟨aL 1 (aA rfl rfl rfl),aL 2 (aA rfl rfl rfl),trivial⟩ (fun w hw=>bE  underlying42 sizeOf44 rfl rfl rfl (by omega) rfl) (aD rfl)) (aZ 5 rfl 73 3 rfl rfl rfl (fun w hw=>aX (vs:=[_,_,_,_,_,_]) isAgg44 sizeOf44 rfl (aB.agree (aK hw 0) (Nat.zero_le _) (by assumption))) rfl (cJ 6 rfl 3 rfl rfl (fun w hw=>aV (o':=5) cW rfl rfl) rfl (aZ 7 rfl 75 5 rfl rfl rfl (fun w hw=>bC isAgg42 rfl ((aK hw 0).cell (Nat.zero_le _) (aH (hS.at_ 0 rfl) rfl))) rfl (cJ 8 rfl 6 rfl rfl (fun w hw=>aY rfl) rfl (aI 9 rfl (isV _) (aF _) (rgV (li:=[(76,_),(77,_)]) rfl (aR rfl) ⟨aL 6 (aA rfl rfl rfl),aL 7 (aA rfl rfl rfl),trivial⟩ (fun w hw=>bE  underlying42 sizeOf44 rfl rfl rfl (by omega) rfl) (aD rfl)) (aZ 10 rfl 78 8 rfl rfl rfl (fun w hw=>aX (vs:=[_,_,_,_,_,_]) isAgg44 sizeOf44 rfl (aB.agree (aK hw 0) (Nat.zero_le _) (by assumption))) rfl ?_)))))))))))))))
        refine aI 11 rfl (isV (.bool (eqW k p q))) (aF _) (cR [isV _,isV _] rfl yT (aR rfl) ⟨bU (aL 4 (aA rfl rfl rfl)),bU (aL 9 (aA rfl rfl rfl)),trivial⟩ (fun vs w' hb hh=>by have e:=cA (us:=[_,_]) hh;subst e;exact (ih p q _ (WIn.below (hS.below.trans (hb.mono hS.below.size)) (hin p (List.mem_of_getElem? hp))) (WIn.below (hS.below.trans (hb.mono hS.below.size)) (hin2 q (List.mem_of_getElem? hq))) (hsm p (List.mem_of_getElem? hp)) (hsm2 q (List.mem_of_getElem? hq))).mono fun e w2 h=>⟨_,h.1,rfl,h.2⟩) (aD rfl)) ?_
        refine aZ 12 rfl 80 10 rfl rfl rfl (fun w hw=>kX rfl) rfl (dV ?_)
        intro W5 hbR hS'
        clear hS;have hS:=hS';clear hS'
        refine aG (aG (aG (aG (aG (aG (aG (aG (aG (aG (aG (aG (cO (XF.thenN (bA rfl (fun hc=>?_) (fun hc=>?_)))))))))))))))
        ·have hc81:=hc;clear hc
         refine aJ (aQ (aC rfl rfl (aN (XF.thenN (bX (XF.blkR (XF.thenR (XF.thenR (XF.blkR (XF.thenR (XF.res (cQ results20 rfl) ?_)))))))))))
         exact ⟨bT (kM hr (fun h=>by have h6:=h.2.2.2.2.2;rw [dB hzp (by simpa using hc81)] at h6;simp at h6)),hS.below⟩
        ·have hc81:=hc;clear hc
         refine bM (XF.blkN (XF.thenN (aQ (aE rfl rfl (cZ rfl rfl (IntWalk.i64_in _ (by omega)) rfl (aC rfl rfl (aN ?_)))))))
         exact XF.round (apl - (i+1)) [(2,_),(3,_),(6,_)] (by omega) ⟨rfl,rfl,rfl,trivial⟩ ⟨i+1,by omega,rfl,rfl,fP hzp hall2 (by simpa using hc81),hS.clear⟩
       ·have hc67:=of_decide_eq_false hc;clear hc
        refine eF (XF.thenX (XF.thenX (XF.blkX (XF.thenN (aJ (aQ (aC rfl rfl (aN (XF.thenN (bX (XF.res (cQ results20 rfl) ?_)))))))))))
        rw [List.take_of_length_le (by rw [List.length_zip];omega)] at hall2
        exact ⟨bT (r_true hr ⟨hz,hcc,hff.1,hff.2,hce,by rw [hall2,decide_eq_true (show ps.length=qs.length by omega)];rfl⟩),hS.below⟩
theorem Ra (k j:Nat) (apa bpa:Option Addr) (apl bpl apc bpc:Nat) (ps qs:List WV) (w:World) (hps:ps.length=apl) (hqs:qs.length=bpl) (hrow:yN w apa ps) (hrow2:yN w bpa qs) (hin:∀ p∈ps,WIn w k p) (hin2:∀ p∈qs,WIn w k p) (hpl:apl≤9223372036854775807) (hsm:∀ p∈ps,smN j p=true) (hsm2:∀ p∈qs,smN j p=true) (ih:∀ (p q:WV) (W:World),WIn W k p→WIn W k q→smN j p=true→smN j q=true→Calls prog 48 #[p.f.val,q.f.val] W fun e w'=>e = .returned (.bool (eqW k p q))∧Below W.heap.size W w') :
  Calls prog 91 #[.slice apa apl apc,.slice bpa bpl bpc,.func (.func 48) #[] #[]] w (fun e w'=>e = .returned (.bool (decide (ps.length=qs.length) && (ps.zip qs).all fun x=>eqW k x.1 x.2))∧Below w.heap.size w w'):=by
 refine cB (args:=[.slice apa apl apc,.slice bpa bpl bpc,.func (.func 48) #[] #[]]) func91 rfl ntmps91 rfl ?_
 have hS:=St.start w
 refine aJ (aQ (aC rfl rfl (aN (XF.thenN (aJ (aJ (aQ (aE rfl rfl (cX underlying42 rfl rfl (aE rfl rfl (cX underlying42 rfl rfl (dX rfl rfl rfl (aN (XF.thenN (bA rfl (fun hc=>?_) (fun hc=>?_))))))))))))))))
 ·have hc14:=of_decide_eq_true hc;clear hc
  refine aJ (aQ (aC rfl rfl (aN (XF.thenN (bX (XF.thenR (XF.res (cQ results91 rfl) ?_)))))))
  exact ⟨bT (by rw [decide_eq_false (show ¬ ps.length=qs.length by omega)];rfl),hS.below⟩
 ·have hc14:=of_decide_eq_false hc;clear hc
  refine bM (XF.thenN (aJ (aJ (aQ (aE rfl rfl (cX underlying42 rfl rfl (aE rfl rfl (aN (XF.thenN (bQ (eI (fun q l W=>∃ i:Nat,i≤apl∧q=apl - i∧l=[(1,.slice bpa bpl bpc),(2,.func (.func 48) #[] #[]),(15,.slice apa apl apc),(16,.int .i64 (apl:Int)),(17,.int .i64 (i:Int))]∧((ps.zip qs).take i).all (fun x=>eqW k x.1 x.2)=true∧St w [] [] [] W) (apl - 0) ([(1,_),(2,_),(15,_),(16,_),(17,_)]) ⟨rfl,rfl,rfl,rfl,rfl,trivial⟩ (⟨0,Nat.zero_le _,rfl,rfl,rfl,hS.clear⟩) ?_)))))))))))
  clear hS
  rintro q l W ⟨i,hi,rfl,rfl,hall,hS⟩
  refine aJ (aQ (cY rfl rfl rfl (aN (XF.thenN (aJ (bA rfl (fun hc=>?_) (fun hc=>?_)))))))
  ·have hc18:=of_decide_eq_true hc;clear hc
   have hk:i < apl:=by omega
   obtain ⟨p,hp⟩:∃ p,ps[i]?=some p:=⟨ps[i]'(by omega),List.getElem?_eq_getElem _⟩
   obtain ⟨q,hq⟩:∃ q,qs[i]?=some q:=⟨qs[i]'(by omega),List.getElem?_eq_getElem _⟩
   have hzp:(ps.zip qs)[i]?=some (p,q):=List.getElem?_zip_eq_some.2 ⟨hp,hq⟩
   obtain ⟨b,off,rfl,hb,h6⟩:=hrow.at_ hp
   obtain ⟨b2,off2,rfl,hb2,h7⟩:=hrow2.at_ hq
   have k1:=aB.agree hS.agree (Nat.zero_le _) h6.cells
   have k2:=aB.agree hS.agree (Nat.zero_le _) h7.cells
   refine bM (XF.thenN (aJ (bQ (aJ (aQ (aE rfl rfl (cK  underlying42 sizeOf44 rfl rfl rfl (by omega) rfl rfl (aS (vs:=[_,_,_,_,_,_]) isAgg44 sizeOf44 rfl (by assumption) rfl (bB (cs:=[_,_,_,_,_,_]) hS zeroValue44 rfl rfl fun B1 W1 hS=>aC rfl rfl (aU (i:=0) (vs:=[_,_,_,_,_,_]) (cs':=[_,_,_,_,_,_]) (O':=[_]) hS sizeOf44 rfl rfl rfl rfl rfl rfl rfl fun W2 hS=>aN (XF.thenN (aJ ?_))))))))))))
   clear k2
   have k2:=aB.agree hS.agree (Nat.zero_le _) h7.cells
   refine aQ (aE rfl rfl (aE rfl rfl (cK  underlying42 sizeOf44 rfl rfl rfl (by omega) rfl rfl (aS (vs:=[_,_,_,_,_,_]) isAgg44 sizeOf44 rfl (by assumption) rfl (bB (cs:=[_,_,_,_,_,_]) hS zeroValue44 rfl rfl fun B3 W3 hS=>aU (i:=0) (vs:=[_,_,_,_,_,_]) (cs':=[_,_,_,_,_,_]) (O':=[_,_]) hS sizeOf44 rfl rfl rfl rfl rfl rfl rfl fun W4 hS=>aN (XF.thenN (aJ (aQ (aE rfl rfl (aS (vs:=[_,_,_,_,_,_]) isAgg44 sizeOf44 rfl (aB.own (j:=0) (m:=6) (hS.at_ 1 rfl) rfl) rfl (aS (vs:=[_,_,_,_,_,_]) isAgg44 sizeOf44 rfl (aB.own (j:=0) (m:=6) (hS.at_ 0 rfl) rfl) rfl (Vf (vs:=[_,_]) hS rfl E2 rfl (ih p q _ (WIn.below hS.below (hin p (List.mem_of_getElem? hp))) (WIn.below hS.below (hin2 q (List.mem_of_getElem? hq))) (hsm p (List.mem_of_getElem? hp)) (hsm2 q (List.mem_of_getElem? hq))) rfl ?_))))))))))))
   rintro e W5 ⟨rfl,hb⟩
   refine ⟨_,rfl,hb,fun hS'=>?_⟩
   clear hS;have hS:=hS';clear hS' hb
   refine fS rfl rfl (aN (XF.thenN (bA rfl (fun hc=>?_) (fun hc=>?_))))
   ·have hc30:=hc;clear hc
    refine aJ (aQ (aC rfl rfl (aN (XF.thenN (bX (XF.blkR (XF.thenR (XF.thenR (XF.blkR (XF.thenR (XF.res (cQ results91 rfl) ?_)))))))))))
    exact ⟨bT (by rw [dB hzp (by simpa using hc30)];simp),hS.below⟩
   ·have hc30:=hc;clear hc
    refine bM (XF.blkN (XF.thenN (aQ (cZ rfl rfl (IntWalk.i64_in _ (by omega)) rfl (aE rfl rfl (aN ?_))))))
    exact XF.round (apl - (i+1)) [(1,_),(2,_),(15,_),(16,_),(17,_)] (by omega) ⟨rfl,rfl,rfl,rfl,rfl,trivial⟩ ⟨i+1,by omega,rfl,rfl,fP hzp hall (by simpa using hc30),hS.tail.tail.clear⟩
  ·have hc18:=of_decide_eq_false hc;clear hc
   refine eF (XF.thenX (XF.thenX (XF.blkX (XF.thenN (aJ (aQ (aC rfl rfl (aN (XF.thenN (bX (XF.res (cQ results91 rfl) ?_)))))))))))
   rw [List.take_of_length_le (by rw [List.length_zip];omega)] at hall
   exact ⟨bT (by rw [hall,decide_eq_true (show ps.length=qs.length by omega)];rfl),hS.below⟩
theorem Cs (a b:Option Addr) (capa capb:Nat) (xs ys:List Cl) (w:World) (hm:xs.length≤maxLen) (hmb:ys.length≤maxLen) (hra:eZ w a xs) (hrb:eZ w b ys) (la lb:Nat) (hla:xs.length=la) (hlb:ys.length=lb) :
  Calls prog 90 #[.slice a la capa,.slice b lb capb] w (fun e w'=>e = .returned (.bool (xW xs ys))∧Below w.heap.size w w'):=by
 refine cB (args:=[.slice a la capa,.slice b lb capb]) func90 rfl ntmps90 rfl ?_
 have hS:=St.start w
 refine aJ (aQ (aC rfl rfl (aN (XF.thenN (aJ (aQ (aE rfl rfl (aE rfl rfl ?_))))))))
 refine cC (vs:=[_,_]) hS Sr rfl (by subst hla;subst hlb;exact Qn a b capa capb xs ys _ hm hmb (eZ.below hra hS.below) (eZ.below hrb hS.below) _ rfl) rfl fun W1 hS=>?_
 refine aC rfl rfl (aN (XF.thenN (bX (XF.res (cQ results90 rfl) ?_))))
 exact ⟨rfl,hS.below⟩
theorem Ix (k j:Nat) (az:Bool) (ac:Int) (ag:Nat) (ara:Option Addr) (arl arc:Nat) (arows:List Nat) (aca:Option Addr) (acl acc:Nat) (acells:List Cl) (apa:Option Addr) (apl apc:Nat)(bz:Bool) (bc:Int) (bg:Nat) (bra:Option Addr) (brl brc:Nat) (brows:List Nat) (bca:Option Addr) (bcl bcc:Nat) (bcells:List Cl) (bpa:Option Addr) (bpl bpc:Nat)(ps qs:List WV) (w:World) (hra:fQ w ara (u64s arows)) (hla:arows.length=arl) (hma:arl≤100) (hca:eZ w aca acells) (hka:acells.length=acl) (hna:acl≤100)(hrb:fQ w bra (u64s brows)) (hlb:brows.length=brl) (hmb:brl≤100) (hcb:eZ w bca bcells) (hkb:bcells.length=bcl) (hnb:bcl≤100)(hps:ps.length=apl) (hqs:qs.length=bpl) (hrow:yN w apa ps) (hrow2:yN w bpa qs) (hin:∀ p∈ps,WIn w k p) (hin2:∀ p∈qs,WIn w k p) (hpl:apl≤9223372036854775807) (hsm:∀ p∈ps,smN j p=true) (hsm2:∀ p∈qs,smN j p=true) (ih:∀ (p q:WV) (W:World),WIn W k p→WIn W k q→smN j p=true→smN j q=true→Calls prog 48 #[p.f.val,q.f.val] W fun e w'=>e = .returned (.bool (eqW k p q))∧Below W.heap.size W w') (r:Bool) (hr:r=true↔(az=bz∧ac=bc∧ag=bg∧arows=brows∧acells=bcells∧(decide (ps.length=qs.length) && (ps.zip qs).all fun x=>eqW k x.1 x.2)=true)) :
  Calls prog 48 #[.agg #[.bool az,.int .i64 ac,.int .u64 (ag:Int),.slice ara arl arc,.slice aca acl acc,.slice apa apl apc],.agg #[.bool bz,.int .i64 bc,.int .u64 (bg:Int),.slice bra brl brc,.slice bca bcl bcc,.slice bpa bpl bpc]] w (fun e w'=>e = .returned (.bool r)∧Below w.heap.size w w'):=by
 refine cB (args:=[.agg #[.bool az,.int .i64 ac,.int .u64 (ag:Int),.slice ara arl arc,.slice aca acl acc,.slice apa apl apc],.agg #[.bool bz,.int .i64 bc,.int .u64 (bg:Int),.slice bra brl brc,.slice bca bcl bcc,.slice bpa bpl bpc]]) func48 rfl ntmps48 rfl ?_
 have hS:=St.start w
 refine aJ (aQ (bR (cs:=[_,_,_,_,_,_]) hS rfl rfl rfl fun B1 W1 hS=>bR (cs:=[_,_,_,_,_,_]) hS rfl rfl rfl fun B2 W2 hS=>aC rfl rfl (aN (XF.thenN (aJ (aQ (aO (o':=0) dR rfl rfl rfl (aT isAgg4 rfl (aH (hS.at_ 1 rfl) rfl) rfl (aO (o':=0) dR rfl rfl rfl (aT isAgg4 rfl (aH (hS.at_ 0 rfl) rfl) rfl (op_eqlB underlying4 rfl rfl rfl (aE rfl rfl (cI (d:=10) rfl (fun hc=>?_) (fun hc=>?_))))))))))))))
 ·have hg10:=hc;clear hc
  refine aM (d:=10) rfl rfl (aO (o':=1) eV rfl rfl rfl (aM (d:=10) rfl rfl (aT isAgg3 rfl (aH (hS.at_ 1 rfl) rfl) rfl (aM (d:=10) rfl rfl (aO (o':=1) eV rfl rfl rfl (aM (d:=10) rfl rfl (aT isAgg3 rfl (aH (hS.at_ 0 rfl) rfl) rfl (aM (d:=10) rfl rfl (cG rfl rfl rfl (bV rfl rfl rfl (aE rfl rfl (cI (d:=17) rfl (fun hc=>?_) (fun hc=>?_)))))))))))))
  ·have hg17:=of_decide_eq_true hc;clear hc
   refine aM (d:=17) rfl rfl (aO (o':=2) eR rfl rfl rfl (aM (d:=17) rfl rfl (aS (vs:=[_,_]) isAgg40 sizeOf40 rfl (aB.own (j:=2) (m:=2) (hS.at_ 1 rfl) rfl) rfl (aM (d:=17) rfl rfl (aO (o':=2) eR rfl rfl rfl (aM (d:=17) rfl rfl (aS (vs:=[_,_]) isAgg40 sizeOf40 rfl (aB.own (j:=2) (m:=2) (hS.at_ 0 rfl) rfl) rfl (aM (d:=17) rfl rfl (cC (vs:=[_,_]) hS goes_89 rfl (Tw _ _ _ _ _ _ _ _ _ (by omega) (by omega) (fQ.below hra hS.below) (fQ.below hrb hS.below) _ rfl _ _ hla hlb) rfl fun W3 hS=>bV rfl rfl rfl (aE rfl rfl (cI (d:=24) rfl (fun hc=>?_) (fun hc=>?_))))))))))))
   ·have hg24:=hc;clear hc
    refine aM (d:=24) rfl rfl (aO (o':=4) dG rfl rfl rfl (aM (d:=24) rfl rfl (aT isAgg41 rfl (aH (hS.at_ 1 rfl) rfl) rfl (aM (d:=24) rfl rfl (aO (o':=4) dG rfl rfl rfl (aM (d:=24) rfl rfl (aT isAgg41 rfl (aH (hS.at_ 0 rfl) rfl) rfl (aM (d:=24) rfl rfl ?_))))))))
    refine cC (vs:=[_,_]) hS goes_90 rfl (Cs _ _ _ _ acells bcells _ (by simp only [maxLen];omega) (by simp only [maxLen];omega) (eZ.below hca hS.below) (eZ.below hcb hS.below) _ _ hka hkb) rfl fun W4 hS=>?_
    refine bV rfl rfl rfl (aE rfl rfl (cI (d:=31) rfl (fun hc=>?_) (fun hc=>?_)))
    ·have hg31:=hc;clear hc
     have hz:az=bz:=by simpa using hg10
     have hff:ag=bg∧arows=brows:=by simpa [qK] using hg24
     have hce:acells=bcells:=oU.1 hg31
     refine aM (d:=31) rfl rfl (aO (o':=5) cW rfl rfl rfl (aM (d:=31) rfl rfl (aT isAgg42 rfl (aH (hS.at_ 1 rfl) rfl) rfl (aM (d:=31) rfl rfl (aO (o':=5) cW rfl rfl rfl (aM (d:=31) rfl rfl (aT isAgg42 rfl (aH (hS.at_ 0 rfl) rfl) rfl (aM (d:=31) rfl rfl (cC (vs:=[_,_,_]) hS goes_91 rfl (Ra k j apa bpa apl bpl apc bpc ps qs _ hps hqs (hrow.below hS.below) (hrow2.below hS.below) (fun p hp=>WIn.below hS.below (hin p hp)) (fun p hp=>WIn.below hS.below (hin2 p hp)) hpl hsm hsm2 ih) rfl fun W5 hS=>bV rfl rfl rfl (aC rfl rfl (aN (XF.thenN (bX (XF.res (cQ results48 rfl) ?_))))))))))))))
     exact ⟨bT (A9 hr ⟨fun h=>h.2.2.2.2.2,fun h=>⟨hz,hg17,hff.1,hff.2,hce,h⟩⟩),hS.below⟩
    ·have hg31:=hc;clear hc
     refine aP (d:=31) rfl rfl rfl rfl (aP (d:=31) rfl rfl rfl rfl (aP (d:=31) rfl rfl rfl rfl (aP (d:=31) rfl rfl rfl rfl (aP (d:=31) rfl rfl rfl rfl (cH rfl rfl rfl (aC rfl rfl (aN (XF.thenN (bX (XF.res (cQ results48 rfl) ?_))))))))))
     exact ⟨bT (kM hr (fun h=>by have h5:=oU.2 h.2.2.2.2.1;rw [h5] at hg31;cases hg31)),hS.below⟩
   ·have hg24:=hc;clear hc
    refine aP (d:=24) rfl rfl rfl rfl (aP (d:=24) rfl rfl rfl rfl (aP (d:=24) rfl rfl rfl rfl (aP (d:=24) rfl rfl rfl rfl (aP (d:=24) rfl rfl rfl rfl (cH rfl rfl rfl (aE rfl rfl (aP (d:=31) rfl rfl rfl rfl (aP (d:=31) rfl rfl rfl rfl (aP (d:=31) rfl rfl rfl rfl (aP (d:=31) rfl rfl rfl rfl (aP (d:=31) rfl rfl rfl rfl (cH rfl rfl rfl (aC rfl rfl (aN (XF.thenN (bX (XF.res (cQ results48 rfl) ?_)))))))))))))))))
    exact ⟨bT (kM hr (fun h=>by obtain ⟨_,_,h3,h4,_⟩:=h;subst h3;subst h4;rw [C9] at hg24;cases hg24)),hS.below⟩
  ·have hg17:=of_decide_eq_false hc;clear hc
   refine aP (d:=17) rfl rfl rfl rfl (aP (d:=17) rfl rfl rfl rfl (aP (d:=17) rfl rfl rfl rfl (aP (d:=17) rfl rfl rfl rfl (aP (d:=17) rfl rfl rfl rfl (cH rfl rfl rfl (aE rfl rfl (aP (d:=24) rfl rfl rfl rfl (aP (d:=24) rfl rfl rfl rfl (aP (d:=24) rfl rfl rfl rfl (aP (d:=24) rfl rfl rfl rfl (aP (d:=24) rfl rfl rfl rfl (cH rfl rfl rfl (aE rfl rfl (aP (d:=31) rfl rfl rfl rfl (aP (d:=31) rfl rfl rfl rfl (aP (d:=31) rfl rfl rfl rfl (aP (d:=31) rfl rfl rfl rfl (aP (d:=31) rfl rfl rfl rfl (cH rfl rfl rfl (aC rfl rfl ?_))))))))))))))))))))
   refine aN (XF.thenN (bX (XF.res (cQ results48 rfl) ?_)))
   exact ⟨bT (kM hr (fun h=>hg17 h.2.1)),hS.below⟩
 ·have hg10:=hc;clear hc
  refine aP (d:=10) rfl rfl rfl rfl (aP (d:=10) rfl rfl rfl rfl (aP (d:=10) rfl rfl rfl rfl (aP (d:=10) rfl rfl rfl rfl (aP (d:=10) rfl rfl rfl rfl (cH rfl rfl rfl (aE rfl rfl (aP (d:=17) rfl rfl rfl rfl (aP (d:=17) rfl rfl rfl rfl (aP (d:=17) rfl rfl rfl rfl (aP (d:=17) rfl rfl rfl rfl (aP (d:=17) rfl rfl rfl rfl (cH rfl rfl rfl (aE rfl rfl (aP (d:=24) rfl rfl rfl rfl (aP (d:=24) rfl rfl rfl rfl (aP (d:=24) rfl rfl rfl rfl (aP (d:=24) rfl rfl rfl rfl (aP (d:=24) rfl rfl rfl rfl (cH rfl rfl rfl (aE rfl rfl ?_))))))))))))))))))))
  refine aP (d:=31) rfl rfl rfl rfl (aP (d:=31) rfl rfl rfl rfl (aP (d:=31) rfl rfl rfl rfl (aP (d:=31) rfl rfl rfl rfl (aP (d:=31) rfl rfl rfl rfl (cH rfl rfl rfl (aC rfl rfl (aN (XF.thenN (bX (XF.res (cQ results48 rfl) ?_))))))))))
  exact ⟨bT (kM hr (fun h=>by have h1:=h.1;subst h1;simp at hg10)),hS.below⟩
theorem mO {k:Nat} {f g:WF} {ps qs:List WV}:eqW (k+1) (.mk f ps) (.mk g qs)=true↔(f.z=g.z∧f.c=g.c∧f.g=g.g∧f.rows=g.rows∧f.cells=g.cells∧(decide (ps.length=qs.length) && (ps.zip qs).all fun x=>eqW k x.1 x.2)=true):=by
 simp only [eqW]
 rw [Bool.and_eq_true,decide_eq_true_eq,Bool.and_eq_true,oU]
 constructor
 ·rintro ⟨⟨a,b,c,d⟩,e,h⟩;exact ⟨a,b,c,d,e,h⟩
 ·rintro ⟨a,b,c,d,e,h⟩;exact ⟨⟨a,b,c,d⟩,e,h⟩
theorem xH:∀ (k j:Nat) (x y:WV) (w:World),WIn w k x→WIn w k y→smN j x=true→smN j y=true→Calls prog 20 #[x.f.val,y.f.val] w fun e w'=>e = .returned (.bool (eqW k x y))∧Below w.heap.size w w'
 | 0,_,x,y,w,hx,hy,_,_=>hx.elim
 | k+1,0,x,y,w,hx,hy,h,_=>by simp [smN] at h
 | k+1,j+1,.mk ⟨az,ac,ag,ara,arl,arc,arows,aca,acl,acc,acells,apa,apl,apc⟩ ps,.mk ⟨bz,bc,bg,bra,brl,brc,brows,bca,bcl,bcc,bcells,bpa,bpl,bpc⟩ qs,w,hx,hy,h,h2=>by
  obtain ⟨a1,a2,a3,a4⟩:=vS h
  obtain ⟨b1,b2,b3,b4⟩:=vS h2
  dsimp only at a1 a2 a3 b1 b2 b3
  exact Iw k j az ac ag ara arl arc arows aca acl acc acells apa apl apc bz bc bg bra brl brc brows bca bcl bcc bcells bpa bpl bpc ps qs w hx.1.rows hx.1.rl (by omega) hx.1.cells hx.1.cl (by omega) hy.1.rows hy.1.rl (by omega) hy.1.cells hy.1.cl (by omega) hx.2.1 hy.2.1 hx.2.2.1 hy.2.2.1 hx.2.2.2 hy.2.2.2 (by omega) a4 b4 (xH k j) _ mO
theorem xI:∀ (k j:Nat) (x y:WV) (w:World),WIn w k x→WIn w k y→smN j x=true→smN j y=true→Calls prog 48 #[x.f.val,y.f.val] w fun e w'=>e = .returned (.bool (eqW k x y))∧Below w.heap.size w w'
 | 0,_,x,y,w,hx,hy,_,_=>hx.elim
 | k+1,0,x,y,w,hx,hy,h,_=>by simp [smN] at h
 | k+1,j+1,.mk ⟨az,ac,ag,ara,arl,arc,arows,aca,acl,acc,acells,apa,apl,apc⟩ ps,.mk ⟨bz,bc,bg,bra,brl,brc,brows,bca,bcl,bcc,bcells,bpa,bpl,bpc⟩ qs,w,hx,hy,h,h2=>by
  obtain ⟨a1,a2,a3,a4⟩:=vS h
  obtain ⟨b1,b2,b3,b4⟩:=vS h2
  dsimp only at a1 a2 a3 b1 b2 b3
  exact Ix k j az ac ag ara arl arc arows aca acl acc acells apa apl apc bz bc bg bra brl brc brows bca bcl bcc bcells bpa bpl bpc ps qs w hx.1.rows hx.1.rl (by omega) hx.1.cells hx.1.cl (by omega) hy.1.rows hy.1.rl (by omega) hy.1.cells hy.1.cl (by omega) hx.2.1 hy.2.1 hx.2.2.1 hy.2.2.1 hx.2.2.2 hy.2.2.2 (by omega) a4 b4 (xI k j) _ mO
theorem Ed {S:PS} {sf:SF} {w:World} (hs:SIs w S sf) (hok:S.ok):Calls prog 32 #[sf.val] w fun e w'=>e = .returned (.int .i64 0)∧Below w.heap.size w w':=by
 obtain ⟨s,rfl,h,he⟩:=SIs.sin hs hok
 exact xD 2 s 0 w h he
end Go.Proofs.YtmgnkpibpjgncaaGreatDoor
namespace Go.Proofs.YtmgnkpibpjgncaaGreatDoor
open Go.Proofs.Tryz
open Go.RowKit
attribute [local go_sem ↓] Go.wp_at_zero Go.wp_at_succ
theorem Vg {w:World} {ds da:Nat} {s:SV} {x:WV} (hs:SIn w ds s) (hse:dW s=0) (hx:WIn w da x) :
  Calls prog 103 #[s.f.val,x.f.val] w fun e w'=>e = .returned (.bool (okW s x))∧Below w.heap.size w w':=by
 match ds,da,s,x,hs,hx with
 | ds+1,da+1,.mk f ps,.mk g qs,hs,hx =>
  by_cases hp:bI f.tag f.dim f.len=true
  ·refine nH f.tag f.dim f.a f.len f.cap g hp (Nat.zero_le _) w hx.1 _ ?_
   unfold okW;exact (if_pos hp).symm
  ·have hse':(if bI f.tag f.dim f.len=true then (0:Int) else if f.tag=5∧f.dim=0∧ps.length=2∧ps.all SV.pl=true then 0 else 50)=0:=hse
   rw [if_neg hp] at hse'
   split at hse'
   ·rename_i hq
    obtain ⟨h5,h0,h2,hall⟩:=hq
    obtain ⟨t,n,a,l,c⟩:=f
    dsimp only at h5 h0 hp
    subst h5;subst h0
    obtain ⟨p,q,rfl⟩:=tX h2
    have hl:2=l:=hs.1
    subst hl
    simp only [List.all_cons,List.all_nil,Bool.and_true,Bool.and_eq_true] at hall
    refine D8 ds a c p q g qs w hs hall.1 hall.2 da hx (fun _ _=>Nat.zero_le _) _ ?_
    unfold okW;exact (if_neg hp).symm
   ·cases hse'
theorem Vh {w:World} {ds da:Nat} {s:SV} {x:WV} (hs:SIn w ds s) (hse:dW s=0) (hx:WIn w da x) :
  Calls prog 78 #[s.f.val,x.f.val] w fun e w'=>e = .returned (.bool (okW s x))∧Below w.heap.size w w':=by
 match ds,da,s,x,hs,hx with
 | ds+1,da+1,.mk f ps,.mk g qs,hs,hx =>
  by_cases hp:bI f.tag f.dim f.len=true
  ·refine pW f.tag f.dim f.a f.len f.cap g hp (Nat.zero_le _) w hx.1 _ ?_
   unfold okW;exact (if_pos hp).symm
  ·have hse':(if bI f.tag f.dim f.len=true then (0:Int) else if f.tag=5∧f.dim=0∧ps.length=2∧ps.all SV.pl=true then 0 else 50)=0:=hse
   rw [if_neg hp] at hse'
   split at hse'
   ·rename_i hq
    obtain ⟨h5,h0,h2,hall⟩:=hq
    obtain ⟨t,n,a,l,c⟩:=f
    dsimp only at h5 h0 hp
    subst h5;subst h0
    obtain ⟨p,q,rfl⟩:=tX h2
    have hl:2=l:=hs.1
    subst hl
    simp only [List.all_cons,List.all_nil,Bool.and_true,Bool.and_eq_true] at hall
    refine Q4 ds a c p q g qs w hs hall.1 hall.2 da hx (fun _ _=>Nat.zero_le _) _ ?_
    unfold okW;exact (if_neg hp).symm
   ·cases hse'
end Go.Proofs.YtmgnkpibpjgncaaGreatDoor
namespace Go.Proofs.YtmgnkpibpjgncaaGreatDoor
open Go.Proofs.Tryz
open Go Go.RowKit
structure RV where
 p:Int
 g:Int
 q:Int
 wa:Option Addr
 wl:Nat
 wc:Nat
 ws:List Int
 x:WV
abbrev RV.ten (r:RV):List Value:=[.int .i64 r.p,.int .i64 r.g,.int .i64 r.q,.slice r.wa r.wl r.wc,.bool r.x.f.z,.int .i64 r.x.f.c,.int .u64 (r.x.f.g:Int),.slice r.x.f.ra r.x.f.rl r.x.f.rc,.slice r.x.f.ca r.x.f.cl r.x.f.cc,.slice r.x.f.pa r.x.f.pl r.x.f.pc]
structure RIn (w:World) (d:Nat) (r:RV):Prop where
 row:Row w r.wa r.ws
 len:r.ws.length=r.wl
 x:WIn w d r.x
def RRow (w:World) (a:Option Addr) (rs:List RV):Prop :=
 rs=[]∨∃ b off,a=some ⟨b,off,none⟩∧∀ (i:Nat) r,rs[i]?=some r→aB w b (off+i * 10) r.ten
structure PV where
 s:SV
 st:Int
 sy:Int
 ra:Option Addr
 rl:Nat
 rc:Nat
 rs:List RV
structure PvIn (w:World) (ds d:Nat) (p:PV):Prop where
 s:SIn w ds p.s
 row:RRow w p.ra p.rs
 len:p.rs.length=p.rl
 rin:∀ r∈p.rs,RIn w d r
structure CV where
 p:Int
 wa:Option Addr
 wl:Nat
 wc:Nat
 ws:List Int
theorem Row.at1 {w:World} {a:Option Addr} {zs:List Int} (h:Row w a zs) {i:Nat} (hi:i < zs.length):∃ b off y,a=some ⟨b,off,none⟩∧zs[i]?=some y∧w.cell? ⟨b,off+i * 1,none⟩=some (.int .i64 y):=by
 rcases h with rfl | ⟨b,off,ha,hc⟩
 ·simp at hi
 ·refine ⟨b,off,zs[i],ha,by simp [hi],?_⟩
  rw [Nat.mul_one]
  have:=hc i hi
  rw [this];simp [List.getD,List.getElem?_eq_getElem hi]
def inQ (x n:Int):Bool:=decide (0≤x) && decide (x < n)
def Vi (st sy:Int) (r:RV):Bool:=inQ r.p st && (inQ r.q st && (inQ r.g sy && (decide (r.wl≤4096) && r.ws.all (fun y=>inQ y sy))))
def wtE (s:SV):List RV→Int
 | []=>0
 | r::rs=>if lT s r.x=0 then wtE s rs else lT s r.x
def pdsE (p:PV):Int :=
 if dW p.s≠0 then dW p.s else if 16384 < p.rl then 3 else if p.st < 0∨4096 < p.st∨p.sy < 0∨4096 < p.sy then 110 else if p.rs.all (Vi p.st p.sy) then wtE p.s p.rs else 110
def Vj (p:PV) (c:CV):Bool:=inQ c.p p.st && (decide (c.wl≤4096) && c.ws.all (fun y=>inQ y p.sy))
def Vk (p:PV) (c:CV):Int:=if pdsE p≠0 then pdsE p else if Vj p c then 0 else 120
theorem Ba (ds da:Nat) (s:SV) (x:WV) (w:World) (hs:SIn w ds s) (hx:WIn w da x) (b:Nat) (hb0:aB w b 0 x.f.six) :
  Calls prog 77 #[s.f.val,.slice (some ⟨b,0,none⟩) 1 1] w (fun e w'=>e = .returned (.int .i64 (lT s x))∧Below w.heap.size w w'):=by
 refine cB (args:=[s.f.val,.slice (some ⟨b,0,none⟩) 1 1]) func77 rfl ntmps77 rfl ?_
 have hS:=St.start w
 refine aJ (aQ (bR (cs:=[_,_,_]) hS rfl rfl rfl fun B1 W1 hS=>aC rfl rfl (aN (XF.thenN (aJ (aJ (aQ (aS (vs:=[_,_,_]) isAgg25 sizeOf25 rfl (aB.own (j:=0) (m:=3) (hS.at_ 0 rfl) rfl) rfl (cC (vs:=[_]) hS uX rfl (wZ ds s _ _ (SIn.below hS.below hs) rfl) rfl fun W2 hS=>aC rfl rfl (aN (XF.thenN (aJ (aQ (aE rfl rfl (dX rfl rfl rfl (aN (XF.thenN (bA rfl (fun hc=>?_) (fun hc=>?_)))))))))))))))))))
 ·have hc11:=of_decide_eq_true hc;clear hc
  refine aJ (aQ (aE rfl rfl (aC rfl rfl (aN (XF.thenN (bX (XF.thenR (XF.res (cQ results77 rfl) ?_))))))))
  exact ⟨eK (by unfold lT;rw [if_neg hc11]),hS.below⟩
 ·have hc11:=of_decide_eq_false hc;clear hc
  have hse:dW s=0:=by omega
  refine bM (XF.thenN (aJ (aJ (aQ (aE rfl rfl (cX underlying42 rfl rfl (aE rfl rfl (aN (XF.thenN (bQ (eI (fun q l W=>∃ k:Nat,k≤1∧q=1 - k∧l=[(2,.pointer (some ⟨B1,0,none⟩)),(13,.slice (some ⟨b,0,none⟩) 1 1),(14,.int .i64 1),(15,.int .i64 (k:Int))]∧(1≤k→okW s x=true)∧St w [(B1,[.int .i64 s.f.tag,.int .i64 s.f.dim,.slice s.f.a s.f.len s.f.cap],25)] [] [] W) (1 - 0) ([(2,_),(13,_),(14,_),(15,_)]) ⟨rfl,rfl,rfl,rfl,trivial⟩ (⟨0,Nat.zero_le _,rfl,rfl,fun h=>by omega,hS.clear⟩) ?_)))))))))))
  clear hS
  rintro q l W ⟨k,hk1,rfl,rfl,hok,hS⟩
  refine aJ (aQ (cY rfl rfl rfl (aN (XF.thenN (aJ (bA rfl (fun hc=>?_) (fun hc=>?_)))))))
  ·have hc16:=of_decide_eq_true hc;clear hc
   obtain rfl:k=0:=by omega
   have k1:=aB.agree hS.agree (Nat.zero_le _) hb0
   refine bM (XF.thenN (aJ (bQ (aJ (aQ (cK  underlying42 sizeOf44 rfl rfl rfl (by omega) rfl rfl (aS (vs:=[_,_,_,_,_,_]) isAgg44 sizeOf44 rfl (by assumption) rfl (bB (cs:=[_,_,_,_,_,_]) hS zeroValue44 rfl rfl fun B3 W3 hS=>aU (i:=0) (vs:=[_,_,_,_,_,_]) (cs':=[_,_,_,_,_,_]) (O':=[_,_]) hS sizeOf44 rfl rfl rfl rfl rfl rfl rfl fun W4 hS=>aN (XF.thenN (aJ (aQ (aS (vs:=[_,_,_]) isAgg25 sizeOf25 rfl (aB.own (j:=0) (m:=3) (hS.at_ 1 rfl) rfl) rfl (aS (vs:=[_,_,_,_,_,_]) isAgg44 sizeOf44 rfl (aB.own (j:=0) (m:=6) (hS.at_ 0 rfl) rfl) rfl (cC (vs:=[_,_]) hS rB rfl (Vg (SIn.below hS.below hs) hse (WIn.below hS.below hx)) rfl fun W5 hS=>fS rfl rfl (aN (XF.thenN (bA rfl (fun hc=>?_) (fun hc=>?_))))))))))))))))))
   ·have hc22:=hc;clear hc
    refine aJ (aQ (aC rfl rfl (aN (XF.thenN (bX (XF.blkR (XF.thenR (XF.thenR (XF.blkR (XF.thenR (XF.res (cQ results77 rfl) ?_)))))))))))
    exact ⟨eK (by unfold lT;rw [if_pos hse,if_neg (by simpa using hc22)]),hS.below⟩
   ·have hc22:=hc;clear hc
    refine bM (XF.blkN (XF.thenN (aQ (cZ rfl rfl (IntWalk.i64_in _ (by omega)) rfl (aE rfl rfl (aN ?_))))))
    exact XF.round (1 - 1) [(2,_),(13,_),(14,_),(15,_)] (by omega) ⟨rfl,rfl,rfl,rfl,trivial⟩ ⟨1,by omega,rfl,rfl,fun _=>by simpa using hc22,hS.tail.clear⟩
  ·have hc16:=of_decide_eq_false hc;clear hc
   refine eF (XF.thenX (XF.thenX (XF.blkX (XF.thenN (aJ (aQ (aC rfl rfl (aN (XF.thenN (bX (XF.res (cQ results77 rfl) ?_)))))))))))
   exact ⟨eK (by unfold lT;rw [if_pos hse,if_pos (hok (by omega))]),hS.below⟩
theorem Iy (ds da:Nat) (s:SV) (x:WV) (w:World) (hs:SIn w ds s) (hx:WIn w da x) :
  Calls prog 31 #[s.f.val,x.f.val] w (fun e w'=>e = .returned (.int .i64 (lT s x))∧Below w.heap.size w w'):=by
 refine cB (args:=[s.f.val,x.f.val]) func31 rfl ntmps31 rfl ?_
 have hS:=St.start w
 refine aJ (aQ (bR (cs:=[_,_,_]) hS rfl rfl rfl fun B1 W1 hS=>bR (cs:=[_,_,_,_,_,_]) hS rfl rfl rfl fun B2 W2 hS=>aC rfl rfl (aN (XF.thenN (aJ (aQ (aS (vs:=[_,_,_]) isAgg25 sizeOf25 rfl (aB.own (j:=0) (m:=3) (hS.at_ 1 rfl) rfl) rfl (aS (vs:=[_,_,_,_,_,_]) isAgg44 sizeOf44 rfl (aB.own (j:=0) (m:=6) (hS.at_ 0 rfl) rfl) rfl (cN (us:=[(0,.agg (List.toArray [_,_,_,_,_,_]))]) hS underlying42 sizeOf44 zeroValue44 rfl rfl rfl (sH _ _ _ _ _ _) rfl fun B3 W3 hS=>cC (vs:=[_,_]) hS E3 rfl (Ba ds da s x _ (SIn.below hS.below hs) (WIn.below hS.below hx) _ (aB.own (j:=0) (m:=6) (hS.at_ 0 rfl) rfl)) rfl fun W4 hS=>aC rfl rfl (aN (XF.thenN (bX (XF.res (cQ results31 rfl) ?_)))))))))))))
 exact ⟨rfl,hS.below⟩
theorem Iz (ds da:Nat) (s:SV) (x:WV) (w:World) (hs:SIn w ds s) (hx:WIn w da x) :
  Calls prog 34 #[s.f.val,x.f.val] w (fun e w'=>e = .returned (.int .i64 (lT s x))∧Below w.heap.size w w'):=by
 refine cB (args:=[s.f.val,x.f.val]) func34 rfl ntmps34 rfl ?_
 have hS:=St.start w
 refine aJ (aQ (bR (cs:=[_,_,_]) hS rfl rfl rfl fun B1 W1 hS=>bR (cs:=[_,_,_,_,_,_]) hS rfl rfl rfl fun B2 W2 hS=>aC rfl rfl (aN (XF.thenN (aJ (aQ (aS (vs:=[_,_,_]) isAgg25 sizeOf25 rfl (aB.own (j:=0) (m:=3) (hS.at_ 1 rfl) rfl) rfl (cC (vs:=[_]) hS yS rfl (xD ds s _ _ (SIn.below hS.below hs) rfl) rfl fun W3 hS=>aC rfl rfl (aN (XF.thenN (aJ (aJ (aQ (aE rfl rfl (dX rfl rfl rfl (aN (XF.thenN (bA rfl (fun hc=>?_) (fun hc=>?_)))))))))))))))))))
 ·have hc9:=of_decide_eq_true hc;clear hc
  refine aJ (aQ (aE rfl rfl (aC rfl rfl (aN (XF.thenN (bX (XF.thenR (XF.res (cQ results34 rfl) ?_))))))))
  exact ⟨eK (by unfold lT;rw [if_neg hc9]),hS.below⟩
 ·have hc9:=of_decide_eq_false hc;clear hc
  have hse:dW s=0:=by omega
  refine bM (XF.thenN (aJ (aJ (aQ (aS (vs:=[_,_,_]) isAgg25 sizeOf25 rfl (aB.own (j:=0) (m:=3) (hS.at_ 1 rfl) rfl) rfl (aS (vs:=[_,_,_,_,_,_]) isAgg44 sizeOf44 rfl (aB.own (j:=0) (m:=6) (hS.at_ 0 rfl) rfl) rfl (cC (vs:=[_,_]) hS yU rfl (Vh (SIn.below hS.below hs) hse (WIn.below hS.below hx)) rfl fun W4 hS=>fS rfl rfl (aN (XF.thenN (bA rfl (fun hc=>?_) (fun hc=>?_)))))))))))
  ·have hc14:=hc;clear hc
   refine aJ (aQ (aC rfl rfl (aN (XF.thenN (bX (XF.thenR (XF.res (cQ results34 rfl) ?_)))))))
   exact ⟨eK (by unfold lT;rw [if_pos hse,if_neg (by simpa using hc14)]),hS.below⟩
  ·have hc14:=hc;clear hc
   refine bM (XF.thenN (aJ (aQ (aC rfl rfl (aN (XF.thenN (bX (XF.res (cQ results34 rfl) ?_))))))))
   exact ⟨eK (by unfold lT;rw [if_pos hse,if_pos (by simpa using hc14)]),hS.below⟩
abbrev jS (sf:SF) (f0:WF):Value:=.agg #[.int .i64 sf.tag,.int .i64 sf.dim,.slice sf.a sf.len sf.cap,.bool f0.z,.int .i64 f0.c,.int .u64 (f0.g:Int),.slice f0.ra f0.rl f0.rc,.slice f0.ca f0.cl f0.cc,.slice f0.pa f0.pl f0.pc]
theorem Rb (S:PS) (sf:SF) (w:World) (hs:SIs w S sf) (hok:S.ok) :
  Calls prog 36 #[sf.val] w (fun e w'=>∃ f0:WF,e = .returned (jS sf f0)∧gT w.heap.size w' S f0 (bP S)∧Below w.heap.size w w'):=by
 refine cB (args:=[sf.val]) func36 rfl ntmps36 rfl ?_
 have hS:=St.start w
 refine aJ (aQ (bR (cs:=[_,_,_]) hS rfl rfl rfl fun B1 W1 hS=>bB (cs:=[_,_,_,_,_,_,_,_,_]) hS zeroValue76 rfl rfl fun B2 W2 hS=>aN (XF.thenN (aJ (aQ (aS (vs:=[_,_,_]) isAgg25 sizeOf25 rfl (aB.own (j:=0) (m:=3) (hS.at_ 1 rfl) rfl) rfl ?_))))))
 have hsz:=hS.below.size
 refine cL (vs:=[_]) hS Nj rfl (Io S sf _ (hs.below hS.below) hok) rfl ?_
 rintro e W3 ⟨f0,rfl,hn,hb⟩
 refine ⟨_,rfl,hb,fun hS'=>?_⟩
 clear hS;have hS:=hS';clear hS'
 refine aE rfl rfl (bJ rfl rfl rfl (bJ rfl rfl rfl (bB (cs:=[_,_,_,_,_,_]) hS zeroValue44 rfl rfl fun B4 W4 hS=>aU (i:=0) (vs:=[_,_,_,_,_,_]) (cs':=[_,_,_,_,_,_]) (O':=[_,_,_]) hS sizeOf44 rfl rfl rfl rfl rfl rfl rfl fun W5 hS=>aC rfl rfl (aN (XF.thenN (aJ (aQ (aS (vs:=[_,_,_]) isAgg25 sizeOf25 rfl (aB.own (j:=0) (m:=3) (hS.at_ 2 rfl) rfl) rfl (aS (vs:=[_,_,_,_,_,_]) isAgg44 sizeOf44 rfl (aB.own (j:=0) (m:=6) (hS.at_ 0 rfl) rfl) rfl (cV (us:=[(0,.agg (List.toArray [_,_,_])),(1,.agg (List.toArray [_,_,_,_,_,_]))]) rfl (K6 _ _ _ _ _ _ _ _ _) rfl (aU (i:=1) (vs:=[_,_,_,_,_,_,_,_,_]) (cs':=[_,_,_,_,_,_,_,_,_]) (O':=[_,_,_]) hS sizeOf76 rfl rfl rfl rfl rfl rfl rfl fun W6 hS=>aN (XF.thenN (bX (XF.res (dJ (vs:=[_,_,_,_,_,_,_,_,_]) results36 isAgg76 sizeOf76 rfl (aB.own (j:=0) (m:=9) (hS.at_ 1 rfl) rfl)) ?_))))))))))))))
 exact ⟨f0,rfl,(hn.agree (hS.since 0 rfl)).mono hsz,hS.below⟩
theorem Md (S:PS) (sf:SF) (f0:WF) (w:World) (hs:SIs w S sf) (hok:S.ok) :
  Calls prog 65 #[jS sf f0] w (gH S (jW S) w):=by
 refine cB (args:=[jS sf f0]) func65 rfl ntmps65 rfl ?_
 have hS:=St.start w
 refine aJ (aQ (bR (cs:=[_,_,_,_,_,_,_,_,_]) hS rfl rfl rfl fun B1 W1 hS=>bB (cs:=[_,_,_,_,_,_]) hS zeroValue44 rfl rfl fun B2 W2 hS=>aN (XF.thenN (aJ (aQ (aO (o':=0) yV rfl rfl rfl (aS (vs:=[_,_,_]) isAgg25 sizeOf25 rfl (aB.own (j:=0) (m:=3) (hS.at_ 1 rfl) rfl) rfl ?_)))))))
 have hsz:=hS.below.size
 refine cL (vs:=[_]) hS goes_97 rfl (OneW_ok S sf _ (hs.below hS.below) hok) rfl ?_
 rintro e W3 ⟨f,rfl,hn,hb⟩
 refine ⟨_,rfl,hb,fun hS'=>?_⟩
 clear hS;have hS:=hS';clear hS'
 refine aE rfl rfl (bJ rfl rfl rfl (bJ rfl rfl rfl (bB (cs:=[_,_,_,_,_,_]) hS zeroValue44 rfl rfl fun B4 W4 hS=>aU (i:=0) (vs:=[_,_,_,_,_,_]) (cs':=[_,_,_,_,_,_]) (O':=[_,_,_]) hS sizeOf44 rfl rfl rfl rfl rfl rfl rfl fun W5 hS=>aC rfl rfl (aN (XF.thenN (aJ (aQ (aS (vs:=[_,_,_,_,_,_]) isAgg44 sizeOf44 rfl (aB.own (j:=0) (m:=6) (hS.at_ 0 rfl) rfl) rfl (aU (i:=1) (vs:=[_,_,_,_,_,_]) (cs':=[_,_,_,_,_,_]) (O':=[_,_,_]) hS sizeOf44 rfl rfl rfl rfl rfl rfl rfl fun W6 hS=>aN (XF.thenN (bX (XF.res (dJ (vs:=[_,_,_,_,_,_]) results65 isAgg44 sizeOf44 rfl (aB.own (j:=0) (m:=6) (hS.at_ 1 rfl) rfl)) ?_))))))))))))
 exact ⟨f,rfl,(hn.agree (hS.since 0 rfl)).mono hsz,hS.below⟩
theorem Ga (S:PS) (sf:SF) (rf:WF) (w:World) (hs:SIs w S sf) (hok:S.ok) (a:Option Addr) (c m:Nat) (f0:WF) (x0:PX) (ft:List WF) (xt:List PX) (hr:qP w a (f0::ft)) (hx:XL w S (f0::ft) (x0::xt)) (hm:ft.length+1=m) (hmc:m≤c) (hmx:m≤9223372036854775807) (ht:Tabs w) :
  Calls prog 98 #[jS sf rf,.slice a m c] w (gH S (xt.foldl (iW S) x0) w):=by
 refine cB (args:=[jS sf rf,.slice a m c]) func98 rfl ntmps98 rfl ?_
 have hS:=St.start w
 refine aJ (aQ (bR (cs:=[_,_,_,_,_,_,_,_,_]) hS rfl rfl rfl fun B1 W1 hS=>bB (cs:=[_,_,_,_,_,_]) hS zeroValue44 rfl rfl fun B2 W2 hS=>aN (XF.thenN (aJ (aQ (aO (o':=0) yV rfl rfl rfl (aS (vs:=[_,_,_]) isAgg25 sizeOf25 rfl (aB.own (j:=0) (m:=3) (hS.at_ 1 rfl) rfl) rfl (aE rfl rfl ?_))))))))
 have hsz:=hS.below.size
 refine cL (vs:=[_,_]) hS Sn rfl (L9 S sf _ (hs.below hS.below) hok a c m f0 x0 ft xt (hr.below hS.below) (hx.below hS.below) hm hmc hmx (ht.below hS.below)) rfl ?_
 rintro e W3 ⟨f,rfl,hn,hb⟩
 refine ⟨_,rfl,hb,fun hS'=>?_⟩
 clear hS;have hS:=hS';clear hS'
 refine aE rfl rfl (bJ rfl rfl rfl (bJ rfl rfl rfl (bB (cs:=[_,_,_,_,_,_]) hS zeroValue44 rfl rfl fun B4 W4 hS=>aU (i:=0) (vs:=[_,_,_,_,_,_]) (cs':=[_,_,_,_,_,_]) (O':=[_,_,_]) hS sizeOf44 rfl rfl rfl rfl rfl rfl rfl fun W5 hS=>aC rfl rfl (aN (XF.thenN (aJ (aQ (aS (vs:=[_,_,_,_,_,_]) isAgg44 sizeOf44 rfl (aB.own (j:=0) (m:=6) (hS.at_ 0 rfl) rfl) rfl (aU (i:=1) (vs:=[_,_,_,_,_,_]) (cs':=[_,_,_,_,_,_]) (O':=[_,_,_]) hS sizeOf44 rfl rfl rfl rfl rfl rfl rfl fun W6 hS=>aN (XF.thenN (bX (XF.res (dJ (vs:=[_,_,_,_,_,_]) results98 isAgg44 sizeOf44 rfl (aB.own (j:=0) (m:=6) (hS.at_ 1 rfl) rfl)) ?_))))))))))))
 exact ⟨f,rfl,(hn.agree (hS.since 0 rfl)).mono hsz,hS.below⟩
section
variable {P:Program} {ops:Array Oper} {Q:Exit→Act→World→Prop} {σ:Type}
structure RInvG (ops:Array Oper) (t0:Array Value) (d0:List Deferred) (G:σ→World→Prop) (I:σ→Nat→Value→World→Prop) (V:σ→Array Bool→Prop) (s:σ) (L:Array Bool) (a:Act) (w:World):Prop where
 size:a.tmps.size=t0.size
 defers:a.defers=d0
 frame:∀ t,freeT ops t=true→a.tmps.getD t undef=t0.getD t undef
 glob:G s w
 cons:V s L
 done:∀ i d,(ops[i]?).bind (·.dst)=some d→L.getD i false=true→I s i (a.tmps.getD d undef) w
def iO (ops:Array Oper) (L:Array Bool):Prop:=∀ j,L.getD j false=true→∀ x∈aft ops j,L.getD x false=true
def rR (ops:Array Oper) (L:Array Bool) (i:Nat):Prop:=L.getD i false=false∧∀ x∈aft ops i,L.getD x false=true
def Vl (P:Program) (ops:Array Oper) (Q:Exit→Act→World→Prop) (t0:Array Value) (G:σ→World→Prop) (I:σ→Nat→Value→World→Prop) (V:σ→Array Bool→Prop) (i:Nat):Prop :=
 ∀ s L (a:Act) w,(∀ t,freeT ops t=true→a.eval (.tmp t)=t0.getD t undef)→G s w→V s L→L.size=ops.size→iO ops L→rR ops L i→(∀ j d,bD ops i j d=true→I s j (a.eval (.tmp d)) w) →
  wpOp P ops Q i (fun a' w'=>∃ s' v,a'=a.put ((ops[i]?).bind (·.dst)) v∧V s' (L.setIfInBounds i true)∧G s' w'∧(∀ d,(ops[i]?).bind (·.dst)=some d→I s' i v w')∧(∀ j d,(ops[j]?).bind (·.dst)=some d→I s j (a.tmps.getD d undef) w→I s' j (a.tmps.getD d undef) w')) a w
def yD (ops:Array Oper) (k:Nat):Bool:=(List.range ops.size).all fun j=>decide (j < k) || (List.range j).all fun i=>(earlyL ops j).contains i
theorem uM {k j i:Nat} (h:yD ops k=true) (hj:j < ops.size) (hk:k≤j) (hi:i < j):i∈earlyL ops j:=by
 have h1:=List.all_eq_true.1 h j (List.mem_range.2 hj)
 rw [Bool.or_eq_true,decide_eq_true_eq] at h1
 rcases h1 with h1 | h1
 ·omega
 ·exact List.contains_iff_mem.1 (List.all_eq_true.1 h1 i (List.mem_range.2 hi))
theorem sT {L:Array Bool} {i:Nat} (h:i∈Region.ready .any ops L) (hs:L.size=ops.size):i < ops.size∧rR ops L i:=by
 obtain ⟨h1,o,ho,hdep⟩:=mem_ready.1 h
 have his:i < ops.size:=(Array.getElem?_eq_some_iff.1 ho).1
 refine ⟨his,?_,fun x hx=>?_⟩
 ·rw [Array.getD_eq_getD_getElem?,Array.getElem?_eq_getElem (by omega)] at h1 ⊢
  simpa using h1
 ·obtain ⟨e,he,h5,h6⟩:=E8 ho hx
  have h7:=hdep e he h6
  rw [h5] at h7
  exact h7
theorem lU {L:Array Bool} {i:Nat} (hi:i < L.size) (h:L.getD i false=false):L.toList[i]?=some false:=by
 rw [Array.getD_eq_getD_getElem?,Array.getElem?_eq_getElem hi] at h
 rw [Array.getElem?_toList,Array.getElem?_eq_getElem hi]
 simpa using h
theorem iO.next {L:Array Bool} {i:Nat} (h:iO ops L) (hr:rR ops L i) (hi:i < L.size):iO ops (L.setIfInBounds i true):=fun j hj x hx=>by
 have hx2:L.getD x false=true:=by
  by_cases hji:j=i
  ·subst hji;exact hr.2 x hx
  ·rw [getD_set_ne false (Ne.symm hji)] at hj
   exact h j hj x hx
 by_cases hxi:x=i
 ·subst hxi
  rw [Array.getD_eq_getD_getElem?,Array.getElem?_setIfInBounds_self_of_lt hi];rfl
 ·rw [getD_set_ne false (Ne.symm hxi)];exact hx2
theorem oD {L:Array Bool} {i:Nat} (h:iO ops L) (hr:rR ops L i):∀ x∈earlyL ops i,L.getD x false=true :=
 pJ (D:=fun x=>L.getD x false=true) hr.2 (fun j hj x hx=>h j hj x hx)
theorem rS (ht:∀ n,dT ops n=true→True) {k:Nat} (hl:yD ops k=true) {n0:Nat} (htd:dT ops n0=true):∀ (m j fuel:Nat) (L:Array Bool) (a:Act) (w:World),ops.size=j+m→k≤j→m≤fuel→L.size=ops.size→iO ops L→(∀ i,i < j→L.getD i false=true)→(∀ i,j≤i→L.getD i false=false) →
  wpList P ops Q (ops.toList.drop j) a w→wpAny P .any ops Q fuel L a w
 | 0,j,fuel,L,a,w,hm,hk,hf,hs,hc,hd,hn,h=>by
  have hnil:Region.ready .any ops L=[]:=by
   cases hr:Region.ready .any ops L with
   | nil=>rfl
   | cons i rest =>
    obtain ⟨h1,h2⟩:=sT (by rw [hr];exact List.mem_cons_self) hs
    have h3:=h2.1
    rw [hd i (by omega)] at h3
    cases h3
  rw [List.drop_of_length_le (by simp;omega)] at h
  cases fuel with
  | zero=>exact ⟨hnil,h⟩
  | succ fuel=>exact ⟨fun _=>h,by rw [hnil];simp⟩
 | m+1,j,0,L,a,w,hm,hk,hf,hs,hc,hd,hn,h=>by omega
 | m+1,j,fuel+1,L,a,w,hm,hk,hf,hs,hc,hd,hn,h=>by
  have hj:j < ops.size:=by omega
  have only:∀ i∈Region.ready .any ops L,i=j:=fun i hi=>by
   obtain ⟨h1,h2⟩:=sT hi hs
   rcases Nat.lt_trichotomy i j with h3 | h3 | h3
   ·have h4:=h2.1
    rw [hd i h3] at h4;cases h4
   ·exact h3
   ·have:=oD hc h2 j (uM hl h1 (by omega) h3)
    rw [hn j (Nat.le_refl _)] at this;cases this
  refine ⟨fun hr=>?_,fun i hi=>?_⟩
  ·have:=gL htd hs hr j hj
   have h2:=hn j (Nat.le_refl _)
   rw [Array.getD_eq_getD_getElem?,Array.getElem?_eq_getElem (by omega)] at this h2
   simp at this h2
   rw [this] at h2;cases h2
  ·obtain ⟨h1,h2⟩:=sT hi hs
   obtain rfl:=only i hi
   have e:ops.toList.drop i=ops[i]::ops.toList.drop (i+1):=by
    rw [List.drop_eq_getElem_cons (by simpa using hj)];simp
   rw [e] at h
   have key:wpOp P ops Q i (fun a' w'=>wpList P ops Q (ops.toList.drop (i+1)) a' w') a w:=by
    unfold wpOp
    rw [Array.getElem?_eq_getElem hj]
    exact h
   refine wpOp_mono ?_ key
   intro a' w' hq
   refine rS ht hl htd m (i+1) fuel _ a' w' (by omega) (by omega) (by omega) (by simpa using hs) (hc.next h2 (by omega)) (fun x hx=>?_) (fun x hx=>?_) hq
   ·by_cases hxi:x=i
    ·subst hxi
     rw [Array.getD_eq_getD_getElem?,Array.getElem?_setIfInBounds_self_of_lt (by omega)];rfl
    ·rw [getD_set_ne false (Ne.symm hxi)];exact hd x (by omega)
   ·rw [getD_set_ne false (by omega)];exact hn x (by omega)
theorem vT {t0:Array Value} {d0:List Deferred} {G:σ→World→Prop} {I:σ→Nat→Value→World→Prop} {V:σ→Array Bool→Prop} {k:Nat} (hk:k < ops.size) (hl:yD ops k=true) (ht:dT ops t0.size=true)
  (hstep:∀ i,i < k→Vl P ops Q t0 G I V i)
  (hfin:∀ s L a w,RInvG ops t0 d0 G I V s L a w→(∀ i,i < k→L.getD i false=true)→(∀ i,k≤i→L.getD i false=false)→wpList P ops Q (ops.toList.drop k) a w) :
  ∀ (fuel:Nat) (s:σ) (L:Array Bool) (a:Act) (w:World),L.size=ops.size→L.toList.count false≤fuel→iO ops L→(∀ i,k≤i→L.getD i false=false)→RInvG ops t0 d0 G I V s L a w→wpAny P .any ops Q fuel L a w:=by
 intro fuel
 induction fuel with
 | zero =>
  intro s L a w hs hc hcl hn h
  have:=fH _ _ (lU (by omega) (hn k (Nat.le_refl _)))
  omega
 | succ fuel ih =>
  intro s L a w hs hc hcl hn h
  by_cases hall:∀ i,i < k→L.getD i false=true
  ·have hcnt:ops.size - k≤L.toList.count false:=by
    have key:∀ (l:List Bool) (k:Nat),(∀ i,k≤i→i < l.length→l[i]?=some false)→l.length - k≤l.count false:=by
     intro l
     induction l with
     | nil=>intro k _;simp
     | cons b l ihl =>
      intro k hk
      cases k with
      | zero =>
       have h0:=hk 0 (Nat.le_refl _) (by simp)
       simp at h0;subst h0
       have:=ihl 0 (fun i _ hi=>by have:=hk (i+1) (by omega) (by simpa using hi);simpa using this)
       simp at this ⊢;omega
      | succ k =>
       have:=ihl k (fun i hi hi2=>by have:=hk (i+1) (by omega) (by simpa using hi2);simpa using this)
       rw [List.count_cons];simp;omega
    have:=key L.toList k (fun i h1 h2=>lU (by simpa using h2) (hn i h1))
    simpa [hs] using this
   exact rS (fun _ _=>trivial) hl ht (ops.size - k) k (fuel+1) L a w (by omega) (Nat.le_refl _) (by omega) hs hcl hall hn (hfin s L a w h hall hn)
  ·refine ⟨fun hr=>?_,fun i hi=>?_⟩
   ·exfalso;apply hall
    intro i hi
    have h1:=gL ht hs hr i (by omega)
    rw [Array.getD_eq_getD_getElem?,Array.getElem?_eq_getElem (by omega)] at h1 ⊢
    simpa using h1
   ·obtain ⟨his,hr⟩:=sT hi hs
    have hik:i < k:=by
     rcases Nat.lt_or_ge i k with h1 | h1
     ·exact h1
     ·exfalso;apply hall
      intro x hx
      exact oD hcl hr x (uM hl his h1 (by omega))
    have hc1:=fH _ _ (lU (by omega) hr.1)
    refine wpOp_mono ?_ (hstep i hik s L a w (fun t ht=>h.frame t ht) h.glob h.cons hs hcl hr (fun j d hw=>?_))
    ·rintro a' w' ⟨s',v,rfl,hV,hG,hI,hst⟩
     refine ih s' _ _ _ (by simpa using hs) ?_ (hcl.next hr (by omega)) (fun x hx=>by rw [getD_set_ne false (by omega)];exact hn x hx) ⟨by rw [lK];exact h.size,by rw [iP];exact h.defers,fun t hf=>?_,hG,hV,fun j d hd hj=>?_⟩
     ·rw [Array.toList_setIfInBounds];omega
     ·rw [eU ?_]
      ·exact h.frame t hf
      ·intro hd
       obtain ⟨o,ho,hd⟩:=Option.bind_eq_some_iff.1 hd
       have:=Array.all_eq_true'.1 hf o (Array.mem_of_getElem? ho)
       simp [hd] at this
     ·by_cases hji:j=i
      ·subst hji
       rw [qR hd (by rw [h.size];exact (gB ht hd).1)]
       exact hI d hd
      ·rw [getD_set_ne false (Ne.symm hji)] at hj
       rw [eU (fun e=>hji ((gB ht e).2 j hd))]
       exact hst j d hd (h.done j d hd hj)
    ·have:j∈aft ops i:=by
      unfold bD at hw
      unfold aft
      cases ho:ops[i]? with
      | none=>simp [ho] at hw
      | some o =>
       simp only [ho,Bool.and_eq_true,beq_iff_eq] at hw
       obtain ⟨e,he,h2⟩:=Array.any_eq_true'.1 hw.1
       simp only [Bool.and_eq_true,beq_iff_eq] at h2
       exact List.mem_map.2 ⟨e,List.mem_filter.2 ⟨Array.mem_toList_iff.2 he,h2.2⟩,h2.1⟩
     have hd:(ops[j]?).bind (·.dst)=some d:=by
      unfold bD at hw
      simp only [Bool.and_eq_true,beq_iff_eq] at hw
      exact hw.2
     exact h.done j d hd (hr.2 j this)
end
structure Sg where
 ev:Option Value
 bs:List (Nat×Nat)
def OE (ca:Nat→Option Value→List Value) (ta:Nat→TypeId) (Os:Option Value→Own) (s:Sg):Own:=s.bs.map (fun q=>(q.2,ca q.1 s.ev,ta q.1))++Os s.ev
def XB (O:Own) (G:cU) (b:Nat):Prop:=(∃ p∈O,p.1=b)∨(∃ g∈G,g.v.ownBlock=some b)
def iK (lo:Nat) (X:Nat→Prop) (w w':World):Prop:=(w'.os=w.os∧w'.tape=w.tape∧w'.output=w.output)∧w.heap.size≤w'.heap.size∧∀ b,lo≤b→b < w.heap.size→¬ X b→w'.heap[b]?=w.heap[b]?
def AwS (lo:Nat) (X:Nat→Prop) (p:Asr):Asr:=fun v w=>∀ w',iK lo X w w'→p v w'
section
variable {lo:Nat} {X X':Nat→Prop} {w w' w'':World} {p:Asr} {v c:Value}
theorem iK.refl (lo:Nat) (X:Nat→Prop) (w:World):iK lo X w w:=⟨⟨rfl,rfl,rfl⟩,Nat.le_refl _,fun _ _ _ _=>rfl⟩
theorem I0 (h:Below w.heap.size w w'):iK lo X w w':=⟨⟨h.os,h.tape,h.output⟩,h.size,fun b _ hb _=>h.block b hb⟩
theorem iK.trans (h:iK lo X w w') (k:iK lo X' w' w'') (hx:∀ b,X' b→X b∨w.heap.size≤b):iK lo X w w'' :=
 ⟨⟨k.1.1.trans h.1.1,k.1.2.1.trans h.1.2.1,k.1.2.2.trans h.1.2.2⟩,Nat.le_trans h.2.1 k.2.1,fun b h1 h2 h3=>(k.2.2 b h1 (Nat.lt_of_lt_of_le h2 h.2.1) (fun hb=>(hx b hb).elim h3 (fun h4=>by omega))).trans (h.2.2 b h1 h2 h3)⟩
theorem iK.mono (h:iK 0 X w w'):iK lo X w w':=⟨h.1,h.2.1,fun b _ hb hx=>h.2.2 b (Nat.zero_le _) hb hx⟩
theorem AwS.here (h:AwS lo X p v w):p v w:=h w (iK.refl _ _ _)
theorem AwS.next (h:AwS lo X p v w) (hs:iK 0 X w w') (hx:∀ b,X' b→X b∨w.heap.size≤b):AwS lo X' p v w':=fun w2 h2=>h w2 (hs.mono.trans h2 hx)
theorem Ok:AwS lo X (isV c) c w:=fun _ _=>rfl
end
section
variable {P:Program} {n:Nat} {Q:Exit→Act→World→Prop} {l:Fr} {w0 W:World} {ops:Array Oper} {os:List Oper} {K:List (Nat×World)} {L:List Asr} {i:Nat}
variable {al:List Nat} {ca:Nat→Option Value→List Value} {ta:Nat→TypeId} {Os:Option Value→Own} {Gs:Option Value→cU} {lo ef jy:Nat} {s:Sg}
theorem St.drops {O:Own} {G:cU} {w:World}:∀ (A:Own),St w0 (A++O) G K w→St w0 O G K w
 | [],h=>h
 | _::A,h=>St.drops A h.tail
def GG (w0:World) (K:List (Nat×World)) (lo:Nat) (ca:Nat→Option Value→List Value) (ta:Nat→TypeId) (Os:Option Value→Own) (Gs:Option Value→cU) (s:Sg) (w:World):Prop:=St w0 (OE ca ta Os s) (Gs s.ev) K w∧lo≤w.heap.size∧∀ q∈s.bs,lo≤q.2
def VG (al:List Nat) (ef:Nat) (s:Sg) (L:Array Bool):Prop:=(∀ a∈al,L.getD a false=true↔∃ B,(a,B)∈s.bs)∧(∀ q∈s.bs,q.1∈al)∧s.bs.Pairwise (fun p q=>p.1≠q.1)∧(L.getD ef false=true↔s.ev.isSome=true)
def IG (al:List Nat) (ef jy lo:Nat) (ca:Nat→Option Value→List Value) (ta:Nat→TypeId) (Os:Option Value→Own) (Gs:Option Value→cU) (L:List Asr) (s:Sg) (i:Nat) (v:Value) (w:World):Prop :=
 (i∈al→∃ B,(i,B)∈s.bs∧v = .pointer (some ⟨B,0,none⟩))∧(i=ef→s.ev=some v)∧(i=jy→∀ y,s.ev=some y→v=y)∧(i∉al→i≠ef→AwS lo (XB (OE ca ta Os s) (Gs s.ev)) (atI L i) v w)
def Tr (ops:Array Oper) (jy:Nat) (ca:Nat→Option Value→List Value) (ta:Nat→TypeId) (Os:Option Value→Own) (Gs:Option Value→cU) (s s':Sg) (a:Act) (w w':World):Prop :=
 iK 0 (XB (OE ca ta Os s) (Gs s.ev)) w w'∧(∀ b,XB (OE ca ta Os s') (Gs s'.ev) b→XB (OE ca ta Os s) (Gs s.ev) b∨w.heap.size≤b)∧(∀ q∈s.bs,q∈s'.bs)∧(s'.ev=s.ev∨(s.ev=none∧∃ y,s'.ev=some y∧∀ d,(ops[jy]?).bind (·.dst)=some d→a.eval (.tmp d)=y))
theorem Tr.refl {a:Act} {w w':World} (h:Below w.heap.size w w'):Tr ops jy ca ta Os Gs s s a w w':=⟨I0 h,fun b hb=>.inl hb,fun q hq=>hq,.inl rfl⟩
def SG (P:Program) (n:Nat) (ops:Array Oper) (Q:Exit→Act→World→Prop) (l:Fr) (w0:World) (K:List (Nat×World)) (lo:Nat) (al:List Nat) (ef jy:Nat) (ca:Nat→Option Value→List Value) (ta:Nat→TypeId) (Os:Option Value→Own) (Gs:Option Value→cU) (L:List Asr) (i:Nat):Prop :=
 ∀ t0,Has n l t0→∀ s LB (a:Act) w,(∀ t,freeT ops t=true→a.eval (.tmp t)=t0.tmps.getD t undef)→GG w0 K lo ca ta Os Gs s w→VG al ef s LB→LB.size=ops.size→iO ops LB→rR ops LB i→(∀ j d,bD ops i j d=true→IG al ef jy lo ca ta Os Gs L s j (a.eval (.tmp d)) w) →
  wpOp P ops Q i (fun a' w'=>∃ s' v,a'=a.put ((ops[i]?).bind (·.dst)) v∧VG al ef s' (LB.setIfInBounds i true)∧GG w0 K lo ca ta Os Gs s' w'∧Tr ops jy ca ta Os Gs s s' a w w'∧(∀ d,(ops[i]?).bind (·.dst)=some d→IG al ef jy lo ca ta Os Gs L s' i v w')) a w
theorem SG.step (h:SG P n ops Q l w0 K lo al ef jy ca ta Os Gs L i):∀ a,Has n l a→Vl P ops Q a.tmps (GG w0 K lo ca ta Os Gs) (IG al ef jy lo ca ta Os Gs L) (VG al ef) i:=fun t0 h0 s LB a w hF hG hV hs hc hr hD=>by
 refine wpOp_mono ?_ (h t0 h0 s LB a w hF hG hV hs hc hr hD)
 rintro a' w' ⟨s',v,h1,h2,h3,⟨t1,t2,t3,t4⟩,h5⟩
 refine ⟨s',v,h1,h2,h3,h5,fun j d hd hj=>⟨fun hj1=>?_,fun hj1=>?_,fun hj1 y hy=>?_,fun h6 h7=>(hj.2.2.2 h6 h7).next t1 t2⟩⟩
 ·obtain ⟨B,hB,e⟩:=hj.1 hj1
  exact ⟨B,t3 _ hB,e⟩
 ·rcases t4 with t4 | ⟨t4,_⟩
  ·rw [t4];exact hj.2.1 hj1
  ·have:=hj.2.1 hj1;rw [t4] at this;cases this
 ·rcases t4 with t4 | ⟨t4,y',t5,t6⟩
  ·rw [t4] at hy;exact hj.2.2.1 hj1 y hy
  ·rw [t5] at hy;cases hy
   subst hj1
   exact t6 d hd
theorem SG.ext {L1 L2:List Asr} (ht:dT ops n=true) (hag:∀ j,j≤i→atI L1 j=atI L2 j) (h:SG P n ops Q l w0 K lo al ef jy ca ta Os Gs L1 i):SG P n ops Q l w0 K lo al ef jy ca ta Os Gs L2 i:=fun t0 h0 s LB a w hF hG hV hs hc hr hD=>by
 have hlt:∀ j d,bD ops i j d=true→j < i:=fun j d hw=>by
  cases ho:ops[i]? with
  | none=>simp [bD,ho] at hw
  | some o =>
   simp only [bD,ho,Bool.and_eq_true,beq_iff_eq] at hw
   obtain ⟨e,he,h2⟩:=Array.any_eq_true'.1 hw.1
   simp only [Bool.and_eq_true,beq_iff_eq] at h2
   rw [← h2.1];exact jM ht ho e he h2.2
 have h2:=h t0 h0 s LB a w hF hG hV hs hc hr (fun j d hw=>by unfold IG;rw [hag j (Nat.le_of_lt (hlt j d hw))];exact hD j d hw)
 unfold IG at h2
 rw [hag i (Nat.le_refl _)] at h2
 exact h2
def pY (ops:Array Oper) (ef i:Nat):Bool:=Nat.ble ops.size ef || (earlyL ops ef).contains i
def xJ (ops:Array Oper) (ef jy i:Nat):Bool := !Nat.beq i jy || pY ops ef i
theorem sU (h:xJ ops ef jy i=true):i=jy→pY ops ef i=true:=fun e=>by
 unfold xJ at h
 rw [e,Nat.beq_refl] at h
 rw [e];exact h
theorem zC {L:Array Bool} (hV:VG al ef s L) (hs:L.size=ops.size) (hc:iO ops L) (hi:L.getD i false=false) (he:pY ops ef i=true):s.ev=none:=by
 cases hev:s.ev with
 | none=>rfl
 | some v =>
  have hd:L.getD ef false=true:=hV.2.2.2.2 (by rw [hev];rfl)
  unfold pY at he
  rw [Bool.or_eq_true] at he
  rcases he with he | he
  ·have h1:ops.size≤ef:=Nat.le_of_ble_eq_true he
   rw [Array.getD_eq_getD_getElem?,Array.getElem?_eq_none (by omega)] at hd
   cases hd
  ·have:=pJ (D:=fun x=>L.getD x false=true) (hc ef hd) (fun j hj x hx=>hc j hj x hx) i (List.contains_iff_mem.1 he)
   rw [hi] at this;cases this
theorem vU {t0:Act} (h0:Has n l t0) {a:Act} {w:World} (hF:∀ t,freeT ops t=true→a.eval (.tmp t)=t0.tmps.getD t undef) (hD:∀ j d,bD ops i j d=true→IG al ef jy lo ca ta Os Gs L s j (a.eval (.tmp d)) w)
  (hn:∀ j d,bD ops i j d=true→j∈al∨j=ef→atI L j=anyA):∀ j d,bD ops i j d=true→atI L j (a.eval (.tmp d)) w:=fun j d hw=>by
 by_cases h1:j∈al∨j=ef
 ·rw [hn j d hw h1];trivial
 ·rw [not_or] at h1
  exact ((hD j d hw).2.2.2 h1.1 h1.2).here
def rT (al:List Nat) (ef:Nat) (L:List Asr):Prop:=∀ j,j∈al∨j=ef→atI L j=anyA
theorem I1 {L:Array Bool} (hV:VG al ef s L) (hi:i∉al) (he:i≠ef):VG al ef s (L.setIfInBounds i true) :=
 ⟨fun a ha=>by rw [getD_set_ne false (fun e=>hi (by rw [e];exact ha))];exact hV.1 a ha,hV.2.1,hV.2.2.1,by rw [getD_set_ne false he];exact hV.2.2.2⟩
variable {d:Nat} {op:Op} {ty:TypeId} {pos:String} {aft_:Array Edge} {v:Value} {gd:Option (Nat×Bool)}
theorem Gb (hal:i∉al) (hie:i≠ef) (hij:i=jy→pY ops ef i=true) (hi:ops[i]?=some ⟨some d,op,ty,pos,aft_,gd⟩) (hNo:rT al ef L)
  (h:∀ (t0 a:Act) s w,Has n l t0→(∀ t,freeT ops t=true→a.eval (.tmp t)=t0.tmps.getD t undef)→GG w0 K lo ca ta Os Gs s w→(pY ops ef i=true→s.ev=none)→(∀ j d,bD ops i j d=true→IG al ef jy lo ca ta Os Gs L s j (a.eval (.tmp d)) w)→(∀ j d,bD ops i j d=true→atI L j (a.eval (.tmp d)) w) →
   wpOp P ops Q i (fun a' w'=>∃ v,a'=a.put (some d) v∧AwS lo (XB (OE ca ta Os s) (Gs s.ev)) (atI L i) v w'∧Below w.heap.size w w') a w):SG P n ops Q l w0 K lo al ef jy ca ta Os Gs L i:=fun t0 h0 s LB a w hF hG hV hs hc hr hD=>by
 refine wpOp_mono ?_ (h t0 a s w h0 hF hG (fun he=>zC hV hs hc hr.1 he) hD (vU h0 hF hD fun j d _ hj=>hNo j hj))
 rintro a' w' ⟨v,rfl,hA,hb⟩
 refine ⟨s,v,by rw [hi];rfl,I1 hV hal hie,⟨hG.1.grow hb,Nat.le_trans hG.2.1 hb.size,hG.2.2⟩,Tr.refl hb,fun _ _=>⟨fun h=>absurd h hal,fun h=>absurd h hie,(fun h y hy=>by rw [zC hV hs hc hr.1 (hij h)] at hy;cases hy),fun _ _=>hA⟩⟩
theorem Gc {o:Oper} {a:Act} {w w':World} {K':Act→World→Prop} (hi:ops[i]?=some o) (hw:Region.wanted o (yielded ops a.tmps)=true) (hr:(execOp a.eval o).run P w = .ok (.value v) w') (hK:K' (a.put o.dst v) w'):wpOp P ops Q i K' a w:=by
 unfold wpOp
 simp only [hi,hw,if_true]
 refine .inl ?_
 unfold Oper.wp
 rw [hr]
 exact hK
theorem sgV (li:Fr) (hal:al.contains i=false) (hie:Nat.beq i ef=false) (hij:xJ ops ef jy i=true) (hi:ops[i]?=some ⟨some d,op,ty,pos,aft_,gd⟩) (hNo:rT al ef L) (hw:gC ops L i ⟨some d,op,ty,pos,aft_,gd⟩) (hli:wS n ops l L i li)
  (hr:∀ ev w,(pY ops ef i=true→ev=none)→St w0 (Os ev) (Gs ev) K w→gS P li ⟨some d,op,ty,pos,#[],none⟩ w v w) (hI:atI L i=isV v):SG P n ops Q l w0 K lo al ef jy ca ta Os Gs L i :=
 Gb (fun h=>by rw [List.contains_iff_mem.2 h] at hal;cases hal) (fun e=>by rw [e,Nat.beq_refl] at hie;cases hie) (sU hij) hi hNo fun t0 a s w h0 hF hG he hD hD'=>by
  have hS:St w0 (Os s.ev) (Gs s.ev) K w:=St.drops _ hG.1
  exact Gc hi (hw.yes hD') (by rw [fI a.eval _ _ _ _ pos _ #[] _ none];exact hr s.ev w he hS a.eval (jC h0 hF hD' hli)) ⟨v,rfl,by rw [hI];exact Ok,Below.refl _ _⟩
theorem vV {f:FuncId} {xs:List Operand} {ts:Array TypeId} (ps:List Asr) (hal:al.contains i=false) (hie:Nat.beq i ef=false) (hij:xJ ops ef jy i=true) (hi:ops[i]?=some ⟨some d,.call { callee:=.value (.func f),args:=xs.toArray,argTypes:=ts },ty,pos,aft_,gd⟩) (hNo:rT al ef L) (hgo:bH P f=true)
  (hw:gC ops L i ⟨some d,.call { callee:=.value (.func f),args:=xs.toArray,argTypes:=ts },ty,pos,aft_,gd⟩) (hp:tT n ops l L i xs ps)
  {p:Asr} (hc:∀ vs ev w,(pY ops ef i=true→ev=none)→St w0 (Os ev) (Gs ev) K w→lo≤w.heap.size→mH ps vs w→Calls P f vs.toArray w (rC p w)) (hI:atI L i=p):SG P n ops Q l w0 K lo al ef jy ca ta Os Gs L i :=
 Gb (fun h=>by rw [List.contains_iff_mem.2 h] at hal;cases hal) (fun e=>by rw [e,Nat.beq_refl] at hie;cases hie) (sU hij) hi hNo fun t0 a s w h0 hF hG he hD hD'=>by
  have hS:St w0 (Os s.ev) (Gs s.ev) K w:=St.drops _ hG.1
  have h1:=hc (xs.map a.eval) s.ev w he hS hG.2.1 (gZ h0 hF hD' hp)
  rw [show (xs.map a.eval).toArray=xs.toArray.map a.eval by simp] at h1
  unfold wpOp
  simp only [hi,hw.yes hD',if_true]
  refine .inl ?_
  unfold Oper.wp
  rw [lM P a.eval w f xs.toArray ts _ rfl rfl hgo,Oper.upon_enter]
  refine h1.mono ?_
  rintro e w' ⟨v,rfl,hv,hb⟩
  refine ⟨v,by simp,?_,hb⟩
  rw [hI]
  intro w2 h2
  refine hv w2 ⟨h2.2.1,fun b h3 h4=>h2.2.2 b (Nat.le_trans hG.2.1 h3) h4 (fun hx=>?_)⟩
  rcases hx with ⟨q,hq,rfl⟩ | ⟨g,hg,hgb⟩
  ·have:=bY (hG.1.own q hq).2;omega
  ·have:=(hG.1.glt hg hgb).2;omega
theorem sg_rowV {T e:TypeId} {m sz:Nat} {xs:List (Nat×Operand)} {us:List Value} {z:Value} {cs:List Value} (hal:al.contains i=false) (hie:Nat.beq i ef=false) (hij:xJ ops ef jy i=true) (hi:ops[i]?=some ⟨some d,.buildSlice T m xs.toArray,ty,pos,aft_,gd⟩) (hNo:rT al ef L) (hw:gC ops L i ⟨some d,.buildSlice T m xs.toArray,ty,pos,aft_,gd⟩)
  (hU:P.underlying T=some (.slice e)) (hs:∀ w,(sizeOf e).run P w = .ok sz w) (hz:∀ w,(zeroValue e).run P w = .ok z w) (hm:Nat.ble (m * sz) 16777216=true) (hm0:Nat.beq (m * sz) 0=false) (hp:tT n ops l L i (xs.map (·.2)) (us.map isV))
  (hf:Instr.fill (fun i=>some (i * sz,sz)) ((Array.range (m * sz)).map (z.cells[· % z.cells.size]!)) ((xs.map (·.1)).zip us)=some cs.toArray) (hI:atI L i=qY lo m e cs):SG P n ops Q l w0 K lo al ef jy ca ta Os Gs L i :=
 Gb (fun h=>by rw [List.contains_iff_mem.2 h] at hal;cases hal) (fun e=>by rw [e,Nat.beq_refl] at hie;cases hie) (sU hij) hi hNo fun t0 a s w h0 hF hG he hD hD'=>by
  have hv:=cA (gZ h0 hF hD' hp)
  have h4:m * sz≤16777216:=Nat.le_of_ble_eq_true hm
  have h5:m * sz≠0:=fun e=>by rw [e] at hm0;cases hm0
  have h6:¬ (m * sz > 2 ^ 24):=by omega
  have h7:xs.map (fun p=>(p.1,a.eval p.2))=(xs.map (·.1)).zip us:=by
   rw [← hv]
   clear hi hw hp hv hf
   induction xs with
   | nil=>rfl
   | cons x xs ih=>simp only [List.map_cons,List.zip_cons_cons,← ih]
  have hB:Below w.heap.size w (w.alloc (.cells cs.toArray e)):=(Below.refl _ _).alloc (Nat.le_refl _) _
  refine Gc hi (hw.yes hD') (v:=.slice (some ⟨w.heap.size,0,none⟩) m m) (w':=w.alloc (.cells cs.toArray e)) ?_ ⟨_,rfl,?_,hB⟩
  ·unfold execOp
   simp only []
   rw [show (Array.map (fun p=>(p.1,a.eval p.2)) xs.toArray)=(xs.map (fun p=>(p.1,a.eval p.2))).toArray by simp,h7]
   simp only [Instr.buildSlice,Sem.run_bind,run_underlying hU,Result.andThen_ok,hs,if_neg h6,if_neg h5,hz,Sem.run_pure,hf,newRow,run_newObj_alloc]
  ·rw [hI]
   intro w2 h2
   have hnew:=heap_alloc_new w (.cells cs.toArray e)
   refine ⟨w.heap.size,rfl,hG.2.1,(h2.2.2 _ hG.2.1 (bY hnew) (fun hx=>?_)).trans hnew⟩
   rcases hx with ⟨q,hq,e1⟩ | ⟨g,hg,hgb⟩
   ·have:=bY (hG.1.own q hq).2;omega
   ·have:=(hG.1.glt hg hgb).2;omega
theorem Vm {o:Oper} (hal:al.contains ef=false) (hij:Nat.beq ef jy=false) (hi:ops[ef]?=some o)
  (h:∀ (t0 a:Act) bs w,Has n l t0→(∀ t,freeT ops t=true→a.eval (.tmp t)=t0.tmps.getD t undef)→GG w0 K lo ca ta Os Gs ⟨none,bs⟩ w→bs.Pairwise (fun p q=>p.1≠q.1)→(∀ j d,bD ops ef j d=true→IG al ef jy lo ca ta Os Gs L ⟨none,bs⟩ j (a.eval (.tmp d)) w) →
   wpOp P ops Q ef (fun a' w'=>∃ v y,a'=a.put o.dst v∧(∀ d,o.dst=some d→v=y)∧St w0 (OE ca ta Os ⟨some y,bs⟩) (Gs (some y)) K w'∧iK 0 (XB (OE ca ta Os ⟨none,bs⟩) (Gs none)) w w'∧(∀ b,XB (OE ca ta Os ⟨some y,bs⟩) (Gs (some y)) b→XB (OE ca ta Os ⟨none,bs⟩) (Gs none) b∨w.heap.size≤b)∧(∀ d,(ops[jy]?).bind (·.dst)=some d→a.eval (.tmp d)=y)) a w):SG P n ops Q l w0 K lo al ef jy ca ta Os Gs L ef:=fun t0 h0 s LB a w hF hG hV hs hc hr hD=>by
 have hal':ef∉al:=fun h=>by rw [List.contains_iff_mem.2 h] at hal;cases hal
 obtain ⟨ev,bs⟩:=s
 have hev:ev=none:=by
  cases ev with
  | none=>rfl
  | some v=>have:=hV.2.2.2.2 rfl;rw [hr.1] at this;cases this
 subst hev
 refine wpOp_mono ?_ (h t0 a bs w h0 hF hG hV.2.2.1 hD)
 rintro a' w' ⟨v,y,rfl,hvy,hSt,hsame,hX,hy⟩
 refine ⟨⟨some y,bs⟩,v,by rw [hi];rfl,⟨fun a ha=>by rw [getD_set_ne false (fun e=>hal' (by rw [e];exact ha))];exact hV.1 a ha,hV.2.1,hV.2.2.1,?_⟩,⟨hSt,Nat.le_trans hG.2.1 hsame.2.1,hG.2.2⟩,⟨hsame,hX,fun q hq=>hq,.inr ⟨rfl,y,rfl,hy⟩⟩,fun d hd=>⟨fun h=>absurd h hal',fun _=>?_,fun h=>absurd hij (by rw [h,Nat.beq_refl];decide),fun _ h=>absurd rfl h⟩⟩
 ·rw [Array.getD_eq_getD_getElem?,Array.getElem?_setIfInBounds_self_of_lt (by rw [hs];exact (Array.getElem?_eq_some_iff.1 hi).1)]
  exact ⟨fun _=>rfl,fun _=>rfl⟩
 ·rw [hi] at hd
  rw [hvy d hd]
theorem St.perm {O O':Own} {G:cU} {w:World} (h:St w0 O G K w) (hp:O.Perm O'):St w0 O' G K w where
 below:=h.below
 own:=fun p hp'=>h.own p (hp.mem_iff.2 hp')
 dist:=h.dist.perm hp (fun h=>Ne.symm h)
 kept:=fun q hq=>⟨(h.kept q hq).1,fun p hp'=>(h.kept q hq).2 p (hp.mem_iff.2 hp')⟩
 rows:=fun g hg=>⟨(h.rows g hg).1,fun b hb=>⟨fun p hp'=>((h.rows g hg).2 b hb).1 p (hp.mem_iff.2 hp'),((h.rows g hg).2 b hb).2⟩⟩
 gdist:=h.gdist
def qM (ds:List Nat):Fr→Fr
 | []=>[]
 | p::l=>bif ds.contains p.1 then qM ds l else p::qM ds l
theorem nI {ds:List Nat} {t:Nat} {v:Value}:∀ {l:Fr},look (qM ds l) t=some v→t∉ds→look l t=some v
 | [],h,_=>by cases h
 | p::l,h,ht=>by
  unfold qM at h
  unfold look
  cases hc:ds.contains p.1 with
  | true =>
   rw [hc,cond_true] at h
   cases hb:Nat.beq p.1 t with
   | true =>
    rw [Nat.eq_of_beq_eq_true hb] at hc
    exact absurd (List.contains_iff_mem.1 hc) ht
   | false=>rw [cond_false];exact nI h ht
  | false =>
   rw [hc,cond_false] at h
   unfold look at h
   cases hb:Nat.beq p.1 t with
   | true=>rw [hb,cond_true] at h;rw [cond_true];exact h
   | false=>rw [hb,cond_false] at h;rw [cond_false];exact nI h ht
theorem fX {ds:List Nat} {t:Nat} {v:Value}:∀ {l:Fr},look (qM ds l) t=some v→t∉ds
 | [],h=>by cases h
 | p::l,h=>by
  unfold qM at h
  cases hc:ds.contains p.1 with
  | true=>rw [hc,cond_true] at h;exact fX h
  | false =>
   rw [hc,cond_false] at h
   unfold look at h
   cases hb:Nat.beq p.1 t with
   | true =>
    intro hm
    rw [← Nat.eq_of_beq_eq_true hb] at hm
    rw [List.contains_iff_mem.2 hm] at hc;cases hc
   | false=>rw [hb,cond_false] at h;exact fX h
def Me (al:List Nat) (ef jy lo:Nat) (X:Nat→Prop) (Bf:Nat→Nat) (y:Value):Nat→List Asr→List Asr
 | _,[]=>[]
 | j,q::L=>(bif al.contains j then isV (.pointer (some ⟨Bf j,0,none⟩)) else bif Nat.beq j ef then isV y else bif Nat.beq j jy then (fun v w=>v=y∧AwS lo X q v w) else AwS lo X q)::Me al ef jy lo X Bf y (j+1) L
theorem rU {X:Nat→Prop} {Bf:Nat→Nat} {y:Value}:∀ (L:List Asr) (j i:Nat),i < L.length→atI (Me al ef jy lo X Bf y j L) i=(bif al.contains (i+j) then isV (.pointer (some ⟨Bf (i+j),0,none⟩)) else bif Nat.beq (i+j) ef then isV y else bif Nat.beq (i+j) jy then (fun v w=>v=y∧AwS lo X (atI L i) v w) else AwS lo X (atI L i))
 | [],j,i,h=>by simp at h
 | q::L,j,0,h=>by rw [Nat.zero_add];rfl
 | q::L,j,i+1,h=>by
  show atI (Me al ef jy lo X Bf y (j+1) L) i=_
  rw [rU L (j+1) i (by simpa using h),show i+1+j=i+(j+1) by omega]
  rfl
theorem Rc:∀ (Bs:List Nat) (lo:Nat) (w:World),∃ Ks:List (Nat×World),(∀ q∈Ks,lo≤q.1∧dD q.1 q.2 w∧∀ B∈Bs,B < q.1∨q.2.heap.size≤B)∧(∃ q∈Ks,q.2=w)∧∀ b,lo≤b→b < w.heap.size→b∉Bs→∃ q∈Ks,q.1≤b∧b < q.2.heap.size
 | [],lo,w=>⟨[(lo,w)],fun q hq=>by
   simp only [List.mem_cons,List.not_mem_nil,or_false] at hq
   subst hq
   exact ⟨Nat.le_refl _,dD.refl _ _,fun B hB=>by cases hB⟩,⟨(lo,w),List.mem_cons_self,rfl⟩,fun b h1 h2 _=>⟨(lo,w),List.mem_cons_self,h1,h2⟩⟩
 | B::Bs,lo,w=>by
  by_cases hB:B < w.heap.size
  ·obtain ⟨A,hA,hA1⟩:=C0 w (B:=B) (lo:=lo) (Nat.le_of_lt hB)
   obtain ⟨K1,k1,_,k2⟩:=Rc Bs lo A
   obtain ⟨K2,k3,⟨q0,k5,k6⟩,k4⟩:=Rc Bs (max lo (B+1)) w
   refine ⟨K1++K2,fun q hq=>?_,⟨q0,List.mem_append_right _ k5,k6⟩,fun b h1 h2 h3=>?_⟩
   ·rcases List.mem_append.1 hq with hq | hq
    ·obtain ⟨e1,e2,e3⟩:=k1 q hq
     refine ⟨e1,e2.trans (hA1.mono e1),fun B' hB'=>?_⟩
     rcases List.mem_cons.1 hB' with rfl | hB'
     ·right;rw [← hA];exact e2.1
     ·exact e3 B' hB'
    ·obtain ⟨e1,e2,e3⟩:=k3 q hq
     refine ⟨by omega,e2,fun B' hB'=>?_⟩
     rcases List.mem_cons.1 hB' with rfl | hB'
     ·left;omega
     ·exact e3 B' hB'
   ·have h4:b≠B:=fun e=>h3 (by rw [e];exact List.mem_cons_self)
    have h5:b∉Bs:=fun e=>h3 (List.mem_cons_of_mem _ e)
    rcases Nat.lt_or_ge b B with h6 | h6
    ·obtain ⟨q,hq,h7⟩:=k2 b h1 (by omega) h5
     exact ⟨q,List.mem_append_left _ hq,h7⟩
    ·obtain ⟨q,hq,h7⟩:=k4 b (by omega) h2 h5
     exact ⟨q,List.mem_append_right _ hq,h7⟩
  ·obtain ⟨K1,k1,k5,k2⟩:=Rc Bs lo w
   refine ⟨K1,fun q hq=>?_,k5,fun b h1 h2 h3=>k2 b h1 h2 (fun e=>h3 (List.mem_cons_of_mem _ e))⟩
   obtain ⟨e1,e2,e3⟩:=k1 q hq
   refine ⟨e1,e2,fun B' hB'=>?_⟩
   rcases List.mem_cons.1 hB' with rfl | hB'
   ·right;have:=e2.1;omega
   ·exact e3 B' hB'
theorem St.more {O:Own} {G:cU} {w:World} (h:St w0 O G K w) (Ks:List (Nat×World)) (hk:∀ q∈Ks,dD q.1 q.2 w∧(∀ p∈O,p.1 < q.1∨q.2.heap.size≤p.1)∧∀ g∈G,∀ b,g.v.ownBlock=some b→b < q.1∨q.2.heap.size≤b):St w0 O G (Ks++K) w where
 below:=h.below
 own:=h.own
 dist:=h.dist
 kept:=fun q hq=>by
  rcases List.mem_append.1 hq with hq | hq
  ·exact ⟨(hk q hq).1,(hk q hq).2.1⟩
  ·exact h.kept q hq
 rows:=fun g hg=>⟨(h.rows g hg).1,fun b hb=>⟨((h.rows g hg).2 b hb).1,fun q hq=>by
  rcases List.mem_append.1 hq with hq | hq
  ·exact (hk q hq).2.2 g hg b hb
  ·exact ((h.rows g hg).2 b hb).2 q hq⟩⟩
 gdist:=h.gdist
theorem Gd:∀ {L:List Asr} {j:Nat},L.length≤j→atI L j=anyA
 | [],_,_=>rfl
 | _::L,0,h=>by simp at h
 | _::L,j+1,h=>Gd (L:=L) (by simpa using h)
def BLS (P:Program) (n:Nat) (ops:Array Oper) (Q:Exit→Act→World→Prop) (l:Fr) (w0:World) (K:List (Nat×World)) (lo:Nat) (al:List Nat) (ef jy:Nat) (ca:Nat→Option Value→List Value) (ta:Nat→TypeId) (Os:Option Value→Own) (Gs:Option Value→cU) (Goal:List Asr→Prop):Nat→List Asr→Nat→Prop
 | 0,Lr,_=>Goal Lr
 | m+1,Lr,k=>∃ q,((k∈al∨k=ef)→q=anyA)∧(rT al ef (q::Lr).reverse→SG P n ops Q l w0 K lo al ef jy ca ta Os Gs (q::Lr).reverse k)∧BLS P n ops Q l w0 K lo al ef jy ca ta Os Gs Goal m (q::Lr) (k+1)
variable {Goal:List Asr→Prop}
theorem mP {Lr:List Asr} {k:Nat} (h:Goal Lr):BLS P n ops Q l w0 K lo al ef jy ca ta Os Gs Goal 0 Lr k:=h
theorem aW {m k:Nat} {Lr:List Asr} (k':Nat) (hk:k+1=k') (hne:(al.contains k || Nat.beq k ef)=false) (q:Asr) (h:rT al ef (q::Lr).reverse→SG P n ops Q l w0 K lo al ef jy ca ta Os Gs (q::Lr).reverse k) (hr:BLS P n ops Q l w0 K lo al ef jy ca ta Os Gs Goal m (q::Lr) k'):BLS P n ops Q l w0 K lo al ef jy ca ta Os Gs Goal (m+1) Lr k:=by
 subst hk
 refine ⟨q,fun hc=>?_,h,hr⟩
 rw [Bool.or_eq_false_iff] at hne
 rcases hc with hc | hc
 ·rw [List.contains_iff_mem.2 hc] at hne;cases hne.1
 ·rw [hc,Nat.beq_refl] at hne;cases hne.2
theorem vW {m k:Nat} {Lr:List Asr} (k':Nat) (hk:k+1=k') (h:SG P n ops Q l w0 K lo al ef jy ca ta Os Gs (anyA::Lr).reverse k) (hr:BLS P n ops Q l w0 K lo al ef jy ca ta Os Gs Goal m (anyA::Lr) k'):BLS P n ops Q l w0 K lo al ef jy ca ta Os Gs Goal (m+1) Lr k:=by
 subst hk;exact ⟨anyA,fun _=>rfl,fun _=>h,hr⟩
theorem Ge (ht:dT ops n=true):∀ (m k:Nat) (Lr:List Asr),Lr.length=k→rT al ef Lr.reverse→(∀ i,i < k→SG P n ops Q l w0 K lo al ef jy ca ta Os Gs Lr.reverse i)→BLS P n ops Q l w0 K lo al ef jy ca ta Os Gs Goal m Lr k →
  ∃ Lr',Lr'.length=k+m∧(∀ i,i < k+m→SG P n ops Q l w0 K lo al ef jy ca ta Os Gs Lr'.reverse i)∧Goal Lr'
 | 0,k,Lr,hl,hs,hg,h=>⟨Lr,hl,hg,h⟩
 | m+1,k,Lr,hl,hs,hg,⟨q,hq,hr,hn⟩=>by
  have hap:∀ j,j < k→atI Lr.reverse j=atI (q::Lr).reverse j:=fun j hj=>by rw [List.reverse_cons,kZ (by simp;omega)]
  have hs':rT al ef (q::Lr).reverse:=fun j hj=>by
   rcases Nat.lt_trichotomy j k with h1 | h1 | h1
   ·rw [← hap j h1];exact hs j hj
   ·subst h1;rw [aD hl];exact hq hj
   ·exact Gd (by simp;omega)
  obtain ⟨L',h1,h3,h4⟩:=Ge ht m (k+1) (q::Lr) (by simp [hl]) hs' (fun i hi=>by
   by_cases hik:i=k
   ·subst hik;exact hr hs'
   ·exact SG.ext ht (fun j hj=>hap j (by omega)) (hg i (by omega))) hn
  exact ⟨L',by omega,fun i hi=>h3 i (by omega),h4⟩
theorem rV {a:Act} {Kk:Fr→World→Prop} {G:Prop}:∀ (os:List Oper) (L:List Asr) (l:Fr),(∀ i d,i < os.length→(os[i]?).bind (·.dst)=some d→atI L i (a.tmps.getD d undef) W)→(∀ i,i < os.length→(os[i]?).bind (·.dst)=none→∃ v,atI L i v W)→a.tmps.size=n→a.defers=[] →
  (∀ t v,look l t=some v→(∀ o∈os,o.dst≠some t)→a.tmps.getD t undef=v)→(hK:∀ l',Kk l' W→Has n l' a→G)→kY os L l Kk W→G
 | [],L,l,hI,_,hs,hd,hl,hK,h=>hK l h ⟨hs,hd,fun t v hv=>hl t v hv (fun o ho=>by cases ho)⟩
 | o::os,L,l,hI,hN,hs,hd,hl,hK,h=>by
  cases hod:o.dst with
  | none =>
   obtain ⟨v,hv⟩:=hN 0 (by simp) (by simp [hod])
   have h1:=h v hv
   rw [hod] at h1
   refine rV os L.tail _ (fun i e hi he=>by rw [qX];exact hI (i+1) e (by simpa using hi) (by simpa using he)) (fun i hi he=>by rw [qX];exact hN (i+1) (by simpa using hi) (by simpa using he)) hs hd ?_ hK h1
   intro t v hv hno
   refine hl t v hv (fun o' ho'=>?_)
   rcases List.mem_cons.1 ho' with rfl | ho'
   ·rw [hod];simp
   ·exact hno o' ho'
  | some d =>
   have h0:=hI 0 d (by simp) (by simp [hod])
   have h1:=h _ h0
   refine rV os L.tail _ (fun i e hi he=>by rw [qX];exact hI (i+1) e (by simpa using hi) (by simpa using he)) (fun i hi he=>by rw [qX];exact hN (i+1) (by simpa using hi) (by simpa using he)) hs hd ?_ hK h1
   intro t v hv hno
   rw [hod] at hv
   simp only [List.cons_append,List.nil_append] at hv
   unfold look at hv
   cases hb:Nat.beq d t with
   | true =>
    simp only [hb,cond_true,Option.some.injEq] at hv
    rw [← Nat.eq_of_beq_eq_true hb];exact hv
   | false =>
    simp only [hb,cond_false] at hv
    refine hl t v hv (fun o' ho'=>?_)
    rcases List.mem_cons.1 ho' with rfl | ho'
    ·rw [hod];intro e;rw [Option.some.inj e,Nat.beq_refl] at hb;cases hb
    ·exact hno o' ho'
def bAt (bs:List (Nat×Nat)) (a:Nat):Nat:=((bs.find? (fun q=>Nat.beq q.1 a)).map (·.2)).getD 0
theorem Gf:∀ {bs:List (Nat×Nat)} {a:Nat},(∃ B,(a,B)∈bs)→(a,bAt bs a)∈bs
 | [],_,⟨B,h⟩=>by cases h
 | q::bs,a,⟨B,h⟩=>by
  unfold bAt
  rw [List.find?_cons]
  cases hb:Nat.beq q.1 a with
  | true =>
   have:=Nat.eq_of_beq_eq_true hb
   subst this
   exact List.mem_cons_self
  | false =>
   rcases List.mem_cons.1 h with h | h
   ·rw [← h,Nat.beq_refl] at hb;cases hb
   ·exact List.mem_cons_of_mem _ (Gf ⟨B,h⟩)
theorem vX {bs:List (Nat×Nat)} (hp:bs.Pairwise (fun p q=>p.1≠q.1)) {p q:Nat×Nat} (h1:p∈bs) (h2:q∈bs) (he:p.1=q.1):p=q:=by
 induction hp with
 | nil=>cases h1
 | cons ha hb ih =>
  rcases List.mem_cons.1 h1 with h3 | h3<;>rcases List.mem_cons.1 h2 with h4 | h4
  ·rw [h3,h4]
  ·subst h3;exact absurd he (ha _ h4)
  ·subst h4;exact absurd he.symm (ha _ h3)
  ·exact ih h3 h4
theorem Vn {id k:Nat} {ds:List Nat} (hm:P.follows .mixedOrders=true) (hlo:lo=W.heap.size) (hS:St w0 (Os none) (Gs none) K W) (hk:Nat.blt k os.length=true) (htl:yD os.toArray k=true) (ht:dT os.toArray n=true) (hal:al.all (fun a=>Nat.blt a k)=true) (hnd:al.Nodup) (hea:al.contains ef=false)
  (evE:Value→Option Value) (hev:(Nat.blt ef k=true∧evE=some)∨(Nat.ble os.length ef=true∧Nat.ble os.length jy=true∧evE=fun _=>none)) (hdst:(List.range k).all (fun j=>Nat.beq j ef || ((os.toArray[j]?).bind (·.dst)).isSome)=true) (hds:(os.drop k).all (fun o=>match o.dst with | some d=>ds.contains d | none=>true)=true)
  (h:BLS P n os.toArray Q l w0 K lo al ef jy ca ta Os Gs (fun Lr=>∀ (Bf:Nat→Nat) (y:Value) (W':World) (Ks:List (Nat×World)),W.heap.size≤W'.heap.size→(∀ q∈Ks,lo≤q.1)→St w0 (al.map (fun a=>(Bf a,ca a (evE y),ta a))++Os (evE y)) (Gs (evE y)) (Ks++K) W' →
   (∀ {O2 G2 K2 W2},St w0 O2 G2 K2 W2→(∀ q∈Ks,q∈K2)→iK lo (XB (al.map (fun a=>(Bf a,ca a (evE y),ta a))++Os (evE y)) (Gs (evE y))) W' W2) →
   kY (os.take k) (Me al ef jy lo (XB (al.map (fun a=>(Bf a,ca a (evE y),ta a))++Os (evE y)) (Gs (evE y))) Bf y 0 Lr.reverse) (qM ds l) (fun l' W'=>cS P n os.toArray Q (os.drop k) l' W') W') k [] 0):eW P n (.region id os.toArray true) Q l W:=by
 obtain ⟨Lr,h1,h2,hfin⟩:=Ge ht k 0 [] rfl (fun j _=>by rfl) (fun i hi=>by omega) h
 rw [Nat.zero_add] at h1 h2
 have hk':k < os.length:=Nat.lt_of_lt_of_le (Nat.lt_succ_self _) (Nat.le_of_ble_eq_true hk)
 have hal':∀ a∈al,a < k:=fun a ha=>Nat.lt_of_lt_of_le (Nat.lt_succ_self _) (Nat.le_of_ble_eq_true (List.all_eq_true.1 hal a ha))
 have hea':ef∉al:=fun h=>by rw [List.contains_iff_mem.2 h] at hea;cases hea
 intro a ha
 refine wp_region_any hm (vT (t0:=a.tmps) (d0:=a.defers) (V:=VG al ef) (I:=IG al ef jy lo ca ta Os Gs Lr.reverse) (G:=GG w0 K lo ca ta Os Gs) (k:=k) (by simpa using hk') htl (by rw [ha.size];exact ht) (fun i hi=>(h2 i hi).step a ha) ?_ _ ⟨none,[]⟩ _ _ _ (by simp) (iT _) (fun j hj=>by rw [Array.getD_eq_getD_getElem?,Array.getElem?_replicate] at hj;split at hj<;>simp at hj) (fun i _=>by rw [Array.getD_eq_getD_getElem?,Array.getElem?_replicate];split<;>rfl) ⟨rfl,rfl,fun _ _=>rfl,⟨by unfold OE;exact hS.drew,by rw [hlo];exact Nat.le_refl _,(fun q hq=>by cases hq)⟩,⟨fun a _=>?_,(fun q hq=>by cases hq),List.Pairwise.nil,?_⟩,fun i d _ hj=>?_⟩)
 ·intro s LB a' W' hR hdone hnot
  obtain ⟨hG,hG2,hG3⟩:=hR.glob
  obtain ⟨v1,v2,v3,v4⟩:=hR.cons
  obtain ⟨ev,bs⟩:=s
  have hall:∀ x∈al,(x,bAt bs x)∈bs:=fun x hx=>Gf ((v1 x hx).1 (hdone x (hal' x hx)))
  obtain ⟨y,hy⟩:∃ y,ev=evE y:=by
   rcases hev with ⟨e1,e2⟩ | ⟨e1,e3,e2⟩
   ·have h3:ev.isSome=true:=v4.1 (hdone ef (Nat.lt_of_lt_of_le (Nat.lt_succ_self _) (Nat.le_of_ble_eq_true e1)))
    obtain ⟨y,hy⟩:=Option.isSome_iff_exists.1 h3
    exact ⟨y,by rw [hy,e2]⟩
   ·refine ⟨undef,?_⟩
    rw [e2]
    have h3:=hnot ef (by have:=Nat.le_of_ble_eq_true e1;omega)
    cases ev with
    | none=>rfl
    | some v=>have:=v4.2 rfl;rw [h3] at this;cases this
  subst hy
  have hperm:bs.Perm (al.map (fun x=>(x,bAt bs x))):=by
   refine (List.perm_ext_iff_of_nodup (v3.imp (fun h e=>h (by rw [e]))) ?_).2 fun q=>?_
   ·refine List.Pairwise.map _ (fun x y (hxy:x≠y)=>?_) hnd
    intro e;exact hxy (congrArg Prod.fst e)
   ·constructor
    ·intro hq
     have h3:=hall q.1 (v2 q hq)
     have h4:=vX v3 hq h3 rfl
     rw [h4]
     exact List.mem_map.2 ⟨q.1,v2 q hq,rfl⟩
    ·intro hq
     obtain ⟨x,hx,rfl⟩:=List.mem_map.1 hq
     exact hall x hx
  have hO:(OE ca ta Os ⟨evE y,bs⟩).Perm (al.map (fun a=>(bAt bs a,ca a (evE y),ta a))++Os (evE y)):=by
   unfold OE
   refine List.Perm.append_right _ ?_
   have:=hperm.map (fun q:Nat×Nat=>(q.2,ca q.1 (evE y),ta q.1))
   rw [List.map_map] at this
   exact this
  have hG':=hG.perm hO
  have hX:∀ b,XB (OE ca ta Os ⟨evE y,bs⟩) (Gs (evE y)) b↔XB (al.map (fun a=>(bAt bs a,ca a (evE y),ta a))++Os (evE y)) (Gs (evE y)) b:=fun b=>by
   unfold XB
   constructor
   ·rintro (⟨p,hp,e⟩ | h);exact .inl ⟨p,hO.mem_iff.1 hp,e⟩;exact .inr h
   ·rintro (⟨p,hp,e⟩ | h);exact .inl ⟨p,hO.mem_iff.2 hp,e⟩;exact .inr h
  obtain ⟨Ks,c1,⟨qw,c2,c3⟩,c4⟩:=Rc (((al.map (fun a=>(bAt bs a,ca a (evE y),ta a))++Os (evE y)).map (·.1))++(Gs (evE y)).filterMap (fun g=>g.v.ownBlock)) lo W'
  have hG4:=hG'.more Ks (fun q hq=>⟨(c1 q hq).2.1,fun p hp=>(c1 q hq).2.2 p.1 (List.mem_append_left _ (List.mem_map.2 ⟨p,hp,rfl⟩)),fun g hg b hb=>(c1 q hq).2.2 b (List.mem_append_right _ (List.mem_filterMap.2 ⟨g,hg,hb⟩))⟩)
  have hcov:∀ {O2 G2 K2 W2},St w0 O2 G2 K2 W2→(∀ q∈Ks,q∈K2)→iK lo (XB (al.map (fun a=>(bAt bs a,ca a (evE y),ta a))++Os (evE y)) (Gs (evE y))) W' W2:=fun {O2 G2 K2 W2} h2 hq=>by
   refine ⟨⟨h2.below.os.trans hG.below.os.symm,h2.below.tape.trans hG.below.tape.symm,h2.below.output.trans hG.below.output.symm⟩,?_,fun b b1 b2 b3=>?_⟩
   ·have:=(h2.kept qw (hq qw c2)).1.1;rw [c3] at this;exact this
   ·obtain ⟨q,q1,q2,q3⟩:=c4 b b1 b2 (fun hb=>b3 (by
     rcases List.mem_append.1 hb with hb | hb
     ·obtain ⟨p,hp,rfl⟩:=List.mem_map.1 hb
      exact .inl ⟨p,hp,rfl⟩
     ·obtain ⟨g,hg,e⟩:=List.mem_filterMap.1 hb
      exact .inr ⟨g,hg,e⟩))
    exact ((h2.kept q (hq q q1)).1.2 b q2 q3).trans ((c1 q q1).2.1.2 b q2 q3).symm
  have htk:(os.take k).length=k:=by simp;omega
  refine rV (os.take k) (Me al ef jy lo (XB (al.map (fun a=>(bAt bs a,ca a (evE y),ta a))++Os (evE y)) (Gs (evE y))) (bAt bs) y 0 Lr.reverse) (qM ds l) (fun i d hi hd'=>?_) (fun i hi hd'=>?_) (hR.size.trans ha.size) (hR.defers.trans ha.defers) ?_ (fun l' h ha'=>?_) (hfin (bAt bs) y W' Ks (by rw [← hlo];exact hG2) (fun q hq=>(c1 q hq).1) hG4 hcov)
  ·have hik:i < k:=by omega
   have hd2:(os.toArray[i]?).bind (·.dst)=some d:=by rw [List.getElem?_take,if_pos hik] at hd';simpa using hd'
   obtain ⟨i1,i2,i3,i4⟩:=hR.done i d hd2 (hdone i hik)
   rw [rU Lr.reverse 0 i (by simp;omega),Nat.add_zero]
   cases hc1:al.contains i with
   | true =>
    rw [cond_true]
    obtain ⟨B,hB,e⟩:=i1 (List.contains_iff_mem.1 hc1)
    have:=vX v3 hB (hall i (List.contains_iff_mem.1 hc1)) rfl
    show _=_
    rw [e,show B=bAt bs i from congrArg Prod.snd this]
   | false =>
    rw [cond_false]
    have hni:i∉al:=fun hm'=>by rw [List.contains_iff_mem.2 hm'] at hc1;cases hc1
    cases hc2:Nat.beq i ef with
    | true =>
     rw [cond_true]
     have h5:=i2 (Nat.eq_of_beq_eq_true hc2)
     rcases hev with ⟨e1,e2⟩ | ⟨e1,e3,e2⟩
     ·rw [e2] at h5
      exact (Option.some.inj h5).symm
     ·rw [e2] at h5;cases h5
    | false =>
     rw [cond_false]
     have hne:i≠ef:=fun e=>by rw [e,Nat.beq_refl] at hc2;cases hc2
     have h6:AwS lo (XB (al.map (fun a=>(bAt bs a,ca a (evE y),ta a))++Os (evE y)) (Gs (evE y))) (atI Lr.reverse i) (a'.tmps.getD d undef) W':=fun w2 hw2=>i4 hni hne w2 ⟨hw2.1,hw2.2.1,fun b b1 b2 b3=>hw2.2.2 b b1 b2 (fun hb=>b3 ((hX b).2 hb))⟩
     cases hc3:Nat.beq i jy with
     | true =>
      rw [cond_true]
      refine ⟨?_,h6⟩
      rcases hev with ⟨e1,e2⟩ | ⟨e1,e3,e2⟩
      ·exact i3 (Nat.eq_of_beq_eq_true hc3) y (by rw [e2])
      ·have:=Nat.le_of_ble_eq_true e3
       have:=Nat.eq_of_beq_eq_true hc3
       omega
     | false=>rw [cond_false];exact h6
  ·have hik:i < k:=by omega
   have h3:=List.all_eq_true.1 hdst i (List.mem_range.2 hik)
   rw [Bool.or_eq_true] at h3
   have hd2:(os.toArray[i]?).bind (·.dst)=none:=by rw [List.getElem?_take,if_pos hik] at hd';simpa using hd'
   rcases h3 with h3 | h3
   ·rw [rU Lr.reverse 0 i (by simp;omega),Nat.add_zero]
    have hc1:al.contains i=false:=by rw [Nat.eq_of_beq_eq_true h3];exact hea
    rw [hc1,cond_false,h3,cond_true]
    exact ⟨y,rfl⟩
   ·rw [hd2] at h3;cases h3
  ·intro t v hv hno
   have hl:=nI hv (fX hv)
   have hnt:=fX hv
   rw [hR.frame t ?_]
   ·exact ha.at_ t v hl
   ·unfold freeT;rw [Array.all_eq_true'];intro o' ho'
    have ho2:o'∈os:=by simpa using ho'
    rw [← List.take_append_drop k os] at ho2
    rcases List.mem_append.1 ho2 with ho2 | ho2
    ·simpa using hno o' ho2
    ·have h5:=List.all_eq_true.1 hds o' ho2
     cases hx:o'.dst with
     | none=>simp
     | some d =>
      rw [hx] at h5
      simp
      intro e;subst e
      exact hnt (List.contains_iff_mem.1 h5)
  ·have:=h a' ha'
   simpa using this
 ·rw [Array.getD_eq_getD_getElem?,Array.getElem?_replicate]
  constructor
  ·intro h3;split at h3<;>simp at h3
  ·rintro ⟨B,hB⟩;cases hB
 ·rw [Array.getD_eq_getD_getElem?,Array.getElem?_replicate]
  constructor
  ·intro h3;split at h3<;>simp at h3
  ·intro h3;cases h3
 ·rw [Array.getD_eq_getD_getElem?,Array.getElem?_replicate] at hj
  split at hj<;>simp at hj
end
section
variable {P:Program} {n:Nat} {Q:Exit→Act→World→Prop} {l:Fr} {w0 W:World} {ops:Array Oper} {os:List Oper} {K:List (Nat×World)} {L:List Asr} {i:Nat} {O:Own} {G:cU}
variable {al:List Nat} {zc:Nat→List Value} {ta:Nat→TypeId} {lo ef jy:Nat} {d:Nat} {ty:TypeId} {pos:String} {aft_:Array Edge} {v:Value}
def pZ (zc:Nat→List Value) (a:Nat):Option Value→List Value:=fun _=>zc a
def caSt (zc:Nat→List Value) (a0 a:Nat):Option Value→List Value
 | none=>zc a
 | some y=>bif Nat.beq a a0 then jA (zc a) 0 y.cells.toList else zc a
def Vo (O:Own):Option Value→Own:=fun _=>O
def tE (G:cU):Option Value→cU:=fun _=>G
def Gg (O:Own) (j jx B:Nat) (cs vs:List Value) (U:TypeId):Option Value→Own
 | none=>O
 | some _=>O.set j (B,jA cs jx vs,U)
theorem tK {B b:Nat} (hb:b≠B):∀ (vs:List Value) (j:Nat) (w:World),(setMany w B j vs).heap[b]?=w.heap[b]?
 | [],_,_=>rfl
 | v::vs,j,w=>by unfold setMany;rw [tK hb vs (j+1)];exact Below.heap_setCell _ _ _ _ hb
theorem qA:∀ (vs:List Value) (B j:Nat) (w:World),((setMany w B j vs).os=w.os∧(setMany w B j vs).tape=w.tape∧(setMany w B j vs).output=w.output)∧(setMany w B j vs).heap.size=w.heap.size
 | [],_,_,_=>⟨⟨rfl,rfl,rfl⟩,rfl⟩
 | v::vs,B,j,w=>by
  unfold setMany
  obtain ⟨⟨h1,h2,h3⟩,h4⟩:=qA vs B (j+1) (w.setCell ⟨B,j,none⟩ v)
  exact ⟨⟨h1,h2,h3⟩,h4.trans (by simp [World.setCell])⟩
theorem tL {B j:Nat} {vs:List Value} {w:World} {X:Nat→Prop} (hX:X B):iK 0 X w (setMany w B j vs) :=
 ⟨(qA vs B j w).1,Nat.le_of_eq (qA vs B j w).2.symm,fun b _ _ hb=>tK (fun e=>hb (by rw [e];exact hX)) vs j w⟩
theorem vY {T:TypeId} {B j m:Nat} {vs cs:List Value} {U:TypeId} {w:World} {y:Value} (hsz:∀ w,(sizeOf T).run P w = .ok m w) (hc:y.cells=vs.toArray) (hl:vs.length=m) (h1:vs.all Value.oneCell'=true) (hB:w.heap[B]?=some (.cells cs.toArray U (0,0))) (hj:j+m≤cs.length) :
  (Instr.storeAt T (.pointer (some ⟨B,j,none⟩)) y).run P w = .ok () (setMany w B j vs):=by
 subst hl
 have hst:=jB (P:=P) vs 0 j w cs hB (by omega) (fun u hu=>List.all_eq_true.1 h1 u hu)
 rw [Nat.add_zero] at hst
 simp [Instr.storeAt,Instr.sureAddr,storeVar,hsz,hc,hst]
theorem I3 {o:Oper} {a:Act} {w w':World} {T:TypeId} {x y:Operand} {K':Act→World→Prop} (hi:ops[i]?=some o) (ho:o.op = .store T x y) (hod:o.dst=none) (hog:o.guard=none) (hr:(Instr.storeAt T (a.eval x) (a.eval y)).run P w = .ok () w') (hK:K' a w'):wpOp P ops Q i K' a w:=by
 unfold wpOp
 simp only [hi,fL hog,if_true]
 refine .inl ?_
 obtain ⟨dst,op,ty,pos,aft,gd⟩:=o
 simp only at ho hod
 subst ho;subst hod
 unfold Oper.wp execOp
 simp only [Sem.run_bind,hr,Result.andThen_ok,Sem.run_pure,Oper.upon_skip]
 exact hK
theorem eff_stO {T U:TypeId} {x y:Operand} {B m:Nat} {cs vs:List Value} (j jx:Nat) (li:Fr) (hal:al.contains ef=false) (hij:Nat.beq ef jy=false) (hi:ops[ef]?=some ⟨none,.store T x y,ty,pos,aft_,none⟩) (hjn:(ops[jy]?).isNone=true) (hNo:rT al ef L) (hli:wS n ops l L ef li) (hx:evL li x=some (.pointer (some ⟨B,jx,none⟩))) (hy:evL li y=some v)
  (hO:O[j]?=some (B,cs,U)) (hsz:∀ w,(sizeOf T).run P w = .ok m w) (hc:v.cells=vs.toArray) (hl:vs.length=m) (h1:vs.all Value.oneCell'=true) (hjm:Nat.ble (jx+m) cs.length=true):SG P n ops Q l w0 K lo al ef jy (pZ zc) ta (Gg O j jx B cs vs U) (tE G) L ef :=
 Vm hal hij hi fun t0 a bs w h0 hF hG hbs hD=>by
  have hD':=vU h0 hF hD (fun j d _ hj=>hNo j hj)
  have ex:=jC h0 hF hD' hli x _ hx
  have ey:=jC h0 hF hD' hli y _ hy
  have hOk:(OE (pZ zc) ta (Gg O j jx B cs vs U) ⟨none,bs⟩)[bs.length+j]?=some (B,cs,U):=by
   unfold OE
   rw [List.getElem?_append_right (by simp)]
   simpa [Gg] using hO
  have hXB:XB (OE (pZ zc) ta (Gg O j jx B cs vs U) ⟨none,bs⟩) (tE G none) B:=.inl ⟨_,List.mem_of_getElem? hOk,rfl⟩
  have hrun:=vY (P:=P) hsz hc hl h1 (hG.1.at_ _ hOk) (j:=jx) (Nat.le_of_ble_eq_true hjm)
  have hO':OE (pZ zc) ta (Gg O j jx B cs vs U) ⟨some undef,bs⟩=(OE (pZ zc) ta (Gg O j jx B cs vs U) ⟨none,bs⟩).set (bs.length+j) (B,jA cs jx vs,U):=by
   unfold OE
   rw [List.set_append_right _ _ (by simp)]
   congr 1
   simp [Gg]
  refine I3 hi rfl rfl rfl (by rw [ex,ey];exact hrun) ⟨undef,undef,rfl,(fun d hd=>by cases hd),?_,tL hXB,?_,fun d hd=>?_⟩
  ·rw [hO']
   exact hG.1.setMany _ vs jx hOk
  ·rintro b (⟨p,hp,rfl⟩ | h)
   ·rw [hO'] at hp
    rcases List.mem_or_eq_of_mem_set hp with hp | rfl
    ·exact .inl (.inl ⟨p,hp,rfl⟩)
    ·exact .inl hXB
   ·exact .inl (.inr h)
  ·cases hjy:ops[jy]? with
   | none=>rw [hjy] at hd;cases hd
   | some o=>rw [hjy] at hjn;cases hjn
end
theorem iB {w:World} {base size n:Nat} {e:TypeId} {v:Value} {xs:List Value} (h:w.ownsRow base e size v n xs):∃ a c,v = .slice a n c∧n≤c:=by
 rcases h.2 with ⟨rfl,rfl⟩ | ⟨g,cap,cur,rfl,_,_,hn,_⟩
 ·exact ⟨none,0,rfl,Nat.le_refl _⟩
 ·exact ⟨_,cap,rfl,hn⟩
theorem Gh {w:World} {base base' size n:Nat} {e:TypeId} {v:Value} {xs:List Value} (h:w.ownsRow base e size v n xs) (hb:base'≤base):w.ownsRow base' e size v n xs :=
 ⟨h.1,h.2.imp id fun ⟨g,cap,cur,e,hg,k⟩=>⟨g,cap,cur,e,Nat.le_trans hb hg,k⟩⟩
theorem Ct {w:World} {base size n:Nat} {e:TypeId} {a:Option Addr} {c:Nat} {xs:List Value} (h:w.ownsRow base e size (.slice a n c) n xs):(a=none∧n=0)∨∃ b,a=some ⟨b,0,none⟩∧base≤b∧∀ (j:Nat) u,xs[j]?=some u→w.cell? ⟨b,j,none⟩=some u:=by
 rcases h.2 with ⟨e1,e2⟩ | ⟨g,cap,cur,e1,hb,hh,hn,hm,hs,ht⟩
 ·cases e1;exact .inl ⟨rfl,e2⟩
 ·cases e1
  refine .inr ⟨g,rfl,hb,fun j u hj=>?_⟩
  rw [← ht,List.getElem?_take] at hj
  split at hj
  ·simp only [World.cell?,hh]
   simpa using hj
  ·cases hj
theorem tM {os:List Oper} {L L':List Asr} {l:Fr} {K:Fr→World→Prop} {W:World} (h:L=L') (k:kY os L' l K W):kY os L l K W:=h▸k
theorem bG {os:List Oper} {L:List Asr} {l:Fr} {W:World} {lo:Nat} {X:Nat→Prop} {c:Value} {K:Fr→World→Prop} {dst:Nat} {op:Op} {ty:TypeId} {pos:String} {aft:Array Edge} {g:Option (Nat×Bool)} (h:kY os L ((dst,c)::l) K W):kY (⟨some dst,op,ty,pos,aft,g⟩::os) (AwS lo X (isV c)::L) l K W:=fun v hv=>by
 have:v=c:=hv.here
 subst this;exact h
theorem I4 {os:List Oper} {L:List Asr} {l:Fr} {W:World} {p:Asr} {K:Fr→World→Prop} {op:Op} {ty:TypeId} {pos:String} {aft:Array Edge} {g:Option (Nat×Bool)} (h:kY os L l K W):kY (⟨none,op,ty,pos,aft,g⟩::os) (p::L) l K W:=fun _ _=>h
section
variable {w0 W:World} {O:Own} {G:cU} {K:List (Nat×World)}
theorem St.castO {O':Own} (h:St w0 O G K W) (e:O=O'):St w0 O' G K W:=e▸h
theorem St.castG {G':cU} (h:St w0 O G K W) (e:G=G'):St w0 O G' K W:=e▸h
def mE (w0:World) (Kk:List (Nat×World)) (p:World→Prop):Prop:=∀ {O2:Own} {G2:cU} {K2:List (Nat×World)} {W2:World},St w0 O2 G2 K2 W2→(∀ q∈Kk,q∈K2)→p W2
theorem mE.more {p:World→Prop} {Kk Kl:List (Nat×World)} (h:mE w0 Kk p) (k:∀ q∈Kk,q∈Kl):mE w0 Kl p:=fun h2 hk=>h h2 (fun q hq=>hk q (k q hq))
theorem St.adopt {W':World} {e:TypeId} {size n:Nat} {v:Value} {xs:List Value} (h:St w0 O G K W) (hb:Below W.heap.size W W') (hr:W'.ownsRow W.heap.size e size v n xs):St w0 O (⟨v,n,xs,e,size⟩::G) K W':=by
 have h':=h.grow hb
 have hge:∀ b,v.ownBlock=some b→W.heap.size≤b:=fun b e1=>by
  rcases hr.2 with ⟨rfl,_⟩ | ⟨g,cap,cur,rfl,h3,_⟩
  ·cases e1
  ·cases e1;exact h3
 refine ⟨h'.below,h'.own,h'.dist,h'.kept,fun g hg=>?_,List.Pairwise.cons (fun q hq b e1 e2=>?_) h'.gdist⟩
 ·rcases List.mem_cons.1 hg with rfl | hg
  ·refine ⟨Gh hr h.below.size,fun b e1=>⟨fun p hp e2=>?_,fun q hq=>.inr ?_⟩⟩
   ·have:=bY (h.own p hp).2;have:=hge b e1;omega
   ·have:=(h.kept q hq).1.1;have:=hge b e1;omega
  ·exact h'.rows g hg
 ·have h3:=(h.glt hq e2).2
  have:=hge b e1;omega
theorem St.cut (h:St w0 O G K W) (i:Nat) {b c nn k:Nat} {xs:List Value} {e:TypeId} {size:Nat} (hi:G[i]?=some ⟨.slice (some ⟨b,0,none⟩) nn c,nn,xs,e,size⟩) (hk:k≤nn):St w0 O (G.set i ⟨.slice (some ⟨b,0,none⟩) k c,k,xs.take (k * size),e,size⟩) K W:=by
 have hg:=List.mem_of_getElem? hi
 have hrow:=(h.rows _ hg).1
 refine h.setG i hi (v':=.slice (some ⟨b,0,none⟩) k c) ?_ ⟨rfl,rfl,rfl,Nat.le_refl _,fun _ _ _=>rfl⟩ (.inl rfl)
 refine ⟨?_,?_⟩
 ·have h2:k * size≤nn * size:=Nat.mul_le_mul_right _ hk
  have:=hrow.1
  dsimp only at this ⊢;rw [List.length_take,this,Nat.min_eq_left h2]
 ·rcases hrow.2 with ⟨e1,_⟩ | ⟨g,cap,cur,e1,hg,hh,hn,hm,hs,ht⟩
  ·cases e1
  ·cases e1
   refine .inr ⟨b,c,cur,rfl,hg,hh,by dsimp only at hn;omega,hm,hs,?_⟩
   have h2:k * size≤nn * size:=Nat.mul_le_mul_right _ hk
   dsimp only at ht ⊢
   rw [← ht,List.take_take,Nat.min_eq_left h2]
end
section
variable {P:Program} {n:Nat} {ops:Array Oper} {Q:Exit→Act→World→Prop} {l:Fr} {w0 W:World} {O:Own} {G:cU} {K:List (Nat×World)} {os:List Oper} {d:Nat} {ty:TypeId} {pos:String} {aft:Array Edge}
theorem fY {f:FuncId} {args:Array Operand} {ts:Array TypeId} {vs:List Value} {R:Ending→World→Prop} (hgo:bH P f=true) (ha:args.toList.map (evL l)=vs.map some) (hc:Calls P f vs.toArray W R)
  (hd:Nat.blt d n=true)
  (h:∀ e W',R e W'→∃ v,e = .returned v∧cS P n ops Q os ((d,v)::l) W'):cS P n ops Q (⟨some d,.call { callee:=.value (.func f),args:=args,argTypes:=ts },ty,pos,aft,none⟩::os) l W:=fun a hl=>by
 refine wpList_plain rfl fun K' hK=>?_
 unfold Oper.wp
 rw [lM P a.eval W f args ts _ rfl rfl hgo,Oper.upon_enter]
 have hargs:args.map a.eval=vs.toArray:=by
  have key:∀ (xs:List Operand) (us:List Value),xs.map (evL l)=us.map some→xs.map a.eval=us:=by
   intro xs
   induction xs with
   | nil=>intro us h;cases us<;>simp at h ⊢
   | cons x xs ih =>
    intro us h
    cases us with
    | nil=>simp at h
    | cons u us =>
     simp only [List.map_cons,List.cons.injEq] at h
     simp only [List.map_cons,hl.ev x u h.1,ih us h.2]
  apply Array.ext'
  rw [Array.toList_map,key _ _ ha]
 rw [hargs]
 refine hc.mono ?_
 intro e W' hRe
 obtain ⟨v,rfl,hn⟩:=h e W' hRe
 exact hK _ _ (hn _ (hl.put hd))
theorem Rd {T e:TypeId} {s:Nat} (hS:St w0 O G K W) (hU:P.underlying T=some (.slice e)) (hs:∀ w,(sizeOf e).run P w = .ok s w) (hd:Nat.blt d n=true)
  (h:∀ v W',St w0 O (⟨v,0,[],e,s⟩::G) K W'→cS P n ops Q os ((d,v)::l) W'):cS P n ops Q (⟨some d,.buildSlice T 0 #[],ty,pos,aft,none⟩::os) l W :=
 opV (W':=W.alloc (.cells #[] e)) (v:=.slice (some ⟨W.heap.size,0,none⟩) 0 0) (fun ev he=>by
  unfold execOp
  have h0:Array.range 0=#[]:=by simp
  simp only [List.map_toArray,List.map_nil,Instr.buildSlice,Sem.run_bind,run_underlying hU,Result.andThen_ok,hs,Nat.zero_mul,Sem.run_pure,h0]
  simp [Instr.fill,newRow]) hd (h _ _ (hS.adopt ((Below.refl _ _).alloc (Nat.le_refl _) _) (by
   have:=World.ownsRow_made (base:=W.heap.size) (e:=e) (size:=s) W #[] 0 (Nat.le_refl _) (Nat.zero_le _) (by simp)
   simpa using this)))
theorem op_cut {T e:TypeId} {x y:Operand} {kk:IntKind} {k:Nat} {j:Int} {b c nn s:Nat} {xs:List Value} (hS:St w0 O G K W) (i:Nat) (hU:P.underlying T=some (.slice e)) (hs:∀ w,(sizeOf e).run P w = .ok s w) (hi:G[i]?=some ⟨.slice (some ⟨b,0,none⟩) nn c,nn,xs,e,s⟩) (hx:evL l x=some (.slice (some ⟨b,0,none⟩) nn c)) (hy:evL l y=some (.int kk j)) (hj:j=(k:Int)) (hk:k≤nn) (hd:Nat.blt d n=true)
  (h:St w0 O (G.set i ⟨.slice (some ⟨b,0,none⟩) k c,k,xs.take (k * s),e,s⟩) K W→cS P n ops Q os ((d,.slice (some ⟨b,0,none⟩) k c)::l) W):cS P n ops Q (⟨some d,.slice T x none (some y) none,ty,pos,aft,none⟩::os) l W :=
 opV (v:=.slice (some ⟨b,0,none⟩) k c) (fun ev he=>by
  subst hj
  have hc:nn≤c:=by
   rcases (hS.row i hi).2 with ⟨e1,_⟩ | ⟨g,cap,cur,e1,_,_,hn,_⟩
   ·cases e1
   ·cases e1;exact hn
  have h1:(0:Int)≤(k:Int):=by omega
  have h2:(k:Int)≤(c:Int):=by omega
  have h3:k≤c:=by omega
  unfold execOp;simp only [Option.map_some,Option.map_none];rw [he x _ hx,he y _ hy]
  simp [Instr.sliceAt,Instr.slice,Instr.sliceBounds,Instr.sliceBound,run_underlying hU,asIntOf,h3,hs]
  intro _;rfl) hd (h (hS.cut i hi hk))
theorem xK {w:World} (base:Nat) (t ty e:TypeId) (i:TypeInfo) (size:Nat) (ht:P.underlying t=some (.slice e)) (hi:P.info? e=some i)
  (v:Value) (n:Nat) (xs:List Value) (c:Nat) (hown:w.ownsRow base e size v n xs) :
  (Builtin.append_ #[t,t] ty #[v,.slice none 0 c]).run P w = .ok v w:=by
 rcases hown.2 with ⟨rfl,rfl⟩ | ⟨g,cap,cur,rfl,_,_,hnc,_⟩
 ·simp [Builtin.append_,run_underlying ht,sizeOf,typeInfo,hi,Builtin.lenOf,Builtin.firstCells]
 ·simp [Builtin.append_,run_underlying ht,sizeOf,typeInfo,hi,Builtin.lenOf,Builtin.firstCells,hnc,storeCells]
theorem Mf {t e:TypeId} {x y:Operand} {i:Nat} {g:GR} {a:Option Addr} {m c:Nat} {news:List Value} {inf:TypeInfo} {z:Value} (hS:St w0 O G K W) (hU:P.underlying t=some (.slice e)) (hinf:P.info? e=some inf) (hz:inf.zero=some z) (hzs:z.cells.size=inf.size) (hsz:0 < inf.size)
  (hi:G[i]?=some g) (he:g.e=e) (hgs:g.size=inf.size) (hx:evL l x=some g.v) (hy:evL l y=some (.slice a m c)) (hc:(a=none∧m=0)∨∃ p,a=some p∧∀ (j:Nat) u,news[j]?=some u→W.cell? (p.add j)=some u) (hl:news.length=m * inf.size) (h1:∀ u∈news,u.oneCell'=true)
  (h63:g.n+m≤maxLen) (hbytes:(g.n+m) * inf.bytes≤140737488355328) (hd:Nat.blt d n=true)
  (h:∀ v' W',St w0 O (G.set i ⟨v',g.n+m,g.xs++news,e,g.size⟩) K W'→cS P n ops Q os ((d,v')::l) W') :
  cS P n ops Q (⟨some d,.call { callee:=.builtin .append,args:=#[x,y],argTypes:=#[t,t] },ty,pos,aft,none⟩::os) l W:=by
 subst he
 have hrow:=hS.row i hi
 rcases hc with ⟨rfl,rfl⟩ | ⟨p,rfl,hc⟩
 ·have hr:=xK (P:=P) w0.heap.size t ty g.e inf g.size hU hinf g.v g.n g.xs c hrow
  have hn:news=[]:=List.eq_nil_of_length_eq_zero (by simpa using hl)
  subst hn
  refine opV (W':=W) (v:=g.v) (fun ev hev=>?_) hd (h g.v W ?_)
  ·unfold execOp
   simp only [resolve,invoke,builtin,Sem.run_bind,Sem.run_pure,Result.andThen_ok,List.map_toArray,List.map_cons,List.map_nil,hev x _ hx,hev y _ hy,hr]
  ·rw [List.append_nil,Nat.add_zero]
   exact hS.setG i hi hrow ⟨rfl,rfl,rfl,Nat.le_refl _,fun _ _ _=>rfl⟩ (.inl rfl)
 ·rw [hgs] at hrow
  obtain ⟨v',W',hr,h2,h3,h4⟩:=lN (P:=P) (w:=W) w0.heap.size t ty g.e inf z hU hinf hz hzs hsz g.v g.n g.xs hrow p m c news hl hc h1 h63 hbytes hS.below.size
  rw [← hgs] at h2
  refine opV (W':=W') (v:=v') (fun ev hev=>?_) hd (h v' W' (hS.setG i hi h2 h3 h4))
  unfold execOp
  simp only [resolve,invoke,builtin,Sem.run_bind,Sem.run_pure,Result.andThen_ok,List.map_toArray,List.map_cons,List.map_nil,hev x _ hx,hev y _ hy,hr]
end
theorem Re {f:SF} {ps:List SV} {x:WV} (hp:bI f.tag f.dim f.len=true) (ho:okW (.mk f ps) x=true):fU f.tag f.dim x.f=true:=by
 have h:(if bI f.tag f.dim f.len=true then fU f.tag f.dim x.f else (match (generalizing:=false) ps with | [p,q]=>iM p q x.f x.ps | _=>false))=true:=ho
 rw [if_pos hp] at h
 exact h
theorem I5 {w:World} {d:Nat} {s:SV} (hs:SIn w d s) (hse:dW s=0):∃ S:PS,S.ok∧SIs w S s.f∧∀ (x:WV) (e:Nat),WIn w e x→okW s x=true→∃ y,XIs w S x.f y:=by
 match d,s,hs with
 | d+1,.mk f ps,hs =>
  by_cases hp:bI f.tag f.dim f.len=true
  ·obtain ⟨t,n,a,l,c⟩:=f
   dsimp only at hp
   obtain rfl:l=0:=(fV hp).1
   refine ⟨.one t n,hp,⟨a,c,rfl⟩,fun x e hx ho=>?_⟩
   match e,x,hx,ho with
   | e+1,.mk g qs,hx,ho =>
    exact ⟨.one g.pf,PIs.of hp hx.1 (Re (f:=⟨t,n,a,0,c⟩) hp ho)⟩
  ·have hse':(if bI f.tag f.dim f.len=true then (0:Int) else if f.tag=5∧f.dim=0∧ps.length=2∧ps.all SV.pl=true then 0 else 50)=0:=hse
   rw [if_neg hp] at hse'
   split at hse'
   ·rename_i hq
    obtain ⟨h5,h0,h2,hall⟩:=hq
    obtain ⟨t,n,a,l,c⟩:=f
    dsimp only at h5 h0 hp
    subst h5;subst h0
    obtain ⟨p,q,rfl⟩:=tX h2
    have hl:2=l:=hs.1
    subst hl
    simp only [List.all_cons,List.all_nil,Bool.and_true,Bool.and_eq_true] at hall
    obtain ⟨_,b,off,ha,_,hp3,hq3,_,_⟩:=hs.two
    dsimp only at ha
    subst ha
    obtain ⟨⟨pt,pn,pa,pl,pc⟩,pps⟩:=p
    obtain ⟨⟨qt,qn,qa,ql,qc⟩,qps⟩:=q
    have e1:bI pt pn pl=true:=hall.1
    have e2:bI qt qn ql=true:=hall.2
    obtain rfl:pl=0:=(fV e1).1
    obtain rfl:ql=0:=(fV e2).1
    refine ⟨.two pt pn qt qn,⟨e1,e2⟩,⟨b,off,c,pa,pc,qa,qc,rfl,hp3,hq3⟩,fun x e hx ho=>?_⟩
    match e,x,hx,ho with
    | e+1,.mk g qs,hx,ho =>
     have ho':(if bI 5 0 2=true then fU 5 0 g else iM (.mk ⟨pt,pn,pa,0,pc⟩ pps) (.mk ⟨qt,qn,qa,0,qc⟩ qps) g qs)=true:=ho
     rw [if_neg (show ¬ bI 5 0 2=true from hp)] at ho'
     unfold iM at ho'
     simp only [Bool.and_eq_true,Bool.not_eq_true',decide_eq_true_eq] at ho'
     obtain ⟨hbare,hz,h2q,o1,o2⟩:=ho'
     obtain ⟨x1,x2,rfl⟩:=tX h2q
     obtain ⟨hpl,wb,wo,hpa,_,h6,h7,hx1,hx2⟩:=hx.two
     have hat:=hx.1
     have hg:g.c=0∧g.g=0∧g.rl=0∧g.cl=0:=by
      simp only [iY,iX,hz,Bool.not_false,Bool.true_and,Bool.and_eq_true,Bool.or_eq_true,decide_eq_true_eq] at hbare
      obtain ⟨k1,k2,k3,_⟩:=hbare
      exact ⟨k1.resolve_left (by decide),(k2.resolve_left (by decide)).1,(k2.resolve_left (by decide)).2,k3.resolve_left (by decide)⟩
     have hr0:g.rows=[]:=List.eq_nil_of_length_eq_zero (by have:=hat.rl;omega)
     have hc0:g.cells=[]:=List.eq_nil_of_length_eq_zero (by have:=hat.cl;omega)
     refine ⟨.two x1.f.pf x2.f.pf,?_,hg.2.2.1,hg.2.2.2,hpl,wb,wo,x1.f,x2.f,hpa,h6,h7,PIs.of e1 (WIn.at_ hx1) o1,PIs.of e2 (WIn.at_ hx2) o2⟩
     show (⟨g.z,g.c,g.g,g.rows,g.cells⟩:PF)=pC 0
     unfold pC
     rw [hz,hg.1,hg.2.1,hr0,hc0]
   ·cases hse'
def isX (S:PS) (x:PX):Asr:=fun v w=>∃ f:WF,v=f.val∧XIs w S f x
theorem oZ {S:PS} {x:PX}:iZ (isX S x):=fun v w w' ⟨f,h1,h2⟩ hb=>⟨f,h1,h2.below hb⟩
def nJ (S:PS) (xs:List PX):Asr:=fun v w=>∃ b fs,v = .slice (some ⟨b,0,none⟩) xs.length xs.length∧qP w (some ⟨b,0,none⟩) fs∧XL w S fs xs
theorem rW {S:PS} {xs:List PX}:iZ (nJ S xs):=fun v w w' ⟨b,fs,h1,h2,h3⟩ hb=>⟨b,fs,h1,h2.below hb,h3.below hb⟩
theorem holds3 {p q r:Asr} {vs:List Value} {w:World} (h:mH [p,q,r] vs w):∃ a b c,vs=[a,b,c]∧p a w∧q b w∧r c w:=by
 match vs,h with
 | [a,b,c],h=>exact ⟨a,b,c,rfl,h.1,h.2.1,h.2.2.1⟩
section
variable {n:Nat} {Q:Exit→Act→World→Prop} {l:Fr} {W:World} {ops:Array Oper} {L:List Asr} {i d:Nat} {ty:TypeId} {pos:String} {aft:Array Edge} {gd:Option (Nat×Bool)} {S:PS} {x y z:PX} {p q r:Operand}
theorem I6 (hi:ops[i]?=some ⟨some d,.buildSlice 42 2 (List.toArray [(0,p),(1,q)]),ty,pos,aft,gd⟩) (hw:gC ops L i ⟨some d,.buildSlice 42 2 (List.toArray [(0,p),(1,q)]),ty,pos,aft,gd⟩) (hp:tT n ops l L i [p,q] [isX S x,isX S y]) (hI:atI L i=nJ S [x,y]):RG prog n ops Q l W L i :=
 Ey [isX S x,isX S y] hi hw underlying42 sizeOf44 zeroValue44 rfl rfl hp fun vs w hb hh=>by
  obtain ⟨v1,v2,rfl,⟨f,rfl,hf⟩,g,rfl,hg⟩:=pV hh
  exact ⟨f.six++g.six,uW _ _ _ _ _ _ _ _ _ _ _ _,fun B w' hB h1 h2=>by rw [hI];exact ⟨B,[f,g],rfl,Ip h1,sS (hf.below h2) (sS (hg.below h2) Ma)⟩⟩
end
section
variable {w:World} {S:PS} {sf:SF} {x y z:PX} {vs:List Value}
end
abbrev StT:=Int×List Int×PX
section
variable {S:PS} {px:RV→PX} {rs:List RV} {i:Int} {l:List Int} {k:Nat} {st st':StT} {c:Int}
end
theorem nK {P:Program} {f:FuncId} {vs:Array Value} {w:World} {S:PS} {x:PX} {lo:Nat} (hlo:lo≤w.heap.size) (h:Calls P f vs w (gH S x w)):Calls P f vs w (rC (dH lo S x) w):=h.mono fun e w2 ⟨g,he,hn,hb⟩=>⟨g.val,he,fun w3 hg=>⟨g,rfl,(hn.agree hg).mono hlo⟩,hb⟩
theorem Vp {w:World} {S:PS} {sf:SF} {f0:WF} {x y:PX} {vs:List Value} {lo:Nat} (hh:mH [isV (jS sf f0),nJ S [x,y]] vs w) (hs:SIs w S sf) (hok:S.ok) (ht:Tabs w) (hlo:lo≤w.heap.size):Calls prog 98 vs.toArray w (Cz (dH lo S (iW S x y)) w):=by
 obtain ⟨v1,v2,rfl,rfl,b,fs,rfl,hr,hx⟩:=pV hh
 match fs,hr,hx with
 | g0::ft,hr,hx =>
  refine (Ga S sf f0 w hs hok _ 2 2 g0 x ft [y] hr hx (by have:=hx.1;simpa using this) (by decide) (by decide) ht).mono ?_
  rintro e w' ⟨f,rfl,hn,hb⟩
  exact ⟨_,rfl,⟨f,rfl,hn.mono hlo⟩,hb⟩
 | [],hr,hx=>exact absurd hx.1 (by simp)
end Go.Proofs.YtmgnkpibpjgncaaGreatDoor
namespace Go.Proofs.YtmgnkpibpjgncaaGreatDoor
open Go.Proofs.Tryz
open Go.RowKit
set_option maxHeartbeats 1000000 in
theorem jn_00 (f f2:Int) (w:World):Calls prog 88 #[.agg #[.int .u64 f,.int .i64 0,.int .i64 0],.agg #[.int .u64 f2,.int .i64 0,.int .i64 0]] w fun e w'=>e = .returned (.agg #[.int .u64 (bits .or .u64 f f2),.int .i64 0,.int .i64 0])∧Below w.heap.size w w':=by
 go_enter func88,ntmps88
 go_wp2
 all_goals (try go_region)
 all_goals go_wp2
 all_goals refine bodyPost_ret (v:=.agg #[.int .u64 (bits .or .u64 f f2),.int .i64 0,.int .i64 0]) (by simp [results,results88,go_sem]) rfl ⟨rfl,?_⟩
 all_goals repeat (first | exact Below.refl _ _ | refine Below.drew ?_ | (refine Below.setCell ?_ (by simp) _) | (refine Below.alloc ?_ (by simp;try omega) _))
set_option maxHeartbeats 1000000 in
theorem jn_01 (f f2:Int) (v2:Int) (w:World):Calls prog 88 #[.agg #[.int .u64 f,.int .i64 0,.int .i64 0],.agg #[.int .u64 f2,.int .i64 1,.int .i64 v2]] w fun e w'=>e = .returned (.agg #[.int .u64 (bits .or .u64 f f2),.int .i64 1,.int .i64 v2])∧Below w.heap.size w w':=by
 go_enter func88,ntmps88
 go_wp2
 all_goals (try go_region)
 all_goals go_wp2
 all_goals refine bodyPost_ret (v:=.agg #[.int .u64 (bits .or .u64 f f2),.int .i64 1,.int .i64 v2]) (by simp [results,results88,go_sem]) rfl ⟨rfl,?_⟩
 all_goals repeat (first | exact Below.refl _ _ | refine Below.drew ?_ | (refine Below.setCell ?_ (by simp) _) | (refine Below.alloc ?_ (by simp;try omega) _))
set_option maxHeartbeats 1000000 in
theorem jn_02 (f f2:Int) (w:World):Calls prog 88 #[.agg #[.int .u64 f,.int .i64 0,.int .i64 0],.agg #[.int .u64 f2,.int .i64 2,.int .i64 0]] w fun e w'=>e = .returned (.agg #[.int .u64 0,.int .i64 2,.int .i64 0])∧Below w.heap.size w w':=by
 go_enter func88,ntmps88
 go_wp2
 all_goals (try go_region)
 all_goals go_wp2
 all_goals refine bodyPost_ret (v:=.agg #[.int .u64 0,.int .i64 2,.int .i64 0]) (by simp [results,results88,go_sem]) rfl ⟨rfl,?_⟩
 all_goals repeat (first | exact Below.refl _ _ | refine Below.drew ?_ | (refine Below.setCell ?_ (by simp) _) | (refine Below.alloc ?_ (by simp;try omega) _))
set_option maxHeartbeats 1000000 in
theorem jn_10 (f f2:Int) (v:Int) (w:World):Calls prog 88 #[.agg #[.int .u64 f,.int .i64 1,.int .i64 v],.agg #[.int .u64 f2,.int .i64 0,.int .i64 0]] w fun e w'=>e = .returned (.agg #[.int .u64 (bits .or .u64 f f2),.int .i64 1,.int .i64 v])∧Below w.heap.size w w':=by
 go_enter func88,ntmps88
 go_wp2
 all_goals (try go_region)
 all_goals go_wp2
 all_goals refine bodyPost_ret (v:=.agg #[.int .u64 (bits .or .u64 f f2),.int .i64 1,.int .i64 v]) (by simp [results,results88,go_sem]) rfl ⟨rfl,?_⟩
 all_goals repeat (first | exact Below.refl _ _ | refine Below.drew ?_ | (refine Below.setCell ?_ (by simp) _) | (refine Below.alloc ?_ (by simp;try omega) _))
set_option maxHeartbeats 1000000 in
theorem jn_11 (f f2:Int) (v:Int) (w:World):Calls prog 88 #[.agg #[.int .u64 f,.int .i64 1,.int .i64 v],.agg #[.int .u64 f2,.int .i64 1,.int .i64 v]] w fun e w'=>e = .returned (.agg #[.int .u64 (bits .or .u64 f f2),.int .i64 1,.int .i64 v])∧Below w.heap.size w w':=by
 go_enter func88,ntmps88
 go_wp2
 all_goals (try go_region)
 all_goals go_wp2
 all_goals refine bodyPost_ret (v:=.agg #[.int .u64 (bits .or .u64 f f2),.int .i64 1,.int .i64 v]) (by simp [results,results88,go_sem]) rfl ⟨rfl,?_⟩
 all_goals repeat (first | exact Below.refl _ _ | refine Below.drew ?_ | (refine Below.setCell ?_ (by simp) _) | (refine Below.alloc ?_ (by simp;try omega) _))
set_option maxHeartbeats 1000000 in
theorem jn_1x (f f2:Int) (v v2:Int) (hv:(v == v2)=false) (w:World):Calls prog 88 #[.agg #[.int .u64 f,.int .i64 1,.int .i64 v],.agg #[.int .u64 f2,.int .i64 1,.int .i64 v2]] w fun e w'=>e = .returned (.agg #[.int .u64 0,.int .i64 2,.int .i64 0])∧Below w.heap.size w w':=by
 go_enter func88,ntmps88
 go_wp2
 all_goals (try go_region)
 all_goals go_wp2
 all_goals refine bodyPost_ret (v:=.agg #[.int .u64 0,.int .i64 2,.int .i64 0]) (by simp [results,results88,go_sem]) rfl ⟨rfl,?_⟩
 all_goals repeat (first | exact Below.refl _ _ | refine Below.drew ?_ | (refine Below.setCell ?_ (by simp) _) | (refine Below.alloc ?_ (by simp;try omega) _))
set_option maxHeartbeats 1000000 in
theorem jn_12 (f f2:Int) (v:Int) (w:World):Calls prog 88 #[.agg #[.int .u64 f,.int .i64 1,.int .i64 v],.agg #[.int .u64 f2,.int .i64 2,.int .i64 0]] w fun e w'=>e = .returned (.agg #[.int .u64 0,.int .i64 2,.int .i64 0])∧Below w.heap.size w w':=by
 go_enter func88,ntmps88
 go_wp2
 all_goals (try go_region)
 all_goals go_wp2
 all_goals refine bodyPost_ret (v:=.agg #[.int .u64 0,.int .i64 2,.int .i64 0]) (by simp [results,results88,go_sem]) rfl ⟨rfl,?_⟩
 all_goals repeat (first | exact Below.refl _ _ | refine Below.drew ?_ | (refine Below.setCell ?_ (by simp) _) | (refine Below.alloc ?_ (by simp;try omega) _))
set_option maxHeartbeats 1000000 in
theorem jn_20 (f f2:Int) (w:World):Calls prog 88 #[.agg #[.int .u64 f,.int .i64 2,.int .i64 0],.agg #[.int .u64 f2,.int .i64 0,.int .i64 0]] w fun e w'=>e = .returned (.agg #[.int .u64 0,.int .i64 2,.int .i64 0])∧Below w.heap.size w w':=by
 go_enter func88,ntmps88
 go_wp2
 all_goals (try go_region)
 all_goals go_wp2
 all_goals refine bodyPost_ret (v:=.agg #[.int .u64 0,.int .i64 2,.int .i64 0]) (by simp [results,results88,go_sem]) rfl ⟨rfl,?_⟩
 all_goals repeat (first | exact Below.refl _ _ | refine Below.drew ?_ | (refine Below.setCell ?_ (by simp) _) | (refine Below.alloc ?_ (by simp;try omega) _))
set_option maxHeartbeats 1000000 in
theorem jn_21 (f f2:Int) (v2:Int) (w:World):Calls prog 88 #[.agg #[.int .u64 f,.int .i64 2,.int .i64 0],.agg #[.int .u64 f2,.int .i64 1,.int .i64 v2]] w fun e w'=>e = .returned (.agg #[.int .u64 0,.int .i64 2,.int .i64 0])∧Below w.heap.size w w':=by
 go_enter func88,ntmps88
 go_wp2
 all_goals (try go_region)
 all_goals go_wp2
 all_goals refine bodyPost_ret (v:=.agg #[.int .u64 0,.int .i64 2,.int .i64 0]) (by simp [results,results88,go_sem]) rfl ⟨rfl,?_⟩
 all_goals repeat (first | exact Below.refl _ _ | refine Below.drew ?_ | (refine Below.setCell ?_ (by simp) _) | (refine Below.alloc ?_ (by simp;try omega) _))
set_option maxHeartbeats 1000000 in
theorem jn_22 (f f2:Int) (w:World):Calls prog 88 #[.agg #[.int .u64 f,.int .i64 2,.int .i64 0],.agg #[.int .u64 f2,.int .i64 2,.int .i64 0]] w fun e w'=>e = .returned (.agg #[.int .u64 0,.int .i64 2,.int .i64 0])∧Below w.heap.size w w':=by
 go_enter func88,ntmps88
 go_wp2
 all_goals (try go_region)
 all_goals go_wp2
 all_goals refine bodyPost_ret (v:=.agg #[.int .u64 0,.int .i64 2,.int .i64 0]) (by simp [results,results88,go_sem]) rfl ⟨rfl,?_⟩
 all_goals repeat (first | exact Below.refl _ _ | refine Below.drew ?_ | (refine Below.setCell ?_ (by simp) _) | (refine Below.alloc ?_ (by simp;try omega) _))
theorem Vq (a b:Cl) (ha:a.ok) (hb:b.ok) (w:World):Calls prog 88 #[a.val,b.val] w (Aa a b w):=by
 obtain ⟨f,k,v⟩:=a
 obtain ⟨f2,k2,v2⟩:=b
 obtain ⟨hf,hk⟩:=ha
 obtain ⟨hf2,hk2⟩:=hb
 simp only at hf hk hf2 hk2
 have ho:=Ny f f2 hf hf2
 rcases lC hk with ⟨rfl,rfl⟩ | rfl | ⟨rfl,rfl⟩<;>rcases lC hk2 with ⟨rfl,rfl⟩ | rfl | ⟨rfl,rfl⟩
 ·exact (jn_00 f f2 w).mono (fE (by simp [joinK,ho]) (by simp [joinK]) (by simp [dU]))
 ·exact (jn_01 f f2 v2 w).mono (fE (by simp [joinK,ho]) (by simp [joinK]) (by simp [dU]))
 ·exact (jn_02 f f2 w).mono (fE (by simp [joinK]) (by simp [joinK]) (by simp [dU]))
 ·exact (jn_10 f f2 v w).mono (fE (by simp [joinK,ho]) (by simp [joinK]) (by simp [dU]))
 ·by_cases hv:v=v2
  ·subst hv
   exact (jn_11 f f2 v w).mono (fE (by simp [joinK,ho]) (by simp [joinK]) (by simp [dU]))
  ·exact (jn_1x f f2 v v2 (by simp [hv]) w).mono (fE (by simp [joinK,hv]) (by simp [joinK,hv]) (by simp [dU,hv]))
 ·exact (jn_12 f f2 v w).mono (fE (by simp [joinK]) (by simp [joinK]) (by simp [dU]))
 ·exact (jn_20 f f2 w).mono (fE (by simp [joinK]) (by simp [joinK]) (by simp [dU]))
 ·exact (jn_21 f f2 v2 w).mono (fE (by simp [joinK]) (by simp [joinK]) (by simp [dU]))
 ·exact (jn_22 f f2 w).mono (fE (by simp [joinK]) (by simp [joinK]) (by simp [dU]))
end Go.Proofs.YtmgnkpibpjgncaaGreatDoor
namespace Go.Proofs.YtmgnkpibpjgncaaGreatDoor
open Go.Proofs.Tryz
open Go Go.RowKit
def mY (lo:Nat) (S:PS) (x:PX):Asr:=fun v w=>∃ b,v = .slice (some ⟨b,0,none⟩) 2 2∧gT lo w S (rO b) x
theorem nL {lo:Nat} {S:PS} {x:PX}:iZ (mY lo S x):=fun v w w' ⟨b,h1,h2⟩ hb=>⟨b,h1,h2.below hb⟩
theorem has_one {b:Act} {v:Value} (h:b.eval (.tmp 16)=v):∀ x u,evL [(16,v)] x=some u→b.eval x=u:=by
 intro x u hx
 cases x with
 | tmp t =>
  have hx':look [(16,v)] t=some u:=hx
  unfold look at hx'
  cases hb:Nat.beq 16 t with
  | true =>
   simp only [hb,cond_true,Option.some.injEq] at hx'
   rw [← Nat.eq_of_beq_eq_true hb,h,hx']
  | false =>
   simp only [hb,cond_false] at hx'
   cases hx'
 | const c=>exact Option.some.inj hx
 | global g=>exact Option.some.inj hx
 | func f=>exact Option.some.inj hx
section
variable {n:Nat} {Q:Exit→Act→World→Prop} {l:Fr} {W:World} {ops:Array Oper} {L:List Asr} {i d:Nat} {ty:TypeId} {pos:String} {aft:Array Edge} {gd:Option (Nat×Bool)} {t k u m:Int} {x y:PF} {p q:Operand}
theorem uN (hi:ops[i]?=some ⟨some d,.buildSlice 42 2 (List.toArray [(0,p),(1,q)]),ty,pos,aft,gd⟩) (hw:gC ops L i ⟨some d,.buildSlice 42 2 (List.toArray [(0,p),(1,q)]),ty,pos,aft,gd⟩) (hp:tT n ops l L i [p,q] [dH W.heap.size (.one t k) (.one x),dH W.heap.size (.one u m) (.one y)]) (hI:atI L i=mY W.heap.size (.two t k u m) (.two x y)):RG prog n ops Q l W L i :=
 Ey [dH W.heap.size (.one t k) (.one x),dH W.heap.size (.one u m) (.one y)] hi hw underlying42 sizeOf44 zeroValue44 rfl rfl hp fun vs w hb hh=>by
  obtain ⟨v1,v2,rfl,⟨f,rfl,hf⟩,g,rfl,hg⟩:=pV hh
  refine ⟨f.six++g.six,uW _ _ _ _ _ _ _ _ _ _ _ _,fun B w' hB h1 h2=>?_⟩
  rw [hI]
  rcases Ip h1 with h | ⟨b,off,e,h3⟩
  ·cases h
  ·cases e
   exact ⟨B,rfl,A6 (h3 0 f rfl) (h3 1 g rfl) (by rw [← hB];exact hb.size) (PNew.below hf h2) (PNew.below hg h2)⟩
theorem Gi {lo:Nat} {S:PS} {z:PX} (hi:ops[i]?=some ⟨some d,.build 44 (List.toArray [(4,.tmp 16)]),ty,pos,aft,gd⟩) (hw:gC ops L i ⟨some d,.build 44 (List.toArray [(4,.tmp 16)]),ty,pos,aft,gd⟩) (hp:OpG n ops l L i 16 (mY lo S z)) (hI:atI L i=dH lo S z):RG prog n ops Q l W L i:=fun a ha=>qV hi hw fun b w hF hG hD=>by
 obtain ⟨B,hv,hx⟩:=hp a ha b w hF hD
 refine ⟨(rO B).val,w,?_,by rw [hI];exact ⟨rO B,rfl,hx⟩,Below.refl _ _⟩
 rw [fI b.eval _ _ _ _ pos _ #[] _ none]
 exact zL (l:=[(16,.slice (some ⟨B,0,none⟩) 2 2)]) (us:=[(4,.slice (some ⟨B,0,none⟩) 2 2)]) rfl (Sj _ _ _) b.eval (has_one hv)
end
theorem rX (t n:Int) (sa:Option Addr) (sc:Nat) (w:World) (hp:bI t n 0=true) :
  Calls prog 102 #[.agg #[.int .i64 t,.int .i64 n,.slice sa 0 sc]] w (gH (.one t n) (.one dF) w):=by
 refine cB (args:=[.agg #[.int .i64 t,.int .i64 n,.slice sa 0 sc]]) func102 rfl ntmps102 rfl ?_
 have hS:=St.start w
 refine aJ (aQ (bR (cs:=[_,_,_]) hS rfl rfl rfl fun B1 W1 hS=>bB (cs:=[_,_,_,_,_,_]) hS zeroValue44 rfl rfl fun B2 W2 hS=>aN (XF.thenN (aJ (aJ (aQ (aO (o':=0) eP rfl rfl rfl (aT isAgg22 rfl (aH (hS.at_ 1 rfl) rfl) rfl (cG rfl rfl rfl (aN (XF.thenN (bA rfl (fun hc=>absurd (of_decide_eq_true hc) (by exact lF hp)) (fun hc=>?_)))))))))))))
 have hc:=of_decide_eq_false hc
 refine bM (XF.thenN (aJ (aQ (cV (us:=[(0,.bool _)]) rfl (qZ _) rfl (aU (i:=0) (vs:=[_,_,_,_,_,_]) (cs':=[_,_,_,_,_,_]) (O':=[_,_]) hS sizeOf44 rfl rfl rfl rfl rfl rfl rfl fun W3 hS=>aN (XF.thenN (bX (XF.res (dJ (vs:=[_,_,_,_,_,_]) results102 isAgg44 sizeOf44 rfl (aB.own (j:=0) (m:=6) (hS.at_ 0 rfl) rfl)) ?_))))))))
 exact ⟨tJ,rfl,oW _ _ _ _,hS.below⟩
theorem Mg (t n u m:Int) (a1 a2:Option Addr) (c1 c2 b off sc:Nat) (w:World) (hs1:S3 w b off ⟨t,n,a1,0,c1⟩) (hs2:S3 w b (off+3) ⟨u,m,a2,0,c2⟩) (hp1:bI t n 0=true) (hp2:bI u m 0=true) :
  Calls prog 102 #[.agg #[.int .i64 5,.int .i64 0,.slice (some ⟨b,off,none⟩) 2 sc]] w (gH (.two t n u m) (.two dF dF) w):=by
 refine cB (args:=[.agg #[.int .i64 5,.int .i64 0,.slice (some ⟨b,off,none⟩) 2 sc]]) func102 rfl ntmps102 rfl ?_
 have hS:=St.start w
 refine aJ (aQ (bR (cs:=[_,_,_]) hS rfl rfl rfl fun B1 W1 hS=>bB (cs:=[_,_,_,_,_,_]) hS zeroValue44 rfl rfl fun B2 W2 hS=>aN (XF.thenN (aJ (aJ (aQ (aO (o':=0) eP rfl rfl rfl (aT isAgg22 rfl (aH (hS.at_ 1 rfl) rfl) rfl (cG rfl rfl rfl (aN (XF.thenN (bA rfl (fun hc=>?_) (fun hc=>absurd (of_decide_eq_false hc) (by omega))))))))))))))
 have hc:=of_decide_eq_true hc
 refine aJ ?_
 have hsz:=hS.below.size
 have k1:=aB.agree hS.agree (Nat.zero_le _) hs1.cells
 have k2:=aB.agree hS.agree (Nat.zero_le _) hs2.cells
 refine tG cD 12 hS rfl rfl (by kernel_rfl) (by kernel_rfl) (by kernel_rfl) (fun d hd=>by cases hd) (cJ 1 rfl 1 rfl rfl (fun w hw=>aV (o':=2) fC rfl rfl) rfl (aZ 2 rfl 6 0 rfl rfl rfl (fun w hw=>bC isAgg23 rfl ((aK hw 0).cell (Nat.zero_le _) (aH (hS.at_ 1 rfl) rfl))) rfl (aZ 3 rfl 7 1 rfl rfl rfl (fun w hw=>bE (j:=0) underlying23 sizeOf25 rfl rfl rfl (by omega) (Nat.add_zero _)) rfl (aZ 4 rfl 8 2 rfl rfl rfl (fun w hw=>aX (vs:=[_,_,_]) isAgg25 sizeOf25 rfl (aB.agree (aK hw 0) (Nat.zero_le _) (by assumption))) rfl ?_))))
 refine aI 5 rfl (dH W2.heap.size (.one t n) (.one dF)) (dO) (cR [isV _] rfl zP (aR rfl) ⟨bU (aL 3 (aA rfl rfl rfl)),trivial⟩ (fun vs w' hb hh=>by have e:=cA (us:=[_]) hh;subst e;exact fF hb.size (rX _ _ _ _ _ hp1)) (aD rfl)) ?_
 refine cJ 6 rfl 1 rfl rfl (fun w hw=>aV (o':=2) fC rfl rfl) rfl (aZ 7 rfl 11 5 rfl rfl rfl (fun w hw=>bC isAgg23 rfl ((aK hw 0).cell (Nat.zero_le _) (aH (hS.at_ 1 rfl) rfl))) rfl (aZ 8 rfl 12 6 rfl rfl rfl (fun w hw=>bE (j:=1) underlying23 sizeOf25 rfl rfl rfl (by omega) rfl) rfl (aZ 9 rfl 13 7 rfl rfl rfl (fun w hw=>aX (vs:=[_,_,_]) isAgg25 sizeOf25 rfl (aB.agree (aK hw 0) (Nat.zero_le _) (by assumption))) rfl ?_)))
 refine aI 10 rfl (dH W2.heap.size (.one u m) (.one dF)) (dO) (cR [isV _] rfl zP (aR rfl) ⟨bU (aL 8 (aA rfl rfl rfl)),trivial⟩ (fun vs w' hb hh=>by have e:=cA (us:=[_]) hh;subst e;exact fF hb.size (rX _ _ _ _ _ hp2)) (aD rfl)) ?_
 refine aI 11 rfl (mY W2.heap.size (.two t n u m) (.two dF dF)) (nL) (uN rfl (aR rfl) ⟨bU (aL 4 (aA rfl rfl rfl)),bU (aL 9 (aA rfl rfl rfl)),trivial⟩ (aD rfl)) (aI 12 rfl (dH W2.heap.size (.two t n u m) (.two dF dF)) (dO) (Gi rfl (aR rfl) (aL 10 (aA rfl rfl rfl)) (aD rfl)) (dV ?_))
 intro W3 hbR hS'
 clear hS;have hS:=hS';clear hS'
 refine aG (aG (aG (aG ?_)))
 refine dE ?_;rintro _ ⟨v1,rfl,hn1⟩
 refine aG (aG (aG (aG ?_)))
 refine dE ?_;rintro _ ⟨v2,rfl,hn2⟩
 refine dE ?_;rintro _ _
 refine dE ?_;rintro _ ⟨v3,rfl,hn3⟩
 refine cO (aU (i:=0) (vs:=[_,_,_,_,_,_]) (cs':=[_,_,_,_,_,_]) (O':=[_,_]) hS sizeOf44 rfl rfl rfl rfl rfl rfl rfl fun W4 hS=>aN (XF.thenN (bX (XF.thenR (XF.res (dJ (vs:=[_,_,_,_,_,_]) results102 isAgg44 sizeOf44 rfl (aB.own (j:=0) (m:=6) (hS.at_ 0 rfl) rfl)) ?_)))))
 exact ⟨v3,rfl,(hn3.agree (hS.since 0 rfl)).mono hsz,hS.below⟩
theorem Vr {S:PS} {sf:SF} {w:World} (hs:SIs w S sf) (hok:S.ok):Calls prog 102 #[sf.val] w (gH S (bP S) w):=by
 cases S with
 | one t n =>
  obtain ⟨a,c,rfl⟩:=hs
  exact rX _ _ _ _ _ hok
 | two t n u m =>
  obtain ⟨b,off,c,a1,c1,a2,c2,rfl,h1,h2⟩:=hs
  exact Mg _ _ _ _ _ _ _ _ _ _ _ _ h1 h2 hok.1 hok.2
theorem I7 (S:PS) (sf:SF) (w:World) (hs:SIs w S sf) (hok:S.ok) :
  Calls prog 74 #[sf.val] w (Eb S (bP S) 0 w):=by
 refine cB (args:=[sf.val]) func74 rfl ntmps74 rfl ?_
 have hS:=St.start w
 refine aJ (aQ (bR (cs:=[_,_,_]) hS rfl rfl rfl fun B1 W1 hS=>bB (cs:=[_,_,_,_,_,_]) hS zeroValue44 rfl rfl fun B2 W2 hS=>aC rfl rfl (aN (XF.thenN (aJ (aJ (aQ (aS (vs:=[_,_,_]) isAgg25 sizeOf25 rfl (aB.own (j:=0) (m:=3) (hS.at_ 1 rfl) rfl) rfl (cC (vs:=[_]) hS yS rfl (Ed (hs.below hS.below) hok) rfl fun W3 hS=>dX rfl rfl rfl (aN (XF.thenN (bA rfl (fun hc=>absurd (of_decide_eq_true hc) (by omega)) (fun hc=>?_)))))))))))))
 have hc:=of_decide_eq_false hc
 refine bM (XF.thenN (aJ (aQ (aS (vs:=[_,_,_]) isAgg25 sizeOf25 rfl (aB.own (j:=0) (m:=3) (hS.at_ 1 rfl) rfl) rfl ?_))))
 have hsz:=hS.below.size
 refine cL (vs:=[_]) hS zP rfl (Vr (hs.below hS.below) hok) rfl ?_
 rintro e W4 ⟨f,rfl,hn,hb⟩
 refine ⟨_,rfl,hb,fun hS'=>?_⟩
 clear hS;have hS:=hS';clear hS'
 refine aU (i:=0) (vs:=[_,_,_,_,_,_]) (cs':=[_,_,_,_,_,_]) (O':=[_,_]) hS sizeOf44 rfl rfl rfl rfl rfl rfl rfl fun W5 hS=>aC rfl rfl (aN (XF.thenN (bX (XF.res (mG (vs:=[_,_,_,_,_,_]) results74 isAgg44 sizeOf44 rfl (aB.own (j:=0) (m:=6) (hS.at_ 0 rfl) rfl) rfl) ?_))))
 exact ⟨f,rfl,(hn.agree (hS.since 0 rfl)).mono hsz,hS.below⟩
theorem Rf (t n:Int) (sa:Option Addr) (sc:Nat) (w:World) (hp:bI t n 0=true) (ht4:t≠4) :
  Calls prog 127 #[.agg #[.int .i64 t,.int .i64 n,.slice sa 0 sc]] w (gH (.one t n) (.one (iA t n)) w):=by
 refine cB (args:=[.agg #[.int .i64 t,.int .i64 n,.slice sa 0 sc]]) func127 rfl ntmps127 rfl ?_
 have hS:=St.start w
 refine aJ (aQ (bR (cs:=[_,_,_]) hS rfl rfl rfl fun B1 W1 hS=>bB (cs:=[_,_,_,_,_,_]) hS zeroValue44 rfl rfl fun B2 W2 hS=>aN (XF.thenN (aJ (aQ (cV (us:=[]) rfl (lA) rfl (bB (cs:=[_,_,_,_,_,_]) hS zeroValue44 rfl rfl fun B3 W3 hS=>aU (i:=0) (vs:=[_,_,_,_,_,_]) (cs':=[_,_,_,_,_,_]) (O':=[_,_,_]) hS sizeOf44 rfl rfl rfl rfl rfl rfl rfl fun W4 hS=>aN (XF.thenN (aJ (aJ (aQ (aO (o':=0) eP rfl rfl rfl (aT isAgg22 rfl (aH (hS.at_ 2 rfl) rfl) rfl (aN (XF.thenN (bQ (aJ (aQ (cG rfl rfl rfl (aC rfl rfl (aN (XF.thenN (bA rfl (fun hc=>?_) (fun hc=>?_))))))))))))))))))))))))
 ·have hc8:=of_decide_eq_true hc;clear hc
  have e3:t=3:=hc8
  subst e3
  obtain ⟨m,rfl,hm⟩:=yO hp (.inl rfl)
  refine aQ (aO (o':=1) eQ rfl rfl rfl (aT isAgg3 rfl (aH (hS.at_ 2 rfl) rfl) rfl ?_))
  have hsz:=hS.below.size
  refine cL (vs:=[_]) hS Sq rfl ((oneR_is m _ _ (vK hm).1 _ (vK hm).2).mono fun _ _ h=>Hz.ret h) rfl ?_
  rintro e W5 ⟨a1,c1,rfl,hv,hl,hb⟩
  refine ⟨_,rfl,hb,fun hS'=>?_⟩
  clear hS;have hS:=hS';clear hS'
  refine aE rfl rfl (bJ rfl rfl rfl (bJ rfl rfl rfl (aO (o':=2) eR rfl rfl rfl (aU (i:=0) (vs:=[_,_]) (cs':=[_,_,_,_,_,_]) (O':=[_,_,_]) hS sizeOf40 rfl rfl rfl rfl rfl rfl rfl fun W6 hS=>aN (XF.blkN (XF.thenN (aJ (aQ (aS (vs:=[_,_,_,_,_,_]) isAgg44 sizeOf44 rfl (aB.own (j:=0) (m:=6) (hS.at_ 0 rfl) rfl) rfl (aU (i:=1) (vs:=[_,_,_,_,_,_]) (cs':=[_,_,_,_,_,_]) (O':=[_,_,_]) hS sizeOf44 rfl rfl rfl rfl rfl rfl rfl fun W7 hS=>aN (XF.thenN (bX (XF.res (dJ (vs:=[_,_,_,_,_,_]) results127 isAgg44 sizeOf44 rfl (aB.own (j:=0) (m:=6) (hS.at_ 1 rfl) rfl)) ?_)))))))))))))
  exact eJ (U3 hm (hv.agree (fun ad e=>(hl ad e).1) (hS.since 0 rfl)) (fun ad e=>Nat.le_trans hsz (hl ad e).1)) hS.below
 ·have hc8:=of_decide_eq_false hc;clear hc
  refine aJ (aQ (cG rfl rfl rfl (aC rfl rfl (aN (XF.thenN (bA rfl (fun hc=>absurd (of_decide_eq_true hc) (by exact ht4)) (fun hc=>?_)))))))
  have hc:=of_decide_eq_false hc
  refine aJ (aQ (cG rfl rfl rfl (aC rfl rfl (aN (XF.thenN (bA rfl (fun hc=>absurd (of_decide_eq_true hc) (by exact lF hp)) (fun hc=>?_)))))))
  have hc:=of_decide_eq_false hc
  refine bM (XF.blkN (XF.thenN (aJ (aQ (aS (vs:=[_,_,_,_,_,_]) isAgg44 sizeOf44 rfl (aB.own (j:=0) (m:=6) (hS.at_ 0 rfl) rfl) rfl (aU (i:=1) (vs:=[_,_,_,_,_,_]) (cs':=[_,_,_,_,_,_]) (O':=[_,_,_]) hS sizeOf44 rfl rfl rfl rfl rfl rfl rfl fun W8 hS=>aN (XF.thenN (bX (XF.res (dJ (vs:=[_,_,_,_,_,_]) results127 isAgg44 sizeOf44 rfl (aB.own (j:=0) (m:=6) (hS.at_ 1 rfl) rfl)) ?_)))))))))
  exact eJ (Uz hp hc8 ht4) hS.below
theorem Rg (t n u m:Int) (a1 a2:Option Addr) (c1 c2 b off sc:Nat) (w:World) (hs1:S3 w b off ⟨t,n,a1,0,c1⟩) (hs2:S3 w b (off+3) ⟨u,m,a2,0,c2⟩) (hp1:bI t n 0=true) (hp2:bI u m 0=true) (ih10:∀ W:World,Calls prog 127 #[.agg #[.int .i64 t,.int .i64 n,.slice a1 0 c1]] W (gH (.one t n) (.one (iA t n)) W)) (ih20:∀ W:World,Calls prog 127 #[.agg #[.int .i64 u,.int .i64 m,.slice a2 0 c2]] W (gH (.one u m) (.one (iA u m)) W)) :
  Calls prog 127 #[.agg #[.int .i64 5,.int .i64 0,.slice (some ⟨b,off,none⟩) 2 sc]] w (gH (.two t n u m) (.two (iA t n) (iA u m)) w):=by
 refine cB (args:=[.agg #[.int .i64 5,.int .i64 0,.slice (some ⟨b,off,none⟩) 2 sc]]) func127 rfl ntmps127 rfl ?_
 have hS:=St.start w
 refine aJ (aQ (bR (cs:=[_,_,_]) hS rfl rfl rfl fun B1 W1 hS=>bB (cs:=[_,_,_,_,_,_]) hS zeroValue44 rfl rfl fun B2 W2 hS=>aN (XF.thenN (aJ (aQ (cV (us:=[]) rfl (lA) rfl (bB (cs:=[_,_,_,_,_,_]) hS zeroValue44 rfl rfl fun B3 W3 hS=>aU (i:=0) (vs:=[_,_,_,_,_,_]) (cs':=[_,_,_,_,_,_]) (O':=[_,_,_]) hS sizeOf44 rfl rfl rfl rfl rfl rfl rfl fun W4 hS=>aN (XF.thenN (aJ (aJ (aQ (aO (o':=0) eP rfl rfl rfl (aT isAgg22 rfl (aH (hS.at_ 2 rfl) rfl) rfl (aN (XF.thenN (bQ (aJ (aQ (cG rfl rfl rfl (aC rfl rfl (aN (XF.thenN (bA rfl (fun hc=>absurd (of_decide_eq_true hc) (by omega)) (fun hc=>?_))))))))))))))))))))))))
 have hc:=of_decide_eq_false hc
 refine aJ (aQ (cG rfl rfl rfl (aC rfl rfl (aN (XF.thenN (bA rfl (fun hc=>absurd (of_decide_eq_true hc) (by omega)) (fun hc=>?_)))))))
 have hc:=of_decide_eq_false hc
 refine aJ (aQ (cG rfl rfl rfl (aC rfl rfl (aN (XF.thenN (bA rfl (fun hc=>?_) (fun hc=>absurd (of_decide_eq_false hc) (by omega))))))))
 have hc:=of_decide_eq_true hc
 have hsz:=hS.below.size
 have k1:=aB.agree hS.agree (Nat.zero_le _) hs1.cells
 have k2:=aB.agree hS.agree (Nat.zero_le _) hs2.cells
 have ih1:=fun (W2:World) (_:Below W4.heap.size W4 W2)=>ih10 W2
 have ih2:=fun (W2:World) (_:Below W4.heap.size W4 W2)=>ih20 W2
 refine tG cD 12 hS rfl rfl (by kernel_rfl) (by kernel_rfl) (by kernel_rfl) (fun d hd=>by cases hd) (cJ 1 rfl 1 rfl rfl (fun w hw=>aV (o':=2) fC rfl rfl) rfl (aZ 2 rfl 35 0 rfl rfl rfl (fun w hw=>bC isAgg23 rfl ((aK hw 0).cell (Nat.zero_le _) (aH (hS.at_ 2 rfl) rfl))) rfl (aZ 3 rfl 36 1 rfl rfl rfl (fun w hw=>bE (j:=0) underlying23 sizeOf25 rfl rfl rfl (by omega) (Nat.add_zero _)) rfl (aZ 4 rfl 37 2 rfl rfl rfl (fun w hw=>aX (vs:=[_,_,_]) isAgg25 sizeOf25 rfl (aB.agree (aK hw 0) (Nat.zero_le _) (by assumption))) rfl ?_))))
 refine aI 5 rfl (dH W4.heap.size (.one t n) (.one (iA t n))) (dO) (cR [isV _] rfl zO (aR rfl) ⟨bU (aL 3 (aA rfl rfl rfl)),trivial⟩ (fun vs w' hb hh=>by have e:=cA (us:=[_]) hh;subst e;exact fF hb.size (ih1 _ hb)) (aD rfl)) ?_
 refine cJ 6 rfl 1 rfl rfl (fun w hw=>aV (o':=2) fC rfl rfl) rfl (aZ 7 rfl 40 5 rfl rfl rfl (fun w hw=>bC isAgg23 rfl ((aK hw 0).cell (Nat.zero_le _) (aH (hS.at_ 2 rfl) rfl))) rfl (aZ 8 rfl 41 6 rfl rfl rfl (fun w hw=>bE (j:=1) underlying23 sizeOf25 rfl rfl rfl (by omega) rfl) rfl (aZ 9 rfl 42 7 rfl rfl rfl (fun w hw=>aX (vs:=[_,_,_]) isAgg25 sizeOf25 rfl (aB.agree (aK hw 0) (Nat.zero_le _) (by assumption))) rfl ?_)))
 refine aI 10 rfl (dH W4.heap.size (.one u m) (.one (iA u m))) (dO) (cR [isV _] rfl zO (aR rfl) ⟨bU (aL 8 (aA rfl rfl rfl)),trivial⟩ (fun vs w' hb hh=>by have e:=cA (us:=[_]) hh;subst e;exact fF hb.size (ih2 _ hb)) (aD rfl)) ?_
 refine aI 11 rfl (mY W4.heap.size (.two t n u m) (.two (iA t n) (iA u m))) (nL) (uN rfl (aR rfl) ⟨bU (aL 4 (aA rfl rfl rfl)),bU (aL 9 (aA rfl rfl rfl)),trivial⟩ (aD rfl)) (cJ 12 rfl 3 rfl rfl (fun w hw=>aV (o':=5) cW rfl rfl) rfl (dV ?_))
 intro W5 hbR hS'
 clear hS;have hS:=hS';clear hS'
 refine aG (aG (aG (aG ?_)))
 refine dE ?_;rintro _ ⟨v1,rfl,hn1⟩
 refine aG (aG (aG (aG ?_)))
 refine dE ?_;rintro _ ⟨v2,rfl,hn2⟩
 refine dE ?_;rintro _ ⟨b9,rfl,hn9⟩
 refine aG (cO (dS (i:=0) (cs':=[_,_,_,_,_,_]) (O':=[_,_,_]) hS sizeOf42 rfl rfl rfl rfl rfl rfl rfl fun W6 hS=>aN (XF.blkN (XF.thenN (aJ (aQ (aS (vs:=[_,_,_,_,_,_]) isAgg44 sizeOf44 rfl (aB.own (j:=0) (m:=6) (hS.at_ 0 rfl) rfl) rfl (aU (i:=1) (vs:=[_,_,_,_,_,_]) (cs':=[_,_,_,_,_,_]) (O':=[_,_,_]) hS sizeOf44 rfl rfl rfl rfl rfl rfl rfl fun W7 hS=>aN (XF.thenN (bX (XF.res (dJ (vs:=[_,_,_,_,_,_]) results127 isAgg44 sizeOf44 rfl (aB.own (j:=0) (m:=6) (hS.at_ 1 rfl) rfl)) ?_)))))))))))
 exact ⟨rO b9,rfl,(hn9.agree (hS.since 0 rfl)).mono hsz,hS.below⟩
theorem oneR_4 (m:Nat) (sa:Option Addr) (sc:Nat) (w:World) (hm:m≤64) :
  Calls prog 127 #[.agg #[.int .i64 4,.int .i64 (m:Int),.slice sa 0 sc]] w (gH (.one 4 m) (.one (iA 4 m)) w):=by
 refine cB (args:=[.agg #[.int .i64 4,.int .i64 (m:Int),.slice sa 0 sc]]) func127 rfl ntmps127 rfl ?_
 have hS:=St.start w
 refine aJ (aQ (bR (cs:=[_,_,_]) hS rfl rfl rfl fun B1 W1 hS=>bB (cs:=[_,_,_,_,_,_]) hS zeroValue44 rfl rfl fun B2 W2 hS=>aN (XF.thenN (aJ (aQ (cV (us:=[]) rfl (lA) rfl (bB (cs:=[_,_,_,_,_,_]) hS zeroValue44 rfl rfl fun B3 W3 hS=>aU (i:=0) (vs:=[_,_,_,_,_,_]) (cs':=[_,_,_,_,_,_]) (O':=[_,_,_]) hS sizeOf44 rfl rfl rfl rfl rfl rfl rfl fun W4 hS=>aN (XF.thenN (aJ (aJ (aQ (aO (o':=0) eP rfl rfl rfl (aT isAgg22 rfl (aH (hS.at_ 2 rfl) rfl) rfl (aN (XF.thenN (bQ (aJ (aQ (cG rfl rfl rfl (aC rfl rfl (aN (XF.thenN (bA rfl (fun hc=>absurd (of_decide_eq_true hc) (by omega)) (fun hc=>?_))))))))))))))))))))))))
 have hc:=of_decide_eq_false hc
 refine aJ (aQ (cG rfl rfl rfl (aC rfl rfl (aN (XF.thenN (bA rfl (fun hc=>?_) (fun hc=>absurd (of_decide_eq_false hc) (by omega))))))))
 have hc:=of_decide_eq_true hc
 refine aJ (aQ (aC rfl rfl (aN (XF.thenN (bQ (eI (fun q l W=>∃ (k:Nat) (v:Value),k≤m∧q=m - k∧l=[(1,.pointer (some ⟨B1,0,none⟩)),(2,.pointer (some ⟨B2,0,none⟩)),(3,.pointer (some ⟨B3,0,none⟩)),(4,.int .i64 (k:Int))]∧St w [(B3,[.bool false,.int .i64 0,.int .u64 0,.slice none 0 0,v,.slice none 0 0],44),(B2,[.bool false,.int .i64 0,.int .u64 0,.slice none 0 0,.slice none 0 0,.slice none 0 0],44),(B1,[.int .i64 4,.int .i64 (m:Int),.slice sa 0 sc],25)] [⟨v,k,flat ((fW m).take k),105,3⟩] [] W) (m - 0) ([(1,_),(2,_),(3,_),(4,_)]) ⟨rfl,rfl,rfl,rfl,trivial⟩ (⟨0,.slice none 0 0,Nat.zero_le _,rfl,rfl,hS.clear.newG _ _⟩) ?_))))))
 clear hS
 rintro q l W ⟨k,v,hkm,rfl,rfl,hS⟩
 refine aJ (aJ (aQ (aE rfl rfl (aO (o':=1) eQ rfl rfl rfl (aT isAgg3 rfl (aH (hS.at_ 2 rfl) rfl) rfl (cY rfl rfl rfl (aN (XF.thenN (bA rfl (fun hc=>?_) (fun hc=>?_))))))))))
 ·have hc22:=of_decide_eq_true hc;clear hc
  have hk:k < m:=by omega
  refine bM (XF.thenN (aJ (bQ ?_)))
  refine Th (p:=6) (k:=8) (gi:=0) (m:=1) cD hS rfl rfl (by kernel_rfl) (by kernel_rfl) (by kernel_rfl) (fun d hd=>by cases hd) rfl rfl underlying41 E4 rfl rfl (by show 0 < 3;decide) rfl rfl rfl (by dsimp only;simp only [maxLen];omega) (by dsimp only;show _ * 24≤_;omega) ?_
  refine gI 1 rfl rfl (by kernel_rfl) (rgV (li:=[(3,_)]) rfl (aR rfl) ⟨cF rfl,trivial⟩ (fun w hw=>aV (o':=4) dG rfl rfl) (aD rfl)) (gI 2 rfl rfl (by kernel_rfl) (rgV (li:=[(25,_)]) rfl (aR rfl) ⟨aL 0 (aA rfl rfl rfl),trivial⟩ (fun w hw=>bC isAgg41 rfl ((aK hw 0).cell (Nat.zero_le _) (aH (hS.at_ 0 rfl) rfl))) (aD rfl)) (gI 3 rfl rfl (by kernel_rfl) (rgV (li:=[(4,_)]) rfl (aR rfl) ⟨cF rfl,trivial⟩ (fun w hw=>aY rfl) (aD rfl)) ?_))
  refine gI 4 rfl rfl (by kernel_rfl) (cR [isV _] rfl S4 (aR rfl) ⟨bU (aL 2 (aA rfl rfl rfl)),trivial⟩ (fun vs w' hb hh=>by have e:=cA (us:=[_]) hh;subst e;exact (Hk (k:Int) k (2 ^ k) (by omega) rfl (by omega) _).mono fun e w2 h=>⟨_,h.1,rfl,h.2▸Below.refl _ _⟩) (aD rfl)) ?_
  refine gI 5 rfl rfl (by kernel_rfl) (rgV (li:=[(28,_)]) rfl (aR rfl) ⟨aL 3 (aA rfl rfl rfl),trivial⟩ (fun w hw=>zL (us:=[(0,.int .u64 _)]) rfl (Py _)) (aD rfl)) (Tg 6 rfl rfl (by kernel_rfl) (qY W.heap.size 1 105 _) (tU) (Ez (us:=[.agg (List.toArray [_,_,_])]) rfl (aR rfl) underlying41 sizeOf105 zeroValue105 rfl rfl ⟨bU (aL 4 (aA rfl rfl rfl)),trivial⟩ (E1 _ _ _) (aD rfl)) (Fa 7 rfl rfl (zU 8 rfl rfl (rgV (li:=[(3,_)]) rfl (aR rfl) ⟨cF rfl,trivial⟩ (fun w hw=>aV (o':=4) dG rfl rfl) (aD rfl)) (lgV (li:=[(3,_)]) rfl (aR rfl) ⟨cF rfl,trivial⟩ (fun w=>aV (o':=4) dG rfl rfl) (aD rfl) rfl) (E9 ⟨_,_,aL 1 (aA rfl rfl rfl),aL 5 (aA rfl rfl rfl),rD rfl rfl,?_⟩))))
  intro A5 v5 news5 W5 hbR hqA5 hS'
  clear hS;have hS:=hS';clear hS'
  cases hqA5
  refine aG (aG (aG (aG (aG ?_))))
  refine dE ?_;intro _ _
  refine aG (aG ?_)
  obtain ⟨g9,c9,e9,_,_⟩:=(hS.row 0 rfl).form (by show 0 < k+1;omega)
  dsimp only at e9
  subst e9
  refine cO (dS (i:=0) (cs':=[_,_,_,_,_,_]) (O':=[_,_,_]) hS sizeOf41 rfl rfl rfl rfl rfl rfl rfl fun W6 hS=>aN (XF.blkN (XF.thenN (aQ (aE rfl rfl (cZ rfl rfl (IntWalk.i64_in _ (by omega)) rfl (aC rfl rfl (aN ?_))))))))
  exact XF.round (m - (k+1)) [(1,_),(2,_),(3,_),(4,_)] (by omega) ⟨rfl,rfl,rfl,rfl,trivial⟩ ⟨k+1,_,by omega,rfl,rfl,by rw [Qq hk,Dl];exact hS.clear⟩
 ·have hc22:=of_decide_eq_false hc;clear hc
  refine eF (XF.thenX (XF.thenX (XF.blkX (XF.blkN (XF.thenN (aJ ?_))))))
  obtain rfl:k=m:=by omega
  have hrow:=hS.row 0 rfl
  have ht:(fW k).take k=fW k:=List.take_of_length_le (by rw [iQ];exact Nat.le_refl _)
  simp only [ht] at hrow
  obtain ⟨hn,a9,c9,rfl,_,_⟩:=fO hrow
  clear hrow
  refine aQ (aS (vs:=[_,_,_,_,_,_]) isAgg44 sizeOf44 rfl (aB.own (j:=0) (m:=6) (hS.at_ 0 rfl) rfl) rfl (aU (i:=1) (vs:=[_,_,_,_,_,_]) (cs':=[_,_,_,_,_,_]) (O':=[_,_,_]) hS sizeOf44 rfl rfl rfl rfl rfl rfl rfl fun W7 hS=>aN (XF.thenN (bX (XF.res (dJ (vs:=[_,_,_,_,_,_]) results127 isAgg44 sizeOf44 rfl (aB.own (j:=0) (m:=6) (hS.at_ 1 rfl) rfl)) ?_)))))
  have hrow:=hS.row 0 rfl
  simp only [ht] at hrow
  obtain ⟨_,a8,c8,e8,hr9,hf9⟩:=fO hrow
  cases e8
  have e9:(fW k).length=k:=iQ k
  refine ⟨pU a9 c9 (fW k),?_,U5 hm hr9 (fun ad e=>(hf9 ad e).1),hS.below⟩
  show _=Ending.returned (Value.agg #[.bool false,.int .i64 0,.int .u64 ((0:Nat):Int),.slice none 0 0,.slice a9 (fW k).length c9,.slice none 0 0])
  rw [e9]
  rfl
theorem uO (t n:Int) (sa:Option Addr) (sc:Nat) (w:World) (hp:bI t n 0=true):Calls prog 127 #[.agg #[.int .i64 t,.int .i64 n,.slice sa 0 sc]] w (gH (.one t n) (.one (iA t n)) w):=by
 by_cases h4:t=4
 ·subst h4
  obtain ⟨m,rfl,hm⟩:=yO hp (.inr rfl)
  exact oneR_4 m sa sc w hm
 ·exact Rf t n sa sc w hp h4
theorem oneR_ok {S:PS} {sf:SF} {w:World} (hs:SIs w S sf) (hok:S.ok):Calls prog 127 #[sf.val] w (gH S (jW S) w):=by
 cases S with
 | one t n =>
  obtain ⟨a,c,rfl⟩:=hs
  exact uO _ _ _ _ _ hok
 | two t n u m =>
  obtain ⟨b,off,c,a1,c1,a2,c2,rfl,h1,h2⟩:=hs
  exact Rg _ _ _ _ _ _ _ _ _ _ _ _ h1 h2 hok.1 hok.2 (fun W=>uO _ _ _ _ _ hok.1) (fun W=>uO _ _ _ _ _ hok.2)
theorem OneR_ok (S:PS) (sf:SF) (w:World) (hs:SIs w S sf) (hok:S.ok) :
  Calls prog 99 #[sf.val] w (Eb S (jW S) 0 w):=by
 refine cB (args:=[sf.val]) func99 rfl ntmps99 rfl ?_
 have hS:=St.start w
 refine aJ (aQ (bR (cs:=[_,_,_]) hS rfl rfl rfl fun B1 W1 hS=>bB (cs:=[_,_,_,_,_,_]) hS zeroValue44 rfl rfl fun B2 W2 hS=>aC rfl rfl (aN (XF.thenN (aJ (aJ (aQ (aS (vs:=[_,_,_]) isAgg25 sizeOf25 rfl (aB.own (j:=0) (m:=3) (hS.at_ 1 rfl) rfl) rfl (cC (vs:=[_]) hS yS rfl (Ed (hs.below hS.below) hok) rfl fun W3 hS=>dX rfl rfl rfl (aN (XF.thenN (bA rfl (fun hc=>absurd (of_decide_eq_true hc) (by omega)) (fun hc=>?_)))))))))))))
 have hc:=of_decide_eq_false hc
 refine bM (XF.thenN (aJ (aQ (aS (vs:=[_,_,_]) isAgg25 sizeOf25 rfl (aB.own (j:=0) (m:=3) (hS.at_ 1 rfl) rfl) rfl ?_))))
 have hsz:=hS.below.size
 refine cL (vs:=[_]) hS zO rfl (oneR_ok (hs.below hS.below) hok) rfl ?_
 rintro e W4 ⟨f,rfl,hn,hb⟩
 refine ⟨_,rfl,hb,fun hS'=>?_⟩
 clear hS;have hS:=hS';clear hS'
 refine aU (i:=0) (vs:=[_,_,_,_,_,_]) (cs':=[_,_,_,_,_,_]) (O':=[_,_]) hS sizeOf44 rfl rfl rfl rfl rfl rfl rfl fun W5 hS=>aC rfl rfl (aN (XF.thenN (bX (XF.res (mG (vs:=[_,_,_,_,_,_]) results99 isAgg44 sizeOf44 rfl (aB.own (j:=0) (m:=6) (hS.at_ 0 rfl) rfl) rfl) ?_))))
 exact ⟨f,rfl,(hn.agree (hS.since 0 rfl)).mono hsz,hS.below⟩
section
variable {P:Program} {n:Nat} {Q:Exit→Act→World→Prop} {l:Fr} {W:World} {ops:Array Oper} {os:List Oper} {d:Nat} {ty:TypeId} {pos:String} {aft:Array Edge} {x y:Operand} {k:IntKind} {a b:Int} {ts:Array TypeId}
theorem rn_min (hx:evL l x=some (.int k a)) (hy:evL l y=some (.int k b)):gS P l ⟨some d,.call { callee:=.builtin .min,args:=#[x,y],argTypes:=ts },ty,pos,aft,none⟩ W (.int k (min a b)) W:=fun ev he=>by
 have e:(if b < a then b else a)=min a b:=by omega
 unfold execOp
 simp only [resolve,invoke,builtin,Sem.run_bind,Sem.run_pure,Result.andThen_ok,List.map_toArray,List.map_cons,List.map_nil,he x _ hx,he y _ hy,run_min_int2,e]
theorem Vs (hx:evL l x=some (.int k a)) (hy:evL l y=some (.int k b)) (hd:Nat.blt d n=true) (h:cS P n ops Q os ((d,.int k (min a b))::l) W):cS P n ops Q (⟨some d,.call { callee:=.builtin .min,args:=#[x,y],argTypes:=ts },ty,pos,aft,none⟩::os) l W:=opV (rn_min hx hy) hd h
end
theorem has_bit {f k:Nat} (hk:k < 64):Cp f (k:Int)=f.testBit k:=by
 unfold Cp
 rw [decide_eq_true (by omega),decide_eq_true (by omega),Int.toNat_natCast]
 rfl
theorem Ee {xs:List Cl} {k:Nat} {c:Cl} (h:xs[k]?=some c):flat (xs.take (k+1))=flat (xs.take k)++vals c:=by
 rw [List.take_add_one,h];exact Dl _ _
theorem Mh (a:Option Addr) (cap len:Nat) (row:List Cl) (c:Cl) (w:World) (hlen:row.length=len) (hm:len≤64) (hra:eZ w a row) (hok:∀ (i:Nat) x,row[i]?=some x→x.ok) (hc:c.ok) :
  Calls prog 129 #[.slice a len cap,c.val] w (fun e w'=>e = .returned (ofC row c).val∧Below w.heap.size w w'):=by
 refine cB (args:=[.slice a len cap,c.val]) func129 rfl ntmps129 rfl ?_
 have hS:=St.start w
 refine aJ (aQ (bR (cs:=[_,_,_]) hS rfl rfl rfl fun B1 W1 hS=>bB (cs:=[_,_,_]) hS zeroValue105 rfl rfl fun B2 W2 hS=>aN (XF.thenN (aJ (aQ (aO (o':=1) Sl rfl rfl rfl (aT isAgg103 rfl (aH (hS.at_ 1 rfl) rfl) rfl (aO (o':=2) Sm rfl rfl rfl (aT isAgg2 rfl (aH (hS.at_ 1 rfl) rfl) rfl (cV (us:=[(1,.int .i64 _),(2,.int .i64 _)]) rfl (Hf _ _) rfl (bB (cs:=[_,_,_]) hS zeroValue105 rfl rfl fun B3 W3 hS=>aU (i:=0) (vs:=[_,_,_]) (cs':=[_,_,_]) (O':=[_,_,_]) hS sizeOf105 rfl rfl rfl rfl rfl rfl rfl fun W4 hS=>aN (XF.thenN (aJ (aJ (aQ (aC rfl rfl (aN (XF.thenN (bQ (eI (fun q l W=>∃ k:Nat,k≤len∧q=len - k∧l=[(0,.slice a len cap),(3,.pointer (some ⟨B1,0,none⟩)),(4,.pointer (some ⟨B2,0,none⟩)),(5,.pointer (some ⟨B3,0,none⟩)),(6,.int .i64 (k:Int))]∧St w [(B3,[.int .u64 ((iF row c k).f:Int),.int .i64 (iF row c k).k,.int .i64 (iF row c k).v],105),(B2,[.int .u64 0,.int .i64 0,.int .i64 0],105),(B1,[.int .u64 (c.f:Int),.int .i64 c.k,.int .i64 c.v],105)] [] [] W) (len - 0) ([(0,_),(3,_),(4,_),(5,_),(6,_)]) ⟨rfl,rfl,rfl,rfl,rfl,trivial⟩ (⟨0,Nat.zero_le _,rfl,rfl,hS.clear⟩) ?_))))))))))))))))))))
 clear hS
 rintro q l W ⟨k,hkm,rfl,rfl,hS⟩
 refine aJ (aJ (aQ (aE rfl rfl (aE rfl rfl (cX underlying41 rfl rfl (cY rfl rfl rfl (aN (XF.thenN (bA rfl (fun hc=>?_) (fun hc=>?_))))))))))
 ·have hc15:=of_decide_eq_true hc;clear hc
  have hk:k < len:=by omega
  obtain ⟨ba,offa,x,rfl,hx,hba,a0,a1,a2⟩:=(hra.below hS.below).at_ (k:=k) (by omega)
  have k1:aB W ba (offa+k * 3) [.int .u64 (x.f:Int),.int .i64 x.k,.int .i64 x.v]:=⟨a0,a1,a2,trivial⟩
  refine bM (XF.thenN (aJ (bQ (aJ (aQ (aO (o':=0) Sk rfl rfl rfl (aT isAgg37 rfl (aH (hS.at_ 2 rfl) rfl) rfl (aE rfl rfl (cL (vs:=[_,_]) hS S5 rfl (Fb c.f (k:Int) (c.f.testBit k) (has_bit (by omega)) hc.1 _) rfl ?_)))))))))
  rintro e W5 ⟨rfl,rfl⟩
  refine ⟨_,rfl,Below.refl _ _,fun hS'=>?_⟩
  clear hS;have hS:=hS';clear hS'
  refine aN (XF.thenN (bA rfl (fun hc=>?_) (fun hc=>?_)))
  ·have hc21:=hc;clear hc
   refine tG cD 6 hS rfl rfl (by kernel_rfl) (by kernel_rfl) (by kernel_rfl) (fun d hd=>by cases hd) (cJ 1 rfl 5 rfl rfl (fun w hw=>aX (vs:=[_,_,_]) isAgg105 sizeOf105 rfl (aB.agree (aK hw 0) (Nat.zero_le _) (aB.own (j:=0) (m:=3) (hS.at_ 0 rfl) rfl))) rfl (cJ 2 rfl 0 rfl rfl (fun w hw=>aY rfl) rfl (cJ 3 rfl 6 rfl rfl (fun w hw=>aY rfl) rfl (aI 4 rfl (isV _) (aF _) (rgV (li:=[(23,_),(24,_)]) rfl (aR rfl) ⟨aL 1 (aA rfl rfl rfl),aL 2 (aA rfl rfl rfl),trivial⟩ (fun w hw=>bE  underlying41 sizeOf105 rfl rfl rfl (by omega) rfl) (aD rfl)) (aZ 5 rfl 25 3 rfl rfl rfl (fun w hw=>aX (vs:=[_,_,_]) isAgg105 sizeOf105 rfl (aB.agree (aK hw 0) (Nat.zero_le _) (by assumption))) rfl ?_)))))
   refine aI 6 rfl (isV (join (iF row c k) x).val) (aF _) (cR [isV _,isV _] rfl Nl (aR rfl) ⟨bU (aL 0 (aA rfl rfl rfl)),bU (aL 4 (aA rfl rfl rfl)),trivial⟩ (fun vs w' hb hh=>by have e:=cA (us:=[_,_]) hh;subst e;exact (Vq (iF row c k) x (kH hc hok k) (hok k x hx) _).mono fun e w2 h=>⟨_,h.1,rfl,h.2⟩) (aD rfl)) ?_
   refine dV ?_
   intro W6 hbR hS'
   clear hS;have hS:=hS';clear hS'
   refine aG (aG (aG (aG (aG (aG (cO (aU (i:=0) (vs:=[_,_,_]) (cs':=[_,_,_]) (O':=[_,_,_]) hS sizeOf105 rfl rfl rfl rfl rfl rfl rfl fun W7 hS=>aN (XF.blkN (XF.thenN (aQ (aE rfl rfl (cZ rfl rfl (IntWalk.i64_in _ (by omega)) rfl (aC rfl rfl (aN ?_))))))))))))))
   exact XF.round (len - (k+1)) [(0,_),(3,_),(4,_),(5,_),(6,_)] (by omega) ⟨rfl,rfl,rfl,rfl,rfl,trivial⟩ ⟨k+1,by omega,rfl,rfl,by rw [An hc21 hx];exact hS.clear⟩
  ·have hc21:=hc;clear hc
   refine bM (XF.blkN (XF.thenN (aQ (aE rfl rfl (cZ rfl rfl (IntWalk.i64_in _ (by omega)) rfl (aC rfl rfl (aN ?_)))))))
   exact XF.round (len - (k+1)) [(0,_),(3,_),(4,_),(5,_),(6,_)] (by omega) ⟨rfl,rfl,rfl,rfl,rfl,trivial⟩ ⟨k+1,by omega,rfl,rfl,by rw [Fz hc21];exact hS.clear⟩
 ·have hc15:=of_decide_eq_false hc;clear hc
  refine eF (XF.thenX (XF.thenX (XF.blkX (XF.thenN (aJ (aQ (aS (vs:=[_,_,_]) isAgg105 sizeOf105 rfl (aB.own (j:=0) (m:=3) (hS.at_ 0 rfl) rfl) rfl (aU (i:=1) (vs:=[_,_,_]) (cs':=[_,_,_]) (O':=[_,_,_]) hS sizeOf105 rfl rfl rfl rfl rfl rfl rfl fun W8 hS=>aN (XF.thenN (bX (XF.res (dJ (vs:=[_,_,_]) results129 isAgg105 sizeOf105 rfl (aB.own (j:=0) (m:=3) (hS.at_ 1 rfl) rfl)) ?_)))))))))))
  have e1:row.length=k:=by omega
  exact ⟨by unfold ofC;rw [e1],hS.below⟩
end Go.Proofs.YtmgnkpibpjgncaaGreatDoor
