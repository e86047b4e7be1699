import Derived.Lib.OwnBridge
import Derived.WideKeyEntry
import Derived.DeepKeys4
import Derived.Lib.AppendZeros
import Derived.Test.YtbmieipifgailaaGreatDoorCkC
set_option maxRecDepth 100000
set_option maxHeartbeats 4000000
set_option linter.unusedVariables false
set_option linter.unusedSimpArgs false
set_option linter.unusedSectionVars false
set_option linter.unnecessarySimpa false
namespace Go.Proofs.YtbmieipifgailaaGreatDoor
open Go.Proofs.Tryz
section
open Go.RowKit
theorem O0 {w:World} {base:Nat} {v:Value} {g h:WF} (hr:w.ownsRow base 46 6 v 2 (g.six++h.six)):∃ b c,v = .slice (some ⟨b,0,none⟩) 2 c∧base≤b∧W6 w b 0 g∧W6 w b 6 h:=by
 rcases hr.2 with ⟨_,h2⟩ | ⟨b,cap,cur,rfl,hb,hh,h1,h2,h3,h4⟩
 ·cases h2
 ·have key:∀ i v,(g.six++h.six)[i]?=some v→w.cell? ⟨b,i,none⟩=some v:=fun i v hi=>by
   rw [← h4,List.getElem?_take] at hi;split at hi
   ·unfold World.cell?;simp only [hh];simpa using hi
   ·cases hi
  exact ⟨b,cap,rfl,hb,⟨key 0 _ rfl,key 1 _ rfl,key 2 _ rfl,key 3 _ rfl,key 4 _ rfl,key 5 _ rfl⟩,⟨key 6 _ rfl,key 7 _ rfl,key 8 _ rfl,key 9 _ rfl,key 10 _ rfl,key 11 _ rfl⟩⟩
theorem L3 {w W:World} {t n u m:Int} {ra ca:Option Addr} {rc cc lo1 lo2:Nat} {v:Value} {g h:WF} {x y:PF} (hb:Below w.heap.size w W) (hr:W.ownsRow w.heap.size 46 6 v 2 (g.six++h.six)) (h1:w.heap.size≤lo1) (k1:PNew lo1 W t n g x) (h2:w.heap.size≤lo2) (k2:PNew lo2 W u m h y) :
  jO (.two t n u m) (.two x y) w (.returned (.agg (List.toArray [.bool false,.int .i64 0,.int .u64 0,.slice ra 0 rc,.slice ca 0 cc,v]))) W:=by
 obtain ⟨b,c,rfl,hb0,h6,h7⟩:=O0 hr;exact ⟨⟨false,0,0,ra,0,rc,[],ca,0,cc,[],some ⟨b,0,none⟩,2,c⟩,rfl,⟨rfl,rfl,rfl,rfl,b,g,h,rfl,hb0,h6,h7,k1.mono h1,k2.mono h2⟩,hb⟩
theorem Ip (t n u m0:Int) (w:World) (fra fca:Option Addr) (frc fcc fpc fb fo:Nat) (f1 f2:WF) (x1 x2:PF) (hf6:W6 w fb fo f1) (hf7:W6 w fb (fo+6) f2) (hx1:PIs w t n f1 x1) (hx2:PIs w u m0 f2 x2) :
  Calls prog 102 #[.agg #[.bool false,.int .i64 0,.int .u64 0,.slice fra 0 frc,.slice fca 0 fcc,.slice (some ⟨fb,fo,none⟩) 2 fpc]] w (jO (.two t n u m0) (.two x1 x2) w):=by
 refine cG (args:=[.agg #[.bool false,.int .i64 0,.int .u64 0,.slice fra 0 frc,.slice fca 0 fcc,.slice (some ⟨fb,fo,none⟩) 2 fpc]]) func102 rfl ntmps102 rfl ?_;have hS:=St.start w;refine aO (aQ (bY (cs:=[_,_,_,_,_,_]) hS rfl rfl rfl fun B1 W1 hS=>bF (cs:=[_,_,_,_,_,_]) hS zeroValue46 rfl rfl fun B2 W2 hS=>aP (XF.thenN (aO (aQ (aN (o':=2) fR rfl rfl rfl (aN (o':=3) yU rfl rfl rfl (aR isAgg40 rfl (aK (hS.at_ 1 rfl) rfl) rfl (cS (vs:=[_]) hS Uo rfl (zO _ _ [] _ (by simp) (.inl rfl) 0 rfl) rfl ?_)))))))));rintro e W3 ⟨v,rfl,hown,hb⟩;refine ⟨_,rfl,hb,?_⟩;clear hS;intro hS;clear hb;obtain ⟨ra1,rc1,rfl,_,_⟩:=(xX (rows:=[]) hown).2;clear hown;refine aN (o':=2) fR rfl rfl rfl (aN (o':=3) yU rfl rfl rfl (dK (i:=1) (cs':=[_,_,_,_,_,_]) (O':=[_,_]) hS sizeOf40 rfl rfl rfl rfl rfl rfl rfl fun W4 hS=>aP (XF.thenN (aO (aQ (aN (o':=4) eG rfl rfl rfl (aR isAgg43 rfl (aK (hS.at_ 1 rfl) rfl) rfl (cS (vs:=[_]) hS Uq rfl (D6 _ _ [] _ (by simp) (.inl rfl) 0 rfl) rfl ?_))))))));rintro e W5 ⟨ca1,cc1,rfl,_,_,hb⟩;refine ⟨_,rfl,hb,?_⟩;clear hS;intro hS;clear hb;refine aN (o':=4) eG rfl rfl rfl (dK (i:=1) (cs':=[_,_,_,_,_,_]) (O':=[_,_]) hS sizeOf43 rfl rfl rfl rfl rfl rfl rfl fun W6 hS=>aP (XF.thenN (aO (aQ (aB rfl rfl (aP (XF.thenN (aO (aO ?_)))))))));have hS:=(hS.newG 46 6).clear;refine aQ (aN (o':=5) dH rfl rfl rfl (aR isAgg44 rfl (aK (hS.at_ 1 rfl) rfl) rfl (cL underlying44 rfl rfl (aH rfl rfl (aP (XF.thenN (bX (eJ (fun m l W=>(m=2∧l=[(1,.pointer (some ⟨B1,0,none⟩)),(2,.pointer (some ⟨B2,0,none⟩)),(3,.slice none 0 0),(17,.slice (some ⟨fb,fo,none⟩) 2 fpc),(18,.int .i64 2),(19,.int .i64 0)]∧St w [(B2,[.bool false,.int .i64 0,.int .u64 0,.slice none 0 0,.slice none 0 0,.slice none 0 0],46),(B1,[.bool false,.int .i64 0,.int .u64 0,.slice ra1 0 rc1,.slice ca1 0 cc1,.slice (some ⟨fb,fo,none⟩) 2 fpc],46)] [⟨.slice none 0 0,0,[],46,6⟩] [] W)∨(∃ v1 lo1 A1 h1,m=1∧l=[(1,.pointer (some ⟨B1,0,none⟩)),(2,.pointer (some ⟨B2,0,none⟩)),(3,v1),(17,.slice (some ⟨fb,fo,none⟩) 2 fpc),(18,.int .i64 2),(19,.int .i64 1)]∧w.heap.size≤lo1∧PNew lo1 A1 t n h1 x1∧St w [(B2,[.bool false,.int .i64 0,.int .u64 0,.slice none 0 0,.slice none 0 0,.slice none 0 0],46),(B1,[.bool false,.int .i64 0,.int .u64 0,.slice ra1 0 rc1,.slice ca1 0 cc1,.slice (some ⟨fb,fo,none⟩) 2 fpc],46)] [⟨v1,1,h1.six,46,6⟩] [(lo1,A1)] W)∨(∃ v2 lo1 A1 h1 lo2 A2 h2,m=0∧l=[(1,.pointer (some ⟨B1,0,none⟩)),(2,.pointer (some ⟨B2,0,none⟩)),(3,v2),(17,.slice (some ⟨fb,fo,none⟩) 2 fpc),(18,.int .i64 2),(19,.int .i64 2)]∧w.heap.size≤lo1∧PNew lo1 A1 t n h1 x1∧w.heap.size≤lo2∧PNew lo2 A2 u m0 h2 x2∧St w [(B2,[.bool false,.int .i64 0,.int .u64 0,.slice none 0 0,.slice none 0 0,.slice none 0 0],46),(B1,[.bool false,.int .i64 0,.int .u64 0,.slice ra1 0 rc1,.slice ca1 0 cc1,.slice (some ⟨fb,fo,none⟩) 2 fpc],46)] [⟨v2,2,h1.six++h2.six,46,6⟩] [(lo2,A2),(lo1,A1)] W)) (2) ([(1,_),(2,_),(3,_),(17,_),(18,_),(19,_)]) ⟨rfl,rfl,rfl,rfl,rfl,rfl,trivial⟩ (.inl ⟨rfl,rfl,hS⟩) ?_))))))));clear hS;rintro m l W (⟨rfl,rfl,hS⟩ | ⟨v1,lo1,A1,h1,rfl,rfl,hlo1,hn1,hS⟩ | ⟨v2,lo1,A1,h1,lo2,A2,h2,rfl,rfl,hlo1,hn1,hlo2,hn2,hS⟩)
 ·have k1:=aC.agree hS.agree (Nat.zero_le _) hf6.cells;refine aO (aQ (cT rfl rfl rfl (aP (XF.thenN (aO (bB rfl (fun hc=>?_) (fun hc=>absurd (of_decide_eq_false hc) (by omega))))))));have hc:=of_decide_eq_true hc;refine bP (XF.thenN (aO (bX (aO (aQ (cK (j:=0) underlying44 sizeOf46 rfl rfl rfl (by omega) (Nat.add_zero _) rfl (aT (vs:=[_,_,_,_,_,_]) isAgg46 sizeOf46 rfl (by assumption) rfl (bF (cs:=[_,_,_,_,_,_]) hS zeroValue46 rfl rfl fun B7 W7 hS=>aU (i:=0) (vs:=[_,_,_,_,_,_]) (cs':=[_,_,_,_,_,_]) (O':=[_,_,_]) hS sizeOf46 rfl rfl rfl rfl rfl rfl rfl fun W8 hS=>aP (XF.thenN (aQ (aH rfl rfl (aT (vs:=[_,_,_,_,_,_]) isAgg46 sizeOf46 rfl (aC.own (j:=0) (m:=6) (hS.at_ 0 rfl) rfl) rfl ?_))))))))))));have hsz:=hS.below.size;refine cS (vs:=[_]) hS rD rfl (kR t n f1 _ _ (hx1.below hS.below)) rfl ?_;rintro e W9 ⟨h1,rfl,hn,hb⟩;refine ⟨_,rfl,hb,?_⟩;clear hS;intro hS;refine cX (us:=[(0,.agg (List.toArray [_,_,_,_,_,_]))]) hS underlying44 sizeOf46 zeroValue46 rfl rfl rfl (yT _ _ _ _ _ _) rfl fun B10 W10 hS=>?_
  refine jS (i:=0) (news:=[_,_,_,_,_,_]) hS underlying44 Lm rfl rfl (by show 0 < 6;decide) rfl rfl rfl rfl rfl (aC.own (j:=0) (m:=6) (hS.at_ 0 rfl) rfl) rfl rfl (by dsimp only;simp only [maxLen];omega) (by dsimp only;show _ * 96≤_;omega) rfl fun v11 W11 hS=>?_
  refine aB rfl rfl (aP (XF.blkN (XF.thenN (aQ (cY rfl rfl (IntWalk.i64_in _ (by omega)) rfl (aH rfl rfl (aP ?_)))))));exact XF.round 1 [(1,_),(2,_),(3,_),(17,_),(18,_),(19,_)] (by omega) ⟨rfl,rfl,rfl,rfl,rfl,rfl,trivial⟩ (.inr (.inl ⟨_,_,_,h1,rfl,rfl,hsz,hn,hS.tail.tail⟩))
 ·have k1:=aC.agree hS.agree (Nat.zero_le _) hf7.cells;refine aO (aQ (cT rfl rfl rfl (aP (XF.thenN (aO (bB rfl (fun hc=>?_) (fun hc=>absurd (of_decide_eq_false hc) (by omega))))))));have hc:=of_decide_eq_true hc;refine bP (XF.thenN (aO (bX (aO (aQ (cK (j:=1) underlying44 sizeOf46 rfl rfl rfl (by omega) rfl rfl (aT (vs:=[_,_,_,_,_,_]) isAgg46 sizeOf46 rfl (by assumption) rfl (bF (cs:=[_,_,_,_,_,_]) hS zeroValue46 rfl rfl fun B12 W12 hS=>aU (i:=0) (vs:=[_,_,_,_,_,_]) (cs':=[_,_,_,_,_,_]) (O':=[_,_,_]) hS sizeOf46 rfl rfl rfl rfl rfl rfl rfl fun W13 hS=>aP (XF.thenN (aQ (aH rfl rfl (aT (vs:=[_,_,_,_,_,_]) isAgg46 sizeOf46 rfl (aC.own (j:=0) (m:=6) (hS.at_ 0 rfl) rfl) rfl ?_))))))))))));have hsz:=hS.below.size;refine cS (vs:=[_]) hS rD rfl (kR u m0 f2 _ _ (hx2.below hS.below)) rfl ?_;rintro e W14 ⟨h2,rfl,hn,hb⟩;refine ⟨_,rfl,hb,?_⟩;clear hS;intro hS;refine cX (us:=[(0,.agg (List.toArray [_,_,_,_,_,_]))]) hS underlying44 sizeOf46 zeroValue46 rfl rfl rfl (yT _ _ _ _ _ _) rfl fun B15 W15 hS=>?_
  refine jS (i:=0) (news:=[_,_,_,_,_,_]) hS underlying44 Lm rfl rfl (by show 0 < 6;decide) rfl rfl rfl rfl rfl (aC.own (j:=0) (m:=6) (hS.at_ 0 rfl) rfl) rfl rfl (by dsimp only;simp only [maxLen];omega) (by dsimp only;show _ * 96≤_;omega) rfl fun v16 W16 hS=>?_
  refine aB rfl rfl (aP (XF.blkN (XF.thenN (aQ (cY rfl rfl (IntWalk.i64_in _ (by omega)) rfl (aH rfl rfl (aP ?_)))))));exact XF.round 0 [(1,_),(2,_),(3,_),(17,_),(18,_),(19,_)] (by omega) ⟨rfl,rfl,rfl,rfl,rfl,rfl,trivial⟩ (.inr (.inr ⟨_,_,_,h1,_,_,h2,rfl,rfl,hlo1,hn1,hsz,hn,hS.tail.tail⟩))
 ·skip;refine aO (aQ (cT rfl rfl rfl (aP (XF.thenN (aO (bB rfl (fun hc=>absurd (of_decide_eq_true hc) (by omega)) (fun hc=>?_)))))));have hc:=of_decide_eq_false hc;refine dT (XF.thenX (XF.thenX (XF.blkX (XF.thenN (aO ?_)))));obtain ⟨gb,gc,rfl,hgb,hg6,hg7⟩:=O0 (hS.row 0 rfl);clear hgb hg6 hg7;refine aQ (aH rfl rfl (aN (o':=5) dH rfl rfl rfl (dK (i:=1) (cs':=[_,_,_,_,_,_]) (O':=[_,_]) hS sizeOf44 rfl rfl rfl rfl rfl rfl rfl fun W17 hS=>aP (XF.thenN (aO (aQ (aT (vs:=[_,_,_,_,_,_]) isAgg46 sizeOf46 rfl (aC.own (j:=0) (m:=6) (hS.at_ 1 rfl) rfl) rfl (aU (i:=0) (vs:=[_,_,_,_,_,_]) (cs':=[_,_,_,_,_,_]) (O':=[_,_]) hS sizeOf46 rfl rfl rfl rfl rfl rfl rfl fun W18 hS=>aP (XF.thenN (bL (XF.res (eE (vs:=[_,_,_,_,_,_]) results102 isAgg46 sizeOf46 rfl (aC.own (j:=0) (m:=6) (hS.at_ 0 rfl) rfl)) ?_)))))))))));exact L3 hS.below (hS.row 0 rfl) hlo1 (hn1.agree (hS.since 1 rfl)) hlo2 (hn2.agree (hS.since 0 rfl))
section
variable {w:World} {S:PS} {sf:SF} {f g:WF} {x y:PX}
theorem Ry (hx:XIs w S f x):Calls prog 102 #[f.val] w (jO S x w):=by
 cases S<;>cases x<;>first | exact hx.elim | skip
 ·exact kR _ _ _ _ _ hx
 ·obtain ⟨ra,ca,rc,cc,pc,fb,fo,f1,f2,rfl,h6,h7,h8,h9⟩:=hx.two;exact Ip _ _ _ _ _ _ _ _ _ _ _ _ _ _ _ _ h6 h7 h8 h9
theorem Vg (hs:SIs w S sf) (hok:S.ok) (hx:XIs w S f x) (hy:XIs w S g y) (ht:Tabs w):Calls prog 75 #[sf.val,f.val,g.val] w (jO S (cD S x y) w):=by
 cases S<;>cases x<;>cases y<;>first | exact hx.elim | exact hy.elim | skip
 ·obtain ⟨a,c,rfl⟩:=hs;exact rH _ _ _ _ _ _ _ _ _ hok hx hy ht
 ·obtain ⟨b,off,c,a1,c1,a2,c2,rfl,h1,h2⟩:=hs;obtain ⟨ra,ca,rc,cc,pc,fb,fo,f1,f2,rfl,h6,h7,h8,h9⟩:=hx.two;obtain ⟨ra',ca',rc',cc',pc',gb,go,g1,g2,rfl,h6',h7',h8',h9'⟩:=hy.two;exact Ly _ _ _ _ _ _ _ _ _ _ _ _ h1 h2 hok.1 hok.2 _ _ _ _ _ _ _ _ _ _ _ h6 h7 h8 h9 _ _ _ _ _ _ _ _ _ _ _ h6' h7' h8' h9' ht
end
def tD (w:World) (a:Option Addr) (fs:List WF):Prop:=fs=[]∨∃ b off,a=some ⟨b,off,none⟩∧∀ (i:Nat) f,fs[i]?=some f→W6 w b (off+i * 6) f
theorem tD.at_ {w:World} {a:Option Addr} {fs:List WF} (h:tD w a fs) {i:Nat} {f:WF} (hi:fs[i]?=some f):∃ b off,a=some ⟨b,off,none⟩∧W6 w b (off+i * 6) f:=by
 rcases h with rfl | ⟨b,off,ha,hc⟩
 ·simp at hi
 ·exact ⟨b,off,ha,hc i f hi⟩
def XL (w:World) (S:PS) (fs:List WF) (xs:List PX):Prop:=fs.length=xs.length∧∀ (i:Nat) f x,fs[i]?=some f→xs[i]?=some x→XIs w S f x
theorem XL.at_ {w:World} {S:PS} {fs:List WF} {xs:List PX} (h:XL w S fs xs) {k:Nat} (hk:k < fs.length):∃ f x,fs[k]?=some f∧xs[k]?=some x∧XIs w S f x :=
 ⟨fs[k],xs[k]'(by have:=h.1;omega),by simp [hk],by have:=h.1;simp [show k < xs.length by omega],h.2 k _ _ (by simp [hk]) (by have:=h.1;simp [show k < xs.length by omega])⟩
def Iq (S:PS) (x:PX) (e0:Int) (w:World) (e:Ending) (w':World):Prop:=∃ f:WF,e = .returned (.tuple #[f.val,.int .i64 e0])∧gY w.heap.size w' S f x∧Below w.heap.size w w'
theorem D8 {α β:Type} {f:β→α→β} {b:β} {xs:List α} {k:Nat} {x:α} (h:xs[k]?=some x):(xs.take (k+1)).foldl f b=f ((xs.take k).foldl f b) x:=by rw [List.take_add_one,h];simp [List.foldl_append]
theorem tD.below {w w':World} {a:Option Addr} {fs:List WF} (h:tD w a fs) (hb:Below w.heap.size w w'):tD w' a fs:=by
 rcases h with h | ⟨b,off,rfl,hc⟩
 ·exact .inl h
 ·exact .inr ⟨b,off,rfl,fun i f hi=>(hc i f hi).below hb⟩
theorem XL.below {w w':World} {S:PS} {fs:List WF} {xs:List PX} (h:XL w S fs xs) (hb:Below w.heap.size w w'):XL w' S fs xs:=⟨h.1,fun i f x hf hx=>(h.2 i f x hf hx).below hb⟩
theorem vG (S:PS) (sf:SF) (w:World) (hs:SIs w S sf) (hok:S.ok) (a:Option Addr) (c m:Nat) (fs:List WF) (xs:List PX) (hr:tD w a fs) (hx:XL w S fs xs) (hm:fs.length=m) (hmx:m≤9223372036854775807) :
  Calls prog 39 #[sf.val,.slice a m c] w (fun e w'=>e = .returned (.int .i64 0)∧Below w.heap.size w w'):=by
 refine cG (args:=[sf.val,.slice a m c]) func39 rfl ntmps39 rfl ?_;have hS:=St.start w;refine aO (aQ (bY (cs:=[_,_,_]) hS rfl rfl rfl fun B1 W1 hS=>aB rfl rfl (aP (XF.thenN (aO (aO (aQ (aT (vs:=[_,_,_]) isAgg25 sizeOf25 rfl (aC.own (j:=0) (m:=3) (hS.at_ 0 rfl) rfl) rfl (cH (vs:=[_]) hS uY rfl (xC (hs.below hS.below) hok) rfl fun W2 hS=>aB rfl rfl (aP (XF.thenN (aO (aQ (aH rfl rfl (dG rfl rfl rfl (aP (XF.thenN (bB rfl (fun hc=>absurd (of_decide_eq_true hc) (by omega)) (fun hc=>?_)))))))))))))))))));have hc:=of_decide_eq_false hc;refine bP (XF.thenN (aO (aO (aQ (aH rfl rfl (cL underlying44 rfl rfl (aH rfl rfl (aP (XF.thenN (bX (eJ (fun q l W=>∃ k:Nat,k≤m∧q=m - k∧l=[(2,.pointer (some ⟨B1,0,none⟩)),(13,.slice a m c),(14,.int .i64 (m:Int)),(15,.int .i64 (k:Int))]∧St w [(B1,[.int .i64 sf.tag,.int .i64 sf.dim,.slice sf.a sf.len sf.cap],25)] [] [] W) (m - 0) ([(2,_),(13,_),(14,_),(15,_)]) ⟨rfl,rfl,rfl,rfl,trivial⟩ (⟨0,Nat.zero_le _,rfl,rfl,hS.clear⟩) ?_)))))))))));clear hS;rintro q l W ⟨k,hkm,rfl,rfl,hS⟩;refine aO (aQ (cT rfl rfl rfl (aP (XF.thenN (aO (bB rfl (fun hc=>?_) (fun hc=>?_)))))))
 ·have hc16:=of_decide_eq_true hc;clear hc;have hk:k < m:=by omega
  obtain ⟨f,x,hf,hxk,hxx⟩:=hx.at_ (k:=k) (by omega);obtain ⟨b,off,rfl,h6⟩:=hr.at_ hf;have k1:=aC.agree hS.agree (Nat.zero_le _) h6.cells;refine bP (XF.thenN (aO (bX (aO (aQ (cK  underlying44 sizeOf46 rfl rfl rfl (by omega) rfl rfl (aT (vs:=[_,_,_,_,_,_]) isAgg46 sizeOf46 rfl (by assumption) rfl (bF (cs:=[_,_,_,_,_,_]) hS zeroValue46 rfl rfl fun B3 W3 hS=>aU (i:=0) (vs:=[_,_,_,_,_,_]) (cs':=[_,_,_,_,_,_]) (O':=[_,_]) hS sizeOf46 rfl rfl rfl rfl rfl rfl rfl fun W4 hS=>aP (XF.thenN (aO (aQ (aT (vs:=[_,_,_]) isAgg25 sizeOf25 rfl (aC.own (j:=0) (m:=3) (hS.at_ 1 rfl) rfl) rfl (aT (vs:=[_,_,_,_,_,_]) isAgg46 sizeOf46 rfl (aC.own (j:=0) (m:=6) (hS.at_ 0 rfl) rfl) rfl (cH (vs:=[_,_]) hS uZ rfl (isA_ok (hs.below hS.below) hok (hxx.below hS.below)) rfl fun W5 hS=>fB rfl rfl (aP (XF.thenN (tI rfl (bP (XF.blkN (XF.thenN (aQ (cY rfl rfl (IntWalk.i64_in _ (by omega)) rfl (aH rfl rfl (aP ?_))))))))))))))))))))))));exact XF.round (m - (k+1)) [(2,_),(13,_),(14,_),(15,_)] (by omega) ⟨rfl,rfl,rfl,rfl,trivial⟩ ⟨k+1,by omega,rfl,rfl,hS.tail.clear⟩
 ·have hc16:=of_decide_eq_false hc;clear hc;refine dT (XF.thenX (XF.thenX (XF.blkX (XF.thenN (aO (aQ (aB rfl rfl (aP (XF.thenN (bL (XF.res (cI results39 rfl) ?_)))))))))));exact ⟨rfl,hS.below⟩
theorem xY (S:PS) (sf:SF) (w:World) (hs:SIs w S sf) (hok:S.ok) (a:Option Addr) (c m:Nat) (fs:List WF) (xs:List PX) (hr:tD w a fs) (hx:XL w S fs xs) (hm:fs.length=m) (hmx:m≤9223372036854775807) (ht:Tabs w) :
  Calls prog 51 #[sf.val,.slice a m c] w (Iq S (xs.foldl (cD S) (bU S)) 0 w):=by
 refine cG (args:=[sf.val,.slice a m c]) func51 rfl ntmps51 rfl ?_;have hS:=St.start w;refine aO (aQ (bY (cs:=[_,_,_]) hS rfl rfl rfl fun B1 W1 hS=>bF (cs:=[_,_,_,_,_,_]) hS zeroValue46 rfl rfl fun B2 W2 hS=>aB rfl rfl (aP (XF.thenN (aO (aO (aQ (aT (vs:=[_,_,_]) isAgg25 sizeOf25 rfl (aC.own (j:=0) (m:=3) (hS.at_ 1 rfl) rfl) rfl (aH rfl rfl (cH (vs:=[_,_]) hS Fz rfl (vG S sf _ (hs.below hS.below) hok a c m fs xs (hr.below hS.below) (hx.below hS.below) hm hmx) rfl fun W3 hS=>aB rfl rfl (aP (XF.thenN (aO (aQ (aH rfl rfl (dG rfl rfl rfl (aP (XF.thenN (bB rfl (fun hc=>absurd (of_decide_eq_true hc) (by omega)) (fun hc=>?_))))))))))))))))))));have hc:=of_decide_eq_false hc;refine bP (XF.thenN (aO (aQ (aT (vs:=[_,_,_]) isAgg25 sizeOf25 rfl (aC.own (j:=0) (m:=3) (hS.at_ 1 rfl) rfl) rfl ?_))));have hsz:=hS.below.size;refine cS (vs:=[_]) hS N5 rfl (Io (hs.below hS.below) hok) rfl ?_;rintro e W4 ⟨f0,rfl,hn,hb⟩;refine ⟨_,rfl,hb,?_⟩;clear hS;intro hS;refine bF (cs:=[_,_,_,_,_,_]) hS zeroValue46 rfl rfl fun B5 W5 hS=>aU (i:=0) (vs:=[_,_,_,_,_,_]) (cs':=[_,_,_,_,_,_]) (O':=[_,_,_]) hS sizeOf46 rfl rfl rfl rfl rfl rfl rfl fun W6 hS=>aP (XF.thenN (aO (aO (aQ (aH rfl rfl (cL underlying44 rfl rfl (aH rfl rfl (aP (XF.thenN (bX ?_))))))))))
 refine eJ (fun q l W=>∃ (k:Nat) (f0:WF) (lo:Nat) (A:World),k≤m∧q=m - k∧l=[(2,.pointer (some ⟨B1,0,none⟩)),(4,.pointer (some ⟨B2,0,none⟩)),(7,.pointer (some ⟨B5,0,none⟩)),(19,.slice a m c),(20,.int .i64 (m:Int)),(21,.int .i64 (k:Int))]∧w.heap.size≤lo∧gY lo A S f0 ((xs.take k).foldl (cD S) (bU S))∧St w [(B5,f0.six,46),(B2,[.bool false,.int .i64 0,.int .u64 0,.slice none 0 0,.slice none 0 0,.slice none 0 0],46),(B1,[.int .i64 sf.tag,.int .i64 sf.dim,.slice sf.a sf.len sf.cap],25)] [] [(lo,A)] W) (m - 0) ([(2,_),(4,_),(7,_),(19,_),(20,_),(21,_)]) ⟨rfl,rfl,rfl,rfl,rfl,rfl,trivial⟩ (⟨0,f0,_,_,Nat.zero_le _,rfl,rfl,hsz,hn,hS.keep [_] (fun q hq=>by simp at hq;subst hq;exact List.mem_cons_self)⟩) ?_;clear hS;rintro q l W ⟨k,f0,lo,A,hkm,rfl,rfl,hlo,hn0,hS⟩;refine aO (aQ (cT rfl rfl rfl (aP (XF.thenN (aO (bB rfl (fun hc=>?_) (fun hc=>?_)))))))
 ·have hc22:=of_decide_eq_true hc;clear hc;have hk:k < m:=by omega
  obtain ⟨f,x,hf,hxk,hxx⟩:=hx.at_ (k:=k) (by omega);obtain ⟨b,off,rfl,h6⟩:=hr.at_ hf;have k1:=aC.agree hS.agree (Nat.zero_le _) h6.cells;refine bP (XF.thenN (aO (bX (aO (aQ (cK  underlying44 sizeOf46 rfl rfl rfl (by omega) rfl rfl (aT (vs:=[_,_,_,_,_,_]) isAgg46 sizeOf46 rfl (by assumption) rfl (bF (cs:=[_,_,_,_,_,_]) hS zeroValue46 rfl rfl fun B7 W7 hS=>aU (i:=0) (vs:=[_,_,_,_,_,_]) (cs':=[_,_,_,_,_,_]) (O':=[_,_,_,_]) hS sizeOf46 rfl rfl rfl rfl rfl rfl rfl fun W8 hS=>aP (XF.thenN (aQ (aT (vs:=[_,_,_]) isAgg25 sizeOf25 rfl (aC.own (j:=0) (m:=3) (hS.at_ 3 rfl) rfl) rfl (aT (vs:=[_,_,_,_,_,_]) isAgg46 sizeOf46 rfl (aC.own (j:=0) (m:=6) (hS.at_ 1 rfl) rfl) rfl (aT (vs:=[_,_,_,_,_,_]) isAgg46 sizeOf46 rfl (aC.own (j:=0) (m:=6) (hS.at_ 0 rfl) rfl) rfl ?_)))))))))))));have hsz2:=hS.below.size;have hb0:=hS.below;refine cS (vs:=[_,_,_]) hS F3 rfl (Vg (hs.below hS.below) hok ((hn0.agree (hS.since 0 rfl)).is) (hxx.below hS.below) (ht.below hS.below)) rfl ?_;rintro e W9 ⟨f2,rfl,hn2,hb⟩;refine ⟨_,rfl,hb,?_⟩;clear hS;intro hS;refine aU (i:=1) (vs:=[_,_,_,_,_,_]) (cs':=[_,_,_,_,_,_]) (O':=[_,_,_,_]) hS sizeOf46 rfl rfl rfl rfl rfl rfl rfl fun W10 hS=>aP (XF.blkN (XF.thenN (aQ (cY rfl rfl (IntWalk.i64_in _ (by omega)) rfl (aH rfl rfl (aP ?_))))))
  exact XF.round (m - (k+1)) [(2,_),(4,_),(7,_),(19,_),(20,_),(21,_)] (by omega) ⟨rfl,rfl,rfl,rfl,rfl,rfl,trivial⟩ ⟨k+1,f2,_,_,by omega,rfl,rfl,hsz2,by rw [D8 hxk];exact hn2,hS.tail.keep [_] (fun q hq=>by simp at hq;subst hq;exact List.mem_cons_self)⟩
 ·have hc22:=of_decide_eq_false hc;clear hc;refine dT (XF.thenX (XF.thenX (XF.blkX (XF.thenN (aO (aQ (aT (vs:=[_,_,_,_,_,_]) isAgg46 sizeOf46 rfl (aC.own (j:=0) (m:=6) (hS.at_ 0 rfl) rfl) rfl (aU (i:=1) (vs:=[_,_,_,_,_,_]) (cs':=[_,_,_,_,_,_]) (O':=[_,_,_]) hS sizeOf46 rfl rfl rfl rfl rfl rfl rfl fun W11 hS=>aB rfl rfl (aP (XF.thenN (bL (XF.res (rB (vs:=[_,_,_,_,_,_]) results51 isAgg46 sizeOf46 rfl (aC.own (j:=0) (m:=6) (hS.at_ 1 rfl) rfl) rfl) ?_))))))))))));have e1:xs.take k=xs:=List.take_of_length_le (by have:=hx.1;omega);rw [e1] at hn0;exact ⟨f0,rfl,(hn0.agree (hS.since 0 rfl)).mono hlo,hS.below⟩
theorem XL.tail {w:World} {S:PS} {f:WF} {fs:List WF} {x:PX} {xs:List PX} (h:XL w S (f::fs) (x::xs)):XL w S fs xs :=
 ⟨by have:=h.1;simpa using this,fun i g y hg hy=>h.2 (i+1) g y (by simpa using hg) (by simpa using hy)⟩
theorem tD.tail {w:World} {a a':Option Addr} {f:WF} {fs:List WF} {m c:Nat} (h:tD w a (f::fs)) (hm:fs.length+1=m) (hmc:m≤c) (h1:c=1→a'=a) (h2:c≠1→a'=a.map (·.add (1 * 6))):tD w a' fs:=by
 by_cases hc:c=1
 ·exact .inl (List.eq_nil_of_length_eq_zero (by omega))
 ·rcases h with h | ⟨b,off,rfl,hh⟩
  ·cases h
  ·refine .inr ⟨b,off+6,by rw [h2 hc,Option.map_some,Addr.add_lit],fun i g hg=>?_⟩;have:=hh (i+1) g (by simpa using hg)
   rwa [show off+(i+1) * 6=off+6+i * 6 by omega] at this
theorem L4 (S:PS) (sf:SF) (w:World) (hs:SIs w S sf) (hok:S.ok) (a:Option Addr) (c m:Nat) (f0:WF) (x0:PX) (ft:List WF) (xt:List PX) (hr:tD w a (f0::ft)) (hx:XL w S (f0::ft) (x0::xt)) (hm:ft.length+1=m) (hmc:m≤c) (hmx:m≤9223372036854775807) (ht:Tabs w) :
  Calls prog 117 #[sf.val,.slice a m c] w (Iq S (xt.foldl (kZ S) x0) 0 w):=by
 refine cG (args:=[sf.val,.slice a m c]) func117 rfl ntmps117 rfl ?_;have hS:=St.start w;refine aO (aQ (bY (cs:=[_,_,_]) hS rfl rfl rfl fun B1 W1 hS=>bF (cs:=[_,_,_,_,_,_]) hS zeroValue46 rfl rfl fun B2 W2 hS=>aB rfl rfl (aP (XF.thenN (aO (aO (aQ (aT (vs:=[_,_,_]) isAgg25 sizeOf25 rfl (aC.own (j:=0) (m:=3) (hS.at_ 1 rfl) rfl) rfl (aH rfl rfl (cH (vs:=[_,_]) hS Fz rfl (vG S sf _ (hs.below hS.below) hok a c m _ _ (hr.below hS.below) (hx.below hS.below) (by simpa using hm) hmx) rfl fun W3 hS=>aB rfl rfl (aP (XF.thenN (aO (aQ (aH rfl rfl (dG rfl rfl rfl (aP (XF.thenN (bB rfl (fun hc=>absurd (of_decide_eq_true hc) (by omega)) (fun hc=>?_))))))))))))))))))));have hc:=of_decide_eq_false hc;refine bP (XF.thenN (aO (aO (aQ (aH rfl rfl (cL underlying44 rfl rfl (cR rfl rfl rfl (aP (XF.thenN (bB rfl (fun hc=>absurd (of_decide_eq_true hc) (by omega)) (fun hc=>?_)))))))))));have hc:=of_decide_eq_false hc;refine bP (XF.thenN (aO ?_));obtain ⟨b,off,rfl,h6⟩:=hr.at_ (i:=0) rfl;have k0:aC W3 b off f0.six:=aC.agree hS.agree (Nat.zero_le _) (show W6 w b off f0 by simpa using h6).cells;have hsz:=hS.below.size;refine aQ (aH rfl rfl (cK (j:=0) underlying44 sizeOf46 rfl rfl rfl (by omega) (Nat.add_zero _) rfl (aT (vs:=[_,_,_,_,_,_]) isAgg46 sizeOf46 rfl (by assumption) rfl (cS (vs:=[_]) hS rD rfl (Ry ((hx.2 0 f0 x0 rfl rfl).below hS.below)) rfl ?_))));rintro e W4 ⟨f1,rfl,hn,hb⟩;refine ⟨_,rfl,hb,?_⟩;clear hS;intro hS;refine bF (cs:=[_,_,_,_,_,_]) hS zeroValue46 rfl rfl fun B5 W5 hS=>aU (i:=0) (vs:=[_,_,_,_,_,_]) (cs':=[_,_,_,_,_,_]) (O':=[_,_,_]) hS sizeOf46 rfl rfl rfl rfl rfl rfl rfl fun W6 hS=>aP (XF.thenN (aO (aO (aQ (aH rfl rfl (kL (j:=1) underlying44 sizeOf46 rfl rfl rfl (by omega) rfl ?_))))))
 intro ad7 hadE7 hadN7;have hrt:=tD.tail hr hm hmc hadE7 hadN7;have hxt:=XL.tail hx;clear hadE7 hadN7;refine cL underlying44 rfl rfl (aH rfl rfl (aP (XF.thenN (bX ?_))));refine eJ (fun q l W=>∃ (k:Nat) (g:WF) (lo:Nat) (A:World),k≤m - 1∧q=m - 1 - k∧l=[(2,.pointer (some ⟨B1,0,none⟩)),(4,.pointer (some ⟨B2,0,none⟩)),(7,.pointer (some ⟨B5,0,none⟩)),(27,.slice ad7 (m - 1) (c - 1)),(28,.int .i64 ((m - 1:Nat):Int)),(29,.int .i64 (k:Int))]∧w.heap.size≤lo∧gY lo A S g ((xt.take k).foldl (kZ S) x0)∧St w [(B5,g.six,46),(B2,[.bool false,.int .i64 0,.int .u64 0,.slice none 0 0,.slice none 0 0,.slice none 0 0],46),(B1,[.int .i64 sf.tag,.int .i64 sf.dim,.slice sf.a sf.len sf.cap],25)] [] [(lo,A)] W) (m - 1 - 0) ([(2,_),(4,_),(7,_),(27,_),(28,_),(29,_)]) ⟨rfl,rfl,rfl,rfl,rfl,rfl,trivial⟩ (⟨0,f1,_,_,Nat.zero_le _,rfl,rfl,hsz,hn,hS.keep [_] (fun q hq=>by simp at hq;subst hq;exact List.mem_cons_self)⟩) ?_;clear hS;rintro q l W ⟨k,g,lo,A,hkm,rfl,rfl,hlo,hn0,hS⟩;refine aO (aQ (cT rfl rfl rfl (aP (XF.thenN (aO (bB rfl (fun hc=>?_) (fun hc=>?_)))))))
 ·have hc30:=of_decide_eq_true hc;clear hc;have hk:k < m - 1:=by omega
  obtain ⟨f,x,hf,hxk,hxx⟩:=hxt.at_ (k:=k) (by omega);obtain ⟨b2,off2,rfl,h62⟩:=hrt.at_ hf;have k1:=aC.agree hS.agree (Nat.zero_le _) h62.cells;refine bP (XF.thenN (aO (bX (aO (aQ (cK  underlying44 sizeOf46 rfl rfl rfl (by omega) rfl rfl (aT (vs:=[_,_,_,_,_,_]) isAgg46 sizeOf46 rfl (by assumption) rfl (bF (cs:=[_,_,_,_,_,_]) hS zeroValue46 rfl rfl fun B8 W8 hS=>aU (i:=0) (vs:=[_,_,_,_,_,_]) (cs':=[_,_,_,_,_,_]) (O':=[_,_,_,_]) hS sizeOf46 rfl rfl rfl rfl rfl rfl rfl fun W9 hS=>aP (XF.thenN (aQ (aT (vs:=[_,_,_]) isAgg25 sizeOf25 rfl (aC.own (j:=0) (m:=3) (hS.at_ 3 rfl) rfl) rfl (aT (vs:=[_,_,_,_,_,_]) isAgg46 sizeOf46 rfl (aC.own (j:=0) (m:=6) (hS.at_ 1 rfl) rfl) rfl (aT (vs:=[_,_,_,_,_,_]) isAgg46 sizeOf46 rfl (aC.own (j:=0) (m:=6) (hS.at_ 0 rfl) rfl) rfl ?_)))))))))))));have hsz2:=hS.below.size;refine cS (vs:=[_,_,_]) hS Ag rfl (wExt_is (hs.below hS.below) hok ((hn0.agree (hS.since 0 rfl)).is) (hxx.below hS.below) (ht.below hS.below)) rfl ?_;rintro e W10 ⟨f2,rfl,hn2,hb⟩;refine ⟨_,rfl,hb,?_⟩;clear hS;intro hS;refine aU (i:=1) (vs:=[_,_,_,_,_,_]) (cs':=[_,_,_,_,_,_]) (O':=[_,_,_,_]) hS sizeOf46 rfl rfl rfl rfl rfl rfl rfl fun W11 hS=>aP (XF.blkN (XF.thenN (aQ (cY rfl rfl (IntWalk.i64_in _ (by omega)) rfl (aH rfl rfl (aP ?_))))))
  exact XF.round (m - 1 - (k+1)) [(2,_),(4,_),(7,_),(27,_),(28,_),(29,_)] (by omega) ⟨rfl,rfl,rfl,rfl,rfl,rfl,trivial⟩ ⟨k+1,f2,_,_,by omega,rfl,rfl,hsz2,by rw [D8 hxk];exact hn2,hS.tail.keep [_] (fun q hq=>by simp at hq;subst hq;exact List.mem_cons_self)⟩
 ·have hc30:=of_decide_eq_false hc;clear hc;refine dT (XF.thenX (XF.thenX (XF.blkX (XF.thenN (aO (aQ (aT (vs:=[_,_,_,_,_,_]) isAgg46 sizeOf46 rfl (aC.own (j:=0) (m:=6) (hS.at_ 0 rfl) rfl) rfl (aU (i:=1) (vs:=[_,_,_,_,_,_]) (cs':=[_,_,_,_,_,_]) (O':=[_,_,_]) hS sizeOf46 rfl rfl rfl rfl rfl rfl rfl fun W12 hS=>aB rfl rfl (aP (XF.thenN (bL (XF.res (rB (vs:=[_,_,_,_,_,_]) results117 isAgg46 sizeOf46 rfl (aC.own (j:=0) (m:=6) (hS.at_ 1 rfl) rfl) rfl) ?_))))))))))));have e1:xt.take k=xt:=List.take_of_length_le (by have:=hxt.1;omega);rw [e1] at hn0;exact ⟨g,rfl,(hn0.agree (hS.since 0 rfl)).mono hlo,hS.below⟩
theorem OneW_ok (S:PS) (sf:SF) (w:World) (hs:SIs w S sf) (hok:S.ok) :
  Calls prog 99 #[sf.val] w (Iq S (oW S) 0 w):=by
 refine cG (args:=[sf.val]) func99 rfl ntmps99 rfl ?_;have hS:=St.start w;refine aO (aQ (bY (cs:=[_,_,_]) hS rfl rfl rfl fun B1 W1 hS=>bF (cs:=[_,_,_,_,_,_]) hS zeroValue46 rfl rfl fun B2 W2 hS=>aB rfl rfl (aP (XF.thenN (aO (aO (aQ (aT (vs:=[_,_,_]) isAgg25 sizeOf25 rfl (aC.own (j:=0) (m:=3) (hS.at_ 1 rfl) rfl) rfl (cH (vs:=[_]) hS uY rfl (xC (hs.below hS.below) hok) rfl fun W3 hS=>aB rfl rfl (aP (XF.thenN (aO (aQ (aH rfl rfl (dG rfl rfl rfl (aP (XF.thenN (bB rfl (fun hc=>absurd (of_decide_eq_true hc) (by omega)) (fun hc=>?_)))))))))))))))))));have hc:=of_decide_eq_false hc;refine bP (XF.thenN (aO (aQ (aT (vs:=[_,_,_]) isAgg25 sizeOf25 rfl (aC.own (j:=0) (m:=3) (hS.at_ 1 rfl) rfl) rfl ?_))));have hsz:=hS.below.size;refine cS (vs:=[_]) hS Ae rfl (oneA_ok (hs.below hS.below) hok) rfl ?_;rintro e W4 ⟨f,rfl,hn,hb⟩;refine ⟨_,rfl,hb,?_⟩;clear hS;intro hS;refine aU (i:=0) (vs:=[_,_,_,_,_,_]) (cs':=[_,_,_,_,_,_]) (O':=[_,_]) hS sizeOf46 rfl rfl rfl rfl rfl rfl rfl fun W5 hS=>aB rfl rfl (aP (XF.thenN (bL (XF.res (rB (vs:=[_,_,_,_,_,_]) results99 isAgg46 sizeOf46 rfl (aC.own (j:=0) (m:=6) (hS.at_ 0 rfl) rfl) rfl) ?_))))
 exact ⟨f,rfl,(hn.agree (hS.since 0 rfl)).mono hsz,hS.below⟩
theorem Ir (S:PS) (sf:SF) (w:World) (hs:SIs w S sf) (hok:S.ok) :
  Calls prog 48 #[sf.val] w (Iq S (bU S) 0 w):=by
 refine cG (args:=[sf.val]) func48 rfl ntmps48 rfl ?_;have hS:=St.start w;refine aO (aQ (bY (cs:=[_,_,_]) hS rfl rfl rfl fun B1 W1 hS=>bF (cs:=[_,_,_,_,_,_]) hS zeroValue46 rfl rfl fun B2 W2 hS=>aB rfl rfl (aP (XF.thenN (aO (aO (aQ (aT (vs:=[_,_,_]) isAgg25 sizeOf25 rfl (aC.own (j:=0) (m:=3) (hS.at_ 1 rfl) rfl) rfl (cH (vs:=[_]) hS uY rfl (xC (hs.below hS.below) hok) rfl fun W3 hS=>aB rfl rfl (aP (XF.thenN (aO (aQ (aH rfl rfl (dG rfl rfl rfl (aP (XF.thenN (bB rfl (fun hc=>absurd (of_decide_eq_true hc) (by omega)) (fun hc=>?_)))))))))))))))))));have hc:=of_decide_eq_false hc;refine bP (XF.thenN (aO (aQ (aT (vs:=[_,_,_]) isAgg25 sizeOf25 rfl (aC.own (j:=0) (m:=3) (hS.at_ 1 rfl) rfl) rfl ?_))));have hsz:=hS.below.size;refine cS (vs:=[_]) hS N5 rfl (Io (hs.below hS.below) hok) rfl ?_;rintro e W4 ⟨f,rfl,hn,hb⟩;refine ⟨_,rfl,hb,?_⟩;clear hS;intro hS;refine aU (i:=0) (vs:=[_,_,_,_,_,_]) (cs':=[_,_,_,_,_,_]) (O':=[_,_]) hS sizeOf46 rfl rfl rfl rfl rfl rfl rfl fun W5 hS=>aB rfl rfl (aP (XF.thenN (bL (XF.res (rB (vs:=[_,_,_,_,_,_]) results48 isAgg46 sizeOf46 rfl (aC.own (j:=0) (m:=6) (hS.at_ 0 rfl) rfl) rfl) ?_))))
 exact ⟨f,rfl,(hn.agree (hS.since 0 rfl)).mono hsz,hS.below⟩
def smN:Nat→WV→Bool
 | 0,_=>false
 | k+1,.mk f ps=>decide (f.rl≤70) && (decide (f.cl≤70) && (decide (f.pl≤3) && ps.all (smN k)))
def smS:Nat→SV→Bool
 | 0,_=>false
 | k+1,.mk f ps=>decide (f.len≤3) && ps.all (smS k)
theorem cW {α:Type} {l:List α} {q:α→Bool} {i:Nat} {x:α} (h:l[i]?=some x) (hq:q x=false):l.all q=false:=by rw [List.all_eq_false];exact ⟨x,List.mem_of_getElem? h,by rw [hq];decide⟩
theorem eX {α:Type} {l:List α} {q:α→Bool} {i:Nat} {x:α} (h:l[i]?=some x) (ha:(l.take i).all q=true) (hq:q x=true):(l.take (i+1)).all q=true:=by rw [List.take_add_one,h];simp [ha,hq]
def okW (s:SV) (x:WV):Bool:=if bV s.f.tag s.f.dim s.f.len=true then fO s.f.tag s.f.dim x.f else match s.ps with | [p,q]=>iD p q x.f x.ps | _=>false
def lY (s:SV) (x:WV):Int:=if dR s=0 then (if okW s x=true then 0 else 51) else dR s
theorem kS {r:Bool} {C:Prop} (hr:r=true↔C) (h:¬ C):false=r:=by
 cases r
 ·rfl
 ·exact absurd (hr.1 rfl) h
theorem r_true {r:Bool} {C:Prop} (hr:r=true↔C) (h:C):true=r:=(hr.2 h).symm
theorem Is {W:World} {B:Nat} {T:TypeId} {f g:WF} (h:W.heap[B]?=some (.cells (List.toArray (f.six++g.six)) T (0,0))):tD W (some ⟨B,0,none⟩) [f,g] :=
 .inr ⟨B,0,rfl,fun i k hi=>by
  match i,hi with
  | 0,hi=>simp at hi;subst hi;exact W6.of_cells (aC.own (j:=0) (m:=6) h rfl)
  | 1,hi=>simp at hi;subst hi;exact W6.of_cells (aC.own (j:=6) (m:=6) h rfl)⟩
theorem sM {w:World} {S:PS} {f:WF} {x:PX} {fs:List WF} {xs:List PX} (h:XIs w S f x) (hx:XL w S fs xs):XL w S (f::fs) (x::xs) :=
 ⟨by simp [hx.1],fun i g y hg hy=>by
  match i,hg,hy with
  | 0,hg,hy=>simp at hg hy;subst hg;subst hy;exact h
  | i+1,hg,hy=>exact hx.2 i g y (by simpa using hg) (by simpa using hy)⟩
theorem L5 {w:World} {S:PS}:XL w S [] []:=⟨rfl,fun i g y hg=>by simp at hg⟩
theorem pc_up {m a b:Nat} (hb:b < 2 ^ m) (h:∀ j,a.testBit j=true→b.testBit j=true):a=b∨pc m a < pc m b:=by
 by_cases e:a=b
 ·exact .inl e
 ·right;obtain ⟨j,hj⟩:∃ j,a.testBit j≠b.testBit j:=Classical.byContradiction fun hn=>e (Nat.eq_of_testBit_eq fun j=>Classical.byContradiction fun hj=>hn ⟨j,hj⟩)
  have h1:a.testBit j=false:=by
   cases ha:a.testBit j with
   | false=>rfl
   | true=>exact absurd (by rw [ha,h j ha]) hj
  have h2:b.testBit j=true:=by
   cases hb2:b.testBit j with
   | true=>rfl
   | false=>exact absurd (by rw [h1,hb2]) hj
  refine Ua (fun i _=>h i) ⟨j,?_,h1,h2⟩;rcases Nat.lt_or_ge j m with hlt | hge
  ·exact hlt
  ·have:=Nat.testBit_lt_two_pow (Nat.lt_of_lt_of_le hb (Nat.pow_le_pow_right (by decide) hge));rw [this] at h2;cases h2
def qK (m g:Nat):List Nat→Nat
 | []=>0
 | r::rs=>pc m (r ||| g)+qK m g rs
theorem It (m g:Nat):∀ rs:List Nat,qK m g rs≤rs.length * m
 | []=>by simp [qK]
 | r::rs=>by have h1:=It m g rs;have h2:=H3 m (r ||| g);simp [qK,Nat.add_mul];omega
theorem uJ {m g g':Nat}:∀ {xs ys:List Nat},xs.length=ys.length→(∀ (i:Nat) (r r':Nat),xs[i]?=some r→ys[i]?=some r'→∀ j,(r ||| g).testBit j=true→(r' ||| g').testBit j=true)→qK m g xs≤qK m g' ys
 | [],[],_,_=>Nat.le_refl _
 | [],_::_,h,_=>by simp at h
 | _::_,[],h,_=>by simp at h
 | r::xs,r'::ys,hl,h=>by
  have ih:=uJ (m:=m) (xs:=xs) (ys:=ys) (by simpa using hl) (fun i a b ha hb=>h (i+1) a b (by simpa using ha) (by simpa using hb));have h1:pc m (r ||| g)≤pc m (r' ||| g'):=Fp fun j _=>h 0 r r' rfl rfl j
  simp only [qK];omega
theorem or_off {a b g:Nat} (ha:a &&& g=0) (hb:b &&& g=0) (h:a ||| g=b ||| g):a=b:=by apply Nat.eq_of_testBit_eq;intro j;have h1:=congrArg (fun n=>n.testBit j) h;have h2:=congrArg (fun n=>n.testBit j) ha;have h3:=congrArg (fun n=>n.testBit j) hb;simp only [Nat.testBit_or,Nat.testBit_and,Nat.zero_testBit] at h1 h2 h3;cases e1:a.testBit j<;>cases e2:b.testBit j<;>cases e3:g.testBit j<;>simp_all
theorem Iu {m g:Nat} (hg:g < 2 ^ m):∀ {xs ys:List Nat},xs.length=ys.length→(∀ r∈ys,r < 2 ^ m)→(∀ r∈xs,r &&& g=0)→(∀ r∈ys,r &&& g=0)→(∀ (i:Nat) (r r':Nat),xs[i]?=some r→ys[i]?=some r'→∀ j,(r ||| g).testBit j=true→(r' ||| g).testBit j=true)→xs=ys∨qK m g xs < qK m g ys
 | [],[],_,_,_,_,_=>.inl rfl
 | [],_::_,h,_,_,_,_=>by simp at h
 | _::_,[],h,_,_,_,_=>by simp at h
 | r::xs,r'::ys,hl,hy,cx,cy,h=>by
  have ht:=fun i a b (ha:xs[i]?=some a) (hb:ys[i]?=some b)=>h (i+1) a b (by simpa using ha) (by simpa using hb)
  have ih:=Iu hg (xs:=xs) (ys:=ys) (by simpa using hl) (fun q hq=>hy q (List.mem_cons_of_mem _ hq)) (fun q hq=>cx q (List.mem_cons_of_mem _ hq)) (fun q hq=>cy q (List.mem_cons_of_mem _ hq)) ht;have hm:=uJ (m:=m) (g:=g) (g':=g) (xs:=xs) (ys:=ys) (by simpa using hl) ht;have h1:=pc_up (m:=m) (a:=r ||| g) (b:=r' ||| g) (Nat.or_lt_two_pow (hy r' List.mem_cons_self) hg) (h 0 r r' rfl rfl);rcases h1 with h1 | h1
  ·have e:r=r':=or_off (cx r List.mem_cons_self) (cy r' List.mem_cons_self) h1;subst e;rcases ih with rfl | ih
   ·exact .inl rfl
   ·right;simp only [qK];omega
  ·right;simp only [qK];omega
def Ay (m g:Nat) (rows:List Nat):Nat:=pc m g+qK m g rows
theorem Vh {m g:Nat} {rows:List Nat} (h:Good m g rows):Ay m g rows≤m * (m+1):=by have h1:=H3 m g;have h2:=It m g rows;rw [h.hl] at h2;unfold Ay;rw [Nat.mul_add,Nat.mul_one];omega
theorem Vi {m ga gb:Nat} {xs ys:List Nat} (ha:Good m ga xs) (hb:Good m gb ys):(ga ||| gb=ga∧eL (ga ||| gb) (orL xs ys)=xs)∨Ay m ga xs < Ay m (ga ||| gb) (eL (ga ||| gb) (orL xs ys)):=by
 have hc:=ha.comb hb;have hlen:ys.length=xs.length:=by rw [ha.hl,hb.hl]
 have hll:xs.length=(eL (ga ||| gb) (orL xs ys)).length:=by rw [iZ,yQ hlen]
 have hp:∀ (i:Nat) (r r':Nat),xs[i]?=some r→(eL (ga ||| gb) (orL xs ys))[i]?=some r'→∀ j,(r ||| ga).testBit j=true→(r' ||| (ga ||| gb)).testBit j=true:=by
  intro i r r' h1 h2 j hj;obtain ⟨hi,_⟩:=List.getElem?_eq_some_iff.1 h1;have hy:ys[i]?=some (ys[i]'(by omega)):=List.getElem?_eq_getElem _;have ho:=Kz h1 hy;unfold eL at h2;rw [List.getElem?_map,ho] at h2;have e:andn (r ||| ys[i]'(by omega)) (ga ||| gb)=r':=by simpa using h2
  subst e;have k1:r < 18446744073709551616:=ha.r64 r (List.mem_of_getElem? h1);have k2:ys[i]'(by omega) < 18446744073709551616:=hb.r64 _ (List.mem_of_getElem? hy);rw [Nat.testBit_or,qT (Nat.or_lt_two_pow (n:=64) k1 k2) hc.g64,Nat.testBit_or,Nat.testBit_or];rw [Nat.testBit_or] at hj;cases e1:r.testBit j<;>cases e2:ga.testBit j<;>cases e3:gb.testBit j<;>simp_all
 rcases pc_up (m:=m) (a:=ga) (b:=ga ||| gb) hc.hg (fun j h=>by rw [Nat.testBit_or,h];rfl) with e | h1
 ·rw [← e] at hc hll hp ⊢;rcases Iu ha.hg hll hc.hr ha.hc hc.hc hp with e2 | h2
  ·exact .inl ⟨rfl,e2.symm⟩
  ·right;unfold Ay;omega
 ·right;have h2:=uJ (m:=m) hll hp;unfold Ay;omega
def rkP (t n:Int) (a:PF):Nat:=if a.z=true then 0 else 1+(if t=2 then (n - a.c).toNat else if t=3 then Ay n.toNat a.g a.rows else if t=4 then qY n.toNat a.cells else 0)
def pA (t n:Int):Int:=if t=1 then 1 else if t=2 then n+1 else if t=3 then n * (n+1)+1 else if t=4 then n * (n+2)+1 else 0
theorem L6 {t n:Int} {l:Nat} {a:PF} (h:bV t n l=true) (ha:OkP t n a):(rkP t n a:Int)≤pA t n:=by
 rcases (dQ h).2 with ⟨rfl,hn⟩ | ⟨rfl,h0,h1⟩ | ⟨rfl,m,rfl,hm⟩ | ⟨rfl,m,rfl,hm⟩
 ·rcases iT ha with rfl | rfl<;>simp [rkP,pA,dL,pC]
 ·rcases iN ha with rfl | ⟨x,rfl,hx⟩
  ·simp [rkP,pA,dL];omega
  ·simp [rkP,pA,pC];omega
 ·have hz:(0:Int)≤(m:Int) * ((m:Int)+1):=Int.mul_nonneg (by omega) (by omega);rcases iU ha with rfl | ⟨g,xs,rfl,hx⟩
  ·simp [rkP,pA,dL];omega
  ·have:=Vh hx;have e:((m * (m+1):Nat):Int)=(m:Int) * ((m:Int)+1):=by push_cast;rfl
   simp [rkP,pA,pF];omega
 ·have hz:(0:Int)≤(m:Int) * ((m:Int)+2):=Int.mul_nonneg (by omega) (by omega);rcases iV ha with rfl | ⟨xs,rfl,hx⟩
  ·simp [rkP,pA,dL];omega
  ·have:=Ub hx;have e:((m * (m+2):Nat):Int)=(m:Int) * ((m:Int)+2):=by push_cast;rfl
   simp [rkP,pA,pX];omega
theorem L7 {t n:Int} {l:Nat} {a b:PF} (h:bV t n l=true) (ha:OkP t n a) (hb:OkP t n b):dM t n a b=a∨rkP t n a < rkP t n (dM t n a b):=by
 by_cases zb:b=dL
 ·subst zb;exact .inl (eI ha)
 have hbz:b.z=false:=by cases hb<;>first | exact absurd rfl zb | rfl
 by_cases za:a=dL
 ·subst za;rw [dZ];right;unfold rkP;rw [hbz];simp [dL];omega
 rcases (dQ h).2 with ⟨rfl,hn⟩ | ⟨rfl,h0,h1⟩ | ⟨rfl,m,rfl,hm⟩ | ⟨rfl,m,rfl,hm⟩
 ·obtain rfl:=(iT ha).resolve_left za;obtain rfl:=(iT hb).resolve_left zb;exact .inl rF
 ·obtain ⟨x,rfl,hx⟩:=(iN ha).resolve_left za;obtain ⟨y,rfl,hy⟩:=(iN hb).resolve_left zb;rw [mG];rcases Int.lt_or_le y x with h2 | h2
  ·right;simp [rkP,pC];omega
  ·left;congr 1;omega
 ·obtain ⟨g,x,rfl,hx⟩:=(iU ha).resolve_left za;obtain ⟨g2,y,rfl,hy⟩:=(iU hb).resolve_left zb;rw [pR,uB hx hy,uC hx hy];rcases Vi hx hy with ⟨e1,e2⟩ | h2
  ·left;rw [e1] at e2 ⊢;rw [e2]
  ·right;simp [rkP,pF];omega
 ·obtain ⟨x,rfl,hx⟩:=(iV ha).resolve_left za;obtain ⟨y,rfl,hy⟩:=(iV hb).resolve_left zb;rw [oE];have hv:=qX hx hy;rcases H5 hx.le (by rw [hx.len,hv.len]) hx.all hv.all (by rw [← zW hx hx hy,Dj hx]) with e | h2
  ·left;rw [← e]
  ·right;simp [rkP,pX];omega
def rkX:PS→PX→Nat
 | .one t n,.one a=>rkP t n a
 | .two t n u m,.two a b=>rkP t n a+rkP u m b
 | _,_=>0
def Iv:PS→Int
 | .one t n=>pA t n
 | .two t n u m=>pA t n+pA u m
theorem rkX_le {S:PS} {x:PX} (h:S.ok) (hx:OkX S x):(rkX S x:Int)≤Iv S:=by
 match S,x,h,hx with
 | .one t n,.one a,h,hx=>exact L6 h hx
 | .two t n u m,.two a b,h,hx =>
  have h1:=L6 h.1 hx.1;have h2:=L6 h.2 hx.2;simp only [rkX,Iv];omega
theorem rkX_up {S:PS} {x y:PX} (h:S.ok) (hx:OkX S x) (hy:OkX S y):cD S x y=x∨rkX S x < rkX S (cD S x y):=by
 match S,x,y,h,hx,hy with
 | .one t n,.one a,.one b,h,hx,hy =>
  rcases L7 h hx hy with e | h1
  ·left;simp only [cD,e]
  ·exact .inr h1
 | .two t n u m,.two a b,.two c d,h,hx,hy =>
  rcases L7 h.1 hx.1 hy.1 with e1 | h1<;>rcases L7 h.2 hx.2 hy.2 with e2 | h2
  ·left;simp only [cD,e1,e2]
  ·right;simp only [cD,rkX,e1];omega
  ·right;simp only [cD,rkX,e2];omega
  ·right;simp only [cD,rkX];omega
theorem uK {t n:Int} {l:Nat} (h:bV t n l=true):0≤pA t n∧pA t n≤1048577:=by
 rcases (dQ h).2 with ⟨rfl,hn⟩ | ⟨rfl,h0,h1⟩ | ⟨rfl,m,rfl,hm⟩ | ⟨rfl,m,rfl,hm⟩
 ·simp [pA]
 ·simp [pA];omega
 ·have h1:m * (m+1)≤64 * 65:=Nat.mul_le_mul hm (by omega);have e:((m * (m+1):Nat):Int)=(m:Int) * ((m:Int)+1):=by push_cast;rfl
  simp [pA];omega
 ·have h1:m * (m+2)≤64 * 66:=Nat.mul_le_mul hm (by omega);have e:((m * (m+2):Nat):Int)=(m:Int) * ((m:Int)+2):=by push_cast;rfl
  simp [pA];omega
theorem Rz (P:Program) (ev:Operand→Value) (w:World) (x:Operand) (f:FuncId) (args:Array Operand) (ts:Array TypeId) (o:Oper) (h:o.op = .call { callee:=.value x,args:=args,argTypes:=ts }) (hf:ev x = .func (.func f) #[] #[]) (hb:bJ P f=true):(execOp ev o).run P w = .ok (.enter f (args.map ev)) w:=by
 unfold bJ at hb;cases hx:P.funcs[f]? with
 | none=>rw [hx] at hb;cases hb
 | some fn =>
  rw [hx] at hb;simp only [Bool.and_eq_true,Bool.not_eq_true',beq_eq_false_iff_ne,ne_eq] at hb;obtain ⟨c,hc⟩:=Option.isSome_iff_exists.1 hb.1;unfold execOp;simp only [h];simp [go_sem,resolve,hf,callFunc,hx,hc,hb.2]
section
variable {P:Program} {n:Nat} {Q:Exit→Act→World→Prop} {l:Fr} {w0 W:World} {ops:Array Oper} {os:List Oper} {O:Own} {G:cV} {K:List (Nat×World)} {d:Nat} {ty:TypeId} {pos:String} {aft:Array Edge}
theorem Az {x:Operand} {f:FuncId} {args:Array Operand} {ts:Array TypeId} {vs:List Value} {R:Ending→World→Prop} (hS:St w0 O G K W) (hx:evL l x=some (.func (.func f) #[] #[])) (hgo:bJ P f=true) (ha:args.toList.map (evL l)=vs.map some) (hc:Calls P f vs.toArray W R)
  (hd:Nat.blt d n=true)
  (h:∀ e W',R e W'→∃ v,e = .returned v∧Below W.heap.size W W'∧(St w0 O G ((W.heap.size,W')::K) W'→cO P n ops Q os ((d,v)::l) W')):cO P n ops Q (⟨some d,.call { callee:=.value x,args:=args,argTypes:=ts },ty,pos,aft,none⟩::os) l W:=fun a hl=>by
 refine wpList_plain rfl fun K' hK=>?_
 unfold Oper.wp;rw [Rz P a.eval W x f args ts _ rfl (hl.ev x _ hx) hgo,Oper.upon_enter];have hargs:args.map a.eval=vs.toArray:=by
  have key:∀ (xs:List Operand) (us:List Value),xs.map (evL l)=us.map some→xs.map a.eval=us:=by
   intro xs
   induction xs with
   | nil=>intro us h;cases us<;>simp at h ⊢
   | cons x xs ih =>
    intro us h;cases us with
    | nil=>simp at h
    | cons u us =>
     simp only [List.map_cons,List.cons.injEq] at h;simp only [List.map_cons,hl.ev x u h.1,ih us h.2]
  apply Array.ext';rw [Array.toList_map,key _ _ ha]
 rw [hargs];refine hc.mono ?_;intro e W' hRe;obtain ⟨v,rfl,hb,hn⟩:=h e W' hRe;exact hK _ _ (hn (hS.call hb) _ (hl.put hd))
end
def eqS:Nat→SV→SV→Bool
 | 0,_,_=>false
 | k+1,.mk f ps,.mk g qs=>decide (f.tag=g.tag) && (decide (f.dim=g.dim) && (decide (ps.length=qs.length) && (ps.zip qs).all fun x=>eqS k x.1 x.2))
theorem smS_succ {j:Nat} {f:SF} {ps:List SV} (h:smS (j+1) (.mk f ps)=true):f.len≤3∧∀ p∈ps,smS j p=true:=by simp only [smS,Bool.and_eq_true,decide_eq_true_eq,List.all_eq_true] at h;exact h
def mxS:Nat→SV→Bool
 | 0,_=>false
 | k+1,.mk f ps=>decide (f.len≤9223372036854775807) && ps.all (mxS k)
theorem vH {j:Nat} {f:SF} {ps:List SV} (h:mxS (j+1) (.mk f ps)=true):f.len≤9223372036854775807∧∀ p∈ps,mxS j p=true:=by simp only [mxS,Bool.and_eq_true,decide_eq_true_eq,List.all_eq_true] at h;exact h
theorem L8:∀ {j:Nat} {s:SV},smS j s=true→mxS j s=true
 | 0,_,h=>by simp [smS] at h
 | j+1,.mk f ps,h=>by simp only [smS,mxS,Bool.and_eq_true,decide_eq_true_eq,List.all_eq_true] at h ⊢;exact ⟨Nat.le_trans h.1 (by decide),fun p hp=>L8 (h.2 p hp)⟩
theorem xD (k j:Nat) (t n u m:Int) (pa qa:Option Addr) (pl ql pc qc:Nat) (ps qs:List SV) (w:World) (hps:ps.length=pl) (hqs:qs.length=ql) (hrow:yI w pa ps) (hrow2:yI w qa qs) (hin:∀ p∈ps,SIn w k p) (hin2:∀ p∈qs,SIn w k p) (hpl:pl≤9223372036854775807) (hsm:∀ p∈ps,mxS j p=true) (ih:∀ (p q:SV) (W:World),SIn W k p→SIn W k q→mxS j p=true→Calls prog 30 #[p.f.val,q.f.val] W fun e w'=>e = .returned (.bool (eqS k p q))∧Below W.heap.size W w') :
  Calls prog 30 #[.agg #[.int .i64 t,.int .i64 n,.slice pa pl pc],.agg #[.int .i64 u,.int .i64 m,.slice qa ql qc]] w (fun e w'=>e = .returned (.bool (eqS (k+1) (.mk ⟨t,n,pa,pl,pc⟩ ps) (.mk ⟨u,m,qa,ql,qc⟩ qs)))∧Below w.heap.size w w'):=by
 refine cG (args:=[.agg #[.int .i64 t,.int .i64 n,.slice pa pl pc],.agg #[.int .i64 u,.int .i64 m,.slice qa ql qc]]) func30 rfl ntmps30 rfl ?_;have hS:=St.start w;refine aO (aQ (bY (cs:=[_,_,_]) hS rfl rfl rfl fun B1 W1 hS=>bY (cs:=[_,_,_]) hS rfl rfl rfl fun B2 W2 hS=>aB rfl rfl (aP (XF.thenN (aO (aO (aQ (aN (o':=0) eS rfl rfl rfl (aR isAgg22 rfl (aK (hS.at_ 1 rfl) rfl) rfl (aN (o':=0) eS rfl rfl rfl (aR isAgg22 rfl (aK (hS.at_ 0 rfl) rfl) rfl (dG rfl rfl rfl (aH rfl rfl (cB (d:=11) rfl (fun hc=>?_) (fun hc=>?_)))))))))))))))
 ·have hg11:=of_decide_eq_true hc;clear hc;refine aD (d:=11) rfl rfl rfl rfl (aD (d:=11) rfl rfl rfl rfl (aD (d:=11) rfl rfl rfl rfl (aD (d:=11) rfl rfl rfl rfl (aD (d:=11) rfl rfl rfl rfl (bC rfl rfl rfl (aH rfl rfl (aD (d:=18) rfl rfl rfl rfl (aD (d:=18) rfl rfl rfl rfl (aD (d:=18) rfl rfl rfl rfl (aD (d:=18) rfl rfl rfl rfl (aD (d:=18) rfl rfl rfl rfl (aD (d:=18) rfl rfl rfl rfl (aD (d:=18) rfl rfl rfl rfl (bC rfl rfl rfl (aP (XF.thenN (fD rfl (aO (aQ (aB rfl rfl (aP (XF.thenN (bL (XF.thenR (XF.res (cI results30 rfl) ?_)))))))))))))))))))))))));exact ⟨bG (by simp only [eqS];rw [decide_eq_false (show ¬ t=u by omega)];rfl),hS.below⟩
 ·have hg11:=of_decide_eq_false hc;clear hc;refine aI (d:=11) rfl rfl (aN (o':=1) eU rfl rfl rfl (aI (d:=11) rfl rfl (aR isAgg3 rfl (aK (hS.at_ 1 rfl) rfl) rfl (aI (d:=11) rfl rfl (aN (o':=1) eU rfl rfl rfl (aI (d:=11) rfl rfl (aR isAgg3 rfl (aK (hS.at_ 0 rfl) rfl) rfl (aI (d:=11) rfl rfl (dG rfl rfl rfl (bR rfl rfl rfl (aH rfl rfl (cB (d:=18) rfl (fun hc=>?_) (fun hc=>?_)))))))))))))
  ·have hg18:=of_decide_eq_true hc;clear hc;refine aD (d:=18) rfl rfl rfl rfl (aD (d:=18) rfl rfl rfl rfl (aD (d:=18) rfl rfl rfl rfl (aD (d:=18) rfl rfl rfl rfl (aD (d:=18) rfl rfl rfl rfl (aD (d:=18) rfl rfl rfl rfl (aD (d:=18) rfl rfl rfl rfl (bC rfl rfl rfl (aP (XF.thenN (fD rfl (aO (aQ (aB rfl rfl (aP (XF.thenN (bL (XF.thenR (XF.res (cI results30 rfl) ?_))))))))))))))))));exact ⟨bG (by simp only [eqS];rw [decide_eq_false (show ¬ n=m by omega)];simp),hS.below⟩
  ·have hg18:=of_decide_eq_false hc;clear hc;refine aI (d:=18) rfl rfl (aN (o':=2) dW rfl rfl rfl (aI (d:=18) rfl rfl (aR isAgg23 rfl (aK (hS.at_ 1 rfl) rfl) rfl (aI (d:=18) rfl rfl (cL underlying23 rfl rfl (aI (d:=18) rfl rfl (aN (o':=2) dW rfl rfl rfl (aI (d:=18) rfl rfl (aR isAgg23 rfl (aK (hS.at_ 0 rfl) rfl) rfl (aI (d:=18) rfl rfl (cL underlying23 rfl rfl (aI (d:=18) rfl rfl (dG rfl rfl rfl (bR rfl rfl rfl (aP (XF.thenN (bB rfl (fun hc=>?_) (fun hc=>?_))))))))))))))))))
   ·have hc26:=of_decide_eq_true hc;clear hc;refine aO (aQ (aB rfl rfl (aP (XF.thenN (bL (XF.thenR (XF.res (cI results30 rfl) ?_)))))));exact ⟨bG (by simp only [eqS];rw [decide_eq_false (show ¬ ps.length=qs.length by omega)];simp),hS.below⟩
   ·have hc26:=of_decide_eq_false hc;clear hc;refine bP (XF.thenN (aO (aO (aQ (aB rfl rfl (aP (XF.thenN (bX (eJ (fun q l W=>∃ i:Nat,i≤pl∧q=pl - i∧l=[(2,.pointer (some ⟨B1,0,none⟩)),(3,.pointer (some ⟨B2,0,none⟩)),(5,.int .i64 (i:Int))]∧((ps.zip qs).take i).all (fun x=>eqS k x.1 x.2)=true∧St w [(B2,[.int .i64 u,.int .i64 m,.slice qa ql qc],25),(B1,[.int .i64 t,.int .i64 n,.slice pa pl pc],25)] [] [] W) (pl - 0) ([(2,_),(3,_),(5,_)]) ⟨rfl,rfl,rfl,trivial⟩ (⟨0,Nat.zero_le _,rfl,rfl,rfl,hS.clear⟩) ?_)))))))));clear hS;rintro q l W ⟨i,hi,rfl,rfl,hall,hS⟩;refine aO (aO (aQ (aH rfl rfl (aN (o':=2) dW rfl rfl rfl (aR isAgg23 rfl (aK (hS.at_ 1 rfl) rfl) rfl (cL underlying23 rfl rfl (cT rfl rfl rfl (aP (XF.thenN (bB rfl (fun hc=>?_) (fun hc=>?_)))))))))))
    ·have hc31:=of_decide_eq_true hc;clear hc;have hk:i < pl:=by omega
     obtain ⟨p,hp⟩:∃ p,ps[i]?=some p:=⟨ps[i]'(by omega),List.getElem?_eq_getElem _⟩;obtain ⟨q,hq⟩:∃ q,qs[i]?=some q:=⟨qs[i]'(by omega),List.getElem?_eq_getElem _⟩;have hz:(ps.zip qs)[i]?=some (p,q):=List.getElem?_zip_eq_some.2 ⟨hp,hq⟩;obtain ⟨b,off,rfl,hb,h6⟩:=hrow.at_ hp;obtain ⟨b2,off2,rfl,hb2,h7⟩:=hrow2.at_ hq;have k1:=aC.agree hS.agree (Nat.zero_le _) h6.cells;have k2:=aC.agree hS.agree (Nat.zero_le _) h7.cells;refine bP (XF.thenN (aO (bX (aO (iX (m:=12) cC hS (by kernel_rfl) (by kernel_rfl) rfl (cE 1 rfl 2 rfl rfl (fun w hw=>aV (o':=2) dW rfl rfl) rfl (aZ 2 rfl 34 0 rfl rfl rfl (fun w hw=>bA isAgg23 rfl ((aL hw 0).cell (Nat.zero_le _) (aK (hS.at_ 1 rfl) rfl))) rfl (cE 3 rfl 5 rfl rfl (fun w hw=>aW rfl) rfl (aJ 4 rfl (isV _) (aE _) (rgV (li:=[(35,_),(36,_)]) rfl (aS rfl) ⟨aM 1 (aA rfl rfl rfl),aM 2 (aA rfl rfl rfl),trivial⟩ (fun w hw=>bE  underlying23 sizeOf25 rfl rfl rfl (by omega) rfl) (aF rfl)) (aZ 5 rfl 37 3 rfl rfl rfl (fun w hw=>aY (vs:=[_,_,_]) isAgg25 sizeOf25 rfl (aC.agree (aL hw 0) (Nat.zero_le _) (by assumption))) rfl (cE 6 rfl 3 rfl rfl (fun w hw=>aV (o':=2) dW rfl rfl) rfl (aZ 7 rfl 39 5 rfl rfl rfl (fun w hw=>bA isAgg23 rfl ((aL hw 0).cell (Nat.zero_le _) (aK (hS.at_ 0 rfl) rfl))) rfl (cE 8 rfl 5 rfl rfl (fun w hw=>aW rfl) rfl (aJ 9 rfl (isV _) (aE _) (rgV (li:=[(40,_),(41,_)]) rfl (aS rfl) ⟨aM 6 (aA rfl rfl rfl),aM 7 (aA rfl rfl rfl),trivial⟩ (fun w hw=>bE  underlying23 sizeOf25 rfl rfl rfl (by omega) rfl) (aF rfl)) (aZ 10 rfl 42 8 rfl rfl rfl (fun w hw=>aY (vs:=[_,_,_]) isAgg25 sizeOf25 rfl (aC.agree (aL hw 0) (Nat.zero_le _) (by assumption))) rfl ?_)))))))))))))));refine aJ 11 rfl (isV (.bool (eqS k p q))) (aE _) (cN [isV _,isV _] rfl N3 (aS rfl) ⟨bT (aM 4 (aA rfl rfl rfl)),bT (aM 9 (aA rfl rfl rfl)),trivial⟩ (fun vs w' hb hh=>by have e:=bW (us:=[_,_]) hh;subst e;exact (ih p q _ (SIn.below (hS.below.trans (hb.mono hS.below.size)) (hin p (List.mem_of_getElem? hp))) (SIn.below (hS.below.trans (hb.mono hS.below.size)) (hin2 q (List.mem_of_getElem? hq))) (hsm p (List.mem_of_getElem? hp))).mono fun e w2 h=>⟨_,h.1,rfl,h.2⟩) (aF rfl)) ?_;refine aZ 12 rfl 44 10 rfl rfl rfl (fun w hw=>jN rfl) rfl (dI ?_);intro W3 hbR;clear hS;intro hS;refine aG (aG (aG (aG (aG (aG (aG (aG (aG (aG (aG (aG (cM (XF.thenN (bB rfl (fun hc=>?_) (fun hc=>?_)))))))))))))))
     ·have hc45:=hc;clear hc;refine aO (aQ (aB rfl rfl (aP (XF.thenN (bL (XF.blkR (XF.thenR (XF.thenR (XF.blkR (XF.thenR (XF.res (cI results30 rfl) ?_)))))))))));exact ⟨bG (by simp only [eqS];rw [cW hz (by simpa using hc45)];simp),hS.below⟩
     ·have hc45:=hc;clear hc;refine bP (XF.blkN (XF.thenN (aQ (aH rfl rfl (cY rfl rfl (IntWalk.i64_in _ (by omega)) rfl (aB rfl rfl (aP ?_)))))));exact XF.round (pl - (i+1)) [(2,_),(3,_),(5,_)] (by omega) ⟨rfl,rfl,rfl,trivial⟩ ⟨i+1,by omega,rfl,rfl,eX hz hall (by simpa using hc45),hS.clear⟩
    ·have hc31:=of_decide_eq_false hc;clear hc;refine dT (XF.thenX (XF.thenX (XF.blkX (XF.thenN (aO (aQ (aB rfl rfl (aP (XF.thenN (bL (XF.res (cI results30 rfl) ?_)))))))))));rw [List.take_of_length_le (by rw [List.length_zip];omega)] at hall;exact ⟨bG (by simp only [eqS];rw [hall,decide_eq_true (show t=u by omega),decide_eq_true (show n=m by omega),decide_eq_true (show ps.length=qs.length by omega)];rfl),hS.below⟩
theorem L9 (k j:Nat) (pa qa:Option Addr) (pl ql pc qc:Nat) (ps qs:List SV) (w:World) (hps:ps.length=pl) (hqs:qs.length=ql) (hrow:yI w pa ps) (hrow2:yI w qa qs) (hin:∀ p∈ps,SIn w k p) (hin2:∀ p∈qs,SIn w k p) (hpl:pl≤9223372036854775807) (hsm:∀ p∈ps,mxS j p=true) (ih:∀ (p q:SV) (W:World),SIn W k p→SIn W k q→mxS j p=true→Calls prog 34 #[p.f.val,q.f.val] W fun e w'=>e = .returned (.bool (eqS k p q))∧Below W.heap.size W w') :
  Calls prog 63 #[.slice pa pl pc,.slice qa ql qc,.func (.func 34) #[] #[]] w (fun e w'=>e = .returned (.bool (decide (ps.length=qs.length) && (ps.zip qs).all fun x=>eqS k x.1 x.2))∧Below w.heap.size w w'):=by
 refine cG (args:=[.slice pa pl pc,.slice qa ql qc,.func (.func 34) #[] #[]]) func63 rfl ntmps63 rfl ?_;have hS:=St.start w;refine aO (aQ (aB rfl rfl (aP (XF.thenN (aO (aO (aQ (aH rfl rfl (cL underlying23 rfl rfl (aH rfl rfl (cL underlying23 rfl rfl (dG rfl rfl rfl (aP (XF.thenN (bB rfl (fun hc=>?_) (fun hc=>?_))))))))))))))))
 ·have hc14:=of_decide_eq_true hc;clear hc;refine aO (aQ (aB rfl rfl (aP (XF.thenN (bL (XF.thenR (XF.res (cI results63 rfl) ?_)))))));exact ⟨bG (by rw [decide_eq_false (show ¬ ps.length=qs.length by omega)];rfl),hS.below⟩
 ·have hc14:=of_decide_eq_false hc;clear hc;refine bP (XF.thenN (aO (aO (aQ (aH rfl rfl (cL underlying23 rfl rfl (aH rfl rfl (aP (XF.thenN (bX (eJ (fun q l W=>∃ i:Nat,i≤pl∧q=pl - i∧l=[(1,.slice qa ql qc),(2,.func (.func 34) #[] #[]),(15,.slice pa pl pc),(16,.int .i64 (pl:Int)),(17,.int .i64 (i:Int))]∧((ps.zip qs).take i).all (fun x=>eqS k x.1 x.2)=true∧St w [] [] [] W) (pl - 0) ([(1,_),(2,_),(15,_),(16,_),(17,_)]) ⟨rfl,rfl,rfl,rfl,rfl,trivial⟩ (⟨0,Nat.zero_le _,rfl,rfl,rfl,hS.clear⟩) ?_)))))))))));clear hS;rintro q l W ⟨i,hi,rfl,rfl,hall,hS⟩;refine aO (aQ (cT rfl rfl rfl (aP (XF.thenN (aO (bB rfl (fun hc=>?_) (fun hc=>?_)))))))
  ·have hc18:=of_decide_eq_true hc;clear hc;have hk:i < pl:=by omega
   obtain ⟨p,hp⟩:∃ p,ps[i]?=some p:=⟨ps[i]'(by omega),List.getElem?_eq_getElem _⟩;obtain ⟨q,hq⟩:∃ q,qs[i]?=some q:=⟨qs[i]'(by omega),List.getElem?_eq_getElem _⟩;have hz:(ps.zip qs)[i]?=some (p,q):=List.getElem?_zip_eq_some.2 ⟨hp,hq⟩;obtain ⟨b,off,rfl,hb,h6⟩:=hrow.at_ hp;obtain ⟨b2,off2,rfl,hb2,h7⟩:=hrow2.at_ hq;have k1:=aC.agree hS.agree (Nat.zero_le _) h6.cells;have k2:=aC.agree hS.agree (Nat.zero_le _) h7.cells;refine bP (XF.thenN (aO (bX (aO (aQ (aH rfl rfl (cK  underlying23 sizeOf25 rfl rfl rfl (by omega) rfl rfl (aT (vs:=[_,_,_]) isAgg25 sizeOf25 rfl (by assumption) rfl (bF (cs:=[_,_,_]) hS zeroValue25 rfl rfl fun B1 W1 hS=>aB rfl rfl (aU (i:=0) (vs:=[_,_,_]) (cs':=[_,_,_]) (O':=[_]) hS sizeOf25 rfl rfl rfl rfl rfl rfl rfl fun W2 hS=>aP (XF.thenN (aO ?_))))))))))));clear k2;have k2:=aC.agree hS.agree (Nat.zero_le _) h7.cells;refine aQ (aH rfl rfl (aH rfl rfl (cK  underlying23 sizeOf25 rfl rfl rfl (by omega) rfl rfl (aT (vs:=[_,_,_]) isAgg25 sizeOf25 rfl (by assumption) rfl (bF (cs:=[_,_,_]) hS zeroValue25 rfl rfl fun B3 W3 hS=>aU (i:=0) (vs:=[_,_,_]) (cs':=[_,_,_]) (O':=[_,_]) hS sizeOf25 rfl rfl rfl rfl rfl rfl rfl fun W4 hS=>aP (XF.thenN (aO (aQ (aH rfl rfl (aT (vs:=[_,_,_]) isAgg25 sizeOf25 rfl (aC.own (j:=0) (m:=3) (hS.at_ 1 rfl) rfl) rfl (aT (vs:=[_,_,_]) isAgg25 sizeOf25 rfl (aC.own (j:=0) (m:=3) (hS.at_ 0 rfl) rfl) rfl (Az (vs:=[_,_]) hS rfl Nz rfl (ih p q _ (SIn.below hS.below (hin p (List.mem_of_getElem? hp))) (SIn.below hS.below (hin2 q (List.mem_of_getElem? hq))) (hsm p (List.mem_of_getElem? hp))) rfl ?_))))))))))));rintro e W5 ⟨rfl,hb⟩;refine ⟨_,rfl,hb,?_⟩;clear hS;intro hS;clear hb;refine fB rfl rfl (aP (XF.thenN (bB rfl (fun hc=>?_) (fun hc=>?_))))
   ·have hc30:=hc;clear hc;refine aO (aQ (aB rfl rfl (aP (XF.thenN (bL (XF.blkR (XF.thenR (XF.thenR (XF.blkR (XF.thenR (XF.res (cI results63 rfl) ?_)))))))))));exact ⟨bG (by rw [cW hz (by simpa using hc30)];simp),hS.below⟩
   ·have hc30:=hc;clear hc;refine bP (XF.blkN (XF.thenN (aQ (cY rfl rfl (IntWalk.i64_in _ (by omega)) rfl (aH rfl rfl (aP ?_))))));exact XF.round (pl - (i+1)) [(1,_),(2,_),(15,_),(16,_),(17,_)] (by omega) ⟨rfl,rfl,rfl,rfl,rfl,trivial⟩ ⟨i+1,by omega,rfl,rfl,eX hz hall (by simpa using hc30),hS.tail.tail.clear⟩
  ·have hc18:=of_decide_eq_false hc;clear hc;refine dT (XF.thenX (XF.thenX (XF.blkX (XF.thenN (aO (aQ (aB rfl rfl (aP (XF.thenN (bL (XF.res (cI results63 rfl) ?_)))))))))));rw [List.take_of_length_le (by rw [List.length_zip];omega)] at hall;exact ⟨bG (by rw [hall,decide_eq_true (show ps.length=qs.length by omega)];rfl),hS.below⟩
theorem xE (k j:Nat) (t n u m:Int) (pa qa:Option Addr) (pl ql pc qc:Nat) (ps qs:List SV) (w:World) (hps:ps.length=pl) (hqs:qs.length=ql) (hrow:yI w pa ps) (hrow2:yI w qa qs) (hin:∀ p∈ps,SIn w k p) (hin2:∀ p∈qs,SIn w k p) (hpl:pl≤9223372036854775807) (hsm:∀ p∈ps,mxS j p=true) (ih:∀ (p q:SV) (W:World),SIn W k p→SIn W k q→mxS j p=true→Calls prog 34 #[p.f.val,q.f.val] W fun e w'=>e = .returned (.bool (eqS k p q))∧Below W.heap.size W w') :
  Calls prog 34 #[.agg #[.int .i64 t,.int .i64 n,.slice pa pl pc],.agg #[.int .i64 u,.int .i64 m,.slice qa ql qc]] w (fun e w'=>e = .returned (.bool (eqS (k+1) (.mk ⟨t,n,pa,pl,pc⟩ ps) (.mk ⟨u,m,qa,ql,qc⟩ qs)))∧Below w.heap.size w w'):=by
 refine cG (args:=[.agg #[.int .i64 t,.int .i64 n,.slice pa pl pc],.agg #[.int .i64 u,.int .i64 m,.slice qa ql qc]]) func34 rfl ntmps34 rfl ?_;have hS:=St.start w;refine aO (aQ (bY (cs:=[_,_,_]) hS rfl rfl rfl fun B1 W1 hS=>bY (cs:=[_,_,_]) hS rfl rfl rfl fun B2 W2 hS=>aB rfl rfl (aP (XF.thenN (aO (aQ (aN (o':=0) eS rfl rfl rfl (aR isAgg22 rfl (aK (hS.at_ 1 rfl) rfl) rfl (aN (o':=0) eS rfl rfl rfl (aR isAgg22 rfl (aK (hS.at_ 0 rfl) rfl) rfl (cR rfl rfl rfl (aH rfl rfl (cB (d:=10) rfl (fun hc=>?_) (fun hc=>?_))))))))))))))
 ·have hg10:=of_decide_eq_true hc;clear hc;refine aI (d:=10) rfl rfl (aN (o':=1) eU rfl rfl rfl (aI (d:=10) rfl rfl (aR isAgg3 rfl (aK (hS.at_ 1 rfl) rfl) rfl (aI (d:=10) rfl rfl (aN (o':=1) eU rfl rfl rfl (aI (d:=10) rfl rfl (aR isAgg3 rfl (aK (hS.at_ 0 rfl) rfl) rfl (aI (d:=10) rfl rfl (cR rfl rfl rfl (bC rfl rfl rfl (aH rfl rfl (cB (d:=17) rfl (fun hc=>?_) (fun hc=>?_)))))))))))))
  ·have hg17:=of_decide_eq_true hc;clear hc;refine aI (d:=17) rfl rfl (aN (o':=2) dW rfl rfl rfl (aI (d:=17) rfl rfl (aR isAgg23 rfl (aK (hS.at_ 1 rfl) rfl) rfl (aI (d:=17) rfl rfl (aN (o':=2) dW rfl rfl rfl (aI (d:=17) rfl rfl (aR isAgg23 rfl (aK (hS.at_ 0 rfl) rfl) rfl (aI (d:=17) rfl rfl (cH (vs:=[_,_,_]) hS goes_63 rfl (L9 k j pa qa pl ql pc qc ps qs _ hps hqs (hrow.below hS.below) (hrow2.below hS.below) (fun p hp=>SIn.below hS.below (hin p hp)) (fun p hp=>SIn.below hS.below (hin2 p hp)) hpl hsm ih) rfl fun W3 hS=>bC rfl rfl rfl (aB rfl rfl (aP (XF.thenN (bL (XF.res (cI results34 rfl) ?_))))))))))))));exact ⟨bG (by simp only [eqS];rw [decide_eq_true (show t=u by omega),decide_eq_true (show n=m by omega)];simp),hS.below⟩
  ·have hg17:=of_decide_eq_false hc;clear hc;refine aD (d:=17) rfl rfl rfl rfl (aD (d:=17) rfl rfl rfl rfl (aD (d:=17) rfl rfl rfl rfl (aD (d:=17) rfl rfl rfl rfl (aD (d:=17) rfl rfl rfl rfl (bR rfl rfl rfl (aB rfl rfl (aP (XF.thenN (bL (XF.res (cI results34 rfl) ?_))))))))));exact ⟨bG (by simp only [eqS];rw [decide_eq_false (show ¬ n=m by omega)];simp),hS.below⟩
 ·have hg10:=of_decide_eq_false hc;clear hc;refine aD (d:=10) rfl rfl rfl rfl (aD (d:=10) rfl rfl rfl rfl (aD (d:=10) rfl rfl rfl rfl (aD (d:=10) rfl rfl rfl rfl (aD (d:=10) rfl rfl rfl rfl (bR rfl rfl rfl (aH rfl rfl (aD (d:=17) rfl rfl rfl rfl (aD (d:=17) rfl rfl rfl rfl (aD (d:=17) rfl rfl rfl rfl (aD (d:=17) rfl rfl rfl rfl (aD (d:=17) rfl rfl rfl rfl (bR rfl rfl rfl (aB rfl rfl (aP (XF.thenN (bL (XF.res (cI results34 rfl) ?_)))))))))))))))));exact ⟨bG (by simp only [eqS];rw [decide_eq_false (show ¬ t=u by omega)];rfl),hS.below⟩
theorem xZ:∀ (k j:Nat) (s t:SV) (w:World),SIn w k s→SIn w k t→mxS j s=true→Calls prog 30 #[s.f.val,t.f.val] w fun e w'=>e = .returned (.bool (eqS k s t))∧Below w.heap.size w w'
 | 0,_,s,t,w,hs,ht,_=>hs.elim
 | k+1,0,s,t,w,hs,ht,h=>by simp [mxS] at h
 | k+1,j+1,.mk ⟨t,n,pa,pl,pc⟩ ps,.mk ⟨u,m,qa,ql,qc⟩ qs,w,hs,ht,h=>xD k j t n u m pa qa pl ql pc qc ps qs w hs.1 ht.1 hs.2.1 ht.2.1 hs.2.2 ht.2.2 (vH h).1 (vH h).2 (fun p q W hp hq hj=>xZ k j p q W hp hq hj)
theorem yA:∀ (k j:Nat) (s t:SV) (w:World),SIn w k s→SIn w k t→mxS j s=true→Calls prog 34 #[s.f.val,t.f.val] w fun e w'=>e = .returned (.bool (eqS k s t))∧Below w.heap.size w w'
 | 0,_,s,t,w,hs,ht,_=>hs.elim
 | k+1,0,s,t,w,hs,ht,h=>by simp [mxS] at h
 | k+1,j+1,.mk ⟨t,n,pa,pl,pc⟩ ps,.mk ⟨u,m,qa,ql,qc⟩ qs,w,hs,ht,h=>xE k j t n u m pa qa pl ql pc qc ps qs w hs.1 ht.1 hs.2.1 ht.2.1 hs.2.2 ht.2.2 (vH h).1 (vH h).2 (fun p q W hp hq hj=>yA k j p q W hp hq hj)
theorem mO {α:Type} {f:α→α→Bool}:∀ (l:List α),(∀ x∈l,f x x=true)→(l.zip l).all (fun x=>f x.1 x.2)=true
 | [],_=>rfl
 | a::l,h=>by rw [List.zip_cons_cons,List.all_cons,h a List.mem_cons_self,mO l fun x hx=>h x (List.mem_cons_of_mem _ hx)];rfl
theorem Iw {w:World}:∀ {k:Nat} {s:SV},SIn w k s→eqS k s s=true
 | 0,_,h=>h.elim
 | k+1,.mk f ps,h=>by simp only [eqS];rw [mO ps (fun x hx=>Iw (h.2.2 x hx))];simp
def eqW:Nat→WV→WV→Bool
 | 0,_,_=>false
 | k+1,.mk f ps,.mk g qs=>decide (f.z=g.z∧f.c=g.c∧f.g=g.g∧f.rows=g.rows) && (xS f.cells g.cells && (decide (ps.length=qs.length) && (ps.zip qs).all fun x=>eqW k x.1 x.2))
theorem A3 {r b:Bool} {p:Prop} (hr:r=true↔p) (h:p↔b=true):b=r:=by cases r<;>cases b<;>simp_all
theorem smN_succ {j:Nat} {f:WF} {ps:List WV} (h:smN (j+1) (.mk f ps)=true):f.rl≤70∧f.cl≤70∧f.pl≤3∧∀ p∈ps,smN j p=true:=by simp only [smN,Bool.and_eq_true,decide_eq_true_eq,List.all_eq_true] at h;exact h
def mxN:Nat→WV→Bool
 | 0,_=>false
 | k+1,.mk f ps=>decide (f.rl≤9223372036854775807) && (decide (f.cl≤9223372036854775807) && (decide (f.pl≤9223372036854775807) && ps.all (mxN k)))
theorem vI {j:Nat} {f:WF} {ps:List WV} (h:mxN (j+1) (.mk f ps)=true):f.rl≤9223372036854775807∧f.cl≤9223372036854775807∧f.pl≤9223372036854775807∧∀ p∈ps,mxN j p=true:=by simp only [mxN,Bool.and_eq_true,decide_eq_true_eq,List.all_eq_true] at h;exact h
theorem pW:∀ {j:Nat} {s:WV},smN j s=true→mxN j s=true
 | 0,_,h=>by simp [smN] at h
 | j+1,.mk f ps,h=>by simp only [smN,mxN,Bool.and_eq_true,decide_eq_true_eq,List.all_eq_true] at h ⊢;exact ⟨Nat.le_trans h.1 (by decide),Nat.le_trans h.2.1 (by decide),Nat.le_trans h.2.2.1 (by decide),fun p hp=>pW (h.2.2.2 p hp)⟩
theorem Ge (k j:Nat) (az:Bool) (ac:Int) (ag:Nat) (ara:Option Addr) (arl arc:Nat) (arows:List Nat) (aca:Option Addr) (acl acc:Nat) (acells:List Cl) (apa:Option Addr) (apl apc:Nat)(bz:Bool) (bc:Int) (bg:Nat) (bra:Option Addr) (brl brc:Nat) (brows:List Nat) (bca:Option Addr) (bcl bcc:Nat) (bcells:List Cl) (bpa:Option Addr) (bpl bpc:Nat)(ps qs:List WV) (w:World) (hra:fL w ara (u64s arows)) (hla:arows.length=arl) (hma:arl≤9223372036854775807) (hca:fA w aca acells) (hka:acells.length=acl) (hna:acl≤9223372036854775807)(hrb:fL w bra (u64s brows)) (hlb:brows.length=brl) (hmb:brl≤9223372036854775807) (hcb:fA w bca bcells) (hkb:bcells.length=bcl) (hnb:bcl≤9223372036854775807)(hps:ps.length=apl) (hqs:qs.length=bpl) (hrow:yJ w apa ps) (hrow2:yJ w bpa qs) (hin:∀ p∈ps,WIn w k p) (hin2:∀ p∈qs,WIn w k p) (hpl:apl≤9223372036854775807) (hsm:∀ p∈ps,mxN j p=true) (hsm2:∀ p∈qs,mxN j p=true) (ih:∀ (p q:WV) (W:World),WIn W k p→WIn W k q→mxN j p=true→mxN j q=true→Calls prog 31 #[p.f.val,q.f.val] W fun e w'=>e = .returned (.bool (eqW k p q))∧Below W.heap.size W w') (r:Bool) (hr:r=true↔(az=bz∧ac=bc∧ag=bg∧arows=brows∧acells=bcells∧(decide (ps.length=qs.length) && (ps.zip qs).all fun x=>eqW k x.1 x.2)=true)) :
  Calls prog 31 #[.agg #[.bool az,.int .i64 ac,.int .u64 (ag:Int),.slice ara arl arc,.slice aca acl acc,.slice apa apl apc],.agg #[.bool bz,.int .i64 bc,.int .u64 (bg:Int),.slice bra brl brc,.slice bca bcl bcc,.slice bpa bpl bpc]] w (fun e w'=>e = .returned (.bool r)∧Below w.heap.size w w'):=by
 refine cG (args:=[.agg #[.bool az,.int .i64 ac,.int .u64 (ag:Int),.slice ara arl arc,.slice aca acl acc,.slice apa apl apc],.agg #[.bool bz,.int .i64 bc,.int .u64 (bg:Int),.slice bra brl brc,.slice bca bcl bcc,.slice bpa bpl bpc]]) func31 rfl ntmps31 rfl ?_;have hS:=St.start w;refine aO (aQ (bY (cs:=[_,_,_,_,_,_]) hS rfl rfl rfl fun B1 W1 hS=>bY (cs:=[_,_,_,_,_,_]) hS rfl rfl rfl fun B2 W2 hS=>aB rfl rfl (aP (XF.thenN (aO (aO (aQ (aN (o':=0) eF rfl rfl rfl (aR isAgg4 rfl (aK (hS.at_ 1 rfl) rfl) rfl (aN (o':=0) eF rfl rfl rfl (aR isAgg4 rfl (aK (hS.at_ 0 rfl) rfl) rfl (op_neqB underlying4 rfl rfl rfl (aH rfl rfl (cB (d:=12) rfl (fun hc=>?_) (fun hc=>?_)))))))))))))))
 ·have hg12:=hc;clear hc;refine aD (d:=12) rfl rfl rfl rfl (aD (d:=12) rfl rfl rfl rfl (aD (d:=12) rfl rfl rfl rfl (aD (d:=12) rfl rfl rfl rfl (aD (d:=12) rfl rfl rfl rfl (bC rfl rfl rfl (aH rfl rfl (aD (d:=19) rfl rfl rfl rfl (aD (d:=19) rfl rfl rfl rfl (aD (d:=19) rfl rfl rfl rfl (aD (d:=19) rfl rfl rfl rfl (aD (d:=19) rfl rfl rfl rfl (aD (d:=19) rfl rfl rfl rfl (bC rfl rfl rfl (aH rfl rfl (aD (d:=27) rfl rfl rfl rfl (aD (d:=27) rfl rfl rfl rfl (aD (d:=27) rfl rfl rfl rfl (aD (d:=27) rfl rfl rfl rfl (aD (d:=27) rfl rfl rfl rfl (aD (d:=27) rfl rfl rfl rfl (aD (d:=27) rfl rfl rfl rfl (bC rfl rfl rfl (aH rfl rfl (aD (d:=36) rfl rfl rfl rfl (aD (d:=36) rfl rfl rfl rfl (aD (d:=36) rfl rfl rfl rfl (aD (d:=36) rfl rfl rfl rfl (aD (d:=36) rfl rfl rfl rfl (aD (d:=36) rfl rfl rfl rfl (aD (d:=36) rfl rfl rfl rfl (bC rfl rfl rfl (aP (XF.thenN ?_)))))))))))))))))))))))))))))))));refine fD rfl (aO (aQ (aB rfl rfl (aP (XF.thenN (bL (XF.thenR (XF.res (cI results31 rfl) ?_))))))));exact ⟨bG (kS hr (fun h=>by have h1:=h.1;subst h1;simp at hg12)),hS.below⟩
 ·have hg12:=hc;clear hc;refine aI (d:=12) rfl rfl (aN (o':=1) fQ rfl rfl rfl (aI (d:=12) rfl rfl (aR isAgg3 rfl (aK (hS.at_ 1 rfl) rfl) rfl (aI (d:=12) rfl rfl (aN (o':=1) fQ rfl rfl rfl (aI (d:=12) rfl rfl (aR isAgg3 rfl (aK (hS.at_ 0 rfl) rfl) rfl (aI (d:=12) rfl rfl (dG rfl rfl rfl (bR rfl rfl rfl (aH rfl rfl (cB (d:=19) rfl (fun hc=>?_) (fun hc=>?_)))))))))))))
  ·have hg19:=of_decide_eq_true hc;clear hc;refine aD (d:=19) rfl rfl rfl rfl (aD (d:=19) rfl rfl rfl rfl (aD (d:=19) rfl rfl rfl rfl (aD (d:=19) rfl rfl rfl rfl (aD (d:=19) rfl rfl rfl rfl (aD (d:=19) rfl rfl rfl rfl (bC rfl rfl rfl (aH rfl rfl (aD (d:=27) rfl rfl rfl rfl (aD (d:=27) rfl rfl rfl rfl (aD (d:=27) rfl rfl rfl rfl (aD (d:=27) rfl rfl rfl rfl (aD (d:=27) rfl rfl rfl rfl (aD (d:=27) rfl rfl rfl rfl (aD (d:=27) rfl rfl rfl rfl (bC rfl rfl rfl (aH rfl rfl (aD (d:=36) rfl rfl rfl rfl (aD (d:=36) rfl rfl rfl rfl (aD (d:=36) rfl rfl rfl rfl (aD (d:=36) rfl rfl rfl rfl (aD (d:=36) rfl rfl rfl rfl (aD (d:=36) rfl rfl rfl rfl (aD (d:=36) rfl rfl rfl rfl (bC rfl rfl rfl (aP (XF.thenN (fD rfl (aO (aQ (aB rfl rfl (aP (XF.thenN (bL (XF.thenR (XF.res (cI results31 rfl) ?_)))))))))))))))))))))))))))))))))));exact ⟨bG (kS hr (fun h=>hg19 h.2.1)),hS.below⟩
  ·have hg19:=of_decide_eq_false hc;clear hc;refine aI (d:=19) rfl rfl (aN (o':=2) fR rfl rfl rfl (aI (d:=19) rfl rfl (aT (vs:=[_,_]) isAgg42 sizeOf42 rfl (aC.own (j:=2) (m:=2) (hS.at_ 1 rfl) rfl) rfl (aI (d:=19) rfl rfl (aN (o':=2) fR rfl rfl rfl (aI (d:=19) rfl rfl (aT (vs:=[_,_]) isAgg42 sizeOf42 rfl (aC.own (j:=2) (m:=2) (hS.at_ 0 rfl) rfl) rfl (aI (d:=19) rfl rfl (cH (vs:=[_,_]) hS goes_59 rfl (C3 _ _ _ _ _ _ _ _ _ (by omega) (by omega) (fL.below hra hS.below) (fL.below hrb hS.below) _ rfl _ _ hla hlb) rfl fun W3 hS=>aI (d:=19) rfl rfl (fB rfl rfl (bR rfl rfl rfl (aH rfl rfl (cB (d:=27) rfl (fun hc=>?_) (fun hc=>?_))))))))))))))
   ·have hg27:=hc;clear hc;refine aD (d:=27) rfl rfl rfl rfl (aD (d:=27) rfl rfl rfl rfl (aD (d:=27) rfl rfl rfl rfl (aD (d:=27) rfl rfl rfl rfl (aD (d:=27) rfl rfl rfl rfl (aD (d:=27) rfl rfl rfl rfl (aD (d:=27) rfl rfl rfl rfl (bC rfl rfl rfl (aH rfl rfl (aD (d:=36) rfl rfl rfl rfl (aD (d:=36) rfl rfl rfl rfl (aD (d:=36) rfl rfl rfl rfl (aD (d:=36) rfl rfl rfl rfl (aD (d:=36) rfl rfl rfl rfl (aD (d:=36) rfl rfl rfl rfl (aD (d:=36) rfl rfl rfl rfl (bC rfl rfl rfl (aP (XF.thenN (fD rfl (aO (aQ (aB rfl rfl (aP (XF.thenN (bL (XF.thenR (XF.res (cI results31 rfl) ?_)))))))))))))))))))))))))));exact ⟨bG (kS hr (fun h=>by obtain ⟨_,_,h3,h4,_⟩:=h;subst h3;subst h4;rw [C7] at hg27;cases hg27)),hS.below⟩
   ·have hg27:=hc;clear hc;refine aI (d:=27) rfl rfl (aN (o':=4) eG rfl rfl rfl (aI (d:=27) rfl rfl (aR isAgg43 rfl (aK (hS.at_ 1 rfl) rfl) rfl (aI (d:=27) rfl rfl (cL underlying43 rfl rfl (aI (d:=27) rfl rfl (aN (o':=4) eG rfl rfl rfl (aI (d:=27) rfl rfl (aR isAgg43 rfl (aK (hS.at_ 0 rfl) rfl) rfl (aI (d:=27) rfl rfl (cL underlying43 rfl rfl (aI (d:=27) rfl rfl (dG rfl rfl rfl (bR rfl rfl rfl (aH rfl rfl (cB (d:=36) rfl (fun hc=>?_) (fun hc=>?_)))))))))))))))))
    ·have hg36:=of_decide_eq_true hc;clear hc;refine aD (d:=36) rfl rfl rfl rfl (aD (d:=36) rfl rfl rfl rfl (aD (d:=36) rfl rfl rfl rfl (aD (d:=36) rfl rfl rfl rfl (aD (d:=36) rfl rfl rfl rfl (aD (d:=36) rfl rfl rfl rfl (aD (d:=36) rfl rfl rfl rfl (bC rfl rfl rfl (aP (XF.thenN (fD rfl (aO (aQ (aB rfl rfl (aP (XF.thenN (bL (XF.thenR (XF.res (cI results31 rfl) ?_))))))))))))))))));exact ⟨bG (kS hr (fun h=>by have h5:=h.2.2.2.2.1;subst h5;omega)),hS.below⟩
    ·have hg36:=of_decide_eq_false hc;clear hc;have hz:az=bz:=by simpa using hg12
     have hcc:ac=bc:=by omega
     have hff:ag=bg∧arows=brows:=by simpa [oN] using hg27
     have hcl:acl=bcl:=by omega
     refine aI (d:=36) rfl rfl (aN (o':=5) dH rfl rfl rfl (aI (d:=36) rfl rfl (aR isAgg44 rfl (aK (hS.at_ 1 rfl) rfl) rfl (aI (d:=36) rfl rfl (cL underlying44 rfl rfl (aI (d:=36) rfl rfl (aN (o':=5) dH rfl rfl rfl (aI (d:=36) rfl rfl (aR isAgg44 rfl (aK (hS.at_ 0 rfl) rfl) rfl (aI (d:=36) rfl rfl (cL underlying44 rfl rfl (aI (d:=36) rfl rfl (dG rfl rfl rfl (bR rfl rfl rfl (aP (XF.thenN (bB rfl (fun hc=>?_) (fun hc=>?_))))))))))))))))))
     ·have hc44:=of_decide_eq_true hc;clear hc;refine aO (aQ (aB rfl rfl (aP (XF.thenN (bL (XF.thenR (XF.res (cI results31 rfl) ?_)))))));exact ⟨bG (kS hr (fun h=>by have h6:=h.2.2.2.2.2;rw [decide_eq_false (show ¬ ps.length=qs.length by omega)] at h6;cases h6)),hS.below⟩
     ·have hc44:=of_decide_eq_false hc;clear hc;refine bP (XF.thenN (aO (aO (aQ (aB rfl rfl (aP (XF.thenN (bX (eJ (fun q l W=>∃ i:Nat,i≤acl∧q=acl - i∧l=[(2,.pointer (some ⟨B1,0,none⟩)),(3,.pointer (some ⟨B2,0,none⟩)),(5,.int .i64 (i:Int))]∧acells.take i=bcells.take i∧St w [(B2,[.bool bz,.int .i64 bc,.int .u64 (bg:Int),.slice bra brl brc,.slice bca bcl bcc,.slice bpa bpl bpc],46),(B1,[.bool az,.int .i64 ac,.int .u64 (ag:Int),.slice ara arl arc,.slice aca acl acc,.slice apa apl apc],46)] [] [] W) (acl - 0) ([(2,_),(3,_),(5,_)]) ⟨rfl,rfl,rfl,trivial⟩ (⟨0,Nat.zero_le _,rfl,rfl,rfl,hS.clear⟩) ?_)))))))));clear hS;rintro q l W ⟨i,hi,rfl,rfl,hall,hS⟩;refine aO (aO (aQ (aH rfl rfl (aN (o':=4) eG rfl rfl rfl (aR isAgg43 rfl (aK (hS.at_ 1 rfl) rfl) rfl (cL underlying43 rfl rfl (cT rfl rfl rfl (aP (XF.thenN (bB rfl (fun hc=>?_) (fun hc=>?_)))))))))))
      ·have hc49:=of_decide_eq_true hc;clear hc;have hk:i < acl:=by omega
       obtain ⟨b1,o1,x,hx1,hx2,_,x0,x1,x2⟩:=hca.at_ (k:=i) (by omega);obtain ⟨b2,o2,y,hy1,hy2,_,y0,y1,y2⟩:=hcb.at_ (k:=i) (by omega);subst hx1;subst hy1;have k1:aC W b1 (o1+i * 3) [.int .u64 (x.f:Int),.int .i64 x.k,.int .i64 x.v]:=aC.agree hS.agree (Nat.zero_le _) ⟨x0,x1,x2,trivial⟩;have k2:aC W b2 (o2+i * 3) [.int .u64 (y.f:Int),.int .i64 y.k,.int .i64 y.v]:=aC.agree hS.agree (Nat.zero_le _) ⟨y0,y1,y2,trivial⟩;refine bP (XF.thenN (aO (bX (aO (iX (m:=11) cC hS (by kernel_rfl) (by kernel_rfl) rfl (cE 1 rfl 2 rfl rfl (fun w hw=>aV (o':=4) eG rfl rfl) rfl (aZ 2 rfl 52 0 rfl rfl rfl (fun w hw=>bA isAgg43 rfl ((aL hw 0).cell (Nat.zero_le _) (aK (hS.at_ 1 rfl) rfl))) rfl (cE 3 rfl 5 rfl rfl (fun w hw=>aW rfl) rfl (aJ 4 rfl (isV _) (aE _) (rgV (li:=[(53,_),(54,_)]) rfl (aS rfl) ⟨aM 1 (aA rfl rfl rfl),aM 2 (aA rfl rfl rfl),trivial⟩ (fun w hw=>bE  underlying43 sizeOf96 rfl rfl rfl (by omega) rfl) (aF rfl)) (aZ 5 rfl 55 3 rfl rfl rfl (fun w hw=>aY (vs:=[_,_,_]) isAgg96 sizeOf96 rfl (aC.agree (aL hw 0) (Nat.zero_le _) (by assumption))) rfl (cE 6 rfl 3 rfl rfl (fun w hw=>aV (o':=4) eG rfl rfl) rfl (aZ 7 rfl 57 5 rfl rfl rfl (fun w hw=>bA isAgg43 rfl ((aL hw 0).cell (Nat.zero_le _) (aK (hS.at_ 0 rfl) rfl))) rfl (cE 8 rfl 5 rfl rfl (fun w hw=>aW rfl) rfl (aJ 9 rfl (isV _) (aE _) (rgV (li:=[(58,_),(59,_)]) rfl (aS rfl) ⟨aM 6 (aA rfl rfl rfl),aM 7 (aA rfl rfl rfl),trivial⟩ (fun w hw=>bE  underlying43 sizeOf96 rfl rfl rfl (by omega) rfl) (aF rfl)) (aZ 10 rfl 60 8 rfl rfl rfl (fun w hw=>aY (vs:=[_,_,_]) isAgg96 sizeOf96 rfl (aC.agree (aL hw 0) (Nat.zero_le _) (by assumption))) rfl (aJ 11 rfl (isV _) (aE _) (rgV (li:=[(56,_),(61,_)]) rfl (aS rfl) ⟨aM 4 (aA rfl rfl rfl),aM 9 (aA rfl rfl rfl),trivial⟩ (fun w hw=>rn_binG rfl rfl (run_eqGuard_agg _ _ _ _ _ _ _ (by kernel_rfl)) (Lc x y _ rfl w)) (aF rfl)) (dI ?_)))))))))))))))));intro W4 hbR;clear hS;intro hS;refine aG (aG (aG (aG (aG (aG (aG (aG (aG (aG (aG (cM (XF.thenN (bB rfl (fun hc=>?_) (fun hc=>?_))))))))))))))
       ·have hc62:=hc;clear hc;refine aO (aQ (aB rfl rfl (aP (XF.thenN (bL (XF.blkR (XF.thenR (XF.thenR (XF.blkR (XF.thenR (XF.res (cI results31 rfl) ?_)))))))))));exact ⟨bG (kS hr (fun h=>by have h5:=h.2.2.2.2.1;subst h5;rw [hx2] at hy2;cases hy2;simp [lE] at hc62)),hS.below⟩
       ·have hc62:=hc;clear hc;have hxy:x=y:=by obtain ⟨xf,xk,xv⟩:=x;obtain ⟨yf,yk,yv⟩:=y;simp [lE] at hc62;simp [hc62]
        subst hxy;refine bP (XF.blkN (XF.thenN (aQ (aH rfl rfl (cY rfl rfl (IntWalk.i64_in _ (by omega)) rfl (aB rfl rfl (aP ?_)))))));exact XF.round (acl - (i+1)) [(2,_),(3,_),(5,_)] (by omega) ⟨rfl,rfl,rfl,trivial⟩ ⟨i+1,by omega,rfl,rfl,by rw [List.take_add_one,List.take_add_one,hx2,hy2,hall],hS.clear⟩
      ·have hc49:=of_decide_eq_false hc;clear hc;have hce:acells=bcells:=by rw [List.take_of_length_le (by omega),List.take_of_length_le (by omega)] at hall;exact hall
       refine dT (XF.thenX (XF.thenX (XF.blkX (XF.thenN (aO (aO (aQ (aB rfl rfl (aP (XF.thenN (bX (eJ (fun q l W=>∃ i:Nat,i≤apl∧q=apl - i∧l=[(2,.pointer (some ⟨B1,0,none⟩)),(3,.pointer (some ⟨B2,0,none⟩)),(6,.int .i64 (i:Int))]∧((ps.zip qs).take i).all (fun x=>eqW k x.1 x.2)=true∧St w [(B2,[.bool bz,.int .i64 bc,.int .u64 (bg:Int),.slice bra brl brc,.slice bca bcl bcc,.slice bpa bpl bpc],46),(B1,[.bool az,.int .i64 ac,.int .u64 (ag:Int),.slice ara arl arc,.slice aca acl acc,.slice apa apl apc],46)] [] [] W) (apl - 0) ([(2,_),(3,_),(6,_)]) ⟨rfl,rfl,rfl,trivial⟩ (⟨0,Nat.zero_le _,rfl,rfl,rfl,hS.clear⟩) ?_))))))))))));clear hS;rintro q l W ⟨i,hi,rfl,rfl,hall2,hS⟩;refine aO (aO (aQ (aH rfl rfl (aN (o':=5) dH rfl rfl rfl (aR isAgg44 rfl (aK (hS.at_ 1 rfl) rfl) rfl (cL underlying44 rfl rfl (cT rfl rfl rfl (aP (XF.thenN (bB rfl (fun hc=>?_) (fun hc=>?_)))))))))))
       ·have hc67:=of_decide_eq_true hc;clear hc;have hk:i < apl:=by omega
        obtain ⟨p,hp⟩:∃ p,ps[i]?=some p:=⟨ps[i]'(by omega),List.getElem?_eq_getElem _⟩;obtain ⟨q,hq⟩:∃ q,qs[i]?=some q:=⟨qs[i]'(by omega),List.getElem?_eq_getElem _⟩;have hzp:(ps.zip qs)[i]?=some (p,q):=List.getElem?_zip_eq_some.2 ⟨hp,hq⟩;obtain ⟨b,off,rfl,hb,h6⟩:=hrow.at_ hp;obtain ⟨b2,off2,rfl,hb2,h7⟩:=hrow2.at_ hq;have k1:=aC.agree hS.agree (Nat.zero_le _) h6.cells;have k2:=aC.agree hS.agree (Nat.zero_le _) h7.cells;refine bP (XF.thenN (aO (bX (aO (iX (m:=12) cC hS (by kernel_rfl) (by kernel_rfl) rfl (cE 1 rfl 2 rfl rfl (fun w hw=>aV (o':=5) dH rfl rfl) rfl (aZ 2 rfl 70 0 rfl rfl rfl (fun w hw=>bA isAgg44 rfl ((aL hw 0).cell (Nat.zero_le _) (aK (hS.at_ 1 rfl) rfl))) rfl (cE 3 rfl 6 rfl rfl (fun w hw=>aW rfl) rfl (aJ 4 rfl (isV _) (aE _) (rgV (li:=[(71,_),(72,_)]) rfl (aS rfl) ⟨aM 1 (aA rfl rfl rfl),aM 2 (aA rfl rfl rfl),trivial⟩ (fun w hw=>bE  underlying44 sizeOf46 rfl rfl rfl (by omega) rfl) (aF rfl)) (aZ 5 rfl 73 3 rfl rfl rfl (fun w hw=>aY (vs:=[_,_,_,_,_,_]) isAgg46 sizeOf46 rfl (aC.agree (aL hw 0) (Nat.zero_le _) (by assumption))) rfl (cE 6 rfl 3 rfl rfl (fun w hw=>aV (o':=5) dH rfl rfl) rfl (aZ 7 rfl 75 5 rfl rfl rfl (fun w hw=>bA isAgg44 rfl ((aL hw 0).cell (Nat.zero_le _) (aK (hS.at_ 0 rfl) rfl))) rfl (cE 8 rfl 6 rfl rfl (fun w hw=>aW rfl) rfl (aJ 9 rfl (isV _) (aE _) (rgV (li:=[(76,_),(77,_)]) rfl (aS rfl) ⟨aM 6 (aA rfl rfl rfl),aM 7 (aA rfl rfl rfl),trivial⟩ (fun w hw=>bE  underlying44 sizeOf46 rfl rfl rfl (by omega) rfl) (aF rfl)) (aZ 10 rfl 78 8 rfl rfl rfl (fun w hw=>aY (vs:=[_,_,_,_,_,_]) isAgg46 sizeOf46 rfl (aC.agree (aL hw 0) (Nat.zero_le _) (by assumption))) rfl ?_)))))))))))))));refine aJ 11 rfl (isV (.bool (eqW k p q))) (aE _) (cN [isV _,isV _] rfl Fy (aS rfl) ⟨bT (aM 4 (aA rfl rfl rfl)),bT (aM 9 (aA rfl rfl rfl)),trivial⟩ (fun vs w' hb hh=>by have e:=bW (us:=[_,_]) hh;subst e;exact (ih p q _ (WIn.below (hS.below.trans (hb.mono hS.below.size)) (hin p (List.mem_of_getElem? hp))) (WIn.below (hS.below.trans (hb.mono hS.below.size)) (hin2 q (List.mem_of_getElem? hq))) (hsm p (List.mem_of_getElem? hp)) (hsm2 q (List.mem_of_getElem? hq))).mono fun e w2 h=>⟨_,h.1,rfl,h.2⟩) (aF rfl)) ?_;refine aZ 12 rfl 80 10 rfl rfl rfl (fun w hw=>jN rfl) rfl (dI ?_);intro W5 hbR;clear hS;intro hS;refine aG (aG (aG (aG (aG (aG (aG (aG (aG (aG (aG (aG (cM (XF.thenN (bB rfl (fun hc=>?_) (fun hc=>?_)))))))))))))))
        ·have hc81:=hc;clear hc;refine aO (aQ (aB rfl rfl (aP (XF.thenN (bL (XF.blkR (XF.thenR (XF.thenR (XF.blkR (XF.thenR (XF.res (cI results31 rfl) ?_)))))))))));exact ⟨bG (kS hr (fun h=>by have h6:=h.2.2.2.2.2;rw [cW hzp (by simpa using hc81)] at h6;simp at h6)),hS.below⟩
        ·have hc81:=hc;clear hc;refine bP (XF.blkN (XF.thenN (aQ (aH rfl rfl (cY rfl rfl (IntWalk.i64_in _ (by omega)) rfl (aB rfl rfl (aP ?_)))))));exact XF.round (apl - (i+1)) [(2,_),(3,_),(6,_)] (by omega) ⟨rfl,rfl,rfl,trivial⟩ ⟨i+1,by omega,rfl,rfl,eX hzp hall2 (by simpa using hc81),hS.clear⟩
       ·have hc67:=of_decide_eq_false hc;clear hc;refine dT (XF.thenX (XF.thenX (XF.blkX (XF.thenN (aO (aQ (aB rfl rfl (aP (XF.thenN (bL (XF.res (cI results31 rfl) ?_)))))))))));rw [List.take_of_length_le (by rw [List.length_zip];omega)] at hall2;exact ⟨bG (r_true hr ⟨hz,hcc,hff.1,hff.2,hce,by rw [hall2,decide_eq_true (show ps.length=qs.length by omega)];rfl⟩),hS.below⟩
theorem Ma (k j:Nat) (apa bpa:Option Addr) (apl bpl apc bpc:Nat) (ps qs:List WV) (w:World) (hps:ps.length=apl) (hqs:qs.length=bpl) (hrow:yJ w apa ps) (hrow2:yJ w bpa qs) (hin:∀ p∈ps,WIn w k p) (hin2:∀ p∈qs,WIn w k p) (hpl:apl≤9223372036854775807) (hsm:∀ p∈ps,mxN j p=true) (hsm2:∀ p∈qs,mxN j p=true) (ih:∀ (p q:WV) (W:World),WIn W k p→WIn W k q→mxN j p=true→mxN j q=true→Calls prog 33 #[p.f.val,q.f.val] W fun e w'=>e = .returned (.bool (eqW k p q))∧Below W.heap.size W w') :
  Calls prog 62 #[.slice apa apl apc,.slice bpa bpl bpc,.func (.func 33) #[] #[]] w (fun e w'=>e = .returned (.bool (decide (ps.length=qs.length) && (ps.zip qs).all fun x=>eqW k x.1 x.2))∧Below w.heap.size w w'):=by
 refine cG (args:=[.slice apa apl apc,.slice bpa bpl bpc,.func (.func 33) #[] #[]]) func62 rfl ntmps62 rfl ?_;have hS:=St.start w;refine aO (aQ (aB rfl rfl (aP (XF.thenN (aO (aO (aQ (aH rfl rfl (cL underlying44 rfl rfl (aH rfl rfl (cL underlying44 rfl rfl (dG rfl rfl rfl (aP (XF.thenN (bB rfl (fun hc=>?_) (fun hc=>?_))))))))))))))))
 ·have hc14:=of_decide_eq_true hc;clear hc;refine aO (aQ (aB rfl rfl (aP (XF.thenN (bL (XF.thenR (XF.res (cI results62 rfl) ?_)))))));exact ⟨bG (by rw [decide_eq_false (show ¬ ps.length=qs.length by omega)];rfl),hS.below⟩
 ·have hc14:=of_decide_eq_false hc;clear hc;refine bP (XF.thenN (aO (aO (aQ (aH rfl rfl (cL underlying44 rfl rfl (aH rfl rfl (aP (XF.thenN (bX (eJ (fun q l W=>∃ i:Nat,i≤apl∧q=apl - i∧l=[(1,.slice bpa bpl bpc),(2,.func (.func 33) #[] #[]),(15,.slice apa apl apc),(16,.int .i64 (apl:Int)),(17,.int .i64 (i:Int))]∧((ps.zip qs).take i).all (fun x=>eqW k x.1 x.2)=true∧St w [] [] [] W) (apl - 0) ([(1,_),(2,_),(15,_),(16,_),(17,_)]) ⟨rfl,rfl,rfl,rfl,rfl,trivial⟩ (⟨0,Nat.zero_le _,rfl,rfl,rfl,hS.clear⟩) ?_)))))))))));clear hS;rintro q l W ⟨i,hi,rfl,rfl,hall,hS⟩;refine aO (aQ (cT rfl rfl rfl (aP (XF.thenN (aO (bB rfl (fun hc=>?_) (fun hc=>?_)))))))
  ·have hc18:=of_decide_eq_true hc;clear hc;have hk:i < apl:=by omega
   obtain ⟨p,hp⟩:∃ p,ps[i]?=some p:=⟨ps[i]'(by omega),List.getElem?_eq_getElem _⟩;obtain ⟨q,hq⟩:∃ q,qs[i]?=some q:=⟨qs[i]'(by omega),List.getElem?_eq_getElem _⟩;have hzp:(ps.zip qs)[i]?=some (p,q):=List.getElem?_zip_eq_some.2 ⟨hp,hq⟩;obtain ⟨b,off,rfl,hb,h6⟩:=hrow.at_ hp;obtain ⟨b2,off2,rfl,hb2,h7⟩:=hrow2.at_ hq;have k1:=aC.agree hS.agree (Nat.zero_le _) h6.cells;have k2:=aC.agree hS.agree (Nat.zero_le _) h7.cells;refine bP (XF.thenN (aO (bX (aO (aQ (aH rfl rfl (cK  underlying44 sizeOf46 rfl rfl rfl (by omega) rfl rfl (aT (vs:=[_,_,_,_,_,_]) isAgg46 sizeOf46 rfl (by assumption) rfl (bF (cs:=[_,_,_,_,_,_]) hS zeroValue46 rfl rfl fun B1 W1 hS=>aB rfl rfl (aU (i:=0) (vs:=[_,_,_,_,_,_]) (cs':=[_,_,_,_,_,_]) (O':=[_]) hS sizeOf46 rfl rfl rfl rfl rfl rfl rfl fun W2 hS=>aP (XF.thenN (aO ?_))))))))))));clear k2;have k2:=aC.agree hS.agree (Nat.zero_le _) h7.cells;refine aQ (aH rfl rfl (aH rfl rfl (cK  underlying44 sizeOf46 rfl rfl rfl (by omega) rfl rfl (aT (vs:=[_,_,_,_,_,_]) isAgg46 sizeOf46 rfl (by assumption) rfl (bF (cs:=[_,_,_,_,_,_]) hS zeroValue46 rfl rfl fun B3 W3 hS=>aU (i:=0) (vs:=[_,_,_,_,_,_]) (cs':=[_,_,_,_,_,_]) (O':=[_,_]) hS sizeOf46 rfl rfl rfl rfl rfl rfl rfl fun W4 hS=>aP (XF.thenN (aO (aQ (aH rfl rfl (aT (vs:=[_,_,_,_,_,_]) isAgg46 sizeOf46 rfl (aC.own (j:=0) (m:=6) (hS.at_ 1 rfl) rfl) rfl (aT (vs:=[_,_,_,_,_,_]) isAgg46 sizeOf46 rfl (aC.own (j:=0) (m:=6) (hS.at_ 0 rfl) rfl) rfl (Az (vs:=[_,_]) hS rfl yV rfl (ih p q _ (WIn.below hS.below (hin p (List.mem_of_getElem? hp))) (WIn.below hS.below (hin2 q (List.mem_of_getElem? hq))) (hsm p (List.mem_of_getElem? hp)) (hsm2 q (List.mem_of_getElem? hq))) rfl ?_))))))))))));rintro e W5 ⟨rfl,hb⟩;refine ⟨_,rfl,hb,?_⟩;clear hS;intro hS;clear hb;refine fB rfl rfl (aP (XF.thenN (bB rfl (fun hc=>?_) (fun hc=>?_))))
   ·have hc30:=hc;clear hc;refine aO (aQ (aB rfl rfl (aP (XF.thenN (bL (XF.blkR (XF.thenR (XF.thenR (XF.blkR (XF.thenR (XF.res (cI results62 rfl) ?_)))))))))));exact ⟨bG (by rw [cW hzp (by simpa using hc30)];simp),hS.below⟩
   ·have hc30:=hc;clear hc;refine bP (XF.blkN (XF.thenN (aQ (cY rfl rfl (IntWalk.i64_in _ (by omega)) rfl (aH rfl rfl (aP ?_))))));exact XF.round (apl - (i+1)) [(1,_),(2,_),(15,_),(16,_),(17,_)] (by omega) ⟨rfl,rfl,rfl,rfl,rfl,trivial⟩ ⟨i+1,by omega,rfl,rfl,eX hzp hall (by simpa using hc30),hS.tail.tail.clear⟩
  ·have hc18:=of_decide_eq_false hc;clear hc;refine dT (XF.thenX (XF.thenX (XF.blkX (XF.thenN (aO (aQ (aB rfl rfl (aP (XF.thenN (bL (XF.res (cI results62 rfl) ?_)))))))))));rw [List.take_of_length_le (by rw [List.length_zip];omega)] at hall;exact ⟨bG (by rw [hall,decide_eq_true (show ps.length=qs.length by omega)];rfl),hS.below⟩
theorem Cq (a b:Option Addr) (capa capb:Nat) (xs ys:List Cl) (w:World) (hm:xs.length≤maxLen) (hmb:ys.length≤maxLen) (hra:fA w a xs) (hrb:fA w b ys) (la lb:Nat) (hla:xs.length=la) (hlb:ys.length=lb) :
  Calls prog 61 #[.slice a la capa,.slice b lb capb] w (fun e w'=>e = .returned (.bool (xS xs ys))∧Below w.heap.size w w'):=by
 refine cG (args:=[.slice a la capa,.slice b lb capb]) func61 rfl ntmps61 rfl ?_;have hS:=St.start w;refine aO (aQ (aB rfl rfl (aP (XF.thenN (aO (aQ (aH rfl rfl (aH rfl rfl ?_))))))));refine cH (vs:=[_,_]) hS goes_92 rfl (by subst hla;subst hlb;exact Q4 a b capa capb xs ys _ hm hmb (fA.below hra hS.below) (fA.below hrb hS.below) _ rfl) rfl fun W1 hS=>?_
 refine aB rfl rfl (aP (XF.thenN (bL (XF.res (cI results61 rfl) ?_))));exact ⟨rfl,hS.below⟩
theorem Gf (k j:Nat) (az:Bool) (ac:Int) (ag:Nat) (ara:Option Addr) (arl arc:Nat) (arows:List Nat) (aca:Option Addr) (acl acc:Nat) (acells:List Cl) (apa:Option Addr) (apl apc:Nat)(bz:Bool) (bc:Int) (bg:Nat) (bra:Option Addr) (brl brc:Nat) (brows:List Nat) (bca:Option Addr) (bcl bcc:Nat) (bcells:List Cl) (bpa:Option Addr) (bpl bpc:Nat)(ps qs:List WV) (w:World) (hra:fL w ara (u64s arows)) (hla:arows.length=arl) (hma:arl≤9223372036854775807) (hca:fA w aca acells) (hka:acells.length=acl) (hna:acl≤9223372036854775807)(hrb:fL w bra (u64s brows)) (hlb:brows.length=brl) (hmb:brl≤9223372036854775807) (hcb:fA w bca bcells) (hkb:bcells.length=bcl) (hnb:bcl≤9223372036854775807)(hps:ps.length=apl) (hqs:qs.length=bpl) (hrow:yJ w apa ps) (hrow2:yJ w bpa qs) (hin:∀ p∈ps,WIn w k p) (hin2:∀ p∈qs,WIn w k p) (hpl:apl≤9223372036854775807) (hsm:∀ p∈ps,mxN j p=true) (hsm2:∀ p∈qs,mxN j p=true) (ih:∀ (p q:WV) (W:World),WIn W k p→WIn W k q→mxN j p=true→mxN j q=true→Calls prog 33 #[p.f.val,q.f.val] W fun e w'=>e = .returned (.bool (eqW k p q))∧Below W.heap.size W w') (r:Bool) (hr:r=true↔(az=bz∧ac=bc∧ag=bg∧arows=brows∧acells=bcells∧(decide (ps.length=qs.length) && (ps.zip qs).all fun x=>eqW k x.1 x.2)=true)) :
  Calls prog 33 #[.agg #[.bool az,.int .i64 ac,.int .u64 (ag:Int),.slice ara arl arc,.slice aca acl acc,.slice apa apl apc],.agg #[.bool bz,.int .i64 bc,.int .u64 (bg:Int),.slice bra brl brc,.slice bca bcl bcc,.slice bpa bpl bpc]] w (fun e w'=>e = .returned (.bool r)∧Below w.heap.size w w'):=by
 refine cG (args:=[.agg #[.bool az,.int .i64 ac,.int .u64 (ag:Int),.slice ara arl arc,.slice aca acl acc,.slice apa apl apc],.agg #[.bool bz,.int .i64 bc,.int .u64 (bg:Int),.slice bra brl brc,.slice bca bcl bcc,.slice bpa bpl bpc]]) func33 rfl ntmps33 rfl ?_;have hS:=St.start w;refine aO (aQ (bY (cs:=[_,_,_,_,_,_]) hS rfl rfl rfl fun B1 W1 hS=>bY (cs:=[_,_,_,_,_,_]) hS rfl rfl rfl fun B2 W2 hS=>aB rfl rfl (aP (XF.thenN (aO (aQ (aN (o':=0) eF rfl rfl rfl (aR isAgg4 rfl (aK (hS.at_ 1 rfl) rfl) rfl (aN (o':=0) eF rfl rfl rfl (aR isAgg4 rfl (aK (hS.at_ 0 rfl) rfl) rfl (op_eqlB underlying4 rfl rfl rfl (aH rfl rfl (cB (d:=10) rfl (fun hc=>?_) (fun hc=>?_))))))))))))))
 ·have hg10:=hc;clear hc;refine aI (d:=10) rfl rfl (aN (o':=1) fQ rfl rfl rfl (aI (d:=10) rfl rfl (aR isAgg3 rfl (aK (hS.at_ 1 rfl) rfl) rfl (aI (d:=10) rfl rfl (aN (o':=1) fQ rfl rfl rfl (aI (d:=10) rfl rfl (aR isAgg3 rfl (aK (hS.at_ 0 rfl) rfl) rfl (aI (d:=10) rfl rfl (cR rfl rfl rfl (bC rfl rfl rfl (aH rfl rfl (cB (d:=17) rfl (fun hc=>?_) (fun hc=>?_)))))))))))))
  ·have hg17:=of_decide_eq_true hc;clear hc;refine aI (d:=17) rfl rfl (aN (o':=2) fR rfl rfl rfl (aI (d:=17) rfl rfl (aT (vs:=[_,_]) isAgg42 sizeOf42 rfl (aC.own (j:=2) (m:=2) (hS.at_ 1 rfl) rfl) rfl (aI (d:=17) rfl rfl (aN (o':=2) fR rfl rfl rfl (aI (d:=17) rfl rfl (aT (vs:=[_,_]) isAgg42 sizeOf42 rfl (aC.own (j:=2) (m:=2) (hS.at_ 0 rfl) rfl) rfl (aI (d:=17) rfl rfl (cH (vs:=[_,_]) hS goes_60 rfl (Qj _ _ _ _ _ _ _ _ _ (by omega) (by omega) (fL.below hra hS.below) (fL.below hrb hS.below) _ rfl _ _ hla hlb) rfl fun W3 hS=>bC rfl rfl rfl (aH rfl rfl (cB (d:=24) rfl (fun hc=>?_) (fun hc=>?_))))))))))))
   ·have hg24:=hc;clear hc;refine aI (d:=24) rfl rfl (aN (o':=4) eG rfl rfl rfl (aI (d:=24) rfl rfl (aR isAgg43 rfl (aK (hS.at_ 1 rfl) rfl) rfl (aI (d:=24) rfl rfl (aN (o':=4) eG rfl rfl rfl (aI (d:=24) rfl rfl (aR isAgg43 rfl (aK (hS.at_ 0 rfl) rfl) rfl (aI (d:=24) rfl rfl ?_))))))));refine cH (vs:=[_,_]) hS goes_61 rfl (Cq _ _ _ _ acells bcells _ (by simp only [maxLen];omega) (by simp only [maxLen];omega) (fA.below hca hS.below) (fA.below hcb hS.below) _ _ hka hkb) rfl fun W4 hS=>?_
    refine bC rfl rfl rfl (aH rfl rfl (cB (d:=31) rfl (fun hc=>?_) (fun hc=>?_)))
    ·have hg31:=hc;clear hc;have hz:az=bz:=by simpa using hg10
     have hff:ag=bg∧arows=brows:=by simpa [oN] using hg24
     have hce:acells=bcells:=oO.1 hg31;refine aI (d:=31) rfl rfl (aN (o':=5) dH rfl rfl rfl (aI (d:=31) rfl rfl (aR isAgg44 rfl (aK (hS.at_ 1 rfl) rfl) rfl (aI (d:=31) rfl rfl (aN (o':=5) dH rfl rfl rfl (aI (d:=31) rfl rfl (aR isAgg44 rfl (aK (hS.at_ 0 rfl) rfl) rfl (aI (d:=31) rfl rfl (cH (vs:=[_,_,_]) hS goes_62 rfl (Ma k j apa bpa apl bpl apc bpc ps qs _ hps hqs (hrow.below hS.below) (hrow2.below hS.below) (fun p hp=>WIn.below hS.below (hin p hp)) (fun p hp=>WIn.below hS.below (hin2 p hp)) hpl hsm hsm2 ih) rfl fun W5 hS=>bC rfl rfl rfl (aB rfl rfl (aP (XF.thenN (bL (XF.res (cI results33 rfl) ?_))))))))))))));exact ⟨bG (A3 hr ⟨fun h=>h.2.2.2.2.2,fun h=>⟨hz,hg17,hff.1,hff.2,hce,h⟩⟩),hS.below⟩
    ·have hg31:=hc;clear hc;refine aD (d:=31) rfl rfl rfl rfl (aD (d:=31) rfl rfl rfl rfl (aD (d:=31) rfl rfl rfl rfl (aD (d:=31) rfl rfl rfl rfl (aD (d:=31) rfl rfl rfl rfl (bR rfl rfl rfl (aB rfl rfl (aP (XF.thenN (bL (XF.res (cI results33 rfl) ?_))))))))));exact ⟨bG (kS hr (fun h=>by have h5:=oO.2 h.2.2.2.2.1;rw [h5] at hg31;cases hg31)),hS.below⟩
   ·have hg24:=hc;clear hc;refine aD (d:=24) rfl rfl rfl rfl (aD (d:=24) rfl rfl rfl rfl (aD (d:=24) rfl rfl rfl rfl (aD (d:=24) rfl rfl rfl rfl (aD (d:=24) rfl rfl rfl rfl (bR rfl rfl rfl (aH rfl rfl (aD (d:=31) rfl rfl rfl rfl (aD (d:=31) rfl rfl rfl rfl (aD (d:=31) rfl rfl rfl rfl (aD (d:=31) rfl rfl rfl rfl (aD (d:=31) rfl rfl rfl rfl (bR rfl rfl rfl (aB rfl rfl (aP (XF.thenN (bL (XF.res (cI results33 rfl) ?_)))))))))))))))));exact ⟨bG (kS hr (fun h=>by obtain ⟨_,_,h3,h4,_⟩:=h;subst h3;subst h4;rw [C7] at hg24;cases hg24)),hS.below⟩
  ·have hg17:=of_decide_eq_false hc;clear hc;refine aD (d:=17) rfl rfl rfl rfl (aD (d:=17) rfl rfl rfl rfl (aD (d:=17) rfl rfl rfl rfl (aD (d:=17) rfl rfl rfl rfl (aD (d:=17) rfl rfl rfl rfl (bR rfl rfl rfl (aH rfl rfl (aD (d:=24) rfl rfl rfl rfl (aD (d:=24) rfl rfl rfl rfl (aD (d:=24) rfl rfl rfl rfl (aD (d:=24) rfl rfl rfl rfl (aD (d:=24) rfl rfl rfl rfl (bR rfl rfl rfl (aH rfl rfl (aD (d:=31) rfl rfl rfl rfl (aD (d:=31) rfl rfl rfl rfl (aD (d:=31) rfl rfl rfl rfl (aD (d:=31) rfl rfl rfl rfl (aD (d:=31) rfl rfl rfl rfl (bR rfl rfl rfl (aB rfl rfl (aP (XF.thenN (bL (XF.res (cI results33 rfl) ?_))))))))))))))))))))))));exact ⟨bG (kS hr (fun h=>hg17 h.2.1)),hS.below⟩
 ·have hg10:=hc;clear hc;refine aD (d:=10) rfl rfl rfl rfl (aD (d:=10) rfl rfl rfl rfl (aD (d:=10) rfl rfl rfl rfl (aD (d:=10) rfl rfl rfl rfl (aD (d:=10) rfl rfl rfl rfl (bR rfl rfl rfl (aH rfl rfl (aD (d:=17) rfl rfl rfl rfl (aD (d:=17) rfl rfl rfl rfl (aD (d:=17) rfl rfl rfl rfl (aD (d:=17) rfl rfl rfl rfl (aD (d:=17) rfl rfl rfl rfl (bR rfl rfl rfl (aH rfl rfl (aD (d:=24) rfl rfl rfl rfl (aD (d:=24) rfl rfl rfl rfl (aD (d:=24) rfl rfl rfl rfl (aD (d:=24) rfl rfl rfl rfl (aD (d:=24) rfl rfl rfl rfl (bR rfl rfl rfl (aH rfl rfl (aD (d:=31) rfl rfl rfl rfl (aD (d:=31) rfl rfl rfl rfl (aD (d:=31) rfl rfl rfl rfl (aD (d:=31) rfl rfl rfl rfl (aD (d:=31) rfl rfl rfl rfl (bR rfl rfl rfl (aB rfl rfl (aP (XF.thenN (bL (XF.res (cI results33 rfl) ?_)))))))))))))))))))))))))))))));exact ⟨bG (kS hr (fun h=>by have h1:=h.1;subst h1;simp at hg10)),hS.below⟩
theorem jG {k:Nat} {f g:WF} {ps qs:List WV}:eqW (k+1) (.mk f ps) (.mk g qs)=true↔(f.z=g.z∧f.c=g.c∧f.g=g.g∧f.rows=g.rows∧f.cells=g.cells∧(decide (ps.length=qs.length) && (ps.zip qs).all fun x=>eqW k x.1 x.2)=true):=by
 simp only [eqW];rw [Bool.and_eq_true,decide_eq_true_eq,Bool.and_eq_true,oO];constructor
 ·rintro ⟨⟨a,b,c,d⟩,e,h⟩;exact ⟨a,b,c,d,e,h⟩
 ·rintro ⟨a,b,c,d,e,h⟩;exact ⟨⟨a,b,c,d⟩,e,h⟩
theorem Gg:∀ (k j:Nat) (x y:WV) (w:World),WIn w k x→WIn w k y→mxN j x=true→mxN j y=true→Calls prog 31 #[x.f.val,y.f.val] w fun e w'=>e = .returned (.bool (eqW k x y))∧Below w.heap.size w w'
 | 0,_,x,y,w,hx,hy,_,_=>hx.elim
 | k+1,0,x,y,w,hx,hy,h,_=>by simp [mxN] at h
 | k+1,j+1,.mk ⟨az,ac,ag,ara,arl,arc,arows,aca,acl,acc,acells,apa,apl,apc⟩ ps,.mk ⟨bz,bc,bg,bra,brl,brc,brows,bca,bcl,bcc,bcells,bpa,bpl,bpc⟩ qs,w,hx,hy,h,h2=>by obtain ⟨a1,a2,a3,a4⟩:=vI h;obtain ⟨b1,b2,b3,b4⟩:=vI h2;exact Ge k j az ac ag ara arl arc arows aca acl acc acells apa apl apc bz bc bg bra brl brc brows bca bcl bcc bcells bpa bpl bpc ps qs w hx.1.rows hx.1.rl a1 hx.1.cells hx.1.cl a2 hy.1.rows hy.1.rl b1 hy.1.cells hy.1.cl b2 hx.2.1 hy.2.1 hx.2.2.1 hy.2.2.1 hx.2.2.2 hy.2.2.2 a3 a4 b4 (Gg k j) _ jG
theorem D9 (k j:Nat) (x y:WV) (w:World) (hx:WIn w k x) (hy:WIn w k y) (h:smN j x=true) (h2:smN j y=true):Calls prog 31 #[x.f.val,y.f.val] w fun e w'=>e = .returned (.bool (eqW k x y))∧Below w.heap.size w w':=Gg k j x y w hx hy (pW h) (pW h2)
theorem Gh:∀ (k j:Nat) (x y:WV) (w:World),WIn w k x→WIn w k y→mxN j x=true→mxN j y=true→Calls prog 33 #[x.f.val,y.f.val] w fun e w'=>e = .returned (.bool (eqW k x y))∧Below w.heap.size w w'
 | 0,_,x,y,w,hx,hy,_,_=>hx.elim
 | k+1,0,x,y,w,hx,hy,h,_=>by simp [mxN] at h
 | k+1,j+1,.mk ⟨az,ac,ag,ara,arl,arc,arows,aca,acl,acc,acells,apa,apl,apc⟩ ps,.mk ⟨bz,bc,bg,bra,brl,brc,brows,bca,bcl,bcc,bcells,bpa,bpl,bpc⟩ qs,w,hx,hy,h,h2=>by obtain ⟨a1,a2,a3,a4⟩:=vI h;obtain ⟨b1,b2,b3,b4⟩:=vI h2;exact Gf k j az ac ag ara arl arc arows aca acl acc acells apa apl apc bz bc bg bra brl brc brows bca bcl bcc bcells bpa bpl bpc ps qs w hx.1.rows hx.1.rl a1 hx.1.cells hx.1.cl a2 hy.1.rows hy.1.rl b1 hy.1.cells hy.1.cl b2 hx.2.1 hy.2.1 hx.2.2.1 hy.2.2.1 hx.2.2.2 hy.2.2.2 a3 a4 b4 (Gh k j) _ jG
theorem Ea (k j:Nat) (x y:WV) (w:World) (hx:WIn w k x) (hy:WIn w k y) (h:smN j x=true) (h2:smN j y=true):Calls prog 33 #[x.f.val,y.f.val] w fun e w'=>e = .returned (.bool (eqW k x y))∧Below w.heap.size w w':=Gh k j x y w hx hy (pW h) (pW h2)
theorem Ix {w:World}:∀ {k:Nat} {s:WV},WIn w k s→eqW k s s=true
 | 0,_,h=>h.elim
 | k+1,.mk f ps,h=>by rw [jG];exact ⟨rfl,rfl,rfl,rfl,rfl,by rw [mO ps (fun x hx=>Ix (h.2.2.2 x hx))];simp⟩
theorem R4 {S:PS} {sf:SF} {w:World} (hs:SIs w S sf) (hok:S.ok):Calls prog 15 #[sf.val] w fun e w'=>e = .returned (.int .i64 0)∧Below w.heap.size w w':=by obtain ⟨s,rfl,h,he⟩:=SIs.sin hs hok;exact wY 2 s 0 w h he
attribute [local go_sem ↓] Go.wp_at_zero Go.wp_at_succ
theorem Vj {w:World} {ds da:Nat} {s:SV} {x:WV} (hs:SIn w ds s) (hse:dR s=0) (hx:WIn w da x) :
  Calls prog 64 #[s.f.val,x.f.val] w fun e w'=>e = .returned (.bool (okW s x))∧Below w.heap.size w w':=by
 match ds,da,s,x,hs,hx with
 | ds+1,da+1,.mk f ps,.mk g qs,hs,hx =>
  by_cases hp:bV f.tag f.dim f.len=true
  ·refine nE f.tag f.dim f.a f.len f.cap g hp (Nat.zero_le _) w hx.1 _ ?_;unfold okW;exact (if_pos hp).symm
  ·have hse':(if bV f.tag f.dim f.len=true then (0:Int) else if f.tag=5∧f.dim=0∧ps.length=2∧ps.all SV.pl=true then 0 else 50)=0:=hse;rw [if_neg hp] at hse';split at hse'
   ·rename_i hq;obtain ⟨h5,h0,h2,hall⟩:=hq;obtain ⟨t,n,a,l,c⟩:=f;dsimp only at h5 h0 hp;subst h5;subst h0;obtain ⟨p,q,rfl⟩:=tZ h2;have hl:2=l:=hs.1;subst hl;simp only [List.all_cons,List.all_nil,Bool.and_true,Bool.and_eq_true] at hall;refine D5 ds a c p q g qs w hs hall.1 hall.2 da hx (fun _ _=>Nat.zero_le _) _ ?_;unfold okW;exact (if_neg hp).symm
   ·cases hse'
theorem Vk {w:World} {ds da:Nat} {s:SV} {x:WV} (hs:SIn w ds s) (hse:dR s=0) (hx:WIn w da x) :
  Calls prog 40 #[s.f.val,x.f.val] w fun e w'=>e = .returned (.bool (okW s x))∧Below w.heap.size w w':=by
 match ds,da,s,x,hs,hx with
 | ds+1,da+1,.mk f ps,.mk g qs,hs,hx =>
  by_cases hp:bV f.tag f.dim f.len=true
  ·refine pU f.tag f.dim f.a f.len f.cap g hp (Nat.zero_le _) w hx.1 _ ?_;unfold okW;exact (if_pos hp).symm
  ·have hse':(if bV f.tag f.dim f.len=true then (0:Int) else if f.tag=5∧f.dim=0∧ps.length=2∧ps.all SV.pl=true then 0 else 50)=0:=hse;rw [if_neg hp] at hse';split at hse'
   ·rename_i hq;obtain ⟨h5,h0,h2,hall⟩:=hq;obtain ⟨t,n,a,l,c⟩:=f;dsimp only at h5 h0 hp;subst h5;subst h0;obtain ⟨p,q,rfl⟩:=tZ h2;have hl:2=l:=hs.1;subst hl;simp only [List.all_cons,List.all_nil,Bool.and_true,Bool.and_eq_true] at hall;refine Ru ds a c p q g qs w hs hall.1 hall.2 da hx (fun _ _=>Nat.zero_le _) _ ?_;unfold okW;exact (if_neg hp).symm
   ·cases hse'
end
section
open Go.RowKit
structure RV where
 p:Int
 g:Int
 q:Int
 wa:Option Addr
 wl:Nat
 wc:Nat
 ws:List Int
 x:WV
abbrev RV.ten (r:RV):List Value:=[.int .i64 r.p,.int .i64 r.g,.int .i64 r.q,.slice r.wa r.wl r.wc,.bool r.x.f.z,.int .i64 r.x.f.c,.int .u64 (r.x.f.g:Int),.slice r.x.f.ra r.x.f.rl r.x.f.rc,.slice r.x.f.ca r.x.f.cl r.x.f.cc,.slice r.x.f.pa r.x.f.pl r.x.f.pc]
structure RIn (w:World) (d:Nat) (r:RV):Prop where
 row:Row w r.wa r.ws
 len:r.ws.length=r.wl
 x:WIn w d r.x
def RRow (w:World) (a:Option Addr) (rs:List RV):Prop :=
 rs=[]∨∃ b off,a=some ⟨b,off,none⟩∧∀ (i:Nat) r,rs[i]?=some r→aC w b (off+i * 10) r.ten
structure PV where
 s:SV
 st:Int
 sy:Int
 ra:Option Addr
 rl:Nat
 rc:Nat
 rs:List RV
structure PvIn (w:World) (ds d:Nat) (p:PV):Prop where
 s:SIn w ds p.s
 row:RRow w p.ra p.rs
 len:p.rs.length=p.rl
 rin:∀ r∈p.rs,RIn w d r
structure CV where
 p:Int
 wa:Option Addr
 wl:Nat
 wc:Nat
 ws:List Int
theorem Row.at1 {w:World} {a:Option Addr} {zs:List Int} (h:Row w a zs) {i:Nat} (hi:i < zs.length):∃ b off y,a=some ⟨b,off,none⟩∧zs[i]?=some y∧w.cell? ⟨b,off+i * 1,none⟩=some (.int .i64 y):=by
 rcases h with rfl | ⟨b,off,ha,hc⟩
 ·simp at hi
 ·refine ⟨b,off,zs[i],ha,by simp [hi],?_⟩;rw [Nat.mul_one];have:=hc i hi;rw [this];simp [List.getD,List.getElem?_eq_getElem hi]
def inQ (x n:Int):Bool:=decide (0≤x) && decide (x < n)
def Vl (st sy:Int) (r:RV):Bool:=inQ r.p st && (inQ r.q st && (inQ r.g sy && (decide (r.wl≤4096) && r.ws.all (fun y=>inQ y sy))))
def wtE (s:SV):List RV→Int
 | []=>0
 | r::rs=>if lY s r.x=0 then wtE s rs else lY s r.x
def pdsE (p:PV):Int :=
 if dR p.s≠0 then dR p.s else if 16384 < p.rl then 3 else if p.st < 0∨4096 < p.st∨p.sy < 0∨4096 < p.sy then 110 else if p.rs.all (Vl p.st p.sy) then wtE p.s p.rs else 110
def Vm (p:PV) (c:CV):Bool:=inQ c.p p.st && (decide (c.wl≤4096) && c.ws.all (fun y=>inQ y p.sy))
def Vn (p:PV) (c:CV):Int:=if pdsE p≠0 then pdsE p else if Vm p c then 0 else 120
end
section
open Go.RowKit Go.ChangeShapes Go.WideShapes Go.Deep Go.Joins
theorem A4 {w:World} {b:Nat}:∀ (vs:List Value) (o:Nat),(∀ (j:Nat) u,vs[j]?=some u→w.cell? ⟨b,o+j,none⟩=some u)→aC w b o vs
 | [],_,_=>trivial
 | v::vs,o,h=>⟨h 0 v rfl,A4 vs (o+1) fun j u hj=>by have:=h (j+1) u (by simpa using hj);rwa [show o+1+j=o+(j+1) by omega]⟩
section
variable {H:Type} {enc:TypeId×Value→H} {w:World} {base:Nat} {spare:Nat→Bool} {held:Bool}
theorem ints_in {n:Nat} {v:Value} {x:DataW H×List MemPlace} (h:DataW.trod enc prog w base spare held n 26 [v]=some x) :
  ∃ (a:Option Addr) (len cap:Nat) (zs:List Int),v = .slice a len cap∧Row w a zs∧zs.length=len∧len≤cap∧cap≤maxLen:=by
 rcases open_ints (t:=26) (e:=3) (k:=.i64) (by kernel_rfl) (by kernel_rfl) (by kernel_rfl) h with ⟨hcs,_⟩ | ⟨x,len,cap,zs,hcs,_,hl,hm,hz,_,hcell,hwz⟩
 ·have hcs':v = .slice none 0 0:=by simpa using hcs
  subst hcs';exact ⟨none,0,0,[],rfl,.inl rfl,rfl,Nat.le_refl _,Nat.zero_le _⟩
 ·have hcs':v = .slice (some x) len cap:=by simpa using hcs
  subst hcs';have hzl:len≤zs.length:=by rw [hz];split<;>omega
  refine ⟨some x,len,cap,zs.take len,rfl,?_,by simp;omega,hl,hm⟩;rcases Nat.eq_zero_or_pos len with h0 | h0
  ·subst h0;exact .inl (by simp)
  ·obtain ⟨b,off,spot⟩:=x;have hc0:=hcell 0 (by omega);have hspot:spot=none:=by simpa [Addr.add] using World.cell?_spot hc0
   subst hspot;refine .inr ⟨b,off,rfl,fun i hi=>?_⟩;have hi1:i < len:=by simp at hi;omega
   have hi2:i < zs.length:=by omega
   have hc:=hcell i hi2;have e:({ block:=b,off:=off }:Addr).add i=⟨b,off+i,none⟩:=by simp [Addr.add]
   rw [e] at hc;rw [hc];simp [List.getD,List.getElem?_take,hi1]
end
end
section
open Go.RowKit
theorem Mb (v00:Value) (v01:Value) (v02:Value) (v10:Value) (v11:Value) (v12:Value) (v13:Value) (v14:Value) (v15:Value):prog.built 57 [(0,.agg #[v00,v01,v02]),(1,.agg #[v10,v11,v12,v13,v14,v15])]=some #[v00,v01,v02,v10,v11,v12,v13,v14,v15]:=by kernel_rfl
theorem pY (v0:Int):Instr.fill (fun i=>some (i * 1,1)) ((Array.range (1 * 1)).map ((Value.cells (.int .i64 0))[· % (Value.cells (.int .i64 0)).size]!)) [(0,.int .i64 v0)]=some (List.toArray [.int .i64 v0]):=by kernel_rfl
theorem vJ (w:World) (b o:Nat):(Instr.fieldAt 57 (.pointer (some ⟨b,o,none⟩)) 0).run prog w = .ok (.pointer (some ⟨b,o+0,none⟩)) w:=by simp [Instr.fieldAt,run_underlying underlying57,Instr.sureAddr,go_sem,Addr.add_lit]
theorem O1:bJ prog 20=true:=by kernel_rfl
theorem goes_70:bJ prog 70=true:=by kernel_rfl
theorem goes_50:bJ prog 50=true:=by kernel_rfl
theorem Iy:bJ prog 100=true:=by kernel_rfl
theorem Eb:prog.info? 3=some Tryz.t3:=by kernel_rfl
theorem A5 (ds da:Nat) (s:SV) (x:WV) (w:World) (hs:SIn w ds s) (hx:WIn w da x) (b:Nat) (hb0:aC w b 0 x.f.six) :
  Calls prog 39 #[s.f.val,.slice (some ⟨b,0,none⟩) 1 1] w (fun e w'=>e = .returned (.int .i64 (lY s x))∧Below w.heap.size w w'):=by
 refine cG (args:=[s.f.val,.slice (some ⟨b,0,none⟩) 1 1]) func39 rfl ntmps39 rfl ?_;have hS:=St.start w;refine aO (aQ (bY (cs:=[_,_,_]) hS rfl rfl rfl fun B1 W1 hS=>aB rfl rfl (aP (XF.thenN (aO (aO (aQ (aT (vs:=[_,_,_]) isAgg25 sizeOf25 rfl (aC.own (j:=0) (m:=3) (hS.at_ 0 rfl) rfl) rfl (cH (vs:=[_]) hS uY rfl (wX ds s _ _ (SIn.below hS.below hs) rfl) rfl fun W2 hS=>aB rfl rfl (aP (XF.thenN (aO (aQ (aH rfl rfl (dG rfl rfl rfl (aP (XF.thenN (bB rfl (fun hc=>?_) (fun hc=>?_)))))))))))))))))))
 ·have hc11:=of_decide_eq_true hc;clear hc;refine aO (aQ (aH rfl rfl (aB rfl rfl (aP (XF.thenN (bL (XF.thenR (XF.res (cI results39 rfl) ?_))))))));exact ⟨eM (by unfold lY;rw [if_neg hc11]),hS.below⟩
 ·have hc11:=of_decide_eq_false hc;clear hc;have hse:dR s=0:=by omega
  refine bP (XF.thenN (aO (aO (aQ (aH rfl rfl (cL underlying44 rfl rfl (aH rfl rfl (aP (XF.thenN (bX (eJ (fun q l W=>∃ k:Nat,k≤1∧q=1 - k∧l=[(2,.pointer (some ⟨B1,0,none⟩)),(13,.slice (some ⟨b,0,none⟩) 1 1),(14,.int .i64 1),(15,.int .i64 (k:Int))]∧(1≤k→okW s x=true)∧St w [(B1,[.int .i64 s.f.tag,.int .i64 s.f.dim,.slice s.f.a s.f.len s.f.cap],25)] [] [] W) (1 - 0) ([(2,_),(13,_),(14,_),(15,_)]) ⟨rfl,rfl,rfl,rfl,trivial⟩ (⟨0,Nat.zero_le _,rfl,rfl,fun h=>by omega,hS.clear⟩) ?_)))))))))));clear hS;rintro q l W ⟨k,hk1,rfl,rfl,hok,hS⟩;refine aO (aQ (cT rfl rfl rfl (aP (XF.thenN (aO (bB rfl (fun hc=>?_) (fun hc=>?_)))))))
  ·have hc16:=of_decide_eq_true hc;clear hc;obtain rfl:k=0:=by omega
   have k1:=aC.agree hS.agree (Nat.zero_le _) hb0;refine bP (XF.thenN (aO (bX (aO (aQ (cK  underlying44 sizeOf46 rfl rfl rfl (by omega) rfl rfl (aT (vs:=[_,_,_,_,_,_]) isAgg46 sizeOf46 rfl (by assumption) rfl (bF (cs:=[_,_,_,_,_,_]) hS zeroValue46 rfl rfl fun B3 W3 hS=>aU (i:=0) (vs:=[_,_,_,_,_,_]) (cs':=[_,_,_,_,_,_]) (O':=[_,_]) hS sizeOf46 rfl rfl rfl rfl rfl rfl rfl fun W4 hS=>aP (XF.thenN (aO (aQ (aT (vs:=[_,_,_]) isAgg25 sizeOf25 rfl (aC.own (j:=0) (m:=3) (hS.at_ 1 rfl) rfl) rfl (aT (vs:=[_,_,_,_,_,_]) isAgg46 sizeOf46 rfl (aC.own (j:=0) (m:=6) (hS.at_ 0 rfl) rfl) rfl (cH (vs:=[_,_]) hS uZ rfl (Vj (SIn.below hS.below hs) hse (WIn.below hS.below hx)) rfl fun W5 hS=>fB rfl rfl (aP (XF.thenN (bB rfl (fun hc=>?_) (fun hc=>?_))))))))))))))))))
   ·have hc22:=hc;clear hc;refine aO (aQ (aB rfl rfl (aP (XF.thenN (bL (XF.blkR (XF.thenR (XF.thenR (XF.blkR (XF.thenR (XF.res (cI results39 rfl) ?_)))))))))));exact ⟨eM (by unfold lY;rw [if_pos hse,if_neg (by simpa using hc22)]),hS.below⟩
   ·have hc22:=hc;clear hc;refine bP (XF.blkN (XF.thenN (aQ (cY rfl rfl (IntWalk.i64_in _ (by omega)) rfl (aH rfl rfl (aP ?_))))));exact XF.round (1 - 1) [(2,_),(13,_),(14,_),(15,_)] (by omega) ⟨rfl,rfl,rfl,rfl,trivial⟩ ⟨1,by omega,rfl,rfl,fun _=>by simpa using hc22,hS.tail.clear⟩
  ·have hc16:=of_decide_eq_false hc;clear hc;refine dT (XF.thenX (XF.thenX (XF.blkX (XF.thenN (aO (aQ (aB rfl rfl (aP (XF.thenN (bL (XF.res (cI results39 rfl) ?_)))))))))));exact ⟨eM (by unfold lY;rw [if_pos hse,if_pos (hok (by omega))]),hS.below⟩
theorem Iz (ds da:Nat) (s:SV) (x:WV) (w:World) (hs:SIn w ds s) (hx:WIn w da x) :
  Calls prog 14 #[s.f.val,x.f.val] w (fun e w'=>e = .returned (.int .i64 (lY s x))∧Below w.heap.size w w'):=by
 refine cG (args:=[s.f.val,x.f.val]) func14 rfl ntmps14 rfl ?_;have hS:=St.start w;refine aO (aQ (bY (cs:=[_,_,_]) hS rfl rfl rfl fun B1 W1 hS=>bY (cs:=[_,_,_,_,_,_]) hS rfl rfl rfl fun B2 W2 hS=>aB rfl rfl (aP (XF.thenN (aO (aQ (aT (vs:=[_,_,_]) isAgg25 sizeOf25 rfl (aC.own (j:=0) (m:=3) (hS.at_ 1 rfl) rfl) rfl (aT (vs:=[_,_,_,_,_,_]) isAgg46 sizeOf46 rfl (aC.own (j:=0) (m:=6) (hS.at_ 0 rfl) rfl) rfl (cX (us:=[(0,.agg (List.toArray [_,_,_,_,_,_]))]) hS underlying44 sizeOf46 zeroValue46 rfl rfl rfl (yT _ _ _ _ _ _) rfl fun B3 W3 hS=>cH (vs:=[_,_]) hS Fz rfl (A5 ds da s x _ (SIn.below hS.below hs) (WIn.below hS.below hx) _ (aC.own (j:=0) (m:=6) (hS.at_ 0 rfl) rfl)) rfl fun W4 hS=>aB rfl rfl (aP (XF.thenN (bL (XF.res (cI results14 rfl) ?_)))))))))))));exact ⟨rfl,hS.below⟩
theorem I0 (ds da:Nat) (s:SV) (x:WV) (w:World) (hs:SIn w ds s) (hx:WIn w da x) :
  Calls prog 17 #[s.f.val,x.f.val] w (fun e w'=>e = .returned (.int .i64 (lY s x))∧Below w.heap.size w w'):=by
 refine cG (args:=[s.f.val,x.f.val]) func17 rfl ntmps17 rfl ?_;have hS:=St.start w;refine aO (aQ (bY (cs:=[_,_,_]) hS rfl rfl rfl fun B1 W1 hS=>bY (cs:=[_,_,_,_,_,_]) hS rfl rfl rfl fun B2 W2 hS=>aB rfl rfl (aP (XF.thenN (aO (aQ (aT (vs:=[_,_,_]) isAgg25 sizeOf25 rfl (aC.own (j:=0) (m:=3) (hS.at_ 1 rfl) rfl) rfl (cH (vs:=[_]) hS Fx rfl (wY ds s _ _ (SIn.below hS.below hs) rfl) rfl fun W3 hS=>aB rfl rfl (aP (XF.thenN (aO (aO (aQ (aH rfl rfl (dG rfl rfl rfl (aP (XF.thenN (bB rfl (fun hc=>?_) (fun hc=>?_)))))))))))))))))))
 ·have hc9:=of_decide_eq_true hc;clear hc;refine aO (aQ (aH rfl rfl (aB rfl rfl (aP (XF.thenN (bL (XF.thenR (XF.res (cI results17 rfl) ?_))))))));exact ⟨eM (by unfold lY;rw [if_neg hc9]),hS.below⟩
 ·have hc9:=of_decide_eq_false hc;clear hc;have hse:dR s=0:=by omega
  refine bP (XF.thenN (aO (aO (aQ (aT (vs:=[_,_,_]) isAgg25 sizeOf25 rfl (aC.own (j:=0) (m:=3) (hS.at_ 1 rfl) rfl) rfl (aT (vs:=[_,_,_,_,_,_]) isAgg46 sizeOf46 rfl (aC.own (j:=0) (m:=6) (hS.at_ 0 rfl) rfl) rfl (cH (vs:=[_,_]) hS yW rfl (Vk (SIn.below hS.below hs) hse (WIn.below hS.below hx)) rfl fun W4 hS=>fB rfl rfl (aP (XF.thenN (bB rfl (fun hc=>?_) (fun hc=>?_)))))))))))
  ·have hc14:=hc;clear hc;refine aO (aQ (aB rfl rfl (aP (XF.thenN (bL (XF.thenR (XF.res (cI results17 rfl) ?_)))))));exact ⟨eM (by unfold lY;rw [if_pos hse,if_neg (by simpa using hc14)]),hS.below⟩
  ·have hc14:=hc;clear hc;refine bP (XF.thenN (aO (aQ (aB rfl rfl (aP (XF.thenN (bL (XF.res (cI results17 rfl) ?_))))))));exact ⟨eM (by unfold lY;rw [if_pos hse,if_pos (by simpa using hc14)]),hS.below⟩
theorem R5 {f:SF} {ps:List SV} {x:WV} (hp:bV f.tag f.dim f.len=true) (ho:okW (.mk f ps) x=true):fO f.tag f.dim x.f=true:=by have h:(if bV f.tag f.dim f.len=true then fO f.tag f.dim x.f else (match (generalizing:=false) ps with | [p,q]=>iD p q x.f x.ps | _=>false))=true:=ho;rw [if_pos hp] at h;exact h
theorem I1 {w:World} {d:Nat} {s:SV} (hs:SIn w d s) (hse:dR s=0):∃ S:PS,S.ok∧SIs w S s.f∧∀ (x:WV) (e:Nat),WIn w e x→okW s x=true→∃ y,XIs w S x.f y:=by
 match d,s,hs with
 | d+1,.mk f ps,hs =>
  by_cases hp:bV f.tag f.dim f.len=true
  ·obtain ⟨t,n,a,l,c⟩:=f;dsimp only at hp;obtain rfl:l=0:=(gC hp).1;refine ⟨.one t n,hp,⟨a,c,rfl⟩,fun x e hx ho=>?_⟩
   match e,x,hx,ho with
   | e+1,.mk g qs,hx,ho =>
    exact ⟨.one g.pf,PIs.of hp hx.1 (R5 (f:=⟨t,n,a,0,c⟩) hp ho)⟩
  ·have hse':(if bV f.tag f.dim f.len=true then (0:Int) else if f.tag=5∧f.dim=0∧ps.length=2∧ps.all SV.pl=true then 0 else 50)=0:=hse;rw [if_neg hp] at hse';split at hse'
   ·rename_i hq;obtain ⟨h5,h0,h2,hall⟩:=hq;obtain ⟨t,n,a,l,c⟩:=f;dsimp only at h5 h0 hp;subst h5;subst h0;obtain ⟨p,q,rfl⟩:=tZ h2;have hl:2=l:=hs.1;subst hl;simp only [List.all_cons,List.all_nil,Bool.and_true,Bool.and_eq_true] at hall;obtain ⟨_,b,off,ha,_,hp3,hq3,_,_⟩:=hs.two;dsimp only at ha;subst ha;obtain ⟨⟨pt,pn,pa,pl,pc⟩,pps⟩:=p;obtain ⟨⟨qt,qn,qa,ql,qc⟩,qps⟩:=q;have e1:bV pt pn pl=true:=hall.1;have e2:bV qt qn ql=true:=hall.2;obtain rfl:pl=0:=(gC e1).1;obtain rfl:ql=0:=(gC e2).1;refine ⟨.two pt pn qt qn,⟨e1,e2⟩,⟨b,off,c,pa,pc,qa,qc,rfl,hp3,hq3⟩,fun x e hx ho=>?_⟩
    match e,x,hx,ho with
    | e+1,.mk g qs,hx,ho =>
     have ho':(if bV 5 0 2=true then fO 5 0 g else iD (.mk ⟨pt,pn,pa,0,pc⟩ pps) (.mk ⟨qt,qn,qa,0,qc⟩ qps) g qs)=true:=ho;rw [if_neg (show ¬ bV 5 0 2=true from hp)] at ho';unfold iD at ho';simp only [Bool.and_eq_true,Bool.not_eq_true',decide_eq_true_eq] at ho';obtain ⟨hbare,hz,h2q,o1,o2⟩:=ho';obtain ⟨x1,x2,rfl⟩:=tZ h2q;obtain ⟨hpl,wb,wo,hpa,_,h6,h7,hx1,hx2⟩:=hx.two;have hat:=hx.1;have hg:g.c=0∧g.g=0∧g.rl=0∧g.cl=0:=by simp only [iS,iR,hz,Bool.not_false,Bool.true_and,Bool.and_eq_true,Bool.or_eq_true,decide_eq_true_eq] at hbare;obtain ⟨k1,k2,k3,_⟩:=hbare;exact ⟨k1.resolve_left (by decide),(k2.resolve_left (by decide)).1,(k2.resolve_left (by decide)).2,k3.resolve_left (by decide)⟩
     have hr0:g.rows=[]:=List.eq_nil_of_length_eq_zero (by have:=hat.rl;omega);have hc0:g.cells=[]:=List.eq_nil_of_length_eq_zero (by have:=hat.cl;omega);refine ⟨.two x1.f.pf x2.f.pf,?_,hg.2.2.1,hg.2.2.2,hpl,wb,wo,x1.f,x2.f,hpa,h6,h7,PIs.of e1 (WIn.at_ hx1) o1,PIs.of e2 (WIn.at_ hx2) o2⟩;show (⟨g.z,g.c,g.g,g.rows,g.cells⟩:PF)=pC 0;unfold pC;rw [hz,hg.1,hg.2.1,hr0,hc0]
   ·cases hse'
def isX (S:PS) (x:PX):Asr:=fun v w=>∃ f:WF,v=f.val∧XIs w S f x
theorem lZ {S:PS} {x:PX}:gQ (isX S x):=fun v w w' ⟨f,h1,h2⟩ hb=>⟨f,h1,h2.below hb⟩
def kU (S:PS) (xs:List PX):Asr:=fun v w=>∃ b fs,v = .slice (some ⟨b,0,none⟩) xs.length xs.length∧tD w (some ⟨b,0,none⟩) fs∧XL w S fs xs
theorem nW {S:PS} {xs:List PX}:gQ (kU S xs):=fun v w w' ⟨b,fs,h1,h2,h3⟩ hb=>⟨b,fs,h1,h2.below hb,h3.below hb⟩
section
variable {n:Nat} {Q:Exit→Act→World→Prop} {l:Fr} {W:World} {ops:Array Oper} {L:List Asr} {i d:Nat} {ty:TypeId} {pos:String} {aft:Array Edge} {gd:Option (Nat×Bool)} {S:PS} {x y z:PX} {p q r:Operand}
theorem A6 (hi:ops[i]?=some ⟨some d,.buildSlice 44 2 (List.toArray [(0,p),(1,q)]),ty,pos,aft,gd⟩) (hw:fT ops L i ⟨some d,.buildSlice 44 2 (List.toArray [(0,p),(1,q)]),ty,pos,aft,gd⟩) (hp:tC n ops l L i [p,q] [isX S x,isX S y]) (hI:atI L i=kU S [x,y]):RG prog n ops Q l W L i :=
 Fv [isX S x,isX S y] hi hw underlying44 sizeOf46 zeroValue46 rfl rfl hp fun vs w hb hh=>by obtain ⟨v1,v2,rfl,⟨f,rfl,hf⟩,g,rfl,hg⟩:=nD hh;exact ⟨f.six++g.six,uX _ _ _ _ _ _ _ _ _ _ _ _,fun B w' hB h1 h2=>by rw [hI];exact ⟨B,[f,g],rfl,Is h1,sM (hf.below h2) (sM (hg.below h2) L5)⟩⟩
end
section
variable {w:World} {S:PS} {sf:SF} {x y z:PX} {vs:List Value}
end
section
variable {P:Program} {ops:Array Oper} {Q:Exit→Act→World→Prop} {σ:Type}
structure RInvG (ops:Array Oper) (t0:Array Value) (d0:List Deferred) (G:σ→World→Prop) (I:σ→Nat→Value→World→Prop) (V:σ→Array Bool→Prop) (s:σ) (L:Array Bool) (a:Act) (w:World):Prop where
 size:a.tmps.size=t0.size
 defers:a.defers=d0
 frame:∀ t,freeT ops t=true→a.tmps.getD t undef=t0.getD t undef
 glob:G s w
 cons:V s L
 done:∀ i d,(ops[i]?).bind (·.dst)=some d→L.getD i false=true→I s i (a.tmps.getD d undef) w
def lL (ops:Array Oper) (L:Array Bool):Prop:=∀ j,L.getD j false=true→∀ x∈aft ops j,L.getD x false=true
def A7 (ops:Array Oper) (L:Array Bool) (i:Nat):Prop:=L.getD i false=false∧∀ x∈aft ops i,L.getD x false=true
def Vo (P:Program) (ops:Array Oper) (Q:Exit→Act→World→Prop) (t0:Array Value) (G:σ→World→Prop) (I:σ→Nat→Value→World→Prop) (V:σ→Array Bool→Prop) (i:Nat):Prop :=
 ∀ s L (a:Act) w,(∀ t,freeT ops t=true→a.eval (.tmp t)=t0.getD t undef)→G s w→V s L→L.size=ops.size→lL ops L→A7 ops L i→(∀ j d,bH ops i j d=true→I s j (a.eval (.tmp d)) w) →
  wpOp P ops Q i (fun a' w'=>∃ s' v,a'=a.put ((ops[i]?).bind (·.dst)) v∧V s' (L.setIfInBounds i true)∧G s' w'∧(∀ d,(ops[i]?).bind (·.dst)=some d→I s' i v w')∧(∀ j d,(ops[j]?).bind (·.dst)=some d→I s j (a.tmps.getD d undef) w→I s' j (a.tmps.getD d undef) w')) a w
def Ec (ops:Array Oper) (k:Nat):Bool:=(List.range ops.size).all fun j=>decide (j < k) || (List.range j).all fun i=>(earlyL ops j).contains i
theorem A8 {k j i:Nat} (h:Ec ops k=true) (hj:j < ops.size) (hk:k≤j) (hi:i < j):i∈earlyL ops j:=by
 have h1:=List.all_eq_true.1 h j (List.mem_range.2 hj);rw [Bool.or_eq_true,decide_eq_true_eq] at h1;rcases h1 with h1 | h1
 ·omega
 ·exact List.contains_iff_mem.1 (List.all_eq_true.1 h1 i (List.mem_range.2 hi))
theorem vL {L:Array Bool} {i:Nat} (h:i∈Region.ready .any ops L) (hs:L.size=ops.size):i < ops.size∧A7 ops L i:=by
 obtain ⟨h1,o,ho,hdep⟩:=mem_ready.1 h;have his:i < ops.size:=(Array.getElem?_eq_some_iff.1 ho).1;refine ⟨his,?_,fun x hx=>?_⟩
 ·rw [Array.getD_eq_getD_getElem?,Array.getElem?_eq_getElem (by omega)] at h1 ⊢;simpa using h1
 ·obtain ⟨e,he,h5,h6⟩:=F7 ho hx;have h7:=hdep e he h6;rw [h5] at h7;exact h7
theorem rI {L:Array Bool} {i:Nat} (hi:i < L.size) (h:L.getD i false=false):L.toList[i]?=some false:=by rw [Array.getD_eq_getD_getElem?,Array.getElem?_eq_getElem hi] at h;rw [Array.getElem?_toList,Array.getElem?_eq_getElem hi];simpa using h
theorem lL.next {L:Array Bool} {i:Nat} (h:lL ops L) (hr:A7 ops L i) (hi:i < L.size):lL ops (L.setIfInBounds i true):=fun j hj x hx=>by
 have hx2:L.getD x false=true:=by
  by_cases hji:j=i
  ·subst hji;exact hr.2 x hx
  ·rw [getD_set_ne false (Ne.symm hji)] at hj;exact h j hj x hx
 by_cases hxi:x=i
 ·subst hxi;rw [Array.getD_eq_getD_getElem?,Array.getElem?_setIfInBounds_self_of_lt hi];rfl
 ·rw [getD_set_ne false (Ne.symm hxi)];exact hx2
theorem yB {L:Array Bool} {i:Nat} (h:lL ops L) (hr:A7 ops L i):∀ x∈earlyL ops i,L.getD x false=true :=
 tY (D:=fun x=>L.getD x false=true) hr.2 (fun j hj x hx=>h j hj x hx)
theorem vM (ht:∀ n,dO ops n=true→True) {k:Nat} (hl:Ec ops k=true) {n0:Nat} (htd:dO ops n0=true):∀ (m j fuel:Nat) (L:Array Bool) (a:Act) (w:World),ops.size=j+m→k≤j→m≤fuel→L.size=ops.size→lL ops L→(∀ i,i < j→L.getD i false=true)→(∀ i,j≤i→L.getD i false=false) →
  wpList P ops Q (ops.toList.drop j) a w→wpAny P .any ops Q fuel L a w
 | 0,j,fuel,L,a,w,hm,hk,hf,hs,hc,hd,hn,h=>by
  have hnil:Region.ready .any ops L=[]:=by
   cases hr:Region.ready .any ops L with
   | nil=>rfl
   | cons i rest =>
    obtain ⟨h1,h2⟩:=vL (by rw [hr];exact List.mem_cons_self) hs;have h3:=h2.1;rw [hd i (by omega)] at h3;cases h3
  rw [List.drop_of_length_le (by simp;omega)] at h;cases fuel with
  | zero=>exact ⟨hnil,h⟩
  | succ fuel=>exact ⟨fun _=>h,by rw [hnil];simp⟩
 | m+1,j,0,L,a,w,hm,hk,hf,hs,hc,hd,hn,h=>by omega
 | m+1,j,fuel+1,L,a,w,hm,hk,hf,hs,hc,hd,hn,h=>by
  have hj:j < ops.size:=by omega
  have only:∀ i∈Region.ready .any ops L,i=j:=fun i hi=>by
   obtain ⟨h1,h2⟩:=vL hi hs;rcases Nat.lt_trichotomy i j with h3 | h3 | h3
   ·have h4:=h2.1;rw [hd i h3] at h4;cases h4
   ·exact h3
   ·have:=yB hc h2 j (A8 hl h1 (by omega) h3);rw [hn j (Nat.le_refl _)] at this;cases this
  refine ⟨fun hr=>?_,fun i hi=>?_⟩
  ·have:=gI htd hs hr j hj;have h2:=hn j (Nat.le_refl _);rw [Array.getD_eq_getD_getElem?,Array.getElem?_eq_getElem (by omega)] at this h2;simp at this h2;rw [this] at h2;cases h2
  ·obtain ⟨h1,h2⟩:=vL hi hs;obtain rfl:=only i hi;have e:ops.toList.drop i=ops[i]::ops.toList.drop (i+1):=by rw [List.drop_eq_getElem_cons (by simpa using hj)];simp
   rw [e] at h;have key:wpOp P ops Q i (fun a' w'=>wpList P ops Q (ops.toList.drop (i+1)) a' w') a w:=by unfold wpOp;rw [Array.getElem?_eq_getElem hj];exact h
   refine wpOp_mono ?_ key;intro a' w' hq;refine vM ht hl htd m (i+1) fuel _ a' w' (by omega) (by omega) (by omega) (by simpa using hs) (hc.next h2 (by omega)) (fun x hx=>?_) (fun x hx=>?_) hq
   ·by_cases hxi:x=i
    ·subst hxi;rw [Array.getD_eq_getD_getElem?,Array.getElem?_setIfInBounds_self_of_lt (by omega)];rfl
    ·rw [getD_set_ne false (Ne.symm hxi)];exact hd x (by omega)
   ·rw [getD_set_ne false (by omega)];exact hn x (by omega)
theorem vN {t0:Array Value} {d0:List Deferred} {G:σ→World→Prop} {I:σ→Nat→Value→World→Prop} {V:σ→Array Bool→Prop} {k:Nat} (hk:k < ops.size) (hl:Ec ops k=true) (ht:dO ops t0.size=true)
  (hstep:∀ i,i < k→Vo P ops Q t0 G I V i)
  (hfin:∀ s L a w,RInvG ops t0 d0 G I V s L a w→(∀ i,i < k→L.getD i false=true)→(∀ i,k≤i→L.getD i false=false)→wpList P ops Q (ops.toList.drop k) a w) :
  ∀ (fuel:Nat) (s:σ) (L:Array Bool) (a:Act) (w:World),L.size=ops.size→L.toList.count false≤fuel→lL ops L→(∀ i,k≤i→L.getD i false=false)→RInvG ops t0 d0 G I V s L a w→wpAny P .any ops Q fuel L a w:=by
 intro fuel
 induction fuel with
 | zero =>
  intro s L a w hs hc hcl hn h;have:=fF _ _ (rI (by omega) (hn k (Nat.le_refl _)));omega
 | succ fuel ih =>
  intro s L a w hs hc hcl hn h;by_cases hall:∀ i,i < k→L.getD i false=true
  ·have hcnt:ops.size - k≤L.toList.count false:=by
    have key:∀ (l:List Bool) (k:Nat),(∀ i,k≤i→i < l.length→l[i]?=some false)→l.length - k≤l.count false:=by
     intro l
     induction l with
     | nil=>intro k _;simp
     | cons b l ihl =>
      intro k hk;cases k with
      | zero =>
       have h0:=hk 0 (Nat.le_refl _) (by simp);simp at h0;subst h0;have:=ihl 0 (fun i _ hi=>by have:=hk (i+1) (by omega) (by simpa using hi);simpa using this);simp at this ⊢;omega
      | succ k =>
       have:=ihl k (fun i hi hi2=>by have:=hk (i+1) (by omega) (by simpa using hi2);simpa using this);rw [List.count_cons];simp;omega
    have:=key L.toList k (fun i h1 h2=>rI (by simpa using h2) (hn i h1));simpa [hs] using this
   exact vM (fun _ _=>trivial) hl ht (ops.size - k) k (fuel+1) L a w (by omega) (Nat.le_refl _) (by omega) hs hcl hall hn (hfin s L a w h hall hn)
  ·refine ⟨fun hr=>?_,fun i hi=>?_⟩
   ·exfalso;apply hall;intro i hi;have h1:=gI ht hs hr i (by omega);rw [Array.getD_eq_getD_getElem?,Array.getElem?_eq_getElem (by omega)] at h1 ⊢;simpa using h1
   ·obtain ⟨his,hr⟩:=vL hi hs;have hik:i < k:=by
     rcases Nat.lt_or_ge i k with h1 | h1
     ·exact h1
     ·exfalso;apply hall;intro x hx;exact yB hcl hr x (A8 hl his h1 (by omega))
    have hc1:=fF _ _ (rI (by omega) hr.1);refine wpOp_mono ?_ (hstep i hik s L a w (fun t ht=>h.frame t ht) h.glob h.cons hs hcl hr (fun j d hw=>?_))
    ·rintro a' w' ⟨s',v,rfl,hV,hG,hI,hst⟩;refine ih s' _ _ _ (by simpa using hs) ?_ (hcl.next hr (by omega)) (fun x hx=>by rw [getD_set_ne false (by omega)];exact hn x hx) ⟨by rw [mX];exact h.size,by rw [jM];exact h.defers,fun t hf=>?_,hG,hV,fun j d hd hj=>?_⟩
     ·rw [Array.toList_setIfInBounds];omega
     ·rw [fK ?_]
      ·exact h.frame t hf
      ·intro hd;obtain ⟨o,ho,hd⟩:=Option.bind_eq_some_iff.1 hd;have:=Array.all_eq_true'.1 hf o (Array.mem_of_getElem? ho);simp [hd] at this
     ·by_cases hji:j=i
      ·subst hji;rw [tS hd (by rw [h.size];exact (gX ht hd).1)];exact hI d hd
      ·rw [getD_set_ne false (Ne.symm hji)] at hj;rw [fK (fun e=>hji ((gX ht e).2 j hd))];exact hst j d hd (h.done j d hd hj)
    ·have:j∈aft ops i:=by
      unfold bH at hw;unfold aft;cases ho:ops[i]? with
      | none=>simp [ho] at hw
      | some o =>
       simp only [ho,Bool.and_eq_true,beq_iff_eq] at hw;obtain ⟨e,he,h2⟩:=Array.any_eq_true'.1 hw.1;simp only [Bool.and_eq_true,beq_iff_eq] at h2;exact List.mem_map.2 ⟨e,List.mem_filter.2 ⟨Array.mem_toList_iff.2 he,h2.2⟩,h2.1⟩
     have hd:(ops[j]?).bind (·.dst)=some d:=by unfold bH at hw;simp only [Bool.and_eq_true,beq_iff_eq] at hw;exact hw.2
     exact h.done j d hd (hr.2 j this)
end
structure Sg where
 ev:Option Value
 bs:List (Nat×Nat)
def OE (ca:Nat→Option Value→List Value) (ta:Nat→TypeId) (Os:Option Value→Own) (s:Sg):Own:=s.bs.map (fun q=>(q.2,ca q.1 s.ev,ta q.1))++Os s.ev
def XB (O:Own) (G:cV) (b:Nat):Prop:=(∃ p∈O,p.1=b)∨(∃ g∈G,g.v.ownBlock=some b)
def iW (lo:Nat) (X:Nat→Prop) (w w':World):Prop:=(w'.os=w.os∧w'.tape=w.tape∧w'.output=w.output)∧w.heap.size≤w'.heap.size∧∀ b,lo≤b→b < w.heap.size→¬ X b→w'.heap[b]?=w.heap[b]?
def AwS (lo:Nat) (X:Nat→Prop) (p:Asr):Asr:=fun v w=>∀ w',iW lo X w w'→p v w'
section
variable {lo:Nat} {X X':Nat→Prop} {w w' w'':World} {p:Asr} {v c:Value}
theorem iW.refl (lo:Nat) (X:Nat→Prop) (w:World):iW lo X w w:=⟨⟨rfl,rfl,rfl⟩,Nat.le_refl _,fun _ _ _ _=>rfl⟩
theorem I3 (h:Below w.heap.size w w'):iW lo X w w':=⟨⟨h.os,h.tape,h.output⟩,h.size,fun b _ hb _=>h.block b hb⟩
theorem iW.trans (h:iW lo X w w') (k:iW lo X' w' w'') (hx:∀ b,X' b→X b∨w.heap.size≤b):iW lo X w w'' :=
 ⟨⟨k.1.1.trans h.1.1,k.1.2.1.trans h.1.2.1,k.1.2.2.trans h.1.2.2⟩,Nat.le_trans h.2.1 k.2.1,fun b h1 h2 h3=>(k.2.2 b h1 (Nat.lt_of_lt_of_le h2 h.2.1) (fun hb=>(hx b hb).elim h3 (fun h4=>by omega))).trans (h.2.2 b h1 h2 h3)⟩
theorem iW.mono (h:iW 0 X w w'):iW lo X w w':=⟨h.1,h.2.1,fun b _ hb hx=>h.2.2 b (Nat.zero_le _) hb hx⟩
theorem AwS.here (h:AwS lo X p v w):p v w:=h w (iW.refl _ _ _)
theorem AwS.next (h:AwS lo X p v w) (hs:iW 0 X w w') (hx:∀ b,X' b→X b∨w.heap.size≤b):AwS lo X' p v w':=fun w2 h2=>h w2 (hs.mono.trans h2 hx)
theorem awS_isV:AwS lo X (isV c) c w:=fun _ _=>rfl
end
section
variable {P:Program} {n:Nat} {Q:Exit→Act→World→Prop} {l:Fr} {w0 W:World} {ops:Array Oper} {os:List Oper} {K:List (Nat×World)} {L:List Asr} {i:Nat}
variable {al:List Nat} {ca:Nat→Option Value→List Value} {ta:Nat→TypeId} {Os:Option Value→Own} {Gs:Option Value→cV} {lo ef jy:Nat} {s:Sg}
theorem St.drops {O:Own} {G:cV} {w:World}:∀ (A:Own),St w0 (A++O) G K w→St w0 O G K w
 | [],h=>h
 | _::A,h=>St.drops A h.tail
def GG (w0:World) (K:List (Nat×World)) (lo:Nat) (ca:Nat→Option Value→List Value) (ta:Nat→TypeId) (Os:Option Value→Own) (Gs:Option Value→cV) (s:Sg) (w:World):Prop:=St w0 (OE ca ta Os s) (Gs s.ev) K w∧lo≤w.heap.size∧∀ q∈s.bs,lo≤q.2
def VG (al:List Nat) (ef:Nat) (s:Sg) (L:Array Bool):Prop:=(∀ a∈al,L.getD a false=true↔∃ B,(a,B)∈s.bs)∧(∀ q∈s.bs,q.1∈al)∧s.bs.Pairwise (fun p q=>p.1≠q.1)∧(L.getD ef false=true↔s.ev.isSome=true)
def IG (al:List Nat) (ef jy lo:Nat) (ca:Nat→Option Value→List Value) (ta:Nat→TypeId) (Os:Option Value→Own) (Gs:Option Value→cV) (L:List Asr) (s:Sg) (i:Nat) (v:Value) (w:World):Prop :=
 (i∈al→∃ B,(i,B)∈s.bs∧v = .pointer (some ⟨B,0,none⟩))∧(i=ef→s.ev=some v)∧(i=jy→∀ y,s.ev=some y→v=y)∧(i∉al→i≠ef→AwS lo (XB (OE ca ta Os s) (Gs s.ev)) (atI L i) v w)
def Tr (ops:Array Oper) (jy:Nat) (ca:Nat→Option Value→List Value) (ta:Nat→TypeId) (Os:Option Value→Own) (Gs:Option Value→cV) (s s':Sg) (a:Act) (w w':World):Prop :=
 iW 0 (XB (OE ca ta Os s) (Gs s.ev)) w w'∧(∀ b,XB (OE ca ta Os s') (Gs s'.ev) b→XB (OE ca ta Os s) (Gs s.ev) b∨w.heap.size≤b)∧(∀ q∈s.bs,q∈s'.bs)∧(s'.ev=s.ev∨(s.ev=none∧∃ y,s'.ev=some y∧∀ d,(ops[jy]?).bind (·.dst)=some d→a.eval (.tmp d)=y))
theorem Tr.refl {a:Act} {w w':World} (h:Below w.heap.size w w'):Tr ops jy ca ta Os Gs s s a w w':=⟨I3 h,fun b hb=>.inl hb,fun q hq=>hq,.inl rfl⟩
def SG (P:Program) (n:Nat) (ops:Array Oper) (Q:Exit→Act→World→Prop) (l:Fr) (w0:World) (K:List (Nat×World)) (lo:Nat) (al:List Nat) (ef jy:Nat) (ca:Nat→Option Value→List Value) (ta:Nat→TypeId) (Os:Option Value→Own) (Gs:Option Value→cV) (L:List Asr) (i:Nat):Prop :=
 ∀ t0,Has n l t0→∀ s LB (a:Act) w,(∀ t,freeT ops t=true→a.eval (.tmp t)=t0.tmps.getD t undef)→GG w0 K lo ca ta Os Gs s w→VG al ef s LB→LB.size=ops.size→lL ops LB→A7 ops LB i→(∀ j d,bH ops i j d=true→IG al ef jy lo ca ta Os Gs L s j (a.eval (.tmp d)) w) →
  wpOp P ops Q i (fun a' w'=>∃ s' v,a'=a.put ((ops[i]?).bind (·.dst)) v∧VG al ef s' (LB.setIfInBounds i true)∧GG w0 K lo ca ta Os Gs s' w'∧Tr ops jy ca ta Os Gs s s' a w w'∧(∀ d,(ops[i]?).bind (·.dst)=some d→IG al ef jy lo ca ta Os Gs L s' i v w')) a w
theorem SG.step (h:SG P n ops Q l w0 K lo al ef jy ca ta Os Gs L i):∀ a,Has n l a→Vo P ops Q a.tmps (GG w0 K lo ca ta Os Gs) (IG al ef jy lo ca ta Os Gs L) (VG al ef) i:=fun t0 h0 s LB a w hF hG hV hs hc hr hD=>by
 refine wpOp_mono ?_ (h t0 h0 s LB a w hF hG hV hs hc hr hD);rintro a' w' ⟨s',v,h1,h2,h3,⟨t1,t2,t3,t4⟩,h5⟩;refine ⟨s',v,h1,h2,h3,h5,fun j d hd hj=>⟨fun hj1=>?_,fun hj1=>?_,fun hj1 y hy=>?_,fun h6 h7=>(hj.2.2.2 h6 h7).next t1 t2⟩⟩
 ·obtain ⟨B,hB,e⟩:=hj.1 hj1;exact ⟨B,t3 _ hB,e⟩
 ·rcases t4 with t4 | ⟨t4,_⟩
  ·rw [t4];exact hj.2.1 hj1
  ·have:=hj.2.1 hj1;rw [t4] at this;cases this
 ·rcases t4 with t4 | ⟨t4,y',t5,t6⟩
  ·rw [t4] at hy;exact hj.2.2.1 hj1 y hy
  ·rw [t5] at hy;cases hy;subst hj1;exact t6 d hd
theorem SG.ext {L1 L2:List Asr} (ht:dO ops n=true) (hag:∀ j,j≤i→atI L1 j=atI L2 j) (h:SG P n ops Q l w0 K lo al ef jy ca ta Os Gs L1 i):SG P n ops Q l w0 K lo al ef jy ca ta Os Gs L2 i:=fun t0 h0 s LB a w hF hG hV hs hc hr hD=>by
 have hlt:∀ j d,bH ops i j d=true→j < i:=fun j d hw=>by
  cases ho:ops[i]? with
  | none=>simp [bH,ho] at hw
  | some o =>
   simp only [bH,ho,Bool.and_eq_true,beq_iff_eq] at hw;obtain ⟨e,he,h2⟩:=Array.any_eq_true'.1 hw.1;simp only [Bool.and_eq_true,beq_iff_eq] at h2;rw [← h2.1];exact jL ht ho e he h2.2
 have h2:=h t0 h0 s LB a w hF hG hV hs hc hr (fun j d hw=>by unfold IG;rw [hag j (Nat.le_of_lt (hlt j d hw))];exact hD j d hw);unfold IG at h2;rw [hag i (Nat.le_refl _)] at h2;exact h2
def oG (ops:Array Oper) (ef i:Nat):Bool:=Nat.ble ops.size ef || (earlyL ops ef).contains i
def xF (ops:Array Oper) (ef jy i:Nat):Bool := !Nat.beq i jy || oG ops ef i
theorem sO (h:xF ops ef jy i=true):i=jy→oG ops ef i=true:=fun e=>by unfold xF at h;rw [e,Nat.beq_refl] at h;rw [e];exact h
theorem vO {L:Array Bool} (hV:VG al ef s L) (hs:L.size=ops.size) (hc:lL ops L) (hi:L.getD i false=false) (he:oG ops ef i=true):s.ev=none:=by
 cases hev:s.ev with
 | none=>rfl
 | some v =>
  have hd:L.getD ef false=true:=hV.2.2.2.2 (by rw [hev];rfl);unfold oG at he;rw [Bool.or_eq_true] at he;rcases he with he | he
  ·have h1:ops.size≤ef:=Nat.le_of_ble_eq_true he;rw [Array.getD_eq_getD_getElem?,Array.getElem?_eq_none (by omega)] at hd;cases hd
  ·have:=tY (D:=fun x=>L.getD x false=true) (hc ef hd) (fun j hj x hx=>hc j hj x hx) i (List.contains_iff_mem.1 he);rw [hi] at this;cases this
theorem vQ {t0:Act} (h0:Has n l t0) {a:Act} {w:World} (hF:∀ t,freeT ops t=true→a.eval (.tmp t)=t0.tmps.getD t undef) (hD:∀ j d,bH ops i j d=true→IG al ef jy lo ca ta Os Gs L s j (a.eval (.tmp d)) w)
  (hn:∀ j d,bH ops i j d=true→j∈al∨j=ef→atI L j=anyA):∀ j d,bH ops i j d=true→atI L j (a.eval (.tmp d)) w:=fun j d hw=>by
 by_cases h1:j∈al∨j=ef
 ·rw [hn j d hw h1];trivial
 ·rw [not_or] at h1;exact ((hD j d hw).2.2.2 h1.1 h1.2).here
def rJ (al:List Nat) (ef:Nat) (L:List Asr):Prop:=∀ j,j∈al∨j=ef→atI L j=anyA
theorem I4 {L:Array Bool} (hV:VG al ef s L) (hi:i∉al) (he:i≠ef):VG al ef s (L.setIfInBounds i true) :=
 ⟨fun a ha=>by rw [getD_set_ne false (fun e=>hi (by rw [e];exact ha))];exact hV.1 a ha,hV.2.1,hV.2.2.1,by rw [getD_set_ne false he];exact hV.2.2.2⟩
variable {d:Nat} {op:Op} {ty:TypeId} {pos:String} {aft_:Array Edge} {v:Value} {gd:Option (Nat×Bool)}
theorem Gi (hal:i∉al) (hie:i≠ef) (hij:i=jy→oG ops ef i=true) (hi:ops[i]?=some ⟨some d,op,ty,pos,aft_,gd⟩) (hNo:rJ al ef L)
  (h:∀ (t0 a:Act) s w,Has n l t0→(∀ t,freeT ops t=true→a.eval (.tmp t)=t0.tmps.getD t undef)→GG w0 K lo ca ta Os Gs s w→(oG ops ef i=true→s.ev=none)→(∀ j d,bH ops i j d=true→IG al ef jy lo ca ta Os Gs L s j (a.eval (.tmp d)) w)→(∀ j d,bH ops i j d=true→atI L j (a.eval (.tmp d)) w) →
   wpOp P ops Q i (fun a' w'=>∃ v,a'=a.put (some d) v∧AwS lo (XB (OE ca ta Os s) (Gs s.ev)) (atI L i) v w'∧Below w.heap.size w w') a w):SG P n ops Q l w0 K lo al ef jy ca ta Os Gs L i:=fun t0 h0 s LB a w hF hG hV hs hc hr hD=>by
 refine wpOp_mono ?_ (h t0 a s w h0 hF hG (fun he=>vO hV hs hc hr.1 he) hD (vQ h0 hF hD fun j d _ hj=>hNo j hj));rintro a' w' ⟨v,rfl,hA,hb⟩;refine ⟨s,v,by rw [hi];rfl,I4 hV hal hie,⟨hG.1.grow hb,Nat.le_trans hG.2.1 hb.size,hG.2.2⟩,Tr.refl hb,fun _ _=>⟨fun h=>absurd h hal,fun h=>absurd h hie,(fun h y hy=>by rw [vO hV hs hc hr.1 (hij h)] at hy;cases hy),fun _ _=>hA⟩⟩
theorem Mc {o:Oper} {a:Act} {w w':World} {K':Act→World→Prop} (hi:ops[i]?=some o) (hw:Region.wanted o (yielded ops a.tmps)=true) (hr:(execOp a.eval o).run P w = .ok (.value v) w') (hK:K' (a.put o.dst v) w'):wpOp P ops Q i K' a w:=by unfold wpOp;simp only [hi,hw,if_true];refine .inl ?_;unfold Oper.wp;rw [hr];exact hK
theorem sgV (li:Fr) (hal:al.contains i=false) (hie:Nat.beq i ef=false) (hij:xF ops ef jy i=true) (hi:ops[i]?=some ⟨some d,op,ty,pos,aft_,gd⟩) (hNo:rJ al ef L) (hw:fT ops L i ⟨some d,op,ty,pos,aft_,gd⟩) (hli:wV n ops l L i li)
  (hr:∀ ev w,(oG ops ef i=true→ev=none)→St w0 (Os ev) (Gs ev) K w→gA P li ⟨some d,op,ty,pos,#[],none⟩ w v w) (hI:atI L i=isV v):SG P n ops Q l w0 K lo al ef jy ca ta Os Gs L i :=
 Gi (fun h=>by rw [List.contains_iff_mem.2 h] at hal;cases hal) (fun e=>by rw [e,Nat.beq_refl] at hie;cases hie) (sO hij) hi hNo fun t0 a s w h0 hF hG he hD hD'=>by have hS:St w0 (Os s.ev) (Gs s.ev) K w:=St.drops _ hG.1;exact Mc hi (hw.yes hD') (by rw [eR a.eval _ _ _ _ pos _ #[] _ none];exact hr s.ev w he hS a.eval (jA h0 hF hD' hli)) ⟨v,rfl,by rw [hI];exact awS_isV,Below.refl _ _⟩
theorem zA {f:FuncId} {xs:List Operand} {ts:Array TypeId} (ps:List Asr) (hal:al.contains i=false) (hie:Nat.beq i ef=false) (hij:xF ops ef jy i=true) (hi:ops[i]?=some ⟨some d,.call { callee:=.value (.func f),args:=xs.toArray,argTypes:=ts },ty,pos,aft_,gd⟩) (hNo:rJ al ef L) (hgo:bJ P f=true)
  (hw:fT ops L i ⟨some d,.call { callee:=.value (.func f),args:=xs.toArray,argTypes:=ts },ty,pos,aft_,gd⟩) (hp:tC n ops l L i xs ps)
  {p:Asr} (hc:∀ vs ev w,(oG ops ef i=true→ev=none)→St w0 (Os ev) (Gs ev) K w→lo≤w.heap.size→lV ps vs w→Calls P f vs.toArray w (wW p w)) (hI:atI L i=p):SG P n ops Q l w0 K lo al ef jy ca ta Os Gs L i :=
 Gi (fun h=>by rw [List.contains_iff_mem.2 h] at hal;cases hal) (fun e=>by rw [e,Nat.beq_refl] at hie;cases hie) (sO hij) hi hNo fun t0 a s w h0 hF hG he hD hD'=>by
  have hS:St w0 (Os s.ev) (Gs s.ev) K w:=St.drops _ hG.1;have h1:=hc (xs.map a.eval) s.ev w he hS hG.2.1 (gB h0 hF hD' hp);rw [show (xs.map a.eval).toArray=xs.toArray.map a.eval by simp] at h1;unfold wpOp;simp only [hi,hw.yes hD',if_true];refine .inl ?_;unfold Oper.wp;rw [lT P a.eval w f xs.toArray ts _ rfl rfl hgo,Oper.upon_enter];refine h1.mono ?_;rintro e w' ⟨v,rfl,hv,hb⟩;refine ⟨v,by simp,?_,hb⟩;rw [hI];intro w2 h2;refine hv w2 ⟨h2.2.1,fun b h3 h4=>h2.2.2 b (Nat.le_trans hG.2.1 h3) h4 (fun hx=>?_)⟩;rcases hx with ⟨q,hq,rfl⟩ | ⟨g,hg,hgb⟩
  ·have:=cA (hG.1.own q hq).2;omega
  ·have:=(hG.1.glt hg hgb).2;omega
theorem sg_rowV {T e:TypeId} {m sz:Nat} {xs:List (Nat×Operand)} {us:List Value} {z:Value} {cs:List Value} (hal:al.contains i=false) (hie:Nat.beq i ef=false) (hij:xF ops ef jy i=true) (hi:ops[i]?=some ⟨some d,.buildSlice T m xs.toArray,ty,pos,aft_,gd⟩) (hNo:rJ al ef L) (hw:fT ops L i ⟨some d,.buildSlice T m xs.toArray,ty,pos,aft_,gd⟩)
  (hU:P.underlying T=some (.slice e)) (hs:∀ w,(sizeOf e).run P w = .ok sz w) (hz:∀ w,(zeroValue e).run P w = .ok z w) (hm:Nat.ble (m * sz) 16777216=true) (hm0:Nat.beq (m * sz) 0=false) (hp:tC n ops l L i (xs.map (·.2)) (us.map isV))
  (hf:Instr.fill (fun i=>some (i * sz,sz)) ((Array.range (m * sz)).map (z.cells[· % z.cells.size]!)) ((xs.map (·.1)).zip us)=some cs.toArray) (hI:atI L i=oV lo m e cs):SG P n ops Q l w0 K lo al ef jy ca ta Os Gs L i :=
 Gi (fun h=>by rw [List.contains_iff_mem.2 h] at hal;cases hal) (fun e=>by rw [e,Nat.beq_refl] at hie;cases hie) (sO hij) hi hNo fun t0 a s w h0 hF hG he hD hD'=>by
  have hv:=bW (gB h0 hF hD' hp);have h4:m * sz≤16777216:=Nat.le_of_ble_eq_true hm;have h5:m * sz≠0:=fun e=>by rw [e] at hm0;cases hm0
  have h6:¬ (m * sz > 2 ^ 24):=by omega
  have h7:xs.map (fun p=>(p.1,a.eval p.2))=(xs.map (·.1)).zip us:=by
   rw [← hv];clear hi hw hp hv hf
   induction xs with
   | nil=>rfl
   | cons x xs ih=>simp only [List.map_cons,List.zip_cons_cons,← ih]
  have hB:Below w.heap.size w (w.alloc (.cells cs.toArray e)):=(Below.refl _ _).alloc (Nat.le_refl _) _;refine Mc hi (hw.yes hD') (v:=.slice (some ⟨w.heap.size,0,none⟩) m m) (w':=w.alloc (.cells cs.toArray e)) ?_ ⟨_,rfl,?_,hB⟩
  ·unfold execOp;simp only [];rw [show (Array.map (fun p=>(p.1,a.eval p.2)) xs.toArray)=(xs.map (fun p=>(p.1,a.eval p.2))).toArray by simp,h7];simp only [Instr.buildSlice,Sem.run_bind,run_underlying hU,Result.andThen_ok,hs,if_neg h6,if_neg h5,hz,Sem.run_pure,hf,newRow,run_newObj_alloc]
  ·rw [hI];intro w2 h2;have hnew:=heap_alloc_new w (.cells cs.toArray e);refine ⟨w.heap.size,rfl,hG.2.1,(h2.2.2 _ hG.2.1 (cA hnew) (fun hx=>?_)).trans hnew⟩;rcases hx with ⟨q,hq,e1⟩ | ⟨g,hg,hgb⟩
   ·have:=cA (hG.1.own q hq).2;omega
   ·have:=(hG.1.glt hg hgb).2;omega
theorem I5 {T:TypeId} {z:Value} (hal:al.contains i=true) (hie:Nat.beq i ef=false) (hij:Nat.beq i jy=false) (hi:ops[i]?=some ⟨some d,.alloc T,ty,pos,aft_,none⟩) (hT:ta i=T) (hz:∀ w,(zeroValue T).run P w = .ok z w) (hc:∀ ev,(oG ops ef i=true→ev=none)→z.cells=(ca i ev).toArray):SG P n ops Q l w0 K lo al ef jy ca ta Os Gs L i:=fun t0 h0 s LB a w hF hG hV hs hcl hr hD=>by
 have hal':i∈al:=List.contains_iff_mem.1 hal;have hie':i≠ef:=fun e=>by rw [e,Nat.beq_refl] at hie;cases hie
 have hcz:=hc s.ev (fun he=>vO hV hs hcl hr.1 he);have hB:Below w.heap.size w (w.alloc (.cells (ca i s.ev).toArray T)):=(Below.refl _ _).alloc (Nat.le_refl _) _;have hnot:¬ ∃ B,(i,B)∈s.bs:=fun h=>by have:=(hV.1 i hal').2 h;rw [hr.1] at this;cases this
 refine Mc hi rfl (v:=.pointer (some ⟨w.heap.size,0,none⟩)) (w':=w.alloc (.cells (ca i s.ev).toArray T)) (by unfold execOp;simp only [];simp [Instr.alloc,newVar,newRow,hz,hcz]) ?_;have hX:∀ b,XB (OE ca ta Os ⟨s.ev,(i,w.heap.size)::s.bs⟩) (Gs s.ev) b→XB (OE ca ta Os s) (Gs s.ev) b∨w.heap.size≤b:=by
  rintro b (⟨q,hq,rfl⟩ | h)
  ·unfold OE at hq;rw [List.map_cons,List.cons_append] at hq;rcases List.mem_cons.1 hq with rfl | hq
   ·exact .inr (Nat.le_refl _)
   ·exact .inl (.inl ⟨q,hq,rfl⟩)
  ·exact .inl (.inr h)
 refine ⟨⟨s.ev,(i,w.heap.size)::s.bs⟩,_,by rw [hi];rfl,⟨fun a ha=>?_,fun q hq=>?_,List.Pairwise.cons (fun q hq e=>hnot ⟨q.2,by rw [show i=q.1 from e];exact hq⟩) hV.2.2.1,by rw [getD_set_ne false hie'];exact hV.2.2.2⟩,⟨?_,Nat.le_trans hG.2.1 hB.size,fun q hq=>?_⟩,⟨I3 hB,hX,fun q hq=>List.mem_cons_of_mem _ hq,.inl rfl⟩,fun _ _=>⟨fun _=>⟨w.heap.size,List.mem_cons_self,rfl⟩,fun h=>absurd h hie',fun h=>absurd hij (by rw [h,Nat.beq_refl];decide),fun h=>absurd hal' h⟩⟩
 ·by_cases hai:a=i
  ·subst hai;rw [Array.getD_eq_getD_getElem?,Array.getElem?_setIfInBounds_self_of_lt (by rw [hs];exact (Array.getElem?_eq_some_iff.1 hi).1)];exact ⟨fun _=>⟨_,List.mem_cons_self⟩,fun _=>rfl⟩
  ·rw [getD_set_ne false (Ne.symm hai),hV.1 a ha];constructor
   ·rintro ⟨B,hB⟩;exact ⟨B,List.mem_cons_of_mem _ hB⟩
   ·rintro ⟨B,hB⟩;rcases List.mem_cons.1 hB with h | h
    ·exact absurd (congrArg Prod.fst h) hai
    ·exact ⟨B,h⟩
 ·rcases List.mem_cons.1 hq with rfl | hq
  ·exact hal'
  ·exact hV.2.1 q hq
 ·have h1:=hG.1.alloc (ca i s.ev) (ta i);rw [hT] at h1;unfold OE;rw [List.map_cons,List.cons_append,hT];exact h1
 ·rcases List.mem_cons.1 hq with rfl | hq
  ·exact hG.2.1
  ·exact hG.2.2 q hq
theorem Md {o:Oper} (hal:al.contains ef=false) (hij:Nat.beq ef jy=false) (hi:ops[ef]?=some o)
  (h:∀ (t0 a:Act) bs w,Has n l t0→(∀ t,freeT ops t=true→a.eval (.tmp t)=t0.tmps.getD t undef)→GG w0 K lo ca ta Os Gs ⟨none,bs⟩ w→bs.Pairwise (fun p q=>p.1≠q.1)→(∀ j d,bH ops ef j d=true→IG al ef jy lo ca ta Os Gs L ⟨none,bs⟩ j (a.eval (.tmp d)) w) →
   wpOp P ops Q ef (fun a' w'=>∃ v y,a'=a.put o.dst v∧(∀ d,o.dst=some d→v=y)∧St w0 (OE ca ta Os ⟨some y,bs⟩) (Gs (some y)) K w'∧iW 0 (XB (OE ca ta Os ⟨none,bs⟩) (Gs none)) w w'∧(∀ b,XB (OE ca ta Os ⟨some y,bs⟩) (Gs (some y)) b→XB (OE ca ta Os ⟨none,bs⟩) (Gs none) b∨w.heap.size≤b)∧(∀ d,(ops[jy]?).bind (·.dst)=some d→a.eval (.tmp d)=y)) a w):SG P n ops Q l w0 K lo al ef jy ca ta Os Gs L ef:=fun t0 h0 s LB a w hF hG hV hs hc hr hD=>by
 have hal':ef∉al:=fun h=>by rw [List.contains_iff_mem.2 h] at hal;cases hal
 obtain ⟨ev,bs⟩:=s;have hev:ev=none:=by
  cases ev with
  | none=>rfl
  | some v=>have:=hV.2.2.2.2 rfl;rw [hr.1] at this;cases this
 subst hev;refine wpOp_mono ?_ (h t0 a bs w h0 hF hG hV.2.2.1 hD);rintro a' w' ⟨v,y,rfl,hvy,hSt,hsame,hX,hy⟩;refine ⟨⟨some y,bs⟩,v,by rw [hi];rfl,⟨fun a ha=>by rw [getD_set_ne false (fun e=>hal' (by rw [e];exact ha))];exact hV.1 a ha,hV.2.1,hV.2.2.1,?_⟩,⟨hSt,Nat.le_trans hG.2.1 hsame.2.1,hG.2.2⟩,⟨hsame,hX,fun q hq=>hq,.inr ⟨rfl,y,rfl,hy⟩⟩,fun d hd=>⟨fun h=>absurd h hal',fun _=>?_,fun h=>absurd hij (by rw [h,Nat.beq_refl];decide),fun _ h=>absurd rfl h⟩⟩
 ·rw [Array.getD_eq_getD_getElem?,Array.getElem?_setIfInBounds_self_of_lt (by rw [hs];exact (Array.getElem?_eq_some_iff.1 hi).1)];exact ⟨fun _=>rfl,fun _=>rfl⟩
 ·rw [hi] at hd;rw [hvy d hd]
theorem St.perm {O O':Own} {G:cV} {w:World} (h:St w0 O G K w) (hp:O.Perm O'):St w0 O' G K w where
 below:=h.below
 own:=fun p hp'=>h.own p (hp.mem_iff.2 hp')
 dist:=h.dist.perm hp (fun h=>Ne.symm h)
 kept:=fun q hq=>⟨(h.kept q hq).1,fun p hp'=>(h.kept q hq).2 p (hp.mem_iff.2 hp')⟩
 rows:=fun g hg=>⟨(h.rows g hg).1,fun b hb=>⟨fun p hp'=>((h.rows g hg).2 b hb).1 p (hp.mem_iff.2 hp'),((h.rows g hg).2 b hb).2⟩⟩
 gdist:=h.gdist
def tK (ds:List Nat):Fr→Fr
 | []=>[]
 | p::l=>bif ds.contains p.1 then tK ds l else p::tK ds l
theorem pZ {ds:List Nat} {t:Nat} {v:Value}:∀ {l:Fr},look (tK ds l) t=some v→t∉ds→look l t=some v
 | [],h,_=>by cases h
 | p::l,h,ht=>by
  unfold tK at h;unfold look;cases hc:ds.contains p.1 with
  | true =>
   rw [hc,cond_true] at h;cases hb:Nat.beq p.1 t with
   | true =>
    rw [Nat.eq_of_beq_eq_true hb] at hc;exact absurd (List.contains_iff_mem.1 hc) ht
   | false=>rw [cond_false];exact pZ h ht
  | false =>
   rw [hc,cond_false] at h;unfold look at h;cases hb:Nat.beq p.1 t with
   | true=>rw [hb,cond_true] at h;rw [cond_true];exact h
   | false=>rw [hb,cond_false] at h;rw [cond_false];exact pZ h ht
theorem gM {ds:List Nat} {t:Nat} {v:Value}:∀ {l:Fr},look (tK ds l) t=some v→t∉ds
 | [],h=>by cases h
 | p::l,h=>by
  unfold tK at h;cases hc:ds.contains p.1 with
  | true=>rw [hc,cond_true] at h;exact gM h
  | false =>
   rw [hc,cond_false] at h;unfold look at h;cases hb:Nat.beq p.1 t with
   | true =>
    intro hm;rw [← Nat.eq_of_beq_eq_true hb] at hm;rw [List.contains_iff_mem.2 hm] at hc;cases hc
   | false=>rw [hb,cond_false] at h;exact gM h
def Me (al:List Nat) (ef jy lo:Nat) (X:Nat→Prop) (Bf:Nat→Nat) (y:Value):Nat→List Asr→List Asr
 | _,[]=>[]
 | j,q::L=>(bif al.contains j then isV (.pointer (some ⟨Bf j,0,none⟩)) else bif Nat.beq j ef then isV y else bif Nat.beq j jy then (fun v w=>v=y∧AwS lo X q v w) else AwS lo X q)::Me al ef jy lo X Bf y (j+1) L
theorem rL {X:Nat→Prop} {Bf:Nat→Nat} {y:Value}:∀ (L:List Asr) (j i:Nat),i < L.length→atI (Me al ef jy lo X Bf y j L) i=(bif al.contains (i+j) then isV (.pointer (some ⟨Bf (i+j),0,none⟩)) else bif Nat.beq (i+j) ef then isV y else bif Nat.beq (i+j) jy then (fun v w=>v=y∧AwS lo X (atI L i) v w) else AwS lo X (atI L i))
 | [],j,i,h=>by simp at h
 | q::L,j,0,h=>by rw [Nat.zero_add];rfl
 | q::L,j,i+1,h=>by show atI (Me al ef jy lo X Bf y (j+1) L) i=_;rw [rL L (j+1) i (by simpa using h),show i+1+j=i+(j+1) by omega];rfl
theorem Vp:∀ (Bs:List Nat) (lo:Nat) (w:World),∃ Ks:List (Nat×World),(∀ q∈Ks,lo≤q.1∧dD q.1 q.2 w∧∀ B∈Bs,B < q.1∨q.2.heap.size≤B)∧(∃ q∈Ks,q.2=w)∧∀ b,lo≤b→b < w.heap.size→b∉Bs→∃ q∈Ks,q.1≤b∧b < q.2.heap.size
 | [],lo,w=>⟨[(lo,w)],fun q hq=>by
   simp only [List.mem_cons,List.not_mem_nil,or_false] at hq;subst hq;exact ⟨Nat.le_refl _,dD.refl _ _,fun B hB=>by cases hB⟩,⟨(lo,w),List.mem_cons_self,rfl⟩,fun b h1 h2 _=>⟨(lo,w),List.mem_cons_self,h1,h2⟩⟩
 | B::Bs,lo,w=>by
  by_cases hB:B < w.heap.size
  ·obtain ⟨A,hA,hA1⟩:=Dl w (B:=B) (lo:=lo) (Nat.le_of_lt hB);obtain ⟨K1,k1,_,k2⟩:=Vp Bs lo A;obtain ⟨K2,k3,⟨q0,k5,k6⟩,k4⟩:=Vp Bs (max lo (B+1)) w;refine ⟨K1++K2,fun q hq=>?_,⟨q0,List.mem_append_right _ k5,k6⟩,fun b h1 h2 h3=>?_⟩
   ·rcases List.mem_append.1 hq with hq | hq
    ·obtain ⟨e1,e2,e3⟩:=k1 q hq;refine ⟨e1,e2.trans (hA1.mono e1),fun B' hB'=>?_⟩;rcases List.mem_cons.1 hB' with rfl | hB'
     ·right;rw [← hA];exact e2.1
     ·exact e3 B' hB'
    ·obtain ⟨e1,e2,e3⟩:=k3 q hq;refine ⟨by omega,e2,fun B' hB'=>?_⟩;rcases List.mem_cons.1 hB' with rfl | hB'
     ·left;omega
     ·exact e3 B' hB'
   ·have h4:b≠B:=fun e=>h3 (by rw [e];exact List.mem_cons_self)
    have h5:b∉Bs:=fun e=>h3 (List.mem_cons_of_mem _ e)
    rcases Nat.lt_or_ge b B with h6 | h6
    ·obtain ⟨q,hq,h7⟩:=k2 b h1 (by omega) h5;exact ⟨q,List.mem_append_left _ hq,h7⟩
    ·obtain ⟨q,hq,h7⟩:=k4 b (by omega) h2 h5;exact ⟨q,List.mem_append_right _ hq,h7⟩
  ·obtain ⟨K1,k1,k5,k2⟩:=Vp Bs lo w;refine ⟨K1,fun q hq=>?_,k5,fun b h1 h2 h3=>k2 b h1 h2 (fun e=>h3 (List.mem_cons_of_mem _ e))⟩;obtain ⟨e1,e2,e3⟩:=k1 q hq;refine ⟨e1,e2,fun B' hB'=>?_⟩;rcases List.mem_cons.1 hB' with rfl | hB'
   ·right;have:=e2.1;omega
   ·exact e3 B' hB'
theorem St.more {O:Own} {G:cV} {w:World} (h:St w0 O G K w) (Ks:List (Nat×World)) (hk:∀ q∈Ks,dD q.1 q.2 w∧(∀ p∈O,p.1 < q.1∨q.2.heap.size≤p.1)∧∀ g∈G,∀ b,g.v.ownBlock=some b→b < q.1∨q.2.heap.size≤b):St w0 O G (Ks++K) w where
 below:=h.below
 own:=h.own
 dist:=h.dist
 kept:=fun q hq=>by
  rcases List.mem_append.1 hq with hq | hq
  ·exact ⟨(hk q hq).1,(hk q hq).2.1⟩
  ·exact h.kept q hq
 rows:=fun g hg=>⟨(h.rows g hg).1,fun b hb=>⟨((h.rows g hg).2 b hb).1,fun q hq=>by
  rcases List.mem_append.1 hq with hq | hq
  ·exact (hk q hq).2.2 g hg b hb
  ·exact ((h.rows g hg).2 b hb).2 q hq⟩⟩
 gdist:=h.gdist
theorem O5:∀ {L:List Asr} {j:Nat},L.length≤j→atI L j=anyA
 | [],_,_=>rfl
 | _::L,0,h=>by simp at h
 | _::L,j+1,h=>O5 (L:=L) (by simpa using h)
def BLS (P:Program) (n:Nat) (ops:Array Oper) (Q:Exit→Act→World→Prop) (l:Fr) (w0:World) (K:List (Nat×World)) (lo:Nat) (al:List Nat) (ef jy:Nat) (ca:Nat→Option Value→List Value) (ta:Nat→TypeId) (Os:Option Value→Own) (Gs:Option Value→cV) (Goal:List Asr→Prop):Nat→List Asr→Nat→Prop
 | 0,Lr,_=>Goal Lr
 | m+1,Lr,k=>∃ q,((k∈al∨k=ef)→q=anyA)∧(rJ al ef (q::Lr).reverse→SG P n ops Q l w0 K lo al ef jy ca ta Os Gs (q::Lr).reverse k)∧BLS P n ops Q l w0 K lo al ef jy ca ta Os Gs Goal m (q::Lr) (k+1)
variable {Goal:List Asr→Prop}
theorem mP {Lr:List Asr} {k:Nat} (h:Goal Lr):BLS P n ops Q l w0 K lo al ef jy ca ta Os Gs Goal 0 Lr k:=h
theorem aX {m k:Nat} {Lr:List Asr} (k':Nat) (hk:k+1=k') (hne:(al.contains k || Nat.beq k ef)=false) (q:Asr) (h:rJ al ef (q::Lr).reverse→SG P n ops Q l w0 K lo al ef jy ca ta Os Gs (q::Lr).reverse k) (hr:BLS P n ops Q l w0 K lo al ef jy ca ta Os Gs Goal m (q::Lr) k'):BLS P n ops Q l w0 K lo al ef jy ca ta Os Gs Goal (m+1) Lr k:=by
 subst hk;refine ⟨q,fun hc=>?_,h,hr⟩;rw [Bool.or_eq_false_iff] at hne;rcases hc with hc | hc
 ·rw [List.contains_iff_mem.2 hc] at hne;cases hne.1
 ·rw [hc,Nat.beq_refl] at hne;cases hne.2
theorem nX {m k:Nat} {Lr:List Asr} (k':Nat) (hk:k+1=k') (h:SG P n ops Q l w0 K lo al ef jy ca ta Os Gs (anyA::Lr).reverse k) (hr:BLS P n ops Q l w0 K lo al ef jy ca ta Os Gs Goal m (anyA::Lr) k'):BLS P n ops Q l w0 K lo al ef jy ca ta Os Gs Goal (m+1) Lr k:=by subst hk;exact ⟨anyA,fun _=>rfl,fun _=>h,hr⟩
theorem Gj (ht:dO ops n=true):∀ (m k:Nat) (Lr:List Asr),Lr.length=k→rJ al ef Lr.reverse→(∀ i,i < k→SG P n ops Q l w0 K lo al ef jy ca ta Os Gs Lr.reverse i)→BLS P n ops Q l w0 K lo al ef jy ca ta Os Gs Goal m Lr k →
  ∃ Lr',Lr'.length=k+m∧(∀ i,i < k+m→SG P n ops Q l w0 K lo al ef jy ca ta Os Gs Lr'.reverse i)∧Goal Lr'
 | 0,k,Lr,hl,hs,hg,h=>⟨Lr,hl,hg,h⟩
 | m+1,k,Lr,hl,hs,hg,⟨q,hq,hr,hn⟩=>by
  have hap:∀ j,j < k→atI Lr.reverse j=atI (q::Lr).reverse j:=fun j hj=>by rw [List.reverse_cons,lH (by simp;omega)]
  have hs':rJ al ef (q::Lr).reverse:=fun j hj=>by
   rcases Nat.lt_trichotomy j k with h1 | h1 | h1
   ·rw [← hap j h1];exact hs j hj
   ·subst h1;rw [aF hl];exact hq hj
   ·exact O5 (by simp;omega)
  obtain ⟨L',h1,h3,h4⟩:=Gj ht m (k+1) (q::Lr) (by simp [hl]) hs' (fun i hi=>by
   by_cases hik:i=k
   ·subst hik;exact hr hs'
   ·exact SG.ext ht (fun j hj=>hap j (by omega)) (hg i (by omega))) hn
  exact ⟨L',by omega,fun i hi=>h3 i (by omega),h4⟩
theorem vR {a:Act} {Kk:Fr→World→Prop} {G:Prop}:∀ (os:List Oper) (L:List Asr) (l:Fr),(∀ i d,i < os.length→(os[i]?).bind (·.dst)=some d→atI L i (a.tmps.getD d undef) W)→(∀ i,i < os.length→(os[i]?).bind (·.dst)=none→∃ v,atI L i v W)→a.tmps.size=n→a.defers=[] →
  (∀ t v,look l t=some v→(∀ o∈os,o.dst≠some t)→a.tmps.getD t undef=v)→(hK:∀ l',Kk l' W→Has n l' a→G)→jY os L l Kk W→G
 | [],L,l,hI,_,hs,hd,hl,hK,h=>hK l h ⟨hs,hd,fun t v hv=>hl t v hv (fun o ho=>by cases ho)⟩
 | o::os,L,l,hI,hN,hs,hd,hl,hK,h=>by
  cases hod:o.dst with
  | none =>
   obtain ⟨v,hv⟩:=hN 0 (by simp) (by simp [hod]);have h1:=h v hv;rw [hod] at h1;refine vR os L.tail _ (fun i e hi he=>by rw [rC];exact hI (i+1) e (by simpa using hi) (by simpa using he)) (fun i hi he=>by rw [rC];exact hN (i+1) (by simpa using hi) (by simpa using he)) hs hd ?_ hK h1;intro t v hv hno;refine hl t v hv (fun o' ho'=>?_);rcases List.mem_cons.1 ho' with rfl | ho'
   ·rw [hod];simp
   ·exact hno o' ho'
  | some d =>
   have h0:=hI 0 d (by simp) (by simp [hod]);have h1:=h _ h0;refine vR os L.tail _ (fun i e hi he=>by rw [rC];exact hI (i+1) e (by simpa using hi) (by simpa using he)) (fun i hi he=>by rw [rC];exact hN (i+1) (by simpa using hi) (by simpa using he)) hs hd ?_ hK h1;intro t v hv hno;rw [hod] at hv;simp only [List.cons_append,List.nil_append] at hv;unfold look at hv;cases hb:Nat.beq d t with
   | true =>
    simp only [hb,cond_true,Option.some.injEq] at hv;rw [← Nat.eq_of_beq_eq_true hb];exact hv
   | false =>
    simp only [hb,cond_false] at hv;refine hl t v hv (fun o' ho'=>?_);rcases List.mem_cons.1 ho' with rfl | ho'
    ·rw [hod];intro e;rw [Option.some.inj e,Nat.beq_refl] at hb;cases hb
    ·exact hno o' ho'
def bAt (bs:List (Nat×Nat)) (a:Nat):Nat:=((bs.find? (fun q=>Nat.beq q.1 a)).map (·.2)).getD 0
theorem Gk:∀ {bs:List (Nat×Nat)} {a:Nat},(∃ B,(a,B)∈bs)→(a,bAt bs a)∈bs
 | [],_,⟨B,h⟩=>by cases h
 | q::bs,a,⟨B,h⟩=>by
  unfold bAt;rw [List.find?_cons];cases hb:Nat.beq q.1 a with
  | true =>
   have:=Nat.eq_of_beq_eq_true hb;subst this;exact List.mem_cons_self
  | false =>
   rcases List.mem_cons.1 h with h | h
   ·rw [← h,Nat.beq_refl] at hb;cases hb
   ·exact List.mem_cons_of_mem _ (Gk ⟨B,h⟩)
theorem vS {bs:List (Nat×Nat)} (hp:bs.Pairwise (fun p q=>p.1≠q.1)) {p q:Nat×Nat} (h1:p∈bs) (h2:q∈bs) (he:p.1=q.1):p=q:=by
 induction hp with
 | nil=>cases h1
 | cons ha hb ih =>
  rcases List.mem_cons.1 h1 with h3 | h3<;>rcases List.mem_cons.1 h2 with h4 | h4
  ·rw [h3,h4]
  ·subst h3;exact absurd he (ha _ h4)
  ·subst h4;exact absurd he.symm (ha _ h3)
  ·exact ih h3 h4
theorem Vq {id k:Nat} {ds:List Nat} (hm:P.follows .mixedOrders=true) (hlo:lo=W.heap.size) (hS:St w0 (Os none) (Gs none) K W) (hk:Nat.blt k os.length=true) (htl:Ec os.toArray k=true) (ht:dO os.toArray n=true) (hal:al.all (fun a=>Nat.blt a k)=true) (hnd:al.Nodup) (hea:al.contains ef=false)
  (evE:Value→Option Value) (hev:(Nat.blt ef k=true∧evE=some)∨(Nat.ble os.length ef=true∧Nat.ble os.length jy=true∧evE=fun _=>none)) (hdst:(List.range k).all (fun j=>Nat.beq j ef || ((os.toArray[j]?).bind (·.dst)).isSome)=true) (hds:(os.drop k).all (fun o=>match o.dst with | some d=>ds.contains d | none=>true)=true)
  (h:BLS P n os.toArray Q l w0 K lo al ef jy ca ta Os Gs (fun Lr=>∀ (Bf:Nat→Nat) (y:Value) (W':World) (Ks:List (Nat×World)),W.heap.size≤W'.heap.size→(∀ q∈Ks,lo≤q.1)→St w0 (al.map (fun a=>(Bf a,ca a (evE y),ta a))++Os (evE y)) (Gs (evE y)) (Ks++K) W' →
   (∀ {O2 G2 K2 W2},St w0 O2 G2 K2 W2→(∀ q∈Ks,q∈K2)→iW lo (XB (al.map (fun a=>(Bf a,ca a (evE y),ta a))++Os (evE y)) (Gs (evE y))) W' W2) →
   jY (os.take k) (Me al ef jy lo (XB (al.map (fun a=>(Bf a,ca a (evE y),ta a))++Os (evE y)) (Gs (evE y))) Bf y 0 Lr.reverse) (tK ds l) (fun l' W'=>cO P n os.toArray Q (os.drop k) l' W') W') k [] 0):eW P n (.region id os.toArray true) Q l W:=by
 obtain ⟨Lr,h1,h2,hfin⟩:=Gj ht k 0 [] rfl (fun j _=>by rfl) (fun i hi=>by omega) h;rw [Nat.zero_add] at h1 h2;have hk':k < os.length:=Nat.lt_of_lt_of_le (Nat.lt_succ_self _) (Nat.le_of_ble_eq_true hk);have hal':∀ a∈al,a < k:=fun a ha=>Nat.lt_of_lt_of_le (Nat.lt_succ_self _) (Nat.le_of_ble_eq_true (List.all_eq_true.1 hal a ha))
 have hea':ef∉al:=fun h=>by rw [List.contains_iff_mem.2 h] at hea;cases hea
 intro a ha;refine wp_region_any hm (vN (t0:=a.tmps) (d0:=a.defers) (V:=VG al ef) (I:=IG al ef jy lo ca ta Os Gs Lr.reverse) (G:=GG w0 K lo ca ta Os Gs) (k:=k) (by simpa using hk') htl (by rw [ha.size];exact ht) (fun i hi=>(h2 i hi).step a ha) ?_ _ ⟨none,[]⟩ _ _ _ (by simp) (iP _) (fun j hj=>by rw [Array.getD_eq_getD_getElem?,Array.getElem?_replicate] at hj;split at hj<;>simp at hj) (fun i _=>by rw [Array.getD_eq_getD_getElem?,Array.getElem?_replicate];split<;>rfl) ⟨rfl,rfl,fun _ _=>rfl,⟨by unfold OE;exact hS.drew,by rw [hlo];exact Nat.le_refl _,(fun q hq=>by cases hq)⟩,⟨fun a _=>?_,(fun q hq=>by cases hq),List.Pairwise.nil,?_⟩,fun i d _ hj=>?_⟩)
 ·intro s LB a' W' hR hdone hnot;obtain ⟨hG,hG2,hG3⟩:=hR.glob;obtain ⟨v1,v2,v3,v4⟩:=hR.cons;obtain ⟨ev,bs⟩:=s;have hall:∀ x∈al,(x,bAt bs x)∈bs:=fun x hx=>Gk ((v1 x hx).1 (hdone x (hal' x hx)))
  obtain ⟨y,hy⟩:∃ y,ev=evE y:=by
   rcases hev with ⟨e1,e2⟩ | ⟨e1,e3,e2⟩
   ·have h3:ev.isSome=true:=v4.1 (hdone ef (Nat.lt_of_lt_of_le (Nat.lt_succ_self _) (Nat.le_of_ble_eq_true e1)));obtain ⟨y,hy⟩:=Option.isSome_iff_exists.1 h3;exact ⟨y,by rw [hy,e2]⟩
   ·refine ⟨undef,?_⟩;rw [e2];have h3:=hnot ef (by have:=Nat.le_of_ble_eq_true e1;omega);cases ev with
    | none=>rfl
    | some v=>have:=v4.2 rfl;rw [h3] at this;cases this
  subst hy;have hperm:bs.Perm (al.map (fun x=>(x,bAt bs x))):=by
   refine (List.perm_ext_iff_of_nodup (v3.imp (fun h e=>h (by rw [e]))) ?_).2 fun q=>?_
   ·refine List.Pairwise.map _ (fun x y (hxy:x≠y)=>?_) hnd;intro e;exact hxy (congrArg Prod.fst e)
   ·constructor
    ·intro hq;have h3:=hall q.1 (v2 q hq);have h4:=vS v3 hq h3 rfl;rw [h4];exact List.mem_map.2 ⟨q.1,v2 q hq,rfl⟩
    ·intro hq;obtain ⟨x,hx,rfl⟩:=List.mem_map.1 hq;exact hall x hx
  have hO:(OE ca ta Os ⟨evE y,bs⟩).Perm (al.map (fun a=>(bAt bs a,ca a (evE y),ta a))++Os (evE y)):=by unfold OE;refine List.Perm.append_right _ ?_;have:=hperm.map (fun q:Nat×Nat=>(q.2,ca q.1 (evE y),ta q.1));rw [List.map_map] at this;exact this
  have hG':=hG.perm hO;have hX:∀ b,XB (OE ca ta Os ⟨evE y,bs⟩) (Gs (evE y)) b↔XB (al.map (fun a=>(bAt bs a,ca a (evE y),ta a))++Os (evE y)) (Gs (evE y)) b:=fun b=>by
   unfold XB;constructor
   ·rintro (⟨p,hp,e⟩ | h);exact .inl ⟨p,hO.mem_iff.1 hp,e⟩;exact .inr h
   ·rintro (⟨p,hp,e⟩ | h);exact .inl ⟨p,hO.mem_iff.2 hp,e⟩;exact .inr h
  obtain ⟨Ks,c1,⟨qw,c2,c3⟩,c4⟩:=Vp (((al.map (fun a=>(bAt bs a,ca a (evE y),ta a))++Os (evE y)).map (·.1))++(Gs (evE y)).filterMap (fun g=>g.v.ownBlock)) lo W';have hG4:=hG'.more Ks (fun q hq=>⟨(c1 q hq).2.1,fun p hp=>(c1 q hq).2.2 p.1 (List.mem_append_left _ (List.mem_map.2 ⟨p,hp,rfl⟩)),fun g hg b hb=>(c1 q hq).2.2 b (List.mem_append_right _ (List.mem_filterMap.2 ⟨g,hg,hb⟩))⟩);have hcov:∀ {O2 G2 K2 W2},St w0 O2 G2 K2 W2→(∀ q∈Ks,q∈K2)→iW lo (XB (al.map (fun a=>(bAt bs a,ca a (evE y),ta a))++Os (evE y)) (Gs (evE y))) W' W2:=fun {O2 G2 K2 W2} h2 hq=>by
   refine ⟨⟨h2.below.os.trans hG.below.os.symm,h2.below.tape.trans hG.below.tape.symm,h2.below.output.trans hG.below.output.symm⟩,?_,fun b b1 b2 b3=>?_⟩
   ·have:=(h2.kept qw (hq qw c2)).1.1;rw [c3] at this;exact this
   ·obtain ⟨q,q1,q2,q3⟩:=c4 b b1 b2 (fun hb=>b3 (by
     rcases List.mem_append.1 hb with hb | hb
     ·obtain ⟨p,hp,rfl⟩:=List.mem_map.1 hb;exact .inl ⟨p,hp,rfl⟩
     ·obtain ⟨g,hg,e⟩:=List.mem_filterMap.1 hb;exact .inr ⟨g,hg,e⟩))
    exact ((h2.kept q (hq q q1)).1.2 b q2 q3).trans ((c1 q q1).2.1.2 b q2 q3).symm
  have htk:(os.take k).length=k:=by simp;omega
  refine vR (os.take k) (Me al ef jy lo (XB (al.map (fun a=>(bAt bs a,ca a (evE y),ta a))++Os (evE y)) (Gs (evE y))) (bAt bs) y 0 Lr.reverse) (tK ds l) (fun i d hi hd'=>?_) (fun i hi hd'=>?_) (hR.size.trans ha.size) (hR.defers.trans ha.defers) ?_ (fun l' h ha'=>?_) (hfin (bAt bs) y W' Ks (by rw [← hlo];exact hG2) (fun q hq=>(c1 q hq).1) hG4 hcov)
  ·have hik:i < k:=by omega
   have hd2:(os.toArray[i]?).bind (·.dst)=some d:=by rw [List.getElem?_take,if_pos hik] at hd';simpa using hd'
   obtain ⟨i1,i2,i3,i4⟩:=hR.done i d hd2 (hdone i hik);rw [rL Lr.reverse 0 i (by simp;omega),Nat.add_zero];cases hc1:al.contains i with
   | true =>
    rw [cond_true];obtain ⟨B,hB,e⟩:=i1 (List.contains_iff_mem.1 hc1);have:=vS v3 hB (hall i (List.contains_iff_mem.1 hc1)) rfl;show _=_;rw [e,show B=bAt bs i from congrArg Prod.snd this]
   | false =>
    rw [cond_false];have hni:i∉al:=fun hm'=>by rw [List.contains_iff_mem.2 hm'] at hc1;cases hc1
    cases hc2:Nat.beq i ef with
    | true =>
     rw [cond_true];have h5:=i2 (Nat.eq_of_beq_eq_true hc2);rcases hev with ⟨e1,e2⟩ | ⟨e1,e3,e2⟩
     ·rw [e2] at h5;exact (Option.some.inj h5).symm
     ·rw [e2] at h5;cases h5
    | false =>
     rw [cond_false];have hne:i≠ef:=fun e=>by rw [e,Nat.beq_refl] at hc2;cases hc2
     have h6:AwS lo (XB (al.map (fun a=>(bAt bs a,ca a (evE y),ta a))++Os (evE y)) (Gs (evE y))) (atI Lr.reverse i) (a'.tmps.getD d undef) W':=fun w2 hw2=>i4 hni hne w2 ⟨hw2.1,hw2.2.1,fun b b1 b2 b3=>hw2.2.2 b b1 b2 (fun hb=>b3 ((hX b).2 hb))⟩
     cases hc3:Nat.beq i jy with
     | true =>
      rw [cond_true];refine ⟨?_,h6⟩;rcases hev with ⟨e1,e2⟩ | ⟨e1,e3,e2⟩
      ·exact i3 (Nat.eq_of_beq_eq_true hc3) y (by rw [e2])
      ·have:=Nat.le_of_ble_eq_true e3;have:=Nat.eq_of_beq_eq_true hc3;omega
     | false=>rw [cond_false];exact h6
  ·have hik:i < k:=by omega
   have h3:=List.all_eq_true.1 hdst i (List.mem_range.2 hik);rw [Bool.or_eq_true] at h3;have hd2:(os.toArray[i]?).bind (·.dst)=none:=by rw [List.getElem?_take,if_pos hik] at hd';simpa using hd'
   rcases h3 with h3 | h3
   ·rw [rL Lr.reverse 0 i (by simp;omega),Nat.add_zero];have hc1:al.contains i=false:=by rw [Nat.eq_of_beq_eq_true h3];exact hea
    rw [hc1,cond_false,h3,cond_true];exact ⟨y,rfl⟩
   ·rw [hd2] at h3;cases h3
  ·intro t v hv hno;have hl:=pZ hv (gM hv);have hnt:=gM hv;rw [hR.frame t ?_]
   ·exact ha.at_ t v hl
   ·unfold freeT;rw [Array.all_eq_true'];intro o' ho';have ho2:o'∈os:=by simpa using ho'
    rw [← List.take_append_drop k os] at ho2;rcases List.mem_append.1 ho2 with ho2 | ho2
    ·simpa using hno o' ho2
    ·have h5:=List.all_eq_true.1 hds o' ho2;cases hx:o'.dst with
     | none=>simp
     | some d =>
      rw [hx] at h5;simp;intro e;subst e;exact hnt (List.contains_iff_mem.1 h5)
  ·have:=h a' ha';simpa using this
 ·rw [Array.getD_eq_getD_getElem?,Array.getElem?_replicate];constructor
  ·intro h3;split at h3<;>simp at h3
  ·rintro ⟨B,hB⟩;cases hB
 ·rw [Array.getD_eq_getD_getElem?,Array.getElem?_replicate];constructor
  ·intro h3;split at h3<;>simp at h3
  ·intro h3;cases h3
 ·rw [Array.getD_eq_getD_getElem?,Array.getElem?_replicate] at hj;split at hj<;>simp at hj
end
section
variable {P:Program} {n:Nat} {Q:Exit→Act→World→Prop} {l:Fr} {w0 W:World} {ops:Array Oper} {os:List Oper} {K:List (Nat×World)} {L:List Asr} {i:Nat} {O:Own} {G:cV}
variable {al:List Nat} {zc:Nat→List Value} {ta:Nat→TypeId} {lo ef jy:Nat} {d:Nat} {ty:TypeId} {pos:String} {aft_:Array Edge} {v:Value}
def qN (zc:Nat→List Value) (a:Nat):Option Value→List Value:=fun _=>zc a
def A9 (zc:Nat→List Value) (a0 a:Nat):Option Value→List Value
 | none=>zc a
 | some y=>bif Nat.beq a a0 then eQ (zc a) 0 y.cells.toList else zc a
theorem caSt_at (zc:Nat→List Value) (a0:Nat) (y:Value):A9 zc a0 a0 (some y)=eQ (zc a0) 0 y.cells.toList:=by show (bif Nat.beq a0 a0 then eQ (zc a0) 0 y.cells.toList else zc a0)=_;rw [Nat.beq_refl,cond_true]
theorem caSt_ne (zc:Nat→List Value) {a0 a:Nat} (y:Value) (h:Nat.beq a a0=false):A9 zc a0 a (some y)=zc a:=by show (bif Nat.beq a a0 then eQ (zc a) 0 y.cells.toList else zc a)=_;rw [h,cond_false]
def Gl (O:Own):Option Value→Own:=fun _=>O
def rM (G:cV):Option Value→cV:=fun _=>G
def Gm (O:Own) (j jx B:Nat) (cs vs:List Value) (U:TypeId):Option Value→Own
 | none=>O
 | some _=>O.set j (B,eQ cs jx vs,U)
theorem tL {B b:Nat} (hb:b≠B):∀ (vs:List Value) (j:Nat) (w:World),(setMany w B j vs).heap[b]?=w.heap[b]?
 | [],_,_=>rfl
 | v::vs,j,w=>by unfold setMany;rw [tL hb vs (j+1)];exact Below.heap_setCell _ _ _ _ hb
theorem qA:∀ (vs:List Value) (B j:Nat) (w:World),((setMany w B j vs).os=w.os∧(setMany w B j vs).tape=w.tape∧(setMany w B j vs).output=w.output)∧(setMany w B j vs).heap.size=w.heap.size
 | [],_,_,_=>⟨⟨rfl,rfl,rfl⟩,rfl⟩
 | v::vs,B,j,w=>by unfold setMany;obtain ⟨⟨h1,h2,h3⟩,h4⟩:=qA vs B (j+1) (w.setCell ⟨B,j,none⟩ v);exact ⟨⟨h1,h2,h3⟩,h4.trans (by simp [World.setCell])⟩
theorem oH {B j:Nat} {vs:List Value} {w:World} {X:Nat→Prop} (hX:X B):iW 0 X w (setMany w B j vs) :=
 ⟨(qA vs B j w).1,Nat.le_of_eq (qA vs B j w).2.symm,fun b _ _ hb=>tL (fun e=>hb (by rw [e];exact hX)) vs j w⟩
theorem qB {T:TypeId} {B j m:Nat} {vs cs:List Value} {U:TypeId} {w:World} {y:Value} (hsz:∀ w,(sizeOf T).run P w = .ok m w) (hc:y.cells=vs.toArray) (hl:vs.length=m) (h1:vs.all Value.oneCell'=true) (hB:w.heap[B]?=some (.cells cs.toArray U (0,0))) (hj:j+m≤cs.length) :
  (Instr.storeAt T (.pointer (some ⟨B,j,none⟩)) y).run P w = .ok () (setMany w B j vs):=by
 subst hl;have hst:=iB (P:=P) vs 0 j w cs hB (by omega) (fun u hu=>List.all_eq_true.1 h1 u hu);rw [Nat.add_zero] at hst;simp [Instr.storeAt,Instr.sureAddr,storeVar,hsz,hc,hst]
theorem Ba {o:Oper} {a:Act} {w w':World} {T:TypeId} {x y:Operand} {K':Act→World→Prop} (hi:ops[i]?=some o) (ho:o.op = .store T x y) (hod:o.dst=none) (hog:o.guard=none) (hr:(Instr.storeAt T (a.eval x) (a.eval y)).run P w = .ok () w') (hK:K' a w'):wpOp P ops Q i K' a w:=by unfold wpOp;simp only [hi,fI hog,if_true];refine .inl ?_;obtain ⟨dst,op,ty,pos,aft,gd⟩:=o;simp only at ho hod;subst ho;subst hod;unfold Oper.wp execOp;simp only [Sem.run_bind,hr,Result.andThen_ok,Sem.run_pure,Oper.upon_skip];exact hK
theorem eff_stA {T:TypeId} {tx tyy m:Nat} {py:Asr} (a0:Nat) (hal:al.contains ef=false) (hij:Nat.beq ef jy=false) (hi:ops[ef]?=some ⟨none,.store T (.tmp tx) (.tmp tyy),ty,pos,aft_,none⟩) (hjy:(ops[jy]?).bind (·.dst)=some tyy)
  (hwx:bH ops ef a0 tx=true) (ha0:al.contains a0=true) (hwy:bH ops ef jy tyy=true) (hja:al.contains jy=false) (hLy:atI L jy=py) (hsz:∀ w,(sizeOf T).run P w = .ok m w) (hzl:Nat.ble m (zc a0).length=true) (hpy:∀ v w,py v w→∃ vs:List Value,v.cells=vs.toArray∧vs.length=m∧vs.all Value.oneCell'=true):SG P n ops Q l w0 K lo al ef jy (A9 zc a0) ta (Gl O) (rM G) L ef :=
 Md hal hij hi fun t0 a bs w h0 hF hG hbs hD=>by
  obtain ⟨B,hB,ex⟩:=(hD a0 tx hwx).1 (List.contains_iff_mem.1 ha0);have hy:=((hD jy tyy hwy).2.2.2 (fun h=>by rw [List.contains_iff_mem.2 h] at hja;cases hja) (fun e=>by rw [e,Nat.beq_refl] at hij;cases hij)).here;rw [hLy] at hy;obtain ⟨vs,hc,hl,h1⟩:=hpy _ _ hy;obtain ⟨k,hk⟩:=List.getElem?_of_mem hB;have hkl:=(List.getElem?_eq_some_iff.1 hk).1;have hOk:(OE (A9 zc a0) ta (Gl O) ⟨none,bs⟩)[k]?=some (B,zc a0,ta a0):=by unfold OE;rw [List.getElem?_append_left (by simpa using hkl),List.getElem?_map,hk];rfl
  have hXB:XB (OE (A9 zc a0) ta (Gl O) ⟨none,bs⟩) (rM G none) B:=.inl ⟨_,List.mem_of_getElem? hOk,rfl⟩;have hrun:=qB (P:=P) hsz hc hl h1 (hG.1.at_ k hOk) (j:=0) (by have:=Nat.le_of_ble_eq_true hzl;omega);have hO':OE (A9 zc a0) ta (Gl O) ⟨some (a.eval (.tmp tyy)),bs⟩=(OE (A9 zc a0) ta (Gl O) ⟨none,bs⟩).set k (B,eQ (zc a0) 0 vs,ta a0):=by
   unfold OE;rw [List.set_append_left _ _ (by simpa using hkl)];congr 1;apply List.ext_getElem?;intro j;rw [List.getElem?_set,List.getElem?_map,List.getElem?_map];by_cases hj:k=j
   ·subst hj;rw [if_pos rfl,hk,if_pos (by simpa using hkl)];show some (B,A9 zc a0 a0 (some (a.eval (.tmp tyy))),ta a0)=_;rw [caSt_at,hc]
   ·rw [if_neg hj];cases hq:bs[j]? with
    | none=>rfl
    | some q =>
     have hne:q.1≠a0:=fun e=>by
      have hjl:=(List.getElem?_eq_some_iff.1 hq).1;have e1:=(List.getElem?_eq_some_iff.1 hq).2;have e2:=(List.getElem?_eq_some_iff.1 hk).2;have hp:=List.pairwise_iff_getElem.1 hbs;rcases Nat.lt_or_ge j k with h | h
      ·have:=hp j k hjl hkl h;rw [e1,e2] at this;exact this e
      ·have:=hp k j hkl hjl (by omega);rw [e1,e2] at this;exact this e.symm
     have hb:Nat.beq q.1 a0=false:=by
      cases hb:Nat.beq q.1 a0 with
      | true=>exact absurd (Nat.eq_of_beq_eq_true hb) hne
      | false=>rfl
     show some (q.2,A9 zc a0 q.1 (some (a.eval (.tmp tyy))),ta q.1)=some (q.2,A9 zc a0 q.1 none,ta q.1);rw [caSt_ne _ _ hb];rfl
  refine Ba hi rfl rfl rfl (by rw [ex];exact hrun) ⟨undef,a.eval (.tmp tyy),rfl,(fun d hd=>by cases hd),?_,oH hXB,?_,fun d hd=>?_⟩
  ·rw [hO'];exact hG.1.setMany k vs 0 hOk
  ·rintro b (⟨p,hp,rfl⟩ | h)
   ·rw [hO'] at hp;rcases List.mem_or_eq_of_mem_set hp with hp | rfl
    ·exact .inl (.inl ⟨p,hp,rfl⟩)
    ·exact .inl hXB
   ·exact .inl (.inr h)
  ·rw [hjy] at hd;cases hd;rfl
theorem eff_stO {T U:TypeId} {x y:Operand} {B m:Nat} {cs vs:List Value} (j jx:Nat) (li:Fr) (hal:al.contains ef=false) (hij:Nat.beq ef jy=false) (hi:ops[ef]?=some ⟨none,.store T x y,ty,pos,aft_,none⟩) (hjn:(ops[jy]?).isNone=true) (hNo:rJ al ef L) (hli:wV n ops l L ef li) (hx:evL li x=some (.pointer (some ⟨B,jx,none⟩))) (hy:evL li y=some v)
  (hO:O[j]?=some (B,cs,U)) (hsz:∀ w,(sizeOf T).run P w = .ok m w) (hc:v.cells=vs.toArray) (hl:vs.length=m) (h1:vs.all Value.oneCell'=true) (hjm:Nat.ble (jx+m) cs.length=true):SG P n ops Q l w0 K lo al ef jy (qN zc) ta (Gm O j jx B cs vs U) (rM G) L ef :=
 Md hal hij hi fun t0 a bs w h0 hF hG hbs hD=>by
  have hD':=vQ h0 hF hD (fun j d _ hj=>hNo j hj);have ex:=jA h0 hF hD' hli x _ hx;have ey:=jA h0 hF hD' hli y _ hy;have hOk:(OE (qN zc) ta (Gm O j jx B cs vs U) ⟨none,bs⟩)[bs.length+j]?=some (B,cs,U):=by unfold OE;rw [List.getElem?_append_right (by simp)];simpa [Gm] using hO
  have hXB:XB (OE (qN zc) ta (Gm O j jx B cs vs U) ⟨none,bs⟩) (rM G none) B:=.inl ⟨_,List.mem_of_getElem? hOk,rfl⟩;have hrun:=qB (P:=P) hsz hc hl h1 (hG.1.at_ _ hOk) (j:=jx) (Nat.le_of_ble_eq_true hjm);have hO':OE (qN zc) ta (Gm O j jx B cs vs U) ⟨some undef,bs⟩=(OE (qN zc) ta (Gm O j jx B cs vs U) ⟨none,bs⟩).set (bs.length+j) (B,eQ cs jx vs,U):=by unfold OE;rw [List.set_append_right _ _ (by simp)];congr 1;simp [Gm]
  refine Ba hi rfl rfl rfl (by rw [ex,ey];exact hrun) ⟨undef,undef,rfl,(fun d hd=>by cases hd),?_,oH hXB,?_,fun d hd=>?_⟩
  ·rw [hO'];exact hG.1.setMany _ vs jx hOk
  ·rintro b (⟨p,hp,rfl⟩ | h)
   ·rw [hO'] at hp;rcases List.mem_or_eq_of_mem_set hp with hp | rfl
    ·exact .inl (.inl ⟨p,hp,rfl⟩)
    ·exact .inl hXB
   ·exact .inl (.inr h)
  ·cases hjy:ops[jy]? with
   | none=>rw [hjy] at hd;cases hd
   | some o=>rw [hjy] at hjn;cases hjn
theorem yL {w:World} {base:Nat} {e:TypeId} {size b o c n jx:Nat} {xs:List Value} (h:w.ownsRow base e size (.slice (some ⟨b,o,none⟩) n c) n xs) (v:Value) (hj:jx < n * size):(w.setCell ⟨b,jx,none⟩ v).ownsRow base e size (.slice (some ⟨b,o,none⟩) n c) n (xs.set jx v):=by
 refine ⟨by rw [List.length_set];exact h.1,?_⟩;rcases h.2 with ⟨e1,_⟩ | ⟨g,cap,cur,e1,hg,hh,hn,hc,hs,ht⟩
 ·cases e1
 ·cases e1;refine .inr ⟨b,c,cur.setIfInBounds jx v,rfl,hg,?_,hn,hc,by simp [hs],?_⟩
  ·simp only [World.setCell,Array.getElem?_modify,if_true,hh,Option.map_some];simp
  ·rw [Array.toList_setIfInBounds,← ht];apply List.ext_getElem?;intro k;rw [List.getElem?_take,List.getElem?_set,List.getElem?_set,List.getElem?_take];by_cases hk:jx=k
   ·subst hk;have h2:n * size≤c * size:=Nat.mul_le_mul_right _ hn;rw [if_pos hj,if_pos rfl,if_pos rfl];simp only [List.length_take,Array.length_toList,hs];rw [if_pos (by omega),if_pos (by omega)]
   ·rw [if_neg hk,if_neg hk]
theorem St.setRow {w0 W:World} {O:Own} {G:cV} {K:List (Nat×World)} (h:St w0 O G K W) (i:Nat) {b c nn jx:Nat} {xs:List Value} {e:TypeId} {size:Nat} (hi:G[i]?=some ⟨.slice (some ⟨b,0,none⟩) nn c,nn,xs,e,size⟩) (v:Value) (hj:jx < nn * size):St w0 O (G.set i ⟨.slice (some ⟨b,0,none⟩) nn c,nn,xs.set jx v,e,size⟩) K (W.setCell ⟨b,jx,none⟩ v):=by
 have hg:=List.mem_of_getElem? hi;have hgb:w0.heap.size≤b∧b < W.heap.size:=h.glt hg (b:=b) rfl;have hap:=(h.rows _ hg).2 b rfl;have other:∀ k,k≠b→(W.setCell ⟨b,jx,none⟩ v).heap[k]?=W.heap[k]?:=fun k hk=>Below.heap_setCell _ _ _ _ hk
 refine ⟨h.below.setCell (p:=⟨b,jx,none⟩) hgb.1 v,fun p hp=>⟨(h.own p hp).1,(other _ (hap.1 p hp)).trans (h.own p hp).2⟩,h.dist,fun q hq=>⟨⟨by have:=(h.kept q hq).1.1;simpa using this,fun k k1 k2=>(other k (fun e=>by rcases hap.2 q hq with h3 | h3<;>omega)).trans ((h.kept q hq).1.2 k k1 k2)⟩,(h.kept q hq).2⟩,fun r hr=>?_,Ft hi (fun q hq hap=>hap) (fun q hq hap=>hap) h.gdist⟩;rcases Aa hi hr h.gdist with rfl | ⟨hr',hap'⟩
 ·exact ⟨yL (h.rows _ hg).1 v hj,(h.rows _ hg).2⟩
 ·refine ⟨dN (h.rows r hr').1 fun k hk=>other k (fun e=>?_),(h.rows r hr').2⟩;subst e;rcases hap' with h1 | h1
  ·exact h1 k hk rfl
  ·exact h1 k rfl hk
end
theorem fC {w:World} {base size n:Nat} {e:TypeId} {v:Value} {xs:List Value} (h:w.ownsRow base e size v n xs):∃ a c,v = .slice a n c∧n≤c:=by
 rcases h.2 with ⟨rfl,rfl⟩ | ⟨g,cap,cur,rfl,_,_,hn,_⟩
 ·exact ⟨none,0,rfl,Nat.le_refl _⟩
 ·exact ⟨_,cap,rfl,hn⟩
theorem Mf {w:World} {base size n:Nat} {e:TypeId} {v:Value} {xs:List Value} (h:w.ownsRow base e size v n xs) (hn:0 < n):∃ b c,v = .slice (some ⟨b,0,none⟩) n c∧base≤b:=by
 rcases h.2 with ⟨rfl,rfl⟩ | ⟨g,cap,cur,rfl,hb,_,_,_⟩
 ·omega
 ·exact ⟨_,cap,rfl,hb⟩
theorem vT {w:World} {base base' size n:Nat} {e:TypeId} {v:Value} {xs:List Value} (h:w.ownsRow base e size v n xs) (hb:base'≤base):w.ownsRow base' e size v n xs :=
 ⟨h.1,h.2.imp id fun ⟨g,cap,cur,e,hg,k⟩=>⟨g,cap,cur,e,Nat.le_trans hb hg,k⟩⟩
theorem fJ {w W:World} {lo size n:Nat} {e:TypeId} {v:Value} {xs:List Value} (h:w.ownsRow lo e size v n xs) (hg:dD lo w W):W.ownsRow lo e size v n xs:=by
 refine ⟨h.1,?_⟩;rcases h.2 with h2 | ⟨g,cap,cur,rfl,hb,hh,k⟩
 ·exact .inl h2
 ·exact .inr ⟨g,cap,cur,rfl,hb,(hg.2 g hb (cA hh)).trans hh,k⟩
theorem lM {w:World} {base size n:Nat} {e:TypeId} {a:Option Addr} {c:Nat} {xs:List Value} (h:w.ownsRow base e size (.slice a n c) n xs):(a=none∧n=0)∨∃ b,a=some ⟨b,0,none⟩∧base≤b∧∀ (j:Nat) u,xs[j]?=some u→w.cell? ⟨b,j,none⟩=some u:=by
 rcases h.2 with ⟨e1,e2⟩ | ⟨g,cap,cur,e1,hb,hh,hn,hm,hs,ht⟩
 ·cases e1;exact .inl ⟨rfl,e2⟩
 ·cases e1;refine .inr ⟨g,rfl,hb,fun j u hj=>?_⟩;rw [← ht,List.getElem?_take] at hj;split at hj
  ·simp only [World.cell?,hh];simpa using hj
  ·cases hj
theorem vU {os:List Oper} {L L':List Asr} {l:Fr} {K:Fr→World→Prop} {W:World} (h:L=L') (k:jY os L' l K W):jY os L l K W:=h▸k
theorem bQ {os:List Oper} {L:List Asr} {l:Fr} {W:World} {lo:Nat} {X:Nat→Prop} {c:Value} {K:Fr→World→Prop} {dst:Nat} {op:Op} {ty:TypeId} {pos:String} {aft:Array Edge} {g:Option (Nat×Bool)} (h:jY os L ((dst,c)::l) K W):jY (⟨some dst,op,ty,pos,aft,g⟩::os) (AwS lo X (isV c)::L) l K W:=fun v hv=>by
 have:v=c:=hv.here
 subst this;exact h
theorem Ed {os:List Oper} {L:List Asr} {l:Fr} {W:World} {p:Asr} {K:Fr→World→Prop} {op:Op} {ty:TypeId} {pos:String} {aft:Array Edge} {g:Option (Nat×Bool)} (h:jY os L l K W):jY (⟨none,op,ty,pos,aft,g⟩::os) (p::L) l K W:=fun _ _=>h
section
variable {w0 W:World} {O:Own} {G:cV} {K:List (Nat×World)}
theorem St.castO {O':Own} (h:St w0 O G K W) (e:O=O'):St w0 O' G K W:=e▸h
theorem St.castG {G':cV} (h:St w0 O G K W) (e:G=G'):St w0 O G' K W:=e▸h
def jC (w0:World) (Kk:List (Nat×World)) (p:World→Prop):Prop:=∀ {O2:Own} {G2:cV} {K2:List (Nat×World)} {W2:World},St w0 O2 G2 K2 W2→(∀ q∈Kk,q∈K2)→p W2
theorem jC.one {p:World→Prop} {lo:Nat} {A:World} (h:∀ W2,dD lo A W2→p W2):jC w0 [(lo,A)] p:=fun h2 hk=>h _ (h2.kept (lo,A) (hk _ List.mem_cons_self)).1
theorem jC.more {p:World→Prop} {Kk Kl:List (Nat×World)} (h:jC w0 Kk p) (k:∀ q∈Kk,q∈Kl):jC w0 Kl p:=fun h2 hk=>h h2 (fun q hq=>hk q (k q hq))
theorem St.adopt {W':World} {e:TypeId} {size n:Nat} {v:Value} {xs:List Value} (h:St w0 O G K W) (hb:Below W.heap.size W W') (hr:W'.ownsRow W.heap.size e size v n xs):St w0 O (⟨v,n,xs,e,size⟩::G) K W':=by
 have h':=h.grow hb;have hge:∀ b,v.ownBlock=some b→W.heap.size≤b:=fun b e1=>by
  rcases hr.2 with ⟨rfl,_⟩ | ⟨g,cap,cur,rfl,h3,_⟩
  ·cases e1
  ·cases e1;exact h3
 refine ⟨h'.below,h'.own,h'.dist,h'.kept,fun g hg=>?_,List.Pairwise.cons (fun q hq b e1 e2=>?_) h'.gdist⟩
 ·rcases List.mem_cons.1 hg with rfl | hg
  ·refine ⟨vT hr h.below.size,fun b e1=>⟨fun p hp e2=>?_,fun q hq=>.inr ?_⟩⟩
   ·have:=cA (h.own p hp).2;have:=hge b e1;omega
   ·have:=(h.kept q hq).1.1;have:=hge b e1;omega
  ·exact h'.rows g hg
 ·have h3:=(h.glt hq e2).2;have:=hge b e1;omega
theorem St.cut (h:St w0 O G K W) (i:Nat) {b c nn k:Nat} {xs:List Value} {e:TypeId} {size:Nat} (hi:G[i]?=some ⟨.slice (some ⟨b,0,none⟩) nn c,nn,xs,e,size⟩) (hk:k≤nn):St w0 O (G.set i ⟨.slice (some ⟨b,0,none⟩) k c,k,xs.take (k * size),e,size⟩) K W:=by
 have hg:=List.mem_of_getElem? hi;have hrow:=(h.rows _ hg).1;refine h.setG i hi (v':=.slice (some ⟨b,0,none⟩) k c) ?_ ⟨rfl,rfl,rfl,Nat.le_refl _,fun _ _ _=>rfl⟩ (.inl rfl);refine ⟨?_,?_⟩
 ·have h2:k * size≤nn * size:=Nat.mul_le_mul_right _ hk;have:=hrow.1;dsimp only at this ⊢;rw [List.length_take,this,Nat.min_eq_left h2]
 ·rcases hrow.2 with ⟨e1,_⟩ | ⟨g,cap,cur,e1,hg,hh,hn,hm,hs,ht⟩
  ·cases e1
  ·cases e1;refine .inr ⟨b,c,cur,rfl,hg,hh,by dsimp only at hn;omega,hm,hs,?_⟩;have h2:k * size≤nn * size:=Nat.mul_le_mul_right _ hk;dsimp only at ht ⊢;rw [← ht,List.take_take,Nat.min_eq_left h2]
end
section
variable {P:Program} {n:Nat} {ops:Array Oper} {Q:Exit→Act→World→Prop} {l:Fr} {w0 W:World} {O:Own} {G:cV} {K:List (Nat×World)} {os:List Oper} {d:Nat} {ty:TypeId} {pos:String} {aft:Array Edge}
theorem fY {f:FuncId} {args:Array Operand} {ts:Array TypeId} {vs:List Value} {R:Ending→World→Prop} (hgo:bJ P f=true) (ha:args.toList.map (evL l)=vs.map some) (hc:Calls P f vs.toArray W R)
  (hd:Nat.blt d n=true)
  (h:∀ e W',R e W'→∃ v,e = .returned v∧cO P n ops Q os ((d,v)::l) W'):cO P n ops Q (⟨some d,.call { callee:=.value (.func f),args:=args,argTypes:=ts },ty,pos,aft,none⟩::os) l W:=fun a hl=>by
 refine wpList_plain rfl fun K' hK=>?_
 unfold Oper.wp;rw [lT P a.eval W f args ts _ rfl rfl hgo,Oper.upon_enter];have hargs:args.map a.eval=vs.toArray:=by
  have key:∀ (xs:List Operand) (us:List Value),xs.map (evL l)=us.map some→xs.map a.eval=us:=by
   intro xs
   induction xs with
   | nil=>intro us h;cases us<;>simp at h ⊢
   | cons x xs ih =>
    intro us h;cases us with
    | nil=>simp at h
    | cons u us =>
     simp only [List.map_cons,List.cons.injEq] at h;simp only [List.map_cons,hl.ev x u h.1,ih us h.2]
  apply Array.ext';rw [Array.toList_map,key _ _ ha]
 rw [hargs];refine hc.mono ?_;intro e W' hRe;obtain ⟨v,rfl,hn⟩:=h e W' hRe;exact hK _ _ (hn _ (hl.put hd))
theorem mS {T e:TypeId} {s:Nat} (hS:St w0 O G K W) (hU:P.underlying T=some (.slice e)) (hs:∀ w,(sizeOf e).run P w = .ok s w) (hd:Nat.blt d n=true)
  (h:∀ v W',St w0 O (⟨v,0,[],e,s⟩::G) K W'→cO P n ops Q os ((d,v)::l) W'):cO P n ops Q (⟨some d,.buildSlice T 0 #[],ty,pos,aft,none⟩::os) l W :=
 opV (W':=W.alloc (.cells #[] e)) (v:=.slice (some ⟨W.heap.size,0,none⟩) 0 0) (fun ev he=>by
  unfold execOp;have h0:Array.range 0=#[]:=by simp
  simp only [List.map_toArray,List.map_nil,Instr.buildSlice,Sem.run_bind,run_underlying hU,Result.andThen_ok,hs,Nat.zero_mul,Sem.run_pure,h0];simp [Instr.fill,newRow]) hd (h _ _ (hS.adopt ((Below.refl _ _).alloc (Nat.le_refl _) _) (by
   have:=World.ownsRow_made (base:=W.heap.size) (e:=e) (size:=s) W #[] 0 (Nat.le_refl _) (Nat.zero_le _) (by simp);simpa using this)))
theorem op_cut {T e:TypeId} {x y:Operand} {kk:IntKind} {k:Nat} {j:Int} {b c nn s:Nat} {xs:List Value} (hS:St w0 O G K W) (i:Nat) (hU:P.underlying T=some (.slice e)) (hs:∀ w,(sizeOf e).run P w = .ok s w) (hi:G[i]?=some ⟨.slice (some ⟨b,0,none⟩) nn c,nn,xs,e,s⟩) (hx:evL l x=some (.slice (some ⟨b,0,none⟩) nn c)) (hy:evL l y=some (.int kk j)) (hj:j=(k:Int)) (hk:k≤nn) (hd:Nat.blt d n=true)
  (h:St w0 O (G.set i ⟨.slice (some ⟨b,0,none⟩) k c,k,xs.take (k * s),e,s⟩) K W→cO P n ops Q os ((d,.slice (some ⟨b,0,none⟩) k c)::l) W):cO P n ops Q (⟨some d,.slice T x none (some y) none,ty,pos,aft,none⟩::os) l W :=
 opV (v:=.slice (some ⟨b,0,none⟩) k c) (fun ev he=>by
  subst hj;have hc:nn≤c:=by
   rcases (hS.row i hi).2 with ⟨e1,_⟩ | ⟨g,cap,cur,e1,_,_,hn,_⟩
   ·cases e1
   ·cases e1;exact hn
  have h1:(0:Int)≤(k:Int):=by omega
  have h2:(k:Int)≤(c:Int):=by omega
  have h3:k≤c:=by omega
  unfold execOp;simp only [Option.map_some,Option.map_none];rw [he x _ hx,he y _ hy];simp [Instr.sliceAt,Instr.slice,Instr.sliceBounds,Instr.sliceBound,run_underlying hU,asIntOf,h3,hs];intro _;rfl) hd (h (hS.cut i hi hk))
theorem xG {w:World} (base:Nat) (t ty e:TypeId) (i:TypeInfo) (size:Nat) (ht:P.underlying t=some (.slice e)) (hi:P.info? e=some i)
  (v:Value) (n:Nat) (xs:List Value) (c:Nat) (hown:w.ownsRow base e size v n xs) :
  (Builtin.append_ #[t,t] ty #[v,.slice none 0 c]).run P w = .ok v w:=by
 rcases hown.2 with ⟨rfl,rfl⟩ | ⟨g,cap,cur,rfl,_,_,hnc,_⟩
 ·simp [Builtin.append_,run_underlying ht,sizeOf,typeInfo,hi,Builtin.lenOf,Builtin.firstCells]
 ·simp [Builtin.append_,run_underlying ht,sizeOf,typeInfo,hi,Builtin.lenOf,Builtin.firstCells,hnc,storeCells]
theorem gU {t e:TypeId} {x y:Operand} {i:Nat} {g:GR} {a:Option Addr} {m c:Nat} {news:List Value} {inf:TypeInfo} {z:Value} (hS:St w0 O G K W) (hU:P.underlying t=some (.slice e)) (hinf:P.info? e=some inf) (hz:inf.zero=some z) (hzs:z.cells.size=inf.size) (hsz:0 < inf.size)
  (hi:G[i]?=some g) (he:g.e=e) (hgs:g.size=inf.size) (hx:evL l x=some g.v) (hy:evL l y=some (.slice a m c)) (hc:(a=none∧m=0)∨∃ p,a=some p∧∀ (j:Nat) u,news[j]?=some u→W.cell? (p.add j)=some u) (hl:news.length=m * inf.size) (h1:∀ u∈news,u.oneCell'=true)
  (h63:g.n+m≤maxLen) (hbytes:(g.n+m) * inf.bytes≤140737488355328) (hd:Nat.blt d n=true)
  (h:∀ v' W',St w0 O (G.set i ⟨v',g.n+m,g.xs++news,e,g.size⟩) K W'→cO P n ops Q os ((d,v')::l) W') :
  cO P n ops Q (⟨some d,.call { callee:=.builtin .append,args:=#[x,y],argTypes:=#[t,t] },ty,pos,aft,none⟩::os) l W:=by
 subst he;have hrow:=hS.row i hi;rcases hc with ⟨rfl,rfl⟩ | ⟨p,rfl,hc⟩
 ·have hr:=xG (P:=P) w0.heap.size t ty g.e inf g.size hU hinf g.v g.n g.xs c hrow;have hn:news=[]:=List.eq_nil_of_length_eq_zero (by simpa using hl);subst hn;refine opV (W':=W) (v:=g.v) (fun ev hev=>?_) hd (h g.v W ?_)
  ·unfold execOp;simp only [resolve,invoke,builtin,Sem.run_bind,Sem.run_pure,Result.andThen_ok,List.map_toArray,List.map_cons,List.map_nil,hev x _ hx,hev y _ hy,hr]
  ·rw [List.append_nil,Nat.add_zero];exact hS.setG i hi hrow ⟨rfl,rfl,rfl,Nat.le_refl _,fun _ _ _=>rfl⟩ (.inl rfl)
 ·rw [hgs] at hrow;obtain ⟨v',W',hr,h2,h3,h4⟩:=lU (P:=P) (w:=W) w0.heap.size t ty g.e inf z hU hinf hz hzs hsz g.v g.n g.xs hrow p m c news hl hc h1 h63 hbytes hS.below.size;rw [← hgs] at h2;refine opV (W':=W') (v:=v') (fun ev hev=>?_) hd (h v' W' (hS.setG i hi h2 h3 h4));unfold execOp;simp only [resolve,invoke,builtin,Sem.run_bind,Sem.run_pure,Result.andThen_ok,List.map_toArray,List.map_cons,List.map_nil,hev x _ hx,hev y _ hy,hr]
end
section
variable {P:Program} {n:Nat} {Q:Exit→Act→World→Prop} {l:Fr} {w0 W:World} {ops:Array Oper} {os:List Oper} {K:List (Nat×World)} {L:List Asr} {i:Nat}
variable {O:Own} {Gs:List Value→cV} {efs:List Nat} {lo:Nat} {s:List Value}
variable {d:Nat} {op:Op} {ty:TypeId} {pos:String} {aft_:Array Edge} {v:Value} {gd:Option (Nat×Bool)}
variable {Goal:List Asr→Prop}
theorem hg0 {Gs:List Value→cV} {gi:Nat} {g:GR} (h:(Gs [])[gi]?=some g):∀ s,s.length=0→(Gs s)[gi]?=some g:=fun s hs=>by rw [List.eq_nil_of_length_eq_zero hs];exact h
theorem hg1 {Gs:List Value→cV} {gi:Nat} {g:GR} (h:∀ a,(Gs [a])[gi]?=some g):∀ s,s.length=1→(Gs s)[gi]?=some g:=fun s hs=>by obtain ⟨a,rfl⟩:=List.length_eq_one_iff.1 hs;exact h a
end
section
variable {P:Program} {ops:Array Oper} {Q:Exit→Act→World→Prop} {σ:Type}
end
abbrev Sy:=Nat→Option Value
structure AB where
 a:Nat
 T:TypeId
 zs:List Value
 st:Nat
def blkNo:Value→Nat
 | .pointer (some p)=>p.block
 | _=>0
def AB.cs (q:AB) (s:Sy):List Value:=match s q.st with | none=>q.zs | some y=>eQ q.zs 0 y.cells.toList
def AS (al:List AB) (s:Sy):Own:=al.flatMap fun q=>match s q.a with | some v=>[(blkNo v,q.cs s,q.T)] | none=>[]
section
variable {P:Program} {n:Nat} {Q:Exit→Act→World→Prop} {l:Fr} {w0 W:World} {ops opf:Array Oper} {os:List Oper} {K:List (Nat×World)} {L:List Asr} {i:Nat}
variable {Ob:Own} {al:List AB} {G:Sy→cV} {E:List Nat} {lo:Nat} {s:Sy}
abbrev OY (al:List AB) (Ob:Own) (s:Sy):Own:=AS al s++Ob
structure Kn (ops:Array Oper) (E:List Nat) (i:Nat) (s:Sy):Prop where
 yes:∀ e,E.contains e=true→(earlyL ops i).contains e=true→∃ v,s e=some v
 no:∀ e,(earlyL ops e).contains i=true→s e=none
 out:∀ e,E.contains e=false→s e=none
 self:s i=none
variable {d:Nat} {op:Op} {ty:TypeId} {pos:String} {aft_:Array Edge} {v:Value} {gd:Option (Nat×Bool)}
variable {Goal:List Asr→Prop}
end
section
variable {P:Program} {n:Nat} {Q:Exit→Act→World→Prop} {l:Fr} {W:World} {ops:Array Oper} {os:List Oper} {d:Nat} {ty:TypeId} {pos:String} {aft:Array Edge} {x y:Operand} {k:IntKind} {a b:Int} {ts:Array TypeId}
theorem rn_min (hx:evL l x=some (.int k a)) (hy:evL l y=some (.int k b)):gA P l ⟨some d,.call { callee:=.builtin .min,args:=#[x,y],argTypes:=ts },ty,pos,aft,none⟩ W (.int k (min a b)) W:=fun ev he=>by
 have e:(if b < a then b else a)=min a b:=by omega
 unfold execOp;simp only [resolve,invoke,builtin,Sem.run_bind,Sem.run_pure,Result.andThen_ok,List.map_toArray,List.map_cons,List.map_nil,he x _ hx,he y _ hy,run_min_int2,e]
theorem op_min (hx:evL l x=some (.int k a)) (hy:evL l y=some (.int k b)) (hd:Nat.blt d n=true) (h:cO P n ops Q os ((d,.int k (min a b))::l) W):cO P n ops Q (⟨some d,.call { callee:=.builtin .min,args:=#[x,y],argTypes:=ts },ty,pos,aft,none⟩::os) l W:=opV (rn_min hx hy) hd h
end
section
variable {P:Program} {n:Nat} {ops:Array Oper} {Q:Exit→Act→World→Prop} {l:Fr} {w0 W:World} {os:List Oper} {d:Nat} {ty:TypeId} {pos:String} {aft:Array Edge}
theorem cU {x:Operand} {p:Addr} (hx:evL l x=some (.pointer (some p))):gA P l ⟨some d,.nilCheck x,ty,pos,aft,none⟩ W (.pointer (some p)) W:=fun ev he=>by unfold execOp;simp only [];rw [he x _ hx];rfl
theorem cQ {x:Operand} {p:Addr} (hx:evL l x=some (.pointer (some p))) (hd:Nat.blt d n=true) (h:cO P n ops Q os ((d,.pointer (some p))::l) W):cO P n ops Q (⟨some d,.nilCheck x,ty,pos,aft,none⟩::os) l W:=opV (cU hx) hd h
end
section
variable {P:Program} {n:Nat} {Q:Exit→Act→World→Prop} {l:Fr} {W:World} {ops:Array Oper} {os:List Oper} {d:Nat} {ty:TypeId} {pos:String} {aft:Array Edge} {x y:Operand} {k:IntKind} {a b:Int} {ts:Array TypeId}
end
def Ee:List (Nat×Nat×Asr)→(Operand→Value)→World→Prop
 | [],_,_=>True
 | x::xs,ev,w=>x.2.2 (ev (.tmp x.2.1)) w∧Ee xs ev w
def I6 (ops:Array Oper) (L:List Asr) (i:Nat):List (Nat×Nat×Asr)→Prop
 | []=>True
 | x::xs=>(bH ops i x.1 x.2.1=true∧atI L x.1=x.2.2)∧I6 ops L i xs
section
variable {P:Program} {ops opf:Array Oper} {Q:Exit→Act→World→Prop} {n:Nat} {l:Fr} {w0 W:World} {K:List (Nat×World)} {lo:Nat} {al:List AB} {Ob:Own} {G:Sy→cV} {E:List Nat} {L:List Asr} {i:Nat}
variable {d:Nat} {op:Op} {ty:TypeId} {pos:String} {aft_:Array Edge}
end
end
section
open Go.RowKit
open Go.WideMaps (KeyLaw)
open Go.ChangeMaps (setBlock)
section
variable {α:Type} {P:Program} {K E S T:TypeId} {κ:α→Value} {W:World} {lo b:Nat} {f:α→List Value}
structure GrpE (P:Program) (K E:TypeId) (κ:α→Value) (lo:Nat) (f:α→List Value) (W:World) (es:Array MapEntry) (clock:Nat):Prop where
 born:∀ x∈es.toList,x.born < clock
 nodup:(es.toList.map (·.born)).Nodup
 keys:es.toList.Pairwise (fun x y=>x.key≠y.key)
 is:∀ x∈es.toList,∃ k,x.key=κ k∧(∃ l,keyOf P K (κ k)=some l)∧W.ownsRow lo E 1 x.val (f k).length (f k)
 all:∀ k,f k≠[]→∃ x∈es.toList,x.key=κ k
 apart:∀ x∈es.toList,∀ y∈es.toList,x.key≠y.key→Value.apart x.val y.val
def Grp (P:Program) (K E:TypeId) (κ:α→Value) (lo:Nat) (f:α→List Value) (b:Nat) (W:World):Prop :=
 ∃ es clock,W.heap[b]?=some (.map es clock)∧GrpE P K E κ lo f W es clock
theorem Bb {l:List MapEntry} (h:l.Pairwise (fun x y=>x.key≠y.key)) {x y:MapEntry} (hx:x∈l) (hy:y∈l) (e:x.key=y.key):x=y:=by
 induction h with
 | nil=>cases hx
 | cons a _ ih =>
  rcases List.mem_cons.1 hx with hx1 | hx1
  ·rcases List.mem_cons.1 hy with hy1 | hy1
   ·rw [hx1,hy1]
   ·subst hx1;exact absurd e (a _ hy1)
  ·rcases List.mem_cons.1 hy with hy1 | hy1
   ·subst hy1;exact absurd e.symm (a _ hx1)
   ·exact ih hx1 hy1
theorem GrpE.valid {es:Array MapEntry} {clock:Nat} (h:GrpE P K E κ lo f W es clock):∀ e∈es.toList,∃ l,keyOf P K e.key=some l:=fun e he=>by obtain ⟨k,h1,h2,_⟩:=h.is e he;rw [h1];exact h2
theorem GrpE.nil_of {es:Array MapEntry} {clock:Nat} (h:GrpE P K E κ lo f W es clock) {k:α} (hn:∀ x∈es.toList,x.key≠κ k):f k=[] :=
 Decidable.byContradiction fun hne=>by obtain ⟨x,hx,hk⟩:=h.all k hne;exact hn x hx hk
theorem GrpE.at_ {es:Array MapEntry} {clock:Nat} (h:GrpE P K E κ lo f W es clock) (hinj:∀ x y,κ x=κ y→x=y) {x:MapEntry} {k:α} (hx:x∈es.toList) (hk:x.key=κ k):W.ownsRow lo E 1 x.val (f k).length (f k):=by obtain ⟨k2,h1,_,h2⟩:=h.is x hx;obtain rfl:=hinj _ _ (h1.symm.trans hk);exact h2
theorem mA {w:World} {base n p:Nat} {e:TypeId} {size:Nat} {v:Value} {xs:List Value} (h:w.ownsRow base e size v n xs) {es:Array MapEntry} {clock:Nat} (hb:w.heap[b]?=some (.map es clock)) (hp:v.ownBlock=some p):p≠b:=by
 rcases h.2 with ⟨rfl,_⟩ | ⟨g,cap,cur,rfl,_,h4,_⟩
 ·cases hp
 ·intro e1
  have:g=p:=Option.some.inj hp
  rw [this,e1,hb] at h4;cases h4
theorem Grp.same {W':World} (h:Grp P K E κ lo f b W) (hb:b < W.heap.size→W'.heap[b]?=W.heap[b]?) (hs:∀ p,lo≤p→p < W.heap.size→W'.heap[p]?=W.heap[p]?):Grp P K E κ lo f b W':=by obtain ⟨es,clock,h1,h2⟩:=h;refine ⟨es,clock,(hb (cA h1)).trans h1,⟨h2.born,h2.nodup,h2.keys,fun x hx=>?_,h2.all,h2.apart⟩⟩;obtain ⟨k,h3,h4,h5⟩:=h2.is x hx;exact ⟨k,h3,h4,dN h5 fun p hp=>hs p (h5.lt p hp).1 (h5.lt p hp).2⟩
theorem Grp.below {W':World} (h:Grp P K E κ lo f b W) (hb:Below W.heap.size W W'):Grp P K E κ lo f b W':=h.same (fun h1=>hb.block _ h1) (fun p _ h1=>hb.block _ h1)
theorem Grp.fresh (lo:Nat) (hb:W.heap[b]?=some (.map #[] 0)):Grp P K E κ lo (fun _=>[]) b W :=
 ⟨#[],0,hb,⟨by simp,by simp,by simp,by simp,fun k h=>absurd rfl h,by simp⟩⟩
theorem Grp.look (h:Grp P K E κ lo f b W) (L:KeyLaw P K) (ht:P.underlying T=some (.map K S)) (hz:∀ w,(zeroValue S).run P w = .ok (.slice none 0 0) w) {k:α} (hk:∃ l,keyOf P K (κ k)=some l) (hinj:∀ x y,κ x=κ y→x=y) :
  ∃ v,(∀ W',W'.heap[b]?=W.heap[b]?→(Instr.lookup T (.map (some b)) (κ k) false).run P W' = .ok v W')∧W.ownsRow lo E 1 v (f k).length (f k):=by
 obtain ⟨es,clock,hb,hE⟩:=h;obtain ⟨l,hl⟩:=hk;by_cases hx:∃ x∈es.toList,x.key=κ k
 ·obtain ⟨x,hx,hxk⟩:=hx;refine ⟨x.val,fun W' hW'=>?_,hE.at_ hinj hx hxk⟩;rcases L.find W' hl es.toList hE.valid with ⟨_,h2⟩ | ⟨j,e0,h1,h2,h3⟩
  ·exact absurd hxk (h2 x hx)
  ·obtain rfl:e0=x:=Bb hE.keys (List.mem_of_getElem? h2) hx (h3.trans hxk.symm);simp [Instr.lookup,run_underlying ht,MapKept.run_getObj_map (hW'.trans hb),L.check W' _ hl,h1,Result.andThen]
 ·have hn:∀ x∈es.toList,x.key≠κ k:=fun x h1 h2=>hx ⟨x,h1,h2⟩
  refine ⟨.slice none 0 0,fun W' hW'=>?_,?_⟩
  ·rcases L.find W' hl es.toList hE.valid with ⟨h1,_⟩ | ⟨j,e0,_,h2,h3⟩
   ·simp [Instr.lookup,run_underlying ht,MapKept.run_getObj_map (hW'.trans hb),L.check W' _ hl,h1,hz,Result.andThen]
   ·exact absurd ⟨e0,List.mem_of_getElem? h2,h3⟩ hx
  ·rw [hE.nil_of hn];exact World.ownsRow_nil _ _ _ _
theorem rN {w:World} {o o':Obj} (hb:w.heap[b]?=some o):(setBlock w b o').heap[b]?=some o':=(MapKept.heap_set hb).1
theorem eN {w:World} {o o':Obj} (hb:w.heap[b]?=some o) {p:Nat} (hp:p≠b):(setBlock w b o').heap[p]?=w.heap[p]?:=(MapKept.heap_set hb).2 p hp
theorem nF {w:World} {o o':Obj} (hb:w.heap[b]?=some o):w.grownBy (setBlock w b o') (some b) :=
 ⟨rfl,rfl,rfl,by simp [setBlock],fun k _ hk=>eN hb (fun e=>hk (by rw [e]))⟩
theorem Bc {es:Array MapEntry} {j:Nat} {e0 x:MapEntry} {g:MapEntry→MapEntry} (hj:es.toList[j]?=some e0) (hx:x∈(es.modify j g).toList):x=g e0∨∃ i,i≠j∧es.toList[i]?=some x:=by
 obtain ⟨i,hi⟩:=List.getElem?_of_mem hx;rw [Array.toList_modify,List.getElem?_modify] at hi;by_cases hij:j=i
 ·subst hij;rw [hj] at hi;simp at hi;exact .inl hi.symm
 ·refine .inr ⟨i,fun e=>hij e.symm,?_⟩;simpa [hij] using hi
theorem Bd {es:Array MapEntry} {j i:Nat} {x:MapEntry} {g:MapEntry→MapEntry} (hx:es.toList[i]?=some x):(if j=i then g x else x)∈(es.modify j g).toList:=by refine List.mem_of_getElem? (i:=i) ?_;rw [Array.toList_modify,List.getElem?_modify,hx];by_cases hij:j=i<;>simp [hij]
theorem Be {β:Type} {es:Array MapEntry} {j:Nat} {g:MapEntry→MapEntry} {p:MapEntry→β} (h:∀ x,p (g x)=p x):(es.modify j g).toList.map p=es.toList.map p:=by
 apply List.ext_getElem?;intro i;rw [Array.toList_modify,List.getElem?_map,List.getElem?_map,List.getElem?_modify];cases es.toList[i]? with
 | none=>rfl
 | some x =>
  by_cases hij:j=i
  ·simp [hij,h]
  ·simp [hij]
theorem pw_map {β:Type} {r:β→β→Prop} {p:MapEntry→β} {l l':List MapEntry} (h:l.Pairwise (fun x y=>r (p x) (p y))) (e:l'.map p=l.map p):l'.Pairwise (fun x y=>r (p x) (p y)):=by rw [← List.pairwise_map] at h ⊢;rw [e];exact h
variable {n:Nat} {ops:Array Oper} {Q:Exit→Act→World→Prop} {os:List Oper} {l:Fr} {w0:World} {O:Own} {G:cV} {Kk:List (Nat×World)} {d:Nat} {ty:TypeId} {pos:String} {aft:Array Edge}
theorem Mg (hS:St w0 O G Kk W) (hd:Nat.blt d n=true) (h:∀ B W',W'.heap[B]?=some (.map #[] 0)→W.heap.size≤B→St w0 O G ((W.heap.size,W')::Kk) W'→cO P n ops Q os ((d,.map (some B))::l) W'):cO P n ops Q (⟨some d,.makeMap T none,ty,pos,aft,none⟩::os) l W :=
 opV (W':=W.alloc (.map #[] 0)) (v:=.map (some W.heap.size)) (fun ev he=>by
  unfold execOp;simp [Instr.makeMap,Result.andThen]) hd (h _ _ (heap_alloc_new W _) (Nat.le_refl _) (hS.call ((Below.refl _ _).alloc (Nat.le_refl _) _)))
theorem Ef {m x:Operand} {v u:Value} {w:World} {key:Value} (hm:evL l m=some u) (hx:evL l x=some key) (hr:(Instr.lookup T u key false).run P w = .ok v w):gA P l ⟨some d,.lookup T m x false,ty,pos,aft,none⟩ w v w:=fun ev he=>by unfold execOp;simp only [];rw [he m _ hm,he x _ hx];simp [hr,Result.andThen]
theorem R6 {T e:TypeId} {x y:Operand} {kk:IntKind} {j:Int} {s:Nat} (hU:P.underlying T=some (.slice e)) (hs:∀ w,(sizeOf e).run P w = .ok s w) (hx:evL l x=some (.slice none 0 0)) (hy:evL l y=some (.int kk j)) (hj:j=0) (hd:Nat.blt d n=true)
  (h:cO P n ops Q os ((d,.slice none 0 0)::l) W):cO P n ops Q (⟨some d,.slice T x none (some y) none,ty,pos,aft,none⟩::os) l W :=
 opV (v:=.slice none 0 0) (fun ev he=>by
  subst hj;unfold execOp;simp only [Option.map_some,Option.map_none];rw [he x _ hx,he y _ hy];simp [Instr.sliceAt,Instr.slice,Instr.sliceBounds,Instr.sliceBound,run_underlying hU,asIntOf,hs,Result.andThen]) hd h
theorem O6 {es:Array MapEntry} {clock:Nat} (hS:St w0 O G Kk W) (hb:W.heap[b]?=some (.map es clock)):∀ p∈O,p.1≠b∧p.1 < W.heap.size:=fun p hp=>by refine ⟨fun e=>?_,hS.own_lt p hp⟩;have h1:=(hS.own p hp).2;rw [e,hb] at h1;cases h1
theorem Grp.lt (h:Grp P K E κ lo f b W):b < W.heap.size:=by obtain ⟨es,clock,h1,_⟩:=h;exact cA h1
def oI (W:World) (b:Nat):World:={ W with heap:=W.heap.extract 0 (b+1) }
theorem jV (h:b < W.heap.size):(oI W b).heap.size=b+1:=by simp [oI];omega
theorem sP (h:b < W.heap.size):b < (oI W b).heap.size:=by rw [jV h];exact Nat.lt_succ_self _
theorem sQ (h:b < W.heap.size):(oI W b).heap[b]?=W.heap[b]?:=by rw [Array.getElem?_eq_getElem (sP h),Array.getElem?_eq_getElem h];simp [oI]
theorem St.markAt {b:Nat} (h:St w0 O [] Kk W) (hb:b < W.heap.size) (hO:∀ p∈O,p.1≠b):St w0 O [] ((b,oI W b)::Kk) W where
 below:=h.below
 own:=h.own
 dist:=h.dist
 kept:=fun q hq=>by
  rcases List.mem_cons.1 hq with rfl | hq
  ·refine ⟨⟨by show (oI W b).heap.size≤_;rw [jV hb];exact hb,fun x h1 h2=>?_⟩,fun p hp=>?_⟩
   ·have h3:x < b+1:=by rw [← jV hb];exact h2
    have h4:b≤x:=h1;obtain rfl:x=b:=by omega
    exact (sQ hb).symm
   ·have:=hO p hp;show p.1 < b∨(oI W b).heap.size≤p.1;rw [jV hb];omega
  ·exact h.kept q hq
 rows:=fun g hg=>by cases hg
 gdist:=List.Pairwise.nil
end
end
section
open Go.RowKit
theorem St.headSl {w0 W:World} {O:Own} {G:cV} {K:List (Nat×World)} {v:Value} {n size:Nat} {xs:List Value} {e:TypeId} (h:St w0 O (⟨v,n,xs,e,size⟩::G) K W):∃ a c,v = .slice a n c:=by obtain ⟨a,c,e9,_⟩:=fC (h.row 0 rfl);exact ⟨a,c,e9⟩
section
variable {w0 W:World} {O:Own} {G:cV} {K:List (Nat×World)}
theorem I7 {w:World} {base n b k:Nat} {e:TypeId} {size:Nat} {c:Nat} {xs:List Value} {x:Value} (h:w.ownsRow base e size (.slice (some ⟨b,0,none⟩) n c) n xs) (hk:xs[k]?=some x):w.cell? ⟨b,k,none⟩=some x:=by
 rcases lM h with ⟨h1,_⟩ | ⟨b2,h1,_,h3⟩
 ·cases h1
 ·cases h1;exact h3 k x hk
variable {P:Program} {n:Nat} {ops:Array Oper} {Q:Exit→Act→World→Prop} {l:Fr} {os:List Oper} {d:Nat} {ty:TypeId} {pos:String} {aft:Array Edge}
theorem St.markMap {b:Nat} {es:Array MapEntry} {clock:Nat} (h:St w0 O G K W) (hb:W.heap[b]?=some (.map es clock)):St w0 O G ((b,oI W b)::K) W where
 below:=h.below
 own:=h.own
 dist:=h.dist
 kept:=fun q hq=>by
  rcases List.mem_cons.1 hq with rfl | hq
  ·have hlt:=cA hb;refine ⟨⟨by show (oI W b).heap.size≤_;rw [jV hlt];exact hlt,fun x h1 h2=>?_⟩,fun p hp=>?_⟩
   ·have h3:x < b+1:=by rw [← jV hlt];exact h2
    have h4:b≤x:=h1;obtain rfl:x=b:=by omega
    exact (sQ hlt).symm
   ·have:p.1≠b:=fun e=>by have h5:=(h.own p hp).2;rw [e,hb] at h5;cases h5
    show p.1 < b∨(oI W b).heap.size≤p.1;rw [jV hlt];omega
  ·exact h.kept q hq
 rows:=fun g hg=>by
  obtain ⟨h1,h2⟩:=h.rows g hg;refine ⟨h1,fun k hk=>⟨(h2 k hk).1,fun q hq=>?_⟩⟩;rcases List.mem_cons.1 hq with rfl | hq
  ·have:k≠b:=mA h1 hb hk
   show k < b∨(oI W b).heap.size≤k;rw [jV (cA hb)];omega
  ·exact (h2 k hk).2 q hq
 gdist:=h.gdist
theorem St.oneV (h:St w0 O G K W) (i:Nat) (g:GR) (hi:G[i]?=some g):g.v.oneCell'=true:=by rcases (h.rows g (List.mem_of_getElem? hi)).1.2 with ⟨h1,_⟩ | ⟨_,_,_,h1,_⟩<;>rw [h1]<;>rfl
end
section
variable {P:Program} {ops opf:Array Oper} {Q:Exit→Act→World→Prop} {n:Nat} {l:Fr} {w0 W:World} {K:List (Nat×World)} {lo:Nat} {al:List AB} {Ob:Own} {G:Sy→cV} {E:List Nat} {L:List Asr} {i:Nat}
variable {d:Nat} {op:Op} {ty:TypeId} {pos:String} {aft_:Array Edge}
end
theorem R7 {xs ys:List Int} {i:Nat} {y z:Int} (h:xs.take i=ys.take i) (hy:xs[i]?=some y) (hz:ys[i]?=some z) (e:y=z):xs.take (i+1)=ys.take (i+1):=by rw [List.take_add_one,List.take_add_one,h,hy,hz,e]
abbrev gR (sf:SF) (f0:WF):Value:=.agg #[.int .i64 sf.tag,.int .i64 sf.dim,.slice sf.a sf.len sf.cap,.bool f0.z,.int .i64 f0.c,.int .u64 (f0.g:Int),.slice f0.ra f0.rl f0.rc,.slice f0.ca f0.cl f0.cc,.slice f0.pa f0.pl f0.pc]
theorem Eh (S:PS) (sf:SF) (w:World) (hs:SIs w S sf) (hok:S.ok) :
  Calls prog 20 #[sf.val] w (fun e w'=>∃ f0:WF,e = .returned (gR sf f0)∧gY w.heap.size w' S f0 (bU S)∧Below w.heap.size w w'):=by
 refine cG (args:=[sf.val]) func20 rfl ntmps20 rfl ?_;have hS:=St.start w;refine aO (aQ (bY (cs:=[_,_,_]) hS rfl rfl rfl fun B1 W1 hS=>bF (cs:=[_,_,_,_,_,_,_,_,_]) hS zeroValue57 rfl rfl fun B2 W2 hS=>aP (XF.thenN (aO (aQ (aT (vs:=[_,_,_]) isAgg25 sizeOf25 rfl (aC.own (j:=0) (m:=3) (hS.at_ 1 rfl) rfl) rfl ?_))))));have hsz:=hS.below.size;refine cS (vs:=[_]) hS Ny rfl (Ir S sf _ (hs.below hS.below) hok) rfl ?_;rintro e W3 ⟨f0,rfl,hn,hb⟩;refine ⟨_,rfl,hb,?_⟩;clear hS;intro hS;refine aH rfl rfl (bZ rfl rfl rfl (bZ rfl rfl rfl (bF (cs:=[_,_,_,_,_,_]) hS zeroValue46 rfl rfl fun B4 W4 hS=>aU (i:=0) (vs:=[_,_,_,_,_,_]) (cs':=[_,_,_,_,_,_]) (O':=[_,_,_]) hS sizeOf46 rfl rfl rfl rfl rfl rfl rfl fun W5 hS=>aB rfl rfl (aP (XF.thenN (aO (aQ (aT (vs:=[_,_,_]) isAgg25 sizeOf25 rfl (aC.own (j:=0) (m:=3) (hS.at_ 2 rfl) rfl) rfl (aT (vs:=[_,_,_,_,_,_]) isAgg46 sizeOf46 rfl (aC.own (j:=0) (m:=6) (hS.at_ 0 rfl) rfl) rfl (dY (us:=[(0,.agg (List.toArray [_,_,_])),(1,.agg (List.toArray [_,_,_,_,_,_]))]) rfl (Mb _ _ _ _ _ _ _ _ _) rfl (aU (i:=1) (vs:=[_,_,_,_,_,_,_,_,_]) (cs':=[_,_,_,_,_,_,_,_,_]) (O':=[_,_,_]) hS sizeOf57 rfl rfl rfl rfl rfl rfl rfl fun W6 hS=>aP (XF.thenN (bL (XF.res (eE (vs:=[_,_,_,_,_,_,_,_,_]) results20 isAgg57 sizeOf57 rfl (aC.own (j:=0) (m:=9) (hS.at_ 1 rfl) rfl)) ?_))))))))))))));exact ⟨f0,rfl,(hn.agree (hS.since 0 rfl)).mono hsz,hS.below⟩
theorem Mh (S:PS) (sf:SF) (f0:WF) (w:World) (hs:SIs w S sf) (hok:S.ok) :
  Calls prog 70 #[gR sf f0] w (jO S (oW S) w):=by
 refine cG (args:=[gR sf f0]) func70 rfl ntmps70 rfl ?_;have hS:=St.start w;refine aO (aQ (bY (cs:=[_,_,_,_,_,_,_,_,_]) hS rfl rfl rfl fun B1 W1 hS=>bF (cs:=[_,_,_,_,_,_]) hS zeroValue46 rfl rfl fun B2 W2 hS=>aP (XF.thenN (aO (aQ (aN (o':=0) vJ rfl rfl rfl (aT (vs:=[_,_,_]) isAgg25 sizeOf25 rfl (aC.own (j:=0) (m:=3) (hS.at_ 1 rfl) rfl) rfl ?_)))))));have hsz:=hS.below.size;refine cS (vs:=[_]) hS goes_99 rfl (OneW_ok S sf _ (hs.below hS.below) hok) rfl ?_;rintro e W3 ⟨f,rfl,hn,hb⟩;refine ⟨_,rfl,hb,?_⟩;clear hS;intro hS;refine aH rfl rfl (bZ rfl rfl rfl (bZ rfl rfl rfl (bF (cs:=[_,_,_,_,_,_]) hS zeroValue46 rfl rfl fun B4 W4 hS=>aU (i:=0) (vs:=[_,_,_,_,_,_]) (cs':=[_,_,_,_,_,_]) (O':=[_,_,_]) hS sizeOf46 rfl rfl rfl rfl rfl rfl rfl fun W5 hS=>aB rfl rfl (aP (XF.thenN (aO (aQ (aT (vs:=[_,_,_,_,_,_]) isAgg46 sizeOf46 rfl (aC.own (j:=0) (m:=6) (hS.at_ 0 rfl) rfl) rfl (aU (i:=1) (vs:=[_,_,_,_,_,_]) (cs':=[_,_,_,_,_,_]) (O':=[_,_,_]) hS sizeOf46 rfl rfl rfl rfl rfl rfl rfl fun W6 hS=>aP (XF.thenN (bL (XF.res (eE (vs:=[_,_,_,_,_,_]) results70 isAgg46 sizeOf46 rfl (aC.own (j:=0) (m:=6) (hS.at_ 1 rfl) rfl)) ?_))))))))))));exact ⟨f,rfl,(hn.agree (hS.since 0 rfl)).mono hsz,hS.below⟩
theorem Gn (S:PS) (sf:SF) (rf:WF) (w:World) (hs:SIs w S sf) (hok:S.ok) (a:Option Addr) (c m:Nat) (f0:WF) (x0:PX) (ft:List WF) (xt:List PX) (hr:tD w a (f0::ft)) (hx:XL w S (f0::ft) (x0::xt)) (hm:ft.length+1=m) (hmc:m≤c) (hmx:m≤9223372036854775807) (ht:Tabs w) :
  Calls prog 100 #[gR sf rf,.slice a m c] w (jO S (xt.foldl (kZ S) x0) w):=by
 refine cG (args:=[gR sf rf,.slice a m c]) func100 rfl ntmps100 rfl ?_;have hS:=St.start w;refine aO (aQ (bY (cs:=[_,_,_,_,_,_,_,_,_]) hS rfl rfl rfl fun B1 W1 hS=>bF (cs:=[_,_,_,_,_,_]) hS zeroValue46 rfl rfl fun B2 W2 hS=>aP (XF.thenN (aO (aQ (aN (o':=0) vJ rfl rfl rfl (aT (vs:=[_,_,_]) isAgg25 sizeOf25 rfl (aC.own (j:=0) (m:=3) (hS.at_ 1 rfl) rfl) rfl (aH rfl rfl ?_))))))));have hsz:=hS.below.size;refine cS (vs:=[_,_]) hS Ui rfl (L4 S sf _ (hs.below hS.below) hok a c m f0 x0 ft xt (hr.below hS.below) (hx.below hS.below) hm hmc hmx (ht.below hS.below)) rfl ?_;rintro e W3 ⟨f,rfl,hn,hb⟩;refine ⟨_,rfl,hb,?_⟩;clear hS;intro hS;refine aH rfl rfl (bZ rfl rfl rfl (bZ rfl rfl rfl (bF (cs:=[_,_,_,_,_,_]) hS zeroValue46 rfl rfl fun B4 W4 hS=>aU (i:=0) (vs:=[_,_,_,_,_,_]) (cs':=[_,_,_,_,_,_]) (O':=[_,_,_]) hS sizeOf46 rfl rfl rfl rfl rfl rfl rfl fun W5 hS=>aB rfl rfl (aP (XF.thenN (aO (aQ (aT (vs:=[_,_,_,_,_,_]) isAgg46 sizeOf46 rfl (aC.own (j:=0) (m:=6) (hS.at_ 0 rfl) rfl) rfl (aU (i:=1) (vs:=[_,_,_,_,_,_]) (cs':=[_,_,_,_,_,_]) (O':=[_,_,_]) hS sizeOf46 rfl rfl rfl rfl rfl rfl rfl fun W6 hS=>aP (XF.thenN (bL (XF.res (eE (vs:=[_,_,_,_,_,_]) results100 isAgg46 sizeOf46 rfl (aC.own (j:=0) (m:=6) (hS.at_ 1 rfl) rfl)) ?_))))))))))));exact ⟨f,rfl,(hn.agree (hS.since 0 rfl)).mono hsz,hS.below⟩
abbrev StT:=Int×List Int×PX
section
variable {S:PS} {px:RV→PX} {rs:List RV} {i:Int} {l:List Int} {k:Nat} {st st':StT} {c:Int}
end
theorem nG {P:Program} {f:FuncId} {vs:Array Value} {w:World} {S:PS} {x:PX} {lo:Nat} (hlo:lo≤w.heap.size) (h:Calls P f vs w (jO S x w)):Calls P f vs w (wW (dP lo S x) w):=h.mono fun e w2 ⟨g,he,hn,hb⟩=>⟨g.val,he,fun w3 hg=>⟨g,rfl,(hn.agree hg).mono hlo⟩,hb⟩
theorem Vr {w:World} {S:PS} {sf:SF} {f0:WF} {x y:PX} {vs:List Value} {lo:Nat} (hh:lV [isV (gR sf f0),kU S [x,y]] vs w) (hs:SIs w S sf) (hok:S.ok) (ht:Tabs w) (hlo:lo≤w.heap.size):Calls prog 100 vs.toArray w (zY (dP lo S (kZ S x y)) w):=by
 obtain ⟨v1,v2,rfl,rfl,b,fs,rfl,hr,hx⟩:=nD hh
 match fs,hr,hx with
 | g0::ft,hr,hx =>
  refine (Gn S sf f0 w hs hok _ 2 2 g0 x ft [y] hr hx (by have:=hx.1;simpa using this) (by decide) (by decide) ht).mono ?_;rintro e w' ⟨f,rfl,hn,hb⟩;exact ⟨_,rfl,⟨f,rfl,hn.mono hlo⟩,hb⟩
 | [],hr,hx=>exact absurd hx.1 (by simp)
theorem Mi {w:World} {a:Option Addr} {l c:Nat} {ws:List Int} (h:Row w a ws) (hl:ws.length=l) (hm:l≤8192):Calls prog 50 #[.slice a l c] w fun e w'=>∃ v,e = .returned v∧Below w.heap.size w w'∧w'.ownsRow w.heap.size 3 1 v l (ws.map (Value.int .i64)):=by
 cases a with
 | none =>
  have hw:ws=[]:=by
   rcases h with h | ⟨b,off,h,_⟩
   ·exact h
   ·cases h
  subst hw;subst hl;refine (Tryz.slices_Clone_int_nil _ c w).mono ?_;rintro e w' ⟨rfl,rfl⟩;exact ⟨_,rfl,Below.refl _ _,World.ownsRow_nil _ _ _ _⟩
 | some p =>
  rcases h with rfl | ⟨b,off,h,hc⟩
  ·subst hl;refine (Tryz.slices_Clone_int_zero p c w).mono ?_;rintro e w' ⟨v,rfl,h1,_,h2⟩;exact ⟨_,rfl,h2,h1⟩
  ·cases h;refine (Tryz.slices_Clone_int b off l c ws w (by omega) (by omega) hc).mono ?_;rintro e w' ⟨v,rfl,h1,_,h2⟩;rw [List.take_of_length_le (by omega)] at h1;exact ⟨_,rfl,h2,h1⟩
end
end Go.Proofs.YtbmieipifgailaaGreatDoor
