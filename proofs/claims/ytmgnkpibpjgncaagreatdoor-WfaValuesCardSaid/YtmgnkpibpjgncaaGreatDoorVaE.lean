import Derived.WideKeyEntry
import Derived.DeepKeys4
import Derived.Lib.AppendZeros
import Derived.Lib.ItoaLen
import Derived.Lib.UnsafeStr
import Derived.Lib.AppendIntMem
import Derived.Deep.Slices
import Derived.Deep.Fields
import Derived.ChangeSame
import Derived.Test.YtmgnkpibpjgncaaGreatDoorVaD
set_option maxRecDepth 100000
set_option maxHeartbeats 4000000
set_option linter.unusedVariables false
set_option linter.unusedVariables false
set_option linter.unusedSimpArgs false
set_option linter.unusedSectionVars false
set_option linter.unnecessarySimpa false
namespace Go.Proofs.YtmgnkpibpjgncaaGreatDoor
open Go.Proofs.Tryz
open Go Go.RowKit
section
variable {w W:World} {k:Nat} {n:Int} {f g:WF} {x y:PF}
theorem ext_f2R (hx:PIs w 2 n f x) (hy:PIs w 2 n g y) (hf:f.z=false) (hg:g.z=false) (p0:0≤f.c) (p1:f.c≤n) (q0:0≤g.c) (q1:g.c≤n):PNew k W 2 n (yB (min (f.c+g.c) n)) (fB 2 n x y):=by
 obtain ⟨rfl,_,_⟩:=hx.k2 hf
 obtain ⟨rfl,_,_⟩:=hy.k2 hg
 rw [xY]
 exact nG (.cost _ rfl (by omega) (by omega))
theorem ext_f4C {m:Nat} {a:Option Addr} {cap:Nat} (hx:PIs w 4 m f x) (hy:PIs w 4 m g y) (hf:f.z=false) (hg:g.z=false) (hv:eZ W a (dZ f.cells g.cells)) (hl:∀ ad,a=some ad→k≤ad.block):PNew k W 4 m (pU a cap (dZ f.cells g.cells)) (fB 4 m x y):=by
 obtain ⟨hx',h0⟩:=hx.k4 hf
 obtain ⟨hy',h1⟩:=hy.k4 hg
 have hv2:=Aq h0 h1
 rw [hx',hy',xZ]
 exact oX (.cells m _ rfl rfl hv2) hv2.bits (by have:=hv2.le;have:=hv2.len;unfold maxLen;omega) hv hl
end
theorem rY (t n:Int) (sa:Option Addr) (sc:Nat) (f g:WF) (x y:PF) (w:World) (hp:bI t n 0=true) (hx:PIs w t n f x) (hy:PIs w t n g y) :
  Calls prog 100 #[.agg #[.int .i64 t,.int .i64 n,.slice sa 0 sc],f.val,g.val] w (gH (.one t n) (.one (fB t n x y)) w):=by
 refine cB (args:=[.agg #[.int .i64 t,.int .i64 n,.slice sa 0 sc],f.val,g.val]) func100 rfl ntmps100 rfl ?_
 have hS:=St.start w
 refine aJ (aQ (bR (cs:=[_,_,_]) hS rfl rfl rfl fun B1 W1 hS=>bR (cs:=[_,_,_,_,_,_]) hS rfl rfl rfl fun B2 W2 hS=>bR (cs:=[_,_,_,_,_,_]) hS rfl rfl rfl fun B3 W3 hS=>bB (cs:=[_,_,_,_,_,_]) hS zeroValue44 rfl rfl fun B4 W4 hS=>aN (XF.thenN (aJ (aJ (aQ (aO (o':=0) dR rfl rfl rfl (aT isAgg4 rfl (aH (hS.at_ 2 rfl) rfl) rfl (aE rfl rfl (cI (d:=11) rfl (fun hc=>?_) (fun hc=>?_)))))))))))
 ·have hg11:=hc;clear hc
  have hz:=hg11
  refine aP (d:=11) rfl rfl rfl rfl (aP (d:=11) rfl rfl rfl rfl (bV rfl rfl rfl (aN (XF.thenN (gW rfl (aJ (aQ (cV (us:=[(0,.bool _)]) rfl (qZ _) rfl (aU (i:=0) (vs:=[_,_,_,_,_,_]) (cs':=[_,_,_,_,_,_]) (O':=[_,_,_,_]) hS sizeOf44 rfl rfl rfl rfl rfl rfl rfl fun W5 hS=>aN (XF.thenN (bX (XF.thenR (XF.res (dJ (vs:=[_,_,_,_,_,_]) results100 isAgg44 sizeOf44 rfl (aB.own (j:=0) (m:=6) (hS.at_ 0 rfl) rfl)) ?_)))))))))))))
  exact Uv hx hz hS.below
 ·have hg11:=hc;clear hc
  have hf:=hg11
  refine aM (d:=11) rfl rfl (aO (o':=0) dR rfl rfl rfl (aM (d:=11) rfl rfl (aT isAgg4 rfl (aH (hS.at_ 1 rfl) rfl) rfl (cH rfl rfl rfl (aN (XF.thenN (bA rfl (fun hc=>?_) (fun hc=>?_))))))))
  ·have hc14:=hc;clear hc
   refine aJ (aQ (cV (us:=[(0,.bool _)]) rfl (qZ _) rfl (aU (i:=0) (vs:=[_,_,_,_,_,_]) (cs':=[_,_,_,_,_,_]) (O':=[_,_,_,_]) hS sizeOf44 rfl rfl rfl rfl rfl rfl rfl fun W6 hS=>aN (XF.thenN (bX (XF.thenR (XF.res (dJ (vs:=[_,_,_,_,_,_]) results100 isAgg44 sizeOf44 rfl (aB.own (j:=0) (m:=6) (hS.at_ 0 rfl) rfl)) ?_)))))))
   exact Uw hy hc14 hS.below
  ·have hc14:=hc;clear hc
   have hg:=hc14
   refine bM (XF.thenN (aJ (aQ (cV (us:=[]) rfl (lA) rfl (bB (cs:=[_,_,_,_,_,_]) hS zeroValue44 rfl rfl fun B7 W7 hS=>aU (i:=0) (vs:=[_,_,_,_,_,_]) (cs':=[_,_,_,_,_,_]) (O':=[_,_,_,_,_]) hS sizeOf44 rfl rfl rfl rfl rfl rfl rfl fun W8 hS=>aN (XF.thenN (aJ (aJ (aQ (aO (o':=0) eP rfl rfl rfl (aT isAgg22 rfl (aH (hS.at_ 4 rfl) rfl) rfl (aN (XF.thenN (bQ (aJ (aQ (cG rfl rfl rfl (aC rfl rfl (aN (XF.thenN (bA rfl (fun hc=>?_) (fun hc=>?_))))))))))))))))))))))
   ·have hc19:=of_decide_eq_true hc;clear hc
    have e2:t=2:=hc19
    subst e2
    obtain ⟨_,p0,p1⟩:=hx.k2 hf
    obtain ⟨_,q0,q1⟩:=hy.k2 hg
    obtain ⟨d0,d1,_⟩:=nE hp
    refine aQ (aO (o':=1) eV rfl rfl rfl (aT isAgg3 rfl (aH (hS.at_ 3 rfl) rfl) rfl (aO (o':=1) eV rfl rfl rfl (aT isAgg3 rfl (aH (hS.at_ 2 rfl) rfl) rfl (cZ rfl rfl (IntWalk.i64_in _ (by omega)) rfl (aO (o':=1) eQ rfl rfl rfl (aT isAgg3 rfl (aH (hS.at_ 4 rfl) rfl) rfl (Vs rfl rfl rfl (aO (o':=1) eV rfl rfl rfl (dS (i:=0) (cs':=[_,_,_,_,_,_]) (O':=[_,_,_,_,_]) hS sizeOf3 rfl rfl rfl rfl rfl rfl rfl fun W9 hS=>aN (XF.blkN (XF.thenN (aJ (aQ (aS (vs:=[_,_,_,_,_,_]) isAgg44 sizeOf44 rfl (aB.own (j:=0) (m:=6) (hS.at_ 0 rfl) rfl) rfl (aU (i:=1) (vs:=[_,_,_,_,_,_]) (cs':=[_,_,_,_,_,_]) (O':=[_,_,_,_,_]) hS sizeOf44 rfl rfl rfl rfl rfl rfl rfl fun W10 hS=>aN (XF.thenN (bX (XF.res (dJ (vs:=[_,_,_,_,_,_]) results100 isAgg44 sizeOf44 rfl (aB.own (j:=0) (m:=6) (hS.at_ 1 rfl) rfl)) ?_)))))))))))))))))))
    exact eJ (ext_f2R hx hy hf hg p0 p1 q0 q1) hS.below
   ·have hc19:=of_decide_eq_false hc;clear hc
    refine aJ (aQ (cG rfl rfl rfl (aC rfl rfl (aN (XF.thenN (bA rfl (fun hc=>?_) (fun hc=>?_)))))))
    ·have hc30:=of_decide_eq_true hc;clear hc
     have e3:t=3:=hc30
     subst e3
     obtain ⟨m,rfl,hm⟩:=yO hp (.inl rfl)
     refine aQ (aO (o':=1) eQ rfl rfl rfl (aT isAgg3 rfl (aH (hS.at_ 4 rfl) rfl) rfl (aO (o':=2) eR rfl rfl rfl (aS (vs:=[_,_]) isAgg40 sizeOf40 rfl (aB.own (j:=2) (m:=2) (hS.at_ 3 rfl) rfl) rfl (aO (o':=2) eR rfl rfl rfl (aS (vs:=[_,_]) isAgg40 sizeOf40 rfl (aB.own (j:=2) (m:=2) (hS.at_ 2 rfl) rfl) rfl ?_))))))
     have hsz:=hS.below.size
     refine cL (vs:=[_,_,_]) hS S6 rfl (extR_is _ _ _ _ _ _ _ _ _ _ (hx.at_.fat (by have:=hx.rows64 (l:=0);omega) |>.below hS.below) (hy.at_.fat (by have:=hy.rows64 (l:=0);omega) |>.below hS.below) _ rfl _ rfl _ rfl _ _ hx.at_.rl hy.at_.rl) rfl ?_
     rintro e W11 ⟨a1,c1,rfl,hv,hl,hb⟩
     refine ⟨_,rfl,hb,fun hS'=>?_⟩
     clear hS;have hS:=hS';clear hS'
     refine aE rfl rfl (bJ rfl rfl rfl (bJ rfl rfl rfl (aO (o':=2) eR rfl rfl rfl (aU (i:=0) (vs:=[_,_]) (cs':=[_,_,_,_,_,_]) (O':=[_,_,_,_,_]) hS sizeOf40 rfl rfl rfl rfl rfl rfl rfl fun W12 hS=>aN (XF.blkN (XF.thenN (aJ (aQ (aS (vs:=[_,_,_,_,_,_]) isAgg44 sizeOf44 rfl (aB.own (j:=0) (m:=6) (hS.at_ 0 rfl) rfl) rfl (aU (i:=1) (vs:=[_,_,_,_,_,_]) (cs':=[_,_,_,_,_,_]) (O':=[_,_,_,_,_]) hS sizeOf44 rfl rfl rfl rfl rfl rfl rfl fun W13 hS=>aN (XF.thenN (bX (XF.res (dJ (vs:=[_,_,_,_,_,_]) results100 isAgg44 sizeOf44 rfl (aB.own (j:=0) (m:=6) (hS.at_ 1 rfl) rfl)) ?_)))))))))))))
     exact eJ (Uy hx hy hf hg (hv.agree (fun ad e=>(hl ad e).1) (hS.since 0 rfl)) (fun ad e=>Nat.le_trans hsz (hl ad e).1)) hS.below
    ·have hc30:=of_decide_eq_false hc;clear hc
     refine aJ (aQ (cG rfl rfl rfl (aC rfl rfl (aN (XF.thenN (bA rfl (fun hc=>?_) (fun hc=>?_)))))))
     ·have hc43:=of_decide_eq_true hc;clear hc
      have e4:t=4:=hc43
      subst e4
      obtain ⟨m,rfl,hm⟩:=yO hp (.inr rfl)
      obtain ⟨hpx,vx⟩:=hx.k4 hf
      obtain ⟨hpy,vy⟩:=hy.k4 hg
      refine aJ (aQ (aC rfl rfl (aN (XF.thenN (bQ (eI (fun q l W=>∃ (k:Nat) (v:Value),k≤m∧q=m - k∧l=[(3,.pointer (some ⟨B1,0,none⟩)),(4,.pointer (some ⟨B2,0,none⟩)),(5,.pointer (some ⟨B3,0,none⟩)),(6,.pointer (some ⟨B4,0,none⟩)),(7,.pointer (some ⟨B7,0,none⟩)),(8,.int .i64 (k:Int))]∧St w [(B7,[.bool false,.int .i64 0,.int .u64 0,.slice none 0 0,v,.slice none 0 0],44),(B4,[.bool false,.int .i64 0,.int .u64 0,.slice none 0 0,.slice none 0 0,.slice none 0 0],44),(B3,[.bool g.z,.int .i64 g.c,.int .u64 (g.g:Int),.slice g.ra g.rl g.rc,.slice g.ca g.cl g.cc,.slice g.pa g.pl g.pc],44),(B2,[.bool f.z,.int .i64 f.c,.int .u64 (f.g:Int),.slice f.ra f.rl f.rc,.slice f.ca f.cl f.cc,.slice f.pa f.pl f.pc],44),(B1,[.int .i64 4,.int .i64 (m:Int),.slice sa 0 sc],25)] [⟨v,k,flat ((dZ f.cells g.cells).take k),105,3⟩] [] W) (m - 0) ([(3,_),(4,_),(5,_),(6,_),(7,_),(8,_)]) ⟨rfl,rfl,rfl,rfl,rfl,rfl,trivial⟩ (⟨0,.slice none 0 0,Nat.zero_le _,rfl,rfl,hS.clear.newG _ _⟩) ?_))))))
      clear hS
      rintro q l W ⟨k,v,hkm,rfl,rfl,hS⟩
      refine aJ (aJ (aQ (aE rfl rfl (aO (o':=1) eQ rfl rfl rfl (aT isAgg3 rfl (aH (hS.at_ 4 rfl) rfl) rfl (cY rfl rfl rfl (aN (XF.thenN (bA rfl (fun hc=>?_) (fun hc=>?_))))))))))
      ·have hc48:=of_decide_eq_true hc;clear hc
       have hk:k < m:=by omega
       have hlx:=vx.len
       have hly:=vy.len
       obtain ⟨ba,offa,y1,eca,hy1,hba,a0,a1,a2⟩:=(hy.at_.cells.below hS.below).at_ (k:=k) (by omega)
       have k1:aB W ba (offa+k * 3) [.int .u64 (y1.f:Int),.int .i64 y1.k,.int .i64 y1.v]:=⟨a0,a1,a2,trivial⟩
       have h1:(dZ f.cells g.cells)[k]?=some (ofC f.cells y1):=by unfold dZ;rw [List.getElem?_map,hy1];rfl
       have hcl:=hx.at_.cl
       have hclg:=hy.at_.cl
       simp only [eca] at hS
       refine bM (XF.thenN (aJ (bQ ?_)))
       refine Th (p:=11) (k:=13) (gi:=0) (m:=1) cD hS rfl rfl (by kernel_rfl) (by kernel_rfl) (by kernel_rfl) (fun d hd=>by cases hd) rfl rfl underlying41 E4 rfl rfl (by show 0 < 3;decide) rfl rfl rfl (by dsimp only;simp only [maxLen];omega) (by dsimp only;show _ * 24≤_;omega) ?_
       refine gI 1 rfl rfl (by kernel_rfl) (rgV (li:=[(7,_)]) rfl (aR rfl) ⟨cF rfl,trivial⟩ (fun w hw=>aV (o':=4) dG rfl rfl) (aD rfl)) (gI 2 rfl rfl (by kernel_rfl) (rgV (li:=[(51,_)]) rfl (aR rfl) ⟨aL 0 (aA rfl rfl rfl),trivial⟩ (fun w hw=>bC isAgg41 rfl ((aK hw 0).cell (Nat.zero_le _) (aH (hS.at_ 0 rfl) rfl))) (aD rfl)) (gI 3 rfl rfl (by kernel_rfl) (rgV (li:=[(4,_)]) rfl (aR rfl) ⟨cF rfl,trivial⟩ (fun w hw=>aV (o':=4) dG rfl rfl) (aD rfl)) (gI 4 rfl rfl (by kernel_rfl) (rgV (li:=[(53,_)]) rfl (aR rfl) ⟨aL 2 (aA rfl rfl rfl),trivial⟩ (fun w hw=>bC isAgg41 rfl ((aK hw 0).cell (Nat.zero_le _) (aH (hS.at_ 3 rfl) rfl))) (aD rfl)) (gI 5 rfl rfl (by kernel_rfl) (rgV (li:=[(5,_)]) rfl (aR rfl) ⟨cF rfl,trivial⟩ (fun w hw=>aV (o':=4) dG rfl rfl) (aD rfl)) (gI 6 rfl rfl (by kernel_rfl) (rgV (li:=[(55,_)]) rfl (aR rfl) ⟨aL 4 (aA rfl rfl rfl),trivial⟩ (fun w hw=>bC isAgg41 rfl ((aK hw 0).cell (Nat.zero_le _) (aH (hS.at_ 2 rfl) rfl))) (aD rfl)) (gI 7 rfl rfl (by kernel_rfl) (rgV (li:=[(8,_)]) rfl (aR rfl) ⟨cF rfl,trivial⟩ (fun w hw=>aY rfl) (aD rfl)) (gI 8 rfl rfl (by kernel_rfl) (rgV (li:=[(56,_),(57,_)]) rfl (aR rfl) ⟨aL 5 (aA rfl rfl rfl),aL 6 (aA rfl rfl rfl),trivial⟩ (fun w hw=>bE  underlying41 sizeOf105 rfl rfl rfl (by omega) rfl) (aD rfl)) (gI 9 rfl rfl (by kernel_rfl) (rgV (li:=[(58,_)]) rfl (aR rfl) ⟨aL 7 (aA rfl rfl rfl),trivial⟩ (fun w hw=>aX (vs:=[_,_,_]) isAgg105 sizeOf105 rfl (aB.agree (aK hw 0) (Nat.zero_le _) (by assumption))) (aD rfl)) ?_))))))))
       refine gI 10 rfl rfl (by kernel_rfl) (cR [isV _,isV _] rfl S7 (aR rfl) ⟨bU (aL 3 (aA rfl rfl rfl)),bU (aL 8 (aA rfl rfl rfl)),trivial⟩ (fun vs w' hb hh=>by have e:=cA (us:=[_,_]) hh;subst e;exact (Mh f.ca f.cc f.cl f.cells y1 _ hx.at_.cl (by omega) ((hx.at_.cells.below hS.below).below hb) vx.oks (vy.oks k y1 hy1)).mono fun e w2 h=>⟨_,h.1,rfl,h.2⟩) (aD rfl)) ?_
       refine Tg 11 rfl rfl (by kernel_rfl) (qY W.heap.size 1 105 _) (tU) (Ez (us:=[.agg (List.toArray [_,_,_])]) rfl (aR rfl) underlying41 sizeOf105 zeroValue105 rfl rfl ⟨bU (aL 9 (aA rfl rfl rfl)),trivial⟩ (E1 _ _ _) (aD rfl)) (Fa 12 rfl rfl (zU 13 rfl rfl (rgV (li:=[(7,_)]) rfl (aR rfl) ⟨cF rfl,trivial⟩ (fun w hw=>aV (o':=4) dG rfl rfl) (aD rfl)) (lgV (li:=[(7,_)]) rfl (aR rfl) ⟨cF rfl,trivial⟩ (fun w=>aV (o':=4) dG rfl rfl) (aD rfl) rfl) (E9 ⟨_,_,aL 1 (aA rfl rfl rfl),aL 10 (aA rfl rfl rfl),rD rfl rfl,?_⟩)))
       intro A14 v14 news14 W14 hbR hqA14 hS'
       clear hS;have hS:=hS';clear hS'
       cases hqA14
       refine aG (aG (aG (aG (aG (aG (aG (aG (aG (aG ?_)))))))))
       refine dE ?_;intro _ _
       refine aG (aG ?_)
       obtain ⟨g9,c9,e9,_,_⟩:=(hS.row 0 rfl).form (by show 0 < k+1;omega)
       dsimp only at e9
       subst e9
       refine cO (dS (i:=0) (cs':=[_,_,_,_,_,_]) (O':=[_,_,_,_,_]) hS sizeOf41 rfl rfl rfl rfl rfl rfl rfl fun W15 hS=>aN (XF.blkN (XF.thenN (aQ (aE rfl rfl (cZ rfl rfl (IntWalk.i64_in _ (by omega)) rfl (aC rfl rfl (aN ?_))))))))
       simp only [← eca] at hS
       exact XF.round (m - (k+1)) [(3,_),(4,_),(5,_),(6,_),(7,_),(8,_)] (by omega) ⟨rfl,rfl,rfl,rfl,rfl,rfl,trivial⟩ ⟨k+1,_,by omega,rfl,rfl,by rw [Ee h1];exact hS.clear⟩
      ·have hc48:=of_decide_eq_false hc;clear hc
       refine eF (XF.thenX (XF.thenX (XF.blkX (XF.blkN (XF.thenN (aJ ?_))))))
       obtain rfl:k=m:=by omega
       have hrow:=hS.row 0 rfl
       have hln:(dZ f.cells g.cells).length=k:=by unfold dZ;rw [List.length_map];exact vy.len
       have ht0:(dZ f.cells g.cells).take k=dZ f.cells g.cells:=List.take_of_length_le (by rw [hln];exact Nat.le_refl _)
       simp only [ht0] at hrow
       obtain ⟨hn,a9,c9,rfl,_,_⟩:=fO hrow
       clear hrow
       refine aQ (aS (vs:=[_,_,_,_,_,_]) isAgg44 sizeOf44 rfl (aB.own (j:=0) (m:=6) (hS.at_ 0 rfl) rfl) rfl (aU (i:=1) (vs:=[_,_,_,_,_,_]) (cs':=[_,_,_,_,_,_]) (O':=[_,_,_,_,_]) hS sizeOf44 rfl rfl rfl rfl rfl rfl rfl fun W16 hS=>aN (XF.thenN (bX (XF.res (dJ (vs:=[_,_,_,_,_,_]) results100 isAgg44 sizeOf44 rfl (aB.own (j:=0) (m:=6) (hS.at_ 1 rfl) rfl)) ?_)))))
       have hrow:=hS.row 0 rfl
       simp only [ht0] at hrow
       obtain ⟨_,a8,c8,e8,hr9,hf9⟩:=fO hrow
       cases e8
       refine ⟨pU a9 c9 (dZ f.cells g.cells),?_,ext_f4C hx hy hf hg hr9 (fun ad e=>(hf9 ad e).1),hS.below⟩
       show _=Ending.returned (Value.agg #[.bool false,.int .i64 0,.int .u64 ((0:Nat):Int),.slice none 0 0,.slice a9 (dZ f.cells g.cells).length c9,.slice none 0 0])
       rw [hln]
       rfl
     ·have hc43:=of_decide_eq_false hc;clear hc
      refine aJ (aQ (cG rfl rfl rfl (aC rfl rfl (aN (XF.thenN (bA rfl (fun hc=>absurd (of_decide_eq_true hc) (by exact lF hp)) (fun hc=>?_)))))))
      have hc:=of_decide_eq_false hc
      refine bM (XF.blkN (XF.thenN (aJ (aQ (aS (vs:=[_,_,_,_,_,_]) isAgg44 sizeOf44 rfl (aB.own (j:=0) (m:=6) (hS.at_ 0 rfl) rfl) rfl (aU (i:=1) (vs:=[_,_,_,_,_,_]) (cs':=[_,_,_,_,_,_]) (O':=[_,_,_,_,_]) hS sizeOf44 rfl rfl rfl rfl rfl rfl rfl fun W17 hS=>aN (XF.thenN (bX (XF.res (dJ (vs:=[_,_,_,_,_,_]) results100 isAgg44 sizeOf44 rfl (aB.own (j:=0) (m:=6) (hS.at_ 1 rfl) rfl)) ?_)))))))))
      have e1:t=1:=by
       have:=(fV hp).2
       omega
      subst e1
      exact eJ (Ux hx hy hf hg) hS.below
theorem Mi (t n u m:Int) (a1 a2:Option Addr) (c1 c2 b off sc:Nat) (w:World) (hs1:S3 w b off ⟨t,n,a1,0,c1⟩) (hs2:S3 w b (off+3) ⟨u,m,a2,0,c2⟩) (hp1:bI t n 0=true) (hp2:bI u m 0=true)(fra fca:Option Addr) (frc fcc fpc fb fo:Nat) (f1 f2:WF) (x1 x2:PF) (hf6:W6 w fb fo f1) (hf7:W6 w fb (fo+6) f2) (hx1:PIs w t n f1 x1) (hx2:PIs w u m f2 x2)(gra gca:Option Addr) (grc gcc gpc gb go:Nat) (g1 g2:WF) (y1 y2:PF) (hg6:W6 w gb go g1) (hg7:W6 w gb (go+6) g2) (hy1:PIs w t n g1 y1) (hy2:PIs w u m g2 y2) :
  Calls prog 100 #[.agg #[.int .i64 5,.int .i64 0,.slice (some ⟨b,off,none⟩) 2 sc],.agg #[.bool false,.int .i64 0,.int .u64 0,.slice fra 0 frc,.slice fca 0 fcc,.slice (some ⟨fb,fo,none⟩) 2 fpc],.agg #[.bool false,.int .i64 0,.int .u64 0,.slice gra 0 grc,.slice gca 0 gcc,.slice (some ⟨gb,go,none⟩) 2 gpc]] w (gH (.two t n u m) (.two (fB t n x1 y1) (fB u m x2 y2)) w):=by
 refine cB (args:=[.agg #[.int .i64 5,.int .i64 0,.slice (some ⟨b,off,none⟩) 2 sc],.agg #[.bool false,.int .i64 0,.int .u64 0,.slice fra 0 frc,.slice fca 0 fcc,.slice (some ⟨fb,fo,none⟩) 2 fpc],.agg #[.bool false,.int .i64 0,.int .u64 0,.slice gra 0 grc,.slice gca 0 gcc,.slice (some ⟨gb,go,none⟩) 2 gpc]]) func100 rfl ntmps100 rfl ?_
 have hS:=St.start w
 refine aJ (aQ (bR (cs:=[_,_,_]) hS rfl rfl rfl fun B1 W1 hS=>bR (cs:=[_,_,_,_,_,_]) hS rfl rfl rfl fun B2 W2 hS=>bR (cs:=[_,_,_,_,_,_]) hS rfl rfl rfl fun B3 W3 hS=>bB (cs:=[_,_,_,_,_,_]) hS zeroValue44 rfl rfl fun B4 W4 hS=>aN (XF.thenN (aJ (aJ (aQ (aO (o':=0) dR rfl rfl rfl (aT isAgg4 rfl (aH (hS.at_ 2 rfl) rfl) rfl (aE rfl rfl (cI (d:=11) rfl (fun hc=>absurd hc (by decide)) (fun hc=>?_)))))))))))
 skip
 refine aM (d:=11) rfl rfl (aO (o':=0) dR rfl rfl rfl (aM (d:=11) rfl rfl (aT isAgg4 rfl (aH (hS.at_ 1 rfl) rfl) rfl (cH rfl rfl rfl (aN (XF.thenN (bA rfl (fun hc=>absurd hc (by decide)) (fun hc=>?_))))))))
 skip
 refine bM (XF.thenN (aJ (aQ (cV (us:=[]) rfl (lA) rfl (bB (cs:=[_,_,_,_,_,_]) hS zeroValue44 rfl rfl fun B5 W5 hS=>aU (i:=0) (vs:=[_,_,_,_,_,_]) (cs':=[_,_,_,_,_,_]) (O':=[_,_,_,_,_]) hS sizeOf44 rfl rfl rfl rfl rfl rfl rfl fun W6 hS=>aN (XF.thenN (aJ (aJ (aQ (aO (o':=0) eP rfl rfl rfl (aT isAgg22 rfl (aH (hS.at_ 4 rfl) rfl) rfl (aN (XF.thenN (bQ (aJ (aQ (cG rfl rfl rfl (aC rfl rfl (aN (XF.thenN (bA rfl (fun hc=>absurd (of_decide_eq_true hc) (by omega)) (fun hc=>?_))))))))))))))))))))))
 have hc:=of_decide_eq_false hc
 refine aJ (aQ (cG rfl rfl rfl (aC rfl rfl (aN (XF.thenN (bA rfl (fun hc=>absurd (of_decide_eq_true hc) (by omega)) (fun hc=>?_)))))))
 have hc:=of_decide_eq_false hc
 refine aJ (aQ (cG rfl rfl rfl (aC rfl rfl (aN (XF.thenN (bA rfl (fun hc=>absurd (of_decide_eq_true hc) (by omega)) (fun hc=>?_)))))))
 have hc:=of_decide_eq_false hc
 refine aJ (aQ (cG rfl rfl rfl (aC rfl rfl (aN (XF.thenN (bA rfl (fun hc=>?_) (fun hc=>absurd (of_decide_eq_false hc) (by omega))))))))
 have hc:=of_decide_eq_true hc
 have hsz:=hS.below.size
 have k1:=aB.agree hS.agree (Nat.zero_le _) hs1.cells
 have k2:=aB.agree hS.agree (Nat.zero_le _) hs2.cells
 have kf1:=aB.agree hS.agree (Nat.zero_le _) hf6.cells
 have kf2:=aB.agree hS.agree (Nat.zero_le _) hf7.cells
 have kg1:=aB.agree hS.agree (Nat.zero_le _) hg6.cells
 have kg2:=aB.agree hS.agree (Nat.zero_le _) hg7.cells
 refine tG cD 28 hS rfl rfl (by kernel_rfl) (by kernel_rfl) (by kernel_rfl) (fun d hd=>by cases hd) (cJ 1 rfl 3 rfl rfl (fun w hw=>aV (o':=2) fC rfl rfl) rfl (aZ 2 rfl 66 0 rfl rfl rfl (fun w hw=>bC isAgg23 rfl ((aK hw 0).cell (Nat.zero_le _) (aH (hS.at_ 4 rfl) rfl))) rfl (aZ 3 rfl 67 1 rfl rfl rfl (fun w hw=>bE (j:=0) underlying23 sizeOf25 rfl rfl rfl (by omega) (Nat.add_zero _)) rfl (aZ 4 rfl 68 2 rfl rfl rfl (fun w hw=>aX (vs:=[_,_,_]) isAgg25 sizeOf25 rfl (aB.agree (aK hw 0) (Nat.zero_le _) (by assumption))) rfl (cJ 5 rfl 4 rfl rfl (fun w hw=>aV (o':=5) cW rfl rfl) rfl (aZ 6 rfl 70 4 rfl rfl rfl (fun w hw=>bC isAgg42 rfl ((aK hw 0).cell (Nat.zero_le _) (aH (hS.at_ 3 rfl) rfl))) rfl (aZ 7 rfl 71 5 rfl rfl rfl (fun w hw=>bE (j:=0) underlying42 sizeOf44 rfl rfl rfl (by omega) (Nat.add_zero _)) rfl (aZ 8 rfl 72 6 rfl rfl rfl (fun w hw=>aX (vs:=[_,_,_,_,_,_]) isAgg44 sizeOf44 rfl (aB.agree (aK hw 0) (Nat.zero_le _) (by assumption))) rfl (cJ 9 rfl 5 rfl rfl (fun w hw=>aV (o':=5) cW rfl rfl) rfl (aZ 10 rfl 74 8 rfl rfl rfl (fun w hw=>bC isAgg42 rfl ((aK hw 0).cell (Nat.zero_le _) (aH (hS.at_ 2 rfl) rfl))) rfl (aZ 11 rfl 75 9 rfl rfl rfl (fun w hw=>bE (j:=0) underlying42 sizeOf44 rfl rfl rfl (by omega) (Nat.add_zero _)) rfl (aZ 12 rfl 76 10 rfl rfl rfl (fun w hw=>aX (vs:=[_,_,_,_,_,_]) isAgg44 sizeOf44 rfl (aB.agree (aK hw 0) (Nat.zero_le _) (by assumption))) rfl ?_))))))))))))
 refine aI 13 rfl (dH W6.heap.size (.one t n) (.one (fB t n x1 y1))) (dO) (cR [isV _,isV _,isV _] rfl uY (aR rfl) ⟨bU (aL 3 (aA rfl rfl rfl)),bU (aL 7 (aA rfl rfl rfl)),bU (aL 11 (aA rfl rfl rfl)),trivial⟩ (fun vs w' hb hh=>by have e:=cA (us:=[_,_,_]) hh;subst e;exact fF hb.size (rY _ _ _ _ _ _ _ _ _ hp1 (hx1.below (hS.below.trans (hb.mono hS.below.size))) (hy1.below (hS.below.trans (hb.mono hS.below.size))))) (aD rfl)) ?_
 refine cJ 14 rfl 3 rfl rfl (fun w hw=>aV (o':=2) fC rfl rfl) rfl (aZ 15 rfl 79 13 rfl rfl rfl (fun w hw=>bC isAgg23 rfl ((aK hw 0).cell (Nat.zero_le _) (aH (hS.at_ 4 rfl) rfl))) rfl (aZ 16 rfl 80 14 rfl rfl rfl (fun w hw=>bE (j:=1) underlying23 sizeOf25 rfl rfl rfl (by omega) rfl) rfl (aZ 17 rfl 81 15 rfl rfl rfl (fun w hw=>aX (vs:=[_,_,_]) isAgg25 sizeOf25 rfl (aB.agree (aK hw 0) (Nat.zero_le _) (by assumption))) rfl (cJ 18 rfl 4 rfl rfl (fun w hw=>aV (o':=5) cW rfl rfl) rfl (aZ 19 rfl 83 17 rfl rfl rfl (fun w hw=>bC isAgg42 rfl ((aK hw 0).cell (Nat.zero_le _) (aH (hS.at_ 3 rfl) rfl))) rfl (aZ 20 rfl 84 18 rfl rfl rfl (fun w hw=>bE (j:=1) underlying42 sizeOf44 rfl rfl rfl (by omega) rfl) rfl (aZ 21 rfl 85 19 rfl rfl rfl (fun w hw=>aX (vs:=[_,_,_,_,_,_]) isAgg44 sizeOf44 rfl (aB.agree (aK hw 0) (Nat.zero_le _) (by assumption))) rfl (cJ 22 rfl 5 rfl rfl (fun w hw=>aV (o':=5) cW rfl rfl) rfl (aZ 23 rfl 87 21 rfl rfl rfl (fun w hw=>bC isAgg42 rfl ((aK hw 0).cell (Nat.zero_le _) (aH (hS.at_ 2 rfl) rfl))) rfl (aZ 24 rfl 88 22 rfl rfl rfl (fun w hw=>bE (j:=1) underlying42 sizeOf44 rfl rfl rfl (by omega) rfl) rfl (aZ 25 rfl 89 23 rfl rfl rfl (fun w hw=>aX (vs:=[_,_,_,_,_,_]) isAgg44 sizeOf44 rfl (aB.agree (aK hw 0) (Nat.zero_le _) (by assumption))) rfl ?_)))))))))))
 refine aI 26 rfl (dH W6.heap.size (.one u m) (.one (fB u m x2 y2))) (dO) (cR [isV _,isV _,isV _] rfl uY (aR rfl) ⟨bU (aL 16 (aA rfl rfl rfl)),bU (aL 20 (aA rfl rfl rfl)),bU (aL 24 (aA rfl rfl rfl)),trivial⟩ (fun vs w' hb hh=>by have e:=cA (us:=[_,_,_]) hh;subst e;exact fF hb.size (rY _ _ _ _ _ _ _ _ _ hp2 (hx2.below (hS.below.trans (hb.mono hS.below.size))) (hy2.below (hS.below.trans (hb.mono hS.below.size))))) (aD rfl)) ?_
 refine aI 27 rfl (mY W6.heap.size (.two t n u m) (.two (fB t n x1 y1) (fB u m x2 y2))) (nL) (uN rfl (aR rfl) ⟨bU (aL 12 (aA rfl rfl rfl)),bU (aL 25 (aA rfl rfl rfl)),trivial⟩ (aD rfl)) (cJ 28 rfl 7 rfl rfl (fun w hw=>aV (o':=5) cW rfl rfl) rfl (dV ?_))
 intro W7 hbR hS'
 clear hS;have hS:=hS';clear hS'
 refine aG (aG (aG (aG (aG (aG (aG (aG (aG (aG (aG (aG ?_)))))))))))
 refine dE ?_;rintro _ ⟨v1,rfl,hn1⟩
 refine aG (aG (aG (aG (aG (aG (aG (aG (aG (aG (aG (aG ?_)))))))))))
 refine dE ?_;rintro _ ⟨v2,rfl,hn2⟩
 refine dE ?_;rintro _ ⟨b9,rfl,hn9⟩
 refine aG (cO (dS (i:=0) (cs':=[_,_,_,_,_,_]) (O':=[_,_,_,_,_]) hS sizeOf42 rfl rfl rfl rfl rfl rfl rfl fun W8 hS=>aN (XF.blkN (XF.thenN (aJ (aQ (aS (vs:=[_,_,_,_,_,_]) isAgg44 sizeOf44 rfl (aB.own (j:=0) (m:=6) (hS.at_ 0 rfl) rfl) rfl (aU (i:=1) (vs:=[_,_,_,_,_,_]) (cs':=[_,_,_,_,_,_]) (O':=[_,_,_,_,_]) hS sizeOf44 rfl rfl rfl rfl rfl rfl rfl fun W9 hS=>aN (XF.thenN (bX (XF.res (dJ (vs:=[_,_,_,_,_,_]) results100 isAgg44 sizeOf44 rfl (aB.own (j:=0) (m:=6) (hS.at_ 1 rfl) rfl)) ?_)))))))))))
 exact ⟨rO b9,rfl,(hn9.agree (hS.since 0 rfl)).mono hsz,hS.below⟩
theorem I8 {S:PS} {sf:SF} {f g:WF} {x y:PX} {w:World} (hs:SIs w S sf) (hok:S.ok) (hx:XIs w S f x) (hy:XIs w S g y):Calls prog 100 #[sf.val,f.val,g.val] w (gH S (iW S x y) w):=by
 cases S<;>cases x<;>cases y<;>first | exact hx.elim | exact hy.elim | skip
 ·obtain ⟨a,c,rfl⟩:=hs
  exact rY _ _ _ _ _ _ _ _ _ hok hx hy
 ·obtain ⟨b,off,c,a1,c1,a2,c2,rfl,h1,h2⟩:=hs
  obtain ⟨ra,ca,rc,cc,pc,fb,fo,f1,f2,rfl,h6,h7,h8,h9⟩:=hx.two
  obtain ⟨ra',ca',rc',cc',pc',gb,go,g1,g2,rfl,h6',h7',h8',h9'⟩:=hy.two
  exact Mi _ _ _ _ _ _ _ _ _ _ _ _ h1 h2 hok.1 hok.2 _ _ _ _ _ _ _ _ _ _ _ h6 h7 h8 h9 _ _ _ _ _ _ _ _ _ _ _ h6' h7' h8' h9'
def mF (M:World→Prop):Prop:=∀ W W',M W→Below W.heap.size W W'→M W'
def uP (M:World→Prop) (t n:Int) (f:WF) (x:PF):Prop:=∀ W,M W→PIs W t n f x
def gR (M:World→Prop):PS→WF→PX→Prop
 | .one t n,f,.one a=>uP M t n f a
 | .two t n u m,f,.two a b=>f.pf=pC 0∧f.rl=0∧f.cl=0∧f.pl=2∧∃ blk off g h,f.pa=some ⟨blk,off,none⟩∧(∀ W,M W→W6 W blk off g∧W6 W blk (off+6) h)∧uP M t n g a∧uP M u m h b
 | _,_,_=>False
theorem gR.is {M:World→Prop} {S:PS} {f:WF} {x:PX} {w:World} (h:gR M S f x) (hM:M w):XIs w S f x:=by
 cases S<;>cases x<;>first | exact h.elim | exact (show uP M _ _ f _ from h) w hM | skip
 obtain ⟨h1,h2,h3,h4,blk,off,g,k,h5,h6,h7,h8⟩:=h
 exact ⟨h1,h2,h3,h4,blk,off,g,k,h5,(h6 w hM).1,(h6 w hM).2,h7 w hM,h8 w hM⟩
theorem gR.mono {M M':World→Prop} {S:PS} {f:WF} {x:PX} (h:gR M S f x) (hm:∀ W,M' W→M W):gR M' S f x:=by
 cases S<;>cases x<;>first | exact h.elim | exact (fun W hW=>(show uP M _ _ f _ from h) W (hm W hW)) | skip
 obtain ⟨h1,h2,h3,h4,blk,off,g,k,h5,h6,h7,h8⟩:=h
 exact ⟨h1,h2,h3,h4,blk,off,g,k,h5,fun W hW=>h6 W (hm W hW),fun W hW=>h7 W (hm W hW),fun W hW=>h8 W (hm W hW)⟩
theorem gT.far {lo:Nat} {A:World} {S:PS} {f:WF} {x:PX} (h:gT lo A S f x):gR (fun W=>dD lo A W) S f x:=by
 cases S<;>cases x<;>first | exact h.elim | exact (fun W hW=>(PNew.agree h hW).is) | skip
 obtain ⟨h1,h2,h3,h4,blk,g,k,h5,h0,h6,h7,h8,h9⟩:=h
 exact ⟨h1,h2,h3,h4,blk,0,g,k,h5,fun W hW=>⟨h6.agree h0 hW,h7.agree h0 hW⟩,fun W hW=>(h8.agree hW).is,fun W hW=>(h9.agree hW).is⟩
theorem XIs.far {w:World} {S:PS} {f:WF} {x:PX} (h:XIs w S f x):gR (fun W=>Below w.heap.size w W) S f x:=by
 cases S<;>cases x<;>first | exact h.elim | exact (fun W hW=>PIs.below h hW) | skip
 obtain ⟨h1,h2,h3,h4,blk,off,g,k,h5,h6,h7,h8,h9⟩:=h
 exact ⟨h1,h2,h3,h4,blk,off,g,k,h5,fun W hW=>⟨h6.below hW,h7.below hW⟩,fun W hW=>h8.below hW,fun W hW=>h9.below hW⟩
def Vt (M:World→Prop) (S:PS) (x:PX) (w:World) (e:Ending) (w':World):Prop:=∃ f:WF,e = .returned f.val∧gR (fun W=>M W∧dD w.heap.size w' W) S f x∧Below w.heap.size w w'
def qN (M:World→Prop) (lo:Nat) (S:PS) (x:PX):Asr:=fun v w=>∃ f:WF,v=f.val∧gR (fun W=>M W∧dD lo w W) S f x
theorem Bb {M:World→Prop} {lo:Nat} {S:PS} {x:PX}:iZ (qN M lo S x):=fun v w w' ⟨f,h1,h2⟩ hb=>⟨f,h1,h2.mono fun W hW=>⟨hW.1,(aK hb lo).trans hW.2⟩⟩
theorem Bc {P:Program} {f:FuncId} {vs:Array Value} {M:World→Prop} {w:World} {S:PS} {x:PX} {lo:Nat} (hlo:lo≤w.heap.size) (h:Calls P f vs w (Vt M S x w)):Calls P f vs w (Cz (qN M lo S x) w):=h.mono fun e w' ⟨f,he,hn,hb⟩=>⟨f.val,he,⟨f,rfl,hn.mono fun W hW=>⟨hW.1,hW.2.mono hlo⟩⟩,hb⟩
theorem Bd {M:World→Prop} {w W:World} {t n:Int} {f:WF} {x:PF} (h:PNew w.heap.size W t n f x) (hb:Below w.heap.size w W):Vt M (.one t n) (.one x) w (.returned f.val) W:=⟨f,rfl,fun W2 hW=>(h.agree hW.2).is,hb⟩
section
variable {w W:World} {k:Nat} {n:Int} {f g:WF} {x y:PF}
theorem Vu (hx:PIs w 2 n f x) (hy:PIs w 2 n g y) (hf:f.z=false) (hg:g.z=false) (p0:0≤f.c) (p1:f.c≤n) (q0:0≤g.c) (q1:g.c≤n):PNew k W 2 n (yB (min f.c g.c)) (dK 2 n x y):=by
 obtain ⟨rfl,_,_⟩:=hx.k2 hf
 obtain ⟨rfl,_,_⟩:=hy.k2 hg
 rw [mC]
 exact nG (.cost _ rfl (by omega) (by omega))
theorem Vv {m:Nat} {a:Option Addr} {cap:Nat} (hx:PIs w 4 m f x) (hy:PIs w 4 m g y) (hf:f.z=false) (hg:g.z=false) (hv:eZ W a (dC f.cells g.cells)) (hl:∀ ad,a=some ad→k≤ad.block):PNew k W 4 m (pU a cap (dC f.cells g.cells)) (dK 4 m x y):=by
 obtain ⟨hx',h0⟩:=hx.k4 hf
 obtain ⟨hy',h1⟩:=hy.k4 hg
 have hv2:=rL h0 h1
 rw [hx',hy',oJ]
 exact oX (.cells m _ rfl rfl hv2) hv2.bits (by have:=hv2.le;have:=hv2.len;unfold maxLen;omega) hv hl
end
def Be (M:World→Prop) (lo:Nat) (S:PS) (x:PX):Asr:=fun v w=>∃ b,v = .slice (some ⟨b,0,none⟩) 2 2∧gR (fun W=>M W∧dD lo w W) S (rO b) x
theorem Cu {M:World→Prop} {lo:Nat} {S:PS} {x:PX}:iZ (Be M lo S x):=fun v w w' ⟨b,h1,h2⟩ hb=>⟨b,h1,h2.mono fun W hW=>⟨hW.1,(aK hb lo).trans hW.2⟩⟩
section
variable {n:Nat} {Q:Exit→Act→World→Prop} {l:Fr} {W:World} {ops:Array Oper} {L:List Asr} {i d:Nat} {ty:TypeId} {pos:String} {aft:Array Edge} {gd:Option (Nat×Bool)} {t k u m:Int} {x y:PF} {p q:Operand} {M:World→Prop}
theorem Rh (hi:ops[i]?=some ⟨some d,.buildSlice 42 2 (List.toArray [(0,p),(1,q)]),ty,pos,aft,gd⟩) (hw:gC ops L i ⟨some d,.buildSlice 42 2 (List.toArray [(0,p),(1,q)]),ty,pos,aft,gd⟩) (hp:tT n ops l L i [p,q] [qN M W.heap.size (.one t k) (.one x),qN M W.heap.size (.one u m) (.one y)]) (hI:atI L i=Be M W.heap.size (.two t k u m) (.two x y)):RG prog n ops Q l W L i :=
 Ey [qN M W.heap.size (.one t k) (.one x),qN M W.heap.size (.one u m) (.one y)] hi hw underlying42 sizeOf44 zeroValue44 rfl rfl hp fun vs w hb hh=>by
  obtain ⟨v1,v2,rfl,⟨f,rfl,hf⟩,g,rfl,hg⟩:=pV hh
  refine ⟨f.six++g.six,uW _ _ _ _ _ _ _ _ _ _ _ _,fun B w' hB h1 h2=>?_⟩
  rw [hI]
  rcases Ip h1 with h | ⟨b,off,e,h3⟩
  ·cases h
  ·cases e
   have hlo:W.heap.size≤B:=by rw [← hB];exact hb.size
   exact ⟨B,rfl,rfl,rfl,rfl,rfl,B,0,f,g,rfl,fun W2 hW=>⟨(h3 0 f rfl).agree hlo hW.2,(h3 1 g rfl).agree hlo hW.2⟩,fun W2 hW=>(show uP _ t k f x from hf) W2 ⟨hW.1,(aK h2 _).trans hW.2⟩,fun W2 hW=>(show uP _ u m g y from hg) W2 ⟨hW.1,(aK h2 _).trans hW.2⟩⟩
end
theorem oL (M:World→Prop) (t n:Int) (sa:Option Addr) (sc:Nat) (f g:WF) (x y:PF) (w:World) (hp:bI t n 0=true) (hw:M w) (hfx:uP M t n f x) (hfy:uP M t n g y) :
  Calls prog 44 #[.agg #[.int .i64 t,.int .i64 n,.slice sa 0 sc],f.val,g.val] w (Vt M (.one t n) (.one (dK t n x y)) w):=by
 have hx:=hfx w hw
 have hy:=hfy w hw
 refine cB (args:=[.agg #[.int .i64 t,.int .i64 n,.slice sa 0 sc],f.val,g.val]) func44 rfl ntmps44 rfl ?_
 have hS:=St.start w
 refine aJ (aQ (bR (cs:=[_,_,_]) hS rfl rfl rfl fun B1 W1 hS=>bR (cs:=[_,_,_,_,_,_]) hS rfl rfl rfl fun B2 W2 hS=>bR (cs:=[_,_,_,_,_,_]) hS rfl rfl rfl fun B3 W3 hS=>bB (cs:=[_,_,_,_,_,_]) hS zeroValue44 rfl rfl fun B4 W4 hS=>aN (XF.thenN (aJ (aJ (aQ (aO (o':=0) dR rfl rfl rfl (aT isAgg4 rfl (aH (hS.at_ 2 rfl) rfl) rfl (aN (XF.thenN (bA rfl (fun hc=>?_) (fun hc=>?_))))))))))))
 ·have hc10:=hc;clear hc
  have hz:=hc10
  refine aJ (aQ (aS (vs:=[_,_,_,_,_,_]) isAgg44 sizeOf44 rfl (aB.own (j:=0) (m:=6) (hS.at_ 1 rfl) rfl) rfl (aU (i:=0) (vs:=[_,_,_,_,_,_]) (cs':=[_,_,_,_,_,_]) (O':=[_,_,_,_]) hS sizeOf44 rfl rfl rfl rfl rfl rfl rfl fun W5 hS=>aN (XF.thenN (bX (XF.thenR (XF.res (dJ (vs:=[_,_,_,_,_,_]) results44 isAgg44 sizeOf44 rfl (aB.own (j:=0) (m:=6) (hS.at_ 0 rfl) rfl)) ?_)))))))
  exact ⟨g,rfl,fun W hM=>by rw [hx.zero hc10,eA];exact hfy W hM.1,hS.below⟩
 ·have hc10:=hc;clear hc
  have hf:=hc10
  refine bM (XF.thenN (aJ (aJ (aQ (aO (o':=0) dR rfl rfl rfl (aT isAgg4 rfl (aH (hS.at_ 1 rfl) rfl) rfl (aN (XF.thenN (bA rfl (fun hc=>?_) (fun hc=>?_))))))))))
  ·have hc13:=hc;clear hc
   refine aJ (aQ (aS (vs:=[_,_,_,_,_,_]) isAgg44 sizeOf44 rfl (aB.own (j:=0) (m:=6) (hS.at_ 2 rfl) rfl) rfl (aU (i:=0) (vs:=[_,_,_,_,_,_]) (cs':=[_,_,_,_,_,_]) (O':=[_,_,_,_]) hS sizeOf44 rfl rfl rfl rfl rfl rfl rfl fun W6 hS=>aN (XF.thenN (bX (XF.thenR (XF.res (dJ (vs:=[_,_,_,_,_,_]) results44 isAgg44 sizeOf44 rfl (aB.own (j:=0) (m:=6) (hS.at_ 0 rfl) rfl)) ?_)))))))
   exact ⟨f,rfl,fun W hM=>by rw [hy.zero hc13,eE hx.ok];exact hfx W hM.1,hS.below⟩
  ·have hc13:=hc;clear hc
   have hg:=hc13
   refine bM (XF.thenN (aJ (aQ (cV (us:=[]) rfl (lA) rfl (bB (cs:=[_,_,_,_,_,_]) hS zeroValue44 rfl rfl fun B7 W7 hS=>aU (i:=0) (vs:=[_,_,_,_,_,_]) (cs':=[_,_,_,_,_,_]) (O':=[_,_,_,_,_]) hS sizeOf44 rfl rfl rfl rfl rfl rfl rfl fun W8 hS=>aN (XF.thenN (aJ (aJ (aQ (aO (o':=0) eP rfl rfl rfl (aT isAgg22 rfl (aH (hS.at_ 4 rfl) rfl) rfl (aN (XF.thenN (bQ (aJ (aQ (cG rfl rfl rfl (aC rfl rfl (aN (XF.thenN (bA rfl (fun hc=>?_) (fun hc=>?_))))))))))))))))))))))
   ·have hc18:=of_decide_eq_true hc;clear hc
    have e2:t=2:=hc18
    subst e2
    obtain ⟨_,p0,p1⟩:=hx.k2 hf
    obtain ⟨_,q0,q1⟩:=hy.k2 hg
    refine aQ (aO (o':=1) eV rfl rfl rfl (aT isAgg3 rfl (aH (hS.at_ 3 rfl) rfl) rfl (aO (o':=1) eV rfl rfl rfl (aT isAgg3 rfl (aH (hS.at_ 2 rfl) rfl) rfl (Vs rfl rfl rfl (aO (o':=1) eV rfl rfl rfl (dS (i:=0) (cs':=[_,_,_,_,_,_]) (O':=[_,_,_,_,_]) hS sizeOf3 rfl rfl rfl rfl rfl rfl rfl fun W9 hS=>aN (XF.blkN (XF.thenN (aJ (aQ (aS (vs:=[_,_,_,_,_,_]) isAgg44 sizeOf44 rfl (aB.own (j:=0) (m:=6) (hS.at_ 0 rfl) rfl) rfl (aU (i:=1) (vs:=[_,_,_,_,_,_]) (cs':=[_,_,_,_,_,_]) (O':=[_,_,_,_,_]) hS sizeOf44 rfl rfl rfl rfl rfl rfl rfl fun W10 hS=>aN (XF.thenN (bX (XF.res (dJ (vs:=[_,_,_,_,_,_]) results44 isAgg44 sizeOf44 rfl (aB.own (j:=0) (m:=6) (hS.at_ 1 rfl) rfl)) ?_))))))))))))))))
    exact Bd (Vu hx hy hf hg p0 p1 q0 q1) hS.below
   ·have hc18:=of_decide_eq_false hc;clear hc
    refine aJ (aQ (cG rfl rfl rfl (aC rfl rfl (aN (XF.thenN (bA rfl (fun hc=>?_) (fun hc=>?_)))))))
    ·have hc26:=of_decide_eq_true hc;clear hc
     have e3:t=3:=hc26
     subst e3
     obtain ⟨m,rfl,hm⟩:=yO hp (.inl rfl)
     refine aQ (aO (o':=1) eQ rfl rfl rfl (aT isAgg3 rfl (aH (hS.at_ 4 rfl) rfl) rfl (aO (o':=2) eR rfl rfl rfl (aS (vs:=[_,_]) isAgg40 sizeOf40 rfl (aB.own (j:=2) (m:=2) (hS.at_ 3 rfl) rfl) rfl (aO (o':=2) eR rfl rfl rfl (aS (vs:=[_,_]) isAgg40 sizeOf40 rfl (aB.own (j:=2) (m:=2) (hS.at_ 2 rfl) rfl) rfl ?_))))))
     have hsz:=hS.below.size
     refine cL (vs:=[_,_,_]) hS goes_87 rfl (Ub _ _ _ _ _ _ _ _ _ _ (hx.at_.fat (by have:=hx.rows64 (l:=0);omega) |>.below hS.below) (hy.at_.fat (by have:=hy.rows64 (l:=0);omega) |>.below hS.below) _ rfl _ rfl _ rfl _ _ hx.at_.rl hy.at_.rl) rfl ?_
     rintro e W11 ⟨a1,c1,rfl,hv,hl,hb⟩
     refine ⟨_,rfl,hb,fun hS'=>?_⟩
     clear hS;have hS:=hS';clear hS'
     refine aE rfl rfl (bJ rfl rfl rfl (bJ rfl rfl rfl (aO (o':=2) eR rfl rfl rfl (aU (i:=0) (vs:=[_,_]) (cs':=[_,_,_,_,_,_]) (O':=[_,_,_,_,_]) hS sizeOf40 rfl rfl rfl rfl rfl rfl rfl fun W12 hS=>aN (XF.blkN (XF.thenN (aJ (aQ (aS (vs:=[_,_,_,_,_,_]) isAgg44 sizeOf44 rfl (aB.own (j:=0) (m:=6) (hS.at_ 0 rfl) rfl) rfl (aU (i:=1) (vs:=[_,_,_,_,_,_]) (cs':=[_,_,_,_,_,_]) (O':=[_,_,_,_,_]) hS sizeOf44 rfl rfl rfl rfl rfl rfl rfl fun W13 hS=>aN (XF.thenN (bX (XF.res (dJ (vs:=[_,_,_,_,_,_]) results44 isAgg44 sizeOf44 rfl (aB.own (j:=0) (m:=6) (hS.at_ 1 rfl) rfl)) ?_)))))))))))))
     exact Bd (Oh hx hy hf hg (hv.agree (fun ad e=>(hl ad e).1) (hS.since 0 rfl)) (fun ad e=>Nat.le_trans hsz (hl ad e).1)) hS.below
    ·have hc26:=of_decide_eq_false hc;clear hc
     refine aJ (aQ (cG rfl rfl rfl (aC rfl rfl (aN (XF.thenN (bA rfl (fun hc=>?_) (fun hc=>?_)))))))
     ·have hc39:=of_decide_eq_true hc;clear hc
      have e4:t=4:=hc39
      subst e4
      obtain ⟨m,rfl,hm⟩:=yO hp (.inr rfl)
      obtain ⟨hpx,vx⟩:=hx.k4 hf
      obtain ⟨hpy,vy⟩:=hy.k4 hg
      refine aJ (aQ (aC rfl rfl (aN (XF.thenN (bQ (eI (fun q l W=>∃ (k:Nat) (v:Value),k≤m∧q=m - k∧l=[(3,.pointer (some ⟨B1,0,none⟩)),(4,.pointer (some ⟨B2,0,none⟩)),(5,.pointer (some ⟨B3,0,none⟩)),(6,.pointer (some ⟨B4,0,none⟩)),(7,.pointer (some ⟨B7,0,none⟩)),(8,.int .i64 (k:Int))]∧St w [(B7,[.bool false,.int .i64 0,.int .u64 0,.slice none 0 0,v,.slice none 0 0],44),(B4,[.bool false,.int .i64 0,.int .u64 0,.slice none 0 0,.slice none 0 0,.slice none 0 0],44),(B3,[.bool g.z,.int .i64 g.c,.int .u64 (g.g:Int),.slice g.ra g.rl g.rc,.slice g.ca g.cl g.cc,.slice g.pa g.pl g.pc],44),(B2,[.bool f.z,.int .i64 f.c,.int .u64 (f.g:Int),.slice f.ra f.rl f.rc,.slice f.ca f.cl f.cc,.slice f.pa f.pl f.pc],44),(B1,[.int .i64 4,.int .i64 (m:Int),.slice sa 0 sc],25)] [⟨v,k,flat ((dC f.cells g.cells).take k),105,3⟩] [] W) (m - 0) ([(3,_),(4,_),(5,_),(6,_),(7,_),(8,_)]) ⟨rfl,rfl,rfl,rfl,rfl,rfl,trivial⟩ (⟨0,.slice none 0 0,Nat.zero_le _,rfl,rfl,hS.clear.newG _ _⟩) ?_))))))
      clear hS
      rintro q l W ⟨k,v,hkm,rfl,rfl,hS⟩
      refine aJ (aJ (aQ (aE rfl rfl (aO (o':=1) eQ rfl rfl rfl (aT isAgg3 rfl (aH (hS.at_ 4 rfl) rfl) rfl (cY rfl rfl rfl (aN (XF.thenN (bA rfl (fun hc=>?_) (fun hc=>?_))))))))))
      ·have hc44:=of_decide_eq_true hc;clear hc
       have hk:k < m:=by omega
       have hlx:=vx.len
       have hly:=vy.len
       obtain ⟨bx,offx,x1,ecx,hx1,hbx,c0,c1,c2⟩:=(hx.at_.cells.below hS.below).at_ (k:=k) (by omega)
       obtain ⟨ba,offa,y1,eca,hy1,hba,a0,a1,a2⟩:=(hy.at_.cells.below hS.below).at_ (k:=k) (by omega)
       have k0:aB W bx (offx+k * 3) [.int .u64 (x1.f:Int),.int .i64 x1.k,.int .i64 x1.v]:=⟨c0,c1,c2,trivial⟩
       have k1:aB W ba (offa+k * 3) [.int .u64 (y1.f:Int),.int .i64 y1.k,.int .i64 y1.v]:=⟨a0,a1,a2,trivial⟩
       have h1:(dC f.cells g.cells)[k]?=some (join x1 y1):=by unfold dC;rw [List.getElem?_zipWith,hx1,hy1]
       have hcl:=hx.at_.cl
       have hclg:=hy.at_.cl
       simp only [ecx,eca] at hS
       refine bM (XF.thenN (aJ (bQ ?_)))
       refine Th (p:=14) (k:=16) (gi:=0) (m:=1) cD hS rfl rfl (by kernel_rfl) (by kernel_rfl) (by kernel_rfl) (fun d hd=>by cases hd) rfl rfl underlying41 E4 rfl rfl (by show 0 < 3;decide) rfl rfl rfl (by dsimp only;simp only [maxLen];omega) (by dsimp only;show _ * 24≤_;omega) ?_
       refine gI 1 rfl rfl (by kernel_rfl) (rgV (li:=[(7,_)]) rfl (aR rfl) ⟨cF rfl,trivial⟩ (fun w hw=>aV (o':=4) dG rfl rfl) (aD rfl)) (gI 2 rfl rfl (by kernel_rfl) (rgV (li:=[(47,_)]) rfl (aR rfl) ⟨aL 0 (aA rfl rfl rfl),trivial⟩ (fun w hw=>bC isAgg41 rfl ((aK hw 0).cell (Nat.zero_le _) (aH (hS.at_ 0 rfl) rfl))) (aD rfl)) (gI 3 rfl rfl (by kernel_rfl) (rgV (li:=[(4,_)]) rfl (aR rfl) ⟨cF rfl,trivial⟩ (fun w hw=>aV (o':=4) dG rfl rfl) (aD rfl)) (gI 4 rfl rfl (by kernel_rfl) (rgV (li:=[(49,_)]) rfl (aR rfl) ⟨aL 2 (aA rfl rfl rfl),trivial⟩ (fun w hw=>bC isAgg41 rfl ((aK hw 0).cell (Nat.zero_le _) (aH (hS.at_ 3 rfl) rfl))) (aD rfl)) (gI 5 rfl rfl (by kernel_rfl) (rgV (li:=[(8,_)]) rfl (aR rfl) ⟨cF rfl,trivial⟩ (fun w hw=>aY rfl) (aD rfl)) (gI 6 rfl rfl (by kernel_rfl) (rgV (li:=[(50,_),(51,_)]) rfl (aR rfl) ⟨aL 3 (aA rfl rfl rfl),aL 4 (aA rfl rfl rfl),trivial⟩ (fun w hw=>bE  underlying41 sizeOf105 rfl rfl rfl (by omega) rfl) (aD rfl)) (gI 7 rfl rfl (by kernel_rfl) (rgV (li:=[(52,_)]) rfl (aR rfl) ⟨aL 5 (aA rfl rfl rfl),trivial⟩ (fun w hw=>aX (vs:=[_,_,_]) isAgg105 sizeOf105 rfl (aB.agree (aK hw 0) (Nat.zero_le _) (by assumption))) (aD rfl)) (gI 8 rfl rfl (by kernel_rfl) (rgV (li:=[(5,_)]) rfl (aR rfl) ⟨cF rfl,trivial⟩ (fun w hw=>aV (o':=4) dG rfl rfl) (aD rfl)) (gI 9 rfl rfl (by kernel_rfl) (rgV (li:=[(54,_)]) rfl (aR rfl) ⟨aL 7 (aA rfl rfl rfl),trivial⟩ (fun w hw=>bC isAgg41 rfl ((aK hw 0).cell (Nat.zero_le _) (aH (hS.at_ 2 rfl) rfl))) (aD rfl)) (gI 10 rfl rfl (by kernel_rfl) (rgV (li:=[(8,_)]) rfl (aR rfl) ⟨cF rfl,trivial⟩ (fun w hw=>aY rfl) (aD rfl)) (gI 11 rfl rfl (by kernel_rfl) (rgV (li:=[(55,_),(56,_)]) rfl (aR rfl) ⟨aL 8 (aA rfl rfl rfl),aL 9 (aA rfl rfl rfl),trivial⟩ (fun w hw=>bE  underlying41 sizeOf105 rfl rfl rfl (by omega) rfl) (aD rfl)) (gI 12 rfl rfl (by kernel_rfl) (rgV (li:=[(57,_)]) rfl (aR rfl) ⟨aL 10 (aA rfl rfl rfl),trivial⟩ (fun w hw=>aX (vs:=[_,_,_]) isAgg105 sizeOf105 rfl (aB.agree (aK hw 0) (Nat.zero_le _) (by assumption))) (aD rfl)) ?_)))))))))))
       refine gI 13 rfl rfl (by kernel_rfl) (cR [isV _,isV _] rfl Nl (aR rfl) ⟨bU (aL 6 (aA rfl rfl rfl)),bU (aL 11 (aA rfl rfl rfl)),trivial⟩ (fun vs w' hb hh=>by have e:=cA (us:=[_,_]) hh;subst e;exact (Vq x1 y1 (vx.oks k x1 hx1) (vy.oks k y1 hy1) _).mono fun e w2 h=>⟨_,h.1,rfl,h.2⟩) (aD rfl)) ?_
       refine Tg 14 rfl rfl (by kernel_rfl) (qY W.heap.size 1 105 _) (tU) (Ez (us:=[.agg (List.toArray [_,_,_])]) rfl (aR rfl) underlying41 sizeOf105 zeroValue105 rfl rfl ⟨bU (aL 12 (aA rfl rfl rfl)),trivial⟩ (E1 _ _ _) (aD rfl)) (Fa 15 rfl rfl (zU 16 rfl rfl (rgV (li:=[(7,_)]) rfl (aR rfl) ⟨cF rfl,trivial⟩ (fun w hw=>aV (o':=4) dG rfl rfl) (aD rfl)) (lgV (li:=[(7,_)]) rfl (aR rfl) ⟨cF rfl,trivial⟩ (fun w=>aV (o':=4) dG rfl rfl) (aD rfl) rfl) (E9 ⟨_,_,aL 1 (aA rfl rfl rfl),aL 13 (aA rfl rfl rfl),rD rfl rfl,?_⟩)))
       intro A14 v14 news14 W14 hbR hqA14 hS'
       clear hS;have hS:=hS';clear hS'
       cases hqA14
       refine aG (aG (aG (aG (aG (aG (aG (aG (aG (aG (aG (aG (aG ?_))))))))))))
       refine dE ?_;intro _ _
       refine aG (aG ?_)
       obtain ⟨g9,c9,e9,_,_⟩:=(hS.row 0 rfl).form (by show 0 < k+1;omega)
       dsimp only at e9
       subst e9
       refine cO (dS (i:=0) (cs':=[_,_,_,_,_,_]) (O':=[_,_,_,_,_]) hS sizeOf41 rfl rfl rfl rfl rfl rfl rfl fun W15 hS=>aN (XF.blkN (XF.thenN (aQ (aE rfl rfl (cZ rfl rfl (IntWalk.i64_in _ (by omega)) rfl (aC rfl rfl (aN ?_))))))))
       simp only [← ecx,← eca] at hS
       exact XF.round (m - (k+1)) [(3,_),(4,_),(5,_),(6,_),(7,_),(8,_)] (by omega) ⟨rfl,rfl,rfl,rfl,rfl,rfl,trivial⟩ ⟨k+1,_,by omega,rfl,rfl,by rw [Ee h1];exact hS.clear⟩
      ·have hc44:=of_decide_eq_false hc;clear hc
       refine eF (XF.thenX (XF.thenX (XF.blkX (XF.blkN (XF.thenN (aJ ?_))))))
       obtain rfl:k=m:=by omega
       have hrow:=hS.row 0 rfl
       have hln:(dC f.cells g.cells).length=k:=by unfold dC;rw [List.length_zipWith,vx.len,vy.len,Nat.min_self]
       have ht0:(dC f.cells g.cells).take k=dC f.cells g.cells:=List.take_of_length_le (by rw [hln];exact Nat.le_refl _)
       simp only [ht0] at hrow
       obtain ⟨hn,a9,c9,rfl,_,_⟩:=fO hrow
       clear hrow
       refine aQ (aS (vs:=[_,_,_,_,_,_]) isAgg44 sizeOf44 rfl (aB.own (j:=0) (m:=6) (hS.at_ 0 rfl) rfl) rfl (aU (i:=1) (vs:=[_,_,_,_,_,_]) (cs':=[_,_,_,_,_,_]) (O':=[_,_,_,_,_]) hS sizeOf44 rfl rfl rfl rfl rfl rfl rfl fun W16 hS=>aN (XF.thenN (bX (XF.res (dJ (vs:=[_,_,_,_,_,_]) results44 isAgg44 sizeOf44 rfl (aB.own (j:=0) (m:=6) (hS.at_ 1 rfl) rfl)) ?_)))))
       have hrow:=hS.row 0 rfl
       simp only [ht0] at hrow
       obtain ⟨_,a8,c8,e8,hr9,hf9⟩:=fO hrow
       cases e8
       refine ⟨pU a9 c9 (dC f.cells g.cells),?_,fun W2 hW=>((Vv (k:=w.heap.size) hx hy hf hg hr9 (fun ad e=>(hf9 ad e).1)).agree hW.2).is,hS.below⟩
       show _=Ending.returned (Value.agg #[.bool false,.int .i64 0,.int .u64 ((0:Nat):Int),.slice none 0 0,.slice a9 (dC f.cells g.cells).length c9,.slice none 0 0])
       rw [hln]
       rfl
     ·have hc39:=of_decide_eq_false hc;clear hc
      refine aJ (aQ (cG rfl rfl rfl (aC rfl rfl (aN (XF.thenN (bA rfl (fun hc=>absurd (of_decide_eq_true hc) (by exact lF hp)) (fun hc=>?_)))))))
      have hc:=of_decide_eq_false hc
      refine bM (XF.blkN (XF.thenN (aJ (aQ (aS (vs:=[_,_,_,_,_,_]) isAgg44 sizeOf44 rfl (aB.own (j:=0) (m:=6) (hS.at_ 0 rfl) rfl) rfl (aU (i:=1) (vs:=[_,_,_,_,_,_]) (cs':=[_,_,_,_,_,_]) (O':=[_,_,_,_,_]) hS sizeOf44 rfl rfl rfl rfl rfl rfl rfl fun W17 hS=>aN (XF.thenN (bX (XF.res (dJ (vs:=[_,_,_,_,_,_]) results44 isAgg44 sizeOf44 rfl (aB.own (j:=0) (m:=6) (hS.at_ 1 rfl) rfl)) ?_)))))))))
      have e1:t=1:=by
       have:=(fV hp).2
       omega
      subst e1
      exact Bd (Og hx hy hf hg) hS.below
theorem Gj (M:World→Prop) (hM:mF M) (t n u m:Int) (a1 a2:Option Addr) (c1 c2 b off sc:Nat) (w:World) (hs1:S3 w b off ⟨t,n,a1,0,c1⟩) (hs2:S3 w b (off+3) ⟨u,m,a2,0,c2⟩) (hp1:bI t n 0=true) (hp2:bI u m 0=true)(fra fca:Option Addr) (frc fcc fpc fb fo:Nat) (f1 f2:WF) (x1 x2:PF) (hf6:W6 w fb fo f1) (hf7:W6 w fb (fo+6) f2) (hx1:uP M t n f1 x1) (hx2:uP M u m f2 x2)(gra gca:Option Addr) (grc gcc gpc gb go:Nat) (g1 g2:WF) (y1 y2:PF) (hg6:W6 w gb go g1) (hg7:W6 w gb (go+6) g2) (hy1:uP M t n g1 y1) (hy2:uP M u m g2 y2) (hw:M w) :
  Calls prog 44 #[.agg #[.int .i64 5,.int .i64 0,.slice (some ⟨b,off,none⟩) 2 sc],.agg #[.bool false,.int .i64 0,.int .u64 0,.slice fra 0 frc,.slice fca 0 fcc,.slice (some ⟨fb,fo,none⟩) 2 fpc],.agg #[.bool false,.int .i64 0,.int .u64 0,.slice gra 0 grc,.slice gca 0 gcc,.slice (some ⟨gb,go,none⟩) 2 gpc]] w (Vt M (.two t n u m) (.two (dK t n x1 y1) (dK u m x2 y2)) w):=by
 refine cB (args:=[.agg #[.int .i64 5,.int .i64 0,.slice (some ⟨b,off,none⟩) 2 sc],.agg #[.bool false,.int .i64 0,.int .u64 0,.slice fra 0 frc,.slice fca 0 fcc,.slice (some ⟨fb,fo,none⟩) 2 fpc],.agg #[.bool false,.int .i64 0,.int .u64 0,.slice gra 0 grc,.slice gca 0 gcc,.slice (some ⟨gb,go,none⟩) 2 gpc]]) func44 rfl ntmps44 rfl ?_
 have hS:=St.start w
 refine aJ (aQ (bR (cs:=[_,_,_]) hS rfl rfl rfl fun B1 W1 hS=>bR (cs:=[_,_,_,_,_,_]) hS rfl rfl rfl fun B2 W2 hS=>bR (cs:=[_,_,_,_,_,_]) hS rfl rfl rfl fun B3 W3 hS=>bB (cs:=[_,_,_,_,_,_]) hS zeroValue44 rfl rfl fun B4 W4 hS=>aN (XF.thenN (aJ (aJ (aQ (aO (o':=0) dR rfl rfl rfl (aT isAgg4 rfl (aH (hS.at_ 2 rfl) rfl) rfl (aN (XF.thenN (bA rfl (fun hc=>absurd hc (by decide)) (fun hc=>?_))))))))))))
 skip
 refine bM (XF.thenN (aJ (aJ (aQ (aO (o':=0) dR rfl rfl rfl (aT isAgg4 rfl (aH (hS.at_ 1 rfl) rfl) rfl (aN (XF.thenN (bA rfl (fun hc=>absurd hc (by decide)) (fun hc=>?_))))))))))
 skip
 refine bM (XF.thenN (aJ (aQ (cV (us:=[]) rfl (lA) rfl (bB (cs:=[_,_,_,_,_,_]) hS zeroValue44 rfl rfl fun B5 W5 hS=>aU (i:=0) (vs:=[_,_,_,_,_,_]) (cs':=[_,_,_,_,_,_]) (O':=[_,_,_,_,_]) hS sizeOf44 rfl rfl rfl rfl rfl rfl rfl fun W6 hS=>aN (XF.thenN (aJ (aJ (aQ (aO (o':=0) eP rfl rfl rfl (aT isAgg22 rfl (aH (hS.at_ 4 rfl) rfl) rfl (aN (XF.thenN (bQ (aJ (aQ (cG rfl rfl rfl (aC rfl rfl (aN (XF.thenN (bA rfl (fun hc=>absurd (of_decide_eq_true hc) (by omega)) (fun hc=>?_))))))))))))))))))))))
 have hc:=of_decide_eq_false hc
 refine aJ (aQ (cG rfl rfl rfl (aC rfl rfl (aN (XF.thenN (bA rfl (fun hc=>absurd (of_decide_eq_true hc) (by omega)) (fun hc=>?_)))))))
 have hc:=of_decide_eq_false hc
 refine aJ (aQ (cG rfl rfl rfl (aC rfl rfl (aN (XF.thenN (bA rfl (fun hc=>absurd (of_decide_eq_true hc) (by omega)) (fun hc=>?_)))))))
 have hc:=of_decide_eq_false hc
 refine aJ (aQ (cG rfl rfl rfl (aC rfl rfl (aN (XF.thenN (bA rfl (fun hc=>?_) (fun hc=>absurd (of_decide_eq_false hc) (by omega))))))))
 have hc:=of_decide_eq_true hc
 have hsz:=hS.below.size
 have k1:=aB.agree hS.agree (Nat.zero_le _) hs1.cells
 have k2:=aB.agree hS.agree (Nat.zero_le _) hs2.cells
 have kf1:=aB.agree hS.agree (Nat.zero_le _) hf6.cells
 have kf2:=aB.agree hS.agree (Nat.zero_le _) hf7.cells
 have kg1:=aB.agree hS.agree (Nat.zero_le _) hg6.cells
 have kg2:=aB.agree hS.agree (Nat.zero_le _) hg7.cells
 refine tG cD 28 hS rfl rfl (by kernel_rfl) (by kernel_rfl) (by kernel_rfl) (fun d hd=>by cases hd) (cJ 1 rfl 3 rfl rfl (fun w hw=>aV (o':=2) fC rfl rfl) rfl (aZ 2 rfl 65 0 rfl rfl rfl (fun w hw=>bC isAgg23 rfl ((aK hw 0).cell (Nat.zero_le _) (aH (hS.at_ 4 rfl) rfl))) rfl (aZ 3 rfl 66 1 rfl rfl rfl (fun w hw=>bE (j:=0) underlying23 sizeOf25 rfl rfl rfl (by omega) (Nat.add_zero _)) rfl (aZ 4 rfl 67 2 rfl rfl rfl (fun w hw=>aX (vs:=[_,_,_]) isAgg25 sizeOf25 rfl (aB.agree (aK hw 0) (Nat.zero_le _) (by assumption))) rfl (cJ 5 rfl 4 rfl rfl (fun w hw=>aV (o':=5) cW rfl rfl) rfl (aZ 6 rfl 69 4 rfl rfl rfl (fun w hw=>bC isAgg42 rfl ((aK hw 0).cell (Nat.zero_le _) (aH (hS.at_ 3 rfl) rfl))) rfl (aZ 7 rfl 70 5 rfl rfl rfl (fun w hw=>bE (j:=0) underlying42 sizeOf44 rfl rfl rfl (by omega) (Nat.add_zero _)) rfl (aZ 8 rfl 71 6 rfl rfl rfl (fun w hw=>aX (vs:=[_,_,_,_,_,_]) isAgg44 sizeOf44 rfl (aB.agree (aK hw 0) (Nat.zero_le _) (by assumption))) rfl (cJ 9 rfl 5 rfl rfl (fun w hw=>aV (o':=5) cW rfl rfl) rfl (aZ 10 rfl 73 8 rfl rfl rfl (fun w hw=>bC isAgg42 rfl ((aK hw 0).cell (Nat.zero_le _) (aH (hS.at_ 2 rfl) rfl))) rfl (aZ 11 rfl 74 9 rfl rfl rfl (fun w hw=>bE (j:=0) underlying42 sizeOf44 rfl rfl rfl (by omega) (Nat.add_zero _)) rfl (aZ 12 rfl 75 10 rfl rfl rfl (fun w hw=>aX (vs:=[_,_,_,_,_,_]) isAgg44 sizeOf44 rfl (aB.agree (aK hw 0) (Nat.zero_le _) (by assumption))) rfl ?_))))))))))))
 refine aI 13 rfl (qN M W6.heap.size (.one t n) (.one (dK t n x1 y1))) (Bb) (cR [isV _,isV _,isV _] rfl Nk (aR rfl) ⟨bU (aL 3 (aA rfl rfl rfl)),bU (aL 7 (aA rfl rfl rfl)),bU (aL 11 (aA rfl rfl rfl)),trivial⟩ (fun vs w' hb hh=>by have e:=cA (us:=[_,_,_]) hh;subst e;exact Bc hb.size (oL M _ _ _ _ _ _ _ _ _ hp1 (hM _ _ hw (hS.below.trans (hb.mono hS.below.size))) hx1 hy1)) (aD rfl)) ?_
 refine cJ 14 rfl 3 rfl rfl (fun w hw=>aV (o':=2) fC rfl rfl) rfl (aZ 15 rfl 78 13 rfl rfl rfl (fun w hw=>bC isAgg23 rfl ((aK hw 0).cell (Nat.zero_le _) (aH (hS.at_ 4 rfl) rfl))) rfl (aZ 16 rfl 79 14 rfl rfl rfl (fun w hw=>bE (j:=1) underlying23 sizeOf25 rfl rfl rfl (by omega) rfl) rfl (aZ 17 rfl 80 15 rfl rfl rfl (fun w hw=>aX (vs:=[_,_,_]) isAgg25 sizeOf25 rfl (aB.agree (aK hw 0) (Nat.zero_le _) (by assumption))) rfl (cJ 18 rfl 4 rfl rfl (fun w hw=>aV (o':=5) cW rfl rfl) rfl (aZ 19 rfl 82 17 rfl rfl rfl (fun w hw=>bC isAgg42 rfl ((aK hw 0).cell (Nat.zero_le _) (aH (hS.at_ 3 rfl) rfl))) rfl (aZ 20 rfl 83 18 rfl rfl rfl (fun w hw=>bE (j:=1) underlying42 sizeOf44 rfl rfl rfl (by omega) rfl) rfl (aZ 21 rfl 84 19 rfl rfl rfl (fun w hw=>aX (vs:=[_,_,_,_,_,_]) isAgg44 sizeOf44 rfl (aB.agree (aK hw 0) (Nat.zero_le _) (by assumption))) rfl (cJ 22 rfl 5 rfl rfl (fun w hw=>aV (o':=5) cW rfl rfl) rfl (aZ 23 rfl 86 21 rfl rfl rfl (fun w hw=>bC isAgg42 rfl ((aK hw 0).cell (Nat.zero_le _) (aH (hS.at_ 2 rfl) rfl))) rfl (aZ 24 rfl 87 22 rfl rfl rfl (fun w hw=>bE (j:=1) underlying42 sizeOf44 rfl rfl rfl (by omega) rfl) rfl (aZ 25 rfl 88 23 rfl rfl rfl (fun w hw=>aX (vs:=[_,_,_,_,_,_]) isAgg44 sizeOf44 rfl (aB.agree (aK hw 0) (Nat.zero_le _) (by assumption))) rfl ?_)))))))))))
 refine aI 26 rfl (qN M W6.heap.size (.one u m) (.one (dK u m x2 y2))) (Bb) (cR [isV _,isV _,isV _] rfl Nk (aR rfl) ⟨bU (aL 16 (aA rfl rfl rfl)),bU (aL 20 (aA rfl rfl rfl)),bU (aL 24 (aA rfl rfl rfl)),trivial⟩ (fun vs w' hb hh=>by have e:=cA (us:=[_,_,_]) hh;subst e;exact Bc hb.size (oL M _ _ _ _ _ _ _ _ _ hp2 (hM _ _ hw (hS.below.trans (hb.mono hS.below.size))) hx2 hy2)) (aD rfl)) ?_
 refine aI 27 rfl (Be M W6.heap.size (.two t n u m) (.two (dK t n x1 y1) (dK u m x2 y2))) (Cu) (Rh rfl (aR rfl) ⟨bU (aL 12 (aA rfl rfl rfl)),bU (aL 25 (aA rfl rfl rfl)),trivial⟩ (aD rfl)) (cJ 28 rfl 7 rfl rfl (fun w hw=>aV (o':=5) cW rfl rfl) rfl (dV ?_))
 intro W7 hbR hS'
 clear hS;have hS:=hS';clear hS'
 refine aG (aG (aG (aG (aG (aG (aG (aG (aG (aG (aG (aG ?_)))))))))))
 refine dE ?_;rintro _ ⟨v1,rfl,hn1⟩
 refine aG (aG (aG (aG (aG (aG (aG (aG (aG (aG (aG (aG ?_)))))))))))
 refine dE ?_;rintro _ ⟨v2,rfl,hn2⟩
 refine dE ?_;rintro _ ⟨b9,rfl,hn9⟩
 refine aG (cO (dS (i:=0) (cs':=[_,_,_,_,_,_]) (O':=[_,_,_,_,_]) hS sizeOf42 rfl rfl rfl rfl rfl rfl rfl fun W8 hS=>aN (XF.blkN (XF.thenN (aJ (aQ (aS (vs:=[_,_,_,_,_,_]) isAgg44 sizeOf44 rfl (aB.own (j:=0) (m:=6) (hS.at_ 0 rfl) rfl) rfl (aU (i:=1) (vs:=[_,_,_,_,_,_]) (cs':=[_,_,_,_,_,_]) (O':=[_,_,_,_,_]) hS sizeOf44 rfl rfl rfl rfl rfl rfl rfl fun W9 hS=>aN (XF.thenN (bX (XF.res (dJ (vs:=[_,_,_,_,_,_]) results44 isAgg44 sizeOf44 rfl (aB.own (j:=0) (m:=6) (hS.at_ 1 rfl) rfl)) ?_)))))))))))
 exact ⟨rO b9,rfl,hn9.mono fun W hW=>⟨hW.1,(hS.since 0 rfl).trans (hW.2.mono hsz)⟩,hS.below⟩
theorem gR.two {M:World→Prop} {t n u m:Int} {f:WF} {a b:PF} (h:gR M (.two t n u m) f (.two a b)):∃ (ra ca:Option Addr) (rc cc pc fb fo:Nat) (f1 f2:WF),f=⟨false,0,0,ra,0,rc,[],ca,0,cc,[],some ⟨fb,fo,none⟩,2,pc⟩∧(∀ W,M W→W6 W fb fo f1∧W6 W fb (fo+6) f2)∧uP M t n f1 a∧uP M u m f2 b:=by
 obtain ⟨h1,h2,h3,h4,blk,off,g,k,h5,h6,h7,h8⟩:=h
 obtain ⟨z,c,gg,ra,rl,rc,rows,ca,cl,cc,cells,pa,pl,pc⟩:=f
 simp only [WF.pf,pC,PF.mk.injEq] at h1
 obtain ⟨rfl,rfl,rfl,rfl,rfl⟩:=h1
 dsimp only at h2 h3 h4 h5
 subst h2;subst h3;subst h4;subst h5
 exact ⟨ra,ca,rc,cc,pc,blk,off,g,k,rfl,h6,h7,h8⟩
theorem Bg {M:World→Prop} {S:PS} {sf:SF} {f g:WF} {x y:PX} {w:World} (hM:mF M) (hs:SIs w S sf) (hok:S.ok) (hw:M w) (hx:gR M S f x) (hy:gR M S g y):Calls prog 44 #[sf.val,f.val,g.val] w (Vt M S (bZ S x y) w):=by
 cases S<;>cases x<;>cases y<;>first | exact hx.elim | exact hy.elim | skip
 ·obtain ⟨a,c,rfl⟩:=hs
  exact oL M _ _ _ _ _ _ _ _ _ hok hw hx hy
 ·obtain ⟨b,off,c,a1,c1,a2,c2,rfl,h1,h2⟩:=hs
  obtain ⟨ra,ca,rc,cc,pc,fb,fo,f1,f2,rfl,h6,h8,h9⟩:=hx.two
  obtain ⟨ra',ca',rc',cc',pc',gb,go,g1,g2,rfl,h6',h8',h9'⟩:=hy.two
  exact Gj M hM _ _ _ _ _ _ _ _ _ _ _ _ h1 h2 hok.1 hok.2 _ _ _ _ _ _ _ _ _ _ _ (h6 w hw).1 (h6 w hw).2 h8 h9 _ _ _ _ _ _ _ _ _ _ _ (h6' w hw).1 (h6' w hw).2 h8' h9' hw
def MK (M:World→Prop) (K:List (Nat×World)) (W:World):Prop:=M W∧∀ q∈K,dD q.1 q.2 W
theorem MK.keep {M:World→Prop} {W W':World} {K:List (Nat×World)} (h:MK M K W) (hM:mF M) (hb:Below W.heap.size W W'):MK M K W':=⟨hM _ _ h.1 hb,fun q hq=>(h.2 q hq).trans (aK hb _)⟩
theorem pA {M:World→Prop} (hM:mF M) (K:List (Nat×World)):mF (MK M K):=fun W W' h hb=>h.keep hM hb
theorem St.stays {M:World→Prop} {w0 W:World} {O:Own} {G:cU} {K:List (Nat×World)} (h:St w0 O G K W) (hM:mF M) (hw:M w0):MK M K W:=⟨hM _ _ hw h.below,fun q hq=>(h.kept q hq).1⟩
def XLF (M:World→Prop) (S:PS) (fs:List WF) (xs:List PX):Prop:=fs.length=xs.length∧∀ (i:Nat) f x,fs[i]?=some f→xs[i]?=some x→gR M S f x
theorem XLF.at_ {M:World→Prop} {S:PS} {fs:List WF} {xs:List PX} (h:XLF M S fs xs) {k:Nat} (hk:k < fs.length):∃ f x,fs[k]?=some f∧xs[k]?=some x∧gR M S f x :=
 ⟨fs[k],xs[k]'(by have:=h.1;omega),by simp [hk],by have:=h.1;simp [show k < xs.length by omega],h.2 k _ _ (by simp [hk]) (by have:=h.1;simp [show k < xs.length by omega])⟩
theorem mQ (w:World):mF (fun W=>Below w.heap.size w W):=fun W W' h hb=>h.trans (hb.mono h.size)
theorem comb2 {S:PS} {x y:PX} (hx:OkX S x):[x,y].foldl (bZ S) (bP S)=bZ S x y:=by
 simp only [List.foldl_cons,List.foldl_nil,pT hx]
theorem xL {w:World} {t n:Int} {f g:WF} {x y:PF} (hx:PIs w t n f x) (hy:PIs w t n g y):eqW 1 (.mk f []) (.mk g [])=true↔x=y:=by
 rw [mO,← hx.pf,← hy.pf]
 simp [WF.pf]
theorem zD {w:World} {t n:Int} {f:WF} {x:PF} (hx:PIs w t n f x) (d:Nat):WIn w (d+1) (.mk f []):=⟨hx.at_,hx.pl.symm,.inl rfl,by simp⟩
theorem oE {w:World} {t n:Int} {f:WF} {x:PF} (hx:PIs w t n f x) (k:Nat):smN (k+1) (.mk f [])=true:=by
 have h:=hx.rows64 (l:=0)
 simp only [smN,Bool.and_eq_true,decide_eq_true_eq,List.all_nil]
 exact ⟨by omega,by omega,by rw [hx.pl];decide,trivial⟩
theorem I9 {w:World} {S:PS} {f g:WF} {x y:PX} (hx:XIs w S f x) (hy:XIs w S g y) (r:Bool) (hr:r=true↔x=y):Calls prog 48 #[f.val,g.val] w fun e w'=>e = .returned (.bool r)∧Below w.heap.size w w':=by
 cases S<;>cases x<;>cases y<;>first | exact hx.elim | exact hy.elim | skip
 ·refine (xI 2 4 (.mk f []) (.mk g []) w (zD hx 1) (zD hy 1) (oE hx 3) (oE hy 3)).mono fun e w' h=>⟨h.1.trans (bT (A9 hr ?_)),h.2⟩
  rw [mO]
  have h1:=(xL hx hy).symm
  rw [mO] at h1
  simp only [PX.one.injEq]
  exact h1
 ·obtain ⟨ra,ca,rc,cc,pc,fb,fo,f1,f2,rfl,h6,h7,h8,h9⟩:=hx.two
  obtain ⟨ra',ca',rc',cc',pc',gb,go,g1,g2,rfl,h6',h7',h8',h9'⟩:=hy.two
  have sm:∀ {t n u m:Int} {a b:PF} {f1 f2:WF} {ra ca:Option Addr} {rc cc pc fb fo:Nat},PIs w t n f1 a→PIs w u m f2 b→smN 4 (.mk ⟨false,0,0,ra,0,rc,[],ca,0,cc,[],some ⟨fb,fo,none⟩,2,pc⟩ [.mk f1 [],.mk f2 []])=true:=by
   intro t n u m a b f1 f2 ra ca rc cc pc fb fo ha hb
   have e1:=oE ha 2
   have e2:=oE hb 2
   show (decide _ && (decide _ && (decide _ && [WV.mk f1 [],WV.mk f2 []].all (smN 3))))=true
   simp [e1,e2]
  refine (xI 2 4 _ _ w (vQ h6 h7 h8 h9) (vQ h6' h7' h8' h9') (sm h8 h9) (sm h8' h9')).mono fun e w' h=>⟨h.1.trans (bT (A9 hr ?_)),h.2⟩
  rw [mO]
  have e1:=xL h8 h8'
  have e2:=xL h9 h9'
  simp [e1,e2]
section
variable {P:Program} {n:Nat} {Q:Exit→Act→World→Prop} {l:Fr} {w0 W:World} {ops:Array Oper} {os:List Oper} {K:List (Nat×World)} {L:List Asr} {i:Nat}
variable {O:Own} {Gs:List Value→cU} {efs:List Nat} {lo:Nat} {s:List Value}
variable {d:Nat} {op:Op} {ty:TypeId} {pos:String} {aft_:Array Edge} {v:Value} {gd:Option (Nat×Bool)}
variable {Goal:List Asr→Prop}
theorem hg0 {Gs:List Value→cU} {gi:Nat} {g:GR} (h:(Gs [])[gi]?=some g):∀ s,s.length=0→(Gs s)[gi]?=some g:=fun s hs=>by rw [List.eq_nil_of_length_eq_zero hs];exact h
theorem hg1 {Gs:List Value→cU} {gi:Nat} {g:GR} (h:∀ a,(Gs [a])[gi]?=some g):∀ s,s.length=1→(Gs s)[gi]?=some g:=fun s hs=>by obtain ⟨a,rfl⟩:=List.length_eq_one_iff.1 hs;exact h a
end
section
variable {P:Program} {ops:Array Oper} {Q:Exit→Act→World→Prop} {σ:Type}
structure RInvF (fr:Nat→Bool) (ops:Array Oper) (t0:Array Value) (d0:List Deferred) (G:σ→World→Prop) (I:σ→Nat→Value→World→Prop) (V:σ→Array Bool→Prop) (s:σ) (L:Array Bool) (a:Act) (w:World):Prop where
 size:a.tmps.size=t0.size
 defers:a.defers=d0
 frame:∀ t,fr t=true→a.tmps.getD t undef=t0.getD t undef
 glob:G s w
 cons:V s L
 done:∀ i d,(ops[i]?).bind (·.dst)=some d→L.getD i false=true→I s i (a.tmps.getD d undef) w
def Vw (P:Program) (fr:Nat→Bool) (ops:Array Oper) (Q:Exit→Act→World→Prop) (t0:Array Value) (G:σ→World→Prop) (I:σ→Nat→Value→World→Prop) (V:σ→Array Bool→Prop) (i:Nat):Prop :=
 ∀ s L (a:Act) w,(∀ t,fr t=true→a.eval (.tmp t)=t0.getD t undef)→G s w→V s L→L.size=ops.size→iO ops L→rR ops L i→(∀ j d,bD ops i j d=true→I s j (a.eval (.tmp d)) w) →
  wpOp P ops Q i (fun a' w'=>∃ s' v,a'=a.put ((ops[i]?).bind (·.dst)) v∧V s' (L.setIfInBounds i true)∧G s' w'∧(∀ d,(ops[i]?).bind (·.dst)=some d→I s' i v w')∧(∀ j d,j≠i→(ops[j]?).bind (·.dst)=some d→I s j (a.tmps.getD d undef) w→I s' j (a.tmps.getD d undef) w')) a w
theorem Cv {fr:Nat→Bool} {t0:Array Value} {d0:List Deferred} {G:σ→World→Prop} {I:σ→Nat→Value→World→Prop} {V:σ→Array Bool→Prop} {k:Nat} (hfr:∀ i d,i < k→(ops[i]?).bind (·.dst)=some d→fr d=false) (hk:k < ops.size) (hl:yD ops k=true) (ht:dT ops t0.size=true)
  (hstep:∀ i,i < k→Vw P fr ops Q t0 G I V i)
  (hfin:∀ s L a w,RInvF fr ops t0 d0 G I V s L a w→(∀ i,i < k→L.getD i false=true)→(∀ i,k≤i→L.getD i false=false)→wpList P ops Q (ops.toList.drop k) a w) :
  ∀ (fuel:Nat) (s:σ) (L:Array Bool) (a:Act) (w:World),L.size=ops.size→L.toList.count false≤fuel→iO ops L→(∀ i,k≤i→L.getD i false=false)→RInvF fr ops t0 d0 G I V s L a w→wpAny P .any ops Q fuel L a w:=by
 intro fuel
 induction fuel with
 | zero =>
  intro s L a w hs hc hcl hn h
  have:=fH _ _ (lU (by omega) (hn k (Nat.le_refl _)))
  omega
 | succ fuel ih =>
  intro s L a w hs hc hcl hn h
  by_cases hall:∀ i,i < k→L.getD i false=true
  ·have hcnt:ops.size - k≤L.toList.count false:=by
    have key:∀ (l:List Bool) (k:Nat),(∀ i,k≤i→i < l.length→l[i]?=some false)→l.length - k≤l.count false:=by
     intro l
     induction l with
     | nil=>intro k _;simp
     | cons b l ihl =>
      intro k hk
      cases k with
      | zero =>
       have h0:=hk 0 (Nat.le_refl _) (by simp)
       simp at h0;subst h0
       have:=ihl 0 (fun i _ hi=>by have:=hk (i+1) (by omega) (by simpa using hi);simpa using this)
       simp at this ⊢;omega
      | succ k =>
       have:=ihl k (fun i hi hi2=>by have:=hk (i+1) (by omega) (by simpa using hi2);simpa using this)
       rw [List.count_cons];simp;omega
    have:=key L.toList k (fun i h1 h2=>lU (by simpa using h2) (hn i h1))
    simpa [hs] using this
   exact rS (fun _ _=>trivial) hl ht (ops.size - k) k (fuel+1) L a w (by omega) (Nat.le_refl _) (by omega) hs hcl hall hn (hfin s L a w h hall hn)
  ·refine ⟨fun hr=>?_,fun i hi=>?_⟩
   ·exfalso;apply hall
    intro i hi
    have h1:=gL ht hs hr i (by omega)
    rw [Array.getD_eq_getD_getElem?,Array.getElem?_eq_getElem (by omega)] at h1 ⊢
    simpa using h1
   ·obtain ⟨his,hr⟩:=sT hi hs
    have hik:i < k:=by
     rcases Nat.lt_or_ge i k with h1 | h1
     ·exact h1
     ·exfalso;apply hall
      intro x hx
      exact oD hcl hr x (uM hl his h1 (by omega))
    have hc1:=fH _ _ (lU (by omega) hr.1)
    refine wpOp_mono ?_ (hstep i hik s L a w (fun t ht=>h.frame t ht) h.glob h.cons hs hcl hr (fun j d hw=>?_))
    ·rintro a' w' ⟨s',v,rfl,hV,hG,hI,hst⟩
     refine ih s' _ _ _ (by simpa using hs) ?_ (hcl.next hr (by omega)) (fun x hx=>by rw [getD_set_ne false (by omega)];exact hn x hx) ⟨by rw [lK];exact h.size,by rw [iP];exact h.defers,fun t hf=>?_,hG,hV,fun j d hd hj=>?_⟩
     ·rw [Array.toList_setIfInBounds];omega
     ·rw [eU ?_]
      ·exact h.frame t hf
      ·intro hd
       rw [hfr i t hik hd] at hf;cases hf
     ·by_cases hji:j=i
      ·subst hji
       rw [qR hd (by rw [h.size];exact (gB ht hd).1)]
       exact hI d hd
      ·rw [getD_set_ne false (Ne.symm hji)] at hj
       rw [eU (fun e=>hji ((gB ht e).2 j hd))]
       exact hst j d hji hd (h.done j d hd hj)
    ·have hj:j∈aft ops i:=by
      unfold bD at hw
      unfold aft
      cases ho:ops[i]? with
      | none=>simp [ho] at hw
      | some o =>
       simp only [ho,Bool.and_eq_true,beq_iff_eq] at hw
       obtain ⟨e,he,h2⟩:=Array.any_eq_true'.1 hw.1
       simp only [Bool.and_eq_true,beq_iff_eq] at h2
       exact List.mem_map.2 ⟨e,List.mem_filter.2 ⟨Array.mem_toList_iff.2 he,h2.2⟩,h2.1⟩
     have hd:(ops[j]?).bind (·.dst)=some d:=by
      unfold bD at hw
      rw [Bool.and_eq_true,beq_iff_eq] at hw
      exact hw.2
     exact h.done j d hd (hr.2 j hj)
end
abbrev Sy:=Nat→Option Value
def isE (s:Sy) (e:Nat):Asr:=fun v _=>s e=some v
def LS (E:List Nat) (s:Sy):Nat→List Asr→List Asr
 | _,[]=>[]
 | j,q::L=>(bif E.contains j then isE s j else q)::LS E s (j+1) L
theorem Mj {E:List Nat} {s:Sy}:∀ (L:List Asr) (j i:Nat),i < L.length→atI (LS E s j L) i=(bif E.contains (i+j) then isE s (i+j) else atI L i)
 | [],j,i,h=>by simp at h
 | q::L,j,0,h=>by rw [Nat.zero_add];rfl
 | q::L,j,i+1,h=>by
  show atI (LS E s (j+1) L) i=_
  rw [Mj L (j+1) i (by simpa using h),show i+1+j=i+(j+1) by omega]
  rfl
theorem Ef {E:List Nat} {s:Sy}:∀ (L:List Asr) (j:Nat),(LS E s j L).length=L.length
 | [],_=>rfl
 | q::L,j=>by show (LS E s (j+1) L).length+1=_;rw [Ef L (j+1)];rfl
theorem Mk {E:List Nat} {s:Sy} {L:List Asr} {j:Nat} {p:Asr} (hl:Nat.blt j L.length=true) (he:E.contains j=false) (h:atI L j=p):atI (LS E s 0 L) j=p:=by
 rw [Mj L 0 j (Nat.lt_of_lt_of_le (Nat.lt_succ_self _) (Nat.le_of_ble_eq_true hl)),Nat.add_zero,he,cond_false,h]
structure AB where
 a:Nat
 T:TypeId
 zs:List Value
 st:Nat
def blkNo:Value→Nat
 | .pointer (some p)=>p.block
 | _=>0
def AB.cs (q:AB) (s:Sy):List Value:=match s q.st with | none=>q.zs | some y=>jA q.zs 0 y.cells.toList
def AS (al:List AB) (s:Sy):Own:=al.flatMap fun q=>match s q.a with | some v=>[(blkNo v,q.cs s,q.T)] | none=>[]
theorem AS_none (al:List AB):AS al (fun _=>none)=[]:=by
 unfold AS
 induction al with
 | nil=>rfl
 | cons q al ih=>rw [List.flatMap_cons,ih];rfl
section
variable {P:Program} {n:Nat} {Q:Exit→Act→World→Prop} {l:Fr} {w0 W:World} {ops opf:Array Oper} {os:List Oper} {K:List (Nat×World)} {L:List Asr} {i:Nat}
variable {Ob:Own} {al:List AB} {G:Sy→cU} {E:List Nat} {lo:Nat} {s:Sy}
abbrev OY (al:List AB) (Ob:Own) (s:Sy):Own:=AS al s++Ob
def GY0 (w0:World) (K:List (Nat×World)) (lo:Nat) (al:List AB) (Ob:Own) (G:Sy→cU) (s:Sy) (w:World):Prop:=St w0 (OY al Ob s) (G s) K w∧lo≤w.heap.size
def GY (w0:World) (K:List (Nat×World)) (lo:Nat) (al:List AB) (Ob:Own) (G:Sy→cU) (E:List Nat) (L:List Asr) (s:Sy) (w:World):Prop:=GY0 w0 K lo al Ob G s w∧∀ e∈E,∀ v,s e=some v→AwS lo (XB (OY al Ob s) (G s)) (atI L e) v w
def VY (E:List Nat) (s:Sy) (L:Array Bool):Prop:=(∀ e∈E,(L.getD e false=true↔(s e).isSome=true))∧∀ e,e∉E→s e=none
def IY (lo:Nat) (al:List AB) (Ob:Own) (G:Sy→cU) (E:List Nat) (L:List Asr) (s:Sy) (i:Nat) (v:Value) (w:World):Prop:=(i∈E→s i=some v)∧AwS lo (XB (OY al Ob s) (G s)) (atI L i) v w
structure Kn (ops:Array Oper) (E:List Nat) (i:Nat) (s:Sy):Prop where
 yes:∀ e,E.contains e=true→(earlyL ops i).contains e=true→∃ v,s e=some v
 no:∀ e,(earlyL ops e).contains i=true→s e=none
 out:∀ e,E.contains e=false→s e=none
 self:s i=none
def TrY (al:List AB) (Ob:Own) (G:Sy→cU) (i:Nat) (s s':Sy) (w w':World):Prop:=iK 0 (XB (OY al Ob s) (G s)) w w'∧(∀ b,XB (OY al Ob s') (G s') b→XB (OY al Ob s) (G s) b∨w.heap.size≤b)∧∀ j,j≠i→s' j=s j
def SY (P:Program) (n:Nat) (ops opf:Array Oper) (Q:Exit→Act→World→Prop) (l:Fr) (w0:World) (K:List (Nat×World)) (lo:Nat) (al:List AB) (Ob:Own) (G:Sy→cU) (E:List Nat) (L:List Asr) (i:Nat):Prop :=
 ∀ t0,Has n l t0→∀ s LB (a:Act) w,(∀ t,freeT opf t=true→a.eval (.tmp t)=t0.tmps.getD t undef)→GY0 w0 K lo al Ob G s w→VY E s LB→LB.size=ops.size→iO ops LB→rR ops LB i→(∀ j d,bD ops i j d=true→IY lo al Ob G E L s j (a.eval (.tmp d)) w) →
  wpOp P ops Q i (fun a' w'=>∃ s' v,a'=a.put ((ops[i]?).bind (·.dst)) v∧VY E s' (LB.setIfInBounds i true)∧GY0 w0 K lo al Ob G s' w'∧TrY al Ob G i s s' w w'∧(∀ d,(ops[i]?).bind (·.dst)=some d→IY lo al Ob G E L s' i v w')∧(i∈E→∀ y,s' i=some y→AwS lo (XB (OY al Ob s') (G s')) (atI L i) y w')) a w
theorem SY.step (h:SY P n ops opf Q l w0 K lo al Ob G E L i):∀ a,Has n l a→Vw P (freeT opf) ops Q a.tmps (GY w0 K lo al Ob G E L) (IY lo al Ob G E L) (VY E) i:=fun t0 h0 s LB a w hF hG hV hs hc hr hD=>by
 refine wpOp_mono ?_ (h t0 h0 s LB a w hF hG.1 hV hs hc hr hD)
 rintro a' w' ⟨s',v,h1,h2,h3,⟨t1,t2,t3⟩,h5,h6⟩
 refine ⟨s',v,h1,h2,⟨h3,fun e he y hy=>?_⟩,h5,fun j d hji hd hj=>⟨fun hjE=>?_,hj.2.next t1 t2⟩⟩
 ·by_cases hei:e=i
  ·subst hei;exact h6 he y hy
  ·rw [t3 e hei] at hy
   exact (hG.2 e he y hy).next t1 t2
 ·rw [t3 j hji];exact hj.1 hjE
theorem Vx (ht:dT ops n=true) {j d:Nat} (hw:bD ops i j d=true):j < i:=by
 cases ho:ops[i]? with
 | none=>simp [bD,ho] at hw
 | some o =>
  simp only [bD,ho,Bool.and_eq_true,beq_iff_eq] at hw
  obtain ⟨e,he,h2⟩:=Array.any_eq_true'.1 hw.1
  simp only [Bool.and_eq_true,beq_iff_eq] at h2
  rw [← h2.1];exact jM ht ho e he h2.2
theorem SY.ext {L1 L2:List Asr} (ht:dT ops n=true) (hag:∀ j,j≤i→atI L1 j=atI L2 j) (h:SY P n ops opf Q l w0 K lo al Ob G E L1 i):SY P n ops opf Q l w0 K lo al Ob G E L2 i:=fun t0 h0 s LB a w hF hG hV hs hc hr hD=>by
 have h2:=h t0 h0 s LB a w hF hG hV hs hc hr (fun j d hw=>by unfold IY;rw [hag j (Nat.le_of_lt (Vx ht hw))];exact hD j d hw)
 unfold IY at h2
 rw [hag i (Nat.le_refl _)] at h2
 exact h2
theorem kn_of {LB:Array Bool} (hV:VY E s LB) (hs:LB.size=ops.size) (hc:iO ops LB) (hr:rR ops LB i):Kn ops E i s where
 yes e he h:=Option.isSome_iff_exists.1 ((hV.1 e (List.contains_iff_mem.1 he)).1 (oD hc hr e (List.contains_iff_mem.1 h)))
 no e h:=by
  cases hse:s e with
  | none=>rfl
  | some v =>
   have hE:e∈E:=Decidable.byContradiction fun hn=>by rw [hV.2 e hn] at hse;cases hse
   have hd:LB.getD e false=true:=(hV.1 e hE).2 (by rw [hse];rfl)
   have:=pJ (D:=fun x=>LB.getD x false=true) (hc e hd) (fun j hj x hx=>hc j hj x hx) i (List.contains_iff_mem.1 h)
   rw [hr.1] at this;cases this
 out e h:=hV.2 e (fun hm=>by rw [List.contains_iff_mem.2 hm] at h;cases h)
 self:=by
  cases hse:s i with
  | none=>rfl
  | some v =>
   have hE:i∈E:=Decidable.byContradiction fun hn=>by rw [hV.2 i hn] at hse;cases hse
   have:=(hV.1 i hE).2 (by rw [hse];rfl)
   rw [hr.1] at this;cases this
theorem deps_LS {a:Act} {w:World} (hD:∀ j d,bD ops i j d=true→IY lo al Ob G E L s j (a.eval (.tmp d)) w):∀ j d,bD ops i j d=true→atI (LS E s 0 L) j (a.eval (.tmp d)) w:=fun j d hw=>by
 rcases Nat.lt_or_ge j L.length with hj | hj
 ·rw [Mj L 0 j hj,Nat.add_zero]
  cases hc:E.contains j with
  | true=>rw [cond_true];exact (hD j d hw).1 (List.contains_iff_mem.1 hc)
  | false=>rw [cond_false];exact (hD j d hw).2.here
 ·rw [Gd (by rw [Ef];exact hj)];trivial
theorem joinF {x y:Code} (R:Fr→World→Prop) (h2:∀ l W,R l W→eW P n y Q l W) (h1:eW P n x (Exit.then (fun a' w'=>∃ l',R l' w'∧Has n l' a') Q) l W):eW P n (.seq x y) Q l W :=
 aJ (fun a ha=>wp_mono (h1 a ha) (fun e a' w' h=>by
  cases e with
  | normal=>obtain ⟨l',hr,hh⟩:=h;exact h2 l' w' hr a' hh
  | _=>exact h))
theorem XF.join {R:Fr→World→Prop} (l':Fr) (hs:G9 l l') (hI:R l' W):XF (Exit.then (fun a' w'=>∃ l',R l' w'∧Has n l' a') Q) .normal n l W:=fun a ha=>⟨l',hI,ha.sub hs⟩
structure Fst (ops opf:Array Oper):Prop where
 same:∀ (i:Nat) (o:Oper),opf[i]?=some o→ops[i]?=some o
theorem jH {os:List Oper} {k:Nat}:Fst os.toArray (os.take k).toArray:=⟨fun i o h=>by
 have h1:(os.take k)[i]?=some o:=by simpa using h
 rw [List.getElem?_take] at h1
 split at h1
 ·simpa using h1
 ·cases h1⟩
theorem Fst.waits (h:Fst ops opf) {i j d:Nat} (hw:bD opf i j d=true):bD ops i j d=true:=by
 unfold bD at hw ⊢
 rw [Bool.and_eq_true] at hw ⊢
 cases ho:opf[i]? with
 | none=>simp [ho] at hw
 | some o =>
  rw [ho] at hw
  rw [h.same i o ho]
  refine ⟨hw.1,?_⟩
  cases hj:opf[j]? with
  | none=>simp [hj] at hw
  | some o2=>rw [hj] at hw;rw [h.same j o2 hj];exact hw.2
variable {d:Nat} {op:Op} {ty:TypeId} {pos:String} {aft_:Array Edge} {v:Value} {gd:Option (Nat×Bool)}
theorem Vy {LB:Array Bool} (hV:VY E s LB) (hi:i∉E):VY E s (LB.setIfInBounds i true) :=
 ⟨fun e he=>by rw [getD_set_ne false (fun h=>hi (by rw [h];exact he))];exact hV.1 e he,hV.2⟩
theorem Ol (hie:E.contains i=false) (hi:ops[i]?=some ⟨some d,op,ty,pos,aft_,gd⟩)
  (h:∀ (t0 a:Act) s w,Has n l t0→(∀ t,freeT opf t=true→a.eval (.tmp t)=t0.tmps.getD t undef)→GY0 w0 K lo al Ob G s w→Kn ops E i s→(∀ j d,bD ops i j d=true→IY lo al Ob G E L s j (a.eval (.tmp d)) w)→(∀ j d,bD ops i j d=true→atI (LS E s 0 L) j (a.eval (.tmp d)) w) →
   wpOp P ops Q i (fun a' w'=>∃ v,a'=a.put (some d) v∧AwS lo (XB (OY al Ob s) (G s)) (atI L i) v w'∧Below w.heap.size w w') a w):SY P n ops opf Q l w0 K lo al Ob G E L i:=fun t0 h0 s LB a w hF hG hV hs hc hr hD=>by
 have hie':i∉E:=fun h=>by rw [List.contains_iff_mem.2 h] at hie;cases hie
 refine wpOp_mono ?_ (h t0 a s w h0 hF hG (kn_of hV hs hc hr) hD (deps_LS hD))
 rintro a' w' ⟨v,rfl,hA,hb⟩
 exact ⟨s,v,by rw [hi];rfl,Vy hV hie',⟨hG.1.grow hb,Nat.le_trans hG.2 hb.size⟩,⟨I0 hb,fun b hb=>.inl hb,fun _ _=>rfl⟩,fun _ _=>⟨fun h=>absurd h hie',hA⟩,fun h=>absurd h hie'⟩
theorem syV (hf:Fst ops opf) (li:Fr) (hie:E.contains i=false) (hi:ops[i]?=some ⟨some d,op,ty,pos,aft_,gd⟩) (hw:∀ s,gC ops (LS E s 0 L) i ⟨some d,op,ty,pos,aft_,gd⟩) (hli:∀ s,wS n opf l (LS E s 0 L) i li)
  (hr:∀ s w,St w0 Ob (G s) K w→gS P li ⟨some d,op,ty,pos,#[],none⟩ w v w) (hI:atI L i=isV v):SY P n ops opf Q l w0 K lo al Ob G E L i :=
 Ol hie hi fun t0 a s w h0 hF hG hk hD hD'=>by
  exact Gc hi ((hw s).yes hD') (by rw [fI a.eval _ _ _ _ pos _ #[] _ none];exact hr s w (St.drops _ hG.1) a.eval (jC h0 hF (fun j d h=>hD' j d (hf.waits h)) (hli s))) ⟨v,rfl,by rw [hI];exact Ok,Below.refl _ _⟩
theorem sy_call {f:FuncId} {xs:List Operand} {ts:Array TypeId} (hf:Fst ops opf) (ps:Sy→List Asr) (hie:E.contains i=false) (hi:ops[i]?=some ⟨some d,.call { callee:=.value (.func f),args:=xs.toArray,argTypes:=ts },ty,pos,aft_,gd⟩) (hgo:bH P f=true)
  (hw:∀ s,gC ops (LS E s 0 L) i ⟨some d,.call { callee:=.value (.func f),args:=xs.toArray,argTypes:=ts },ty,pos,aft_,gd⟩) (hp:∀ s,tT n opf l (LS E s 0 L) i xs (ps s))
  {p:Asr} (hc:∀ vs s w,Kn ops E i s→St w0 Ob (G s) K w→lo≤w.heap.size→mH (ps s) vs w→Calls P f vs.toArray w (rC p w)) (hI:atI L i=p):SY P n ops opf Q l w0 K lo al Ob G E L i :=
 Ol hie hi fun t0 a s w h0 hF hG hk hD hD'=>by
  have h1:=hc (xs.map a.eval) s w hk (St.drops _ hG.1) hG.2 (gZ h0 hF (fun j d h=>hD' j d (hf.waits h)) (hp s))
  rw [show (xs.map a.eval).toArray=xs.toArray.map a.eval by simp] at h1
  unfold wpOp
  simp only [hi,(hw s).yes hD',if_true]
  refine .inl ?_
  unfold Oper.wp
  rw [lM P a.eval w f xs.toArray ts _ rfl rfl hgo,Oper.upon_enter]
  refine h1.mono ?_
  rintro e w' ⟨v,rfl,hv,hb⟩
  refine ⟨v,by simp,?_,hb⟩
  rw [hI]
  intro w2 h2
  refine hv w2 ⟨h2.2.1,fun b h3 h4=>h2.2.2 b (Nat.le_trans hG.2 h3) h4 (fun hx=>?_)⟩
  rcases hx with ⟨q,hq,rfl⟩ | ⟨g,hg,hgb⟩
  ·have:=bY (hG.1.own q hq).2;omega
  ·have:=(hG.1.glt hg hgb).2;omega
def BLY (P:Program) (n:Nat) (ops opf:Array Oper) (Q:Exit→Act→World→Prop) (l:Fr) (w0:World) (K:List (Nat×World)) (lo:Nat) (al:List AB) (Ob:Own) (G:Sy→cU) (E:List Nat) (Goal:List Asr→Prop):Nat→List Asr→Nat→Prop
 | 0,Lr,_=>Goal Lr
 | m+1,Lr,k=>∃ q,SY P n ops opf Q l w0 K lo al Ob G E (q::Lr).reverse k∧BLY P n ops opf Q l w0 K lo al Ob G E Goal m (q::Lr) (k+1)
variable {Goal:List Asr→Prop}
theorem bly_nil {Lr:List Asr} {k:Nat} (h:Goal Lr):BLY P n ops opf Q l w0 K lo al Ob G E Goal 0 Lr k:=h
theorem jI {m k:Nat} {Lr:List Asr} (k':Nat) (hk:k+1=k') (q:Asr) (h:SY P n ops opf Q l w0 K lo al Ob G E (q::Lr).reverse k) (hr:BLY P n ops opf Q l w0 K lo al Ob G E Goal m (q::Lr) k'):BLY P n ops opf Q l w0 K lo al Ob G E Goal (m+1) Lr k:=by
 subst hk;exact ⟨q,h,hr⟩
theorem Om (ht:dT ops n=true):∀ (m k:Nat) (Lr:List Asr),Lr.length=k→(∀ i,i < k→SY P n ops opf Q l w0 K lo al Ob G E Lr.reverse i)→BLY P n ops opf Q l w0 K lo al Ob G E Goal m Lr k →
  ∃ Lr',Lr'.length=k+m∧(∀ i,i < k+m→SY P n ops opf Q l w0 K lo al Ob G E Lr'.reverse i)∧Goal Lr'
 | 0,k,Lr,hl,hg,h=>⟨Lr,hl,hg,h⟩
 | m+1,k,Lr,hl,hg,⟨q,hr,hn⟩=>by
  have hap:∀ j,j < k→atI Lr.reverse j=atI (q::Lr).reverse j:=fun j hj=>by rw [List.reverse_cons,kZ (by simp;omega)]
  obtain ⟨L',h1,h3,h4⟩:=Om ht m (k+1) (q::Lr) (by simp [hl]) (fun i hi=>by
   by_cases hik:i=k
   ·subst hik;exact hr
   ·exact SY.ext ht (fun j hj=>hap j (by omega)) (hg i (by omega))) hn
  exact ⟨L',by omega,fun i hi=>h3 i (by omega),h4⟩
def Vz (E:List Nat) (lo:Nat) (X:Nat→Prop) (s:Sy):Nat→List Asr→List Asr
 | _,[]=>[]
 | j,q::L=>(bif E.contains j then isE s j else AwS lo X q)::Vz E lo X s (j+1) L
theorem Bh {X:Nat→Prop}:∀ (L:List Asr) (j i:Nat),i < L.length→atI (Vz E lo X s j L) i=(bif E.contains (i+j) then isE s (i+j) else AwS lo X (atI L i))
 | [],j,i,h=>by simp at h
 | q::L,j,0,h=>by rw [Nat.zero_add];rfl
 | q::L,j,i+1,h=>by
  show atI (Vz E lo X s (j+1) L) i=_
  rw [Bh L (j+1) i (by simpa using h),show i+1+j=i+(j+1) by omega]
  rfl
theorem regY {id k:Nat} {ds:List Nat} {G0:cU} (hm:P.follows .mixedOrders=true) (hlo:lo=W.heap.size) (hS:St w0 Ob G0 K W) (hG0:G (fun _=>none)=G0) (hk:Nat.blt k os.length=true) (htl:yD os.toArray k=true) (ht:dT os.toArray n=true) (hE:E.all (fun a=>Nat.blt a k)=true)
  (hdst:(List.range k).all (fun j=>E.contains j || ((os.toArray[j]?).bind (·.dst)).isSome)=true) (hds:(os.drop k).all (fun o=>match o.dst with | some d=>ds.contains d | none=>true)=true)
  (h:BLY P n os.toArray (os.take k).toArray Q l w0 K lo al Ob G E (fun Lr=>∀ (s:Sy) (W':World) (Ks:List (Nat×World)),(∀ e,E.contains e=true→∃ v,s e=some v)→W.heap.size≤W'.heap.size→(∀ q∈Ks,lo≤q.1)→St w0 (OY al Ob s) (G s) (Ks++K) W' →
   (∀ {O2 G2 K2 W2},St w0 O2 G2 K2 W2→(∀ q∈Ks,q∈K2)→iK lo (XB (OY al Ob s) (G s)) W' W2)→(∀ e,E.contains e=true→∀ v,s e=some v→AwS lo (XB (OY al Ob s) (G s)) (atI Lr.reverse e) v W')→(∀ e,E.contains e=false→s e=none) →
   kY (os.take k) (Vz E lo (XB (OY al Ob s) (G s)) s 0 Lr.reverse) (qM ds l) (fun l' W'=>cS P n os.toArray Q (os.drop k) l' W') W') k [] 0):eW P n (.region id os.toArray true) Q l W:=by
 obtain ⟨Lr,h1,h2,hfin⟩:=Om ht k 0 [] rfl (fun i hi=>by omega) h
 rw [Nat.zero_add] at h1 h2
 have hk':k < os.length:=Nat.lt_of_lt_of_le (Nat.lt_succ_self _) (Nat.le_of_ble_eq_true hk)
 have hE':∀ a∈E,a < k:=fun a ha=>Nat.lt_of_lt_of_le (Nat.lt_succ_self _) (Nat.le_of_ble_eq_true (List.all_eq_true.1 hE a ha))
 intro a ha
 have hrep:∀ (m j:Nat),(Array.replicate m false).getD j false=false:=fun m j=>by
  rw [Array.getD_eq_getD_getElem?,Array.getElem?_replicate];split<;>rfl
 refine wp_region_any hm (Cv (fr:=freeT (os.take k).toArray) (t0:=a.tmps) (d0:=a.defers) (V:=VY E) (I:=IY lo al Ob G E Lr.reverse) (G:=GY w0 K lo al Ob G E Lr.reverse) (k:=k) (fun i d hik hd=>?_) (by simpa using hk') htl (by rw [ha.size];exact ht) (fun i hi=>(h2 i hi).step a ha) ?_ _ (fun _=>none) _ _ _ (by simp) (iT _) (fun j hj=>by rw [hrep] at hj;cases hj) (fun i _=>hrep _ _) ⟨rfl,rfl,fun _ _=>rfl,⟨⟨by unfold OY;rw [AS_none,hG0];exact hS.drew,by rw [hlo];exact Nat.le_refl _⟩,fun _ _ _ h=>(by cases h)⟩,⟨fun e he=>⟨fun h3=>(by rw [hrep] at h3;cases h3),fun h3=>(by cases h3)⟩,fun _ _=>rfl⟩,fun i d _ hj=>(by rw [hrep] at hj;cases hj)⟩)
 ·have hd2:(os[i]?).bind (·.dst)=some d:=by simpa using hd
  obtain ⟨o,ho,hod⟩:=Option.bind_eq_some_iff.1 hd2
  have hm2:o∈os.take k:=List.mem_of_getElem? (i:=i) (by rw [List.getElem?_take,if_pos hik];exact ho)
  cases hf:freeT (os.take k).toArray d with
  | false=>rfl
  | true =>
   unfold freeT at hf
   have:=Array.all_eq_true'.1 hf o (by simpa using hm2)
   rw [hod] at this
   simp at this
 intro s LB a' W' hR hdone hnot
 obtain ⟨⟨hG,hG2⟩,hG3⟩:=hR.glob
 obtain ⟨v1,v2⟩:=hR.cons
 have hall:∀ e,E.contains e=true→∃ v,s e=some v:=fun e he=>Option.isSome_iff_exists.1 ((v1 e (List.contains_iff_mem.1 he)).1 (hdone e (hE' e (List.contains_iff_mem.1 he))))
 obtain ⟨Ks,c1,⟨qw,c2,c3⟩,c4⟩:=Rc (((OY al Ob s).map (·.1))++(G s).filterMap (fun g=>g.v.ownBlock)) lo W'
 have hG4:=hG.more Ks (fun q hq=>⟨(c1 q hq).2.1,fun p hp=>(c1 q hq).2.2 p.1 (List.mem_append_left _ (List.mem_map.2 ⟨p,hp,rfl⟩)),fun g hg b hb=>(c1 q hq).2.2 b (List.mem_append_right _ (List.mem_filterMap.2 ⟨g,hg,hb⟩))⟩)
 have hcov:∀ {O2 G2 K2 W2},St w0 O2 G2 K2 W2→(∀ q∈Ks,q∈K2)→iK lo (XB (OY al Ob s) (G s)) W' W2:=fun {O2 G2 K2 W2} h2 hq=>by
  refine ⟨⟨h2.below.os.trans hG.below.os.symm,h2.below.tape.trans hG.below.tape.symm,h2.below.output.trans hG.below.output.symm⟩,?_,fun b b1 b2 b3=>?_⟩
  ·have:=(h2.kept qw (hq qw c2)).1.1;rw [c3] at this;exact this
  ·obtain ⟨q,q1,q2,q3⟩:=c4 b b1 b2 (fun hb=>b3 (by
    rcases List.mem_append.1 hb with hb | hb
    ·obtain ⟨p,hp,rfl⟩:=List.mem_map.1 hb
     exact .inl ⟨p,hp,rfl⟩
    ·obtain ⟨g,hg,e⟩:=List.mem_filterMap.1 hb
     exact .inr ⟨g,hg,e⟩))
   exact ((h2.kept q (hq q q1)).1.2 b q2 q3).trans ((c1 q q1).2.1.2 b q2 q3).symm
 have htk:(os.take k).length=k:=by simp;omega
 refine rV (os.take k) (Vz E lo (XB (OY al Ob s) (G s)) s 0 Lr.reverse) (qM ds l) (fun i d hi hd'=>?_) (fun i hi hd'=>?_) (hR.size.trans ha.size) (hR.defers.trans ha.defers) ?_ (fun l' h ha'=>?_) (hfin s W' Ks hall (by rw [← hlo];exact hG2) (fun q hq=>(c1 q hq).1) hG4 hcov (fun e he v hv=>hG3 e (List.contains_iff_mem.1 he) v hv) (fun e he=>v2 e (fun hm=>by rw [List.contains_iff_mem.2 hm] at he;cases he)))
 ·have hik:i < k:=by omega
  have hd2:(os.toArray[i]?).bind (·.dst)=some d:=by rw [List.getElem?_take,if_pos hik] at hd';simpa using hd'
  obtain ⟨i1,i2⟩:=hR.done i d hd2 (hdone i hik)
  rw [Bh Lr.reverse 0 i (by simp;omega),Nat.add_zero]
  cases hc1:E.contains i with
  | true=>rw [cond_true];exact i1 (List.contains_iff_mem.1 hc1)
  | false=>rw [cond_false];exact i2
 ·have hik:i < k:=by omega
  have h3:=List.all_eq_true.1 hdst i (List.mem_range.2 hik)
  have hd2:(os.toArray[i]?).bind (·.dst)=none:=by rw [List.getElem?_take,if_pos hik] at hd';simpa using hd'
  rw [hd2] at h3
  have hc:E.contains i=true:=by simpa using h3
  rw [Bh Lr.reverse 0 i (by simp;omega),Nat.add_zero,hc,cond_true]
  exact hall i hc
 ·intro t v hv hno
  have hl:=nI hv (fX hv)
  rw [hR.frame t ?_]
  ·exact ha.at_ t v hl
  ·unfold freeT;rw [Array.all_eq_true'];intro o' ho'
   have ho2:o'∈os.take k:=by simpa using ho'
   simpa using hno o' ho2
 ·have:=h a' ha'
  simpa using this
end
section
variable {P:Program} {n:Nat} {ops:Array Oper} {Q:Exit→Act→World→Prop} {l:Fr} {w0 W:World} {os:List Oper} {d:Nat} {ty:TypeId} {pos:String} {aft:Array Edge}
theorem cT {x:Operand} {p:Addr} (hx:evL l x=some (.pointer (some p))):gS P l ⟨some d,.nilCheck x,ty,pos,aft,none⟩ W (.pointer (some p)) W:=fun ev he=>by
 unfold execOp;simp only [];rw [he x _ hx];rfl
theorem cM {x:Operand} {p:Addr} (hx:evL l x=some (.pointer (some p))) (hd:Nat.blt d n=true) (h:cS P n ops Q os ((d,.pointer (some p))::l) W):cS P n ops Q (⟨some d,.nilCheck x,ty,pos,aft,none⟩::os) l W:=opV (cT hx) hd h
end
section
variable {P:Program} {n:Nat} {Q:Exit→Act→World→Prop} {l:Fr} {W:World} {ops:Array Oper} {os:List Oper} {d:Nat} {ty:TypeId} {pos:String} {aft:Array Edge} {x y:Operand} {k:IntKind} {a b:Int} {ts:Array TypeId}
end
def V3:List (Nat×Nat×Asr)→(Operand→Value)→World→Prop
 | [],_,_=>True
 | x::xs,ev,w=>x.2.2 (ev (.tmp x.2.1)) w∧V3 xs ev w
def V4 (ops:Array Oper) (L:List Asr) (i:Nat):List (Nat×Nat×Asr)→Prop
 | []=>True
 | x::xs=>(bD ops i x.1 x.2.1=true∧atI L x.1=x.2.2)∧V4 ops L i xs
section
variable {P:Program} {ops opf:Array Oper} {Q:Exit→Act→World→Prop} {n:Nat} {l:Fr} {w0 W:World} {K:List (Nat×World)} {lo:Nat} {al:List AB} {Ob:Own} {G:Sy→cU} {E:List Nat} {L:List Asr} {i:Nat}
variable {d:Nat} {op:Op} {ty:TypeId} {pos:String} {aft_:Array Edge}
end
end Go.Proofs.YtmgnkpibpjgncaaGreatDoor
namespace Go.Proofs.YtmgnkpibpjgncaaGreatDoor
open Go.Proofs.Tryz
open Go Go.RowKit
open Go.WideMaps (KeyLaw)
open Go.ChangeMaps (setBlock)
section
variable {α:Type} {P:Program} {K E S T:TypeId} {κ:α→Value} {W:World} {lo b:Nat} {f:α→List Value}
structure GrpE (P:Program) (K E:TypeId) (κ:α→Value) (lo:Nat) (f:α→List Value) (W:World) (es:Array MapEntry) (clock:Nat):Prop where
 born:∀ x∈es.toList,x.born < clock
 nodup:(es.toList.map (·.born)).Nodup
 keys:es.toList.Pairwise (fun x y=>x.key≠y.key)
 is:∀ x∈es.toList,∃ k,x.key=κ k∧(∃ l,keyOf P K (κ k)=some l)∧W.ownsRow lo E 1 x.val (f k).length (f k)
 all:∀ k,f k≠[]→∃ x∈es.toList,x.key=κ k
 apart:∀ x∈es.toList,∀ y∈es.toList,x.key≠y.key→Value.apart x.val y.val
def Grp (P:Program) (K E:TypeId) (κ:α→Value) (lo:Nat) (f:α→List Value) (b:Nat) (W:World):Prop :=
 ∃ es clock,W.heap[b]?=some (.map es clock)∧GrpE P K E κ lo f W es clock
theorem Bi {l:List MapEntry} (h:l.Pairwise (fun x y=>x.key≠y.key)) {x y:MapEntry} (hx:x∈l) (hy:y∈l) (e:x.key=y.key):x=y:=by
 induction h with
 | nil=>cases hx
 | cons a _ ih =>
  rcases List.mem_cons.1 hx with hx1 | hx1
  ·rcases List.mem_cons.1 hy with hy1 | hy1
   ·rw [hx1,hy1]
   ·subst hx1;exact absurd e (a _ hy1)
  ·rcases List.mem_cons.1 hy with hy1 | hy1
   ·subst hy1;exact absurd e.symm (a _ hx1)
   ·exact ih hx1 hy1
theorem GrpE.valid {es:Array MapEntry} {clock:Nat} (h:GrpE P K E κ lo f W es clock):∀ e∈es.toList,∃ l,keyOf P K e.key=some l:=fun e he=>by
 obtain ⟨k,h1,h2,_⟩:=h.is e he
 rw [h1];exact h2
theorem GrpE.nil_of {es:Array MapEntry} {clock:Nat} (h:GrpE P K E κ lo f W es clock) {k:α} (hn:∀ x∈es.toList,x.key≠κ k):f k=[] :=
 Decidable.byContradiction fun hne=>by
  obtain ⟨x,hx,hk⟩:=h.all k hne
  exact hn x hx hk
theorem GrpE.at_ {es:Array MapEntry} {clock:Nat} (h:GrpE P K E κ lo f W es clock) (hinj:∀ x y,κ x=κ y→x=y) {x:MapEntry} {k:α} (hx:x∈es.toList) (hk:x.key=κ k):W.ownsRow lo E 1 x.val (f k).length (f k):=by
 obtain ⟨k2,h1,_,h2⟩:=h.is x hx
 obtain rfl:=hinj _ _ (h1.symm.trans hk)
 exact h2
theorem lV {w:World} {base n p:Nat} {e:TypeId} {size:Nat} {v:Value} {xs:List Value} (h:w.ownsRow base e size v n xs) {es:Array MapEntry} {clock:Nat} (hb:w.heap[b]?=some (.map es clock)) (hp:v.ownBlock=some p):p≠b:=by
 rcases h.2 with ⟨rfl,_⟩ | ⟨g,cap,cur,rfl,_,h4,_⟩
 ·cases hp
 ·intro e1
  have:g=p:=Option.some.inj hp
  rw [this,e1,hb] at h4;cases h4
theorem Grp.same {W':World} (h:Grp P K E κ lo f b W) (hb:b < W.heap.size→W'.heap[b]?=W.heap[b]?) (hs:∀ p,lo≤p→p < W.heap.size→W'.heap[p]?=W.heap[p]?):Grp P K E κ lo f b W':=by
 obtain ⟨es,clock,h1,h2⟩:=h
 refine ⟨es,clock,(hb (bY h1)).trans h1,⟨h2.born,h2.nodup,h2.keys,fun x hx=>?_,h2.all,h2.apart⟩⟩
 obtain ⟨k,h3,h4,h5⟩:=h2.is x hx
 exact ⟨k,h3,h4,dQ h5 fun p hp=>hs p (h5.lt p hp).1 (h5.lt p hp).2⟩
theorem Grp.below {W':World} (h:Grp P K E κ lo f b W) (hb:Below W.heap.size W W'):Grp P K E κ lo f b W':=h.same (fun h1=>hb.block _ h1) (fun p _ h1=>hb.block _ h1)
theorem Grp.fresh (lo:Nat) (hb:W.heap[b]?=some (.map #[] 0)):Grp P K E κ lo (fun _=>[]) b W :=
 ⟨#[],0,hb,⟨by simp,by simp,by simp,by simp,fun k h=>absurd rfl h,by simp⟩⟩
theorem Grp.look (h:Grp P K E κ lo f b W) (L:KeyLaw P K) (ht:P.underlying T=some (.map K S)) (hz:∀ w,(zeroValue S).run P w = .ok (.slice none 0 0) w) {k:α} (hk:∃ l,keyOf P K (κ k)=some l) (hinj:∀ x y,κ x=κ y→x=y) :
  ∃ v,(∀ W',W'.heap[b]?=W.heap[b]?→(Instr.lookup T (.map (some b)) (κ k) false).run P W' = .ok v W')∧W.ownsRow lo E 1 v (f k).length (f k):=by
 obtain ⟨es,clock,hb,hE⟩:=h
 obtain ⟨l,hl⟩:=hk
 by_cases hx:∃ x∈es.toList,x.key=κ k
 ·obtain ⟨x,hx,hxk⟩:=hx
  refine ⟨x.val,fun W' hW'=>?_,hE.at_ hinj hx hxk⟩
  rcases L.find W' hl es.toList hE.valid with ⟨_,h2⟩ | ⟨j,e0,h1,h2,h3⟩
  ·exact absurd hxk (h2 x hx)
  ·obtain rfl:e0=x:=Bi hE.keys (List.mem_of_getElem? h2) hx (h3.trans hxk.symm)
   simp [Instr.lookup,run_underlying ht,MapKept.run_getObj_map (hW'.trans hb),L.check W' _ hl,h1,Result.andThen]
 ·have hn:∀ x∈es.toList,x.key≠κ k:=fun x h1 h2=>hx ⟨x,h1,h2⟩
  refine ⟨.slice none 0 0,fun W' hW'=>?_,?_⟩
  ·rcases L.find W' hl es.toList hE.valid with ⟨h1,_⟩ | ⟨j,e0,_,h2,h3⟩
   ·simp [Instr.lookup,run_underlying ht,MapKept.run_getObj_map (hW'.trans hb),L.check W' _ hl,h1,hz,Result.andThen]
   ·exact absurd ⟨e0,List.mem_of_getElem? h2,h3⟩ hx
  ·rw [hE.nil_of hn];exact World.ownsRow_nil _ _ _ _
theorem rZ {w:World} {o o':Obj} (hb:w.heap[b]?=some o):(setBlock w b o').heap[b]?=some o':=(MapKept.heap_set hb).1
theorem eL {w:World} {o o':Obj} (hb:w.heap[b]?=some o) {p:Nat} (hp:p≠b):(setBlock w b o').heap[p]?=w.heap[p]?:=(MapKept.heap_set hb).2 p hp
theorem nM {w:World} {o o':Obj} (hb:w.heap[b]?=some o):w.grownBy (setBlock w b o') (some b) :=
 ⟨rfl,rfl,rfl,by simp [setBlock],fun k _ hk=>eL hb (fun e=>hk (by rw [e]))⟩
theorem Bj {es:Array MapEntry} {j:Nat} {e0 x:MapEntry} {g:MapEntry→MapEntry} (hj:es.toList[j]?=some e0) (hx:x∈(es.modify j g).toList):x=g e0∨∃ i,i≠j∧es.toList[i]?=some x:=by
 obtain ⟨i,hi⟩:=List.getElem?_of_mem hx
 rw [Array.toList_modify,List.getElem?_modify] at hi
 by_cases hij:j=i
 ·subst hij
  rw [hj] at hi
  simp at hi
  exact .inl hi.symm
 ·refine .inr ⟨i,fun e=>hij e.symm,?_⟩
  simpa [hij] using hi
theorem Bk {es:Array MapEntry} {j i:Nat} {x:MapEntry} {g:MapEntry→MapEntry} (hx:es.toList[i]?=some x):(if j=i then g x else x)∈(es.modify j g).toList:=by
 refine List.mem_of_getElem? (i:=i) ?_
 rw [Array.toList_modify,List.getElem?_modify,hx]
 by_cases hij:j=i<;>simp [hij]
theorem Bl {β:Type} {es:Array MapEntry} {j:Nat} {g:MapEntry→MapEntry} {p:MapEntry→β} (h:∀ x,p (g x)=p x):(es.modify j g).toList.map p=es.toList.map p:=by
 apply List.ext_getElem?
 intro i
 rw [Array.toList_modify,List.getElem?_map,List.getElem?_map,List.getElem?_modify]
 cases es.toList[i]? with
 | none=>rfl
 | some x =>
  by_cases hij:j=i
  ·simp [hij,h]
  ·simp [hij]
theorem pw_map {β:Type} {r:β→β→Prop} {p:MapEntry→β} {l l':List MapEntry} (h:l.Pairwise (fun x y=>r (p x) (p y))) (e:l'.map p=l.map p):l'.Pairwise (fun x y=>r (p x) (p y)):=by
 rw [← List.pairwise_map] at h ⊢
 rw [e];exact h
variable {n:Nat} {ops:Array Oper} {Q:Exit→Act→World→Prop} {os:List Oper} {l:Fr} {w0:World} {O:Own} {G:cU} {Kk:List (Nat×World)} {d:Nat} {ty:TypeId} {pos:String} {aft:Array Edge}
theorem Eh {m x:Operand} {v u:Value} {w:World} {key:Value} (hm:evL l m=some u) (hx:evL l x=some key) (hr:(Instr.lookup T u key false).run P w = .ok v w):gS P l ⟨some d,.lookup T m x false,ty,pos,aft,none⟩ w v w:=fun ev he=>by
 unfold execOp;simp only [];rw [he m _ hm,he x _ hx]
 simp [hr,Result.andThen]
theorem Ri {T e:TypeId} {x y:Operand} {kk:IntKind} {j:Int} {s:Nat} (hU:P.underlying T=some (.slice e)) (hs:∀ w,(sizeOf e).run P w = .ok s w) (hx:evL l x=some (.slice none 0 0)) (hy:evL l y=some (.int kk j)) (hj:j=0) (hd:Nat.blt d n=true)
  (h:cS P n ops Q os ((d,.slice none 0 0)::l) W):cS P n ops Q (⟨some d,.slice T x none (some y) none,ty,pos,aft,none⟩::os) l W :=
 opV (v:=.slice none 0 0) (fun ev he=>by
  subst hj
  unfold execOp;simp only [Option.map_some,Option.map_none];rw [he x _ hx,he y _ hy]
  simp [Instr.sliceAt,Instr.slice,Instr.sliceBounds,Instr.sliceBound,run_underlying hU,asIntOf,hs,Result.andThen]) hd h
theorem zE {es:Array MapEntry} {clock:Nat} (hS:St w0 O G Kk W) (hb:W.heap[b]?=some (.map es clock)):∀ p∈O,p.1≠b∧p.1 < W.heap.size:=fun p hp=>by
 refine ⟨fun e=>?_,hS.own_lt p hp⟩
 have h1:=(hS.own p hp).2
 rw [e,hb] at h1
 cases h1
theorem Grp.lt (h:Grp P K E κ lo f b W):b < W.heap.size:=by
 obtain ⟨es,clock,h1,_⟩:=h
 exact bY h1
def tF (W:World) (b:Nat):World:={ W with heap:=W.heap.extract 0 (b+1) }
theorem jT (h:b < W.heap.size):(tF W b).heap.size=b+1:=by simp [tF];omega
theorem qB (h:b < W.heap.size):b < (tF W b).heap.size:=by rw [jT h];exact Nat.lt_succ_self _
theorem qC (h:b < W.heap.size):(tF W b).heap[b]?=W.heap[b]?:=by
 rw [Array.getElem?_eq_getElem (qB h),Array.getElem?_eq_getElem h]
 simp [tF]
theorem St.markAt {b:Nat} (h:St w0 O [] Kk W) (hb:b < W.heap.size) (hO:∀ p∈O,p.1≠b):St w0 O [] ((b,tF W b)::Kk) W where
 below:=h.below
 own:=h.own
 dist:=h.dist
 kept:=fun q hq=>by
  rcases List.mem_cons.1 hq with rfl | hq
  ·refine ⟨⟨by show (tF W b).heap.size≤_;rw [jT hb];exact hb,fun x h1 h2=>?_⟩,fun p hp=>?_⟩
   ·have h3:x < b+1:=by rw [← jT hb];exact h2
    have h4:b≤x:=h1
    obtain rfl:x=b:=by omega
    exact (qC hb).symm
   ·have:=hO p hp
    show p.1 < b∨(tF W b).heap.size≤p.1
    rw [jT hb];omega
  ·exact h.kept q hq
 rows:=fun g hg=>by cases hg
 gdist:=List.Pairwise.nil
end
end Go.Proofs.YtmgnkpibpjgncaaGreatDoor
namespace Go.Proofs.YtmgnkpibpjgncaaGreatDoor
open Go.Proofs.Tryz
open Go Go.RowKit
theorem St.headSl {w0 W:World} {O:Own} {G:cU} {K:List (Nat×World)} {v:Value} {n size:Nat} {xs:List Value} {e:TypeId} (h:St w0 O (⟨v,n,xs,e,size⟩::G) K W):∃ a c,v = .slice a n c:=by
 obtain ⟨a,c,e9,_⟩:=iB (h.row 0 rfl)
 exact ⟨a,c,e9⟩
section
variable {w0 W:World} {O:Own} {G:cU} {K:List (Nat×World)}
variable {P:Program} {n:Nat} {ops:Array Oper} {Q:Exit→Act→World→Prop} {l:Fr} {os:List Oper} {d:Nat} {ty:TypeId} {pos:String} {aft:Array Edge}
theorem St.markMap {b:Nat} {es:Array MapEntry} {clock:Nat} (h:St w0 O G K W) (hb:W.heap[b]?=some (.map es clock)):St w0 O G ((b,tF W b)::K) W where
 below:=h.below
 own:=h.own
 dist:=h.dist
 kept:=fun q hq=>by
  rcases List.mem_cons.1 hq with rfl | hq
  ·have hlt:=bY hb
   refine ⟨⟨by show (tF W b).heap.size≤_;rw [jT hlt];exact hlt,fun x h1 h2=>?_⟩,fun p hp=>?_⟩
   ·have h3:x < b+1:=by rw [← jT hlt];exact h2
    have h4:b≤x:=h1
    obtain rfl:x=b:=by omega
    exact (qC hlt).symm
   ·have:p.1≠b:=fun e=>by
     have h5:=(h.own p hp).2
     rw [e,hb] at h5;cases h5
    show p.1 < b∨(tF W b).heap.size≤p.1
    rw [jT hlt];omega
  ·exact h.kept q hq
 rows:=fun g hg=>by
  obtain ⟨h1,h2⟩:=h.rows g hg
  refine ⟨h1,fun k hk=>⟨(h2 k hk).1,fun q hq=>?_⟩⟩
  rcases List.mem_cons.1 hq with rfl | hq
  ·have:k≠b:=lV h1 hb hk
   show k < b∨(tF W b).heap.size≤k
   rw [jT (bY hb)];omega
  ·exact (h2 k hk).2 q hq
 gdist:=h.gdist
theorem St.oneV (h:St w0 O G K W) (i:Nat) (g:GR) (hi:G[i]?=some g):g.v.oneCell'=true:=by
 rcases (h.rows g (List.mem_of_getElem? hi)).1.2 with ⟨h1,_⟩ | ⟨_,_,_,h1,_⟩<;>rw [h1]<;>rfl
end
section
variable {P:Program} {ops opf:Array Oper} {Q:Exit→Act→World→Prop} {n:Nat} {l:Fr} {w0 W:World} {K:List (Nat×World)} {lo:Nat} {al:List AB} {Ob:Own} {G:Sy→cU} {E:List Nat} {L:List Asr} {i:Nat}
variable {d:Nat} {op:Op} {ty:TypeId} {pos:String} {aft_:Array Edge}
end
structure Ready (w:World) (S:PS) (px:RV→PX) (p:PV) (c:CV):Prop where
 chk:Vk p c=0
 ok:S.ok
 si:SIs w S p.s.f
 w4:∀ r∈p.rs,r.wl≤4096
 c4:c.wl≤4096
 x:∀ r∈p.rs,XIs w S r.x.f (px r)
theorem ready {w:World} {ds d:Nat} {p:PV} {c:CV} (hp:PvIn w ds d p) (h:Vk p c=0):∃ S px,Ready w S px p c:=by
 classical
 have h1:pdsE p=0∧Vj p c=true:=by
  unfold Vk at h
  split at h
  ·rename_i hn;exact absurd h hn
  ·rename_i hn
   split at h
   ·rename_i hc;exact ⟨Decidable.of_not_not hn,hc⟩
   ·cases h
 obtain ⟨hd,hc⟩:=h1
 have h2:dW p.s=0∧p.rs.all (Vi p.st p.sy)=true∧wtE p.s p.rs=0:=by
  unfold pdsE at hd
  split at hd
  ·rename_i hn;exact absurd hd hn
  ·rename_i hn
   split at hd
   ·cases hd
   ·split at hd
    ·cases hd
    ·split at hd
     ·rename_i ha;exact ⟨Decidable.of_not_not hn,ha,hd⟩
     ·cases hd
 obtain ⟨hs,hr,hw⟩:=h2
 obtain ⟨S,hok,hsi,hx⟩:=I5 hp.s hs
 have hall:∀ r∈p.rs,lT p.s r.x=0:=by
  have key:∀ rs:List RV,wtE p.s rs=0→∀ r∈rs,lT p.s r.x=0:=by
   intro rs
   induction rs with
   | nil=>intro _ r hr;cases hr
   | cons a rs ih =>
    intro hz r hr
    unfold wtE at hz
    split at hz
    ·rename_i h0
     rcases List.mem_cons.1 hr with rfl | hr
     ·exact h0
     ·exact ih hz r hr
    ·rename_i h0;exact absurd hz h0
  exact key _ hw
 have hex:∀ r,∃ x,r∈p.rs→XIs w S r.x.f x:=fun r=>by
  by_cases hm:r∈p.rs
  ·have h0:=hall r hm
   have hokw:okW p.s r.x=true:=by
    unfold lT at h0
    rw [if_pos hs] at h0
    split at h0
    ·assumption
    ·cases h0
   obtain ⟨x,hxx⟩:=hx r.x d (hp.rin r hm).x hokw
   exact ⟨x,fun _=>hxx⟩
  ·exact ⟨bP S,fun h=>absurd h hm⟩
 refine ⟨S,fun r=>Classical.choose (hex r),h,hok,hsi,fun r hm=>?_,?_,fun r hm=>Classical.choose_spec (hex r) hm⟩
 ·have:=List.all_eq_true.1 hr r hm
  unfold Vi at this
  simp only [Bool.and_eq_true,decide_eq_true_eq] at this
  exact this.2.2.2.1
 ·unfold Vj at hc
  simp only [Bool.and_eq_true,decide_eq_true_eq] at hc
  exact hc.2.1
section
variable {w:World} {ds d:Nat} {S:PS} {px:RV→PX} {p:PV} {c:CV} {la:Option Addr} {ll lc:Nat} {is:List Int} {R:Option StT×Int×Int}
end
theorem On:bH prog 39=true:=by kernel_rfl
theorem fa_76_1 (w:World) (b o:Nat):(Instr.fieldAt 76 (.pointer (some ⟨b,o,none⟩)) 1).run prog w = .ok (.pointer (some ⟨b,o+3,none⟩)) w:=by
 simp [Instr.fieldAt,run_underlying underlying76,Instr.sureAddr,go_sem,Addr.add_lit]
noncomputable def nzX (S:PS) (x:PX):Bool:=@decide (x≠bP S) (Classical.propDecidable _)
theorem pB {S:PS} {x:PX}:nzX S x=true↔x≠bP S:=by unfold nzX;exact @decide_eq_true_iff _ (Classical.propDecidable _)
theorem lG {S:PS} {x:PX}:nzX S x=false↔x=bP S:=by
 unfold nzX
 rw [@decide_eq_false_iff_not _ (Classical.propDecidable _)]
 exact Classical.not_not
noncomputable def eqX (x y:PX):Bool:=@decide (x=y) (Classical.propDecidable _)
theorem nN {x y:PX}:eqX x y=true↔x=y:=by unfold eqX;exact @decide_eq_true_iff _ (Classical.propDecidable _)
theorem pD {x y:PX}:eqX x y=false↔x≠y:=by unfold eqX;exact @decide_eq_false_iff_not _ (Classical.propDecidable _)
theorem Cw (S:PS) (sf:SF) (f0 f:WF) (x:PX) (w:World) (h0:XIs w S f0 (bP S)) (hx:XIs w S f x) :
  Calls prog 38 #[jS sf f0,f.val] w (fun e w'=>e = .returned (.bool (!nzX S x))∧Below w.heap.size w w'):=by
 refine cB (args:=[jS sf f0,f.val]) func38 rfl ntmps38 rfl ?_
 have hS:=St.start w
 refine aJ (aQ (bR (cs:=[_,_,_,_,_,_,_,_,_]) hS rfl rfl rfl fun B1 W1 hS=>bR (cs:=[_,_,_,_,_,_]) hS rfl rfl rfl fun B2 W2 hS=>aC rfl rfl (aN (XF.thenN (aJ (aQ (aS (vs:=[_,_,_,_,_,_]) isAgg44 sizeOf44 rfl (aB.own (j:=0) (m:=6) (hS.at_ 0 rfl) rfl) rfl (aO (o':=3) fa_76_1 rfl rfl rfl (aS (vs:=[_,_,_,_,_,_]) isAgg44 sizeOf44 rfl (aB.own (j:=3) (m:=6) (hS.at_ 1 rfl) rfl) rfl (cC (vs:=[_,_]) hS E2 rfl (I9 (hx.below hS.below) (h0.below hS.below) (!nzX S x) (by rw [Bool.not_eq_true',lG])) rfl fun W3 hS=>aC rfl rfl (aN (XF.thenN (bX (XF.res (cQ results38 rfl) ?_))))))))))))))
 exact ⟨rfl,hS.below⟩
theorem Ja (S:PS) (sf:SF) (f0:WF) (w:World) (hs:SIs w S sf) (hok:S.ok) :
  Calls prog 96 #[jS sf f0] w (gH S (bP S) w):=by
 refine cB (args:=[jS sf f0]) func96 rfl ntmps96 rfl ?_
 have hS:=St.start w
 refine aJ (aQ (bR (cs:=[_,_,_,_,_,_,_,_,_]) hS rfl rfl rfl fun B1 W1 hS=>bB (cs:=[_,_,_,_,_,_]) hS zeroValue44 rfl rfl fun B2 W2 hS=>aN (XF.thenN (aJ (aQ (aO (o':=0) yV rfl rfl rfl (aS (vs:=[_,_,_]) isAgg25 sizeOf25 rfl (aB.own (j:=0) (m:=3) (hS.at_ 1 rfl) rfl) rfl ?_)))))))
 have hsz9:=hS.below.size
 refine cL (vs:=[_]) hS Nj rfl (Io S sf _ (hs.below hS.below) hok) rfl ?_
 rintro e W3 ⟨f9,rfl,hn9,hb⟩
 refine ⟨_,rfl,hb,fun hS'=>?_⟩
 clear hS;have hS:=hS';clear hS'
 refine aE rfl rfl (bJ rfl rfl rfl (bJ rfl rfl rfl (bB (cs:=[_,_,_,_,_,_]) hS zeroValue44 rfl rfl fun B4 W4 hS=>aU (i:=0) (vs:=[_,_,_,_,_,_]) (cs':=[_,_,_,_,_,_]) (O':=[_,_,_]) hS sizeOf44 rfl rfl rfl rfl rfl rfl rfl fun W5 hS=>aC rfl rfl (aN (XF.thenN (aJ (aQ (aS (vs:=[_,_,_,_,_,_]) isAgg44 sizeOf44 rfl (aB.own (j:=0) (m:=6) (hS.at_ 0 rfl) rfl) rfl (aU (i:=1) (vs:=[_,_,_,_,_,_]) (cs':=[_,_,_,_,_,_]) (O':=[_,_,_]) hS sizeOf44 rfl rfl rfl rfl rfl rfl rfl fun W6 hS=>aN (XF.thenN (bX (XF.res (dJ (vs:=[_,_,_,_,_,_]) results96 isAgg44 sizeOf44 rfl (aB.own (j:=0) (m:=6) (hS.at_ 1 rfl) rfl)) ?_))))))))))))
 exact ⟨f9,rfl,(hn9.agree (hS.since 0 rfl)).mono hsz9,hS.below⟩
theorem vZ (S:PS) (sf:SF) (f0:WF) (w:World) (hs:SIs w S sf) (hok:S.ok) (a:Option Addr) (c m:Nat) (fs:List WF) (xs:List PX) (hr:qP w a fs) (hx:XL w S fs xs) (hm:fs.length=m) (hmx:m≤9223372036854775807) (ht:Tabs w) :
  Calls prog 39 #[jS sf f0,.slice a m c] w (gH S (xs.foldl (bZ S) (bP S)) w):=by
 refine cB (args:=[jS sf f0,.slice a m c]) func39 rfl ntmps39 rfl ?_
 have hS:=St.start w
 refine aJ (aQ (bR (cs:=[_,_,_,_,_,_,_,_,_]) hS rfl rfl rfl fun B1 W1 hS=>bB (cs:=[_,_,_,_,_,_]) hS zeroValue44 rfl rfl fun B2 W2 hS=>aN (XF.thenN (aJ (aQ (aO (o':=0) yV rfl rfl rfl (aS (vs:=[_,_,_]) isAgg25 sizeOf25 rfl (aB.own (j:=0) (m:=3) (hS.at_ 1 rfl) rfl) rfl (aE rfl rfl ?_))))))))
 have hsz9:=hS.below.size
 refine cL (vs:=[_,_]) hS goes_82 rfl (In S sf _ (hs.below hS.below) hok a c m fs xs (hr.below hS.below) (hx.below hS.below) hm hmx (ht.below hS.below)) rfl ?_
 rintro e W3 ⟨f9,rfl,hn9,hb⟩
 refine ⟨_,rfl,hb,fun hS'=>?_⟩
 clear hS;have hS:=hS';clear hS'
 refine aE rfl rfl (bJ rfl rfl rfl (bJ rfl rfl rfl (bB (cs:=[_,_,_,_,_,_]) hS zeroValue44 rfl rfl fun B4 W4 hS=>aU (i:=0) (vs:=[_,_,_,_,_,_]) (cs':=[_,_,_,_,_,_]) (O':=[_,_,_]) hS sizeOf44 rfl rfl rfl rfl rfl rfl rfl fun W5 hS=>aC rfl rfl (aN (XF.thenN (aJ (aQ (aS (vs:=[_,_,_,_,_,_]) isAgg44 sizeOf44 rfl (aB.own (j:=0) (m:=6) (hS.at_ 0 rfl) rfl) rfl (aU (i:=1) (vs:=[_,_,_,_,_,_]) (cs':=[_,_,_,_,_,_]) (O':=[_,_,_]) hS sizeOf44 rfl rfl rfl rfl rfl rfl rfl fun W6 hS=>aN (XF.thenN (bX (XF.res (dJ (vs:=[_,_,_,_,_,_]) results39 isAgg44 sizeOf44 rfl (aB.own (j:=0) (m:=6) (hS.at_ 1 rfl) rfl)) ?_))))))))))))
 exact ⟨f9,rfl,(hn9.agree (hS.since 0 rfl)).mono hsz9,hS.below⟩
theorem plus2N {w:World} {S:PS} {sf:SF} {f0:WF} {x y:PX} {vs:List Value} {lo:Nat} (hh:mH [isV (jS sf f0),nJ S [x,y]] vs w) (hs:SIs w S sf) (hok:S.ok) (hx:OkX S x) (ht:Tabs w) (hlo:lo≤w.heap.size):Calls prog 39 vs.toArray w (rC (dH lo S (bZ S x y)) w):=by
 obtain ⟨v1,v2,rfl,rfl,b,fs,rfl,hr,hxl⟩:=pV hh
 refine nK hlo ?_
 have h9:=vZ S sf f0 w hs hok _ 2 2 fs [x,y] hr hxl (by have:=hxl.1;simpa using this) (by decide) ht
 rw [comb2 hx] at h9
 exact h9
section
variable {P:Program} {n:Nat} {ops:Array Oper} {Q:Exit→Act→World→Prop} {l:Fr} {W:World} {os:List Oper}
theorem sA {dst:Nat} {op:Op} {ty:TypeId} {pos:String} {aft:Array Edge} {g d:Nat} {b:Bool} (hd:(ops[g]?).bind (·.dst)=some d) (hv:look l d=some undef) (hn:Nat.blt dst n=true)
  (h:cS P n ops Q os ((dst,undef)::l) W):cS P n ops Q (⟨some dst,op,ty,pos,aft,some (g,b)⟩::os) l W:=fun a ha=>by
 have h2:=ha.at_ d _ hv
 have hw:Region.wanted ⟨some dst,op,ty,pos,aft,some (g,b)⟩ (yielded ops a.tmps)=false:=by
  cases hx:a.tmps[d]? with
  | none=>simp [Region.wanted,yielded,hd,hx]
  | some x =>
   simp only [Act.eval,Array.getD_eq_getD_getElem?,hx] at h2
   simp at h2
   subst h2
   simp [Region.wanted,yielded,hd,hx,undef]
 unfold wpList
 rw [hw]
 exact h _ (ha.put hn)
end
structure TV where
 f:Int
 g:Int
 t:Int
 x:WV
abbrev TV.nine (r:TV):List Value:=[.int .i64 r.f,.int .i64 r.g,.int .i64 r.t,.bool r.x.f.z,.int .i64 r.x.f.c,.int .u64 (r.x.f.g:Int),.slice r.x.f.ra r.x.f.rl r.x.f.rc,.slice r.x.f.ca r.x.f.cl r.x.f.cc,.slice r.x.f.pa r.x.f.pl r.x.f.pc]
def nO (w:World) (a:Option Addr) (ts:List TV):Prop :=
 ts=[]∨∃ b off,a=some ⟨b,off,none⟩∧∀ (i:Nat) r,ts[i]?=some r→aB w b (off+i * 9) r.nine
structure AV where
 s:SV
 st:Int
 sy:Int
 fa:Option Addr
 fl:Nat
 fc:Nat
 fs:List Int
 ta:Option Addr
 tl:Nat
 tc:Nat
 ts:List TV
abbrev AV.seven (a:AV):List Value:=[.int .i64 a.s.f.tag,.int .i64 a.s.f.dim,.slice a.s.f.a a.s.f.len a.s.f.cap,.int .i64 a.st,.int .i64 a.sy,.slice a.fa a.fl a.fc,.slice a.ta a.tl a.tc]
abbrev AV.val (a:AV):Value:=.agg #[.int .i64 a.s.f.tag,.int .i64 a.s.f.dim,.slice a.s.f.a a.s.f.len a.s.f.cap,.int .i64 a.st,.int .i64 a.sy,.slice a.fa a.fl a.fc,.slice a.ta a.tl a.tc]
structure AIn (w:World) (ds d:Nat) (a:AV):Prop where
 s:SIn w ds a.s
 frow:Row w a.fa a.fs
 flen:a.fs.length=a.fl
 trow:nO w a.ta a.ts
 tlen:a.ts.length=a.tl
 tin:∀ t∈a.ts,WIn w d t.x
 fmax:a.fl≤9223372036854775807
 tmax:a.tl≤9223372036854775807
theorem nO.at_ {w:World} {a:Option Addr} {rs:List TV} (h:nO w a rs) {i:Nat} {r:TV} (hi:rs[i]?=some r):∃ b off,a=some ⟨b,off,none⟩∧aB w b (off+i * 9) r.nine:=by
 rcases h with rfl | ⟨b,off,ha,hc⟩
 ·simp at hi
 ·exact ⟨b,off,ha,hc i r hi⟩
theorem nO.below {w w':World} {a:Option Addr} {rs:List TV} (h:nO w a rs) (hb:Below w.heap.size w w'):nO w' a rs:=by
 rcases h with h | ⟨b,off,rfl,hc⟩
 ·exact .inl h
 ·exact .inr ⟨b,off,rfl,fun i r hi=>aB.agree (aK hb 0) (Nat.zero_le _) (hc i r hi)⟩
theorem AIn.below {w w':World} {ds d:Nat} {a:AV} (h:AIn w ds d a) (hb:Below w.heap.size w w'):AIn w' ds d a:=⟨SIn.below hb h.s,h.frow.below hb,h.flen,h.trow.below hb,h.tlen,fun t ht=>WIn.below hb (h.tin t ht),h.fmax,h.tmax⟩
def nP (st:Int) (fs:List Int) (i:Nat):Bool:=inQ (fs.getD i 0) st && (decide (i=0) || decide (fs.getD (i - 1) 0 < fs.getD i 0))
def Ml (st:Int) (fs:List Int):Bool:=(List.range fs.length).all (nP st fs)
theorem Oo {st:Int} {fs:List Int} (h:∀ j,j < fs.length→nP st fs j=true):Ml st fs=true:=List.all_eq_true.2 fun j hj=>h j (List.mem_range.1 hj)
theorem zF {st:Int} {fs:List Int} {i:Nat} (hi:i < fs.length) (h:nP st fs i=false):Ml st fs=false:=by
 cases hb:Ml st fs with
 | false=>rfl
 | true =>
  have:=List.all_eq_true.1 hb i (List.mem_range.2 hi)
  rw [h] at this;cases this
theorem wA {fs:List Int} {i:Nat} {y:Int} (h:fs[i]?=some y):fs.getD i 0=y:=by
 rw [List.getD_eq_getElem?_getD,h];rfl
theorem Ei {st:Int} {fs:List Int} {i:Nat} {y:Int} (h:fs[i]?=some y) (hq:inQ y st=false):nP st fs i=false:=by
 unfold nP;rw [wA h,hq];rfl
theorem Bm {st:Int} {fs:List Int} {i:Nat} {y:Int} (h:fs[i]?=some y) (hq:inQ y st=true) (hi:i=0):nP st fs i=true:=by
 unfold nP;rw [wA h,hq,decide_eq_true hi];rfl
theorem sV {st:Int} {fs:List Int} {i:Nat} {y z:Int} (h:fs[i]?=some y) (hz:fs[i - 1]?=some z) (hq:inQ y st=true) (hi:0 < i):nP st fs i=decide (z < y):=by
 unfold nP;rw [wA h,wA hz,hq,decide_eq_false (show ¬ i=0 by omega)];rfl
theorem wB {st:Int} {fs:List Int} {i:Nat} (h:∀ j,j < i→nP st fs j=true) (hi:nP st fs i=true):∀ j,j < i+1→nP st fs j=true:=fun j hj=>by
 rcases Nat.lt_or_ge j i with h1 | h1
 ·exact h j h1
 ·rw [show j=i by omega];exact hi
def trB (st sy:Int) (t:TV):Bool:=inQ t.f st && (inQ t.t st && (decide (-1≤t.g) && decide (t.g < sy)))
def dI (st sy:Int) (fs:List Int) (ts:List TV):Bool:=if st < 0∨4096 < st∨sy < 0∨4096 < sy then false else Ml st fs && ts.all (trB st sy)
def fA (a:AV):Int :=
 if dW a.s≠0 then dW a.s else if 65536 < a.tl then 3 else if dI a.st a.sy a.fs a.ts=false then 100 else if a.ts.all (fun t=>decide (lT a.s t.x=0))=true then 0 else 51
theorem chkW_51 {s:SV} {x:WV} (hs:dW s=0) (h:lT s x≠0):lT s x=51:=by
 unfold lT at h ⊢
 rw [if_pos hs] at h ⊢
 split
 ·rename_i h2;rw [if_pos h2] at h;exact absurd rfl h
 ·rfl
theorem mR (w:World) (b o:Nat):(Instr.fieldAt 66 (.pointer (some ⟨b,o,none⟩)) 0).run prog w = .ok (.pointer (some ⟨b,o+0,none⟩)) w:=by
 simp [Instr.fieldAt,run_underlying underlying66,Instr.sureAddr,go_sem,Addr.add_lit]
theorem qD (w:World) (b o:Nat):(Instr.fieldAt 66 (.pointer (some ⟨b,o,none⟩)) 1).run prog w = .ok (.pointer (some ⟨b,o+1,none⟩)) w:=by
 simp [Instr.fieldAt,run_underlying underlying66,Instr.sureAddr,go_sem,Addr.add_lit]
theorem mS (w:World) (b o:Nat):(Instr.fieldAt 66 (.pointer (some ⟨b,o,none⟩)) 2).run prog w = .ok (.pointer (some ⟨b,o+2,none⟩)) w:=by
 simp [Instr.fieldAt,run_underlying underlying66,Instr.sureAddr,go_sem,Addr.add_lit]
theorem sW (w:World) (b o:Nat):(Instr.fieldAt 66 (.pointer (some ⟨b,o,none⟩)) 3).run prog w = .ok (.pointer (some ⟨b,o+3,none⟩)) w:=by
 simp [Instr.fieldAt,run_underlying underlying66,Instr.sureAddr,go_sem,Addr.add_lit]
theorem jL (w:World) (b o:Nat):(Instr.fieldAt 29 (.pointer (some ⟨b,o,none⟩)) 0).run prog w = .ok (.pointer (some ⟨b,o+0,none⟩)) w:=by
 simp [Instr.fieldAt,run_underlying underlying29,Instr.sureAddr,go_sem,Addr.add_lit]
theorem kO (w:World) (b o:Nat):(Instr.fieldAt 29 (.pointer (some ⟨b,o,none⟩)) 1).run prog w = .ok (.pointer (some ⟨b,o+3,none⟩)) w:=by
 simp [Instr.fieldAt,run_underlying underlying29,Instr.sureAddr,go_sem,Addr.add_lit]
theorem mT (w:World) (b o:Nat):(Instr.fieldAt 29 (.pointer (some ⟨b,o,none⟩)) 2).run prog w = .ok (.pointer (some ⟨b,o+4,none⟩)) w:=by
 simp [Instr.fieldAt,run_underlying underlying29,Instr.sureAddr,go_sem,Addr.add_lit]
theorem kP (w:World) (b o:Nat):(Instr.fieldAt 29 (.pointer (some ⟨b,o,none⟩)) 3).run prog w = .ok (.pointer (some ⟨b,o+5,none⟩)) w:=by
 simp [Instr.fieldAt,run_underlying underlying29,Instr.sureAddr,go_sem,Addr.add_lit]
theorem gF (w:World) (b o:Nat):(Instr.fieldAt 29 (.pointer (some ⟨b,o,none⟩)) 4).run prog w = .ok (.pointer (some ⟨b,o+6,none⟩)) w:=by
 simp [Instr.fieldAt,run_underlying underlying29,Instr.sureAddr,go_sem,Addr.add_lit]
theorem goes_30:bH prog 30=true:=by kernel_rfl
theorem sX:bH prog 33=true:=by kernel_rfl
theorem zG:bH prog 76=true:=by kernel_rfl
theorem wD (a:AV) (n:Int) (w:World) :
  Calls prog 76 #[a.val,.int .i64 n] w (fun e w'=>e = .returned (.bool (inQ n a.st))∧Below w.heap.size w w'):=by
 refine cB (args:=[a.val,.int .i64 n]) func76 rfl ntmps76 rfl ?_
 have hS:=St.start w
 refine aJ (aQ (bR (cs:=[_,_,_,_,_,_,_]) hS rfl rfl rfl fun B1 W1 hS=>aC rfl rfl (aN (XF.thenN (aJ (aQ (aE rfl rfl (oH rfl rfl rfl (aE rfl rfl (cI (d:=7) rfl (fun hc=>?_) (fun hc=>?_)))))))))))
 ·have hg7:=of_decide_eq_true hc;clear hc
  refine aM (d:=7) rfl rfl (aE rfl rfl (aM (d:=7) rfl rfl (aO (o':=3) kO rfl rfl rfl (aM (d:=7) rfl rfl (aT isAgg3 rfl (aH (hS.at_ 0 rfl) rfl) rfl (aM (d:=7) rfl rfl (cY rfl rfl rfl (bV rfl rfl rfl (aC rfl rfl (aN (XF.thenN (bX (XF.res (cQ results76 rfl) ?_)))))))))))))
  exact ⟨bT (by simp [inQ,show 0≤n from hg7]),hS.below⟩
 ·have hg7:=of_decide_eq_false hc;clear hc
  refine aP (d:=7) rfl rfl rfl rfl (aP (d:=7) rfl rfl rfl rfl (aP (d:=7) rfl rfl rfl rfl (aP (d:=7) rfl rfl rfl rfl (cH rfl rfl rfl (aC rfl rfl (aN (XF.thenN (bX (XF.res (cQ results76 rfl) ?_)))))))))
  exact ⟨bT (by simp [inQ];omega),hS.below⟩
theorem xM (a:AV) (n:Int) (w:World) :
  Calls prog 33 #[a.val,.int .i64 n] w (fun e w'=>e = .returned (.bool (inQ n a.st))∧Below w.heap.size w w'):=by
 refine cB (args:=[a.val,.int .i64 n]) func33 rfl ntmps33 rfl ?_
 have hS:=St.start w
 refine aJ (aQ (bR (cs:=[_,_,_,_,_,_,_]) hS rfl rfl rfl fun B1 W1 hS=>aC rfl rfl (aN (XF.thenN (aJ (aQ (aE rfl rfl (oH rfl rfl rfl (aE rfl rfl (cI (d:=7) rfl (fun hc=>?_) (fun hc=>?_)))))))))))
 ·have hg7:=of_decide_eq_true hc;clear hc
  refine aM (d:=7) rfl rfl (aE rfl rfl (aM (d:=7) rfl rfl (aO (o':=3) kO rfl rfl rfl (aM (d:=7) rfl rfl (aT isAgg3 rfl (aH (hS.at_ 0 rfl) rfl) rfl (aM (d:=7) rfl rfl (cY rfl rfl rfl (bV rfl rfl rfl (aC rfl rfl (aN (XF.thenN (bX (XF.res (cQ results33 rfl) ?_)))))))))))))
  exact ⟨bT (by simp [inQ,show 0≤n from hg7]),hS.below⟩
 ·have hg7:=of_decide_eq_false hc;clear hc
  refine aP (d:=7) rfl rfl rfl rfl (aP (d:=7) rfl rfl rfl rfl (aP (d:=7) rfl rfl rfl rfl (aP (d:=7) rfl rfl rfl rfl (cH rfl rfl rfl (aC rfl rfl (aN (XF.thenN (bX (XF.res (cQ results33 rfl) ?_)))))))))
  exact ⟨bT (by simp [inQ];omega),hS.below⟩
theorem Rj (ds d:Nat) (s:SV) (st sy:Int) (fa:Option Addr) (fl fc:Nat) (fs:List Int) (ta:Option Addr) (tl tc:Nat) (ts:List TV) (w:World) (hs:SIn w ds s) (hfrow:Row w fa fs) (hflen:fs.length=fl) (htrow:nO w ta ts) (htlen:ts.length=tl) (htin:∀ t∈ts,WIn w d t.x) (hfm:fl≤9223372036854775807) (htm:tl≤9223372036854775807) :
  Calls prog 30 #[.agg #[.int .i64 s.f.tag,.int .i64 s.f.dim,.slice s.f.a s.f.len s.f.cap,.int .i64 st,.int .i64 sy,.slice fa fl fc,.slice ta tl tc]] w (fun e w'=>e = .returned (.bool (dI st sy fs ts))∧Below w.heap.size w w'):=by
 refine cB (args:=[.agg #[.int .i64 s.f.tag,.int .i64 s.f.dim,.slice s.f.a s.f.len s.f.cap,.int .i64 st,.int .i64 sy,.slice fa fl fc,.slice ta tl tc]]) func30 rfl ntmps30 rfl ?_
 have hS:=St.start w
 refine aJ (aQ (bR (cs:=[_,_,_,_,_,_,_]) hS rfl rfl rfl fun B1 W1 hS=>aC rfl rfl (aN (XF.thenN (aJ (aJ (aQ (aO (o':=3) kO rfl rfl rfl (aT isAgg3 rfl (aH (hS.at_ 0 rfl) rfl) rfl (cY rfl rfl rfl (aE rfl rfl (cI (d:=10) rfl (fun hc=>?_) (fun hc=>?_)))))))))))))
 ·have hg10:=of_decide_eq_true hc;clear hc
  refine aP (d:=10) rfl rfl rfl rfl (aP (d:=10) rfl rfl rfl rfl (aP (d:=10) rfl rfl rfl rfl (bV rfl rfl rfl (aE rfl rfl (aP (d:=15) rfl rfl rfl rfl (aP (d:=15) rfl rfl rfl rfl (aP (d:=15) rfl rfl rfl rfl (bV rfl rfl rfl (aE rfl rfl (aP (d:=20) rfl rfl rfl rfl (aP (d:=20) rfl rfl rfl rfl (aP (d:=20) rfl rfl rfl rfl (bV rfl rfl rfl (aN (XF.thenN (gW rfl (aJ (aQ (aC rfl rfl (aN (XF.thenN (bX (XF.thenR ?_)))))))))))))))))))))))
  refine XF.res (cQ results30 rfl) ?_
  exact ⟨bT (by unfold dI;rw [if_pos (by omega)]),hS.below⟩
 ·have hg10:=of_decide_eq_false hc;clear hc
  refine aM (d:=10) rfl rfl (aO (o':=3) kO rfl rfl rfl (aM (d:=10) rfl rfl (aT isAgg3 rfl (aH (hS.at_ 0 rfl) rfl) rfl (aM (d:=10) rfl rfl (qW rfl rfl rfl (cH rfl rfl rfl (aE rfl rfl (cI (d:=15) rfl (fun hc=>?_) (fun hc=>?_)))))))))
  ·have hg15:=of_decide_eq_true hc;clear hc
   refine aP (d:=15) rfl rfl rfl rfl (aP (d:=15) rfl rfl rfl rfl (aP (d:=15) rfl rfl rfl rfl (bV rfl rfl rfl (aE rfl rfl (aP (d:=20) rfl rfl rfl rfl (aP (d:=20) rfl rfl rfl rfl (aP (d:=20) rfl rfl rfl rfl (bV rfl rfl rfl (aN (XF.thenN (gW rfl (aJ (aQ (aC rfl rfl (aN (XF.thenN (bX (XF.thenR (XF.res (cQ results30 rfl) ?_)))))))))))))))))))
   exact ⟨bT (by unfold dI;rw [if_pos (by omega)]),hS.below⟩
  ·have hg15:=of_decide_eq_false hc;clear hc
   refine aM (d:=15) rfl rfl (aO (o':=4) mT rfl rfl rfl (aM (d:=15) rfl rfl (aT isAgg3 rfl (aH (hS.at_ 0 rfl) rfl) rfl (aM (d:=15) rfl rfl (cY rfl rfl rfl (cH rfl rfl rfl (aE rfl rfl (cI (d:=20) rfl (fun hc=>?_) (fun hc=>?_)))))))))
   ·have hg20:=of_decide_eq_true hc;clear hc
    refine aP (d:=20) rfl rfl rfl rfl (aP (d:=20) rfl rfl rfl rfl (aP (d:=20) rfl rfl rfl rfl (bV rfl rfl rfl (aN (XF.thenN (gW rfl (aJ (aQ (aC rfl rfl (aN (XF.thenN (bX (XF.thenR (XF.res (cQ results30 rfl) ?_))))))))))))))
    exact ⟨bT (by unfold dI;rw [if_pos (by omega)]),hS.below⟩
   ·have hg20:=of_decide_eq_false hc;clear hc
    refine aM (d:=20) rfl rfl (aO (o':=4) mT rfl rfl rfl (aM (d:=20) rfl rfl (aT isAgg3 rfl (aH (hS.at_ 0 rfl) rfl) rfl (aM (d:=20) rfl rfl (qW rfl rfl rfl (cH rfl rfl rfl (aN (XF.thenN (bA rfl (fun hc=>?_) (fun hc=>?_))))))))))
    ·have hc24:=of_decide_eq_true hc;clear hc
     refine aJ (aQ (aC rfl rfl (aN (XF.thenN (bX (XF.thenR (XF.res (cQ results30 rfl) ?_)))))))
     exact ⟨bT (by unfold dI;rw [if_pos (by omega)]),hS.below⟩
    ·have hc24:=of_decide_eq_false hc;clear hc
     have h2:¬ (st < 0∨4096 < st∨sy < 0∨4096 < sy):=by omega
     refine bM (XF.thenN (aJ (aJ (aQ (aO (o':=5) kP rfl rfl rfl (aT isAgg26 rfl (aH (hS.at_ 0 rfl) rfl) rfl (cX underlying26 rfl rfl (aE rfl rfl (aN (XF.thenN (bQ (eI (fun m l W=>∃ i:Nat,i≤fl∧m=fl - i∧l=[(1,.pointer (some ⟨B1,0,none⟩)),(26,.slice fa fl fc),(27,.int .i64 (fl:Int)),(28,.int .i64 (i:Int))]∧(∀ j,j < i→nP st fs j=true)∧St w [(B1,[.int .i64 s.f.tag,.int .i64 s.f.dim,.slice s.f.a s.f.len s.f.cap,.int .i64 st,.int .i64 sy,.slice fa fl fc,.slice ta tl tc],29)] [] [] W) (fl - 0) ([(1,_),(26,_),(27,_),(28,_)]) ⟨rfl,rfl,rfl,rfl,trivial⟩ (⟨0,Nat.zero_le _,rfl,rfl,fun j hj=>absurd hj (Nat.not_lt_zero _),hS.clear⟩) ?_))))))))))))
     clear hS
     rintro m l W ⟨i,hi,rfl,rfl,hall,hS⟩
     refine aJ (aQ (cY rfl rfl rfl (aN (XF.thenN (aJ (bA rfl (fun hc=>?_) (fun hc=>?_)))))))
     ·have hc29:=of_decide_eq_true hc;clear hc
      have hk:i < fl:=by omega
      obtain ⟨b,off,y,rfl,hy,hyc⟩:=hfrow.at1 (show i < fs.length by omega)
      have k1:=hS.old hyc
      refine bM (XF.thenN (aJ (bQ (aJ (aQ (aE rfl rfl (cK  underlying26 sizeOf3 rfl rfl rfl (by omega) rfl rfl (aT isAgg3 rfl (k1) rfl (aC rfl rfl (aC rfl rfl (aN (XF.thenN (aJ (aQ (aS (vs:=[_,_,_,_,_,_,_]) isAgg29 sizeOf29 rfl (aB.own (j:=0) (m:=7) (hS.at_ 0 rfl) rfl) rfl (aE rfl rfl (cC (vs:=[_,_]) hS zG rfl (wD ⟨s,st,sy,_,fl,fc,fs,ta,tl,tc,ts⟩ y _) rfl fun W2 hS=>fS rfl rfl (aE rfl rfl (cI (d:=37) rfl (fun hc=>?_) (fun hc=>?_))))))))))))))))))))
      ·have hg37:=hc;clear hc
       have e1:inQ y st=false:=by simpa using hg37
       refine aP (d:=37) rfl rfl rfl rfl (aP (d:=37) rfl rfl rfl rfl (aP (d:=37) rfl rfl rfl rfl (sA (d:=40) rfl rfl rfl (sA (d:=40) rfl rfl rfl (sA (d:=40) rfl rfl rfl (sA (d:=40) rfl rfl rfl (sA (d:=40) rfl rfl rfl (sA (d:=40) rfl rfl rfl (sA (d:=40) rfl rfl rfl (sA (d:=40) rfl rfl rfl (aP (d:=37) rfl rfl rfl rfl (bV rfl rfl rfl (aN (XF.thenN (gW rfl (aJ (aQ (aC rfl rfl (aN (XF.thenN (bX (XF.blkR (XF.thenR ?_)))))))))))))))))))))))
       refine XF.thenR (XF.blkR (XF.thenR (XF.res (cQ results30 rfl) ?_)))
       exact ⟨bT (by unfold dI;rw [if_neg h2,zF (i:=i) (by omega) (Ei hy e1),Bool.false_and]),hS.below⟩
      ·have hg37:=hc;clear hc
       have e1:inQ y st=true:=by simpa using hg37
       refine aM (d:=37) rfl rfl (aE rfl rfl (aM (d:=37) rfl rfl (qW rfl rfl rfl (aM (d:=37) rfl rfl (aE rfl rfl (cI (d:=40) rfl (fun hc=>?_) (fun hc=>?_)))))))
       ·have hg40:=of_decide_eq_true hc;clear hc
        obtain ⟨b2,off2,z,e2,hz,hzc⟩:=hfrow.at1 (show i - 1 < fs.length by omega)
        cases e2
        have k2:=hS.old hzc
        refine aM (d:=40) rfl rfl (aE rfl rfl (aM (d:=40) rfl rfl (aO (o':=5) kP rfl rfl rfl (aM (d:=40) rfl rfl (aT isAgg26 rfl (aH (hS.at_ 0 rfl) rfl) rfl (aM (d:=40) rfl rfl (aE rfl rfl (aM (d:=40) rfl rfl (Ku rfl rfl (IntWalk.i64_in _ (by omega)) rfl (aM (d:=40) rfl rfl (cK (j:=(i - 1)) underlying26 sizeOf3 rfl rfl (by omega) (by omega) rfl rfl (aM (d:=40) rfl rfl (aT isAgg3 rfl (k2) rfl (aM (d:=40) rfl rfl (wQ rfl rfl rfl (aM (d:=37) rfl rfl (bV rfl rfl rfl (cH rfl rfl rfl (aN (XF.thenN (bA rfl (fun hc=>?_) (fun hc=>?_))))))))))))))))))))))
        ·have hc50:=of_decide_eq_true hc;clear hc
         refine aJ (aQ (aC rfl rfl (aN (XF.thenN (bX (XF.blkR (XF.thenR (XF.thenR (XF.blkR (XF.thenR (XF.res (cQ results30 rfl) ?_)))))))))))
         exact ⟨bT (by unfold dI;rw [if_neg h2,zF (i:=i) (by omega) (by rw [sV hy hz e1 (by omega)];exact decide_eq_false (by omega)),Bool.false_and]),hS.below⟩
        ·have hc50:=of_decide_eq_false hc;clear hc
         refine bM (XF.blkN (XF.thenN (aQ (cZ rfl rfl (IntWalk.i64_in _ (by omega)) rfl (aE rfl rfl (aN ?_))))))
         exact XF.round (fl - (i+1)) [(1,_),(26,_),(27,_),(28,_)] (by omega) ⟨rfl,rfl,rfl,rfl,trivial⟩ ⟨i+1,by omega,rfl,rfl,wB hall (by rw [sV hy hz e1 (by omega)];exact decide_eq_true (by omega)),hS.clear⟩
       ·have hg40:=of_decide_eq_false hc;clear hc
        refine aP (d:=40) rfl rfl rfl rfl (aP (d:=40) rfl rfl rfl rfl (aP (d:=40) rfl rfl rfl rfl (aP (d:=40) rfl rfl rfl rfl (aP (d:=40) rfl rfl rfl rfl (aP (d:=40) rfl rfl rfl rfl (aP (d:=40) rfl rfl rfl rfl (aP (d:=40) rfl rfl rfl rfl (aM (d:=37) rfl rfl (cH rfl rfl rfl (cH rfl rfl rfl (aN (XF.thenN (Hc rfl (bM (XF.blkN (XF.thenN (aQ (cZ rfl rfl (IntWalk.i64_in _ (by omega)) rfl (aE rfl rfl (aN ?_))))))))))))))))))))
        exact XF.round (fl - (i+1)) [(1,_),(26,_),(27,_),(28,_)] (by omega) ⟨rfl,rfl,rfl,rfl,trivial⟩ ⟨i+1,by omega,rfl,rfl,wB hall (Bm hy e1 (by omega)),hS.clear⟩
     ·have hc29:=of_decide_eq_false hc;clear hc
      have hfb:Ml st fs=true:=Oo fun j hj=>hall j (by omega)
      refine eF (XF.thenX (XF.thenX (XF.blkX (XF.thenN (aJ (aJ (aQ (aO (o':=6) gF rfl rfl rfl (aT isAgg27 rfl (aH (hS.at_ 0 rfl) rfl) rfl (cX underlying27 rfl rfl (aE rfl rfl (aN (XF.thenN (bQ (eI (fun m l W=>∃ i:Nat,i≤tl∧m=tl - i∧l=[(1,.pointer (some ⟨B1,0,none⟩)),(53,.slice ta tl tc),(54,.int .i64 (tl:Int)),(55,.int .i64 (i:Int))]∧(ts.take i).all (trB st sy)=true∧St w [(B1,[.int .i64 s.f.tag,.int .i64 s.f.dim,.slice s.f.a s.f.len s.f.cap,.int .i64 st,.int .i64 sy,.slice fa fl fc,.slice ta tl tc],29)] [] [] W) (tl - 0) ([(1,_),(53,_),(54,_),(55,_)]) ⟨rfl,rfl,rfl,rfl,trivial⟩ (⟨0,Nat.zero_le _,rfl,rfl,rfl,hS.clear⟩) ?_)))))))))))))))
      clear hS
      rintro m l W ⟨i,hi,rfl,rfl,hall,hS⟩
      refine aJ (aQ (cY rfl rfl rfl (aN (XF.thenN (aJ (bA rfl (fun hc=>?_) (fun hc=>?_)))))))
      ·have hc56:=of_decide_eq_true hc;clear hc
       have hk:i < tl:=by omega
       obtain ⟨r,hr⟩:∃ r,ts[i]?=some r:=⟨ts[i]'(by omega),by simp [show i < ts.length by omega]⟩
       obtain ⟨b,off,rfl,hcs⟩:=htrow.at_ hr
       have k1:=aB.agree hS.agree (Nat.zero_le _) hcs
       have hri:=htin r (List.mem_of_getElem? hr)
       refine bM (XF.thenN (aJ (bQ (aJ (aQ (cK  underlying27 sizeOf66 rfl rfl rfl (by omega) rfl rfl (aS (vs:=[_,_,_,_,_,_,_,_,_]) isAgg66 sizeOf66 rfl (k1) rfl (bB (cs:=[_,_,_,_,_,_,_,_,_]) hS zeroValue66 rfl rfl fun B3 W3 hS=>aU (i:=0) (vs:=[_,_,_,_,_,_,_,_,_]) (cs':=[_,_,_,_,_,_,_,_,_]) (O':=[_,_]) hS sizeOf66 rfl rfl rfl rfl rfl rfl rfl fun W4 hS=>aN (XF.thenN (aJ (aQ (aS (vs:=[_,_,_,_,_,_,_]) isAgg29 sizeOf29 rfl (aB.own (j:=0) (m:=7) (hS.at_ 1 rfl) rfl) rfl (aO (o':=0) mR rfl rfl rfl (aT isAgg3 rfl (aH (hS.at_ 0 rfl) rfl) rfl (cC (vs:=[_,_]) hS zG rfl (wD ⟨s,st,sy,fa,fl,fc,fs,_,tl,tc,ts⟩ r.f _) rfl fun W5 hS=>fS rfl rfl (aE rfl rfl (cI (d:=64) rfl (fun hc=>?_) (fun hc=>?_))))))))))))))))))
       ·have hg64:=hc;clear hc
        have e1:inQ r.f st=false:=by simpa using hg64
        refine aP (d:=64) rfl rfl rfl rfl (aP (d:=64) rfl rfl rfl rfl (aP (d:=64) rfl rfl rfl rfl (aP (d:=64) rfl rfl rfl rfl (aP (d:=64) rfl rfl rfl rfl (bV rfl rfl rfl (aE rfl rfl (aP (d:=71) rfl rfl rfl rfl (aP (d:=71) rfl rfl rfl rfl (aP (d:=71) rfl rfl rfl rfl (bV rfl rfl rfl (aE rfl rfl (aP (d:=76) rfl rfl rfl rfl (aP (d:=76) rfl rfl rfl rfl (aP (d:=76) rfl rfl rfl rfl (aP (d:=76) rfl rfl rfl rfl (aP (d:=76) rfl rfl rfl rfl (bV rfl rfl rfl (aN (XF.thenN (gW rfl (aJ (aQ ?_))))))))))))))))))))))
        refine aC rfl rfl (aN (XF.thenN (bX (XF.blkR (XF.thenR (XF.thenR (XF.blkR (XF.thenR (XF.res (cQ results30 rfl) ?_)))))))))
        exact ⟨bT (by unfold dI;rw [if_neg h2,dB hr (by simp [trB,e1]),Bool.and_false]),hS.below⟩
       ·have hg64:=hc;clear hc
        have e1:inQ r.f st=true:=by simpa using hg64
        refine aM (d:=64) rfl rfl (aS (vs:=[_,_,_,_,_,_,_]) isAgg29 sizeOf29 rfl (aB.own (j:=0) (m:=7) (hS.at_ 1 rfl) rfl) rfl (aM (d:=64) rfl rfl (aO (o':=2) mS rfl rfl rfl (aM (d:=64) rfl rfl (aT isAgg3 rfl (aH (hS.at_ 0 rfl) rfl) rfl (aM (d:=64) rfl rfl (cC (vs:=[_,_]) hS zG rfl (wD ⟨s,st,sy,fa,fl,fc,fs,_,tl,tc,ts⟩ r.t _) rfl fun W6 hS=>aM (d:=64) rfl rfl (fS rfl rfl (cH rfl rfl rfl (aE rfl rfl (cI (d:=71) rfl (fun hc=>?_) (fun hc=>?_))))))))))))
        ·have hg71:=hc;clear hc
         have e3:inQ r.t st=false:=by simpa using hg71
         refine aP (d:=71) rfl rfl rfl rfl (aP (d:=71) rfl rfl rfl rfl (aP (d:=71) rfl rfl rfl rfl (bV rfl rfl rfl (aE rfl rfl (aP (d:=76) rfl rfl rfl rfl (aP (d:=76) rfl rfl rfl rfl (aP (d:=76) rfl rfl rfl rfl (aP (d:=76) rfl rfl rfl rfl (aP (d:=76) rfl rfl rfl rfl (bV rfl rfl rfl (aN (XF.thenN (gW rfl (aJ (aQ (aC rfl rfl (aN (XF.thenN (bX (XF.blkR (XF.thenR (XF.thenR (XF.blkR ?_)))))))))))))))))))))))
         refine XF.thenR (XF.res (cQ results30 rfl) ?_)
         exact ⟨bT (by unfold dI;rw [if_neg h2,dB hr (by simp [trB,e3]),Bool.and_false]),hS.below⟩
        ·have hg71:=hc;clear hc
         have e3:inQ r.t st=true:=by simpa using hg71
         refine aM (d:=71) rfl rfl (aO (o':=1) qD rfl rfl rfl (aM (d:=71) rfl rfl (aT isAgg3 rfl (aH (hS.at_ 0 rfl) rfl) rfl (aM (d:=71) rfl rfl (cY rfl rfl rfl (cH rfl rfl rfl (aE rfl rfl (cI (d:=76) rfl (fun hc=>?_) (fun hc=>?_)))))))))
         ·have hg76:=of_decide_eq_true hc;clear hc
          refine aP (d:=76) rfl rfl rfl rfl (aP (d:=76) rfl rfl rfl rfl (aP (d:=76) rfl rfl rfl rfl (aP (d:=76) rfl rfl rfl rfl (aP (d:=76) rfl rfl rfl rfl (bV rfl rfl rfl (aN (XF.thenN (gW rfl (aJ (aQ (aC rfl rfl (aN (XF.thenN (bX (XF.blkR (XF.thenR (XF.thenR (XF.blkR (XF.thenR (XF.res (cQ results30 rfl) ?_))))))))))))))))))))
          exact ⟨bT (by unfold dI;rw [if_neg h2,dB hr (by simp [trB,show ¬ (-1≤r.g) by omega]),Bool.and_false]),hS.below⟩
         ·have hg76:=of_decide_eq_false hc;clear hc
          refine aM (d:=76) rfl rfl (aO (o':=1) qD rfl rfl rfl (aM (d:=76) rfl rfl (aT isAgg3 rfl (aH (hS.at_ 0 rfl) rfl) rfl (aM (d:=76) rfl rfl (aO (o':=4) mT rfl rfl rfl (aM (d:=76) rfl rfl (aT isAgg3 rfl (aH (hS.at_ 1 rfl) rfl) rfl (aM (d:=76) rfl rfl (oH rfl rfl rfl (cH rfl rfl rfl (aN (XF.thenN (bA rfl (fun hc=>?_) (fun hc=>?_))))))))))))))
          ·have hc82:=of_decide_eq_true hc;clear hc
           refine aJ (aQ (aC rfl rfl (aN (XF.thenN (bX (XF.blkR (XF.thenR (XF.thenR (XF.blkR (XF.thenR (XF.res (cQ results30 rfl) ?_)))))))))))
           exact ⟨bT (by unfold dI;rw [if_neg h2,dB hr (by simp [trB,show ¬ (r.g < sy) by omega]),Bool.and_false]),hS.below⟩
          ·have hc82:=of_decide_eq_false hc;clear hc
           refine bM (XF.blkN (XF.thenN (aQ (cZ rfl rfl (IntWalk.i64_in _ (by omega)) rfl (aE rfl rfl (aN ?_))))))
           exact XF.round (tl - (i+1)) [(1,_),(53,_),(54,_),(55,_)] (by omega) ⟨rfl,rfl,rfl,rfl,trivial⟩ ⟨i+1,by omega,rfl,rfl,fP hr hall (by simp only [trB,e1,e3,Bool.true_and];rw [decide_eq_true (show -1≤r.g by omega),decide_eq_true (show r.g < sy by omega)];rfl),hS.tail.clear⟩
      ·have hc56:=of_decide_eq_false hc;clear hc
       rw [List.take_of_length_le (by omega)] at hall
       refine eF (XF.thenX (XF.thenX (XF.blkX (XF.thenN (aJ (aQ (aC rfl rfl (aN (XF.thenN (bX (XF.res (cQ results30 rfl) ?_)))))))))))
       exact ⟨bT (by unfold dI;rw [if_neg h2,hfb,hall,Bool.true_and]),hS.below⟩
theorem Mm (ds d:Nat) (a:AV) (w:World) (h:AIn w ds d a):Calls prog 30 #[a.val] w (fun e w'=>e = .returned (.bool (dI a.st a.sy a.fs a.ts))∧Below w.heap.size w w'):=Rj ds d _ _ _ _ _ _ _ _ _ _ _ w h.s h.frow h.flen h.trow h.tlen h.tin h.fmax h.tmax
theorem autoA_c (ds d:Nat) (s:SV) (st sy:Int) (fa:Option Addr) (fl fc:Nat) (fs:List Int) (ta:Option Addr) (tl tc:Nat) (ts:List TV) (w:World) (hs:SIn w ds s) (hfrow:Row w fa fs) (hflen:fs.length=fl) (htrow:nO w ta ts) (htlen:ts.length=tl) (htin:∀ t∈ts,WIn w d t.x) (hfm:fl≤9223372036854775807) (htm:tl≤9223372036854775807) :
  Calls prog 8 #[.agg #[.int .i64 s.f.tag,.int .i64 s.f.dim,.slice s.f.a s.f.len s.f.cap,.int .i64 st,.int .i64 sy,.slice fa fl fc,.slice ta tl tc]] w (fun e w'=>e = .returned (.int .i64 (fA ⟨s,st,sy,fa,fl,fc,fs,ta,tl,tc,ts⟩))∧Below w.heap.size w w'):=by
 refine cB (args:=[.agg #[.int .i64 s.f.tag,.int .i64 s.f.dim,.slice s.f.a s.f.len s.f.cap,.int .i64 st,.int .i64 sy,.slice fa fl fc,.slice ta tl tc]]) func8 rfl ntmps8 rfl ?_
 have hS:=St.start w
 refine aJ (aQ (bR (cs:=[_,_,_,_,_,_,_]) hS rfl rfl rfl fun B1 W1 hS=>aC rfl rfl (aN (XF.thenN (aJ (aJ (aQ (aO (o':=0) jL rfl rfl rfl (aS (vs:=[_,_,_]) isAgg25 sizeOf25 rfl (aB.own (j:=0) (m:=3) (hS.at_ 0 rfl) rfl) rfl (cC (vs:=[_]) hS uX rfl (wZ ds s _ _ (SIn.below hS.below hs) rfl) rfl fun W2 hS=>aC rfl rfl (aN (XF.thenN (aJ (aQ (aE rfl rfl (dX rfl rfl rfl (aN (XF.thenN (bA rfl (fun hc=>?_) (fun hc=>?_))))))))))))))))))))
 ·have hc11:=of_decide_eq_true hc;clear hc
  refine aJ (aQ (aE rfl rfl (aC rfl rfl (aN (XF.thenN (bX (XF.thenR (XF.res (cQ results8 rfl) ?_))))))))
  exact ⟨eK (by unfold fA;dsimp only;rw [if_pos hc11]),hS.below⟩
 ·have hc11:=of_decide_eq_false hc;clear hc
  have h0:¬ dW s≠0:=hc11
  have hse:dW s=0:=by omega
  refine bM (XF.thenN (aJ (aJ (aQ (aO (o':=6) gF rfl rfl rfl (aT isAgg27 rfl (aH (hS.at_ 0 rfl) rfl) rfl (cX underlying27 rfl rfl (qW rfl rfl rfl (aN (XF.thenN (bA rfl (fun hc=>?_) (fun hc=>?_))))))))))))
  ·have hc16:=of_decide_eq_true hc;clear hc
   refine aJ (aQ (aC rfl rfl (aN (XF.thenN (bX (XF.thenR (XF.res (cQ results8 rfl) ?_)))))))
   exact ⟨eK (by unfold fA;dsimp only;rw [if_neg h0,if_pos (by omega)]),hS.below⟩
  ·have hc16:=of_decide_eq_false hc;clear hc
   have h1:¬ 65536 < tl:=by omega
   refine bM (XF.thenN (aJ (aJ (aQ (aS (vs:=[_,_,_,_,_,_,_]) isAgg29 sizeOf29 rfl (aB.own (j:=0) (m:=7) (hS.at_ 0 rfl) rfl) rfl (cC (vs:=[_]) hS goes_30 rfl (Mm ds d ⟨s,st,sy,fa,fl,fc,fs,ta,tl,tc,ts⟩ _ (AIn.below ⟨hs,hfrow,hflen,htrow,htlen,htin,hfm,htm⟩ hS.below)) rfl fun W3 hS=>fS rfl rfl (aN (XF.thenN (bA rfl (fun hc=>?_) (fun hc=>?_))))))))))
   ·have hc19:=hc;clear hc
    refine aJ (aQ (aC rfl rfl (aN (XF.thenN (bX (XF.thenR (XF.res (cQ results8 rfl) ?_)))))))
    exact ⟨eK (by unfold fA;dsimp only;rw [if_neg h0,if_neg h1,if_pos (by simpa using hc19)]),hS.below⟩
   ·have hc19:=hc;clear hc
    have h3:¬ dI st sy fs ts=false:=by simpa using hc19
    refine bM (XF.thenN (aJ (aJ (aQ (aO (o':=6) gF rfl rfl rfl (aT isAgg27 rfl (aH (hS.at_ 0 rfl) rfl) rfl (cX underlying27 rfl rfl (aE rfl rfl (aN (XF.thenN (bQ (eI (fun m l W=>∃ i:Nat,i≤tl∧m=tl - i∧l=[(1,.pointer (some ⟨B1,0,none⟩)),(21,.slice ta tl tc),(22,.int .i64 (tl:Int)),(23,.int .i64 (i:Int))]∧(ts.take i).all (fun t=>decide (lT s t.x=0))=true∧St w [(B1,[.int .i64 s.f.tag,.int .i64 s.f.dim,.slice s.f.a s.f.len s.f.cap,.int .i64 st,.int .i64 sy,.slice fa fl fc,.slice ta tl tc],29)] [] [] W) (tl - 0) ([(1,_),(21,_),(22,_),(23,_)]) ⟨rfl,rfl,rfl,rfl,trivial⟩ (⟨0,Nat.zero_le _,rfl,rfl,rfl,hS.clear⟩) ?_))))))))))))
    clear hS
    rintro m l W ⟨i,hi,rfl,rfl,hall,hS⟩
    refine aJ (aQ (cY rfl rfl rfl (aN (XF.thenN (aJ (bA rfl (fun hc=>?_) (fun hc=>?_)))))))
    ·have hc24:=of_decide_eq_true hc;clear hc
     have hk:i < tl:=by omega
     obtain ⟨r,hr⟩:∃ r,ts[i]?=some r:=⟨ts[i]'(by omega),by simp [show i < ts.length by omega]⟩
     obtain ⟨b,off,rfl,hcs⟩:=htrow.at_ hr
     have k1:=aB.agree hS.agree (Nat.zero_le _) hcs
     have hri:=htin r (List.mem_of_getElem? hr)
     refine bM (XF.thenN (aJ (bQ (aJ (aQ (cK  underlying27 sizeOf66 rfl rfl rfl (by omega) rfl rfl (aS (vs:=[_,_,_,_,_,_,_,_,_]) isAgg66 sizeOf66 rfl (k1) rfl (bB (cs:=[_,_,_,_,_,_,_,_,_]) hS zeroValue66 rfl rfl fun B4 W4 hS=>aU (i:=0) (vs:=[_,_,_,_,_,_,_,_,_]) (cs':=[_,_,_,_,_,_,_,_,_]) (O':=[_,_]) hS sizeOf66 rfl rfl rfl rfl rfl rfl rfl fun W5 hS=>aN (XF.thenN (aJ (aQ (aO (o':=0) jL rfl rfl rfl (aS (vs:=[_,_,_]) isAgg25 sizeOf25 rfl (aB.own (j:=0) (m:=3) (hS.at_ 1 rfl) rfl) rfl (aO (o':=3) sW rfl rfl rfl (aS (vs:=[_,_,_,_,_,_]) isAgg44 sizeOf44 rfl (aB.own (j:=3) (m:=6) (hS.at_ 0 rfl) rfl) rfl (cC (vs:=[_,_]) hS goes_31 rfl (Iy ds d s r.x _ (SIn.below hS.below hs) (WIn.below hS.below hri)) rfl fun W6 hS=>aC rfl rfl (aN (XF.thenN (aJ (aQ (aE rfl rfl (dX rfl rfl rfl ?_))))))))))))))))))))))
     refine aN (XF.thenN (bA rfl (fun hc=>?_) (fun hc=>?_)))
     ·have hc33:=of_decide_eq_true hc;clear hc
      refine aJ (aQ (aE rfl rfl (aC rfl rfl (aN (XF.thenN (bX (XF.blkR (XF.thenR (XF.thenR (XF.blkR (XF.thenR (XF.res (cQ results8 rfl) ?_))))))))))))
      exact ⟨eK (by unfold fA;dsimp only;rw [if_neg h0,if_neg h1,if_neg h3,if_neg (by rw [dB hr (decide_eq_false hc33)];decide),chkW_51 hse hc33]),hS.below⟩
     ·have hc33:=of_decide_eq_false hc;clear hc
      refine bM (XF.blkN (XF.thenN (aQ (cZ rfl rfl (IntWalk.i64_in _ (by omega)) rfl (aE rfl rfl (aN ?_))))))
      exact XF.round (tl - (i+1)) [(1,_),(21,_),(22,_),(23,_)] (by omega) ⟨rfl,rfl,rfl,rfl,trivial⟩ ⟨i+1,by omega,rfl,rfl,fP hr hall (by simpa using hc33),hS.tail.clear⟩
    ·have hc24:=of_decide_eq_false hc;clear hc
     rw [List.take_of_length_le (by omega)] at hall
     refine eF (XF.thenX (XF.thenX (XF.blkX (XF.thenN (aJ (aQ (aC rfl rfl (aN (XF.thenN (bX (XF.res (cQ results8 rfl) ?_)))))))))))
     exact ⟨eK (by unfold fA;dsimp only;rw [if_neg h0,if_neg h1,if_neg h3,if_pos hall]),hS.below⟩
theorem V5 (ds d:Nat) (a:AV) (w:World) (h:AIn w ds d a):Calls prog 8 #[a.val] w (fun e w'=>e = .returned (.int .i64 (fA a))∧Below w.heap.size w w'):=autoA_c ds d _ _ _ _ _ _ _ _ _ _ _ w h.s h.frow h.flen h.trow h.tlen h.tin h.fmax h.tmax
theorem autoR_c (ds d:Nat) (s:SV) (st sy:Int) (fa:Option Addr) (fl fc:Nat) (fs:List Int) (ta:Option Addr) (tl tc:Nat) (ts:List TV) (w:World) (hs:SIn w ds s) (hfrow:Row w fa fs) (hflen:fs.length=fl) (htrow:nO w ta ts) (htlen:ts.length=tl) (htin:∀ t∈ts,WIn w d t.x) (hfm:fl≤9223372036854775807) (htm:tl≤9223372036854775807) :
  Calls prog 9 #[.agg #[.int .i64 s.f.tag,.int .i64 s.f.dim,.slice s.f.a s.f.len s.f.cap,.int .i64 st,.int .i64 sy,.slice fa fl fc,.slice ta tl tc]] w (fun e w'=>e = .returned (.int .i64 (fA ⟨s,st,sy,fa,fl,fc,fs,ta,tl,tc,ts⟩))∧Below w.heap.size w w'):=by
 refine cB (args:=[.agg #[.int .i64 s.f.tag,.int .i64 s.f.dim,.slice s.f.a s.f.len s.f.cap,.int .i64 st,.int .i64 sy,.slice fa fl fc,.slice ta tl tc]]) func9 rfl ntmps9 rfl ?_
 have hS:=St.start w
 refine aJ (aQ (bR (cs:=[_,_,_,_,_,_,_]) hS rfl rfl rfl fun B1 W1 hS=>aC rfl rfl (aN (XF.thenN (aJ (aQ (aO (o':=0) jL rfl rfl rfl (aS (vs:=[_,_,_]) isAgg25 sizeOf25 rfl (aB.own (j:=0) (m:=3) (hS.at_ 0 rfl) rfl) rfl (cC (vs:=[_]) hS yS rfl (xD ds s _ _ (SIn.below hS.below hs) rfl) rfl fun W2 hS=>aC rfl rfl (aN (XF.thenN (aJ (aJ (aQ (aE rfl rfl (dX rfl rfl rfl (aN (XF.thenN (bA rfl (fun hc=>?_) (fun hc=>?_))))))))))))))))))))
 ·have hc12:=of_decide_eq_true hc;clear hc
  refine aJ (aQ (aE rfl rfl (aC rfl rfl (aN (XF.thenN (bX (XF.thenR (XF.res (cQ results9 rfl) ?_))))))))
  exact ⟨eK (by unfold fA;dsimp only;rw [if_pos hc12]),hS.below⟩
 ·have hc12:=of_decide_eq_false hc;clear hc
  have h0:¬ dW s≠0:=hc12
  have hse:dW s=0:=by omega
  refine bM (XF.thenN (aJ (aJ (aQ (aO (o':=6) gF rfl rfl rfl (aT isAgg27 rfl (aH (hS.at_ 0 rfl) rfl) rfl (cX underlying27 rfl rfl (qW rfl rfl rfl (aN (XF.thenN (bA rfl (fun hc=>?_) (fun hc=>?_))))))))))))
  ·have hc17:=of_decide_eq_true hc;clear hc
   refine aJ (aQ (aC rfl rfl (aN (XF.thenN (bX (XF.thenR (XF.res (cQ results9 rfl) ?_)))))))
   exact ⟨eK (by unfold fA;dsimp only;rw [if_neg h0,if_pos (by omega)]),hS.below⟩
  ·have hc17:=of_decide_eq_false hc;clear hc
   have h1:¬ 65536 < tl:=by omega
   refine bM (XF.thenN (aJ (aJ (aQ (aO (o':=3) kO rfl rfl rfl (aT isAgg3 rfl (aH (hS.at_ 0 rfl) rfl) rfl (cY rfl rfl rfl (aE rfl rfl (cI (d:=21) rfl (fun hc=>?_) (fun hc=>?_))))))))))
   ·have hg21:=of_decide_eq_true hc;clear hc
    refine aP (d:=21) rfl rfl rfl rfl (aP (d:=21) rfl rfl rfl rfl (aP (d:=21) rfl rfl rfl rfl (bV rfl rfl rfl (aE rfl rfl (aP (d:=26) rfl rfl rfl rfl (aP (d:=26) rfl rfl rfl rfl (aP (d:=26) rfl rfl rfl rfl (bV rfl rfl rfl (aE rfl rfl (aP (d:=31) rfl rfl rfl rfl (aP (d:=31) rfl rfl rfl rfl (aP (d:=31) rfl rfl rfl rfl (bV rfl rfl rfl (aN (XF.thenN (gW rfl (aJ (aQ (aC rfl rfl (aN (XF.thenN (bX (XF.thenR ?_)))))))))))))))))))))))
    refine XF.res (cQ results9 rfl) ?_
    exact ⟨eK (by unfold fA;dsimp only;rw [if_neg h0,if_neg h1,if_pos (by unfold dI;rw [if_pos (by omega)])]),hS.below⟩
   ·have hg21:=of_decide_eq_false hc;clear hc
    refine aM (d:=21) rfl rfl (aO (o':=3) kO rfl rfl rfl (aM (d:=21) rfl rfl (aT isAgg3 rfl (aH (hS.at_ 0 rfl) rfl) rfl (aM (d:=21) rfl rfl (qW rfl rfl rfl (cH rfl rfl rfl (aE rfl rfl (cI (d:=26) rfl (fun hc=>?_) (fun hc=>?_)))))))))
    ·have hg26:=of_decide_eq_true hc;clear hc
     refine aP (d:=26) rfl rfl rfl rfl (aP (d:=26) rfl rfl rfl rfl (aP (d:=26) rfl rfl rfl rfl (bV rfl rfl rfl (aE rfl rfl (aP (d:=31) rfl rfl rfl rfl (aP (d:=31) rfl rfl rfl rfl (aP (d:=31) rfl rfl rfl rfl (bV rfl rfl rfl (aN (XF.thenN (gW rfl (aJ (aQ (aC rfl rfl (aN (XF.thenN (bX (XF.thenR (XF.res (cQ results9 rfl) ?_)))))))))))))))))))
     exact ⟨eK (by unfold fA;dsimp only;rw [if_neg h0,if_neg h1,if_pos (by unfold dI;rw [if_pos (by omega)])]),hS.below⟩
    ·have hg26:=of_decide_eq_false hc;clear hc
     refine aM (d:=26) rfl rfl (aO (o':=4) mT rfl rfl rfl (aM (d:=26) rfl rfl (aT isAgg3 rfl (aH (hS.at_ 0 rfl) rfl) rfl (aM (d:=26) rfl rfl (cY rfl rfl rfl (cH rfl rfl rfl (aE rfl rfl (cI (d:=31) rfl (fun hc=>?_) (fun hc=>?_)))))))))
     ·have hg31:=of_decide_eq_true hc;clear hc
      refine aP (d:=31) rfl rfl rfl rfl (aP (d:=31) rfl rfl rfl rfl (aP (d:=31) rfl rfl rfl rfl (bV rfl rfl rfl (aN (XF.thenN (gW rfl (aJ (aQ (aC rfl rfl (aN (XF.thenN (bX (XF.thenR (XF.res (cQ results9 rfl) ?_))))))))))))))
      exact ⟨eK (by unfold fA;dsimp only;rw [if_neg h0,if_neg h1,if_pos (by unfold dI;rw [if_pos (by omega)])]),hS.below⟩
     ·have hg31:=of_decide_eq_false hc;clear hc
      refine aM (d:=31) rfl rfl (aO (o':=4) mT rfl rfl rfl (aM (d:=31) rfl rfl (aT isAgg3 rfl (aH (hS.at_ 0 rfl) rfl) rfl (aM (d:=31) rfl rfl (qW rfl rfl rfl (cH rfl rfl rfl (aN (XF.thenN (bA rfl (fun hc=>?_) (fun hc=>?_))))))))))
      ·have hc35:=of_decide_eq_true hc;clear hc
       refine aJ (aQ (aC rfl rfl (aN (XF.thenN (bX (XF.thenR (XF.res (cQ results9 rfl) ?_)))))))
       exact ⟨eK (by unfold fA;dsimp only;rw [if_neg h0,if_neg h1,if_pos (by unfold dI;rw [if_pos (by omega)])]),hS.below⟩
      ·have hc35:=of_decide_eq_false hc;clear hc
       have h2:¬ (st < 0∨4096 < st∨sy < 0∨4096 < sy):=by omega
       refine bM (XF.thenN (aJ (aJ (aQ (aC rfl rfl (aN (XF.thenN (bQ (eI (fun m l W=>∃ i:Nat,i≤fl∧m=fl - i∧l=[(1,.pointer (some ⟨B1,0,none⟩)),(4,.int .i64 (i:Int))]∧(∀ j,j < i→nP st fs j=true)∧St w [(B1,[.int .i64 s.f.tag,.int .i64 s.f.dim,.slice s.f.a s.f.len s.f.cap,.int .i64 st,.int .i64 sy,.slice fa fl fc,.slice ta tl tc],29)] [] [] W) (fl - 0) ([(1,_),(4,_)]) ⟨rfl,rfl,trivial⟩ (⟨0,Nat.zero_le _,rfl,rfl,fun j hj=>absurd hj (Nat.not_lt_zero _),hS.clear⟩) ?_)))))))))
       clear hS
       rintro m l W ⟨i,hi,rfl,rfl,hall,hS⟩
       refine aJ (aJ (aQ (aE rfl rfl (aO (o':=5) kP rfl rfl rfl (aT isAgg26 rfl (aH (hS.at_ 0 rfl) rfl) rfl (cX underlying26 rfl rfl (cY rfl rfl rfl (aN (XF.thenN (bA rfl (fun hc=>?_) (fun hc=>?_)))))))))))
       ·have hc40:=of_decide_eq_true hc;clear hc
        have hk:i < fl:=by omega
        obtain ⟨b,off,y,rfl,hy,hyc⟩:=hfrow.at1 (show i < fs.length by omega)
        have k1:=hS.old hyc
        refine bM (XF.thenN (aJ (bQ (aJ ?_))))
        rcases (show inQ y st=false∨(inQ y st=true∧i=0)∨(inQ y st=true∧0 < i) by cases inQ y st<;>simp<;>omega) with e1 | ⟨e1,h9⟩ | ⟨e1,h9⟩
        ·skip
         refine mK (m:=26) cD hS (by kernel_rfl) (by kernel_rfl) rfl (cJ 1 rfl 1 rfl rfl (fun w hw=>aX (vs:=[_,_,_,_,_,_,_]) isAgg29 sizeOf29 rfl (aB.agree (aK hw 0) (Nat.zero_le _) (aB.own (j:=0) (m:=7) (hS.at_ 0 rfl) rfl))) rfl (cJ 2 rfl 1 rfl rfl (fun w hw=>aV (o':=5) kP rfl rfl) rfl (aZ 3 rfl 44 1 rfl rfl rfl (fun w hw=>bC isAgg26 rfl ((aK hw 0).cell (Nat.zero_le _) (aH (hS.at_ 0 rfl) rfl))) rfl (cJ 4 rfl 4 rfl rfl (fun w hw=>aY rfl) rfl (aI 5 rfl (isV _) (aF _) (rgV (li:=[(45,_),(46,_)]) rfl (aR rfl) ⟨aL 2 (aA rfl rfl rfl),aL 3 (aA rfl rfl rfl),trivial⟩ (fun w hw=>bE  underlying26 sizeOf3 rfl rfl rfl (by omega) rfl) (aD rfl)) (aZ 6 rfl 47 4 rfl rfl rfl (fun w hw=>bC isAgg3 rfl ((aK hw 0).cell (Nat.zero_le _) (k1))) rfl ?_))))))
         refine aI 7 rfl (isV (.bool false)) (aF _) (cR [isV _,isV _] rfl sX (aR rfl) ⟨bU (aL 0 (aA rfl rfl rfl)),bU (aL 5 (aA rfl rfl rfl)),trivial⟩ (fun vs w' hb hh=>by have e:=cA (us:=[_,_]) hh;subst e;exact (xM ⟨s,st,sy,_,fl,fc,fs,ta,tl,tc,ts⟩ y _).mono fun e w2 h=>⟨_,by rw [h.1,e1],rfl,h.2⟩) (aD rfl)) ?_
         refine aI 8 rfl (isV (.bool true)) (aF _) (pI (li:=[(49,_)]) rfl (aR rfl) ⟨aL 6 (aA rfl rfl rfl),trivial⟩ (fun w hw=>kX rfl) (rfl) (aD rfl)) (aZ 9 rfl 50 7 rfl rfl rfl (fun w hw=>aY rfl) rfl (aI 10 rfl (isV undef) (aF _) (bL rfl (bW 51 rfl (aA rfl rfl rfl) rfl) (aD rfl)) (aI 11 rfl (isV undef) (aF _) (bL rfl (bW 51 rfl (aA rfl rfl rfl) rfl) (aD rfl)) (aI 12 rfl (isV undef) (aF _) (bL rfl (bW 51 rfl (aA rfl rfl rfl) rfl) (aD rfl)) (aI 13 rfl (isV undef) (aF _) (bL rfl (qJ 54 rfl (aA rfl rfl rfl)) (aD rfl)) (aI 14 rfl (isV undef) (aF _) (bL rfl (qJ 54 rfl (aA rfl rfl rfl)) (aD rfl)) (aI 15 rfl (isV undef) (aF _) (bL rfl (qJ 54 rfl (aA rfl rfl rfl)) (aD rfl)) (aI 16 rfl (isV undef) (aF _) (bL rfl (qJ 54 rfl (aA rfl rfl rfl)) (aD rfl)) (aI 17 rfl (isV undef) (aF _) (bL rfl (qJ 54 rfl (aA rfl rfl rfl)) (aD rfl)) (aI 18 rfl (isV undef) (aF _) (bL rfl (qJ 54 rfl (aA rfl rfl rfl)) (aD rfl)) (aI 19 rfl (isV undef) (aF _) (bL rfl (qJ 54 rfl (aA rfl rfl rfl)) (aD rfl)) (aI 20 rfl (isV undef) (aF _) (bL rfl (qJ 54 rfl (aA rfl rfl rfl)) (aD rfl)) (aI 21 rfl (isV undef) (aF _) (bL rfl (qJ 54 rfl (aA rfl rfl rfl)) (aD rfl)) (aI 22 rfl (isV undef) (aF _) (bL rfl (qJ 54 rfl (aA rfl rfl rfl)) (aD rfl)) (aI 23 rfl (isV undef) (aF _) (bL rfl (qJ 54 rfl (aA rfl rfl rfl)) (aD rfl)) (aI 24 rfl (isV undef) (aF _) (bL rfl (qJ 54 rfl (aA rfl rfl rfl)) (aD rfl)) (aI 25 rfl (isV undef) (aF _) (bL rfl (bW 51 rfl (aA rfl rfl rfl) rfl) (aD rfl)) (aZ 26 rfl 51 8 rfl rfl rfl (fun w hw=>eX rfl rfl) rfl (dV ?_)))))))))))))))))))
         intro W3 hbR hS'
         clear hS;have hS:=hS';clear hS'
         refine aG (aG (aG (aG (aG (aG (aG (aG (aG (aG (aG (aG (aG (aG (aG (aG (aG (aG (aG (aG (aG ?_))))))))))))))))))))
         refine aG (aG (aG (aG (aG (cO (XF.thenN (gW rfl (aJ (aQ (aC rfl rfl (aN (XF.thenN (bX (XF.blkR (XF.thenR (XF.thenR (XF.blkR (XF.thenR (XF.res (cQ results9 rfl) ?_)))))))))))))))))))
         exact ⟨eK (by unfold fA;dsimp only;rw [if_neg h0,if_neg h1,if_pos (by unfold dI;rw [if_neg h2,zF (i:=i) (by omega) (Ei hy e1),Bool.false_and])]),hS.below⟩
        ·skip
         refine mK (m:=26) cD hS (by kernel_rfl) (by kernel_rfl) rfl (cJ 1 rfl 1 rfl rfl (fun w hw=>aX (vs:=[_,_,_,_,_,_,_]) isAgg29 sizeOf29 rfl (aB.agree (aK hw 0) (Nat.zero_le _) (aB.own (j:=0) (m:=7) (hS.at_ 0 rfl) rfl))) rfl (cJ 2 rfl 1 rfl rfl (fun w hw=>aV (o':=5) kP rfl rfl) rfl (aZ 3 rfl 44 1 rfl rfl rfl (fun w hw=>bC isAgg26 rfl ((aK hw 0).cell (Nat.zero_le _) (aH (hS.at_ 0 rfl) rfl))) rfl (cJ 4 rfl 4 rfl rfl (fun w hw=>aY rfl) rfl (aI 5 rfl (isV _) (aF _) (rgV (li:=[(45,_),(46,_)]) rfl (aR rfl) ⟨aL 2 (aA rfl rfl rfl),aL 3 (aA rfl rfl rfl),trivial⟩ (fun w hw=>bE  underlying26 sizeOf3 rfl rfl rfl (by omega) rfl) (aD rfl)) (aZ 6 rfl 47 4 rfl rfl rfl (fun w hw=>bC isAgg3 rfl ((aK hw 0).cell (Nat.zero_le _) (k1))) rfl ?_))))))
         refine aI 7 rfl (isV (.bool true)) (aF _) (cR [isV _,isV _] rfl sX (aR rfl) ⟨bU (aL 0 (aA rfl rfl rfl)),bU (aL 5 (aA rfl rfl rfl)),trivial⟩ (fun vs w' hb hh=>by have e:=cA (us:=[_,_]) hh;subst e;exact (xM ⟨s,st,sy,_,fl,fc,fs,ta,tl,tc,ts⟩ y _).mono fun e w2 h=>⟨_,by rw [h.1,e1],rfl,h.2⟩) (aD rfl)) ?_
         refine aI 8 rfl (isV (.bool false)) (aF _) (pI (li:=[(49,_)]) rfl (aR rfl) ⟨aL 6 (aA rfl rfl rfl),trivial⟩ (fun w hw=>kX rfl) (rfl) (aD rfl)) (aZ 9 rfl 50 7 rfl rfl rfl (fun w hw=>aY rfl) rfl (aI 10 rfl (isV _) (aF _) (rgV (li:=[(4,_)]) rfl (bK 51 rfl (aA rfl rfl rfl)) ⟨cF rfl,trivial⟩ (fun w hw=>aY rfl) (aD rfl)) (aI 11 rfl (isV (.bool false)) (aF _) (pI (li:=[(52,_)]) rfl (bK 51 rfl (aA rfl rfl rfl)) ⟨aL 9 (aA rfl rfl rfl),trivial⟩ (fun w hw=>Kt rfl rfl) (by rw [decide_eq_false (by omega)]) (aD rfl)) (aI 12 rfl (isV _) (aF _) (rgV (li:=[(53,_)]) rfl (bK 51 rfl (aA rfl rfl rfl)) ⟨aL 10 (aA rfl rfl rfl),trivial⟩ (fun w hw=>aY rfl) (aD rfl)) (aI 13 rfl (isV undef) (aF _) (bL rfl (bW 54 rfl (aA rfl rfl rfl) rfl) (aD rfl)) (aI 14 rfl (isV undef) (aF _) (bL rfl (bW 54 rfl (aA rfl rfl rfl) rfl) (aD rfl)) (aI 15 rfl (isV undef) (aF _) (bL rfl (bW 54 rfl (aA rfl rfl rfl) rfl) (aD rfl)) (aI 16 rfl (isV undef) (aF _) (bL rfl (bW 54 rfl (aA rfl rfl rfl) rfl) (aD rfl)) (aI 17 rfl (isV undef) (aF _) (bL rfl (bW 54 rfl (aA rfl rfl rfl) rfl) (aD rfl)) (aI 18 rfl (isV undef) (aF _) (bL rfl (bW 54 rfl (aA rfl rfl rfl) rfl) (aD rfl)) (aI 19 rfl (isV undef) (aF _) (bL rfl (bW 54 rfl (aA rfl rfl rfl) rfl) (aD rfl)) (aI 20 rfl (isV undef) (aF _) (bL rfl (bW 54 rfl (aA rfl rfl rfl) rfl) (aD rfl)) (aI 21 rfl (isV undef) (aF _) (bL rfl (bW 54 rfl (aA rfl rfl rfl) rfl) (aD rfl)) (aI 22 rfl (isV undef) (aF _) (bL rfl (bW 54 rfl (aA rfl rfl rfl) rfl) (aD rfl)) (aI 23 rfl (isV undef) (aF _) (bL rfl (bW 54 rfl (aA rfl rfl rfl) rfl) (aD rfl)) (aI 24 rfl (isV undef) (aF _) (bL rfl (bW 54 rfl (aA rfl rfl rfl) rfl) (aD rfl)) (aI 25 rfl (isV _) (aF _) (rgV (li:=[(54,_)]) rfl (bK 51 rfl (aA rfl rfl rfl)) ⟨aL 11 (aA rfl rfl rfl),trivial⟩ (fun w hw=>eY rfl rfl) (aD rfl)) (aI 26 rfl (isV _) (aF _) (rgV (li:=[(51,_),(67,_)]) rfl (aR rfl) ⟨aL 8 (aA rfl rfl rfl),aL 24 (aA rfl rfl rfl),trivial⟩ (fun w hw=>eY rfl rfl) (aD rfl)) (dV ?_)))))))))))))))))))
         intro W4 hbR hS'
         clear hS;have hS:=hS';clear hS'
         refine aG (aG (aG (aG (aG (aG (aG (aG (aG (aG (aG (aG (aG (aG (aG (aG (aG (aG (aG (aG (aG ?_))))))))))))))))))))
         refine aG (aG (aG (aG (aG (cO (XF.thenN (Hc rfl (bM (XF.blkN (XF.thenN (aQ (aE rfl rfl (cZ rfl rfl (IntWalk.i64_in _ (by omega)) rfl (aC rfl rfl (aN ?_)))))))))))))))
         exact XF.round (fl - (i+1)) [(1,_),(4,_)] (by omega) ⟨rfl,rfl,trivial⟩ ⟨i+1,by omega,rfl,rfl,wB hall (Bm hy e1 h9),hS.clear⟩
        ·obtain ⟨b2,off2,z,e2,hz,hzc⟩:=hfrow.at1 (show i - 1 < fs.length by omega)
         cases e2
         have k2:=hS.old hzc
         refine mK (m:=26) cD hS (by kernel_rfl) (by kernel_rfl) rfl (cJ 1 rfl 1 rfl rfl (fun w hw=>aX (vs:=[_,_,_,_,_,_,_]) isAgg29 sizeOf29 rfl (aB.agree (aK hw 0) (Nat.zero_le _) (aB.own (j:=0) (m:=7) (hS.at_ 0 rfl) rfl))) rfl (cJ 2 rfl 1 rfl rfl (fun w hw=>aV (o':=5) kP rfl rfl) rfl (aZ 3 rfl 44 1 rfl rfl rfl (fun w hw=>bC isAgg26 rfl ((aK hw 0).cell (Nat.zero_le _) (aH (hS.at_ 0 rfl) rfl))) rfl (cJ 4 rfl 4 rfl rfl (fun w hw=>aY rfl) rfl (aI 5 rfl (isV _) (aF _) (rgV (li:=[(45,_),(46,_)]) rfl (aR rfl) ⟨aL 2 (aA rfl rfl rfl),aL 3 (aA rfl rfl rfl),trivial⟩ (fun w hw=>bE  underlying26 sizeOf3 rfl rfl rfl (by omega) rfl) (aD rfl)) (aZ 6 rfl 47 4 rfl rfl rfl (fun w hw=>bC isAgg3 rfl ((aK hw 0).cell (Nat.zero_le _) (k1))) rfl ?_))))))
         refine aI 7 rfl (isV (.bool true)) (aF _) (cR [isV _,isV _] rfl sX (aR rfl) ⟨bU (aL 0 (aA rfl rfl rfl)),bU (aL 5 (aA rfl rfl rfl)),trivial⟩ (fun vs w' hb hh=>by have e:=cA (us:=[_,_]) hh;subst e;exact (xM ⟨s,st,sy,_,fl,fc,fs,ta,tl,tc,ts⟩ y _).mono fun e w2 h=>⟨_,by rw [h.1,e1],rfl,h.2⟩) (aD rfl)) ?_
         refine aI 8 rfl (isV (.bool false)) (aF _) (pI (li:=[(49,_)]) rfl (aR rfl) ⟨aL 6 (aA rfl rfl rfl),trivial⟩ (fun w hw=>kX rfl) (rfl) (aD rfl)) (aZ 9 rfl 50 7 rfl rfl rfl (fun w hw=>aY rfl) rfl (aI 10 rfl (isV _) (aF _) (rgV (li:=[(4,_)]) rfl (bK 51 rfl (aA rfl rfl rfl)) ⟨cF rfl,trivial⟩ (fun w hw=>aY rfl) (aD rfl)) (aI 11 rfl (isV (.bool true)) (aF _) (pI (li:=[(52,_)]) rfl (bK 51 rfl (aA rfl rfl rfl)) ⟨aL 9 (aA rfl rfl rfl),trivial⟩ (fun w hw=>Kt rfl rfl) (by rw [decide_eq_true (by omega)]) (aD rfl)) (aI 12 rfl (isV _) (aF _) (rgV (li:=[(53,_)]) rfl (bK 51 rfl (aA rfl rfl rfl)) ⟨aL 10 (aA rfl rfl rfl),trivial⟩ (fun w hw=>aY rfl) (aD rfl)) (aI 13 rfl (isV _) (aF _) (rgV (li:=[(1,_)]) rfl (bK 54 rfl (aA rfl rfl rfl)) ⟨cF rfl,trivial⟩ (fun w hw=>aV (o':=5) kP rfl rfl) (aD rfl)) (aI 14 rfl (isV _) (aF _) (rgV (li:=[(55,_)]) rfl (bK 54 rfl (aA rfl rfl rfl)) ⟨aL 12 (aA rfl rfl rfl),trivial⟩ (fun w hw=>bC isAgg26 rfl ((aK hw 0).cell (Nat.zero_le _) (aH (hS.at_ 0 rfl) rfl))) (aD rfl)) (aI 15 rfl (isV _) (aF _) (rgV (li:=[(4,_)]) rfl (bK 54 rfl (aA rfl rfl rfl)) ⟨cF rfl,trivial⟩ (fun w hw=>aY rfl) (aD rfl)) (aI 16 rfl (isV _) (aF _) (rgV (li:=[(56,_),(57,_)]) rfl (bK 54 rfl (aA rfl rfl rfl)) ⟨aL 13 (aA rfl rfl rfl),aL 14 (aA rfl rfl rfl),trivial⟩ (fun w hw=>bE  underlying26 sizeOf3 rfl rfl rfl (by omega) rfl) (aD rfl)) (aI 17 rfl (isV _) (aF _) (rgV (li:=[(58,_)]) rfl (bK 54 rfl (aA rfl rfl rfl)) ⟨aL 15 (aA rfl rfl rfl),trivial⟩ (fun w hw=>bC isAgg3 rfl ((aK hw 0).cell (Nat.zero_le _) (k1))) (aD rfl)) (aI 18 rfl (isV _) (aF _) (rgV (li:=[(1,_)]) rfl (bK 54 rfl (aA rfl rfl rfl)) ⟨cF rfl,trivial⟩ (fun w hw=>aV (o':=5) kP rfl rfl) (aD rfl)) (aI 19 rfl (isV _) (aF _) (rgV (li:=[(60,_)]) rfl (bK 54 rfl (aA rfl rfl rfl)) ⟨aL 17 (aA rfl rfl rfl),trivial⟩ (fun w hw=>bC isAgg26 rfl ((aK hw 0).cell (Nat.zero_le _) (aH (hS.at_ 0 rfl) rfl))) (aD rfl)) (aI 20 rfl (isV _) (aF _) (rgV (li:=[(4,_)]) rfl (bK 54 rfl (aA rfl rfl rfl)) ⟨cF rfl,trivial⟩ (fun w hw=>aY rfl) (aD rfl)) (aI 21 rfl (isV _) (aF _) (rgV (li:=[(62,_)]) rfl (bK 54 rfl (aA rfl rfl rfl)) ⟨aL 19 (aA rfl rfl rfl),trivial⟩ (fun w hw=>Si rfl rfl (IntWalk.i64_in _ (by omega))) (aD rfl)) (aI 22 rfl (isV _) (aF _) (rgV (li:=[(61,_),(63,_)]) rfl (bK 54 rfl (aA rfl rfl rfl)) ⟨aL 18 (aA rfl rfl rfl),aL 20 (aA rfl rfl rfl),trivial⟩ (fun w hw=>bE (j:=(i - 1)) underlying26 sizeOf3 rfl rfl (by omega) (by omega) rfl) (aD rfl)) (aI 23 rfl (isV _) (aF _) (rgV (li:=[(64,_)]) rfl (bK 54 rfl (aA rfl rfl rfl)) ⟨aL 21 (aA rfl rfl rfl),trivial⟩ (fun w hw=>bC isAgg3 rfl ((aK hw 0).cell (Nat.zero_le _) (k2))) (aD rfl)) (aI 24 rfl (isV _) (aF _) (rgV (li:=[(59,_),(65,_)]) rfl (bK 54 rfl (aA rfl rfl rfl)) ⟨aL 16 (aA rfl rfl rfl),aL 22 (aA rfl rfl rfl),trivial⟩ (fun w hw=>Se rfl rfl) (aD rfl)) (aI 25 rfl (isV _) (aF _) (rgV (li:=[(54,_),(66,_)]) rfl (bK 51 rfl (aA rfl rfl rfl)) ⟨aL 11 (aA rfl rfl rfl),aL 23 (aA rfl rfl rfl),trivial⟩ (fun w hw=>eX rfl rfl) (aD rfl)) (aI 26 rfl (isV _) (aF _) (rgV (li:=[(51,_),(67,_)]) rfl (aR rfl) ⟨aL 8 (aA rfl rfl rfl),aL 24 (aA rfl rfl rfl),trivial⟩ (fun w hw=>eY rfl rfl) (aD rfl)) (dV ?_)))))))))))))))))))
         intro W5 hbR hS'
         clear hS;have hS:=hS';clear hS'
         refine aG (aG (aG (aG (aG (aG (aG (aG (aG (aG (aG (aG (aG (aG (aG (aG (aG (aG (aG (aG (aG ?_))))))))))))))))))))
         refine aG (aG (aG (aG (aG (cO (XF.thenN (bA rfl (fun hc=>?_) (fun hc=>?_))))))))
         ·have hc68:=hc;clear hc
          have hyz:=of_decide_eq_true hc68
          refine aJ (aQ (aC rfl rfl (aN (XF.thenN (bX (XF.blkR (XF.thenR (XF.thenR (XF.blkR (XF.thenR (XF.res (cQ results9 rfl) ?_)))))))))))
          exact ⟨eK (by unfold fA;dsimp only;rw [if_neg h0,if_neg h1,if_pos (by unfold dI;rw [if_neg h2,zF (i:=i) (by omega) (by rw [sV hy hz e1 h9];exact decide_eq_false (by omega)),Bool.false_and])]),hS.below⟩
         ·have hc68:=hc;clear hc
          have hyz:=of_decide_eq_false hc68
          refine bM (XF.blkN (XF.thenN (aQ (aE rfl rfl (cZ rfl rfl (IntWalk.i64_in _ (by omega)) rfl (aC rfl rfl (aN ?_)))))))
          exact XF.round (fl - (i+1)) [(1,_),(4,_)] (by omega) ⟨rfl,rfl,trivial⟩ ⟨i+1,by omega,rfl,rfl,wB hall (by rw [sV hy hz e1 h9];exact decide_eq_true (by omega)),hS.clear⟩
       ·have hc40:=of_decide_eq_false hc;clear hc
        have hfb:Ml st fs=true:=Oo fun j hj=>hall j (by omega)
        refine eF (XF.thenX (XF.thenX (XF.blkX (XF.thenN (aJ (aJ (aQ (aC rfl rfl (aN (XF.thenN (bQ (eI (fun m l W=>∃ i:Nat,i≤tl∧m=tl - i∧l=[(1,.pointer (some ⟨B1,0,none⟩)),(5,.int .i64 (i:Int))]∧(ts.take i).all (trB st sy)=true∧St w [(B1,[.int .i64 s.f.tag,.int .i64 s.f.dim,.slice s.f.a s.f.len s.f.cap,.int .i64 st,.int .i64 sy,.slice fa fl fc,.slice ta tl tc],29)] [] [] W) (tl - 0) ([(1,_),(5,_)]) ⟨rfl,rfl,trivial⟩ (⟨0,Nat.zero_le _,rfl,rfl,rfl,hS.clear⟩) ?_))))))))))))
        clear hS
        rintro m l W ⟨i,hi,rfl,rfl,hall,hS⟩
        refine aJ (aJ (aQ (aE rfl rfl (aO (o':=6) gF rfl rfl rfl (aT isAgg27 rfl (aH (hS.at_ 0 rfl) rfl) rfl (cX underlying27 rfl rfl (cY rfl rfl rfl (aN (XF.thenN (bA rfl (fun hc=>?_) (fun hc=>?_)))))))))))
        ·have hc73:=of_decide_eq_true hc;clear hc
         have hk:i < tl:=by omega
         obtain ⟨r,hr⟩:∃ r,ts[i]?=some r:=⟨ts[i]'(by omega),by simp [show i < ts.length by omega]⟩
         obtain ⟨b,off,rfl,hcs⟩:=htrow.at_ hr
         have k1:=aB.agree hS.agree (Nat.zero_le _) hcs
         have hri:=htin r (List.mem_of_getElem? hr)
         refine bM (XF.thenN (aJ (bQ (aJ (aQ (aO (o':=6) gF rfl rfl rfl (aT isAgg27 rfl (aH (hS.at_ 0 rfl) rfl) rfl (aE rfl rfl (cK  underlying27 sizeOf66 rfl rfl rfl (by omega) rfl rfl (aS (vs:=[_,_,_,_,_,_,_,_,_]) isAgg66 sizeOf66 rfl (k1) rfl (bB (cs:=[_,_,_,_,_,_,_,_,_]) hS zeroValue66 rfl rfl fun B6 W6 hS=>aU (i:=0) (vs:=[_,_,_,_,_,_,_,_,_]) (cs':=[_,_,_,_,_,_,_,_,_]) (O':=[_,_]) hS sizeOf66 rfl rfl rfl rfl rfl rfl rfl fun W7 hS=>aN (XF.thenN (aJ (aQ (aS (vs:=[_,_,_,_,_,_,_]) isAgg29 sizeOf29 rfl (aB.own (j:=0) (m:=7) (hS.at_ 1 rfl) rfl) rfl (aO (o':=0) mR rfl rfl rfl (aT isAgg3 rfl (aH (hS.at_ 0 rfl) rfl) rfl (cC (vs:=[_,_]) hS sX rfl (xM ⟨s,st,sy,fa,fl,fc,fs,_,tl,tc,ts⟩ r.f _) rfl fun W8 hS=>fS rfl rfl (aE rfl rfl (cI (d:=86) rfl (fun hc=>?_) (fun hc=>?_)))))))))))))))))))))
         ·have hg86:=hc;clear hc
          have e1:inQ r.f st=false:=by simpa using hg86
          refine aP (d:=86) rfl rfl rfl rfl (aP (d:=86) rfl rfl rfl rfl (aP (d:=86) rfl rfl rfl rfl (aP (d:=86) rfl rfl rfl rfl (aP (d:=86) rfl rfl rfl rfl (bV rfl rfl rfl (aE rfl rfl (aP (d:=93) rfl rfl rfl rfl (aP (d:=93) rfl rfl rfl rfl (aP (d:=93) rfl rfl rfl rfl (bV rfl rfl rfl (aE rfl rfl (aP (d:=98) rfl rfl rfl rfl (aP (d:=98) rfl rfl rfl rfl (aP (d:=98) rfl rfl rfl rfl (aP (d:=98) rfl rfl rfl rfl (aP (d:=98) rfl rfl rfl rfl (bV rfl rfl rfl (aN (XF.thenN (gW rfl (aJ (aQ ?_))))))))))))))))))))))
          refine aC rfl rfl (aN (XF.thenN (bX (XF.blkR (XF.thenR (XF.thenR (XF.blkR (XF.thenR (XF.res (cQ results9 rfl) ?_)))))))))
          exact ⟨eK (by unfold fA;dsimp only;rw [if_neg h0,if_neg h1,if_pos (by unfold dI;rw [if_neg h2,dB hr (by simp [trB,e1]),Bool.and_false])]),hS.below⟩
         ·have hg86:=hc;clear hc
          have e1:inQ r.f st=true:=by simpa using hg86
          refine aM (d:=86) rfl rfl (aS (vs:=[_,_,_,_,_,_,_]) isAgg29 sizeOf29 rfl (aB.own (j:=0) (m:=7) (hS.at_ 1 rfl) rfl) rfl (aM (d:=86) rfl rfl (aO (o':=2) mS rfl rfl rfl (aM (d:=86) rfl rfl (aT isAgg3 rfl (aH (hS.at_ 0 rfl) rfl) rfl (aM (d:=86) rfl rfl (cC (vs:=[_,_]) hS sX rfl (xM ⟨s,st,sy,fa,fl,fc,fs,_,tl,tc,ts⟩ r.t _) rfl fun W9 hS=>aM (d:=86) rfl rfl (fS rfl rfl (cH rfl rfl rfl (aE rfl rfl (cI (d:=93) rfl (fun hc=>?_) (fun hc=>?_))))))))))))
          ·have hg93:=hc;clear hc
           have e3:inQ r.t st=false:=by simpa using hg93
           refine aP (d:=93) rfl rfl rfl rfl (aP (d:=93) rfl rfl rfl rfl (aP (d:=93) rfl rfl rfl rfl (bV rfl rfl rfl (aE rfl rfl (aP (d:=98) rfl rfl rfl rfl (aP (d:=98) rfl rfl rfl rfl (aP (d:=98) rfl rfl rfl rfl (aP (d:=98) rfl rfl rfl rfl (aP (d:=98) rfl rfl rfl rfl (bV rfl rfl rfl (aN (XF.thenN (gW rfl (aJ (aQ (aC rfl rfl (aN (XF.thenN (bX (XF.blkR (XF.thenR (XF.thenR (XF.blkR ?_)))))))))))))))))))))))
           refine XF.thenR (XF.res (cQ results9 rfl) ?_)
           exact ⟨eK (by unfold fA;dsimp only;rw [if_neg h0,if_neg h1,if_pos (by unfold dI;rw [if_neg h2,dB hr (by simp [trB,e3]),Bool.and_false])]),hS.below⟩
          ·have hg93:=hc;clear hc
           have e3:inQ r.t st=true:=by simpa using hg93
           refine aM (d:=93) rfl rfl (aO (o':=1) qD rfl rfl rfl (aM (d:=93) rfl rfl (aT isAgg3 rfl (aH (hS.at_ 0 rfl) rfl) rfl (aM (d:=93) rfl rfl (cY rfl rfl rfl (cH rfl rfl rfl (aE rfl rfl (cI (d:=98) rfl (fun hc=>?_) (fun hc=>?_)))))))))
           ·have hg98:=of_decide_eq_true hc;clear hc
            refine aP (d:=98) rfl rfl rfl rfl (aP (d:=98) rfl rfl rfl rfl (aP (d:=98) rfl rfl rfl rfl (aP (d:=98) rfl rfl rfl rfl (aP (d:=98) rfl rfl rfl rfl (bV rfl rfl rfl (aN (XF.thenN (gW rfl (aJ (aQ (aC rfl rfl (aN (XF.thenN (bX (XF.blkR (XF.thenR (XF.thenR (XF.blkR (XF.thenR (XF.res (cQ results9 rfl) ?_))))))))))))))))))))
            exact ⟨eK (by unfold fA;dsimp only;rw [if_neg h0,if_neg h1,if_pos (by unfold dI;rw [if_neg h2,dB hr (by simp [trB,show ¬ (-1≤r.g) by omega]),Bool.and_false])]),hS.below⟩
           ·have hg98:=of_decide_eq_false hc;clear hc
            refine aM (d:=98) rfl rfl (aO (o':=1) qD rfl rfl rfl (aM (d:=98) rfl rfl (aT isAgg3 rfl (aH (hS.at_ 0 rfl) rfl) rfl (aM (d:=98) rfl rfl (aO (o':=4) mT rfl rfl rfl (aM (d:=98) rfl rfl (aT isAgg3 rfl (aH (hS.at_ 1 rfl) rfl) rfl (aM (d:=98) rfl rfl (oH rfl rfl rfl (cH rfl rfl rfl (aN (XF.thenN (bA rfl (fun hc=>?_) (fun hc=>?_))))))))))))))
            ·have hc104:=of_decide_eq_true hc;clear hc
             refine aJ (aQ (aC rfl rfl (aN (XF.thenN (bX (XF.blkR (XF.thenR (XF.thenR (XF.blkR (XF.thenR (XF.res (cQ results9 rfl) ?_)))))))))))
             exact ⟨eK (by unfold fA;dsimp only;rw [if_neg h0,if_neg h1,if_pos (by unfold dI;rw [if_neg h2,dB hr (by simp [trB,show ¬ (r.g < sy) by omega]),Bool.and_false])]),hS.below⟩
            ·have hc104:=of_decide_eq_false hc;clear hc
             refine bM (XF.blkN (XF.thenN (aQ (aE rfl rfl (cZ rfl rfl (IntWalk.i64_in _ (by omega)) rfl (aC rfl rfl (aN ?_)))))))
             exact XF.round (tl - (i+1)) [(1,_),(5,_)] (by omega) ⟨rfl,rfl,trivial⟩ ⟨i+1,by omega,rfl,rfl,fP hr hall (by simp only [trB,e1,e3,Bool.true_and];rw [decide_eq_true (show -1≤r.g by omega),decide_eq_true (show r.g < sy by omega)];rfl),hS.tail.clear⟩
        ·have hc73:=of_decide_eq_false hc;clear hc
         rw [List.take_of_length_le (by omega)] at hall
         have h3:¬ dI st sy fs ts=false:=by unfold dI;rw [if_neg h2,hfb,hall];decide
         refine eF (XF.thenX (XF.thenX (XF.blkX (XF.thenN (aJ (aJ (aQ (aC rfl rfl (aN (XF.thenN (bQ (eI (fun m l W=>∃ i:Nat,i≤tl∧m=tl - i∧l=[(1,.pointer (some ⟨B1,0,none⟩)),(7,.int .i64 (i:Int))]∧(ts.take i).all (fun t=>decide (lT s t.x=0))=true∧St w [(B1,[.int .i64 s.f.tag,.int .i64 s.f.dim,.slice s.f.a s.f.len s.f.cap,.int .i64 st,.int .i64 sy,.slice fa fl fc,.slice ta tl tc],29)] [] [] W) (tl - 0) ([(1,_),(7,_)]) ⟨rfl,rfl,trivial⟩ (⟨0,Nat.zero_le _,rfl,rfl,rfl,hS.clear⟩) ?_))))))))))))
         clear hS
         rintro m l W ⟨i,hi,rfl,rfl,hall2,hS⟩
         refine aJ (aJ (aQ (aE rfl rfl (aO (o':=6) gF rfl rfl rfl (aT isAgg27 rfl (aH (hS.at_ 0 rfl) rfl) rfl (cX underlying27 rfl rfl (cY rfl rfl rfl (aN (XF.thenN (bA rfl (fun hc=>?_) (fun hc=>?_)))))))))))
         ·have hc109:=of_decide_eq_true hc;clear hc
          have hk:i < tl:=by omega
          obtain ⟨r,hr⟩:∃ r,ts[i]?=some r:=⟨ts[i]'(by omega),by simp [show i < ts.length by omega]⟩
          obtain ⟨b,off,rfl,hcs⟩:=htrow.at_ hr
          have k1:=aB.agree hS.agree (Nat.zero_le _) hcs
          have hri:=htin r (List.mem_of_getElem? hr)
          have k2:aB W b (off+i * 9+3) r.x.f.six:=k1.2.2.2
          refine bM (XF.thenN (aJ (bQ (aJ (mK (m:=10) cD hS (by kernel_rfl) (by kernel_rfl) rfl (cJ 1 rfl 1 rfl rfl (fun w hw=>aV (o':=0) jL rfl rfl) rfl (aZ 2 rfl 112 0 rfl rfl rfl (fun w hw=>aX (vs:=[_,_,_]) isAgg25 sizeOf25 rfl (aB.agree (aK hw 0) (Nat.zero_le _) (aB.own (j:=0) (m:=3) (hS.at_ 0 rfl) rfl))) rfl (cJ 3 rfl 1 rfl rfl (fun w hw=>aV (o':=6) gF rfl rfl) rfl (aZ 4 rfl 114 2 rfl rfl rfl (fun w hw=>bC isAgg27 rfl ((aK hw 0).cell (Nat.zero_le _) (aH (hS.at_ 0 rfl) rfl))) rfl (cJ 5 rfl 7 rfl rfl (fun w hw=>aY rfl) rfl (aI 6 rfl (isV _) (aF _) (rgV (li:=[(115,_),(116,_)]) rfl (aR rfl) ⟨aL 3 (aA rfl rfl rfl),aL 4 (aA rfl rfl rfl),trivial⟩ (fun w hw=>bE  underlying27 sizeOf66 rfl rfl rfl (by omega) rfl) (aD rfl)) (aZ 7 rfl 117 5 rfl rfl rfl (fun w hw=>aV sW rfl rfl) rfl (aZ 8 rfl 118 6 rfl rfl rfl (fun w hw=>aX (vs:=[_,_,_,_,_,_]) isAgg44 sizeOf44 rfl (aB.agree (aK hw 0) (Nat.zero_le _) (k2))) rfl ?_)))))))))))))
          refine aI 9 rfl (isV (.int .i64 (lT s r.x))) (aF _) (cR [isV _,isV _] rfl goes_34 (aR rfl) ⟨bU (aL 1 (aA rfl rfl rfl)),bU (aL 7 (aA rfl rfl rfl)),trivial⟩ (fun vs w' hb hh=>by have e:=cA (us:=[_,_]) hh;subst e;exact (Iz ds d s r.x _ (SIn.below (hS.below.trans (hb.mono hS.below.size)) hs) (WIn.below (hS.below.trans (hb.mono hS.below.size)) hri)).mono fun e w2 h=>⟨_,h.1,rfl,h.2⟩) (aD rfl)) ?_
          refine aZ 10 rfl 120 8 rfl rfl rfl (fun w hw=>Sh rfl rfl) rfl (dV ?_)
          intro W10 hbR hS'
          clear hS;have hS:=hS';clear hS'
          refine aG (aG (aG (aG (aG (aG (aG (aG (aG (aG (cO (XF.thenN (bA rfl (fun hc=>?_) (fun hc=>?_)))))))))))))
          ·have hc121:=hc;clear hc
           refine aJ (aQ (aC rfl rfl (aN (XF.thenN (bX (XF.blkR (XF.thenR (XF.thenR (XF.blkR (XF.thenR (XF.res (cQ results9 rfl) ?_)))))))))))
           exact ⟨eK (by unfold fA;dsimp only;rw [if_neg h0,if_neg h1,if_neg h3,if_neg (by rw [dB hr (decide_eq_false (by simpa using hc121))];decide)]),hS.below⟩
          ·have hc121:=hc;clear hc
           refine bM (XF.blkN (XF.thenN (aQ (aE rfl rfl (cZ rfl rfl (IntWalk.i64_in _ (by omega)) rfl (aC rfl rfl (aN ?_)))))))
           exact XF.round (tl - (i+1)) [(1,_),(7,_)] (by omega) ⟨rfl,rfl,trivial⟩ ⟨i+1,by omega,rfl,rfl,fP hr hall2 (by simpa using hc121),hS.clear⟩
         ·have hc109:=of_decide_eq_false hc;clear hc
          rw [List.take_of_length_le (by omega)] at hall2
          refine eF (XF.thenX (XF.thenX (XF.blkX (XF.thenN (aJ (aQ (aC rfl rfl (aN (XF.thenN (bX (XF.res (cQ results9 rfl) ?_)))))))))))
          exact ⟨eK (by unfold fA;dsimp only;rw [if_neg h0,if_neg h1,if_neg h3,if_pos hall2]),hS.below⟩
theorem V6 (ds d:Nat) (a:AV) (w:World) (h:AIn w ds d a):Calls prog 9 #[a.val] w (fun e w'=>e = .returned (.int .i64 (fA a))∧Below w.heap.size w w'):=autoR_c ds d _ _ _ _ _ _ _ _ _ _ _ w h.s h.frow h.flen h.trow h.tlen h.tin h.fmax h.tmax
theorem goes_8:bH prog 8=true:=by kernel_rfl
theorem goes_9:bH prog 9=true:=by kernel_rfl
theorem inf_4:prog.info? 4=some Tryz.t4:=by kernel_rfl
section
variable {P:Program} {ops:Array Oper} {Q:Exit→Act→World→Prop} {σ:Type}
theorem Ej {ops:Array Oper} {k:Nat} (hk:ops.size=k):yD ops k=true:=List.all_eq_true.2 fun j hj=>by
 rw [decide_eq_true (show j < k by have:=List.mem_range.1 hj;omega)];rfl
theorem Jb {L:Array Bool} {i:Nat} (h:L.size≤i):L.getD i false=false:=by
 rw [Array.getD_eq_getD_getElem?,Array.getElem?_eq_none (by omega)];rfl
theorem Cx {t0:Array Value} {d0:List Deferred} {G:σ→World→Prop} {I:σ→Nat→Value→World→Prop} {V:σ→Array Bool→Prop} {k:Nat} (hk:ops.size=k) (ht:dT ops t0.size=true)
  (hstep:∀ i,i < k→Vl P ops Q t0 G I V i)
  (hfin:∀ s L a w,RInvG ops t0 d0 G I V s L a w→(∀ i,i < k→L.getD i false=true)→wpList P ops Q (ops.toList.drop k) a w) :
  ∀ (fuel:Nat) (s:σ) (L:Array Bool) (a:Act) (w:World),L.size=ops.size→L.toList.count false≤fuel→iO ops L→RInvG ops t0 d0 G I V s L a w→wpAny P .any ops Q fuel L a w:=by
 intro fuel
 induction fuel with
 | zero =>
  intro s L a w hs hc hcl h
  have hall:∀ i,i < k→L.getD i false=true:=fun i hi=>by
   cases hb:L.getD i false with
   | true=>rfl
   | false =>
    have:=fH _ _ (lU (by omega) hb)
    omega
  exact rS (fun _ _=>trivial) (Ej hk) ht 0 k 0 L a w (by omega) (Nat.le_refl _) (Nat.le_refl _) hs hcl hall (fun i hi=>Jb (by omega)) (hfin s L a w h hall)
 | succ fuel ih =>
  intro s L a w hs hc hcl h
  by_cases hall:∀ i,i < k→L.getD i false=true
  ·exact rS (fun _ _=>trivial) (Ej hk) ht 0 k (fuel+1) L a w (by omega) (Nat.le_refl _) (Nat.zero_le _) hs hcl hall (fun i hi=>Jb (by omega)) (hfin s L a w h hall)
  ·refine ⟨fun hr=>?_,fun i hi=>?_⟩
   ·exfalso;apply hall
    intro i hi
    have h1:=gL ht hs hr i (by omega)
    rw [Array.getD_eq_getD_getElem?,Array.getElem?_eq_getElem (by omega)] at h1 ⊢
    simpa using h1
   ·obtain ⟨his,hr⟩:=sT hi hs
    have hik:i < k:=by omega
    have hc1:=fH _ _ (lU (by omega) hr.1)
    refine wpOp_mono ?_ (hstep i hik s L a w (fun t ht=>h.frame t ht) h.glob h.cons hs hcl hr (fun j d hw=>?_))
    ·rintro a' w' ⟨s',v,rfl,hV,hG,hI,hst⟩
     refine ih s' _ _ _ (by simpa using hs) ?_ (hcl.next hr (by omega)) ⟨by rw [lK];exact h.size,by rw [iP];exact h.defers,fun t hf=>?_,hG,hV,fun j d hd hj=>?_⟩
     ·rw [Array.toList_setIfInBounds];omega
     ·rw [eU ?_]
      ·exact h.frame t hf
      ·intro hd
       obtain ⟨o,ho,hd⟩:=Option.bind_eq_some_iff.1 hd
       have:=Array.all_eq_true'.1 hf o (Array.mem_of_getElem? ho)
       simp [hd] at this
     ·by_cases hji:j=i
      ·subst hji
       rw [qR hd (by rw [h.size];exact (gB ht hd).1)]
       exact hI d hd
      ·rw [getD_set_ne false (Ne.symm hji)] at hj
       rw [eU (fun e=>hji ((gB ht e).2 j hd))]
       exact hst j d hd (h.done j d hd hj)
    ·have:j∈aft ops i:=by
      unfold bD at hw
      unfold aft
      cases ho:ops[i]? with
      | none=>simp [ho] at hw
      | some o =>
       simp only [ho,Bool.and_eq_true,beq_iff_eq] at hw
       obtain ⟨e,he,h2⟩:=Array.any_eq_true'.1 hw.1
       simp only [Bool.and_eq_true,beq_iff_eq] at h2
       exact List.mem_map.2 ⟨e,List.mem_filter.2 ⟨Array.mem_toList_iff.2 he,h2.2⟩,h2.1⟩
     have hd:(ops[j]?).bind (·.dst)=some d:=by
      unfold bD at hw
      simp only [Bool.and_eq_true,beq_iff_eq] at hw
      exact hw.2
     exact h.done j d hd (hr.2 j this)
end
section
variable {P:Program} {n:Nat} {Q:Exit→Act→World→Prop} {l:Fr} {w0 W:World} {ops:Array Oper} {os:List Oper} {K:List (Nat×World)} {L:List Asr} {i:Nat}
variable {al:List Nat} {ca:Nat→Option Value→List Value} {ta:Nat→TypeId} {Os:Option Value→Own} {Gs:Option Value→cU} {lo ef jy:Nat} {s:Sg}
variable {d:Nat} {op:Op} {ty:TypeId} {pos:String} {aft_:Array Edge} {v:Value} {gd:Option (Nat×Bool)}
theorem Oq {id k:Nat} {ds:List Nat} (hm:P.follows .mixedOrders=true) (hlo:lo=W.heap.size) (hS:St w0 (Os none) (Gs none) K W) (hk:os.length=k) (ht:dT os.toArray n=true) (hal:al.all (fun a=>Nat.blt a k)=true) (hnd:al.Nodup) (hea:al.contains ef=false)
  (hev:Nat.blt ef k=true) (hdst:(List.range k).all (fun j=>Nat.beq j ef || ((os.toArray[j]?).bind (·.dst)).isSome)=true) (hds:(os.drop k).all (fun o=>match o.dst with | some d=>ds.contains d | none=>true)=true)
  (h:BLS P n os.toArray Q l w0 K lo al ef jy ca ta Os Gs (fun Lr=>∀ (Bf:Nat→Nat) (y:Value) (W':World) (Ks:List (Nat×World)),W.heap.size≤W'.heap.size→(∀ q∈Ks,lo≤q.1)→St w0 (al.map (fun a=>(Bf a,ca a (some y),ta a))++Os (some y)) (Gs (some y)) (Ks++K) W' →
   (∀ {O2 G2 K2 W2},St w0 O2 G2 K2 W2→(∀ q∈Ks,q∈K2)→iK lo (XB (al.map (fun a=>(Bf a,ca a (some y),ta a))++Os (some y)) (Gs (some y))) W' W2) →
   kY (os.take k) (Me al ef jy lo (XB (al.map (fun a=>(Bf a,ca a (some y),ta a))++Os (some y)) (Gs (some y))) Bf y 0 Lr.reverse) (qM ds l) (fun l' W'=>cS P n os.toArray Q (os.drop k) l' W') W') k [] 0):eW P n (.region id os.toArray true) Q l W:=by
 obtain ⟨Lr,h1,h2,hfin⟩:=Ge ht k 0 [] rfl (fun j _=>by rfl) (fun i hi=>by omega) h
 rw [Nat.zero_add] at h1 h2
 have hal':∀ a∈al,a < k:=fun a ha=>Nat.lt_of_lt_of_le (Nat.lt_succ_self _) (Nat.le_of_ble_eq_true (List.all_eq_true.1 hal a ha))
 have hea':ef∉al:=fun h=>by rw [List.contains_iff_mem.2 h] at hea;cases hea
 intro a ha
 refine wp_region_any hm (Cx (t0:=a.tmps) (d0:=a.defers) (V:=VG al ef) (I:=IG al ef jy lo ca ta Os Gs Lr.reverse) (G:=GG w0 K lo ca ta Os Gs) (k:=k) (by simpa using hk) (by rw [ha.size];exact ht) (fun i hi=>(h2 i hi).step a ha) ?_ _ ⟨none,[]⟩ _ _ _ (by simp) (iT _) (fun j hj=>by rw [Array.getD_eq_getD_getElem?,Array.getElem?_replicate] at hj;split at hj<;>simp at hj) ⟨rfl,rfl,fun _ _=>rfl,⟨by unfold OE;exact hS.drew,by rw [hlo];exact Nat.le_refl _,(fun q hq=>by cases hq)⟩,⟨fun a _=>?_,(fun q hq=>by cases hq),List.Pairwise.nil,?_⟩,fun i d _ hj=>?_⟩)
 ·intro s LB a' W' hR hdone
  obtain ⟨hG,hG2,hG3⟩:=hR.glob
  obtain ⟨v1,v2,v3,v4⟩:=hR.cons
  obtain ⟨ev,bs⟩:=s
  have hall:∀ x∈al,(x,bAt bs x)∈bs:=fun x hx=>Gf ((v1 x hx).1 (hdone x (hal' x hx)))
  obtain ⟨y,hy⟩:∃ y,ev=some y:=by
   have h3:ev.isSome=true:=v4.1 (hdone ef (Nat.lt_of_lt_of_le (Nat.lt_succ_self _) (Nat.le_of_ble_eq_true hev)))
   exact Option.isSome_iff_exists.1 h3
  subst hy
  have hperm:bs.Perm (al.map (fun x=>(x,bAt bs x))):=by
   refine (List.perm_ext_iff_of_nodup (v3.imp (fun h e=>h (by rw [e]))) ?_).2 fun q=>?_
   ·refine List.Pairwise.map _ (fun x y (hxy:x≠y)=>?_) hnd
    intro e;exact hxy (congrArg Prod.fst e)
   ·constructor
    ·intro hq
     have h3:=hall q.1 (v2 q hq)
     have h4:=vX v3 hq h3 rfl
     rw [h4]
     exact List.mem_map.2 ⟨q.1,v2 q hq,rfl⟩
    ·intro hq
     obtain ⟨x,hx,rfl⟩:=List.mem_map.1 hq
     exact hall x hx
  have hO:(OE ca ta Os ⟨some y,bs⟩).Perm (al.map (fun a=>(bAt bs a,ca a (some y),ta a))++Os (some y)):=by
   unfold OE
   refine List.Perm.append_right _ ?_
   have:=hperm.map (fun q:Nat×Nat=>(q.2,ca q.1 (some y),ta q.1))
   rw [List.map_map] at this
   exact this
  have hG':=hG.perm hO
  have hX:∀ b,XB (OE ca ta Os ⟨some y,bs⟩) (Gs (some y)) b↔XB (al.map (fun a=>(bAt bs a,ca a (some y),ta a))++Os (some y)) (Gs (some y)) b:=fun b=>by
   unfold XB
   constructor
   ·rintro (⟨p,hp,e⟩ | h);exact .inl ⟨p,hO.mem_iff.1 hp,e⟩;exact .inr h
   ·rintro (⟨p,hp,e⟩ | h);exact .inl ⟨p,hO.mem_iff.2 hp,e⟩;exact .inr h
  obtain ⟨Ks,c1,⟨qw,c2,c3⟩,c4⟩:=Rc (((al.map (fun a=>(bAt bs a,ca a (some y),ta a))++Os (some y)).map (·.1))++(Gs (some y)).filterMap (fun g=>g.v.ownBlock)) lo W'
  have hG4:=hG'.more Ks (fun q hq=>⟨(c1 q hq).2.1,fun p hp=>(c1 q hq).2.2 p.1 (List.mem_append_left _ (List.mem_map.2 ⟨p,hp,rfl⟩)),fun g hg b hb=>(c1 q hq).2.2 b (List.mem_append_right _ (List.mem_filterMap.2 ⟨g,hg,hb⟩))⟩)
  have hcov:∀ {O2 G2 K2 W2},St w0 O2 G2 K2 W2→(∀ q∈Ks,q∈K2)→iK lo (XB (al.map (fun a=>(bAt bs a,ca a (some y),ta a))++Os (some y)) (Gs (some y))) W' W2:=fun {O2 G2 K2 W2} h2 hq=>by
   refine ⟨⟨h2.below.os.trans hG.below.os.symm,h2.below.tape.trans hG.below.tape.symm,h2.below.output.trans hG.below.output.symm⟩,?_,fun b b1 b2 b3=>?_⟩
   ·have:=(h2.kept qw (hq qw c2)).1.1;rw [c3] at this;exact this
   ·obtain ⟨q,q1,q2,q3⟩:=c4 b b1 b2 (fun hb=>b3 (by
     rcases List.mem_append.1 hb with hb | hb
     ·obtain ⟨p,hp,rfl⟩:=List.mem_map.1 hb
      exact .inl ⟨p,hp,rfl⟩
     ·obtain ⟨g,hg,e⟩:=List.mem_filterMap.1 hb
      exact .inr ⟨g,hg,e⟩))
    exact ((h2.kept q (hq q q1)).1.2 b q2 q3).trans ((c1 q q1).2.1.2 b q2 q3).symm
  have htk:(os.take k).length=k:=by simp;omega
  refine rV (os.take k) (Me al ef jy lo (XB (al.map (fun a=>(bAt bs a,ca a (some y),ta a))++Os (some y)) (Gs (some y))) (bAt bs) y 0 Lr.reverse) (qM ds l) (fun i d hi hd'=>?_) (fun i hi hd'=>?_) (hR.size.trans ha.size) (hR.defers.trans ha.defers) ?_ (fun l' h ha'=>?_) (hfin (bAt bs) y W' Ks (by rw [← hlo];exact hG2) (fun q hq=>(c1 q hq).1) hG4 hcov)
  ·have hik:i < k:=by omega
   have hd2:(os.toArray[i]?).bind (·.dst)=some d:=by rw [List.getElem?_take,if_pos hik] at hd';simpa using hd'
   obtain ⟨i1,i2,i3,i4⟩:=hR.done i d hd2 (hdone i hik)
   rw [rU Lr.reverse 0 i (by simp;omega),Nat.add_zero]
   cases hc1:al.contains i with
   | true =>
    rw [cond_true]
    obtain ⟨B,hB,e⟩:=i1 (List.contains_iff_mem.1 hc1)
    have:=vX v3 hB (hall i (List.contains_iff_mem.1 hc1)) rfl
    show _=_
    rw [e,show B=bAt bs i from congrArg Prod.snd this]
   | false =>
    rw [cond_false]
    have hni:i∉al:=fun hm'=>by rw [List.contains_iff_mem.2 hm'] at hc1;cases hc1
    cases hc2:Nat.beq i ef with
    | true =>
     rw [cond_true]
     have h5:=i2 (Nat.eq_of_beq_eq_true hc2)
     exact (Option.some.inj h5).symm
    | false =>
     rw [cond_false]
     have hne:i≠ef:=fun e=>by rw [e,Nat.beq_refl] at hc2;cases hc2
     have h6:AwS lo (XB (al.map (fun a=>(bAt bs a,ca a (some y),ta a))++Os (some y)) (Gs (some y))) (atI Lr.reverse i) (a'.tmps.getD d undef) W':=fun w2 hw2=>i4 hni hne w2 ⟨hw2.1,hw2.2.1,fun b b1 b2 b3=>hw2.2.2 b b1 b2 (fun hb=>b3 ((hX b).2 hb))⟩
     cases hc3:Nat.beq i jy with
     | true =>
      rw [cond_true]
      refine ⟨?_,h6⟩
      exact i3 (Nat.eq_of_beq_eq_true hc3) y rfl
     | false=>rw [cond_false];exact h6
  ·have hik:i < k:=by omega
   have h3:=List.all_eq_true.1 hdst i (List.mem_range.2 hik)
   rw [Bool.or_eq_true] at h3
   have hd2:(os.toArray[i]?).bind (·.dst)=none:=by rw [List.getElem?_take,if_pos hik] at hd';simpa using hd'
   rcases h3 with h3 | h3
   ·rw [rU Lr.reverse 0 i (by simp;omega),Nat.add_zero]
    have hc1:al.contains i=false:=by rw [Nat.eq_of_beq_eq_true h3];exact hea
    rw [hc1,cond_false,h3,cond_true]
    exact ⟨y,rfl⟩
   ·rw [hd2] at h3;cases h3
  ·intro t v hv hno
   have hl:=nI hv (fX hv)
   have hnt:=fX hv
   rw [hR.frame t ?_]
   ·exact ha.at_ t v hl
   ·unfold freeT;rw [Array.all_eq_true'];intro o' ho'
    have ho2:o'∈os:=by simpa using ho'
    rw [← List.take_append_drop k os] at ho2
    rcases List.mem_append.1 ho2 with ho2 | ho2
    ·simpa using hno o' ho2
    ·have h5:=List.all_eq_true.1 hds o' ho2
     cases hx:o'.dst with
     | none=>simp
     | some d =>
      rw [hx] at h5
      simp
      intro e;subst e
      exact hnt (List.contains_iff_mem.1 h5)
  ·have:=h a' ha'
   simpa using this
 ·rw [Array.getD_eq_getD_getElem?,Array.getElem?_replicate]
  constructor
  ·intro h3;split at h3<;>simp at h3
  ·rintro ⟨B,hB⟩;cases hB
 ·rw [Array.getD_eq_getD_getElem?,Array.getElem?_replicate]
  constructor
  ·intro h3;split at h3<;>simp at h3
  ·intro h3;cases h3
 ·rw [Array.getD_eq_getD_getElem?,Array.getElem?_replicate] at hj
  split at hj<;>simp at hj
end
section
variable {P:Program} {n:Nat} {Q:Exit→Act→World→Prop} {l:Fr} {w0 W:World} {ops:Array Oper} {os:List Oper} {K:List (Nat×World)} {L:List Asr} {i:Nat} {O:Own} {G:cU}
variable {al:List Nat} {zc:Nat→List Value} {ta:Nat→TypeId} {lo ef jy:Nat} {d:Nat} {ty:TypeId} {pos:String} {aft_:Array Edge} {v:Value}
def osY (O:Own) (j jx B:Nat) (cs:List Value) (U:TypeId):Option Value→Own
 | none=>O
 | some y=>O.set j (B,jA cs jx y.cells.toList,U)
theorem oM {O:Own} {j jx B i:Nat} {cs:List Value} {U:TypeId} {ev:Option Value} {p:Nat×List Value×TypeId} (h:O[i]?=some p) (hij:Nat.beq i j=false):(osY O j jx B cs U ev)[i]?=some p:=by
 cases ev with
 | none=>exact h
 | some y =>
  show (O.set j _)[i]?=_
  rw [List.getElem?_set_ne (fun e=>by rw [e,Nat.beq_refl] at hij;cases hij)];exact h
theorem zH {T U:TypeId} {x:Operand} {tyy B m:Nat} {cs:List Value} {py:Asr} (j jx:Nat) (li:Fr) (hal:al.contains ef=false) (hij:Nat.beq ef jy=false) (hi:ops[ef]?=some ⟨none,.store T x (.tmp tyy),ty,pos,aft_,none⟩) (hjy:(ops[jy]?).bind (·.dst)=some tyy) (hwy:bD ops ef jy tyy=true) (hja:al.contains jy=false) (hLy:atI L jy=py) (hNo:rT al ef L) (hli:wS n ops l L ef li) (hx:evL li x=some (.pointer (some ⟨B,jx,none⟩)))
  (hO:O[j]?=some (B,cs,U)) (hsz:∀ w,(sizeOf T).run P w = .ok m w) (hpy:∀ v w,py v w→∃ vs:List Value,v.cells=vs.toArray∧vs.length=m∧vs.all Value.oneCell'=true) (hjm:Nat.ble (jx+m) cs.length=true):SG P n ops Q l w0 K lo al ef jy (pZ zc) ta (osY O j jx B cs U) (tE G) L ef :=
 Vm hal hij hi fun t0 a bs w h0 hF hG hbs hD=>by
  have hD':=vU h0 hF hD (fun j d _ hj=>hNo j hj)
  have ex:=jC h0 hF hD' hli x _ hx
  have hy:=((hD jy tyy hwy).2.2.2 (fun h=>by rw [List.contains_iff_mem.2 h] at hja;cases hja) (fun e=>by rw [e,Nat.beq_refl] at hij;cases hij)).here
  rw [hLy] at hy
  obtain ⟨vs,hc,hl,h1⟩:=hpy _ _ hy
  have hcl:(a.eval (.tmp tyy)).cells.toList=vs:=by rw [hc]
  have hOk:(OE (pZ zc) ta (osY O j jx B cs U) ⟨none,bs⟩)[bs.length+j]?=some (B,cs,U):=by
   unfold OE
   rw [List.getElem?_append_right (by simp)]
   simpa [osY] using hO
  have hXB:XB (OE (pZ zc) ta (osY O j jx B cs U) ⟨none,bs⟩) (tE G none) B:=.inl ⟨_,List.mem_of_getElem? hOk,rfl⟩
  have hrun:=vY (P:=P) hsz hc hl h1 (hG.1.at_ _ hOk) (j:=jx) (Nat.le_of_ble_eq_true hjm)
  have hO':OE (pZ zc) ta (osY O j jx B cs U) ⟨some (a.eval (.tmp tyy)),bs⟩=(OE (pZ zc) ta (osY O j jx B cs U) ⟨none,bs⟩).set (bs.length+j) (B,jA cs jx vs,U):=by
   unfold OE
   rw [List.set_append_right _ _ (by simp)]
   congr 1
   simp [osY,hcl]
  refine I3 hi rfl rfl rfl (by rw [ex];exact hrun) ⟨undef,a.eval (.tmp tyy),rfl,(fun d hd=>by cases hd),?_,tL hXB,?_,fun d hd=>?_⟩
  ·rw [hO']
   exact hG.1.setMany _ vs jx hOk
  ·rintro b (⟨p,hp,rfl⟩ | h)
   ·rw [hO'] at hp
    rcases List.mem_or_eq_of_mem_set hp with hp | rfl
    ·exact .inl (.inl ⟨p,hp,rfl⟩)
    ·exact .inl hXB
   ·exact .inl (.inr h)
  ·rw [hjy] at hd;cases hd;rfl
end
section
variable {P:Program} {n:Nat} {Q:Exit→Act→World→Prop} {l:Fr} {w0 W:World} {ops:Array Oper} {os:List Oper} {K:List (Nat×World)} {L:List Asr} {i:Nat}
variable {al:List Nat} {ca:Nat→Option Value→List Value} {ta:Nat→TypeId} {Os:Option Value→Own} {Gs:Option Value→cU} {lo ef jy:Nat} {s:Sg}
variable {d:Nat} {op:Op} {ty:TypeId} {pos:String} {aft_:Array Edge} {v:Value} {gd:Option (Nat×Bool)}
end
end Go.Proofs.YtmgnkpibpjgncaaGreatDoor
namespace Go.Proofs.YtmgnkpibpjgncaaGreatDoor
open Go.Proofs.Tryz
open Go.RowKit Go.ChangeShapes Go.WideShapes Go.Deep
section
variable {H:Type} {enc:TypeId×Value→H} {w:World} {base:Nat} {spare:Nat→Bool} {held:Bool}
theorem Ek {cs:List Value} (h:cs.length=3):∃ a b c,cs=[a,b,c]:=by
 match cs,h with
 | [a,b,c],_=>exact ⟨a,b,c,rfl⟩
theorem Rk {n:Nat} {cs:List Value} {x:DataW H×List MemPlace} (hl:cs.length=3) (h:DataW.trod enc prog w base spare held n 105 cs=some x) :
  ∃ c:Cl,c.f < 18446744073709551616∧cs=[.int .u64 (c.f:Int),.int .i64 c.k,.int .i64 c.v]:=by
 obtain ⟨xs,n',_,hx,_,hlen,hg⟩:=DataW.trod_struct underlying105 h
 obtain ⟨a,b,c,rfl⟩:=Ek hl
 ·skip
  have hlen3:xs.length=3:=hlen
  have g0:=hg 0 _ rfl
  have g1:=hg 1 _ rfl
  have g2:=hg 2 _ rfl
  rw [show prog.cellsOf _=1 by kernel_rfl,List.getElem?_eq_getElem (by omega)] at g0 g1 g2
  obtain ⟨z0,e0,_,w0⟩:=DataW.trod_int underlying37 g0
  obtain ⟨z1,e1,_,w1⟩:=DataW.trod_int (k:=.i64) (by kernel_rfl) g1
  obtain ⟨z2,e2,_,w2⟩:=DataW.trod_int (k:=.i64) (by kernel_rfl) g2
  simp at e0 e1 e2
  subst e0 e1 e2
  have hw:0≤z0∧z0≤18446744073709551615:=by simpa [Lit.wf,IntKind.signed,IntKind.bits,IntKind.min,IntKind.max] using w0
  exact ⟨⟨z0.toNat,z1,z2⟩,by show z0.toNat < _;omega,by simp;omega⟩
theorem Ou:∀ (n:Nat) (p:Nat→Cl→Prop),(∀ i,i < n→∃ c,p i c)→∃ xs:List Cl,xs.length=n∧∀ i c,xs[i]?=some c→p i c
 | 0,p,h=>⟨[],rfl,fun i c hi=>by simp at hi⟩
 | n+1,p,h=>by
  obtain ⟨xs,hl,hp⟩:=Ou n p (fun i hi=>h i (by omega))
  obtain ⟨c,hc⟩:=h n (by omega)
  refine ⟨xs++[c],by simp [hl],fun i d hi=>?_⟩
  rcases Nat.lt_or_ge i n with h1 | h1
  ·rw [List.getElem?_append_left (by omega)] at hi
   exact hp i d hi
  ·obtain ⟨h2,_⟩:=List.getElem?_eq_some_iff.1 hi
   simp [hl] at h2
   obtain rfl:i=n:=by omega
   rw [List.getElem?_append_right (by omega),hl,Nat.sub_self] at hi
   simp at hi
   subst hi
   exact hc
theorem Mn {n:Nat} {a:Option Addr} {len cap:Nat} {x:DataW H×List MemPlace} (h:DataW.trod enc prog w base spare held n 41 [.slice a len cap]=some x) :
  ∃ xs,IsCells w a len cap xs:=by
 rcases open_slice underlying41 h with ⟨hcs,_⟩ | ⟨ad,len',cap',m,n',D,Pl,hcs,hb,hl,hm,hmm,hx,hi⟩
 ·simp at hcs
  obtain ⟨rfl,rfl,rfl⟩:=hcs
  exact ⟨[],rfl,by simp,.inl rfl,fun c hc=>by simp at hc⟩
 ·simp at hcs
  obtain ⟨rfl,rfl,rfl⟩:=hcs
  rw [show prog.cellsOf 105=3 by kernel_rfl] at hi
  obtain ⟨xs,hxl,hxs⟩:=Ou len (fun i c=>c.f < 18446744073709551616∧w.cell? (ad.add (i * 3))=some (.int .u64 (c.f:Int))∧w.cell? (ad.add (i * 3+1))=some (.int .i64 c.k)∧w.cell? (ad.add (i * 3+2))=some (.int .i64 c.v)) (fun i hil=>by
   obtain ⟨cs',hc,ht⟩:=hi i (by rw [hmm];split<;>omega)
   obtain ⟨_,hcl,hat⟩:=World.cells?_some hc
   obtain ⟨c,hf,rfl⟩:=Rk hcl ht
   have e0:=hat 0 (by omega)
   have e1:=hat 1 (by omega)
   have e2:=hat 2 (by omega)
   rw [add_add] at e0 e1 e2
   exact ⟨c,hf,e0,e1,e2⟩)
  refine ⟨xs,hxl.symm,by omega,?_,fun c hc=>?_⟩
  ·rcases Nat.eq_zero_or_pos len with h0 | h0
   ·exact .inl (List.length_eq_zero_iff.1 (by omega))
   ·obtain ⟨b,off,spot⟩:=ad
    obtain ⟨_,h1,_,_⟩:=hxs 0 (xs[0]'(by omega)) (List.getElem?_eq_getElem (by omega))
    have hspot:spot=none:=by simpa [Addr.add] using World.cell?_spot h1
    subst hspot
    refine .inr ⟨b,off,rfl,fun i c hic=>?_⟩
    have e:∀ k,({ block:=b,off:=off }:Addr).add k=⟨b,off+k,none⟩:=fun k=>by simp [Addr.add]
    have h3:=(hxs i c hic).2
    rw [e,e,e,← Nat.add_assoc,← Nat.add_assoc] at h3
    exact h3
  ·obtain ⟨i,hi',hic⟩:=List.mem_iff_getElem.1 hc
   exact (hxs i c (by rw [← hic];exact List.getElem?_eq_getElem hi')).1
end
section
variable {H:Type} {enc:TypeId×Value→H} {w:World} {base:Nat} {spare:Nat→Bool} {held:Bool}
theorem Mo {n:Nat} {cs:List Value} {x:DataW H×List MemPlace} (h:DataW.trod enc prog w base spare held n 41 cs=some x):∃ a len cap,cs=[.slice a len cap]:=by
 rcases open_slice underlying41 h with ⟨hcs,_⟩ | ⟨ad,len',cap',m,n',D,Pl,hcs,_⟩
 ·exact ⟨_,_,_,hcs⟩
 ·exact ⟨_,_,_,hcs⟩
end
end Go.Proofs.YtmgnkpibpjgncaaGreatDoor
