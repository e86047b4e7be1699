import Derived.WideKeyEntry
import Derived.DeepKeys4
import Derived.Lib.AppendZeros
import Derived.Lib.ItoaLen
import Derived.Lib.UnsafeStr
import Derived.Lib.AppendIntMem
import Derived.Deep.Slices
import Derived.Deep.Fields
import Derived.ChangeSame
import Derived.Lib.SmallJoins
import Derived.ChangeSlices
import Derived.ProofKit
import Derived.Test.YtmgnkpibpjgncaaGreatDoorMoD
set_option maxRecDepth 100000
set_option maxHeartbeats 4000000
set_option linter.unusedVariables false
set_option linter.unusedVariables false
set_option linter.unusedSimpArgs false
set_option linter.unusedSectionVars false
set_option linter.unnecessarySimpa false
namespace Go.Proofs.YtmgnkpibpjgncaaGreatDoor
open Go Go.RowKit
def qG (M:World→Prop):Prop:=∀ W W',M W→Below W.heap.size W W'→M W'
def sQ (M:World→Prop) (t n:Int) (f:WF) (x:PF):Prop:=∀ W,M W→PIs W t n f x
def oW (M:World→Prop):PS→WF→PX→Prop
 | .one t n,f,.one a=>sQ M t n f a
 | .two t n u m,f,.two a b=>f.pf=pC 0∧f.rl=0∧f.cl=0∧f.pl=2∧∃ blk off g h,f.pa=some ⟨blk,off,none⟩∧(∀ W,M W→W6 W blk off g∧W6 W blk (off+6) h)∧sQ M t n g a∧sQ M u m h b
 | _,_,_=>False
theorem oW.is {M:World→Prop} {S:PS} {f:WF} {x:PX} {w:World} (h:oW M S f x) (hM:M w):XIs w S f x:=by
 cases S<;>cases x<;>first | exact h.elim | exact (show sQ M _ _ f _ from h) w hM | skip
 obtain ⟨h1,h2,h3,h4,blk,off,g,k,h5,h6,h7,h8⟩:=h
 exact ⟨h1,h2,h3,h4,blk,off,g,k,h5,(h6 w hM).1,(h6 w hM).2,h7 w hM,h8 w hM⟩
theorem oW.mono {M M':World→Prop} {S:PS} {f:WF} {x:PX} (h:oW M S f x) (hm:∀ W,M' W→M W):oW M' S f x:=by
 cases S<;>cases x<;>first | exact h.elim | exact (fun W hW=>(show sQ M _ _ f _ from h) W (hm W hW)) | skip
 obtain ⟨h1,h2,h3,h4,blk,off,g,k,h5,h6,h7,h8⟩:=h
 exact ⟨h1,h2,h3,h4,blk,off,g,k,h5,fun W hW=>h6 W (hm W hW),fun W hW=>h7 W (hm W hW),fun W hW=>h8 W (hm W hW)⟩
theorem gG.far {lo:Nat} {A:World} {S:PS} {f:WF} {x:PX} (h:gG lo A S f x):oW (fun W=>dQ lo A W) S f x:=by
 cases S<;>cases x<;>first | exact h.elim | exact (fun W hW=>(PNew.agree h hW).is) | skip
 obtain ⟨h1,h2,h3,h4,blk,g,k,h5,h0,h6,h7,h8,h9⟩:=h
 exact ⟨h1,h2,h3,h4,blk,0,g,k,h5,fun W hW=>⟨h6.agree h0 hW,h7.agree h0 hW⟩,fun W hW=>(h8.agree hW).is,fun W hW=>(h9.agree hW).is⟩
theorem XIs.far {w:World} {S:PS} {f:WF} {x:PX} (h:XIs w S f x):oW (fun W=>Below w.heap.size w W) S f x:=by
 cases S<;>cases x<;>first | exact h.elim | exact (fun W hW=>PIs.below h hW) | skip
 obtain ⟨h1,h2,h3,h4,blk,off,g,k,h5,h6,h7,h8,h9⟩:=h
 exact ⟨h1,h2,h3,h4,blk,off,g,k,h5,fun W hW=>⟨h6.below hW,h7.below hW⟩,fun W hW=>h8.below hW,fun W hW=>h9.below hW⟩
def Rs (M:World→Prop) (S:PS) (x:PX) (w:World) (e:Ending) (w':World):Prop:=∃ f:WF,e = .returned f.val∧oW (fun W=>M W∧dQ w.heap.size w' W) S f x∧Below w.heap.size w w'
def tX (M:World→Prop) (lo:Nat) (S:PS) (x:PX):Asr:=fun v w=>∃ f:WF,v=f.val∧oW (fun W=>M W∧dQ lo w W) S f x
theorem sR {M:World→Prop} {lo:Nat} {S:PS} {x:PX}:iJ (tX M lo S x):=fun v w w' ⟨f,h1,h2⟩ hb=>⟨f,h1,h2.mono fun W hW=>⟨hW.1,(aL hb lo).trans hW.2⟩⟩
theorem sS {P:Program} {f:FuncId} {vs:Array Value} {M:World→Prop} {w:World} {S:PS} {x:PX} {lo:Nat} (hlo:lo≤w.heap.size) (h:Calls P f vs w (Rs M S x w)):Calls P f vs w (Ap (tX M lo S x) w):=h.mono fun e w' ⟨f,he,hn,hb⟩=>⟨f.val,he,⟨f,rfl,hn.mono fun W hW=>⟨hW.1,hW.2.mono hlo⟩⟩,hb⟩
theorem yY {M:World→Prop} {w W:World} {t n:Int} {f:WF} {x:PF} (h:PNew w.heap.size W t n f x) (hb:Below w.heap.size w W):Rs M (.one t n) (.one x) w (.returned f.val) W:=⟨f,rfl,fun W2 hW=>(h.agree hW.2).is,hb⟩
section
variable {w W:World} {k:Nat} {n:Int} {f g:WF} {x y:PF}
theorem Rt (hx:PIs w 2 n f x) (hy:PIs w 2 n g y) (hf:f.z=false) (hg:g.z=false) (p0:0≤f.c) (p1:f.c≤n) (q0:0≤g.c) (q1:g.c≤n):PNew k W 2 n (yN (min f.c g.c)) (dC 2 n x y):=by
 obtain ⟨rfl,_,_⟩:=hx.k2 hf
 obtain ⟨rfl,_,_⟩:=hy.k2 hg
 rw [kX]
 exact nJ (.cost _ rfl (by omega) (by omega))
theorem Ru {m:Nat} {a:Option Addr} {cap:Nat} (hx:PIs w 4 m f x) (hy:PIs w 4 m g y) (hf:f.z=false) (hg:g.z=false) (hv:eM W a (cV f.cells g.cells)) (hl:∀ ad,a=some ad→k≤ad.block):PNew k W 4 m (vF a cap (cV f.cells g.cells)) (dC 4 m x y):=by
 obtain ⟨hx',h0⟩:=hx.k4 hf
 obtain ⟨hy',h1⟩:=hy.k4 hg
 have hv2:=pR h0 h1
 rw [hx',hy',mR]
 exact rB (.cells m _ rfl rfl hv2) hv2.bits (by have:=hv2.le;have:=hv2.len;unfold maxLen;omega) hv hl
end
def yZ (M:World→Prop) (lo:Nat) (S:PS) (x:PX):Asr:=fun v w=>∃ b,v = .slice (some ⟨b,0,none⟩) 2 2∧oW (fun W=>M W∧dQ lo w W) S (tQ b) x
theorem Ah {M:World→Prop} {lo:Nat} {S:PS} {x:PX}:iJ (yZ M lo S x):=fun v w w' ⟨b,h1,h2⟩ hb=>⟨b,h1,h2.mono fun W hW=>⟨hW.1,(aL hb lo).trans hW.2⟩⟩
section
variable {n:Nat} {Q:Exit→Act→World→Prop} {l:Fr} {W:World} {ops:Array Oper} {L:List Asr} {i d:Nat} {ty:TypeId} {pos:String} {aft:Array Edge} {gd:Option (Nat×Bool)} {t k u m:Int} {x y:PF} {p q:Operand} {M:World→Prop}
theorem N5 (hi:ops[i]?=some ⟨some d,.buildSlice 42 2 (List.toArray [(0,p),(1,q)]),ty,pos,aft,gd⟩) (hw:fV ops L i ⟨some d,.buildSlice 42 2 (List.toArray [(0,p),(1,q)]),ty,pos,aft,gd⟩) (hp:sX n ops l L i [p,q] [tX M W.heap.size (.one t k) (.one x),tX M W.heap.size (.one u m) (.one y)]) (hI:atI L i=yZ M W.heap.size (.two t k u m) (.two x y)):RG Tryz.prog n ops Q l W L i :=
 Ct [tX M W.heap.size (.one t k) (.one x),tX M W.heap.size (.one u m) (.one y)] hi hw Tryz.underlying42 Tryz.sizeOf44 Tryz.zeroValue44 rfl rfl hp fun vs w hb hh=>by
  obtain ⟨v1,v2,rfl,⟨f,rfl,hf⟩,g,rfl,hg⟩:=oI hh
  refine ⟨f.six++g.six,qQ _ _ _ _ _ _ _ _ _ _ _ _,fun B w' hB h1 h2=>?_⟩
  rw [hI]
  rcases Cb h1 with h | ⟨b,off,e,h3⟩
  ·cases h
  ·cases e
   have hlo:W.heap.size≤B:=by rw [← hB];exact hb.size
   exact ⟨B,rfl,rfl,rfl,rfl,rfl,B,0,f,g,rfl,fun W2 hW=>⟨(h3 0 f rfl).agree hlo hW.2,(h3 1 g rfl).agree hlo hW.2⟩,fun W2 hW=>(show sQ _ t k f x from hf) W2 ⟨hW.1,(aL h2 _).trans hW.2⟩,fun W2 hW=>(show sQ _ u m g y from hg) W2 ⟨hW.1,(aL h2 _).trans hW.2⟩⟩
end
theorem mT (M:World→Prop) (t n:Int) (sa:Option Addr) (sc:Nat) (f g:WF) (x y:PF) (w:World) (hp:bE t n 0=true) (hw:M w) (hfx:sQ M t n f x) (hfy:sQ M t n g y) :
  Calls Tryz.prog 44 #[.agg #[.int .i64 t,.int .i64 n,.slice sa 0 sc],f.val,g.val] w (Rs M (.one t n) (.one (dC t n x y)) w):=by
 have hx:=hfx w hw
 have hy:=hfy w hw
 refine cE (args:=[.agg #[.int .i64 t,.int .i64 n,.slice sa 0 sc],f.val,g.val]) Tryz.func44 rfl Tryz.ntmps44 rfl ?_
 have hS:=St.start w
 refine aN (aP (bW (cs:=[_,_,_]) hS rfl rfl rfl fun B1 W1 hS=>bW (cs:=[_,_,_,_,_,_]) hS rfl rfl rfl fun B2 W2 hS=>bW (cs:=[_,_,_,_,_,_]) hS rfl rfl rfl fun B3 W3 hS=>bG (cs:=[_,_,_,_,_,_]) hS Tryz.zeroValue44 rfl rfl fun B4 W4 hS=>aO (XF.thenN (aN (aN (aP (aM (o':=0) dI rfl rfl rfl (aR Tryz.isAgg4 rfl (aK (hS.at_ 2 rfl) rfl) rfl (aO (XF.thenN (bA rfl (fun hc=>?_) (fun hc=>?_))))))))))))
 ·have hc10:=hc;clear hc
  have hz:=hc10
  refine aN (aP (aS (vs:=[_,_,_,_,_,_]) Tryz.isAgg44 Tryz.sizeOf44 rfl (aB.own (j:=0) (m:=6) (hS.at_ 1 rfl) rfl) rfl (aU (i:=0) (vs:=[_,_,_,_,_,_]) (cs':=[_,_,_,_,_,_]) (O':=[_,_,_,_]) hS Tryz.sizeOf44 rfl rfl rfl rfl rfl rfl rfl fun W5 hS=>aO (XF.thenN (bT (XF.thenR (XF.res (eH (vs:=[_,_,_,_,_,_]) Tryz.results44 Tryz.isAgg44 Tryz.sizeOf44 rfl (aB.own (j:=0) (m:=6) (hS.at_ 0 rfl) rfl)) ?_)))))))
  exact ⟨g,rfl,fun W hM=>by rw [hx.zero hc10,dT];exact hfy W hM.1,hS.below⟩
 ·have hc10:=hc;clear hc
  have hf:=hc10
  refine bM (XF.thenN (aN (aN (aP (aM (o':=0) dI rfl rfl rfl (aR Tryz.isAgg4 rfl (aK (hS.at_ 1 rfl) rfl) rfl (aO (XF.thenN (bA rfl (fun hc=>?_) (fun hc=>?_))))))))))
  ·have hc13:=hc;clear hc
   refine aN (aP (aS (vs:=[_,_,_,_,_,_]) Tryz.isAgg44 Tryz.sizeOf44 rfl (aB.own (j:=0) (m:=6) (hS.at_ 2 rfl) rfl) rfl (aU (i:=0) (vs:=[_,_,_,_,_,_]) (cs':=[_,_,_,_,_,_]) (O':=[_,_,_,_]) hS Tryz.sizeOf44 rfl rfl rfl rfl rfl rfl rfl fun W6 hS=>aO (XF.thenN (bT (XF.thenR (XF.res (eH (vs:=[_,_,_,_,_,_]) Tryz.results44 Tryz.isAgg44 Tryz.sizeOf44 rfl (aB.own (j:=0) (m:=6) (hS.at_ 0 rfl) rfl)) ?_)))))))
   exact ⟨f,rfl,fun W hM=>by rw [hy.zero hc13,dY hx.ok];exact hfx W hM.1,hS.below⟩
  ·have hc13:=hc;clear hc
   have hg:=hc13
   refine bM (XF.thenN (aN (aP (dR (us:=[]) rfl (xD) rfl (bG (cs:=[_,_,_,_,_,_]) hS Tryz.zeroValue44 rfl rfl fun B7 W7 hS=>aU (i:=0) (vs:=[_,_,_,_,_,_]) (cs':=[_,_,_,_,_,_]) (O':=[_,_,_,_,_]) hS Tryz.sizeOf44 rfl rfl rfl rfl rfl rfl rfl fun W8 hS=>aO (XF.thenN (aN (aN (aP (aM (o':=0) fJ rfl rfl rfl (aR Tryz.isAgg22 rfl (aK (hS.at_ 4 rfl) rfl) rfl (aO (XF.thenN (bX (aN (aP (cN rfl rfl rfl (aC rfl rfl (aO (XF.thenN (bA rfl (fun hc=>?_) (fun hc=>?_))))))))))))))))))))))
   ·have hc18:=of_decide_eq_true hc;clear hc
    have e2:t=2:=hc18
    subst e2
    obtain ⟨_,p0,p1⟩:=hx.k2 hf
    obtain ⟨_,q0,q1⟩:=hy.k2 hg
    refine aP (aM (o':=1) eF rfl rfl rfl (aR Tryz.isAgg3 rfl (aK (hS.at_ 3 rfl) rfl) rfl (aM (o':=1) eF rfl rfl rfl (aR Tryz.isAgg3 rfl (aK (hS.at_ 2 rfl) rfl) rfl (op_min rfl rfl rfl (aM (o':=1) eF rfl rfl rfl (eC (i:=0) (cs':=[_,_,_,_,_,_]) (O':=[_,_,_,_,_]) hS Tryz.sizeOf3 rfl rfl rfl rfl rfl rfl rfl fun W9 hS=>aO (XF.blkN (XF.thenN (aN (aP (aS (vs:=[_,_,_,_,_,_]) Tryz.isAgg44 Tryz.sizeOf44 rfl (aB.own (j:=0) (m:=6) (hS.at_ 0 rfl) rfl) rfl (aU (i:=1) (vs:=[_,_,_,_,_,_]) (cs':=[_,_,_,_,_,_]) (O':=[_,_,_,_,_]) hS Tryz.sizeOf44 rfl rfl rfl rfl rfl rfl rfl fun W10 hS=>aO (XF.thenN (bT (XF.res (eH (vs:=[_,_,_,_,_,_]) Tryz.results44 Tryz.isAgg44 Tryz.sizeOf44 rfl (aB.own (j:=0) (m:=6) (hS.at_ 1 rfl) rfl)) ?_))))))))))))))))
    exact yY (Rt hx hy hf hg p0 p1 q0 q1) hS.below
   ·have hc18:=of_decide_eq_false hc;clear hc
    refine aN (aP (cN rfl rfl rfl (aC rfl rfl (aO (XF.thenN (bA rfl (fun hc=>?_) (fun hc=>?_)))))))
    ·have hc26:=of_decide_eq_true hc;clear hc
     have e3:t=3:=hc26
     subst e3
     obtain ⟨m,rfl,hm⟩:=F3 hp (.inl rfl)
     refine aP (aM (o':=1) fK rfl rfl rfl (aR Tryz.isAgg3 rfl (aK (hS.at_ 4 rfl) rfl) rfl (aM (o':=2) eG rfl rfl rfl (aS (vs:=[_,_]) Tryz.isAgg40 Tryz.sizeOf40 rfl (aB.own (j:=2) (m:=2) (hS.at_ 3 rfl) rfl) rfl (aM (o':=2) eG rfl rfl rfl (aS (vs:=[_,_]) Tryz.isAgg40 Tryz.sizeOf40 rfl (aB.own (j:=2) (m:=2) (hS.at_ 2 rfl) rfl) rfl ?_))))))
     have hsz:=hS.below.size
     refine cR (vs:=[_,_,_]) hS goes_87 rfl (Qi _ _ _ _ _ _ _ _ _ _ (hx.at_.fat (by have:=hx.rows64 (l:=0);omega) |>.below hS.below) (hy.at_.fat (by have:=hy.rows64 (l:=0);omega) |>.below hS.below) _ rfl _ rfl _ rfl _ _ hx.at_.rl hy.at_.rl) rfl ?_
     rintro e W11 ⟨a1,c1,rfl,hv,hl,hb⟩
     refine ⟨_,rfl,hb,fun hS'=>?_⟩
     clear hS;have hS:=hS';clear hS'
     refine aI rfl rfl (bK rfl rfl rfl (bK rfl rfl rfl (aM (o':=2) eG rfl rfl rfl (aU (i:=0) (vs:=[_,_]) (cs':=[_,_,_,_,_,_]) (O':=[_,_,_,_,_]) hS Tryz.sizeOf40 rfl rfl rfl rfl rfl rfl rfl fun W12 hS=>aO (XF.blkN (XF.thenN (aN (aP (aS (vs:=[_,_,_,_,_,_]) Tryz.isAgg44 Tryz.sizeOf44 rfl (aB.own (j:=0) (m:=6) (hS.at_ 0 rfl) rfl) rfl (aU (i:=1) (vs:=[_,_,_,_,_,_]) (cs':=[_,_,_,_,_,_]) (O':=[_,_,_,_,_]) hS Tryz.sizeOf44 rfl rfl rfl rfl rfl rfl rfl fun W13 hS=>aO (XF.thenN (bT (XF.res (eH (vs:=[_,_,_,_,_,_]) Tryz.results44 Tryz.isAgg44 Tryz.sizeOf44 rfl (aB.own (j:=0) (m:=6) (hS.at_ 1 rfl) rfl)) ?_)))))))))))))
     exact yY (Ky hx hy hf hg (hv.agree (fun ad e=>(hl ad e).1) (hS.since 0 rfl)) (fun ad e=>Nat.le_trans hsz (hl ad e).1)) hS.below
    ·have hc26:=of_decide_eq_false hc;clear hc
     refine aN (aP (cN rfl rfl rfl (aC rfl rfl (aO (XF.thenN (bA rfl (fun hc=>?_) (fun hc=>?_)))))))
     ·have hc39:=of_decide_eq_true hc;clear hc
      have e4:t=4:=hc39
      subst e4
      obtain ⟨m,rfl,hm⟩:=F3 hp (.inr rfl)
      obtain ⟨hpx,vx⟩:=hx.k4 hf
      obtain ⟨hpy,vy⟩:=hy.k4 hg
      refine aN (aP (aC rfl rfl (aO (XF.thenN (bX (eO (fun q l W=>∃ (k:Nat) (v:Value),k≤m∧q=m - k∧l=[(3,.pointer (some ⟨B1,0,none⟩)),(4,.pointer (some ⟨B2,0,none⟩)),(5,.pointer (some ⟨B3,0,none⟩)),(6,.pointer (some ⟨B4,0,none⟩)),(7,.pointer (some ⟨B7,0,none⟩)),(8,.int .i64 (k:Int))]∧St w [(B7,[.bool false,.int .i64 0,.int .u64 0,.slice none 0 0,v,.slice none 0 0],44),(B4,[.bool false,.int .i64 0,.int .u64 0,.slice none 0 0,.slice none 0 0,.slice none 0 0],44),(B3,[.bool g.z,.int .i64 g.c,.int .u64 (g.g:Int),.slice g.ra g.rl g.rc,.slice g.ca g.cl g.cc,.slice g.pa g.pl g.pc],44),(B2,[.bool f.z,.int .i64 f.c,.int .u64 (f.g:Int),.slice f.ra f.rl f.rc,.slice f.ca f.cl f.cc,.slice f.pa f.pl f.pc],44),(B1,[.int .i64 4,.int .i64 (m:Int),.slice sa 0 sc],25)] [⟨v,k,flat ((cV f.cells g.cells).take k),105,3⟩] [] W) (m - 0) ([(3,_),(4,_),(5,_),(6,_),(7,_),(8,_)]) ⟨rfl,rfl,rfl,rfl,rfl,rfl,trivial⟩ (⟨0,.slice none 0 0,Nat.zero_le _,rfl,rfl,hS.clear.newG _ _⟩) ?_))))))
      clear hS
      rintro q l W ⟨k,v,hkm,rfl,rfl,hS⟩
      refine aN (aN (aP (aI rfl rfl (aM (o':=1) fK rfl rfl rfl (aR Tryz.isAgg3 rfl (aK (hS.at_ 4 rfl) rfl) rfl (cU rfl rfl rfl (aO (XF.thenN (bA rfl (fun hc=>?_) (fun hc=>?_))))))))))
      ·have hc44:=of_decide_eq_true hc;clear hc
       have hk:k < m:=by omega
       have hlx:=vx.len
       have hly:=vy.len
       obtain ⟨bx,offx,x1,ecx,hx1,hbx,c0,c1,c2⟩:=(hx.at_.cells.below hS.below).at_ (k:=k) (by omega)
       obtain ⟨ba,offa,y1,eca,hy1,hba,a0,a1,a2⟩:=(hy.at_.cells.below hS.below).at_ (k:=k) (by omega)
       have k0:aB W bx (offx+k * 3) [.int .u64 (x1.f:Int),.int .i64 x1.k,.int .i64 x1.v]:=⟨c0,c1,c2,trivial⟩
       have k1:aB W ba (offa+k * 3) [.int .u64 (y1.f:Int),.int .i64 y1.k,.int .i64 y1.v]:=⟨a0,a1,a2,trivial⟩
       have h1:(cV f.cells g.cells)[k]?=some (dS x1 y1):=by unfold cV;rw [List.getElem?_zipWith,hx1,hy1]
       have hcl:=hx.at_.cl
       have hclg:=hy.at_.cl
       simp only [ecx,eca] at hS
       refine bM (XF.thenN (aN (bX ?_)))
       refine regBP (p:=14) (k:=16) (gi:=0) (m:=1) cD hS rfl rfl (by kernel_rfl) (by kernel_rfl) (by kernel_rfl) (fun d hd=>by cases hd) rfl rfl Tryz.underlying41 inf_105 rfl rfl (by show 0 < 3;decide) rfl rfl rfl (by dsimp only;simp only [maxLen];omega) (by dsimp only;show _ * 24≤_;omega) ?_
       refine mY 1 rfl rfl (by kernel_rfl) (rgV (li:=[(7,_)]) rfl (aT rfl) ⟨dK (by kernel_rfl) rfl,trivial⟩ (fun w hw=>aV (o':=4) cY rfl rfl) (aE rfl)) (mY 2 rfl rfl (by kernel_rfl) (rgV (li:=[(47,_)]) rfl (aT rfl) ⟨aQ 0 (by kernel_rfl) (aA rfl rfl rfl),trivial⟩ (fun w hw=>bB Tryz.isAgg41 rfl ((aL hw 0).cell (Nat.zero_le _) (aK (hS.at_ 0 rfl) rfl))) (aE rfl)) (mY 3 rfl rfl (by kernel_rfl) (rgV (li:=[(4,_)]) rfl (aT rfl) ⟨dK (by kernel_rfl) rfl,trivial⟩ (fun w hw=>aV (o':=4) cY rfl rfl) (aE rfl)) (mY 4 rfl rfl (by kernel_rfl) (rgV (li:=[(49,_)]) rfl (aT rfl) ⟨aQ 2 (by kernel_rfl) (aA rfl rfl rfl),trivial⟩ (fun w hw=>bB Tryz.isAgg41 rfl ((aL hw 0).cell (Nat.zero_le _) (aK (hS.at_ 3 rfl) rfl))) (aE rfl)) (mY 5 rfl rfl (by kernel_rfl) (rgV (li:=[(8,_)]) rfl (aT rfl) ⟨dK (by kernel_rfl) rfl,trivial⟩ (fun w hw=>aZ rfl) (aE rfl)) (mY 6 rfl rfl (by kernel_rfl) (rgV (li:=[(50,_),(51,_)]) rfl (aT rfl) ⟨aQ 3 (by kernel_rfl) (aA rfl rfl rfl),aQ 4 (by kernel_rfl) (aA rfl rfl rfl),trivial⟩ (fun w hw=>bC  Tryz.underlying41 Tryz.sizeOf105 rfl rfl rfl (by omega) rfl) (aE rfl)) (mY 7 rfl rfl (by kernel_rfl) (rgV (li:=[(52,_)]) rfl (aT rfl) ⟨aQ 5 (by kernel_rfl) (aA rfl rfl rfl),trivial⟩ (fun w hw=>aW (vs:=[_,_,_]) Tryz.isAgg105 Tryz.sizeOf105 rfl (aB.agree (aL hw 0) (Nat.zero_le _) (by assumption))) (aE rfl)) (mY 8 rfl rfl (by kernel_rfl) (rgV (li:=[(5,_)]) rfl (aT rfl) ⟨dK (by kernel_rfl) rfl,trivial⟩ (fun w hw=>aV (o':=4) cY rfl rfl) (aE rfl)) (mY 9 rfl rfl (by kernel_rfl) (rgV (li:=[(54,_)]) rfl (aT rfl) ⟨aQ 7 (by kernel_rfl) (aA rfl rfl rfl),trivial⟩ (fun w hw=>bB Tryz.isAgg41 rfl ((aL hw 0).cell (Nat.zero_le _) (aK (hS.at_ 2 rfl) rfl))) (aE rfl)) (mY 10 rfl rfl (by kernel_rfl) (rgV (li:=[(8,_)]) rfl (aT rfl) ⟨dK (by kernel_rfl) rfl,trivial⟩ (fun w hw=>aZ rfl) (aE rfl)) (mY 11 rfl rfl (by kernel_rfl) (rgV (li:=[(55,_),(56,_)]) rfl (aT rfl) ⟨aQ 8 (by kernel_rfl) (aA rfl rfl rfl),aQ 9 (by kernel_rfl) (aA rfl rfl rfl),trivial⟩ (fun w hw=>bC  Tryz.underlying41 Tryz.sizeOf105 rfl rfl rfl (by omega) rfl) (aE rfl)) (mY 12 rfl rfl (by kernel_rfl) (rgV (li:=[(57,_)]) rfl (aT rfl) ⟨aQ 10 (by kernel_rfl) (aA rfl rfl rfl),trivial⟩ (fun w hw=>aW (vs:=[_,_,_]) Tryz.isAgg105 Tryz.sizeOf105 rfl (aB.agree (aL hw 0) (Nat.zero_le _) (by assumption))) (aE rfl)) ?_)))))))))))
       refine mY 13 rfl rfl (by kernel_rfl) (cS [isV _,isV _] rfl goes_88 (aT rfl) ⟨bZ (aQ 6 (by kernel_rfl) (aA rfl rfl rfl)),bZ (aQ 11 (by kernel_rfl) (aA rfl rfl rfl)),trivial⟩ (fun vs w' hb hh=>by have e:=cA (us:=[_,_]) hh;subst e;exact (jn_any x1 y1 (vx.oks k x1 hx1) (vy.oks k y1 hy1) _).mono fun e w2 h=>⟨_,h.1,rfl,h.2⟩) (aE rfl)) ?_
       refine blp_q 14 rfl rfl (by kernel_rfl) (oQ W.heap.size 1 105 _) (Hr) (rg_rowV (us:=[.agg (List.toArray [_,_,_])]) rfl (aT rfl) Tryz.underlying41 Tryz.sizeOf105 Tryz.zeroValue105 rfl rfl ⟨bZ (aQ 12 (by kernel_rfl) (aA rfl rfl rfl)),trivial⟩ (bs_41_1 _ _ _) (aE rfl)) (blp_app 15 rfl rfl (Pv 16 rfl rfl (rgV (li:=[(7,_)]) rfl (aT rfl) ⟨dK (by kernel_rfl) rfl,trivial⟩ (fun w hw=>aV (o':=4) cY rfl rfl) (aE rfl)) (lgV (li:=[(7,_)]) rfl (aT rfl) ⟨dK (by kernel_rfl) rfl,trivial⟩ (fun w=>aV (o':=4) cY rfl rfl) (aE rfl) rfl) (blp_nil ⟨_,_,aQ 1 (by kernel_rfl) (aA rfl rfl rfl),aQ 13 (by kernel_rfl) (aA rfl rfl rfl),E4 rfl rfl,?_⟩)))
       intro A14 v14 news14 W14 hbR hqA14 hS'
       clear hS;have hS:=hS';clear hS'
       cases hqA14
       refine aH (aH (aH (aH (aH (aH (aH (aH (aH (aH (aH (aH (aH ?_))))))))))))
       refine dF ?_;intro _ _
       refine aH (aH ?_)
       obtain ⟨g9,c9,e9,_,_⟩:=(hS.row 0 rfl).form (by show 0 < k+1;omega)
       dsimp only at e9
       subst e9
       refine cQ (eC (i:=0) (cs':=[_,_,_,_,_,_]) (O':=[_,_,_,_,_]) hS Tryz.sizeOf41 rfl rfl rfl rfl rfl rfl rfl fun W15 hS=>aO (XF.blkN (XF.thenN (aP (aI rfl rfl (dE rfl rfl (IntWalk.i64_in _ (by omega)) rfl (aC rfl rfl (aO ?_))))))))
       simp only [← ecx,← eca] at hS
       exact XF.round (m - (k+1)) [(3,_),(4,_),(5,_),(6,_),(7,_),(8,_)] (by omega) ⟨rfl,rfl,rfl,rfl,rfl,rfl,trivial⟩ ⟨k+1,_,by omega,rfl,rfl,by rw [N4 h1];exact hS.clear⟩
      ·have hc44:=of_decide_eq_false hc;clear hc
       refine eN (XF.thenX (XF.thenX (XF.blkX (XF.blkN (XF.thenN (aN ?_))))))
       obtain rfl:k=m:=by omega
       have hrow:=hS.row 0 rfl
       have hln:(cV f.cells g.cells).length=k:=by unfold cV;rw [List.length_zipWith,vx.len,vy.len,Nat.min_self]
       have ht0:(cV f.cells g.cells).take k=cV f.cells g.cells:=List.take_of_length_le (by rw [hln];exact Nat.le_refl _)
       simp only [ht0] at hrow
       obtain ⟨hn,a9,c9,rfl,_,_⟩:=iW hrow
       clear hrow
       refine aP (aS (vs:=[_,_,_,_,_,_]) Tryz.isAgg44 Tryz.sizeOf44 rfl (aB.own (j:=0) (m:=6) (hS.at_ 0 rfl) rfl) rfl (aU (i:=1) (vs:=[_,_,_,_,_,_]) (cs':=[_,_,_,_,_,_]) (O':=[_,_,_,_,_]) hS Tryz.sizeOf44 rfl rfl rfl rfl rfl rfl rfl fun W16 hS=>aO (XF.thenN (bT (XF.res (eH (vs:=[_,_,_,_,_,_]) Tryz.results44 Tryz.isAgg44 Tryz.sizeOf44 rfl (aB.own (j:=0) (m:=6) (hS.at_ 1 rfl) rfl)) ?_)))))
       have hrow:=hS.row 0 rfl
       simp only [ht0] at hrow
       obtain ⟨_,a8,c8,e8,hr9,hf9⟩:=iW hrow
       cases e8
       refine ⟨vF a9 c9 (cV f.cells g.cells),?_,fun W2 hW=>((Ru (k:=w.heap.size) hx hy hf hg hr9 (fun ad e=>(hf9 ad e).1)).agree hW.2).is,hS.below⟩
       show _=Ending.returned (Value.agg #[.bool false,.int .i64 0,.int .u64 ((0:Nat):Int),.slice none 0 0,.slice a9 (cV f.cells g.cells).length c9,.slice none 0 0])
       rw [hln]
       rfl
     ·have hc39:=of_decide_eq_false hc;clear hc
      refine aN (aP (cN rfl rfl rfl (aC rfl rfl (aO (XF.thenN (bA rfl (fun hc=>absurd (of_decide_eq_true hc) (by exact nK hp)) (fun hc=>?_)))))))
      have hc:=of_decide_eq_false hc
      refine bM (XF.blkN (XF.thenN (aN (aP (aS (vs:=[_,_,_,_,_,_]) Tryz.isAgg44 Tryz.sizeOf44 rfl (aB.own (j:=0) (m:=6) (hS.at_ 0 rfl) rfl) rfl (aU (i:=1) (vs:=[_,_,_,_,_,_]) (cs':=[_,_,_,_,_,_]) (O':=[_,_,_,_,_]) hS Tryz.sizeOf44 rfl rfl rfl rfl rfl rfl rfl fun W17 hS=>aO (XF.thenN (bT (XF.res (eH (vs:=[_,_,_,_,_,_]) Tryz.results44 Tryz.isAgg44 Tryz.sizeOf44 rfl (aB.own (j:=0) (m:=6) (hS.at_ 1 rfl) rfl)) ?_)))))))))
      have e1:t=1:=by
       have:=(fO hp).2
       omega
      subst e1
      exact yY (Kx hx hy hf hg) hS.below
theorem Ed (M:World→Prop) (hM:qG M) (t n u m:Int) (a1 a2:Option Addr) (c1 c2 b off sc:Nat) (w:World) (hs1:S3 w b off ⟨t,n,a1,0,c1⟩) (hs2:S3 w b (off+3) ⟨u,m,a2,0,c2⟩) (hp1:bE t n 0=true) (hp2:bE u m 0=true)(fra fca:Option Addr) (frc fcc fpc fb fo:Nat) (f1 f2:WF) (x1 x2:PF) (hf6:W6 w fb fo f1) (hf7:W6 w fb (fo+6) f2) (hx1:sQ M t n f1 x1) (hx2:sQ M u m f2 x2)(gra gca:Option Addr) (grc gcc gpc gb go:Nat) (g1 g2:WF) (y1 y2:PF) (hg6:W6 w gb go g1) (hg7:W6 w gb (go+6) g2) (hy1:sQ M t n g1 y1) (hy2:sQ M u m g2 y2) (hw:M w) :
  Calls Tryz.prog 44 #[.agg #[.int .i64 5,.int .i64 0,.slice (some ⟨b,off,none⟩) 2 sc],.agg #[.bool false,.int .i64 0,.int .u64 0,.slice fra 0 frc,.slice fca 0 fcc,.slice (some ⟨fb,fo,none⟩) 2 fpc],.agg #[.bool false,.int .i64 0,.int .u64 0,.slice gra 0 grc,.slice gca 0 gcc,.slice (some ⟨gb,go,none⟩) 2 gpc]] w (Rs M (.two t n u m) (.two (dC t n x1 y1) (dC u m x2 y2)) w):=by
 refine cE (args:=[.agg #[.int .i64 5,.int .i64 0,.slice (some ⟨b,off,none⟩) 2 sc],.agg #[.bool false,.int .i64 0,.int .u64 0,.slice fra 0 frc,.slice fca 0 fcc,.slice (some ⟨fb,fo,none⟩) 2 fpc],.agg #[.bool false,.int .i64 0,.int .u64 0,.slice gra 0 grc,.slice gca 0 gcc,.slice (some ⟨gb,go,none⟩) 2 gpc]]) Tryz.func44 rfl Tryz.ntmps44 rfl ?_
 have hS:=St.start w
 refine aN (aP (bW (cs:=[_,_,_]) hS rfl rfl rfl fun B1 W1 hS=>bW (cs:=[_,_,_,_,_,_]) hS rfl rfl rfl fun B2 W2 hS=>bW (cs:=[_,_,_,_,_,_]) hS rfl rfl rfl fun B3 W3 hS=>bG (cs:=[_,_,_,_,_,_]) hS Tryz.zeroValue44 rfl rfl fun B4 W4 hS=>aO (XF.thenN (aN (aN (aP (aM (o':=0) dI rfl rfl rfl (aR Tryz.isAgg4 rfl (aK (hS.at_ 2 rfl) rfl) rfl (aO (XF.thenN (bA rfl (fun hc=>absurd hc (by decide)) (fun hc=>?_))))))))))))
 skip
 refine bM (XF.thenN (aN (aN (aP (aM (o':=0) dI rfl rfl rfl (aR Tryz.isAgg4 rfl (aK (hS.at_ 1 rfl) rfl) rfl (aO (XF.thenN (bA rfl (fun hc=>absurd hc (by decide)) (fun hc=>?_))))))))))
 skip
 refine bM (XF.thenN (aN (aP (dR (us:=[]) rfl (xD) rfl (bG (cs:=[_,_,_,_,_,_]) hS Tryz.zeroValue44 rfl rfl fun B5 W5 hS=>aU (i:=0) (vs:=[_,_,_,_,_,_]) (cs':=[_,_,_,_,_,_]) (O':=[_,_,_,_,_]) hS Tryz.sizeOf44 rfl rfl rfl rfl rfl rfl rfl fun W6 hS=>aO (XF.thenN (aN (aN (aP (aM (o':=0) fJ rfl rfl rfl (aR Tryz.isAgg22 rfl (aK (hS.at_ 4 rfl) rfl) rfl (aO (XF.thenN (bX (aN (aP (cN rfl rfl rfl (aC rfl rfl (aO (XF.thenN (bA rfl (fun hc=>absurd (of_decide_eq_true hc) (by omega)) (fun hc=>?_))))))))))))))))))))))
 have hc:=of_decide_eq_false hc
 refine aN (aP (cN rfl rfl rfl (aC rfl rfl (aO (XF.thenN (bA rfl (fun hc=>absurd (of_decide_eq_true hc) (by omega)) (fun hc=>?_)))))))
 have hc:=of_decide_eq_false hc
 refine aN (aP (cN rfl rfl rfl (aC rfl rfl (aO (XF.thenN (bA rfl (fun hc=>absurd (of_decide_eq_true hc) (by omega)) (fun hc=>?_)))))))
 have hc:=of_decide_eq_false hc
 refine aN (aP (cN rfl rfl rfl (aC rfl rfl (aO (XF.thenN (bA rfl (fun hc=>?_) (fun hc=>absurd (of_decide_eq_false hc) (by omega))))))))
 have hc:=of_decide_eq_true hc
 have hsz:=hS.below.size
 have k1:=aB.agree hS.agree (Nat.zero_le _) hs1.cells
 have k2:=aB.agree hS.agree (Nat.zero_le _) hs2.cells
 have kf1:=aB.agree hS.agree (Nat.zero_le _) hf6.cells
 have kf2:=aB.agree hS.agree (Nat.zero_le _) hf7.cells
 have kg1:=aB.agree hS.agree (Nat.zero_le _) hg6.cells
 have kg2:=aB.agree hS.agree (Nat.zero_le _) hg7.cells
 refine vT cD 28 hS rfl rfl (by kernel_rfl) (by kernel_rfl) (by kernel_rfl) (fun d hd=>by cases hd) (cW 1 rfl 3 rfl (by kernel_rfl) rfl (fun w hw=>aV (o':=2) fT rfl rfl) rfl (bP 2 rfl 65 0 rfl (by kernel_rfl) rfl rfl (fun w hw=>bB Tryz.isAgg23 rfl ((aL hw 0).cell (Nat.zero_le _) (aK (hS.at_ 4 rfl) rfl))) rfl (bP 3 rfl 66 1 rfl (by kernel_rfl) rfl rfl (fun w hw=>bC (j:=0) Tryz.underlying23 Tryz.sizeOf25 rfl rfl rfl (by omega) (Nat.add_zero _)) rfl (bP 4 rfl 67 2 rfl (by kernel_rfl) rfl rfl (fun w hw=>aW (vs:=[_,_,_]) Tryz.isAgg25 Tryz.sizeOf25 rfl (aB.agree (aL hw 0) (Nat.zero_le _) (by assumption))) rfl (cW 5 rfl 4 rfl (by kernel_rfl) rfl (fun w hw=>aV (o':=5) cK rfl rfl) rfl (bP 6 rfl 69 4 rfl (by kernel_rfl) rfl rfl (fun w hw=>bB Tryz.isAgg42 rfl ((aL hw 0).cell (Nat.zero_le _) (aK (hS.at_ 3 rfl) rfl))) rfl (bP 7 rfl 70 5 rfl (by kernel_rfl) rfl rfl (fun w hw=>bC (j:=0) Tryz.underlying42 Tryz.sizeOf44 rfl rfl rfl (by omega) (Nat.add_zero _)) rfl (bP 8 rfl 71 6 rfl (by kernel_rfl) rfl rfl (fun w hw=>aW (vs:=[_,_,_,_,_,_]) Tryz.isAgg44 Tryz.sizeOf44 rfl (aB.agree (aL hw 0) (Nat.zero_le _) (by assumption))) rfl (cW 9 rfl 5 rfl (by kernel_rfl) rfl (fun w hw=>aV (o':=5) cK rfl rfl) rfl (bP 10 rfl 73 8 rfl (by kernel_rfl) rfl rfl (fun w hw=>bB Tryz.isAgg42 rfl ((aL hw 0).cell (Nat.zero_le _) (aK (hS.at_ 2 rfl) rfl))) rfl (bP 11 rfl 74 9 rfl (by kernel_rfl) rfl rfl (fun w hw=>bC (j:=0) Tryz.underlying42 Tryz.sizeOf44 rfl rfl rfl (by omega) (Nat.add_zero _)) rfl (bP 12 rfl 75 10 rfl (by kernel_rfl) rfl rfl (fun w hw=>aW (vs:=[_,_,_,_,_,_]) Tryz.isAgg44 Tryz.sizeOf44 rfl (aB.agree (aL hw 0) (Nat.zero_le _) (by assumption))) rfl ?_))))))))))))
 refine aJ 13 rfl (tX M W6.heap.size (.one t n) (.one (dC t n x1 y1))) (sR) (cS [isV _,isV _,isV _] rfl C0 (aT rfl) ⟨bZ (aQ 3 (by kernel_rfl) (aA rfl rfl rfl)),bZ (aQ 7 (by kernel_rfl) (aA rfl rfl rfl)),bZ (aQ 11 (by kernel_rfl) (aA rfl rfl rfl)),trivial⟩ (fun vs w' hb hh=>by have e:=cA (us:=[_,_,_]) hh;subst e;exact sS hb.size (mT M _ _ _ _ _ _ _ _ _ hp1 (hM _ _ hw (hS.below.trans (hb.mono hS.below.size))) hx1 hy1)) (aE rfl)) ?_
 refine cW 14 rfl 3 rfl (by kernel_rfl) rfl (fun w hw=>aV (o':=2) fT rfl rfl) rfl (bP 15 rfl 78 13 rfl (by kernel_rfl) rfl rfl (fun w hw=>bB Tryz.isAgg23 rfl ((aL hw 0).cell (Nat.zero_le _) (aK (hS.at_ 4 rfl) rfl))) rfl (bP 16 rfl 79 14 rfl (by kernel_rfl) rfl rfl (fun w hw=>bC (j:=1) Tryz.underlying23 Tryz.sizeOf25 rfl rfl rfl (by omega) rfl) rfl (bP 17 rfl 80 15 rfl (by kernel_rfl) rfl rfl (fun w hw=>aW (vs:=[_,_,_]) Tryz.isAgg25 Tryz.sizeOf25 rfl (aB.agree (aL hw 0) (Nat.zero_le _) (by assumption))) rfl (cW 18 rfl 4 rfl (by kernel_rfl) rfl (fun w hw=>aV (o':=5) cK rfl rfl) rfl (bP 19 rfl 82 17 rfl (by kernel_rfl) rfl rfl (fun w hw=>bB Tryz.isAgg42 rfl ((aL hw 0).cell (Nat.zero_le _) (aK (hS.at_ 3 rfl) rfl))) rfl (bP 20 rfl 83 18 rfl (by kernel_rfl) rfl rfl (fun w hw=>bC (j:=1) Tryz.underlying42 Tryz.sizeOf44 rfl rfl rfl (by omega) rfl) rfl (bP 21 rfl 84 19 rfl (by kernel_rfl) rfl rfl (fun w hw=>aW (vs:=[_,_,_,_,_,_]) Tryz.isAgg44 Tryz.sizeOf44 rfl (aB.agree (aL hw 0) (Nat.zero_le _) (by assumption))) rfl (cW 22 rfl 5 rfl (by kernel_rfl) rfl (fun w hw=>aV (o':=5) cK rfl rfl) rfl (bP 23 rfl 86 21 rfl (by kernel_rfl) rfl rfl (fun w hw=>bB Tryz.isAgg42 rfl ((aL hw 0).cell (Nat.zero_le _) (aK (hS.at_ 2 rfl) rfl))) rfl (bP 24 rfl 87 22 rfl (by kernel_rfl) rfl rfl (fun w hw=>bC (j:=1) Tryz.underlying42 Tryz.sizeOf44 rfl rfl rfl (by omega) rfl) rfl (bP 25 rfl 88 23 rfl (by kernel_rfl) rfl rfl (fun w hw=>aW (vs:=[_,_,_,_,_,_]) Tryz.isAgg44 Tryz.sizeOf44 rfl (aB.agree (aL hw 0) (Nat.zero_le _) (by assumption))) rfl ?_)))))))))))
 refine aJ 26 rfl (tX M W6.heap.size (.one u m) (.one (dC u m x2 y2))) (sR) (cS [isV _,isV _,isV _] rfl C0 (aT rfl) ⟨bZ (aQ 16 (by kernel_rfl) (aA rfl rfl rfl)),bZ (aQ 20 (by kernel_rfl) (aA rfl rfl rfl)),bZ (aQ 24 (by kernel_rfl) (aA rfl rfl rfl)),trivial⟩ (fun vs w' hb hh=>by have e:=cA (us:=[_,_,_]) hh;subst e;exact sS hb.size (mT M _ _ _ _ _ _ _ _ _ hp2 (hM _ _ hw (hS.below.trans (hb.mono hS.below.size))) hx2 hy2)) (aE rfl)) ?_
 refine aJ 27 rfl (yZ M W6.heap.size (.two t n u m) (.two (dC t n x1 y1) (dC u m x2 y2))) (Ah) (N5 rfl (aT rfl) ⟨bZ (aQ 12 (by kernel_rfl) (aA rfl rfl rfl)),bZ (aQ 25 (by kernel_rfl) (aA rfl rfl rfl)),trivial⟩ (aE rfl)) (cW 28 rfl 7 rfl (by kernel_rfl) rfl (fun w hw=>aV (o':=5) cK rfl rfl) rfl (dV ?_))
 intro W7 hbR hS'
 clear hS;have hS:=hS';clear hS'
 refine aH (aH (aH (aH (aH (aH (aH (aH (aH (aH (aH (aH ?_)))))))))))
 refine dF ?_;rintro _ ⟨v1,rfl,hn1⟩
 refine aH (aH (aH (aH (aH (aH (aH (aH (aH (aH (aH (aH ?_)))))))))))
 refine dF ?_;rintro _ ⟨v2,rfl,hn2⟩
 refine dF ?_;rintro _ ⟨b9,rfl,hn9⟩
 refine aH (cQ (eC (i:=0) (cs':=[_,_,_,_,_,_]) (O':=[_,_,_,_,_]) hS Tryz.sizeOf42 rfl rfl rfl rfl rfl rfl rfl fun W8 hS=>aO (XF.blkN (XF.thenN (aN (aP (aS (vs:=[_,_,_,_,_,_]) Tryz.isAgg44 Tryz.sizeOf44 rfl (aB.own (j:=0) (m:=6) (hS.at_ 0 rfl) rfl) rfl (aU (i:=1) (vs:=[_,_,_,_,_,_]) (cs':=[_,_,_,_,_,_]) (O':=[_,_,_,_,_]) hS Tryz.sizeOf44 rfl rfl rfl rfl rfl rfl rfl fun W9 hS=>aO (XF.thenN (bT (XF.res (eH (vs:=[_,_,_,_,_,_]) Tryz.results44 Tryz.isAgg44 Tryz.sizeOf44 rfl (aB.own (j:=0) (m:=6) (hS.at_ 1 rfl) rfl)) ?_)))))))))))
 exact ⟨tQ b9,rfl,hn9.mono fun W hW=>⟨hW.1,(hS.since 0 rfl).trans (hW.2.mono hsz)⟩,hS.below⟩
theorem oW.two {M:World→Prop} {t n u m:Int} {f:WF} {a b:PF} (h:oW M (.two t n u m) f (.two a b)):∃ (ra ca:Option Addr) (rc cc pc fb fo:Nat) (f1 f2:WF),f=⟨false,0,0,ra,0,rc,[],ca,0,cc,[],some ⟨fb,fo,none⟩,2,pc⟩∧(∀ W,M W→W6 W fb fo f1∧W6 W fb (fo+6) f2)∧sQ M t n f1 a∧sQ M u m f2 b:=by
 obtain ⟨h1,h2,h3,h4,blk,off,g,k,h5,h6,h7,h8⟩:=h
 obtain ⟨z,c,gg,ra,rl,rc,rows,ca,cl,cc,cells,pa,pl,pc⟩:=f
 simp only [WF.pf,pC,PF.mk.injEq] at h1
 obtain ⟨rfl,rfl,rfl,rfl,rfl⟩:=h1
 dsimp only at h2 h3 h4 h5
 subst h2;subst h3;subst h4;subst h5
 exact ⟨ra,ca,rc,cc,pc,blk,off,g,k,rfl,h6,h7,h8⟩
theorem I1 {M:World→Prop} {S:PS} {sf:SF} {f g:WF} {x y:PX} {w:World} (hM:qG M) (hs:SIs w S sf) (hok:S.ok) (hw:M w) (hx:oW M S f x) (hy:oW M S g y):Calls Tryz.prog 44 #[sf.val,f.val,g.val] w (Rs M S (bY S x y) w):=by
 cases S<;>cases x<;>cases y<;>first | exact hx.elim | exact hy.elim | skip
 ·obtain ⟨a,c,rfl⟩:=hs
  exact mT M _ _ _ _ _ _ _ _ _ hok hw hx hy
 ·obtain ⟨b,off,c,a1,c1,a2,c2,rfl,h1,h2⟩:=hs
  obtain ⟨ra,ca,rc,cc,pc,fb,fo,f1,f2,rfl,h6,h8,h9⟩:=hx.two
  obtain ⟨ra',ca',rc',cc',pc',gb,go,g1,g2,rfl,h6',h8',h9'⟩:=hy.two
  exact Ed M hM _ _ _ _ _ _ _ _ _ _ _ _ h1 h2 hok.1 hok.2 _ _ _ _ _ _ _ _ _ _ _ (h6 w hw).1 (h6 w hw).2 h8 h9 _ _ _ _ _ _ _ _ _ _ _ (h6' w hw).1 (h6' w hw).2 h8' h9' hw
def MK (M:World→Prop) (K:List (Nat×World)) (W:World):Prop:=M W∧∀ q∈K,dQ q.1 q.2 W
theorem MK.head {M:World→Prop} {W:World} {q:Nat×World} {K:List (Nat×World)} (h:MK M (q::K) W):dQ q.1 q.2 W:=h.2 q List.mem_cons_self
theorem MK.tail {M:World→Prop} {W:World} {q:Nat×World} {K:List (Nat×World)} (h:MK M (q::K) W):MK M K W:=⟨h.1,fun r hr=>h.2 r (List.mem_cons_of_mem _ hr)⟩
theorem MK.keep {M:World→Prop} {W W':World} {K:List (Nat×World)} (h:MK M K W) (hM:qG M) (hb:Below W.heap.size W W'):MK M K W':=⟨hM _ _ h.1 hb,fun q hq=>(h.2 q hq).trans (aL hb _)⟩
theorem N6 {M:World→Prop} (hM:qG M) (K:List (Nat×World)):qG (MK M K):=fun W W' h hb=>h.keep hM hb
theorem St.stays {M:World→Prop} {w0 W:World} {O:Own} {G:cO} {K:List (Nat×World)} (h:St w0 O G K W) (hM:qG M) (hw:M w0):MK M K W:=⟨hM _ _ hw h.below,fun q hq=>(h.kept q hq).1⟩
theorem one_le {lo n:Nat} {A:World} (h:lo≤n):∀ q∈[(n,A)],lo≤q.1:=fun q hq=>by
 simp only [List.mem_cons,List.not_mem_nil,or_false] at hq
 subst hq;exact h
theorem St.keep1 {w0 W:World} {O:Own} {G:cO} {q:Nat×World} {K:List (Nat×World)} (h:St w0 O G (q::K) W):St w0 O G [q] W:=h.keep [q] (fun r hr=>by
 simp only [List.mem_cons,List.not_mem_nil,or_false] at hr
 subst hr;exact List.mem_cons_self)
def XRet2 (M:World→Prop) (S:PS) (x:PX) (e0:Int) (w:World) (e:Ending) (w':World):Prop:=∃ f:WF,e = .returned (.tuple #[f.val,.int .i64 e0])∧oW (fun W=>M W∧dQ w.heap.size w' W) S f x∧Below w.heap.size w w'
def XLF (M:World→Prop) (S:PS) (fs:List WF) (xs:List PX):Prop:=fs.length=xs.length∧∀ (i:Nat) f x,fs[i]?=some f→xs[i]?=some x→oW M S f x
theorem XLF.is {M:World→Prop} {w:World} {S:PS} {fs:List WF} {xs:List PX} (h:XLF M S fs xs) (hw:M w):XL w S fs xs:=⟨h.1,fun i f x hf hx=>(h.2 i f x hf hx).is hw⟩
theorem XLF.at_ {M:World→Prop} {S:PS} {fs:List WF} {xs:List PX} (h:XLF M S fs xs) {k:Nat} (hk:k < fs.length):∃ f x,fs[k]?=some f∧xs[k]?=some x∧oW M S f x :=
 ⟨fs[k],xs[k]'(by have:=h.1;omega),by simp [hk],by have:=h.1;simp [show k < xs.length by omega],h.2 k _ _ (by simp [hk]) (by have:=h.1;simp [show k < xs.length by omega])⟩
theorem XL.far {w:World} {S:PS} {fs:List WF} {xs:List PX} (h:XL w S fs xs):XLF (fun W=>Below w.heap.size w W) S fs xs:=⟨h.1,fun i f x hf hx=>(h.2 i f x hf hx).far⟩
theorem Ee (w:World):qG (fun W=>Below w.heap.size w W):=fun W W' h hb=>h.trans (hb.mono h.size)
theorem Rv {S:PS} {x y:PX} (hx:OkX S x):[x,y].foldl (bY S) (bJ S)=bY S x y:=by
 simp only [List.foldl_cons,List.foldl_nil,oH hx]
theorem isR_ok {w:World} {S:PS} {sf:SF} {f:WF} {x:PX} (hs:SIs w S sf) (hok:S.ok) (hx:XIs w S f x):Calls Tryz.prog 78 #[sf.val,f.val] w fun e w'=>e = .returned (.bool true)∧Below w.heap.size w w':=by
 cases S<;>cases x<;>first | exact hx.elim | skip
 ·obtain ⟨a,c,rfl⟩:=hs
  exact lT _ _ _ _ _ _ hok (Nat.zero_le _) w (PIs.at_ hx) true (PIs.pw hx)
 ·obtain ⟨b,off,c,a1,c1,a2,c2,rfl,h1,h2⟩:=hs
  obtain ⟨ra,ca,rc,cc,pc,fb,fo,f1,f2,rfl,h6,h7,h8,h9⟩:=hx.two
  exact By 1 _ _ _ _ _ _ w (Dy h1 h2) hok.1 hok.2 1 (wU h6 h7 h8 h9) (fun _ _=>Nat.zero_le _) true (yP h8 h9)
theorem I3 {w:World} {t n:Int} {f g:WF} {x y:PF} (hx:PIs w t n f x) (hy:PIs w t n g y):eqW 1 (.mk f []) (.mk g [])=true↔x=y:=by
 rw [rC,← hx.pf,← hy.pf]
 simp [WF.pf]
theorem Lc {w:World} {t n:Int} {f:WF} {x:PF} (hx:PIs w t n f x) (d:Nat):WIn w (d+1) (.mk f []):=⟨hx.at_,hx.pl.symm,.inl rfl,by simp⟩
theorem wX {w:World} {t n:Int} {f:WF} {x:PF} (hx:PIs w t n f x) (k:Nat):smN (k+1) (.mk f [])=true:=by
 have h:=hx.rows64 (l:=0)
 simp only [smN,Bool.and_eq_true,decide_eq_true_eq,List.all_nil]
 exact ⟨by omega,by omega,by rw [hx.pl];decide,trivial⟩
theorem Gn {w:World} {S:PS} {f g:WF} {x y:PX} (hx:XIs w S f x) (hy:XIs w S g y) (r:Bool) (hr:r=true↔x=y):Calls Tryz.prog 48 #[f.val,g.val] w fun e w'=>e = .returned (.bool r)∧Below w.heap.size w w':=by
 cases S<;>cases x<;>cases y<;>first | exact hx.elim | exact hy.elim | skip
 ·refine (vJ 2 4 (.mk f []) (.mk g []) w (Lc hx 1) (Lc hy 1) (wX hx 3) (wX hy 3)).mono fun e w' h=>⟨h.1.trans (bF (Iw hr ?_)),h.2⟩
  rw [rC]
  have h1:=(I3 hx hy).symm
  rw [rC] at h1
  simp only [PX.one.injEq]
  exact h1
 ·obtain ⟨ra,ca,rc,cc,pc,fb,fo,f1,f2,rfl,h6,h7,h8,h9⟩:=hx.two
  obtain ⟨ra',ca',rc',cc',pc',gb,go,g1,g2,rfl,h6',h7',h8',h9'⟩:=hy.two
  have sm:∀ {t n u m:Int} {a b:PF} {f1 f2:WF} {ra ca:Option Addr} {rc cc pc fb fo:Nat},PIs w t n f1 a→PIs w u m f2 b→smN 4 (.mk ⟨false,0,0,ra,0,rc,[],ca,0,cc,[],some ⟨fb,fo,none⟩,2,pc⟩ [.mk f1 [],.mk f2 []])=true:=by
   intro t n u m a b f1 f2 ra ca rc cc pc fb fo ha hb
   have e1:=wX ha 2
   have e2:=wX hb 2
   show (decide _ && (decide _ && (decide _ && [WV.mk f1 [],WV.mk f2 []].all (smN 3))))=true
   simp [e1,e2]
  refine (vJ 2 4 _ _ w (wU h6 h7 h8 h9) (wU h6' h7' h8' h9') (sm h8 h9) (sm h8' h9')).mono fun e w' h=>⟨h.1.trans (bF (Iw hr ?_)),h.2⟩
  rw [rC]
  have e1:=I3 h8 h8'
  have e2:=I3 h9 h9'
  simp [e1,e2]
theorem allR_ok (S:PS) (sf:SF) (w:World) (hs:SIs w S sf) (hok:S.ok) (a:Option Addr) (c m:Nat) (fs:List WF) (xs:List PX) (hr:oV w a fs) (hx:XL w S fs xs) (hm:fs.length=m) (hmx:m≤9223372036854775807) :
  Calls Tryz.prog 101 #[sf.val,.slice a m c] w (fun e w'=>e = .returned (.int .i64 0)∧Below w.heap.size w w'):=by
 refine cE (args:=[sf.val,.slice a m c]) Tryz.func101 rfl Tryz.ntmps101 rfl ?_
 have hS:=St.start w
 refine aN (aP (bW (cs:=[_,_,_]) hS rfl rfl rfl fun B1 W1 hS=>aC rfl rfl (aO (XF.thenN (aN (aN (aP (aS (vs:=[_,_,_]) Tryz.isAgg25 Tryz.sizeOf25 rfl (aB.own (j:=0) (m:=3) (hS.at_ 0 rfl) rfl) rfl (cB (vs:=[_]) hS Cw rfl (Nw (hs.below hS.below) hok) rfl fun W2 hS=>dG rfl rfl rfl (aO (XF.thenN (bA rfl (fun hc=>absurd (of_decide_eq_true hc) (by omega)) (fun hc=>?_)))))))))))))
 have hc:=of_decide_eq_false hc
 refine bM (XF.thenN (aN (aN (aP (aC rfl rfl (aO (XF.thenN (bX (eO (fun q l W=>∃ k:Nat,k≤m∧q=m - k∧l=[(1,.slice a m c),(2,.pointer (some ⟨B1,0,none⟩)),(5,.int .i64 (k:Int))]∧St w [(B1,[.int .i64 sf.tag,.int .i64 sf.dim,.slice sf.a sf.len sf.cap],25)] [] [] W) (m - 0) ([(1,_),(2,_),(5,_)]) ⟨rfl,rfl,rfl,trivial⟩ (⟨0,Nat.zero_le _,rfl,rfl,hS.clear⟩) ?_)))))))))
 clear hS
 rintro q l W ⟨k,hkm,rfl,rfl,hS⟩
 refine aN (aN (aP (aI rfl rfl (aI rfl rfl (cJ Tryz.underlying42 rfl rfl (cU rfl rfl rfl (aO (XF.thenN (bA rfl (fun hc=>?_) (fun hc=>?_))))))))))
 ·have hc12:=of_decide_eq_true hc;clear hc
  have hk:k < m:=by omega
  obtain ⟨f,x,hf,hxk,hxx⟩:=hx.at_ (k:=k) (by omega)
  obtain ⟨b,off,rfl,h6⟩:=hr.at_ hf
  have k1:=aB.agree hS.agree (Nat.zero_le _) h6.cells
  refine bM (XF.thenN (aN (bX (aN (lB (m:=7) cD hS (by kernel_rfl) (by kernel_rfl) rfl (cW 1 rfl 2 rfl (by kernel_rfl) rfl (fun w hw=>aW (vs:=[_,_,_]) Tryz.isAgg25 Tryz.sizeOf25 rfl (aB.agree (aL hw 0) (Nat.zero_le _) (aB.own (j:=0) (m:=3) (hS.at_ 0 rfl) rfl))) rfl (cW 2 rfl 1 rfl (by kernel_rfl) rfl (fun w hw=>aZ rfl) rfl (cW 3 rfl 5 rfl (by kernel_rfl) rfl (fun w hw=>aZ rfl) rfl (aJ 4 rfl (isV _) (aD _) (rgV (li:=[(16,_),(17,_)]) rfl (aT rfl) ⟨aQ 1 (by kernel_rfl) (aA rfl rfl rfl),aQ 2 (by kernel_rfl) (aA rfl rfl rfl),trivial⟩ (fun w hw=>bC  Tryz.underlying42 Tryz.sizeOf44 rfl rfl rfl (by omega) rfl) (aE rfl)) (bP 5 rfl 18 3 rfl (by kernel_rfl) rfl rfl (fun w hw=>aW (vs:=[_,_,_,_,_,_]) Tryz.isAgg44 Tryz.sizeOf44 rfl (aB.agree (aL hw 0) (Nat.zero_le _) (by assumption))) rfl ?_))))))))))
  refine aJ 6 rfl (isV (.bool true)) (aD _) (cS [isV _,isV _] rfl tA (aT rfl) ⟨bZ (aQ 0 (by kernel_rfl) (aA rfl rfl rfl)),bZ (aQ 4 (by kernel_rfl) (aA rfl rfl rfl)),trivial⟩ (fun vs w' hb hh=>by have e:=cA (us:=[_,_]) hh;subst e;exact (isR_ok (hs.below (hS.below.trans (hb.mono hS.below.size))) hok (hxx.below (hS.below.trans (hb.mono hS.below.size)))).mono fun e w2 h=>⟨_,h.1,rfl,h.2⟩) (aE rfl)) ?_
  refine aJ 7 rfl (isV (.bool false)) (aD _) (oT (li:=[(20,_)]) rfl (aT rfl) ⟨aQ 5 (by kernel_rfl) (aA rfl rfl rfl),trivial⟩ (fun w hw=>jE rfl) (rfl) (aE rfl)) (dV ?_)
  intro W3 hbR hS'
  clear hS;have hS:=hS';clear hS'
  refine aH (aH (aH (aH (aH (aH (aH (cQ (XF.thenN (Ez rfl (bM (XF.blkN (XF.thenN (aP (aI rfl rfl (dE rfl rfl (IntWalk.i64_in _ (by omega)) rfl (aC rfl rfl (aO ?_)))))))))))))))))
  exact XF.round (m - (k+1)) [(1,_),(2,_),(5,_)] (by omega) ⟨rfl,rfl,rfl,trivial⟩ ⟨k+1,by omega,rfl,rfl,hS.clear⟩
 ·have hc12:=of_decide_eq_false hc;clear hc
  refine eN (XF.thenX (XF.thenX (XF.blkX (XF.thenN (aN (aP (aC rfl rfl (aO (XF.thenN (bT (XF.res (cH Tryz.results101 rfl) ?_)))))))))))
  exact ⟨rfl,hS.below⟩
theorem Gq (S:PS) (sf:SF) (w:World) (hs:SIs w S sf) (hok:S.ok) (M:World→Prop) (hM:qG M) (hw:M w) (a:Option Addr) (c m:Nat) (fs:List WF) (xs:List PX) (hr:oV w a fs) (hx:XLF M S fs xs) (hm:fs.length=m) (hmx:m≤9223372036854775807) :
  Calls Tryz.prog 70 #[sf.val,.slice a m c] w (XRet2 M S (xs.foldl (bY S) (bJ S)) 0 w):=by
 refine cE (args:=[sf.val,.slice a m c]) Tryz.func70 rfl Tryz.ntmps70 rfl ?_
 have hS:=St.start w
 refine aN (aP (bW (cs:=[_,_,_]) hS rfl rfl rfl fun B1 W1 hS=>bG (cs:=[_,_,_,_,_,_]) hS Tryz.zeroValue44 rfl rfl fun B2 W2 hS=>aC rfl rfl (aO (XF.thenN (aN (aP (aS (vs:=[_,_,_]) Tryz.isAgg25 Tryz.sizeOf25 rfl (aB.own (j:=0) (m:=3) (hS.at_ 1 rfl) rfl) rfl (aI rfl rfl (cB (vs:=[_,_]) hS Pn rfl (allR_ok S sf _ (hs.below hS.below) hok a c m fs xs (hr.below hS.below) ((hx.is hw).below hS.below) hm hmx) rfl fun W3 hS=>aC rfl rfl (aO (XF.thenN (aN (aN (aP (aI rfl rfl (dG rfl rfl rfl (aO (XF.thenN (bA rfl (fun hc=>absurd (of_decide_eq_true hc) (by omega)) (fun hc=>?_))))))))))))))))))))
 have hc:=of_decide_eq_false hc
 refine bM (XF.thenN (aN (aP (aS (vs:=[_,_,_]) Tryz.isAgg25 Tryz.sizeOf25 rfl (aB.own (j:=0) (m:=3) (hS.at_ 1 rfl) rfl) rfl ?_))))
 have hsz0:=hS.below.size
 refine cR (vs:=[_]) hS xH rfl (Rr (hs.below hS.below) hok) rfl ?_
 rintro e W4 ⟨f0,rfl,hn,hb⟩
 refine ⟨_,rfl,hb,fun hS'=>?_⟩
 clear hS;have hS:=hS';clear hS'
 refine bG (cs:=[_,_,_,_,_,_]) hS Tryz.zeroValue44 rfl rfl fun B5 W5 hS=>aU (i:=0) (vs:=[_,_,_,_,_,_]) (cs':=[_,_,_,_,_,_]) (O':=[_,_,_]) hS Tryz.sizeOf44 rfl rfl rfl rfl rfl rfl rfl fun W6 hS=>aO (XF.thenN (aN (aN (aP (aC rfl rfl (aO (XF.thenN (bX (eO (fun q l W=>∃ (k:Nat) (f0:WF) (K:List (Nat×World)),k≤m∧q=m - k∧l=[(1,.slice a m c),(2,.pointer (some ⟨B1,0,none⟩)),(4,.pointer (some ⟨B2,0,none⟩)),(7,.pointer (some ⟨B5,0,none⟩)),(8,.int .i64 (k:Int))]∧oW (MK M K) S f0 ((xs.take k).foldl (bY S) (bJ S))∧(∀ q∈K,w.heap.size≤q.1)∧St w [(B5,f0.six,44),(B2,[.bool false,.int .i64 0,.int .u64 0,.slice none 0 0,.slice none 0 0,.slice none 0 0],44),(B1,[.int .i64 sf.tag,.int .i64 sf.dim,.slice sf.a sf.len sf.cap],25)] [] K W) (m - 0) ([(1,_),(2,_),(4,_),(7,_),(8,_)]) ⟨rfl,rfl,rfl,rfl,rfl,trivial⟩ (⟨0,f0,_,Nat.zero_le _,rfl,rfl,hn.far.mono (fun W2 h2=>h2.2 _ (List.mem_of_getElem? (i:=0) rfl)),one_le hsz0,hS.keep1⟩) ?_)))))))))
 clear hS
 rintro q l W ⟨k,f0,K,hkm,rfl,rfl,hn0,hK,hS⟩
 refine aN (aN (aP (aI rfl rfl (aI rfl rfl (cJ Tryz.underlying42 rfl rfl (cU rfl rfl rfl (aO (XF.thenN (bA rfl (fun hc=>?_) (fun hc=>?_))))))))))
 ·have hc21:=of_decide_eq_true hc;clear hc
  have hk:k < m:=by omega
  obtain ⟨f,x,hf,hxk,hxx⟩:=hx.at_ (k:=k) (by omega)
  obtain ⟨b,off,rfl,h6⟩:=hr.at_ hf
  have k1:=aB.agree hS.agree (Nat.zero_le _) h6.cells
  have hsz2:=hS.below.size
  refine bM (XF.thenN (aN (bX (vT cD 7 hS rfl rfl (by kernel_rfl) (by kernel_rfl) (by kernel_rfl) (fun d hd=>by cases hd) (cW 1 rfl 2 rfl (by kernel_rfl) rfl (fun w hw=>aW (vs:=[_,_,_]) Tryz.isAgg25 Tryz.sizeOf25 rfl (aB.agree (aL hw 0) (Nat.zero_le _) (aB.own (j:=0) (m:=3) (hS.at_ 2 rfl) rfl))) rfl (cW 2 rfl 7 rfl (by kernel_rfl) rfl (fun w hw=>aW (vs:=[_,_,_,_,_,_]) Tryz.isAgg44 Tryz.sizeOf44 rfl (aB.agree (aL hw 0) (Nat.zero_le _) (aB.own (j:=0) (m:=6) (hS.at_ 0 rfl) rfl))) rfl (cW 3 rfl 1 rfl (by kernel_rfl) rfl (fun w hw=>aZ rfl) rfl (cW 4 rfl 8 rfl (by kernel_rfl) rfl (fun w hw=>aZ rfl) rfl (aJ 5 rfl (isV _) (aD _) (rgV (li:=[(26,_),(27,_)]) rfl (aT rfl) ⟨aQ 2 (by kernel_rfl) (aA rfl rfl rfl),aQ 3 (by kernel_rfl) (aA rfl rfl rfl),trivial⟩ (fun w hw=>bC  Tryz.underlying42 Tryz.sizeOf44 rfl rfl rfl (by omega) rfl) (aE rfl)) (bP 6 rfl 28 4 rfl (by kernel_rfl) rfl rfl (fun w hw=>aW (vs:=[_,_,_,_,_,_]) Tryz.isAgg44 Tryz.sizeOf44 rfl (aB.agree (aL hw 0) (Nat.zero_le _) (by assumption))) rfl ?_))))))))))
  refine aJ 7 rfl (tX (MK M K) W.heap.size S (bY S ((xs.take k).foldl (bY S) (bJ S)) x)) (sR) (cS [isV _,isV _,isV _] rfl C0 (aT rfl) ⟨bZ (aQ 0 (by kernel_rfl) (aA rfl rfl rfl)),bZ (aQ 1 (by kernel_rfl) (aA rfl rfl rfl)),bZ (aQ 5 (by kernel_rfl) (aA rfl rfl rfl)),trivial⟩ (fun vs w' hb hh=>by have e:=cA (us:=[_,_,_]) hh;subst e;exact sS hb.size (I1 (N6 hM K) (hs.below (hS.below.trans (hb.mono hS.below.size))) hok ((hS.stays hM hw).keep hM hb) hn0 (hxx.mono fun W2 h2=>h2.1))) (aE rfl)) ?_
  refine dV ?_
  intro W7 hbR hS'
  clear hS;have hS:=hS';clear hS'
  refine aH (aH (aH (aH (aH (aH ?_)))))
  refine dF ?_;rintro _ ⟨f2,rfl,hn2⟩;have hn2:=hn2.mono (M':=MK M ((_,W7)::K)) (fun W2 h2=>⟨h2.tail,h2.head⟩)
  refine cQ (aU (i:=0) (vs:=[_,_,_,_,_,_]) (cs':=[_,_,_,_,_,_]) (O':=[_,_,_]) hS Tryz.sizeOf44 rfl rfl rfl rfl rfl rfl rfl fun W8 hS=>aO (XF.blkN (XF.thenN (aP (aI rfl rfl (dE rfl rfl (IntWalk.i64_in _ (by omega)) rfl (aC rfl rfl (aO ?_))))))))
  exact XF.round (m - (k+1)) [(1,_),(2,_),(4,_),(7,_),(8,_)] (by omega) ⟨rfl,rfl,rfl,rfl,rfl,trivial⟩ ⟨k+1,f2,_,by omega,rfl,rfl,by rw [vI hxk];exact hn2,(fun q hq=>by rcases List.mem_cons.1 hq with rfl | hq;exact hsz2;exact hK q hq),hS⟩
 ·have hc21:=of_decide_eq_false hc;clear hc
  refine eN (XF.thenX (XF.thenX (XF.blkX (XF.thenN (aN (aP (aS (vs:=[_,_,_,_,_,_]) Tryz.isAgg44 Tryz.sizeOf44 rfl (aB.own (j:=0) (m:=6) (hS.at_ 0 rfl) rfl) rfl (aU (i:=1) (vs:=[_,_,_,_,_,_]) (cs':=[_,_,_,_,_,_]) (O':=[_,_,_]) hS Tryz.sizeOf44 rfl rfl rfl rfl rfl rfl rfl fun W9 hS=>aC rfl rfl (aO (XF.thenN (bT (XF.res (sV (vs:=[_,_,_,_,_,_]) Tryz.results70 Tryz.isAgg44 Tryz.sizeOf44 rfl (aB.own (j:=0) (m:=6) (hS.at_ 1 rfl) rfl) rfl) ?_))))))))))))
  have e1:xs.take k=xs:=List.take_of_length_le (by have:=hx.1;omega)
  rw [e1] at hn0
  exact ⟨f0,rfl,hn0.mono (fun W2 h2=>⟨h2.1,fun q hq=>((hS.kept q hq).1).trans (h2.2.mono (hK q hq))⟩),hS.below⟩
theorem N7 (S:PS) (sf:SF) (f g:WF) (x y:PX) (w:World) (hs:SIs w S sf) (hok:S.ok) (hx:XIs w S f x) (hy:XIs w S g y) (r:Bool) (hr:r=true↔bY S x y=y) :
  Calls Tryz.prog 24 #[sf.val,f.val,g.val] w (fun e w'=>e = .returned (.tuple #[.bool r,.int .i64 0])∧Below w.heap.size w w'):=by
 refine cE (args:=[sf.val,f.val,g.val]) Tryz.func24 rfl Tryz.ntmps24 rfl ?_
 have hS:=St.start w
 refine aN (aP (bW (cs:=[_,_,_]) hS rfl rfl rfl fun B1 W1 hS=>bW (cs:=[_,_,_,_,_,_]) hS rfl rfl rfl fun B2 W2 hS=>bW (cs:=[_,_,_,_,_,_]) hS rfl rfl rfl fun B3 W3 hS=>aC rfl rfl (aC rfl rfl (aO (XF.thenN (aN (aP (aS (vs:=[_,_,_]) Tryz.isAgg25 Tryz.sizeOf25 rfl (aB.own (j:=0) (m:=3) (hS.at_ 2 rfl) rfl) rfl (aS (vs:=[_,_,_,_,_,_]) Tryz.isAgg44 Tryz.sizeOf44 rfl (aB.own (j:=0) (m:=6) (hS.at_ 1 rfl) rfl) rfl (aS (vs:=[_,_,_,_,_,_]) Tryz.isAgg44 Tryz.sizeOf44 rfl (aB.own (j:=0) (m:=6) (hS.at_ 0 rfl) rfl) rfl (cZ (us:=[(0,.agg (List.toArray [_,_,_,_,_,_])),(1,.agg (List.toArray [_,_,_,_,_,_]))]) hS Tryz.underlying42 Tryz.sizeOf44 Tryz.zeroValue44 rfl rfl rfl (qQ _ _ _ _ _ _ _ _ _ _ _ _) rfl fun B4 W4 hS=>cR (vs:=[_,_]) hS goes_70 rfl (Gq S sf _ (hs.below hS.below) hok _ (Ee w) hS.below _ 2 2 [f,g] [x,y] (Cb (hS.at_ 0 rfl)) (mL hx (mL hy Dz)).far rfl (by decide)) rfl ?_)))))))))))
 rintro e W5 ⟨f2,rfl,hf2,hb⟩
 refine ⟨_,rfl,hb,fun hS'=>?_⟩
 clear hS;have hS:=hS';clear hS' hb
 refine aI rfl rfl (bK rfl rfl rfl (bK rfl rfl rfl (bG (cs:=[_,_,_,_,_,_]) hS Tryz.zeroValue44 rfl rfl fun B6 W6 hS=>aU (i:=0) (vs:=[_,_,_,_,_,_]) (cs':=[_,_,_,_,_,_]) (O':=[_,_,_,_,_]) hS Tryz.sizeOf44 rfl rfl rfl rfl rfl rfl rfl fun W7 hS=>aC rfl rfl (aO (XF.thenN (aN (aP (aI rfl rfl (cN rfl rfl rfl (aI rfl rfl (bQ (d:=20) rfl (fun hc=>?_) (fun hc=>absurd (of_decide_eq_false hc) (by decide)))))))))))))
 have hc:=of_decide_eq_true hc
 refine aF (d:=20) rfl rfl (aS (vs:=[_,_,_,_,_,_]) Tryz.isAgg44 Tryz.sizeOf44 rfl (aB.own (j:=0) (m:=6) (hS.at_ 0 rfl) rfl) rfl (aF (d:=20) rfl rfl (aS (vs:=[_,_,_,_,_,_]) Tryz.isAgg44 Tryz.sizeOf44 rfl (aB.own (j:=0) (m:=6) (hS.at_ 2 rfl) rfl) rfl (aF (d:=20) rfl rfl (cB (vs:=[_,_]) hS wM rfl (Rc (hf2.is ⟨hS.below,hS.since 0 rfl⟩) (hy.below hS.below) r (by rw [hr,Rv hx.ok])) rfl fun W8 hS=>bD rfl rfl rfl (aI rfl rfl (aC rfl rfl (aC rfl rfl (aO (XF.thenN (bT (XF.res (res2 Tryz.results24 rfl rfl) ?_))))))))))))
 exact ⟨rfl,hS.below⟩
section
variable {P:Program} {n:Nat} {Q:Exit→Act→World→Prop} {l:Fr} {w0 W:World} {ops:Array Oper} {os:List Oper} {K:List (Nat×World)} {L:List Asr} {i:Nat}
variable {O:Own} {Gs:List Value→cO} {efs:List Nat} {lo:Nat} {s:List Value}
variable {d:Nat} {op:Op} {ty:TypeId} {pos:String} {aft_:Array Edge} {v:Value} {gd:Option (Nat×Bool)}
variable {Goal:List Asr→Prop}
theorem hg0 {Gs:List Value→cO} {gi:Nat} {g:GR} (h:(Gs [])[gi]?=some g):∀ s,s.length=0→(Gs s)[gi]?=some g:=fun s hs=>by rw [List.eq_nil_of_length_eq_zero hs];exact h
theorem hg1 {Gs:List Value→cO} {gi:Nat} {g:GR} (h:∀ a,(Gs [a])[gi]?=some g):∀ s,s.length=1→(Gs s)[gi]?=some g:=fun s hs=>by obtain ⟨a,rfl⟩:=List.length_eq_one_iff.1 hs;exact h a
end
section
variable {P:Program} {ops:Array Oper} {Q:Exit→Act→World→Prop} {σ:Type}
structure RInvF (fr:Nat→Bool) (ops:Array Oper) (t0:Array Value) (d0:List Deferred) (G:σ→World→Prop) (I:σ→Nat→Value→World→Prop) (V:σ→Array Bool→Prop) (s:σ) (L:Array Bool) (a:Act) (w:World):Prop where
 size:a.tmps.size=t0.size
 defers:a.defers=d0
 frame:∀ t,fr t=true→a.tmps.getD t undef=t0.getD t undef
 glob:G s w
 cons:V s L
 done:∀ i d,(ops[i]?).bind (·.dst)=some d→L.getD i false=true→I s i (a.tmps.getD d undef) w
def Rw (P:Program) (fr:Nat→Bool) (ops:Array Oper) (Q:Exit→Act→World→Prop) (t0:Array Value) (G:σ→World→Prop) (I:σ→Nat→Value→World→Prop) (V:σ→Array Bool→Prop) (i:Nat):Prop :=
 ∀ s L (a:Act) w,(∀ t,fr t=true→a.eval (.tmp t)=t0.getD t undef)→G s w→V s L→L.size=ops.size→gQ ops L→pY ops L i→(∀ j d,aY ops i j d=true→I s j (a.eval (.tmp d)) w) →
  wpOp P ops Q i (fun a' w'=>∃ s' v,a'=a.put ((ops[i]?).bind (·.dst)) v∧V s' (L.setIfInBounds i true)∧G s' w'∧(∀ d,(ops[i]?).bind (·.dst)=some d→I s' i v w')∧(∀ j d,j≠i→(ops[j]?).bind (·.dst)=some d→I s j (a.tmps.getD d undef) w→I s' j (a.tmps.getD d undef) w')) a w
theorem Ai {fr:Nat→Bool} {t0:Array Value} {d0:List Deferred} {G:σ→World→Prop} {I:σ→Nat→Value→World→Prop} {V:σ→Array Bool→Prop} {k:Nat} (hfr:∀ i d,i < k→(ops[i]?).bind (·.dst)=some d→fr d=false) (hk:k < ops.size) (hl:vZ ops k=true) (ht:dM ops t0.size=true)
  (hstep:∀ i,i < k→Rw P fr ops Q t0 G I V i)
  (hfin:∀ s L a w,RInvF fr ops t0 d0 G I V s L a w→(∀ i,i < k→L.getD i false=true)→(∀ i,k≤i→L.getD i false=false)→wpList P ops Q (ops.toList.drop k) a w) :
  ∀ (fuel:Nat) (s:σ) (L:Array Bool) (a:Act) (w:World),L.size=ops.size→L.toList.count false≤fuel→gQ ops L→(∀ i,k≤i→L.getD i false=false)→RInvF fr ops t0 d0 G I V s L a w→wpAny P .any ops Q fuel L a w:=by
 intro fuel
 induction fuel with
 | zero =>
  intro s L a w hs hc hcl hn h
  have:=eW _ _ (kR (by omega) (hn k (Nat.le_refl _)))
  omega
 | succ fuel ih =>
  intro s L a w hs hc hcl hn h
  by_cases hall:∀ i,i < k→L.getD i false=true
  ·have hcnt:ops.size - k≤L.toList.count false:=by
    have key:∀ (l:List Bool) (k:Nat),(∀ i,k≤i→i < l.length→l[i]?=some false)→l.length - k≤l.count false:=by
     intro l
     induction l with
     | nil=>intro k _;simp
     | cons b l ihl =>
      intro k hk
      cases k with
      | zero =>
       have h0:=hk 0 (Nat.le_refl _) (by simp)
       simp at h0;subst h0
       have:=ihl 0 (fun i _ hi=>by have:=hk (i+1) (by omega) (by simpa using hi);simpa using this)
       simp at this ⊢;omega
      | succ k =>
       have:=ihl k (fun i hi hi2=>by have:=hk (i+1) (by omega) (by simpa using hi2);simpa using this)
       rw [List.count_cons];simp;omega
    have:=key L.toList k (fun i h1 h2=>kR (by simpa using h2) (hn i h1))
    simpa [hs] using this
   exact pZ (fun _ _=>trivial) hl ht (ops.size - k) k (fuel+1) L a w (by omega) (Nat.le_refl _) (by omega) hs hcl hall hn (hfin s L a w h hall hn)
  ·refine ⟨fun hr=>?_,fun i hi=>?_⟩
   ·exfalso;apply hall
    intro i hi
    have h1:=fU ht hs hr i (by omega)
    rw [Array.getD_eq_getD_getElem?,Array.getElem?_eq_getElem (by omega)] at h1 ⊢
    simpa using h1
   ·obtain ⟨his,hr⟩:=rD hi hs
    have hik:i < k:=by
     rcases Nat.lt_or_ge i k with h1 | h1
     ·exact h1
     ·exfalso;apply hall
      intro x hx
      exact mM hcl hr x (sP hl his h1 (by omega))
    have hc1:=eW _ _ (kR (by omega) hr.1)
    refine wpOp_mono ?_ (hstep i hik s L a w (fun t ht=>h.frame t ht) h.glob h.cons hs hcl hr (fun j d hw=>?_))
    ·rintro a' w' ⟨s',v,rfl,hV,hG,hI,hst⟩
     refine ih s' _ _ _ (by simpa using hs) ?_ (hcl.next hr (by omega)) (fun x hx=>by rw [getD_set_ne false (by omega)];exact hn x hx) ⟨by rw [kJ];exact h.size,by rw [gU];exact h.defers,fun t hf=>?_,hG,hV,fun j d hd hj=>?_⟩
     ·rw [Array.toList_setIfInBounds];omega
     ·rw [eJ ?_]
      ·exact h.frame t hf
      ·intro hd
       rw [hfr i t hik hd] at hf;cases hf
     ·by_cases hji:j=i
      ·subst hji
       rw [oX hd (by rw [h.size];exact (fH ht hd).1)]
       exact hI d hd
      ·rw [getD_set_ne false (Ne.symm hji)] at hj
       rw [eJ (fun e=>hji ((fH ht e).2 j hd))]
       exact hst j d hji hd (h.done j d hd hj)
    ·have hj:j∈aft ops i:=by
      unfold aY at hw
      unfold aft
      cases ho:ops[i]? with
      | none=>simp [ho] at hw
      | some o =>
       simp only [ho,Bool.and_eq_true,beq_iff_eq] at hw
       obtain ⟨e,he,h2⟩:=Array.any_eq_true'.1 hw.1
       simp only [Bool.and_eq_true,beq_iff_eq] at h2
       exact List.mem_map.2 ⟨e,List.mem_filter.2 ⟨Array.mem_toList_iff.2 he,h2.2⟩,h2.1⟩
     have hd:(ops[j]?).bind (·.dst)=some d:=by
      unfold aY at hw
      rw [Bool.and_eq_true,beq_iff_eq] at hw
      exact hw.2
     exact h.done j d hd (hr.2 j hj)
end
abbrev Sy:=Nat→Option Value
def upd (s:Sy) (i:Nat) (v:Value):Sy:=fun j=>bif Nat.beq j i then some v else s j
theorem zA (s:Sy) (i:Nat) (v:Value):upd s i v i=some v:=by unfold upd;rw [Nat.beq_refl];rfl
theorem vM (s:Sy) {i j:Nat} (v:Value) (h:j≠i):upd s i v j=s j:=by
 unfold upd
 cases hb:Nat.beq j i with
 | true=>exact absurd (Nat.eq_of_beq_eq_true hb) h
 | false=>rfl
def isE (s:Sy) (e:Nat):Asr:=fun v _=>s e=some v
def LS (E:List Nat) (s:Sy):Nat→List Asr→List Asr
 | _,[]=>[]
 | j,q::L=>(bif E.contains j then isE s j else q)::LS E s (j+1) L
theorem I4 {E:List Nat} {s:Sy}:∀ (L:List Asr) (j i:Nat),i < L.length→atI (LS E s j L) i=(bif E.contains (i+j) then isE s (i+j) else atI L i)
 | [],j,i,h=>by simp at h
 | q::L,j,0,h=>by rw [Nat.zero_add];rfl
 | q::L,j,i+1,h=>by
  show atI (LS E s (j+1) L) i=_
  rw [I4 L (j+1) i (by simpa using h),show i+1+j=i+(j+1) by omega]
  rfl
theorem Cc {E:List Nat} {s:Sy}:∀ (L:List Asr) (j:Nat),(LS E s j L).length=L.length
 | [],_=>rfl
 | q::L,j=>by show (LS E s (j+1) L).length+1=_;rw [Cc L (j+1)];rfl
theorem at_n {E:List Nat} {s:Sy} {L:List Asr} {j:Nat} {p:Asr} (hl:Nat.blt j L.length=true) (he:E.contains j=false) (h:atI L j=p):atI (LS E s 0 L) j=p:=by
 rw [I4 L 0 j (Nat.lt_of_lt_of_le (Nat.lt_succ_self _) (Nat.le_of_ble_eq_true hl)),Nat.add_zero,he,cond_false,h]
structure AB where
 a:Nat
 T:TypeId
 zs:List Value
 st:Nat
def blkNo:Value→Nat
 | .pointer (some p)=>p.block
 | _=>0
def AB.cs (q:AB) (s:Sy):List Value:=match s q.st with | none=>q.zs | some y=>iQ q.zs 0 y.cells.toList
def AS (al:List AB) (s:Sy):Own:=al.flatMap fun q=>match s q.a with | some v=>[(blkNo v,q.cs s,q.T)] | none=>[]
theorem AS_none (al:List AB):AS al (fun _=>none)=[]:=by
 unfold AS
 induction al with
 | nil=>rfl
 | cons q al ih=>rw [List.flatMap_cons,ih];rfl
theorem Ld (q:AB) (al:List AB) (s:Sy):AS (q::al) s=(match s q.a with | some v=>[(blkNo v,q.cs s,q.T)] | none=>[])++AS al s:=rfl
theorem AB.cs_upd {q:AB} {s:Sy} {i:Nat} {v:Value} (h:q.st≠i):q.cs (upd s i v)=q.cs s:=by unfold AB.cs;rw [vM _ _ h]
theorem zB {s:Sy} {i:Nat} {v:Value}:∀ {al:List AB},(∀ q∈al,q.a≠i)→(∀ q∈al,q.st≠i)→AS al (upd s i v)=AS al s
 | [],_,_=>rfl
 | q::al,h1,h2=>by
  rw [Ld,Ld,zB (fun x hx=>h1 x (List.mem_cons_of_mem _ hx)) (fun x hx=>h2 x (List.mem_cons_of_mem _ hx)),vM _ _ (h1 q List.mem_cons_self),AB.cs_upd (h2 q List.mem_cons_self)]
section
variable {P:Program} {n:Nat} {Q:Exit→Act→World→Prop} {l:Fr} {w0 W:World} {ops opf:Array Oper} {os:List Oper} {K:List (Nat×World)} {L:List Asr} {i:Nat}
variable {Ob:Own} {al:List AB} {G:Sy→cO} {E:List Nat} {lo:Nat} {s:Sy}
theorem zC {a b:Nat} (h:(!Nat.beq a b)=true):a≠b:=fun e=>by rw [e,Nat.beq_refl] at h;cases h
theorem st_ne (h:al.all (fun q => !Nat.beq q.st i)=true):∀ q∈al,q.st≠i:=fun q hq=>zC (List.all_eq_true.1 h q hq)
theorem a_ne (h:al.all (fun q => !Nat.beq q.a i)=true):∀ q∈al,q.a≠i:=fun q hq=>zC (List.all_eq_true.1 h q hq)
def GCh (base:cO) (e:TypeId) (sz:Nat):List (Nat×Nat×List Value)→Sy→cO
 | [],_=>base
 | q::r,s=>match s q.1 with
  | some v=>⟨v,q.2.1,q.2.2,e,sz⟩::base
  | none=>GCh base e sz r s
theorem zD {base:cO} {e:TypeId} {sz i n:Nat} {xs:List Value} {r:List (Nat×Nat×List Value)} {v:Value} (h:s i=some v):GCh base e sz ((i,n,xs)::r) s=⟨v,n,xs,e,sz⟩::base:=by
 show (match s i with | some v=>_ | none=>_)=_
 rw [h]
theorem zE {base:cO} {e:TypeId} {sz i n:Nat} {xs:List Value} {r:List (Nat×Nat×List Value)} (h:s i=none):GCh base e sz ((i,n,xs)::r) s=GCh base e sz r s:=by
 show (match s i with | some v=>_ | none=>_)=_
 rw [h]
abbrev OY (al:List AB) (Ob:Own) (s:Sy):Own:=AS al s++Ob
def GY0 (w0:World) (K:List (Nat×World)) (lo:Nat) (al:List AB) (Ob:Own) (G:Sy→cO) (s:Sy) (w:World):Prop:=St w0 (OY al Ob s) (G s) K w∧lo≤w.heap.size
def GY (w0:World) (K:List (Nat×World)) (lo:Nat) (al:List AB) (Ob:Own) (G:Sy→cO) (E:List Nat) (L:List Asr) (s:Sy) (w:World):Prop:=GY0 w0 K lo al Ob G s w∧∀ e∈E,∀ v,s e=some v→AwS lo (XB (OY al Ob s) (G s)) (atI L e) v w
def VY (E:List Nat) (s:Sy) (L:Array Bool):Prop:=(∀ e∈E,(L.getD e false=true↔(s e).isSome=true))∧∀ e,e∉E→s e=none
def IY (lo:Nat) (al:List AB) (Ob:Own) (G:Sy→cO) (E:List Nat) (L:List Asr) (s:Sy) (i:Nat) (v:Value) (w:World):Prop:=(i∈E→s i=some v)∧AwS lo (XB (OY al Ob s) (G s)) (atI L i) v w
structure Kn (ops:Array Oper) (E:List Nat) (i:Nat) (s:Sy):Prop where
 yes:∀ e,E.contains e=true→(earlyL ops i).contains e=true→∃ v,s e=some v
 no:∀ e,(earlyL ops e).contains i=true→s e=none
 out:∀ e,E.contains e=false→s e=none
 self:s i=none
def TrY (al:List AB) (Ob:Own) (G:Sy→cO) (i:Nat) (s s':Sy) (w w':World):Prop:=gD 0 (XB (OY al Ob s) (G s)) w w'∧(∀ b,XB (OY al Ob s') (G s') b→XB (OY al Ob s) (G s) b∨w.heap.size≤b)∧∀ j,j≠i→s' j=s j
def SY (P:Program) (n:Nat) (ops opf:Array Oper) (Q:Exit→Act→World→Prop) (l:Fr) (w0:World) (K:List (Nat×World)) (lo:Nat) (al:List AB) (Ob:Own) (G:Sy→cO) (E:List Nat) (L:List Asr) (i:Nat):Prop :=
 ∀ t0,Has n l t0→∀ s LB (a:Act) w,(∀ t,freeT opf t=true→a.eval (.tmp t)=t0.tmps.getD t undef)→GY0 w0 K lo al Ob G s w→VY E s LB→LB.size=ops.size→gQ ops LB→pY ops LB i→(∀ j d,aY ops i j d=true→IY lo al Ob G E L s j (a.eval (.tmp d)) w) →
  wpOp P ops Q i (fun a' w'=>∃ s' v,a'=a.put ((ops[i]?).bind (·.dst)) v∧VY E s' (LB.setIfInBounds i true)∧GY0 w0 K lo al Ob G s' w'∧TrY al Ob G i s s' w w'∧(∀ d,(ops[i]?).bind (·.dst)=some d→IY lo al Ob G E L s' i v w')∧(i∈E→∀ y,s' i=some y→AwS lo (XB (OY al Ob s') (G s')) (atI L i) y w')) a w
theorem SY.step (h:SY P n ops opf Q l w0 K lo al Ob G E L i):∀ a,Has n l a→Rw P (freeT opf) ops Q a.tmps (GY w0 K lo al Ob G E L) (IY lo al Ob G E L) (VY E) i:=fun t0 h0 s LB a w hF hG hV hs hc hr hD=>by
 refine wpOp_mono ?_ (h t0 h0 s LB a w hF hG.1 hV hs hc hr hD)
 rintro a' w' ⟨s',v,h1,h2,h3,⟨t1,t2,t3⟩,h5,h6⟩
 refine ⟨s',v,h1,h2,⟨h3,fun e he y hy=>?_⟩,h5,fun j d hji hd hj=>⟨fun hjE=>?_,hj.2.next t1 t2⟩⟩
 ·by_cases hei:e=i
  ·subst hei;exact h6 he y hy
  ·rw [t3 e hei] at hy
   exact (hG.2 e he y hy).next t1 t2
 ·rw [t3 j hji];exact hj.1 hjE
theorem Rx (ht:dM ops n=true) {j d:Nat} (hw:aY ops i j d=true):j < i:=by
 cases ho:ops[i]? with
 | none=>simp [aY,ho] at hw
 | some o =>
  simp only [aY,ho,Bool.and_eq_true,beq_iff_eq] at hw
  obtain ⟨e,he,h2⟩:=Array.any_eq_true'.1 hw.1
  simp only [Bool.and_eq_true,beq_iff_eq] at h2
  rw [← h2.1];exact iP ht ho e he h2.2
theorem SY.ext {L1 L2:List Asr} (ht:dM ops n=true) (hag:∀ j,j≤i→atI L1 j=atI L2 j) (h:SY P n ops opf Q l w0 K lo al Ob G E L1 i):SY P n ops opf Q l w0 K lo al Ob G E L2 i:=fun t0 h0 s LB a w hF hG hV hs hc hr hD=>by
 have h2:=h t0 h0 s LB a w hF hG hV hs hc hr (fun j d hw=>by unfold IY;rw [hag j (Nat.le_of_lt (Rx ht hw))];exact hD j d hw)
 unfold IY at h2
 rw [hag i (Nat.le_refl _)] at h2
 exact h2
theorem kn_of {LB:Array Bool} (hV:VY E s LB) (hs:LB.size=ops.size) (hc:gQ ops LB) (hr:pY ops LB i):Kn ops E i s where
 yes e he h:=Option.isSome_iff_exists.1 ((hV.1 e (List.contains_iff_mem.1 he)).1 (mM hc hr e (List.contains_iff_mem.1 h)))
 no e h:=by
  cases hse:s e with
  | none=>rfl
  | some v =>
   have hE:e∈E:=Decidable.byContradiction fun hn=>by rw [hV.2 e hn] at hse;cases hse
   have hd:LB.getD e false=true:=(hV.1 e hE).2 (by rw [hse];rfl)
   have:=nU (D:=fun x=>LB.getD x false=true) (hc e hd) (fun j hj x hx=>hc j hj x hx) i (List.contains_iff_mem.1 h)
   rw [hr.1] at this;cases this
 out e h:=hV.2 e (fun hm=>by rw [List.contains_iff_mem.2 hm] at h;cases h)
 self:=by
  cases hse:s i with
  | none=>rfl
  | some v =>
   have hE:i∈E:=Decidable.byContradiction fun hn=>by rw [hV.2 i hn] at hse;cases hse
   have:=(hV.1 i hE).2 (by rw [hse];rfl)
   rw [hr.1] at this;cases this
theorem Le {a:Act} {w:World} (hD:∀ j d,aY ops i j d=true→IY lo al Ob G E L s j (a.eval (.tmp d)) w):∀ j d,aY ops i j d=true→atI (LS E s 0 L) j (a.eval (.tmp d)) w:=fun j d hw=>by
 rcases Nat.lt_or_ge j L.length with hj | hj
 ·rw [I4 L 0 j hj,Nat.add_zero]
  cases hc:E.contains j with
  | true=>rw [cond_true];exact (hD j d hw).1 (List.contains_iff_mem.1 hc)
  | false=>rw [cond_false];exact (hD j d hw).2.here
 ·rw [D7 (by rw [Cc];exact hj)];trivial
structure Fst (ops opf:Array Oper):Prop where
 same:∀ (i:Nat) (o:Oper),opf[i]?=some o→ops[i]?=some o
theorem qH {os:List Oper} {k:Nat}:Fst os.toArray (os.take k).toArray:=⟨fun i o h=>by
 have h1:(os.take k)[i]?=some o:=by simpa using h
 rw [List.getElem?_take] at h1
 split at h1
 ·simpa using h1
 ·cases h1⟩
theorem Fst.waits (h:Fst ops opf) {i j d:Nat} (hw:aY opf i j d=true):aY ops i j d=true:=by
 unfold aY at hw ⊢
 rw [Bool.and_eq_true] at hw ⊢
 cases ho:opf[i]? with
 | none=>simp [ho] at hw
 | some o =>
  rw [ho] at hw
  rw [h.same i o ho]
  refine ⟨hw.1,?_⟩
  cases hj:opf[j]? with
  | none=>simp [hj] at hw
  | some o2=>rw [hj] at hw;rw [h.same j o2 hj];exact hw.2
variable {d:Nat} {op:Op} {ty:TypeId} {pos:String} {aft_:Array Edge} {v:Value} {gd:Option (Nat×Bool)}
theorem Ry {LB:Array Bool} (hV:VY E s LB) (hi:i∉E):VY E s (LB.setIfInBounds i true) :=
 ⟨fun e he=>by rw [getD_set_ne false (fun h=>hi (by rw [h];exact he))];exact hV.1 e he,hV.2⟩
theorem vy_eff {LB:Array Bool} (hV:VY E s LB) (hs:LB.size=ops.size) (hi:i∈E) (hlt:i < ops.size) (v:Value):VY E (upd s i v) (LB.setIfInBounds i true):=by
 refine ⟨fun e he=>?_,fun e he=>?_⟩
 ·by_cases hei:e=i
  ·subst hei
   rw [zA,Array.getD_eq_getD_getElem?,Array.getElem?_setIfInBounds_self_of_lt (by omega)]
   exact ⟨fun _=>rfl,fun _=>rfl⟩
  ·rw [vM _ _ hei,getD_set_ne false (Ne.symm hei)];exact hV.1 e he
 ·rw [vM _ _ (fun h=>he (by rw [h];exact hi))];exact hV.2 e he
theorem Lf (hie:E.contains i=false) (hi:ops[i]?=some ⟨some d,op,ty,pos,aft_,gd⟩)
  (h:∀ (t0 a:Act) s w,Has n l t0→(∀ t,freeT opf t=true→a.eval (.tmp t)=t0.tmps.getD t undef)→GY0 w0 K lo al Ob G s w→Kn ops E i s→(∀ j d,aY ops i j d=true→IY lo al Ob G E L s j (a.eval (.tmp d)) w)→(∀ j d,aY ops i j d=true→atI (LS E s 0 L) j (a.eval (.tmp d)) w) →
   wpOp P ops Q i (fun a' w'=>∃ v,a'=a.put (some d) v∧AwS lo (XB (OY al Ob s) (G s)) (atI L i) v w'∧Below w.heap.size w w') a w):SY P n ops opf Q l w0 K lo al Ob G E L i:=fun t0 h0 s LB a w hF hG hV hs hc hr hD=>by
 have hie':i∉E:=fun h=>by rw [List.contains_iff_mem.2 h] at hie;cases hie
 refine wpOp_mono ?_ (h t0 a s w h0 hF hG (kn_of hV hs hc hr) hD (Le hD))
 rintro a' w' ⟨v,rfl,hA,hb⟩
 exact ⟨s,v,by rw [hi];rfl,Ry hV hie',⟨hG.1.grow hb,Nat.le_trans hG.2 hb.size⟩,⟨yS hb,fun b hb=>.inl hb,fun _ _=>rfl⟩,fun _ _=>⟨fun h=>absurd h hie',hA⟩,fun h=>absurd h hie'⟩
theorem syV (hf:Fst ops opf) (li:Fr) (hie:E.contains i=false) (hi:ops[i]?=some ⟨some d,op,ty,pos,aft_,gd⟩) (hw:∀ s,fV ops (LS E s 0 L) i ⟨some d,op,ty,pos,aft_,gd⟩) (hli:∀ s,sW n opf l (LS E s 0 L) i li)
  (hr:∀ s w,St w0 Ob (G s) K w→gI P li ⟨some d,op,ty,pos,#[],none⟩ w v w) (hI:atI L i=isV v):SY P n ops opf Q l w0 K lo al Ob G E L i :=
 Lf hie hi fun t0 a s w h0 hF hG hk hD hD'=>by
  exact vL hi ((hw s).yes hD') (by rw [eY a.eval _ _ _ _ pos _ #[] _ none];exact hr s w (St.drops _ hG.1) a.eval (gV h0 hF (fun j d h=>hD' j d (hf.waits h)) (hli s))) ⟨v,rfl,by rw [hI];exact K7,Below.refl _ _⟩
theorem Rz {o:Oper} (hie:E.contains i=true) (hi:ops[i]?=some o)
  (h:∀ (t0 a:Act) s w,Has n l t0→(∀ t,freeT opf t=true→a.eval (.tmp t)=t0.tmps.getD t undef)→GY0 w0 K lo al Ob G s w→Kn ops E i s→(∀ j d,aY ops i j d=true→IY lo al Ob G E L s j (a.eval (.tmp d)) w)→(∀ j d,aY ops i j d=true→atI (LS E s 0 L) j (a.eval (.tmp d)) w) →
   wpOp P ops Q i (fun a' w'=>∃ v y,a'=a.put o.dst v∧(∀ d,o.dst=some d→v=y)∧St w0 (OY al Ob (upd s i y)) (G (upd s i y)) K w'∧gD 0 (XB (OY al Ob s) (G s)) w w'∧(∀ b,XB (OY al Ob (upd s i y)) (G (upd s i y)) b→XB (OY al Ob s) (G s) b∨w.heap.size≤b)∧AwS lo (XB (OY al Ob (upd s i y)) (G (upd s i y))) (atI L i) y w') a w):SY P n ops opf Q l w0 K lo al Ob G E L i:=fun t0 h0 s LB a w hF hG hV hs hc hr hD=>by
 have hie':i∈E:=List.contains_iff_mem.1 hie
 refine wpOp_mono ?_ (h t0 a s w h0 hF hG (kn_of hV hs hc hr) hD (Le hD))
 rintro a' w' ⟨v,y,rfl,hvy,hSt,hsame,hX,hA⟩
 refine ⟨upd s i y,v,by rw [hi];rfl,vy_eff hV hs hie' (Array.getElem?_eq_some_iff.1 hi).1 y,⟨hSt,Nat.le_trans hG.2 hsame.2.1⟩,⟨hsame,hX,fun j hj=>vM _ _ hj⟩,fun d hd=>?_,fun _ y2 h2=>?_⟩
 ·rw [hi] at hd
  have e:=hvy d hd
  subst e
  exact ⟨fun _=>zA _ _ _,hA⟩
 ·rw [zA] at h2;cases h2;exact hA
theorem N8 {T e:TypeId} {sz:Nat} (hie:E.contains i=true) (hi:ops[i]?=some ⟨some d,.buildSlice T 0 #[],ty,pos,aft_,none⟩) (hU:P.underlying T=some (.slice e)) (hs:∀ w,(sizeOf e).run P w = .ok sz w)
  (hA_:al.all (fun q => !Nat.beq q.a i)=true) (hst_:al.all (fun q => !Nat.beq q.st i)=true) (hG:∀ s v,Kn ops E i s→G (upd s i v)=⟨v,0,[],e,sz⟩::G s) (hL:atI L i=anyA):SY P n ops opf Q l w0 K lo al Ob G E L i :=
 Rz hie hi fun t0 a s w h0 hF hg hk hD hD'=>by
  have hA:=a_ne hA_
  have hst:=st_ne hst_
  have hB:Below w.heap.size w (w.alloc (.cells #[] e)):=(Below.refl _ _).alloc (Nat.le_refl _) _
  have hO:∀ v,OY al Ob (upd s i v)=OY al Ob s:=fun v=>by unfold OY;rw [zB hA hst]
  refine vL hi rfl (v:=.slice (some ⟨w.heap.size,0,none⟩) 0 0) (w':=w.alloc (.cells #[] e)) (by
   unfold execOp
   have h0:Array.range 0=#[]:=by simp
   simp only [List.map_toArray,List.map_nil,Instr.buildSlice,Sem.run_bind,run_underlying hU,Result.andThen_ok,hs,Nat.zero_mul,Sem.run_pure,h0]
   simp [Instr.fill,newRow]) ⟨_,_,rfl,fun _ _=>rfl,?_,yS hB,fun b hb=>?_,by rw [hL];exact fun _ _=>trivial⟩
  ·rw [hO,hG _ _ hk]
   refine hg.1.adopt hB ?_
   have:=World.ownsRow_made (base:=w.heap.size) (e:=e) (size:=sz) w #[] 0 (Nat.le_refl _) (Nat.zero_le _) (by simp)
   simpa using this
  ·rw [hO,hG _ _ hk] at hb
   rcases hb with h | ⟨g,h,hgb⟩
   ·exact .inl (.inl h)
   ·rcases List.mem_cons.1 h with rfl | h
    ·have e1:Value.ownBlock (.slice (some ⟨w.heap.size,0,none⟩) 0 0)=some b:=hgb
     exact .inr (Nat.le_of_eq (Option.some.inj e1))
    ·exact .inl (.inr ⟨g,h,hgb⟩)
theorem sy_app {t e:TypeId} {y:Operand} {tx j0 m c gi gn size:Nat} {ad:Option Addr} {gxs news:List Value} {inf:TypeInfo} {z:Value} (hf:Fst ops opf) (li:Fr) (hie:E.contains i=true) (hi:ops[i]?=some ⟨some d,.call { callee:=.builtin .append,args:=#[.tmp tx,y],argTypes:=#[t,t] },ty,pos,aft_,none⟩)
  (hU:P.underlying t=some (.slice e)) (hinf:P.info? e=some inf) (hz:inf.zero=some z) (hzs:z.cells.size=inf.size) (hsz:0 < inf.size) (hsize:size=inf.size) (hj0:E.contains j0=true) (hwx:aY ops i j0 tx=true) (hli:∀ s,sW n opf l (LS E s 0 L) i li) (hy:evL li y=some (.slice ad m c))
  (hA_:al.all (fun q => !Nat.beq q.a i)=true) (hst_:al.all (fun q => !Nat.beq q.st i)=true)
  (hG:∀ s v0,Kn ops E i s→s j0=some v0→(G s)[gi]?=some ⟨v0,gn,gxs,e,size⟩∧∀ v',G (upd s i v')=(G s).set gi ⟨v',gn+m,gxs++news,e,size⟩)
  (hc:∀ s w,St w0 Ob (G s) K w→(ad=none∧m=0)∨∃ p,ad=some p∧∀ (j:Nat) u,news[j]?=some u→w.cell? (p.add j)=some u) (hl:news.length=m * inf.size) (h1:∀ u∈news,u.oneCell'=true) (h63:gn+m≤maxLen) (hbytes:(gn+m) * inf.bytes≤140737488355328) (hL:atI L i=anyA):SY P n ops opf Q l w0 K lo al Ob G E L i :=
 Rz hie hi fun t0 a s w h0 hF hg hk hD hD'=>by
  subst hsize
  have hA:=a_ne hA_
  have hst:=st_ne hst_
  have hsj:=(hD j0 tx hwx).1 (List.contains_iff_mem.1 hj0)
  obtain ⟨hgi,hset⟩:=hG s _ hk hsj
  have ey:=gV h0 hF (fun j d h=>hD' j d (hf.waits h)) (hli s) y _ hy
  have hO:∀ v,OY al Ob (upd s i v)=OY al Ob s:=fun v=>by unfold OY;rw [zB hA hst]
  have hrow:=hg.1.row gi hgi
  have fin:∀ v' W',(Builtin.append_ #[t,t] ty #[a.eval (.tmp tx),.slice ad m c]).run P w = .ok v' W'→W'.ownsRow w0.heap.size e inf.size v' (gn+m) (gxs++news)→w.grownBy W' (a.eval (.tmp tx)).ownBlock→(v'.ownBlock=(a.eval (.tmp tx)).ownBlock∨v'.ownBlock=some w.heap.size) →
    wpOp P ops Q i (fun a' w'=>∃ v y,a'=a.put (some d) v∧(∀ d',some d=some d'→v=y)∧St w0 (OY al Ob (upd s i y)) (G (upd s i y)) K w'∧gD 0 (XB (OY al Ob s) (G s)) w w'∧(∀ b,XB (OY al Ob (upd s i y)) (G (upd s i y)) b→XB (OY al Ob s) (G s) b∨w.heap.size≤b)∧AwS lo (XB (OY al Ob (upd s i y)) (G (upd s i y))) (atI L i) y w') a w:=fun v' W' hr h2 h3 h4=>by
   have hXg:∀ b,(a.eval (.tmp tx)).ownBlock=some b→XB (OY al Ob s) (G s) b:=fun b hb=>.inr ⟨_,List.mem_of_getElem? hgi,hb⟩
   refine vL (w':=W') (v:=v') hi (eL rfl) ?_ ⟨v',v',rfl,fun _ _=>rfl,?_,⟨⟨h3.os,h3.tape,h3.output⟩,h3.size,fun b _ hb hx=>h3.block b hb (fun e=>hx (hXg b e.symm))⟩,fun b hb=>?_,by rw [hL];exact fun _ _=>trivial⟩
   ·unfold execOp
    simp only [resolve,invoke,builtin,Sem.run_bind,Sem.run_pure,Result.andThen_ok,List.map_toArray,List.map_cons,List.map_nil,ey,hr]
   ·rw [hO,hset]
    exact hg.1.setG gi hgi h2 h3 h4
   ·rw [hO,hset] at hb
    rcases hb with h | ⟨g,hg2,e1⟩
    ·exact .inl (.inl h)
    ·rcases List.mem_or_eq_of_mem_set hg2 with hg2 | rfl
     ·exact .inl (.inr ⟨g,hg2,e1⟩)
     ·rcases h4 with h5 | h5
      ·exact .inl (hXg b (h5▸e1))
      ·have e2:v'.ownBlock=some b:=e1
       rw [h5] at e2;exact .inr (Nat.le_of_eq (Option.some.inj e2))
  rcases hc s w (St.drops _ hg.1) with ⟨rfl,rfl⟩ | ⟨p,rfl,hcc⟩
  ·have hr:=nM (P:=P) (w:=w) w0.heap.size t ty e inf inf.size hU hinf (a.eval (.tmp tx)) gn gxs c hrow
   have hn:news=[]:=List.eq_nil_of_length_eq_zero (by simpa using hl)
   subst hn
   refine fin _ w hr (by rw [List.append_nil,Nat.add_zero];exact hrow) ⟨rfl,rfl,rfl,Nat.le_refl _,fun _ _ _=>rfl⟩ (.inl rfl)
  ·obtain ⟨v',W',hr,h2,h3,h4⟩:=iT (P:=P) (w:=w) w0.heap.size t ty e inf z hU hinf hz hzs hsz (a.eval (.tmp tx)) gn gxs hrow p m c news hl hcc h1 h63 hbytes hg.1.below.size
   exact fin v' W' hr h2 h3 h4
def BLY (P:Program) (n:Nat) (ops opf:Array Oper) (Q:Exit→Act→World→Prop) (l:Fr) (w0:World) (K:List (Nat×World)) (lo:Nat) (al:List AB) (Ob:Own) (G:Sy→cO) (E:List Nat) (Goal:List Asr→Prop):Nat→List Asr→Nat→Prop
 | 0,Lr,_=>Goal Lr
 | m+1,Lr,k=>∃ q,SY P n ops opf Q l w0 K lo al Ob G E (q::Lr).reverse k∧BLY P n ops opf Q l w0 K lo al Ob G E Goal m (q::Lr) (k+1)
variable {Goal:List Asr→Prop}
theorem bly_nil {Lr:List Asr} {k:Nat} (h:Goal Lr):BLY P n ops opf Q l w0 K lo al Ob G E Goal 0 Lr k:=h
theorem nO {m k:Nat} {Lr:List Asr} (k':Nat) (hk:k+1=k') (q:Asr) (h:SY P n ops opf Q l w0 K lo al Ob G E (q::Lr).reverse k) (hr:BLY P n ops opf Q l w0 K lo al Ob G E Goal m (q::Lr) k'):BLY P n ops opf Q l w0 K lo al Ob G E Goal (m+1) Lr k:=by
 subst hk;exact ⟨q,h,hr⟩
theorem Lg (ht:dM ops n=true):∀ (m k:Nat) (Lr:List Asr),Lr.length=k→(∀ i,i < k→SY P n ops opf Q l w0 K lo al Ob G E Lr.reverse i)→BLY P n ops opf Q l w0 K lo al Ob G E Goal m Lr k →
  ∃ Lr',Lr'.length=k+m∧(∀ i,i < k+m→SY P n ops opf Q l w0 K lo al Ob G E Lr'.reverse i)∧Goal Lr'
 | 0,k,Lr,hl,hg,h=>⟨Lr,hl,hg,h⟩
 | m+1,k,Lr,hl,hg,⟨q,hr,hn⟩=>by
  have hap:∀ j,j < k→atI Lr.reverse j=atI (q::Lr).reverse j:=fun j hj=>by rw [List.reverse_cons,kD (by simp;omega)]
  obtain ⟨L',h1,h3,h4⟩:=Lg ht m (k+1) (q::Lr) (by simp [hl]) (fun i hi=>by
   by_cases hik:i=k
   ·subst hik;exact hr
   ·exact SY.ext ht (fun j hj=>hap j (by omega)) (hg i (by omega))) hn
  exact ⟨L',by omega,fun i hi=>h3 i (by omega),h4⟩
def R4 (E:List Nat) (lo:Nat) (X:Nat→Prop) (s:Sy):Nat→List Asr→List Asr
 | _,[]=>[]
 | j,q::L=>(bif E.contains j then isE s j else AwS lo X q)::R4 E lo X s (j+1) L
theorem zF {X:Nat→Prop}:∀ (L:List Asr) (j i:Nat),i < L.length→atI (R4 E lo X s j L) i=(bif E.contains (i+j) then isE s (i+j) else AwS lo X (atI L i))
 | [],j,i,h=>by simp at h
 | q::L,j,0,h=>by rw [Nat.zero_add];rfl
 | q::L,j,i+1,h=>by
  show atI (R4 E lo X s (j+1) L) i=_
  rw [zF L (j+1) i (by simpa using h),show i+1+j=i+(j+1) by omega]
  rfl
theorem regY {id k:Nat} {ds:List Nat} {G0:cO} (hm:P.follows .mixedOrders=true) (hlo:lo=W.heap.size) (hS:St w0 Ob G0 K W) (hG0:G (fun _=>none)=G0) (hk:Nat.blt k os.length=true) (htl:vZ os.toArray k=true) (ht:dM os.toArray n=true) (hE:E.all (fun a=>Nat.blt a k)=true)
  (hdst:(List.range k).all (fun j=>E.contains j || ((os.toArray[j]?).bind (·.dst)).isSome)=true) (hds:(os.drop k).all (fun o=>match o.dst with | some d=>ds.contains d | none=>true)=true)
  (h:BLY P n os.toArray (os.take k).toArray Q l w0 K lo al Ob G E (fun Lr=>∀ (s:Sy) (W':World) (Ks:List (Nat×World)),(∀ e,E.contains e=true→∃ v,s e=some v)→W.heap.size≤W'.heap.size→(∀ q∈Ks,lo≤q.1)→St w0 (OY al Ob s) (G s) (Ks++K) W' →
   (∀ {O2 G2 K2 W2},St w0 O2 G2 K2 W2→(∀ q∈Ks,q∈K2)→gD lo (XB (OY al Ob s) (G s)) W' W2)→(∀ e,E.contains e=true→∀ v,s e=some v→AwS lo (XB (OY al Ob s) (G s)) (atI Lr.reverse e) v W')→(∀ e,E.contains e=false→s e=none) →
   kC (os.take k) (R4 E lo (XB (OY al Ob s) (G s)) s 0 Lr.reverse) (oS ds l) (fun l' W'=>cM P n os.toArray Q (os.drop k) l' W') W') k [] 0):fA P n (.region id os.toArray true) Q l W:=by
 obtain ⟨Lr,h1,h2,hfin⟩:=Lg ht k 0 [] rfl (fun i hi=>by omega) h
 rw [Nat.zero_add] at h1 h2
 have hk':k < os.length:=Nat.lt_of_lt_of_le (Nat.lt_succ_self _) (Nat.le_of_ble_eq_true hk)
 have hE':∀ a∈E,a < k:=fun a ha=>Nat.lt_of_lt_of_le (Nat.lt_succ_self _) (Nat.le_of_ble_eq_true (List.all_eq_true.1 hE a ha))
 intro a ha
 have hrep:∀ (m j:Nat),(Array.replicate m false).getD j false=false:=fun m j=>by
  rw [Array.getD_eq_getD_getElem?,Array.getElem?_replicate];split<;>rfl
 refine wp_region_any hm (Ai (fr:=freeT (os.take k).toArray) (t0:=a.tmps) (d0:=a.defers) (V:=VY E) (I:=IY lo al Ob G E Lr.reverse) (G:=GY w0 K lo al Ob G E Lr.reverse) (k:=k) (fun i d hik hd=>?_) (by simpa using hk') htl (by rw [ha.size];exact ht) (fun i hi=>(h2 i hi).step a ha) ?_ _ (fun _=>none) _ _ _ (by simp) (iC _) (fun j hj=>by rw [hrep] at hj;cases hj) (fun i _=>hrep _ _) ⟨rfl,rfl,fun _ _=>rfl,⟨⟨by unfold OY;rw [AS_none,hG0];exact hS.drew,by rw [hlo];exact Nat.le_refl _⟩,fun _ _ _ h=>(by cases h)⟩,⟨fun e he=>⟨fun h3=>(by rw [hrep] at h3;cases h3),fun h3=>(by cases h3)⟩,fun _ _=>rfl⟩,fun i d _ hj=>(by rw [hrep] at hj;cases hj)⟩)
 ·have hd2:(os[i]?).bind (·.dst)=some d:=by simpa using hd
  obtain ⟨o,ho,hod⟩:=Option.bind_eq_some_iff.1 hd2
  have hm2:o∈os.take k:=List.mem_of_getElem? (i:=i) (by rw [List.getElem?_take,if_pos hik];exact ho)
  cases hf:freeT (os.take k).toArray d with
  | false=>rfl
  | true =>
   unfold freeT at hf
   have:=Array.all_eq_true'.1 hf o (by simpa using hm2)
   rw [hod] at this
   simp at this
 intro s LB a' W' hR hdone hnot
 obtain ⟨⟨hG,hG2⟩,hG3⟩:=hR.glob
 obtain ⟨v1,v2⟩:=hR.cons
 have hall:∀ e,E.contains e=true→∃ v,s e=some v:=fun e he=>Option.isSome_iff_exists.1 ((v1 e (List.contains_iff_mem.1 he)).1 (hdone e (hE' e (List.contains_iff_mem.1 he))))
 obtain ⟨Ks,c1,⟨qw,c2,c3⟩,c4⟩:=Ny (((OY al Ob s).map (·.1))++(G s).filterMap (fun g=>g.v.ownBlock)) lo W'
 have hG4:=hG.more Ks (fun q hq=>⟨(c1 q hq).2.1,fun p hp=>(c1 q hq).2.2 p.1 (List.mem_append_left _ (List.mem_map.2 ⟨p,hp,rfl⟩)),fun g hg b hb=>(c1 q hq).2.2 b (List.mem_append_right _ (List.mem_filterMap.2 ⟨g,hg,hb⟩))⟩)
 have hcov:∀ {O2 G2 K2 W2},St w0 O2 G2 K2 W2→(∀ q∈Ks,q∈K2)→gD lo (XB (OY al Ob s) (G s)) W' W2:=fun {O2 G2 K2 W2} h2 hq=>by
  refine ⟨⟨h2.below.os.trans hG.below.os.symm,h2.below.tape.trans hG.below.tape.symm,h2.below.output.trans hG.below.output.symm⟩,?_,fun b b1 b2 b3=>?_⟩
  ·have:=(h2.kept qw (hq qw c2)).1.1;rw [c3] at this;exact this
  ·obtain ⟨q,q1,q2,q3⟩:=c4 b b1 b2 (fun hb=>b3 (by
    rcases List.mem_append.1 hb with hb | hb
    ·obtain ⟨p,hp,rfl⟩:=List.mem_map.1 hb
     exact .inl ⟨p,hp,rfl⟩
    ·obtain ⟨g,hg,e⟩:=List.mem_filterMap.1 hb
     exact .inr ⟨g,hg,e⟩))
   exact ((h2.kept q (hq q q1)).1.2 b q2 q3).trans ((c1 q q1).2.1.2 b q2 q3).symm
 have htk:(os.take k).length=k:=by simp;omega
 refine qC (os.take k) (R4 E lo (XB (OY al Ob s) (G s)) s 0 Lr.reverse) (oS ds l) (fun i d hi hd'=>?_) (fun i hi hd'=>?_) (hR.size.trans ha.size) (hR.defers.trans ha.defers) ?_ (fun l' h ha'=>?_) (hfin s W' Ks hall (by rw [← hlo];exact hG2) (fun q hq=>(c1 q hq).1) hG4 hcov (fun e he v hv=>hG3 e (List.contains_iff_mem.1 he) v hv) (fun e he=>v2 e (fun hm=>by rw [List.contains_iff_mem.2 hm] at he;cases he)))
 ·have hik:i < k:=by omega
  have hd2:(os.toArray[i]?).bind (·.dst)=some d:=by rw [List.getElem?_take,if_pos hik] at hd';simpa using hd'
  obtain ⟨i1,i2⟩:=hR.done i d hd2 (hdone i hik)
  rw [zF Lr.reverse 0 i (by simp;omega),Nat.add_zero]
  cases hc1:E.contains i with
  | true=>rw [cond_true];exact i1 (List.contains_iff_mem.1 hc1)
  | false=>rw [cond_false];exact i2
 ·have hik:i < k:=by omega
  have h3:=List.all_eq_true.1 hdst i (List.mem_range.2 hik)
  have hd2:(os.toArray[i]?).bind (·.dst)=none:=by rw [List.getElem?_take,if_pos hik] at hd';simpa using hd'
  rw [hd2] at h3
  have hc:E.contains i=true:=by simpa using h3
  rw [zF Lr.reverse 0 i (by simp;omega),Nat.add_zero,hc,cond_true]
  exact hall i hc
 ·intro t v hv hno
  have hl:=lU hv (fF hv)
  rw [hR.frame t ?_]
  ·exact ha.at_ t v hl
  ·unfold freeT;rw [Array.all_eq_true'];intro o' ho'
   have ho2:o'∈os.take k:=by simpa using ho'
   simpa using hno o' ho2
 ·have:=h a' ha'
  simpa using this
end
section
variable {P:Program} {ops opf:Array Oper} {Q:Exit→Act→World→Prop} {n:Nat} {l:Fr} {w0 W:World} {K:List (Nat×World)} {lo:Nat} {al:List AB} {Ob:Own} {G:Sy→cO} {E:List Nat} {L:List Asr} {i:Nat}
variable {d:Nat} {op:Op} {ty:TypeId} {pos:String} {aft_:Array Edge} {v:Value} {gd:Option (Nat×Bool)}
theorem sy_rowV {T e:TypeId} {m sz:Nat} {xs:List (Nat×Operand)} {us:List Value} {z:Value} {cs:List Value} (hf0:Fst ops opf) (hie:E.contains i=false) (hi:ops[i]?=some ⟨some d,.buildSlice T m xs.toArray,ty,pos,aft_,gd⟩) (hw:∀ s,fV ops (LS E s 0 L) i ⟨some d,.buildSlice T m xs.toArray,ty,pos,aft_,gd⟩)
  (hU:P.underlying T=some (.slice e)) (hs:∀ w,(sizeOf e).run P w = .ok sz w) (hz:∀ w,(zeroValue e).run P w = .ok z w) (hm:Nat.ble (m * sz) 16777216=true) (hm0:Nat.beq (m * sz) 0=false) (hp:∀ s,sX n opf l (LS E s 0 L) i (xs.map (·.2)) (us.map isV))
  (hf:Instr.fill (fun i=>some (i * sz,sz)) ((Array.range (m * sz)).map (z.cells[· % z.cells.size]!)) ((xs.map (·.1)).zip us)=some cs.toArray) (hI:atI L i=oQ lo m e cs):SY P n ops opf Q l w0 K lo al Ob G E L i :=
 Lf hie hi fun t0 a s w h0 hF hG hk hD hD'=>by
  have hv:=cA (gW h0 hF (fun j d h=>hD' j d (hf0.waits h)) (hp s))
  have h4:m * sz≤16777216:=Nat.le_of_ble_eq_true hm
  have h5:m * sz≠0:=fun e=>by rw [e] at hm0;cases hm0
  have h6:¬ (m * sz > 2 ^ 24):=by omega
  have h7:xs.map (fun p=>(p.1,a.eval p.2))=(xs.map (·.1)).zip us:=by
   rw [← hv]
   clear hi hw hp hv hf
   induction xs with
   | nil=>rfl
   | cons x xs ih=>simp only [List.map_cons,List.zip_cons_cons,← ih]
  have hB:Below w.heap.size w (w.alloc (.cells cs.toArray e)):=(Below.refl _ _).alloc (Nat.le_refl _) _
  refine vL hi ((hw s).yes hD') (v:=.slice (some ⟨w.heap.size,0,none⟩) m m) (w':=w.alloc (.cells cs.toArray e)) ?_ ⟨_,rfl,?_,hB⟩
  ·unfold execOp
   simp only []
   rw [show (Array.map (fun p=>(p.1,a.eval p.2)) xs.toArray)=(xs.map (fun p=>(p.1,a.eval p.2))).toArray by simp,h7]
   simp only [Instr.buildSlice,Sem.run_bind,run_underlying hU,Result.andThen_ok,hs,if_neg h6,if_neg h5,hz,Sem.run_pure,hf,newRow,run_newObj_alloc]
  ·rw [hI]
   intro w2 h2
   have hnew:=heap_alloc_new w (.cells cs.toArray e)
   refine ⟨w.heap.size,rfl,hG.2,(h2.2.2 _ hG.2 (bL hnew) (fun hx=>?_)).trans hnew⟩
   rcases hx with ⟨q,hq,e1⟩ | ⟨g,hg,hgb⟩
   ·have:=bL (hG.1.own q hq).2;omega
   ·have:=(hG.1.glt hg hgb).2;omega
end
section
variable {P:Program} {n:Nat} {ops:Array Oper} {Q:Exit→Act→World→Prop} {l:Fr} {w0 W:World} {os:List Oper} {d:Nat} {ty:TypeId} {pos:String} {aft:Array Edge}
theorem cP {x:Operand} {p:Addr} (hx:evL l x=some (.pointer (some p))):gI P l ⟨some d,.nilCheck x,ty,pos,aft,none⟩ W (.pointer (some p)) W:=fun ev he=>by
 unfold execOp;simp only [];rw [he x _ hx];rfl
theorem cG {x:Operand} {p:Addr} (hx:evL l x=some (.pointer (some p))) (hd:Nat.blt d n=true) (h:cM P n ops Q os ((d,.pointer (some p))::l) W):cM P n ops Q (⟨some d,.nilCheck x,ty,pos,aft,none⟩::os) l W:=opV (cP hx) hd h
end
section
variable {P:Program} {n:Nat} {Q:Exit→Act→World→Prop} {l:Fr} {W:World} {ops:Array Oper} {os:List Oper} {d:Nat} {ty:TypeId} {pos:String} {aft:Array Edge} {x y:Operand} {k:IntKind} {a b:Int} {ts:Array TypeId}
end
def R5:List (Nat×Nat×Asr)→(Operand→Value)→World→Prop
 | [],_,_=>True
 | x::xs,ev,w=>x.2.2 (ev (.tmp x.2.1)) w∧R5 xs ev w
def R6 (ops:Array Oper) (L:List Asr) (i:Nat):List (Nat×Nat×Asr)→Prop
 | []=>True
 | x::xs=>(aY ops i x.1 x.2.1=true∧atI L x.1=x.2.2)∧R6 ops L i xs
section
variable {P:Program} {ops opf:Array Oper} {Q:Exit→Act→World→Prop} {n:Nat} {l:Fr} {w0 W:World} {K:List (Nat×World)} {lo:Nat} {al:List AB} {Ob:Own} {G:Sy→cO} {E:List Nat} {L:List Asr} {i:Nat}
variable {d:Nat} {op:Op} {ty:TypeId} {pos:String} {aft_:Array Edge}
end
end Go.Proofs.YtmgnkpibpjgncaaGreatDoor
namespace Go.Proofs.YtmgnkpibpjgncaaGreatDoor
open Go Go.RowKit
open Go.WideMaps (KeyLaw)
open Go.ChangeMaps (setBlock)
section
variable {α:Type} {P:Program} {K E S T:TypeId} {κ:α→Value} {W:World} {lo b:Nat} {f:α→List Value}
structure GrpE (P:Program) (K E:TypeId) (κ:α→Value) (lo:Nat) (f:α→List Value) (W:World) (es:Array MapEntry) (clock:Nat):Prop where
 born:∀ x∈es.toList,x.born < clock
 nodup:(es.toList.map (·.born)).Nodup
 keys:es.toList.Pairwise (fun x y=>x.key≠y.key)
 is:∀ x∈es.toList,∃ k,x.key=κ k∧(∃ l,keyOf P K (κ k)=some l)∧W.ownsRow lo E 1 x.val (f k).length (f k)
 all:∀ k,f k≠[]→∃ x∈es.toList,x.key=κ k
 apart:∀ x∈es.toList,∀ y∈es.toList,x.key≠y.key→Value.apart x.val y.val
def Grp (P:Program) (K E:TypeId) (κ:α→Value) (lo:Nat) (f:α→List Value) (b:Nat) (W:World):Prop :=
 ∃ es clock,W.heap[b]?=some (.map es clock)∧GrpE P K E κ lo f W es clock
theorem zG {l:List MapEntry} (h:l.Pairwise (fun x y=>x.key≠y.key)) {x y:MapEntry} (hx:x∈l) (hy:y∈l) (e:x.key=y.key):x=y:=by
 induction h with
 | nil=>cases hx
 | cons a _ ih =>
  rcases List.mem_cons.1 hx with hx1 | hx1
  ·rcases List.mem_cons.1 hy with hy1 | hy1
   ·rw [hx1,hy1]
   ·subst hx1;exact absurd e (a _ hy1)
  ·rcases List.mem_cons.1 hy with hy1 | hy1
   ·subst hy1;exact absurd e.symm (a _ hx1)
   ·exact ih hx1 hy1
theorem GrpE.valid {es:Array MapEntry} {clock:Nat} (h:GrpE P K E κ lo f W es clock):∀ e∈es.toList,∃ l,keyOf P K e.key=some l:=fun e he=>by
 obtain ⟨k,h1,h2,_⟩:=h.is e he
 rw [h1];exact h2
theorem GrpE.nil_of {es:Array MapEntry} {clock:Nat} (h:GrpE P K E κ lo f W es clock) {k:α} (hn:∀ x∈es.toList,x.key≠κ k):f k=[] :=
 Decidable.byContradiction fun hne=>by
  obtain ⟨x,hx,hk⟩:=h.all k hne
  exact hn x hx hk
theorem GrpE.at_ {es:Array MapEntry} {clock:Nat} (h:GrpE P K E κ lo f W es clock) (hinj:∀ x y,κ x=κ y→x=y) {x:MapEntry} {k:α} (hx:x∈es.toList) (hk:x.key=κ k):W.ownsRow lo E 1 x.val (f k).length (f k):=by
 obtain ⟨k2,h1,_,h2⟩:=h.is x hx
 obtain rfl:=hinj _ _ (h1.symm.trans hk)
 exact h2
theorem kS {w:World} {base n p:Nat} {e:TypeId} {size:Nat} {v:Value} {xs:List Value} (h:w.ownsRow base e size v n xs) {es:Array MapEntry} {clock:Nat} (hb:w.heap[b]?=some (.map es clock)) (hp:v.ownBlock=some p):p≠b:=by
 rcases h.2 with ⟨rfl,_⟩ | ⟨g,cap,cur,rfl,_,h4,_⟩
 ·cases hp
 ·intro e1
  have:g=p:=Option.some.inj hp
  rw [this,e1,hb] at h4;cases h4
theorem Grp.same {W':World} (h:Grp P K E κ lo f b W) (hb:b < W.heap.size→W'.heap[b]?=W.heap[b]?) (hs:∀ p,lo≤p→p < W.heap.size→W'.heap[p]?=W.heap[p]?):Grp P K E κ lo f b W':=by
 obtain ⟨es,clock,h1,h2⟩:=h
 refine ⟨es,clock,(hb (bL h1)).trans h1,⟨h2.born,h2.nodup,h2.keys,fun x hx=>?_,h2.all,h2.apart⟩⟩
 obtain ⟨k,h3,h4,h5⟩:=h2.is x hx
 exact ⟨k,h3,h4,dH h5 fun p hp=>hs p (h5.lt p hp).1 (h5.lt p hp).2⟩
theorem Grp.below {W':World} (h:Grp P K E κ lo f b W) (hb:Below W.heap.size W W'):Grp P K E κ lo f b W':=h.same (fun h1=>hb.block _ h1) (fun p _ h1=>hb.block _ h1)
theorem Grp.fresh (lo:Nat) (hb:W.heap[b]?=some (.map #[] 0)):Grp P K E κ lo (fun _=>[]) b W :=
 ⟨#[],0,hb,⟨by simp,by simp,by simp,by simp,fun k h=>absurd rfl h,by simp⟩⟩
theorem Grp.look (h:Grp P K E κ lo f b W) (L:KeyLaw P K) (ht:P.underlying T=some (.map K S)) (hz:∀ w,(zeroValue S).run P w = .ok (.slice none 0 0) w) {k:α} (hk:∃ l,keyOf P K (κ k)=some l) (hinj:∀ x y,κ x=κ y→x=y) :
  ∃ v,(∀ W',W'.heap[b]?=W.heap[b]?→(Instr.lookup T (.map (some b)) (κ k) false).run P W' = .ok v W')∧W.ownsRow lo E 1 v (f k).length (f k):=by
 obtain ⟨es,clock,hb,hE⟩:=h
 obtain ⟨l,hl⟩:=hk
 by_cases hx:∃ x∈es.toList,x.key=κ k
 ·obtain ⟨x,hx,hxk⟩:=hx
  refine ⟨x.val,fun W' hW'=>?_,hE.at_ hinj hx hxk⟩
  rcases L.find W' hl es.toList hE.valid with ⟨_,h2⟩ | ⟨j,e0,h1,h2,h3⟩
  ·exact absurd hxk (h2 x hx)
  ·obtain rfl:e0=x:=zG hE.keys (List.mem_of_getElem? h2) hx (h3.trans hxk.symm)
   simp [Instr.lookup,run_underlying ht,MapKept.run_getObj_map (hW'.trans hb),L.check W' _ hl,h1,Result.andThen]
 ·have hn:∀ x∈es.toList,x.key≠κ k:=fun x h1 h2=>hx ⟨x,h1,h2⟩
  refine ⟨.slice none 0 0,fun W' hW'=>?_,?_⟩
  ·rcases L.find W' hl es.toList hE.valid with ⟨h1,_⟩ | ⟨j,e0,_,h2,h3⟩
   ·simp [Instr.lookup,run_underlying ht,MapKept.run_getObj_map (hW'.trans hb),L.check W' _ hl,h1,hz,Result.andThen]
   ·exact absurd ⟨e0,List.mem_of_getElem? h2,h3⟩ hx
  ·rw [hE.nil_of hn];exact World.ownsRow_nil _ _ _ _
theorem qI {w:World} {o o':Obj} (hb:w.heap[b]?=some o):(setBlock w b o').heap[b]?=some o':=(MapKept.heap_set hb).1
theorem eD {w:World} {o o':Obj} (hb:w.heap[b]?=some o) {p:Nat} (hp:p≠b):(setBlock w b o').heap[p]?=w.heap[p]?:=(MapKept.heap_set hb).2 p hp
theorem lX {w:World} {o o':Obj} (hb:w.heap[b]?=some o):w.grownBy (setBlock w b o') (some b) :=
 ⟨rfl,rfl,rfl,by simp [setBlock],fun k _ hk=>eD hb (fun e=>hk (by rw [e]))⟩
theorem zH {es:Array MapEntry} {j:Nat} {e0 x:MapEntry} {g:MapEntry→MapEntry} (hj:es.toList[j]?=some e0) (hx:x∈(es.modify j g).toList):x=g e0∨∃ i,i≠j∧es.toList[i]?=some x:=by
 obtain ⟨i,hi⟩:=List.getElem?_of_mem hx
 rw [Array.toList_modify,List.getElem?_modify] at hi
 by_cases hij:j=i
 ·subst hij
  rw [hj] at hi
  simp at hi
  exact .inl hi.symm
 ·refine .inr ⟨i,fun e=>hij e.symm,?_⟩
  simpa [hij] using hi
theorem zI {es:Array MapEntry} {j i:Nat} {x:MapEntry} {g:MapEntry→MapEntry} (hx:es.toList[i]?=some x):(if j=i then g x else x)∈(es.modify j g).toList:=by
 refine List.mem_of_getElem? (i:=i) ?_
 rw [Array.toList_modify,List.getElem?_modify,hx]
 by_cases hij:j=i<;>simp [hij]
theorem zJ {β:Type} {es:Array MapEntry} {j:Nat} {g:MapEntry→MapEntry} {p:MapEntry→β} (h:∀ x,p (g x)=p x):(es.modify j g).toList.map p=es.toList.map p:=by
 apply List.ext_getElem?
 intro i
 rw [Array.toList_modify,List.getElem?_map,List.getElem?_map,List.getElem?_modify]
 cases es.toList[i]? with
 | none=>rfl
 | some x =>
  by_cases hij:j=i
  ·simp [hij,h]
  ·simp [hij]
theorem pw_map {β:Type} {r:β→β→Prop} {p:MapEntry→β} {l l':List MapEntry} (h:l.Pairwise (fun x y=>r (p x) (p y))) (e:l'.map p=l.map p):l'.Pairwise (fun x y=>r (p x) (p y)):=by
 rw [← List.pairwise_map] at h ⊢
 rw [e];exact h
variable {n:Nat} {ops:Array Oper} {Q:Exit→Act→World→Prop} {os:List Oper} {l:Fr} {w0:World} {O:Own} {G:cO} {Kk:List (Nat×World)} {d:Nat} {ty:TypeId} {pos:String} {aft:Array Edge}
theorem Cd {m x:Operand} {v u:Value} {w:World} {key:Value} (hm:evL l m=some u) (hx:evL l x=some key) (hr:(Instr.lookup T u key false).run P w = .ok v w):gI P l ⟨some d,.lookup T m x false,ty,pos,aft,none⟩ w v w:=fun ev he=>by
 unfold execOp;simp only [];rw [he m _ hm,he x _ hx]
 simp [hr,Result.andThen]
theorem Oa {T e:TypeId} {x y:Operand} {kk:IntKind} {j:Int} {s:Nat} (hU:P.underlying T=some (.slice e)) (hs:∀ w,(sizeOf e).run P w = .ok s w) (hx:evL l x=some (.slice none 0 0)) (hy:evL l y=some (.int kk j)) (hj:j=0) (hd:Nat.blt d n=true)
  (h:cM P n ops Q os ((d,.slice none 0 0)::l) W):cM P n ops Q (⟨some d,.slice T x none (some y) none,ty,pos,aft,none⟩::os) l W :=
 opV (v:=.slice none 0 0) (fun ev he=>by
  subst hj
  unfold execOp;simp only [Option.map_some,Option.map_none];rw [he x _ hx,he y _ hy]
  simp [Instr.sliceAt,Instr.slice,Instr.sliceBounds,Instr.sliceBound,run_underlying hU,asIntOf,hs,Result.andThen]) hd h
theorem Lh {es:Array MapEntry} {clock:Nat} (hS:St w0 O G Kk W) (hb:W.heap[b]?=some (.map es clock)):∀ p∈O,p.1≠b∧p.1 < W.heap.size:=fun p hp=>by
 refine ⟨fun e=>?_,hS.own_lt p hp⟩
 have h1:=(hS.own p hp).2
 rw [e,hb] at h1
 cases h1
theorem Grp.lt (h:Grp P K E κ lo f b W):b < W.heap.size:=by
 obtain ⟨es,clock,h1,_⟩:=h
 exact bL h1
def rL (W:World) (b:Nat):World:={ W with heap:=W.heap.extract 0 (b+1) }
theorem jA (h:b < W.heap.size):(rL W b).heap.size=b+1:=by simp [rL];omega
theorem tY (h:b < W.heap.size):b < (rL W b).heap.size:=by rw [jA h];exact Nat.lt_succ_self _
theorem tZ (h:b < W.heap.size):(rL W b).heap[b]?=W.heap[b]?:=by
 rw [Array.getElem?_eq_getElem (tY h),Array.getElem?_eq_getElem h]
 simp [rL]
theorem St.markAt {b:Nat} (h:St w0 O [] Kk W) (hb:b < W.heap.size) (hO:∀ p∈O,p.1≠b):St w0 O [] ((b,rL W b)::Kk) W where
 below:=h.below
 own:=h.own
 dist:=h.dist
 kept:=fun q hq=>by
  rcases List.mem_cons.1 hq with rfl | hq
  ·refine ⟨⟨by show (rL W b).heap.size≤_;rw [jA hb];exact hb,fun x h1 h2=>?_⟩,fun p hp=>?_⟩
   ·have h3:x < b+1:=by rw [← jA hb];exact h2
    have h4:b≤x:=h1
    obtain rfl:x=b:=by omega
    exact (tZ hb).symm
   ·have:=hO p hp
    show p.1 < b∨(rL W b).heap.size≤p.1
    rw [jA hb];omega
  ·exact h.kept q hq
 rows:=fun g hg=>by cases hg
 gdist:=List.Pairwise.nil
end
end Go.Proofs.YtmgnkpibpjgncaaGreatDoor
namespace Go.Proofs.YtmgnkpibpjgncaaGreatDoor
open Go Go.RowKit
theorem St.headSl {w0 W:World} {O:Own} {G:cO} {K:List (Nat×World)} {v:Value} {n size:Nat} {xs:List Value} {e:TypeId} (h:St w0 O (⟨v,n,xs,e,size⟩::G) K W):∃ a c,v = .slice a n c:=by
 obtain ⟨a,c,e9,_⟩:=gH (h.row 0 rfl)
 exact ⟨a,c,e9⟩
section
variable {w0 W:World} {O:Own} {G:cO} {K:List (Nat×World)}
variable {P:Program} {n:Nat} {ops:Array Oper} {Q:Exit→Act→World→Prop} {l:Fr} {os:List Oper} {d:Nat} {ty:TypeId} {pos:String} {aft:Array Edge}
theorem St.markMap {b:Nat} {es:Array MapEntry} {clock:Nat} (h:St w0 O G K W) (hb:W.heap[b]?=some (.map es clock)):St w0 O G ((b,rL W b)::K) W where
 below:=h.below
 own:=h.own
 dist:=h.dist
 kept:=fun q hq=>by
  rcases List.mem_cons.1 hq with rfl | hq
  ·have hlt:=bL hb
   refine ⟨⟨by show (rL W b).heap.size≤_;rw [jA hlt];exact hlt,fun x h1 h2=>?_⟩,fun p hp=>?_⟩
   ·have h3:x < b+1:=by rw [← jA hlt];exact h2
    have h4:b≤x:=h1
    obtain rfl:x=b:=by omega
    exact (tZ hlt).symm
   ·have:p.1≠b:=fun e=>by
     have h5:=(h.own p hp).2
     rw [e,hb] at h5;cases h5
    show p.1 < b∨(rL W b).heap.size≤p.1
    rw [jA hlt];omega
  ·exact h.kept q hq
 rows:=fun g hg=>by
  obtain ⟨h1,h2⟩:=h.rows g hg
  refine ⟨h1,fun k hk=>⟨(h2 k hk).1,fun q hq=>?_⟩⟩
  rcases List.mem_cons.1 hq with rfl | hq
  ·have:k≠b:=kS h1 hb hk
   show k < b∨(rL W b).heap.size≤k
   rw [jA (bL hb)];omega
  ·exact (h2 k hk).2 q hq
 gdist:=h.gdist
theorem St.oneV (h:St w0 O G K W) (i:Nat) (g:GR) (hi:G[i]?=some g):g.v.oneCell'=true:=by
 rcases (h.rows g (List.mem_of_getElem? hi)).1.2 with ⟨h1,_⟩ | ⟨_,_,_,h1,_⟩<;>rw [h1]<;>rfl
end
section
variable {P:Program} {ops opf:Array Oper} {Q:Exit→Act→World→Prop} {n:Nat} {l:Fr} {w0 W:World} {K:List (Nat×World)} {lo:Nat} {al:List AB} {Ob:Own} {G:Sy→cO} {E:List Nat} {L:List Asr} {i:Nat}
variable {d:Nat} {op:Op} {ty:TypeId} {pos:String} {aft_:Array Edge}
end
structure Ready (w:World) (S:PS) (px:RV→PX) (p:PV) (c:CV):Prop where
 chk:Rm p c=0
 ok:S.ok
 si:SIs w S p.s.f
 w4:∀ r∈p.rs,r.wl≤4096
 c4:c.wl≤4096
 x:∀ r∈p.rs,XIs w S r.x.f (px r)
theorem ready {w:World} {ds d:Nat} {p:PV} {c:CV} (hp:PvIn w ds d p) (h:Rm p c=0):∃ S px,Ready w S px p c:=by
 classical
 have h1:pdsE p=0∧Rl p c=true:=by
  unfold Rm at h
  split at h
  ·rename_i hn;exact absurd h hn
  ·rename_i hn
   split at h
   ·rename_i hc;exact ⟨Decidable.of_not_not hn,hc⟩
   ·cases h
 obtain ⟨hd,hc⟩:=h1
 have h2:dP p.s=0∧p.rs.all (Rk p.st p.sy)=true∧wtE p.s p.rs=0:=by
  unfold pdsE at hd
  split at hd
  ·rename_i hn;exact absurd hd hn
  ·rename_i hn
   split at hd
   ·cases hd
   ·split at hd
    ·cases hd
    ·split at hd
     ·rename_i ha;exact ⟨Decidable.of_not_not hn,ha,hd⟩
     ·cases hd
 obtain ⟨hs,hr,hw⟩:=h2
 obtain ⟨S,hok,hsi,hx⟩:=Gl hp.s hs
 have hall:∀ r∈p.rs,kQ p.s r.x=0:=by
  have key:∀ rs:List RV,wtE p.s rs=0→∀ r∈rs,kQ p.s r.x=0:=by
   intro rs
   induction rs with
   | nil=>intro _ r hr;cases hr
   | cons a rs ih =>
    intro hz r hr
    unfold wtE at hz
    split at hz
    ·rename_i h0
     rcases List.mem_cons.1 hr with rfl | hr
     ·exact h0
     ·exact ih hz r hr
    ·rename_i h0;exact absurd hz h0
  exact key _ hw
 have hex:∀ r,∃ x,r∈p.rs→XIs w S r.x.f x:=fun r=>by
  by_cases hm:r∈p.rs
  ·have h0:=hall r hm
   have hokw:okW p.s r.x=true:=by
    unfold kQ at h0
    rw [if_pos hs] at h0
    split at h0
    ·assumption
    ·cases h0
   obtain ⟨x,hxx⟩:=hx r.x d (hp.rin r hm).x hokw
   exact ⟨x,fun _=>hxx⟩
  ·exact ⟨bJ S,fun h=>absurd h hm⟩
 refine ⟨S,fun r=>Classical.choose (hex r),h,hok,hsi,fun r hm=>?_,?_,fun r hm=>Classical.choose_spec (hex r) hm⟩
 ·have:=List.all_eq_true.1 hr r hm
  unfold Rk at this
  simp only [Bool.and_eq_true,decide_eq_true_eq] at this
  exact this.2.2.2.1
 ·unfold Rl at hc
  simp only [Bool.and_eq_true,decide_eq_true_eq] at hc
  exact hc.2.1
section
variable {w:World} {ds d:Nat} {S:PS} {px:RV→PX} {p:PV} {c:CV} {la:Option Addr} {ll lc:Nat} {is:List Int} {R:Option StT×Int×Int}
end
theorem Li:bI Tryz.prog 39=true:=by kernel_rfl
theorem fa_76_1 (w:World) (b o:Nat):(Instr.fieldAt 76 (.pointer (some ⟨b,o,none⟩)) 1).run Tryz.prog w = .ok (.pointer (some ⟨b,o+3,none⟩)) w:=by
 simp [Instr.fieldAt,run_underlying Tryz.underlying76,Instr.sureAddr,go_sem,Addr.add_lit]
noncomputable def nzX (S:PS) (x:PX):Bool:=@decide (x≠bJ S) (Classical.propDecidable _)
theorem nP {S:PS} {x:PX}:nzX S x=true↔x≠bJ S:=by unfold nzX;exact @decide_eq_true_iff _ (Classical.propDecidable _)
theorem kH {S:PS} {x:PX}:nzX S x=false↔x=bJ S:=by
 unfold nzX
 rw [@decide_eq_false_iff_not _ (Classical.propDecidable _)]
 exact Classical.not_not
noncomputable def eqX (x y:PX):Bool:=@decide (x=y) (Classical.propDecidable _)
theorem qJ {x y:PX}:eqX x y=true↔x=y:=by unfold eqX;exact @decide_eq_true_iff _ (Classical.propDecidable _)
theorem rF {x y:PX}:eqX x y=false↔x≠y:=by unfold eqX;exact @decide_eq_false_iff_not _ (Classical.propDecidable _)
theorem Aj (S:PS) (sf:SF) (f0 f:WF) (x:PX) (w:World) (h0:XIs w S f0 (bJ S)) (hx:XIs w S f x) :
  Calls Tryz.prog 38 #[iZ sf f0,f.val] w (fun e w'=>e = .returned (.bool (!nzX S x))∧Below w.heap.size w w'):=by
 refine cE (args:=[iZ sf f0,f.val]) Tryz.func38 rfl Tryz.ntmps38 rfl ?_
 have hS:=St.start w
 refine aN (aP (bW (cs:=[_,_,_,_,_,_,_,_,_]) hS rfl rfl rfl fun B1 W1 hS=>bW (cs:=[_,_,_,_,_,_]) hS rfl rfl rfl fun B2 W2 hS=>aC rfl rfl (aO (XF.thenN (aN (aP (aS (vs:=[_,_,_,_,_,_]) Tryz.isAgg44 Tryz.sizeOf44 rfl (aB.own (j:=0) (m:=6) (hS.at_ 0 rfl) rfl) rfl (aM (o':=3) fa_76_1 rfl rfl rfl (aS (vs:=[_,_,_,_,_,_]) Tryz.isAgg44 Tryz.sizeOf44 rfl (aB.own (j:=3) (m:=6) (hS.at_ 1 rfl) rfl) rfl (cB (vs:=[_,_]) hS Cx rfl (Gn (hx.below hS.below) (h0.below hS.below) (!nzX S x) (by rw [Bool.not_eq_true',kH])) rfl fun W3 hS=>aC rfl rfl (aO (XF.thenN (bT (XF.res (cH Tryz.results38 rfl) ?_))))))))))))))
 exact ⟨rfl,hS.below⟩
theorem Gr (S:PS) (sf:SF) (f0:WF) (w:World) (hs:SIs w S sf) (hok:S.ok) :
  Calls Tryz.prog 96 #[iZ sf f0] w (jZ S (bJ S) w):=by
 refine cE (args:=[iZ sf f0]) Tryz.func96 rfl Tryz.ntmps96 rfl ?_
 have hS:=St.start w
 refine aN (aP (bW (cs:=[_,_,_,_,_,_,_,_,_]) hS rfl rfl rfl fun B1 W1 hS=>bG (cs:=[_,_,_,_,_,_]) hS Tryz.zeroValue44 rfl rfl fun B2 W2 hS=>aO (XF.thenN (aN (aP (aM (o':=0) wN rfl rfl rfl (aS (vs:=[_,_,_]) Tryz.isAgg25 Tryz.sizeOf25 rfl (aB.own (j:=0) (m:=3) (hS.at_ 1 rfl) rfl) rfl ?_)))))))
 have hsz9:=hS.below.size
 refine cR (vs:=[_]) hS Ju rfl (F9 S sf _ (hs.below hS.below) hok) rfl ?_
 rintro e W3 ⟨f9,rfl,hn9,hb⟩
 refine ⟨_,rfl,hb,fun hS'=>?_⟩
 clear hS;have hS:=hS';clear hS'
 refine aI rfl rfl (bK rfl rfl rfl (bK rfl rfl rfl (bG (cs:=[_,_,_,_,_,_]) hS Tryz.zeroValue44 rfl rfl fun B4 W4 hS=>aU (i:=0) (vs:=[_,_,_,_,_,_]) (cs':=[_,_,_,_,_,_]) (O':=[_,_,_]) hS Tryz.sizeOf44 rfl rfl rfl rfl rfl rfl rfl fun W5 hS=>aC rfl rfl (aO (XF.thenN (aN (aP (aS (vs:=[_,_,_,_,_,_]) Tryz.isAgg44 Tryz.sizeOf44 rfl (aB.own (j:=0) (m:=6) (hS.at_ 0 rfl) rfl) rfl (aU (i:=1) (vs:=[_,_,_,_,_,_]) (cs':=[_,_,_,_,_,_]) (O':=[_,_,_]) hS Tryz.sizeOf44 rfl rfl rfl rfl rfl rfl rfl fun W6 hS=>aO (XF.thenN (bT (XF.res (eH (vs:=[_,_,_,_,_,_]) Tryz.results96 Tryz.isAgg44 Tryz.sizeOf44 rfl (aB.own (j:=0) (m:=6) (hS.at_ 1 rfl) rfl)) ?_))))))))))))
 exact ⟨f9,rfl,(hn9.agree (hS.since 0 rfl)).mono hsz9,hS.below⟩
theorem uA (S:PS) (sf:SF) (f0:WF) (w:World) (hs:SIs w S sf) (hok:S.ok) (a:Option Addr) (c m:Nat) (fs:List WF) (xs:List PX) (hr:oV w a fs) (hx:XL w S fs xs) (hm:fs.length=m) (hmx:m≤9223372036854775807) (ht:Tabs w) :
  Calls Tryz.prog 39 #[iZ sf f0,.slice a m c] w (jZ S (xs.foldl (bY S) (bJ S)) w):=by
 refine cE (args:=[iZ sf f0,.slice a m c]) Tryz.func39 rfl Tryz.ntmps39 rfl ?_
 have hS:=St.start w
 refine aN (aP (bW (cs:=[_,_,_,_,_,_,_,_,_]) hS rfl rfl rfl fun B1 W1 hS=>bG (cs:=[_,_,_,_,_,_]) hS Tryz.zeroValue44 rfl rfl fun B2 W2 hS=>aO (XF.thenN (aN (aP (aM (o':=0) wN rfl rfl rfl (aS (vs:=[_,_,_]) Tryz.isAgg25 Tryz.sizeOf25 rfl (aB.own (j:=0) (m:=3) (hS.at_ 1 rfl) rfl) rfl (aI rfl rfl ?_))))))))
 have hsz9:=hS.below.size
 refine cR (vs:=[_,_]) hS goes_82 rfl (F8 S sf _ (hs.below hS.below) hok a c m fs xs (hr.below hS.below) (hx.below hS.below) hm hmx (ht.below hS.below)) rfl ?_
 rintro e W3 ⟨f9,rfl,hn9,hb⟩
 refine ⟨_,rfl,hb,fun hS'=>?_⟩
 clear hS;have hS:=hS';clear hS'
 refine aI rfl rfl (bK rfl rfl rfl (bK rfl rfl rfl (bG (cs:=[_,_,_,_,_,_]) hS Tryz.zeroValue44 rfl rfl fun B4 W4 hS=>aU (i:=0) (vs:=[_,_,_,_,_,_]) (cs':=[_,_,_,_,_,_]) (O':=[_,_,_]) hS Tryz.sizeOf44 rfl rfl rfl rfl rfl rfl rfl fun W5 hS=>aC rfl rfl (aO (XF.thenN (aN (aP (aS (vs:=[_,_,_,_,_,_]) Tryz.isAgg44 Tryz.sizeOf44 rfl (aB.own (j:=0) (m:=6) (hS.at_ 0 rfl) rfl) rfl (aU (i:=1) (vs:=[_,_,_,_,_,_]) (cs':=[_,_,_,_,_,_]) (O':=[_,_,_]) hS Tryz.sizeOf44 rfl rfl rfl rfl rfl rfl rfl fun W6 hS=>aO (XF.thenN (bT (XF.res (eH (vs:=[_,_,_,_,_,_]) Tryz.results39 Tryz.isAgg44 Tryz.sizeOf44 rfl (aB.own (j:=0) (m:=6) (hS.at_ 1 rfl) rfl)) ?_))))))))))))
 exact ⟨f9,rfl,(hn9.agree (hS.since 0 rfl)).mono hsz9,hS.below⟩
theorem plus2N {w:World} {S:PS} {sf:SF} {f0:WF} {x y:PX} {vs:List Value} {lo:Nat} (hh:mW [isV (iZ sf f0),lV S [x,y]] vs w) (hs:SIs w S sf) (hok:S.ok) (hx:OkX S x) (ht:Tabs w) (hlo:lo≤w.heap.size):Calls Tryz.prog 39 vs.toArray w (xL (dO lo S (bY S x y)) w):=by
 obtain ⟨v1,v2,rfl,rfl,b,fs,rfl,hr,hxl⟩:=oI hh
 refine lW hlo ?_
 have h9:=uA S sf f0 w hs hok _ 2 2 fs [x,y] hr hxl (by have:=hxl.1;simpa using this) (by decide) ht
 rw [Rv hx] at h9
 exact h9
section
variable {P:Program} {n:Nat} {ops:Array Oper} {Q:Exit→Act→World→Prop} {l:Fr} {W:World} {os:List Oper}
theorem qK {dst:Nat} {op:Op} {ty:TypeId} {pos:String} {aft:Array Edge} {g d:Nat} {b:Bool} (hd:(ops[g]?).bind (·.dst)=some d) (hv:look l d=some undef) (hn:Nat.blt dst n=true)
  (h:cM P n ops Q os ((dst,undef)::l) W):cM P n ops Q (⟨some dst,op,ty,pos,aft,some (g,b)⟩::os) l W:=fun a ha=>by
 have h2:=ha.at_ d _ hv
 have hw:Region.wanted ⟨some dst,op,ty,pos,aft,some (g,b)⟩ (yielded ops a.tmps)=false:=by
  cases hx:a.tmps[d]? with
  | none=>simp [Region.wanted,yielded,hd,hx]
  | some x =>
   simp only [Act.eval,Array.getD_eq_getD_getElem?,hx] at h2
   simp at h2
   subst h2
   simp [Region.wanted,yielded,hd,hx,undef]
 unfold wpList
 rw [hw]
 exact h _ (ha.put hn)
end
structure TV where
 f:Int
 g:Int
 t:Int
 x:WV
abbrev TV.nine (r:TV):List Value:=[.int .i64 r.f,.int .i64 r.g,.int .i64 r.t,.bool r.x.f.z,.int .i64 r.x.f.c,.int .u64 (r.x.f.g:Int),.slice r.x.f.ra r.x.f.rl r.x.f.rc,.slice r.x.f.ca r.x.f.cl r.x.f.cc,.slice r.x.f.pa r.x.f.pl r.x.f.pc]
def qL (w:World) (a:Option Addr) (ts:List TV):Prop :=
 ts=[]∨∃ b off,a=some ⟨b,off,none⟩∧∀ (i:Nat) r,ts[i]?=some r→aB w b (off+i * 9) r.nine
structure AV where
 s:SV
 st:Int
 sy:Int
 fa:Option Addr
 fl:Nat
 fc:Nat
 fs:List Int
 ta:Option Addr
 tl:Nat
 tc:Nat
 ts:List TV
abbrev AV.seven (a:AV):List Value:=[.int .i64 a.s.f.tag,.int .i64 a.s.f.dim,.slice a.s.f.a a.s.f.len a.s.f.cap,.int .i64 a.st,.int .i64 a.sy,.slice a.fa a.fl a.fc,.slice a.ta a.tl a.tc]
abbrev AV.val (a:AV):Value:=.agg #[.int .i64 a.s.f.tag,.int .i64 a.s.f.dim,.slice a.s.f.a a.s.f.len a.s.f.cap,.int .i64 a.st,.int .i64 a.sy,.slice a.fa a.fl a.fc,.slice a.ta a.tl a.tc]
structure AIn (w:World) (ds d:Nat) (a:AV):Prop where
 s:SIn w ds a.s
 frow:Row w a.fa a.fs
 flen:a.fs.length=a.fl
 trow:qL w a.ta a.ts
 tlen:a.ts.length=a.tl
 tin:∀ t∈a.ts,WIn w d t.x
 fmax:a.fl≤9223372036854775807
 tmax:a.tl≤9223372036854775807
theorem qL.at_ {w:World} {a:Option Addr} {rs:List TV} (h:qL w a rs) {i:Nat} {r:TV} (hi:rs[i]?=some r):∃ b off,a=some ⟨b,off,none⟩∧aB w b (off+i * 9) r.nine:=by
 rcases h with rfl | ⟨b,off,ha,hc⟩
 ·simp at hi
 ·exact ⟨b,off,ha,hc i r hi⟩
theorem qL.below {w w':World} {a:Option Addr} {rs:List TV} (h:qL w a rs) (hb:Below w.heap.size w w'):qL w' a rs:=by
 rcases h with h | ⟨b,off,rfl,hc⟩
 ·exact .inl h
 ·exact .inr ⟨b,off,rfl,fun i r hi=>aB.agree (aL hb 0) (Nat.zero_le _) (hc i r hi)⟩
theorem AIn.below {w w':World} {ds d:Nat} {a:AV} (h:AIn w ds d a) (hb:Below w.heap.size w w'):AIn w' ds d a:=⟨SIn.below hb h.s,h.frow.below hb,h.flen,h.trow.below hb,h.tlen,fun t ht=>WIn.below hb (h.tin t ht),h.fmax,h.tmax⟩
def lY (st:Int) (fs:List Int) (i:Nat):Bool:=inQ (fs.getD i 0) st && (decide (i=0) || decide (fs.getD (i - 1) 0 < fs.getD i 0))
def I5 (st:Int) (fs:List Int):Bool:=(List.range fs.length).all (lY st fs)
theorem Lj {st:Int} {fs:List Int} (h:∀ j,j < fs.length→lY st fs j=true):I5 st fs=true:=List.all_eq_true.2 fun j hj=>h j (List.mem_range.1 hj)
theorem wY {st:Int} {fs:List Int} {i:Nat} (hi:i < fs.length) (h:lY st fs i=false):I5 st fs=false:=by
 cases hb:I5 st fs with
 | false=>rfl
 | true =>
  have:=List.all_eq_true.1 hb i (List.mem_range.2 hi)
  rw [h] at this;cases this
theorem uB {fs:List Int} {i:Nat} {y:Int} (h:fs[i]?=some y):fs.getD i 0=y:=by
 rw [List.getD_eq_getElem?_getD,h];rfl
theorem Ce {st:Int} {fs:List Int} {i:Nat} {y:Int} (h:fs[i]?=some y) (hq:inQ y st=false):lY st fs i=false:=by
 unfold lY;rw [uB h,hq];rfl
theorem zK {st:Int} {fs:List Int} {i:Nat} {y:Int} (h:fs[i]?=some y) (hq:inQ y st=true) (hi:i=0):lY st fs i=true:=by
 unfold lY;rw [uB h,hq,decide_eq_true hi];rfl
theorem rG {st:Int} {fs:List Int} {i:Nat} {y z:Int} (h:fs[i]?=some y) (hz:fs[i - 1]?=some z) (hq:inQ y st=true) (hi:0 < i):lY st fs i=decide (z < y):=by
 unfold lY;rw [uB h,uB hz,hq,decide_eq_false (show ¬ i=0 by omega)];rfl
theorem uC {st:Int} {fs:List Int} {i:Nat} (h:∀ j,j < i→lY st fs j=true) (hi:lY st fs i=true):∀ j,j < i+1→lY st fs j=true:=fun j hj=>by
 rcases Nat.lt_or_ge j i with h1 | h1
 ·exact h j h1
 ·rw [show j=i by omega];exact hi
def trB (st sy:Int) (t:TV):Bool:=inQ t.f st && (inQ t.t st && (decide (-1≤t.g) && decide (t.g < sy)))
def dA (st sy:Int) (fs:List Int) (ts:List TV):Bool:=if st < 0∨4096 < st∨sy < 0∨4096 < sy then false else I5 st fs && ts.all (trB st sy)
def eR (a:AV):Int :=
 if dP a.s≠0 then dP a.s else if 65536 < a.tl then 3 else if dA a.st a.sy a.fs a.ts=false then 100 else if a.ts.all (fun t=>decide (kQ a.s t.x=0))=true then 0 else 51
theorem chkW_51 {s:SV} {x:WV} (hs:dP s=0) (h:kQ s x≠0):kQ s x=51:=by
 unfold kQ at h ⊢
 rw [if_pos hs] at h ⊢
 split
 ·rename_i h2;rw [if_pos h2] at h;exact absurd rfl h
 ·rfl
theorem Ef (w:World) (b o:Nat):(Instr.fieldAt 66 (.pointer (some ⟨b,o,none⟩)) 0).run Tryz.prog w = .ok (.pointer (some ⟨b,o+0,none⟩)) w:=by
 simp [Instr.fieldAt,run_underlying Tryz.underlying66,Instr.sureAddr,go_sem,Addr.add_lit]
theorem uD (w:World) (b o:Nat):(Instr.fieldAt 66 (.pointer (some ⟨b,o,none⟩)) 1).run Tryz.prog w = .ok (.pointer (some ⟨b,o+1,none⟩)) w:=by
 simp [Instr.fieldAt,run_underlying Tryz.underlying66,Instr.sureAddr,go_sem,Addr.add_lit]
theorem oL (w:World) (b o:Nat):(Instr.fieldAt 66 (.pointer (some ⟨b,o,none⟩)) 2).run Tryz.prog w = .ok (.pointer (some ⟨b,o+2,none⟩)) w:=by
 simp [Instr.fieldAt,run_underlying Tryz.underlying66,Instr.sureAddr,go_sem,Addr.add_lit]
theorem wZ (w:World) (b o:Nat):(Instr.fieldAt 66 (.pointer (some ⟨b,o,none⟩)) 3).run Tryz.prog w = .ok (.pointer (some ⟨b,o+3,none⟩)) w:=by
 simp [Instr.fieldAt,run_underlying Tryz.underlying66,Instr.sureAddr,go_sem,Addr.add_lit]
theorem rH (w:World) (b o:Nat):(Instr.fieldAt 29 (.pointer (some ⟨b,o,none⟩)) 0).run Tryz.prog w = .ok (.pointer (some ⟨b,o+0,none⟩)) w:=by
 simp [Instr.fieldAt,run_underlying Tryz.underlying29,Instr.sureAddr,go_sem,Addr.add_lit]
theorem lG (w:World) (b o:Nat):(Instr.fieldAt 29 (.pointer (some ⟨b,o,none⟩)) 1).run Tryz.prog w = .ok (.pointer (some ⟨b,o+3,none⟩)) w:=by
 simp [Instr.fieldAt,run_underlying Tryz.underlying29,Instr.sureAddr,go_sem,Addr.add_lit]
theorem mN (w:World) (b o:Nat):(Instr.fieldAt 29 (.pointer (some ⟨b,o,none⟩)) 2).run Tryz.prog w = .ok (.pointer (some ⟨b,o+4,none⟩)) w:=by
 simp [Instr.fieldAt,run_underlying Tryz.underlying29,Instr.sureAddr,go_sem,Addr.add_lit]
theorem lH (w:World) (b o:Nat):(Instr.fieldAt 29 (.pointer (some ⟨b,o,none⟩)) 3).run Tryz.prog w = .ok (.pointer (some ⟨b,o+5,none⟩)) w:=by
 simp [Instr.fieldAt,run_underlying Tryz.underlying29,Instr.sureAddr,go_sem,Addr.add_lit]
theorem gR (w:World) (b o:Nat):(Instr.fieldAt 29 (.pointer (some ⟨b,o,none⟩)) 4).run Tryz.prog w = .ok (.pointer (some ⟨b,o+6,none⟩)) w:=by
 simp [Instr.fieldAt,run_underlying Tryz.underlying29,Instr.sureAddr,go_sem,Addr.add_lit]
theorem goes_30:bI Tryz.prog 30=true:=by kernel_rfl
theorem uE:bI Tryz.prog 33=true:=by kernel_rfl
theorem xA:bI Tryz.prog 76=true:=by kernel_rfl
theorem uF (a:AV) (n:Int) (w:World) :
  Calls Tryz.prog 76 #[a.val,.int .i64 n] w (fun e w'=>e = .returned (.bool (inQ n a.st))∧Below w.heap.size w w'):=by
 refine cE (args:=[a.val,.int .i64 n]) Tryz.func76 rfl Tryz.ntmps76 rfl ?_
 have hS:=St.start w
 refine aN (aP (bW (cs:=[_,_,_,_,_,_,_]) hS rfl rfl rfl fun B1 W1 hS=>aC rfl rfl (aO (XF.thenN (aN (aP (aI rfl rfl (pE rfl rfl rfl (aI rfl rfl (bQ (d:=7) rfl (fun hc=>?_) (fun hc=>?_)))))))))))
 ·have hg7:=of_decide_eq_true hc;clear hc
  refine aF (d:=7) rfl rfl (aI rfl rfl (aF (d:=7) rfl rfl (aM (o':=3) lG rfl rfl rfl (aF (d:=7) rfl rfl (aR Tryz.isAgg3 rfl (aK (hS.at_ 0 rfl) rfl) rfl (aF (d:=7) rfl rfl (cU rfl rfl rfl (bD rfl rfl rfl (aC rfl rfl (aO (XF.thenN (bT (XF.res (cH Tryz.results76 rfl) ?_)))))))))))))
  exact ⟨bF (by simp [inQ,show 0≤n from hg7]),hS.below⟩
 ·have hg7:=of_decide_eq_false hc;clear hc
  refine aG (d:=7) rfl rfl rfl rfl (aG (d:=7) rfl rfl rfl rfl (aG (d:=7) rfl rfl rfl rfl (aG (d:=7) rfl rfl rfl rfl (bU rfl rfl rfl (aC rfl rfl (aO (XF.thenN (bT (XF.res (cH Tryz.results76 rfl) ?_)))))))))
  exact ⟨bF (by simp [inQ];omega),hS.below⟩
theorem zL (a:AV) (n:Int) (w:World) :
  Calls Tryz.prog 33 #[a.val,.int .i64 n] w (fun e w'=>e = .returned (.bool (inQ n a.st))∧Below w.heap.size w w'):=by
 refine cE (args:=[a.val,.int .i64 n]) Tryz.func33 rfl Tryz.ntmps33 rfl ?_
 have hS:=St.start w
 refine aN (aP (bW (cs:=[_,_,_,_,_,_,_]) hS rfl rfl rfl fun B1 W1 hS=>aC rfl rfl (aO (XF.thenN (aN (aP (aI rfl rfl (pE rfl rfl rfl (aI rfl rfl (bQ (d:=7) rfl (fun hc=>?_) (fun hc=>?_)))))))))))
 ·have hg7:=of_decide_eq_true hc;clear hc
  refine aF (d:=7) rfl rfl (aI rfl rfl (aF (d:=7) rfl rfl (aM (o':=3) lG rfl rfl rfl (aF (d:=7) rfl rfl (aR Tryz.isAgg3 rfl (aK (hS.at_ 0 rfl) rfl) rfl (aF (d:=7) rfl rfl (cU rfl rfl rfl (bD rfl rfl rfl (aC rfl rfl (aO (XF.thenN (bT (XF.res (cH Tryz.results33 rfl) ?_)))))))))))))
  exact ⟨bF (by simp [inQ,show 0≤n from hg7]),hS.below⟩
 ·have hg7:=of_decide_eq_false hc;clear hc
  refine aG (d:=7) rfl rfl rfl rfl (aG (d:=7) rfl rfl rfl rfl (aG (d:=7) rfl rfl rfl rfl (aG (d:=7) rfl rfl rfl rfl (bU rfl rfl rfl (aC rfl rfl (aO (XF.thenN (bT (XF.res (cH Tryz.results33 rfl) ?_)))))))))
  exact ⟨bF (by simp [inQ];omega),hS.below⟩
theorem Oc (ds d:Nat) (s:SV) (st sy:Int) (fa:Option Addr) (fl fc:Nat) (fs:List Int) (ta:Option Addr) (tl tc:Nat) (ts:List TV) (w:World) (hs:SIn w ds s) (hfrow:Row w fa fs) (hflen:fs.length=fl) (htrow:qL w ta ts) (htlen:ts.length=tl) (htin:∀ t∈ts,WIn w d t.x) (hfm:fl≤9223372036854775807) (htm:tl≤9223372036854775807) :
  Calls Tryz.prog 30 #[.agg #[.int .i64 s.f.tag,.int .i64 s.f.dim,.slice s.f.a s.f.len s.f.cap,.int .i64 st,.int .i64 sy,.slice fa fl fc,.slice ta tl tc]] w (fun e w'=>e = .returned (.bool (dA st sy fs ts))∧Below w.heap.size w w'):=by
 refine cE (args:=[.agg #[.int .i64 s.f.tag,.int .i64 s.f.dim,.slice s.f.a s.f.len s.f.cap,.int .i64 st,.int .i64 sy,.slice fa fl fc,.slice ta tl tc]]) Tryz.func30 rfl Tryz.ntmps30 rfl ?_
 have hS:=St.start w
 refine aN (aP (bW (cs:=[_,_,_,_,_,_,_]) hS rfl rfl rfl fun B1 W1 hS=>aC rfl rfl (aO (XF.thenN (aN (aN (aP (aM (o':=3) lG rfl rfl rfl (aR Tryz.isAgg3 rfl (aK (hS.at_ 0 rfl) rfl) rfl (cU rfl rfl rfl (aI rfl rfl (bQ (d:=10) rfl (fun hc=>?_) (fun hc=>?_)))))))))))))
 ·have hg10:=of_decide_eq_true hc;clear hc
  refine aG (d:=10) rfl rfl rfl rfl (aG (d:=10) rfl rfl rfl rfl (aG (d:=10) rfl rfl rfl rfl (bD rfl rfl rfl (aI rfl rfl (aG (d:=15) rfl rfl rfl rfl (aG (d:=15) rfl rfl rfl rfl (aG (d:=15) rfl rfl rfl rfl (bD rfl rfl rfl (aI rfl rfl (aG (d:=20) rfl rfl rfl rfl (aG (d:=20) rfl rfl rfl rfl (aG (d:=20) rfl rfl rfl rfl (bD rfl rfl rfl (aO (XF.thenN (fI rfl (aN (aP (aC rfl rfl (aO (XF.thenN (bT (XF.thenR ?_)))))))))))))))))))))))
  refine XF.res (cH Tryz.results30 rfl) ?_
  exact ⟨bF (by unfold dA;rw [if_pos (by omega)]),hS.below⟩
 ·have hg10:=of_decide_eq_false hc;clear hc
  refine aF (d:=10) rfl rfl (aM (o':=3) lG rfl rfl rfl (aF (d:=10) rfl rfl (aR Tryz.isAgg3 rfl (aK (hS.at_ 0 rfl) rfl) rfl (aF (d:=10) rfl rfl (pD rfl rfl rfl (bU rfl rfl rfl (aI rfl rfl (bQ (d:=15) rfl (fun hc=>?_) (fun hc=>?_)))))))))
  ·have hg15:=of_decide_eq_true hc;clear hc
   refine aG (d:=15) rfl rfl rfl rfl (aG (d:=15) rfl rfl rfl rfl (aG (d:=15) rfl rfl rfl rfl (bD rfl rfl rfl (aI rfl rfl (aG (d:=20) rfl rfl rfl rfl (aG (d:=20) rfl rfl rfl rfl (aG (d:=20) rfl rfl rfl rfl (bD rfl rfl rfl (aO (XF.thenN (fI rfl (aN (aP (aC rfl rfl (aO (XF.thenN (bT (XF.thenR (XF.res (cH Tryz.results30 rfl) ?_)))))))))))))))))))
   exact ⟨bF (by unfold dA;rw [if_pos (by omega)]),hS.below⟩
  ·have hg15:=of_decide_eq_false hc;clear hc
   refine aF (d:=15) rfl rfl (aM (o':=4) mN rfl rfl rfl (aF (d:=15) rfl rfl (aR Tryz.isAgg3 rfl (aK (hS.at_ 0 rfl) rfl) rfl (aF (d:=15) rfl rfl (cU rfl rfl rfl (bU rfl rfl rfl (aI rfl rfl (bQ (d:=20) rfl (fun hc=>?_) (fun hc=>?_)))))))))
   ·have hg20:=of_decide_eq_true hc;clear hc
    refine aG (d:=20) rfl rfl rfl rfl (aG (d:=20) rfl rfl rfl rfl (aG (d:=20) rfl rfl rfl rfl (bD rfl rfl rfl (aO (XF.thenN (fI rfl (aN (aP (aC rfl rfl (aO (XF.thenN (bT (XF.thenR (XF.res (cH Tryz.results30 rfl) ?_))))))))))))))
    exact ⟨bF (by unfold dA;rw [if_pos (by omega)]),hS.below⟩
   ·have hg20:=of_decide_eq_false hc;clear hc
    refine aF (d:=20) rfl rfl (aM (o':=4) mN rfl rfl rfl (aF (d:=20) rfl rfl (aR Tryz.isAgg3 rfl (aK (hS.at_ 0 rfl) rfl) rfl (aF (d:=20) rfl rfl (pD rfl rfl rfl (bU rfl rfl rfl (aO (XF.thenN (bA rfl (fun hc=>?_) (fun hc=>?_))))))))))
    ·have hc24:=of_decide_eq_true hc;clear hc
     refine aN (aP (aC rfl rfl (aO (XF.thenN (bT (XF.thenR (XF.res (cH Tryz.results30 rfl) ?_)))))))
     exact ⟨bF (by unfold dA;rw [if_pos (by omega)]),hS.below⟩
    ·have hc24:=of_decide_eq_false hc;clear hc
     have h2:¬ (st < 0∨4096 < st∨sy < 0∨4096 < sy):=by omega
     refine bM (XF.thenN (aN (aN (aP (aM (o':=5) lH rfl rfl rfl (aR Tryz.isAgg26 rfl (aK (hS.at_ 0 rfl) rfl) rfl (cJ Tryz.underlying26 rfl rfl (aI rfl rfl (aO (XF.thenN (bX (eO (fun m l W=>∃ i:Nat,i≤fl∧m=fl - i∧l=[(1,.pointer (some ⟨B1,0,none⟩)),(26,.slice fa fl fc),(27,.int .i64 (fl:Int)),(28,.int .i64 (i:Int))]∧(∀ j,j < i→lY st fs j=true)∧St w [(B1,[.int .i64 s.f.tag,.int .i64 s.f.dim,.slice s.f.a s.f.len s.f.cap,.int .i64 st,.int .i64 sy,.slice fa fl fc,.slice ta tl tc],29)] [] [] W) (fl - 0) ([(1,_),(26,_),(27,_),(28,_)]) ⟨rfl,rfl,rfl,rfl,trivial⟩ (⟨0,Nat.zero_le _,rfl,rfl,fun j hj=>absurd hj (Nat.not_lt_zero _),hS.clear⟩) ?_))))))))))))
     clear hS
     rintro m l W ⟨i,hi,rfl,rfl,hall,hS⟩
     refine aN (aP (cU rfl rfl rfl (aO (XF.thenN (aN (bA rfl (fun hc=>?_) (fun hc=>?_)))))))
     ·have hc29:=of_decide_eq_true hc;clear hc
      have hk:i < fl:=by omega
      obtain ⟨b,off,y,rfl,hy,hyc⟩:=hfrow.at1 (show i < fs.length by omega)
      have k1:=hS.old hyc
      refine bM (XF.thenN (aN (bX (aN (aP (aI rfl rfl (cL  Tryz.underlying26 Tryz.sizeOf3 rfl rfl rfl (by omega) rfl rfl (aR Tryz.isAgg3 rfl (k1) rfl (aC rfl rfl (aC rfl rfl (aO (XF.thenN (aN (aP (aS (vs:=[_,_,_,_,_,_,_]) Tryz.isAgg29 Tryz.sizeOf29 rfl (aB.own (j:=0) (m:=7) (hS.at_ 0 rfl) rfl) rfl (aI rfl rfl (cB (vs:=[_,_]) hS xA rfl (uF ⟨s,st,sy,_,fl,fc,fs,ta,tl,tc,ts⟩ y _) rfl fun W2 hS=>eX rfl rfl (aI rfl rfl (bQ (d:=37) rfl (fun hc=>?_) (fun hc=>?_))))))))))))))))))))
      ·have hg37:=hc;clear hc
       have e1:inQ y st=false:=by simpa using hg37
       refine aG (d:=37) rfl rfl rfl rfl (aG (d:=37) rfl rfl rfl rfl (aG (d:=37) rfl rfl rfl rfl (qK (d:=40) rfl rfl rfl (qK (d:=40) rfl rfl rfl (qK (d:=40) rfl rfl rfl (qK (d:=40) rfl rfl rfl (qK (d:=40) rfl rfl rfl (qK (d:=40) rfl rfl rfl (qK (d:=40) rfl rfl rfl (qK (d:=40) rfl rfl rfl (aG (d:=37) rfl rfl rfl rfl (bD rfl rfl rfl (aO (XF.thenN (fI rfl (aN (aP (aC rfl rfl (aO (XF.thenN (bT (XF.blkR (XF.thenR ?_)))))))))))))))))))))))
       refine XF.thenR (XF.blkR (XF.thenR (XF.res (cH Tryz.results30 rfl) ?_)))
       exact ⟨bF (by unfold dA;rw [if_neg h2,wY (i:=i) (by omega) (Ce hy e1),Bool.false_and]),hS.below⟩
      ·have hg37:=hc;clear hc
       have e1:inQ y st=true:=by simpa using hg37
       refine aF (d:=37) rfl rfl (aI rfl rfl (aF (d:=37) rfl rfl (pD rfl rfl rfl (aF (d:=37) rfl rfl (aI rfl rfl (bQ (d:=40) rfl (fun hc=>?_) (fun hc=>?_)))))))
       ·have hg40:=of_decide_eq_true hc;clear hc
        obtain ⟨b2,off2,z,e2,hz,hzc⟩:=hfrow.at1 (show i - 1 < fs.length by omega)
        cases e2
        have k2:=hS.old hzc
        refine aF (d:=40) rfl rfl (aI rfl rfl (aF (d:=40) rfl rfl (aM (o':=5) lH rfl rfl rfl (aF (d:=40) rfl rfl (aR Tryz.isAgg26 rfl (aK (hS.at_ 0 rfl) rfl) rfl (aF (d:=40) rfl rfl (aI rfl rfl (aF (d:=40) rfl rfl (op_sub rfl rfl (IntWalk.i64_in _ (by omega)) rfl (aF (d:=40) rfl rfl (cL (j:=(i - 1)) Tryz.underlying26 Tryz.sizeOf3 rfl rfl (by omega) (by omega) rfl rfl (aF (d:=40) rfl rfl (aR Tryz.isAgg3 rfl (k2) rfl (aF (d:=40) rfl rfl (uS rfl rfl rfl (aF (d:=37) rfl rfl (bD rfl rfl rfl (bU rfl rfl rfl (aO (XF.thenN (bA rfl (fun hc=>?_) (fun hc=>?_))))))))))))))))))))))
        ·have hc50:=of_decide_eq_true hc;clear hc
         refine aN (aP (aC rfl rfl (aO (XF.thenN (bT (XF.blkR (XF.thenR (XF.thenR (XF.blkR (XF.thenR (XF.res (cH Tryz.results30 rfl) ?_)))))))))))
         exact ⟨bF (by unfold dA;rw [if_neg h2,wY (i:=i) (by omega) (by rw [rG hy hz e1 (by omega)];exact decide_eq_false (by omega)),Bool.false_and]),hS.below⟩
        ·have hc50:=of_decide_eq_false hc;clear hc
         refine bM (XF.blkN (XF.thenN (aP (dE rfl rfl (IntWalk.i64_in _ (by omega)) rfl (aI rfl rfl (aO ?_))))))
         exact XF.round (fl - (i+1)) [(1,_),(26,_),(27,_),(28,_)] (by omega) ⟨rfl,rfl,rfl,rfl,trivial⟩ ⟨i+1,by omega,rfl,rfl,uC hall (by rw [rG hy hz e1 (by omega)];exact decide_eq_true (by omega)),hS.clear⟩
       ·have hg40:=of_decide_eq_false hc;clear hc
        refine aG (d:=40) rfl rfl rfl rfl (aG (d:=40) rfl rfl rfl rfl (aG (d:=40) rfl rfl rfl rfl (aG (d:=40) rfl rfl rfl rfl (aG (d:=40) rfl rfl rfl rfl (aG (d:=40) rfl rfl rfl rfl (aG (d:=40) rfl rfl rfl rfl (aG (d:=40) rfl rfl rfl rfl (aF (d:=37) rfl rfl (bU rfl rfl rfl (bU rfl rfl rfl (aO (XF.thenN (Ez rfl (bM (XF.blkN (XF.thenN (aP (dE rfl rfl (IntWalk.i64_in _ (by omega)) rfl (aI rfl rfl (aO ?_))))))))))))))))))))
        exact XF.round (fl - (i+1)) [(1,_),(26,_),(27,_),(28,_)] (by omega) ⟨rfl,rfl,rfl,rfl,trivial⟩ ⟨i+1,by omega,rfl,rfl,uC hall (zK hy e1 (by omega)),hS.clear⟩
     ·have hc29:=of_decide_eq_false hc;clear hc
      have hfb:I5 st fs=true:=Lj fun j hj=>hall j (by omega)
      refine eN (XF.thenX (XF.thenX (XF.blkX (XF.thenN (aN (aN (aP (aM (o':=6) gR rfl rfl rfl (aR Tryz.isAgg27 rfl (aK (hS.at_ 0 rfl) rfl) rfl (cJ Tryz.underlying27 rfl rfl (aI rfl rfl (aO (XF.thenN (bX (eO (fun m l W=>∃ i:Nat,i≤tl∧m=tl - i∧l=[(1,.pointer (some ⟨B1,0,none⟩)),(53,.slice ta tl tc),(54,.int .i64 (tl:Int)),(55,.int .i64 (i:Int))]∧(ts.take i).all (trB st sy)=true∧St w [(B1,[.int .i64 s.f.tag,.int .i64 s.f.dim,.slice s.f.a s.f.len s.f.cap,.int .i64 st,.int .i64 sy,.slice fa fl fc,.slice ta tl tc],29)] [] [] W) (tl - 0) ([(1,_),(53,_),(54,_),(55,_)]) ⟨rfl,rfl,rfl,rfl,trivial⟩ (⟨0,Nat.zero_le _,rfl,rfl,rfl,hS.clear⟩) ?_)))))))))))))))
      clear hS
      rintro m l W ⟨i,hi,rfl,rfl,hall,hS⟩
      refine aN (aP (cU rfl rfl rfl (aO (XF.thenN (aN (bA rfl (fun hc=>?_) (fun hc=>?_)))))))
      ·have hc56:=of_decide_eq_true hc;clear hc
       have hk:i < tl:=by omega
       obtain ⟨r,hr⟩:∃ r,ts[i]?=some r:=⟨ts[i]'(by omega),by simp [show i < ts.length by omega]⟩
       obtain ⟨b,off,rfl,hcs⟩:=htrow.at_ hr
       have k1:=aB.agree hS.agree (Nat.zero_le _) hcs
       have hri:=htin r (List.mem_of_getElem? hr)
       refine bM (XF.thenN (aN (bX (aN (aP (cL  Tryz.underlying27 Tryz.sizeOf66 rfl rfl rfl (by omega) rfl rfl (aS (vs:=[_,_,_,_,_,_,_,_,_]) Tryz.isAgg66 Tryz.sizeOf66 rfl (k1) rfl (bG (cs:=[_,_,_,_,_,_,_,_,_]) hS Tryz.zeroValue66 rfl rfl fun B3 W3 hS=>aU (i:=0) (vs:=[_,_,_,_,_,_,_,_,_]) (cs':=[_,_,_,_,_,_,_,_,_]) (O':=[_,_]) hS Tryz.sizeOf66 rfl rfl rfl rfl rfl rfl rfl fun W4 hS=>aO (XF.thenN (aN (aP (aS (vs:=[_,_,_,_,_,_,_]) Tryz.isAgg29 Tryz.sizeOf29 rfl (aB.own (j:=0) (m:=7) (hS.at_ 1 rfl) rfl) rfl (aM (o':=0) Ef rfl rfl rfl (aR Tryz.isAgg3 rfl (aK (hS.at_ 0 rfl) rfl) rfl (cB (vs:=[_,_]) hS xA rfl (uF ⟨s,st,sy,fa,fl,fc,fs,_,tl,tc,ts⟩ r.f _) rfl fun W5 hS=>eX rfl rfl (aI rfl rfl (bQ (d:=64) rfl (fun hc=>?_) (fun hc=>?_))))))))))))))))))
       ·have hg64:=hc;clear hc
        have e1:inQ r.f st=false:=by simpa using hg64
        refine aG (d:=64) rfl rfl rfl rfl (aG (d:=64) rfl rfl rfl rfl (aG (d:=64) rfl rfl rfl rfl (aG (d:=64) rfl rfl rfl rfl (aG (d:=64) rfl rfl rfl rfl (bD rfl rfl rfl (aI rfl rfl (aG (d:=71) rfl rfl rfl rfl (aG (d:=71) rfl rfl rfl rfl (aG (d:=71) rfl rfl rfl rfl (bD rfl rfl rfl (aI rfl rfl (aG (d:=76) rfl rfl rfl rfl (aG (d:=76) rfl rfl rfl rfl (aG (d:=76) rfl rfl rfl rfl (aG (d:=76) rfl rfl rfl rfl (aG (d:=76) rfl rfl rfl rfl (bD rfl rfl rfl (aO (XF.thenN (fI rfl (aN (aP ?_))))))))))))))))))))))
        refine aC rfl rfl (aO (XF.thenN (bT (XF.blkR (XF.thenR (XF.thenR (XF.blkR (XF.thenR (XF.res (cH Tryz.results30 rfl) ?_)))))))))
        exact ⟨bF (by unfold dA;rw [if_neg h2,dD hr (by simp [trB,e1]),Bool.and_false]),hS.below⟩
       ·have hg64:=hc;clear hc
        have e1:inQ r.f st=true:=by simpa using hg64
        refine aF (d:=64) rfl rfl (aS (vs:=[_,_,_,_,_,_,_]) Tryz.isAgg29 Tryz.sizeOf29 rfl (aB.own (j:=0) (m:=7) (hS.at_ 1 rfl) rfl) rfl (aF (d:=64) rfl rfl (aM (o':=2) oL rfl rfl rfl (aF (d:=64) rfl rfl (aR Tryz.isAgg3 rfl (aK (hS.at_ 0 rfl) rfl) rfl (aF (d:=64) rfl rfl (cB (vs:=[_,_]) hS xA rfl (uF ⟨s,st,sy,fa,fl,fc,fs,_,tl,tc,ts⟩ r.t _) rfl fun W6 hS=>aF (d:=64) rfl rfl (eX rfl rfl (bU rfl rfl rfl (aI rfl rfl (bQ (d:=71) rfl (fun hc=>?_) (fun hc=>?_))))))))))))
        ·have hg71:=hc;clear hc
         have e3:inQ r.t st=false:=by simpa using hg71
         refine aG (d:=71) rfl rfl rfl rfl (aG (d:=71) rfl rfl rfl rfl (aG (d:=71) rfl rfl rfl rfl (bD rfl rfl rfl (aI rfl rfl (aG (d:=76) rfl rfl rfl rfl (aG (d:=76) rfl rfl rfl rfl (aG (d:=76) rfl rfl rfl rfl (aG (d:=76) rfl rfl rfl rfl (aG (d:=76) rfl rfl rfl rfl (bD rfl rfl rfl (aO (XF.thenN (fI rfl (aN (aP (aC rfl rfl (aO (XF.thenN (bT (XF.blkR (XF.thenR (XF.thenR (XF.blkR ?_)))))))))))))))))))))))
         refine XF.thenR (XF.res (cH Tryz.results30 rfl) ?_)
         exact ⟨bF (by unfold dA;rw [if_neg h2,dD hr (by simp [trB,e3]),Bool.and_false]),hS.below⟩
        ·have hg71:=hc;clear hc
         have e3:inQ r.t st=true:=by simpa using hg71
         refine aF (d:=71) rfl rfl (aM (o':=1) uD rfl rfl rfl (aF (d:=71) rfl rfl (aR Tryz.isAgg3 rfl (aK (hS.at_ 0 rfl) rfl) rfl (aF (d:=71) rfl rfl (cU rfl rfl rfl (bU rfl rfl rfl (aI rfl rfl (bQ (d:=76) rfl (fun hc=>?_) (fun hc=>?_)))))))))
         ·have hg76:=of_decide_eq_true hc;clear hc
          refine aG (d:=76) rfl rfl rfl rfl (aG (d:=76) rfl rfl rfl rfl (aG (d:=76) rfl rfl rfl rfl (aG (d:=76) rfl rfl rfl rfl (aG (d:=76) rfl rfl rfl rfl (bD rfl rfl rfl (aO (XF.thenN (fI rfl (aN (aP (aC rfl rfl (aO (XF.thenN (bT (XF.blkR (XF.thenR (XF.thenR (XF.blkR (XF.thenR (XF.res (cH Tryz.results30 rfl) ?_))))))))))))))))))))
          exact ⟨bF (by unfold dA;rw [if_neg h2,dD hr (by simp [trB,show ¬ (-1≤r.g) by omega]),Bool.and_false]),hS.below⟩
         ·have hg76:=of_decide_eq_false hc;clear hc
          refine aF (d:=76) rfl rfl (aM (o':=1) uD rfl rfl rfl (aF (d:=76) rfl rfl (aR Tryz.isAgg3 rfl (aK (hS.at_ 0 rfl) rfl) rfl (aF (d:=76) rfl rfl (aM (o':=4) mN rfl rfl rfl (aF (d:=76) rfl rfl (aR Tryz.isAgg3 rfl (aK (hS.at_ 1 rfl) rfl) rfl (aF (d:=76) rfl rfl (pE rfl rfl rfl (bU rfl rfl rfl (aO (XF.thenN (bA rfl (fun hc=>?_) (fun hc=>?_))))))))))))))
          ·have hc82:=of_decide_eq_true hc;clear hc
           refine aN (aP (aC rfl rfl (aO (XF.thenN (bT (XF.blkR (XF.thenR (XF.thenR (XF.blkR (XF.thenR (XF.res (cH Tryz.results30 rfl) ?_)))))))))))
           exact ⟨bF (by unfold dA;rw [if_neg h2,dD hr (by simp [trB,show ¬ (r.g < sy) by omega]),Bool.and_false]),hS.below⟩
          ·have hc82:=of_decide_eq_false hc;clear hc
           refine bM (XF.blkN (XF.thenN (aP (dE rfl rfl (IntWalk.i64_in _ (by omega)) rfl (aI rfl rfl (aO ?_))))))
           exact XF.round (tl - (i+1)) [(1,_),(53,_),(54,_),(55,_)] (by omega) ⟨rfl,rfl,rfl,rfl,trivial⟩ ⟨i+1,by omega,rfl,rfl,gC hr hall (by simp only [trB,e1,e3,Bool.true_and];rw [decide_eq_true (show -1≤r.g by omega),decide_eq_true (show r.g < sy by omega)];rfl),hS.tail.clear⟩
      ·have hc56:=of_decide_eq_false hc;clear hc
       rw [List.take_of_length_le (by omega)] at hall
       refine eN (XF.thenX (XF.thenX (XF.blkX (XF.thenN (aN (aP (aC rfl rfl (aO (XF.thenN (bT (XF.res (cH Tryz.results30 rfl) ?_)))))))))))
       exact ⟨bF (by unfold dA;rw [if_neg h2,hfb,hall,Bool.true_and]),hS.below⟩
theorem I6 (ds d:Nat) (a:AV) (w:World) (h:AIn w ds d a):Calls Tryz.prog 30 #[a.val] w (fun e w'=>e = .returned (.bool (dA a.st a.sy a.fs a.ts))∧Below w.heap.size w w'):=Oc ds d _ _ _ _ _ _ _ _ _ _ _ w h.s h.frow h.flen h.trow h.tlen h.tin h.fmax h.tmax
theorem autoA_c (ds d:Nat) (s:SV) (st sy:Int) (fa:Option Addr) (fl fc:Nat) (fs:List Int) (ta:Option Addr) (tl tc:Nat) (ts:List TV) (w:World) (hs:SIn w ds s) (hfrow:Row w fa fs) (hflen:fs.length=fl) (htrow:qL w ta ts) (htlen:ts.length=tl) (htin:∀ t∈ts,WIn w d t.x) (hfm:fl≤9223372036854775807) (htm:tl≤9223372036854775807) :
  Calls Tryz.prog 8 #[.agg #[.int .i64 s.f.tag,.int .i64 s.f.dim,.slice s.f.a s.f.len s.f.cap,.int .i64 st,.int .i64 sy,.slice fa fl fc,.slice ta tl tc]] w (fun e w'=>e = .returned (.int .i64 (eR ⟨s,st,sy,fa,fl,fc,fs,ta,tl,tc,ts⟩))∧Below w.heap.size w w'):=by
 refine cE (args:=[.agg #[.int .i64 s.f.tag,.int .i64 s.f.dim,.slice s.f.a s.f.len s.f.cap,.int .i64 st,.int .i64 sy,.slice fa fl fc,.slice ta tl tc]]) Tryz.func8 rfl Tryz.ntmps8 rfl ?_
 have hS:=St.start w
 refine aN (aP (bW (cs:=[_,_,_,_,_,_,_]) hS rfl rfl rfl fun B1 W1 hS=>aC rfl rfl (aO (XF.thenN (aN (aN (aP (aM (o':=0) rH rfl rfl rfl (aS (vs:=[_,_,_]) Tryz.isAgg25 Tryz.sizeOf25 rfl (aB.own (j:=0) (m:=3) (hS.at_ 0 rfl) rfl) rfl (cB (vs:=[_]) hS sZ rfl (uW ds s _ _ (SIn.below hS.below hs) rfl) rfl fun W2 hS=>aC rfl rfl (aO (XF.thenN (aN (aP (aI rfl rfl (dG rfl rfl rfl (aO (XF.thenN (bA rfl (fun hc=>?_) (fun hc=>?_))))))))))))))))))))
 ·have hc11:=of_decide_eq_true hc;clear hc
  refine aN (aP (aI rfl rfl (aC rfl rfl (aO (XF.thenN (bT (XF.thenR (XF.res (cH Tryz.results8 rfl) ?_))))))))
  exact ⟨eK (by unfold eR;dsimp only;rw [if_pos hc11]),hS.below⟩
 ·have hc11:=of_decide_eq_false hc;clear hc
  have h0:¬ dP s≠0:=hc11
  have hse:dP s=0:=by omega
  refine bM (XF.thenN (aN (aN (aP (aM (o':=6) gR rfl rfl rfl (aR Tryz.isAgg27 rfl (aK (hS.at_ 0 rfl) rfl) rfl (cJ Tryz.underlying27 rfl rfl (pD rfl rfl rfl (aO (XF.thenN (bA rfl (fun hc=>?_) (fun hc=>?_))))))))))))
  ·have hc16:=of_decide_eq_true hc;clear hc
   refine aN (aP (aC rfl rfl (aO (XF.thenN (bT (XF.thenR (XF.res (cH Tryz.results8 rfl) ?_)))))))
   exact ⟨eK (by unfold eR;dsimp only;rw [if_neg h0,if_pos (by omega)]),hS.below⟩
  ·have hc16:=of_decide_eq_false hc;clear hc
   have h1:¬ 65536 < tl:=by omega
   refine bM (XF.thenN (aN (aN (aP (aS (vs:=[_,_,_,_,_,_,_]) Tryz.isAgg29 Tryz.sizeOf29 rfl (aB.own (j:=0) (m:=7) (hS.at_ 0 rfl) rfl) rfl (cB (vs:=[_]) hS goes_30 rfl (I6 ds d ⟨s,st,sy,fa,fl,fc,fs,ta,tl,tc,ts⟩ _ (AIn.below ⟨hs,hfrow,hflen,htrow,htlen,htin,hfm,htm⟩ hS.below)) rfl fun W3 hS=>eX rfl rfl (aO (XF.thenN (bA rfl (fun hc=>?_) (fun hc=>?_))))))))))
   ·have hc19:=hc;clear hc
    refine aN (aP (aC rfl rfl (aO (XF.thenN (bT (XF.thenR (XF.res (cH Tryz.results8 rfl) ?_)))))))
    exact ⟨eK (by unfold eR;dsimp only;rw [if_neg h0,if_neg h1,if_pos (by simpa using hc19)]),hS.below⟩
   ·have hc19:=hc;clear hc
    have h3:¬ dA st sy fs ts=false:=by simpa using hc19
    refine bM (XF.thenN (aN (aN (aP (aM (o':=6) gR rfl rfl rfl (aR Tryz.isAgg27 rfl (aK (hS.at_ 0 rfl) rfl) rfl (cJ Tryz.underlying27 rfl rfl (aI rfl rfl (aO (XF.thenN (bX (eO (fun m l W=>∃ i:Nat,i≤tl∧m=tl - i∧l=[(1,.pointer (some ⟨B1,0,none⟩)),(21,.slice ta tl tc),(22,.int .i64 (tl:Int)),(23,.int .i64 (i:Int))]∧(ts.take i).all (fun t=>decide (kQ s t.x=0))=true∧St w [(B1,[.int .i64 s.f.tag,.int .i64 s.f.dim,.slice s.f.a s.f.len s.f.cap,.int .i64 st,.int .i64 sy,.slice fa fl fc,.slice ta tl tc],29)] [] [] W) (tl - 0) ([(1,_),(21,_),(22,_),(23,_)]) ⟨rfl,rfl,rfl,rfl,trivial⟩ (⟨0,Nat.zero_le _,rfl,rfl,rfl,hS.clear⟩) ?_))))))))))))
    clear hS
    rintro m l W ⟨i,hi,rfl,rfl,hall,hS⟩
    refine aN (aP (cU rfl rfl rfl (aO (XF.thenN (aN (bA rfl (fun hc=>?_) (fun hc=>?_)))))))
    ·have hc24:=of_decide_eq_true hc;clear hc
     have hk:i < tl:=by omega
     obtain ⟨r,hr⟩:∃ r,ts[i]?=some r:=⟨ts[i]'(by omega),by simp [show i < ts.length by omega]⟩
     obtain ⟨b,off,rfl,hcs⟩:=htrow.at_ hr
     have k1:=aB.agree hS.agree (Nat.zero_le _) hcs
     have hri:=htin r (List.mem_of_getElem? hr)
     refine bM (XF.thenN (aN (bX (aN (aP (cL  Tryz.underlying27 Tryz.sizeOf66 rfl rfl rfl (by omega) rfl rfl (aS (vs:=[_,_,_,_,_,_,_,_,_]) Tryz.isAgg66 Tryz.sizeOf66 rfl (k1) rfl (bG (cs:=[_,_,_,_,_,_,_,_,_]) hS Tryz.zeroValue66 rfl rfl fun B4 W4 hS=>aU (i:=0) (vs:=[_,_,_,_,_,_,_,_,_]) (cs':=[_,_,_,_,_,_,_,_,_]) (O':=[_,_]) hS Tryz.sizeOf66 rfl rfl rfl rfl rfl rfl rfl fun W5 hS=>aO (XF.thenN (aN (aP (aM (o':=0) rH rfl rfl rfl (aS (vs:=[_,_,_]) Tryz.isAgg25 Tryz.sizeOf25 rfl (aB.own (j:=0) (m:=3) (hS.at_ 1 rfl) rfl) rfl (aM (o':=3) wZ rfl rfl rfl (aS (vs:=[_,_,_,_,_,_]) Tryz.isAgg44 Tryz.sizeOf44 rfl (aB.own (j:=3) (m:=6) (hS.at_ 0 rfl) rfl) rfl (cB (vs:=[_,_]) hS goes_31 rfl (Gi ds d s r.x _ (SIn.below hS.below hs) (WIn.below hS.below hri)) rfl fun W6 hS=>aC rfl rfl (aO (XF.thenN (aN (aP (aI rfl rfl (dG rfl rfl rfl ?_))))))))))))))))))))))
     refine aO (XF.thenN (bA rfl (fun hc=>?_) (fun hc=>?_)))
     ·have hc33:=of_decide_eq_true hc;clear hc
      refine aN (aP (aI rfl rfl (aC rfl rfl (aO (XF.thenN (bT (XF.blkR (XF.thenR (XF.thenR (XF.blkR (XF.thenR (XF.res (cH Tryz.results8 rfl) ?_))))))))))))
      exact ⟨eK (by unfold eR;dsimp only;rw [if_neg h0,if_neg h1,if_neg h3,if_neg (by rw [dD hr (decide_eq_false hc33)];decide),chkW_51 hse hc33]),hS.below⟩
     ·have hc33:=of_decide_eq_false hc;clear hc
      refine bM (XF.blkN (XF.thenN (aP (dE rfl rfl (IntWalk.i64_in _ (by omega)) rfl (aI rfl rfl (aO ?_))))))
      exact XF.round (tl - (i+1)) [(1,_),(21,_),(22,_),(23,_)] (by omega) ⟨rfl,rfl,rfl,rfl,trivial⟩ ⟨i+1,by omega,rfl,rfl,gC hr hall (by simpa using hc33),hS.tail.clear⟩
    ·have hc24:=of_decide_eq_false hc;clear hc
     rw [List.take_of_length_le (by omega)] at hall
     refine eN (XF.thenX (XF.thenX (XF.blkX (XF.thenN (aN (aP (aC rfl rfl (aO (XF.thenN (bT (XF.res (cH Tryz.results8 rfl) ?_)))))))))))
     exact ⟨eK (by unfold eR;dsimp only;rw [if_neg h0,if_neg h1,if_neg h3,if_pos hall]),hS.below⟩
theorem R7 (ds d:Nat) (a:AV) (w:World) (h:AIn w ds d a):Calls Tryz.prog 8 #[a.val] w (fun e w'=>e = .returned (.int .i64 (eR a))∧Below w.heap.size w w'):=autoA_c ds d _ _ _ _ _ _ _ _ _ _ _ w h.s h.frow h.flen h.trow h.tlen h.tin h.fmax h.tmax
theorem autoR_c (ds d:Nat) (s:SV) (st sy:Int) (fa:Option Addr) (fl fc:Nat) (fs:List Int) (ta:Option Addr) (tl tc:Nat) (ts:List TV) (w:World) (hs:SIn w ds s) (hfrow:Row w fa fs) (hflen:fs.length=fl) (htrow:qL w ta ts) (htlen:ts.length=tl) (htin:∀ t∈ts,WIn w d t.x) (hfm:fl≤9223372036854775807) (htm:tl≤9223372036854775807) :
  Calls Tryz.prog 9 #[.agg #[.int .i64 s.f.tag,.int .i64 s.f.dim,.slice s.f.a s.f.len s.f.cap,.int .i64 st,.int .i64 sy,.slice fa fl fc,.slice ta tl tc]] w (fun e w'=>e = .returned (.int .i64 (eR ⟨s,st,sy,fa,fl,fc,fs,ta,tl,tc,ts⟩))∧Below w.heap.size w w'):=by
 refine cE (args:=[.agg #[.int .i64 s.f.tag,.int .i64 s.f.dim,.slice s.f.a s.f.len s.f.cap,.int .i64 st,.int .i64 sy,.slice fa fl fc,.slice ta tl tc]]) Tryz.func9 rfl Tryz.ntmps9 rfl ?_
 have hS:=St.start w
 refine aN (aP (bW (cs:=[_,_,_,_,_,_,_]) hS rfl rfl rfl fun B1 W1 hS=>aC rfl rfl (aO (XF.thenN (aN (aP (aM (o':=0) rH rfl rfl rfl (aS (vs:=[_,_,_]) Tryz.isAgg25 Tryz.sizeOf25 rfl (aB.own (j:=0) (m:=3) (hS.at_ 0 rfl) rfl) rfl (cB (vs:=[_]) hS Cw rfl (vD ds s _ _ (SIn.below hS.below hs) rfl) rfl fun W2 hS=>aC rfl rfl (aO (XF.thenN (aN (aN (aP (aI rfl rfl (dG rfl rfl rfl (aO (XF.thenN (bA rfl (fun hc=>?_) (fun hc=>?_))))))))))))))))))))
 ·have hc12:=of_decide_eq_true hc;clear hc
  refine aN (aP (aI rfl rfl (aC rfl rfl (aO (XF.thenN (bT (XF.thenR (XF.res (cH Tryz.results9 rfl) ?_))))))))
  exact ⟨eK (by unfold eR;dsimp only;rw [if_pos hc12]),hS.below⟩
 ·have hc12:=of_decide_eq_false hc;clear hc
  have h0:¬ dP s≠0:=hc12
  have hse:dP s=0:=by omega
  refine bM (XF.thenN (aN (aN (aP (aM (o':=6) gR rfl rfl rfl (aR Tryz.isAgg27 rfl (aK (hS.at_ 0 rfl) rfl) rfl (cJ Tryz.underlying27 rfl rfl (pD rfl rfl rfl (aO (XF.thenN (bA rfl (fun hc=>?_) (fun hc=>?_))))))))))))
  ·have hc17:=of_decide_eq_true hc;clear hc
   refine aN (aP (aC rfl rfl (aO (XF.thenN (bT (XF.thenR (XF.res (cH Tryz.results9 rfl) ?_)))))))
   exact ⟨eK (by unfold eR;dsimp only;rw [if_neg h0,if_pos (by omega)]),hS.below⟩
  ·have hc17:=of_decide_eq_false hc;clear hc
   have h1:¬ 65536 < tl:=by omega
   refine bM (XF.thenN (aN (aN (aP (aM (o':=3) lG rfl rfl rfl (aR Tryz.isAgg3 rfl (aK (hS.at_ 0 rfl) rfl) rfl (cU rfl rfl rfl (aI rfl rfl (bQ (d:=21) rfl (fun hc=>?_) (fun hc=>?_))))))))))
   ·have hg21:=of_decide_eq_true hc;clear hc
    refine aG (d:=21) rfl rfl rfl rfl (aG (d:=21) rfl rfl rfl rfl (aG (d:=21) rfl rfl rfl rfl (bD rfl rfl rfl (aI rfl rfl (aG (d:=26) rfl rfl rfl rfl (aG (d:=26) rfl rfl rfl rfl (aG (d:=26) rfl rfl rfl rfl (bD rfl rfl rfl (aI rfl rfl (aG (d:=31) rfl rfl rfl rfl (aG (d:=31) rfl rfl rfl rfl (aG (d:=31) rfl rfl rfl rfl (bD rfl rfl rfl (aO (XF.thenN (fI rfl (aN (aP (aC rfl rfl (aO (XF.thenN (bT (XF.thenR ?_)))))))))))))))))))))))
    refine XF.res (cH Tryz.results9 rfl) ?_
    exact ⟨eK (by unfold eR;dsimp only;rw [if_neg h0,if_neg h1,if_pos (by unfold dA;rw [if_pos (by omega)])]),hS.below⟩
   ·have hg21:=of_decide_eq_false hc;clear hc
    refine aF (d:=21) rfl rfl (aM (o':=3) lG rfl rfl rfl (aF (d:=21) rfl rfl (aR Tryz.isAgg3 rfl (aK (hS.at_ 0 rfl) rfl) rfl (aF (d:=21) rfl rfl (pD rfl rfl rfl (bU rfl rfl rfl (aI rfl rfl (bQ (d:=26) rfl (fun hc=>?_) (fun hc=>?_)))))))))
    ·have hg26:=of_decide_eq_true hc;clear hc
     refine aG (d:=26) rfl rfl rfl rfl (aG (d:=26) rfl rfl rfl rfl (aG (d:=26) rfl rfl rfl rfl (bD rfl rfl rfl (aI rfl rfl (aG (d:=31) rfl rfl rfl rfl (aG (d:=31) rfl rfl rfl rfl (aG (d:=31) rfl rfl rfl rfl (bD rfl rfl rfl (aO (XF.thenN (fI rfl (aN (aP (aC rfl rfl (aO (XF.thenN (bT (XF.thenR (XF.res (cH Tryz.results9 rfl) ?_)))))))))))))))))))
     exact ⟨eK (by unfold eR;dsimp only;rw [if_neg h0,if_neg h1,if_pos (by unfold dA;rw [if_pos (by omega)])]),hS.below⟩
    ·have hg26:=of_decide_eq_false hc;clear hc
     refine aF (d:=26) rfl rfl (aM (o':=4) mN rfl rfl rfl (aF (d:=26) rfl rfl (aR Tryz.isAgg3 rfl (aK (hS.at_ 0 rfl) rfl) rfl (aF (d:=26) rfl rfl (cU rfl rfl rfl (bU rfl rfl rfl (aI rfl rfl (bQ (d:=31) rfl (fun hc=>?_) (fun hc=>?_)))))))))
     ·have hg31:=of_decide_eq_true hc;clear hc
      refine aG (d:=31) rfl rfl rfl rfl (aG (d:=31) rfl rfl rfl rfl (aG (d:=31) rfl rfl rfl rfl (bD rfl rfl rfl (aO (XF.thenN (fI rfl (aN (aP (aC rfl rfl (aO (XF.thenN (bT (XF.thenR (XF.res (cH Tryz.results9 rfl) ?_))))))))))))))
      exact ⟨eK (by unfold eR;dsimp only;rw [if_neg h0,if_neg h1,if_pos (by unfold dA;rw [if_pos (by omega)])]),hS.below⟩
     ·have hg31:=of_decide_eq_false hc;clear hc
      refine aF (d:=31) rfl rfl (aM (o':=4) mN rfl rfl rfl (aF (d:=31) rfl rfl (aR Tryz.isAgg3 rfl (aK (hS.at_ 0 rfl) rfl) rfl (aF (d:=31) rfl rfl (pD rfl rfl rfl (bU rfl rfl rfl (aO (XF.thenN (bA rfl (fun hc=>?_) (fun hc=>?_))))))))))
      ·have hc35:=of_decide_eq_true hc;clear hc
       refine aN (aP (aC rfl rfl (aO (XF.thenN (bT (XF.thenR (XF.res (cH Tryz.results9 rfl) ?_)))))))
       exact ⟨eK (by unfold eR;dsimp only;rw [if_neg h0,if_neg h1,if_pos (by unfold dA;rw [if_pos (by omega)])]),hS.below⟩
      ·have hc35:=of_decide_eq_false hc;clear hc
       have h2:¬ (st < 0∨4096 < st∨sy < 0∨4096 < sy):=by omega
       refine bM (XF.thenN (aN (aN (aP (aC rfl rfl (aO (XF.thenN (bX (eO (fun m l W=>∃ i:Nat,i≤fl∧m=fl - i∧l=[(1,.pointer (some ⟨B1,0,none⟩)),(4,.int .i64 (i:Int))]∧(∀ j,j < i→lY st fs j=true)∧St w [(B1,[.int .i64 s.f.tag,.int .i64 s.f.dim,.slice s.f.a s.f.len s.f.cap,.int .i64 st,.int .i64 sy,.slice fa fl fc,.slice ta tl tc],29)] [] [] W) (fl - 0) ([(1,_),(4,_)]) ⟨rfl,rfl,trivial⟩ (⟨0,Nat.zero_le _,rfl,rfl,fun j hj=>absurd hj (Nat.not_lt_zero _),hS.clear⟩) ?_)))))))))
       clear hS
       rintro m l W ⟨i,hi,rfl,rfl,hall,hS⟩
       refine aN (aN (aP (aI rfl rfl (aM (o':=5) lH rfl rfl rfl (aR Tryz.isAgg26 rfl (aK (hS.at_ 0 rfl) rfl) rfl (cJ Tryz.underlying26 rfl rfl (cU rfl rfl rfl (aO (XF.thenN (bA rfl (fun hc=>?_) (fun hc=>?_)))))))))))
       ·have hc40:=of_decide_eq_true hc;clear hc
        have hk:i < fl:=by omega
        obtain ⟨b,off,y,rfl,hy,hyc⟩:=hfrow.at1 (show i < fs.length by omega)
        have k1:=hS.old hyc
        refine bM (XF.thenN (aN (bX (aN ?_))))
        rcases (show inQ y st=false∨(inQ y st=true∧i=0)∨(inQ y st=true∧0 < i) by cases inQ y st<;>simp<;>omega) with e1 | ⟨e1,h9⟩ | ⟨e1,h9⟩
        ·skip
         refine lB (m:=26) cD hS (by kernel_rfl) (by kernel_rfl) rfl (cW 1 rfl 1 rfl (by kernel_rfl) rfl (fun w hw=>aW (vs:=[_,_,_,_,_,_,_]) Tryz.isAgg29 Tryz.sizeOf29 rfl (aB.agree (aL hw 0) (Nat.zero_le _) (aB.own (j:=0) (m:=7) (hS.at_ 0 rfl) rfl))) rfl (cW 2 rfl 1 rfl (by kernel_rfl) rfl (fun w hw=>aV (o':=5) lH rfl rfl) rfl (bP 3 rfl 44 1 rfl (by kernel_rfl) rfl rfl (fun w hw=>bB Tryz.isAgg26 rfl ((aL hw 0).cell (Nat.zero_le _) (aK (hS.at_ 0 rfl) rfl))) rfl (cW 4 rfl 4 rfl (by kernel_rfl) rfl (fun w hw=>aZ rfl) rfl (aJ 5 rfl (isV _) (aD _) (rgV (li:=[(45,_),(46,_)]) rfl (aT rfl) ⟨aQ 2 (by kernel_rfl) (aA rfl rfl rfl),aQ 3 (by kernel_rfl) (aA rfl rfl rfl),trivial⟩ (fun w hw=>bC  Tryz.underlying26 Tryz.sizeOf3 rfl rfl rfl (by omega) rfl) (aE rfl)) (bP 6 rfl 47 4 rfl (by kernel_rfl) rfl rfl (fun w hw=>bB Tryz.isAgg3 rfl ((aL hw 0).cell (Nat.zero_le _) (k1))) rfl ?_))))))
         refine aJ 7 rfl (isV (.bool false)) (aD _) (cS [isV _,isV _] rfl uE (aT rfl) ⟨bZ (aQ 0 (by kernel_rfl) (aA rfl rfl rfl)),bZ (aQ 5 (by kernel_rfl) (aA rfl rfl rfl)),trivial⟩ (fun vs w' hb hh=>by have e:=cA (us:=[_,_]) hh;subst e;exact (zL ⟨s,st,sy,_,fl,fc,fs,ta,tl,tc,ts⟩ y _).mono fun e w2 h=>⟨_,by rw [h.1,e1],rfl,h.2⟩) (aE rfl)) ?_
         refine aJ 8 rfl (isV (.bool true)) (aD _) (oT (li:=[(49,_)]) rfl (aT rfl) ⟨aQ 6 (by kernel_rfl) (aA rfl rfl rfl),trivial⟩ (fun w hw=>jE rfl) (rfl) (aE rfl)) (bP 9 rfl 50 7 rfl (by kernel_rfl) rfl rfl (fun w hw=>aZ rfl) rfl (aJ 10 rfl (isV undef) (aD _) (bH rfl (cI 51 rfl (by kernel_rfl) (by kernel_rfl) (aA rfl rfl rfl) rfl) (aE rfl)) (aJ 11 rfl (isV undef) (aD _) (bH rfl (cI 51 rfl (by kernel_rfl) (by kernel_rfl) (aA rfl rfl rfl) rfl) (aE rfl)) (aJ 12 rfl (isV undef) (aD _) (bH rfl (cI 51 rfl (by kernel_rfl) (by kernel_rfl) (aA rfl rfl rfl) rfl) (aE rfl)) (aJ 13 rfl (isV undef) (aD _) (bH rfl (wH 54 rfl (by kernel_rfl) (by kernel_rfl) (aA rfl rfl rfl)) (aE rfl)) (aJ 14 rfl (isV undef) (aD _) (bH rfl (wH 54 rfl (by kernel_rfl) (by kernel_rfl) (aA rfl rfl rfl)) (aE rfl)) (aJ 15 rfl (isV undef) (aD _) (bH rfl (wH 54 rfl (by kernel_rfl) (by kernel_rfl) (aA rfl rfl rfl)) (aE rfl)) (aJ 16 rfl (isV undef) (aD _) (bH rfl (wH 54 rfl (by kernel_rfl) (by kernel_rfl) (aA rfl rfl rfl)) (aE rfl)) (aJ 17 rfl (isV undef) (aD _) (bH rfl (wH 54 rfl (by kernel_rfl) (by kernel_rfl) (aA rfl rfl rfl)) (aE rfl)) (aJ 18 rfl (isV undef) (aD _) (bH rfl (wH 54 rfl (by kernel_rfl) (by kernel_rfl) (aA rfl rfl rfl)) (aE rfl)) (aJ 19 rfl (isV undef) (aD _) (bH rfl (wH 54 rfl (by kernel_rfl) (by kernel_rfl) (aA rfl rfl rfl)) (aE rfl)) (aJ 20 rfl (isV undef) (aD _) (bH rfl (wH 54 rfl (by kernel_rfl) (by kernel_rfl) (aA rfl rfl rfl)) (aE rfl)) (aJ 21 rfl (isV undef) (aD _) (bH rfl (wH 54 rfl (by kernel_rfl) (by kernel_rfl) (aA rfl rfl rfl)) (aE rfl)) (aJ 22 rfl (isV undef) (aD _) (bH rfl (wH 54 rfl (by kernel_rfl) (by kernel_rfl) (aA rfl rfl rfl)) (aE rfl)) (aJ 23 rfl (isV undef) (aD _) (bH rfl (wH 54 rfl (by kernel_rfl) (by kernel_rfl) (aA rfl rfl rfl)) (aE rfl)) (aJ 24 rfl (isV undef) (aD _) (bH rfl (wH 54 rfl (by kernel_rfl) (by kernel_rfl) (aA rfl rfl rfl)) (aE rfl)) (aJ 25 rfl (isV undef) (aD _) (bH rfl (cI 51 rfl (by kernel_rfl) (by kernel_rfl) (aA rfl rfl rfl) rfl) (aE rfl)) (bP 26 rfl 51 8 rfl (by kernel_rfl) rfl rfl (fun w hw=>eU rfl rfl) rfl (dV ?_)))))))))))))))))))
         intro W3 hbR hS'
         clear hS;have hS:=hS';clear hS'
         refine aH (aH (aH (aH (aH (aH (aH (aH (aH (aH (aH (aH (aH (aH (aH (aH (aH (aH (aH (aH (aH ?_))))))))))))))))))))
         refine aH (aH (aH (aH (aH (cQ (XF.thenN (fI rfl (aN (aP (aC rfl rfl (aO (XF.thenN (bT (XF.blkR (XF.thenR (XF.thenR (XF.blkR (XF.thenR (XF.res (cH Tryz.results9 rfl) ?_)))))))))))))))))))
         exact ⟨eK (by unfold eR;dsimp only;rw [if_neg h0,if_neg h1,if_pos (by unfold dA;rw [if_neg h2,wY (i:=i) (by omega) (Ce hy e1),Bool.false_and])]),hS.below⟩
        ·skip
         refine lB (m:=26) cD hS (by kernel_rfl) (by kernel_rfl) rfl (cW 1 rfl 1 rfl (by kernel_rfl) rfl (fun w hw=>aW (vs:=[_,_,_,_,_,_,_]) Tryz.isAgg29 Tryz.sizeOf29 rfl (aB.agree (aL hw 0) (Nat.zero_le _) (aB.own (j:=0) (m:=7) (hS.at_ 0 rfl) rfl))) rfl (cW 2 rfl 1 rfl (by kernel_rfl) rfl (fun w hw=>aV (o':=5) lH rfl rfl) rfl (bP 3 rfl 44 1 rfl (by kernel_rfl) rfl rfl (fun w hw=>bB Tryz.isAgg26 rfl ((aL hw 0).cell (Nat.zero_le _) (aK (hS.at_ 0 rfl) rfl))) rfl (cW 4 rfl 4 rfl (by kernel_rfl) rfl (fun w hw=>aZ rfl) rfl (aJ 5 rfl (isV _) (aD _) (rgV (li:=[(45,_),(46,_)]) rfl (aT rfl) ⟨aQ 2 (by kernel_rfl) (aA rfl rfl rfl),aQ 3 (by kernel_rfl) (aA rfl rfl rfl),trivial⟩ (fun w hw=>bC  Tryz.underlying26 Tryz.sizeOf3 rfl rfl rfl (by omega) rfl) (aE rfl)) (bP 6 rfl 47 4 rfl (by kernel_rfl) rfl rfl (fun w hw=>bB Tryz.isAgg3 rfl ((aL hw 0).cell (Nat.zero_le _) (k1))) rfl ?_))))))
         refine aJ 7 rfl (isV (.bool true)) (aD _) (cS [isV _,isV _] rfl uE (aT rfl) ⟨bZ (aQ 0 (by kernel_rfl) (aA rfl rfl rfl)),bZ (aQ 5 (by kernel_rfl) (aA rfl rfl rfl)),trivial⟩ (fun vs w' hb hh=>by have e:=cA (us:=[_,_]) hh;subst e;exact (zL ⟨s,st,sy,_,fl,fc,fs,ta,tl,tc,ts⟩ y _).mono fun e w2 h=>⟨_,by rw [h.1,e1],rfl,h.2⟩) (aE rfl)) ?_
         refine aJ 8 rfl (isV (.bool false)) (aD _) (oT (li:=[(49,_)]) rfl (aT rfl) ⟨aQ 6 (by kernel_rfl) (aA rfl rfl rfl),trivial⟩ (fun w hw=>jE rfl) (rfl) (aE rfl)) (bP 9 rfl 50 7 rfl (by kernel_rfl) rfl rfl (fun w hw=>aZ rfl) rfl (aJ 10 rfl (isV _) (aD _) (rgV (li:=[(4,_)]) rfl (cC 51 rfl (by kernel_rfl) (by kernel_rfl) (aA rfl rfl rfl)) ⟨dK (by kernel_rfl) rfl,trivial⟩ (fun w hw=>aZ rfl) (aE rfl)) (aJ 11 rfl (isV (.bool false)) (aD _) (oT (li:=[(52,_)]) rfl (cC 51 rfl (by kernel_rfl) (by kernel_rfl) (aA rfl rfl rfl)) ⟨aQ 9 (by kernel_rfl) (aA rfl rfl rfl),trivial⟩ (fun w hw=>Hq rfl rfl) (by rw [decide_eq_false (by omega)]) (aE rfl)) (aJ 12 rfl (isV _) (aD _) (rgV (li:=[(53,_)]) rfl (cC 51 rfl (by kernel_rfl) (by kernel_rfl) (aA rfl rfl rfl)) ⟨aQ 10 (by kernel_rfl) (aA rfl rfl rfl),trivial⟩ (fun w hw=>aZ rfl) (aE rfl)) (aJ 13 rfl (isV undef) (aD _) (bH rfl (cI 54 rfl (by kernel_rfl) (by kernel_rfl) (aA rfl rfl rfl) rfl) (aE rfl)) (aJ 14 rfl (isV undef) (aD _) (bH rfl (cI 54 rfl (by kernel_rfl) (by kernel_rfl) (aA rfl rfl rfl) rfl) (aE rfl)) (aJ 15 rfl (isV undef) (aD _) (bH rfl (cI 54 rfl (by kernel_rfl) (by kernel_rfl) (aA rfl rfl rfl) rfl) (aE rfl)) (aJ 16 rfl (isV undef) (aD _) (bH rfl (cI 54 rfl (by kernel_rfl) (by kernel_rfl) (aA rfl rfl rfl) rfl) (aE rfl)) (aJ 17 rfl (isV undef) (aD _) (bH rfl (cI 54 rfl (by kernel_rfl) (by kernel_rfl) (aA rfl rfl rfl) rfl) (aE rfl)) (aJ 18 rfl (isV undef) (aD _) (bH rfl (cI 54 rfl (by kernel_rfl) (by kernel_rfl) (aA rfl rfl rfl) rfl) (aE rfl)) (aJ 19 rfl (isV undef) (aD _) (bH rfl (cI 54 rfl (by kernel_rfl) (by kernel_rfl) (aA rfl rfl rfl) rfl) (aE rfl)) (aJ 20 rfl (isV undef) (aD _) (bH rfl (cI 54 rfl (by kernel_rfl) (by kernel_rfl) (aA rfl rfl rfl) rfl) (aE rfl)) (aJ 21 rfl (isV undef) (aD _) (bH rfl (cI 54 rfl (by kernel_rfl) (by kernel_rfl) (aA rfl rfl rfl) rfl) (aE rfl)) (aJ 22 rfl (isV undef) (aD _) (bH rfl (cI 54 rfl (by kernel_rfl) (by kernel_rfl) (aA rfl rfl rfl) rfl) (aE rfl)) (aJ 23 rfl (isV undef) (aD _) (bH rfl (cI 54 rfl (by kernel_rfl) (by kernel_rfl) (aA rfl rfl rfl) rfl) (aE rfl)) (aJ 24 rfl (isV undef) (aD _) (bH rfl (cI 54 rfl (by kernel_rfl) (by kernel_rfl) (aA rfl rfl rfl) rfl) (aE rfl)) (aJ 25 rfl (isV _) (aD _) (rgV (li:=[(54,_)]) rfl (cC 51 rfl (by kernel_rfl) (by kernel_rfl) (aA rfl rfl rfl)) ⟨aQ 11 (by kernel_rfl) (aA rfl rfl rfl),trivial⟩ (fun w hw=>eV rfl rfl) (aE rfl)) (aJ 26 rfl (isV _) (aD _) (rgV (li:=[(51,_),(67,_)]) rfl (aT rfl) ⟨aQ 8 (by kernel_rfl) (aA rfl rfl rfl),aQ 24 (by kernel_rfl) (aA rfl rfl rfl),trivial⟩ (fun w hw=>eV rfl rfl) (aE rfl)) (dV ?_)))))))))))))))))))
         intro W4 hbR hS'
         clear hS;have hS:=hS';clear hS'
         refine aH (aH (aH (aH (aH (aH (aH (aH (aH (aH (aH (aH (aH (aH (aH (aH (aH (aH (aH (aH (aH ?_))))))))))))))))))))
         refine aH (aH (aH (aH (aH (cQ (XF.thenN (Ez rfl (bM (XF.blkN (XF.thenN (aP (aI rfl rfl (dE rfl rfl (IntWalk.i64_in _ (by omega)) rfl (aC rfl rfl (aO ?_)))))))))))))))
         exact XF.round (fl - (i+1)) [(1,_),(4,_)] (by omega) ⟨rfl,rfl,trivial⟩ ⟨i+1,by omega,rfl,rfl,uC hall (zK hy e1 h9),hS.clear⟩
        ·obtain ⟨b2,off2,z,e2,hz,hzc⟩:=hfrow.at1 (show i - 1 < fs.length by omega)
         cases e2
         have k2:=hS.old hzc
         refine lB (m:=26) cD hS (by kernel_rfl) (by kernel_rfl) rfl (cW 1 rfl 1 rfl (by kernel_rfl) rfl (fun w hw=>aW (vs:=[_,_,_,_,_,_,_]) Tryz.isAgg29 Tryz.sizeOf29 rfl (aB.agree (aL hw 0) (Nat.zero_le _) (aB.own (j:=0) (m:=7) (hS.at_ 0 rfl) rfl))) rfl (cW 2 rfl 1 rfl (by kernel_rfl) rfl (fun w hw=>aV (o':=5) lH rfl rfl) rfl (bP 3 rfl 44 1 rfl (by kernel_rfl) rfl rfl (fun w hw=>bB Tryz.isAgg26 rfl ((aL hw 0).cell (Nat.zero_le _) (aK (hS.at_ 0 rfl) rfl))) rfl (cW 4 rfl 4 rfl (by kernel_rfl) rfl (fun w hw=>aZ rfl) rfl (aJ 5 rfl (isV _) (aD _) (rgV (li:=[(45,_),(46,_)]) rfl (aT rfl) ⟨aQ 2 (by kernel_rfl) (aA rfl rfl rfl),aQ 3 (by kernel_rfl) (aA rfl rfl rfl),trivial⟩ (fun w hw=>bC  Tryz.underlying26 Tryz.sizeOf3 rfl rfl rfl (by omega) rfl) (aE rfl)) (bP 6 rfl 47 4 rfl (by kernel_rfl) rfl rfl (fun w hw=>bB Tryz.isAgg3 rfl ((aL hw 0).cell (Nat.zero_le _) (k1))) rfl ?_))))))
         refine aJ 7 rfl (isV (.bool true)) (aD _) (cS [isV _,isV _] rfl uE (aT rfl) ⟨bZ (aQ 0 (by kernel_rfl) (aA rfl rfl rfl)),bZ (aQ 5 (by kernel_rfl) (aA rfl rfl rfl)),trivial⟩ (fun vs w' hb hh=>by have e:=cA (us:=[_,_]) hh;subst e;exact (zL ⟨s,st,sy,_,fl,fc,fs,ta,tl,tc,ts⟩ y _).mono fun e w2 h=>⟨_,by rw [h.1,e1],rfl,h.2⟩) (aE rfl)) ?_
         refine aJ 8 rfl (isV (.bool false)) (aD _) (oT (li:=[(49,_)]) rfl (aT rfl) ⟨aQ 6 (by kernel_rfl) (aA rfl rfl rfl),trivial⟩ (fun w hw=>jE rfl) (rfl) (aE rfl)) (bP 9 rfl 50 7 rfl (by kernel_rfl) rfl rfl (fun w hw=>aZ rfl) rfl (aJ 10 rfl (isV _) (aD _) (rgV (li:=[(4,_)]) rfl (cC 51 rfl (by kernel_rfl) (by kernel_rfl) (aA rfl rfl rfl)) ⟨dK (by kernel_rfl) rfl,trivial⟩ (fun w hw=>aZ rfl) (aE rfl)) (aJ 11 rfl (isV (.bool true)) (aD _) (oT (li:=[(52,_)]) rfl (cC 51 rfl (by kernel_rfl) (by kernel_rfl) (aA rfl rfl rfl)) ⟨aQ 9 (by kernel_rfl) (aA rfl rfl rfl),trivial⟩ (fun w hw=>Hq rfl rfl) (by rw [decide_eq_true (by omega)]) (aE rfl)) (aJ 12 rfl (isV _) (aD _) (rgV (li:=[(53,_)]) rfl (cC 51 rfl (by kernel_rfl) (by kernel_rfl) (aA rfl rfl rfl)) ⟨aQ 10 (by kernel_rfl) (aA rfl rfl rfl),trivial⟩ (fun w hw=>aZ rfl) (aE rfl)) (aJ 13 rfl (isV _) (aD _) (rgV (li:=[(1,_)]) rfl (cC 54 rfl (by kernel_rfl) (by kernel_rfl) (aA rfl rfl rfl)) ⟨dK (by kernel_rfl) rfl,trivial⟩ (fun w hw=>aV (o':=5) lH rfl rfl) (aE rfl)) (aJ 14 rfl (isV _) (aD _) (rgV (li:=[(55,_)]) rfl (cC 54 rfl (by kernel_rfl) (by kernel_rfl) (aA rfl rfl rfl)) ⟨aQ 12 (by kernel_rfl) (aA rfl rfl rfl),trivial⟩ (fun w hw=>bB Tryz.isAgg26 rfl ((aL hw 0).cell (Nat.zero_le _) (aK (hS.at_ 0 rfl) rfl))) (aE rfl)) (aJ 15 rfl (isV _) (aD _) (rgV (li:=[(4,_)]) rfl (cC 54 rfl (by kernel_rfl) (by kernel_rfl) (aA rfl rfl rfl)) ⟨dK (by kernel_rfl) rfl,trivial⟩ (fun w hw=>aZ rfl) (aE rfl)) (aJ 16 rfl (isV _) (aD _) (rgV (li:=[(56,_),(57,_)]) rfl (cC 54 rfl (by kernel_rfl) (by kernel_rfl) (aA rfl rfl rfl)) ⟨aQ 13 (by kernel_rfl) (aA rfl rfl rfl),aQ 14 (by kernel_rfl) (aA rfl rfl rfl),trivial⟩ (fun w hw=>bC  Tryz.underlying26 Tryz.sizeOf3 rfl rfl rfl (by omega) rfl) (aE rfl)) (aJ 17 rfl (isV _) (aD _) (rgV (li:=[(58,_)]) rfl (cC 54 rfl (by kernel_rfl) (by kernel_rfl) (aA rfl rfl rfl)) ⟨aQ 15 (by kernel_rfl) (aA rfl rfl rfl),trivial⟩ (fun w hw=>bB Tryz.isAgg3 rfl ((aL hw 0).cell (Nat.zero_le _) (k1))) (aE rfl)) (aJ 18 rfl (isV _) (aD _) (rgV (li:=[(1,_)]) rfl (cC 54 rfl (by kernel_rfl) (by kernel_rfl) (aA rfl rfl rfl)) ⟨dK (by kernel_rfl) rfl,trivial⟩ (fun w hw=>aV (o':=5) lH rfl rfl) (aE rfl)) (aJ 19 rfl (isV _) (aD _) (rgV (li:=[(60,_)]) rfl (cC 54 rfl (by kernel_rfl) (by kernel_rfl) (aA rfl rfl rfl)) ⟨aQ 17 (by kernel_rfl) (aA rfl rfl rfl),trivial⟩ (fun w hw=>bB Tryz.isAgg26 rfl ((aL hw 0).cell (Nat.zero_le _) (aK (hS.at_ 0 rfl) rfl))) (aE rfl)) (aJ 20 rfl (isV _) (aD _) (rgV (li:=[(4,_)]) rfl (cC 54 rfl (by kernel_rfl) (by kernel_rfl) (aA rfl rfl rfl)) ⟨dK (by kernel_rfl) rfl,trivial⟩ (fun w hw=>aZ rfl) (aE rfl)) (aJ 21 rfl (isV _) (aD _) (rgV (li:=[(62,_)]) rfl (cC 54 rfl (by kernel_rfl) (by kernel_rfl) (aA rfl rfl rfl)) ⟨aQ 19 (by kernel_rfl) (aA rfl rfl rfl),trivial⟩ (fun w hw=>O6 rfl rfl (IntWalk.i64_in _ (by omega))) (aE rfl)) (aJ 22 rfl (isV _) (aD _) (rgV (li:=[(61,_),(63,_)]) rfl (cC 54 rfl (by kernel_rfl) (by kernel_rfl) (aA rfl rfl rfl)) ⟨aQ 18 (by kernel_rfl) (aA rfl rfl rfl),aQ 20 (by kernel_rfl) (aA rfl rfl rfl),trivial⟩ (fun w hw=>bC (j:=(i - 1)) Tryz.underlying26 Tryz.sizeOf3 rfl rfl (by omega) (by omega) rfl) (aE rfl)) (aJ 23 rfl (isV _) (aD _) (rgV (li:=[(64,_)]) rfl (cC 54 rfl (by kernel_rfl) (by kernel_rfl) (aA rfl rfl rfl)) ⟨aQ 21 (by kernel_rfl) (aA rfl rfl rfl),trivial⟩ (fun w hw=>bB Tryz.isAgg3 rfl ((aL hw 0).cell (Nat.zero_le _) (k2))) (aE rfl)) (aJ 24 rfl (isV _) (aD _) (rgV (li:=[(59,_),(65,_)]) rfl (cC 54 rfl (by kernel_rfl) (by kernel_rfl) (aA rfl rfl rfl)) ⟨aQ 16 (by kernel_rfl) (aA rfl rfl rfl),aQ 22 (by kernel_rfl) (aA rfl rfl rfl),trivial⟩ (fun w hw=>O1 rfl rfl) (aE rfl)) (aJ 25 rfl (isV _) (aD _) (rgV (li:=[(54,_),(66,_)]) rfl (cC 51 rfl (by kernel_rfl) (by kernel_rfl) (aA rfl rfl rfl)) ⟨aQ 11 (by kernel_rfl) (aA rfl rfl rfl),aQ 23 (by kernel_rfl) (aA rfl rfl rfl),trivial⟩ (fun w hw=>eU rfl rfl) (aE rfl)) (aJ 26 rfl (isV _) (aD _) (rgV (li:=[(51,_),(67,_)]) rfl (aT rfl) ⟨aQ 8 (by kernel_rfl) (aA rfl rfl rfl),aQ 24 (by kernel_rfl) (aA rfl rfl rfl),trivial⟩ (fun w hw=>eV rfl rfl) (aE rfl)) (dV ?_)))))))))))))))))))
         intro W5 hbR hS'
         clear hS;have hS:=hS';clear hS'
         refine aH (aH (aH (aH (aH (aH (aH (aH (aH (aH (aH (aH (aH (aH (aH (aH (aH (aH (aH (aH (aH ?_))))))))))))))))))))
         refine aH (aH (aH (aH (aH (cQ (XF.thenN (bA rfl (fun hc=>?_) (fun hc=>?_))))))))
         ·have hc68:=hc;clear hc
          have hyz:=of_decide_eq_true hc68
          refine aN (aP (aC rfl rfl (aO (XF.thenN (bT (XF.blkR (XF.thenR (XF.thenR (XF.blkR (XF.thenR (XF.res (cH Tryz.results9 rfl) ?_)))))))))))
          exact ⟨eK (by unfold eR;dsimp only;rw [if_neg h0,if_neg h1,if_pos (by unfold dA;rw [if_neg h2,wY (i:=i) (by omega) (by rw [rG hy hz e1 h9];exact decide_eq_false (by omega)),Bool.false_and])]),hS.below⟩
         ·have hc68:=hc;clear hc
          have hyz:=of_decide_eq_false hc68
          refine bM (XF.blkN (XF.thenN (aP (aI rfl rfl (dE rfl rfl (IntWalk.i64_in _ (by omega)) rfl (aC rfl rfl (aO ?_)))))))
          exact XF.round (fl - (i+1)) [(1,_),(4,_)] (by omega) ⟨rfl,rfl,trivial⟩ ⟨i+1,by omega,rfl,rfl,uC hall (by rw [rG hy hz e1 h9];exact decide_eq_true (by omega)),hS.clear⟩
       ·have hc40:=of_decide_eq_false hc;clear hc
        have hfb:I5 st fs=true:=Lj fun j hj=>hall j (by omega)
        refine eN (XF.thenX (XF.thenX (XF.blkX (XF.thenN (aN (aN (aP (aC rfl rfl (aO (XF.thenN (bX (eO (fun m l W=>∃ i:Nat,i≤tl∧m=tl - i∧l=[(1,.pointer (some ⟨B1,0,none⟩)),(5,.int .i64 (i:Int))]∧(ts.take i).all (trB st sy)=true∧St w [(B1,[.int .i64 s.f.tag,.int .i64 s.f.dim,.slice s.f.a s.f.len s.f.cap,.int .i64 st,.int .i64 sy,.slice fa fl fc,.slice ta tl tc],29)] [] [] W) (tl - 0) ([(1,_),(5,_)]) ⟨rfl,rfl,trivial⟩ (⟨0,Nat.zero_le _,rfl,rfl,rfl,hS.clear⟩) ?_))))))))))))
        clear hS
        rintro m l W ⟨i,hi,rfl,rfl,hall,hS⟩
        refine aN (aN (aP (aI rfl rfl (aM (o':=6) gR rfl rfl rfl (aR Tryz.isAgg27 rfl (aK (hS.at_ 0 rfl) rfl) rfl (cJ Tryz.underlying27 rfl rfl (cU rfl rfl rfl (aO (XF.thenN (bA rfl (fun hc=>?_) (fun hc=>?_)))))))))))
        ·have hc73:=of_decide_eq_true hc;clear hc
         have hk:i < tl:=by omega
         obtain ⟨r,hr⟩:∃ r,ts[i]?=some r:=⟨ts[i]'(by omega),by simp [show i < ts.length by omega]⟩
         obtain ⟨b,off,rfl,hcs⟩:=htrow.at_ hr
         have k1:=aB.agree hS.agree (Nat.zero_le _) hcs
         have hri:=htin r (List.mem_of_getElem? hr)
         refine bM (XF.thenN (aN (bX (aN (aP (aM (o':=6) gR rfl rfl rfl (aR Tryz.isAgg27 rfl (aK (hS.at_ 0 rfl) rfl) rfl (aI rfl rfl (cL  Tryz.underlying27 Tryz.sizeOf66 rfl rfl rfl (by omega) rfl rfl (aS (vs:=[_,_,_,_,_,_,_,_,_]) Tryz.isAgg66 Tryz.sizeOf66 rfl (k1) rfl (bG (cs:=[_,_,_,_,_,_,_,_,_]) hS Tryz.zeroValue66 rfl rfl fun B6 W6 hS=>aU (i:=0) (vs:=[_,_,_,_,_,_,_,_,_]) (cs':=[_,_,_,_,_,_,_,_,_]) (O':=[_,_]) hS Tryz.sizeOf66 rfl rfl rfl rfl rfl rfl rfl fun W7 hS=>aO (XF.thenN (aN (aP (aS (vs:=[_,_,_,_,_,_,_]) Tryz.isAgg29 Tryz.sizeOf29 rfl (aB.own (j:=0) (m:=7) (hS.at_ 1 rfl) rfl) rfl (aM (o':=0) Ef rfl rfl rfl (aR Tryz.isAgg3 rfl (aK (hS.at_ 0 rfl) rfl) rfl (cB (vs:=[_,_]) hS uE rfl (zL ⟨s,st,sy,fa,fl,fc,fs,_,tl,tc,ts⟩ r.f _) rfl fun W8 hS=>eX rfl rfl (aI rfl rfl (bQ (d:=86) rfl (fun hc=>?_) (fun hc=>?_)))))))))))))))))))))
         ·have hg86:=hc;clear hc
          have e1:inQ r.f st=false:=by simpa using hg86
          refine aG (d:=86) rfl rfl rfl rfl (aG (d:=86) rfl rfl rfl rfl (aG (d:=86) rfl rfl rfl rfl (aG (d:=86) rfl rfl rfl rfl (aG (d:=86) rfl rfl rfl rfl (bD rfl rfl rfl (aI rfl rfl (aG (d:=93) rfl rfl rfl rfl (aG (d:=93) rfl rfl rfl rfl (aG (d:=93) rfl rfl rfl rfl (bD rfl rfl rfl (aI rfl rfl (aG (d:=98) rfl rfl rfl rfl (aG (d:=98) rfl rfl rfl rfl (aG (d:=98) rfl rfl rfl rfl (aG (d:=98) rfl rfl rfl rfl (aG (d:=98) rfl rfl rfl rfl (bD rfl rfl rfl (aO (XF.thenN (fI rfl (aN (aP ?_))))))))))))))))))))))
          refine aC rfl rfl (aO (XF.thenN (bT (XF.blkR (XF.thenR (XF.thenR (XF.blkR (XF.thenR (XF.res (cH Tryz.results9 rfl) ?_)))))))))
          exact ⟨eK (by unfold eR;dsimp only;rw [if_neg h0,if_neg h1,if_pos (by unfold dA;rw [if_neg h2,dD hr (by simp [trB,e1]),Bool.and_false])]),hS.below⟩
         ·have hg86:=hc;clear hc
          have e1:inQ r.f st=true:=by simpa using hg86
          refine aF (d:=86) rfl rfl (aS (vs:=[_,_,_,_,_,_,_]) Tryz.isAgg29 Tryz.sizeOf29 rfl (aB.own (j:=0) (m:=7) (hS.at_ 1 rfl) rfl) rfl (aF (d:=86) rfl rfl (aM (o':=2) oL rfl rfl rfl (aF (d:=86) rfl rfl (aR Tryz.isAgg3 rfl (aK (hS.at_ 0 rfl) rfl) rfl (aF (d:=86) rfl rfl (cB (vs:=[_,_]) hS uE rfl (zL ⟨s,st,sy,fa,fl,fc,fs,_,tl,tc,ts⟩ r.t _) rfl fun W9 hS=>aF (d:=86) rfl rfl (eX rfl rfl (bU rfl rfl rfl (aI rfl rfl (bQ (d:=93) rfl (fun hc=>?_) (fun hc=>?_))))))))))))
          ·have hg93:=hc;clear hc
           have e3:inQ r.t st=false:=by simpa using hg93
           refine aG (d:=93) rfl rfl rfl rfl (aG (d:=93) rfl rfl rfl rfl (aG (d:=93) rfl rfl rfl rfl (bD rfl rfl rfl (aI rfl rfl (aG (d:=98) rfl rfl rfl rfl (aG (d:=98) rfl rfl rfl rfl (aG (d:=98) rfl rfl rfl rfl (aG (d:=98) rfl rfl rfl rfl (aG (d:=98) rfl rfl rfl rfl (bD rfl rfl rfl (aO (XF.thenN (fI rfl (aN (aP (aC rfl rfl (aO (XF.thenN (bT (XF.blkR (XF.thenR (XF.thenR (XF.blkR ?_)))))))))))))))))))))))
           refine XF.thenR (XF.res (cH Tryz.results9 rfl) ?_)
           exact ⟨eK (by unfold eR;dsimp only;rw [if_neg h0,if_neg h1,if_pos (by unfold dA;rw [if_neg h2,dD hr (by simp [trB,e3]),Bool.and_false])]),hS.below⟩
          ·have hg93:=hc;clear hc
           have e3:inQ r.t st=true:=by simpa using hg93
           refine aF (d:=93) rfl rfl (aM (o':=1) uD rfl rfl rfl (aF (d:=93) rfl rfl (aR Tryz.isAgg3 rfl (aK (hS.at_ 0 rfl) rfl) rfl (aF (d:=93) rfl rfl (cU rfl rfl rfl (bU rfl rfl rfl (aI rfl rfl (bQ (d:=98) rfl (fun hc=>?_) (fun hc=>?_)))))))))
           ·have hg98:=of_decide_eq_true hc;clear hc
            refine aG (d:=98) rfl rfl rfl rfl (aG (d:=98) rfl rfl rfl rfl (aG (d:=98) rfl rfl rfl rfl (aG (d:=98) rfl rfl rfl rfl (aG (d:=98) rfl rfl rfl rfl (bD rfl rfl rfl (aO (XF.thenN (fI rfl (aN (aP (aC rfl rfl (aO (XF.thenN (bT (XF.blkR (XF.thenR (XF.thenR (XF.blkR (XF.thenR (XF.res (cH Tryz.results9 rfl) ?_))))))))))))))))))))
            exact ⟨eK (by unfold eR;dsimp only;rw [if_neg h0,if_neg h1,if_pos (by unfold dA;rw [if_neg h2,dD hr (by simp [trB,show ¬ (-1≤r.g) by omega]),Bool.and_false])]),hS.below⟩
           ·have hg98:=of_decide_eq_false hc;clear hc
            refine aF (d:=98) rfl rfl (aM (o':=1) uD rfl rfl rfl (aF (d:=98) rfl rfl (aR Tryz.isAgg3 rfl (aK (hS.at_ 0 rfl) rfl) rfl (aF (d:=98) rfl rfl (aM (o':=4) mN rfl rfl rfl (aF (d:=98) rfl rfl (aR Tryz.isAgg3 rfl (aK (hS.at_ 1 rfl) rfl) rfl (aF (d:=98) rfl rfl (pE rfl rfl rfl (bU rfl rfl rfl (aO (XF.thenN (bA rfl (fun hc=>?_) (fun hc=>?_))))))))))))))
            ·have hc104:=of_decide_eq_true hc;clear hc
             refine aN (aP (aC rfl rfl (aO (XF.thenN (bT (XF.blkR (XF.thenR (XF.thenR (XF.blkR (XF.thenR (XF.res (cH Tryz.results9 rfl) ?_)))))))))))
             exact ⟨eK (by unfold eR;dsimp only;rw [if_neg h0,if_neg h1,if_pos (by unfold dA;rw [if_neg h2,dD hr (by simp [trB,show ¬ (r.g < sy) by omega]),Bool.and_false])]),hS.below⟩
            ·have hc104:=of_decide_eq_false hc;clear hc
             refine bM (XF.blkN (XF.thenN (aP (aI rfl rfl (dE rfl rfl (IntWalk.i64_in _ (by omega)) rfl (aC rfl rfl (aO ?_)))))))
             exact XF.round (tl - (i+1)) [(1,_),(5,_)] (by omega) ⟨rfl,rfl,trivial⟩ ⟨i+1,by omega,rfl,rfl,gC hr hall (by simp only [trB,e1,e3,Bool.true_and];rw [decide_eq_true (show -1≤r.g by omega),decide_eq_true (show r.g < sy by omega)];rfl),hS.tail.clear⟩
        ·have hc73:=of_decide_eq_false hc;clear hc
         rw [List.take_of_length_le (by omega)] at hall
         have h3:¬ dA st sy fs ts=false:=by unfold dA;rw [if_neg h2,hfb,hall];decide
         refine eN (XF.thenX (XF.thenX (XF.blkX (XF.thenN (aN (aN (aP (aC rfl rfl (aO (XF.thenN (bX (eO (fun m l W=>∃ i:Nat,i≤tl∧m=tl - i∧l=[(1,.pointer (some ⟨B1,0,none⟩)),(7,.int .i64 (i:Int))]∧(ts.take i).all (fun t=>decide (kQ s t.x=0))=true∧St w [(B1,[.int .i64 s.f.tag,.int .i64 s.f.dim,.slice s.f.a s.f.len s.f.cap,.int .i64 st,.int .i64 sy,.slice fa fl fc,.slice ta tl tc],29)] [] [] W) (tl - 0) ([(1,_),(7,_)]) ⟨rfl,rfl,trivial⟩ (⟨0,Nat.zero_le _,rfl,rfl,rfl,hS.clear⟩) ?_))))))))))))
         clear hS
         rintro m l W ⟨i,hi,rfl,rfl,hall2,hS⟩
         refine aN (aN (aP (aI rfl rfl (aM (o':=6) gR rfl rfl rfl (aR Tryz.isAgg27 rfl (aK (hS.at_ 0 rfl) rfl) rfl (cJ Tryz.underlying27 rfl rfl (cU rfl rfl rfl (aO (XF.thenN (bA rfl (fun hc=>?_) (fun hc=>?_)))))))))))
         ·have hc109:=of_decide_eq_true hc;clear hc
          have hk:i < tl:=by omega
          obtain ⟨r,hr⟩:∃ r,ts[i]?=some r:=⟨ts[i]'(by omega),by simp [show i < ts.length by omega]⟩
          obtain ⟨b,off,rfl,hcs⟩:=htrow.at_ hr
          have k1:=aB.agree hS.agree (Nat.zero_le _) hcs
          have hri:=htin r (List.mem_of_getElem? hr)
          have k2:aB W b (off+i * 9+3) r.x.f.six:=k1.2.2.2
          refine bM (XF.thenN (aN (bX (aN (lB (m:=10) cD hS (by kernel_rfl) (by kernel_rfl) rfl (cW 1 rfl 1 rfl (by kernel_rfl) rfl (fun w hw=>aV (o':=0) rH rfl rfl) rfl (bP 2 rfl 112 0 rfl (by kernel_rfl) rfl rfl (fun w hw=>aW (vs:=[_,_,_]) Tryz.isAgg25 Tryz.sizeOf25 rfl (aB.agree (aL hw 0) (Nat.zero_le _) (aB.own (j:=0) (m:=3) (hS.at_ 0 rfl) rfl))) rfl (cW 3 rfl 1 rfl (by kernel_rfl) rfl (fun w hw=>aV (o':=6) gR rfl rfl) rfl (bP 4 rfl 114 2 rfl (by kernel_rfl) rfl rfl (fun w hw=>bB Tryz.isAgg27 rfl ((aL hw 0).cell (Nat.zero_le _) (aK (hS.at_ 0 rfl) rfl))) rfl (cW 5 rfl 7 rfl (by kernel_rfl) rfl (fun w hw=>aZ rfl) rfl (aJ 6 rfl (isV _) (aD _) (rgV (li:=[(115,_),(116,_)]) rfl (aT rfl) ⟨aQ 3 (by kernel_rfl) (aA rfl rfl rfl),aQ 4 (by kernel_rfl) (aA rfl rfl rfl),trivial⟩ (fun w hw=>bC  Tryz.underlying27 Tryz.sizeOf66 rfl rfl rfl (by omega) rfl) (aE rfl)) (bP 7 rfl 117 5 rfl (by kernel_rfl) rfl rfl (fun w hw=>aV wZ rfl rfl) rfl (bP 8 rfl 118 6 rfl (by kernel_rfl) rfl rfl (fun w hw=>aW (vs:=[_,_,_,_,_,_]) Tryz.isAgg44 Tryz.sizeOf44 rfl (aB.agree (aL hw 0) (Nat.zero_le _) (k2))) rfl ?_)))))))))))))
          refine aJ 9 rfl (isV (.int .i64 (kQ s r.x))) (aD _) (cS [isV _,isV _] rfl goes_34 (aT rfl) ⟨bZ (aQ 1 (by kernel_rfl) (aA rfl rfl rfl)),bZ (aQ 7 (by kernel_rfl) (aA rfl rfl rfl)),trivial⟩ (fun vs w' hb hh=>by have e:=cA (us:=[_,_]) hh;subst e;exact (Gj ds d s r.x _ (SIn.below (hS.below.trans (hb.mono hS.below.size)) hs) (WIn.below (hS.below.trans (hb.mono hS.below.size)) hri)).mono fun e w2 h=>⟨_,h.1,rfl,h.2⟩) (aE rfl)) ?_
          refine bP 10 rfl 120 8 rfl (by kernel_rfl) rfl rfl (fun w hw=>O5 rfl rfl) rfl (dV ?_)
          intro W10 hbR hS'
          clear hS;have hS:=hS';clear hS'
          refine aH (aH (aH (aH (aH (aH (aH (aH (aH (aH (cQ (XF.thenN (bA rfl (fun hc=>?_) (fun hc=>?_)))))))))))))
          ·have hc121:=hc;clear hc
           refine aN (aP (aC rfl rfl (aO (XF.thenN (bT (XF.blkR (XF.thenR (XF.thenR (XF.blkR (XF.thenR (XF.res (cH Tryz.results9 rfl) ?_)))))))))))
           exact ⟨eK (by unfold eR;dsimp only;rw [if_neg h0,if_neg h1,if_neg h3,if_neg (by rw [dD hr (decide_eq_false (by simpa using hc121))];decide)]),hS.below⟩
          ·have hc121:=hc;clear hc
           refine bM (XF.blkN (XF.thenN (aP (aI rfl rfl (dE rfl rfl (IntWalk.i64_in _ (by omega)) rfl (aC rfl rfl (aO ?_)))))))
           exact XF.round (tl - (i+1)) [(1,_),(7,_)] (by omega) ⟨rfl,rfl,trivial⟩ ⟨i+1,by omega,rfl,rfl,gC hr hall2 (by simpa using hc121),hS.clear⟩
         ·have hc109:=of_decide_eq_false hc;clear hc
          rw [List.take_of_length_le (by omega)] at hall2
          refine eN (XF.thenX (XF.thenX (XF.blkX (XF.thenN (aN (aP (aC rfl rfl (aO (XF.thenN (bT (XF.res (cH Tryz.results9 rfl) ?_)))))))))))
          exact ⟨eK (by unfold eR;dsimp only;rw [if_neg h0,if_neg h1,if_neg h3,if_pos hall2]),hS.below⟩
theorem R8 (ds d:Nat) (a:AV) (w:World) (h:AIn w ds d a):Calls Tryz.prog 9 #[a.val] w (fun e w'=>e = .returned (.int .i64 (eR a))∧Below w.heap.size w w'):=autoR_c ds d _ _ _ _ _ _ _ _ _ _ _ w h.s h.frow h.flen h.trow h.tlen h.tin h.fmax h.tmax
theorem goes_8:bI Tryz.prog 8=true:=by kernel_rfl
theorem goes_9:bI Tryz.prog 9=true:=by kernel_rfl
theorem inf_4:Tryz.prog.info? 4=some Tryz.t4:=by kernel_rfl
theorem own_sl9 {w:World} {lo n size:Nat} {e:TypeId} {v:Value} {xs:List Value} (h:w.ownsRow lo e size v n xs):∃ a c,v = .slice a n c:=by
 rcases h.2 with ⟨h1,h2⟩ | ⟨g,c,_,h1,_⟩
 ·subst h2;exact ⟨none,0,h1⟩
 ·exact ⟨_,c,h1⟩
section
variable {P:Program} {ops:Array Oper} {Q:Exit→Act→World→Prop} {σ:Type}
theorem Cf {ops:Array Oper} {k:Nat} (hk:ops.size=k):vZ ops k=true:=List.all_eq_true.2 fun j hj=>by
 rw [decide_eq_true (show j < k by have:=List.mem_range.1 hj;omega)];rfl
theorem Gu {L:Array Bool} {i:Nat} (h:L.size≤i):L.getD i false=false:=by
 rw [Array.getD_eq_getD_getElem?,Array.getElem?_eq_none (by omega)];rfl
theorem Ak {t0:Array Value} {d0:List Deferred} {G:σ→World→Prop} {I:σ→Nat→Value→World→Prop} {V:σ→Array Bool→Prop} {k:Nat} (hk:ops.size=k) (ht:dM ops t0.size=true)
  (hstep:∀ i,i < k→Rn P ops Q t0 G I V i)
  (hfin:∀ s L a w,RInvG ops t0 d0 G I V s L a w→(∀ i,i < k→L.getD i false=true)→wpList P ops Q (ops.toList.drop k) a w) :
  ∀ (fuel:Nat) (s:σ) (L:Array Bool) (a:Act) (w:World),L.size=ops.size→L.toList.count false≤fuel→gQ ops L→RInvG ops t0 d0 G I V s L a w→wpAny P .any ops Q fuel L a w:=by
 intro fuel
 induction fuel with
 | zero =>
  intro s L a w hs hc hcl h
  have hall:∀ i,i < k→L.getD i false=true:=fun i hi=>by
   cases hb:L.getD i false with
   | true=>rfl
   | false =>
    have:=eW _ _ (kR (by omega) hb)
    omega
  exact pZ (fun _ _=>trivial) (Cf hk) ht 0 k 0 L a w (by omega) (Nat.le_refl _) (Nat.le_refl _) hs hcl hall (fun i hi=>Gu (by omega)) (hfin s L a w h hall)
 | succ fuel ih =>
  intro s L a w hs hc hcl h
  by_cases hall:∀ i,i < k→L.getD i false=true
  ·exact pZ (fun _ _=>trivial) (Cf hk) ht 0 k (fuel+1) L a w (by omega) (Nat.le_refl _) (Nat.zero_le _) hs hcl hall (fun i hi=>Gu (by omega)) (hfin s L a w h hall)
  ·refine ⟨fun hr=>?_,fun i hi=>?_⟩
   ·exfalso;apply hall
    intro i hi
    have h1:=fU ht hs hr i (by omega)
    rw [Array.getD_eq_getD_getElem?,Array.getElem?_eq_getElem (by omega)] at h1 ⊢
    simpa using h1
   ·obtain ⟨his,hr⟩:=rD hi hs
    have hik:i < k:=by omega
    have hc1:=eW _ _ (kR (by omega) hr.1)
    refine wpOp_mono ?_ (hstep i hik s L a w (fun t ht=>h.frame t ht) h.glob h.cons hs hcl hr (fun j d hw=>?_))
    ·rintro a' w' ⟨s',v,rfl,hV,hG,hI,hst⟩
     refine ih s' _ _ _ (by simpa using hs) ?_ (hcl.next hr (by omega)) ⟨by rw [kJ];exact h.size,by rw [gU];exact h.defers,fun t hf=>?_,hG,hV,fun j d hd hj=>?_⟩
     ·rw [Array.toList_setIfInBounds];omega
     ·rw [eJ ?_]
      ·exact h.frame t hf
      ·intro hd
       obtain ⟨o,ho,hd⟩:=Option.bind_eq_some_iff.1 hd
       have:=Array.all_eq_true'.1 hf o (Array.mem_of_getElem? ho)
       simp [hd] at this
     ·by_cases hji:j=i
      ·subst hji
       rw [oX hd (by rw [h.size];exact (fH ht hd).1)]
       exact hI d hd
      ·rw [getD_set_ne false (Ne.symm hji)] at hj
       rw [eJ (fun e=>hji ((fH ht e).2 j hd))]
       exact hst j d hd (h.done j d hd hj)
    ·have:j∈aft ops i:=by
      unfold aY at hw
      unfold aft
      cases ho:ops[i]? with
      | none=>simp [ho] at hw
      | some o =>
       simp only [ho,Bool.and_eq_true,beq_iff_eq] at hw
       obtain ⟨e,he,h2⟩:=Array.any_eq_true'.1 hw.1
       simp only [Bool.and_eq_true,beq_iff_eq] at h2
       exact List.mem_map.2 ⟨e,List.mem_filter.2 ⟨Array.mem_toList_iff.2 he,h2.2⟩,h2.1⟩
     have hd:(ops[j]?).bind (·.dst)=some d:=by
      unfold aY at hw
      simp only [Bool.and_eq_true,beq_iff_eq] at hw
      exact hw.2
     exact h.done j d hd (hr.2 j this)
end
section
variable {P:Program} {n:Nat} {Q:Exit→Act→World→Prop} {l:Fr} {w0 W:World} {ops:Array Oper} {os:List Oper} {K:List (Nat×World)} {L:List Asr} {i:Nat}
variable {al:List Nat} {ca:Nat→Option Value→List Value} {ta:Nat→TypeId} {Os:Option Value→Own} {Gs:Option Value→cO} {lo ef jy:Nat} {s:Sg}
variable {d:Nat} {op:Op} {ty:TypeId} {pos:String} {aft_:Array Edge} {v:Value} {gd:Option (Nat×Bool)}
theorem R9 {id k:Nat} {ds:List Nat} (hm:P.follows .mixedOrders=true) (hlo:lo=W.heap.size) (hS:St w0 (Os none) (Gs none) K W) (hk:os.length=k) (ht:dM os.toArray n=true) (hal:al.all (fun a=>Nat.blt a k)=true) (hnd:al.Nodup) (hea:al.contains ef=false)
  (hev:Nat.blt ef k=true) (hdst:(List.range k).all (fun j=>Nat.beq j ef || ((os.toArray[j]?).bind (·.dst)).isSome)=true) (hds:(os.drop k).all (fun o=>match o.dst with | some d=>ds.contains d | none=>true)=true)
  (h:BLS P n os.toArray Q l w0 K lo al ef jy ca ta Os Gs (fun Lr=>∀ (Bf:Nat→Nat) (y:Value) (W':World) (Ks:List (Nat×World)),W.heap.size≤W'.heap.size→(∀ q∈Ks,lo≤q.1)→St w0 (al.map (fun a=>(Bf a,ca a (some y),ta a))++Os (some y)) (Gs (some y)) (Ks++K) W' →
   (∀ {O2 G2 K2 W2},St w0 O2 G2 K2 W2→(∀ q∈Ks,q∈K2)→gD lo (XB (al.map (fun a=>(Bf a,ca a (some y),ta a))++Os (some y)) (Gs (some y))) W' W2) →
   kC (os.take k) (Iy al ef jy lo (XB (al.map (fun a=>(Bf a,ca a (some y),ta a))++Os (some y)) (Gs (some y))) Bf y 0 Lr.reverse) (oS ds l) (fun l' W'=>cM P n os.toArray Q (os.drop k) l' W') W') k [] 0):fA P n (.region id os.toArray true) Q l W:=by
 obtain ⟨Lr,h1,h2,hfin⟩:=D8 ht k 0 [] rfl (fun j _=>by rfl) (fun i hi=>by omega) h
 rw [Nat.zero_add] at h1 h2
 have hal':∀ a∈al,a < k:=fun a ha=>Nat.lt_of_lt_of_le (Nat.lt_succ_self _) (Nat.le_of_ble_eq_true (List.all_eq_true.1 hal a ha))
 have hea':ef∉al:=fun h=>by rw [List.contains_iff_mem.2 h] at hea;cases hea
 intro a ha
 refine wp_region_any hm (Ak (t0:=a.tmps) (d0:=a.defers) (V:=VG al ef) (I:=IG al ef jy lo ca ta Os Gs Lr.reverse) (G:=GG w0 K lo ca ta Os Gs) (k:=k) (by simpa using hk) (by rw [ha.size];exact ht) (fun i hi=>(h2 i hi).step a ha) ?_ _ ⟨none,[]⟩ _ _ _ (by simp) (iC _) (fun j hj=>by rw [Array.getD_eq_getD_getElem?,Array.getElem?_replicate] at hj;split at hj<;>simp at hj) ⟨rfl,rfl,fun _ _=>rfl,⟨by unfold OE;exact hS.drew,by rw [hlo];exact Nat.le_refl _,(fun q hq=>by cases hq)⟩,⟨fun a _=>?_,(fun q hq=>by cases hq),List.Pairwise.nil,?_⟩,fun i d _ hj=>?_⟩)
 ·intro s LB a' W' hR hdone
  obtain ⟨hG,hG2,hG3⟩:=hR.glob
  obtain ⟨v1,v2,v3,v4⟩:=hR.cons
  obtain ⟨ev,bs⟩:=s
  have hall:∀ x∈al,(x,bAt bs x)∈bs:=fun x hx=>D9 ((v1 x hx).1 (hdone x (hal' x hx)))
  obtain ⟨y,hy⟩:∃ y,ev=some y:=by
   have h3:ev.isSome=true:=v4.1 (hdone ef (Nat.lt_of_lt_of_le (Nat.lt_succ_self _) (Nat.le_of_ble_eq_true hev)))
   exact Option.isSome_iff_exists.1 h3
  subst hy
  have hperm:bs.Perm (al.map (fun x=>(x,bAt bs x))):=by
   refine (List.perm_ext_iff_of_nodup (v3.imp (fun h e=>h (by rw [e]))) ?_).2 fun q=>?_
   ·refine List.Pairwise.map _ (fun x y (hxy:x≠y)=>?_) hnd
    intro e;exact hxy (congrArg Prod.fst e)
   ·constructor
    ·intro hq
     have h3:=hall q.1 (v2 q hq)
     have h4:=tV v3 hq h3 rfl
     rw [h4]
     exact List.mem_map.2 ⟨q.1,v2 q hq,rfl⟩
    ·intro hq
     obtain ⟨x,hx,rfl⟩:=List.mem_map.1 hq
     exact hall x hx
  have hO:(OE ca ta Os ⟨some y,bs⟩).Perm (al.map (fun a=>(bAt bs a,ca a (some y),ta a))++Os (some y)):=by
   unfold OE
   refine List.Perm.append_right _ ?_
   have:=hperm.map (fun q:Nat×Nat=>(q.2,ca q.1 (some y),ta q.1))
   rw [List.map_map] at this
   exact this
  have hG':=hG.perm hO
  have hX:∀ b,XB (OE ca ta Os ⟨some y,bs⟩) (Gs (some y)) b↔XB (al.map (fun a=>(bAt bs a,ca a (some y),ta a))++Os (some y)) (Gs (some y)) b:=fun b=>by
   unfold XB
   constructor
   ·rintro (⟨p,hp,e⟩ | h);exact .inl ⟨p,hO.mem_iff.1 hp,e⟩;exact .inr h
   ·rintro (⟨p,hp,e⟩ | h);exact .inl ⟨p,hO.mem_iff.2 hp,e⟩;exact .inr h
  obtain ⟨Ks,c1,⟨qw,c2,c3⟩,c4⟩:=Ny (((al.map (fun a=>(bAt bs a,ca a (some y),ta a))++Os (some y)).map (·.1))++(Gs (some y)).filterMap (fun g=>g.v.ownBlock)) lo W'
  have hG4:=hG'.more Ks (fun q hq=>⟨(c1 q hq).2.1,fun p hp=>(c1 q hq).2.2 p.1 (List.mem_append_left _ (List.mem_map.2 ⟨p,hp,rfl⟩)),fun g hg b hb=>(c1 q hq).2.2 b (List.mem_append_right _ (List.mem_filterMap.2 ⟨g,hg,hb⟩))⟩)
  have hcov:∀ {O2 G2 K2 W2},St w0 O2 G2 K2 W2→(∀ q∈Ks,q∈K2)→gD lo (XB (al.map (fun a=>(bAt bs a,ca a (some y),ta a))++Os (some y)) (Gs (some y))) W' W2:=fun {O2 G2 K2 W2} h2 hq=>by
   refine ⟨⟨h2.below.os.trans hG.below.os.symm,h2.below.tape.trans hG.below.tape.symm,h2.below.output.trans hG.below.output.symm⟩,?_,fun b b1 b2 b3=>?_⟩
   ·have:=(h2.kept qw (hq qw c2)).1.1;rw [c3] at this;exact this
   ·obtain ⟨q,q1,q2,q3⟩:=c4 b b1 b2 (fun hb=>b3 (by
     rcases List.mem_append.1 hb with hb | hb
     ·obtain ⟨p,hp,rfl⟩:=List.mem_map.1 hb
      exact .inl ⟨p,hp,rfl⟩
     ·obtain ⟨g,hg,e⟩:=List.mem_filterMap.1 hb
      exact .inr ⟨g,hg,e⟩))
    exact ((h2.kept q (hq q q1)).1.2 b q2 q3).trans ((c1 q q1).2.1.2 b q2 q3).symm
  have htk:(os.take k).length=k:=by simp;omega
  refine qC (os.take k) (Iy al ef jy lo (XB (al.map (fun a=>(bAt bs a,ca a (some y),ta a))++Os (some y)) (Gs (some y))) (bAt bs) y 0 Lr.reverse) (oS ds l) (fun i d hi hd'=>?_) (fun i hi hd'=>?_) (hR.size.trans ha.size) (hR.defers.trans ha.defers) ?_ (fun l' h ha'=>?_) (hfin (bAt bs) y W' Ks (by rw [← hlo];exact hG2) (fun q hq=>(c1 q hq).1) hG4 hcov)
  ·have hik:i < k:=by omega
   have hd2:(os.toArray[i]?).bind (·.dst)=some d:=by rw [List.getElem?_take,if_pos hik] at hd';simpa using hd'
   obtain ⟨i1,i2,i3,i4⟩:=hR.done i d hd2 (hdone i hik)
   rw [qB Lr.reverse 0 i (by simp;omega),Nat.add_zero]
   cases hc1:al.contains i with
   | true =>
    rw [cond_true]
    obtain ⟨B,hB,e⟩:=i1 (List.contains_iff_mem.1 hc1)
    have:=tV v3 hB (hall i (List.contains_iff_mem.1 hc1)) rfl
    show _=_
    rw [e,show B=bAt bs i from congrArg Prod.snd this]
   | false =>
    rw [cond_false]
    have hni:i∉al:=fun hm'=>by rw [List.contains_iff_mem.2 hm'] at hc1;cases hc1
    cases hc2:Nat.beq i ef with
    | true =>
     rw [cond_true]
     have h5:=i2 (Nat.eq_of_beq_eq_true hc2)
     exact (Option.some.inj h5).symm
    | false =>
     rw [cond_false]
     have hne:i≠ef:=fun e=>by rw [e,Nat.beq_refl] at hc2;cases hc2
     have h6:AwS lo (XB (al.map (fun a=>(bAt bs a,ca a (some y),ta a))++Os (some y)) (Gs (some y))) (atI Lr.reverse i) (a'.tmps.getD d undef) W':=fun w2 hw2=>i4 hni hne w2 ⟨hw2.1,hw2.2.1,fun b b1 b2 b3=>hw2.2.2 b b1 b2 (fun hb=>b3 ((hX b).2 hb))⟩
     cases hc3:Nat.beq i jy with
     | true =>
      rw [cond_true]
      refine ⟨?_,h6⟩
      exact i3 (Nat.eq_of_beq_eq_true hc3) y rfl
     | false=>rw [cond_false];exact h6
  ·have hik:i < k:=by omega
   have h3:=List.all_eq_true.1 hdst i (List.mem_range.2 hik)
   rw [Bool.or_eq_true] at h3
   have hd2:(os.toArray[i]?).bind (·.dst)=none:=by rw [List.getElem?_take,if_pos hik] at hd';simpa using hd'
   rcases h3 with h3 | h3
   ·rw [qB Lr.reverse 0 i (by simp;omega),Nat.add_zero]
    have hc1:al.contains i=false:=by rw [Nat.eq_of_beq_eq_true h3];exact hea
    rw [hc1,cond_false,h3,cond_true]
    exact ⟨y,rfl⟩
   ·rw [hd2] at h3;cases h3
  ·intro t v hv hno
   have hl:=lU hv (fF hv)
   have hnt:=fF hv
   rw [hR.frame t ?_]
   ·exact ha.at_ t v hl
   ·unfold freeT;rw [Array.all_eq_true'];intro o' ho'
    have ho2:o'∈os:=by simpa using ho'
    rw [← List.take_append_drop k os] at ho2
    rcases List.mem_append.1 ho2 with ho2 | ho2
    ·simpa using hno o' ho2
    ·have h5:=List.all_eq_true.1 hds o' ho2
     cases hx:o'.dst with
     | none=>simp
     | some d =>
      rw [hx] at h5
      simp
      intro e;subst e
      exact hnt (List.contains_iff_mem.1 h5)
  ·have:=h a' ha'
   simpa using this
 ·rw [Array.getD_eq_getD_getElem?,Array.getElem?_replicate]
  constructor
  ·intro h3;split at h3<;>simp at h3
  ·rintro ⟨B,hB⟩;cases hB
 ·rw [Array.getD_eq_getD_getElem?,Array.getElem?_replicate]
  constructor
  ·intro h3;split at h3<;>simp at h3
  ·intro h3;cases h3
 ·rw [Array.getD_eq_getD_getElem?,Array.getElem?_replicate] at hj
  split at hj<;>simp at hj
end
section
variable {P:Program} {n:Nat} {Q:Exit→Act→World→Prop} {l:Fr} {w0 W:World} {ops:Array Oper} {os:List Oper} {K:List (Nat×World)} {L:List Asr} {i:Nat} {O:Own} {G:cO}
variable {al:List Nat} {zc:Nat→List Value} {ta:Nat→TypeId} {lo ef jy:Nat} {d:Nat} {ty:TypeId} {pos:String} {aft_:Array Edge} {v:Value}
def osY (O:Own) (j jx B:Nat) (cs:List Value) (U:TypeId):Option Value→Own
 | none=>O
 | some y=>O.set j (B,iQ cs jx y.cells.toList,U)
theorem Eh {O:Own} {j jx B i:Nat} {cs:List Value} {U:TypeId} {ev:Option Value} {p:Nat×List Value×TypeId} (h:O[i]?=some p) (hij:Nat.beq i j=false):(osY O j jx B cs U ev)[i]?=some p:=by
 cases ev with
 | none=>exact h
 | some y =>
  show (O.set j _)[i]?=_
  rw [List.getElem?_set_ne (fun e=>by rw [e,Nat.beq_refl] at hij;cases hij)];exact h
theorem Ei {T U:TypeId} {x:Operand} {tyy B m:Nat} {cs:List Value} {py:Asr} (j jx:Nat) (li:Fr) (hal:al.contains ef=false) (hij:Nat.beq ef jy=false) (hi:ops[ef]?=some ⟨none,.store T x (.tmp tyy),ty,pos,aft_,none⟩) (hjy:(ops[jy]?).bind (·.dst)=some tyy) (hwy:aY ops ef jy tyy=true) (hja:al.contains jy=false) (hLy:atI L jy=py) (hNo:rP al ef L) (hli:sW n ops l L ef li) (hx:evL li x=some (.pointer (some ⟨B,jx,none⟩)))
  (hO:O[j]?=some (B,cs,U)) (hsz:∀ w,(sizeOf T).run P w = .ok m w) (hpy:∀ v w,py v w→∃ vs:List Value,v.cells=vs.toArray∧vs.length=m∧vs.all Value.oneCell'=true) (hjm:Nat.ble (jx+m) cs.length=true):SG P n ops Q l w0 K lo al ef jy (qD zc) ta (osY O j jx B cs U) (yV G) L ef :=
 Rp hal hij hi fun t0 a bs w h0 hF hG hbs hD=>by
  have hD':=yU h0 hF hD (fun j d _ hj=>hNo j hj)
  have ex:=gV h0 hF hD' hli x _ hx
  have hy:=((hD jy tyy hwy).2.2.2 (fun h=>by rw [List.contains_iff_mem.2 h] at hja;cases hja) (fun e=>by rw [e,Nat.beq_refl] at hij;cases hij)).here
  rw [hLy] at hy
  obtain ⟨vs,hc,hl,h1⟩:=hpy _ _ hy
  have hcl:(a.eval (.tmp tyy)).cells.toList=vs:=by rw [hc]
  have hOk:(OE (qD zc) ta (osY O j jx B cs U) ⟨none,bs⟩)[bs.length+j]?=some (B,cs,U):=by
   unfold OE
   rw [List.getElem?_append_right (by simp)]
   simpa [osY] using hO
  have hXB:XB (OE (qD zc) ta (osY O j jx B cs U) ⟨none,bs⟩) (yV G none) B:=.inl ⟨_,List.mem_of_getElem? hOk,rfl⟩
  have hrun:=tW (P:=P) hsz hc hl h1 (hG.1.at_ _ hOk) (j:=jx) (Nat.le_of_ble_eq_true hjm)
  have hO':OE (qD zc) ta (osY O j jx B cs U) ⟨some (a.eval (.tmp tyy)),bs⟩=(OE (qD zc) ta (osY O j jx B cs U) ⟨none,bs⟩).set (bs.length+j) (B,iQ cs jx vs,U):=by
   unfold OE
   rw [List.set_append_right _ _ (by simp)]
   congr 1
   simp [osY,hcl]
  refine Gk hi rfl rfl rfl (by rw [ex];exact hrun) ⟨undef,a.eval (.tmp tyy),rfl,(fun d hd=>by cases hd),?_,rR hXB,?_,fun d hd=>?_⟩
  ·rw [hO']
   exact hG.1.setMany _ vs jx hOk
  ·rintro b (⟨p,hp,rfl⟩ | h)
   ·rw [hO'] at hp
    rcases List.mem_or_eq_of_mem_set hp with hp | rfl
    ·exact .inl (.inl ⟨p,hp,rfl⟩)
    ·exact .inl hXB
   ·exact .inl (.inr h)
  ·rw [hjy] at hd;cases hd;rfl
end
section
variable {P:Program} {n:Nat} {Q:Exit→Act→World→Prop} {l:Fr} {w0 W:World} {ops:Array Oper} {os:List Oper} {K:List (Nat×World)} {L:List Asr} {i:Nat}
variable {al:List Nat} {ca:Nat→Option Value→List Value} {ta:Nat→TypeId} {Os:Option Value→Own} {Gs:Option Value→cO} {lo ef jy:Nat} {s:Sg}
variable {d:Nat} {op:Op} {ty:TypeId} {pos:String} {aft_:Array Edge} {v:Value} {gd:Option (Nat×Bool)}
end
end Go.Proofs.YtmgnkpibpjgncaaGreatDoor
namespace Go.Proofs.YtmgnkpibpjgncaaGreatDoor
open Go.RowKit Go.ChangeShapes Go.WideShapes Go.Deep
section
variable {H:Type} {enc:TypeId×Value→H} {w:World} {base:Nat} {spare:Nat→Bool} {held:Bool}
theorem Cg {cs:List Value} (h:cs.length=3):∃ a b c,cs=[a,b,c]:=by
 match cs,h with
 | [a,b,c],_=>exact ⟨a,b,c,rfl⟩
theorem Od {n:Nat} {cs:List Value} {x:DataW H×List MemPlace} (hl:cs.length=3) (h:DataW.trod enc Tryz.prog w base spare held n 105 cs=some x) :
  ∃ c:Cl,c.f < 18446744073709551616∧cs=[.int .u64 (c.f:Int),.int .i64 c.k,.int .i64 c.v]:=by
 obtain ⟨xs,n',_,hx,_,hlen,hg⟩:=DataW.trod_struct Tryz.underlying105 h
 obtain ⟨a,b,c,rfl⟩:=Cg hl
 ·skip
  have hlen3:xs.length=3:=hlen
  have g0:=hg 0 _ rfl
  have g1:=hg 1 _ rfl
  have g2:=hg 2 _ rfl
  rw [show Tryz.prog.cellsOf _=1 by kernel_rfl,List.getElem?_eq_getElem (by omega)] at g0 g1 g2
  obtain ⟨z0,e0,_,w0⟩:=DataW.trod_int Tryz.underlying37 g0
  obtain ⟨z1,e1,_,w1⟩:=DataW.trod_int (k:=.i64) (by kernel_rfl) g1
  obtain ⟨z2,e2,_,w2⟩:=DataW.trod_int (k:=.i64) (by kernel_rfl) g2
  simp at e0 e1 e2
  subst e0 e1 e2
  have hw:0≤z0∧z0≤18446744073709551615:=by simpa [Lit.wf,IntKind.signed,IntKind.bits,IntKind.min,IntKind.max] using w0
  exact ⟨⟨z0.toNat,z1,z2⟩,by show z0.toNat < _;omega,by simp;omega⟩
theorem Lk:∀ (n:Nat) (p:Nat→Cl→Prop),(∀ i,i < n→∃ c,p i c)→∃ xs:List Cl,xs.length=n∧∀ i c,xs[i]?=some c→p i c
 | 0,p,h=>⟨[],rfl,fun i c hi=>by simp at hi⟩
 | n+1,p,h=>by
  obtain ⟨xs,hl,hp⟩:=Lk n p (fun i hi=>h i (by omega))
  obtain ⟨c,hc⟩:=h n (by omega)
  refine ⟨xs++[c],by simp [hl],fun i d hi=>?_⟩
  rcases Nat.lt_or_ge i n with h1 | h1
  ·rw [List.getElem?_append_left (by omega)] at hi
   exact hp i d hi
  ·obtain ⟨h2,_⟩:=List.getElem?_eq_some_iff.1 hi
   simp [hl] at h2
   obtain rfl:i=n:=by omega
   rw [List.getElem?_append_right (by omega),hl,Nat.sub_self] at hi
   simp at hi
   subst hi
   exact hc
theorem I7 {n:Nat} {a:Option Addr} {len cap:Nat} {x:DataW H×List MemPlace} (h:DataW.trod enc Tryz.prog w base spare held n 41 [.slice a len cap]=some x) :
  ∃ xs,IsCells w a len cap xs:=by
 rcases open_slice Tryz.underlying41 h with ⟨hcs,_⟩ | ⟨ad,len',cap',m,n',D,Pl,hcs,hb,hl,hm,hmm,hx,hi⟩
 ·simp at hcs
  obtain ⟨rfl,rfl,rfl⟩:=hcs
  exact ⟨[],rfl,by simp,.inl rfl,fun c hc=>by simp at hc⟩
 ·simp at hcs
  obtain ⟨rfl,rfl,rfl⟩:=hcs
  rw [show Tryz.prog.cellsOf 105=3 by kernel_rfl] at hi
  obtain ⟨xs,hxl,hxs⟩:=Lk len (fun i c=>c.f < 18446744073709551616∧w.cell? (ad.add (i * 3))=some (.int .u64 (c.f:Int))∧w.cell? (ad.add (i * 3+1))=some (.int .i64 c.k)∧w.cell? (ad.add (i * 3+2))=some (.int .i64 c.v)) (fun i hil=>by
   obtain ⟨cs',hc,ht⟩:=hi i (by rw [hmm];split<;>omega)
   obtain ⟨_,hcl,hat⟩:=World.cells?_some hc
   obtain ⟨c,hf,rfl⟩:=Od hcl ht
   have e0:=hat 0 (by omega)
   have e1:=hat 1 (by omega)
   have e2:=hat 2 (by omega)
   rw [add_add] at e0 e1 e2
   exact ⟨c,hf,e0,e1,e2⟩)
  refine ⟨xs,hxl.symm,by omega,?_,fun c hc=>?_⟩
  ·rcases Nat.eq_zero_or_pos len with h0 | h0
   ·exact .inl (List.length_eq_zero_iff.1 (by omega))
   ·obtain ⟨b,off,spot⟩:=ad
    obtain ⟨_,h1,_,_⟩:=hxs 0 (xs[0]'(by omega)) (List.getElem?_eq_getElem (by omega))
    have hspot:spot=none:=by simpa [Addr.add] using World.cell?_spot h1
    subst hspot
    refine .inr ⟨b,off,rfl,fun i c hic=>?_⟩
    have e:∀ k,({ block:=b,off:=off }:Addr).add k=⟨b,off+k,none⟩:=fun k=>by simp [Addr.add]
    have h3:=(hxs i c hic).2
    rw [e,e,e,← Nat.add_assoc,← Nat.add_assoc] at h3
    exact h3
  ·obtain ⟨i,hi',hic⟩:=List.mem_iff_getElem.1 hc
   exact (hxs i c (by rw [← hic];exact List.getElem?_eq_getElem hi')).1
end
section
variable {H:Type} {enc:TypeId×Value→H} {w:World} {base:Nat} {spare:Nat→Bool} {held:Bool}
theorem I8 {n:Nat} {cs:List Value} {x:DataW H×List MemPlace} (h:DataW.trod enc Tryz.prog w base spare held n 41 cs=some x):∃ a len cap,cs=[.slice a len cap]:=by
 rcases open_slice Tryz.underlying41 h with ⟨hcs,_⟩ | ⟨ad,len',cap',m,n',D,Pl,hcs,_⟩
 ·exact ⟨_,_,_,hcs⟩
 ·exact ⟨_,_,_,hcs⟩
end
end Go.Proofs.YtmgnkpibpjgncaaGreatDoor
namespace Go.Proofs.YtmgnkpibpjgncaaGreatDoor
open Go.RowKit Go.ChangeShapes Go.WideShapes Go.Deep Go.Joins
theorem rI {α:Type}:∀ (n:Nat) (p:Nat→α→Prop),(∀ i,i < n→∃ c,p i c)→∃ xs:List α,xs.length=n∧∀ i c,xs[i]?=some c→p i c
 | 0,p,h=>⟨[],rfl,fun i c hi=>by simp at hi⟩
 | n+1,p,h=>by
  obtain ⟨xs,hl,hp⟩:=rI n p (fun i hi=>h i (by omega))
  obtain ⟨c,hc⟩:=h n (by omega)
  refine ⟨xs++[c],by simp [hl],fun i d hi=>?_⟩
  rcases Nat.lt_or_ge i n with h1 | h1
  ·rw [List.getElem?_append_left (by omega)] at hi
   exact hp i d hi
  ·obtain ⟨h2,_⟩:=List.getElem?_eq_some_iff.1 hi
   simp [hl] at h2
   obtain rfl:i=n:=by omega
   rw [List.getElem?_append_right (by omega),hl,Nat.sub_self] at hi
   simp at hi
   subst hi
   exact hc
theorem SIn.more {w:World}:∀ {d e:Nat} {s:SV},d≤e→SIn w d s→SIn w e s
 | 0,_,_,_,h=>h.elim
 | d+1,0,_,hl,_=>by omega
 | d+1,e+1,.mk f ps,hl,⟨h1,h2,h3⟩=>⟨h1,h2,fun p hp=>SIn.more (by omega) (h3 p hp)⟩
theorem WIn.more {w:World}:∀ {d e:Nat} {s:WV},d≤e→WIn w d s→WIn w e s
 | 0,_,_,_,h=>h.elim
 | d+1,0,_,hl,_=>by omega
 | d+1,e+1,.mk f ps,hl,⟨h0,h1,h2,h3⟩=>⟨h0,h1,h2,fun p hp=>WIn.more (by omega) (h3 p hp)⟩
theorem six_len {cs:List Value} (h:cs.length=6):∃ a b c d e f,cs=[a,b,c,d,e,f]:=by
 match cs,h with
 | [a,b,c,d,e,f],_=>exact ⟨a,b,c,d,e,f,rfl⟩
section
variable {H:Type} {enc:TypeId×Value→H} {w:World} {base:Nat} {spare:Nat→Bool} {held:Bool}
theorem Sa:∀ (fuel:Nat) {cs:List Value} {x:DataW H×List MemPlace},DataW.trod enc Tryz.prog w base spare held fuel 25 cs=some x→∃ s:SV,cs=[.int .i64 s.f.tag,.int .i64 s.f.dim,.slice s.f.a s.f.len s.f.cap]∧SIn w fuel s:=by
 intro fuel
 induction fuel using Nat.strongRecOn with
 | _ fuel ih =>
 intro cs x h
 obtain ⟨xs,n,hn,_,hl,hlen,hg⟩:=DataW.trod_struct Tryz.underlying25 h
 rw [show Tryz.prog.cellsOf 25=3 by kernel_rfl] at hl
 obtain ⟨a,b,c,rfl⟩:=Cg hl
 have hlen3:xs.length=3:=hlen
 have g0:=hg 0 _ rfl
 have g1:=hg 1 _ rfl
 have g2:=hg 2 _ rfl
 rw [show Tryz.prog.cellsOf _=1 by kernel_rfl,List.getElem?_eq_getElem (by omega)] at g0 g1 g2
 obtain ⟨z0,e0,_,w0⟩:=DataW.trod_int (k:=.i64) (by kernel_rfl) g0
 obtain ⟨z1,e1,_,w1⟩:=DataW.trod_int (k:=.i64) (by kernel_rfl) g1
 simp at e0 e1
 subst e0 e1
 rcases DataW.trod_slice Tryz.underlying23 g2 with ⟨hcs,_⟩ | ⟨ad,len,cap,elems,rest,n',hn',hcs,_,hb,hle,hcap,hel,hi,_,_⟩
 ·simp at hcs
  subst hcs
  subst hn
  exact ⟨.mk ⟨z0,z1,none,0,0⟩ [],rfl,rfl,.inl rfl,fun p hp=>by cases hp⟩
 ·simp at hcs
  subst hcs
  subst hn
  rw [show Tryz.prog.cellsOf 25=3 by kernel_rfl] at hi
  obtain ⟨ps,hpl,hps⟩:=rI len (fun i (p:SV)=>(w.cell? (ad.add (i * 3))=some (.int .i64 p.f.tag)∧w.cell? (ad.add (i * 3+1))=some (.int .i64 p.f.dim)∧w.cell? (ad.add (i * 3+2))=some (.slice p.f.a p.f.len p.f.cap))∧SIn w n' p) (fun i hil=>by
   have hii:=hi i hil
   rw [List.getElem?_eq_getElem (by omega)] at hii
   obtain ⟨cs',hc,ht⟩:=Option.bind_eq_some_iff.1 hii
   obtain ⟨_,hcl,hat⟩:=World.cells?_some hc
   obtain ⟨s,rfl,hs⟩:=ih n' (by omega) ht
   have e0:=hat 0 (by omega)
   have e1:=hat 1 (by omega)
   have e2:=hat 2 (by omega)
   rw [Go.Deep.add_add] at e0 e1 e2
   exact ⟨s,⟨e0,e1,e2⟩,hs⟩)
  refine ⟨.mk ⟨z0,z1,some ad,len,cap⟩ ps,rfl,hpl,?_,fun p hp=>?_⟩
  ·rcases Nat.eq_zero_or_pos len with h0 | h0
   ·exact .inl (List.length_eq_zero_iff.1 (by omega))
   ·obtain ⟨b,off,spot⟩:=ad
    obtain ⟨⟨h1,_,_⟩,_⟩:=hps 0 (ps[0]'(by omega)) (List.getElem?_eq_getElem (by omega))
    have hspot:spot=none:=by simpa [Addr.add] using World.cell?_spot h1
    subst hspot
    refine .inr ⟨b,off,rfl,fun i c hic=>?_⟩
    have e:∀ k,({ block:=b,off:=off }:Addr).add k=⟨b,off+k,none⟩:=fun k=>by simp [Addr.add]
    have h3:=(hps i c hic).1
    rw [e,e,e,← Nat.add_assoc,← Nat.add_assoc] at h3
    exact h3
  ·obtain ⟨i,hi',hic⟩:=List.mem_iff_getElem.1 hp
   exact (hps i p (by rw [← hic];exact List.getElem?_eq_getElem hi')).2.more (by omega)
theorem Oe {n:Nat} {v:Value} {x:DataW H×List MemPlace} (h:DataW.trod enc Tryz.prog w base spare held n 38 [v]=some x) :
  ∃ (a:Option Addr) (len cap:Nat) (rows:List Nat),v = .slice a len cap∧eS w a (u64s rows)∧rows.length=len∧∀ r∈rows,r < 18446744073709551616:=by
 rcases open_ints (t:=38) (e:=37) (k:=.u64) (by kernel_rfl) (by kernel_rfl) (by kernel_rfl) h with ⟨hcs,_⟩ | ⟨x,len,cap,zs,hcs,_,hl,hm,hz,_,hcell,hwz⟩
 ·have hcs':v = .slice none 0 0:=by simpa using hcs
  subst hcs'
  exact ⟨none,0,0,[],rfl,.inl rfl,rfl,fun r hr=>by cases hr⟩
 ·have hcs':v = .slice (some x) len cap:=by simpa using hcs
  subst hcs'
  have hzl:len≤zs.length:=by rw [hz];split<;>omega
  refine ⟨some x,len,cap,(zs.take len).map Int.toNat,rfl,?_,?_,?_⟩
  ·rcases Nat.eq_zero_or_pos len with h0 | h0
   ·subst h0;exact .inl (by simp [u64s])
   ·obtain ⟨b,off,spot⟩:=x
    have hc0:=hcell 0 (by omega)
    have hspot:spot=none:=by simpa [Addr.add] using World.cell?_spot hc0
    subst hspot
    refine .inr ⟨b,off,rfl,fun i v hi=>?_⟩
    obtain ⟨q,hq,rfl⟩:=Db hi
    rw [List.getElem?_map,List.getElem?_take] at hq
    split at hq
    ·rename_i hlt
     have hi2:i < zs.length:=by omega
     rw [List.getElem?_eq_getElem hi2] at hq
     have hq':(zs[i]).toNat=q:=by simpa using hq
     obtain ⟨m,hm1,hm2⟩:=Dm (hwz _ (List.getElem_mem hi2))
     have hc:=hcell i hi2
     have e:({ block:=b,off:=off }:Addr).add i=⟨b,off+i,none⟩:=by simp [Addr.add]
     rw [e] at hc
     rw [hc]
     have:zs.getD i 0=zs[i]:=by simp [List.getD,List.getElem?_eq_getElem hi2]
     rw [this,hm1,← hq',hm1]
     rfl
    ·cases hq
  ·simp;omega
  ·intro r hr
   obtain ⟨z,hz1,rfl⟩:=List.mem_map.1 hr
   obtain ⟨m,hm1,hm2⟩:=Dm (hwz z (List.mem_of_mem_take hz1))
   rw [hm1];exact hm2
theorem Sb {n:Nat} {a b:Value} {x:DataW H×List MemPlace} (h:DataW.trod enc Tryz.prog w base spare held n 40 [a,b]=some x) :
  ∃ (g:Nat) (ra:Option Addr) (rl rc:Nat) (rows:List Nat),a = .int .u64 (g:Int)∧b = .slice ra rl rc∧g < 18446744073709551616∧eS w ra (u64s rows)∧rows.length=rl∧∀ r∈rows,r < 18446744073709551616:=by
 obtain ⟨xs,n',_,_,hl,hlen,hg⟩:=DataW.trod_struct Tryz.underlying40 h
 have hlen2:xs.length=2:=hlen
 have g0:=hg 0 _ rfl
 have g1:=hg 1 _ rfl
 rw [show Tryz.prog.cellsOf _=1 by kernel_rfl,List.getElem?_eq_getElem (by omega)] at g0 g1
 obtain ⟨z0,e0,_,w0⟩:=DataW.trod_int (k:=.u64) (by kernel_rfl) g0
 simp at e0
 subst e0
 obtain ⟨g,rfl,hg64⟩:=Dm w0
 obtain ⟨ra,rl,rc,rows,e1,h1,h2,h3⟩:=Oe (v:=b) g1
 exact ⟨g,ra,rl,rc,rows,rfl,e1,hg64,h1,h2,h3⟩
theorem Of:∀ (fuel:Nat) {cs:List Value} {x:DataW H×List MemPlace},DataW.trod enc Tryz.prog w base spare held fuel 44 cs=some x→∃ s:WV,cs=s.f.six∧WIn w fuel s:=by
 intro fuel
 induction fuel using Nat.strongRecOn with
 | _ fuel ih =>
 intro cs x h
 obtain ⟨xs,n,hn,_,hl,hlen,hg⟩:=DataW.trod_struct Tryz.underlying44 h
 rw [show Tryz.prog.cellsOf 44=6 by kernel_rfl] at hl
 obtain ⟨a,b,c,d,e,f,rfl⟩:=six_len hl
 have hlen5:xs.length=5:=hlen
 have g0:=hg 0 _ rfl
 have g1:=hg 1 _ rfl
 have g2:=hg 2 _ rfl
 have g3:=hg 3 _ rfl
 have g4:=hg 4 _ rfl
 rw [show Tryz.prog.cellsOf _=1 by kernel_rfl,List.getElem?_eq_getElem (by omega)] at g0 g1 g3 g4
 rw [show Tryz.prog.cellsOf _=2 by kernel_rfl,List.getElem?_eq_getElem (by omega)] at g2
 obtain ⟨z0,e0,_⟩:=DataW.trod_bool (by kernel_rfl) g0
 obtain ⟨z1,e1,_,w1⟩:=DataW.trod_int (k:=.i64) (by kernel_rfl) g1
 simp at e0 e1
 subst e0 e1
 obtain ⟨gg,ra,rl,rc,rows,rfl,rfl,hg64,hrow,hrl,hr64⟩:=Sb (a:=c) (b:=d) g2
 obtain ⟨ca,cl,cc,e3⟩:=I8 g3
 have e3':e = .slice ca cl cc:=by simpa using e3
 subst e3'
 obtain ⟨cells,hcl,hcm,hcrow,hcbits⟩:=I7 (a:=ca) (len:=cl) (cap:=cc) g3
 rcases DataW.trod_slice Tryz.underlying42 g4 with ⟨hcs,_⟩ | ⟨ad,len,cap,elems,rest,n',hn',hcs,_,hb,hle,hcap,hel,hi,_,_⟩
 ·simp at hcs
  subst hcs
  subst hn
  exact ⟨.mk ⟨z0,z1,gg,ra,rl,rc,rows,ca,cl,cc,cells,none,0,0⟩ [],rfl,⟨hrow,hrl,hg64,hr64,hcrow,hcl.symm,hcbits,by dsimp only;omega⟩,rfl,.inl rfl,fun p hp=>by cases hp⟩
 ·simp at hcs
  subst hcs
  subst hn
  rw [show Tryz.prog.cellsOf 44=6 by kernel_rfl] at hi
  obtain ⟨ps,hpl,hps⟩:=rI len (fun i (p:WV)=>(w.cell? (ad.add (i * 6))=some (.bool p.f.z)∧w.cell? (ad.add (i * 6+1))=some (.int .i64 p.f.c)∧w.cell? (ad.add (i * 6+2))=some (.int .u64 (p.f.g:Int))∧w.cell? (ad.add (i * 6+3))=some (.slice p.f.ra p.f.rl p.f.rc)∧w.cell? (ad.add (i * 6+4))=some (.slice p.f.ca p.f.cl p.f.cc)∧w.cell? (ad.add (i * 6+5))=some (.slice p.f.pa p.f.pl p.f.pc))∧WIn w n' p) (fun i hil=>by
   have hii:=hi i hil
   rw [List.getElem?_eq_getElem (by omega)] at hii
   obtain ⟨cs',hc,ht⟩:=Option.bind_eq_some_iff.1 hii
   obtain ⟨_,hcl,hat⟩:=World.cells?_some hc
   obtain ⟨s,rfl,hs⟩:=ih n' (by omega) ht
   have e0:=hat 0 (by omega)
   have e1:=hat 1 (by omega)
   have e2:=hat 2 (by omega)
   have e3:=hat 3 (by omega)
   have e4:=hat 4 (by omega)
   have e5:=hat 5 (by omega)
   rw [Go.Deep.add_add] at e0 e1 e2 e3 e4 e5
   exact ⟨s,⟨e0,e1,e2,e3,e4,e5⟩,hs⟩)
  refine ⟨.mk ⟨z0,z1,gg,ra,rl,rc,rows,ca,cl,cc,cells,some ad,len,cap⟩ ps,rfl,⟨hrow,hrl,hg64,hr64,hcrow,hcl.symm,hcbits,by dsimp only;omega⟩,hpl,?_,fun p hp=>?_⟩
  ·rcases Nat.eq_zero_or_pos len with h0 | h0
   ·exact .inl (List.length_eq_zero_iff.1 (by omega))
   ·obtain ⟨b,off,spot⟩:=ad
    obtain ⟨⟨h1,_⟩,_⟩:=hps 0 (ps[0]'(by omega)) (List.getElem?_eq_getElem (by omega))
    have hspot:spot=none:=by simpa [Addr.add] using World.cell?_spot h1
    subst hspot
    refine .inr ⟨b,off,rfl,fun i c hic=>?_⟩
    have e:∀ k,({ block:=b,off:=off }:Addr).add k=⟨b,off+k,none⟩:=fun k=>by simp [Addr.add]
    have h3:=(hps i c hic).1
    rw [e,e,e,e,e,e,← Nat.add_assoc,← Nat.add_assoc,← Nat.add_assoc,← Nat.add_assoc,← Nat.add_assoc] at h3
    exact h3
  ·obtain ⟨i,hi',hic⟩:=List.mem_iff_getElem.1 hp
   exact (hps i p (by rw [← hic];exact List.getElem?_eq_getElem hi')).2.more (by omega)
end
end Go.Proofs.YtmgnkpibpjgncaaGreatDoor
