import Derived.Lib.TrailingZeros
import Derived.Test.YtfnmjcgfagldkaaProg
import Derived.Lib.LaidTab
import Derived.Lib.ItoaNum
import Derived.Stop.LaidErr
import Derived.WalkSmall
import Derived.LaidMore
import Derived.Shelf.Spec.TrailingZeros
import Derived.Laws.BitsAllLaws
import Derived.Laws.Bits64
import Derived.Deep.QuietTactic
import Derived.BigQuiet
import Derived.RegionTactic
import Derived.BigRegion
import Derived.Deep.RegionHeld3
import Derived.ChangeAlike
import Derived.Deep.AppendLies
import Derived.Laws.Bits128
import Derived.Sort.Grow
import Derived.Shelf.RegionOpen
import Derived.LoopIn
import Derived.Maps.AppendAt
import Derived.Shelf.Lay
import Derived.Shelf.LaySoft
import Derived.Lib.OthersKept
import Derived.StillTailTactics
import Derived.Deep.RegionLaw
import Derived.Deep.RegionWith
import Derived.Laws.Bits64b
import Derived.Deep.DeepCutAuto
import Derived.Deep.CutRange
import Derived.Lib.SliceRun
import Derived.Test.YtfnmjcgfagldkaaEmC
set_option maxRecDepth 100000
set_option maxHeartbeats 4000000
set_option linter.unusedVariables false
set_option linter.unusedSimpArgs false
set_option linter.unusedSectionVars false
set_option linter.unnecessarySimpa false
namespace Go.Proofs.Ytfnmjcgfagldkaa
open Go.Proofs.Try
section
open Go.RowKit
theorem yC (va:Option Addr) (vl:Nat) (vc:Nat) (pa:Option Addr) (pl:Nat) (pc:Nat) (ea:Option Addr) (el:Nat) (ec:Nat) (es:List Int) (xa:Option Addr) (xl:Nat) (xc:Nat) (xs:List Int) (mn:Int) (oa:Option Addr) (ol:Nat) (oc:Nat) (os:List Int) (sa:Option Addr) (sl:Nat) (sc:Nat) (ss:List gr_TV) (ta:Option Addr) (tl:Nat) (tc:Nat) (ts:List UV) (na:Option Addr) (nl:Nat) (nc:Nat) (ns:List NV) (ka:Option Addr) (kl:Nat) (kc:Nat) (ks:List KV) (s:gr_TV) (w:World) (he:dS w ea es) (hel:es.length=el) (hx:dS w xa xs) (hxl:xs.length=xl) (ho:dS w oa os) (hol:os.length=ol) (hs:dB gr_TV.sev 7 w sa ss) (hsl:ss.length=sl) (ht:dB UV.four 4 w ta ts) (htl:ts.length=tl) (hn:dB NV.two 2 w na ns) (hnl:ns.length=nl) (hk:dB KV.two 2 w ka ks) (hkl:ks.length=kl) (b1:vl≤5000) (b2:pl≤5000) (b3:el≤5000) (b4:xl≤5000) (b5:ol≤5000) (b6:sl≤5000) (b7:tl≤5000) (b8:nl≤5000) (b9:kl≤5000) :
  Calls prog 45 #[.agg #[.slice va vl vc,.slice pa pl pc,.slice ea el ec,.slice xa xl xc,.int .i64 mn,.slice oa ol oc,.slice sa sl sc,.slice ta tl tc,.slice na nl nc,.slice ka kl kc],s.val] w (fun e w'=>e = .returned (.bool (jH ⟨va,vl,vc,pa,pl,pc,ea,el,ec,es,xa,xl,xc,xs,mn,oa,ol,oc,os,sa,sl,sc,ss,ta,tl,tc,ts,na,nl,nc,ns,ka,kl,kc,ks⟩ s))∧Below w.heap.size w w'):=by
 refine cS (args:=[.agg #[.slice va vl vc,.slice pa pl pc,.slice ea el ec,.slice xa xl xc,.int .i64 mn,.slice oa ol oc,.slice sa sl sc,.slice ta tl tc,.slice na nl nc,.slice ka kl kc],s.val]) func45 rfl ntmps45 rfl ?_
 have hS:=St.start w
 refine aR (aU (cR (cs:=[_,_,_,_,_,_,_,_,_,_]) hS rfl rfl rfl fun B1 W1 hS=>cR (cs:=[_,_,_,_,_,_,_]) hS rfl rfl rfl fun B2 W2 hS=>aK rfl rfl (aT (XF.thenN (aR (fK (m:=8) bG hS (by kernel_rfl) (by kernel_rfl) rfl (bZ 1 rfl 2 rfl rfl (fun w hw=>aO (o':=5) cA rfl rfl) rfl (aZ 2 rfl 7 0 rfl rfl rfl (fun w hw=>aS isAgg23 rfl ((aJ hw 0).cell (Nat.zero_le _) (aI (hS.at_ 1 rfl) rfl))) rfl (aZ 3 rfl 8 1 rfl rfl rfl (fun w hw=>eY underlying23 rfl) rfl (bZ 4 rfl 2 rfl rfl (fun w hw=>aO (o':=0) eE rfl rfl) rfl (aZ 5 rfl 10 3 rfl rfl rfl (fun w hw=>aS isAgg22 rfl ((aJ hw 0).cell (Nat.zero_le _) (aI (hS.at_ 1 rfl) rfl))) rfl (aZ 6 rfl 11 4 rfl rfl rfl (fun w hw=>eY underlying22 rfl) rfl (aZ 7 rfl 9 2 rfl rfl rfl (fun w hw=>dW rfl) rfl (aZ 8 rfl 12 5 rfl rfl rfl (fun w hw=>dW rfl) rfl (dF ?_)))))))))))))))
 intro W3 hbR hS'
 clear hS;have hS:=hS';clear hS'
 refine aE (aE (aE (aE (aE (aE (aE (aE (bV (XF.thenN (joinF (fun l W=>l=[(2,.pointer (some ⟨B1,0,none⟩)),(3,.pointer (some ⟨B2,0,none⟩)),(6,.int .i64 (vl:Int))]∧jH ⟨va,vl,vc,pa,pl,pc,ea,el,ec,es,xa,xl,xc,xs,mn,oa,ol,oc,os,sa,sl,sc,ss,ta,tl,tc,ts,na,nl,nc,ns,ka,kl,kc,ks⟩ s=kS ⟨va,vl,vc,pa,pl,pc,ea,el,ec,es,xa,xl,xc,xs,mn,oa,ol,oc,os,sa,sl,sc,ss,ta,tl,tc,ts,na,nl,nc,ns,ka,kl,kc,ks⟩ s∧St w [(B2,[.int .i64 s.f,.int .i64 s.t,.int .i64 s.k,.int .i64 s.x,.int .i64 s.y,.int .i64 s.kk,.int .i64 s.s],79),(B1,[.slice va vl vc,.slice pa pl pc,.slice ea el ec,.slice xa xl xc,.int .i64 mn,.slice oa ol oc,.slice sa sl sc,.slice ta tl tc,.slice na nl nc,.slice ka kl kc],29)] [] [] W) ?_ ?_))))))))))
 ·clear hS
  rintro _ W ⟨rfl,hrk,hS⟩
  refine aR (aR (aU (aQ (o':=2) dQ rfl rfl rfl (aV isAgg77 rfl (aI (hS.at_ 0 rfl) rfl) rfl (aT (XF.thenN (bR (aR (aU (bW rfl rfl rfl (aK rfl rfl (aT (XF.thenN (bJ rfl (fun hc=>?_) (fun hc=>?_)))))))))))))))
  ·have hc62:=of_decide_eq_true hc;clear hc
   have h1:s.k=1:=hc62
   refine aR (aU (aQ (o':=3) cF rfl rfl rfl (aV isAgg3 rfl (aI (hS.at_ 0 rfl) rfl) rfl (bW rfl rfl rfl (aL rfl rfl (bK (d:=67) rfl (fun hc=>?_) (fun hc=>?_)))))))
   ·have hg67:=of_decide_eq_true hc;clear hc
    refine aF (d:=67) rfl rfl (aQ (o':=4) dT rfl rfl rfl (aF (d:=67) rfl rfl (aV isAgg3 rfl (aI (hS.at_ 0 rfl) rfl) rfl (aF (d:=67) rfl rfl (bW rfl rfl rfl (bC rfl rfl rfl (aK rfl rfl (aT (XF.thenN (bP (XF.blkR (XF.thenR (XF.res (cG results45 rfl) ?_)))))))))))))
    exact ⟨bI (by rw [hrk];unfold kS;dsimp only;rw [if_pos h1,decide_eq_true hg67];rfl),hS.below⟩
   ·have hg67:=of_decide_eq_false hc;clear hc
    refine aH (d:=67) rfl rfl rfl rfl (aH (d:=67) rfl rfl rfl rfl (aH (d:=67) rfl rfl rfl rfl (bE rfl rfl rfl (aK rfl rfl (aT (XF.thenN (bP (XF.blkR (XF.thenR (XF.res (cG results45 rfl) ?_))))))))))
    exact ⟨bI (by rw [hrk];unfold kS;dsimp only;rw [if_pos h1,decide_eq_false hg67];rfl),hS.below⟩
  ·have hc62:=of_decide_eq_false hc;clear hc
   have n1:¬ s.k=1:=hc62
   refine aR (aR (aU (bW rfl rfl rfl (aK rfl rfl (aT (XF.thenN (bJ rfl (fun hc=>?_) (fun hc=>?_))))))))
   ·have hc72:=of_decide_eq_true hc;clear hc
    refine bQ (XF.thenN (bJ rfl (fun hc=>?_) (fun hc=>absurd (of_decide_eq_false hc) (by exact fun h=>h hc72))))
    have hc:=of_decide_eq_true hc
    refine aR (aU (aQ (o':=3) cF rfl rfl rfl (aV isAgg3 rfl (aI (hS.at_ 0 rfl) rfl) rfl (aL rfl rfl (cD (vs:=[_,_]) hS cB rfl (eB s.x vl _) rfl fun W4 hS=>aL rfl rfl (bK (d:=81) rfl (fun hc=>?_) (fun hc=>?_)))))))
    ·have hg81:=hc;clear hc
     have hxx:gr_inQ s.x vl=true:=by simpa using hg81
     refine aF (d:=81) rfl rfl (aQ (o':=4) dT rfl rfl rfl (aF (d:=81) rfl rfl (aV isAgg3 rfl (aI (hS.at_ 0 rfl) rfl) rfl (aF (d:=81) rfl rfl (bW rfl rfl rfl (bC rfl rfl rfl (aK rfl rfl (aT (XF.thenN (bP (XF.blkR (XF.thenR (XF.res (cG results45 rfl) ?_)))))))))))))
     exact ⟨bI (by rw [hrk];unfold kS;dsimp only;rw [if_neg n1,if_pos (by first | exact .inl hc72 | exact .inr (.inl hc72) | exact .inr (.inr (.inl hc72)) | exact .inr (.inr (.inr hc72))),hxx];rfl),hS.below⟩
    ·have hg81:=hc;clear hc
     have hxx:gr_inQ s.x vl=false:=by simpa using hg81
     refine aH (d:=81) rfl rfl rfl rfl (aH (d:=81) rfl rfl rfl rfl (aH (d:=81) rfl rfl rfl rfl (bE rfl rfl rfl (aK rfl rfl (aT (XF.thenN (bP (XF.blkR (XF.thenR (XF.res (cG results45 rfl) ?_))))))))))
     exact ⟨bI (by rw [hrk];unfold kS;dsimp only;rw [if_neg n1,if_pos (by first | exact .inl hc72 | exact .inr (.inl hc72) | exact .inr (.inr (.inl hc72)) | exact .inr (.inr (.inr hc72))),hxx];rfl),hS.below⟩
   ·have hc72:=of_decide_eq_false hc;clear hc
    have n2:¬ s.k=2:=hc72
    refine aR (aU (bW rfl rfl rfl (aK rfl rfl (aT (XF.thenN (bJ rfl (fun hc=>?_) (fun hc=>?_)))))))
    ·have hc72:=of_decide_eq_true hc;clear hc
     refine bQ (XF.thenN (bJ rfl (fun hc=>?_) (fun hc=>absurd (of_decide_eq_false hc) (by exact fun h=>h hc72))))
     have hc:=of_decide_eq_true hc
     refine aR (aU (aQ (o':=3) cF rfl rfl rfl (aV isAgg3 rfl (aI (hS.at_ 0 rfl) rfl) rfl (aL rfl rfl (cD (vs:=[_,_]) hS cB rfl (eB s.x vl _) rfl fun W5 hS=>aL rfl rfl (bK (d:=81) rfl (fun hc=>?_) (fun hc=>?_)))))))
     ·have hg81:=hc;clear hc
      have hxx:gr_inQ s.x vl=true:=by simpa using hg81
      refine aF (d:=81) rfl rfl (aQ (o':=4) dT rfl rfl rfl (aF (d:=81) rfl rfl (aV isAgg3 rfl (aI (hS.at_ 0 rfl) rfl) rfl (aF (d:=81) rfl rfl (bW rfl rfl rfl (bC rfl rfl rfl (aK rfl rfl (aT (XF.thenN (bP (XF.blkR (XF.thenR (XF.res (cG results45 rfl) ?_)))))))))))))
      exact ⟨bI (by rw [hrk];unfold kS;dsimp only;rw [if_neg n1,if_pos (by first | exact .inl hc72 | exact .inr (.inl hc72) | exact .inr (.inr (.inl hc72)) | exact .inr (.inr (.inr hc72))),hxx];rfl),hS.below⟩
     ·have hg81:=hc;clear hc
      have hxx:gr_inQ s.x vl=false:=by simpa using hg81
      refine aH (d:=81) rfl rfl rfl rfl (aH (d:=81) rfl rfl rfl rfl (aH (d:=81) rfl rfl rfl rfl (bE rfl rfl rfl (aK rfl rfl (aT (XF.thenN (bP (XF.blkR (XF.thenR (XF.res (cG results45 rfl) ?_))))))))))
      exact ⟨bI (by rw [hrk];unfold kS;dsimp only;rw [if_neg n1,if_pos (by first | exact .inl hc72 | exact .inr (.inl hc72) | exact .inr (.inr (.inl hc72)) | exact .inr (.inr (.inr hc72))),hxx];rfl),hS.below⟩
    ·have hc72:=of_decide_eq_false hc;clear hc
     have n4:¬ s.k=4:=hc72
     refine aR (aU (bW rfl rfl rfl (aK rfl rfl (aT (XF.thenN (bJ rfl (fun hc=>?_) (fun hc=>?_)))))))
     ·have hc72:=of_decide_eq_true hc;clear hc
      refine bQ (XF.thenN (bJ rfl (fun hc=>?_) (fun hc=>absurd (of_decide_eq_false hc) (by exact fun h=>h hc72))))
      have hc:=of_decide_eq_true hc
      refine aR (aU (aQ (o':=3) cF rfl rfl rfl (aV isAgg3 rfl (aI (hS.at_ 0 rfl) rfl) rfl (aL rfl rfl (cD (vs:=[_,_]) hS cB rfl (eB s.x vl _) rfl fun W6 hS=>aL rfl rfl (bK (d:=81) rfl (fun hc=>?_) (fun hc=>?_)))))))
      ·have hg81:=hc;clear hc
       have hxx:gr_inQ s.x vl=true:=by simpa using hg81
       refine aF (d:=81) rfl rfl (aQ (o':=4) dT rfl rfl rfl (aF (d:=81) rfl rfl (aV isAgg3 rfl (aI (hS.at_ 0 rfl) rfl) rfl (aF (d:=81) rfl rfl (bW rfl rfl rfl (bC rfl rfl rfl (aK rfl rfl (aT (XF.thenN (bP (XF.blkR (XF.thenR (XF.res (cG results45 rfl) ?_)))))))))))))
       exact ⟨bI (by rw [hrk];unfold kS;dsimp only;rw [if_neg n1,if_pos (by first | exact .inl hc72 | exact .inr (.inl hc72) | exact .inr (.inr (.inl hc72)) | exact .inr (.inr (.inr hc72))),hxx];rfl),hS.below⟩
      ·have hg81:=hc;clear hc
       have hxx:gr_inQ s.x vl=false:=by simpa using hg81
       refine aH (d:=81) rfl rfl rfl rfl (aH (d:=81) rfl rfl rfl rfl (aH (d:=81) rfl rfl rfl rfl (bE rfl rfl rfl (aK rfl rfl (aT (XF.thenN (bP (XF.blkR (XF.thenR (XF.res (cG results45 rfl) ?_))))))))))
       exact ⟨bI (by rw [hrk];unfold kS;dsimp only;rw [if_neg n1,if_pos (by first | exact .inl hc72 | exact .inr (.inl hc72) | exact .inr (.inr (.inl hc72)) | exact .inr (.inr (.inr hc72))),hxx];rfl),hS.below⟩
     ·have hc72:=of_decide_eq_false hc;clear hc
      have n5:¬ s.k=5:=hc72
      refine aU (bW rfl rfl rfl (aK rfl rfl (aT (XF.thenN (bJ rfl (fun hc=>?_) (fun hc=>?_))))))
      ·have hc72:=of_decide_eq_true hc;clear hc
       refine aR (aU (aQ (o':=3) cF rfl rfl rfl (aV isAgg3 rfl (aI (hS.at_ 0 rfl) rfl) rfl (aL rfl rfl (cD (vs:=[_,_]) hS cB rfl (eB s.x vl _) rfl fun W7 hS=>aL rfl rfl (bK (d:=81) rfl (fun hc=>?_) (fun hc=>?_)))))))
       ·have hg81:=hc;clear hc
        have hxx:gr_inQ s.x vl=true:=by simpa using hg81
        refine aF (d:=81) rfl rfl (aQ (o':=4) dT rfl rfl rfl (aF (d:=81) rfl rfl (aV isAgg3 rfl (aI (hS.at_ 0 rfl) rfl) rfl (aF (d:=81) rfl rfl (bW rfl rfl rfl (bC rfl rfl rfl (aK rfl rfl (aT (XF.thenN (bP (XF.blkR (XF.thenR (XF.res (cG results45 rfl) ?_)))))))))))))
        exact ⟨bI (by rw [hrk];unfold kS;dsimp only;rw [if_neg n1,if_pos (by first | exact .inl hc72 | exact .inr (.inl hc72) | exact .inr (.inr (.inl hc72)) | exact .inr (.inr (.inr hc72))),hxx];rfl),hS.below⟩
       ·have hg81:=hc;clear hc
        have hxx:gr_inQ s.x vl=false:=by simpa using hg81
        refine aH (d:=81) rfl rfl rfl rfl (aH (d:=81) rfl rfl rfl rfl (aH (d:=81) rfl rfl rfl rfl (bE rfl rfl rfl (aK rfl rfl (aT (XF.thenN (bP (XF.blkR (XF.thenR (XF.res (cG results45 rfl) ?_))))))))))
        exact ⟨bI (by rw [hrk];unfold kS;dsimp only;rw [if_neg n1,if_pos (by first | exact .inl hc72 | exact .inr (.inl hc72) | exact .inr (.inr (.inl hc72)) | exact .inr (.inr (.inr hc72))),hxx];rfl),hS.below⟩
      ·have hc72:=of_decide_eq_false hc;clear hc
       have n6:¬ s.k=6:=hc72
       refine aR (aU (bW rfl rfl rfl (aK rfl rfl (aT (XF.thenN (bJ rfl (fun hc=>?_) (fun hc=>?_)))))))
       ·have hc86:=of_decide_eq_true hc;clear hc
        have h3:s.k=3:=hc86
        refine aR (aU (aQ (o':=3) cF rfl rfl rfl (aV isAgg3 rfl (aI (hS.at_ 0 rfl) rfl) rfl (aL rfl rfl (cD (vs:=[_,_]) hS cB rfl (eB s.x vl _) rfl fun W8 hS=>aL rfl rfl (bK (d:=92) rfl (fun hc=>?_) (fun hc=>?_)))))))
        ·have hg92:=hc;clear hc
         have hxx:gr_inQ s.x vl=true:=by simpa using hg92
         refine aF (d:=92) rfl rfl (aQ (o':=4) dT rfl rfl rfl (aF (d:=92) rfl rfl (aV isAgg3 rfl (aI (hS.at_ 0 rfl) rfl) rfl (aF (d:=92) rfl rfl (aL rfl rfl (aF (d:=92) rfl rfl (cD (vs:=[_,_]) hS cB rfl (eB s.y vl _) rfl fun W9 hS=>bC rfl rfl rfl (aK rfl rfl (aT (XF.thenN (bP (XF.blkR (XF.thenR (XF.res (cG results45 rfl) ?_))))))))))))))
         exact ⟨bI (by rw [hrk];unfold kS;dsimp only;rw [if_neg n1,if_neg (by omega),if_pos h3,hxx];rfl),hS.below⟩
        ·have hg92:=hc;clear hc
         have hxx:gr_inQ s.x vl=false:=by simpa using hg92
         refine aH (d:=92) rfl rfl rfl rfl (aH (d:=92) rfl rfl rfl rfl (aH (d:=92) rfl rfl rfl rfl (aH (d:=92) rfl rfl rfl rfl (bE rfl rfl rfl (aK rfl rfl (aT (XF.thenN (bP (XF.blkR (XF.thenR (XF.res (cG results45 rfl) ?_)))))))))))
         exact ⟨bI (by rw [hrk];unfold kS;dsimp only;rw [if_neg n1,if_neg (by omega),if_pos h3,hxx];rfl),hS.below⟩
       ·have hc86:=of_decide_eq_false hc;clear hc
        have n3:¬ s.k=3:=hc86
        refine aR (aU (bW rfl rfl rfl (aK rfl rfl (aT (XF.thenN (bJ rfl (fun hc=>?_) (fun hc=>?_)))))))
        ·have hc98:=of_decide_eq_true hc;clear hc
         have h8:s.k=8:=hc98
         refine aR ?_
         rcases (wA htl s) with hx0 | ⟨hx0,hy0⟩ | ⟨hx0,hy0,hin⟩ | ⟨hx0,hy0,hin,q,u,eq,hq,hu,hfr | hfr⟩
         ·skip
          refine fK (m:=41) bG hS (by kernel_rfl) (by kernel_rfl) rfl (bZ 1 rfl 3 rfl rfl (fun w hw=>aO (o':=3) cF rfl rfl) rfl (aZ 2 rfl 100 0 rfl rfl rfl (fun w hw=>aS isAgg3 rfl ((aJ hw 0).cell (Nat.zero_le _) (aI (hS.at_ 0 rfl) rfl))) rfl (aD 3 rfl (isV (.bool false)) (aB _) (fD (li:=[(101,_)]) rfl (aP rfl) ⟨aG 1 (aA rfl rfl rfl),trivial⟩ (fun w hw=>eZ rfl rfl) (by rw [decide_eq_false hx0]) (aC rfl)) (aZ 4 rfl 102 2 rfl rfl rfl (fun w hw=>aW rfl) rfl (aD 5 rfl (isV undef) (aB _) (aX rfl (aY 103 rfl (aA rfl rfl rfl) rfl) (aC rfl)) (aD 6 rfl (isV undef) (aB _) (aX rfl (aY 103 rfl (aA rfl rfl rfl) rfl) (aC rfl)) (aD 7 rfl (isV undef) (aB _) (aX rfl (aY 103 rfl (aA rfl rfl rfl) rfl) (aC rfl)) (aZ 8 rfl 103 3 rfl rfl rfl (fun w hw=>bX rfl rfl) rfl (aZ 9 rfl 107 7 rfl rfl rfl (fun w hw=>aW rfl) rfl (aD 10 rfl (isV undef) (aB _) (aX rfl (aY 108 rfl (aA rfl rfl rfl) rfl) (aC rfl)) (aD 11 rfl (isV undef) (aB _) (aX rfl (aY 108 rfl (aA rfl rfl rfl) rfl) (aC rfl)) (aD 12 rfl (isV undef) (aB _) (aX rfl (aY 108 rfl (aA rfl rfl rfl) rfl) (aC rfl)) (aD 13 rfl (isV undef) (aB _) (aX rfl (aY 108 rfl (aA rfl rfl rfl) rfl) (aC rfl)) (aD 14 rfl (isV undef) (aB _) (aX rfl (aY 108 rfl (aA rfl rfl rfl) rfl) (aC rfl)) (aD 15 rfl (isV undef) (aB _) (aX rfl (aY 108 rfl (aA rfl rfl rfl) rfl) (aC rfl)) (aZ 16 rfl 108 8 rfl rfl rfl (fun w hw=>bX rfl rfl) rfl (aZ 17 rfl 115 15 rfl rfl rfl (fun w hw=>aW rfl) rfl (aD 18 rfl (isV undef) (aB _) (aX rfl (aY 116 rfl (aA rfl rfl rfl) rfl) (aC rfl)) (aD 19 rfl (isV undef) (aB _) (aX rfl (aY 116 rfl (aA rfl rfl rfl) rfl) (aC rfl)) (aD 20 rfl (isV undef) (aB _) (aX rfl (aY 116 rfl (aA rfl rfl rfl) rfl) (aC rfl)) (aD 21 rfl (isV undef) (aB _) (aX rfl (aY 116 rfl (aA rfl rfl rfl) rfl) (aC rfl)) (aD 22 rfl (isV undef) (aB _) (aX rfl (aY 116 rfl (aA rfl rfl rfl) rfl) (aC rfl)) (aD 23 rfl (isV undef) (aB _) (aX rfl (aY 116 rfl (aA rfl rfl rfl) rfl) (aC rfl)) (aD 24 rfl (isV undef) (aB _) (aX rfl (aY 116 rfl (aA rfl rfl rfl) rfl) (aC rfl)) (aD 25 rfl (isV undef) (aB _) (aX rfl (aY 116 rfl (aA rfl rfl rfl) rfl) (aC rfl)) (aD 26 rfl (isV undef) (aB _) (aX rfl (aY 116 rfl (aA rfl rfl rfl) rfl) (aC rfl)) (aD 27 rfl (isV undef) (aB _) (aX rfl (aY 116 rfl (aA rfl rfl rfl) rfl) (aC rfl)) (aZ 28 rfl 116 16 rfl rfl rfl (fun w hw=>bX rfl rfl) rfl (aZ 29 rfl 127 27 rfl rfl rfl (fun w hw=>aW rfl) rfl (aD 30 rfl (isV undef) (aB _) (aX rfl (aY 128 rfl (aA rfl rfl rfl) rfl) (aC rfl)) (aD 31 rfl (isV undef) (aB _) (aX rfl (aY 128 rfl (aA rfl rfl rfl) rfl) (aC rfl)) (aD 32 rfl (isV undef) (aB _) (aX rfl (aY 128 rfl (aA rfl rfl rfl) rfl) (aC rfl)) ?_))))))))))))))))))))))))))))))))
          refine aD 33 rfl (isV undef) (aB _) (aX rfl (aY 128 rfl (aA rfl rfl rfl) rfl) (aC rfl)) (aD 34 rfl (isV undef) (aB _) (aX rfl (aY 128 rfl (aA rfl rfl rfl) rfl) (aC rfl)) (aD 35 rfl (isV undef) (aB _) (aX rfl (aY 128 rfl (aA rfl rfl rfl) rfl) (aC rfl)) (aD 36 rfl (isV undef) (aB _) (aX rfl (aY 128 rfl (aA rfl rfl rfl) rfl) (aC rfl)) (aD 37 rfl (isV undef) (aB _) (aX rfl (aY 128 rfl (aA rfl rfl rfl) rfl) (aC rfl)) (aD 38 rfl (isV undef) (aB _) (aX rfl (aY 128 rfl (aA rfl rfl rfl) rfl) (aC rfl)) (aD 39 rfl (isV undef) (aB _) (aX rfl (aY 128 rfl (aA rfl rfl rfl) rfl) (aC rfl)) (aZ 40 rfl 128 28 rfl rfl rfl (fun w hw=>bX rfl rfl) rfl (aZ 41 rfl 139 39 rfl rfl rfl (fun w hw=>dW rfl) rfl (dF ?_)))))))))
          intro W10 hbR hS'
          clear hS;have hS:=hS';clear hS'
          refine aE (aE (aE (aE (aE (aE (aE (aE (aE (aE (aE (aE (aE (aE (aE (aE (aE (aE (aE (aE (aE (aE (aE (aE (aE (aE (aE (aE (aE (aE (aE (aE (aE ?_))))))))))))))))))))))))))))))))
          refine aE (aE (aE (aE (aE (aE (aE (aE (bV (XF.thenN (bP (XF.blkR (XF.thenR (XF.res (cG results45 rfl) ?_)))))))))))))
          exact ⟨bI (by rw [hrk];unfold kS;dsimp only;rw [if_neg n1,if_neg (by omega),if_neg n3,if_pos h8,decide_eq_false hx0];rfl),hS.below⟩
         ·skip
          refine fK (m:=41) bG hS (by kernel_rfl) (by kernel_rfl) rfl (bZ 1 rfl 3 rfl rfl (fun w hw=>aO (o':=3) cF rfl rfl) rfl (aZ 2 rfl 100 0 rfl rfl rfl (fun w hw=>aS isAgg3 rfl ((aJ hw 0).cell (Nat.zero_le _) (aI (hS.at_ 0 rfl) rfl))) rfl (aD 3 rfl (isV (.bool true)) (aB _) (fD (li:=[(101,_)]) rfl (aP rfl) ⟨aG 1 (aA rfl rfl rfl),trivial⟩ (fun w hw=>eZ rfl rfl) (by rw [decide_eq_true hx0]) (aC rfl)) (aZ 4 rfl 102 2 rfl rfl rfl (fun w hw=>aW rfl) rfl (aD 5 rfl (isV _) (aB _) (rgV (li:=[(3,_)]) rfl (aN 103 rfl (aA rfl rfl rfl)) ⟨bB rfl,trivial⟩ (fun w hw=>aO (o':=4) dT rfl rfl) (aC rfl)) (aD 6 rfl (isV _) (aB _) (rgV (li:=[(104,_)]) rfl (aN 103 rfl (aA rfl rfl rfl)) ⟨aG 4 (aA rfl rfl rfl),trivial⟩ (fun w hw=>aS isAgg3 rfl ((aJ hw 0).cell (Nat.zero_le _) (aI (hS.at_ 0 rfl) rfl))) (aC rfl)) (aD 7 rfl (isV (.bool false)) (aB _) (fD (li:=[(105,_)]) rfl (aN 103 rfl (aA rfl rfl rfl)) ⟨aG 5 (aA rfl rfl rfl),trivial⟩ (fun w hw=>eZ rfl rfl) (by rw [decide_eq_false hy0]) (aC rfl)) (aD 8 rfl (isV _) (aB _) (rgV (li:=[(103,_),(106,_)]) rfl (aP rfl) ⟨aG 3 (aA rfl rfl rfl),aG 6 (aA rfl rfl rfl),trivial⟩ (fun w hw=>cI rfl rfl) (aC rfl)) (aZ 9 rfl 107 7 rfl rfl rfl (fun w hw=>aW rfl) rfl (aD 10 rfl (isV undef) (aB _) (aX rfl (aY 108 rfl (aA rfl rfl rfl) rfl) (aC rfl)) (aD 11 rfl (isV undef) (aB _) (aX rfl (aY 108 rfl (aA rfl rfl rfl) rfl) (aC rfl)) (aD 12 rfl (isV undef) (aB _) (aX rfl (aY 108 rfl (aA rfl rfl rfl) rfl) (aC rfl)) (aD 13 rfl (isV undef) (aB _) (aX rfl (aY 108 rfl (aA rfl rfl rfl) rfl) (aC rfl)) (aD 14 rfl (isV undef) (aB _) (aX rfl (aY 108 rfl (aA rfl rfl rfl) rfl) (aC rfl)) (aD 15 rfl (isV undef) (aB _) (aX rfl (aY 108 rfl (aA rfl rfl rfl) rfl) (aC rfl)) (aZ 16 rfl 108 8 rfl rfl rfl (fun w hw=>bX rfl rfl) rfl (aZ 17 rfl 115 15 rfl rfl rfl (fun w hw=>aW rfl) rfl (aD 18 rfl (isV undef) (aB _) (aX rfl (aY 116 rfl (aA rfl rfl rfl) rfl) (aC rfl)) (aD 19 rfl (isV undef) (aB _) (aX rfl (aY 116 rfl (aA rfl rfl rfl) rfl) (aC rfl)) (aD 20 rfl (isV undef) (aB _) (aX rfl (aY 116 rfl (aA rfl rfl rfl) rfl) (aC rfl)) (aD 21 rfl (isV undef) (aB _) (aX rfl (aY 116 rfl (aA rfl rfl rfl) rfl) (aC rfl)) (aD 22 rfl (isV undef) (aB _) (aX rfl (aY 116 rfl (aA rfl rfl rfl) rfl) (aC rfl)) (aD 23 rfl (isV undef) (aB _) (aX rfl (aY 116 rfl (aA rfl rfl rfl) rfl) (aC rfl)) (aD 24 rfl (isV undef) (aB _) (aX rfl (aY 116 rfl (aA rfl rfl rfl) rfl) (aC rfl)) (aD 25 rfl (isV undef) (aB _) (aX rfl (aY 116 rfl (aA rfl rfl rfl) rfl) (aC rfl)) (aD 26 rfl (isV undef) (aB _) (aX rfl (aY 116 rfl (aA rfl rfl rfl) rfl) (aC rfl)) (aD 27 rfl (isV undef) (aB _) (aX rfl (aY 116 rfl (aA rfl rfl rfl) rfl) (aC rfl)) (aZ 28 rfl 116 16 rfl rfl rfl (fun w hw=>bX rfl rfl) rfl (aZ 29 rfl 127 27 rfl rfl rfl (fun w hw=>aW rfl) rfl (aD 30 rfl (isV undef) (aB _) (aX rfl (aY 128 rfl (aA rfl rfl rfl) rfl) (aC rfl)) (aD 31 rfl (isV undef) (aB _) (aX rfl (aY 128 rfl (aA rfl rfl rfl) rfl) (aC rfl)) (aD 32 rfl (isV undef) (aB _) (aX rfl (aY 128 rfl (aA rfl rfl rfl) rfl) (aC rfl)) ?_))))))))))))))))))))))))))))))))
          refine aD 33 rfl (isV undef) (aB _) (aX rfl (aY 128 rfl (aA rfl rfl rfl) rfl) (aC rfl)) (aD 34 rfl (isV undef) (aB _) (aX rfl (aY 128 rfl (aA rfl rfl rfl) rfl) (aC rfl)) (aD 35 rfl (isV undef) (aB _) (aX rfl (aY 128 rfl (aA rfl rfl rfl) rfl) (aC rfl)) (aD 36 rfl (isV undef) (aB _) (aX rfl (aY 128 rfl (aA rfl rfl rfl) rfl) (aC rfl)) (aD 37 rfl (isV undef) (aB _) (aX rfl (aY 128 rfl (aA rfl rfl rfl) rfl) (aC rfl)) (aD 38 rfl (isV undef) (aB _) (aX rfl (aY 128 rfl (aA rfl rfl rfl) rfl) (aC rfl)) (aD 39 rfl (isV undef) (aB _) (aX rfl (aY 128 rfl (aA rfl rfl rfl) rfl) (aC rfl)) (aZ 40 rfl 128 28 rfl rfl rfl (fun w hw=>bX rfl rfl) rfl (aZ 41 rfl 139 39 rfl rfl rfl (fun w hw=>dW rfl) rfl (dF ?_)))))))))
          intro W11 hbR hS'
          clear hS;have hS:=hS';clear hS'
          refine aE (aE (aE (aE (aE (aE (aE (aE (aE (aE (aE (aE (aE (aE (aE (aE (aE (aE (aE (aE (aE (aE (aE (aE (aE (aE (aE (aE (aE (aE (aE (aE (aE ?_))))))))))))))))))))))))))))))))
          refine aE (aE (aE (aE (aE (aE (aE (aE (bV (XF.thenN (bP (XF.blkR (XF.thenR (XF.res (cG results45 rfl) ?_)))))))))))))
          exact ⟨bI (by rw [hrk];unfold kS;dsimp only;rw [if_neg n1,if_neg (by omega),if_neg n3,if_pos h8,decide_eq_true hx0,decide_eq_false hy0];rfl),hS.below⟩
         ·skip
          refine fK (m:=41) bG hS (by kernel_rfl) (by kernel_rfl) rfl (bZ 1 rfl 3 rfl rfl (fun w hw=>aO (o':=3) cF rfl rfl) rfl (aZ 2 rfl 100 0 rfl rfl rfl (fun w hw=>aS isAgg3 rfl ((aJ hw 0).cell (Nat.zero_le _) (aI (hS.at_ 0 rfl) rfl))) rfl (aD 3 rfl (isV (.bool true)) (aB _) (fD (li:=[(101,_)]) rfl (aP rfl) ⟨aG 1 (aA rfl rfl rfl),trivial⟩ (fun w hw=>eZ rfl rfl) (by rw [decide_eq_true hx0]) (aC rfl)) (aZ 4 rfl 102 2 rfl rfl rfl (fun w hw=>aW rfl) rfl (aD 5 rfl (isV _) (aB _) (rgV (li:=[(3,_)]) rfl (aN 103 rfl (aA rfl rfl rfl)) ⟨bB rfl,trivial⟩ (fun w hw=>aO (o':=4) dT rfl rfl) (aC rfl)) (aD 6 rfl (isV _) (aB _) (rgV (li:=[(104,_)]) rfl (aN 103 rfl (aA rfl rfl rfl)) ⟨aG 4 (aA rfl rfl rfl),trivial⟩ (fun w hw=>aS isAgg3 rfl ((aJ hw 0).cell (Nat.zero_le _) (aI (hS.at_ 0 rfl) rfl))) (aC rfl)) (aD 7 rfl (isV (.bool true)) (aB _) (fD (li:=[(105,_)]) rfl (aN 103 rfl (aA rfl rfl rfl)) ⟨aG 5 (aA rfl rfl rfl),trivial⟩ (fun w hw=>eZ rfl rfl) (by rw [decide_eq_true hy0]) (aC rfl)) (aD 8 rfl (isV _) (aB _) (rgV (li:=[(103,_),(106,_)]) rfl (aP rfl) ⟨aG 3 (aA rfl rfl rfl),aG 6 (aA rfl rfl rfl),trivial⟩ (fun w hw=>cI rfl rfl) (aC rfl)) (aZ 9 rfl 107 7 rfl rfl rfl (fun w hw=>aW rfl) rfl (aD 10 rfl (isV _) (aB _) (rgV (li:=[(3,_)]) rfl (aN 108 rfl (aA rfl rfl rfl)) ⟨bB rfl,trivial⟩ (fun w hw=>aO (o':=6) dI rfl rfl) (aC rfl)) (aD 11 rfl (isV _) (aB _) (rgV (li:=[(109,_)]) rfl (aN 108 rfl (aA rfl rfl rfl)) ⟨aG 9 (aA rfl rfl rfl),trivial⟩ (fun w hw=>aS isAgg3 rfl ((aJ hw 0).cell (Nat.zero_le _) (aI (hS.at_ 0 rfl) rfl))) (aC rfl)) (aD 12 rfl (isV _) (aB _) (rgV (li:=[(2,_)]) rfl (aN 108 rfl (aA rfl rfl rfl)) ⟨bB rfl,trivial⟩ (fun w hw=>aO (o':=7) cX rfl rfl) (aC rfl)) (aD 13 rfl (isV _) (aB _) (rgV (li:=[(111,_)]) rfl (aN 108 rfl (aA rfl rfl rfl)) ⟨aG 11 (aA rfl rfl rfl),trivial⟩ (fun w hw=>aS isAgg25 rfl ((aJ hw 0).cell (Nat.zero_le _) (aI (hS.at_ 1 rfl) rfl))) (aC rfl)) (aD 14 rfl (isV _) (aB _) (rgV (li:=[(112,_)]) rfl (aN 108 rfl (aA rfl rfl rfl)) ⟨aG 12 (aA rfl rfl rfl),trivial⟩ (fun w hw=>eY underlying25 rfl) (aC rfl)) ?_))))))))))))))
          refine aD 15 rfl (isV (.bool false)) (aB _) (cH [isV _,isV _] rfl cB (aN 108 rfl (aA rfl rfl rfl)) ⟨bO (aG 10 (aA rfl rfl rfl)),bO (aG 13 (aA rfl rfl rfl)),trivial⟩ (fun vs w' hb hh=>by have e:=bN (us:=[_,_]) hh;subst e;exact (eB s.s _ _).mono fun e w2 h=>⟨_,by rw [h.1,hin],rfl,h.2⟩) (aC rfl)) ?_
          refine aD 16 rfl (isV _) (aB _) (rgV (li:=[(108,_),(114,_)]) rfl (aP rfl) ⟨aG 8 (aA rfl rfl rfl),aG 14 (aA rfl rfl rfl),trivial⟩ (fun w hw=>cI rfl rfl) (aC rfl)) (aZ 17 rfl 115 15 rfl rfl rfl (fun w hw=>aW rfl) rfl (aD 18 rfl (isV undef) (aB _) (aX rfl (aY 116 rfl (aA rfl rfl rfl) rfl) (aC rfl)) (aD 19 rfl (isV undef) (aB _) (aX rfl (aY 116 rfl (aA rfl rfl rfl) rfl) (aC rfl)) (aD 20 rfl (isV undef) (aB _) (aX rfl (aY 116 rfl (aA rfl rfl rfl) rfl) (aC rfl)) (aD 21 rfl (isV undef) (aB _) (aX rfl (aY 116 rfl (aA rfl rfl rfl) rfl) (aC rfl)) (aD 22 rfl (isV undef) (aB _) (aX rfl (aY 116 rfl (aA rfl rfl rfl) rfl) (aC rfl)) (aD 23 rfl (isV undef) (aB _) (aX rfl (aY 116 rfl (aA rfl rfl rfl) rfl) (aC rfl)) (aD 24 rfl (isV undef) (aB _) (aX rfl (aY 116 rfl (aA rfl rfl rfl) rfl) (aC rfl)) (aD 25 rfl (isV undef) (aB _) (aX rfl (aY 116 rfl (aA rfl rfl rfl) rfl) (aC rfl)) (aD 26 rfl (isV undef) (aB _) (aX rfl (aY 116 rfl (aA rfl rfl rfl) rfl) (aC rfl)) (aD 27 rfl (isV undef) (aB _) (aX rfl (aY 116 rfl (aA rfl rfl rfl) rfl) (aC rfl)) (aZ 28 rfl 116 16 rfl rfl rfl (fun w hw=>bX rfl rfl) rfl (aZ 29 rfl 127 27 rfl rfl rfl (fun w hw=>aW rfl) rfl (aD 30 rfl (isV undef) (aB _) (aX rfl (aY 128 rfl (aA rfl rfl rfl) rfl) (aC rfl)) (aD 31 rfl (isV undef) (aB _) (aX rfl (aY 128 rfl (aA rfl rfl rfl) rfl) (aC rfl)) (aD 32 rfl (isV undef) (aB _) (aX rfl (aY 128 rfl (aA rfl rfl rfl) rfl) (aC rfl)) (aD 33 rfl (isV undef) (aB _) (aX rfl (aY 128 rfl (aA rfl rfl rfl) rfl) (aC rfl)) (aD 34 rfl (isV undef) (aB _) (aX rfl (aY 128 rfl (aA rfl rfl rfl) rfl) (aC rfl)) (aD 35 rfl (isV undef) (aB _) (aX rfl (aY 128 rfl (aA rfl rfl rfl) rfl) (aC rfl)) (aD 36 rfl (isV undef) (aB _) (aX rfl (aY 128 rfl (aA rfl rfl rfl) rfl) (aC rfl)) (aD 37 rfl (isV undef) (aB _) (aX rfl (aY 128 rfl (aA rfl rfl rfl) rfl) (aC rfl)) (aD 38 rfl (isV undef) (aB _) (aX rfl (aY 128 rfl (aA rfl rfl rfl) rfl) (aC rfl)) (aD 39 rfl (isV undef) (aB _) (aX rfl (aY 128 rfl (aA rfl rfl rfl) rfl) (aC rfl)) (aZ 40 rfl 128 28 rfl rfl rfl (fun w hw=>bX rfl rfl) rfl (aZ 41 rfl 139 39 rfl rfl rfl (fun w hw=>dW rfl) rfl (dF ?_))))))))))))))))))))))))))
          intro W12 hbR hS'
          clear hS;have hS:=hS';clear hS'
          refine aE (aE (aE (aE (aE (aE (aE (aE (aE (aE (aE (aE (aE (aE (aE (aE (aE (aE (aE (aE (aE (aE (aE (aE (aE (aE (aE (aE (aE (aE (aE (aE (aE ?_))))))))))))))))))))))))))))))))
          refine aE (aE (aE (aE (aE (aE (aE (aE (bV (XF.thenN (bP (XF.blkR (XF.thenR (XF.res (cG results45 rfl) ?_)))))))))))))
          exact ⟨bI (by rw [hrk];unfold kS;dsimp only;rw [if_neg n1,if_neg (by omega),if_neg n3,if_pos h8,decide_eq_true hx0,decide_eq_true hy0,Bo htl hin];rfl),hS.below⟩
         ·obtain ⟨tb,to_,u1,rfl,hu1,huc⟩:=ht.get (i:=q) (by omega)
          obtain rfl:u=u1:=Option.some.inj (hu.symm.trans hu1)
          have k5:=aM.agree hS.agree (Nat.zero_le _) huc
          have k6:=k5.2.2.1
          have k7:=k5.2.2.2.1
          refine fK (m:=41) bG hS (by kernel_rfl) (by kernel_rfl) rfl (bZ 1 rfl 3 rfl rfl (fun w hw=>aO (o':=3) cF rfl rfl) rfl (aZ 2 rfl 100 0 rfl rfl rfl (fun w hw=>aS isAgg3 rfl ((aJ hw 0).cell (Nat.zero_le _) (aI (hS.at_ 0 rfl) rfl))) rfl (aD 3 rfl (isV (.bool true)) (aB _) (fD (li:=[(101,_)]) rfl (aP rfl) ⟨aG 1 (aA rfl rfl rfl),trivial⟩ (fun w hw=>eZ rfl rfl) (by rw [decide_eq_true hx0]) (aC rfl)) (aZ 4 rfl 102 2 rfl rfl rfl (fun w hw=>aW rfl) rfl (aD 5 rfl (isV _) (aB _) (rgV (li:=[(3,_)]) rfl (aN 103 rfl (aA rfl rfl rfl)) ⟨bB rfl,trivial⟩ (fun w hw=>aO (o':=4) dT rfl rfl) (aC rfl)) (aD 6 rfl (isV _) (aB _) (rgV (li:=[(104,_)]) rfl (aN 103 rfl (aA rfl rfl rfl)) ⟨aG 4 (aA rfl rfl rfl),trivial⟩ (fun w hw=>aS isAgg3 rfl ((aJ hw 0).cell (Nat.zero_le _) (aI (hS.at_ 0 rfl) rfl))) (aC rfl)) (aD 7 rfl (isV (.bool true)) (aB _) (fD (li:=[(105,_)]) rfl (aN 103 rfl (aA rfl rfl rfl)) ⟨aG 5 (aA rfl rfl rfl),trivial⟩ (fun w hw=>eZ rfl rfl) (by rw [decide_eq_true hy0]) (aC rfl)) (aD 8 rfl (isV _) (aB _) (rgV (li:=[(103,_),(106,_)]) rfl (aP rfl) ⟨aG 3 (aA rfl rfl rfl),aG 6 (aA rfl rfl rfl),trivial⟩ (fun w hw=>cI rfl rfl) (aC rfl)) (aZ 9 rfl 107 7 rfl rfl rfl (fun w hw=>aW rfl) rfl (aD 10 rfl (isV _) (aB _) (rgV (li:=[(3,_)]) rfl (aN 108 rfl (aA rfl rfl rfl)) ⟨bB rfl,trivial⟩ (fun w hw=>aO (o':=6) dI rfl rfl) (aC rfl)) (aD 11 rfl (isV _) (aB _) (rgV (li:=[(109,_)]) rfl (aN 108 rfl (aA rfl rfl rfl)) ⟨aG 9 (aA rfl rfl rfl),trivial⟩ (fun w hw=>aS isAgg3 rfl ((aJ hw 0).cell (Nat.zero_le _) (aI (hS.at_ 0 rfl) rfl))) (aC rfl)) (aD 12 rfl (isV _) (aB _) (rgV (li:=[(2,_)]) rfl (aN 108 rfl (aA rfl rfl rfl)) ⟨bB rfl,trivial⟩ (fun w hw=>aO (o':=7) cX rfl rfl) (aC rfl)) (aD 13 rfl (isV _) (aB _) (rgV (li:=[(111,_)]) rfl (aN 108 rfl (aA rfl rfl rfl)) ⟨aG 11 (aA rfl rfl rfl),trivial⟩ (fun w hw=>aS isAgg25 rfl ((aJ hw 0).cell (Nat.zero_le _) (aI (hS.at_ 1 rfl) rfl))) (aC rfl)) (aD 14 rfl (isV _) (aB _) (rgV (li:=[(112,_)]) rfl (aN 108 rfl (aA rfl rfl rfl)) ⟨aG 12 (aA rfl rfl rfl),trivial⟩ (fun w hw=>eY underlying25 rfl) (aC rfl)) ?_))))))))))))))
          refine aD 15 rfl (isV (.bool true)) (aB _) (cH [isV _,isV _] rfl cB (aN 108 rfl (aA rfl rfl rfl)) ⟨bO (aG 10 (aA rfl rfl rfl)),bO (aG 13 (aA rfl rfl rfl)),trivial⟩ (fun vs w' hb hh=>by have e:=bN (us:=[_,_]) hh;subst e;exact (eB s.s _ _).mono fun e w2 h=>⟨_,by rw [h.1,hin],rfl,h.2⟩) (aC rfl)) ?_
          refine aD 16 rfl (isV _) (aB _) (rgV (li:=[(108,_),(114,_)]) rfl (aP rfl) ⟨aG 8 (aA rfl rfl rfl),aG 14 (aA rfl rfl rfl),trivial⟩ (fun w hw=>cI rfl rfl) (aC rfl)) (aZ 17 rfl 115 15 rfl rfl rfl (fun w hw=>aW rfl) rfl (aD 18 rfl (isV _) (aB _) (rgV (li:=[(2,_)]) rfl (aN 116 rfl (aA rfl rfl rfl)) ⟨bB rfl,trivial⟩ (fun w hw=>aO (o':=7) cX rfl rfl) (aC rfl)) (aD 19 rfl (isV _) (aB _) (rgV (li:=[(117,_)]) rfl (aN 116 rfl (aA rfl rfl rfl)) ⟨aG 17 (aA rfl rfl rfl),trivial⟩ (fun w hw=>aS isAgg25 rfl ((aJ hw 0).cell (Nat.zero_le _) (aI (hS.at_ 1 rfl) rfl))) (aC rfl)) (aD 20 rfl (isV _) (aB _) (rgV (li:=[(3,_)]) rfl (aN 116 rfl (aA rfl rfl rfl)) ⟨bB rfl,trivial⟩ (fun w hw=>aO (o':=6) dI rfl rfl) (aC rfl)) (aD 21 rfl (isV _) (aB _) (rgV (li:=[(119,_)]) rfl (aN 116 rfl (aA rfl rfl rfl)) ⟨aG 19 (aA rfl rfl rfl),trivial⟩ (fun w hw=>aS isAgg3 rfl ((aJ hw 0).cell (Nat.zero_le _) (aI (hS.at_ 0 rfl) rfl))) (aC rfl)) (aD 22 rfl (isV _) (aB _) (rgV (li:=[(118,_),(120,_)]) rfl (aN 116 rfl (aA rfl rfl rfl)) ⟨aG 18 (aA rfl rfl rfl),aG 20 (aA rfl rfl rfl),trivial⟩ (fun w hw=>bH (j:=q) underlying25 sizeOf81 rfl rfl (by omega) (by omega) rfl) (aC rfl)) (aD 23 rfl (isV _) (aB _) (rgV (li:=[(121,_)]) rfl (aN 116 rfl (aA rfl rfl rfl)) ⟨aG 21 (aA rfl rfl rfl),trivial⟩ (fun w hw=>aO lK rfl rfl) (aC rfl)) (aD 24 rfl (isV _) (aB _) (rgV (li:=[(122,_)]) rfl (aN 116 rfl (aA rfl rfl rfl)) ⟨aG 22 (aA rfl rfl rfl),trivial⟩ (fun w hw=>aS isAgg3 rfl ((aJ hw 0).cell (Nat.zero_le _) (k6))) (aC rfl)) (aD 25 rfl (isV _) (aB _) (rgV (li:=[(3,_)]) rfl (aN 116 rfl (aA rfl rfl rfl)) ⟨bB rfl,trivial⟩ (fun w hw=>aO (o':=0) cO rfl rfl) (aC rfl)) (aD 26 rfl (isV _) (aB _) (rgV (li:=[(124,_)]) rfl (aN 116 rfl (aA rfl rfl rfl)) ⟨aG 24 (aA rfl rfl rfl),trivial⟩ (fun w hw=>aS isAgg3 rfl ((aJ hw 0).cell (Nat.zero_le _) (aI (hS.at_ 0 rfl) rfl))) (aC rfl)) (aD 27 rfl (isV (.bool false)) (aB _) (fD (li:=[(123,_),(125,_)]) rfl (aN 116 rfl (aA rfl rfl rfl)) ⟨aG 23 (aA rfl rfl rfl),aG 25 (aA rfl rfl rfl),trivial⟩ (fun w hw=>eZ rfl rfl) (by rw [decide_eq_false hfr]) (aC rfl)) (aD 28 rfl (isV _) (aB _) (rgV (li:=[(116,_),(126,_)]) rfl (aP rfl) ⟨aG 16 (aA rfl rfl rfl),aG 26 (aA rfl rfl rfl),trivial⟩ (fun w hw=>cI rfl rfl) (aC rfl)) (aZ 29 rfl 127 27 rfl rfl rfl (fun w hw=>aW rfl) rfl (aD 30 rfl (isV undef) (aB _) (aX rfl (aY 128 rfl (aA rfl rfl rfl) rfl) (aC rfl)) (aD 31 rfl (isV undef) (aB _) (aX rfl (aY 128 rfl (aA rfl rfl rfl) rfl) (aC rfl)) (aD 32 rfl (isV undef) (aB _) (aX rfl (aY 128 rfl (aA rfl rfl rfl) rfl) (aC rfl)) (aD 33 rfl (isV undef) (aB _) (aX rfl (aY 128 rfl (aA rfl rfl rfl) rfl) (aC rfl)) (aD 34 rfl (isV undef) (aB _) (aX rfl (aY 128 rfl (aA rfl rfl rfl) rfl) (aC rfl)) (aD 35 rfl (isV undef) (aB _) (aX rfl (aY 128 rfl (aA rfl rfl rfl) rfl) (aC rfl)) (aD 36 rfl (isV undef) (aB _) (aX rfl (aY 128 rfl (aA rfl rfl rfl) rfl) (aC rfl)) (aD 37 rfl (isV undef) (aB _) (aX rfl (aY 128 rfl (aA rfl rfl rfl) rfl) (aC rfl)) (aD 38 rfl (isV undef) (aB _) (aX rfl (aY 128 rfl (aA rfl rfl rfl) rfl) (aC rfl)) (aD 39 rfl (isV undef) (aB _) (aX rfl (aY 128 rfl (aA rfl rfl rfl) rfl) (aC rfl)) (aZ 40 rfl 128 28 rfl rfl rfl (fun w hw=>bX rfl rfl) rfl (aZ 41 rfl 139 39 rfl rfl rfl (fun w hw=>dW rfl) rfl (dF ?_))))))))))))))))))))))))))
          intro W13 hbR hS'
          clear hS;have hS:=hS';clear hS'
          refine aE (aE (aE (aE (aE (aE (aE (aE (aE (aE (aE (aE (aE (aE (aE (aE (aE (aE (aE (aE (aE (aE (aE (aE (aE (aE (aE (aE (aE (aE (aE (aE (aE ?_))))))))))))))))))))))))))))))))
          refine aE (aE (aE (aE (aE (aE (aE (aE (bV (XF.thenN (bP (XF.blkR (XF.thenR (XF.res (cG results45 rfl) ?_)))))))))))))
          exact ⟨bI (by rw [hrk];unfold kS;dsimp only;rw [if_neg n1,if_neg (by omega),if_neg n3,if_pos h8,decide_eq_true hx0,decide_eq_true hy0,wB htl eq hq hu,decide_eq_false hfr];rfl),hS.below⟩
         ·obtain ⟨tb,to_,u1,rfl,hu1,huc⟩:=ht.get (i:=q) (by omega)
          obtain rfl:u=u1:=Option.some.inj (hu.symm.trans hu1)
          have k5:=aM.agree hS.agree (Nat.zero_le _) huc
          have k6:=k5.2.2.1
          have k7:=k5.2.2.2.1
          refine fK (m:=41) bG hS (by kernel_rfl) (by kernel_rfl) rfl (bZ 1 rfl 3 rfl rfl (fun w hw=>aO (o':=3) cF rfl rfl) rfl (aZ 2 rfl 100 0 rfl rfl rfl (fun w hw=>aS isAgg3 rfl ((aJ hw 0).cell (Nat.zero_le _) (aI (hS.at_ 0 rfl) rfl))) rfl (aD 3 rfl (isV (.bool true)) (aB _) (fD (li:=[(101,_)]) rfl (aP rfl) ⟨aG 1 (aA rfl rfl rfl),trivial⟩ (fun w hw=>eZ rfl rfl) (by rw [decide_eq_true hx0]) (aC rfl)) (aZ 4 rfl 102 2 rfl rfl rfl (fun w hw=>aW rfl) rfl (aD 5 rfl (isV _) (aB _) (rgV (li:=[(3,_)]) rfl (aN 103 rfl (aA rfl rfl rfl)) ⟨bB rfl,trivial⟩ (fun w hw=>aO (o':=4) dT rfl rfl) (aC rfl)) (aD 6 rfl (isV _) (aB _) (rgV (li:=[(104,_)]) rfl (aN 103 rfl (aA rfl rfl rfl)) ⟨aG 4 (aA rfl rfl rfl),trivial⟩ (fun w hw=>aS isAgg3 rfl ((aJ hw 0).cell (Nat.zero_le _) (aI (hS.at_ 0 rfl) rfl))) (aC rfl)) (aD 7 rfl (isV (.bool true)) (aB _) (fD (li:=[(105,_)]) rfl (aN 103 rfl (aA rfl rfl rfl)) ⟨aG 5 (aA rfl rfl rfl),trivial⟩ (fun w hw=>eZ rfl rfl) (by rw [decide_eq_true hy0]) (aC rfl)) (aD 8 rfl (isV _) (aB _) (rgV (li:=[(103,_),(106,_)]) rfl (aP rfl) ⟨aG 3 (aA rfl rfl rfl),aG 6 (aA rfl rfl rfl),trivial⟩ (fun w hw=>cI rfl rfl) (aC rfl)) (aZ 9 rfl 107 7 rfl rfl rfl (fun w hw=>aW rfl) rfl (aD 10 rfl (isV _) (aB _) (rgV (li:=[(3,_)]) rfl (aN 108 rfl (aA rfl rfl rfl)) ⟨bB rfl,trivial⟩ (fun w hw=>aO (o':=6) dI rfl rfl) (aC rfl)) (aD 11 rfl (isV _) (aB _) (rgV (li:=[(109,_)]) rfl (aN 108 rfl (aA rfl rfl rfl)) ⟨aG 9 (aA rfl rfl rfl),trivial⟩ (fun w hw=>aS isAgg3 rfl ((aJ hw 0).cell (Nat.zero_le _) (aI (hS.at_ 0 rfl) rfl))) (aC rfl)) (aD 12 rfl (isV _) (aB _) (rgV (li:=[(2,_)]) rfl (aN 108 rfl (aA rfl rfl rfl)) ⟨bB rfl,trivial⟩ (fun w hw=>aO (o':=7) cX rfl rfl) (aC rfl)) (aD 13 rfl (isV _) (aB _) (rgV (li:=[(111,_)]) rfl (aN 108 rfl (aA rfl rfl rfl)) ⟨aG 11 (aA rfl rfl rfl),trivial⟩ (fun w hw=>aS isAgg25 rfl ((aJ hw 0).cell (Nat.zero_le _) (aI (hS.at_ 1 rfl) rfl))) (aC rfl)) (aD 14 rfl (isV _) (aB _) (rgV (li:=[(112,_)]) rfl (aN 108 rfl (aA rfl rfl rfl)) ⟨aG 12 (aA rfl rfl rfl),trivial⟩ (fun w hw=>eY underlying25 rfl) (aC rfl)) ?_))))))))))))))
          refine aD 15 rfl (isV (.bool true)) (aB _) (cH [isV _,isV _] rfl cB (aN 108 rfl (aA rfl rfl rfl)) ⟨bO (aG 10 (aA rfl rfl rfl)),bO (aG 13 (aA rfl rfl rfl)),trivial⟩ (fun vs w' hb hh=>by have e:=bN (us:=[_,_]) hh;subst e;exact (eB s.s _ _).mono fun e w2 h=>⟨_,by rw [h.1,hin],rfl,h.2⟩) (aC rfl)) ?_
          refine aD 16 rfl (isV _) (aB _) (rgV (li:=[(108,_),(114,_)]) rfl (aP rfl) ⟨aG 8 (aA rfl rfl rfl),aG 14 (aA rfl rfl rfl),trivial⟩ (fun w hw=>cI rfl rfl) (aC rfl)) (aZ 17 rfl 115 15 rfl rfl rfl (fun w hw=>aW rfl) rfl (aD 18 rfl (isV _) (aB _) (rgV (li:=[(2,_)]) rfl (aN 116 rfl (aA rfl rfl rfl)) ⟨bB rfl,trivial⟩ (fun w hw=>aO (o':=7) cX rfl rfl) (aC rfl)) (aD 19 rfl (isV _) (aB _) (rgV (li:=[(117,_)]) rfl (aN 116 rfl (aA rfl rfl rfl)) ⟨aG 17 (aA rfl rfl rfl),trivial⟩ (fun w hw=>aS isAgg25 rfl ((aJ hw 0).cell (Nat.zero_le _) (aI (hS.at_ 1 rfl) rfl))) (aC rfl)) (aD 20 rfl (isV _) (aB _) (rgV (li:=[(3,_)]) rfl (aN 116 rfl (aA rfl rfl rfl)) ⟨bB rfl,trivial⟩ (fun w hw=>aO (o':=6) dI rfl rfl) (aC rfl)) (aD 21 rfl (isV _) (aB _) (rgV (li:=[(119,_)]) rfl (aN 116 rfl (aA rfl rfl rfl)) ⟨aG 19 (aA rfl rfl rfl),trivial⟩ (fun w hw=>aS isAgg3 rfl ((aJ hw 0).cell (Nat.zero_le _) (aI (hS.at_ 0 rfl) rfl))) (aC rfl)) (aD 22 rfl (isV _) (aB _) (rgV (li:=[(118,_),(120,_)]) rfl (aN 116 rfl (aA rfl rfl rfl)) ⟨aG 18 (aA rfl rfl rfl),aG 20 (aA rfl rfl rfl),trivial⟩ (fun w hw=>bH (j:=q) underlying25 sizeOf81 rfl rfl (by omega) (by omega) rfl) (aC rfl)) (aD 23 rfl (isV _) (aB _) (rgV (li:=[(121,_)]) rfl (aN 116 rfl (aA rfl rfl rfl)) ⟨aG 21 (aA rfl rfl rfl),trivial⟩ (fun w hw=>aO lK rfl rfl) (aC rfl)) (aD 24 rfl (isV _) (aB _) (rgV (li:=[(122,_)]) rfl (aN 116 rfl (aA rfl rfl rfl)) ⟨aG 22 (aA rfl rfl rfl),trivial⟩ (fun w hw=>aS isAgg3 rfl ((aJ hw 0).cell (Nat.zero_le _) (k6))) (aC rfl)) (aD 25 rfl (isV _) (aB _) (rgV (li:=[(3,_)]) rfl (aN 116 rfl (aA rfl rfl rfl)) ⟨bB rfl,trivial⟩ (fun w hw=>aO (o':=0) cO rfl rfl) (aC rfl)) (aD 26 rfl (isV _) (aB _) (rgV (li:=[(124,_)]) rfl (aN 116 rfl (aA rfl rfl rfl)) ⟨aG 24 (aA rfl rfl rfl),trivial⟩ (fun w hw=>aS isAgg3 rfl ((aJ hw 0).cell (Nat.zero_le _) (aI (hS.at_ 0 rfl) rfl))) (aC rfl)) (aD 27 rfl (isV (.bool true)) (aB _) (fD (li:=[(123,_),(125,_)]) rfl (aN 116 rfl (aA rfl rfl rfl)) ⟨aG 23 (aA rfl rfl rfl),aG 25 (aA rfl rfl rfl),trivial⟩ (fun w hw=>eZ rfl rfl) (by rw [decide_eq_true hfr]) (aC rfl)) (aD 28 rfl (isV _) (aB _) (rgV (li:=[(116,_),(126,_)]) rfl (aP rfl) ⟨aG 16 (aA rfl rfl rfl),aG 26 (aA rfl rfl rfl),trivial⟩ (fun w hw=>cI rfl rfl) (aC rfl)) (aZ 29 rfl 127 27 rfl rfl rfl (fun w hw=>aW rfl) rfl (aD 30 rfl (isV _) (aB _) (rgV (li:=[(2,_)]) rfl (aN 128 rfl (aA rfl rfl rfl)) ⟨bB rfl,trivial⟩ (fun w hw=>aO (o':=7) cX rfl rfl) (aC rfl)) (aD 31 rfl (isV _) (aB _) (rgV (li:=[(129,_)]) rfl (aN 128 rfl (aA rfl rfl rfl)) ⟨aG 29 (aA rfl rfl rfl),trivial⟩ (fun w hw=>aS isAgg25 rfl ((aJ hw 0).cell (Nat.zero_le _) (aI (hS.at_ 1 rfl) rfl))) (aC rfl)) (aD 32 rfl (isV _) (aB _) (rgV (li:=[(3,_)]) rfl (aN 128 rfl (aA rfl rfl rfl)) ⟨bB rfl,trivial⟩ (fun w hw=>aO (o':=6) dI rfl rfl) (aC rfl)) (aD 33 rfl (isV _) (aB _) (rgV (li:=[(131,_)]) rfl (aN 128 rfl (aA rfl rfl rfl)) ⟨aG 31 (aA rfl rfl rfl),trivial⟩ (fun w hw=>aS isAgg3 rfl ((aJ hw 0).cell (Nat.zero_le _) (aI (hS.at_ 0 rfl) rfl))) (aC rfl)) (aD 34 rfl (isV _) (aB _) (rgV (li:=[(130,_),(132,_)]) rfl (aN 128 rfl (aA rfl rfl rfl)) ⟨aG 30 (aA rfl rfl rfl),aG 32 (aA rfl rfl rfl),trivial⟩ (fun w hw=>bH (j:=q) underlying25 sizeOf81 rfl rfl (by omega) (by omega) rfl) (aC rfl)) (aD 35 rfl (isV _) (aB _) (rgV (li:=[(133,_)]) rfl (aN 128 rfl (aA rfl rfl rfl)) ⟨aG 33 (aA rfl rfl rfl),trivial⟩ (fun w hw=>aO nZ rfl rfl) (aC rfl)) (aD 36 rfl (isV _) (aB _) (rgV (li:=[(134,_)]) rfl (aN 128 rfl (aA rfl rfl rfl)) ⟨aG 34 (aA rfl rfl rfl),trivial⟩ (fun w hw=>aS isAgg3 rfl ((aJ hw 0).cell (Nat.zero_le _) (k7))) (aC rfl)) (aD 37 rfl (isV _) (aB _) (rgV (li:=[(3,_)]) rfl (aN 128 rfl (aA rfl rfl rfl)) ⟨bB rfl,trivial⟩ (fun w hw=>aO (o':=1) cU rfl rfl) (aC rfl)) (aD 38 rfl (isV _) (aB _) (rgV (li:=[(136,_)]) rfl (aN 128 rfl (aA rfl rfl rfl)) ⟨aG 36 (aA rfl rfl rfl),trivial⟩ (fun w hw=>aS isAgg3 rfl ((aJ hw 0).cell (Nat.zero_le _) (aI (hS.at_ 0 rfl) rfl))) (aC rfl)) (aD 39 rfl (isV _) (aB _) (rgV (li:=[(135,_),(137,_)]) rfl (aN 128 rfl (aA rfl rfl rfl)) ⟨aG 35 (aA rfl rfl rfl),aG 37 (aA rfl rfl rfl),trivial⟩ (fun w hw=>eZ rfl rfl) (aC rfl)) (aD 40 rfl (isV _) (aB _) (rgV (li:=[(128,_),(138,_)]) rfl (aP rfl) ⟨aG 28 (aA rfl rfl rfl),aG 38 (aA rfl rfl rfl),trivial⟩ (fun w hw=>cI rfl rfl) (aC rfl)) (aZ 41 rfl 139 39 rfl rfl rfl (fun w hw=>dW rfl) rfl (dF ?_))))))))))))))))))))))))))
          intro W14 hbR hS'
          clear hS;have hS:=hS';clear hS'
          refine aE (aE (aE (aE (aE (aE (aE (aE (aE (aE (aE (aE (aE (aE (aE (aE (aE (aE (aE (aE (aE (aE (aE (aE (aE (aE (aE (aE (aE (aE (aE (aE (aE ?_))))))))))))))))))))))))))))))))
          refine aE (aE (aE (aE (aE (aE (aE (aE (bV (XF.thenN (bP (XF.blkR (XF.thenR (XF.res (cG results45 rfl) ?_)))))))))))))
          exact ⟨bI (by rw [hrk];unfold kS;dsimp only;rw [if_neg n1,if_neg (by omega),if_neg n3,if_pos h8,decide_eq_true hx0,decide_eq_true hy0,wB htl eq hq hu,decide_eq_true hfr];rfl),hS.below⟩
        ·have hc98:=of_decide_eq_false hc;clear hc
         have n8:¬ s.k=8:=hc98
         refine bQ (XF.blkN (XF.thenN (aR (aU (aK rfl rfl (aT (XF.thenN (bP (XF.res (cG results45 rfl) ?_)))))))))
         exact ⟨bI (by rw [hrk];unfold kS;dsimp only;rw [if_neg n1,if_neg (by omega),if_neg n3,if_neg n8]),hS.below⟩
 ·skip
  refine aR ?_
  rcases (yA hol s) with hf | ⟨hf,hg⟩ | ⟨hf,hg,kf,kt,y1,y2,ef,et,hkf,hkt,hy1,hy2,hne | ⟨hee,hkk,hk2⟩ | ⟨hee,hkk,hz,hk8⟩ | ⟨hee,hkk,hk2,hz,hk8⟩ | ⟨hee,hkk,hz⟩ | ⟨hee,hkk,hz,hk8⟩ | ⟨hee,hkk,hk2,hz⟩⟩
  ·skip
   refine fK (m:=47) bG hS (by kernel_rfl) (by kernel_rfl) rfl (bZ 1 rfl 3 rfl rfl (fun w hw=>aO (o':=0) cO rfl rfl) rfl (aZ 2 rfl 13 0 rfl rfl rfl (fun w hw=>aS isAgg3 rfl ((aJ hw 0).cell (Nat.zero_le _) (aI (hS.at_ 0 rfl) rfl))) rfl (bZ 3 rfl 5 rfl rfl (fun w hw=>aW rfl) rfl ?_)))
   refine aD 4 rfl (isV (.bool false)) (aB _) (cH [isV _,isV _] rfl cB (aP rfl) ⟨bO (aG 1 (aA rfl rfl rfl)),bO (aG 2 (aA rfl rfl rfl)),trivial⟩ (fun vs w' hb hh=>by have e:=bN (us:=[_,_]) hh;subst e;exact (eB s.f _ _).mono fun e w2 h=>⟨_,by rw [h.1,hf],rfl,h.2⟩) (aC rfl)) ?_
   refine aZ 5 rfl 16 3 rfl rfl rfl (fun w hw=>dM rfl) rfl (aZ 6 rfl 17 4 rfl rfl rfl (fun w hw=>aW rfl) rfl (aD 7 rfl (isV undef) (aB _) (aX rfl (aY 18 rfl (aA rfl rfl rfl) rfl) (aC rfl)) (aD 8 rfl (isV undef) (aB _) (aX rfl (aY 18 rfl (aA rfl rfl rfl) rfl) (aC rfl)) (aD 9 rfl (isV undef) (aB _) (aX rfl (aY 18 rfl (aA rfl rfl rfl) rfl) (aC rfl)) (aD 10 rfl (isV undef) (aB _) (aX rfl (aY 18 rfl (aA rfl rfl rfl) rfl) (aC rfl)) (aD 11 rfl (isV undef) (aB _) (aX rfl (aY 18 rfl (aA rfl rfl rfl) rfl) (aC rfl)) (aZ 12 rfl 18 5 rfl rfl rfl (fun w hw=>cI rfl rfl) rfl (aZ 13 rfl 24 11 rfl rfl rfl (fun w hw=>aW rfl) rfl (aD 14 rfl (isV undef) (aB _) (aX rfl (aY 25 rfl (aA rfl rfl rfl) rfl) (aC rfl)) (aD 15 rfl (isV undef) (aB _) (aX rfl (aY 25 rfl (aA rfl rfl rfl) rfl) (aC rfl)) (aD 16 rfl (isV undef) (aB _) (aX rfl (aY 25 rfl (aA rfl rfl rfl) rfl) (aC rfl)) (aD 17 rfl (isV undef) (aB _) (aX rfl (aY 25 rfl (aA rfl rfl rfl) rfl) (aC rfl)) (aD 18 rfl (isV undef) (aB _) (aX rfl (aY 25 rfl (aA rfl rfl rfl) rfl) (aC rfl)) (aD 19 rfl (isV undef) (aB _) (aX rfl (aY 25 rfl (aA rfl rfl rfl) rfl) (aC rfl)) (aD 20 rfl (isV undef) (aB _) (aX rfl (aY 25 rfl (aA rfl rfl rfl) rfl) (aC rfl)) (aD 21 rfl (isV undef) (aB _) (aX rfl (aY 25 rfl (aA rfl rfl rfl) rfl) (aC rfl)) (aD 22 rfl (isV undef) (aB _) (aX rfl (aY 25 rfl (aA rfl rfl rfl) rfl) (aC rfl)) (aD 23 rfl (isV undef) (aB _) (aX rfl (aY 25 rfl (aA rfl rfl rfl) rfl) (aC rfl)) (aD 24 rfl (isV undef) (aB _) (aX rfl (aY 25 rfl (aA rfl rfl rfl) rfl) (aC rfl)) (aD 25 rfl (isV undef) (aB _) (aX rfl (aY 25 rfl (aA rfl rfl rfl) rfl) (aC rfl)) (aD 26 rfl (isV undef) (aB _) (aX rfl (aY 25 rfl (aA rfl rfl rfl) rfl) (aC rfl)) (aZ 27 rfl 25 12 rfl rfl rfl (fun w hw=>cI rfl rfl) rfl (aZ 28 rfl 39 26 rfl rfl rfl (fun w hw=>aW rfl) rfl (aD 29 rfl (isV undef) (aB _) (aX rfl (aY 40 rfl (aA rfl rfl rfl) rfl) (aC rfl)) (aD 30 rfl (isV undef) (aB _) (aX rfl (aY 40 rfl (aA rfl rfl rfl) rfl) (aC rfl)) (aD 31 rfl (isV undef) (aB _) (aX rfl (aY 40 rfl (aA rfl rfl rfl) rfl) (aC rfl)) (aD 32 rfl (isV undef) (aB _) (aX rfl (aY 40 rfl (aA rfl rfl rfl) rfl) (aC rfl)) (aD 33 rfl (isV undef) (aB _) (aX rfl (gV 44 rfl (aA rfl rfl rfl)) (aC rfl)) (aD 34 rfl (isV undef) (aB _) (aX rfl (gV 44 rfl (aA rfl rfl rfl)) (aC rfl)) (aD 35 rfl (isV undef) (aB _) (aX rfl (gV 44 rfl (aA rfl rfl rfl)) (aC rfl)) (aD 36 rfl (isV undef) (aB _) (aX rfl (aY 40 rfl (aA rfl rfl rfl) rfl) (aC rfl)) (aZ 37 rfl 40 27 rfl rfl rfl (fun w hw=>cI rfl rfl) rfl ?_))))))))))))))))))))))))))))))))
   refine aZ 38 rfl 49 36 rfl rfl rfl (fun w hw=>aW rfl) rfl (aD 39 rfl (isV undef) (aB _) (aX rfl (aY 50 rfl (aA rfl rfl rfl) rfl) (aC rfl)) (aD 40 rfl (isV undef) (aB _) (aX rfl (aY 50 rfl (aA rfl rfl rfl) rfl) (aC rfl)) (aD 41 rfl (isV undef) (aB _) (aX rfl (aY 50 rfl (aA rfl rfl rfl) rfl) (aC rfl)) (aD 42 rfl (isV undef) (aB _) (aX rfl (aY 50 rfl (aA rfl rfl rfl) rfl) (aC rfl)) (aD 43 rfl (isV undef) (aB _) (aX rfl (gV 54 rfl (aA rfl rfl rfl)) (aC rfl)) (aD 44 rfl (isV undef) (aB _) (aX rfl (gV 54 rfl (aA rfl rfl rfl)) (aC rfl)) (aD 45 rfl (isV undef) (aB _) (aX rfl (gV 54 rfl (aA rfl rfl rfl)) (aC rfl)) (aD 46 rfl (isV undef) (aB _) (aX rfl (aY 50 rfl (aA rfl rfl rfl) rfl) (aC rfl)) (aZ 47 rfl 50 37 rfl rfl rfl (fun w hw=>cI rfl rfl) rfl (dF ?_))))))))))
   intro W15 hbR hS'
   clear hS;have hS:=hS';clear hS'
   refine aE (aE (aE (aE (aE (aE (aE (aE (aE (aE (aE (aE (aE (aE (aE (aE (aE (aE (aE (aE (aE (aE (aE (aE (aE (aE (aE (aE (aE (aE (aE (aE (aE ?_))))))))))))))))))))))))))))))))
   refine aE (aE (aE (aE (aE (aE (aE (aE (aE (aE (aE (aE (aE (aE (bV (XF.thenN (eA rfl (aR (aU (aK rfl rfl (aT (XF.thenN (bP (XF.thenR (XF.res (cG results45 rfl) ?_))))))))))))))))))))))))
   exact ⟨bI (by unfold jH;dsimp only;rw [if_pos hf]),hS.below⟩
  ·skip
   refine fK (m:=47) bG hS (by kernel_rfl) (by kernel_rfl) rfl (bZ 1 rfl 3 rfl rfl (fun w hw=>aO (o':=0) cO rfl rfl) rfl (aZ 2 rfl 13 0 rfl rfl rfl (fun w hw=>aS isAgg3 rfl ((aJ hw 0).cell (Nat.zero_le _) (aI (hS.at_ 0 rfl) rfl))) rfl (bZ 3 rfl 5 rfl rfl (fun w hw=>aW rfl) rfl ?_)))
   refine aD 4 rfl (isV (.bool true)) (aB _) (cH [isV _,isV _] rfl cB (aP rfl) ⟨bO (aG 1 (aA rfl rfl rfl)),bO (aG 2 (aA rfl rfl rfl)),trivial⟩ (fun vs w' hb hh=>by have e:=bN (us:=[_,_]) hh;subst e;exact (eB s.f _ _).mono fun e w2 h=>⟨_,by rw [h.1,hf],rfl,h.2⟩) (aC rfl)) ?_
   refine aZ 5 rfl 16 3 rfl rfl rfl (fun w hw=>dM rfl) rfl (aZ 6 rfl 17 4 rfl rfl rfl (fun w hw=>aW rfl) rfl (aD 7 rfl (isV _) (aB _) (rgV (li:=[(3,_)]) rfl (aN 18 rfl (aA rfl rfl rfl)) ⟨bB rfl,trivial⟩ (fun w hw=>aO (o':=1) cU rfl rfl) (aC rfl)) (aD 8 rfl (isV _) (aB _) (rgV (li:=[(19,_)]) rfl (aN 18 rfl (aA rfl rfl rfl)) ⟨aG 6 (aA rfl rfl rfl),trivial⟩ (fun w hw=>aS isAgg3 rfl ((aJ hw 0).cell (Nat.zero_le _) (aI (hS.at_ 0 rfl) rfl))) (aC rfl)) (aD 9 rfl (isV _) (aB _) (rgV (li:=[(5,_)]) rfl (aN 18 rfl (aA rfl rfl rfl)) ⟨bB rfl,trivial⟩ (fun w hw=>aW rfl) (aC rfl)) ?_))))
   refine aD 10 rfl (isV (.bool false)) (aB _) (cH [isV _,isV _] rfl cB (aN 18 rfl (aA rfl rfl rfl)) ⟨bO (aG 7 (aA rfl rfl rfl)),bO (aG 8 (aA rfl rfl rfl)),trivial⟩ (fun vs w' hb hh=>by have e:=bN (us:=[_,_]) hh;subst e;exact (eB s.t _ _).mono fun e w2 h=>⟨_,by rw [h.1,hg],rfl,h.2⟩) (aC rfl)) ?_
   refine aD 11 rfl (isV _) (aB _) (rgV (li:=[(22,_)]) rfl (aN 18 rfl (aA rfl rfl rfl)) ⟨aG 9 (aA rfl rfl rfl),trivial⟩ (fun w hw=>dM rfl) (aC rfl)) (aD 12 rfl (isV _) (aB _) (rgV (li:=[(18,_),(23,_)]) rfl (aP rfl) ⟨aG 5 (aA rfl rfl rfl),aG 10 (aA rfl rfl rfl),trivial⟩ (fun w hw=>bX rfl rfl) (aC rfl)) (aZ 13 rfl 24 11 rfl rfl rfl (fun w hw=>aW rfl) rfl (aD 14 rfl (isV undef) (aB _) (aX rfl (aY 25 rfl (aA rfl rfl rfl) rfl) (aC rfl)) (aD 15 rfl (isV undef) (aB _) (aX rfl (aY 25 rfl (aA rfl rfl rfl) rfl) (aC rfl)) (aD 16 rfl (isV undef) (aB _) (aX rfl (aY 25 rfl (aA rfl rfl rfl) rfl) (aC rfl)) (aD 17 rfl (isV undef) (aB _) (aX rfl (aY 25 rfl (aA rfl rfl rfl) rfl) (aC rfl)) (aD 18 rfl (isV undef) (aB _) (aX rfl (aY 25 rfl (aA rfl rfl rfl) rfl) (aC rfl)) (aD 19 rfl (isV undef) (aB _) (aX rfl (aY 25 rfl (aA rfl rfl rfl) rfl) (aC rfl)) (aD 20 rfl (isV undef) (aB _) (aX rfl (aY 25 rfl (aA rfl rfl rfl) rfl) (aC rfl)) (aD 21 rfl (isV undef) (aB _) (aX rfl (aY 25 rfl (aA rfl rfl rfl) rfl) (aC rfl)) (aD 22 rfl (isV undef) (aB _) (aX rfl (aY 25 rfl (aA rfl rfl rfl) rfl) (aC rfl)) (aD 23 rfl (isV undef) (aB _) (aX rfl (aY 25 rfl (aA rfl rfl rfl) rfl) (aC rfl)) (aD 24 rfl (isV undef) (aB _) (aX rfl (aY 25 rfl (aA rfl rfl rfl) rfl) (aC rfl)) (aD 25 rfl (isV undef) (aB _) (aX rfl (aY 25 rfl (aA rfl rfl rfl) rfl) (aC rfl)) (aD 26 rfl (isV undef) (aB _) (aX rfl (aY 25 rfl (aA rfl rfl rfl) rfl) (aC rfl)) (aZ 27 rfl 25 12 rfl rfl rfl (fun w hw=>cI rfl rfl) rfl (aZ 28 rfl 39 26 rfl rfl rfl (fun w hw=>aW rfl) rfl (aD 29 rfl (isV undef) (aB _) (aX rfl (aY 40 rfl (aA rfl rfl rfl) rfl) (aC rfl)) (aD 30 rfl (isV undef) (aB _) (aX rfl (aY 40 rfl (aA rfl rfl rfl) rfl) (aC rfl)) (aD 31 rfl (isV undef) (aB _) (aX rfl (aY 40 rfl (aA rfl rfl rfl) rfl) (aC rfl)) (aD 32 rfl (isV undef) (aB _) (aX rfl (aY 40 rfl (aA rfl rfl rfl) rfl) (aC rfl)) (aD 33 rfl (isV undef) (aB _) (aX rfl (gV 44 rfl (aA rfl rfl rfl)) (aC rfl)) (aD 34 rfl (isV undef) (aB _) (aX rfl (gV 44 rfl (aA rfl rfl rfl)) (aC rfl)) (aD 35 rfl (isV undef) (aB _) (aX rfl (gV 44 rfl (aA rfl rfl rfl)) (aC rfl)) (aD 36 rfl (isV undef) (aB _) (aX rfl (aY 40 rfl (aA rfl rfl rfl) rfl) (aC rfl)) (aZ 37 rfl 40 27 rfl rfl rfl (fun w hw=>cI rfl rfl) rfl (aZ 38 rfl 49 36 rfl rfl rfl (fun w hw=>aW rfl) rfl (aD 39 rfl (isV undef) (aB _) (aX rfl (aY 50 rfl (aA rfl rfl rfl) rfl) (aC rfl)) (aD 40 rfl (isV undef) (aB _) (aX rfl (aY 50 rfl (aA rfl rfl rfl) rfl) (aC rfl)) (aD 41 rfl (isV undef) (aB _) (aX rfl (aY 50 rfl (aA rfl rfl rfl) rfl) (aC rfl)) (aD 42 rfl (isV undef) (aB _) (aX rfl (aY 50 rfl (aA rfl rfl rfl) rfl) (aC rfl)) (aD 43 rfl (isV undef) (aB _) (aX rfl (gV 54 rfl (aA rfl rfl rfl)) (aC rfl)) ?_))))))))))))))))))))))))))))))))
   refine aD 44 rfl (isV undef) (aB _) (aX rfl (gV 54 rfl (aA rfl rfl rfl)) (aC rfl)) (aD 45 rfl (isV undef) (aB _) (aX rfl (gV 54 rfl (aA rfl rfl rfl)) (aC rfl)) (aD 46 rfl (isV undef) (aB _) (aX rfl (aY 50 rfl (aA rfl rfl rfl) rfl) (aC rfl)) (aZ 47 rfl 50 37 rfl rfl rfl (fun w hw=>cI rfl rfl) rfl (dF ?_))))
   intro W16 hbR hS'
   clear hS;have hS:=hS';clear hS'
   refine aE (aE (aE (aE (aE (aE (aE (aE (aE (aE (aE (aE (aE (aE (aE (aE (aE (aE (aE (aE (aE (aE (aE (aE (aE (aE (aE (aE (aE (aE (aE (aE (aE ?_))))))))))))))))))))))))))))))))
   refine aE (aE (aE (aE (aE (aE (aE (aE (aE (aE (aE (aE (aE (aE (bV (XF.thenN (eA rfl (aR (aU (aK rfl rfl (aT (XF.thenN (bP (XF.thenR (XF.res (cG results45 rfl) ?_))))))))))))))))))))))))
   exact ⟨bI (by unfold jH;dsimp only;rw [if_neg (by rw [hf];simp),if_pos hg]),hS.below⟩
  ·have hoe:=kN hy1 hy2
   rw [← ef,← et] at hoe
   obtain ⟨ob,oo,z1,rfl,hz1,hzc1⟩:=ho.get (i:=kf) (by omega)
   obtain ⟨ob2,oo2,z2,e2,hz2,hzc2⟩:=ho.get (i:=kt) (by omega)
   cases e2
   obtain rfl:y1=z1:=Option.some.inj (hy1.symm.trans hz1)
   obtain rfl:y2=z2:=Option.some.inj (hy2.symm.trans hz2)
   have k3:=(aM.agree hS.agree (Nat.zero_le _) hzc1).1
   have k4:=(aM.agree hS.agree (Nat.zero_le _) hzc2).1
   refine fK (m:=47) bG hS (by kernel_rfl) (by kernel_rfl) rfl (bZ 1 rfl 3 rfl rfl (fun w hw=>aO (o':=0) cO rfl rfl) rfl (aZ 2 rfl 13 0 rfl rfl rfl (fun w hw=>aS isAgg3 rfl ((aJ hw 0).cell (Nat.zero_le _) (aI (hS.at_ 0 rfl) rfl))) rfl (bZ 3 rfl 5 rfl rfl (fun w hw=>aW rfl) rfl ?_)))
   refine aD 4 rfl (isV (.bool true)) (aB _) (cH [isV _,isV _] rfl cB (aP rfl) ⟨bO (aG 1 (aA rfl rfl rfl)),bO (aG 2 (aA rfl rfl rfl)),trivial⟩ (fun vs w' hb hh=>by have e:=bN (us:=[_,_]) hh;subst e;exact (eB s.f _ _).mono fun e w2 h=>⟨_,by rw [h.1,hf],rfl,h.2⟩) (aC rfl)) ?_
   refine aZ 5 rfl 16 3 rfl rfl rfl (fun w hw=>dM rfl) rfl (aZ 6 rfl 17 4 rfl rfl rfl (fun w hw=>aW rfl) rfl (aD 7 rfl (isV _) (aB _) (rgV (li:=[(3,_)]) rfl (aN 18 rfl (aA rfl rfl rfl)) ⟨bB rfl,trivial⟩ (fun w hw=>aO (o':=1) cU rfl rfl) (aC rfl)) (aD 8 rfl (isV _) (aB _) (rgV (li:=[(19,_)]) rfl (aN 18 rfl (aA rfl rfl rfl)) ⟨aG 6 (aA rfl rfl rfl),trivial⟩ (fun w hw=>aS isAgg3 rfl ((aJ hw 0).cell (Nat.zero_le _) (aI (hS.at_ 0 rfl) rfl))) (aC rfl)) (aD 9 rfl (isV _) (aB _) (rgV (li:=[(5,_)]) rfl (aN 18 rfl (aA rfl rfl rfl)) ⟨bB rfl,trivial⟩ (fun w hw=>aW rfl) (aC rfl)) ?_))))
   refine aD 10 rfl (isV (.bool true)) (aB _) (cH [isV _,isV _] rfl cB (aN 18 rfl (aA rfl rfl rfl)) ⟨bO (aG 7 (aA rfl rfl rfl)),bO (aG 8 (aA rfl rfl rfl)),trivial⟩ (fun vs w' hb hh=>by have e:=bN (us:=[_,_]) hh;subst e;exact (eB s.t _ _).mono fun e w2 h=>⟨_,by rw [h.1,hg],rfl,h.2⟩) (aC rfl)) ?_
   refine aD 11 rfl (isV _) (aB _) (rgV (li:=[(22,_)]) rfl (aN 18 rfl (aA rfl rfl rfl)) ⟨aG 9 (aA rfl rfl rfl),trivial⟩ (fun w hw=>dM rfl) (aC rfl)) (aD 12 rfl (isV _) (aB _) (rgV (li:=[(18,_),(23,_)]) rfl (aP rfl) ⟨aG 5 (aA rfl rfl rfl),aG 10 (aA rfl rfl rfl),trivial⟩ (fun w hw=>bX rfl rfl) (aC rfl)) (aZ 13 rfl 24 11 rfl rfl rfl (fun w hw=>aW rfl) rfl (aD 14 rfl (isV _) (aB _) (rgV (li:=[(2,_)]) rfl (aN 25 rfl (aA rfl rfl rfl)) ⟨bB rfl,trivial⟩ (fun w hw=>aO (o':=5) cA rfl rfl) (aC rfl)) (aD 15 rfl (isV _) (aB _) (rgV (li:=[(26,_)]) rfl (aN 25 rfl (aA rfl rfl rfl)) ⟨aG 13 (aA rfl rfl rfl),trivial⟩ (fun w hw=>aS isAgg23 rfl ((aJ hw 0).cell (Nat.zero_le _) (aI (hS.at_ 1 rfl) rfl))) (aC rfl)) (aD 16 rfl (isV _) (aB _) (rgV (li:=[(3,_)]) rfl (aN 25 rfl (aA rfl rfl rfl)) ⟨bB rfl,trivial⟩ (fun w hw=>aO (o':=0) cO rfl rfl) (aC rfl)) (aD 17 rfl (isV _) (aB _) (rgV (li:=[(28,_)]) rfl (aN 25 rfl (aA rfl rfl rfl)) ⟨aG 15 (aA rfl rfl rfl),trivial⟩ (fun w hw=>aS isAgg3 rfl ((aJ hw 0).cell (Nat.zero_le _) (aI (hS.at_ 0 rfl) rfl))) (aC rfl)) (aD 18 rfl (isV _) (aB _) (rgV (li:=[(27,_),(29,_)]) rfl (aN 25 rfl (aA rfl rfl rfl)) ⟨aG 14 (aA rfl rfl rfl),aG 16 (aA rfl rfl rfl),trivial⟩ (fun w hw=>bH (j:=kf) underlying23 sizeOf3 rfl rfl (by omega) (by omega) rfl) (aC rfl)) (aD 19 rfl (isV _) (aB _) (rgV (li:=[(30,_)]) rfl (aN 25 rfl (aA rfl rfl rfl)) ⟨aG 17 (aA rfl rfl rfl),trivial⟩ (fun w hw=>aS isAgg3 rfl ((aJ hw 0).cell (Nat.zero_le _) (k3))) (aC rfl)) (aD 20 rfl (isV _) (aB _) (rgV (li:=[(2,_)]) rfl (aN 25 rfl (aA rfl rfl rfl)) ⟨bB rfl,trivial⟩ (fun w hw=>aO (o':=5) cA rfl rfl) (aC rfl)) (aD 21 rfl (isV _) (aB _) (rgV (li:=[(32,_)]) rfl (aN 25 rfl (aA rfl rfl rfl)) ⟨aG 19 (aA rfl rfl rfl),trivial⟩ (fun w hw=>aS isAgg23 rfl ((aJ hw 0).cell (Nat.zero_le _) (aI (hS.at_ 1 rfl) rfl))) (aC rfl)) (aD 22 rfl (isV _) (aB _) (rgV (li:=[(3,_)]) rfl (aN 25 rfl (aA rfl rfl rfl)) ⟨bB rfl,trivial⟩ (fun w hw=>aO (o':=1) cU rfl rfl) (aC rfl)) (aD 23 rfl (isV _) (aB _) (rgV (li:=[(34,_)]) rfl (aN 25 rfl (aA rfl rfl rfl)) ⟨aG 21 (aA rfl rfl rfl),trivial⟩ (fun w hw=>aS isAgg3 rfl ((aJ hw 0).cell (Nat.zero_le _) (aI (hS.at_ 0 rfl) rfl))) (aC rfl)) (aD 24 rfl (isV _) (aB _) (rgV (li:=[(33,_),(35,_)]) rfl (aN 25 rfl (aA rfl rfl rfl)) ⟨aG 20 (aA rfl rfl rfl),aG 22 (aA rfl rfl rfl),trivial⟩ (fun w hw=>bH (j:=kt) underlying23 sizeOf3 rfl rfl (by omega) (by omega) rfl) (aC rfl)) (aD 25 rfl (isV _) (aB _) (rgV (li:=[(36,_)]) rfl (aN 25 rfl (aA rfl rfl rfl)) ⟨aG 23 (aA rfl rfl rfl),trivial⟩ (fun w hw=>aS isAgg3 rfl ((aJ hw 0).cell (Nat.zero_le _) (k4))) (aC rfl)) (aD 26 rfl (isV (.bool true)) (aB _) (fD (li:=[(31,_),(37,_)]) rfl (aN 25 rfl (aA rfl rfl rfl)) ⟨aG 18 (aA rfl rfl rfl),aG 24 (aA rfl rfl rfl),trivial⟩ (fun w hw=>dX rfl rfl) (by rw [decide_eq_true hne]) (aC rfl)) (aD 27 rfl (isV _) (aB _) (rgV (li:=[(25,_),(38,_)]) rfl (aP rfl) ⟨aG 12 (aA rfl rfl rfl),aG 25 (aA rfl rfl rfl),trivial⟩ (fun w hw=>bX rfl rfl) (aC rfl)) (aZ 28 rfl 39 26 rfl rfl rfl (fun w hw=>aW rfl) rfl (aD 29 rfl (isV undef) (aB _) (aX rfl (aY 40 rfl (aA rfl rfl rfl) rfl) (aC rfl)) (aD 30 rfl (isV undef) (aB _) (aX rfl (aY 40 rfl (aA rfl rfl rfl) rfl) (aC rfl)) (aD 31 rfl (isV undef) (aB _) (aX rfl (aY 40 rfl (aA rfl rfl rfl) rfl) (aC rfl)) (aD 32 rfl (isV undef) (aB _) (aX rfl (aY 40 rfl (aA rfl rfl rfl) rfl) (aC rfl)) (aD 33 rfl (isV undef) (aB _) (aX rfl (gV 44 rfl (aA rfl rfl rfl)) (aC rfl)) (aD 34 rfl (isV undef) (aB _) (aX rfl (gV 44 rfl (aA rfl rfl rfl)) (aC rfl)) (aD 35 rfl (isV undef) (aB _) (aX rfl (gV 44 rfl (aA rfl rfl rfl)) (aC rfl)) (aD 36 rfl (isV undef) (aB _) (aX rfl (aY 40 rfl (aA rfl rfl rfl) rfl) (aC rfl)) (aZ 37 rfl 40 27 rfl rfl rfl (fun w hw=>cI rfl rfl) rfl (aZ 38 rfl 49 36 rfl rfl rfl (fun w hw=>aW rfl) rfl (aD 39 rfl (isV undef) (aB _) (aX rfl (aY 50 rfl (aA rfl rfl rfl) rfl) (aC rfl)) (aD 40 rfl (isV undef) (aB _) (aX rfl (aY 50 rfl (aA rfl rfl rfl) rfl) (aC rfl)) (aD 41 rfl (isV undef) (aB _) (aX rfl (aY 50 rfl (aA rfl rfl rfl) rfl) (aC rfl)) (aD 42 rfl (isV undef) (aB _) (aX rfl (aY 50 rfl (aA rfl rfl rfl) rfl) (aC rfl)) (aD 43 rfl (isV undef) (aB _) (aX rfl (gV 54 rfl (aA rfl rfl rfl)) (aC rfl)) ?_))))))))))))))))))))))))))))))))
   refine aD 44 rfl (isV undef) (aB _) (aX rfl (gV 54 rfl (aA rfl rfl rfl)) (aC rfl)) (aD 45 rfl (isV undef) (aB _) (aX rfl (gV 54 rfl (aA rfl rfl rfl)) (aC rfl)) (aD 46 rfl (isV undef) (aB _) (aX rfl (aY 50 rfl (aA rfl rfl rfl) rfl) (aC rfl)) (aZ 47 rfl 50 37 rfl rfl rfl (fun w hw=>cI rfl rfl) rfl (dF ?_))))
   intro W17 hbR hS'
   clear hS;have hS:=hS';clear hS'
   refine aE (aE (aE (aE (aE (aE (aE (aE (aE (aE (aE (aE (aE (aE (aE (aE (aE (aE (aE (aE (aE (aE (aE (aE (aE (aE (aE (aE (aE (aE (aE (aE (aE ?_))))))))))))))))))))))))))))))))
   refine aE (aE (aE (aE (aE (aE (aE (aE (aE (aE (aE (aE (aE (aE (bV (XF.thenN (eA rfl (aR (aU (aK rfl rfl (aT (XF.thenN (bP (XF.thenR (XF.res (cG results45 rfl) ?_))))))))))))))))))))))))
   exact ⟨bI (by unfold jH;dsimp only;rw [if_neg (by rw [hf];simp),if_neg (by rw [hg];simp),if_pos (by rw [hoe];exact decide_eq_false hne)]),hS.below⟩
  ·have hoe:=kN hy1 hy2
   rw [← ef,← et] at hoe
   obtain ⟨ob,oo,z1,rfl,hz1,hzc1⟩:=ho.get (i:=kf) (by omega)
   obtain ⟨ob2,oo2,z2,e2,hz2,hzc2⟩:=ho.get (i:=kt) (by omega)
   cases e2
   obtain rfl:y1=z1:=Option.some.inj (hy1.symm.trans hz1)
   obtain rfl:y2=z2:=Option.some.inj (hy2.symm.trans hz2)
   have k3:=(aM.agree hS.agree (Nat.zero_le _) hzc1).1
   have k4:=(aM.agree hS.agree (Nat.zero_le _) hzc2).1
   refine fK (m:=47) bG hS (by kernel_rfl) (by kernel_rfl) rfl (bZ 1 rfl 3 rfl rfl (fun w hw=>aO (o':=0) cO rfl rfl) rfl (aZ 2 rfl 13 0 rfl rfl rfl (fun w hw=>aS isAgg3 rfl ((aJ hw 0).cell (Nat.zero_le _) (aI (hS.at_ 0 rfl) rfl))) rfl (bZ 3 rfl 5 rfl rfl (fun w hw=>aW rfl) rfl ?_)))
   refine aD 4 rfl (isV (.bool true)) (aB _) (cH [isV _,isV _] rfl cB (aP rfl) ⟨bO (aG 1 (aA rfl rfl rfl)),bO (aG 2 (aA rfl rfl rfl)),trivial⟩ (fun vs w' hb hh=>by have e:=bN (us:=[_,_]) hh;subst e;exact (eB s.f _ _).mono fun e w2 h=>⟨_,by rw [h.1,hf],rfl,h.2⟩) (aC rfl)) ?_
   refine aZ 5 rfl 16 3 rfl rfl rfl (fun w hw=>dM rfl) rfl (aZ 6 rfl 17 4 rfl rfl rfl (fun w hw=>aW rfl) rfl (aD 7 rfl (isV _) (aB _) (rgV (li:=[(3,_)]) rfl (aN 18 rfl (aA rfl rfl rfl)) ⟨bB rfl,trivial⟩ (fun w hw=>aO (o':=1) cU rfl rfl) (aC rfl)) (aD 8 rfl (isV _) (aB _) (rgV (li:=[(19,_)]) rfl (aN 18 rfl (aA rfl rfl rfl)) ⟨aG 6 (aA rfl rfl rfl),trivial⟩ (fun w hw=>aS isAgg3 rfl ((aJ hw 0).cell (Nat.zero_le _) (aI (hS.at_ 0 rfl) rfl))) (aC rfl)) (aD 9 rfl (isV _) (aB _) (rgV (li:=[(5,_)]) rfl (aN 18 rfl (aA rfl rfl rfl)) ⟨bB rfl,trivial⟩ (fun w hw=>aW rfl) (aC rfl)) ?_))))
   refine aD 10 rfl (isV (.bool true)) (aB _) (cH [isV _,isV _] rfl cB (aN 18 rfl (aA rfl rfl rfl)) ⟨bO (aG 7 (aA rfl rfl rfl)),bO (aG 8 (aA rfl rfl rfl)),trivial⟩ (fun vs w' hb hh=>by have e:=bN (us:=[_,_]) hh;subst e;exact (eB s.t _ _).mono fun e w2 h=>⟨_,by rw [h.1,hg],rfl,h.2⟩) (aC rfl)) ?_
   refine aD 11 rfl (isV _) (aB _) (rgV (li:=[(22,_)]) rfl (aN 18 rfl (aA rfl rfl rfl)) ⟨aG 9 (aA rfl rfl rfl),trivial⟩ (fun w hw=>dM rfl) (aC rfl)) (aD 12 rfl (isV _) (aB _) (rgV (li:=[(18,_),(23,_)]) rfl (aP rfl) ⟨aG 5 (aA rfl rfl rfl),aG 10 (aA rfl rfl rfl),trivial⟩ (fun w hw=>bX rfl rfl) (aC rfl)) (aZ 13 rfl 24 11 rfl rfl rfl (fun w hw=>aW rfl) rfl (aD 14 rfl (isV _) (aB _) (rgV (li:=[(2,_)]) rfl (aN 25 rfl (aA rfl rfl rfl)) ⟨bB rfl,trivial⟩ (fun w hw=>aO (o':=5) cA rfl rfl) (aC rfl)) (aD 15 rfl (isV _) (aB _) (rgV (li:=[(26,_)]) rfl (aN 25 rfl (aA rfl rfl rfl)) ⟨aG 13 (aA rfl rfl rfl),trivial⟩ (fun w hw=>aS isAgg23 rfl ((aJ hw 0).cell (Nat.zero_le _) (aI (hS.at_ 1 rfl) rfl))) (aC rfl)) (aD 16 rfl (isV _) (aB _) (rgV (li:=[(3,_)]) rfl (aN 25 rfl (aA rfl rfl rfl)) ⟨bB rfl,trivial⟩ (fun w hw=>aO (o':=0) cO rfl rfl) (aC rfl)) (aD 17 rfl (isV _) (aB _) (rgV (li:=[(28,_)]) rfl (aN 25 rfl (aA rfl rfl rfl)) ⟨aG 15 (aA rfl rfl rfl),trivial⟩ (fun w hw=>aS isAgg3 rfl ((aJ hw 0).cell (Nat.zero_le _) (aI (hS.at_ 0 rfl) rfl))) (aC rfl)) (aD 18 rfl (isV _) (aB _) (rgV (li:=[(27,_),(29,_)]) rfl (aN 25 rfl (aA rfl rfl rfl)) ⟨aG 14 (aA rfl rfl rfl),aG 16 (aA rfl rfl rfl),trivial⟩ (fun w hw=>bH (j:=kf) underlying23 sizeOf3 rfl rfl (by omega) (by omega) rfl) (aC rfl)) (aD 19 rfl (isV _) (aB _) (rgV (li:=[(30,_)]) rfl (aN 25 rfl (aA rfl rfl rfl)) ⟨aG 17 (aA rfl rfl rfl),trivial⟩ (fun w hw=>aS isAgg3 rfl ((aJ hw 0).cell (Nat.zero_le _) (k3))) (aC rfl)) (aD 20 rfl (isV _) (aB _) (rgV (li:=[(2,_)]) rfl (aN 25 rfl (aA rfl rfl rfl)) ⟨bB rfl,trivial⟩ (fun w hw=>aO (o':=5) cA rfl rfl) (aC rfl)) (aD 21 rfl (isV _) (aB _) (rgV (li:=[(32,_)]) rfl (aN 25 rfl (aA rfl rfl rfl)) ⟨aG 19 (aA rfl rfl rfl),trivial⟩ (fun w hw=>aS isAgg23 rfl ((aJ hw 0).cell (Nat.zero_le _) (aI (hS.at_ 1 rfl) rfl))) (aC rfl)) (aD 22 rfl (isV _) (aB _) (rgV (li:=[(3,_)]) rfl (aN 25 rfl (aA rfl rfl rfl)) ⟨bB rfl,trivial⟩ (fun w hw=>aO (o':=1) cU rfl rfl) (aC rfl)) (aD 23 rfl (isV _) (aB _) (rgV (li:=[(34,_)]) rfl (aN 25 rfl (aA rfl rfl rfl)) ⟨aG 21 (aA rfl rfl rfl),trivial⟩ (fun w hw=>aS isAgg3 rfl ((aJ hw 0).cell (Nat.zero_le _) (aI (hS.at_ 0 rfl) rfl))) (aC rfl)) (aD 24 rfl (isV _) (aB _) (rgV (li:=[(33,_),(35,_)]) rfl (aN 25 rfl (aA rfl rfl rfl)) ⟨aG 20 (aA rfl rfl rfl),aG 22 (aA rfl rfl rfl),trivial⟩ (fun w hw=>bH (j:=kt) underlying23 sizeOf3 rfl rfl (by omega) (by omega) rfl) (aC rfl)) (aD 25 rfl (isV _) (aB _) (rgV (li:=[(36,_)]) rfl (aN 25 rfl (aA rfl rfl rfl)) ⟨aG 23 (aA rfl rfl rfl),trivial⟩ (fun w hw=>aS isAgg3 rfl ((aJ hw 0).cell (Nat.zero_le _) (k4))) (aC rfl)) (aD 26 rfl (isV (.bool false)) (aB _) (fD (li:=[(31,_),(37,_)]) rfl (aN 25 rfl (aA rfl rfl rfl)) ⟨aG 18 (aA rfl rfl rfl),aG 24 (aA rfl rfl rfl),trivial⟩ (fun w hw=>dX rfl rfl) (by rw [decide_eq_false (not_not_intro hee)]) (aC rfl)) (aD 27 rfl (isV _) (aB _) (rgV (li:=[(25,_),(38,_)]) rfl (aP rfl) ⟨aG 12 (aA rfl rfl rfl),aG 25 (aA rfl rfl rfl),trivial⟩ (fun w hw=>bX rfl rfl) (aC rfl)) (aZ 28 rfl 39 26 rfl rfl rfl (fun w hw=>aW rfl) rfl (aD 29 rfl (isV _) (aB _) (rgV (li:=[(3,_)]) rfl (aN 40 rfl (aA rfl rfl rfl)) ⟨bB rfl,trivial⟩ (fun w hw=>aO (o':=5) fU rfl rfl) (aC rfl)) (aD 30 rfl (isV _) (aB _) (rgV (li:=[(41,_)]) rfl (aN 40 rfl (aA rfl rfl rfl)) ⟨aG 28 (aA rfl rfl rfl),trivial⟩ (fun w hw=>aS isAgg2 rfl ((aJ hw 0).cell (Nat.zero_le _) (aI (hS.at_ 0 rfl) rfl))) (aC rfl)) (aD 31 rfl (isV (.bool true)) (aB _) (fD (li:=[(42,_)]) rfl (aN 40 rfl (aA rfl rfl rfl)) ⟨aG 29 (aA rfl rfl rfl),trivial⟩ (fun w hw=>dX rfl rfl) (by rw [decide_eq_true hkk]) (aC rfl)) (aD 32 rfl (isV _) (aB _) (rgV (li:=[(43,_)]) rfl (aN 40 rfl (aA rfl rfl rfl)) ⟨aG 30 (aA rfl rfl rfl),trivial⟩ (fun w hw=>aW rfl) (aC rfl)) (aD 33 rfl (isV _) (aB _) (rgV (li:=[(3,_)]) rfl (aN 44 rfl (aA rfl rfl rfl)) ⟨bB rfl,trivial⟩ (fun w hw=>aO (o':=2) dQ rfl rfl) (aC rfl)) (aD 34 rfl (isV _) (aB _) (rgV (li:=[(45,_)]) rfl (aN 44 rfl (aA rfl rfl rfl)) ⟨aG 32 (aA rfl rfl rfl),trivial⟩ (fun w hw=>aS isAgg77 rfl ((aJ hw 0).cell (Nat.zero_le _) (aI (hS.at_ 0 rfl) rfl))) (aC rfl)) (aD 35 rfl (isV (.bool true)) (aB _) (fD (li:=[(46,_)]) rfl (aN 44 rfl (aA rfl rfl rfl)) ⟨aG 33 (aA rfl rfl rfl),trivial⟩ (fun w hw=>dX rfl rfl) (by rw [decide_eq_true hk2]) (aC rfl)) (aD 36 rfl (isV _) (aB _) (rgV (li:=[(44,_),(47,_)]) rfl (aN 40 rfl (aA rfl rfl rfl)) ⟨aG 31 (aA rfl rfl rfl),aG 34 (aA rfl rfl rfl),trivial⟩ (fun w hw=>cI rfl rfl) (aC rfl)) (aD 37 rfl (isV _) (aB _) (rgV (li:=[(40,_),(48,_)]) rfl (aP rfl) ⟨aG 27 (aA rfl rfl rfl),aG 35 (aA rfl rfl rfl),trivial⟩ (fun w hw=>bX rfl rfl) (aC rfl)) (aZ 38 rfl 49 36 rfl rfl rfl (fun w hw=>aW rfl) rfl (aD 39 rfl (isV undef) (aB _) (aX rfl (aY 50 rfl (aA rfl rfl rfl) rfl) (aC rfl)) (aD 40 rfl (isV undef) (aB _) (aX rfl (aY 50 rfl (aA rfl rfl rfl) rfl) (aC rfl)) (aD 41 rfl (isV undef) (aB _) (aX rfl (aY 50 rfl (aA rfl rfl rfl) rfl) (aC rfl)) (aD 42 rfl (isV undef) (aB _) (aX rfl (aY 50 rfl (aA rfl rfl rfl) rfl) (aC rfl)) (aD 43 rfl (isV undef) (aB _) (aX rfl (gV 54 rfl (aA rfl rfl rfl)) (aC rfl)) ?_))))))))))))))))))))))))))))))))
   refine aD 44 rfl (isV undef) (aB _) (aX rfl (gV 54 rfl (aA rfl rfl rfl)) (aC rfl)) (aD 45 rfl (isV undef) (aB _) (aX rfl (gV 54 rfl (aA rfl rfl rfl)) (aC rfl)) (aD 46 rfl (isV undef) (aB _) (aX rfl (aY 50 rfl (aA rfl rfl rfl) rfl) (aC rfl)) (aZ 47 rfl 50 37 rfl rfl rfl (fun w hw=>cI rfl rfl) rfl (dF ?_))))
   intro W18 hbR hS'
   clear hS;have hS:=hS';clear hS'
   refine aE (aE (aE (aE (aE (aE (aE (aE (aE (aE (aE (aE (aE (aE (aE (aE (aE (aE (aE (aE (aE (aE (aE (aE (aE (aE (aE (aE (aE (aE (aE (aE (aE ?_))))))))))))))))))))))))))))))))
   refine aE (aE (aE (aE (aE (aE (aE (aE (aE (aE (aE (aE (aE (aE (bV (XF.thenN (eA rfl (aR (aU (aK rfl rfl (aT (XF.thenN (bP (XF.thenR (XF.res (cG results45 rfl) ?_))))))))))))))))))))))))
   exact ⟨bI (by unfold jH;dsimp only;rw [if_neg (by rw [hf];simp),if_neg (by rw [hg];simp),if_neg (by rw [hoe,hee];simp),if_pos ⟨hkk,hk2⟩]),hS.below⟩
  ·have hoe:=kN hy1 hy2
   rw [← ef,← et] at hoe
   obtain ⟨ob,oo,z1,rfl,hz1,hzc1⟩:=ho.get (i:=kf) (by omega)
   obtain ⟨ob2,oo2,z2,e2,hz2,hzc2⟩:=ho.get (i:=kt) (by omega)
   cases e2
   obtain rfl:y1=z1:=Option.some.inj (hy1.symm.trans hz1)
   obtain rfl:y2=z2:=Option.some.inj (hy2.symm.trans hz2)
   have k3:=(aM.agree hS.agree (Nat.zero_le _) hzc1).1
   have k4:=(aM.agree hS.agree (Nat.zero_le _) hzc2).1
   refine fK (m:=47) bG hS (by kernel_rfl) (by kernel_rfl) rfl (bZ 1 rfl 3 rfl rfl (fun w hw=>aO (o':=0) cO rfl rfl) rfl (aZ 2 rfl 13 0 rfl rfl rfl (fun w hw=>aS isAgg3 rfl ((aJ hw 0).cell (Nat.zero_le _) (aI (hS.at_ 0 rfl) rfl))) rfl (bZ 3 rfl 5 rfl rfl (fun w hw=>aW rfl) rfl ?_)))
   refine aD 4 rfl (isV (.bool true)) (aB _) (cH [isV _,isV _] rfl cB (aP rfl) ⟨bO (aG 1 (aA rfl rfl rfl)),bO (aG 2 (aA rfl rfl rfl)),trivial⟩ (fun vs w' hb hh=>by have e:=bN (us:=[_,_]) hh;subst e;exact (eB s.f _ _).mono fun e w2 h=>⟨_,by rw [h.1,hf],rfl,h.2⟩) (aC rfl)) ?_
   refine aZ 5 rfl 16 3 rfl rfl rfl (fun w hw=>dM rfl) rfl (aZ 6 rfl 17 4 rfl rfl rfl (fun w hw=>aW rfl) rfl (aD 7 rfl (isV _) (aB _) (rgV (li:=[(3,_)]) rfl (aN 18 rfl (aA rfl rfl rfl)) ⟨bB rfl,trivial⟩ (fun w hw=>aO (o':=1) cU rfl rfl) (aC rfl)) (aD 8 rfl (isV _) (aB _) (rgV (li:=[(19,_)]) rfl (aN 18 rfl (aA rfl rfl rfl)) ⟨aG 6 (aA rfl rfl rfl),trivial⟩ (fun w hw=>aS isAgg3 rfl ((aJ hw 0).cell (Nat.zero_le _) (aI (hS.at_ 0 rfl) rfl))) (aC rfl)) (aD 9 rfl (isV _) (aB _) (rgV (li:=[(5,_)]) rfl (aN 18 rfl (aA rfl rfl rfl)) ⟨bB rfl,trivial⟩ (fun w hw=>aW rfl) (aC rfl)) ?_))))
   refine aD 10 rfl (isV (.bool true)) (aB _) (cH [isV _,isV _] rfl cB (aN 18 rfl (aA rfl rfl rfl)) ⟨bO (aG 7 (aA rfl rfl rfl)),bO (aG 8 (aA rfl rfl rfl)),trivial⟩ (fun vs w' hb hh=>by have e:=bN (us:=[_,_]) hh;subst e;exact (eB s.t _ _).mono fun e w2 h=>⟨_,by rw [h.1,hg],rfl,h.2⟩) (aC rfl)) ?_
   refine aD 11 rfl (isV _) (aB _) (rgV (li:=[(22,_)]) rfl (aN 18 rfl (aA rfl rfl rfl)) ⟨aG 9 (aA rfl rfl rfl),trivial⟩ (fun w hw=>dM rfl) (aC rfl)) (aD 12 rfl (isV _) (aB _) (rgV (li:=[(18,_),(23,_)]) rfl (aP rfl) ⟨aG 5 (aA rfl rfl rfl),aG 10 (aA rfl rfl rfl),trivial⟩ (fun w hw=>bX rfl rfl) (aC rfl)) (aZ 13 rfl 24 11 rfl rfl rfl (fun w hw=>aW rfl) rfl (aD 14 rfl (isV _) (aB _) (rgV (li:=[(2,_)]) rfl (aN 25 rfl (aA rfl rfl rfl)) ⟨bB rfl,trivial⟩ (fun w hw=>aO (o':=5) cA rfl rfl) (aC rfl)) (aD 15 rfl (isV _) (aB _) (rgV (li:=[(26,_)]) rfl (aN 25 rfl (aA rfl rfl rfl)) ⟨aG 13 (aA rfl rfl rfl),trivial⟩ (fun w hw=>aS isAgg23 rfl ((aJ hw 0).cell (Nat.zero_le _) (aI (hS.at_ 1 rfl) rfl))) (aC rfl)) (aD 16 rfl (isV _) (aB _) (rgV (li:=[(3,_)]) rfl (aN 25 rfl (aA rfl rfl rfl)) ⟨bB rfl,trivial⟩ (fun w hw=>aO (o':=0) cO rfl rfl) (aC rfl)) (aD 17 rfl (isV _) (aB _) (rgV (li:=[(28,_)]) rfl (aN 25 rfl (aA rfl rfl rfl)) ⟨aG 15 (aA rfl rfl rfl),trivial⟩ (fun w hw=>aS isAgg3 rfl ((aJ hw 0).cell (Nat.zero_le _) (aI (hS.at_ 0 rfl) rfl))) (aC rfl)) (aD 18 rfl (isV _) (aB _) (rgV (li:=[(27,_),(29,_)]) rfl (aN 25 rfl (aA rfl rfl rfl)) ⟨aG 14 (aA rfl rfl rfl),aG 16 (aA rfl rfl rfl),trivial⟩ (fun w hw=>bH (j:=kf) underlying23 sizeOf3 rfl rfl (by omega) (by omega) rfl) (aC rfl)) (aD 19 rfl (isV _) (aB _) (rgV (li:=[(30,_)]) rfl (aN 25 rfl (aA rfl rfl rfl)) ⟨aG 17 (aA rfl rfl rfl),trivial⟩ (fun w hw=>aS isAgg3 rfl ((aJ hw 0).cell (Nat.zero_le _) (k3))) (aC rfl)) (aD 20 rfl (isV _) (aB _) (rgV (li:=[(2,_)]) rfl (aN 25 rfl (aA rfl rfl rfl)) ⟨bB rfl,trivial⟩ (fun w hw=>aO (o':=5) cA rfl rfl) (aC rfl)) (aD 21 rfl (isV _) (aB _) (rgV (li:=[(32,_)]) rfl (aN 25 rfl (aA rfl rfl rfl)) ⟨aG 19 (aA rfl rfl rfl),trivial⟩ (fun w hw=>aS isAgg23 rfl ((aJ hw 0).cell (Nat.zero_le _) (aI (hS.at_ 1 rfl) rfl))) (aC rfl)) (aD 22 rfl (isV _) (aB _) (rgV (li:=[(3,_)]) rfl (aN 25 rfl (aA rfl rfl rfl)) ⟨bB rfl,trivial⟩ (fun w hw=>aO (o':=1) cU rfl rfl) (aC rfl)) (aD 23 rfl (isV _) (aB _) (rgV (li:=[(34,_)]) rfl (aN 25 rfl (aA rfl rfl rfl)) ⟨aG 21 (aA rfl rfl rfl),trivial⟩ (fun w hw=>aS isAgg3 rfl ((aJ hw 0).cell (Nat.zero_le _) (aI (hS.at_ 0 rfl) rfl))) (aC rfl)) (aD 24 rfl (isV _) (aB _) (rgV (li:=[(33,_),(35,_)]) rfl (aN 25 rfl (aA rfl rfl rfl)) ⟨aG 20 (aA rfl rfl rfl),aG 22 (aA rfl rfl rfl),trivial⟩ (fun w hw=>bH (j:=kt) underlying23 sizeOf3 rfl rfl (by omega) (by omega) rfl) (aC rfl)) (aD 25 rfl (isV _) (aB _) (rgV (li:=[(36,_)]) rfl (aN 25 rfl (aA rfl rfl rfl)) ⟨aG 23 (aA rfl rfl rfl),trivial⟩ (fun w hw=>aS isAgg3 rfl ((aJ hw 0).cell (Nat.zero_le _) (k4))) (aC rfl)) (aD 26 rfl (isV (.bool false)) (aB _) (fD (li:=[(31,_),(37,_)]) rfl (aN 25 rfl (aA rfl rfl rfl)) ⟨aG 18 (aA rfl rfl rfl),aG 24 (aA rfl rfl rfl),trivial⟩ (fun w hw=>dX rfl rfl) (by rw [decide_eq_false (not_not_intro hee)]) (aC rfl)) (aD 27 rfl (isV _) (aB _) (rgV (li:=[(25,_),(38,_)]) rfl (aP rfl) ⟨aG 12 (aA rfl rfl rfl),aG 25 (aA rfl rfl rfl),trivial⟩ (fun w hw=>bX rfl rfl) (aC rfl)) (aZ 28 rfl 39 26 rfl rfl rfl (fun w hw=>aW rfl) rfl (aD 29 rfl (isV _) (aB _) (rgV (li:=[(3,_)]) rfl (aN 40 rfl (aA rfl rfl rfl)) ⟨bB rfl,trivial⟩ (fun w hw=>aO (o':=5) fU rfl rfl) (aC rfl)) (aD 30 rfl (isV _) (aB _) (rgV (li:=[(41,_)]) rfl (aN 40 rfl (aA rfl rfl rfl)) ⟨aG 28 (aA rfl rfl rfl),trivial⟩ (fun w hw=>aS isAgg2 rfl ((aJ hw 0).cell (Nat.zero_le _) (aI (hS.at_ 0 rfl) rfl))) (aC rfl)) (aD 31 rfl (isV (.bool false)) (aB _) (fD (li:=[(42,_)]) rfl (aN 40 rfl (aA rfl rfl rfl)) ⟨aG 29 (aA rfl rfl rfl),trivial⟩ (fun w hw=>dX rfl rfl) (by rw [decide_eq_false (not_not_intro hkk)]) (aC rfl)) (aD 32 rfl (isV _) (aB _) (rgV (li:=[(43,_)]) rfl (aN 40 rfl (aA rfl rfl rfl)) ⟨aG 30 (aA rfl rfl rfl),trivial⟩ (fun w hw=>aW rfl) (aC rfl)) (aD 33 rfl (isV undef) (aB _) (aX rfl (aY 44 rfl (aA rfl rfl rfl) rfl) (aC rfl)) (aD 34 rfl (isV undef) (aB _) (aX rfl (aY 44 rfl (aA rfl rfl rfl) rfl) (aC rfl)) (aD 35 rfl (isV undef) (aB _) (aX rfl (aY 44 rfl (aA rfl rfl rfl) rfl) (aC rfl)) (aD 36 rfl (isV _) (aB _) (rgV (li:=[(44,_)]) rfl (aN 40 rfl (aA rfl rfl rfl)) ⟨aG 31 (aA rfl rfl rfl),trivial⟩ (fun w hw=>bX rfl rfl) (aC rfl)) (aD 37 rfl (isV _) (aB _) (rgV (li:=[(40,_),(48,_)]) rfl (aP rfl) ⟨aG 27 (aA rfl rfl rfl),aG 35 (aA rfl rfl rfl),trivial⟩ (fun w hw=>bX rfl rfl) (aC rfl)) (aZ 38 rfl 49 36 rfl rfl rfl (fun w hw=>aW rfl) rfl (aD 39 rfl (isV _) (aB _) (rgV (li:=[(3,_)]) rfl (aN 50 rfl (aA rfl rfl rfl)) ⟨bB rfl,trivial⟩ (fun w hw=>aO (o':=6) dI rfl rfl) (aC rfl)) (aD 40 rfl (isV _) (aB _) (rgV (li:=[(51,_)]) rfl (aN 50 rfl (aA rfl rfl rfl)) ⟨aG 38 (aA rfl rfl rfl),trivial⟩ (fun w hw=>aS isAgg3 rfl ((aJ hw 0).cell (Nat.zero_le _) (aI (hS.at_ 0 rfl) rfl))) (aC rfl)) (aD 41 rfl (isV (.bool true)) (aB _) (fD (li:=[(52,_)]) rfl (aN 50 rfl (aA rfl rfl rfl)) ⟨aG 39 (aA rfl rfl rfl),trivial⟩ (fun w hw=>dX rfl rfl) (by rw [decide_eq_true hz]) (aC rfl)) (aD 42 rfl (isV _) (aB _) (rgV (li:=[(53,_)]) rfl (aN 50 rfl (aA rfl rfl rfl)) ⟨aG 40 (aA rfl rfl rfl),trivial⟩ (fun w hw=>aW rfl) (aC rfl)) (aD 43 rfl (isV _) (aB _) (rgV (li:=[(3,_)]) rfl (aN 54 rfl (aA rfl rfl rfl)) ⟨bB rfl,trivial⟩ (fun w hw=>aO (o':=2) dQ rfl rfl) (aC rfl)) ?_))))))))))))))))))))))))))))))))
   refine aD 44 rfl (isV _) (aB _) (rgV (li:=[(55,_)]) rfl (aN 54 rfl (aA rfl rfl rfl)) ⟨aG 42 (aA rfl rfl rfl),trivial⟩ (fun w hw=>aS isAgg77 rfl ((aJ hw 0).cell (Nat.zero_le _) (aI (hS.at_ 0 rfl) rfl))) (aC rfl)) (aD 45 rfl (isV (.bool true)) (aB _) (fD (li:=[(56,_)]) rfl (aN 54 rfl (aA rfl rfl rfl)) ⟨aG 43 (aA rfl rfl rfl),trivial⟩ (fun w hw=>dX rfl rfl) (by rw [decide_eq_true hk8]) (aC rfl)) (aD 46 rfl (isV _) (aB _) (rgV (li:=[(54,_),(57,_)]) rfl (aN 50 rfl (aA rfl rfl rfl)) ⟨aG 41 (aA rfl rfl rfl),aG 44 (aA rfl rfl rfl),trivial⟩ (fun w hw=>cI rfl rfl) (aC rfl)) (aD 47 rfl (isV _) (aB _) (rgV (li:=[(50,_),(58,_)]) rfl (aP rfl) ⟨aG 37 (aA rfl rfl rfl),aG 45 (aA rfl rfl rfl),trivial⟩ (fun w hw=>bX rfl rfl) (aC rfl)) (dF ?_))))
   intro W19 hbR hS'
   clear hS;have hS:=hS';clear hS'
   refine aE (aE (aE (aE (aE (aE (aE (aE (aE (aE (aE (aE (aE (aE (aE (aE (aE (aE (aE (aE (aE (aE (aE (aE (aE (aE (aE (aE (aE (aE (aE (aE (aE ?_))))))))))))))))))))))))))))))))
   refine aE (aE (aE (aE (aE (aE (aE (aE (aE (aE (aE (aE (aE (aE (bV (XF.thenN (eA rfl (aR (aU (aK rfl rfl (aT (XF.thenN (bP (XF.thenR (XF.res (cG results45 rfl) ?_))))))))))))))))))))))))
   exact ⟨bI (by unfold jH;dsimp only;rw [if_neg (by rw [hf];simp),if_neg (by rw [hg];simp),if_neg (by rw [hoe,hee];simp),if_neg (fun h=>h.1 hkk),if_pos ⟨hz,hk8⟩]),hS.below⟩
  ·have hoe:=kN hy1 hy2
   rw [← ef,← et] at hoe
   obtain ⟨ob,oo,z1,rfl,hz1,hzc1⟩:=ho.get (i:=kf) (by omega)
   obtain ⟨ob2,oo2,z2,e2,hz2,hzc2⟩:=ho.get (i:=kt) (by omega)
   cases e2
   obtain rfl:y1=z1:=Option.some.inj (hy1.symm.trans hz1)
   obtain rfl:y2=z2:=Option.some.inj (hy2.symm.trans hz2)
   have k3:=(aM.agree hS.agree (Nat.zero_le _) hzc1).1
   have k4:=(aM.agree hS.agree (Nat.zero_le _) hzc2).1
   refine fK (m:=47) bG hS (by kernel_rfl) (by kernel_rfl) rfl (bZ 1 rfl 3 rfl rfl (fun w hw=>aO (o':=0) cO rfl rfl) rfl (aZ 2 rfl 13 0 rfl rfl rfl (fun w hw=>aS isAgg3 rfl ((aJ hw 0).cell (Nat.zero_le _) (aI (hS.at_ 0 rfl) rfl))) rfl (bZ 3 rfl 5 rfl rfl (fun w hw=>aW rfl) rfl ?_)))
   refine aD 4 rfl (isV (.bool true)) (aB _) (cH [isV _,isV _] rfl cB (aP rfl) ⟨bO (aG 1 (aA rfl rfl rfl)),bO (aG 2 (aA rfl rfl rfl)),trivial⟩ (fun vs w' hb hh=>by have e:=bN (us:=[_,_]) hh;subst e;exact (eB s.f _ _).mono fun e w2 h=>⟨_,by rw [h.1,hf],rfl,h.2⟩) (aC rfl)) ?_
   refine aZ 5 rfl 16 3 rfl rfl rfl (fun w hw=>dM rfl) rfl (aZ 6 rfl 17 4 rfl rfl rfl (fun w hw=>aW rfl) rfl (aD 7 rfl (isV _) (aB _) (rgV (li:=[(3,_)]) rfl (aN 18 rfl (aA rfl rfl rfl)) ⟨bB rfl,trivial⟩ (fun w hw=>aO (o':=1) cU rfl rfl) (aC rfl)) (aD 8 rfl (isV _) (aB _) (rgV (li:=[(19,_)]) rfl (aN 18 rfl (aA rfl rfl rfl)) ⟨aG 6 (aA rfl rfl rfl),trivial⟩ (fun w hw=>aS isAgg3 rfl ((aJ hw 0).cell (Nat.zero_le _) (aI (hS.at_ 0 rfl) rfl))) (aC rfl)) (aD 9 rfl (isV _) (aB _) (rgV (li:=[(5,_)]) rfl (aN 18 rfl (aA rfl rfl rfl)) ⟨bB rfl,trivial⟩ (fun w hw=>aW rfl) (aC rfl)) ?_))))
   refine aD 10 rfl (isV (.bool true)) (aB _) (cH [isV _,isV _] rfl cB (aN 18 rfl (aA rfl rfl rfl)) ⟨bO (aG 7 (aA rfl rfl rfl)),bO (aG 8 (aA rfl rfl rfl)),trivial⟩ (fun vs w' hb hh=>by have e:=bN (us:=[_,_]) hh;subst e;exact (eB s.t _ _).mono fun e w2 h=>⟨_,by rw [h.1,hg],rfl,h.2⟩) (aC rfl)) ?_
   refine aD 11 rfl (isV _) (aB _) (rgV (li:=[(22,_)]) rfl (aN 18 rfl (aA rfl rfl rfl)) ⟨aG 9 (aA rfl rfl rfl),trivial⟩ (fun w hw=>dM rfl) (aC rfl)) (aD 12 rfl (isV _) (aB _) (rgV (li:=[(18,_),(23,_)]) rfl (aP rfl) ⟨aG 5 (aA rfl rfl rfl),aG 10 (aA rfl rfl rfl),trivial⟩ (fun w hw=>bX rfl rfl) (aC rfl)) (aZ 13 rfl 24 11 rfl rfl rfl (fun w hw=>aW rfl) rfl (aD 14 rfl (isV _) (aB _) (rgV (li:=[(2,_)]) rfl (aN 25 rfl (aA rfl rfl rfl)) ⟨bB rfl,trivial⟩ (fun w hw=>aO (o':=5) cA rfl rfl) (aC rfl)) (aD 15 rfl (isV _) (aB _) (rgV (li:=[(26,_)]) rfl (aN 25 rfl (aA rfl rfl rfl)) ⟨aG 13 (aA rfl rfl rfl),trivial⟩ (fun w hw=>aS isAgg23 rfl ((aJ hw 0).cell (Nat.zero_le _) (aI (hS.at_ 1 rfl) rfl))) (aC rfl)) (aD 16 rfl (isV _) (aB _) (rgV (li:=[(3,_)]) rfl (aN 25 rfl (aA rfl rfl rfl)) ⟨bB rfl,trivial⟩ (fun w hw=>aO (o':=0) cO rfl rfl) (aC rfl)) (aD 17 rfl (isV _) (aB _) (rgV (li:=[(28,_)]) rfl (aN 25 rfl (aA rfl rfl rfl)) ⟨aG 15 (aA rfl rfl rfl),trivial⟩ (fun w hw=>aS isAgg3 rfl ((aJ hw 0).cell (Nat.zero_le _) (aI (hS.at_ 0 rfl) rfl))) (aC rfl)) (aD 18 rfl (isV _) (aB _) (rgV (li:=[(27,_),(29,_)]) rfl (aN 25 rfl (aA rfl rfl rfl)) ⟨aG 14 (aA rfl rfl rfl),aG 16 (aA rfl rfl rfl),trivial⟩ (fun w hw=>bH (j:=kf) underlying23 sizeOf3 rfl rfl (by omega) (by omega) rfl) (aC rfl)) (aD 19 rfl (isV _) (aB _) (rgV (li:=[(30,_)]) rfl (aN 25 rfl (aA rfl rfl rfl)) ⟨aG 17 (aA rfl rfl rfl),trivial⟩ (fun w hw=>aS isAgg3 rfl ((aJ hw 0).cell (Nat.zero_le _) (k3))) (aC rfl)) (aD 20 rfl (isV _) (aB _) (rgV (li:=[(2,_)]) rfl (aN 25 rfl (aA rfl rfl rfl)) ⟨bB rfl,trivial⟩ (fun w hw=>aO (o':=5) cA rfl rfl) (aC rfl)) (aD 21 rfl (isV _) (aB _) (rgV (li:=[(32,_)]) rfl (aN 25 rfl (aA rfl rfl rfl)) ⟨aG 19 (aA rfl rfl rfl),trivial⟩ (fun w hw=>aS isAgg23 rfl ((aJ hw 0).cell (Nat.zero_le _) (aI (hS.at_ 1 rfl) rfl))) (aC rfl)) (aD 22 rfl (isV _) (aB _) (rgV (li:=[(3,_)]) rfl (aN 25 rfl (aA rfl rfl rfl)) ⟨bB rfl,trivial⟩ (fun w hw=>aO (o':=1) cU rfl rfl) (aC rfl)) (aD 23 rfl (isV _) (aB _) (rgV (li:=[(34,_)]) rfl (aN 25 rfl (aA rfl rfl rfl)) ⟨aG 21 (aA rfl rfl rfl),trivial⟩ (fun w hw=>aS isAgg3 rfl ((aJ hw 0).cell (Nat.zero_le _) (aI (hS.at_ 0 rfl) rfl))) (aC rfl)) (aD 24 rfl (isV _) (aB _) (rgV (li:=[(33,_),(35,_)]) rfl (aN 25 rfl (aA rfl rfl rfl)) ⟨aG 20 (aA rfl rfl rfl),aG 22 (aA rfl rfl rfl),trivial⟩ (fun w hw=>bH (j:=kt) underlying23 sizeOf3 rfl rfl (by omega) (by omega) rfl) (aC rfl)) (aD 25 rfl (isV _) (aB _) (rgV (li:=[(36,_)]) rfl (aN 25 rfl (aA rfl rfl rfl)) ⟨aG 23 (aA rfl rfl rfl),trivial⟩ (fun w hw=>aS isAgg3 rfl ((aJ hw 0).cell (Nat.zero_le _) (k4))) (aC rfl)) (aD 26 rfl (isV (.bool false)) (aB _) (fD (li:=[(31,_),(37,_)]) rfl (aN 25 rfl (aA rfl rfl rfl)) ⟨aG 18 (aA rfl rfl rfl),aG 24 (aA rfl rfl rfl),trivial⟩ (fun w hw=>dX rfl rfl) (by rw [decide_eq_false (not_not_intro hee)]) (aC rfl)) (aD 27 rfl (isV _) (aB _) (rgV (li:=[(25,_),(38,_)]) rfl (aP rfl) ⟨aG 12 (aA rfl rfl rfl),aG 25 (aA rfl rfl rfl),trivial⟩ (fun w hw=>bX rfl rfl) (aC rfl)) (aZ 28 rfl 39 26 rfl rfl rfl (fun w hw=>aW rfl) rfl (aD 29 rfl (isV _) (aB _) (rgV (li:=[(3,_)]) rfl (aN 40 rfl (aA rfl rfl rfl)) ⟨bB rfl,trivial⟩ (fun w hw=>aO (o':=5) fU rfl rfl) (aC rfl)) (aD 30 rfl (isV _) (aB _) (rgV (li:=[(41,_)]) rfl (aN 40 rfl (aA rfl rfl rfl)) ⟨aG 28 (aA rfl rfl rfl),trivial⟩ (fun w hw=>aS isAgg2 rfl ((aJ hw 0).cell (Nat.zero_le _) (aI (hS.at_ 0 rfl) rfl))) (aC rfl)) (aD 31 rfl (isV (.bool true)) (aB _) (fD (li:=[(42,_)]) rfl (aN 40 rfl (aA rfl rfl rfl)) ⟨aG 29 (aA rfl rfl rfl),trivial⟩ (fun w hw=>dX rfl rfl) (by rw [decide_eq_true hkk]) (aC rfl)) (aD 32 rfl (isV _) (aB _) (rgV (li:=[(43,_)]) rfl (aN 40 rfl (aA rfl rfl rfl)) ⟨aG 30 (aA rfl rfl rfl),trivial⟩ (fun w hw=>aW rfl) (aC rfl)) (aD 33 rfl (isV _) (aB _) (rgV (li:=[(3,_)]) rfl (aN 44 rfl (aA rfl rfl rfl)) ⟨bB rfl,trivial⟩ (fun w hw=>aO (o':=2) dQ rfl rfl) (aC rfl)) (aD 34 rfl (isV _) (aB _) (rgV (li:=[(45,_)]) rfl (aN 44 rfl (aA rfl rfl rfl)) ⟨aG 32 (aA rfl rfl rfl),trivial⟩ (fun w hw=>aS isAgg77 rfl ((aJ hw 0).cell (Nat.zero_le _) (aI (hS.at_ 0 rfl) rfl))) (aC rfl)) (aD 35 rfl (isV (.bool false)) (aB _) (fD (li:=[(46,_)]) rfl (aN 44 rfl (aA rfl rfl rfl)) ⟨aG 33 (aA rfl rfl rfl),trivial⟩ (fun w hw=>dX rfl rfl) (by rw [decide_eq_false (not_not_intro hk2)]) (aC rfl)) (aD 36 rfl (isV _) (aB _) (rgV (li:=[(44,_),(47,_)]) rfl (aN 40 rfl (aA rfl rfl rfl)) ⟨aG 31 (aA rfl rfl rfl),aG 34 (aA rfl rfl rfl),trivial⟩ (fun w hw=>cI rfl rfl) (aC rfl)) (aD 37 rfl (isV _) (aB _) (rgV (li:=[(40,_),(48,_)]) rfl (aP rfl) ⟨aG 27 (aA rfl rfl rfl),aG 35 (aA rfl rfl rfl),trivial⟩ (fun w hw=>bX rfl rfl) (aC rfl)) (aZ 38 rfl 49 36 rfl rfl rfl (fun w hw=>aW rfl) rfl (aD 39 rfl (isV _) (aB _) (rgV (li:=[(3,_)]) rfl (aN 50 rfl (aA rfl rfl rfl)) ⟨bB rfl,trivial⟩ (fun w hw=>aO (o':=6) dI rfl rfl) (aC rfl)) (aD 40 rfl (isV _) (aB _) (rgV (li:=[(51,_)]) rfl (aN 50 rfl (aA rfl rfl rfl)) ⟨aG 38 (aA rfl rfl rfl),trivial⟩ (fun w hw=>aS isAgg3 rfl ((aJ hw 0).cell (Nat.zero_le _) (aI (hS.at_ 0 rfl) rfl))) (aC rfl)) (aD 41 rfl (isV (.bool true)) (aB _) (fD (li:=[(52,_)]) rfl (aN 50 rfl (aA rfl rfl rfl)) ⟨aG 39 (aA rfl rfl rfl),trivial⟩ (fun w hw=>dX rfl rfl) (by rw [decide_eq_true hz]) (aC rfl)) (aD 42 rfl (isV _) (aB _) (rgV (li:=[(53,_)]) rfl (aN 50 rfl (aA rfl rfl rfl)) ⟨aG 40 (aA rfl rfl rfl),trivial⟩ (fun w hw=>aW rfl) (aC rfl)) (aD 43 rfl (isV _) (aB _) (rgV (li:=[(3,_)]) rfl (aN 54 rfl (aA rfl rfl rfl)) ⟨bB rfl,trivial⟩ (fun w hw=>aO (o':=2) dQ rfl rfl) (aC rfl)) ?_))))))))))))))))))))))))))))))))
   refine aD 44 rfl (isV _) (aB _) (rgV (li:=[(55,_)]) rfl (aN 54 rfl (aA rfl rfl rfl)) ⟨aG 42 (aA rfl rfl rfl),trivial⟩ (fun w hw=>aS isAgg77 rfl ((aJ hw 0).cell (Nat.zero_le _) (aI (hS.at_ 0 rfl) rfl))) (aC rfl)) (aD 45 rfl (isV (.bool true)) (aB _) (fD (li:=[(56,_)]) rfl (aN 54 rfl (aA rfl rfl rfl)) ⟨aG 43 (aA rfl rfl rfl),trivial⟩ (fun w hw=>dX rfl rfl) (by rw [decide_eq_true hk8]) (aC rfl)) (aD 46 rfl (isV _) (aB _) (rgV (li:=[(54,_),(57,_)]) rfl (aN 50 rfl (aA rfl rfl rfl)) ⟨aG 41 (aA rfl rfl rfl),aG 44 (aA rfl rfl rfl),trivial⟩ (fun w hw=>cI rfl rfl) (aC rfl)) (aD 47 rfl (isV _) (aB _) (rgV (li:=[(50,_),(58,_)]) rfl (aP rfl) ⟨aG 37 (aA rfl rfl rfl),aG 45 (aA rfl rfl rfl),trivial⟩ (fun w hw=>bX rfl rfl) (aC rfl)) (dF ?_))))
   intro W20 hbR hS'
   clear hS;have hS:=hS';clear hS'
   refine aE (aE (aE (aE (aE (aE (aE (aE (aE (aE (aE (aE (aE (aE (aE (aE (aE (aE (aE (aE (aE (aE (aE (aE (aE (aE (aE (aE (aE (aE (aE (aE (aE ?_))))))))))))))))))))))))))))))))
   refine aE (aE (aE (aE (aE (aE (aE (aE (aE (aE (aE (aE (aE (aE (bV (XF.thenN (eA rfl (aR (aU (aK rfl rfl (aT (XF.thenN (bP (XF.thenR (XF.res (cG results45 rfl) ?_))))))))))))))))))))))))
   exact ⟨bI (by unfold jH;dsimp only;rw [if_neg (by rw [hf];simp),if_neg (by rw [hg];simp),if_neg (by rw [hoe,hee];simp),if_neg (fun h=>h.2 hk2),if_pos ⟨hz,hk8⟩]),hS.below⟩
  ·have hoe:=kN hy1 hy2
   rw [← ef,← et] at hoe
   obtain ⟨ob,oo,z1,rfl,hz1,hzc1⟩:=ho.get (i:=kf) (by omega)
   obtain ⟨ob2,oo2,z2,e2,hz2,hzc2⟩:=ho.get (i:=kt) (by omega)
   cases e2
   obtain rfl:y1=z1:=Option.some.inj (hy1.symm.trans hz1)
   obtain rfl:y2=z2:=Option.some.inj (hy2.symm.trans hz2)
   have k3:=(aM.agree hS.agree (Nat.zero_le _) hzc1).1
   have k4:=(aM.agree hS.agree (Nat.zero_le _) hzc2).1
   refine fK (m:=47) bG hS (by kernel_rfl) (by kernel_rfl) rfl (bZ 1 rfl 3 rfl rfl (fun w hw=>aO (o':=0) cO rfl rfl) rfl (aZ 2 rfl 13 0 rfl rfl rfl (fun w hw=>aS isAgg3 rfl ((aJ hw 0).cell (Nat.zero_le _) (aI (hS.at_ 0 rfl) rfl))) rfl (bZ 3 rfl 5 rfl rfl (fun w hw=>aW rfl) rfl ?_)))
   refine aD 4 rfl (isV (.bool true)) (aB _) (cH [isV _,isV _] rfl cB (aP rfl) ⟨bO (aG 1 (aA rfl rfl rfl)),bO (aG 2 (aA rfl rfl rfl)),trivial⟩ (fun vs w' hb hh=>by have e:=bN (us:=[_,_]) hh;subst e;exact (eB s.f _ _).mono fun e w2 h=>⟨_,by rw [h.1,hf],rfl,h.2⟩) (aC rfl)) ?_
   refine aZ 5 rfl 16 3 rfl rfl rfl (fun w hw=>dM rfl) rfl (aZ 6 rfl 17 4 rfl rfl rfl (fun w hw=>aW rfl) rfl (aD 7 rfl (isV _) (aB _) (rgV (li:=[(3,_)]) rfl (aN 18 rfl (aA rfl rfl rfl)) ⟨bB rfl,trivial⟩ (fun w hw=>aO (o':=1) cU rfl rfl) (aC rfl)) (aD 8 rfl (isV _) (aB _) (rgV (li:=[(19,_)]) rfl (aN 18 rfl (aA rfl rfl rfl)) ⟨aG 6 (aA rfl rfl rfl),trivial⟩ (fun w hw=>aS isAgg3 rfl ((aJ hw 0).cell (Nat.zero_le _) (aI (hS.at_ 0 rfl) rfl))) (aC rfl)) (aD 9 rfl (isV _) (aB _) (rgV (li:=[(5,_)]) rfl (aN 18 rfl (aA rfl rfl rfl)) ⟨bB rfl,trivial⟩ (fun w hw=>aW rfl) (aC rfl)) ?_))))
   refine aD 10 rfl (isV (.bool true)) (aB _) (cH [isV _,isV _] rfl cB (aN 18 rfl (aA rfl rfl rfl)) ⟨bO (aG 7 (aA rfl rfl rfl)),bO (aG 8 (aA rfl rfl rfl)),trivial⟩ (fun vs w' hb hh=>by have e:=bN (us:=[_,_]) hh;subst e;exact (eB s.t _ _).mono fun e w2 h=>⟨_,by rw [h.1,hg],rfl,h.2⟩) (aC rfl)) ?_
   refine aD 11 rfl (isV _) (aB _) (rgV (li:=[(22,_)]) rfl (aN 18 rfl (aA rfl rfl rfl)) ⟨aG 9 (aA rfl rfl rfl),trivial⟩ (fun w hw=>dM rfl) (aC rfl)) (aD 12 rfl (isV _) (aB _) (rgV (li:=[(18,_),(23,_)]) rfl (aP rfl) ⟨aG 5 (aA rfl rfl rfl),aG 10 (aA rfl rfl rfl),trivial⟩ (fun w hw=>bX rfl rfl) (aC rfl)) (aZ 13 rfl 24 11 rfl rfl rfl (fun w hw=>aW rfl) rfl (aD 14 rfl (isV _) (aB _) (rgV (li:=[(2,_)]) rfl (aN 25 rfl (aA rfl rfl rfl)) ⟨bB rfl,trivial⟩ (fun w hw=>aO (o':=5) cA rfl rfl) (aC rfl)) (aD 15 rfl (isV _) (aB _) (rgV (li:=[(26,_)]) rfl (aN 25 rfl (aA rfl rfl rfl)) ⟨aG 13 (aA rfl rfl rfl),trivial⟩ (fun w hw=>aS isAgg23 rfl ((aJ hw 0).cell (Nat.zero_le _) (aI (hS.at_ 1 rfl) rfl))) (aC rfl)) (aD 16 rfl (isV _) (aB _) (rgV (li:=[(3,_)]) rfl (aN 25 rfl (aA rfl rfl rfl)) ⟨bB rfl,trivial⟩ (fun w hw=>aO (o':=0) cO rfl rfl) (aC rfl)) (aD 17 rfl (isV _) (aB _) (rgV (li:=[(28,_)]) rfl (aN 25 rfl (aA rfl rfl rfl)) ⟨aG 15 (aA rfl rfl rfl),trivial⟩ (fun w hw=>aS isAgg3 rfl ((aJ hw 0).cell (Nat.zero_le _) (aI (hS.at_ 0 rfl) rfl))) (aC rfl)) (aD 18 rfl (isV _) (aB _) (rgV (li:=[(27,_),(29,_)]) rfl (aN 25 rfl (aA rfl rfl rfl)) ⟨aG 14 (aA rfl rfl rfl),aG 16 (aA rfl rfl rfl),trivial⟩ (fun w hw=>bH (j:=kf) underlying23 sizeOf3 rfl rfl (by omega) (by omega) rfl) (aC rfl)) (aD 19 rfl (isV _) (aB _) (rgV (li:=[(30,_)]) rfl (aN 25 rfl (aA rfl rfl rfl)) ⟨aG 17 (aA rfl rfl rfl),trivial⟩ (fun w hw=>aS isAgg3 rfl ((aJ hw 0).cell (Nat.zero_le _) (k3))) (aC rfl)) (aD 20 rfl (isV _) (aB _) (rgV (li:=[(2,_)]) rfl (aN 25 rfl (aA rfl rfl rfl)) ⟨bB rfl,trivial⟩ (fun w hw=>aO (o':=5) cA rfl rfl) (aC rfl)) (aD 21 rfl (isV _) (aB _) (rgV (li:=[(32,_)]) rfl (aN 25 rfl (aA rfl rfl rfl)) ⟨aG 19 (aA rfl rfl rfl),trivial⟩ (fun w hw=>aS isAgg23 rfl ((aJ hw 0).cell (Nat.zero_le _) (aI (hS.at_ 1 rfl) rfl))) (aC rfl)) (aD 22 rfl (isV _) (aB _) (rgV (li:=[(3,_)]) rfl (aN 25 rfl (aA rfl rfl rfl)) ⟨bB rfl,trivial⟩ (fun w hw=>aO (o':=1) cU rfl rfl) (aC rfl)) (aD 23 rfl (isV _) (aB _) (rgV (li:=[(34,_)]) rfl (aN 25 rfl (aA rfl rfl rfl)) ⟨aG 21 (aA rfl rfl rfl),trivial⟩ (fun w hw=>aS isAgg3 rfl ((aJ hw 0).cell (Nat.zero_le _) (aI (hS.at_ 0 rfl) rfl))) (aC rfl)) (aD 24 rfl (isV _) (aB _) (rgV (li:=[(33,_),(35,_)]) rfl (aN 25 rfl (aA rfl rfl rfl)) ⟨aG 20 (aA rfl rfl rfl),aG 22 (aA rfl rfl rfl),trivial⟩ (fun w hw=>bH (j:=kt) underlying23 sizeOf3 rfl rfl (by omega) (by omega) rfl) (aC rfl)) (aD 25 rfl (isV _) (aB _) (rgV (li:=[(36,_)]) rfl (aN 25 rfl (aA rfl rfl rfl)) ⟨aG 23 (aA rfl rfl rfl),trivial⟩ (fun w hw=>aS isAgg3 rfl ((aJ hw 0).cell (Nat.zero_le _) (k4))) (aC rfl)) (aD 26 rfl (isV (.bool false)) (aB _) (fD (li:=[(31,_),(37,_)]) rfl (aN 25 rfl (aA rfl rfl rfl)) ⟨aG 18 (aA rfl rfl rfl),aG 24 (aA rfl rfl rfl),trivial⟩ (fun w hw=>dX rfl rfl) (by rw [decide_eq_false (not_not_intro hee)]) (aC rfl)) (aD 27 rfl (isV _) (aB _) (rgV (li:=[(25,_),(38,_)]) rfl (aP rfl) ⟨aG 12 (aA rfl rfl rfl),aG 25 (aA rfl rfl rfl),trivial⟩ (fun w hw=>bX rfl rfl) (aC rfl)) (aZ 28 rfl 39 26 rfl rfl rfl (fun w hw=>aW rfl) rfl (aD 29 rfl (isV _) (aB _) (rgV (li:=[(3,_)]) rfl (aN 40 rfl (aA rfl rfl rfl)) ⟨bB rfl,trivial⟩ (fun w hw=>aO (o':=5) fU rfl rfl) (aC rfl)) (aD 30 rfl (isV _) (aB _) (rgV (li:=[(41,_)]) rfl (aN 40 rfl (aA rfl rfl rfl)) ⟨aG 28 (aA rfl rfl rfl),trivial⟩ (fun w hw=>aS isAgg2 rfl ((aJ hw 0).cell (Nat.zero_le _) (aI (hS.at_ 0 rfl) rfl))) (aC rfl)) (aD 31 rfl (isV (.bool false)) (aB _) (fD (li:=[(42,_)]) rfl (aN 40 rfl (aA rfl rfl rfl)) ⟨aG 29 (aA rfl rfl rfl),trivial⟩ (fun w hw=>dX rfl rfl) (by rw [decide_eq_false (not_not_intro hkk)]) (aC rfl)) (aD 32 rfl (isV _) (aB _) (rgV (li:=[(43,_)]) rfl (aN 40 rfl (aA rfl rfl rfl)) ⟨aG 30 (aA rfl rfl rfl),trivial⟩ (fun w hw=>aW rfl) (aC rfl)) (aD 33 rfl (isV undef) (aB _) (aX rfl (aY 44 rfl (aA rfl rfl rfl) rfl) (aC rfl)) (aD 34 rfl (isV undef) (aB _) (aX rfl (aY 44 rfl (aA rfl rfl rfl) rfl) (aC rfl)) (aD 35 rfl (isV undef) (aB _) (aX rfl (aY 44 rfl (aA rfl rfl rfl) rfl) (aC rfl)) (aD 36 rfl (isV _) (aB _) (rgV (li:=[(44,_)]) rfl (aN 40 rfl (aA rfl rfl rfl)) ⟨aG 31 (aA rfl rfl rfl),trivial⟩ (fun w hw=>bX rfl rfl) (aC rfl)) (aD 37 rfl (isV _) (aB _) (rgV (li:=[(40,_),(48,_)]) rfl (aP rfl) ⟨aG 27 (aA rfl rfl rfl),aG 35 (aA rfl rfl rfl),trivial⟩ (fun w hw=>bX rfl rfl) (aC rfl)) (aZ 38 rfl 49 36 rfl rfl rfl (fun w hw=>aW rfl) rfl (aD 39 rfl (isV _) (aB _) (rgV (li:=[(3,_)]) rfl (aN 50 rfl (aA rfl rfl rfl)) ⟨bB rfl,trivial⟩ (fun w hw=>aO (o':=6) dI rfl rfl) (aC rfl)) (aD 40 rfl (isV _) (aB _) (rgV (li:=[(51,_)]) rfl (aN 50 rfl (aA rfl rfl rfl)) ⟨aG 38 (aA rfl rfl rfl),trivial⟩ (fun w hw=>aS isAgg3 rfl ((aJ hw 0).cell (Nat.zero_le _) (aI (hS.at_ 0 rfl) rfl))) (aC rfl)) (aD 41 rfl (isV (.bool false)) (aB _) (fD (li:=[(52,_)]) rfl (aN 50 rfl (aA rfl rfl rfl)) ⟨aG 39 (aA rfl rfl rfl),trivial⟩ (fun w hw=>dX rfl rfl) (by rw [decide_eq_false (not_not_intro hz)]) (aC rfl)) (aD 42 rfl (isV _) (aB _) (rgV (li:=[(53,_)]) rfl (aN 50 rfl (aA rfl rfl rfl)) ⟨aG 40 (aA rfl rfl rfl),trivial⟩ (fun w hw=>aW rfl) (aC rfl)) (aD 43 rfl (isV undef) (aB _) (aX rfl (aY 54 rfl (aA rfl rfl rfl) rfl) (aC rfl)) ?_))))))))))))))))))))))))))))))))
   refine aD 44 rfl (isV undef) (aB _) (aX rfl (aY 54 rfl (aA rfl rfl rfl) rfl) (aC rfl)) (aD 45 rfl (isV undef) (aB _) (aX rfl (aY 54 rfl (aA rfl rfl rfl) rfl) (aC rfl)) (aD 46 rfl (isV _) (aB _) (rgV (li:=[(54,_)]) rfl (aN 50 rfl (aA rfl rfl rfl)) ⟨aG 41 (aA rfl rfl rfl),trivial⟩ (fun w hw=>bX rfl rfl) (aC rfl)) (aD 47 rfl (isV _) (aB _) (rgV (li:=[(50,_),(58,_)]) rfl (aP rfl) ⟨aG 37 (aA rfl rfl rfl),aG 45 (aA rfl rfl rfl),trivial⟩ (fun w hw=>bX rfl rfl) (aC rfl)) (dF ?_))))
   intro W21 hbR hS'
   clear hS;have hS:=hS';clear hS'
   refine aE (aE (aE (aE (aE (aE (aE (aE (aE (aE (aE (aE (aE (aE (aE (aE (aE (aE (aE (aE (aE (aE (aE (aE (aE (aE (aE (aE (aE (aE (aE (aE (aE ?_))))))))))))))))))))))))))))))))
   refine aE (aE (aE (aE (aE (aE (aE (aE (aE (aE (aE (aE (aE (aE (bV (XF.thenN (nN rfl (bQ ?_)))))))))))))))))
   exact XF.join [(2,.pointer (some ⟨B1,0,none⟩)),(3,.pointer (some ⟨B2,0,none⟩)),(6,.int .i64 (vl:Int))] ⟨rfl,rfl,rfl,trivial⟩ ⟨rfl,by unfold jH;dsimp only;rw [if_neg (by rw [hf];simp),if_neg (by rw [hg];simp),if_neg (by rw [hoe,hee];simp),if_neg (fun h=>h.1 hkk),if_neg (fun h=>h.1 hz)],hS.clear⟩
  ·have hoe:=kN hy1 hy2
   rw [← ef,← et] at hoe
   obtain ⟨ob,oo,z1,rfl,hz1,hzc1⟩:=ho.get (i:=kf) (by omega)
   obtain ⟨ob2,oo2,z2,e2,hz2,hzc2⟩:=ho.get (i:=kt) (by omega)
   cases e2
   obtain rfl:y1=z1:=Option.some.inj (hy1.symm.trans hz1)
   obtain rfl:y2=z2:=Option.some.inj (hy2.symm.trans hz2)
   have k3:=(aM.agree hS.agree (Nat.zero_le _) hzc1).1
   have k4:=(aM.agree hS.agree (Nat.zero_le _) hzc2).1
   refine fK (m:=47) bG hS (by kernel_rfl) (by kernel_rfl) rfl (bZ 1 rfl 3 rfl rfl (fun w hw=>aO (o':=0) cO rfl rfl) rfl (aZ 2 rfl 13 0 rfl rfl rfl (fun w hw=>aS isAgg3 rfl ((aJ hw 0).cell (Nat.zero_le _) (aI (hS.at_ 0 rfl) rfl))) rfl (bZ 3 rfl 5 rfl rfl (fun w hw=>aW rfl) rfl ?_)))
   refine aD 4 rfl (isV (.bool true)) (aB _) (cH [isV _,isV _] rfl cB (aP rfl) ⟨bO (aG 1 (aA rfl rfl rfl)),bO (aG 2 (aA rfl rfl rfl)),trivial⟩ (fun vs w' hb hh=>by have e:=bN (us:=[_,_]) hh;subst e;exact (eB s.f _ _).mono fun e w2 h=>⟨_,by rw [h.1,hf],rfl,h.2⟩) (aC rfl)) ?_
   refine aZ 5 rfl 16 3 rfl rfl rfl (fun w hw=>dM rfl) rfl (aZ 6 rfl 17 4 rfl rfl rfl (fun w hw=>aW rfl) rfl (aD 7 rfl (isV _) (aB _) (rgV (li:=[(3,_)]) rfl (aN 18 rfl (aA rfl rfl rfl)) ⟨bB rfl,trivial⟩ (fun w hw=>aO (o':=1) cU rfl rfl) (aC rfl)) (aD 8 rfl (isV _) (aB _) (rgV (li:=[(19,_)]) rfl (aN 18 rfl (aA rfl rfl rfl)) ⟨aG 6 (aA rfl rfl rfl),trivial⟩ (fun w hw=>aS isAgg3 rfl ((aJ hw 0).cell (Nat.zero_le _) (aI (hS.at_ 0 rfl) rfl))) (aC rfl)) (aD 9 rfl (isV _) (aB _) (rgV (li:=[(5,_)]) rfl (aN 18 rfl (aA rfl rfl rfl)) ⟨bB rfl,trivial⟩ (fun w hw=>aW rfl) (aC rfl)) ?_))))
   refine aD 10 rfl (isV (.bool true)) (aB _) (cH [isV _,isV _] rfl cB (aN 18 rfl (aA rfl rfl rfl)) ⟨bO (aG 7 (aA rfl rfl rfl)),bO (aG 8 (aA rfl rfl rfl)),trivial⟩ (fun vs w' hb hh=>by have e:=bN (us:=[_,_]) hh;subst e;exact (eB s.t _ _).mono fun e w2 h=>⟨_,by rw [h.1,hg],rfl,h.2⟩) (aC rfl)) ?_
   refine aD 11 rfl (isV _) (aB _) (rgV (li:=[(22,_)]) rfl (aN 18 rfl (aA rfl rfl rfl)) ⟨aG 9 (aA rfl rfl rfl),trivial⟩ (fun w hw=>dM rfl) (aC rfl)) (aD 12 rfl (isV _) (aB _) (rgV (li:=[(18,_),(23,_)]) rfl (aP rfl) ⟨aG 5 (aA rfl rfl rfl),aG 10 (aA rfl rfl rfl),trivial⟩ (fun w hw=>bX rfl rfl) (aC rfl)) (aZ 13 rfl 24 11 rfl rfl rfl (fun w hw=>aW rfl) rfl (aD 14 rfl (isV _) (aB _) (rgV (li:=[(2,_)]) rfl (aN 25 rfl (aA rfl rfl rfl)) ⟨bB rfl,trivial⟩ (fun w hw=>aO (o':=5) cA rfl rfl) (aC rfl)) (aD 15 rfl (isV _) (aB _) (rgV (li:=[(26,_)]) rfl (aN 25 rfl (aA rfl rfl rfl)) ⟨aG 13 (aA rfl rfl rfl),trivial⟩ (fun w hw=>aS isAgg23 rfl ((aJ hw 0).cell (Nat.zero_le _) (aI (hS.at_ 1 rfl) rfl))) (aC rfl)) (aD 16 rfl (isV _) (aB _) (rgV (li:=[(3,_)]) rfl (aN 25 rfl (aA rfl rfl rfl)) ⟨bB rfl,trivial⟩ (fun w hw=>aO (o':=0) cO rfl rfl) (aC rfl)) (aD 17 rfl (isV _) (aB _) (rgV (li:=[(28,_)]) rfl (aN 25 rfl (aA rfl rfl rfl)) ⟨aG 15 (aA rfl rfl rfl),trivial⟩ (fun w hw=>aS isAgg3 rfl ((aJ hw 0).cell (Nat.zero_le _) (aI (hS.at_ 0 rfl) rfl))) (aC rfl)) (aD 18 rfl (isV _) (aB _) (rgV (li:=[(27,_),(29,_)]) rfl (aN 25 rfl (aA rfl rfl rfl)) ⟨aG 14 (aA rfl rfl rfl),aG 16 (aA rfl rfl rfl),trivial⟩ (fun w hw=>bH (j:=kf) underlying23 sizeOf3 rfl rfl (by omega) (by omega) rfl) (aC rfl)) (aD 19 rfl (isV _) (aB _) (rgV (li:=[(30,_)]) rfl (aN 25 rfl (aA rfl rfl rfl)) ⟨aG 17 (aA rfl rfl rfl),trivial⟩ (fun w hw=>aS isAgg3 rfl ((aJ hw 0).cell (Nat.zero_le _) (k3))) (aC rfl)) (aD 20 rfl (isV _) (aB _) (rgV (li:=[(2,_)]) rfl (aN 25 rfl (aA rfl rfl rfl)) ⟨bB rfl,trivial⟩ (fun w hw=>aO (o':=5) cA rfl rfl) (aC rfl)) (aD 21 rfl (isV _) (aB _) (rgV (li:=[(32,_)]) rfl (aN 25 rfl (aA rfl rfl rfl)) ⟨aG 19 (aA rfl rfl rfl),trivial⟩ (fun w hw=>aS isAgg23 rfl ((aJ hw 0).cell (Nat.zero_le _) (aI (hS.at_ 1 rfl) rfl))) (aC rfl)) (aD 22 rfl (isV _) (aB _) (rgV (li:=[(3,_)]) rfl (aN 25 rfl (aA rfl rfl rfl)) ⟨bB rfl,trivial⟩ (fun w hw=>aO (o':=1) cU rfl rfl) (aC rfl)) (aD 23 rfl (isV _) (aB _) (rgV (li:=[(34,_)]) rfl (aN 25 rfl (aA rfl rfl rfl)) ⟨aG 21 (aA rfl rfl rfl),trivial⟩ (fun w hw=>aS isAgg3 rfl ((aJ hw 0).cell (Nat.zero_le _) (aI (hS.at_ 0 rfl) rfl))) (aC rfl)) (aD 24 rfl (isV _) (aB _) (rgV (li:=[(33,_),(35,_)]) rfl (aN 25 rfl (aA rfl rfl rfl)) ⟨aG 20 (aA rfl rfl rfl),aG 22 (aA rfl rfl rfl),trivial⟩ (fun w hw=>bH (j:=kt) underlying23 sizeOf3 rfl rfl (by omega) (by omega) rfl) (aC rfl)) (aD 25 rfl (isV _) (aB _) (rgV (li:=[(36,_)]) rfl (aN 25 rfl (aA rfl rfl rfl)) ⟨aG 23 (aA rfl rfl rfl),trivial⟩ (fun w hw=>aS isAgg3 rfl ((aJ hw 0).cell (Nat.zero_le _) (k4))) (aC rfl)) (aD 26 rfl (isV (.bool false)) (aB _) (fD (li:=[(31,_),(37,_)]) rfl (aN 25 rfl (aA rfl rfl rfl)) ⟨aG 18 (aA rfl rfl rfl),aG 24 (aA rfl rfl rfl),trivial⟩ (fun w hw=>dX rfl rfl) (by rw [decide_eq_false (not_not_intro hee)]) (aC rfl)) (aD 27 rfl (isV _) (aB _) (rgV (li:=[(25,_),(38,_)]) rfl (aP rfl) ⟨aG 12 (aA rfl rfl rfl),aG 25 (aA rfl rfl rfl),trivial⟩ (fun w hw=>bX rfl rfl) (aC rfl)) (aZ 28 rfl 39 26 rfl rfl rfl (fun w hw=>aW rfl) rfl (aD 29 rfl (isV _) (aB _) (rgV (li:=[(3,_)]) rfl (aN 40 rfl (aA rfl rfl rfl)) ⟨bB rfl,trivial⟩ (fun w hw=>aO (o':=5) fU rfl rfl) (aC rfl)) (aD 30 rfl (isV _) (aB _) (rgV (li:=[(41,_)]) rfl (aN 40 rfl (aA rfl rfl rfl)) ⟨aG 28 (aA rfl rfl rfl),trivial⟩ (fun w hw=>aS isAgg2 rfl ((aJ hw 0).cell (Nat.zero_le _) (aI (hS.at_ 0 rfl) rfl))) (aC rfl)) (aD 31 rfl (isV (.bool false)) (aB _) (fD (li:=[(42,_)]) rfl (aN 40 rfl (aA rfl rfl rfl)) ⟨aG 29 (aA rfl rfl rfl),trivial⟩ (fun w hw=>dX rfl rfl) (by rw [decide_eq_false (not_not_intro hkk)]) (aC rfl)) (aD 32 rfl (isV _) (aB _) (rgV (li:=[(43,_)]) rfl (aN 40 rfl (aA rfl rfl rfl)) ⟨aG 30 (aA rfl rfl rfl),trivial⟩ (fun w hw=>aW rfl) (aC rfl)) (aD 33 rfl (isV undef) (aB _) (aX rfl (aY 44 rfl (aA rfl rfl rfl) rfl) (aC rfl)) (aD 34 rfl (isV undef) (aB _) (aX rfl (aY 44 rfl (aA rfl rfl rfl) rfl) (aC rfl)) (aD 35 rfl (isV undef) (aB _) (aX rfl (aY 44 rfl (aA rfl rfl rfl) rfl) (aC rfl)) (aD 36 rfl (isV _) (aB _) (rgV (li:=[(44,_)]) rfl (aN 40 rfl (aA rfl rfl rfl)) ⟨aG 31 (aA rfl rfl rfl),trivial⟩ (fun w hw=>bX rfl rfl) (aC rfl)) (aD 37 rfl (isV _) (aB _) (rgV (li:=[(40,_),(48,_)]) rfl (aP rfl) ⟨aG 27 (aA rfl rfl rfl),aG 35 (aA rfl rfl rfl),trivial⟩ (fun w hw=>bX rfl rfl) (aC rfl)) (aZ 38 rfl 49 36 rfl rfl rfl (fun w hw=>aW rfl) rfl (aD 39 rfl (isV _) (aB _) (rgV (li:=[(3,_)]) rfl (aN 50 rfl (aA rfl rfl rfl)) ⟨bB rfl,trivial⟩ (fun w hw=>aO (o':=6) dI rfl rfl) (aC rfl)) (aD 40 rfl (isV _) (aB _) (rgV (li:=[(51,_)]) rfl (aN 50 rfl (aA rfl rfl rfl)) ⟨aG 38 (aA rfl rfl rfl),trivial⟩ (fun w hw=>aS isAgg3 rfl ((aJ hw 0).cell (Nat.zero_le _) (aI (hS.at_ 0 rfl) rfl))) (aC rfl)) (aD 41 rfl (isV (.bool true)) (aB _) (fD (li:=[(52,_)]) rfl (aN 50 rfl (aA rfl rfl rfl)) ⟨aG 39 (aA rfl rfl rfl),trivial⟩ (fun w hw=>dX rfl rfl) (by rw [decide_eq_true hz]) (aC rfl)) (aD 42 rfl (isV _) (aB _) (rgV (li:=[(53,_)]) rfl (aN 50 rfl (aA rfl rfl rfl)) ⟨aG 40 (aA rfl rfl rfl),trivial⟩ (fun w hw=>aW rfl) (aC rfl)) (aD 43 rfl (isV _) (aB _) (rgV (li:=[(3,_)]) rfl (aN 54 rfl (aA rfl rfl rfl)) ⟨bB rfl,trivial⟩ (fun w hw=>aO (o':=2) dQ rfl rfl) (aC rfl)) ?_))))))))))))))))))))))))))))))))
   refine aD 44 rfl (isV _) (aB _) (rgV (li:=[(55,_)]) rfl (aN 54 rfl (aA rfl rfl rfl)) ⟨aG 42 (aA rfl rfl rfl),trivial⟩ (fun w hw=>aS isAgg77 rfl ((aJ hw 0).cell (Nat.zero_le _) (aI (hS.at_ 0 rfl) rfl))) (aC rfl)) (aD 45 rfl (isV (.bool false)) (aB _) (fD (li:=[(56,_)]) rfl (aN 54 rfl (aA rfl rfl rfl)) ⟨aG 43 (aA rfl rfl rfl),trivial⟩ (fun w hw=>dX rfl rfl) (by rw [decide_eq_false (not_not_intro hk8)]) (aC rfl)) (aD 46 rfl (isV _) (aB _) (rgV (li:=[(54,_),(57,_)]) rfl (aN 50 rfl (aA rfl rfl rfl)) ⟨aG 41 (aA rfl rfl rfl),aG 44 (aA rfl rfl rfl),trivial⟩ (fun w hw=>cI rfl rfl) (aC rfl)) (aD 47 rfl (isV _) (aB _) (rgV (li:=[(50,_),(58,_)]) rfl (aP rfl) ⟨aG 37 (aA rfl rfl rfl),aG 45 (aA rfl rfl rfl),trivial⟩ (fun w hw=>bX rfl rfl) (aC rfl)) (dF ?_))))
   intro W22 hbR hS'
   clear hS;have hS:=hS';clear hS'
   refine aE (aE (aE (aE (aE (aE (aE (aE (aE (aE (aE (aE (aE (aE (aE (aE (aE (aE (aE (aE (aE (aE (aE (aE (aE (aE (aE (aE (aE (aE (aE (aE (aE ?_))))))))))))))))))))))))))))))))
   refine aE (aE (aE (aE (aE (aE (aE (aE (aE (aE (aE (aE (aE (aE (bV (XF.thenN (nN rfl (bQ ?_)))))))))))))))))
   exact XF.join [(2,.pointer (some ⟨B1,0,none⟩)),(3,.pointer (some ⟨B2,0,none⟩)),(6,.int .i64 (vl:Int))] ⟨rfl,rfl,rfl,trivial⟩ ⟨rfl,by unfold jH;dsimp only;rw [if_neg (by rw [hf];simp),if_neg (by rw [hg];simp),if_neg (by rw [hoe,hee];simp),if_neg (fun h=>h.1 hkk),if_neg (fun h=>h.2 hk8)],hS.clear⟩
  ·have hoe:=kN hy1 hy2
   rw [← ef,← et] at hoe
   obtain ⟨ob,oo,z1,rfl,hz1,hzc1⟩:=ho.get (i:=kf) (by omega)
   obtain ⟨ob2,oo2,z2,e2,hz2,hzc2⟩:=ho.get (i:=kt) (by omega)
   cases e2
   obtain rfl:y1=z1:=Option.some.inj (hy1.symm.trans hz1)
   obtain rfl:y2=z2:=Option.some.inj (hy2.symm.trans hz2)
   have k3:=(aM.agree hS.agree (Nat.zero_le _) hzc1).1
   have k4:=(aM.agree hS.agree (Nat.zero_le _) hzc2).1
   refine fK (m:=47) bG hS (by kernel_rfl) (by kernel_rfl) rfl (bZ 1 rfl 3 rfl rfl (fun w hw=>aO (o':=0) cO rfl rfl) rfl (aZ 2 rfl 13 0 rfl rfl rfl (fun w hw=>aS isAgg3 rfl ((aJ hw 0).cell (Nat.zero_le _) (aI (hS.at_ 0 rfl) rfl))) rfl (bZ 3 rfl 5 rfl rfl (fun w hw=>aW rfl) rfl ?_)))
   refine aD 4 rfl (isV (.bool true)) (aB _) (cH [isV _,isV _] rfl cB (aP rfl) ⟨bO (aG 1 (aA rfl rfl rfl)),bO (aG 2 (aA rfl rfl rfl)),trivial⟩ (fun vs w' hb hh=>by have e:=bN (us:=[_,_]) hh;subst e;exact (eB s.f _ _).mono fun e w2 h=>⟨_,by rw [h.1,hf],rfl,h.2⟩) (aC rfl)) ?_
   refine aZ 5 rfl 16 3 rfl rfl rfl (fun w hw=>dM rfl) rfl (aZ 6 rfl 17 4 rfl rfl rfl (fun w hw=>aW rfl) rfl (aD 7 rfl (isV _) (aB _) (rgV (li:=[(3,_)]) rfl (aN 18 rfl (aA rfl rfl rfl)) ⟨bB rfl,trivial⟩ (fun w hw=>aO (o':=1) cU rfl rfl) (aC rfl)) (aD 8 rfl (isV _) (aB _) (rgV (li:=[(19,_)]) rfl (aN 18 rfl (aA rfl rfl rfl)) ⟨aG 6 (aA rfl rfl rfl),trivial⟩ (fun w hw=>aS isAgg3 rfl ((aJ hw 0).cell (Nat.zero_le _) (aI (hS.at_ 0 rfl) rfl))) (aC rfl)) (aD 9 rfl (isV _) (aB _) (rgV (li:=[(5,_)]) rfl (aN 18 rfl (aA rfl rfl rfl)) ⟨bB rfl,trivial⟩ (fun w hw=>aW rfl) (aC rfl)) ?_))))
   refine aD 10 rfl (isV (.bool true)) (aB _) (cH [isV _,isV _] rfl cB (aN 18 rfl (aA rfl rfl rfl)) ⟨bO (aG 7 (aA rfl rfl rfl)),bO (aG 8 (aA rfl rfl rfl)),trivial⟩ (fun vs w' hb hh=>by have e:=bN (us:=[_,_]) hh;subst e;exact (eB s.t _ _).mono fun e w2 h=>⟨_,by rw [h.1,hg],rfl,h.2⟩) (aC rfl)) ?_
   refine aD 11 rfl (isV _) (aB _) (rgV (li:=[(22,_)]) rfl (aN 18 rfl (aA rfl rfl rfl)) ⟨aG 9 (aA rfl rfl rfl),trivial⟩ (fun w hw=>dM rfl) (aC rfl)) (aD 12 rfl (isV _) (aB _) (rgV (li:=[(18,_),(23,_)]) rfl (aP rfl) ⟨aG 5 (aA rfl rfl rfl),aG 10 (aA rfl rfl rfl),trivial⟩ (fun w hw=>bX rfl rfl) (aC rfl)) (aZ 13 rfl 24 11 rfl rfl rfl (fun w hw=>aW rfl) rfl (aD 14 rfl (isV _) (aB _) (rgV (li:=[(2,_)]) rfl (aN 25 rfl (aA rfl rfl rfl)) ⟨bB rfl,trivial⟩ (fun w hw=>aO (o':=5) cA rfl rfl) (aC rfl)) (aD 15 rfl (isV _) (aB _) (rgV (li:=[(26,_)]) rfl (aN 25 rfl (aA rfl rfl rfl)) ⟨aG 13 (aA rfl rfl rfl),trivial⟩ (fun w hw=>aS isAgg23 rfl ((aJ hw 0).cell (Nat.zero_le _) (aI (hS.at_ 1 rfl) rfl))) (aC rfl)) (aD 16 rfl (isV _) (aB _) (rgV (li:=[(3,_)]) rfl (aN 25 rfl (aA rfl rfl rfl)) ⟨bB rfl,trivial⟩ (fun w hw=>aO (o':=0) cO rfl rfl) (aC rfl)) (aD 17 rfl (isV _) (aB _) (rgV (li:=[(28,_)]) rfl (aN 25 rfl (aA rfl rfl rfl)) ⟨aG 15 (aA rfl rfl rfl),trivial⟩ (fun w hw=>aS isAgg3 rfl ((aJ hw 0).cell (Nat.zero_le _) (aI (hS.at_ 0 rfl) rfl))) (aC rfl)) (aD 18 rfl (isV _) (aB _) (rgV (li:=[(27,_),(29,_)]) rfl (aN 25 rfl (aA rfl rfl rfl)) ⟨aG 14 (aA rfl rfl rfl),aG 16 (aA rfl rfl rfl),trivial⟩ (fun w hw=>bH (j:=kf) underlying23 sizeOf3 rfl rfl (by omega) (by omega) rfl) (aC rfl)) (aD 19 rfl (isV _) (aB _) (rgV (li:=[(30,_)]) rfl (aN 25 rfl (aA rfl rfl rfl)) ⟨aG 17 (aA rfl rfl rfl),trivial⟩ (fun w hw=>aS isAgg3 rfl ((aJ hw 0).cell (Nat.zero_le _) (k3))) (aC rfl)) (aD 20 rfl (isV _) (aB _) (rgV (li:=[(2,_)]) rfl (aN 25 rfl (aA rfl rfl rfl)) ⟨bB rfl,trivial⟩ (fun w hw=>aO (o':=5) cA rfl rfl) (aC rfl)) (aD 21 rfl (isV _) (aB _) (rgV (li:=[(32,_)]) rfl (aN 25 rfl (aA rfl rfl rfl)) ⟨aG 19 (aA rfl rfl rfl),trivial⟩ (fun w hw=>aS isAgg23 rfl ((aJ hw 0).cell (Nat.zero_le _) (aI (hS.at_ 1 rfl) rfl))) (aC rfl)) (aD 22 rfl (isV _) (aB _) (rgV (li:=[(3,_)]) rfl (aN 25 rfl (aA rfl rfl rfl)) ⟨bB rfl,trivial⟩ (fun w hw=>aO (o':=1) cU rfl rfl) (aC rfl)) (aD 23 rfl (isV _) (aB _) (rgV (li:=[(34,_)]) rfl (aN 25 rfl (aA rfl rfl rfl)) ⟨aG 21 (aA rfl rfl rfl),trivial⟩ (fun w hw=>aS isAgg3 rfl ((aJ hw 0).cell (Nat.zero_le _) (aI (hS.at_ 0 rfl) rfl))) (aC rfl)) (aD 24 rfl (isV _) (aB _) (rgV (li:=[(33,_),(35,_)]) rfl (aN 25 rfl (aA rfl rfl rfl)) ⟨aG 20 (aA rfl rfl rfl),aG 22 (aA rfl rfl rfl),trivial⟩ (fun w hw=>bH (j:=kt) underlying23 sizeOf3 rfl rfl (by omega) (by omega) rfl) (aC rfl)) (aD 25 rfl (isV _) (aB _) (rgV (li:=[(36,_)]) rfl (aN 25 rfl (aA rfl rfl rfl)) ⟨aG 23 (aA rfl rfl rfl),trivial⟩ (fun w hw=>aS isAgg3 rfl ((aJ hw 0).cell (Nat.zero_le _) (k4))) (aC rfl)) (aD 26 rfl (isV (.bool false)) (aB _) (fD (li:=[(31,_),(37,_)]) rfl (aN 25 rfl (aA rfl rfl rfl)) ⟨aG 18 (aA rfl rfl rfl),aG 24 (aA rfl rfl rfl),trivial⟩ (fun w hw=>dX rfl rfl) (by rw [decide_eq_false (not_not_intro hee)]) (aC rfl)) (aD 27 rfl (isV _) (aB _) (rgV (li:=[(25,_),(38,_)]) rfl (aP rfl) ⟨aG 12 (aA rfl rfl rfl),aG 25 (aA rfl rfl rfl),trivial⟩ (fun w hw=>bX rfl rfl) (aC rfl)) (aZ 28 rfl 39 26 rfl rfl rfl (fun w hw=>aW rfl) rfl (aD 29 rfl (isV _) (aB _) (rgV (li:=[(3,_)]) rfl (aN 40 rfl (aA rfl rfl rfl)) ⟨bB rfl,trivial⟩ (fun w hw=>aO (o':=5) fU rfl rfl) (aC rfl)) (aD 30 rfl (isV _) (aB _) (rgV (li:=[(41,_)]) rfl (aN 40 rfl (aA rfl rfl rfl)) ⟨aG 28 (aA rfl rfl rfl),trivial⟩ (fun w hw=>aS isAgg2 rfl ((aJ hw 0).cell (Nat.zero_le _) (aI (hS.at_ 0 rfl) rfl))) (aC rfl)) (aD 31 rfl (isV (.bool true)) (aB _) (fD (li:=[(42,_)]) rfl (aN 40 rfl (aA rfl rfl rfl)) ⟨aG 29 (aA rfl rfl rfl),trivial⟩ (fun w hw=>dX rfl rfl) (by rw [decide_eq_true hkk]) (aC rfl)) (aD 32 rfl (isV _) (aB _) (rgV (li:=[(43,_)]) rfl (aN 40 rfl (aA rfl rfl rfl)) ⟨aG 30 (aA rfl rfl rfl),trivial⟩ (fun w hw=>aW rfl) (aC rfl)) (aD 33 rfl (isV _) (aB _) (rgV (li:=[(3,_)]) rfl (aN 44 rfl (aA rfl rfl rfl)) ⟨bB rfl,trivial⟩ (fun w hw=>aO (o':=2) dQ rfl rfl) (aC rfl)) (aD 34 rfl (isV _) (aB _) (rgV (li:=[(45,_)]) rfl (aN 44 rfl (aA rfl rfl rfl)) ⟨aG 32 (aA rfl rfl rfl),trivial⟩ (fun w hw=>aS isAgg77 rfl ((aJ hw 0).cell (Nat.zero_le _) (aI (hS.at_ 0 rfl) rfl))) (aC rfl)) (aD 35 rfl (isV (.bool false)) (aB _) (fD (li:=[(46,_)]) rfl (aN 44 rfl (aA rfl rfl rfl)) ⟨aG 33 (aA rfl rfl rfl),trivial⟩ (fun w hw=>dX rfl rfl) (by rw [decide_eq_false (not_not_intro hk2)]) (aC rfl)) (aD 36 rfl (isV _) (aB _) (rgV (li:=[(44,_),(47,_)]) rfl (aN 40 rfl (aA rfl rfl rfl)) ⟨aG 31 (aA rfl rfl rfl),aG 34 (aA rfl rfl rfl),trivial⟩ (fun w hw=>cI rfl rfl) (aC rfl)) (aD 37 rfl (isV _) (aB _) (rgV (li:=[(40,_),(48,_)]) rfl (aP rfl) ⟨aG 27 (aA rfl rfl rfl),aG 35 (aA rfl rfl rfl),trivial⟩ (fun w hw=>bX rfl rfl) (aC rfl)) (aZ 38 rfl 49 36 rfl rfl rfl (fun w hw=>aW rfl) rfl (aD 39 rfl (isV _) (aB _) (rgV (li:=[(3,_)]) rfl (aN 50 rfl (aA rfl rfl rfl)) ⟨bB rfl,trivial⟩ (fun w hw=>aO (o':=6) dI rfl rfl) (aC rfl)) (aD 40 rfl (isV _) (aB _) (rgV (li:=[(51,_)]) rfl (aN 50 rfl (aA rfl rfl rfl)) ⟨aG 38 (aA rfl rfl rfl),trivial⟩ (fun w hw=>aS isAgg3 rfl ((aJ hw 0).cell (Nat.zero_le _) (aI (hS.at_ 0 rfl) rfl))) (aC rfl)) (aD 41 rfl (isV (.bool false)) (aB _) (fD (li:=[(52,_)]) rfl (aN 50 rfl (aA rfl rfl rfl)) ⟨aG 39 (aA rfl rfl rfl),trivial⟩ (fun w hw=>dX rfl rfl) (by rw [decide_eq_false (not_not_intro hz)]) (aC rfl)) (aD 42 rfl (isV _) (aB _) (rgV (li:=[(53,_)]) rfl (aN 50 rfl (aA rfl rfl rfl)) ⟨aG 40 (aA rfl rfl rfl),trivial⟩ (fun w hw=>aW rfl) (aC rfl)) (aD 43 rfl (isV undef) (aB _) (aX rfl (aY 54 rfl (aA rfl rfl rfl) rfl) (aC rfl)) ?_))))))))))))))))))))))))))))))))
   refine aD 44 rfl (isV undef) (aB _) (aX rfl (aY 54 rfl (aA rfl rfl rfl) rfl) (aC rfl)) (aD 45 rfl (isV undef) (aB _) (aX rfl (aY 54 rfl (aA rfl rfl rfl) rfl) (aC rfl)) (aD 46 rfl (isV _) (aB _) (rgV (li:=[(54,_)]) rfl (aN 50 rfl (aA rfl rfl rfl)) ⟨aG 41 (aA rfl rfl rfl),trivial⟩ (fun w hw=>bX rfl rfl) (aC rfl)) (aD 47 rfl (isV _) (aB _) (rgV (li:=[(50,_),(58,_)]) rfl (aP rfl) ⟨aG 37 (aA rfl rfl rfl),aG 45 (aA rfl rfl rfl),trivial⟩ (fun w hw=>bX rfl rfl) (aC rfl)) (dF ?_))))
   intro W23 hbR hS'
   clear hS;have hS:=hS';clear hS'
   refine aE (aE (aE (aE (aE (aE (aE (aE (aE (aE (aE (aE (aE (aE (aE (aE (aE (aE (aE (aE (aE (aE (aE (aE (aE (aE (aE (aE (aE (aE (aE (aE (aE ?_))))))))))))))))))))))))))))))))
   refine aE (aE (aE (aE (aE (aE (aE (aE (aE (aE (aE (aE (aE (aE (bV (XF.thenN (nN rfl (bQ ?_)))))))))))))))))
   exact XF.join [(2,.pointer (some ⟨B1,0,none⟩)),(3,.pointer (some ⟨B2,0,none⟩)),(6,.int .i64 (vl:Int))] ⟨rfl,rfl,rfl,trivial⟩ ⟨rfl,by unfold jH;dsimp only;rw [if_neg (by rw [hf];simp),if_neg (by rw [hg];simp),if_neg (by rw [hoe,hee];simp),if_neg (fun h=>h.2 hk2),if_neg (fun h=>h.1 hz)],hS.clear⟩
theorem yD:cL prog 44=true:=by kernel_rfl
theorem yE:cL prog 45=true:=by kernel_rfl
theorem Dc (va:Option Addr) (vl:Nat) (vc:Nat) (pa:Option Addr) (pl:Nat) (pc:Nat) (ea:Option Addr) (el:Nat) (ec:Nat) (es:List Int) (xa:Option Addr) (xl:Nat) (xc:Nat) (xs:List Int) (mn:Int) (oa:Option Addr) (ol:Nat) (oc:Nat) (os:List Int) (sa:Option Addr) (sl:Nat) (sc:Nat) (ss:List gr_TV) (ta:Option Addr) (tl:Nat) (tc:Nat) (ts:List UV) (na:Option Addr) (nl:Nat) (nc:Nat) (ns:List NV) (ka:Option Addr) (kl:Nat) (kc:Nat) (ks:List KV) (w:World) (he:dS w ea es) (hel:es.length=el) (hx:dS w xa xs) (hxl:xs.length=xl) (ho:dS w oa os) (hol:os.length=ol) (hs:dB gr_TV.sev 7 w sa ss) (hsl:ss.length=sl) (ht:dB UV.four 4 w ta ts) (htl:ts.length=tl) (hn:dB NV.two 2 w na ns) (hnl:ns.length=nl) (hk:dB KV.two 2 w ka ks) (hkl:ks.length=kl) (b1:vl≤5000) (b2:pl≤5000) (b3:el≤5000) (b4:xl≤5000) (b5:ol≤5000) (b6:sl≤5000) (b7:tl≤5000) (b8:nl≤5000) (b9:kl≤5000) :
  Calls prog 30 #[.agg #[.slice va vl vc,.slice pa pl pc,.slice ea el ec,.slice xa xl xc,.int .i64 mn,.slice oa ol oc,.slice sa sl sc,.slice ta tl tc,.slice na nl nc,.slice ka kl kc]] w (fun e w'=>e = .returned (.int .i64 (gr_checkE ⟨va,vl,vc,pa,pl,pc,ea,el,ec,es,xa,xl,xc,xs,mn,oa,ol,oc,os,sa,sl,sc,ss,ta,tl,tc,ts,na,nl,nc,ns,ka,kl,kc,ks⟩))∧Below w.heap.size w w'):=by
 refine cS (args:=[.agg #[.slice va vl vc,.slice pa pl pc,.slice ea el ec,.slice xa xl xc,.int .i64 mn,.slice oa ol oc,.slice sa sl sc,.slice ta tl tc,.slice na nl nc,.slice ka kl kc]]) func30 rfl ntmps30 rfl ?_
 have hS:=St.start w
 refine aR (aU (cR (cs:=[_,_,_,_,_,_,_,_,_,_]) hS rfl rfl rfl fun B1 W1 hS=>aK rfl rfl (aT (XF.thenN (aR (aR (aU (bF (vs:=[_,_,_,_,_,_,_,_,_,_]) isAgg29 sizeOf29 rfl (aM.own (j:=0) (m:=10) (hS.at_ 0 rfl) rfl) rfl (cD (vs:=[_]) hS yD rfl (Db _ vl vc _ pl pc _ el ec es _ xl xc xs mn _ ol oc os _ sl sc ss _ tl tc ts _ nl nc ns _ kl kc ks  _ (he.below hS.below) hel (hx.below hS.below) hxl (ho.below hS.below) hol (hs.below hS.below) hsl (ht.below hS.below) htl (hn.below hS.below) hnl (hk.below hS.below) hkl b1 b2 b3 b4 b5 b6 b7 b8 b9) rfl fun W2 hS=>eX rfl rfl (aT (XF.thenN (bJ rfl (fun hc=>?_) (fun hc=>?_)))))))))))))
 ·have hc9:=hc;clear hc
  refine aR (aU (aK rfl rfl (aT (XF.thenN (bP (XF.thenR (XF.res (cG results30 rfl) ?_)))))))
  exact ⟨eD (C9 (g:=⟨va,vl,vc,pa,pl,pc,ea,el,ec,es,xa,xl,xc,xs,mn,oa,ol,oc,os,sa,sl,sc,ss,ta,tl,tc,ts,na,nl,nc,ns,ka,kl,kc,ks⟩) (by simpa using hc9)).symm,hS.below⟩
 ·have hc9:=hc;clear hc
  have hhd:fJ ⟨va,vl,vc,pa,pl,pc,ea,el,ec,es,xa,xl,xc,xs,mn,oa,ol,oc,os,sa,sl,sc,ss,ta,tl,tc,ts,na,nl,nc,ns,ka,kl,kc,ks⟩=true:=by simpa using hc9
  refine bQ (XF.thenN (aR (aU (aK rfl rfl (aT (XF.thenN (aR (aR (aU (aK rfl rfl (aT (XF.thenN (bR (eI (fun m l W=>∃ i n:Nat,i≤sl∧n≤i∧m=sl - i∧l=[(1,.pointer (some ⟨B1,0,none⟩)),(3,.int .i64 (n:Int)),(4,.int .i64 (i:Int))]∧fF ⟨va,vl,vc,pa,pl,pc,ea,el,ec,es,xa,xl,xc,xs,mn,oa,ol,oc,os,sa,sl,sc,ss,ta,tl,tc,ts,na,nl,nc,ns,ka,kl,kc,ks⟩ (ss.drop i) n=fF ⟨va,vl,vc,pa,pl,pc,ea,el,ec,es,xa,xl,xc,xs,mn,oa,ol,oc,os,sa,sl,sc,ss,ta,tl,tc,ts,na,nl,nc,ns,ka,kl,kc,ks⟩ ss 0∧St w [(B1,[.slice va vl vc,.slice pa pl pc,.slice ea el ec,.slice xa xl xc,.int .i64 mn,.slice oa ol oc,.slice sa sl sc,.slice ta tl tc,.slice na nl nc,.slice ka kl kc],29)] [] [] W) (sl - 0) ([(1,_),(3,_),(4,_)]) ⟨rfl,rfl,rfl,trivial⟩ (⟨0,0,Nat.zero_le _,Nat.le_refl _,rfl,rfl,rfl,hS.clear⟩) ?_))))))))))))))
  clear hS
  rintro m l W ⟨i,n,hi,hni,rfl,rfl,hrun,hS⟩
  refine aR (aR (aU (aL rfl rfl (aQ (o':=6) eF rfl rfl rfl (aV isAgg24 rfl (aI (hS.at_ 0 rfl) rfl) rfl (bU underlying24 rfl rfl (dA rfl rfl rfl (aT (XF.thenN (bJ rfl (fun hc=>?_) (fun hc=>?_)))))))))))
  ·have hc14:=of_decide_eq_true hc;clear hc
   have hk1:i < sl:=by omega
   obtain ⟨b,off,s,rfl,hy,hyc⟩:=hs.get (i:=i) (by omega)
   have k1:=aM.agree hS.agree (Nat.zero_le _) hyc
   rw [nX hy] at hrun
   simp only [fF] at hrun
   rw [step_eq] at hrun
   refine bQ (XF.thenN (aR (bR (aR (aR (fK (m:=8) bG hS (by kernel_rfl) (by kernel_rfl) rfl (bZ 1 rfl 1 rfl rfl (fun w hw=>cJ (vs:=[_,_,_,_,_,_,_,_,_,_]) isAgg29 sizeOf29 rfl (aM.agree (aJ hw 0) (Nat.zero_le _) (aM.own (j:=0) (m:=10) (hS.at_ 0 rfl) rfl))) rfl (bZ 2 rfl 1 rfl rfl (fun w hw=>aO (o':=6) eF rfl rfl) rfl (aZ 3 rfl 18 1 rfl rfl rfl (fun w hw=>aS isAgg24 rfl ((aJ hw 0).cell (Nat.zero_le _) (aI (hS.at_ 0 rfl) rfl))) rfl (bZ 4 rfl 4 rfl rfl (fun w hw=>aW rfl) rfl (aD 5 rfl (isV _) (aB _) (rgV (li:=[(19,_),(20,_)]) rfl (aP rfl) ⟨aG 2 (aA rfl rfl rfl),aG 3 (aA rfl rfl rfl),trivial⟩ (fun w hw=>bH  underlying24 sizeOf79 rfl rfl rfl (by omega) rfl) (aC rfl)) (aZ 6 rfl 21 4 rfl rfl rfl (fun w hw=>cJ (vs:=[_,_,_,_,_,_,_]) isAgg79 sizeOf79 rfl (aM.agree (aJ hw 0) (Nat.zero_le _) (k1))) rfl ?_))))))))))))
   refine aD 7 rfl (isV (.bool (jH ⟨va,vl,vc,pa,pl,pc,ea,el,ec,es,xa,xl,xc,xs,mn,oa,ol,oc,os,(some ⟨b,off,none⟩),sl,sc,ss,ta,tl,tc,ts,na,nl,nc,ns,ka,kl,kc,ks⟩ s))) (aB _) (cH [isV _,isV _] rfl yE (aP rfl) ⟨bO (aG 0 (aA rfl rfl rfl)),bO (aG 5 (aA rfl rfl rfl)),trivial⟩ (fun vs w' hb hh=>by have e:=bN (us:=[_,_]) hh;subst e;exact (yC _ vl vc _ pl pc _ el ec es _ xl xc xs mn _ ol oc os _ sl sc ss _ tl tc ts _ nl nc ns _ kl kc ks s _ (he.below (hS.below.trans (hb.mono hS.below.size))) hel (hx.below (hS.below.trans (hb.mono hS.below.size))) hxl (ho.below (hS.below.trans (hb.mono hS.below.size))) hol (hs.below (hS.below.trans (hb.mono hS.below.size))) hsl (ht.below (hS.below.trans (hb.mono hS.below.size))) htl (hn.below (hS.below.trans (hb.mono hS.below.size))) hnl (hk.below (hS.below.trans (hb.mono hS.below.size))) hkl b1 b2 b3 b4 b5 b6 b7 b8 b9).mono fun e w2 h=>⟨_,h.1,rfl,h.2⟩) (aC rfl)) ?_
   refine aZ 8 rfl 23 6 rfl rfl rfl (fun w hw=>dM rfl) rfl (dF ?_)
   intro W3 hbR hS'
   clear hS;have hS:=hS';clear hS'
   refine aE (aE (aE (aE (aE (aE (aE (aE (bV (XF.thenN (bJ rfl (fun hc=>?_) (fun hc=>?_)))))))))))
   ·have hc24:=hc;clear hc
    rw [show jH ⟨va,vl,vc,pa,pl,pc,ea,el,ec,es,xa,xl,xc,xs,mn,oa,ol,oc,os,(some ⟨b,off,none⟩),sl,sc,ss,ta,tl,tc,ts,na,nl,nc,ns,ka,kl,kc,ks⟩ s=false by simpa using hc24,Bool.false_and,if_neg (by simp)] at hrun
    refine aR (aU (aK rfl rfl (aT (XF.thenN (bP (XF.thenR (XF.blkR (XF.thenR (XF.thenR (XF.blkR (XF.thenR (XF.res (cG results30 rfl) ?_))))))))))))
    exact ⟨eD (rU (g:=⟨va,vl,vc,pa,pl,pc,ea,el,ec,es,xa,xl,xc,xs,mn,oa,ol,oc,os,(some ⟨b,off,none⟩),sl,sc,ss,ta,tl,tc,ts,na,nl,nc,ns,ka,kl,kc,ks⟩) (by unfold stepsB;dsimp only;rw [← hrun];simp)).symm,hS.below⟩
   ·have hc24:=hc;clear hc
    rw [show jH ⟨va,vl,vc,pa,pl,pc,ea,el,ec,es,xa,xl,xc,xs,mn,oa,ol,oc,os,(some ⟨b,off,none⟩),sl,sc,ss,ta,tl,tc,ts,na,nl,nc,ns,ka,kl,kc,ks⟩ s=true by simpa using hc24,Bool.true_and] at hrun
    have k1:=aM.agree hS.agree (Nat.zero_le _) hyc
    refine bQ (XF.thenN (aR (aU (aQ (o':=6) eF rfl rfl rfl (aV isAgg24 rfl (aI (hS.at_ 0 rfl) rfl) rfl (aL rfl rfl (cP  underlying24 sizeOf79 rfl rfl rfl (by omega) rfl rfl (aQ dQ rfl rfl rfl (aV isAgg77 rfl (k1.2.2.1) rfl (bW rfl rfl rfl (aT (XF.thenN (bJ rfl (fun hc=>?_) (fun hc=>?_))))))))))))))
    ·have hc31:=of_decide_eq_true hc;clear hc
     have h8:s.k=8:=hc31
     rw [decide_eq_false (not_not_intro h8),Bool.false_or,if_pos h8] at hrun
     refine aR (aR (aU (aQ (o':=6) eF rfl rfl rfl (aV isAgg24 rfl (aI (hS.at_ 0 rfl) rfl) rfl (aL rfl rfl (cP  underlying24 sizeOf79 rfl rfl rfl (by omega) rfl rfl (aQ dI rfl rfl rfl (aV isAgg3 rfl (k1.2.2.2.2.2.2.1) rfl (aL rfl rfl (cW rfl rfl rfl (aT (XF.thenN (bJ rfl (fun hc=>?_) (fun hc=>?_))))))))))))))
     ·have hc39:=of_decide_eq_true hc;clear hc
      rw [decide_eq_false hc39,if_neg (by simp)] at hrun
      refine aR (aU (aK rfl rfl (aT (XF.thenN (bP (XF.thenR (XF.blkR (XF.thenR (XF.thenR (XF.blkR (XF.thenR (XF.res (cG results30 rfl) ?_))))))))))))
      exact ⟨eD (rU (g:=⟨va,vl,vc,pa,pl,pc,ea,el,ec,es,xa,xl,xc,xs,mn,oa,ol,oc,os,(some ⟨b,off,none⟩),sl,sc,ss,ta,tl,tc,ts,na,nl,nc,ns,ka,kl,kc,ks⟩) (by unfold stepsB;dsimp only;rw [← hrun];simp)).symm,hS.below⟩
     ·have hc39:=of_decide_eq_false hc;clear hc
      rw [decide_eq_true (Decidable.of_not_not hc39),if_pos (rfl:true=true)] at hrun
      refine bQ (XF.thenN (aU (aL rfl rfl (dH rfl rfl (IntWalk.i64_in _ (by omega)) rfl (aK rfl rfl (aT (XF.blkN (XF.thenN (aU (aL rfl rfl (dH rfl rfl (IntWalk.i64_in _ (by omega)) rfl (aK rfl rfl (aT ?_)))))))))))))
      exact XF.round (sl - (i+1)) [(1,_),(3,_),(4,_)] (by omega) ⟨rfl,rfl,rfl,trivial⟩ ⟨i+1,n+1,by omega,by omega,rfl,rfl,hrun,hS.clear⟩
    ·have hc31:=of_decide_eq_false hc;clear hc
     have h8:¬ s.k=8:=hc31
     rw [decide_eq_true (show s.k≠8 from h8),Bool.true_or,if_pos (rfl:true=true),if_neg h8] at hrun
     refine bQ (XF.blkN (XF.thenN (aU (aL rfl rfl (dH rfl rfl (IntWalk.i64_in _ (by omega)) rfl (aK rfl rfl (aT ?_)))))))
     exact XF.round (sl - (i+1)) [(1,_),(3,_),(4,_)] (by omega) ⟨rfl,rfl,rfl,trivial⟩ ⟨i+1,n,by omega,by omega,rfl,rfl,hrun,hS.clear⟩
  ·have hc14:=of_decide_eq_false hc;clear hc
   rw [List.drop_of_length_le (by omega)] at hrun
   simp only [fF] at hrun
   refine cZ (XF.thenX (XF.thenX (XF.blkX (XF.thenN (aR (aR (aU (aL rfl rfl (aQ (o':=7) cX rfl rfl rfl (aV isAgg25 rfl (aI (hS.at_ 0 rfl) rfl) rfl (bU underlying25 rfl rfl (cW rfl rfl rfl (aT (XF.thenN (bJ rfl (fun hc=>?_) (fun hc=>?_))))))))))))))))
   ·have hc46:=of_decide_eq_true hc;clear hc
    refine aR (aU (aK rfl rfl (aT (XF.thenN (bP (XF.thenR (XF.res (cG results30 rfl) ?_)))))))
    exact ⟨eD (rU (g:=⟨va,vl,vc,pa,pl,pc,ea,el,ec,es,xa,xl,xc,xs,mn,oa,ol,oc,os,sa,sl,sc,ss,ta,tl,tc,ts,na,nl,nc,ns,ka,kl,kc,ks⟩) (by unfold stepsB;dsimp only;rw [← hrun];exact decide_eq_false (fun h=>by have:=Option.some.inj h;omega))).symm,hS.below⟩
   ·have hc46:=of_decide_eq_false hc;clear hc
    have hst:stepsB ⟨va,vl,vc,pa,pl,pc,ea,el,ec,es,xa,xl,xc,xs,mn,oa,ol,oc,os,sa,sl,sc,ss,ta,tl,tc,ts,na,nl,nc,ns,ka,kl,kc,ks⟩=true:=by unfold stepsB;dsimp only;rw [← hrun];exact decide_eq_true (by congr 1;omega)
    refine bQ (XF.thenN (aR (aR (aU (aK rfl rfl (aT (XF.thenN (bR (eI (fun m l W=>∃ i:Nat,i≤nl∧m=nl - i∧l=[(1,.pointer (some ⟨B1,0,none⟩)),(5,.int .i64 (i:Int))]∧(ns.take i).all (fun u=>gr_inQ u.nd ol)=true∧St w [(B1,[.slice va vl vc,.slice pa pl pc,.slice ea el ec,.slice xa xl xc,.int .i64 mn,.slice oa ol oc,.slice sa sl sc,.slice ta tl tc,.slice na nl nc,.slice ka kl kc],29)] [] [] W) (nl - 0) ([(1,_),(5,_)]) ⟨rfl,rfl,trivial⟩ (⟨0,Nat.zero_le _,rfl,rfl,rfl,hS.clear⟩) ?_)))))))))
    clear hS
    rintro m l W ⟨i,hi,rfl,rfl,hns,hS⟩
    refine aR (aR (aU (aL rfl rfl (aQ (o':=8) lL rfl rfl rfl (aV isAgg26 rfl (aI (hS.at_ 0 rfl) rfl) rfl (bU underlying26 rfl rfl (dA rfl rfl rfl (aT (XF.thenN (bJ rfl (fun hc=>?_) (fun hc=>?_)))))))))))
    ·have hc51:=of_decide_eq_true hc;clear hc
     have hk1:i < nl:=by omega
     obtain ⟨b,off,u,rfl,hy,hyc⟩:=hn.get (i:=i) (by omega)
     have k1:=aM.agree hS.agree (Nat.zero_le _) hyc
     refine bQ (XF.thenN (aR (bR (aR (fK (m:=11) bG hS (by kernel_rfl) (by kernel_rfl) rfl (bZ 1 rfl 1 rfl rfl (fun w hw=>aO (o':=8) lL rfl rfl) rfl (aZ 2 rfl 54 0 rfl rfl rfl (fun w hw=>aS isAgg26 rfl ((aJ hw 0).cell (Nat.zero_le _) (aI (hS.at_ 0 rfl) rfl))) rfl (bZ 3 rfl 5 rfl rfl (fun w hw=>aW rfl) rfl (aD 4 rfl (isV _) (aB _) (rgV (li:=[(55,_),(56,_)]) rfl (aP rfl) ⟨aG 1 (aA rfl rfl rfl),aG 2 (aA rfl rfl rfl),trivial⟩ (fun w hw=>bH  underlying26 sizeOf115 rfl rfl rfl (by omega) rfl) (aC rfl)) (aZ 5 rfl 57 3 rfl rfl rfl (fun w hw=>aO qG rfl rfl) rfl (aZ 6 rfl 58 4 rfl rfl rfl (fun w hw=>aS isAgg3 rfl ((aJ hw 0).cell (Nat.zero_le _) (k1.2.1))) rfl (bZ 7 rfl 1 rfl rfl (fun w hw=>aO (o':=5) cA rfl rfl) rfl (aZ 8 rfl 60 6 rfl rfl rfl (fun w hw=>aS isAgg23 rfl ((aJ hw 0).cell (Nat.zero_le _) (aI (hS.at_ 0 rfl) rfl))) rfl (aZ 9 rfl 61 7 rfl rfl rfl (fun w hw=>eY underlying23 rfl) rfl ?_))))))))))))))
     refine aD 10 rfl (isV (.bool (gr_inQ u.nd ol))) (aB _) (cH [isV _,isV _] rfl cB (aP rfl) ⟨bO (aG 5 (aA rfl rfl rfl)),bO (aG 8 (aA rfl rfl rfl)),trivial⟩ (fun vs w' hb hh=>by have e:=bN (us:=[_,_]) hh;subst e;exact (eB u.nd ol _).mono fun e w2 h=>⟨_,h.1,rfl,h.2⟩) (aC rfl)) ?_
     refine aZ 11 rfl 63 9 rfl rfl rfl (fun w hw=>dM rfl) rfl (dF ?_)
     intro W4 hbR hS'
     clear hS;have hS:=hS';clear hS'
     refine aE (aE (aE (aE (aE (aE (aE (aE (aE (aE (aE (bV (XF.thenN (bJ rfl (fun hc=>?_) (fun hc=>?_))))))))))))))
     ·have hc64:=hc;clear hc
      refine aR (aU (aK rfl rfl (aT (XF.thenN (bP (XF.blkR (XF.thenR (XF.thenR (XF.blkR (XF.thenR (XF.res (cG results30 rfl) ?_)))))))))))
      exact ⟨eD (Bn (g:=⟨va,vl,vc,pa,pl,pc,ea,el,ec,es,xa,xl,xc,xs,mn,oa,ol,oc,os,sa,sl,sc,ss,ta,tl,tc,ts,(some ⟨b,off,none⟩),nl,nc,ns,ka,kl,kc,ks⟩) (dR hy (by simpa using hc64))).symm,hS.below⟩
     ·have hc64:=hc;clear hc
      refine bQ (XF.blkN (XF.thenN (aU (aL rfl rfl (dH rfl rfl (IntWalk.i64_in _ (by omega)) rfl (aK rfl rfl (aT ?_)))))))
      exact XF.round (nl - (i+1)) [(1,_),(5,_)] (by omega) ⟨rfl,rfl,trivial⟩ ⟨i+1,by omega,rfl,rfl,eO hy hns (by simpa using hc64),hS.clear⟩
    ·have hc51:=of_decide_eq_false hc;clear hc
     rw [List.take_of_length_le (by omega)] at hns
     refine cZ (XF.thenX (XF.thenX (XF.blkX (XF.thenN (aR (aR (aU (aK rfl rfl (aT (XF.thenN (bR (eI (fun m l W=>∃ i:Nat,i≤kl∧m=kl - i∧l=[(1,.pointer (some ⟨B1,0,none⟩)),(6,.int .i64 (i:Int))]∧(ks.take i).all (fun u=>gr_inQ u.nd ol && gr_inQ u.x vl)=true∧St w [(B1,[.slice va vl vc,.slice pa pl pc,.slice ea el ec,.slice xa xl xc,.int .i64 mn,.slice oa ol oc,.slice sa sl sc,.slice ta tl tc,.slice na nl nc,.slice ka kl kc],29)] [] [] W) (kl - 0) ([(1,_),(6,_)]) ⟨rfl,rfl,trivial⟩ (⟨0,Nat.zero_le _,rfl,rfl,rfl,hS.clear⟩) ?_))))))))))))
     clear hS
     rintro m l W ⟨i,hi,rfl,rfl,hks,hS⟩
     refine aR (aR (aU (aL rfl rfl (aQ (o':=9) iV rfl rfl rfl (aV isAgg27 rfl (aI (hS.at_ 0 rfl) rfl) rfl (bU underlying27 rfl rfl (dA rfl rfl rfl (aT (XF.thenN (bJ rfl (fun hc=>?_) (fun hc=>?_)))))))))))
     ·have hc69:=of_decide_eq_true hc;clear hc
      have hk1:i < kl:=by omega
      obtain ⟨b,off,u,rfl,hy,hyc⟩:=hk.get (i:=i) (by omega)
      have k1:=aM.agree hS.agree (Nat.zero_le _) hyc
      refine bQ (XF.thenN (aR (bR (aR ?_))))
      rcases Bool.eq_false_or_eq_true (gr_inQ u.nd ol) with h50 | h50
      ·skip
       refine fK (m:=24) bG hS (by kernel_rfl) (by kernel_rfl) rfl (bZ 1 rfl 1 rfl rfl (fun w hw=>aO (o':=9) iV rfl rfl) rfl (aZ 2 rfl 72 0 rfl rfl rfl (fun w hw=>aS isAgg27 rfl ((aJ hw 0).cell (Nat.zero_le _) (aI (hS.at_ 0 rfl) rfl))) rfl (bZ 3 rfl 6 rfl rfl (fun w hw=>aW rfl) rfl (aD 4 rfl (isV _) (aB _) (rgV (li:=[(73,_),(74,_)]) rfl (aP rfl) ⟨aG 1 (aA rfl rfl rfl),aG 2 (aA rfl rfl rfl),trivial⟩ (fun w hw=>bH  underlying27 sizeOf117 rfl rfl rfl (by omega) rfl) (aC rfl)) (aZ 5 rfl 75 3 rfl rfl rfl (fun w hw=>aO mG rfl rfl) rfl (aZ 6 rfl 76 4 rfl rfl rfl (fun w hw=>aS isAgg3 rfl ((aJ hw 0).cell (Nat.zero_le _) (k1.2.1))) rfl (bZ 7 rfl 1 rfl rfl (fun w hw=>aO (o':=5) cA rfl rfl) rfl (aZ 8 rfl 78 6 rfl rfl rfl (fun w hw=>aS isAgg23 rfl ((aJ hw 0).cell (Nat.zero_le _) (aI (hS.at_ 0 rfl) rfl))) rfl (aZ 9 rfl 79 7 rfl rfl rfl (fun w hw=>eY underlying23 rfl) rfl ?_)))))))))
       refine aD 10 rfl (isV (.bool true)) (aB _) (cH [isV _,isV _] rfl cB (aP rfl) ⟨bO (aG 5 (aA rfl rfl rfl)),bO (aG 8 (aA rfl rfl rfl)),trivial⟩ (fun vs w' hb hh=>by have e:=bN (us:=[_,_]) hh;subst e;exact (eB u.nd _ _).mono fun e w2 h=>⟨_,by rw [h.1,h50],rfl,h.2⟩) (aC rfl)) ?_
       refine aZ 11 rfl 81 9 rfl rfl rfl (fun w hw=>dM rfl) rfl (aZ 12 rfl 82 10 rfl rfl rfl (fun w hw=>aW rfl) rfl (aD 13 rfl (isV _) (aB _) (rgV (li:=[(1,_)]) rfl (aN 83 rfl (aA rfl rfl rfl)) ⟨bB rfl,trivial⟩ (fun w hw=>aO (o':=9) iV rfl rfl) (aC rfl)) (aD 14 rfl (isV _) (aB _) (rgV (li:=[(84,_)]) rfl (aN 83 rfl (aA rfl rfl rfl)) ⟨aG 12 (aA rfl rfl rfl),trivial⟩ (fun w hw=>aS isAgg27 rfl ((aJ hw 0).cell (Nat.zero_le _) (aI (hS.at_ 0 rfl) rfl))) (aC rfl)) (aD 15 rfl (isV _) (aB _) (rgV (li:=[(6,_)]) rfl (aN 83 rfl (aA rfl rfl rfl)) ⟨bB rfl,trivial⟩ (fun w hw=>aW rfl) (aC rfl)) (aD 16 rfl (isV _) (aB _) (rgV (li:=[(85,_),(86,_)]) rfl (aN 83 rfl (aA rfl rfl rfl)) ⟨aG 13 (aA rfl rfl rfl),aG 14 (aA rfl rfl rfl),trivial⟩ (fun w hw=>bH  underlying27 sizeOf117 rfl rfl rfl (by omega) rfl) (aC rfl)) (aD 17 rfl (isV _) (aB _) (rgV (li:=[(87,_)]) rfl (aN 83 rfl (aA rfl rfl rfl)) ⟨aG 15 (aA rfl rfl rfl),trivial⟩ (fun w hw=>aO qH rfl (Nat.add_zero _)) (aC rfl)) (aD 18 rfl (isV _) (aB _) (rgV (li:=[(88,_)]) rfl (aN 83 rfl (aA rfl rfl rfl)) ⟨aG 16 (aA rfl rfl rfl),trivial⟩ (fun w hw=>aS isAgg3 rfl ((aJ hw 0).cell (Nat.zero_le _) (k1.1))) (aC rfl)) (aD 19 rfl (isV _) (aB _) (rgV (li:=[(1,_)]) rfl (aN 83 rfl (aA rfl rfl rfl)) ⟨bB rfl,trivial⟩ (fun w hw=>aO (o':=0) eE rfl rfl) (aC rfl)) (aD 20 rfl (isV _) (aB _) (rgV (li:=[(90,_)]) rfl (aN 83 rfl (aA rfl rfl rfl)) ⟨aG 18 (aA rfl rfl rfl),trivial⟩ (fun w hw=>aS isAgg22 rfl ((aJ hw 0).cell (Nat.zero_le _) (aI (hS.at_ 0 rfl) rfl))) (aC rfl)) (aD 21 rfl (isV _) (aB _) (rgV (li:=[(91,_)]) rfl (aN 83 rfl (aA rfl rfl rfl)) ⟨aG 19 (aA rfl rfl rfl),trivial⟩ (fun w hw=>eY underlying22 rfl) (aC rfl)) ?_))))))))))
       refine aD 22 rfl (isV (.bool (gr_inQ u.x vl))) (aB _) (cH [isV _,isV _] rfl cB (aN 83 rfl (aA rfl rfl rfl)) ⟨bO (aG 17 (aA rfl rfl rfl)),bO (aG 20 (aA rfl rfl rfl)),trivial⟩ (fun vs w' hb hh=>by have e:=bN (us:=[_,_]) hh;subst e;exact (eB u.x vl _).mono fun e w2 h=>⟨_,h.1,rfl,h.2⟩) (aC rfl)) ?_
       refine aD 23 rfl (isV _) (aB _) (rgV (li:=[(93,_)]) rfl (aN 83 rfl (aA rfl rfl rfl)) ⟨aG 21 (aA rfl rfl rfl),trivial⟩ (fun w hw=>dM rfl) (aC rfl)) (aD 24 rfl (isV _) (aB _) (rgV (li:=[(83,_),(94,_)]) rfl (aP rfl) ⟨aG 11 (aA rfl rfl rfl),aG 22 (aA rfl rfl rfl),trivial⟩ (fun w hw=>bX rfl rfl) (aC rfl)) (dF ?_))
       intro W5 hbR hS'
       clear hS;have hS:=hS';clear hS'
       refine aE (aE (aE (aE (aE (aE (aE (aE (aE (aE (aE (aE (aE (aE (aE (aE (aE (aE (aE (aE (aE (aE (aE (aE (bV (XF.thenN (bJ rfl (fun hc=>?_) (fun hc=>?_)))))))))))))))))))))))))))
       ·have hc95:=hc;clear hc
        refine aR (aU (aK rfl rfl (aT (XF.thenN (bP (XF.blkR (XF.thenR (XF.thenR (XF.blkR (XF.thenR (XF.res (cG results30 rfl) ?_)))))))))))
        exact ⟨eD (vZ (g:=⟨va,vl,vc,pa,pl,pc,ea,el,ec,es,xa,xl,xc,xs,mn,oa,ol,oc,os,sa,sl,sc,ss,ta,tl,tc,ts,na,nl,nc,ns,(some ⟨b,off,none⟩),kl,kc,ks⟩) (dR hy (by rw [h50,show gr_inQ u.x vl=false by simpa using hc95];rfl))).symm,hS.below⟩
       ·have hc95:=hc;clear hc
        refine bQ (XF.blkN (XF.thenN (aU (aL rfl rfl (dH rfl rfl (IntWalk.i64_in _ (by omega)) rfl (aK rfl rfl (aT ?_)))))))
        exact XF.round (kl - (i+1)) [(1,_),(6,_)] (by omega) ⟨rfl,rfl,trivial⟩ ⟨i+1,by omega,rfl,rfl,eO hy hks (by rw [h50,show gr_inQ u.x vl=true by simpa using hc95];rfl),hS.clear⟩
      ·skip
       refine fK (m:=24) bG hS (by kernel_rfl) (by kernel_rfl) rfl (bZ 1 rfl 1 rfl rfl (fun w hw=>aO (o':=9) iV rfl rfl) rfl (aZ 2 rfl 72 0 rfl rfl rfl (fun w hw=>aS isAgg27 rfl ((aJ hw 0).cell (Nat.zero_le _) (aI (hS.at_ 0 rfl) rfl))) rfl (bZ 3 rfl 6 rfl rfl (fun w hw=>aW rfl) rfl (aD 4 rfl (isV _) (aB _) (rgV (li:=[(73,_),(74,_)]) rfl (aP rfl) ⟨aG 1 (aA rfl rfl rfl),aG 2 (aA rfl rfl rfl),trivial⟩ (fun w hw=>bH  underlying27 sizeOf117 rfl rfl rfl (by omega) rfl) (aC rfl)) (aZ 5 rfl 75 3 rfl rfl rfl (fun w hw=>aO mG rfl rfl) rfl (aZ 6 rfl 76 4 rfl rfl rfl (fun w hw=>aS isAgg3 rfl ((aJ hw 0).cell (Nat.zero_le _) (k1.2.1))) rfl (bZ 7 rfl 1 rfl rfl (fun w hw=>aO (o':=5) cA rfl rfl) rfl (aZ 8 rfl 78 6 rfl rfl rfl (fun w hw=>aS isAgg23 rfl ((aJ hw 0).cell (Nat.zero_le _) (aI (hS.at_ 0 rfl) rfl))) rfl (aZ 9 rfl 79 7 rfl rfl rfl (fun w hw=>eY underlying23 rfl) rfl ?_)))))))))
       refine aD 10 rfl (isV (.bool false)) (aB _) (cH [isV _,isV _] rfl cB (aP rfl) ⟨bO (aG 5 (aA rfl rfl rfl)),bO (aG 8 (aA rfl rfl rfl)),trivial⟩ (fun vs w' hb hh=>by have e:=bN (us:=[_,_]) hh;subst e;exact (eB u.nd _ _).mono fun e w2 h=>⟨_,by rw [h.1,h50],rfl,h.2⟩) (aC rfl)) ?_
       refine aZ 11 rfl 81 9 rfl rfl rfl (fun w hw=>dM rfl) rfl (aZ 12 rfl 82 10 rfl rfl rfl (fun w hw=>aW rfl) rfl (aD 13 rfl (isV undef) (aB _) (aX rfl (aY 83 rfl (aA rfl rfl rfl) rfl) (aC rfl)) (aD 14 rfl (isV undef) (aB _) (aX rfl (aY 83 rfl (aA rfl rfl rfl) rfl) (aC rfl)) (aD 15 rfl (isV undef) (aB _) (aX rfl (aY 83 rfl (aA rfl rfl rfl) rfl) (aC rfl)) (aD 16 rfl (isV undef) (aB _) (aX rfl (aY 83 rfl (aA rfl rfl rfl) rfl) (aC rfl)) (aD 17 rfl (isV undef) (aB _) (aX rfl (aY 83 rfl (aA rfl rfl rfl) rfl) (aC rfl)) (aD 18 rfl (isV undef) (aB _) (aX rfl (aY 83 rfl (aA rfl rfl rfl) rfl) (aC rfl)) (aD 19 rfl (isV undef) (aB _) (aX rfl (aY 83 rfl (aA rfl rfl rfl) rfl) (aC rfl)) (aD 20 rfl (isV undef) (aB _) (aX rfl (aY 83 rfl (aA rfl rfl rfl) rfl) (aC rfl)) (aD 21 rfl (isV undef) (aB _) (aX rfl (aY 83 rfl (aA rfl rfl rfl) rfl) (aC rfl)) (aD 22 rfl (isV undef) (aB _) (aX rfl (aY 83 rfl (aA rfl rfl rfl) rfl) (aC rfl)) (aD 23 rfl (isV undef) (aB _) (aX rfl (aY 83 rfl (aA rfl rfl rfl) rfl) (aC rfl)) (aZ 24 rfl 83 11 rfl rfl rfl (fun w hw=>cI rfl rfl) rfl (dF ?_))))))))))))))
       intro W6 hbR hS'
       clear hS;have hS:=hS';clear hS'
       refine aE (aE (aE (aE (aE (aE (aE (aE (aE (aE (aE (aE (aE (aE (aE (aE (aE (aE (aE (aE (aE (aE (aE (aE (bV (XF.thenN (eA rfl (aR (aU (aK rfl rfl (aT (XF.thenN (bP (XF.blkR (XF.thenR ?_))))))))))))))))))))))))))))))))))
       refine XF.thenR (XF.blkR (XF.thenR (XF.res (cG results30 rfl) ?_)))
       exact ⟨eD (vZ (g:=⟨va,vl,vc,pa,pl,pc,ea,el,ec,es,xa,xl,xc,xs,mn,oa,ol,oc,os,sa,sl,sc,ss,ta,tl,tc,ts,na,nl,nc,ns,(some ⟨b,off,none⟩),kl,kc,ks⟩) (dR hy (by rw [h50];rfl))).symm,hS.below⟩
     ·have hc69:=of_decide_eq_false hc;clear hc
      rw [List.take_of_length_le (by omega)] at hks
      refine cZ (XF.thenX (XF.thenX (XF.blkX (XF.thenN (aR (aU (aK rfl rfl (aT (XF.thenN (bP (XF.res (cG results30 rfl) ?_)))))))))))
      exact ⟨eD (Bm (g:=⟨va,vl,vc,pa,pl,pc,ea,el,ec,es,xa,xl,xc,xs,mn,oa,ol,oc,os,sa,sl,sc,ss,ta,tl,tc,ts,na,nl,nc,ns,ka,kl,kc,ks⟩) hhd hst hns hks).symm,hS.below⟩
theorem yF:cL prog 30=true:=by kernel_rfl
end
section
def Dd (c:Nat):Nat→Nat
 | 0=>0
 | m+1=>256 * Dd c m+c
def py (m x:Nat):Nat:=(x / 2 &&& Dd 85 m)+(x &&& Dd 85 m)
def y1 (b:Nat):Nat:=((b / 2) &&& 85)+(b &&& 85)
def z1 (b:Nat):Nat:=(y1 b / 4 &&& 51)+(y1 b &&& 51)
def v1 (b:Nat):Nat:=(z1 b / 16+z1 b) &&& 15
end
section
open Go.RowKit
theorem Bp {k:IntKind} {a b:Int} (h:a=b):Ending.returned (.int k a) = .returned (.int k b):=by rw [h]
theorem iR {a b:Bool} (h:a=b):Ending.returned (.bool a) = .returned (.bool b):=by rw [h]
theorem wC {n:Nat} (hn:n≤64):2 ^ n≤18446744073709551616:=Nat.pow_le_pow_right (by decide:1≤2) hn
theorem jW {n:Nat} (hn:n≤63):2 ^ n≤9223372036854775808:=Nat.pow_le_pow_right (by decide:1≤2) hn
theorem yG (k:Nat) (hk:k < 63):IntKind.u64.wrap (((2 ^ k:Nat):Int) * 2)=((2 ^ (k+1):Nat):Int):=by
 have h:=jW (show k+1≤63 by omega)
 rw [Nat.pow_succ] at *
 generalize 2 ^ k=q at *
 rw [IntKind.wrap_u64];omega
theorem Bq (i:Int) (hi:i≤63) (w:World):Calls prog 49 #[.int .i64 i] w fun e w'=>e = .returned (.int .u64 ((2 ^ i.toNat:Nat):Int))∧w=w':=by
 go_enter func49,ntmps49
 go_wp2_with fail
 go_loop [0,3] (fun j v=>∃ (k:Nat) (q:Int),k≤i.toNat∧q=i - (k:Int)∧j = .int .i64 q∧∃ p:Int,v = .int .u64 p∧Hid (((2 ^ k:Nat):Int)=p)) (fun j _=>(intOf j).toNat)
 case atStart=>exact ⟨0,i,Nat.zero_le _,by omega,rfl,1,rfl,rfl⟩
 case round =>
  obtain ⟨k,q,hk,hq,rfl,p,rfl,HP⟩:=hrel
  by_cases hlt:0 < q
  ·have HN:Hid (((2 ^ (k+1):Nat):Int)=IntKind.u64.wrap (p * 2)):=by show _=_;rw [← HP.out];exact (yG k (by omega)).symm
   have g:IntKind.i64.wrap (q - 1)=q - 1:=by simp [IntKind.wrap,IntKind.signed,IntKind.bits];omega
   go_wp2
   go_round
   case rel=>exact ⟨k+1,q - 1,by omega,by omega,by congr 1;omega,_,rfl,HN⟩
   case measure=>simp [intOf];omega
  ·have HE:Hid (p=((2 ^ i.toNat:Nat):Int)):=by show _=_;rw [← HP.out,show k=i.toNat by omega]
   go_wp2
   go_ret
   exact ⟨Bp HE.out,rfl⟩
def gE (w:World) (a:Option Addr) (vs:List Value):Prop :=
 vs=[]∨∃ b off,a=some ⟨b,off,none⟩∧∀ (i:Nat) v,vs[i]?=some v→w.cell? ⟨b,off+i,none⟩=some v
theorem oR {w:World} {p:Addr} {v:Value} (h:w.cell? p=some v):p.block < w.heap.size:=by
 unfold World.cell? at h
 rcases Nat.lt_or_ge p.block w.heap.size with h' | h'
 ·exact h'
 ·simp [Array.getElem?_eq_none h'] at h
theorem gE.below {w w':World} {a:Option Addr} {vs:List Value} (h:gE w a vs) (hb:Below w.heap.size w w'):gE w' a vs:=by
 rcases h with h | ⟨b,off,ha,hc⟩
 ·exact .inl h
 ·exact .inr ⟨b,off,ha,fun i v hi=>(hb.cell (p:=⟨b,off+i,none⟩) (oR (hc i v hi))).trans (hc i v hi)⟩
theorem gE.at_ {w:World} {a:Option Addr} {vs:List Value} (h:gE w a vs) {i:Nat} (hi:i < vs.length) :
  ∃ b off v,a=some ⟨b,off,none⟩∧vs[i]?=some v∧b < w.heap.size∧w.cell? ⟨b,off+i,none⟩=some v:=by
 rcases h with h | ⟨b,off,ha,hc⟩
 ·subst h;simp at hi
 ·have e:vs[i]?=some vs[i]:=by simp [hi]
  exact ⟨b,off,vs[i],ha,e,oR (hc i _ e),hc i _ e⟩
theorem gE.of_own {w:World} {base:Nat} {E:Nat} {v:Value} {n:Nat} {vs:List Value} (h:w.ownsRow base E 1 v n vs) :
  n=vs.length∧∃ a cap,v = .slice a vs.length cap∧gE w a vs∧∀ ad,a=some ad→base≤ad.block∧ad.block < w.heap.size:=by
 have hl:=h.1
 have hn:n=vs.length:=by omega
 refine ⟨hn,?_⟩
 rcases h.2 with ⟨rfl,h0⟩ | ⟨g,cap,cur,rfl,hg,hh,hnc,hcm,hcs,ht⟩
 ·have:vs=[]:=List.length_eq_zero_iff.1 (by omega)
  subst this
  exact ⟨none,0,rfl,.inl rfl,fun ad e=>by cases e⟩
 ·subst hn
  refine ⟨some ⟨g,0,none⟩,cap,rfl,.inr ⟨g,0,rfl,fun i x hi=>?_⟩,fun ad e=>by cases e;exact ⟨hg,(Array.getElem?_eq_some_iff.1 hh).1⟩⟩
  have hi2:i < vs.length:=(List.getElem?_eq_some_iff.1 hi).1
  have c0:=h.cellAt i (by omega)
  rw [Nat.zero_add]
  exact c0.trans hi
theorem fX (w:World) (o:Obj):(w.alloc o).heap[w.heap.size]?=some o:=by
 show (w.heap.push o)[w.heap.size]?=some o
 simp
theorem jX (i:Int) (j v:Nat) (hj:i.toNat=j) (hv:2 ^ j=v) (hi:i≤63) (w:World):Calls prog 49 #[.int .i64 i] w fun e w'=>e = .returned (.int .u64 v)∧w=w':=by
 subst hv hj;exact Bq i hi w
def fZ (l:List Nat):List Value:=l.map fun r:Nat=>Value.int .u64 (r:Int)
theorem mN (l:List Nat):(fZ l).length=l.length:=by simp [fZ]
theorem Br (l:List Nat) (x:Nat):fZ (l++[x])=fZ l++[Value.int .u64 (x:Int)]:=by simp [fZ]
theorem u64s_at {l:List Nat} {i:Nat} {v:Value} (h:(fZ l)[i]?=some v):∃ r,l[i]?=some r∧v = .int .u64 (r:Int):=by
 unfold fZ at h
 rw [List.getElem?_map] at h
 cases hr:l[i]? with
 | none=>rw [hr] at h;cases h
 | some r=>rw [hr] at h;exact ⟨r,rfl,(Option.some.inj h).symm⟩
def De (gen:Nat) (a:Option Addr) (len cap:Nat):Value:=.agg #[.int .u64 (gen:Int),.slice a len cap]
def kT (n:Int):Bool:=decide (0≤n) && decide (n≤64)
theorem rW (n:Int) (r:Bool) (hr:kT n=r) (w:World):Calls prog 57 #[.int .i64 n] w fun e w'=>e = .returned (.bool r)∧w=w':=by
 subst hr
 by_cases h1:0≤n
 ·by_cases h2:n≤64
  ·have H:Hid (kT n=true):=by show _=_;simp [kT,h1,h2]
   rw [H.out]
   go_enter func57,ntmps57
   go_wp2
   go_ret
   exact ⟨rfl,rfl⟩
  ·have H:Hid (kT n=false):=by show _=_;simp [kT,h2]
   rw [H.out]
   go_enter func57,ntmps57
   go_wp2
   go_ret
   exact ⟨rfl,rfl⟩
 ·have H:Hid (kT n=false):=by show _=_;simp [kT,h1]
  rw [H.out]
  go_enter func57,ntmps57
  go_wp2
  go_ret
  exact ⟨rfl,rfl⟩
theorem or_is (a b r:Nat) (ha:a < 18446744073709551616) (hb:b < 18446744073709551616) (hr:a ||| b=r) (w:World):Calls prog 58 #[.int .u64 a,.int .u64 b] w fun e w'=>e = .returned (.int .u64 r)∧w=w':=by
 have H:Hid (bits .or .u64 (a:Int) (b:Int)=(r:Int)):=by show _=_;rw [u64_or_nat a b ha hb,hr]
 go_enter func58,ntmps58
 go_wp2
 go_ret
 exact ⟨Bp H.out,rfl⟩
theorem qZ {n:Int} (h:kT n=true):∃ m:Nat,n=m∧m≤64:=by
 simp only [kT,Bool.and_eq_true,decide_eq_true_eq] at h
 exact ⟨n.toNat,by omega,by omega⟩
theorem uP {k:IntKind} {a b:Int} (h:a=b):Ending.returned (.int k a) = .returned (.int k b):=by rw [h]
def Df (d f:Nat):Bool:=f / 2 ^ d == 0
def oB (f:Nat) (k v:Int):Bool:=if k=0 then v == 0 else if k=1 then true else if k=2 then v == 0 && f == 0 else false
def Dg (d f:Nat) (k v:Int):Bool:=Df d f && oB f k v
structure Cl where
 f:Nat
 k:Int
 v:Int
abbrev Cl.val (c:Cl):Value:=.agg #[.int .u64 (c.f:Int),.int .i64 c.k,.int .i64 c.v]
def lA (w:World) (a:Option Addr) (cs:List Cl):Prop :=
 cs=[]∨∃ b off,a=some ⟨b,off,none⟩∧∀ i c,cs[i]?=some c→w.cell? ⟨b,off+i * 3,none⟩=some (.int .u64 (c.f:Int))∧w.cell? ⟨b,off+i * 3+1,none⟩=some (.int .i64 c.k)∧w.cell? ⟨b,off+i * 3+2,none⟩=some (.int .i64 c.v)
def Bits (cs:List Cl):Prop:=∀ c,c∈cs→c.f < 18446744073709551616
theorem lN {w:World} {a:Addr} {v:Value} (h:w.cell? a=some v):a.block < w.heap.size:=by
 rcases Nat.lt_or_ge a.block w.heap.size with h' | h'
 ·exact h'
 ·simp [World.cell?,Array.getElem?_eq_none h'] at h
theorem lA.below {w w':World} {a:Option Addr} {cs:List Cl} (h:lA w a cs) (hb:Below w.heap.size w w'):lA w' a cs:=by
 rcases h with h | ⟨b,off,rfl,hc⟩
 ·exact .inl h
 ·refine .inr ⟨b,off,rfl,fun i c hi=>?_⟩
  obtain ⟨h1,h2,h3⟩:=hc i c hi
  exact ⟨(hb.cell (lN h1)).trans h1,(hb.cell (lN h2)).trans h2,(hb.cell (lN h3)).trans h3⟩
theorem lA.at_ {w:World} {a:Option Addr} {cs:List Cl} (h:lA w a cs) {k:Nat} (hk:k < cs.length) :
  ∃ b off c,a=some ⟨b,off,none⟩∧cs[k]?=some c∧b < w.heap.size∧w.cell? ⟨b,off+k * 3,none⟩=some (.int .u64 (c.f:Int))∧w.cell? ⟨b,off+k * 3+1,none⟩=some (.int .i64 c.k)∧w.cell? ⟨b,off+k * 3+2,none⟩=some (.int .i64 c.v):=by
 rcases h with h | ⟨b,off,rfl,hc⟩
 ·subst h;simp at hk
 ·have e:cs[k]?=some cs[k]:=List.getElem?_eq_getElem hk
  obtain ⟨h1,h2,h3⟩:=hc k _ e
  exact ⟨b,off,cs[k],rfl,e,lN h1,h1,h2,h3⟩
def okAt (d:Nat) (c:Cl):Bool:=Dg d c.f c.k c.v
def iJ (d:Int):Int:=if d < 0∨64 < d then 41 else 0
theorem uQ (d:Int) (w:World):Calls prog 54 #[.int .i64 d] w fun e w'=>e = .returned (.int .i64 (iJ d))∧w=w':=by
 by_cases h0:d < 0
 ·have H:=Lib.hid (show iJ d=41 by simp [iJ,h0])
  go_enter func54,ntmps54
  go_wp2
  go_ret
  exact ⟨uP H.out.symm,rfl⟩
 by_cases h1:64 < d
 ·have H:=Lib.hid (show iJ d=41 by simp [iJ,h1])
  go_enter func54,ntmps54
  go_wp2
  go_ret
  exact ⟨uP H.out.symm,rfl⟩
 ·have H:=Lib.hid (show iJ d=0 by simp [iJ,h0,h1])
  go_enter func54,ntmps54
  go_wp2
  go_ret
  exact ⟨uP H.out.symm,rfl⟩
theorem eP (d:Int) (w:World) (c:Int) (hc:iJ d=c):Calls prog 54 #[.int .i64 d] w fun e w'=>e = .returned (.int .i64 c)∧w=w':=by subst hc;exact uQ d w
structure SF where
 tag:Int
 dim:Int
 a:Option Addr
 len:Nat
 cap:Nat
abbrev SF.val (f:SF):Value:=.agg #[.int .i64 f.tag,.int .i64 f.dim,.slice f.a f.len f.cap]
inductive SV where
 | mk (f:SF) (ps:List SV)
def SV.f:SV→SF | .mk f _=>f
def S3 (w:World) (b o:Nat) (f:SF):Prop:=w.cell? ⟨b,o,none⟩=some (.int .i64 f.tag)∧w.cell? ⟨b,o+1,none⟩=some (.int .i64 f.dim)∧w.cell? ⟨b,o+2,none⟩=some (.slice f.a f.len f.cap)
def wD (w:World) (a:Option Addr) (ps:List SV):Prop :=
 ps=[]∨∃ b off,a=some ⟨b,off,none⟩∧∀ (i:Nat) p,ps[i]?=some p→S3 w b (off+i * 3) p.f
def SIn (w:World):Nat→SV→Prop
 | 0,_=>False
 | d+1,.mk f ps=>ps.length=f.len∧wD w f.a ps∧∀ p∈ps,SIn w d p
theorem iK {w w':World} {p:Addr} {v:Value} (h:w.cell? p=some v) (hb:Below w.heap.size w w'):w'.cell? p=some v:=(hb.cell (oR h)).trans h
theorem S3.below {w w':World} {b o:Nat} {f:SF} (h:S3 w b o f) (hb:Below w.heap.size w w'):S3 w' b o f:=⟨iK h.1 hb,iK h.2.1 hb,iK h.2.2 hb⟩
theorem wD.below {w w':World} {a:Option Addr} {ps:List SV} (h:wD w a ps) (hb:Below w.heap.size w w'):wD w' a ps:=by
 rcases h with h | ⟨b,off,rfl,hc⟩
 ·exact .inl h
 ·exact .inr ⟨b,off,rfl,fun i p hi=>(hc i p hi).below hb⟩
theorem SIn.below {w w':World} (hb:Below w.heap.size w w'):∀ {d:Nat} {s:SV},SIn w d s→SIn w' d s
 | 0,_,h=>h.elim
 | d+1,.mk f ps,⟨h1,h2,h3⟩=>⟨h1,h2.below hb,fun p hp=>SIn.below hb (h3 p hp)⟩
theorem wD.at_ {w:World} {a:Option Addr} {ps:List SV} (h:wD w a ps) {i:Nat} {p:SV} (hi:ps[i]?=some p):∃ b off,a=some ⟨b,off,none⟩∧b < w.heap.size∧S3 w b (off+i * 3) p.f:=by
 rcases h with rfl | ⟨b,off,ha,hc⟩
 ·simp at hi
 ·exact ⟨b,off,ha,oR (hc i p hi).1,hc i p hi⟩
structure WF where
 z:Bool
 c:Int
 g:Nat
 ra:Option Addr
 rl:Nat
 rc:Nat
 rows:List Nat
 ca:Option Addr
 cl:Nat
 cc:Nat
 cells:List Cl
 pa:Option Addr
 pl:Nat
 pc:Nat
abbrev WF.val (f:WF):Value:=.agg #[.bool f.z,.int .i64 f.c,.int .u64 (f.g:Int),.slice f.ra f.rl f.rc,.slice f.ca f.cl f.cc,.slice f.pa f.pl f.pc]
abbrev WF.six (f:WF):List Value:=[.bool f.z,.int .i64 f.c,.int .u64 (f.g:Int),.slice f.ra f.rl f.rc,.slice f.ca f.cl f.cc,.slice f.pa f.pl f.pc]
structure WF.At (w:World) (f:WF):Prop where
 rows:gE w f.ra (fZ f.rows)
 rl:f.rows.length=f.rl
 g64:f.g < 18446744073709551616
 r64:∀ r∈f.rows,r < 18446744073709551616
 cells:lA w f.ca f.cells
 cl:f.cells.length=f.cl
 bits:Bits f.cells
 cmax:f.cl≤maxLen
theorem WF.At.below {w w':World} {f:WF} (h:f.At w) (hb:Below w.heap.size w w'):f.At w':=⟨h.rows.below hb,h.rl,h.g64,h.r64,h.cells.below hb,h.cl,h.bits,h.cmax⟩
def W6 (w:World) (b o:Nat) (f:WF):Prop:=w.cell? ⟨b,o,none⟩=some (.bool f.z)∧w.cell? ⟨b,o+1,none⟩=some (.int .i64 f.c)∧w.cell? ⟨b,o+2,none⟩=some (.int .u64 (f.g:Int))∧w.cell? ⟨b,o+3,none⟩=some (.slice f.ra f.rl f.rc)∧w.cell? ⟨b,o+4,none⟩=some (.slice f.ca f.cl f.cc)∧w.cell? ⟨b,o+5,none⟩=some (.slice f.pa f.pl f.pc)
theorem W6.below {w w':World} {b o:Nat} {f:WF} (h:W6 w b o f) (hb:Below w.heap.size w w'):W6 w' b o f:=⟨iK h.1 hb,iK h.2.1 hb,iK h.2.2.1 hb,iK h.2.2.2.1 hb,iK h.2.2.2.2.1 hb,iK h.2.2.2.2.2 hb⟩
def dD (t n:Int) (l:Nat):Bool:=decide (l=0) && (if t=1 then decide (n=0) else if t=2 then decide (0≤n) && decide (n≤1048576) else if t=3∨t=4 then decide (0≤n) && decide (n≤64) else false)
theorem sbox (w:World) (v:Array Value) (T:TypeId):Below w.heap.size w (w.alloc (.cells v T)):=(Below.refl _ _).alloc (Nat.le_refl _) _
def SV.pl (s:SV):Bool:=dD s.f.tag s.f.dim s.f.len
def oC:SV→Int
 | .mk f ps=>if dD f.tag f.dim f.len=true then 0 else if f.tag=5∧f.dim=0∧ps.length=2∧ps.all SV.pl=true then 0 else 50
theorem infoU:(prog.info? 52).map (fun i=>(i.zero,i.size,i.bytes))=some (some (.int .u64 0),1,8):=by kernel_rfl
theorem cE {w:World} {B:Nat} {a b:Value} {T:TypeId} (h:w.heap[B]?=some (.cells #[a,b] T (0,0))) :
  w.cell? ⟨B,0,none⟩=some a∧w.cell? ⟨B,1,none⟩=some b∧(∀ j,w.frozen? ⟨B,j,none⟩=false) :=
 ⟨by simp [World.cell?,h],by simp [World.cell?,h],fun j=>by simp [World.frozen?,h]⟩
theorem gH {w:World} {B:Nat} {a b c:Value} {T:TypeId} (h:w.heap[B]?=some (.cells #[a,b] T (0,0))):(w.setCell ⟨B,1,none⟩ c).heap[B]?=some (.cells #[a,c] T (0,0)):=heap_setCell_same w B 1 _ _ _ h
theorem fV {w:World} {B:Nat} {a b c:Value} {T:TypeId} (h:w.heap[B]?=some (.cells #[a,b] T (0,0))):(w.setCell ⟨B,0,none⟩ c).heap[B]?=some (.cells #[c,b] T (0,0)):=heap_setCell_same w B 0 _ _ _ h
theorem eU {w:World} {B C j:Nat} {c:Value} {o:Obj} (h:w.heap[C]?=some o) (hne:C≠B):(w.setCell ⟨B,j,none⟩ c).heap[C]?=some o:=(Below.heap_setCell _ _ _ _ hne).trans h
theorem mO {w w':World} {C:Nat} {o:Obj} (h:w.heap[C]?=some o) (hb:Below w.heap.size w w'):w'.heap[C]?=some o:=(hb.block C (Array.getElem?_eq_some_iff.1 h).1).trans h
theorem fN {w:World} {C:Nat} {o:Obj} (h:w.heap[C]?=some o) (o':Obj):(w.alloc o').heap[C]?=some o:=(Below.heap_alloc _ _ _ (Array.getElem?_eq_some_iff.1 h).1).trans h
theorem eH {w:World} {B:Nat} {cs:Array Value} {T E:TypeId} (h:w.heap[B]?=some (.cells cs T (0,0))) (hTE:T≠E) {base size k:Nat} {v:Value} {xs:List Value} (hr:w.ownsRow base E size v k xs):some B≠v.ownBlock:=by
 rcases hr.2 with ⟨rfl,_⟩ | ⟨g,cap,cur,rfl,_,hgb,_⟩
 ·simp [Value.ownBlock]
 ·intro e'
  obtain rfl:B=g:=by simpa [Value.ownBlock] using e'
  have:=h.symm.trans hgb
  simp at this
  exact hTE this.2
theorem rX {w w':World} {B:Nat} {cs:Array Value} {T E:TypeId} (h:w.heap[B]?=some (.cells cs T (0,0))) (hTE:T≠E) {base size k:Nat} {v:Value} {xs:List Value} (hr:w.ownsRow base E size v k xs) (hg:w.grownBy w' v.ownBlock):w'.heap[B]?=some (.cells cs T (0,0)) :=
 (hg.block B (Array.getElem?_eq_some_iff.1 h).1 (fun e=>eH h hTE hr e)).trans h
theorem dG (W:World) (b j:Nat) (v:Value):W.grownBy (W.setCell ⟨b,j,none⟩ v) (some b) :=
 ⟨rfl,rfl,rfl,(KeepsWalks.setCell W _ v).size,fun k _ hk=>Below.heap_setCell _ _ _ k (fun e=>hk (by rw [e]))⟩
theorem Dh {w:World} {B:Nat} {cs:Array Value} {T:TypeId} (h:w.heap[B]?=some (.cells cs T (0,0))) {j:Nat} {v:Value} (hj:cs[j]?=some v):w.cell? ⟨B,j,none⟩=some v:=by
 unfold World.cell?;simp only [h];exact hj
theorem tM {w:World} {B:Nat} {a b c:Value} {T:TypeId} (h:w.heap[B]?=some (.cells #[a,b,c] T (0,0))):w.cell? ⟨B,0,none⟩=some a∧w.cell? ⟨B,1,none⟩=some b∧w.cell? ⟨B,2,none⟩=some c:=⟨Dh h rfl,Dh h rfl,Dh h rfl⟩
theorem SIn.two {w:World} {d:Nat} {f:SF} {p q:SV} (h:SIn w (d+1) (.mk f [p,q])):f.len=2∧∃ b off,f.a=some ⟨b,off,none⟩∧b < w.heap.size∧S3 w b off p.f∧S3 w b (off+3) q.f∧SIn w d p∧SIn w d q:=by
 obtain ⟨h1,h2,h3⟩:=h
 refine ⟨h1.symm,?_⟩
 rcases h2 with h2 | ⟨b,off,ha,hc⟩
 ·cases h2
 ·have c0:=hc 0 p rfl
  have c1:=hc 1 q rfl
  simp only [Nat.zero_mul,Nat.add_zero,Nat.one_mul] at c0 c1
  exact ⟨b,off,ha,oR c0.1,c0,c1,h3 p (by simp),h3 q (by simp)⟩
theorem two_of {α:Type} {l:List α} (h:l.length=2):∃ p q,l=[p,q]:=by
 match l,h with
 | [p,q],_=>exact ⟨p,q,rfl⟩
theorem wE {f:SF} {ps:List SV} (h:f.tag≠5):oC (.mk f ps)=if dD f.tag f.dim f.len=true then 0 else 50:=by simp [oC,h]
set_option maxHeartbeats 2000000 in
theorem mP (t n:Int) (a:Option Addr) (l c:Nat) (ht:t≠5) (r:Bool) (hr:dD t n l=r) (w:World) :
  Calls prog 33 #[.agg #[.int .i64 t,.int .i64 n,.slice a l c]] w fun e w'=>e = .returned (.int .i64 (if r=true then 0 else 50))∧Below w.heap.size w w':=by
 have hB:=Lib.hid (sbox w #[.int .i64 t,.int .i64 n,.slice a l c] 35)
 have e5:(t == 5)=false:=by simp [ht]
 by_cases ht2:t=1∨t=2∨t=3∨t=4
 ·by_cases hl:l=0
  ·subst hl
   by_cases h0:0≤n
   ·rcases ht2 with rfl | rfl | rfl | rfl
    ·by_cases hm:n=0
     ·subst hm
      obtain rfl:true=r:=by rw [← hr];simp [dD]
      clear hr
      go_enter func33,ntmps33
      go_wp2_with fail
      go_ret
      exact ⟨by simp,hB.out⟩
     ·obtain rfl:false=r:=by rw [← hr];simp [dD];omega
      have hm2:(n == 0)=false:=by simp [hm]
      clear hr
      go_enter func33,ntmps33
      go_wp2_with fail
      go_ret
      exact ⟨by simp,hB.out⟩
    ·by_cases hm:n≤1048576
     ·obtain rfl:true=r:=by rw [← hr];simp [dD,h0,hm]
      clear hr
      go_enter func33,ntmps33
      go_wp2_with fail
      go_ret
      exact ⟨by simp,hB.out⟩
     ·obtain rfl:false=r:=by rw [← hr];simp [dD,hm]
      clear hr
      go_enter func33,ntmps33
      go_wp2_with fail
      go_ret
      exact ⟨by simp,hB.out⟩
    all_goals
     by_cases hm:n≤64
     ·obtain rfl:true=r:=by rw [← hr];simp [dD,h0,hm]
      clear hr
      go_enter func33,ntmps33
      go_wp2_with fail
      go_ret
      exact ⟨by simp,hB.out⟩
     ·obtain rfl:false=r:=by rw [← hr];simp [dD,hm]
      clear hr
      go_enter func33,ntmps33
      go_wp2_with fail
      go_ret
      exact ⟨by simp,hB.out⟩
   ·obtain rfl:false=r:=by rw [← hr];rcases ht2 with rfl | rfl | rfl | rfl<;>simp [dD]<;>omega
    have hn0:(n == 0)=false:=by simp;omega
    clear hr
    rcases ht2 with rfl | rfl | rfl | rfl
    all_goals
     go_enter func33,ntmps33
     go_wp2_with fail
     go_ret
     exact ⟨by simp,hB.out⟩
  ·obtain rfl:false=r:=by rw [← hr];simp [dD,hl]
   have hl2:((l:Int) == 0)=false:=by simp;omega
   clear hr
   rcases ht2 with rfl | rfl | rfl | rfl
   ·by_cases hm:n=0
    ·subst hm
     go_enter func33,ntmps33
     go_wp2_with fail
     go_ret
     exact ⟨by simp,hB.out⟩
    ·have hm2:(n == 0)=false:=by simp [hm]
     go_enter func33,ntmps33
     go_wp2_with fail
     go_ret
     exact ⟨by simp,hB.out⟩
   all_goals
    by_cases h0:0≤n
    ·by_cases hm:n≤64
     ·have hm3:n≤1048576:=by omega
      go_enter func33,ntmps33
      go_wp2_with fail
      go_ret
      exact ⟨by simp,hB.out⟩
     ·by_cases hm3:n≤1048576
      all_goals
       go_enter func33,ntmps33
       go_wp2_with fail
       go_ret
       exact ⟨by simp,hB.out⟩
    ·go_enter func33,ntmps33
     go_wp2_with fail
     go_ret
     exact ⟨by simp,hB.out⟩
 ·obtain rfl:false=r:=by rw [← hr];simp only [not_or] at ht2;simp [dD,ht2]
  have e1:(t == 1)=false:=by simp;omega
  have e2:(t == 2)=false:=by simp;omega
  have e3:(t == 3)=false:=by simp;omega
  have e4:(t == 4)=false:=by simp;omega
  clear hr ht2 ht
  go_enter func33,ntmps33
  go_wp2_with fail
  go_ret
  exact ⟨by simp,hB.out⟩
def wF (w:World) (a:Option Addr) (xs:List Nat):Prop:=gE w a (fZ xs)
theorem wF.at_ {w:World} {a:Option Addr} {xs:List Nat} (h:wF w a xs) {i:Nat} (hi:i < xs.length) :
  ∃ b off r,a=some ⟨b,off,none⟩∧xs[i]?=some r∧b < w.heap.size∧w.cell? ⟨b,off+i,none⟩=some (.int .u64 (r:Int)):=by
 obtain ⟨b,off,v,ha,hv,hb,hc⟩:=gE.at_ h (i:=i) (by rw [mN];exact hi)
 obtain ⟨r,hr,rfl⟩:=u64s_at hv
 exact ⟨b,off,r,ha,hr,hb,hc⟩
theorem yH {xs ys:List Nat} (hl:xs.length=ys.length) (h:∀ (i x y:Nat),xs[i]?=some x→ys[i]?=some y→x=y):xs=ys:=by
 apply List.ext_getElem hl
 intro i h1 h2
 exact h i _ _ (List.getElem?_eq_getElem h1) (List.getElem?_eq_getElem h2)
def rY (ga:Nat) (xs:List Nat) (gb:Nat) (ys:List Nat):Bool:=ga == gb && xs == ys
theorem tN (w:World) (a b:Array Value) (T:TypeId):((w.alloc (.cells a T)).alloc (.cells b T)).heap[w.heap.size]?=some (.cells a T (0,0))∧((w.alloc (.cells a T)).alloc (.cells b T)).heap[w.heap.size+1]?=some (.cells b T (0,0)):=by
 refine ⟨fN (fX _ _) _,?_⟩
 have:=fX (w.alloc (.cells a T)) (.cells b T)
 rwa [World.size_alloc] at this
set_option maxHeartbeats 1000000 in
theorem Bt (a b:Option Addr) (capa capb ga gb:Nat) (xs ys:List Nat) (w:World) (hx:xs.length≤9223372036854775807) (hy:ys.length≤9223372036854775807) (hra:wF w a xs) (hrb:wF w b ys) (r:Bool) (hr:rY ga xs gb ys=r) (n m:Nat) (hn:xs.length=n) (hm:ys.length=m) :
  Calls prog 26 #[De ga a n capa,De gb b m capb] w fun e w'=>e = .returned (.bool r)∧Below w.heap.size w w':=by
 unfold De
 have hB0:Below w.heap.size w ((w.alloc (.cells #[.int .u64 (ga:Int),.slice a n capa] 55)).alloc (.cells #[.int .u64 (gb:Int),.slice b m capb] 55)):=((Below.refl _ _).alloc (Nat.le_refl _) _).alloc (by simp) _
 have HA:=Lib.hid hra;have HB:=Lib.hid hrb;have HN:=Lib.hid hn;have HM:=Lib.hid hm
 obtain ⟨t0,t1⟩:=tN w #[.int .u64 (ga:Int),.slice a n capa] #[.int .u64 (gb:Int),.slice b m capb] 55
 have T0:=Lib.hid t0;have T1:=Lib.hid t1
 rw [hn] at hx;rw [hm] at hy
 by_cases hg:ga=gb
 ·subst hg
  have HR:Hid ((xs == ys)=r):=by show _=_;rw [← hr,rY];simp
  clear hra hrb hr hn hm t0 t1
  by_cases hnm:n=m
  ·subst hnm
   go_enter func26,ntmps26
   go_wp2_with fail
   go_loopw [5] (fun i wr=>∃ k:Nat,k≤n∧i = .int .i64 k∧Hid (∀ i x y,i < k→xs[i]?=some x→ys[i]?=some y→x=y)∧Hid (wr.heap[w.heap.size]?=some (.cells #[.int .u64 (ga:Int),.slice a n capa] 55 (0,0)))∧Hid (wr.heap[w.heap.size+1]?=some (.cells #[.int .u64 (ga:Int),.slice b n capb] 55 (0,0)))∧Below w.heap.size w wr) (fun i _=>n - (intOf i).toNat)
   case atStart=>exact ⟨0,Nat.zero_le _,rfl,fun i x y h=>by omega,T0,T1,hB0⟩
   case round =>
    obtain ⟨k,hk,rfl,HK,B0,B1,hb⟩:=hrel
    obtain ⟨c0,c1,_⟩:=cE B0.out
    obtain ⟨d0,d1,_⟩:=cE B1.out
    by_cases hlt:k < n
    ·obtain ⟨ba,offa,x,rfl,hx1,hba,a0⟩:=wF.at_ (gE.below HA.out hb) (i:=k) (by rw [HN.out];exact hlt)
     obtain ⟨bb,offb,y,rfl,hy1,hbb,b0⟩:=wF.at_ (gE.below HB.out hb) (i:=k) (by rw [HM.out];exact hlt)
     have g0:(0:Int)≤(k:Int):=by omega
     have g1:(k:Int) < (n:Int):=by omega
     by_cases hxy:x=y
     ·subst hxy
      have HNX:Hid (∀ i x y,i < k+1→xs[i]?=some x→ys[i]?=some y→x=y):=fun i u v hi hu hv=>by
       by_cases e:i=k
       ·subst e;rw [hx1] at hu;rw [hy1] at hv;cases hu;cases hv;rfl
       ·exact HK.out i u v (by omega) hu hv
      clear hx1 hy1
      go_wp2_with fail
      go_quiet (fail)
      go_wp2
      go_roundw
      case rel=>exact ⟨k+1,by omega,by go_num,HNX,B0,B1,below_drewN hb _⟩
      case measure=>simp [intOf];omega
     ·have hne:((x:Int) != (y:Int))=true:=by simp;omega
      have HX:Hid (false=r):=by
       show _=_
       rw [← HR.out]
       symm
       rw [beq_eq_false_iff_ne]
       rintro rfl
       rw [hx1] at hy1;cases hy1;exact hxy rfl
      clear hx1 hy1 hxy
      go_wp2_with fail
      go_quiet (fail)
      go_wp2
      go_ret
      exact ⟨iR HX.out,below_drewN hb _⟩
    ·have HX:Hid (true=r):=by
      show _=_
      rw [← HR.out]
      symm
      rw [beq_iff_eq]
      refine yH (by rw [HN.out,HM.out]) fun i x y hi hj=>?_
      have:=(List.getElem?_eq_some_iff.1 hi).1
      rw [HN.out] at this
      exact HK.out i x y (by omega) hi hj
     go_wp2
     go_ret
     exact ⟨iR HX.out,hb⟩
  ·have HX:Hid (false=r):=by
    show _=_
    rw [← HR.out]
    symm
    rw [beq_eq_false_iff_ne]
    rintro rfl
    exact hnm (HN.out.symm.trans HM.out)
   have hne:((n:Int) != (m:Int))=true:=by simp;omega
   clear hnm
   go_enter func26,ntmps26
   go_wp2
   go_ret
   exact ⟨iR HX.out,hB0⟩
 ·have HR:Hid (false=r):=by show _=_;rw [← hr,rY,beq_eq_false_iff_ne.2 hg];rfl
  have hne:((ga:Int) != (gb:Int))=true:=by simp;omega
  clear hra hrb hr hn hm hg t0 t1
  go_enter func26,ntmps26
  go_wp2
  go_ret
  exact ⟨iR HR.out,hB0⟩
theorem wG (a b:Option Addr) (capa capb ga gb:Nat) (xs ys:List Nat) (w:World) (hx:xs.length≤100) (hy:ys.length≤100) (hra:wF w a xs) (hrb:wF w b ys) (r:Bool) (hr:rY ga xs gb ys=r) (n m:Nat) (hn:xs.length=n) (hm:ys.length=m) :
  Calls prog 26 #[De ga a n capa,De gb b m capb] w fun e w'=>e = .returned (.bool r)∧Below w.heap.size w w' :=
 Bt a b capa capb ga gb xs ys w (Nat.le_trans hx (by decide)) (Nat.le_trans hy (by decide)) hra hrb r hr n m hn hm
def Cl.ok (c:Cl):Prop:=c.f < 18446744073709551616∧oB c.f c.k c.v=true
theorem rZ {t n:Int} {l:Nat} (h:dD t n l=true):l=0∧(t=1∨t=2∨t=3∨t=4):=by
 simp only [dD,Bool.and_eq_true,decide_eq_true_eq] at h
 refine ⟨h.1,?_⟩
 rcases h with ⟨_,h⟩
 by_cases h1:t=1
 ·exact .inl h1
 by_cases h2:t=2
 ·exact .inr (.inl h2)
 by_cases h3:t=3
 ·exact .inr (.inr (.inl h3))
 by_cases h4:t=4
 ·exact .inr (.inr (.inr h4))
 ·simp [h1,h2,h3,h4] at h
theorem sA {t n:Int} {l:Nat} (h:dD t n l=true):0≤n∧n≤1048576∧(t=1→n=0)∧((t=3∨t=4)→n≤64):=by
 have ht:=(rZ h).2
 simp only [dD,Bool.and_eq_true,decide_eq_true_eq] at h
 rcases h with ⟨_,h⟩
 rcases ht with rfl | rfl | rfl | rfl<;>simp at h<;>omega
def pO (ys xs:List Nat) (k:Nat):List Nat:=ys.take k++xs.drop k
theorem Di {ys xs:List Nat} {k x y:Nat} (hy:ys[k]?=some y) (hx:xs[k]?=some x):(pO ys xs k).set k y=pO ys xs (k+1):=by
 obtain ⟨hk,ex⟩:=List.getElem?_eq_some_iff.1 hx
 obtain ⟨hk2,ey⟩:=List.getElem?_eq_some_iff.1 hy
 unfold pO
 have hl:(ys.take k).length=k:=by rw [List.length_take];omega
 rw [List.set_append_right _ _ (by omega),hl,Nat.sub_self,List.drop_eq_getElem_cons hk,List.set_cons_zero,List.take_succ_eq_append_getElem hk2,ey,List.append_assoc]
 rfl
theorem mixL_at {ys xs:List Nat} {k x:Nat} (hl:ys.length=xs.length) (hx:xs[k]?=some x):(pO ys xs k)[k]?=some x:=by
 obtain ⟨hk,ex⟩:=List.getElem?_eq_some_iff.1 hx
 unfold pO
 have h2:(ys.take k).length=k:=by rw [List.length_take];omega
 rw [List.getElem?_append_right (by omega),h2,Nat.sub_self,List.getElem?_drop,Nat.add_zero,hx]
theorem Bu (ys xs:List Nat):pO ys xs 0=xs:=by simp [pO]
theorem Dj {ys xs:List Nat} (hl:ys.length=xs.length):pO ys xs xs.length=ys:=by
 unfold pO
 rw [List.take_of_length_le (by omega),List.drop_of_length_le (Nat.le_refl _),List.append_nil]
theorem mQ (l:List Nat) (k y:Nat):(fZ l).set k (.int .u64 (y:Int))=fZ (l.set k y):=by
 unfold fZ;rw [List.map_set]
theorem mR {l:List Nat} {k x:Nat} (h:l[k]?=some x):(fZ l)[k]?=some (.int .u64 (x:Int)):=by
 unfold fZ;rw [List.getElem?_map,h];rfl
def Dk (gen:Nat) (rows:List Nat) (err:Int) (w:World) (e:Ending) (w':World):Prop :=
 ∃ a cap,e = .returned (.tuple #[.agg #[.int .u64 (gen:Int),.slice a rows.length cap],.int .i64 err])∧gE w' a (fZ rows)∧(∀ ad,a=some ad→w.heap.size≤ad.block∧ad.block < w'.heap.size)∧Below w.heap.size w w'
theorem oS {w w':World} (err:Int) (hb:Below w.heap.size w w'):Dk 0 [] err w (.returned (.tuple #[.agg #[.int .u64 0,.slice none 0 0],.int .i64 err])) w' :=
 ⟨none,0,rfl,.inl rfl,(fun ad e=>by cases e),hb⟩
theorem pP {w:World} {base n:Nat} {E:TypeId} {v:Value} {xs:List Value} (h:w.ownsRow base E 1 v n xs):∃ a cap,v = .slice a n cap:=by
 rcases h.2 with ⟨h,h0⟩ | ⟨g,cap,cur,h,_⟩
 ·exact ⟨none,0,by rw [h,h0]⟩
 ·exact ⟨_,_,h⟩
theorem jY {w w':World} {gen n:Nat} {v:Value} {rows:List Nat} {base:Nat} (hb0:w.heap.size≤base) (h:w'.ownsRow base 52 1 v n (fZ rows)) (hb:Below w.heap.size w w') (err:Int):Dk gen rows err w (.returned (.tuple #[.agg #[.int .u64 (gen:Int),v],.int .i64 err])) w':=by
 obtain ⟨hn,a,cap,rfl,hr,hf⟩:=gE.of_own h
 exact ⟨a,cap,by rw [mN],hr,fun ad e=>⟨Nat.le_trans hb0 (hf ad e).1,(hf ad e).2⟩,hb⟩
end
end Go.Proofs.Ytfnmjcgfagldkaa
