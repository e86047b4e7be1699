import Derived.RangeFuncNested
import Derived.RangeFuncBound
import Derived.RangeFuncCalls
import Derived.RangeFuncLeaves
import Derived.OwnWalkIn
import Derived.TacticsInMore
import Derived.LoopNIn
import Derived.Shelf.Abstract
import Derived.Test.YtfnmjcgfagldkaaEmA
set_option maxRecDepth 100000
set_option maxHeartbeats 4000000
set_option linter.unusedVariables false
set_option linter.unusedSimpArgs false
set_option linter.unusedSectionVars false
set_option linter.unnecessarySimpa false
namespace Go.Proofs.Ytfnmjcgfagldkaa
open Go.Proofs.Try
open Go.RowKit
theorem iU (v0:Int) (v1:Int):Instr.fill (fun i=>some (i * 1,1)) ((Array.range (2 * 1)).map ((Value.cells (.int .i64 0))[· % (Value.cells (.int .i64 0)).size]!)) [(0,.int .i64 v0),(1,.int .i64 v1)]=some (List.toArray [.int .i64 v0,.int .i64 v1]):=by kernel_rfl
theorem eE (w:World) (b o:Nat):(Instr.fieldAt 29 (.pointer (some ⟨b,o,none⟩)) 0).run prog w = .ok (.pointer (some ⟨b,o+0,none⟩)) w:=by
 simp [Instr.fieldAt,run_underlying underlying29,Instr.sureAddr,go_sem,Addr.add_lit]
theorem lJ (w:World) (b o:Nat):(Instr.fieldAt 29 (.pointer (some ⟨b,o,none⟩)) 1).run prog w = .ok (.pointer (some ⟨b,o+1,none⟩)) w:=by
 simp [Instr.fieldAt,run_underlying underlying29,Instr.sureAddr,go_sem,Addr.add_lit]
theorem dP (w:World) (b o:Nat):(Instr.fieldAt 29 (.pointer (some ⟨b,o,none⟩)) 2).run prog w = .ok (.pointer (some ⟨b,o+2,none⟩)) w:=by
 simp [Instr.fieldAt,run_underlying underlying29,Instr.sureAddr,go_sem,Addr.add_lit]
theorem eT (w:World) (b o:Nat):(Instr.fieldAt 29 (.pointer (some ⟨b,o,none⟩)) 3).run prog w = .ok (.pointer (some ⟨b,o+3,none⟩)) w:=by
 simp [Instr.fieldAt,run_underlying underlying29,Instr.sureAddr,go_sem,Addr.add_lit]
theorem hH (w:World) (b o:Nat):(Instr.fieldAt 29 (.pointer (some ⟨b,o,none⟩)) 4).run prog w = .ok (.pointer (some ⟨b,o+4,none⟩)) w:=by
 simp [Instr.fieldAt,run_underlying underlying29,Instr.sureAddr,go_sem,Addr.add_lit]
theorem cA (w:World) (b o:Nat):(Instr.fieldAt 29 (.pointer (some ⟨b,o,none⟩)) 5).run prog w = .ok (.pointer (some ⟨b,o+5,none⟩)) w:=by
 simp [Instr.fieldAt,run_underlying underlying29,Instr.sureAddr,go_sem,Addr.add_lit]
theorem cX (w:World) (b o:Nat):(Instr.fieldAt 29 (.pointer (some ⟨b,o,none⟩)) 7).run prog w = .ok (.pointer (some ⟨b,o+7,none⟩)) w:=by
 simp [Instr.fieldAt,run_underlying underlying29,Instr.sureAddr,go_sem,Addr.add_lit]
theorem cK (w:World) (b o:Nat):(Instr.fieldAt 103 (.pointer (some ⟨b,o,none⟩)) 0).run prog w = .ok (.pointer (some ⟨b,o+0,none⟩)) w:=by
 simp [Instr.fieldAt,run_underlying underlying103,Instr.sureAddr,go_sem,Addr.add_lit]
theorem nY:cL prog 50=true:=by kernel_rfl
theorem fT:cL prog 51=true:=by kernel_rfl
theorem bG:prog.follows .mixedOrders=true:=by kernel_rfl
theorem gM (g:GV) (n:Int) (w:World) :
  Calls prog 51 #[g.val,.int .i64 n] w (fun e w'=>e = .returned (.bool (gr_inQ n g.ol))∧Below w.heap.size w w'):=by
 refine cS (args:=[g.val,.int .i64 n]) func51 rfl ntmps51 rfl ?_
 have hS:=St.start w
 refine aR (aU (cR (cs:=[_,_,_,_,_,_,_,_,_,_]) hS rfl rfl rfl fun B1 W1 hS=>aK rfl rfl (aT (XF.thenN (aR (aU (aL rfl rfl (mC rfl rfl rfl (aL rfl rfl (bK (d:=7) rfl (fun hc=>?_) (fun hc=>?_)))))))))))
 ·have hg7:=of_decide_eq_true hc;clear hc
  refine aF (d:=7) rfl rfl (aL rfl rfl (aF (d:=7) rfl rfl (aQ (o':=0) cK rfl rfl rfl (aF (d:=7) rfl rfl (aQ (o':=5) cA rfl rfl rfl (aF (d:=7) rfl rfl (aV isAgg23 rfl (aI (hS.at_ 0 rfl) rfl) rfl (aF (d:=7) rfl rfl (bU underlying23 rfl rfl (aF (d:=7) rfl rfl (dA rfl rfl rfl (bC rfl rfl rfl (aK rfl rfl (aT (XF.thenN (bP (XF.res (cG results51 rfl) ?_)))))))))))))))))
  exact ⟨bI (by simp [gr_inQ,show 0≤n from hg7]),hS.below⟩
 ·have hg7:=of_decide_eq_false hc;clear hc
  refine aH (d:=7) rfl rfl rfl rfl (aH (d:=7) rfl rfl rfl rfl (aH (d:=7) rfl rfl rfl rfl (aH (d:=7) rfl rfl rfl rfl (aH (d:=7) rfl rfl rfl rfl (aH (d:=7) rfl rfl rfl rfl (bE rfl rfl rfl (aK rfl rfl (aT (XF.thenN (bP (XF.res (cG results51 rfl) ?_)))))))))))
  exact ⟨bI (by simp [gr_inQ];omega),hS.below⟩
theorem pM (g:GV) (n:Int) (w:World) :
  Calls prog 50 #[g.val,.int .i64 n] w (fun e w'=>e = .returned (.bool (gr_inQ n g.pl))∧Below w.heap.size w w'):=by
 refine cS (args:=[g.val,.int .i64 n]) func50 rfl ntmps50 rfl ?_
 have hS:=St.start w
 refine aR (aU (cR (cs:=[_,_,_,_,_,_,_,_,_,_]) hS rfl rfl rfl fun B1 W1 hS=>aK rfl rfl (aT (XF.thenN (aR (aU (aL rfl rfl (mC rfl rfl rfl (aL rfl rfl (bK (d:=7) rfl (fun hc=>?_) (fun hc=>?_)))))))))))
 ·have hg7:=of_decide_eq_true hc;clear hc
  refine aF (d:=7) rfl rfl (aL rfl rfl (aF (d:=7) rfl rfl (aQ (o':=0) cK rfl rfl rfl (aF (d:=7) rfl rfl (aQ (o':=1) lJ rfl rfl rfl (aF (d:=7) rfl rfl (aV isAgg22 rfl (aI (hS.at_ 0 rfl) rfl) rfl (aF (d:=7) rfl rfl (bU underlying22 rfl rfl (aF (d:=7) rfl rfl (dA rfl rfl rfl (bC rfl rfl rfl (aK rfl rfl (aT (XF.thenN (bP (XF.res (cG results50 rfl) ?_)))))))))))))))))
  exact ⟨bI (by simp [gr_inQ,show 0≤n from hg7]),hS.below⟩
 ·have hg7:=of_decide_eq_false hc;clear hc
  refine aH (d:=7) rfl rfl rfl rfl (aH (d:=7) rfl rfl rfl rfl (aH (d:=7) rfl rfl rfl rfl (aH (d:=7) rfl rfl rfl rfl (aH (d:=7) rfl rfl rfl rfl (aH (d:=7) rfl rfl rfl rfl (bE rfl rfl rfl (aK rfl rfl (aT (XF.thenN (bP (XF.res (cG results50 rfl) ?_)))))))))))
  exact ⟨bI (by simp [gr_inQ];omega),hS.below⟩
theorem jR (g:GV) (n:Int) (w:World) :
  Calls prog 53 #[g.val,.int .i64 n] w (fun e w'=>e = .returned (.bool (gr_inQ n g.vl))∧Below w.heap.size w w'):=by
 refine cS (args:=[g.val,.int .i64 n]) func53 rfl ntmps53 rfl ?_
 have hS:=St.start w
 refine aR (aU (cR (cs:=[_,_,_,_,_,_,_,_,_,_]) hS rfl rfl rfl fun B1 W1 hS=>aK rfl rfl (aT (XF.thenN (aR (aU (aL rfl rfl (mC rfl rfl rfl (aL rfl rfl (bK (d:=7) rfl (fun hc=>?_) (fun hc=>?_)))))))))))
 ·have hg7:=of_decide_eq_true hc;clear hc
  refine aF (d:=7) rfl rfl (aL rfl rfl (aF (d:=7) rfl rfl (aQ (o':=0) cK rfl rfl rfl (aF (d:=7) rfl rfl (aQ (o':=0) eE rfl rfl rfl (aF (d:=7) rfl rfl (aV isAgg22 rfl (aI (hS.at_ 0 rfl) rfl) rfl (aF (d:=7) rfl rfl (bU underlying22 rfl rfl (aF (d:=7) rfl rfl (dA rfl rfl rfl (bC rfl rfl rfl (aK rfl rfl (aT (XF.thenN (bP (XF.res (cG results53 rfl) ?_)))))))))))))))))
  exact ⟨bI (by simp [gr_inQ,show 0≤n from hg7]),hS.below⟩
 ·have hg7:=of_decide_eq_false hc;clear hc
  refine aH (d:=7) rfl rfl rfl rfl (aH (d:=7) rfl rfl rfl rfl (aH (d:=7) rfl rfl rfl rfl (aH (d:=7) rfl rfl rfl rfl (aH (d:=7) rfl rfl rfl rfl (aH (d:=7) rfl rfl rfl rfl (bE rfl rfl rfl (aK rfl rfl (aT (XF.thenN (bP (XF.res (cG results53 rfl) ?_)))))))))))
  exact ⟨bI (by simp [gr_inQ];omega),hS.below⟩
theorem sized_c (va:Option Addr) (vl:Nat) (vc:Nat) (pa:Option Addr) (pl:Nat) (pc:Nat) (ea:Option Addr) (el:Nat) (ec:Nat) (es:List Int) (xa:Option Addr) (xl:Nat) (xc:Nat) (xs:List Int) (mn:Int) (oa:Option Addr) (ol:Nat) (oc:Nat) (os:List Int) (sa:Option Addr) (sl:Nat) (sc:Nat) (ss:List gr_TV) (ta:Option Addr) (tl:Nat) (tc:Nat) (ts:List UV) (na:Option Addr) (nl:Nat) (nc:Nat) (ns:List NV) (ka:Option Addr) (kl:Nat) (kc:Nat) (ks:List KV) (w:World) (he:dS w ea es) (hel:es.length=el) (hx:dS w xa xs) (hxl:xs.length=xl) (ho:dS w oa os) (hol:os.length=ol) (hs:dB gr_TV.sev 7 w sa ss) (hsl:ss.length=sl) (ht:dB UV.four 4 w ta ts) (htl:ts.length=tl) (hn:dB NV.two 2 w na ns) (hnl:ns.length=nl) (hk:dB KV.two 2 w ka ks) (hkl:ks.length=kl) (b1:vl≤5000) (b2:pl≤5000) (b3:el≤5000) (b4:xl≤5000) (b5:ol≤5000) (b6:sl≤5000) (b7:tl≤5000) (b8:nl≤5000) (b9:kl≤5000) :
  Calls prog 35 #[.agg #[.slice va vl vc,.slice pa pl pc,.slice ea el ec,.slice xa xl xc,.int .i64 mn,.slice oa ol oc,.slice sa sl sc,.slice ta tl tc,.slice na nl nc,.slice ka kl kc]] w (fun e w'=>e = .returned (.bool (eG ⟨va,vl,vc,pa,pl,pc,ea,el,ec,es,xa,xl,xc,xs,mn,oa,ol,oc,os,sa,sl,sc,ss,ta,tl,tc,ts,na,nl,nc,ns,ka,kl,kc,ks⟩))∧Below w.heap.size w w'):=by
 refine cS (args:=[.agg #[.slice va vl vc,.slice pa pl pc,.slice ea el ec,.slice xa xl xc,.int .i64 mn,.slice oa ol oc,.slice sa sl sc,.slice ta tl tc,.slice na nl nc,.slice ka kl kc]]) func35 rfl ntmps35 rfl ?_
 have hS:=St.start w
 refine aR (aU (cR (cs:=[_,_,_,_,_,_,_,_,_,_]) hS rfl rfl rfl fun B1 W1 hS=>aK rfl rfl (aT (XF.thenN (aR (aU (aQ (o':=0) cK rfl rfl rfl (aQ (o':=1) lJ rfl rfl rfl (aV isAgg22 rfl (aI (hS.at_ 0 rfl) rfl) rfl (bU underlying22 rfl rfl (aK rfl rfl (aT (XF.thenN (aR (aR (aU (aQ (o':=0) cK rfl rfl rfl (aQ (o':=0) eE rfl rfl rfl (aV isAgg22 rfl (aI (hS.at_ 0 rfl) rfl) rfl (bU underlying22 rfl rfl (lF rfl rfl rfl (aL rfl rfl (bK (d:=18) rfl (fun hc=>?_) (fun hc=>?_))))))))))))))))))))))))
 ·have hg18:=of_decide_eq_true hc;clear hc
  refine aH (d:=18) rfl rfl rfl rfl (aH (d:=18) rfl rfl rfl rfl (bC rfl rfl rfl (aL rfl rfl (aH (d:=22) rfl rfl rfl rfl (aH (d:=22) rfl rfl rfl rfl (bC rfl rfl rfl (aL rfl rfl (aH (d:=26) rfl rfl rfl rfl (aH (d:=26) rfl rfl rfl rfl (aH (d:=26) rfl rfl rfl rfl (aH (d:=26) rfl rfl rfl rfl (aH (d:=26) rfl rfl rfl rfl (aH (d:=26) rfl rfl rfl rfl (bC rfl rfl rfl (aL rfl rfl (aH (d:=34) rfl rfl rfl rfl (aH (d:=34) rfl rfl rfl rfl (aH (d:=34) rfl rfl rfl rfl (aH (d:=34) rfl rfl rfl rfl (aH (d:=34) rfl rfl rfl rfl (aH (d:=34) rfl rfl rfl rfl (bC rfl rfl rfl (aL rfl rfl (aH (d:=42) rfl rfl rfl rfl (aH (d:=42) rfl rfl rfl rfl (aH (d:=42) rfl rfl rfl rfl (aH (d:=42) rfl rfl rfl rfl (aH (d:=42) rfl rfl rfl rfl (bC rfl rfl rfl (aL rfl rfl (aH (d:=49) rfl rfl rfl rfl (aH (d:=49) rfl rfl rfl rfl ?_))))))))))))))))))))))))))))))))
  refine aH (d:=49) rfl rfl rfl rfl (aH (d:=49) rfl rfl rfl rfl (aH (d:=49) rfl rfl rfl rfl (bC rfl rfl rfl (aL rfl rfl (aH (d:=56) rfl rfl rfl rfl (aH (d:=56) rfl rfl rfl rfl (aH (d:=56) rfl rfl rfl rfl (aH (d:=56) rfl rfl rfl rfl (aH (d:=56) rfl rfl rfl rfl (aH (d:=56) rfl rfl rfl rfl (bC rfl rfl rfl (aT (XF.thenN (eA rfl (aR (aU (aK rfl rfl (aT (XF.thenN (bP (XF.thenR (XF.res (cG results35 rfl) ?_))))))))))))))))))))))
  exact ⟨bI (by unfold eG;dsimp only;rw [if_pos (by omega)]),hS.below⟩
 ·have hg18:=of_decide_eq_false hc;clear hc
  refine aF (d:=18) rfl rfl (aL rfl rfl (aF (d:=18) rfl rfl (dA rfl rfl rfl (bE rfl rfl rfl (aL rfl rfl (bK (d:=22) rfl (fun hc=>?_) (fun hc=>?_)))))))
  ·have hg22:=of_decide_eq_true hc;clear hc
   refine aH (d:=22) rfl rfl rfl rfl (aH (d:=22) rfl rfl rfl rfl (bC rfl rfl rfl (aL rfl rfl (aH (d:=26) rfl rfl rfl rfl (aH (d:=26) rfl rfl rfl rfl (aH (d:=26) rfl rfl rfl rfl (aH (d:=26) rfl rfl rfl rfl (aH (d:=26) rfl rfl rfl rfl (aH (d:=26) rfl rfl rfl rfl (bC rfl rfl rfl (aL rfl rfl (aH (d:=34) rfl rfl rfl rfl (aH (d:=34) rfl rfl rfl rfl (aH (d:=34) rfl rfl rfl rfl (aH (d:=34) rfl rfl rfl rfl (aH (d:=34) rfl rfl rfl rfl (aH (d:=34) rfl rfl rfl rfl (bC rfl rfl rfl (aL rfl rfl (aH (d:=42) rfl rfl rfl rfl (aH (d:=42) rfl rfl rfl rfl (aH (d:=42) rfl rfl rfl rfl (aH (d:=42) rfl rfl rfl rfl (aH (d:=42) rfl rfl rfl rfl (bC rfl rfl rfl (aL rfl rfl (aH (d:=49) rfl rfl rfl rfl (aH (d:=49) rfl rfl rfl rfl (aH (d:=49) rfl rfl rfl rfl (aH (d:=49) rfl rfl rfl rfl (aH (d:=49) rfl rfl rfl rfl (bC rfl rfl rfl ?_))))))))))))))))))))))))))))))))
   refine aL rfl rfl (aH (d:=56) rfl rfl rfl rfl (aH (d:=56) rfl rfl rfl rfl (aH (d:=56) rfl rfl rfl rfl (aH (d:=56) rfl rfl rfl rfl (aH (d:=56) rfl rfl rfl rfl (aH (d:=56) rfl rfl rfl rfl (bC rfl rfl rfl (aT (XF.thenN (eA rfl (aR (aU (aK rfl rfl (aT (XF.thenN (bP (XF.thenR (XF.res (cG results35 rfl) ?_))))))))))))))))))
   exact ⟨bI (by unfold eG;dsimp only;rw [if_neg (by omega),if_pos (by omega)]),hS.below⟩
  ·have hg22:=of_decide_eq_false hc;clear hc
   refine aF (d:=22) rfl rfl (aL rfl rfl (aF (d:=22) rfl rfl (lF rfl rfl rfl (bE rfl rfl rfl (aL rfl rfl (bK (d:=26) rfl (fun hc=>?_) (fun hc=>?_)))))))
   ·have hg26:=of_decide_eq_true hc;clear hc
    refine aH (d:=26) rfl rfl rfl rfl (aH (d:=26) rfl rfl rfl rfl (aH (d:=26) rfl rfl rfl rfl (aH (d:=26) rfl rfl rfl rfl (aH (d:=26) rfl rfl rfl rfl (aH (d:=26) rfl rfl rfl rfl (bC rfl rfl rfl (aL rfl rfl (aH (d:=34) rfl rfl rfl rfl (aH (d:=34) rfl rfl rfl rfl (aH (d:=34) rfl rfl rfl rfl (aH (d:=34) rfl rfl rfl rfl (aH (d:=34) rfl rfl rfl rfl (aH (d:=34) rfl rfl rfl rfl (bC rfl rfl rfl (aL rfl rfl (aH (d:=42) rfl rfl rfl rfl (aH (d:=42) rfl rfl rfl rfl (aH (d:=42) rfl rfl rfl rfl (aH (d:=42) rfl rfl rfl rfl (aH (d:=42) rfl rfl rfl rfl (bC rfl rfl rfl (aL rfl rfl (aH (d:=49) rfl rfl rfl rfl (aH (d:=49) rfl rfl rfl rfl (aH (d:=49) rfl rfl rfl rfl (aH (d:=49) rfl rfl rfl rfl (aH (d:=49) rfl rfl rfl rfl (bC rfl rfl rfl (aL rfl rfl (aH (d:=56) rfl rfl rfl rfl (aH (d:=56) rfl rfl rfl rfl (aH (d:=56) rfl rfl rfl rfl ?_))))))))))))))))))))))))))))))))
    refine aH (d:=56) rfl rfl rfl rfl (aH (d:=56) rfl rfl rfl rfl (aH (d:=56) rfl rfl rfl rfl (bC rfl rfl rfl (aT (XF.thenN (eA rfl (aR (aU (aK rfl rfl (aT (XF.thenN (bP (XF.thenR (XF.res (cG results35 rfl) ?_))))))))))))))
    exact ⟨bI (by unfold eG;dsimp only;rw [if_neg (by omega),if_neg (by omega),if_pos (by omega)]),hS.below⟩
   ·have hg26:=of_decide_eq_false hc;clear hc
    refine aF (d:=26) rfl rfl (aQ (o':=0) cK rfl rfl rfl (aF (d:=26) rfl rfl (aQ (o':=2) dP rfl rfl rfl (aF (d:=26) rfl rfl (aV isAgg23 rfl (aI (hS.at_ 0 rfl) rfl) rfl (aF (d:=26) rfl rfl (bU underlying23 rfl rfl (aF (d:=26) rfl rfl (aL rfl rfl (aF (d:=26) rfl rfl (cW rfl rfl rfl (bE rfl rfl rfl (aL rfl rfl (bK (d:=34) rfl (fun hc=>?_) (fun hc=>?_)))))))))))))))
    ·have hg34:=of_decide_eq_true hc;clear hc
     refine aH (d:=34) rfl rfl rfl rfl (aH (d:=34) rfl rfl rfl rfl (aH (d:=34) rfl rfl rfl rfl (aH (d:=34) rfl rfl rfl rfl (aH (d:=34) rfl rfl rfl rfl (aH (d:=34) rfl rfl rfl rfl (bC rfl rfl rfl (aL rfl rfl (aH (d:=42) rfl rfl rfl rfl (aH (d:=42) rfl rfl rfl rfl (aH (d:=42) rfl rfl rfl rfl (aH (d:=42) rfl rfl rfl rfl (aH (d:=42) rfl rfl rfl rfl (bC rfl rfl rfl (aL rfl rfl (aH (d:=49) rfl rfl rfl rfl (aH (d:=49) rfl rfl rfl rfl (aH (d:=49) rfl rfl rfl rfl (aH (d:=49) rfl rfl rfl rfl (aH (d:=49) rfl rfl rfl rfl (bC rfl rfl rfl (aL rfl rfl (aH (d:=56) rfl rfl rfl rfl (aH (d:=56) rfl rfl rfl rfl (aH (d:=56) rfl rfl rfl rfl (aH (d:=56) rfl rfl rfl rfl (aH (d:=56) rfl rfl rfl rfl (aH (d:=56) rfl rfl rfl rfl (bC rfl rfl rfl (aT (XF.thenN (eA rfl (aR (aU (aK rfl rfl ?_))))))))))))))))))))))))))))))))))
     refine aT (XF.thenN (bP (XF.thenR (XF.res (cG results35 rfl) ?_))))
     exact ⟨bI (by unfold eG;dsimp only;rw [if_neg (by omega),if_neg (by omega),if_neg (by omega),if_pos (by omega)]),hS.below⟩
    ·have hg34:=of_decide_eq_false hc;clear hc
     refine aF (d:=34) rfl rfl (aQ (o':=0) cK rfl rfl rfl (aF (d:=34) rfl rfl (aQ (o':=3) eT rfl rfl rfl (aF (d:=34) rfl rfl (aV isAgg23 rfl (aI (hS.at_ 0 rfl) rfl) rfl (aF (d:=34) rfl rfl (bU underlying23 rfl rfl (aF (d:=34) rfl rfl (aL rfl rfl (aF (d:=34) rfl rfl (cW rfl rfl rfl (bE rfl rfl rfl (aL rfl rfl (bK (d:=42) rfl (fun hc=>?_) (fun hc=>?_)))))))))))))))
     ·have hg42:=of_decide_eq_true hc;clear hc
      refine aH (d:=42) rfl rfl rfl rfl (aH (d:=42) rfl rfl rfl rfl (aH (d:=42) rfl rfl rfl rfl (aH (d:=42) rfl rfl rfl rfl (aH (d:=42) rfl rfl rfl rfl (bC rfl rfl rfl (aL rfl rfl (aH (d:=49) rfl rfl rfl rfl (aH (d:=49) rfl rfl rfl rfl (aH (d:=49) rfl rfl rfl rfl (aH (d:=49) rfl rfl rfl rfl (aH (d:=49) rfl rfl rfl rfl (bC rfl rfl rfl (aL rfl rfl (aH (d:=56) rfl rfl rfl rfl (aH (d:=56) rfl rfl rfl rfl (aH (d:=56) rfl rfl rfl rfl (aH (d:=56) rfl rfl rfl rfl (aH (d:=56) rfl rfl rfl rfl (aH (d:=56) rfl rfl rfl rfl (bC rfl rfl rfl (aT (XF.thenN (eA rfl (aR (aU (aK rfl rfl (aT (XF.thenN (bP (XF.thenR (XF.res (cG results35 rfl) ?_)))))))))))))))))))))))))))))))
      exact ⟨bI (by unfold eG;dsimp only;rw [if_neg (by omega),if_neg (by omega),if_neg (by omega),if_neg (by omega),if_pos (by omega)]),hS.below⟩
     ·have hg42:=of_decide_eq_false hc;clear hc
      refine aF (d:=42) rfl rfl (aQ (o':=0) cK rfl rfl rfl (aF (d:=42) rfl rfl (aQ (o':=5) cA rfl rfl rfl (aF (d:=42) rfl rfl (aV isAgg23 rfl (aI (hS.at_ 0 rfl) rfl) rfl (aF (d:=42) rfl rfl (bU underlying23 rfl rfl (aF (d:=42) rfl rfl (lF rfl rfl rfl (bE rfl rfl rfl (aL rfl rfl (bK (d:=49) rfl (fun hc=>?_) (fun hc=>?_)))))))))))))
      ·have hg49:=of_decide_eq_true hc;clear hc
       refine aH (d:=49) rfl rfl rfl rfl (aH (d:=49) rfl rfl rfl rfl (aH (d:=49) rfl rfl rfl rfl (aH (d:=49) rfl rfl rfl rfl (aH (d:=49) rfl rfl rfl rfl (bC rfl rfl rfl (aL rfl rfl (aH (d:=56) rfl rfl rfl rfl (aH (d:=56) rfl rfl rfl rfl (aH (d:=56) rfl rfl rfl rfl (aH (d:=56) rfl rfl rfl rfl (aH (d:=56) rfl rfl rfl rfl (aH (d:=56) rfl rfl rfl rfl (bC rfl rfl rfl (aT (XF.thenN (eA rfl (aR (aU (aK rfl rfl (aT (XF.thenN (bP (XF.thenR (XF.res (cG results35 rfl) ?_))))))))))))))))))))))))
       exact ⟨bI (by unfold eG;dsimp only;rw [if_neg (by omega),if_neg (by omega),if_neg (by omega),if_neg (by omega),if_neg (by omega),if_pos (by omega)]),hS.below⟩
      ·have hg49:=of_decide_eq_false hc;clear hc
       refine aF (d:=49) rfl rfl (aQ (o':=0) cK rfl rfl rfl (aF (d:=49) rfl rfl (aQ (o':=7) cX rfl rfl rfl (aF (d:=49) rfl rfl (aV isAgg25 rfl (aI (hS.at_ 0 rfl) rfl) rfl (aF (d:=49) rfl rfl (bU underlying25 rfl rfl (aF (d:=49) rfl rfl (lF rfl rfl rfl (bE rfl rfl rfl (aL rfl rfl (bK (d:=56) rfl (fun hc=>?_) (fun hc=>?_)))))))))))))
       ·have hg56:=of_decide_eq_true hc;clear hc
        refine aH (d:=56) rfl rfl rfl rfl (aH (d:=56) rfl rfl rfl rfl (aH (d:=56) rfl rfl rfl rfl (aH (d:=56) rfl rfl rfl rfl (aH (d:=56) rfl rfl rfl rfl (aH (d:=56) rfl rfl rfl rfl (bC rfl rfl rfl (aT (XF.thenN (eA rfl (aR (aU (aK rfl rfl (aT (XF.thenN (bP (XF.thenR (XF.res (cG results35 rfl) ?_)))))))))))))))))
        exact ⟨bI (by unfold eG;dsimp only;rw [if_neg (by omega),if_neg (by omega),if_neg (by omega),if_neg (by omega),if_neg (by omega),if_neg (by omega),if_pos (by omega)]),hS.below⟩
       ·have hg56:=of_decide_eq_false hc;clear hc
        refine aF (d:=56) rfl rfl (bF (vs:=[_,_,_,_,_,_,_,_,_,_]) isAgg103 sizeOf103 rfl (aM.own (j:=0) (m:=10) (hS.at_ 0 rfl) rfl) rfl (aF (d:=56) rfl rfl (aQ (o':=0) cK rfl rfl rfl (aF (d:=56) rfl rfl (aQ (o':=4) hH rfl rfl rfl (aF (d:=56) rfl rfl (aV isAgg3 rfl (aI (hS.at_ 0 rfl) rfl) rfl (aF (d:=56) rfl rfl (cD (vs:=[_,_]) hS nY rfl (pM ⟨_,vl,vc,_,pl,pc,_,el,ec,es,_,xl,xc,xs,mn,_,ol,oc,os,_,sl,sc,ss,_,tl,tc,ts,_,nl,nc,ns,_,kl,kc,ks⟩ mn _) rfl fun W2 hS=>aF (d:=56) rfl rfl (eX rfl rfl (bE rfl rfl rfl (aT (XF.thenN (bJ rfl (fun hc=>?_) (fun hc=>?_)))))))))))))))
        ·have hc63:=hc;clear hc
         skip
         refine aR (aU (aK rfl rfl (aT (XF.thenN (bP (XF.thenR (XF.res (cG results35 rfl) ?_)))))))
         exact ⟨bI (by unfold eG;dsimp only;rw [if_neg (by omega),if_neg (by omega),if_neg (by omega),if_neg (by omega),if_neg (by omega),if_neg (by omega),if_neg (by omega),if_pos (by simpa using hc63)]),hS.below⟩
        ·have hc63:=hc;clear hc
         have hmn:gr_inQ mn pl=true:=by simpa using hc63
         refine bQ (XF.thenN (aR (aR (aU (aQ (o':=0) cK rfl rfl rfl (aQ (o':=5) cA rfl rfl rfl (aV isAgg23 rfl (aI (hS.at_ 0 rfl) rfl) rfl (bU underlying23 rfl rfl (aL rfl rfl (aT (XF.thenN (bR (eI (fun m l W=>∃ i:Nat,i≤ol∧m=ol - i∧l=[(1,.pointer (some ⟨B1,0,none⟩)),(3,.int .i64 (pl:Int)),(66,.slice oa ol oc),(67,.int .i64 (ol:Int)),(68,.int .i64 (i:Int))]∧(os.take i).all (fun y=>gr_inQ y pl)=true∧St w [(B1,[.slice va vl vc,.slice pa pl pc,.slice ea el ec,.slice xa xl xc,.int .i64 mn,.slice oa ol oc,.slice sa sl sc,.slice ta tl tc,.slice na nl nc,.slice ka kl kc],103)] [] [] W) (ol - 0) ([(1,_),(3,_),(66,_),(67,_),(68,_)]) ⟨rfl,rfl,rfl,rfl,rfl,trivial⟩ (⟨0,Nat.zero_le _,rfl,rfl,rfl,hS.clear⟩) ?_)))))))))))))
         clear hS
         rintro m l W ⟨i,hi,rfl,rfl,hall,hS⟩
         refine aR (aU (dA rfl rfl rfl (aT (XF.thenN (aR (bJ rfl (fun hc=>?_) (fun hc=>?_)))))))
         ·have hc69:=of_decide_eq_true hc;clear hc
          have hk1:i < ol:=by omega
          obtain ⟨b,off,y,rfl,hy,hyc⟩:=ho.get (i:=i) (by omega)
          have k1:=(aM.agree hS.agree (Nat.zero_le _) hyc).1
          refine bQ (XF.thenN (aR (bR (aR (aU (cP  underlying23 sizeOf3 rfl rfl rfl (by omega) rfl rfl (aV isAgg3 rfl (k1) rfl (aK rfl rfl (aT (XF.thenN (aR (aU (bF (vs:=[_,_,_,_,_,_,_,_,_,_]) isAgg103 sizeOf103 rfl (aM.own (j:=0) (m:=10) (hS.at_ 0 rfl) rfl) rfl (aL rfl rfl (cD (vs:=[_,_]) hS nY rfl (pM ⟨_,vl,vc,_,pl,pc,_,el,ec,es,_,xl,xc,xs,mn,_,ol,oc,os,_,sl,sc,ss,_,tl,tc,ts,_,nl,nc,ns,_,kl,kc,ks⟩ y _) rfl fun W3 hS=>eX rfl rfl (aT (XF.thenN (bJ rfl (fun hc=>?_) (fun hc=>?_)))))))))))))))))))
          ·have hc75:=hc;clear hc
           refine aR (aU (aK rfl rfl (aT (XF.thenN (bP (XF.blkR (XF.thenR (XF.thenR (XF.blkR (XF.thenR (XF.res (cG results35 rfl) ?_)))))))))))
           exact ⟨bI (by unfold eG;dsimp only;rw [if_neg (by omega),if_neg (by omega),if_neg (by omega),if_neg (by omega),if_neg (by omega),if_neg (by omega),if_neg (by omega),if_neg (by rw [hmn];simp),if_pos (dR hy (by simpa using hc75))]),hS.below⟩
          ·have hc75:=hc;clear hc
           refine bQ (XF.blkN (XF.thenN (aU (dH rfl rfl (IntWalk.i64_in _ (by omega)) rfl (aL rfl rfl (aT ?_))))))
           exact XF.round (ol - (i+1)) [(1,_),(3,_),(66,_),(67,_),(68,_)] (by omega) ⟨rfl,rfl,rfl,rfl,rfl,trivial⟩ ⟨i+1,by omega,rfl,rfl,eO hy hall (by simpa using hc75),hS.clear⟩
         ·have hc69:=of_decide_eq_false hc;clear hc
          rw [List.take_of_length_le (by omega)] at hall
          refine cZ (XF.thenX (XF.thenX (XF.blkX (XF.thenN (aR (aR (aU (aL rfl rfl (aL rfl rfl (aT (XF.thenN (bR (eI (fun m l W=>∃ p:Nat,p≤pl∧m=pl - p∧l=[(1,.pointer (some ⟨B1,0,none⟩)),(77,.int .i64 (pl:Int)),(78,.int .i64 (p:Int))]∧(List.range p).all (tG ⟨va,vl,vc,pa,pl,pc,ea,el,ec,es,xa,xl,xc,xs,mn,oa,ol,oc,os,sa,sl,sc,ss,ta,tl,tc,ts,na,nl,nc,ns,ka,kl,kc,ks⟩)=true∧St w [(B1,[.slice va vl vc,.slice pa pl pc,.slice ea el ec,.slice xa xl xc,.int .i64 mn,.slice oa ol oc,.slice sa sl sc,.slice ta tl tc,.slice na nl nc,.slice ka kl kc],103)] [] [] W) (pl - 0) ([(1,_),(77,_),(78,_)]) ⟨rfl,rfl,rfl,trivial⟩ (⟨0,Nat.zero_le _,rfl,rfl,rfl,hS.clear⟩) ?_)))))))))))))
          clear hS
          rintro m l W ⟨p,hp,rfl,rfl,hpr,hS⟩
          refine aR (aU (dA rfl rfl rfl (aT (XF.thenN (aR (bJ rfl (fun hc=>?_) (fun hc=>?_)))))))
          ·have hc79:=of_decide_eq_true hc;clear hc
           have hp1:p < pl:=by omega
           obtain ⟨eb,eo,n1,rfl,hn1,hnc1⟩:=he.get (i:=p) (by omega)
           obtain ⟨xb,xo,n2,rfl,hn2,hnc2⟩:=hx.get (i:=p) (by omega)
           have k1:=(aM.agree hS.agree (Nat.zero_le _) hnc1).1
           have k2:=(aM.agree hS.agree (Nat.zero_le _) hnc2).1
           refine bQ (XF.thenN (aR (bR (aR (aU (aL rfl rfl (aK rfl rfl (aT (XF.thenN (aR (fK (m:=15) bG hS (by kernel_rfl) (by kernel_rfl) rfl (bZ 1 rfl 1 rfl rfl (fun w hw=>aO (o':=0) cK rfl rfl) rfl (aZ 2 rfl 81 0 rfl rfl rfl (fun w hw=>aO (o':=2) dP rfl rfl) rfl (aZ 3 rfl 82 1 rfl rfl rfl (fun w hw=>aS isAgg23 rfl ((aJ hw 0).cell (Nat.zero_le _) (aI (hS.at_ 0 rfl) rfl))) rfl (bZ 4 rfl 6 rfl rfl (fun w hw=>aW rfl) rfl (aD 5 rfl (isV _) (aB _) (rgV (li:=[(83,_),(84,_)]) rfl (aP rfl) ⟨aG 2 (aA rfl rfl rfl),aG 3 (aA rfl rfl rfl),trivial⟩ (fun w hw=>bH  underlying23 sizeOf3 rfl rfl rfl (by omega) rfl) (aC rfl)) (aZ 6 rfl 85 4 rfl rfl rfl (fun w hw=>aS isAgg3 rfl ((aJ hw 0).cell (Nat.zero_le _) (k1))) rfl (bZ 7 rfl 1 rfl rfl (fun w hw=>aO (o':=0) cK rfl rfl) rfl (aZ 8 rfl 87 6 rfl rfl rfl (fun w hw=>aO (o':=3) eT rfl rfl) rfl (aZ 9 rfl 88 7 rfl rfl rfl (fun w hw=>aS isAgg23 rfl ((aJ hw 0).cell (Nat.zero_le _) (aI (hS.at_ 0 rfl) rfl))) rfl (bZ 10 rfl 6 rfl rfl (fun w hw=>aW rfl) rfl (aD 11 rfl (isV _) (aB _) (rgV (li:=[(89,_),(90,_)]) rfl (aP rfl) ⟨aG 8 (aA rfl rfl rfl),aG 9 (aA rfl rfl rfl),trivial⟩ (fun w hw=>bH  underlying23 sizeOf3 rfl rfl rfl (by omega) rfl) (aC rfl)) (aZ 12 rfl 91 10 rfl rfl rfl (fun w hw=>aS isAgg3 rfl ((aJ hw 0).cell (Nat.zero_le _) (k2))) rfl (aD 13 rfl (dV W.heap.size 2 3 _) (eJ) (iD (us:=[.int .i64 _,.int .i64 _]) rfl (aP rfl) underlying23 sizeOf3 zeroValue3 rfl rfl ⟨bO (aG 5 (aA rfl rfl rfl)),bO (aG 11 (aA rfl rfl rfl)),trivial⟩ (iU _ _) (aC rfl)) (aD 14 rfl (isV (.int .i64 (2:Nat))) (aB _) (rg_lenR rfl (aG 12 (aA rfl rfl rfl)) underlying23 (aC rfl)) (aD 15 rfl (isV _) (aB _) (rgV (li:=[]) rfl (aP rfl) trivial (fun w hw=>aW rfl) (aC rfl)) (dF ?_)))))))))))))))))))))))))))
           intro W4 hbR hS'
           clear hS;have hS:=hS';clear hS'
           refine aE (aE (aE (aE (aE (aE (aE (aE (aE (aE (aE (aE ?_)))))))))))
           refine dO ?_;rintro _ ⟨B13_12,rfl,hlo13_12,hrow13_12⟩
           refine aE (aE (bV (XF.thenN (bR (eI (fun m l W=>∃ j:Nat,j≤2∧m=2 - j∧l=[(1,.pointer (some ⟨B1,0,none⟩)),(6,.int .i64 (p:Int)),(77,.int .i64 (pl:Int)),(78,.int .i64 (p:Int)),(93,.slice (some ⟨B13_12,0,none⟩) 2 2),(94,.int .i64 (2:Nat)),(95,.int .i64 (j:Int))]∧(1≤j→fA os ol es p=true)∧(2≤j→fA os ol xs p=true)∧W.heap[B13_12]?=some (.cells #[.int .i64 n1,.int .i64 n2] 3 (0,0))∧St w [(B1,[.slice va vl vc,.slice pa pl pc,.slice (some ⟨eb,eo,none⟩) el ec,.slice (some ⟨xb,xo,none⟩) xl xc,.int .i64 mn,.slice oa ol oc,.slice sa sl sc,.slice ta tl tc,.slice na nl nc,.slice ka kl kc],103)] [] [] W) (2 - 0) ([(1,_),(6,_),(77,_),(78,_),(93,_),(94,_),(95,_)]) ⟨rfl,rfl,rfl,rfl,rfl,rfl,rfl,trivial⟩ (⟨0,Nat.zero_le _,rfl,rfl,fun h=>by omega,fun h=>by omega,hrow13_12,hS.clear⟩) ?_)))))
           clear hS
           rintro m l W ⟨j,hj,rfl,rfl,hj1,hj2,hBc,hS⟩
           refine aR (aU (dA rfl rfl rfl (aT (XF.thenN (aR (bJ rfl (fun hc=>?_) (fun hc=>?_)))))))
           ·have hc96:=of_decide_eq_true hc;clear hc
            refine bQ (XF.thenN (aR (bR (aR ?_))))
            rcases (show j=0∨j=1 by omega) with rfl | rfl
            ·have k3:=aI (j:=0) hBc rfl
             refine aU (cP (j:=0) underlying23 sizeOf3 rfl rfl (by omega) (by omega) rfl rfl (aV isAgg3 rfl (k3) rfl (aK rfl rfl (aT (XF.thenN (aR (aU (bF (vs:=[_,_,_,_,_,_,_,_,_,_]) isAgg103 sizeOf103 rfl (aM.own (j:=0) (m:=10) (hS.at_ 0 rfl) rfl) rfl (aL rfl rfl (cV (vs:=[_,_]) hS fT rfl (gM ⟨_,vl,vc,_,pl,pc,_,el,ec,es,_,xl,xc,xs,mn,_,ol,oc,os,_,sl,sc,ss,_,tl,tc,ts,_,nl,nc,ns,_,kl,kc,ks⟩ n1 _) rfl ?_))))))))))
             rintro e W5 ⟨rfl,hb⟩
             refine ⟨_,rfl,hb,fun hS'=>?_⟩
             clear hS;have hS:=hS';clear hS'
             have hBc:=(hb.block _ (cT hBc)).trans hBc
             clear hb
             refine eX rfl rfl (aL rfl rfl (bK (d:=103) rfl (fun hc=>?_) (fun hc=>?_)))
             ·have hg103:=hc;clear hc
              have hno:gr_inQ n1 ol=false:=by simpa using hg103
              refine aH (d:=103) rfl rfl rfl rfl (aH (d:=103) rfl rfl rfl rfl (aH (d:=103) rfl rfl rfl rfl (aH (d:=103) rfl rfl rfl rfl (aH (d:=103) rfl rfl rfl rfl (aH (d:=103) rfl rfl rfl rfl (aH (d:=103) rfl rfl rfl rfl (aH (d:=103) rfl rfl rfl rfl (bC rfl rfl rfl (aT (XF.thenN (eA rfl (aR (aU (aK rfl rfl (aT (XF.thenN (bP (XF.blkR (XF.thenR (XF.thenR (XF.blkR (XF.blkR (XF.thenR (XF.thenR (XF.blkR (XF.thenR (XF.res (cG results35 rfl) ?_)))))))))))))))))))))))))))
              exact ⟨bI (by unfold eG;dsimp only;rw [if_neg (by omega),if_neg (by omega),if_neg (by omega),if_neg (by omega),if_neg (by omega),if_neg (by omega),if_neg (by omega),if_neg (by rw [hmn];simp),if_neg (by rw [hall];simp),fM hp1 (by show (fA os ol es p && fA os ol xs p)=false;rw [nD hn1 hno];simp)]),hS.below⟩
             ·have hg103:=hc;clear hc
              obtain ⟨kn,rfl,hkn⟩:=hC (show gr_inQ n1 ol=true by simpa using hg103)
              obtain ⟨ob,oo,q,rfl,hq,hqc⟩:=ho.get (i:=kn) (by omega)
              have k4:=(aM.agree hS.agree (Nat.zero_le _) hqc).1
              have hnq:=kZ (ol:=ol) hn1 (rQ hkn) (by rw [Int.toNat_natCast];exact hq)
              refine aF (d:=103) rfl rfl (aQ (o':=0) cK rfl rfl rfl (aF (d:=103) rfl rfl (aQ (o':=5) cA rfl rfl rfl (aF (d:=103) rfl rfl (aV isAgg23 rfl (aI (hS.at_ 0 rfl) rfl) rfl (aF (d:=103) rfl rfl (aL rfl rfl (aF (d:=103) rfl rfl (cP (j:=kn) underlying23 sizeOf3 rfl rfl (by omega) (by omega) rfl rfl (aF (d:=103) rfl rfl (aV isAgg3 rfl (k4) rfl (aF (d:=103) rfl rfl (aL rfl rfl (aF (d:=103) rfl rfl (cW rfl rfl rfl (bE rfl rfl rfl (aT (XF.thenN (bJ rfl (fun hc=>?_) (fun hc=>?_))))))))))))))))))))
              ·have hc112:=of_decide_eq_true hc;clear hc
               refine aR (aU (aK rfl rfl (aT (XF.thenN (bP (XF.blkR (XF.thenR (XF.thenR (XF.blkR (XF.blkR (XF.thenR (XF.thenR (XF.blkR (XF.thenR (XF.res (cG results35 rfl) ?_)))))))))))))))
               exact ⟨bI (by unfold eG;dsimp only;rw [if_neg (by omega),if_neg (by omega),if_neg (by omega),if_neg (by omega),if_neg (by omega),if_neg (by omega),if_neg (by omega),if_neg (by rw [hmn];simp),if_neg (by rw [hall];simp),fM hp1 (by show (fA os ol es p && fA os ol xs p)=false;rw [hnq,decide_eq_false (by omega)];simp)]),hS.below⟩
              ·have hc112:=of_decide_eq_false hc;clear hc
               refine bQ (XF.blkN (XF.thenN (aU (dH rfl rfl (IntWalk.i64_in _ (by omega)) rfl (aL rfl rfl (aT ?_))))))
               exact XF.round (2 - (0+1)) [(1,_),(6,_),(77,_),(78,_),(93,_),(94,_),(95,_)] (by omega) ⟨rfl,rfl,rfl,rfl,rfl,rfl,rfl,trivial⟩ ⟨0+1,by omega,rfl,rfl,fun _=>by rw [hnq];exact decide_eq_true (by omega),fun h=>by omega,hBc,hS.clear⟩
            ·have k3:=aI (j:=1) hBc rfl
             refine aU (cP (j:=1) underlying23 sizeOf3 rfl rfl (by omega) (by omega) rfl rfl (aV isAgg3 rfl (k3) rfl (aK rfl rfl (aT (XF.thenN (aR (aU (bF (vs:=[_,_,_,_,_,_,_,_,_,_]) isAgg103 sizeOf103 rfl (aM.own (j:=0) (m:=10) (hS.at_ 0 rfl) rfl) rfl (aL rfl rfl (cV (vs:=[_,_]) hS fT rfl (gM ⟨_,vl,vc,_,pl,pc,_,el,ec,es,_,xl,xc,xs,mn,_,ol,oc,os,_,sl,sc,ss,_,tl,tc,ts,_,nl,nc,ns,_,kl,kc,ks⟩ n2 _) rfl ?_))))))))))
             rintro e W6 ⟨rfl,hb⟩
             refine ⟨_,rfl,hb,fun hS'=>?_⟩
             clear hS;have hS:=hS';clear hS'
             have hBc:=(hb.block _ (cT hBc)).trans hBc
             clear hb
             refine eX rfl rfl (aL rfl rfl (bK (d:=103) rfl (fun hc=>?_) (fun hc=>?_)))
             ·have hg103:=hc;clear hc
              have hno:gr_inQ n2 ol=false:=by simpa using hg103
              refine aH (d:=103) rfl rfl rfl rfl (aH (d:=103) rfl rfl rfl rfl (aH (d:=103) rfl rfl rfl rfl (aH (d:=103) rfl rfl rfl rfl (aH (d:=103) rfl rfl rfl rfl (aH (d:=103) rfl rfl rfl rfl (aH (d:=103) rfl rfl rfl rfl (aH (d:=103) rfl rfl rfl rfl (bC rfl rfl rfl (aT (XF.thenN (eA rfl (aR (aU (aK rfl rfl (aT (XF.thenN (bP (XF.blkR (XF.thenR (XF.thenR (XF.blkR (XF.blkR (XF.thenR (XF.thenR (XF.blkR (XF.thenR (XF.res (cG results35 rfl) ?_)))))))))))))))))))))))))))
              exact ⟨bI (by unfold eG;dsimp only;rw [if_neg (by omega),if_neg (by omega),if_neg (by omega),if_neg (by omega),if_neg (by omega),if_neg (by omega),if_neg (by omega),if_neg (by rw [hmn];simp),if_neg (by rw [hall];simp),fM hp1 (by show (fA os ol es p && fA os ol xs p)=false;rw [nD hn2 hno];simp)]),hS.below⟩
             ·have hg103:=hc;clear hc
              obtain ⟨kn,rfl,hkn⟩:=hC (show gr_inQ n2 ol=true by simpa using hg103)
              obtain ⟨ob,oo,q,rfl,hq,hqc⟩:=ho.get (i:=kn) (by omega)
              have k4:=(aM.agree hS.agree (Nat.zero_le _) hqc).1
              have hnq:=kZ (ol:=ol) hn2 (rQ hkn) (by rw [Int.toNat_natCast];exact hq)
              refine aF (d:=103) rfl rfl (aQ (o':=0) cK rfl rfl rfl (aF (d:=103) rfl rfl (aQ (o':=5) cA rfl rfl rfl (aF (d:=103) rfl rfl (aV isAgg23 rfl (aI (hS.at_ 0 rfl) rfl) rfl (aF (d:=103) rfl rfl (aL rfl rfl (aF (d:=103) rfl rfl (cP (j:=kn) underlying23 sizeOf3 rfl rfl (by omega) (by omega) rfl rfl (aF (d:=103) rfl rfl (aV isAgg3 rfl (k4) rfl (aF (d:=103) rfl rfl (aL rfl rfl (aF (d:=103) rfl rfl (cW rfl rfl rfl (bE rfl rfl rfl (aT (XF.thenN (bJ rfl (fun hc=>?_) (fun hc=>?_))))))))))))))))))))
              ·have hc112:=of_decide_eq_true hc;clear hc
               refine aR (aU (aK rfl rfl (aT (XF.thenN (bP (XF.blkR (XF.thenR (XF.thenR (XF.blkR (XF.blkR (XF.thenR (XF.thenR (XF.blkR (XF.thenR (XF.res (cG results35 rfl) ?_)))))))))))))))
               exact ⟨bI (by unfold eG;dsimp only;rw [if_neg (by omega),if_neg (by omega),if_neg (by omega),if_neg (by omega),if_neg (by omega),if_neg (by omega),if_neg (by omega),if_neg (by rw [hmn];simp),if_neg (by rw [hall];simp),fM hp1 (by show (fA os ol es p && fA os ol xs p)=false;rw [hnq,decide_eq_false (by omega)];simp)]),hS.below⟩
              ·have hc112:=of_decide_eq_false hc;clear hc
               refine bQ (XF.blkN (XF.thenN (aU (dH rfl rfl (IntWalk.i64_in _ (by omega)) rfl (aL rfl rfl (aT ?_))))))
               exact XF.round (2 - (1+1)) [(1,_),(6,_),(77,_),(78,_),(93,_),(94,_),(95,_)] (by omega) ⟨rfl,rfl,rfl,rfl,rfl,rfl,rfl,trivial⟩ ⟨1+1,by omega,rfl,rfl,fun _=>hj1 (by omega),fun _=>by rw [hnq];exact decide_eq_true (by omega),hBc,hS.clear⟩
           ·have hc96:=of_decide_eq_false hc;clear hc
            have hj3:j=2:=by omega
            refine cZ (XF.thenX (XF.thenX (XF.blkX (XF.blkN (XF.thenN (aU (dH rfl rfl (IntWalk.i64_in _ (by omega)) rfl (aL rfl rfl (aT ?_)))))))))
            exact XF.round (pl - (p+1)) [(1,_),(77,_),(78,_)] (by omega) ⟨rfl,rfl,rfl,trivial⟩ ⟨p+1,by omega,rfl,rfl,rR hp1 hpr (by show (fA os ol es p && fA os ol xs p)=true;rw [hj1 (by omega),hj2 (by omega)];rfl),hS.clear⟩
          ·have hc79:=of_decide_eq_false hc;clear hc
           refine cZ (XF.thenX (XF.thenX (XF.blkX (XF.thenN (aR (aU (aK rfl rfl (aT (XF.thenN (bP (XF.res (cG results35 rfl) ?_)))))))))))
           have hpp:p=pl:=by omega
           subst hpp
           exact ⟨bI (by unfold eG;dsimp only;rw [if_neg (by omega),if_neg (by omega),if_neg (by omega),if_neg (by omega),if_neg (by omega),if_neg (by omega),if_neg (by omega),if_neg (by rw [hmn];simp),if_neg (by rw [hall];simp),hpr]),hS.below⟩
theorem lK (w:World) (b o:Nat):(Instr.fieldAt 81 (.pointer (some ⟨b,o,none⟩)) 2).run prog w = .ok (.pointer (some ⟨b,o+2,none⟩)) w:=by
 simp [Instr.fieldAt,run_underlying underlying81,Instr.sureAddr,go_sem,Addr.add_lit]
theorem nZ (w:World) (b o:Nat):(Instr.fieldAt 81 (.pointer (some ⟨b,o,none⟩)) 3).run prog w = .ok (.pointer (some ⟨b,o+3,none⟩)) w:=by
 simp [Instr.fieldAt,run_underlying underlying81,Instr.sureAddr,go_sem,Addr.add_lit]
theorem cO (w:World) (b o:Nat):(Instr.fieldAt 79 (.pointer (some ⟨b,o,none⟩)) 0).run prog w = .ok (.pointer (some ⟨b,o+0,none⟩)) w:=by
 simp [Instr.fieldAt,run_underlying underlying79,Instr.sureAddr,go_sem,Addr.add_lit]
theorem cU (w:World) (b o:Nat):(Instr.fieldAt 79 (.pointer (some ⟨b,o,none⟩)) 1).run prog w = .ok (.pointer (some ⟨b,o+1,none⟩)) w:=by
 simp [Instr.fieldAt,run_underlying underlying79,Instr.sureAddr,go_sem,Addr.add_lit]
theorem dQ (w:World) (b o:Nat):(Instr.fieldAt 79 (.pointer (some ⟨b,o,none⟩)) 2).run prog w = .ok (.pointer (some ⟨b,o+2,none⟩)) w:=by
 simp [Instr.fieldAt,run_underlying underlying79,Instr.sureAddr,go_sem,Addr.add_lit]
theorem cF (w:World) (b o:Nat):(Instr.fieldAt 79 (.pointer (some ⟨b,o,none⟩)) 3).run prog w = .ok (.pointer (some ⟨b,o+3,none⟩)) w:=by
 simp [Instr.fieldAt,run_underlying underlying79,Instr.sureAddr,go_sem,Addr.add_lit]
theorem dT (w:World) (b o:Nat):(Instr.fieldAt 79 (.pointer (some ⟨b,o,none⟩)) 4).run prog w = .ok (.pointer (some ⟨b,o+4,none⟩)) w:=by
 simp [Instr.fieldAt,run_underlying underlying79,Instr.sureAddr,go_sem,Addr.add_lit]
theorem fU (w:World) (b o:Nat):(Instr.fieldAt 79 (.pointer (some ⟨b,o,none⟩)) 5).run prog w = .ok (.pointer (some ⟨b,o+5,none⟩)) w:=by
 simp [Instr.fieldAt,run_underlying underlying79,Instr.sureAddr,go_sem,Addr.add_lit]
theorem dI (w:World) (b o:Nat):(Instr.fieldAt 79 (.pointer (some ⟨b,o,none⟩)) 6).run prog w = .ok (.pointer (some ⟨b,o+6,none⟩)) w:=by
 simp [Instr.fieldAt,run_underlying underlying79,Instr.sureAddr,go_sem,Addr.add_lit]
theorem hJ:cL prog 53=true:=by kernel_rfl
theorem step_c (va:Option Addr) (vl:Nat) (vc:Nat) (pa:Option Addr) (pl:Nat) (pc:Nat) (ea:Option Addr) (el:Nat) (ec:Nat) (es:List Int) (xa:Option Addr) (xl:Nat) (xc:Nat) (xs:List Int) (mn:Int) (oa:Option Addr) (ol:Nat) (oc:Nat) (os:List Int) (sa:Option Addr) (sl:Nat) (sc:Nat) (ss:List gr_TV) (ta:Option Addr) (tl:Nat) (tc:Nat) (ts:List UV) (na:Option Addr) (nl:Nat) (nc:Nat) (ns:List NV) (ka:Option Addr) (kl:Nat) (kc:Nat) (ks:List KV) (s:gr_TV) (n:Nat) (w:World) (he:dS w ea es) (hel:es.length=el) (hx:dS w xa xs) (hxl:xs.length=xl) (ho:dS w oa os) (hol:os.length=ol) (hs:dB gr_TV.sev 7 w sa ss) (hsl:ss.length=sl) (ht:dB UV.four 4 w ta ts) (htl:ts.length=tl) (hn:dB NV.two 2 w na ns) (hnl:ns.length=nl) (hk:dB KV.two 2 w ka ks) (hkl:ks.length=kl) (b1:vl≤5000) (b2:pl≤5000) (b3:el≤5000) (b4:xl≤5000) (b5:ol≤5000) (b6:sl≤5000) (b7:tl≤5000) (b8:nl≤5000) (b9:kl≤5000) :
  Calls prog 52 #[.agg #[.slice va vl vc,.slice pa pl pc,.slice ea el ec,.slice xa xl xc,.int .i64 mn,.slice oa ol oc,.slice sa sl sc,.slice ta tl tc,.slice na nl nc,.slice ka kl kc],s.val,.int .i64 (n:Int)] w (fun e w'=>e = .returned (.bool (kY ⟨va,vl,vc,pa,pl,pc,ea,el,ec,es,xa,xl,xc,xs,mn,oa,ol,oc,os,sa,sl,sc,ss,ta,tl,tc,ts,na,nl,nc,ns,ka,kl,kc,ks⟩ s n))∧Below w.heap.size w w'):=by
 refine cS (args:=[.agg #[.slice va vl vc,.slice pa pl pc,.slice ea el ec,.slice xa xl xc,.int .i64 mn,.slice oa ol oc,.slice sa sl sc,.slice ta tl tc,.slice na nl nc,.slice ka kl kc],s.val,.int .i64 (n:Int)]) func52 rfl ntmps52 rfl ?_
 have hS:=St.start w
 refine aR (aU (cR (cs:=[_,_,_,_,_,_,_,_,_,_]) hS rfl rfl rfl fun B1 W1 hS=>cR (cs:=[_,_,_,_,_,_,_]) hS rfl rfl rfl fun B2 W2 hS=>aK rfl rfl (aT (XF.thenN (aR (aR ?_))))))
 rcases (show gr_inQ s.f ol=false∨(gr_inQ s.f ol=true∧gr_inQ s.t ol=false)∨(gr_inQ s.f ol=true∧gr_inQ s.t ol=true) by cases gr_inQ s.f ol<;>cases gr_inQ s.t ol<;>simp) with hf | ⟨hf,hg⟩ | ⟨hf,hg⟩
 ·skip
  refine fK (m:=29) bG hS (by kernel_rfl) (by kernel_rfl) rfl (bZ 1 rfl 3 rfl rfl (fun w hw=>cJ (vs:=[_,_,_,_,_,_,_,_,_,_]) isAgg103 sizeOf103 rfl (aM.agree (aJ hw 0) (Nat.zero_le _) (aM.own (j:=0) (m:=10) (hS.at_ 1 rfl) rfl))) rfl (bZ 2 rfl 4 rfl rfl (fun w hw=>aO (o':=0) cO rfl rfl) rfl (aZ 3 rfl 12 1 rfl rfl rfl (fun w hw=>aS isAgg3 rfl ((aJ hw 0).cell (Nat.zero_le _) (aI (hS.at_ 0 rfl) rfl))) rfl ?_)))
  refine aD 4 rfl (isV (.bool false)) (aB _) (cH [isV _,isV _] rfl fT (aP rfl) ⟨bO (aG 0 (aA rfl rfl rfl)),bO (aG 2 (aA rfl rfl rfl)),trivial⟩ (fun vs w' hb hh=>by have e:=bN (us:=[_,_]) hh;subst e;exact (gM ⟨_,vl,vc,_,pl,pc,_,el,ec,es,_,xl,xc,xs,mn,_,ol,oc,os,_,sl,sc,ss,_,tl,tc,ts,_,nl,nc,ns,_,kl,kc,ks⟩ s.f _).mono fun e w2 h=>⟨_,by rw [h.1,hf],rfl,h.2⟩) (aC rfl)) ?_
  refine aZ 5 rfl 14 3 rfl rfl rfl (fun w hw=>dM rfl) rfl (aZ 6 rfl 15 4 rfl rfl rfl (fun w hw=>aW rfl) rfl (aD 7 rfl (isV undef) (aB _) (aX rfl (aY 16 rfl (aA rfl rfl rfl) rfl) (aC rfl)) (aD 8 rfl (isV undef) (aB _) (aX rfl (aY 16 rfl (aA rfl rfl rfl) rfl) (aC rfl)) (aD 9 rfl (isV undef) (aB _) (aX rfl (aY 16 rfl (aA rfl rfl rfl) rfl) (aC rfl)) (aD 10 rfl (isV undef) (aB _) (aX rfl (aY 16 rfl (aA rfl rfl rfl) rfl) (aC rfl)) (aD 11 rfl (isV undef) (aB _) (aX rfl (aY 16 rfl (aA rfl rfl rfl) rfl) (aC rfl)) (aZ 12 rfl 16 5 rfl rfl rfl (fun w hw=>cI rfl rfl) rfl (aZ 13 rfl 22 11 rfl rfl rfl (fun w hw=>aW rfl) rfl (aD 14 rfl (isV undef) (aB _) (aX rfl (aY 23 rfl (aA rfl rfl rfl) rfl) (aC rfl)) (aD 15 rfl (isV undef) (aB _) (aX rfl (aY 23 rfl (aA rfl rfl rfl) rfl) (aC rfl)) (aD 16 rfl (isV undef) (aB _) (aX rfl (aY 23 rfl (aA rfl rfl rfl) rfl) (aC rfl)) (aD 17 rfl (isV undef) (aB _) (aX rfl (aY 23 rfl (aA rfl rfl rfl) rfl) (aC rfl)) (aD 18 rfl (isV undef) (aB _) (aX rfl (aY 23 rfl (aA rfl rfl rfl) rfl) (aC rfl)) (aD 19 rfl (isV undef) (aB _) (aX rfl (aY 23 rfl (aA rfl rfl rfl) rfl) (aC rfl)) (aD 20 rfl (isV undef) (aB _) (aX rfl (aY 23 rfl (aA rfl rfl rfl) rfl) (aC rfl)) (aD 21 rfl (isV undef) (aB _) (aX rfl (aY 23 rfl (aA rfl rfl rfl) rfl) (aC rfl)) (aD 22 rfl (isV undef) (aB _) (aX rfl (aY 23 rfl (aA rfl rfl rfl) rfl) (aC rfl)) (aD 23 rfl (isV undef) (aB _) (aX rfl (aY 23 rfl (aA rfl rfl rfl) rfl) (aC rfl)) (aD 24 rfl (isV undef) (aB _) (aX rfl (aY 23 rfl (aA rfl rfl rfl) rfl) (aC rfl)) (aD 25 rfl (isV undef) (aB _) (aX rfl (aY 23 rfl (aA rfl rfl rfl) rfl) (aC rfl)) (aD 26 rfl (isV undef) (aB _) (aX rfl (aY 23 rfl (aA rfl rfl rfl) rfl) (aC rfl)) (aD 27 rfl (isV undef) (aB _) (aX rfl (aY 23 rfl (aA rfl rfl rfl) rfl) (aC rfl)) (aD 28 rfl (isV undef) (aB _) (aX rfl (aY 23 rfl (aA rfl rfl rfl) rfl) (aC rfl)) (aZ 29 rfl 23 12 rfl rfl rfl (fun w hw=>cI rfl rfl) rfl (dF ?_)))))))))))))))))))))))))
  intro W3 hbR hS'
  clear hS;have hS:=hS';clear hS'
  refine aE (aE (aE (aE (aE (aE (aE (aE (aE (aE (aE (aE (aE (aE (aE (aE (aE (aE (aE (aE (aE (aE (aE (aE (aE (aE (aE (aE (aE (bV (XF.thenN (eA rfl (aR (aU ?_)))))))))))))))))))))))))))))))))
  refine aK rfl rfl (aT (XF.thenN (bP (XF.thenR (XF.res (cG results52 rfl) ?_)))))
  exact ⟨bI (by unfold kY;dsimp only;rw [if_pos hf]),hS.below⟩
 ·skip
  refine fK (m:=29) bG hS (by kernel_rfl) (by kernel_rfl) rfl (bZ 1 rfl 3 rfl rfl (fun w hw=>cJ (vs:=[_,_,_,_,_,_,_,_,_,_]) isAgg103 sizeOf103 rfl (aM.agree (aJ hw 0) (Nat.zero_le _) (aM.own (j:=0) (m:=10) (hS.at_ 1 rfl) rfl))) rfl (bZ 2 rfl 4 rfl rfl (fun w hw=>aO (o':=0) cO rfl rfl) rfl (aZ 3 rfl 12 1 rfl rfl rfl (fun w hw=>aS isAgg3 rfl ((aJ hw 0).cell (Nat.zero_le _) (aI (hS.at_ 0 rfl) rfl))) rfl ?_)))
  refine aD 4 rfl (isV (.bool true)) (aB _) (cH [isV _,isV _] rfl fT (aP rfl) ⟨bO (aG 0 (aA rfl rfl rfl)),bO (aG 2 (aA rfl rfl rfl)),trivial⟩ (fun vs w' hb hh=>by have e:=bN (us:=[_,_]) hh;subst e;exact (gM ⟨_,vl,vc,_,pl,pc,_,el,ec,es,_,xl,xc,xs,mn,_,ol,oc,os,_,sl,sc,ss,_,tl,tc,ts,_,nl,nc,ns,_,kl,kc,ks⟩ s.f _).mono fun e w2 h=>⟨_,by rw [h.1,hf],rfl,h.2⟩) (aC rfl)) ?_
  refine aZ 5 rfl 14 3 rfl rfl rfl (fun w hw=>dM rfl) rfl (aZ 6 rfl 15 4 rfl rfl rfl (fun w hw=>aW rfl) rfl (aD 7 rfl (isV _) (aB _) (rgV (li:=[(3,_)]) rfl (aN 16 rfl (aA rfl rfl rfl)) ⟨bB rfl,trivial⟩ (fun w hw=>cJ (vs:=[_,_,_,_,_,_,_,_,_,_]) isAgg103 sizeOf103 rfl (aM.agree (aJ hw 0) (Nat.zero_le _) (aM.own (j:=0) (m:=10) (hS.at_ 1 rfl) rfl))) (aC rfl)) (aD 8 rfl (isV _) (aB _) (rgV (li:=[(4,_)]) rfl (aN 16 rfl (aA rfl rfl rfl)) ⟨bB rfl,trivial⟩ (fun w hw=>aO (o':=1) cU rfl rfl) (aC rfl)) (aD 9 rfl (isV _) (aB _) (rgV (li:=[(18,_)]) rfl (aN 16 rfl (aA rfl rfl rfl)) ⟨aG 7 (aA rfl rfl rfl),trivial⟩ (fun w hw=>aS isAgg3 rfl ((aJ hw 0).cell (Nat.zero_le _) (aI (hS.at_ 0 rfl) rfl))) (aC rfl)) ?_))))
  refine aD 10 rfl (isV (.bool false)) (aB _) (cH [isV _,isV _] rfl fT (aN 16 rfl (aA rfl rfl rfl)) ⟨bO (aG 6 (aA rfl rfl rfl)),bO (aG 8 (aA rfl rfl rfl)),trivial⟩ (fun vs w' hb hh=>by have e:=bN (us:=[_,_]) hh;subst e;exact (gM ⟨_,vl,vc,_,pl,pc,_,el,ec,es,_,xl,xc,xs,mn,_,ol,oc,os,_,sl,sc,ss,_,tl,tc,ts,_,nl,nc,ns,_,kl,kc,ks⟩ s.t _).mono fun e w2 h=>⟨_,by rw [h.1,hg],rfl,h.2⟩) (aC rfl)) ?_
  refine aD 11 rfl (isV _) (aB _) (rgV (li:=[(20,_)]) rfl (aN 16 rfl (aA rfl rfl rfl)) ⟨aG 9 (aA rfl rfl rfl),trivial⟩ (fun w hw=>dM rfl) (aC rfl)) (aD 12 rfl (isV _) (aB _) (rgV (li:=[(16,_),(21,_)]) rfl (aP rfl) ⟨aG 5 (aA rfl rfl rfl),aG 10 (aA rfl rfl rfl),trivial⟩ (fun w hw=>bX rfl rfl) (aC rfl)) (aZ 13 rfl 22 11 rfl rfl rfl (fun w hw=>aW rfl) rfl (aD 14 rfl (isV undef) (aB _) (aX rfl (aY 23 rfl (aA rfl rfl rfl) rfl) (aC rfl)) (aD 15 rfl (isV undef) (aB _) (aX rfl (aY 23 rfl (aA rfl rfl rfl) rfl) (aC rfl)) (aD 16 rfl (isV undef) (aB _) (aX rfl (aY 23 rfl (aA rfl rfl rfl) rfl) (aC rfl)) (aD 17 rfl (isV undef) (aB _) (aX rfl (aY 23 rfl (aA rfl rfl rfl) rfl) (aC rfl)) (aD 18 rfl (isV undef) (aB _) (aX rfl (aY 23 rfl (aA rfl rfl rfl) rfl) (aC rfl)) (aD 19 rfl (isV undef) (aB _) (aX rfl (aY 23 rfl (aA rfl rfl rfl) rfl) (aC rfl)) (aD 20 rfl (isV undef) (aB _) (aX rfl (aY 23 rfl (aA rfl rfl rfl) rfl) (aC rfl)) (aD 21 rfl (isV undef) (aB _) (aX rfl (aY 23 rfl (aA rfl rfl rfl) rfl) (aC rfl)) (aD 22 rfl (isV undef) (aB _) (aX rfl (aY 23 rfl (aA rfl rfl rfl) rfl) (aC rfl)) (aD 23 rfl (isV undef) (aB _) (aX rfl (aY 23 rfl (aA rfl rfl rfl) rfl) (aC rfl)) (aD 24 rfl (isV undef) (aB _) (aX rfl (aY 23 rfl (aA rfl rfl rfl) rfl) (aC rfl)) (aD 25 rfl (isV undef) (aB _) (aX rfl (aY 23 rfl (aA rfl rfl rfl) rfl) (aC rfl)) (aD 26 rfl (isV undef) (aB _) (aX rfl (aY 23 rfl (aA rfl rfl rfl) rfl) (aC rfl)) (aD 27 rfl (isV undef) (aB _) (aX rfl (aY 23 rfl (aA rfl rfl rfl) rfl) (aC rfl)) (aD 28 rfl (isV undef) (aB _) (aX rfl (aY 23 rfl (aA rfl rfl rfl) rfl) (aC rfl)) (aZ 29 rfl 23 12 rfl rfl rfl (fun w hw=>cI rfl rfl) rfl (dF ?_)))))))))))))))))))
  intro W4 hbR hS'
  clear hS;have hS:=hS';clear hS'
  refine aE (aE (aE (aE (aE (aE (aE (aE (aE (aE (aE (aE (aE (aE (aE (aE (aE (aE (aE (aE (aE (aE (aE (aE (aE (aE (aE (aE (aE (bV (XF.thenN (eA rfl (aR (aU ?_)))))))))))))))))))))))))))))))))
  refine aK rfl rfl (aT (XF.thenN (bP (XF.thenR (XF.res (cG results52 rfl) ?_)))))
  exact ⟨bI (by unfold kY;dsimp only;rw [if_neg (by rw [hf];simp),if_pos hg]),hS.below⟩
 ·obtain ⟨kf,ekf,hkf⟩:=hC hf
  obtain ⟨kt,ekt,hkt⟩:=hC hg
  obtain ⟨ob,oo,y1,rfl,hy1,hyc1⟩:=ho.get (i:=kf) (by omega)
  obtain ⟨ob2,oo2,y2,e2,hy2,hyc2⟩:=ho.get (i:=kt) (by omega)
  cases e2
  have k1:=(aM.agree hS.agree (Nat.zero_le _) hyc1).1
  have k2:=(aM.agree hS.agree (Nat.zero_le _) hyc2).1
  have hoe:Bg os s.f s.t=decide (y1=y2):=by rw [ekf,ekt];exact kN hy1 hy2
  refine fK (m:=29) bG hS (by kernel_rfl) (by kernel_rfl) rfl (bZ 1 rfl 3 rfl rfl (fun w hw=>cJ (vs:=[_,_,_,_,_,_,_,_,_,_]) isAgg103 sizeOf103 rfl (aM.agree (aJ hw 0) (Nat.zero_le _) (aM.own (j:=0) (m:=10) (hS.at_ 1 rfl) rfl))) rfl (bZ 2 rfl 4 rfl rfl (fun w hw=>aO (o':=0) cO rfl rfl) rfl (aZ 3 rfl 12 1 rfl rfl rfl (fun w hw=>aS isAgg3 rfl ((aJ hw 0).cell (Nat.zero_le _) (aI (hS.at_ 0 rfl) rfl))) rfl ?_)))
  refine aD 4 rfl (isV (.bool true)) (aB _) (cH [isV _,isV _] rfl fT (aP rfl) ⟨bO (aG 0 (aA rfl rfl rfl)),bO (aG 2 (aA rfl rfl rfl)),trivial⟩ (fun vs w' hb hh=>by have e:=bN (us:=[_,_]) hh;subst e;exact (gM ⟨_,vl,vc,_,pl,pc,_,el,ec,es,_,xl,xc,xs,mn,_,ol,oc,os,_,sl,sc,ss,_,tl,tc,ts,_,nl,nc,ns,_,kl,kc,ks⟩ s.f _).mono fun e w2 h=>⟨_,by rw [h.1,hf],rfl,h.2⟩) (aC rfl)) ?_
  refine aZ 5 rfl 14 3 rfl rfl rfl (fun w hw=>dM rfl) rfl (aZ 6 rfl 15 4 rfl rfl rfl (fun w hw=>aW rfl) rfl (aD 7 rfl (isV _) (aB _) (rgV (li:=[(3,_)]) rfl (aN 16 rfl (aA rfl rfl rfl)) ⟨bB rfl,trivial⟩ (fun w hw=>cJ (vs:=[_,_,_,_,_,_,_,_,_,_]) isAgg103 sizeOf103 rfl (aM.agree (aJ hw 0) (Nat.zero_le _) (aM.own (j:=0) (m:=10) (hS.at_ 1 rfl) rfl))) (aC rfl)) (aD 8 rfl (isV _) (aB _) (rgV (li:=[(4,_)]) rfl (aN 16 rfl (aA rfl rfl rfl)) ⟨bB rfl,trivial⟩ (fun w hw=>aO (o':=1) cU rfl rfl) (aC rfl)) (aD 9 rfl (isV _) (aB _) (rgV (li:=[(18,_)]) rfl (aN 16 rfl (aA rfl rfl rfl)) ⟨aG 7 (aA rfl rfl rfl),trivial⟩ (fun w hw=>aS isAgg3 rfl ((aJ hw 0).cell (Nat.zero_le _) (aI (hS.at_ 0 rfl) rfl))) (aC rfl)) ?_))))
  refine aD 10 rfl (isV (.bool true)) (aB _) (cH [isV _,isV _] rfl fT (aN 16 rfl (aA rfl rfl rfl)) ⟨bO (aG 6 (aA rfl rfl rfl)),bO (aG 8 (aA rfl rfl rfl)),trivial⟩ (fun vs w' hb hh=>by have e:=bN (us:=[_,_]) hh;subst e;exact (gM ⟨_,vl,vc,_,pl,pc,_,el,ec,es,_,xl,xc,xs,mn,_,ol,oc,os,_,sl,sc,ss,_,tl,tc,ts,_,nl,nc,ns,_,kl,kc,ks⟩ s.t _).mono fun e w2 h=>⟨_,by rw [h.1,hg],rfl,h.2⟩) (aC rfl)) ?_
  refine aD 11 rfl (isV _) (aB _) (rgV (li:=[(20,_)]) rfl (aN 16 rfl (aA rfl rfl rfl)) ⟨aG 9 (aA rfl rfl rfl),trivial⟩ (fun w hw=>dM rfl) (aC rfl)) (aD 12 rfl (isV _) (aB _) (rgV (li:=[(16,_),(21,_)]) rfl (aP rfl) ⟨aG 5 (aA rfl rfl rfl),aG 10 (aA rfl rfl rfl),trivial⟩ (fun w hw=>bX rfl rfl) (aC rfl)) (aZ 13 rfl 22 11 rfl rfl rfl (fun w hw=>aW rfl) rfl (aD 14 rfl (isV _) (aB _) (rgV (li:=[(3,_)]) rfl (aN 23 rfl (aA rfl rfl rfl)) ⟨bB rfl,trivial⟩ (fun w hw=>aO (o':=0) cK rfl rfl) (aC rfl)) (aD 15 rfl (isV _) (aB _) (rgV (li:=[(24,_)]) rfl (aN 23 rfl (aA rfl rfl rfl)) ⟨aG 13 (aA rfl rfl rfl),trivial⟩ (fun w hw=>aO (o':=5) cA rfl rfl) (aC rfl)) (aD 16 rfl (isV _) (aB _) (rgV (li:=[(25,_)]) rfl (aN 23 rfl (aA rfl rfl rfl)) ⟨aG 14 (aA rfl rfl rfl),trivial⟩ (fun w hw=>aS isAgg23 rfl ((aJ hw 0).cell (Nat.zero_le _) (aI (hS.at_ 1 rfl) rfl))) (aC rfl)) (aD 17 rfl (isV _) (aB _) (rgV (li:=[(4,_)]) rfl (aN 23 rfl (aA rfl rfl rfl)) ⟨bB rfl,trivial⟩ (fun w hw=>aO (o':=0) cO rfl rfl) (aC rfl)) (aD 18 rfl (isV _) (aB _) (rgV (li:=[(27,_)]) rfl (aN 23 rfl (aA rfl rfl rfl)) ⟨aG 16 (aA rfl rfl rfl),trivial⟩ (fun w hw=>aS isAgg3 rfl ((aJ hw 0).cell (Nat.zero_le _) (aI (hS.at_ 0 rfl) rfl))) (aC rfl)) (aD 19 rfl (isV _) (aB _) (rgV (li:=[(26,_),(28,_)]) rfl (aN 23 rfl (aA rfl rfl rfl)) ⟨aG 15 (aA rfl rfl rfl),aG 17 (aA rfl rfl rfl),trivial⟩ (fun w hw=>bH (j:=kf) underlying23 sizeOf3 rfl rfl (by omega) (by omega) rfl) (aC rfl)) (aD 20 rfl (isV _) (aB _) (rgV (li:=[(29,_)]) rfl (aN 23 rfl (aA rfl rfl rfl)) ⟨aG 18 (aA rfl rfl rfl),trivial⟩ (fun w hw=>aS isAgg3 rfl ((aJ hw 0).cell (Nat.zero_le _) (k1))) (aC rfl)) (aD 21 rfl (isV _) (aB _) (rgV (li:=[(3,_)]) rfl (aN 23 rfl (aA rfl rfl rfl)) ⟨bB rfl,trivial⟩ (fun w hw=>aO (o':=0) cK rfl rfl) (aC rfl)) (aD 22 rfl (isV _) (aB _) (rgV (li:=[(31,_)]) rfl (aN 23 rfl (aA rfl rfl rfl)) ⟨aG 20 (aA rfl rfl rfl),trivial⟩ (fun w hw=>aO (o':=5) cA rfl rfl) (aC rfl)) (aD 23 rfl (isV _) (aB _) (rgV (li:=[(32,_)]) rfl (aN 23 rfl (aA rfl rfl rfl)) ⟨aG 21 (aA rfl rfl rfl),trivial⟩ (fun w hw=>aS isAgg23 rfl ((aJ hw 0).cell (Nat.zero_le _) (aI (hS.at_ 1 rfl) rfl))) (aC rfl)) (aD 24 rfl (isV _) (aB _) (rgV (li:=[(4,_)]) rfl (aN 23 rfl (aA rfl rfl rfl)) ⟨bB rfl,trivial⟩ (fun w hw=>aO (o':=1) cU rfl rfl) (aC rfl)) (aD 25 rfl (isV _) (aB _) (rgV (li:=[(34,_)]) rfl (aN 23 rfl (aA rfl rfl rfl)) ⟨aG 23 (aA rfl rfl rfl),trivial⟩ (fun w hw=>aS isAgg3 rfl ((aJ hw 0).cell (Nat.zero_le _) (aI (hS.at_ 0 rfl) rfl))) (aC rfl)) (aD 26 rfl (isV _) (aB _) (rgV (li:=[(33,_),(35,_)]) rfl (aN 23 rfl (aA rfl rfl rfl)) ⟨aG 22 (aA rfl rfl rfl),aG 24 (aA rfl rfl rfl),trivial⟩ (fun w hw=>bH (j:=kt) underlying23 sizeOf3 rfl rfl (by omega) (by omega) rfl) (aC rfl)) (aD 27 rfl (isV _) (aB _) (rgV (li:=[(36,_)]) rfl (aN 23 rfl (aA rfl rfl rfl)) ⟨aG 25 (aA rfl rfl rfl),trivial⟩ (fun w hw=>aS isAgg3 rfl ((aJ hw 0).cell (Nat.zero_le _) (k2))) (aC rfl)) (aD 28 rfl (isV _) (aB _) (rgV (li:=[(30,_),(37,_)]) rfl (aN 23 rfl (aA rfl rfl rfl)) ⟨aG 19 (aA rfl rfl rfl),aG 26 (aA rfl rfl rfl),trivial⟩ (fun w hw=>dX rfl rfl) (aC rfl)) (aD 29 rfl (isV _) (aB _) (rgV (li:=[(23,_),(38,_)]) rfl (aP rfl) ⟨aG 12 (aA rfl rfl rfl),aG 27 (aA rfl rfl rfl),trivial⟩ (fun w hw=>bX rfl rfl) (aC rfl)) (dF ?_)))))))))))))))))))
  intro W5 hbR hS'
  clear hS;have hS:=hS';clear hS'
  refine aE (aE (aE (aE (aE (aE (aE (aE (aE (aE (aE (aE (aE (aE (aE (aE (aE (aE (aE (aE (aE (aE (aE (aE (aE (aE (aE (aE (aE (bV (XF.thenN (bJ rfl (fun hc=>?_) (fun hc=>?_))))))))))))))))))))))))))))))))
  ·have hc39:=hc;clear hc
   refine aR (aU (aK rfl rfl (aT (XF.thenN (bP (XF.thenR (XF.res (cG results52 rfl) ?_)))))))
   have hne:=of_decide_eq_true hc39
   exact ⟨bI (by unfold kY;dsimp only;rw [if_neg (by rw [hf];simp),if_neg (by rw [hg];simp),if_pos (by rw [hoe];exact decide_eq_false hne)]),hS.below⟩
  ·have hc39:=hc;clear hc
   have hee:y1=y2:=Decidable.of_not_not (of_decide_eq_false hc39)
   have hkk:kY ⟨va,vl,vc,pa,pl,pc,ea,el,ec,es,xa,xl,xc,xs,mn,some ⟨ob,oo,none⟩,ol,oc,os,sa,sl,sc,ss,ta,tl,tc,ts,na,nl,nc,ns,ka,kl,kc,ks⟩ s n=iQ ⟨va,vl,vc,pa,pl,pc,ea,el,ec,es,xa,xl,xc,xs,mn,some ⟨ob,oo,none⟩,ol,oc,os,sa,sl,sc,ss,ta,tl,tc,ts,na,nl,nc,ns,ka,kl,kc,ks⟩ s n:=by unfold kY;dsimp only;rw [if_neg (by rw [hf];simp),if_neg (by rw [hg];simp),if_neg (by rw [hoe,hee];simp)]
   refine bQ (XF.thenN (aR (fK (m:=16) bG hS (by kernel_rfl) (by kernel_rfl) rfl (bZ 1 rfl 4 rfl rfl (fun w hw=>aO (o':=3) cF rfl rfl) rfl (aZ 2 rfl 40 0 rfl rfl rfl (fun w hw=>aS isAgg3 rfl ((aJ hw 0).cell (Nat.zero_le _) (aI (hS.at_ 0 rfl) rfl))) rfl (aZ 3 rfl 41 1 rfl rfl rfl (fun w hw=>eZ rfl rfl) rfl (bZ 4 rfl 4 rfl rfl (fun w hw=>aO (o':=4) dT rfl rfl) rfl (aZ 5 rfl 43 3 rfl rfl rfl (fun w hw=>aS isAgg3 rfl ((aJ hw 0).cell (Nat.zero_le _) (aI (hS.at_ 0 rfl) rfl))) rfl (aZ 6 rfl 44 4 rfl rfl rfl (fun w hw=>eZ rfl rfl) rfl (bZ 7 rfl 4 rfl rfl (fun w hw=>aO (o':=5) fU rfl rfl) rfl (aZ 8 rfl 46 6 rfl rfl rfl (fun w hw=>aS isAgg2 rfl ((aJ hw 0).cell (Nat.zero_le _) (aI (hS.at_ 0 rfl) rfl))) rfl (aZ 9 rfl 47 7 rfl rfl rfl (fun w hw=>eZ rfl rfl) rfl (bZ 10 rfl 4 rfl rfl (fun w hw=>aO (o':=6) dI rfl rfl) rfl (aZ 11 rfl 49 9 rfl rfl rfl (fun w hw=>aS isAgg3 rfl ((aJ hw 0).cell (Nat.zero_le _) (aI (hS.at_ 0 rfl) rfl))) rfl (aZ 12 rfl 50 10 rfl rfl rfl (fun w hw=>eZ rfl rfl) rfl (aZ 13 rfl 42 2 rfl rfl rfl (fun w hw=>dW rfl) rfl (aZ 14 rfl 45 5 rfl rfl rfl (fun w hw=>dW rfl) rfl (aZ 15 rfl 48 8 rfl rfl rfl (fun w hw=>dW rfl) rfl (aZ 16 rfl 51 11 rfl rfl rfl (fun w hw=>dW rfl) rfl (dF ?_))))))))))))))))))))
   intro W6 hbR hS'
   clear hS;have hS:=hS';clear hS'
   refine aE (aE (aE (aE (aE (aE (aE (aE (aE (aE (aE (aE (aE (aE (aE (aE (bV (XF.thenN (joinF (fun l W=>∃ bx by_ bk bs:Bool,l=[(7,.bool bx),(8,.bool by_),(9,.bool bk),(10,.bool bs)]∧(bx && (by_ && (bk && bs)))=iQ ⟨va,vl,vc,pa,pl,pc,ea,el,ec,es,xa,xl,xc,xs,mn,some ⟨ob,oo,none⟩,ol,oc,os,sa,sl,sc,ss,ta,tl,tc,ts,na,nl,nc,ns,ka,kl,kc,ks⟩ s n∧St w [] [] [] W) ?_ ?_))))))))))))))))))
   ·clear hS
    rintro _ W ⟨bx,by_,bk,bs,rfl,hkb,hS⟩
    refine aR (aU (aL rfl rfl (aL rfl rfl (bK (d:=115) rfl (fun hc=>?_) (fun hc=>?_)))))
    ·have hg115:=hc;clear hc
     subst hg115
     refine aF (d:=115) rfl rfl (aL rfl rfl (bC rfl rfl rfl (aL rfl rfl (bK (d:=118) rfl (fun hc=>?_) (fun hc=>?_)))))
     ·have hg118:=hc;clear hc
      subst hg118
      refine aF (d:=118) rfl rfl (aL rfl rfl (bC rfl rfl rfl (aL rfl rfl (bK (d:=121) rfl (fun hc=>?_) (fun hc=>?_)))))
      ·have hg121:=hc;clear hc
       subst hg121
       refine aF (d:=121) rfl rfl (aL rfl rfl (bC rfl rfl rfl (aK rfl rfl (aT (XF.thenN (bP (XF.res (cG results52 rfl) ?_)))))))
       exact ⟨bI (by rw [hkk,← hkb];rfl),hS.below⟩
      ·have hg121:=hc;clear hc
       subst hg121
       refine aH (d:=121) rfl rfl rfl rfl (bE rfl rfl rfl (aK rfl rfl (aT (XF.thenN (bP (XF.res (cG results52 rfl) ?_))))))
       exact ⟨bI (by rw [hkk,← hkb];rfl),hS.below⟩
     ·have hg118:=hc;clear hc
      subst hg118
      refine aH (d:=118) rfl rfl rfl rfl (bE rfl rfl rfl (aL rfl rfl (aH (d:=121) rfl rfl rfl rfl (bE rfl rfl rfl (aK rfl rfl (aT (XF.thenN (bP (XF.res (cG results52 rfl) ?_)))))))))
      exact ⟨bI (by rw [hkk,← hkb];rfl),hS.below⟩
    ·have hg115:=hc;clear hc
     subst hg115
     refine aH (d:=115) rfl rfl rfl rfl (bE rfl rfl rfl (aL rfl rfl (aH (d:=118) rfl rfl rfl rfl (bE rfl rfl rfl (aL rfl rfl (aH (d:=121) rfl rfl rfl rfl (bE rfl rfl rfl (aK rfl rfl (aT (XF.thenN (bP (XF.res (cG results52 rfl) ?_))))))))))))
     exact ⟨bI (by rw [hkk,← hkb];rfl),hS.below⟩
   ·skip
    refine aR (aU (aQ (o':=2) dQ rfl rfl rfl (aV isAgg77 rfl (aI (hS.at_ 0 rfl) rfl) rfl (aT (XF.thenN (bR (aR (bR (aR (bR (aR (bR (aR (bR (aR (bR (aR (bR (aR (aR (aR (aU (bW rfl rfl rfl (aK rfl rfl (aT (XF.thenN (bJ rfl (fun hc=>?_) (fun hc=>?_))))))))))))))))))))))))))))
    ·have hc54:=of_decide_eq_true hc;clear hc
     have h1:s.k=1:=hc54
     refine cZ (XF.thenX (XF.thenX (XF.blkX (XF.thenN (cZ (XF.blkO rfl (XF.thenX (XF.blkO rfl (XF.thenX (XF.blkO rfl (XF.thenX (XF.blkO rfl (XF.thenX (XF.blkO rfl (XF.thenX (XF.blkX ?_))))))))))))))))
     exact XF.join [(7,.bool (decide (s.x=0))),(8,.bool (decide (s.y=0))),(9,.bool (decide (s.kk=0))),(10,.bool (decide (s.s=0)))] ⟨rfl,rfl,rfl,rfl,trivial⟩ ⟨_,_,_,_,rfl,by unfold iQ;rw [if_pos h1],hS.tail.tail.clear⟩
    ·have hc54:=of_decide_eq_false hc;clear hc
     have n1:¬ s.k=1:=hc54
     refine bQ (XF.thenN (aR (aR (aU (bW rfl rfl rfl (aK rfl rfl (aT (XF.thenN (bJ rfl (fun hc=>?_) (fun hc=>?_))))))))))
     ·have hc56:=of_decide_eq_true hc;clear hc
      have h8:s.k=8:=hc56
      refine cZ (XF.thenX (XF.thenX (XF.blkO rfl (XF.thenX (XF.blkX (XF.thenN (aR ?_)))))))
      rcases (xK (ts:=ts) s n) with hsn | ⟨hsn,hnt⟩ | ⟨hsn,hnt,u0,hu0,hfr⟩ | ⟨hsn,hnt,u0,hu0,hfr⟩
      ·have hsc:lS ts s n=false:=by unfold lS;rw [decide_eq_false hsn];rfl
       refine fK (m:=37) bG hS (by kernel_rfl) (by kernel_rfl) rfl (bZ 1 rfl 4 rfl rfl (fun w hw=>aO (o':=6) dI rfl rfl) rfl (aZ 2 rfl 66 0 rfl rfl rfl (fun w hw=>aS isAgg3 rfl ((aJ hw 0).cell (Nat.zero_le _) (aI (hS.at_ 0 rfl) rfl))) rfl (bZ 3 rfl 2 rfl rfl (fun w hw=>aW rfl) rfl (aD 4 rfl (isV (.bool false)) (aB _) (fD (li:=[(67,_),(68,_)]) rfl (aP rfl) ⟨aG 1 (aA rfl rfl rfl),aG 2 (aA rfl rfl rfl),trivial⟩ (fun w hw=>eZ rfl rfl) (by rw [decide_eq_false hsn]) (aC rfl)) (aZ 5 rfl 69 3 rfl rfl rfl (fun w hw=>aW rfl) rfl (aD 6 rfl (isV undef) (aB _) (aX rfl (aY 70 rfl (aA rfl rfl rfl) rfl) (aC rfl)) (aD 7 rfl (isV undef) (aB _) (aX rfl (aY 70 rfl (aA rfl rfl rfl) rfl) (aC rfl)) (aD 8 rfl (isV undef) (aB _) (aX rfl (aY 70 rfl (aA rfl rfl rfl) rfl) (aC rfl)) (aD 9 rfl (isV undef) (aB _) (aX rfl (aY 70 rfl (aA rfl rfl rfl) rfl) (aC rfl)) (aD 10 rfl (isV undef) (aB _) (aX rfl (aY 70 rfl (aA rfl rfl rfl) rfl) (aC rfl)) (aD 11 rfl (isV undef) (aB _) (aX rfl (aY 70 rfl (aA rfl rfl rfl) rfl) (aC rfl)) (aZ 12 rfl 70 4 rfl rfl rfl (fun w hw=>bX rfl rfl) rfl (aZ 13 rfl 77 11 rfl rfl rfl (fun w hw=>aW rfl) rfl (aD 14 rfl (isV undef) (aB _) (aX rfl (aY 78 rfl (aA rfl rfl rfl) rfl) (aC rfl)) (aD 15 rfl (isV undef) (aB _) (aX rfl (aY 78 rfl (aA rfl rfl rfl) rfl) (aC rfl)) (aD 16 rfl (isV undef) (aB _) (aX rfl (aY 78 rfl (aA rfl rfl rfl) rfl) (aC rfl)) (aD 17 rfl (isV undef) (aB _) (aX rfl (aY 78 rfl (aA rfl rfl rfl) rfl) (aC rfl)) (aD 18 rfl (isV undef) (aB _) (aX rfl (aY 78 rfl (aA rfl rfl rfl) rfl) (aC rfl)) (aD 19 rfl (isV undef) (aB _) (aX rfl (aY 78 rfl (aA rfl rfl rfl) rfl) (aC rfl)) (aD 20 rfl (isV undef) (aB _) (aX rfl (aY 78 rfl (aA rfl rfl rfl) rfl) (aC rfl)) (aD 21 rfl (isV undef) (aB _) (aX rfl (aY 78 rfl (aA rfl rfl rfl) rfl) (aC rfl)) (aD 22 rfl (isV undef) (aB _) (aX rfl (aY 78 rfl (aA rfl rfl rfl) rfl) (aC rfl)) (aD 23 rfl (isV undef) (aB _) (aX rfl (aY 78 rfl (aA rfl rfl rfl) rfl) (aC rfl)) (aZ 24 rfl 78 12 rfl rfl rfl (fun w hw=>bX rfl rfl) rfl (aZ 25 rfl 89 23 rfl rfl rfl (fun w hw=>aW rfl) rfl (aD 26 rfl (isV undef) (aB _) (aX rfl (aY 90 rfl (aA rfl rfl rfl) rfl) (aC rfl)) (aD 27 rfl (isV undef) (aB _) (aX rfl (aY 90 rfl (aA rfl rfl rfl) rfl) (aC rfl)) (aD 28 rfl (isV undef) (aB _) (aX rfl (aY 90 rfl (aA rfl rfl rfl) rfl) (aC rfl)) (aD 29 rfl (isV undef) (aB _) (aX rfl (aY 90 rfl (aA rfl rfl rfl) rfl) (aC rfl)) (aD 30 rfl (isV undef) (aB _) (aX rfl (aY 90 rfl (aA rfl rfl rfl) rfl) (aC rfl)) (aD 31 rfl (isV undef) (aB _) (aX rfl (aY 90 rfl (aA rfl rfl rfl) rfl) (aC rfl)) (aD 32 rfl (isV undef) (aB _) (aX rfl (aY 90 rfl (aA rfl rfl rfl) rfl) (aC rfl)) ?_))))))))))))))))))))))))))))))))
       refine aD 33 rfl (isV undef) (aB _) (aX rfl (aY 90 rfl (aA rfl rfl rfl) rfl) (aC rfl)) (aD 34 rfl (isV undef) (aB _) (aX rfl (aY 90 rfl (aA rfl rfl rfl) rfl) (aC rfl)) (aD 35 rfl (isV undef) (aB _) (aX rfl (aY 90 rfl (aA rfl rfl rfl) rfl) (aC rfl)) (aZ 36 rfl 90 24 rfl rfl rfl (fun w hw=>bX rfl rfl) rfl (aZ 37 rfl 101 35 rfl rfl rfl (fun w hw=>dW rfl) rfl (dF ?_)))))
       intro W7 hbR hS'
       clear hS;have hS:=hS';clear hS'
       refine aE (aE (aE (aE (aE (aE (aE (aE (aE (aE (aE (aE (aE (aE (aE (aE (aE (aE (aE (aE (aE (aE (aE (aE (aE (aE (aE (aE (aE (aE (aE (aE (aE ?_))))))))))))))))))))))))))))))))
       refine aE (aE (aE (aE (bV (XF.thenN (cZ (XF.blkO rfl (XF.thenX (XF.blkO rfl (XF.thenX (XF.blkO rfl (XF.thenX (XF.blkO rfl (XF.thenX (XF.blkX ?_)))))))))))))))
       exact XF.join [(7,.bool (decide (s.x=0))),(8,.bool (decide (s.y=0))),(9,.bool (decide (s.kk=0))),(10,.bool (false))] ⟨rfl,rfl,rfl,rfl,trivial⟩ ⟨_,_,_,_,rfl,by unfold iQ;rw [if_neg n1,if_pos h8,hsc],hS.tail.tail.clear⟩
      ·have hsc:lS ts s n=false:=Bh (by omega)
       refine fK (m:=37) bG hS (by kernel_rfl) (by kernel_rfl) rfl (bZ 1 rfl 4 rfl rfl (fun w hw=>aO (o':=6) dI rfl rfl) rfl (aZ 2 rfl 66 0 rfl rfl rfl (fun w hw=>aS isAgg3 rfl ((aJ hw 0).cell (Nat.zero_le _) (aI (hS.at_ 0 rfl) rfl))) rfl (bZ 3 rfl 2 rfl rfl (fun w hw=>aW rfl) rfl (aD 4 rfl (isV (.bool true)) (aB _) (fD (li:=[(67,_),(68,_)]) rfl (aP rfl) ⟨aG 1 (aA rfl rfl rfl),aG 2 (aA rfl rfl rfl),trivial⟩ (fun w hw=>eZ rfl rfl) (by rw [decide_eq_true hsn]) (aC rfl)) (aZ 5 rfl 69 3 rfl rfl rfl (fun w hw=>aW rfl) rfl (aD 6 rfl (isV _) (aB _) (rgV (li:=[(2,_)]) rfl (aN 70 rfl (aA rfl rfl rfl)) ⟨bB rfl,trivial⟩ (fun w hw=>aW rfl) (aC rfl)) (aD 7 rfl (isV _) (aB _) (rgV (li:=[(3,_)]) rfl (aN 70 rfl (aA rfl rfl rfl)) ⟨bB rfl,trivial⟩ (fun w hw=>aO (o':=0) cK rfl rfl) (aC rfl)) (aD 8 rfl (isV _) (aB _) (rgV (li:=[(72,_)]) rfl (aN 70 rfl (aA rfl rfl rfl)) ⟨aG 6 (aA rfl rfl rfl),trivial⟩ (fun w hw=>aO (o':=7) cX rfl rfl) (aC rfl)) (aD 9 rfl (isV _) (aB _) (rgV (li:=[(73,_)]) rfl (aN 70 rfl (aA rfl rfl rfl)) ⟨aG 7 (aA rfl rfl rfl),trivial⟩ (fun w hw=>aS isAgg25 rfl ((aJ hw 0).cell (Nat.zero_le _) (aI (hS.at_ 1 rfl) rfl))) (aC rfl)) (aD 10 rfl (isV _) (aB _) (rgV (li:=[(74,_)]) rfl (aN 70 rfl (aA rfl rfl rfl)) ⟨aG 8 (aA rfl rfl rfl),trivial⟩ (fun w hw=>eY underlying25 rfl) (aC rfl)) (aD 11 rfl (isV (.bool false)) (aB _) (fD (li:=[(71,_),(75,_)]) rfl (aN 70 rfl (aA rfl rfl rfl)) ⟨aG 5 (aA rfl rfl rfl),aG 9 (aA rfl rfl rfl),trivial⟩ (fun w hw=>uB rfl rfl) (by rw [decide_eq_false (by omega)]) (aC rfl)) (aD 12 rfl (isV _) (aB _) (rgV (li:=[(70,_),(76,_)]) rfl (aP rfl) ⟨aG 4 (aA rfl rfl rfl),aG 10 (aA rfl rfl rfl),trivial⟩ (fun w hw=>cI rfl rfl) (aC rfl)) (aZ 13 rfl 77 11 rfl rfl rfl (fun w hw=>aW rfl) rfl (aD 14 rfl (isV undef) (aB _) (aX rfl (aY 78 rfl (aA rfl rfl rfl) rfl) (aC rfl)) (aD 15 rfl (isV undef) (aB _) (aX rfl (aY 78 rfl (aA rfl rfl rfl) rfl) (aC rfl)) (aD 16 rfl (isV undef) (aB _) (aX rfl (aY 78 rfl (aA rfl rfl rfl) rfl) (aC rfl)) (aD 17 rfl (isV undef) (aB _) (aX rfl (aY 78 rfl (aA rfl rfl rfl) rfl) (aC rfl)) (aD 18 rfl (isV undef) (aB _) (aX rfl (aY 78 rfl (aA rfl rfl rfl) rfl) (aC rfl)) (aD 19 rfl (isV undef) (aB _) (aX rfl (aY 78 rfl (aA rfl rfl rfl) rfl) (aC rfl)) (aD 20 rfl (isV undef) (aB _) (aX rfl (aY 78 rfl (aA rfl rfl rfl) rfl) (aC rfl)) (aD 21 rfl (isV undef) (aB _) (aX rfl (aY 78 rfl (aA rfl rfl rfl) rfl) (aC rfl)) (aD 22 rfl (isV undef) (aB _) (aX rfl (aY 78 rfl (aA rfl rfl rfl) rfl) (aC rfl)) (aD 23 rfl (isV undef) (aB _) (aX rfl (aY 78 rfl (aA rfl rfl rfl) rfl) (aC rfl)) (aZ 24 rfl 78 12 rfl rfl rfl (fun w hw=>bX rfl rfl) rfl (aZ 25 rfl 89 23 rfl rfl rfl (fun w hw=>aW rfl) rfl (aD 26 rfl (isV undef) (aB _) (aX rfl (aY 90 rfl (aA rfl rfl rfl) rfl) (aC rfl)) (aD 27 rfl (isV undef) (aB _) (aX rfl (aY 90 rfl (aA rfl rfl rfl) rfl) (aC rfl)) (aD 28 rfl (isV undef) (aB _) (aX rfl (aY 90 rfl (aA rfl rfl rfl) rfl) (aC rfl)) (aD 29 rfl (isV undef) (aB _) (aX rfl (aY 90 rfl (aA rfl rfl rfl) rfl) (aC rfl)) (aD 30 rfl (isV undef) (aB _) (aX rfl (aY 90 rfl (aA rfl rfl rfl) rfl) (aC rfl)) (aD 31 rfl (isV undef) (aB _) (aX rfl (aY 90 rfl (aA rfl rfl rfl) rfl) (aC rfl)) (aD 32 rfl (isV undef) (aB _) (aX rfl (aY 90 rfl (aA rfl rfl rfl) rfl) (aC rfl)) ?_))))))))))))))))))))))))))))))))
       refine aD 33 rfl (isV undef) (aB _) (aX rfl (aY 90 rfl (aA rfl rfl rfl) rfl) (aC rfl)) (aD 34 rfl (isV undef) (aB _) (aX rfl (aY 90 rfl (aA rfl rfl rfl) rfl) (aC rfl)) (aD 35 rfl (isV undef) (aB _) (aX rfl (aY 90 rfl (aA rfl rfl rfl) rfl) (aC rfl)) (aZ 36 rfl 90 24 rfl rfl rfl (fun w hw=>bX rfl rfl) rfl (aZ 37 rfl 101 35 rfl rfl rfl (fun w hw=>dW rfl) rfl (dF ?_)))))
       intro W8 hbR hS'
       clear hS;have hS:=hS';clear hS'
       refine aE (aE (aE (aE (aE (aE (aE (aE (aE (aE (aE (aE (aE (aE (aE (aE (aE (aE (aE (aE (aE (aE (aE (aE (aE (aE (aE (aE (aE (aE (aE (aE (aE ?_))))))))))))))))))))))))))))))))
       refine aE (aE (aE (aE (bV (XF.thenN (cZ (XF.blkO rfl (XF.thenX (XF.blkO rfl (XF.thenX (XF.blkO rfl (XF.thenX (XF.blkO rfl (XF.thenX (XF.blkX ?_)))))))))))))))
       exact XF.join [(7,.bool (decide (s.x=0))),(8,.bool (decide (s.y=0))),(9,.bool (decide (s.kk=0))),(10,.bool (false))] ⟨rfl,rfl,rfl,rfl,trivial⟩ ⟨_,_,_,_,rfl,by unfold iQ;rw [if_neg n1,if_pos h8,hsc],hS.tail.tail.clear⟩
      ·obtain ⟨tb,to_,u,rfl,hu,huc⟩:=ht.get (i:=n) hnt
       obtain rfl:u0=u:=Option.some.inj (hu0.symm.trans hu)
       have k5:=aM.agree hS.agree (Nat.zero_le _) huc
       have k6:=k5.2.2.1
       have k7:=k5.2.2.2.1
       refine fK (m:=37) bG hS (by kernel_rfl) (by kernel_rfl) rfl (bZ 1 rfl 4 rfl rfl (fun w hw=>aO (o':=6) dI rfl rfl) rfl (aZ 2 rfl 66 0 rfl rfl rfl (fun w hw=>aS isAgg3 rfl ((aJ hw 0).cell (Nat.zero_le _) (aI (hS.at_ 0 rfl) rfl))) rfl (bZ 3 rfl 2 rfl rfl (fun w hw=>aW rfl) rfl (aD 4 rfl (isV (.bool true)) (aB _) (fD (li:=[(67,_),(68,_)]) rfl (aP rfl) ⟨aG 1 (aA rfl rfl rfl),aG 2 (aA rfl rfl rfl),trivial⟩ (fun w hw=>eZ rfl rfl) (by rw [decide_eq_true hsn]) (aC rfl)) (aZ 5 rfl 69 3 rfl rfl rfl (fun w hw=>aW rfl) rfl (aD 6 rfl (isV _) (aB _) (rgV (li:=[(2,_)]) rfl (aN 70 rfl (aA rfl rfl rfl)) ⟨bB rfl,trivial⟩ (fun w hw=>aW rfl) (aC rfl)) (aD 7 rfl (isV _) (aB _) (rgV (li:=[(3,_)]) rfl (aN 70 rfl (aA rfl rfl rfl)) ⟨bB rfl,trivial⟩ (fun w hw=>aO (o':=0) cK rfl rfl) (aC rfl)) (aD 8 rfl (isV _) (aB _) (rgV (li:=[(72,_)]) rfl (aN 70 rfl (aA rfl rfl rfl)) ⟨aG 6 (aA rfl rfl rfl),trivial⟩ (fun w hw=>aO (o':=7) cX rfl rfl) (aC rfl)) (aD 9 rfl (isV _) (aB _) (rgV (li:=[(73,_)]) rfl (aN 70 rfl (aA rfl rfl rfl)) ⟨aG 7 (aA rfl rfl rfl),trivial⟩ (fun w hw=>aS isAgg25 rfl ((aJ hw 0).cell (Nat.zero_le _) (aI (hS.at_ 1 rfl) rfl))) (aC rfl)) (aD 10 rfl (isV _) (aB _) (rgV (li:=[(74,_)]) rfl (aN 70 rfl (aA rfl rfl rfl)) ⟨aG 8 (aA rfl rfl rfl),trivial⟩ (fun w hw=>eY underlying25 rfl) (aC rfl)) (aD 11 rfl (isV (.bool true)) (aB _) (fD (li:=[(71,_),(75,_)]) rfl (aN 70 rfl (aA rfl rfl rfl)) ⟨aG 5 (aA rfl rfl rfl),aG 9 (aA rfl rfl rfl),trivial⟩ (fun w hw=>uB rfl rfl) (by rw [decide_eq_true (by omega)]) (aC rfl)) (aD 12 rfl (isV _) (aB _) (rgV (li:=[(70,_),(76,_)]) rfl (aP rfl) ⟨aG 4 (aA rfl rfl rfl),aG 10 (aA rfl rfl rfl),trivial⟩ (fun w hw=>cI rfl rfl) (aC rfl)) (aZ 13 rfl 77 11 rfl rfl rfl (fun w hw=>aW rfl) rfl (aD 14 rfl (isV _) (aB _) (rgV (li:=[(3,_)]) rfl (aN 78 rfl (aA rfl rfl rfl)) ⟨bB rfl,trivial⟩ (fun w hw=>aO (o':=0) cK rfl rfl) (aC rfl)) (aD 15 rfl (isV _) (aB _) (rgV (li:=[(79,_)]) rfl (aN 78 rfl (aA rfl rfl rfl)) ⟨aG 13 (aA rfl rfl rfl),trivial⟩ (fun w hw=>aO (o':=7) cX rfl rfl) (aC rfl)) (aD 16 rfl (isV _) (aB _) (rgV (li:=[(80,_)]) rfl (aN 78 rfl (aA rfl rfl rfl)) ⟨aG 14 (aA rfl rfl rfl),trivial⟩ (fun w hw=>aS isAgg25 rfl ((aJ hw 0).cell (Nat.zero_le _) (aI (hS.at_ 1 rfl) rfl))) (aC rfl)) (aD 17 rfl (isV _) (aB _) (rgV (li:=[(2,_)]) rfl (aN 78 rfl (aA rfl rfl rfl)) ⟨bB rfl,trivial⟩ (fun w hw=>aW rfl) (aC rfl)) (aD 18 rfl (isV _) (aB _) (rgV (li:=[(81,_),(82,_)]) rfl (aN 78 rfl (aA rfl rfl rfl)) ⟨aG 15 (aA rfl rfl rfl),aG 16 (aA rfl rfl rfl),trivial⟩ (fun w hw=>bH (j:=n) underlying25 sizeOf81 rfl rfl (by omega) (by omega) rfl) (aC rfl)) (aD 19 rfl (isV _) (aB _) (rgV (li:=[(83,_)]) rfl (aN 78 rfl (aA rfl rfl rfl)) ⟨aG 17 (aA rfl rfl rfl),trivial⟩ (fun w hw=>aO lK rfl rfl) (aC rfl)) (aD 20 rfl (isV _) (aB _) (rgV (li:=[(84,_)]) rfl (aN 78 rfl (aA rfl rfl rfl)) ⟨aG 18 (aA rfl rfl rfl),trivial⟩ (fun w hw=>aS isAgg3 rfl ((aJ hw 0).cell (Nat.zero_le _) (k6))) (aC rfl)) (aD 21 rfl (isV _) (aB _) (rgV (li:=[(4,_)]) rfl (aN 78 rfl (aA rfl rfl rfl)) ⟨bB rfl,trivial⟩ (fun w hw=>aO (o':=0) cO rfl rfl) (aC rfl)) (aD 22 rfl (isV _) (aB _) (rgV (li:=[(86,_)]) rfl (aN 78 rfl (aA rfl rfl rfl)) ⟨aG 20 (aA rfl rfl rfl),trivial⟩ (fun w hw=>aS isAgg3 rfl ((aJ hw 0).cell (Nat.zero_le _) (aI (hS.at_ 0 rfl) rfl))) (aC rfl)) (aD 23 rfl (isV (.bool false)) (aB _) (fD (li:=[(85,_),(87,_)]) rfl (aN 78 rfl (aA rfl rfl rfl)) ⟨aG 19 (aA rfl rfl rfl),aG 21 (aA rfl rfl rfl),trivial⟩ (fun w hw=>eZ rfl rfl) (by rw [decide_eq_false hfr]) (aC rfl)) (aD 24 rfl (isV _) (aB _) (rgV (li:=[(78,_),(88,_)]) rfl (aP rfl) ⟨aG 12 (aA rfl rfl rfl),aG 22 (aA rfl rfl rfl),trivial⟩ (fun w hw=>cI rfl rfl) (aC rfl)) (aZ 25 rfl 89 23 rfl rfl rfl (fun w hw=>aW rfl) rfl (aD 26 rfl (isV undef) (aB _) (aX rfl (aY 90 rfl (aA rfl rfl rfl) rfl) (aC rfl)) (aD 27 rfl (isV undef) (aB _) (aX rfl (aY 90 rfl (aA rfl rfl rfl) rfl) (aC rfl)) (aD 28 rfl (isV undef) (aB _) (aX rfl (aY 90 rfl (aA rfl rfl rfl) rfl) (aC rfl)) (aD 29 rfl (isV undef) (aB _) (aX rfl (aY 90 rfl (aA rfl rfl rfl) rfl) (aC rfl)) (aD 30 rfl (isV undef) (aB _) (aX rfl (aY 90 rfl (aA rfl rfl rfl) rfl) (aC rfl)) (aD 31 rfl (isV undef) (aB _) (aX rfl (aY 90 rfl (aA rfl rfl rfl) rfl) (aC rfl)) (aD 32 rfl (isV undef) (aB _) (aX rfl (aY 90 rfl (aA rfl rfl rfl) rfl) (aC rfl)) ?_))))))))))))))))))))))))))))))))
       refine aD 33 rfl (isV undef) (aB _) (aX rfl (aY 90 rfl (aA rfl rfl rfl) rfl) (aC rfl)) (aD 34 rfl (isV undef) (aB _) (aX rfl (aY 90 rfl (aA rfl rfl rfl) rfl) (aC rfl)) (aD 35 rfl (isV undef) (aB _) (aX rfl (aY 90 rfl (aA rfl rfl rfl) rfl) (aC rfl)) (aZ 36 rfl 90 24 rfl rfl rfl (fun w hw=>bX rfl rfl) rfl (aZ 37 rfl 101 35 rfl rfl rfl (fun w hw=>dW rfl) rfl (dF ?_)))))
       intro W9 hbR hS'
       clear hS;have hS:=hS';clear hS'
       refine aE (aE (aE (aE (aE (aE (aE (aE (aE (aE (aE (aE (aE (aE (aE (aE (aE (aE (aE (aE (aE (aE (aE (aE (aE (aE (aE (aE (aE (aE (aE (aE (aE ?_))))))))))))))))))))))))))))))))
       refine aE (aE (aE (aE (bV (XF.thenN (cZ (XF.blkO rfl (XF.thenX (XF.blkO rfl (XF.thenX (XF.blkO rfl (XF.thenX (XF.blkO rfl (XF.thenX (XF.blkX ?_)))))))))))))))
       exact XF.join [(7,.bool (decide (s.x=0))),(8,.bool (decide (s.y=0))),(9,.bool (decide (s.kk=0))),(10,.bool (false))] ⟨rfl,rfl,rfl,rfl,trivial⟩ ⟨_,_,_,_,rfl,by unfold iQ;rw [if_neg n1,if_pos h8,vR hu0,decide_eq_false hfr];simp,hS.tail.tail.clear⟩
      ·obtain ⟨tb,to_,u,rfl,hu,huc⟩:=ht.get (i:=n) hnt
       obtain rfl:u0=u:=Option.some.inj (hu0.symm.trans hu)
       have k5:=aM.agree hS.agree (Nat.zero_le _) huc
       have k6:=k5.2.2.1
       have k7:=k5.2.2.2.1
       refine fK (m:=37) bG hS (by kernel_rfl) (by kernel_rfl) rfl (bZ 1 rfl 4 rfl rfl (fun w hw=>aO (o':=6) dI rfl rfl) rfl (aZ 2 rfl 66 0 rfl rfl rfl (fun w hw=>aS isAgg3 rfl ((aJ hw 0).cell (Nat.zero_le _) (aI (hS.at_ 0 rfl) rfl))) rfl (bZ 3 rfl 2 rfl rfl (fun w hw=>aW rfl) rfl (aD 4 rfl (isV (.bool true)) (aB _) (fD (li:=[(67,_),(68,_)]) rfl (aP rfl) ⟨aG 1 (aA rfl rfl rfl),aG 2 (aA rfl rfl rfl),trivial⟩ (fun w hw=>eZ rfl rfl) (by rw [decide_eq_true hsn]) (aC rfl)) (aZ 5 rfl 69 3 rfl rfl rfl (fun w hw=>aW rfl) rfl (aD 6 rfl (isV _) (aB _) (rgV (li:=[(2,_)]) rfl (aN 70 rfl (aA rfl rfl rfl)) ⟨bB rfl,trivial⟩ (fun w hw=>aW rfl) (aC rfl)) (aD 7 rfl (isV _) (aB _) (rgV (li:=[(3,_)]) rfl (aN 70 rfl (aA rfl rfl rfl)) ⟨bB rfl,trivial⟩ (fun w hw=>aO (o':=0) cK rfl rfl) (aC rfl)) (aD 8 rfl (isV _) (aB _) (rgV (li:=[(72,_)]) rfl (aN 70 rfl (aA rfl rfl rfl)) ⟨aG 6 (aA rfl rfl rfl),trivial⟩ (fun w hw=>aO (o':=7) cX rfl rfl) (aC rfl)) (aD 9 rfl (isV _) (aB _) (rgV (li:=[(73,_)]) rfl (aN 70 rfl (aA rfl rfl rfl)) ⟨aG 7 (aA rfl rfl rfl),trivial⟩ (fun w hw=>aS isAgg25 rfl ((aJ hw 0).cell (Nat.zero_le _) (aI (hS.at_ 1 rfl) rfl))) (aC rfl)) (aD 10 rfl (isV _) (aB _) (rgV (li:=[(74,_)]) rfl (aN 70 rfl (aA rfl rfl rfl)) ⟨aG 8 (aA rfl rfl rfl),trivial⟩ (fun w hw=>eY underlying25 rfl) (aC rfl)) (aD 11 rfl (isV (.bool true)) (aB _) (fD (li:=[(71,_),(75,_)]) rfl (aN 70 rfl (aA rfl rfl rfl)) ⟨aG 5 (aA rfl rfl rfl),aG 9 (aA rfl rfl rfl),trivial⟩ (fun w hw=>uB rfl rfl) (by rw [decide_eq_true (by omega)]) (aC rfl)) (aD 12 rfl (isV _) (aB _) (rgV (li:=[(70,_),(76,_)]) rfl (aP rfl) ⟨aG 4 (aA rfl rfl rfl),aG 10 (aA rfl rfl rfl),trivial⟩ (fun w hw=>cI rfl rfl) (aC rfl)) (aZ 13 rfl 77 11 rfl rfl rfl (fun w hw=>aW rfl) rfl (aD 14 rfl (isV _) (aB _) (rgV (li:=[(3,_)]) rfl (aN 78 rfl (aA rfl rfl rfl)) ⟨bB rfl,trivial⟩ (fun w hw=>aO (o':=0) cK rfl rfl) (aC rfl)) (aD 15 rfl (isV _) (aB _) (rgV (li:=[(79,_)]) rfl (aN 78 rfl (aA rfl rfl rfl)) ⟨aG 13 (aA rfl rfl rfl),trivial⟩ (fun w hw=>aO (o':=7) cX rfl rfl) (aC rfl)) (aD 16 rfl (isV _) (aB _) (rgV (li:=[(80,_)]) rfl (aN 78 rfl (aA rfl rfl rfl)) ⟨aG 14 (aA rfl rfl rfl),trivial⟩ (fun w hw=>aS isAgg25 rfl ((aJ hw 0).cell (Nat.zero_le _) (aI (hS.at_ 1 rfl) rfl))) (aC rfl)) (aD 17 rfl (isV _) (aB _) (rgV (li:=[(2,_)]) rfl (aN 78 rfl (aA rfl rfl rfl)) ⟨bB rfl,trivial⟩ (fun w hw=>aW rfl) (aC rfl)) (aD 18 rfl (isV _) (aB _) (rgV (li:=[(81,_),(82,_)]) rfl (aN 78 rfl (aA rfl rfl rfl)) ⟨aG 15 (aA rfl rfl rfl),aG 16 (aA rfl rfl rfl),trivial⟩ (fun w hw=>bH (j:=n) underlying25 sizeOf81 rfl rfl (by omega) (by omega) rfl) (aC rfl)) (aD 19 rfl (isV _) (aB _) (rgV (li:=[(83,_)]) rfl (aN 78 rfl (aA rfl rfl rfl)) ⟨aG 17 (aA rfl rfl rfl),trivial⟩ (fun w hw=>aO lK rfl rfl) (aC rfl)) (aD 20 rfl (isV _) (aB _) (rgV (li:=[(84,_)]) rfl (aN 78 rfl (aA rfl rfl rfl)) ⟨aG 18 (aA rfl rfl rfl),trivial⟩ (fun w hw=>aS isAgg3 rfl ((aJ hw 0).cell (Nat.zero_le _) (k6))) (aC rfl)) (aD 21 rfl (isV _) (aB _) (rgV (li:=[(4,_)]) rfl (aN 78 rfl (aA rfl rfl rfl)) ⟨bB rfl,trivial⟩ (fun w hw=>aO (o':=0) cO rfl rfl) (aC rfl)) (aD 22 rfl (isV _) (aB _) (rgV (li:=[(86,_)]) rfl (aN 78 rfl (aA rfl rfl rfl)) ⟨aG 20 (aA rfl rfl rfl),trivial⟩ (fun w hw=>aS isAgg3 rfl ((aJ hw 0).cell (Nat.zero_le _) (aI (hS.at_ 0 rfl) rfl))) (aC rfl)) (aD 23 rfl (isV (.bool true)) (aB _) (fD (li:=[(85,_),(87,_)]) rfl (aN 78 rfl (aA rfl rfl rfl)) ⟨aG 19 (aA rfl rfl rfl),aG 21 (aA rfl rfl rfl),trivial⟩ (fun w hw=>eZ rfl rfl) (by rw [decide_eq_true hfr]) (aC rfl)) (aD 24 rfl (isV _) (aB _) (rgV (li:=[(78,_),(88,_)]) rfl (aP rfl) ⟨aG 12 (aA rfl rfl rfl),aG 22 (aA rfl rfl rfl),trivial⟩ (fun w hw=>cI rfl rfl) (aC rfl)) (aZ 25 rfl 89 23 rfl rfl rfl (fun w hw=>aW rfl) rfl (aD 26 rfl (isV _) (aB _) (rgV (li:=[(3,_)]) rfl (aN 90 rfl (aA rfl rfl rfl)) ⟨bB rfl,trivial⟩ (fun w hw=>aO (o':=0) cK rfl rfl) (aC rfl)) (aD 27 rfl (isV _) (aB _) (rgV (li:=[(91,_)]) rfl (aN 90 rfl (aA rfl rfl rfl)) ⟨aG 25 (aA rfl rfl rfl),trivial⟩ (fun w hw=>aO (o':=7) cX rfl rfl) (aC rfl)) (aD 28 rfl (isV _) (aB _) (rgV (li:=[(92,_)]) rfl (aN 90 rfl (aA rfl rfl rfl)) ⟨aG 26 (aA rfl rfl rfl),trivial⟩ (fun w hw=>aS isAgg25 rfl ((aJ hw 0).cell (Nat.zero_le _) (aI (hS.at_ 1 rfl) rfl))) (aC rfl)) (aD 29 rfl (isV _) (aB _) (rgV (li:=[(2,_)]) rfl (aN 90 rfl (aA rfl rfl rfl)) ⟨bB rfl,trivial⟩ (fun w hw=>aW rfl) (aC rfl)) (aD 30 rfl (isV _) (aB _) (rgV (li:=[(93,_),(94,_)]) rfl (aN 90 rfl (aA rfl rfl rfl)) ⟨aG 27 (aA rfl rfl rfl),aG 28 (aA rfl rfl rfl),trivial⟩ (fun w hw=>bH (j:=n) underlying25 sizeOf81 rfl rfl (by omega) (by omega) rfl) (aC rfl)) (aD 31 rfl (isV _) (aB _) (rgV (li:=[(95,_)]) rfl (aN 90 rfl (aA rfl rfl rfl)) ⟨aG 29 (aA rfl rfl rfl),trivial⟩ (fun w hw=>aO nZ rfl rfl) (aC rfl)) (aD 32 rfl (isV _) (aB _) (rgV (li:=[(96,_)]) rfl (aN 90 rfl (aA rfl rfl rfl)) ⟨aG 30 (aA rfl rfl rfl),trivial⟩ (fun w hw=>aS isAgg3 rfl ((aJ hw 0).cell (Nat.zero_le _) (k7))) (aC rfl)) ?_))))))))))))))))))))))))))))))))
       refine aD 33 rfl (isV _) (aB _) (rgV (li:=[(4,_)]) rfl (aN 90 rfl (aA rfl rfl rfl)) ⟨bB rfl,trivial⟩ (fun w hw=>aO (o':=1) cU rfl rfl) (aC rfl)) (aD 34 rfl (isV _) (aB _) (rgV (li:=[(98,_)]) rfl (aN 90 rfl (aA rfl rfl rfl)) ⟨aG 32 (aA rfl rfl rfl),trivial⟩ (fun w hw=>aS isAgg3 rfl ((aJ hw 0).cell (Nat.zero_le _) (aI (hS.at_ 0 rfl) rfl))) (aC rfl)) (aD 35 rfl (isV _) (aB _) (rgV (li:=[(97,_),(99,_)]) rfl (aN 90 rfl (aA rfl rfl rfl)) ⟨aG 31 (aA rfl rfl rfl),aG 33 (aA rfl rfl rfl),trivial⟩ (fun w hw=>eZ rfl rfl) (aC rfl)) (aD 36 rfl (isV _) (aB _) (rgV (li:=[(90,_),(100,_)]) rfl (aP rfl) ⟨aG 24 (aA rfl rfl rfl),aG 34 (aA rfl rfl rfl),trivial⟩ (fun w hw=>cI rfl rfl) (aC rfl)) (aZ 37 rfl 101 35 rfl rfl rfl (fun w hw=>dW rfl) rfl (dF ?_)))))
       intro W10 hbR hS'
       clear hS;have hS:=hS';clear hS'
       refine aE (aE (aE (aE (aE (aE (aE (aE (aE (aE (aE (aE (aE (aE (aE (aE (aE (aE (aE (aE (aE (aE (aE (aE (aE (aE (aE (aE (aE (aE (aE (aE (aE ?_))))))))))))))))))))))))))))))))
       refine aE (aE (aE (aE (bV (XF.thenN (cZ (XF.blkO rfl (XF.thenX (XF.blkO rfl (XF.thenX (XF.blkO rfl (XF.thenX (XF.blkO rfl (XF.thenX (XF.blkX ?_)))))))))))))))
       exact XF.join [(7,.bool (decide (s.x=0))),(8,.bool (decide (s.y=0))),(9,.bool (decide (s.kk=0))),(10,.bool (decide (u0.bk=s.t)))] ⟨rfl,rfl,rfl,rfl,trivial⟩ ⟨_,_,_,_,rfl,by unfold iQ;rw [if_neg n1,if_pos h8,vR hu0,decide_eq_true hfr,decide_eq_true hsn];simp,hS.tail.tail.clear⟩
     ·have hc56:=of_decide_eq_false hc;clear hc
      have n8:¬ s.k=8:=hc56
      refine bQ (XF.thenN (aR (aR (aU (bW rfl rfl rfl (aK rfl rfl (aT (XF.thenN (bJ rfl (fun hc=>?_) (fun hc=>?_))))))))))
      ·have hc58:=of_decide_eq_true hc;clear hc
       have h2:s.k=2:=hc58
       refine cZ (XF.thenX (XF.thenX (XF.blkO rfl (XF.thenX (XF.blkO rfl (XF.thenX (XF.blkX (XF.thenN (aR (aR (aU (aK rfl rfl (aT (XF.thenN (aU (bF (vs:=[_,_,_,_,_,_,_,_,_,_]) isAgg103 sizeOf103 rfl (aM.own (j:=0) (m:=10) (hS.at_ 1 rfl) rfl) rfl (aQ (o':=3) cF rfl rfl rfl (aV isAgg3 rfl (aI (hS.at_ 0 rfl) rfl) rfl (cD (vs:=[_,_]) hS hJ rfl (jR ⟨_,vl,vc,_,pl,pc,_,el,ec,es,_,xl,xc,xs,mn,_,ol,oc,os,_,sl,sc,ss,_,tl,tc,ts,_,nl,nc,ns,_,kl,kc,ks⟩ s.x _) rfl fun W11 hS=>aK rfl rfl (aT (XF.thenN (cZ (XF.blkO rfl (XF.thenX (XF.blkO rfl (XF.thenX (XF.blkO rfl (XF.thenX (XF.blkX ?_)))))))))))))))))))))))))))))
       exact XF.join [(7,.bool (gr_inQ s.x vl)),(8,.bool (decide (s.y=0))),(9,.bool (true)),(10,.bool (decide (s.s=0)))] ⟨rfl,rfl,rfl,rfl,trivial⟩ ⟨_,_,_,_,rfl,by unfold iQ;rw [if_neg n1,if_neg n8,if_pos h2],hS.tail.tail.clear⟩
      ·have hc58:=of_decide_eq_false hc;clear hc
       have n2:¬ s.k=2:=hc58
       refine bQ (XF.thenN (aR (aR (aU (bW rfl rfl rfl (aK rfl rfl (aT (XF.thenN (bJ rfl (fun hc=>?_) (fun hc=>?_))))))))))
       ·have hc60:=of_decide_eq_true hc;clear hc
        have h3:s.k=3:=hc60
        refine cZ (XF.thenX (XF.thenX (XF.blkO rfl (XF.thenX (XF.blkO rfl (XF.thenX (XF.blkO rfl (XF.thenX (XF.blkX (XF.thenN (aU (bF (vs:=[_,_,_,_,_,_,_,_,_,_]) isAgg103 sizeOf103 rfl (aM.own (j:=0) (m:=10) (hS.at_ 1 rfl) rfl) rfl (aQ (o':=4) dT rfl rfl rfl (aV isAgg3 rfl (aI (hS.at_ 0 rfl) rfl) rfl (cD (vs:=[_,_]) hS hJ rfl (jR ⟨_,vl,vc,_,pl,pc,_,el,ec,es,_,xl,xc,xs,mn,_,ol,oc,os,_,sl,sc,ss,_,tl,tc,ts,_,nl,nc,ns,_,kl,kc,ks⟩ s.y _) rfl fun W12 hS=>aK rfl rfl (aT (XF.blkN (XF.thenN (aR (aU (bF (vs:=[_,_,_,_,_,_,_,_,_,_]) isAgg103 sizeOf103 rfl (aM.own (j:=0) (m:=10) (hS.at_ 1 rfl) rfl) rfl (aQ (o':=3) cF rfl rfl rfl (aV isAgg3 rfl (aI (hS.at_ 0 rfl) rfl) rfl (cD (vs:=[_,_]) hS hJ rfl (jR ⟨_,vl,vc,_,pl,pc,_,el,ec,es,_,xl,xc,xs,mn,_,ol,oc,os,_,sl,sc,ss,_,tl,tc,ts,_,nl,nc,ns,_,kl,kc,ks⟩ s.x _) rfl fun W13 hS=>aK rfl rfl (aT (XF.thenN (cZ (XF.blkO rfl (XF.thenX (XF.blkX ?_))))))))))))))))))))))))))))))
        exact XF.join [(7,.bool (gr_inQ s.x vl)),(8,.bool (gr_inQ s.y vl)),(9,.bool (decide (s.kk=0))),(10,.bool (decide (s.s=0)))] ⟨rfl,rfl,rfl,rfl,trivial⟩ ⟨_,_,_,_,rfl,by unfold iQ;rw [if_neg n1,if_neg n8,if_neg n2,if_pos h3],hS.tail.tail.clear⟩
       ·have hc60:=of_decide_eq_false hc;clear hc
        have n3:¬ s.k=3:=hc60
        refine bQ (XF.thenN (aR (aR (aU (bW rfl rfl rfl (aK rfl rfl (aT (XF.thenN (bJ rfl (fun hc=>?_) (fun hc=>?_))))))))))
        ·have hc62:=of_decide_eq_true hc;clear hc
         refine bQ (XF.thenN (bJ rfl (fun hc=>?_) (fun hc=>absurd (of_decide_eq_false hc) (by exact fun h=>h hc62))))
         have hc:=of_decide_eq_true hc
         refine cZ (XF.thenX (XF.blkO rfl (XF.thenX (XF.blkO rfl (XF.thenX (XF.blkO rfl (XF.thenX (XF.blkO rfl (XF.thenX (XF.blkX (XF.thenN (aR (aU (bF (vs:=[_,_,_,_,_,_,_,_,_,_]) isAgg103 sizeOf103 rfl (aM.own (j:=0) (m:=10) (hS.at_ 1 rfl) rfl) rfl (aQ (o':=3) cF rfl rfl rfl (aV isAgg3 rfl (aI (hS.at_ 0 rfl) rfl) rfl (cD (vs:=[_,_]) hS hJ rfl (jR ⟨_,vl,vc,_,pl,pc,_,el,ec,es,_,xl,xc,xs,mn,_,ol,oc,os,_,sl,sc,ss,_,tl,tc,ts,_,nl,nc,ns,_,kl,kc,ks⟩ s.x _) rfl fun W14 hS=>aK rfl rfl (aT (XF.thenN (cZ (XF.blkO rfl (XF.thenX (XF.blkX ?_)))))))))))))))))))))))
         exact XF.join [(7,.bool (gr_inQ s.x vl)),(8,.bool (decide (s.y=0))),(9,.bool (decide (s.kk=0))),(10,.bool (decide (s.s=0)))] ⟨rfl,rfl,rfl,rfl,trivial⟩ ⟨_,_,_,_,rfl,by unfold iQ;rw [if_neg n1,if_neg n8,if_neg n2,if_neg n3,if_pos (by first | exact .inl hc62 | exact .inr (.inl hc62) | exact .inr (.inr hc62))],hS.tail.tail.clear⟩
        ·have hc62:=of_decide_eq_false hc;clear hc
         have n4:¬ s.k=4:=hc62
         refine aR (aU (bW rfl rfl rfl (aK rfl rfl (aT (XF.thenN (bJ rfl (fun hc=>?_) (fun hc=>?_)))))))
         ·have hc62:=of_decide_eq_true hc;clear hc
          refine bQ (XF.thenN (bJ rfl (fun hc=>?_) (fun hc=>absurd (of_decide_eq_false hc) (by exact fun h=>h hc62))))
          have hc:=of_decide_eq_true hc
          refine cZ (XF.thenX (XF.blkO rfl (XF.thenX (XF.blkO rfl (XF.thenX (XF.blkO rfl (XF.thenX (XF.blkO rfl (XF.thenX (XF.blkX (XF.thenN (aR (aU (bF (vs:=[_,_,_,_,_,_,_,_,_,_]) isAgg103 sizeOf103 rfl (aM.own (j:=0) (m:=10) (hS.at_ 1 rfl) rfl) rfl (aQ (o':=3) cF rfl rfl rfl (aV isAgg3 rfl (aI (hS.at_ 0 rfl) rfl) rfl (cD (vs:=[_,_]) hS hJ rfl (jR ⟨_,vl,vc,_,pl,pc,_,el,ec,es,_,xl,xc,xs,mn,_,ol,oc,os,_,sl,sc,ss,_,tl,tc,ts,_,nl,nc,ns,_,kl,kc,ks⟩ s.x _) rfl fun W15 hS=>aK rfl rfl (aT (XF.thenN (cZ (XF.blkO rfl (XF.thenX (XF.blkX ?_)))))))))))))))))))))))
          exact XF.join [(7,.bool (gr_inQ s.x vl)),(8,.bool (decide (s.y=0))),(9,.bool (decide (s.kk=0))),(10,.bool (decide (s.s=0)))] ⟨rfl,rfl,rfl,rfl,trivial⟩ ⟨_,_,_,_,rfl,by unfold iQ;rw [if_neg n1,if_neg n8,if_neg n2,if_neg n3,if_pos (by first | exact .inl hc62 | exact .inr (.inl hc62) | exact .inr (.inr hc62))],hS.tail.tail.clear⟩
         ·have hc62:=of_decide_eq_false hc;clear hc
          have n5:¬ s.k=5:=hc62
          refine aU (bW rfl rfl rfl (aK rfl rfl (aT (XF.thenN (bJ rfl (fun hc=>?_) (fun hc=>?_))))))
          ·have hc62:=of_decide_eq_true hc;clear hc
           refine cZ (XF.thenX (XF.blkO rfl (XF.thenX (XF.blkO rfl (XF.thenX (XF.blkO rfl (XF.thenX (XF.blkO rfl (XF.thenX (XF.blkX (XF.thenN (aR (aU (bF (vs:=[_,_,_,_,_,_,_,_,_,_]) isAgg103 sizeOf103 rfl (aM.own (j:=0) (m:=10) (hS.at_ 1 rfl) rfl) rfl (aQ (o':=3) cF rfl rfl rfl (aV isAgg3 rfl (aI (hS.at_ 0 rfl) rfl) rfl (cD (vs:=[_,_]) hS hJ rfl (jR ⟨_,vl,vc,_,pl,pc,_,el,ec,es,_,xl,xc,xs,mn,_,ol,oc,os,_,sl,sc,ss,_,tl,tc,ts,_,nl,nc,ns,_,kl,kc,ks⟩ s.x _) rfl fun W16 hS=>aK rfl rfl (aT (XF.thenN (cZ (XF.blkO rfl (XF.thenX (XF.blkX ?_)))))))))))))))))))))))
           exact XF.join [(7,.bool (gr_inQ s.x vl)),(8,.bool (decide (s.y=0))),(9,.bool (decide (s.kk=0))),(10,.bool (decide (s.s=0)))] ⟨rfl,rfl,rfl,rfl,trivial⟩ ⟨_,_,_,_,rfl,by unfold iQ;rw [if_neg n1,if_neg n8,if_neg n2,if_neg n3,if_pos (by first | exact .inl hc62 | exact .inr (.inl hc62) | exact .inr (.inr hc62))],hS.tail.tail.clear⟩
          ·have hc62:=of_decide_eq_false hc;clear hc
           have n6:¬ s.k=6:=hc62
           refine bQ (XF.thenN (cZ (XF.blkO rfl (XF.thenX (XF.blkO rfl (XF.thenX (XF.blkO rfl (XF.thenX (XF.blkO rfl (XF.thenX (XF.blkO rfl (XF.thenX (XF.blkX (XF.thenN (aR (aR (aU (aK rfl rfl (aT (XF.thenN (bP (XF.thenR (XF.blkR (XF.thenR (XF.res (cG results52 rfl) ?_)))))))))))))))))))))))))
           exact ⟨bI (by rw [hkk];unfold iQ;rw [if_neg n1,if_neg n8,if_neg n2,if_neg n3,if_neg (by omega)]),hS.below⟩
theorem uM (v00:Value) (v01:Value) (v02:Value) (v03:Value) (v04:Value) (v05:Value) (v06:Value) (v07:Value) (v08:Value) (v09:Value):prog.built 103 [(0,.agg #[v00,v01,v02,v03,v04,v05,v06,v07,v08,v09])]=some #[v00,v01,v02,v03,v04,v05,v06,v07,v08,v09]:=by kernel_rfl
theorem eF (w:World) (b o:Nat):(Instr.fieldAt 29 (.pointer (some ⟨b,o,none⟩)) 6).run prog w = .ok (.pointer (some ⟨b,o+6,none⟩)) w:=by
 simp [Instr.fieldAt,run_underlying underlying29,Instr.sureAddr,go_sem,Addr.add_lit]
theorem lL (w:World) (b o:Nat):(Instr.fieldAt 29 (.pointer (some ⟨b,o,none⟩)) 8).run prog w = .ok (.pointer (some ⟨b,o+8,none⟩)) w:=by
 simp [Instr.fieldAt,run_underlying underlying29,Instr.sureAddr,go_sem,Addr.add_lit]
theorem iV (w:World) (b o:Nat):(Instr.fieldAt 29 (.pointer (some ⟨b,o,none⟩)) 9).run prog w = .ok (.pointer (some ⟨b,o+9,none⟩)) w:=by
 simp [Instr.fieldAt,run_underlying underlying29,Instr.sureAddr,go_sem,Addr.add_lit]
theorem jS (w:World) (b o:Nat):(Instr.fieldAt 81 (.pointer (some ⟨b,o,none⟩)) 1).run prog w = .ok (.pointer (some ⟨b,o+1,none⟩)) w:=by
 simp [Instr.fieldAt,run_underlying underlying81,Instr.sureAddr,go_sem,Addr.add_lit]
theorem qG (w:World) (b o:Nat):(Instr.fieldAt 115 (.pointer (some ⟨b,o,none⟩)) 1).run prog w = .ok (.pointer (some ⟨b,o+1,none⟩)) w:=by
 simp [Instr.fieldAt,run_underlying underlying115,Instr.sureAddr,go_sem,Addr.add_lit]
theorem qH (w:World) (b o:Nat):(Instr.fieldAt 117 (.pointer (some ⟨b,o,none⟩)) 0).run prog w = .ok (.pointer (some ⟨b,o+0,none⟩)) w:=by
 simp [Instr.fieldAt,run_underlying underlying117,Instr.sureAddr,go_sem,Addr.add_lit]
theorem mG (w:World) (b o:Nat):(Instr.fieldAt 117 (.pointer (some ⟨b,o,none⟩)) 1).run prog w = .ok (.pointer (some ⟨b,o+1,none⟩)) w:=by
 simp [Instr.fieldAt,run_underlying underlying117,Instr.sureAddr,go_sem,Addr.add_lit]
theorem xL:cL prog 35=true:=by kernel_rfl
theorem xM:cL prog 36=true:=by kernel_rfl
theorem xO:cL prog 37=true:=by kernel_rfl
theorem xP:cL prog 52=true:=by kernel_rfl
theorem steps_c (va:Option Addr) (vl:Nat) (vc:Nat) (pa:Option Addr) (pl:Nat) (pc:Nat) (ea:Option Addr) (el:Nat) (ec:Nat) (es:List Int) (xa:Option Addr) (xl:Nat) (xc:Nat) (xs:List Int) (mn:Int) (oa:Option Addr) (ol:Nat) (oc:Nat) (os:List Int) (sa:Option Addr) (sl:Nat) (sc:Nat) (ss:List gr_TV) (ta:Option Addr) (tl:Nat) (tc:Nat) (ts:List UV) (na:Option Addr) (nl:Nat) (nc:Nat) (ns:List NV) (ka:Option Addr) (kl:Nat) (kc:Nat) (ks:List KV) (w:World) (he:dS w ea es) (hel:es.length=el) (hx:dS w xa xs) (hxl:xs.length=xl) (ho:dS w oa os) (hol:os.length=ol) (hs:dB gr_TV.sev 7 w sa ss) (hsl:ss.length=sl) (ht:dB UV.four 4 w ta ts) (htl:ts.length=tl) (hn:dB NV.two 2 w na ns) (hnl:ns.length=nl) (hk:dB KV.two 2 w ka ks) (hkl:ks.length=kl) (b1:vl≤5000) (b2:pl≤5000) (b3:el≤5000) (b4:xl≤5000) (b5:ol≤5000) (b6:sl≤5000) (b7:tl≤5000) (b8:nl≤5000) (b9:kl≤5000) :
  Calls prog 36 #[.agg #[.slice va vl vc,.slice pa pl pc,.slice ea el ec,.slice xa xl xc,.int .i64 mn,.slice oa ol oc,.slice sa sl sc,.slice ta tl tc,.slice na nl nc,.slice ka kl kc]] w (fun e w'=>e = .returned (.bool (stepsB ⟨va,vl,vc,pa,pl,pc,ea,el,ec,es,xa,xl,xc,xs,mn,oa,ol,oc,os,sa,sl,sc,ss,ta,tl,tc,ts,na,nl,nc,ns,ka,kl,kc,ks⟩))∧Below w.heap.size w w'):=by
 refine cS (args:=[.agg #[.slice va vl vc,.slice pa pl pc,.slice ea el ec,.slice xa xl xc,.int .i64 mn,.slice oa ol oc,.slice sa sl sc,.slice ta tl tc,.slice na nl nc,.slice ka kl kc]]) func36 rfl ntmps36 rfl ?_
 have hS:=St.start w
 refine aR (aU (cR (cs:=[_,_,_,_,_,_,_,_,_,_]) hS rfl rfl rfl fun B1 W1 hS=>aK rfl rfl (aT (XF.thenN (aR (aU (aK rfl rfl (aT (XF.thenN (aR (aR (aU (aQ (o':=0) cK rfl rfl rfl (aQ (o':=6) eF rfl rfl rfl (aV isAgg24 rfl (aI (hS.at_ 0 rfl) rfl) rfl (bU underlying24 rfl rfl (aL rfl rfl (aT (XF.thenN (bR (eI (fun m l W=>∃ i n:Nat,i≤sl∧n≤i∧m=sl - i∧l=[(1,.pointer (some ⟨B1,0,none⟩)),(3,.int .i64 (n:Int)),(8,.slice sa sl sc),(9,.int .i64 (sl:Int)),(10,.int .i64 (i:Int))]∧fF ⟨va,vl,vc,pa,pl,pc,ea,el,ec,es,xa,xl,xc,xs,mn,oa,ol,oc,os,sa,sl,sc,ss,ta,tl,tc,ts,na,nl,nc,ns,ka,kl,kc,ks⟩ (ss.drop i) n=fF ⟨va,vl,vc,pa,pl,pc,ea,el,ec,es,xa,xl,xc,xs,mn,oa,ol,oc,os,sa,sl,sc,ss,ta,tl,tc,ts,na,nl,nc,ns,ka,kl,kc,ks⟩ ss 0∧St w [(B1,[.slice va vl vc,.slice pa pl pc,.slice ea el ec,.slice xa xl xc,.int .i64 mn,.slice oa ol oc,.slice sa sl sc,.slice ta tl tc,.slice na nl nc,.slice ka kl kc],103)] [] [] W) (sl - 0) ([(1,_),(3,_),(8,_),(9,_),(10,_)]) ⟨rfl,rfl,rfl,rfl,rfl,trivial⟩ (⟨0,0,Nat.zero_le _,Nat.le_refl _,rfl,rfl,rfl,hS.clear⟩) ?_)))))))))))))))))))))
 clear hS
 rintro m l W ⟨i,n,hi,hni,rfl,rfl,hrun,hS⟩
 refine aR (aU (dA rfl rfl rfl (aT (XF.thenN (aR (bJ rfl (fun hc=>?_) (fun hc=>?_)))))))
 ·have hc11:=of_decide_eq_true hc;clear hc
  have hk1:i < sl:=by omega
  obtain ⟨b,off,s,rfl,hy,hyc⟩:=hs.get (i:=i) (by omega)
  have k1:=aM.agree hS.agree (Nat.zero_le _) hyc
  rw [nX hy] at hrun
  simp only [fF] at hrun
  refine bQ (XF.thenN (aR (bR (aR (aU (cP  underlying24 sizeOf79 rfl rfl rfl (by omega) rfl rfl (bF (vs:=[_,_,_,_,_,_,_]) isAgg79 sizeOf79 rfl (k1) rfl (bY (cs:=[_,_,_,_,_,_,_]) hS zeroValue79 rfl rfl fun B2 W2 hS=>bA (i:=0) (vs:=[_,_,_,_,_,_,_]) (cs':=[_,_,_,_,_,_,_]) (O':=[_,_]) hS sizeOf79 rfl rfl rfl rfl rfl rfl rfl fun W3 hS=>aT (XF.thenN (aR (aR (aU (bF (vs:=[_,_,_,_,_,_,_,_,_,_]) isAgg103 sizeOf103 rfl (aM.own (j:=0) (m:=10) (hS.at_ 1 rfl) rfl) rfl (bF (vs:=[_,_,_,_,_,_,_]) isAgg79 sizeOf79 rfl (aM.own (j:=0) (m:=7) (hS.at_ 0 rfl) rfl) rfl (aL rfl rfl (cD (vs:=[_,_,_]) hS xP rfl (step_c _ vl vc _ pl pc _ el ec es _ xl xc xs mn _ ol oc os _ sl sc ss _ tl tc ts _ nl nc ns _ kl kc ks s n _ (he.below hS.below) hel (hx.below hS.below) hxl (ho.below hS.below) hol (hs.below hS.below) hsl (ht.below hS.below) htl (hn.below hS.below) hnl (hk.below hS.below) hkl b1 b2 b3 b4 b5 b6 b7 b8 b9) rfl fun W4 hS=>eX rfl rfl (aT (XF.thenN (bJ rfl (fun hc=>?_) (fun hc=>?_))))))))))))))))))))
  ·have hc18:=hc;clear hc
   refine aR (aU (aK rfl rfl (aT (XF.thenN (bP (XF.thenR (XF.blkR (XF.thenR (XF.thenR (XF.blkR (XF.thenR (XF.res (cG results36 rfl) ?_))))))))))))
   rw [if_neg (by simpa using hc18)] at hrun
   exact ⟨bI (by unfold stepsB;dsimp only;rw [← hrun];simp),hS.below⟩
  ·have hc18:=hc;clear hc
   rw [if_pos (by simpa using hc18)] at hrun
   refine bQ (XF.thenN (aR (aU (aQ (o':=2) dQ rfl rfl rfl (aV isAgg77 rfl (aI (hS.at_ 0 rfl) rfl) rfl (bW rfl rfl rfl (aT (XF.thenN (bJ rfl (fun hc=>?_) (fun hc=>?_))))))))))
   ·have hc21:=of_decide_eq_true hc;clear hc
    have h8:s.k=8:=hc21
    rw [if_pos h8] at hrun
    refine aU (aL rfl rfl (dH rfl rfl (IntWalk.i64_in _ (by omega)) rfl (aK rfl rfl (aT (XF.blkN (XF.thenN (aU (dH rfl rfl (IntWalk.i64_in _ (by omega)) rfl (aL rfl rfl (aT ?_))))))))))
    exact XF.round (sl - (i+1)) [(1,_),(3,_),(8,_),(9,_),(10,_)] (by omega) ⟨rfl,rfl,rfl,rfl,rfl,trivial⟩ ⟨i+1,n+1,by omega,by omega,rfl,rfl,hrun,hS.tail.clear⟩
   ·have hc21:=of_decide_eq_false hc;clear hc
    have h8:¬ s.k=8:=hc21
    rw [if_neg h8] at hrun
    refine bQ (XF.blkN (XF.thenN (aU (dH rfl rfl (IntWalk.i64_in _ (by omega)) rfl (aL rfl rfl (aT ?_))))))
    exact XF.round (sl - (i+1)) [(1,_),(3,_),(8,_),(9,_),(10,_)] (by omega) ⟨rfl,rfl,rfl,rfl,rfl,trivial⟩ ⟨i+1,n,by omega,by omega,rfl,rfl,hrun,hS.tail.clear⟩
 ·have hc11:=of_decide_eq_false hc;clear hc
  rw [List.drop_of_length_le (by omega)] at hrun
  simp only [fF] at hrun
  refine cZ (XF.thenX (XF.thenX (XF.blkX (XF.thenN (aR (aU (aL rfl rfl (aQ (o':=0) cK rfl rfl rfl (aQ (o':=7) cX rfl rfl rfl (aV isAgg25 rfl (aI (hS.at_ 0 rfl) rfl) rfl (bU underlying25 rfl rfl (bW rfl rfl rfl (aK rfl rfl (aT (XF.thenN (bP (XF.res (cG results36 rfl) ?_)))))))))))))))))
  exact ⟨bI (by unfold stepsB;dsimp only;rw [← hrun];exact decide_eq_decide.2 ⟨fun h=>by congr 1;omega,fun h=>by have:=Option.some.inj h;omega⟩),hS.below⟩
theorem C3 (va:Option Addr) (vl:Nat) (vc:Nat) (pa:Option Addr) (pl:Nat) (pc:Nat) (ea:Option Addr) (el:Nat) (ec:Nat) (es:List Int) (xa:Option Addr) (xl:Nat) (xc:Nat) (xs:List Int) (mn:Int) (oa:Option Addr) (ol:Nat) (oc:Nat) (os:List Int) (sa:Option Addr) (sl:Nat) (sc:Nat) (ss:List gr_TV) (ta:Option Addr) (tl:Nat) (tc:Nat) (ts:List UV) (na:Option Addr) (nl:Nat) (nc:Nat) (ns:List NV) (ka:Option Addr) (kl:Nat) (kc:Nat) (ks:List KV) (w:World) (he:dS w ea es) (hel:es.length=el) (hx:dS w xa xs) (hxl:xs.length=xl) (ho:dS w oa os) (hol:os.length=ol) (hs:dB gr_TV.sev 7 w sa ss) (hsl:ss.length=sl) (ht:dB UV.four 4 w ta ts) (htl:ts.length=tl) (hn:dB NV.two 2 w na ns) (hnl:ns.length=nl) (hk:dB KV.two 2 w ka ks) (hkl:ks.length=kl) (b1:vl≤5000) (b2:pl≤5000) (b3:el≤5000) (b4:xl≤5000) (b5:ol≤5000) (b6:sl≤5000) (b7:tl≤5000) (b8:nl≤5000) (b9:kl≤5000) :
  Calls prog 37 #[.agg #[.slice va vl vc,.slice pa pl pc,.slice ea el ec,.slice xa xl xc,.int .i64 mn,.slice oa ol oc,.slice sa sl sc,.slice ta tl tc,.slice na nl nc,.slice ka kl kc]] w (fun e w'=>e = .returned (.bool (fS ⟨va,vl,vc,pa,pl,pc,ea,el,ec,es,xa,xl,xc,xs,mn,oa,ol,oc,os,sa,sl,sc,ss,ta,tl,tc,ts,na,nl,nc,ns,ka,kl,kc,ks⟩))∧Below w.heap.size w w'):=by
 refine cS (args:=[.agg #[.slice va vl vc,.slice pa pl pc,.slice ea el ec,.slice xa xl xc,.int .i64 mn,.slice oa ol oc,.slice sa sl sc,.slice ta tl tc,.slice na nl nc,.slice ka kl kc]]) func37 rfl ntmps37 rfl ?_
 have hS:=St.start w
 refine aR (aU (cR (cs:=[_,_,_,_,_,_,_,_,_,_]) hS rfl rfl rfl fun B1 W1 hS=>aK rfl rfl (aT (XF.thenN (aR (aR (aU (aQ (o':=0) cK rfl rfl rfl (aQ (o':=7) cX rfl rfl rfl (aV isAgg25 rfl (aI (hS.at_ 0 rfl) rfl) rfl (bU underlying25 rfl rfl (aL rfl rfl (aT (XF.thenN (bR (eI (fun m l W=>∃ i:Nat,i≤tl∧m=tl - i∧l=[(1,.pointer (some ⟨B1,0,none⟩)),(11,.slice ta tl tc),(12,.int .i64 (tl:Int)),(13,.int .i64 (i:Int))]∧(ts.take i).all (fun u=>gr_inQ u.pr pl)=true∧St w [(B1,[.slice va vl vc,.slice pa pl pc,.slice ea el ec,.slice xa xl xc,.int .i64 mn,.slice oa ol oc,.slice sa sl sc,.slice ta tl tc,.slice na nl nc,.slice ka kl kc],103)] [] [] W) (tl - 0) ([(1,_),(11,_),(12,_),(13,_)]) ⟨rfl,rfl,rfl,rfl,trivial⟩ (⟨0,Nat.zero_le _,rfl,rfl,rfl,hS.clear⟩) ?_))))))))))))))))
 clear hS
 rintro m l W ⟨i,hi,rfl,rfl,ha1,hS⟩
 refine aR (aU (dA rfl rfl rfl (aT (XF.thenN (aR (bJ rfl (fun hc=>?_) (fun hc=>?_)))))))
 ·have hc14:=of_decide_eq_true hc;clear hc
  have hk1:i < tl:=by omega
  obtain ⟨b,off,u,rfl,hy,hyc⟩:=ht.get (i:=i) (by omega)
  have k1:=aM.agree hS.agree (Nat.zero_le _) hyc
  refine bQ (XF.thenN (aR (bR (aR (aU (cP  underlying25 sizeOf81 rfl rfl rfl (by omega) rfl rfl (bF (vs:=[_,_,_,_]) isAgg81 sizeOf81 rfl (k1) rfl (bY (cs:=[_,_,_,_]) hS zeroValue81 rfl rfl fun B2 W2 hS=>bA (i:=0) (vs:=[_,_,_,_]) (cs':=[_,_,_,_]) (O':=[_,_]) hS sizeOf81 rfl rfl rfl rfl rfl rfl rfl fun W3 hS=>aT (XF.thenN (aR (aU (bF (vs:=[_,_,_,_,_,_,_,_,_,_]) isAgg103 sizeOf103 rfl (aM.own (j:=0) (m:=10) (hS.at_ 1 rfl) rfl) rfl (aQ (o':=1) jS rfl rfl rfl (aV isAgg3 rfl (aI (hS.at_ 0 rfl) rfl) rfl (cD (vs:=[_,_]) hS nY rfl (pM ⟨_,vl,vc,_,pl,pc,_,el,ec,es,_,xl,xc,xs,mn,_,ol,oc,os,_,sl,sc,ss,_,tl,tc,ts,_,nl,nc,ns,_,kl,kc,ks⟩ u.pr _) rfl fun W4 hS=>eX rfl rfl (aT (XF.thenN (bJ rfl (fun hc=>?_) (fun hc=>?_)))))))))))))))))))
  ·have hc21:=hc;clear hc
   refine aR (aU (aK rfl rfl (aT (XF.thenN (bP (XF.blkR (XF.thenR (XF.thenR (XF.blkR (XF.thenR (XF.res (cG results37 rfl) ?_)))))))))))
   exact ⟨bI (by unfold fS;dsimp only;rw [if_pos (dR hy (by simpa using hc21))]),hS.below⟩
  ·have hc21:=hc;clear hc
   refine bQ (XF.blkN (XF.thenN (aU (dH rfl rfl (IntWalk.i64_in _ (by omega)) rfl (aL rfl rfl (aT ?_))))))
   exact XF.round (tl - (i+1)) [(1,_),(11,_),(12,_),(13,_)] (by omega) ⟨rfl,rfl,rfl,rfl,trivial⟩ ⟨i+1,by omega,rfl,rfl,eO hy ha1 (by simpa using hc21),hS.tail.clear⟩
 ·have hc14:=of_decide_eq_false hc;clear hc
  rw [List.take_of_length_le (by omega)] at ha1
  refine cZ (XF.thenX (XF.thenX (XF.blkX (XF.thenN (aR (aR (aU (aQ (o':=0) cK rfl rfl rfl (aQ (o':=8) lL rfl rfl rfl (aV isAgg26 rfl (aI (hS.at_ 0 rfl) rfl) rfl (bU underlying26 rfl rfl (aL rfl rfl (aT (XF.thenN (bR (eI (fun m l W=>∃ i:Nat,i≤nl∧m=nl - i∧l=[(1,.pointer (some ⟨B1,0,none⟩)),(25,.slice na nl nc),(26,.int .i64 (nl:Int)),(27,.int .i64 (i:Int))]∧(ns.take i).all (fun u=>gr_inQ u.nd ol)=true∧St w [(B1,[.slice va vl vc,.slice pa pl pc,.slice ea el ec,.slice xa xl xc,.int .i64 mn,.slice oa ol oc,.slice sa sl sc,.slice ta tl tc,.slice na nl nc,.slice ka kl kc],103)] [] [] W) (nl - 0) ([(1,_),(25,_),(26,_),(27,_)]) ⟨rfl,rfl,rfl,rfl,trivial⟩ (⟨0,Nat.zero_le _,rfl,rfl,rfl,hS.clear⟩) ?_))))))))))))))))
  clear hS
  rintro m l W ⟨i,hi,rfl,rfl,ha2,hS⟩
  refine aR (aU (dA rfl rfl rfl (aT (XF.thenN (aR (bJ rfl (fun hc=>?_) (fun hc=>?_)))))))
  ·have hc28:=of_decide_eq_true hc;clear hc
   have hk1:i < nl:=by omega
   obtain ⟨b,off,u,rfl,hy,hyc⟩:=hn.get (i:=i) (by omega)
   have k1:=aM.agree hS.agree (Nat.zero_le _) hyc
   refine bQ (XF.thenN (aR (bR (aR (aU (cP  underlying26 sizeOf115 rfl rfl rfl (by omega) rfl rfl (bF (vs:=[_,_]) isAgg115 sizeOf115 rfl (k1) rfl (bY (cs:=[_,_]) hS zeroValue115 rfl rfl fun B5 W5 hS=>bA (i:=0) (vs:=[_,_]) (cs':=[_,_]) (O':=[_,_]) hS sizeOf115 rfl rfl rfl rfl rfl rfl rfl fun W6 hS=>aT (XF.thenN (aR (aU (bF (vs:=[_,_,_,_,_,_,_,_,_,_]) isAgg103 sizeOf103 rfl (aM.own (j:=0) (m:=10) (hS.at_ 1 rfl) rfl) rfl (aQ (o':=1) qG rfl rfl rfl (aV isAgg3 rfl (aI (hS.at_ 0 rfl) rfl) rfl (cD (vs:=[_,_]) hS fT rfl (gM ⟨_,vl,vc,_,pl,pc,_,el,ec,es,_,xl,xc,xs,mn,_,ol,oc,os,_,sl,sc,ss,_,tl,tc,ts,_,nl,nc,ns,_,kl,kc,ks⟩ u.nd _) rfl fun W7 hS=>eX rfl rfl (aT (XF.thenN (bJ rfl (fun hc=>?_) (fun hc=>?_)))))))))))))))))))
   ·have hc35:=hc;clear hc
    refine aR (aU (aK rfl rfl (aT (XF.thenN (bP (XF.blkR (XF.thenR (XF.thenR (XF.blkR (XF.thenR (XF.res (cG results37 rfl) ?_)))))))))))
    exact ⟨bI (by unfold fS;dsimp only;rw [if_neg (by rw [ha1];simp),if_pos (dR hy (by simpa using hc35))]),hS.below⟩
   ·have hc35:=hc;clear hc
    refine bQ (XF.blkN (XF.thenN (aU (dH rfl rfl (IntWalk.i64_in _ (by omega)) rfl (aL rfl rfl (aT ?_))))))
    exact XF.round (nl - (i+1)) [(1,_),(25,_),(26,_),(27,_)] (by omega) ⟨rfl,rfl,rfl,rfl,trivial⟩ ⟨i+1,by omega,rfl,rfl,eO hy ha2 (by simpa using hc35),hS.tail.clear⟩
  ·have hc28:=of_decide_eq_false hc;clear hc
   rw [List.take_of_length_le (by omega)] at ha2
   refine cZ (XF.thenX (XF.thenX (XF.blkX (XF.thenN (aR (aR (aU (aQ (o':=0) cK rfl rfl rfl (aQ (o':=9) iV rfl rfl rfl (aV isAgg27 rfl (aI (hS.at_ 0 rfl) rfl) rfl (bU underlying27 rfl rfl (aL rfl rfl (aT (XF.thenN (bR (eI (fun m l W=>∃ i:Nat,i≤kl∧m=kl - i∧l=[(1,.pointer (some ⟨B1,0,none⟩)),(39,.slice ka kl kc),(40,.int .i64 (kl:Int)),(41,.int .i64 (i:Int))]∧(ks.take i).all (fun u=>gr_inQ u.nd ol && gr_inQ u.x vl)=true∧St w [(B1,[.slice va vl vc,.slice pa pl pc,.slice ea el ec,.slice xa xl xc,.int .i64 mn,.slice oa ol oc,.slice sa sl sc,.slice ta tl tc,.slice na nl nc,.slice ka kl kc],103)] [] [] W) (kl - 0) ([(1,_),(39,_),(40,_),(41,_)]) ⟨rfl,rfl,rfl,rfl,trivial⟩ (⟨0,Nat.zero_le _,rfl,rfl,rfl,hS.clear⟩) ?_))))))))))))))))
   clear hS
   rintro m l W ⟨i,hi,rfl,rfl,ha3,hS⟩
   refine aR (aU (dA rfl rfl rfl (aT (XF.thenN (aR (bJ rfl (fun hc=>?_) (fun hc=>?_)))))))
   ·have hc42:=of_decide_eq_true hc;clear hc
    have hk1:i < kl:=by omega
    obtain ⟨b,off,u,rfl,hy,hyc⟩:=hk.get (i:=i) (by omega)
    have k1:=aM.agree hS.agree (Nat.zero_le _) hyc
    refine bQ (XF.thenN (aR (bR (aR (aU (cP  underlying27 sizeOf117 rfl rfl rfl (by omega) rfl rfl (bF (vs:=[_,_]) isAgg117 sizeOf117 rfl (k1) rfl (bY (cs:=[_,_]) hS zeroValue117 rfl rfl fun B8 W8 hS=>bA (i:=0) (vs:=[_,_]) (cs':=[_,_]) (O':=[_,_]) hS sizeOf117 rfl rfl rfl rfl rfl rfl rfl fun W9 hS=>aT (XF.thenN (aR (aU (bF (vs:=[_,_,_,_,_,_,_,_,_,_]) isAgg103 sizeOf103 rfl (aM.own (j:=0) (m:=10) (hS.at_ 1 rfl) rfl) rfl (aQ (o':=1) mG rfl rfl rfl (aV isAgg3 rfl (aI (hS.at_ 0 rfl) rfl) rfl (cD (vs:=[_,_]) hS fT rfl (gM ⟨_,vl,vc,_,pl,pc,_,el,ec,es,_,xl,xc,xs,mn,_,ol,oc,os,_,sl,sc,ss,_,tl,tc,ts,_,nl,nc,ns,_,kl,kc,ks⟩ u.nd _) rfl fun W10 hS=>eX rfl rfl (aL rfl rfl (bK (d:=50) rfl (fun hc=>?_) (fun hc=>?_))))))))))))))))))
    ·have hg50:=hc;clear hc
     have h50:gr_inQ u.nd ol=false:=by simpa using hg50
     refine aH (d:=50) rfl rfl rfl rfl (aH (d:=50) rfl rfl rfl rfl (aH (d:=50) rfl rfl rfl rfl (aH (d:=50) rfl rfl rfl rfl (aH (d:=50) rfl rfl rfl rfl (bC rfl rfl rfl (aT (XF.thenN (eA rfl (aR (aU (aK rfl rfl (aT (XF.thenN (bP (XF.blkR (XF.thenR (XF.thenR (XF.blkR (XF.thenR (XF.res (cG results37 rfl) ?_))))))))))))))))))))
     exact ⟨bI (by unfold fS;dsimp only;rw [if_neg (by rw [ha1];simp),if_neg (by rw [ha2];simp),dR hy (by rw [h50];rfl)]),hS.below⟩
    ·have hg50:=hc;clear hc
     have h50:gr_inQ u.nd ol=true:=by simpa using hg50
     refine aF (d:=50) rfl rfl (bF (vs:=[_,_,_,_,_,_,_,_,_,_]) isAgg103 sizeOf103 rfl (aM.own (j:=0) (m:=10) (hS.at_ 1 rfl) rfl) rfl (aF (d:=50) rfl rfl (aQ (o':=0) qH rfl rfl rfl (aF (d:=50) rfl rfl (aV isAgg3 rfl (aI (hS.at_ 0 rfl) rfl) rfl (aF (d:=50) rfl rfl (cD (vs:=[_,_]) hS hJ rfl (jR ⟨_,vl,vc,_,pl,pc,_,el,ec,es,_,xl,xc,xs,mn,_,ol,oc,os,_,sl,sc,ss,_,tl,tc,ts,_,nl,nc,ns,_,kl,kc,ks⟩ u.x _) rfl fun W11 hS=>aF (d:=50) rfl rfl (eX rfl rfl (bE rfl rfl rfl (aT (XF.thenN (bJ rfl (fun hc=>?_) (fun hc=>?_)))))))))))))
     ·have hc56:=hc;clear hc
      refine aR (aU (aK rfl rfl (aT (XF.thenN (bP (XF.blkR (XF.thenR (XF.thenR (XF.blkR (XF.thenR (XF.res (cG results37 rfl) ?_)))))))))))
      exact ⟨bI (by unfold fS;dsimp only;rw [if_neg (by rw [ha1];simp),if_neg (by rw [ha2];simp),dR hy (by rw [h50,show gr_inQ u.x vl=false by simpa using hc56];rfl)]),hS.below⟩
     ·have hc56:=hc;clear hc
      refine bQ (XF.blkN (XF.thenN (aU (dH rfl rfl (IntWalk.i64_in _ (by omega)) rfl (aL rfl rfl (aT ?_))))))
      exact XF.round (kl - (i+1)) [(1,_),(39,_),(40,_),(41,_)] (by omega) ⟨rfl,rfl,rfl,rfl,trivial⟩ ⟨i+1,by omega,rfl,rfl,eO hy ha3 (by rw [h50,show gr_inQ u.x vl=true by simpa using hc56];rfl),hS.tail.clear⟩
   ·have hc42:=of_decide_eq_false hc;clear hc
    refine cZ (XF.thenX (XF.thenX (XF.blkX (XF.thenN (aR (aU (aK rfl rfl (aT (XF.thenN (bP (XF.res (cG results37 rfl) ?_)))))))))))
    rw [List.take_of_length_le (by omega)] at ha3
    exact ⟨bI (by unfold fS;dsimp only;rw [if_neg (by rw [ha1];simp),if_neg (by rw [ha2];simp),ha3]),hS.below⟩
theorem uN (va:Option Addr) (vl:Nat) (vc:Nat) (pa:Option Addr) (pl:Nat) (pc:Nat) (ea:Option Addr) (el:Nat) (ec:Nat) (es:List Int) (xa:Option Addr) (xl:Nat) (xc:Nat) (xs:List Int) (mn:Int) (oa:Option Addr) (ol:Nat) (oc:Nat) (os:List Int) (sa:Option Addr) (sl:Nat) (sc:Nat) (ss:List gr_TV) (ta:Option Addr) (tl:Nat) (tc:Nat) (ts:List UV) (na:Option Addr) (nl:Nat) (nc:Nat) (ns:List NV) (ka:Option Addr) (kl:Nat) (kc:Nat) (ks:List KV) (w:World) (he:dS w ea es) (hel:es.length=el) (hx:dS w xa xs) (hxl:xs.length=xl) (ho:dS w oa os) (hol:os.length=ol) (hs:dB gr_TV.sev 7 w sa ss) (hsl:ss.length=sl) (ht:dB UV.four 4 w ta ts) (htl:ts.length=tl) (hn:dB NV.two 2 w na ns) (hnl:ns.length=nl) (hk:dB KV.two 2 w ka ks) (hkl:ks.length=kl) (b1:vl≤5000) (b2:pl≤5000) (b3:el≤5000) (b4:xl≤5000) (b5:ol≤5000) (b6:sl≤5000) (b7:tl≤5000) (b8:nl≤5000) (b9:kl≤5000) :
  Calls prog 27 #[.agg #[.slice va vl vc,.slice pa pl pc,.slice ea el ec,.slice xa xl xc,.int .i64 mn,.slice oa ol oc,.slice sa sl sc,.slice ta tl tc,.slice na nl nc,.slice ka kl kc]] w (fun e w'=>e = .returned (.int .i64 (gr_checkE ⟨va,vl,vc,pa,pl,pc,ea,el,ec,es,xa,xl,xc,xs,mn,oa,ol,oc,os,sa,sl,sc,ss,ta,tl,tc,ts,na,nl,nc,ns,ka,kl,kc,ks⟩))∧Below w.heap.size w w'):=by
 refine cS (args:=[.agg #[.slice va vl vc,.slice pa pl pc,.slice ea el ec,.slice xa xl xc,.int .i64 mn,.slice oa ol oc,.slice sa sl sc,.slice ta tl tc,.slice na nl nc,.slice ka kl kc]]) func27 rfl ntmps27 rfl ?_
 have hS:=St.start w
 refine aR (aU (cR (cs:=[_,_,_,_,_,_,_,_,_,_]) hS rfl rfl rfl fun B1 W1 hS=>aK rfl rfl (aT (XF.thenN (aR (aU (bF (vs:=[_,_,_,_,_,_,_,_,_,_]) isAgg29 sizeOf29 rfl (aM.own (j:=0) (m:=10) (hS.at_ 0 rfl) rfl) rfl (bL (us:=[(0,.agg (List.toArray [_,_,_,_,_,_,_,_,_,_]))]) rfl (uM _ _ _ _ _ _ _ _ _ _) rfl (bY (cs:=[_,_,_,_,_,_,_,_,_,_]) hS zeroValue103 rfl rfl fun B2 W2 hS=>bA (i:=0) (vs:=[_,_,_,_,_,_,_,_,_,_]) (cs':=[_,_,_,_,_,_,_,_,_,_]) (O':=[_,_]) hS sizeOf103 rfl rfl rfl rfl rfl rfl rfl fun W3 hS=>aT (XF.thenN (aR (aR (aU (bF (vs:=[_,_,_,_,_,_,_,_,_,_]) isAgg103 sizeOf103 rfl (aM.own (j:=0) (m:=10) (hS.at_ 0 rfl) rfl) rfl (cD (vs:=[_]) hS xL rfl (sized_c _ vl vc _ pl pc _ el ec es _ xl xc xs mn _ ol oc os _ sl sc ss _ tl tc ts _ nl nc ns _ kl kc ks  _ (he.below hS.below) hel (hx.below hS.below) hxl (ho.below hS.below) hol (hs.below hS.below) hsl (ht.below hS.below) htl (hn.below hS.below) hnl (hk.below hS.below) hkl b1 b2 b3 b4 b5 b6 b7 b8 b9) rfl fun W4 hS=>eX rfl rfl (aL rfl rfl (bK (d:=9) rfl (fun hc=>?_) (fun hc=>?_))))))))))))))))))
 ·have hg9:=hc;clear hc
  refine aH (d:=9) rfl rfl rfl rfl (aH (d:=9) rfl rfl rfl rfl (aH (d:=9) rfl rfl rfl rfl (bC rfl rfl rfl (aL rfl rfl (aH (d:=14) rfl rfl rfl rfl (aH (d:=14) rfl rfl rfl rfl (aH (d:=14) rfl rfl rfl rfl (bC rfl rfl rfl (aT (XF.thenN (eA rfl (aR (aU (aK rfl rfl (aT (XF.thenN (bP (XF.thenR (XF.res (cG results27 rfl) ?_)))))))))))))))))))
  exact ⟨eD (by unfold gr_checkE;rw [if_pos (by simpa using hg9)]),hS.below⟩
 ·have hg9:=hc;clear hc
  have h9:eG ⟨va,vl,vc,pa,pl,pc,ea,el,ec,es,xa,xl,xc,xs,mn,oa,ol,oc,os,sa,sl,sc,ss,ta,tl,tc,ts,na,nl,nc,ns,ka,kl,kc,ks⟩=true:=by simpa using hg9
  refine aF (d:=9) rfl rfl (bF (vs:=[_,_,_,_,_,_,_,_,_,_]) isAgg103 sizeOf103 rfl (aM.own (j:=0) (m:=10) (hS.at_ 0 rfl) rfl) rfl (aF (d:=9) rfl rfl (cD (vs:=[_]) hS xM rfl (steps_c _ vl vc _ pl pc _ el ec es _ xl xc xs mn _ ol oc os _ sl sc ss _ tl tc ts _ nl nc ns _ kl kc ks  _ (he.below hS.below) hel (hx.below hS.below) hxl (ho.below hS.below) hol (hs.below hS.below) hsl (ht.below hS.below) htl (hn.below hS.below) hnl (hk.below hS.below) hkl b1 b2 b3 b4 b5 b6 b7 b8 b9) rfl fun W5 hS=>aF (d:=9) rfl rfl (eX rfl rfl (bE rfl rfl rfl (aL rfl rfl (bK (d:=14) rfl (fun hc=>?_) (fun hc=>?_))))))))
  ·have hg14:=hc;clear hc
   refine aH (d:=14) rfl rfl rfl rfl (aH (d:=14) rfl rfl rfl rfl (aH (d:=14) rfl rfl rfl rfl (bC rfl rfl rfl (aT (XF.thenN (eA rfl (aR (aU (aK rfl rfl (aT (XF.thenN (bP (XF.thenR (XF.res (cG results27 rfl) ?_))))))))))))))
   exact ⟨eD (by unfold gr_checkE;rw [if_neg (by rw [h9];simp),if_pos (by simpa using hg14)]),hS.below⟩
  ·have hg14:=hc;clear hc
   have h14:stepsB ⟨va,vl,vc,pa,pl,pc,ea,el,ec,es,xa,xl,xc,xs,mn,oa,ol,oc,os,sa,sl,sc,ss,ta,tl,tc,ts,na,nl,nc,ns,ka,kl,kc,ks⟩=true:=by simpa using hg14
   refine aF (d:=14) rfl rfl (bF (vs:=[_,_,_,_,_,_,_,_,_,_]) isAgg103 sizeOf103 rfl (aM.own (j:=0) (m:=10) (hS.at_ 0 rfl) rfl) rfl (aF (d:=14) rfl rfl (cD (vs:=[_]) hS xO rfl (C3 _ vl vc _ pl pc _ el ec es _ xl xc xs mn _ ol oc os _ sl sc ss _ tl tc ts _ nl nc ns _ kl kc ks  _ (he.below hS.below) hel (hx.below hS.below) hxl (ho.below hS.below) hol (hs.below hS.below) hsl (ht.below hS.below) htl (hn.below hS.below) hnl (hk.below hS.below) hkl b1 b2 b3 b4 b5 b6 b7 b8 b9) rfl fun W6 hS=>aF (d:=14) rfl rfl (eX rfl rfl (bE rfl rfl rfl (aT (XF.thenN (bJ rfl (fun hc=>?_) (fun hc=>?_)))))))))
   ·have hc18:=hc;clear hc
    refine aR (aU (aK rfl rfl (aT (XF.thenN (bP (XF.thenR (XF.res (cG results27 rfl) ?_)))))))
    exact ⟨eD (by unfold gr_checkE;rw [if_neg (by rw [h9];simp),if_neg (by rw [h14];simp),if_pos (by simpa using hc18)]),hS.below⟩
   ·have hc18:=hc;clear hc
    refine bQ (XF.thenN (aR (aU (aK rfl rfl (aT (XF.thenN (bP (XF.res (cG results27 rfl) ?_))))))))
    exact ⟨eD (by unfold gr_checkE;rw [if_neg (by rw [h9];simp),if_neg (by rw [h14];simp),if_neg (by simpa using hc18)]),hS.below⟩
theorem St.ownG {w0 W:World} {O:Own} {G:Grows} {K:List (Nat×World)} {B n size:Nat} {cs:List Value} {e:TypeId} (h:St w0 ((B,cs,e)::O) G K W) (hl:cs.length=n * size) (hm:n≤maxLen):St w0 O (⟨.slice (some ⟨B,0,none⟩) n n,n,cs,e,size⟩::G) K W:=by
 have hB:=h.own _ List.mem_cons_self
 have hd:=List.pairwise_cons.1 h.dist
 refine ⟨h.below,fun p hp=>h.own p (List.mem_cons_of_mem _ hp),hd.2,fun q hq=>⟨(h.kept q hq).1,fun p hp=>(h.kept q hq).2 p (List.mem_cons_of_mem _ hp)⟩,fun g hg=>?_,List.Pairwise.cons (fun q hq b e1 e2=>?_) h.gdist⟩
 ·rcases List.mem_cons.1 hg with rfl | hg
  ·refine ⟨⟨hl,.inr ⟨B,n,cs.toArray,rfl,hB.1,hB.2,Nat.le_refl _,hm,by simpa using hl,?_⟩⟩,fun b e1=>?_⟩
   ·show cs.take (n * size)=cs
    exact List.take_of_length_le (by omega)
   ·have e2:B=b:=Option.some.inj e1
    subst e2
    exact ⟨fun p hp=>Ne.symm (hd.1 p hp),fun q hq=>(h.kept q hq).2 _ List.mem_cons_self⟩
  ·exact ⟨(h.rows g hg).1,fun b e1=>⟨fun p hp=>((h.rows g hg).2 b e1).1 p (List.mem_cons_of_mem _ hp),((h.rows g hg).2 b e1).2⟩⟩
 ·have e3:B=b:=Option.some.inj e1
  exact ((h.rows q hq).2 b e2).1 _ List.mem_cons_self e3
def kO (lo:Nat) (W:World) (a:Option Addr) (c:Nat) (xs:List Int):Prop:=W.ownsRow lo 3 1 (.slice a xs.length c) xs.length (xs.map (Value.int .i64))
theorem kO.row {lo:Nat} {W:World} {a:Option Addr} {c:Nat} {xs:List Int} (h:kO lo W a c xs):dS W a xs:=by
 rcases kR h with ⟨_,h2⟩ | ⟨b,h1,_,h3⟩
 ·exact .inl (List.eq_nil_of_length_eq_zero h2)
 ·refine .inr ⟨b,0,h1,fun i x hi=>⟨?_,trivial⟩⟩
  rw [Nat.zero_add,Nat.mul_one]
  exact h3 i _ (by rw [List.getElem?_map,hi];rfl)
theorem kO.agree {lo:Nat} {A W:World} {a:Option Addr} {c:Nat} {xs:List Int} (h:kO lo A a c xs) (hg:dN lo A W):kO lo W a c xs:=fW h hg
def mH (ts:List UV) (tl:Nat):List Int→Option (List Int)
 | []=>some []
 | s::r=>if gr_inQ s tl=true then (match ts[s.toNat]? with | some u=>(mH ts tl r).map (u.bk :: ·) | none=>none) else none
def mI (g:GV) (node:Int) (is:List Int):Int×List Int :=
 if gr_checkE g≠0 then (gr_checkE g,[]) else if gr_inQ node g.ol=false then (5,[]) else match mH g.ts g.tl is with
  | none=>(5,[])
  | some l=>if 4096 < l.length+1 then (2,[]) else (0,node::l)
def qY (R:Int×List Int) (w:World) (e:Ending) (w':World):Prop:=Below w.heap.size w w'∧((R.1≠0∧e = .returned (.tuple #[.agg #[.int .i64 0,.slice none 0 0],.int .i64 R.1]))∨(R.1=0∧∃ a c,e = .returned (.tuple #[.agg #[.int .i64 0,.slice a R.2.length c],.int .i64 0])∧kO w.heap.size w' a c R.2))
theorem hQ {R:Int×List Int} {w w':World} {c:Int} (hb:Below w.heap.size w w') (h:R=(c,[])) (hc:c≠0):qY R w (.returned (.tuple #[.agg #[.int .i64 0,.slice none 0 0],.int .i64 c])) w':=by
 subst h;exact ⟨hb,.inl ⟨hc,rfl⟩⟩
theorem vU {ts:List UV} {tl:Nat} {s:Int} {r:List Int} (h:gr_inQ s tl=false):mH ts tl (s::r)=none:=by
 simp only [mH];rw [if_neg (by rw [h];simp)]
theorem Bi {ts:List UV} {tl k:Nat} {r:List Int} {u:UV} (h:k < tl) (hu:ts[k]?=some u):mH ts tl ((k:Int)::r)=(mH ts tl r).map (u.bk :: ·):=by
 simp only [mH];rw [if_pos (rQ h),Int.toNat_natCast,hu]
theorem jM:prog.built 70 []=some #[.int .i64 0,.slice none 0 0]:=by kernel_rfl
theorem vV (v1a:Option Addr) (v1l:Nat) (v1c:Nat):prog.built 70 [(1,.slice v1a v1l v1c)]=some #[.int .i64 0,.slice v1a v1l v1c]:=by kernel_rfl
theorem fC (v0:Int):Instr.fill (fun i=>some (i * 1,1)) ((Array.range (1 * 1)).map ((Value.cells (.int .i64 0))[· % (Value.cells (.int .i64 0)).size]!)) [(0,.int .i64 v0)]=some (List.toArray [.int .i64 v0]):=by kernel_rfl
theorem iW (w:World) (b o:Nat):(Instr.fieldAt 70 (.pointer (some ⟨b,o,none⟩)) 1).run prog w = .ok (.pointer (some ⟨b,o+1,none⟩)) w:=by
 simp [Instr.fieldAt,run_underlying underlying70,Instr.sureAddr,go_sem,Addr.add_lit]
theorem oA:cL prog 27=true:=by kernel_rfl
theorem C4:prog.info? 3=some Try.t3:=by kernel_rfl
theorem conf_c (va:Option Addr) (vl:Nat) (vc:Nat) (pa:Option Addr) (pl:Nat) (pc:Nat) (ea:Option Addr) (el:Nat) (ec:Nat) (es:List Int) (xa:Option Addr) (xl:Nat) (xc:Nat) (xs:List Int) (mn:Int) (oa:Option Addr) (ol:Nat) (oc:Nat) (os:List Int) (sa:Option Addr) (sl:Nat) (sc:Nat) (ss:List gr_TV) (ta:Option Addr) (tl:Nat) (tc:Nat) (ts:List UV) (na:Option Addr) (nl:Nat) (nc:Nat) (ns:List NV) (ka:Option Addr) (kl:Nat) (kc:Nat) (ks:List KV) (node:Int) (la:Option Addr) (ll lc:Nat) (is:List Int) (w:World) (he:dS w ea es) (hel:es.length=el) (hx:dS w xa xs) (hxl:xs.length=xl) (ho:dS w oa os) (hol:os.length=ol) (hs:dB gr_TV.sev 7 w sa ss) (hsl:ss.length=sl) (ht:dB UV.four 4 w ta ts) (htl:ts.length=tl) (hn:dB NV.two 2 w na ns) (hnl:ns.length=nl) (hk:dB KV.two 2 w ka ks) (hkl:ks.length=kl) (b1:vl≤5000) (b2:pl≤5000) (b3:el≤5000) (b4:xl≤5000) (b5:ol≤5000) (b6:sl≤5000) (b7:tl≤5000) (b8:nl≤5000) (b9:kl≤5000) (hrla:dS w la is) (hll:is.length=ll) (hlm:ll≤5000) :
  Calls prog 16 #[.agg #[.slice va vl vc,.slice pa pl pc,.slice ea el ec,.slice xa xl xc,.int .i64 mn,.slice oa ol oc,.slice sa sl sc,.slice ta tl tc,.slice na nl nc,.slice ka kl kc],.int .i64 node,.slice la ll lc] w (qY (mI ⟨va,vl,vc,pa,pl,pc,ea,el,ec,es,xa,xl,xc,xs,mn,oa,ol,oc,os,sa,sl,sc,ss,ta,tl,tc,ts,na,nl,nc,ns,ka,kl,kc,ks⟩ node is) w):=by
 refine cS (args:=[.agg #[.slice va vl vc,.slice pa pl pc,.slice ea el ec,.slice xa xl xc,.int .i64 mn,.slice oa ol oc,.slice sa sl sc,.slice ta tl tc,.slice na nl nc,.slice ka kl kc],.int .i64 node,.slice la ll lc]) func16 rfl ntmps16 rfl ?_
 have hS:=St.start w
 refine aR (aU (cR (cs:=[_,_,_,_,_,_,_,_,_,_]) hS rfl rfl rfl fun B1 W1 hS=>bY (cs:=[_,_]) hS zeroValue70 rfl rfl fun B2 W2 hS=>aK rfl rfl (aT (XF.thenN (aR (aR (aU (bF (vs:=[_,_,_,_,_,_,_,_,_,_]) isAgg29 sizeOf29 rfl (aM.own (j:=0) (m:=10) (hS.at_ 1 rfl) rfl) rfl (cD (vs:=[_]) hS oA rfl (uN _ vl vc _ pl pc _ el ec es _ xl xc xs mn _ ol oc os _ sl sc ss _ tl tc ts _ nl nc ns _ kl kc ks  _ (he.below hS.below) hel (hx.below hS.below) hxl (ho.below hS.below) hol (hs.below hS.below) hsl (ht.below hS.below) htl (hn.below hS.below) hnl (hk.below hS.below) hkl b1 b2 b3 b4 b5 b6 b7 b8 b9) rfl fun W3 hS=>aK rfl rfl (aT (XF.thenN (aR (aU (aL rfl rfl (cW rfl rfl rfl (aT (XF.thenN (bJ rfl (fun hc=>?_) (fun hc=>?_)))))))))))))))))))
 ·have hc15:=of_decide_eq_true hc;clear hc
  have hce:gr_checkE ⟨va,vl,vc,pa,pl,pc,ea,el,ec,es,xa,xl,xc,xs,mn,oa,ol,oc,os,sa,sl,sc,ss,ta,tl,tc,ts,na,nl,nc,ns,ka,kl,kc,ks⟩≠0:=hc15
  refine aR (aU (bL (us:=[]) rfl (jM) rfl (aL rfl rfl (bA (i:=0) (vs:=[_,_]) (cs':=[_,_]) (O':=[_,_]) hS sizeOf70 rfl rfl rfl rfl rfl rfl rfl fun W4 hS=>aK rfl rfl (aT (XF.thenN (bP (XF.thenR (XF.res (fE (vs:=[_,_]) results16 isAgg70 sizeOf70 rfl (aM.own (j:=0) (m:=2) (hS.at_ 0 rfl) rfl) rfl) ?_)))))))))
  exact hQ hS.below (by unfold mI;rw [if_pos hce]) hce
 ·have hc15:=of_decide_eq_false hc;clear hc
  have hce:gr_checkE ⟨va,vl,vc,pa,pl,pc,ea,el,ec,es,xa,xl,xc,xs,mn,oa,ol,oc,os,sa,sl,sc,ss,ta,tl,tc,ts,na,nl,nc,ns,ka,kl,kc,ks⟩=0:=Decidable.of_not_not hc15
  refine bQ (XF.thenN (aR (aR (aU (aL rfl rfl (dA rfl rfl rfl (aL rfl rfl (bK (d:=20) rfl (fun hc=>?_) (fun hc=>?_)))))))))
  ·have hg20:=of_decide_eq_true hc;clear hc
   refine aH (d:=20) rfl rfl rfl rfl (aH (d:=20) rfl rfl rfl rfl (aH (d:=20) rfl rfl rfl rfl (aH (d:=20) rfl rfl rfl rfl (aH (d:=20) rfl rfl rfl rfl (bC rfl rfl rfl (aT (XF.thenN (eA rfl (aR (aU (bL (us:=[]) rfl (jM) rfl (bA (i:=0) (vs:=[_,_]) (cs':=[_,_]) (O':=[_,_]) hS sizeOf70 rfl rfl rfl rfl rfl rfl rfl fun W5 hS=>aK rfl rfl (aT (XF.thenN (bP (XF.thenR (XF.res (fE (vs:=[_,_]) results16 isAgg70 sizeOf70 rfl (aM.own (j:=0) (m:=2) (hS.at_ 0 rfl) rfl) rfl) ?_)))))))))))))))))
   exact hQ hS.below (by unfold mI;dsimp only;rw [if_neg (by rw [hce];simp),if_pos (zX hg20)]) (by decide)
  ·have hg20:=of_decide_eq_false hc;clear hc
   refine aF (d:=20) rfl rfl (aL rfl rfl (aF (d:=20) rfl rfl (aQ (o':=5) cA rfl rfl rfl (aF (d:=20) rfl rfl (aV isAgg23 rfl (aI (hS.at_ 1 rfl) rfl) rfl (aF (d:=20) rfl rfl (bU underlying23 rfl rfl (aF (d:=20) rfl rfl (mC rfl rfl rfl (bE rfl rfl rfl (aT (XF.thenN (bJ rfl (fun hc=>?_) (fun hc=>?_))))))))))))))
   ·have hc26:=of_decide_eq_true hc;clear hc
    refine aR (aU (bL (us:=[]) rfl (jM) rfl (bA (i:=0) (vs:=[_,_]) (cs':=[_,_]) (O':=[_,_]) hS sizeOf70 rfl rfl rfl rfl rfl rfl rfl fun W6 hS=>aK rfl rfl (aT (XF.thenN (bP (XF.thenR (XF.res (fE (vs:=[_,_]) results16 isAgg70 sizeOf70 rfl (aM.own (j:=0) (m:=2) (hS.at_ 0 rfl) rfl) rfl) ?_))))))))
    exact hQ hS.below (by unfold mI;dsimp only;rw [if_neg (by rw [hce];simp),if_pos (zY (by omega))]) (by decide)
   ·have hc26:=of_decide_eq_false hc;clear hc
    have hnd:gr_inQ node ol=true:=by unfold gr_inQ;rw [decide_eq_true (by omega),decide_eq_true (by omega)];rfl
    refine bQ (XF.thenN (aR (aU (aL rfl rfl (cQ (us:=[(0,.int .i64 _)]) hS underlying23 sizeOf3 zeroValue3 rfl rfl rfl (fC _) rfl fun B7 W7 hS=>bL (us:=[(1,.slice _ _ _)]) rfl (vV _ _ _) rfl (bY (cs:=[_,_]) hS zeroValue70 rfl rfl fun B8 W8 hS=>bA (i:=0) (vs:=[_,_]) (cs':=[_,_]) (O':=[_,_,_,_]) hS sizeOf70 rfl rfl rfl rfl rfl rfl rfl fun W9 hS=>aT (XF.thenN (aR (aR ?_)))))))))
    have hS:=(hS.perm (List.Perm.swap _ _ _)).ownG (n:=1) (size:=1) rfl (by decide)
    refine aU (aL rfl rfl (bU underlying23 rfl rfl (aL rfl rfl (aT (XF.thenN (bR ?_))))))
    refine eI (fun m l W=>∃ (i:Nat) (acc:List Int) (v:Value),i≤ll∧m=ll - i∧l=[(3,.pointer (some ⟨B1,0,none⟩)),(6,.pointer (some ⟨B2,0,none⟩)),(9,.pointer (some ⟨B8,0,none⟩)),(31,.slice la ll lc),(32,.int .i64 (ll:Int)),(33,.int .i64 (i:Int))]∧acc.length=i∧(mH ts tl (is.drop i)).map (acc ++ ·)=mH ts tl is∧St w [(B8,[.int .i64 0,v],70),(B2,[.int .i64 0,.slice none 0 0],70),(B1,[.slice va vl vc,.slice pa pl pc,.slice ea el ec,.slice xa xl xc,.int .i64 mn,.slice oa ol oc,.slice sa sl sc,.slice ta tl tc,.slice na nl nc,.slice ka kl kc],29)] [⟨v,i+1,(node::acc).map (Value.int .i64),3,1⟩] [] W) (ll - 0) ([(3,_),(6,_),(9,_),(31,_),(32,_),(33,_)]) ⟨rfl,rfl,rfl,rfl,rfl,rfl,trivial⟩ (⟨0,[],_,Nat.zero_le _,rfl,rfl,rfl,by rw [List.drop_zero];cases mH ts tl is<;>rfl,hS.clear⟩) ?_
    clear hS
    rintro m l W ⟨i,acc,v,hi,rfl,rfl,hacc,hrun,hS⟩
    obtain ⟨a9,c9,rfl,hac⟩:=dZ (v:=v) (n:=i+1) (hS.row 0 rfl)
    refine aR (aU (dA rfl rfl rfl (aT (XF.thenN (aR (bJ rfl (fun hc=>?_) (fun hc=>?_)))))))
    ·have hc34:=of_decide_eq_true hc;clear hc
     have hk1:i < ll:=by omega
     obtain ⟨b,off,y,rfl,hy,hyc⟩:=hrla.get (i:=i) (by omega)
     have k1:=(aM.agree hS.agree (Nat.zero_le _) hyc).1
     rw [nX hy] at hrun
     refine bQ (XF.thenN (aR (bR (aR (aU (cP  underlying23 sizeOf3 rfl rfl rfl (by omega) rfl rfl (aV isAgg3 rfl (k1) rfl (aK rfl rfl (aT (XF.thenN (aR (aR (aU (aL rfl rfl (dA rfl rfl rfl (aL rfl rfl (bK (d:=39) rfl (fun hc=>?_) (fun hc=>?_))))))))))))))))))
     ·have hg39:=of_decide_eq_true hc;clear hc
      rw [vU (zX hg39)] at hrun
      refine aH (d:=39) rfl rfl rfl rfl (aH (d:=39) rfl rfl rfl rfl (aH (d:=39) rfl rfl rfl rfl (aH (d:=39) rfl rfl rfl rfl (aH (d:=39) rfl rfl rfl rfl (bC rfl rfl rfl (aT (XF.thenN (eA rfl (aR (aU (bL (us:=[]) rfl (jM) rfl (bA (i:=1) (vs:=[_,_]) (cs':=[_,_]) (O':=[_,_,_]) hS sizeOf70 rfl rfl rfl rfl rfl rfl rfl fun W10 hS=>aK rfl rfl (aT (XF.thenN (bP (XF.thenR (XF.blkR (XF.thenR (XF.thenR (XF.blkR (XF.thenR (XF.res (fE (vs:=[_,_]) results16 isAgg70 sizeOf70 rfl (aM.own (j:=0) (m:=2) (hS.at_ 1 rfl) rfl) rfl) ?_))))))))))))))))))))))
      exact hQ hS.below (by unfold mI;dsimp only;rw [if_neg (by rw [hce];simp),if_neg (by rw [hnd];simp),← hrun];rfl) (by decide)
     ·have hg39:=of_decide_eq_false hc;clear hc
      refine aF (d:=39) rfl rfl (aL rfl rfl (aF (d:=39) rfl rfl (aQ (o':=7) cX rfl rfl rfl (aF (d:=39) rfl rfl (aV isAgg25 rfl (aI (hS.at_ 2 rfl) rfl) rfl (aF (d:=39) rfl rfl (bU underlying25 rfl rfl (aF (d:=39) rfl rfl (mC rfl rfl rfl (bE rfl rfl rfl (aT (XF.thenN (bJ rfl (fun hc=>?_) (fun hc=>?_))))))))))))))
      ·have hc45:=of_decide_eq_true hc;clear hc
       refine aR (aU (bL (us:=[]) rfl (jM) rfl (bA (i:=1) (vs:=[_,_]) (cs':=[_,_]) (O':=[_,_,_]) hS sizeOf70 rfl rfl rfl rfl rfl rfl rfl fun W11 hS=>aK rfl rfl (aT (XF.thenN (bP (XF.thenR (XF.blkR (XF.thenR (XF.thenR (XF.blkR (XF.thenR (XF.res (fE (vs:=[_,_]) results16 isAgg70 sizeOf70 rfl (aM.own (j:=0) (m:=2) (hS.at_ 1 rfl) rfl) rfl) ?_)))))))))))))
       rw [vU (zY (by omega))] at hrun
       exact hQ hS.below (by unfold mI;dsimp only;rw [if_neg (by rw [hce];simp),if_neg (by rw [hnd];simp),← hrun];rfl) (by decide)
      ·have hc45:=of_decide_eq_false hc;clear hc
       obtain ⟨k,rfl⟩:=Int.eq_ofNat_of_zero_le (show 0≤y by omega)
       have hkt:k < tl:=by omega
       obtain ⟨tb,to_,u,rfl,hu,huc⟩:=ht.get (i:=k) (by omega)
       have k2:=(aM.agree hS.agree (Nat.zero_le _) huc).2.2.2.1
       rw [Bi hkt hu,Option.map_map] at hrun
       refine bQ (XF.thenN ?_)
       refine mE (p:=9) (k:=11) (gi:=0) (m:=1) bG hS rfl rfl (by kernel_rfl) (by kernel_rfl) (by kernel_rfl) (fun d hd=>by cases hd) rfl rfl underlying23 C4 rfl rfl (by show 0 < 1;decide) rfl rfl rfl (by simp only [maxLen];omega) (by show (i+1+1) * 8≤_;omega) ?_
       refine cN 1 rfl rfl (by kernel_rfl) (rgV (li:=[(9,_)]) rfl (aP rfl) ⟨bB rfl,trivial⟩ (fun w hw=>aO (o':=1) iW rfl rfl) (aC rfl)) (cN 2 rfl rfl (by kernel_rfl) (rgV (li:=[(47,_)]) rfl (aP rfl) ⟨aG 0 (aA rfl rfl rfl),trivial⟩ (fun w hw=>aS isAgg23 rfl ((aJ hw 0).cell (Nat.zero_le _) (aI (hS.at_ 0 rfl) rfl))) (aC rfl)) (cN 3 rfl rfl (by kernel_rfl) (rgV (li:=[(3,_)]) rfl (aP rfl) ⟨bB rfl,trivial⟩ (fun w hw=>aO (o':=7) cX rfl rfl) (aC rfl)) (cN 4 rfl rfl (by kernel_rfl) (rgV (li:=[(49,_)]) rfl (aP rfl) ⟨aG 2 (aA rfl rfl rfl),trivial⟩ (fun w hw=>aS isAgg25 rfl ((aJ hw 0).cell (Nat.zero_le _) (aI (hS.at_ 2 rfl) rfl))) (aC rfl)) (cN 5 rfl rfl (by kernel_rfl) (rgV (li:=[(11,_)]) rfl (aP rfl) ⟨bB rfl,trivial⟩ (fun w hw=>aW rfl) (aC rfl)) (cN 6 rfl rfl (by kernel_rfl) (rgV (li:=[(50,_),(51,_)]) rfl (aP rfl) ⟨aG 3 (aA rfl rfl rfl),aG 4 (aA rfl rfl rfl),trivial⟩ (fun w hw=>bH (j:=k) underlying25 sizeOf81 rfl rfl (by omega) (by omega) rfl) (aC rfl)) (cN 7 rfl rfl (by kernel_rfl) (rgV (li:=[(52,_)]) rfl (aP rfl) ⟨aG 5 (aA rfl rfl rfl),trivial⟩ (fun w hw=>aO nZ rfl rfl) (aC rfl)) (cN 8 rfl rfl (by kernel_rfl) (rgV (li:=[(53,_)]) rfl (aP rfl) ⟨aG 6 (aA rfl rfl rfl),trivial⟩ (fun w hw=>aS isAgg3 rfl ((aJ hw 0).cell (Nat.zero_le _) (k2))) (aC rfl)) (iF 9 rfl rfl (by kernel_rfl) (dV W.heap.size 1 3 _) (eJ) (iD (us:=[.int .i64 _]) rfl (aP rfl) underlying23 sizeOf3 zeroValue3 rfl rfl ⟨bO (aG 7 (aA rfl rfl rfl)),trivial⟩ (fC _) (aC rfl)) (iG 10 rfl rfl (gF 11 rfl rfl (rgV (li:=[(9,_)]) rfl (aP rfl) ⟨bB rfl,trivial⟩ (fun w hw=>aO (o':=1) iW rfl rfl) (aC rfl)) (lgV (li:=[(9,_)]) rfl (aP rfl) ⟨bB rfl,trivial⟩ (fun w=>aO (o':=1) iW rfl rfl) (aC rfl) rfl) (iE ⟨_,_,aG 1 (aA rfl rfl rfl),aG 8 (aA rfl rfl rfl),gG rfl rfl,?_⟩)))))))))))
       intro A12 v12 news12 W12 hbR hqA12 hS'
       clear hS;have hS:=hS';clear hS'
       cases hqA12
       refine aE (aE (aE (aE (aE (aE (aE (aE ?_)))))))
       refine dO ?_;intro _ _
       refine aE (aE ?_)
       obtain ⟨a2,c2,e2,hac2⟩:=dZ (hS.row 0 rfl)
       dsimp only at e2
       subst e2
       refine bV (eV (i:=0) (cs':=[_,_]) (O':=[_,_,_]) hS sizeOf23 rfl rfl rfl rfl rfl rfl rfl fun W13 hS=>aT (XF.blkN (XF.thenN (aU (dH rfl rfl (IntWalk.i64_in _ (by omega)) rfl (aL rfl rfl (aT ?_)))))))
       exact XF.round (ll - (i+1)) [(3,_),(6,_),(9,_),(31,_),(32,_),(33,_)] (by omega) ⟨rfl,rfl,rfl,rfl,rfl,rfl,trivial⟩ ⟨i+1,acc++[u.bk],_,by omega,rfl,rfl,by simp [hacc],by rw [← hrun];congr 1;funext z;simp,hS.clear.castG (by simp)⟩
    ·have hc34:=of_decide_eq_false hc;clear hc
     rw [List.drop_of_length_le (by omega)] at hrun
     simp only [mH,Option.map_some,List.append_nil] at hrun
     refine cZ (XF.thenX (XF.thenX (XF.blkX (XF.thenN (aR (aR (aU (aQ (o':=1) iW rfl rfl rfl (aV isAgg23 rfl (aI (hS.at_ 0 rfl) rfl) rfl (bU underlying23 rfl rfl (lF rfl rfl rfl (aT (XF.thenN (bJ rfl (fun hc=>?_) (fun hc=>?_)))))))))))))))
     ·have hc62:=of_decide_eq_true hc;clear hc
      refine aR (aU (bL (us:=[]) rfl (jM) rfl (bA (i:=1) (vs:=[_,_]) (cs':=[_,_]) (O':=[_,_,_]) hS sizeOf70 rfl rfl rfl rfl rfl rfl rfl fun W14 hS=>aK rfl rfl (aT (XF.thenN (bP (XF.thenR (XF.res (fE (vs:=[_,_]) results16 isAgg70 sizeOf70 rfl (aM.own (j:=0) (m:=2) (hS.at_ 1 rfl) rfl) rfl) ?_))))))))
      exact hQ hS.below (by unfold mI;dsimp only;rw [if_neg (by rw [hce];simp),if_neg (by rw [hnd];simp),← hrun];exact if_pos (by rw [hacc];omega)) (by decide)
     ·have hc62:=of_decide_eq_false hc;clear hc
      refine bQ (XF.thenN (aR (aU (bF (vs:=[_,_]) isAgg70 sizeOf70 rfl (aM.own (j:=0) (m:=2) (hS.at_ 0 rfl) rfl) rfl (bA (i:=1) (vs:=[_,_]) (cs':=[_,_]) (O':=[_,_,_]) hS sizeOf70 rfl rfl rfl rfl rfl rfl rfl fun W15 hS=>aK rfl rfl (aT (XF.thenN (bP (XF.res (fE (vs:=[_,_]) results16 isAgg70 sizeOf70 rfl (aM.own (j:=0) (m:=2) (hS.at_ 1 rfl) rfl) rfl) ?_)))))))))
      have hR:mI ⟨va,vl,vc,pa,pl,pc,ea,el,ec,es,xa,xl,xc,xs,mn,oa,ol,oc,os,sa,sl,sc,ss,ta,tl,tc,ts,na,nl,nc,ns,ka,kl,kc,ks⟩ node is=(0,node::acc):=by unfold mI;dsimp only;rw [if_neg (by rw [hce];simp),if_neg (by rw [hnd];simp),← hrun];exact if_neg (by rw [hacc];omega)
      rw [hR]
      exact ⟨hS.below,.inr ⟨rfl,a9,c9,by rw [List.length_cons,hacc],by have h9:=hS.row 0 rfl;unfold kO;rw [List.length_cons,hacc];exact h9⟩⟩
def uat (ts:List UV) (i:Nat):UV:=(ts[i]?).getD ⟨⟨#[]⟩,0,0,0⟩
def iX (g:GV):Bool:=if 10 < g.vl then false else if 20 < g.pl then false else if 20 < g.el then false else if 20 < g.xl then false else if 100 < g.ol then false else if 100 < g.sl then false else if 20 < g.tl then false else if 60 < g.nl then false else decide (g.kl≤60)
theorem Bj {g:GV} (h:iX g=true):GFew g:=by
 unfold iX at h
 repeat (split at h;· cases h)
 have:=of_decide_eq_true h
 exact ⟨by omega,by omega,by omega,by omega,by omega,by omega,by omega,by omega,by omega⟩
structure QV where
 g:Int
 a:Option Addr
 l:Nat
 c:Nat
 ws:List Int
abbrev QV.ten (q:QV):List Value:=[.int .i64 0,.int .i64 q.g,.int .i64 0,.slice q.a q.l q.c,.bool false,.int .i64 0,.int .u64 0,.slice none 0 0,.slice none 0 0,.slice none 0 0]
def QV.pl (q:QV):Int×List Int:=(q.g,q.ws)
def QN (lo:Nat) (W:World) (q:QV):Prop:=q.ws.length=q.l∧(q.ws=[]∨∃ B,q.a=some ⟨B,0,none⟩∧lo≤B∧W.heap[B]?=some (.cells (q.ws.map (Value.int .i64)).toArray 3 (0,0)))
theorem QN.agree {lo:Nat} {A W:World} {q:QV} (h:QN lo A q) (hg:dN lo A W):QN lo W q:=by
 refine ⟨h.1,?_⟩
 rcases h.2 with h2 | ⟨B,h2,h3,h4⟩
 ·exact .inl h2
 ·exact .inr ⟨B,h2,h3,(hg.2 B h3 (cT h4)).trans h4⟩
def mJ (g:GV) (s:gr_TV):Int×List Int:=(s.f,if s.k=8 then [(g.es[(uat g.ts s.s.toNat).pr.toNat]?).getD 0,s.t] else [s.t])
def uO (n:Int):Int×List Int:=(n,[])
def xQ (g:GV) (w:World) (e:Ending) (w':World):Prop:=Below w.heap.size w w'∧((gr_checkE g≠0∧e = .returned (.tuple #[.agg #[.int .i64 0,.int .i64 0,.slice none 0 0,.int .i64 0,.int .i64 0,.slice none 0 0],.int .i64 (gr_checkE g)]))∨(gr_checkE g=0∧∃ a c,∃ qs:List QV,e = .returned (.tuple #[.agg #[.int .i64 1,.int .i64 0,.slice none 0 0,.int .i64 1,.int .i64 (g.ol:Int),.slice a qs.length c],.int .i64 0]) ∧
 w'.ownsRow w.heap.size 74 10 (.slice a qs.length c) qs.length (qs.flatMap QV.ten)∧qs.map QV.pl=g.ss.map (mJ g)++g.xs.map uO∧∀ q∈qs,QN w.heap.size w' q))
theorem zZ {P:Program} {n:Nat} {Q:Exit→Act→World→Prop} {l:Fr} {W:World} {ops:Array Oper} {L:List Asr} {i d td:Nat} {ty:TypeId} {pos:String} {aft_:Array Edge} {p:Asr} (hi:ops[i]?=some ⟨some d,.assign (.tmp td),ty,pos,aft_,none⟩) (hp:OpG n ops l L i td p) (hI:atI L i=p):RG P n ops Q l W L i :=
 fun a ha=>mA hi (aP rfl) fun b w hF hG hD=>⟨b.eval (.tmp td),w,by unfold execOp;rfl,by rw [hI];exact hp a ha b w hF hD,Below.refl _ _⟩
theorem tH {g:GV} {s:gr_TV} (h:¬ s.k=8):mJ g s=(s.f,[s.t]):=by unfold mJ;rw [if_neg h]
theorem tI {g:GV} {s:gr_TV} {n k:Nat} {u:UV} {e:Int} (h:s.k=8) (hn:s.s=(n:Int)) (hu:g.ts[n]?=some u) (hk:u.pr=(k:Int)) (he:g.es[k]?=some e):mJ g s=(s.f,[e,s.t]):=by
 unfold mJ
 rw [if_pos h,hn,Int.toNat_natCast,show uat g.ts n=u by unfold uat;rw [hu];rfl,hk,Int.toNat_natCast,he]
 rfl
def kP (g:GV):Prop:=∀ s∈g.ss,s.k=8→∃ (n k:Nat) (u:UV),s.s=(n:Int)∧n < g.tl∧g.ts[n]?=some u∧u.pr=(k:Int)∧k < g.el
theorem C5 {W:World} {B:Nat} {x:Int} (h:W.heap[B]?=some (.cells #[.int .i64 x] 3 (0,0))):dS W (some ⟨B,0,none⟩) [x]:=by
 refine .inr ⟨B,0,rfl,fun i y hy=>?_⟩
 match i,hy with
 | 0,hy=>cases hy;exact ⟨aI (cs:=[_]) h rfl,trivial⟩
 | k+1,hy=>simp at hy
theorem Aa {P:Program} {n:Nat} {ops:Array Oper} {Q:Exit→Act→World→Prop} {os:List Oper} {l:Fr} {w0 W:World} {O:Own} {G:Grows} {K:List (Nat×World)} {d:Nat} {ty:TypeId} {pos:String} {aft:Array Edge} {T e:TypeId} {m s:Nat} {xs:List (Nat×Operand)} {us:List (Nat×Value)} {z:Value} {cs:List Value} (hS:St w0 O G K W) (hU:P.underlying T=some (.slice e)) (hs:∀ w,(sizeOf e).run P w = .ok s w) (hz:∀ w,(zeroValue e).run P w = .ok z w)
  (hm:Nat.ble (m * s) 16777216=true) (hm0:Nat.beq (m * s) 0=false) (hp:xs.map (fun p=>(p.1,evL l p.2))=us.map (fun p=>(p.1,some p.2)))
  (hf:Instr.fill (fun i=>some (i * s,s)) ((Array.range (m * s)).map (z.cells[· % z.cells.size]!)) us=some cs.toArray) (hd:Nat.blt d n=true)
  (h:∀ B W',W'.heap[B]?=some (.cells cs.toArray e (0,0))→W.heap.size≤B→St w0 O G ((W.heap.size,W')::K) W'→dJ P n ops Q os ((d,.slice (some ⟨B,0,none⟩) m m)::l) W'):dJ P n ops Q (⟨some d,.buildSlice T m xs.toArray,ty,pos,aft,none⟩::os) l W :=
 opV (W':=W.alloc (.cells cs.toArray e)) (v:=.slice (some ⟨W.heap.size,0,none⟩) m m) (fun ev he=>by
  have h1:=lG he xs us hp
  have h2:(Array.map (fun p=>(p.1,ev p.2)) xs.toArray)=us.toArray:=by simp [h1]
  have h4:m * s≤16777216:=Nat.le_of_ble_eq_true hm
  have h5:m * s≠0:=fun e=>by rw [e] at hm0;cases hm0
  have h6:¬ (m * s > 2 ^ 24):=by omega
  unfold execOp
  simp only []
  rw [h2]
  simp only [Instr.buildSlice,Sem.run_bind,run_underlying hU,Result.andThen_ok,hs,if_neg h6,if_neg h5,hz,Sem.run_pure,hf,newRow,run_newObj_alloc]) hd
  (h _ _ (heap_alloc_new W _) (Nat.le_refl _) (hS.call ((Below.refl _ _).alloc (Nat.le_refl _) _)))
theorem mK (v0:Int):prog.built 35 [(0,.int .i64 v0)]=some #[.int .i64 v0,.int .i64 0,.slice none 0 0]:=by kernel_rfl
theorem fG:prog.built 59 []=some #[.bool false,.int .i64 0,.int .u64 0,.slice none 0 0,.slice none 0 0,.slice none 0 0]:=by kernel_rfl
theorem vW (g:GV) (w:World) :
  Calls prog 4 #[g.val] w (fun e w'=>e = .returned (.bool (iX g))∧Below w.heap.size w w'):=by
 refine cS (args:=[g.val]) func4 rfl ntmps4 rfl ?_
 have hS:=St.start w
 refine aR (aU (cR (cs:=[_,_,_,_,_,_,_,_,_,_]) hS rfl rfl rfl fun B1 W1 hS=>aK rfl rfl (aT (XF.thenN (aR (aU (aQ (o':=0) eE rfl rfl rfl (aV isAgg22 rfl (aI (hS.at_ 0 rfl) rfl) rfl (bU underlying22 rfl rfl (lE rfl rfl rfl (aL rfl rfl (bK (d:=7) rfl (fun hc=>?_) (fun hc=>?_)))))))))))))
 ·have hg7:=of_decide_eq_true hc;clear hc
  refine aF (d:=7) rfl rfl (aQ (o':=1) lJ rfl rfl rfl (aF (d:=7) rfl rfl (aV isAgg22 rfl (aI (hS.at_ 0 rfl) rfl) rfl (aF (d:=7) rfl rfl (bU underlying22 rfl rfl (aF (d:=7) rfl rfl (lE rfl rfl rfl (bC rfl rfl rfl (aL rfl rfl (bK (d:=13) rfl (fun hc=>?_) (fun hc=>?_)))))))))))
  ·have hg13:=of_decide_eq_true hc;clear hc
   refine aF (d:=13) rfl rfl (aQ (o':=2) dP rfl rfl rfl (aF (d:=13) rfl rfl (aV isAgg23 rfl (aI (hS.at_ 0 rfl) rfl) rfl (aF (d:=13) rfl rfl (bU underlying23 rfl rfl (aF (d:=13) rfl rfl (lE rfl rfl rfl (bC rfl rfl rfl (aL rfl rfl (bK (d:=19) rfl (fun hc=>?_) (fun hc=>?_)))))))))))
   ·have hg19:=of_decide_eq_true hc;clear hc
    refine aF (d:=19) rfl rfl (aQ (o':=3) eT rfl rfl rfl (aF (d:=19) rfl rfl (aV isAgg23 rfl (aI (hS.at_ 0 rfl) rfl) rfl (aF (d:=19) rfl rfl (bU underlying23 rfl rfl (aF (d:=19) rfl rfl (lE rfl rfl rfl (bC rfl rfl rfl (aL rfl rfl (bK (d:=25) rfl (fun hc=>?_) (fun hc=>?_)))))))))))
    ·have hg25:=of_decide_eq_true hc;clear hc
     refine aF (d:=25) rfl rfl (aQ (o':=5) cA rfl rfl rfl (aF (d:=25) rfl rfl (aV isAgg23 rfl (aI (hS.at_ 0 rfl) rfl) rfl (aF (d:=25) rfl rfl (bU underlying23 rfl rfl (aF (d:=25) rfl rfl (lE rfl rfl rfl (bC rfl rfl rfl (aL rfl rfl (bK (d:=31) rfl (fun hc=>?_) (fun hc=>?_)))))))))))
     ·have hg31:=of_decide_eq_true hc;clear hc
      refine aF (d:=31) rfl rfl (aQ (o':=6) eF rfl rfl rfl (aF (d:=31) rfl rfl (aV isAgg24 rfl (aI (hS.at_ 0 rfl) rfl) rfl (aF (d:=31) rfl rfl (bU underlying24 rfl rfl (aF (d:=31) rfl rfl (lE rfl rfl rfl (bC rfl rfl rfl (aL rfl rfl (bK (d:=37) rfl (fun hc=>?_) (fun hc=>?_)))))))))))
      ·have hg37:=of_decide_eq_true hc;clear hc
       refine aF (d:=37) rfl rfl (aQ (o':=7) cX rfl rfl rfl (aF (d:=37) rfl rfl (aV isAgg25 rfl (aI (hS.at_ 0 rfl) rfl) rfl (aF (d:=37) rfl rfl (bU underlying25 rfl rfl (aF (d:=37) rfl rfl (lE rfl rfl rfl (bC rfl rfl rfl (aL rfl rfl (bK (d:=43) rfl (fun hc=>?_) (fun hc=>?_)))))))))))
       ·have hg43:=of_decide_eq_true hc;clear hc
        refine aF (d:=43) rfl rfl (aQ (o':=8) lL rfl rfl rfl (aF (d:=43) rfl rfl (aV isAgg26 rfl (aI (hS.at_ 0 rfl) rfl) rfl (aF (d:=43) rfl rfl (bU underlying26 rfl rfl (aF (d:=43) rfl rfl (lE rfl rfl rfl (bC rfl rfl rfl (aL rfl rfl (bK (d:=49) rfl (fun hc=>?_) (fun hc=>?_)))))))))))
        ·have hg49:=of_decide_eq_true hc;clear hc
         refine aF (d:=49) rfl rfl (aQ (o':=9) iV rfl rfl rfl (aF (d:=49) rfl rfl (aV isAgg27 rfl (aI (hS.at_ 0 rfl) rfl) rfl (aF (d:=49) rfl rfl (bU underlying27 rfl rfl (aF (d:=49) rfl rfl (lE rfl rfl rfl (bC rfl rfl rfl (aK rfl rfl (aT (XF.thenN (bP (XF.res (cG results4 rfl) ?_)))))))))))))
         exact ⟨bI (by unfold iX;rw [if_neg (by omega),if_neg (by omega),if_neg (by omega),if_neg (by omega),if_neg (by omega),if_neg (by omega),if_neg (by omega),if_neg (by omega)];exact decide_eq_decide.2 (by omega)),hS.below⟩
        ·have hg49:=of_decide_eq_false hc;clear hc
         refine aH (d:=49) rfl rfl rfl rfl (aH (d:=49) rfl rfl rfl rfl (aH (d:=49) rfl rfl rfl rfl (aH (d:=49) rfl rfl rfl rfl (bE rfl rfl rfl (aK rfl rfl (aT (XF.thenN (bP (XF.res (cG results4 rfl) ?_)))))))))
         exact ⟨bI (by unfold iX;rw [if_neg (by omega),if_neg (by omega),if_neg (by omega),if_neg (by omega),if_neg (by omega),if_neg (by omega),if_neg (by omega),if_pos (by omega)]),hS.below⟩
       ·have hg43:=of_decide_eq_false hc;clear hc
        refine aH (d:=43) rfl rfl rfl rfl (aH (d:=43) rfl rfl rfl rfl (aH (d:=43) rfl rfl rfl rfl (aH (d:=43) rfl rfl rfl rfl (bE rfl rfl rfl (aL rfl rfl (aH (d:=49) rfl rfl rfl rfl (aH (d:=49) rfl rfl rfl rfl (aH (d:=49) rfl rfl rfl rfl (aH (d:=49) rfl rfl rfl rfl (bE rfl rfl rfl (aK rfl rfl (aT (XF.thenN (bP (XF.res (cG results4 rfl) ?_)))))))))))))))
        exact ⟨bI (by unfold iX;rw [if_neg (by omega),if_neg (by omega),if_neg (by omega),if_neg (by omega),if_neg (by omega),if_neg (by omega),if_pos (by omega)]),hS.below⟩
      ·have hg37:=of_decide_eq_false hc;clear hc
       refine aH (d:=37) rfl rfl rfl rfl (aH (d:=37) rfl rfl rfl rfl (aH (d:=37) rfl rfl rfl rfl (aH (d:=37) rfl rfl rfl rfl (bE rfl rfl rfl (aL rfl rfl (aH (d:=43) rfl rfl rfl rfl (aH (d:=43) rfl rfl rfl rfl (aH (d:=43) rfl rfl rfl rfl (aH (d:=43) rfl rfl rfl rfl (bE rfl rfl rfl (aL rfl rfl (aH (d:=49) rfl rfl rfl rfl (aH (d:=49) rfl rfl rfl rfl (aH (d:=49) rfl rfl rfl rfl (aH (d:=49) rfl rfl rfl rfl (bE rfl rfl rfl (aK rfl rfl (aT (XF.thenN (bP (XF.res (cG results4 rfl) ?_)))))))))))))))))))))
       exact ⟨bI (by unfold iX;rw [if_neg (by omega),if_neg (by omega),if_neg (by omega),if_neg (by omega),if_neg (by omega),if_pos (by omega)]),hS.below⟩
     ·have hg31:=of_decide_eq_false hc;clear hc
      refine aH (d:=31) rfl rfl rfl rfl (aH (d:=31) rfl rfl rfl rfl (aH (d:=31) rfl rfl rfl rfl (aH (d:=31) rfl rfl rfl rfl (bE rfl rfl rfl (aL rfl rfl (aH (d:=37) rfl rfl rfl rfl (aH (d:=37) rfl rfl rfl rfl (aH (d:=37) rfl rfl rfl rfl (aH (d:=37) rfl rfl rfl rfl (bE rfl rfl rfl (aL rfl rfl (aH (d:=43) rfl rfl rfl rfl (aH (d:=43) rfl rfl rfl rfl (aH (d:=43) rfl rfl rfl rfl (aH (d:=43) rfl rfl rfl rfl (bE rfl rfl rfl (aL rfl rfl (aH (d:=49) rfl rfl rfl rfl (aH (d:=49) rfl rfl rfl rfl (aH (d:=49) rfl rfl rfl rfl (aH (d:=49) rfl rfl rfl rfl (bE rfl rfl rfl (aK rfl rfl (aT (XF.thenN (bP (XF.res (cG results4 rfl) ?_)))))))))))))))))))))))))))
      exact ⟨bI (by unfold iX;rw [if_neg (by omega),if_neg (by omega),if_neg (by omega),if_neg (by omega),if_pos (by omega)]),hS.below⟩
    ·have hg25:=of_decide_eq_false hc;clear hc
     refine aH (d:=25) rfl rfl rfl rfl (aH (d:=25) rfl rfl rfl rfl (aH (d:=25) rfl rfl rfl rfl (aH (d:=25) rfl rfl rfl rfl (bE rfl rfl rfl (aL rfl rfl (aH (d:=31) rfl rfl rfl rfl (aH (d:=31) rfl rfl rfl rfl (aH (d:=31) rfl rfl rfl rfl (aH (d:=31) rfl rfl rfl rfl (bE rfl rfl rfl (aL rfl rfl (aH (d:=37) rfl rfl rfl rfl (aH (d:=37) rfl rfl rfl rfl (aH (d:=37) rfl rfl rfl rfl (aH (d:=37) rfl rfl rfl rfl (bE rfl rfl rfl (aL rfl rfl (aH (d:=43) rfl rfl rfl rfl (aH (d:=43) rfl rfl rfl rfl (aH (d:=43) rfl rfl rfl rfl (aH (d:=43) rfl rfl rfl rfl (bE rfl rfl rfl (aL rfl rfl (aH (d:=49) rfl rfl rfl rfl (aH (d:=49) rfl rfl rfl rfl (aH (d:=49) rfl rfl rfl rfl (aH (d:=49) rfl rfl rfl rfl (bE rfl rfl rfl (aK rfl rfl (aT (XF.thenN (bP (XF.res (cG results4 rfl) ?_)))))))))))))))))))))))))))))))))
     exact ⟨bI (by unfold iX;rw [if_neg (by omega),if_neg (by omega),if_neg (by omega),if_pos (by omega)]),hS.below⟩
   ·have hg19:=of_decide_eq_false hc;clear hc
    refine aH (d:=19) rfl rfl rfl rfl (aH (d:=19) rfl rfl rfl rfl (aH (d:=19) rfl rfl rfl rfl (aH (d:=19) rfl rfl rfl rfl (bE rfl rfl rfl (aL rfl rfl (aH (d:=25) rfl rfl rfl rfl (aH (d:=25) rfl rfl rfl rfl (aH (d:=25) rfl rfl rfl rfl (aH (d:=25) rfl rfl rfl rfl (bE rfl rfl rfl (aL rfl rfl (aH (d:=31) rfl rfl rfl rfl (aH (d:=31) rfl rfl rfl rfl (aH (d:=31) rfl rfl rfl rfl (aH (d:=31) rfl rfl rfl rfl (bE rfl rfl rfl (aL rfl rfl (aH (d:=37) rfl rfl rfl rfl (aH (d:=37) rfl rfl rfl rfl (aH (d:=37) rfl rfl rfl rfl (aH (d:=37) rfl rfl rfl rfl (bE rfl rfl rfl (aL rfl rfl (aH (d:=43) rfl rfl rfl rfl (aH (d:=43) rfl rfl rfl rfl (aH (d:=43) rfl rfl rfl rfl (aH (d:=43) rfl rfl rfl rfl (bE rfl rfl rfl (aL rfl rfl (aH (d:=49) rfl rfl rfl rfl (aH (d:=49) rfl rfl rfl rfl (aH (d:=49) rfl rfl rfl rfl ?_))))))))))))))))))))))))))))))))
    refine aH (d:=49) rfl rfl rfl rfl (bE rfl rfl rfl (aK rfl rfl (aT (XF.thenN (bP (XF.res (cG results4 rfl) ?_))))))
    exact ⟨bI (by unfold iX;rw [if_neg (by omega),if_neg (by omega),if_pos (by omega)]),hS.below⟩
  ·have hg13:=of_decide_eq_false hc;clear hc
   refine aH (d:=13) rfl rfl rfl rfl (aH (d:=13) rfl rfl rfl rfl (aH (d:=13) rfl rfl rfl rfl (aH (d:=13) rfl rfl rfl rfl (bE rfl rfl rfl (aL rfl rfl (aH (d:=19) rfl rfl rfl rfl (aH (d:=19) rfl rfl rfl rfl (aH (d:=19) rfl rfl rfl rfl (aH (d:=19) rfl rfl rfl rfl (bE rfl rfl rfl (aL rfl rfl (aH (d:=25) rfl rfl rfl rfl (aH (d:=25) rfl rfl rfl rfl (aH (d:=25) rfl rfl rfl rfl (aH (d:=25) rfl rfl rfl rfl (bE rfl rfl rfl (aL rfl rfl (aH (d:=31) rfl rfl rfl rfl (aH (d:=31) rfl rfl rfl rfl (aH (d:=31) rfl rfl rfl rfl (aH (d:=31) rfl rfl rfl rfl (bE rfl rfl rfl (aL rfl rfl (aH (d:=37) rfl rfl rfl rfl (aH (d:=37) rfl rfl rfl rfl (aH (d:=37) rfl rfl rfl rfl (aH (d:=37) rfl rfl rfl rfl (bE rfl rfl rfl (aL rfl rfl (aH (d:=43) rfl rfl rfl rfl (aH (d:=43) rfl rfl rfl rfl (aH (d:=43) rfl rfl rfl rfl ?_))))))))))))))))))))))))))))))))
   refine aH (d:=43) rfl rfl rfl rfl (bE rfl rfl rfl (aL rfl rfl (aH (d:=49) rfl rfl rfl rfl (aH (d:=49) rfl rfl rfl rfl (aH (d:=49) rfl rfl rfl rfl (aH (d:=49) rfl rfl rfl rfl (bE rfl rfl rfl (aK rfl rfl (aT (XF.thenN (bP (XF.res (cG results4 rfl) ?_))))))))))))
   exact ⟨bI (by unfold iX;rw [if_neg (by omega),if_pos (by omega)]),hS.below⟩
 ·have hg7:=of_decide_eq_false hc;clear hc
  refine aH (d:=7) rfl rfl rfl rfl (aH (d:=7) rfl rfl rfl rfl (aH (d:=7) rfl rfl rfl rfl (aH (d:=7) rfl rfl rfl rfl (bE rfl rfl rfl (aL rfl rfl (aH (d:=13) rfl rfl rfl rfl (aH (d:=13) rfl rfl rfl rfl (aH (d:=13) rfl rfl rfl rfl (aH (d:=13) rfl rfl rfl rfl (bE rfl rfl rfl (aL rfl rfl (aH (d:=19) rfl rfl rfl rfl (aH (d:=19) rfl rfl rfl rfl (aH (d:=19) rfl rfl rfl rfl (aH (d:=19) rfl rfl rfl rfl (bE rfl rfl rfl (aL rfl rfl (aH (d:=25) rfl rfl rfl rfl (aH (d:=25) rfl rfl rfl rfl (aH (d:=25) rfl rfl rfl rfl (aH (d:=25) rfl rfl rfl rfl (bE rfl rfl rfl (aL rfl rfl (aH (d:=31) rfl rfl rfl rfl (aH (d:=31) rfl rfl rfl rfl (aH (d:=31) rfl rfl rfl rfl (aH (d:=31) rfl rfl rfl rfl (bE rfl rfl rfl (aL rfl rfl (aH (d:=37) rfl rfl rfl rfl (aH (d:=37) rfl rfl rfl rfl (aH (d:=37) rfl rfl rfl rfl ?_))))))))))))))))))))))))))))))))
  refine aH (d:=37) rfl rfl rfl rfl (bE rfl rfl rfl (aL rfl rfl (aH (d:=43) rfl rfl rfl rfl (aH (d:=43) rfl rfl rfl rfl (aH (d:=43) rfl rfl rfl rfl (aH (d:=43) rfl rfl rfl rfl (bE rfl rfl rfl (aL rfl rfl (aH (d:=49) rfl rfl rfl rfl (aH (d:=49) rfl rfl rfl rfl (aH (d:=49) rfl rfl rfl rfl (aH (d:=49) rfl rfl rfl rfl (bE rfl rfl rfl (aK rfl rfl (aT (XF.thenN (bP (XF.res (cG results4 rfl) ?_))))))))))))))))))
  exact ⟨bI (by unfold iX;rw [if_pos (by omega)]),hS.below⟩
theorem C6 (va:Option Addr) (vl:Nat) (vc:Nat) (pa:Option Addr) (pl:Nat) (pc:Nat) (ea:Option Addr) (el:Nat) (ec:Nat) (es:List Int) (xa:Option Addr) (xl:Nat) (xc:Nat) (xs:List Int) (mn:Int) (oa:Option Addr) (ol:Nat) (oc:Nat) (os:List Int) (sa:Option Addr) (sl:Nat) (sc:Nat) (ss:List gr_TV) (ta:Option Addr) (tl:Nat) (tc:Nat) (ts:List UV) (na:Option Addr) (nl:Nat) (nc:Nat) (ns:List NV) (ka:Option Addr) (kl:Nat) (kc:Nat) (ks:List KV) (w:World) (he:dS w ea es) (hel:es.length=el) (hx:dS w xa xs) (hxl:xs.length=xl) (ho:dS w oa os) (hol:os.length=ol) (hs:dB gr_TV.sev 7 w sa ss) (hsl:ss.length=sl) (ht:dB UV.four 4 w ta ts) (htl:ts.length=tl) (hn:dB NV.two 2 w na ns) (hnl:ns.length=nl) (hk:dB KV.two 2 w ka ks) (hkl:ks.length=kl) (b1:vl≤5000) (b2:pl≤5000) (b3:el≤5000) (b4:xl≤5000) (b5:ol≤5000) (b6:sl≤5000) (b7:tl≤5000) (b8:nl≤5000) (b9:kl≤5000) :
  Calls prog 17 #[.agg #[.slice va vl vc,.slice pa pl pc,.slice ea el ec,.slice xa xl xc,.int .i64 mn,.slice oa ol oc,.slice sa sl sc,.slice ta tl tc,.slice na nl nc,.slice ka kl kc],.int .i64 1] w (fun e w'=>e = .returned (.int .i64 (gr_checkE ⟨va,vl,vc,pa,pl,pc,ea,el,ec,es,xa,xl,xc,xs,mn,oa,ol,oc,os,sa,sl,sc,ss,ta,tl,tc,ts,na,nl,nc,ns,ka,kl,kc,ks⟩))∧Below w.heap.size w w'):=by
 refine cS (args:=[.agg #[.slice va vl vc,.slice pa pl pc,.slice ea el ec,.slice xa xl xc,.int .i64 mn,.slice oa ol oc,.slice sa sl sc,.slice ta tl tc,.slice na nl nc,.slice ka kl kc],.int .i64 1]) func17 rfl ntmps17 rfl ?_
 have hS:=St.start w
 refine aR (aU (cR (cs:=[_,_,_,_,_,_,_,_,_,_]) hS rfl rfl rfl fun B1 W1 hS=>aK rfl rfl (aT (XF.thenN (aR (aR (aU (bF (vs:=[_,_,_,_,_,_,_,_,_,_]) isAgg29 sizeOf29 rfl (aM.own (j:=0) (m:=10) (hS.at_ 0 rfl) rfl) rfl (cD (vs:=[_]) hS oA rfl (uN _ vl vc _ pl pc _ el ec es _ xl xc xs mn _ ol oc os _ sl sc ss _ tl tc ts _ nl nc ns _ kl kc ks  _ (he.below hS.below) hel (hx.below hS.below) hxl (ho.below hS.below) hol (hs.below hS.below) hsl (ht.below hS.below) htl (hn.below hS.below) hnl (hk.below hS.below) hkl b1 b2 b3 b4 b5 b6 b7 b8 b9) rfl fun W2 hS=>aK rfl rfl (aT (XF.thenN (aR (aU (aL rfl rfl (cW rfl rfl rfl (aT (XF.thenN (bJ rfl (fun hc=>?_) (fun hc=>?_)))))))))))))))))))
 ·have hc9:=of_decide_eq_true hc;clear hc
  refine aR (aU (aL rfl rfl (aK rfl rfl (aT (XF.thenN (bP (XF.thenR (XF.res (cG results17 rfl) ?_))))))))
  exact ⟨rfl,hS.below⟩
 ·have hc9:=of_decide_eq_false hc;clear hc
  have hce:gr_checkE ⟨va,vl,vc,pa,pl,pc,ea,el,ec,es,xa,xl,xc,xs,mn,oa,ol,oc,os,sa,sl,sc,ss,ta,tl,tc,ts,na,nl,nc,ns,ka,kl,kc,ks⟩=0:=Decidable.of_not_not hc9
  refine bQ (XF.thenN (aR (aR (aU (aL rfl rfl (cW rfl rfl rfl (aL rfl rfl (bK (d:=13) rfl (fun hc=>absurd (of_decide_eq_true hc) (by exact fun h=>h rfl)) (fun hc=>?_)))))))))
  have hc:=of_decide_eq_false hc
  refine aH (d:=13) rfl rfl rfl rfl (aH (d:=13) rfl rfl rfl rfl (bE rfl rfl rfl (aL rfl rfl (aH (d:=17) rfl rfl rfl rfl (aH (d:=17) rfl rfl rfl rfl (bE rfl rfl rfl (aT (XF.thenN (nN rfl (bQ (XF.thenN (aR (aU (aK rfl rfl (aT (XF.thenN (bP (XF.res (cG results17 rfl) ?_))))))))))))))))))
  exact ⟨eD hce.symm,hS.below⟩
theorem C7 (n:Int) (w:World) :
  Calls prog 18 #[.int .i64 1,.int .i64 n] w (fun e w'=>e = .returned (.agg #[.int .i64 1,.int .i64 0,.slice none 0 0])∧Below w.heap.size w w'):=by
 refine cS (args:=[.int .i64 1,.int .i64 n]) func18 rfl ntmps18 rfl ?_
 have hS:=St.start w
 refine aR (aU (bY (cs:=[_,_,_]) hS zeroValue35 rfl rfl fun B1 W1 hS=>aT (XF.thenN (aR (aR (aU (aL rfl rfl (aT (XF.thenN (bR (aR (aU (bW rfl rfl rfl (aK rfl rfl (aT (XF.thenN (bJ rfl (fun hc=>absurd (of_decide_eq_true hc) (by decide)) (fun hc=>?_))))))))))))))))))
 have hc:=of_decide_eq_false hc
 refine aR (aU (bW rfl rfl rfl (aK rfl rfl (aT (XF.thenN (bJ rfl (fun hc=>absurd (of_decide_eq_true hc) (by decide)) (fun hc=>?_)))))))
 have hc:=of_decide_eq_false hc
 refine bQ (XF.blkN (XF.thenN (aR (aU (bL (us:=[(0,.int .i64 _)]) rfl (mK _) rfl (bA (i:=0) (vs:=[_,_,_]) (cs':=[_,_,_]) (O':=[_]) hS sizeOf35 rfl rfl rfl rfl rfl rfl rfl fun W2 hS=>aT (XF.thenN (bP (XF.res (eC (vs:=[_,_,_]) results18 isAgg35 sizeOf35 rfl (aM.own (j:=0) (m:=3) (hS.at_ 0 rfl) rfl)) ?_)))))))))
 exact ⟨rfl,hS.below⟩
theorem rS (n:Int) (s:gr_TV) (w:World) :
  Calls prog 19 #[.int .i64 1,.int .i64 n,s.val] w (fun e w'=>e = .returned (.agg #[.bool false,.int .i64 0,.int .u64 0,.slice none 0 0,.slice none 0 0,.slice none 0 0])∧Below w.heap.size w w'):=by
 refine cS (args:=[.int .i64 1,.int .i64 n,s.val]) func19 rfl ntmps19 rfl ?_
 have hS:=St.start w
 refine aR (aU (cR (cs:=[_,_,_,_,_,_,_]) hS rfl rfl rfl fun B1 W1 hS=>bY (cs:=[_,_,_,_,_,_]) hS zeroValue59 rfl rfl fun B2 W2 hS=>aT (XF.thenN (aR (aR (aU (aL rfl rfl (aT (XF.thenN (bR (aR (aU (bW rfl rfl rfl (aK rfl rfl (aT (XF.thenN (bJ rfl (fun hc=>absurd (of_decide_eq_true hc) (by decide)) (fun hc=>?_))))))))))))))))))
 have hc:=of_decide_eq_false hc
 refine aR (aU (bW rfl rfl rfl (aK rfl rfl (aT (XF.thenN (bJ rfl (fun hc=>absurd (of_decide_eq_true hc) (by decide)) (fun hc=>?_)))))))
 have hc:=of_decide_eq_false hc
 refine bQ (XF.blkN (XF.thenN (aR (aU (bL (us:=[]) rfl (fG) rfl (bA (i:=0) (vs:=[_,_,_,_,_,_]) (cs':=[_,_,_,_,_,_]) (O':=[_,_]) hS sizeOf59 rfl rfl rfl rfl rfl rfl rfl fun W3 hS=>aT (XF.thenN (bP (XF.res (eC (vs:=[_,_,_,_,_,_]) results19 isAgg59 sizeOf59 rfl (aM.own (j:=0) (m:=6) (hS.at_ 0 rfl) rfl)) ?_)))))))))
 exact ⟨rfl,hS.below⟩
end Go.Proofs.Ytfnmjcgfagldkaa
