import Derived.Deep.Slices
import Derived.Deep.Fields
import Derived.ChangeSame
import Derived.Lib.SmallJoins
import Derived.ChangeSlices
import Derived.ProofKit
import Derived.Test.YtmgnkpibpjgncaaGreatDoorPaE
set_option maxRecDepth 100000
set_option maxHeartbeats 4000000
set_option linter.unusedVariables false
set_option linter.unusedVariables false
set_option linter.unusedSimpArgs false
set_option linter.unusedSectionVars false
set_option linter.unnecessarySimpa false
namespace Go.Proofs.YtmgnkpibpjgncaaGreatDoor
open Go Go.RowKit
theorem pS (w:World) (b o:Nat):(Instr.fieldAt 66 (.pointer (some ⟨b,o,none⟩)) 0).run Tryz.prog w = .ok (.pointer (some ⟨b,o+0,none⟩)) w:=by
 simp [Instr.fieldAt,run_underlying Tryz.underlying66,Instr.sureAddr,go_sem,Addr.add_lit]
theorem lY (w:World) (b o:Nat):(Instr.fieldAt 66 (.pointer (some ⟨b,o,none⟩)) 1).run Tryz.prog w = .ok (.pointer (some ⟨b,o+1,none⟩)) w:=by
 simp [Instr.fieldAt,run_underlying Tryz.underlying66,Instr.sureAddr,go_sem,Addr.add_lit]
theorem kY (w:World) (b o:Nat):(Instr.fieldAt 66 (.pointer (some ⟨b,o,none⟩)) 2).run Tryz.prog w = .ok (.pointer (some ⟨b,o+2,none⟩)) w:=by
 simp [Instr.fieldAt,run_underlying Tryz.underlying66,Instr.sureAddr,go_sem,Addr.add_lit]
theorem vT (w:World) (b o:Nat):(Instr.fieldAt 66 (.pointer (some ⟨b,o,none⟩)) 3).run Tryz.prog w = .ok (.pointer (some ⟨b,o+3,none⟩)) w:=by
 simp [Instr.fieldAt,run_underlying Tryz.underlying66,Instr.sureAddr,go_sem,Addr.add_lit]
theorem lZ (w:World) (b o:Nat):(Instr.fieldAt 29 (.pointer (some ⟨b,o,none⟩)) 0).run Tryz.prog w = .ok (.pointer (some ⟨b,o+0,none⟩)) w:=by
 simp [Instr.fieldAt,run_underlying Tryz.underlying29,Instr.sureAddr,go_sem,Addr.add_lit]
theorem mA (w:World) (b o:Nat):(Instr.fieldAt 29 (.pointer (some ⟨b,o,none⟩)) 1).run Tryz.prog w = .ok (.pointer (some ⟨b,o+3,none⟩)) w:=by
 simp [Instr.fieldAt,run_underlying Tryz.underlying29,Instr.sureAddr,go_sem,Addr.add_lit]
theorem nJ (w:World) (b o:Nat):(Instr.fieldAt 29 (.pointer (some ⟨b,o,none⟩)) 2).run Tryz.prog w = .ok (.pointer (some ⟨b,o+4,none⟩)) w:=by
 simp [Instr.fieldAt,run_underlying Tryz.underlying29,Instr.sureAddr,go_sem,Addr.add_lit]
theorem jB (w:World) (b o:Nat):(Instr.fieldAt 29 (.pointer (some ⟨b,o,none⟩)) 3).run Tryz.prog w = .ok (.pointer (some ⟨b,o+5,none⟩)) w:=by
 simp [Instr.fieldAt,run_underlying Tryz.underlying29,Instr.sureAddr,go_sem,Addr.add_lit]
theorem eW (w:World) (b o:Nat):(Instr.fieldAt 29 (.pointer (some ⟨b,o,none⟩)) 4).run Tryz.prog w = .ok (.pointer (some ⟨b,o+6,none⟩)) w:=by
 simp [Instr.fieldAt,run_underlying Tryz.underlying29,Instr.sureAddr,go_sem,Addr.add_lit]
theorem goes_30:bK Tryz.prog 30=true:=by kernel_rfl
theorem sJ:bK Tryz.prog 33=true:=by kernel_rfl
theorem yT:bK Tryz.prog 76=true:=by kernel_rfl
theorem vU (a:AV) (n:Int) (w:World) :
  Calls Tryz.prog 76 #[a.val,.int .i64 n] w (fun e w'=>e = .returned (.bool (inQ n a.st))∧Below w.heap.size w w'):=by
 refine cD (args:=[a.val,.int .i64 n]) Tryz.func76 rfl Tryz.ntmps76 rfl ?_
 have hS:=St.start w
 refine aM (aQ (bT (cs:=[_,_,_,_,_,_,_]) hS rfl rfl rfl fun B1 W1 hS=>aB rfl rfl (aO (XF.thenN (aM (aQ (aH rfl rfl (nO rfl rfl rfl (aH rfl rfl (bV (d:=7) rfl (fun hc=>?_) (fun hc=>?_)))))))))))
 ·have hg7:=of_decide_eq_true hc;clear hc
  refine aI (d:=7) rfl rfl (aH rfl rfl (aI (d:=7) rfl rfl (aN (o':=3) mA rfl rfl rfl (aI (d:=7) rfl rfl (aS Tryz.isAgg3 rfl (aJ (hS.at_ 0 rfl) rfl) rfl (aI (d:=7) rfl rfl (cS rfl rfl rfl (bF rfl rfl rfl (aB rfl rfl (aO (XF.thenN (bR (XF.res (cO Tryz.results76 rfl) ?_)))))))))))))
  exact ⟨bQ (by simp [inQ,show 0≤n from hg7]),hS.below⟩
 ·have hg7:=of_decide_eq_false hc;clear hc
  refine aK (d:=7) rfl rfl rfl rfl (aK (d:=7) rfl rfl rfl rfl (aK (d:=7) rfl rfl rfl rfl (aK (d:=7) rfl rfl rfl rfl (bU rfl rfl rfl (aB rfl rfl (aO (XF.thenN (bR (XF.res (cO Tryz.results76 rfl) ?_)))))))))
  exact ⟨bQ (by simp [inQ];omega),hS.below⟩
theorem xD (a:AV) (n:Int) (w:World) :
  Calls Tryz.prog 33 #[a.val,.int .i64 n] w (fun e w'=>e = .returned (.bool (inQ n a.st))∧Below w.heap.size w w'):=by
 refine cD (args:=[a.val,.int .i64 n]) Tryz.func33 rfl Tryz.ntmps33 rfl ?_
 have hS:=St.start w
 refine aM (aQ (bT (cs:=[_,_,_,_,_,_,_]) hS rfl rfl rfl fun B1 W1 hS=>aB rfl rfl (aO (XF.thenN (aM (aQ (aH rfl rfl (nO rfl rfl rfl (aH rfl rfl (bV (d:=7) rfl (fun hc=>?_) (fun hc=>?_)))))))))))
 ·have hg7:=of_decide_eq_true hc;clear hc
  refine aI (d:=7) rfl rfl (aH rfl rfl (aI (d:=7) rfl rfl (aN (o':=3) mA rfl rfl rfl (aI (d:=7) rfl rfl (aS Tryz.isAgg3 rfl (aJ (hS.at_ 0 rfl) rfl) rfl (aI (d:=7) rfl rfl (cS rfl rfl rfl (bF rfl rfl rfl (aB rfl rfl (aO (XF.thenN (bR (XF.res (cO Tryz.results33 rfl) ?_)))))))))))))
  exact ⟨bQ (by simp [inQ,show 0≤n from hg7]),hS.below⟩
 ·have hg7:=of_decide_eq_false hc;clear hc
  refine aK (d:=7) rfl rfl rfl rfl (aK (d:=7) rfl rfl rfl rfl (aK (d:=7) rfl rfl rfl rfl (aK (d:=7) rfl rfl rfl rfl (bU rfl rfl rfl (aB rfl rfl (aO (XF.thenN (bR (XF.res (cO Tryz.results33 rfl) ?_)))))))))
  exact ⟨bQ (by simp [inQ];omega),hS.below⟩
theorem Px (ds d:Nat) (s:SV) (st sy:Int) (fa:Option Addr) (fl fc:Nat) (fs:List Int) (ta:Option Addr) (tl tc:Nat) (ts:List TV) (w:World) (hs:SIn w ds s) (hfrow:Row w fa fs) (hflen:fs.length=fl) (htrow:qE w ta ts) (htlen:ts.length=tl) (htin:∀ t∈ts,WIn w d t.x) (hfm:fl≤9223372036854775807) (htm:tl≤9223372036854775807) :
  Calls Tryz.prog 30 #[.agg #[.int .i64 s.f.tag,.int .i64 s.f.dim,.slice s.f.a s.f.len s.f.cap,.int .i64 st,.int .i64 sy,.slice fa fl fc,.slice ta tl tc]] w (fun e w'=>e = .returned (.bool (dI st sy fs ts))∧Below w.heap.size w w'):=by
 refine cD (args:=[.agg #[.int .i64 s.f.tag,.int .i64 s.f.dim,.slice s.f.a s.f.len s.f.cap,.int .i64 st,.int .i64 sy,.slice fa fl fc,.slice ta tl tc]]) Tryz.func30 rfl Tryz.ntmps30 rfl ?_
 have hS:=St.start w
 refine aM (aQ (bT (cs:=[_,_,_,_,_,_,_]) hS rfl rfl rfl fun B1 W1 hS=>aB rfl rfl (aO (XF.thenN (aM (aM (aQ (aN (o':=3) mA rfl rfl rfl (aS Tryz.isAgg3 rfl (aJ (hS.at_ 0 rfl) rfl) rfl (cS rfl rfl rfl (aH rfl rfl (bV (d:=10) rfl (fun hc=>?_) (fun hc=>?_)))))))))))))
 ·have hg10:=of_decide_eq_true hc;clear hc
  refine aK (d:=10) rfl rfl rfl rfl (aK (d:=10) rfl rfl rfl rfl (aK (d:=10) rfl rfl rfl rfl (bF rfl rfl rfl (aH rfl rfl (aK (d:=15) rfl rfl rfl rfl (aK (d:=15) rfl rfl rfl rfl (aK (d:=15) rfl rfl rfl rfl (bF rfl rfl rfl (aH rfl rfl (aK (d:=20) rfl rfl rfl rfl (aK (d:=20) rfl rfl rfl rfl (aK (d:=20) rfl rfl rfl rfl (bF rfl rfl rfl (aO (XF.thenN (eZ rfl (aM (aQ (aB rfl rfl (aO (XF.thenN (bR (XF.thenR ?_)))))))))))))))))))))))
  refine XF.res (cO Tryz.results30 rfl) ?_
  exact ⟨bQ (by unfold dI;rw [if_pos (by omega)]),hS.below⟩
 ·have hg10:=of_decide_eq_false hc;clear hc
  refine aI (d:=10) rfl rfl (aN (o':=3) mA rfl rfl rfl (aI (d:=10) rfl rfl (aS Tryz.isAgg3 rfl (aJ (hS.at_ 0 rfl) rfl) rfl (aI (d:=10) rfl rfl (qJ rfl rfl rfl (bU rfl rfl rfl (aH rfl rfl (bV (d:=15) rfl (fun hc=>?_) (fun hc=>?_)))))))))
  ·have hg15:=of_decide_eq_true hc;clear hc
   refine aK (d:=15) rfl rfl rfl rfl (aK (d:=15) rfl rfl rfl rfl (aK (d:=15) rfl rfl rfl rfl (bF rfl rfl rfl (aH rfl rfl (aK (d:=20) rfl rfl rfl rfl (aK (d:=20) rfl rfl rfl rfl (aK (d:=20) rfl rfl rfl rfl (bF rfl rfl rfl (aO (XF.thenN (eZ rfl (aM (aQ (aB rfl rfl (aO (XF.thenN (bR (XF.thenR (XF.res (cO Tryz.results30 rfl) ?_)))))))))))))))))))
   exact ⟨bQ (by unfold dI;rw [if_pos (by omega)]),hS.below⟩
  ·have hg15:=of_decide_eq_false hc;clear hc
   refine aI (d:=15) rfl rfl (aN (o':=4) nJ rfl rfl rfl (aI (d:=15) rfl rfl (aS Tryz.isAgg3 rfl (aJ (hS.at_ 0 rfl) rfl) rfl (aI (d:=15) rfl rfl (cS rfl rfl rfl (bU rfl rfl rfl (aH rfl rfl (bV (d:=20) rfl (fun hc=>?_) (fun hc=>?_)))))))))
   ·have hg20:=of_decide_eq_true hc;clear hc
    refine aK (d:=20) rfl rfl rfl rfl (aK (d:=20) rfl rfl rfl rfl (aK (d:=20) rfl rfl rfl rfl (bF rfl rfl rfl (aO (XF.thenN (eZ rfl (aM (aQ (aB rfl rfl (aO (XF.thenN (bR (XF.thenR (XF.res (cO Tryz.results30 rfl) ?_))))))))))))))
    exact ⟨bQ (by unfold dI;rw [if_pos (by omega)]),hS.below⟩
   ·have hg20:=of_decide_eq_false hc;clear hc
    refine aI (d:=20) rfl rfl (aN (o':=4) nJ rfl rfl rfl (aI (d:=20) rfl rfl (aS Tryz.isAgg3 rfl (aJ (hS.at_ 0 rfl) rfl) rfl (aI (d:=20) rfl rfl (qJ rfl rfl rfl (bU rfl rfl rfl (aO (XF.thenN (bB rfl (fun hc=>?_) (fun hc=>?_))))))))))
    ·have hc24:=of_decide_eq_true hc;clear hc
     refine aM (aQ (aB rfl rfl (aO (XF.thenN (bR (XF.thenR (XF.res (cO Tryz.results30 rfl) ?_)))))))
     exact ⟨bQ (by unfold dI;rw [if_pos (by omega)]),hS.below⟩
    ·have hc24:=of_decide_eq_false hc;clear hc
     have h2:¬ (st < 0∨4096 < st∨sy < 0∨4096 < sy):=by omega
     refine bJ (XF.thenN (aM (aM (aQ (aN (o':=5) jB rfl rfl rfl (aS Tryz.isAgg26 rfl (aJ (hS.at_ 0 rfl) rfl) rfl (cJ Tryz.underlying26 rfl rfl (aH rfl rfl (aO (XF.thenN (bP (eA (fun m l W=>∃ i:Nat,i≤fl∧m=fl - i∧l=[(1,.pointer (some ⟨B1,0,none⟩)),(26,.slice fa fl fc),(27,.int .i64 (fl:Int)),(28,.int .i64 (i:Int))]∧(∀ j,j < i→mW st fs j=true)∧St w [(B1,[.int .i64 s.f.tag,.int .i64 s.f.dim,.slice s.f.a s.f.len s.f.cap,.int .i64 st,.int .i64 sy,.slice fa fl fc,.slice ta tl tc],29)] [] [] W) (fl - 0) ([(1,_),(26,_),(27,_),(28,_)]) ⟨rfl,rfl,rfl,rfl,trivial⟩ (⟨0,Nat.zero_le _,rfl,rfl,fun j hj=>absurd hj (Nat.not_lt_zero _),hS.clear⟩) ?_))))))))))))
     clear hS
     rintro m l W ⟨i,hi,rfl,rfl,hall,hS⟩
     refine aM (aQ (cS rfl rfl rfl (aO (XF.thenN (aM (bB rfl (fun hc=>?_) (fun hc=>?_)))))))
     ·have hc29:=of_decide_eq_true hc;clear hc
      have hk:i < fl:=by omega
      obtain ⟨b,off,y,rfl,hy,hyc⟩:=hfrow.at1 (show i < fs.length by omega)
      have k1:=hS.old hyc
      refine bJ (XF.thenN (aM (bP (aM (aQ (aH rfl rfl (cM  Tryz.underlying26 Tryz.sizeOf3 rfl rfl rfl (by omega) rfl rfl (aS Tryz.isAgg3 rfl (k1) rfl (aB rfl rfl (aB rfl rfl (aO (XF.thenN (aM (aQ (aR (vs:=[_,_,_,_,_,_,_]) Tryz.isAgg29 Tryz.sizeOf29 rfl (aD.own (j:=0) (m:=7) (hS.at_ 0 rfl) rfl) rfl (aH rfl rfl (cB (vs:=[_,_]) hS yT rfl (vU ⟨s,st,sy,_,fl,fc,fs,ta,tl,tc,ts⟩ y _) rfl fun W2 hS=>eO rfl rfl (aH rfl rfl (bV (d:=37) rfl (fun hc=>?_) (fun hc=>?_))))))))))))))))))))
      ·have hg37:=hc;clear hc
       have e1:inQ y st=false:=by simpa using hg37
       refine aK (d:=37) rfl rfl rfl rfl (aK (d:=37) rfl rfl rfl rfl (aK (d:=37) rfl rfl rfl rfl (rO (d:=40) rfl rfl rfl (rO (d:=40) rfl rfl rfl (rO (d:=40) rfl rfl rfl (rO (d:=40) rfl rfl rfl (rO (d:=40) rfl rfl rfl (rO (d:=40) rfl rfl rfl (rO (d:=40) rfl rfl rfl (rO (d:=40) rfl rfl rfl (aK (d:=37) rfl rfl rfl rfl (bF rfl rfl rfl (aO (XF.thenN (eZ rfl (aM (aQ (aB rfl rfl (aO (XF.thenN (bR (XF.blkR (XF.thenR ?_)))))))))))))))))))))))
       refine XF.thenR (XF.blkR (XF.thenR (XF.res (cO Tryz.results30 rfl) ?_)))
       exact ⟨bQ (by unfold dI;rw [if_neg h2,yS (i:=i) (by omega) (Dw hy e1),Bool.false_and]),hS.below⟩
      ·have hg37:=hc;clear hc
       have e1:inQ y st=true:=by simpa using hg37
       refine aI (d:=37) rfl rfl (aH rfl rfl (aI (d:=37) rfl rfl (qJ rfl rfl rfl (aI (d:=37) rfl rfl (aH rfl rfl (bV (d:=40) rfl (fun hc=>?_) (fun hc=>?_)))))))
       ·have hg40:=of_decide_eq_true hc;clear hc
        obtain ⟨b2,off2,z,e2,hz,hzc⟩:=hfrow.at1 (show i - 1 < fs.length by omega)
        cases e2
        have k2:=hS.old hzc
        refine aI (d:=40) rfl rfl (aH rfl rfl (aI (d:=40) rfl rfl (aN (o':=5) jB rfl rfl rfl (aI (d:=40) rfl rfl (aS Tryz.isAgg26 rfl (aJ (hS.at_ 0 rfl) rfl) rfl (aI (d:=40) rfl rfl (aH rfl rfl (aI (d:=40) rfl rfl (op_sub rfl rfl (IntWalk.i64_in _ (by omega)) rfl (aI (d:=40) rfl rfl (cM (j:=(i - 1)) Tryz.underlying26 Tryz.sizeOf3 rfl rfl (by omega) (by omega) rfl rfl (aI (d:=40) rfl rfl (aS Tryz.isAgg3 rfl (k2) rfl (aI (d:=40) rfl rfl (wH rfl rfl rfl (aI (d:=37) rfl rfl (bF rfl rfl rfl (bU rfl rfl rfl (aO (XF.thenN (bB rfl (fun hc=>?_) (fun hc=>?_))))))))))))))))))))))
        ·have hc50:=of_decide_eq_true hc;clear hc
         refine aM (aQ (aB rfl rfl (aO (XF.thenN (bR (XF.blkR (XF.thenR (XF.thenR (XF.blkR (XF.thenR (XF.res (cO Tryz.results30 rfl) ?_)))))))))))
         exact ⟨bQ (by unfold dI;rw [if_neg h2,yS (i:=i) (by omega) (by rw [sI hy hz e1 (by omega)];exact decide_eq_false (by omega)),Bool.false_and]),hS.below⟩
        ·have hc50:=of_decide_eq_false hc;clear hc
         refine bJ (XF.blkN (XF.thenN (aQ (cY rfl rfl (IntWalk.i64_in _ (by omega)) rfl (aH rfl rfl (aO ?_))))))
         exact XF.round (fl - (i+1)) [(1,_),(26,_),(27,_),(28,_)] (by omega) ⟨rfl,rfl,rfl,rfl,trivial⟩ ⟨i+1,by omega,rfl,rfl,vS hall (by rw [sI hy hz e1 (by omega)];exact decide_eq_true (by omega)),hS.clear⟩
       ·have hg40:=of_decide_eq_false hc;clear hc
        refine aK (d:=40) rfl rfl rfl rfl (aK (d:=40) rfl rfl rfl rfl (aK (d:=40) rfl rfl rfl rfl (aK (d:=40) rfl rfl rfl rfl (aK (d:=40) rfl rfl rfl rfl (aK (d:=40) rfl rfl rfl rfl (aK (d:=40) rfl rfl rfl rfl (aK (d:=40) rfl rfl rfl rfl (aI (d:=37) rfl rfl (bU rfl rfl rfl (bU rfl rfl rfl (aO (XF.thenN (yV rfl (bJ (XF.blkN (XF.thenN (aQ (cY rfl rfl (IntWalk.i64_in _ (by omega)) rfl (aH rfl rfl (aO ?_))))))))))))))))))))
        exact XF.round (fl - (i+1)) [(1,_),(26,_),(27,_),(28,_)] (by omega) ⟨rfl,rfl,rfl,rfl,trivial⟩ ⟨i+1,by omega,rfl,rfl,vS hall (Bb hy e1 (by omega)),hS.clear⟩
     ·have hc29:=of_decide_eq_false hc;clear hc
      have hfb:Lc st fs=true:=Mz fun j hj=>hall j (by omega)
      refine dX (XF.thenX (XF.thenX (XF.blkX (XF.thenN (aM (aM (aQ (aN (o':=6) eW rfl rfl rfl (aS Tryz.isAgg27 rfl (aJ (hS.at_ 0 rfl) rfl) rfl (cJ Tryz.underlying27 rfl rfl (aH rfl rfl (aO (XF.thenN (bP (eA (fun m l W=>∃ i:Nat,i≤tl∧m=tl - i∧l=[(1,.pointer (some ⟨B1,0,none⟩)),(53,.slice ta tl tc),(54,.int .i64 (tl:Int)),(55,.int .i64 (i:Int))]∧(ts.take i).all (trB st sy)=true∧St w [(B1,[.int .i64 s.f.tag,.int .i64 s.f.dim,.slice s.f.a s.f.len s.f.cap,.int .i64 st,.int .i64 sy,.slice fa fl fc,.slice ta tl tc],29)] [] [] W) (tl - 0) ([(1,_),(53,_),(54,_),(55,_)]) ⟨rfl,rfl,rfl,rfl,trivial⟩ (⟨0,Nat.zero_le _,rfl,rfl,rfl,hS.clear⟩) ?_)))))))))))))))
      clear hS
      rintro m l W ⟨i,hi,rfl,rfl,hall,hS⟩
      refine aM (aQ (cS rfl rfl rfl (aO (XF.thenN (aM (bB rfl (fun hc=>?_) (fun hc=>?_)))))))
      ·have hc56:=of_decide_eq_true hc;clear hc
       have hk:i < tl:=by omega
       obtain ⟨r,hr⟩:∃ r,ts[i]?=some r:=⟨ts[i]'(by omega),by simp [show i < ts.length by omega]⟩
       obtain ⟨b,off,rfl,hcs⟩:=htrow.at_ hr
       have k1:=aD.agree hS.agree (Nat.zero_le _) hcs
       have hri:=htin r (List.mem_of_getElem? hr)
       refine bJ (XF.thenN (aM (bP (aM (aQ (cM  Tryz.underlying27 Tryz.sizeOf66 rfl rfl rfl (by omega) rfl rfl (aR (vs:=[_,_,_,_,_,_,_,_,_]) Tryz.isAgg66 Tryz.sizeOf66 rfl (k1) rfl (bC (cs:=[_,_,_,_,_,_,_,_,_]) hS Tryz.zeroValue66 rfl rfl fun B3 W3 hS=>aU (i:=0) (vs:=[_,_,_,_,_,_,_,_,_]) (cs':=[_,_,_,_,_,_,_,_,_]) (O':=[_,_]) hS Tryz.sizeOf66 rfl rfl rfl rfl rfl rfl rfl fun W4 hS=>aO (XF.thenN (aM (aQ (aR (vs:=[_,_,_,_,_,_,_]) Tryz.isAgg29 Tryz.sizeOf29 rfl (aD.own (j:=0) (m:=7) (hS.at_ 1 rfl) rfl) rfl (aN (o':=0) pS rfl rfl rfl (aS Tryz.isAgg3 rfl (aJ (hS.at_ 0 rfl) rfl) rfl (cB (vs:=[_,_]) hS yT rfl (vU ⟨s,st,sy,fa,fl,fc,fs,_,tl,tc,ts⟩ r.f _) rfl fun W5 hS=>eO rfl rfl (aH rfl rfl (bV (d:=64) rfl (fun hc=>?_) (fun hc=>?_))))))))))))))))))
       ·have hg64:=hc;clear hc
        have e1:inQ r.f st=false:=by simpa using hg64
        refine aK (d:=64) rfl rfl rfl rfl (aK (d:=64) rfl rfl rfl rfl (aK (d:=64) rfl rfl rfl rfl (aK (d:=64) rfl rfl rfl rfl (aK (d:=64) rfl rfl rfl rfl (bF rfl rfl rfl (aH rfl rfl (aK (d:=71) rfl rfl rfl rfl (aK (d:=71) rfl rfl rfl rfl (aK (d:=71) rfl rfl rfl rfl (bF rfl rfl rfl (aH rfl rfl (aK (d:=76) rfl rfl rfl rfl (aK (d:=76) rfl rfl rfl rfl (aK (d:=76) rfl rfl rfl rfl (aK (d:=76) rfl rfl rfl rfl (aK (d:=76) rfl rfl rfl rfl (bF rfl rfl rfl (aO (XF.thenN (eZ rfl (aM (aQ ?_))))))))))))))))))))))
        refine aB rfl rfl (aO (XF.thenN (bR (XF.blkR (XF.thenR (XF.thenR (XF.blkR (XF.thenR (XF.res (cO Tryz.results30 rfl) ?_)))))))))
        exact ⟨bQ (by unfold dI;rw [if_neg h2,dH hr (by simp [trB,e1]),Bool.and_false]),hS.below⟩
       ·have hg64:=hc;clear hc
        have e1:inQ r.f st=true:=by simpa using hg64
        refine aI (d:=64) rfl rfl (aR (vs:=[_,_,_,_,_,_,_]) Tryz.isAgg29 Tryz.sizeOf29 rfl (aD.own (j:=0) (m:=7) (hS.at_ 1 rfl) rfl) rfl (aI (d:=64) rfl rfl (aN (o':=2) kY rfl rfl rfl (aI (d:=64) rfl rfl (aS Tryz.isAgg3 rfl (aJ (hS.at_ 0 rfl) rfl) rfl (aI (d:=64) rfl rfl (cB (vs:=[_,_]) hS yT rfl (vU ⟨s,st,sy,fa,fl,fc,fs,_,tl,tc,ts⟩ r.t _) rfl fun W6 hS=>aI (d:=64) rfl rfl (eO rfl rfl (bU rfl rfl rfl (aH rfl rfl (bV (d:=71) rfl (fun hc=>?_) (fun hc=>?_))))))))))))
        ·have hg71:=hc;clear hc
         have e3:inQ r.t st=false:=by simpa using hg71
         refine aK (d:=71) rfl rfl rfl rfl (aK (d:=71) rfl rfl rfl rfl (aK (d:=71) rfl rfl rfl rfl (bF rfl rfl rfl (aH rfl rfl (aK (d:=76) rfl rfl rfl rfl (aK (d:=76) rfl rfl rfl rfl (aK (d:=76) rfl rfl rfl rfl (aK (d:=76) rfl rfl rfl rfl (aK (d:=76) rfl rfl rfl rfl (bF rfl rfl rfl (aO (XF.thenN (eZ rfl (aM (aQ (aB rfl rfl (aO (XF.thenN (bR (XF.blkR (XF.thenR (XF.thenR (XF.blkR ?_)))))))))))))))))))))))
         refine XF.thenR (XF.res (cO Tryz.results30 rfl) ?_)
         exact ⟨bQ (by unfold dI;rw [if_neg h2,dH hr (by simp [trB,e3]),Bool.and_false]),hS.below⟩
        ·have hg71:=hc;clear hc
         have e3:inQ r.t st=true:=by simpa using hg71
         refine aI (d:=71) rfl rfl (aN (o':=1) lY rfl rfl rfl (aI (d:=71) rfl rfl (aS Tryz.isAgg3 rfl (aJ (hS.at_ 0 rfl) rfl) rfl (aI (d:=71) rfl rfl (cS rfl rfl rfl (bU rfl rfl rfl (aH rfl rfl (bV (d:=76) rfl (fun hc=>?_) (fun hc=>?_)))))))))
         ·have hg76:=of_decide_eq_true hc;clear hc
          refine aK (d:=76) rfl rfl rfl rfl (aK (d:=76) rfl rfl rfl rfl (aK (d:=76) rfl rfl rfl rfl (aK (d:=76) rfl rfl rfl rfl (aK (d:=76) rfl rfl rfl rfl (bF rfl rfl rfl (aO (XF.thenN (eZ rfl (aM (aQ (aB rfl rfl (aO (XF.thenN (bR (XF.blkR (XF.thenR (XF.thenR (XF.blkR (XF.thenR (XF.res (cO Tryz.results30 rfl) ?_))))))))))))))))))))
          exact ⟨bQ (by unfold dI;rw [if_neg h2,dH hr (by simp [trB,show ¬ (-1≤r.g) by omega]),Bool.and_false]),hS.below⟩
         ·have hg76:=of_decide_eq_false hc;clear hc
          refine aI (d:=76) rfl rfl (aN (o':=1) lY rfl rfl rfl (aI (d:=76) rfl rfl (aS Tryz.isAgg3 rfl (aJ (hS.at_ 0 rfl) rfl) rfl (aI (d:=76) rfl rfl (aN (o':=4) nJ rfl rfl rfl (aI (d:=76) rfl rfl (aS Tryz.isAgg3 rfl (aJ (hS.at_ 1 rfl) rfl) rfl (aI (d:=76) rfl rfl (nO rfl rfl rfl (bU rfl rfl rfl (aO (XF.thenN (bB rfl (fun hc=>?_) (fun hc=>?_))))))))))))))
          ·have hc82:=of_decide_eq_true hc;clear hc
           refine aM (aQ (aB rfl rfl (aO (XF.thenN (bR (XF.blkR (XF.thenR (XF.thenR (XF.blkR (XF.thenR (XF.res (cO Tryz.results30 rfl) ?_)))))))))))
           exact ⟨bQ (by unfold dI;rw [if_neg h2,dH hr (by simp [trB,show ¬ (r.g < sy) by omega]),Bool.and_false]),hS.below⟩
          ·have hc82:=of_decide_eq_false hc;clear hc
           refine bJ (XF.blkN (XF.thenN (aQ (cY rfl rfl (IntWalk.i64_in _ (by omega)) rfl (aH rfl rfl (aO ?_))))))
           exact XF.round (tl - (i+1)) [(1,_),(53,_),(54,_),(55,_)] (by omega) ⟨rfl,rfl,rfl,rfl,trivial⟩ ⟨i+1,by omega,rfl,rfl,gB hr hall (by simp only [trB,e1,e3,Bool.true_and];rw [decide_eq_true (show -1≤r.g by omega),decide_eq_true (show r.g < sy by omega)];rfl),hS.tail.clear⟩
      ·have hc56:=of_decide_eq_false hc;clear hc
       rw [List.take_of_length_le (by omega)] at hall
       refine dX (XF.thenX (XF.thenX (XF.blkX (XF.thenN (aM (aQ (aB rfl rfl (aO (XF.thenN (bR (XF.res (cO Tryz.results30 rfl) ?_)))))))))))
       exact ⟨bQ (by unfold dI;rw [if_neg h2,hfb,hall,Bool.true_and]),hS.below⟩
theorem Ld (ds d:Nat) (a:AV) (w:World) (h:AIn w ds d a):Calls Tryz.prog 30 #[a.val] w (fun e w'=>e = .returned (.bool (dI a.st a.sy a.fs a.ts))∧Below w.heap.size w w'):=Px ds d _ _ _ _ _ _ _ _ _ _ _ w h.s h.frow h.flen h.trow h.tlen h.tin h.fmax h.tmax
theorem autoA_c (ds d:Nat) (s:SV) (st sy:Int) (fa:Option Addr) (fl fc:Nat) (fs:List Int) (ta:Option Addr) (tl tc:Nat) (ts:List TV) (w:World) (hs:SIn w ds s) (hfrow:Row w fa fs) (hflen:fs.length=fl) (htrow:qE w ta ts) (htlen:ts.length=tl) (htin:∀ t∈ts,WIn w d t.x) (hfm:fl≤9223372036854775807) (htm:tl≤9223372036854775807) :
  Calls Tryz.prog 8 #[.agg #[.int .i64 s.f.tag,.int .i64 s.f.dim,.slice s.f.a s.f.len s.f.cap,.int .i64 st,.int .i64 sy,.slice fa fl fc,.slice ta tl tc]] w (fun e w'=>e = .returned (.int .i64 (fE ⟨s,st,sy,fa,fl,fc,fs,ta,tl,tc,ts⟩))∧Below w.heap.size w w'):=by
 refine cD (args:=[.agg #[.int .i64 s.f.tag,.int .i64 s.f.dim,.slice s.f.a s.f.len s.f.cap,.int .i64 st,.int .i64 sy,.slice fa fl fc,.slice ta tl tc]]) Tryz.func8 rfl Tryz.ntmps8 rfl ?_
 have hS:=St.start w
 refine aM (aQ (bT (cs:=[_,_,_,_,_,_,_]) hS rfl rfl rfl fun B1 W1 hS=>aB rfl rfl (aO (XF.thenN (aM (aM (aQ (aN (o':=0) lZ rfl rfl rfl (aR (vs:=[_,_,_]) Tryz.isAgg25 Tryz.sizeOf25 rfl (aD.own (j:=0) (m:=3) (hS.at_ 0 rfl) rfl) rfl (cB (vs:=[_]) hS uL rfl (wP ds s _ _ (SIn.below hS.below hs) rfl) rfl fun W2 hS=>aB rfl rfl (aO (XF.thenN (aM (aQ (aH rfl rfl (dD rfl rfl rfl (aO (XF.thenN (bB rfl (fun hc=>?_) (fun hc=>?_))))))))))))))))))))
 ·have hc11:=of_decide_eq_true hc;clear hc
  refine aM (aQ (aH rfl rfl (aB rfl rfl (aO (XF.thenN (bR (XF.thenR (XF.res (cO Tryz.results8 rfl) ?_))))))))
  exact ⟨eP (by unfold fE;dsimp only;rw [if_pos hc11]),hS.below⟩
 ·have hc11:=of_decide_eq_false hc;clear hc
  have h0:¬ dV s≠0:=hc11
  have hse:dV s=0:=by omega
  refine bJ (XF.thenN (aM (aM (aQ (aN (o':=6) eW rfl rfl rfl (aS Tryz.isAgg27 rfl (aJ (hS.at_ 0 rfl) rfl) rfl (cJ Tryz.underlying27 rfl rfl (qJ rfl rfl rfl (aO (XF.thenN (bB rfl (fun hc=>?_) (fun hc=>?_))))))))))))
  ·have hc16:=of_decide_eq_true hc;clear hc
   refine aM (aQ (aB rfl rfl (aO (XF.thenN (bR (XF.thenR (XF.res (cO Tryz.results8 rfl) ?_)))))))
   exact ⟨eP (by unfold fE;dsimp only;rw [if_neg h0,if_pos (by omega)]),hS.below⟩
  ·have hc16:=of_decide_eq_false hc;clear hc
   have h1:¬ 65536 < tl:=by omega
   refine bJ (XF.thenN (aM (aM (aQ (aR (vs:=[_,_,_,_,_,_,_]) Tryz.isAgg29 Tryz.sizeOf29 rfl (aD.own (j:=0) (m:=7) (hS.at_ 0 rfl) rfl) rfl (cB (vs:=[_]) hS goes_30 rfl (Ld ds d ⟨s,st,sy,fa,fl,fc,fs,ta,tl,tc,ts⟩ _ (AIn.below ⟨hs,hfrow,hflen,htrow,htlen,htin,hfm,htm⟩ hS.below)) rfl fun W3 hS=>eO rfl rfl (aO (XF.thenN (bB rfl (fun hc=>?_) (fun hc=>?_))))))))))
   ·have hc19:=hc;clear hc
    refine aM (aQ (aB rfl rfl (aO (XF.thenN (bR (XF.thenR (XF.res (cO Tryz.results8 rfl) ?_)))))))
    exact ⟨eP (by unfold fE;dsimp only;rw [if_neg h0,if_neg h1,if_pos (by simpa using hc19)]),hS.below⟩
   ·have hc19:=hc;clear hc
    have h3:¬ dI st sy fs ts=false:=by simpa using hc19
    refine bJ (XF.thenN (aM (aM (aQ (aN (o':=6) eW rfl rfl rfl (aS Tryz.isAgg27 rfl (aJ (hS.at_ 0 rfl) rfl) rfl (cJ Tryz.underlying27 rfl rfl (aH rfl rfl (aO (XF.thenN (bP (eA (fun m l W=>∃ i:Nat,i≤tl∧m=tl - i∧l=[(1,.pointer (some ⟨B1,0,none⟩)),(21,.slice ta tl tc),(22,.int .i64 (tl:Int)),(23,.int .i64 (i:Int))]∧(ts.take i).all (fun t=>decide (lI s t.x=0))=true∧St w [(B1,[.int .i64 s.f.tag,.int .i64 s.f.dim,.slice s.f.a s.f.len s.f.cap,.int .i64 st,.int .i64 sy,.slice fa fl fc,.slice ta tl tc],29)] [] [] W) (tl - 0) ([(1,_),(21,_),(22,_),(23,_)]) ⟨rfl,rfl,rfl,rfl,trivial⟩ (⟨0,Nat.zero_le _,rfl,rfl,rfl,hS.clear⟩) ?_))))))))))))
    clear hS
    rintro m l W ⟨i,hi,rfl,rfl,hall,hS⟩
    refine aM (aQ (cS rfl rfl rfl (aO (XF.thenN (aM (bB rfl (fun hc=>?_) (fun hc=>?_)))))))
    ·have hc24:=of_decide_eq_true hc;clear hc
     have hk:i < tl:=by omega
     obtain ⟨r,hr⟩:∃ r,ts[i]?=some r:=⟨ts[i]'(by omega),by simp [show i < ts.length by omega]⟩
     obtain ⟨b,off,rfl,hcs⟩:=htrow.at_ hr
     have k1:=aD.agree hS.agree (Nat.zero_le _) hcs
     have hri:=htin r (List.mem_of_getElem? hr)
     refine bJ (XF.thenN (aM (bP (aM (aQ (cM  Tryz.underlying27 Tryz.sizeOf66 rfl rfl rfl (by omega) rfl rfl (aR (vs:=[_,_,_,_,_,_,_,_,_]) Tryz.isAgg66 Tryz.sizeOf66 rfl (k1) rfl (bC (cs:=[_,_,_,_,_,_,_,_,_]) hS Tryz.zeroValue66 rfl rfl fun B4 W4 hS=>aU (i:=0) (vs:=[_,_,_,_,_,_,_,_,_]) (cs':=[_,_,_,_,_,_,_,_,_]) (O':=[_,_]) hS Tryz.sizeOf66 rfl rfl rfl rfl rfl rfl rfl fun W5 hS=>aO (XF.thenN (aM (aQ (aN (o':=0) lZ rfl rfl rfl (aR (vs:=[_,_,_]) Tryz.isAgg25 Tryz.sizeOf25 rfl (aD.own (j:=0) (m:=3) (hS.at_ 1 rfl) rfl) rfl (aN (o':=3) vT rfl rfl rfl (aR (vs:=[_,_,_,_,_,_]) Tryz.isAgg44 Tryz.sizeOf44 rfl (aD.own (j:=3) (m:=6) (hS.at_ 0 rfl) rfl) rfl (cB (vs:=[_,_]) hS goes_31 rfl (Ic ds d s r.x _ (SIn.below hS.below hs) (WIn.below hS.below hri)) rfl fun W6 hS=>aB rfl rfl (aO (XF.thenN (aM (aQ (aH rfl rfl (dD rfl rfl rfl ?_))))))))))))))))))))))
     refine aO (XF.thenN (bB rfl (fun hc=>?_) (fun hc=>?_)))
     ·have hc33:=of_decide_eq_true hc;clear hc
      refine aM (aQ (aH rfl rfl (aB rfl rfl (aO (XF.thenN (bR (XF.blkR (XF.thenR (XF.thenR (XF.blkR (XF.thenR (XF.res (cO Tryz.results8 rfl) ?_))))))))))))
      exact ⟨eP (by unfold fE;dsimp only;rw [if_neg h0,if_neg h1,if_neg h3,if_neg (by rw [dH hr (decide_eq_false hc33)];decide),chkW_51 hse hc33]),hS.below⟩
     ·have hc33:=of_decide_eq_false hc;clear hc
      refine bJ (XF.blkN (XF.thenN (aQ (cY rfl rfl (IntWalk.i64_in _ (by omega)) rfl (aH rfl rfl (aO ?_))))))
      exact XF.round (tl - (i+1)) [(1,_),(21,_),(22,_),(23,_)] (by omega) ⟨rfl,rfl,rfl,rfl,trivial⟩ ⟨i+1,by omega,rfl,rfl,gB hr hall (by simpa using hc33),hS.tail.clear⟩
    ·have hc24:=of_decide_eq_false hc;clear hc
     rw [List.take_of_length_le (by omega)] at hall
     refine dX (XF.thenX (XF.thenX (XF.blkX (XF.thenN (aM (aQ (aB rfl rfl (aO (XF.thenN (bR (XF.res (cO Tryz.results8 rfl) ?_)))))))))))
     exact ⟨eP (by unfold fE;dsimp only;rw [if_neg h0,if_neg h1,if_neg h3,if_pos hall]),hS.below⟩
theorem Ue (ds d:Nat) (a:AV) (w:World) (h:AIn w ds d a):Calls Tryz.prog 8 #[a.val] w (fun e w'=>e = .returned (.int .i64 (fE a))∧Below w.heap.size w w'):=autoA_c ds d _ _ _ _ _ _ _ _ _ _ _ w h.s h.frow h.flen h.trow h.tlen h.tin h.fmax h.tmax
theorem autoR_c (ds d:Nat) (s:SV) (st sy:Int) (fa:Option Addr) (fl fc:Nat) (fs:List Int) (ta:Option Addr) (tl tc:Nat) (ts:List TV) (w:World) (hs:SIn w ds s) (hfrow:Row w fa fs) (hflen:fs.length=fl) (htrow:qE w ta ts) (htlen:ts.length=tl) (htin:∀ t∈ts,WIn w d t.x) (hfm:fl≤9223372036854775807) (htm:tl≤9223372036854775807) :
  Calls Tryz.prog 9 #[.agg #[.int .i64 s.f.tag,.int .i64 s.f.dim,.slice s.f.a s.f.len s.f.cap,.int .i64 st,.int .i64 sy,.slice fa fl fc,.slice ta tl tc]] w (fun e w'=>e = .returned (.int .i64 (fE ⟨s,st,sy,fa,fl,fc,fs,ta,tl,tc,ts⟩))∧Below w.heap.size w w'):=by
 refine cD (args:=[.agg #[.int .i64 s.f.tag,.int .i64 s.f.dim,.slice s.f.a s.f.len s.f.cap,.int .i64 st,.int .i64 sy,.slice fa fl fc,.slice ta tl tc]]) Tryz.func9 rfl Tryz.ntmps9 rfl ?_
 have hS:=St.start w
 refine aM (aQ (bT (cs:=[_,_,_,_,_,_,_]) hS rfl rfl rfl fun B1 W1 hS=>aB rfl rfl (aO (XF.thenN (aM (aQ (aN (o':=0) lZ rfl rfl rfl (aR (vs:=[_,_,_]) Tryz.isAgg25 Tryz.sizeOf25 rfl (aD.own (j:=0) (m:=3) (hS.at_ 0 rfl) rfl) rfl (cB (vs:=[_]) hS yG rfl (wU ds s _ _ (SIn.below hS.below hs) rfl) rfl fun W2 hS=>aB rfl rfl (aO (XF.thenN (aM (aM (aQ (aH rfl rfl (dD rfl rfl rfl (aO (XF.thenN (bB rfl (fun hc=>?_) (fun hc=>?_))))))))))))))))))))
 ·have hc12:=of_decide_eq_true hc;clear hc
  refine aM (aQ (aH rfl rfl (aB rfl rfl (aO (XF.thenN (bR (XF.thenR (XF.res (cO Tryz.results9 rfl) ?_))))))))
  exact ⟨eP (by unfold fE;dsimp only;rw [if_pos hc12]),hS.below⟩
 ·have hc12:=of_decide_eq_false hc;clear hc
  have h0:¬ dV s≠0:=hc12
  have hse:dV s=0:=by omega
  refine bJ (XF.thenN (aM (aM (aQ (aN (o':=6) eW rfl rfl rfl (aS Tryz.isAgg27 rfl (aJ (hS.at_ 0 rfl) rfl) rfl (cJ Tryz.underlying27 rfl rfl (qJ rfl rfl rfl (aO (XF.thenN (bB rfl (fun hc=>?_) (fun hc=>?_))))))))))))
  ·have hc17:=of_decide_eq_true hc;clear hc
   refine aM (aQ (aB rfl rfl (aO (XF.thenN (bR (XF.thenR (XF.res (cO Tryz.results9 rfl) ?_)))))))
   exact ⟨eP (by unfold fE;dsimp only;rw [if_neg h0,if_pos (by omega)]),hS.below⟩
  ·have hc17:=of_decide_eq_false hc;clear hc
   have h1:¬ 65536 < tl:=by omega
   refine bJ (XF.thenN (aM (aM (aQ (aN (o':=3) mA rfl rfl rfl (aS Tryz.isAgg3 rfl (aJ (hS.at_ 0 rfl) rfl) rfl (cS rfl rfl rfl (aH rfl rfl (bV (d:=21) rfl (fun hc=>?_) (fun hc=>?_))))))))))
   ·have hg21:=of_decide_eq_true hc;clear hc
    refine aK (d:=21) rfl rfl rfl rfl (aK (d:=21) rfl rfl rfl rfl (aK (d:=21) rfl rfl rfl rfl (bF rfl rfl rfl (aH rfl rfl (aK (d:=26) rfl rfl rfl rfl (aK (d:=26) rfl rfl rfl rfl (aK (d:=26) rfl rfl rfl rfl (bF rfl rfl rfl (aH rfl rfl (aK (d:=31) rfl rfl rfl rfl (aK (d:=31) rfl rfl rfl rfl (aK (d:=31) rfl rfl rfl rfl (bF rfl rfl rfl (aO (XF.thenN (eZ rfl (aM (aQ (aB rfl rfl (aO (XF.thenN (bR (XF.thenR ?_)))))))))))))))))))))))
    refine XF.res (cO Tryz.results9 rfl) ?_
    exact ⟨eP (by unfold fE;dsimp only;rw [if_neg h0,if_neg h1,if_pos (by unfold dI;rw [if_pos (by omega)])]),hS.below⟩
   ·have hg21:=of_decide_eq_false hc;clear hc
    refine aI (d:=21) rfl rfl (aN (o':=3) mA rfl rfl rfl (aI (d:=21) rfl rfl (aS Tryz.isAgg3 rfl (aJ (hS.at_ 0 rfl) rfl) rfl (aI (d:=21) rfl rfl (qJ rfl rfl rfl (bU rfl rfl rfl (aH rfl rfl (bV (d:=26) rfl (fun hc=>?_) (fun hc=>?_)))))))))
    ·have hg26:=of_decide_eq_true hc;clear hc
     refine aK (d:=26) rfl rfl rfl rfl (aK (d:=26) rfl rfl rfl rfl (aK (d:=26) rfl rfl rfl rfl (bF rfl rfl rfl (aH rfl rfl (aK (d:=31) rfl rfl rfl rfl (aK (d:=31) rfl rfl rfl rfl (aK (d:=31) rfl rfl rfl rfl (bF rfl rfl rfl (aO (XF.thenN (eZ rfl (aM (aQ (aB rfl rfl (aO (XF.thenN (bR (XF.thenR (XF.res (cO Tryz.results9 rfl) ?_)))))))))))))))))))
     exact ⟨eP (by unfold fE;dsimp only;rw [if_neg h0,if_neg h1,if_pos (by unfold dI;rw [if_pos (by omega)])]),hS.below⟩
    ·have hg26:=of_decide_eq_false hc;clear hc
     refine aI (d:=26) rfl rfl (aN (o':=4) nJ rfl rfl rfl (aI (d:=26) rfl rfl (aS Tryz.isAgg3 rfl (aJ (hS.at_ 0 rfl) rfl) rfl (aI (d:=26) rfl rfl (cS rfl rfl rfl (bU rfl rfl rfl (aH rfl rfl (bV (d:=31) rfl (fun hc=>?_) (fun hc=>?_)))))))))
     ·have hg31:=of_decide_eq_true hc;clear hc
      refine aK (d:=31) rfl rfl rfl rfl (aK (d:=31) rfl rfl rfl rfl (aK (d:=31) rfl rfl rfl rfl (bF rfl rfl rfl (aO (XF.thenN (eZ rfl (aM (aQ (aB rfl rfl (aO (XF.thenN (bR (XF.thenR (XF.res (cO Tryz.results9 rfl) ?_))))))))))))))
      exact ⟨eP (by unfold fE;dsimp only;rw [if_neg h0,if_neg h1,if_pos (by unfold dI;rw [if_pos (by omega)])]),hS.below⟩
     ·have hg31:=of_decide_eq_false hc;clear hc
      refine aI (d:=31) rfl rfl (aN (o':=4) nJ rfl rfl rfl (aI (d:=31) rfl rfl (aS Tryz.isAgg3 rfl (aJ (hS.at_ 0 rfl) rfl) rfl (aI (d:=31) rfl rfl (qJ rfl rfl rfl (bU rfl rfl rfl (aO (XF.thenN (bB rfl (fun hc=>?_) (fun hc=>?_))))))))))
      ·have hc35:=of_decide_eq_true hc;clear hc
       refine aM (aQ (aB rfl rfl (aO (XF.thenN (bR (XF.thenR (XF.res (cO Tryz.results9 rfl) ?_)))))))
       exact ⟨eP (by unfold fE;dsimp only;rw [if_neg h0,if_neg h1,if_pos (by unfold dI;rw [if_pos (by omega)])]),hS.below⟩
      ·have hc35:=of_decide_eq_false hc;clear hc
       have h2:¬ (st < 0∨4096 < st∨sy < 0∨4096 < sy):=by omega
       refine bJ (XF.thenN (aM (aM (aQ (aB rfl rfl (aO (XF.thenN (bP (eA (fun m l W=>∃ i:Nat,i≤fl∧m=fl - i∧l=[(1,.pointer (some ⟨B1,0,none⟩)),(4,.int .i64 (i:Int))]∧(∀ j,j < i→mW st fs j=true)∧St w [(B1,[.int .i64 s.f.tag,.int .i64 s.f.dim,.slice s.f.a s.f.len s.f.cap,.int .i64 st,.int .i64 sy,.slice fa fl fc,.slice ta tl tc],29)] [] [] W) (fl - 0) ([(1,_),(4,_)]) ⟨rfl,rfl,trivial⟩ (⟨0,Nat.zero_le _,rfl,rfl,fun j hj=>absurd hj (Nat.not_lt_zero _),hS.clear⟩) ?_)))))))))
       clear hS
       rintro m l W ⟨i,hi,rfl,rfl,hall,hS⟩
       refine aM (aM (aQ (aH rfl rfl (aN (o':=5) jB rfl rfl rfl (aS Tryz.isAgg26 rfl (aJ (hS.at_ 0 rfl) rfl) rfl (cJ Tryz.underlying26 rfl rfl (cS rfl rfl rfl (aO (XF.thenN (bB rfl (fun hc=>?_) (fun hc=>?_)))))))))))
       ·have hc40:=of_decide_eq_true hc;clear hc
        have hk:i < fl:=by omega
        obtain ⟨b,off,y,rfl,hy,hyc⟩:=hfrow.at1 (show i < fs.length by omega)
        have k1:=hS.old hyc
        refine bJ (XF.thenN (aM (bP (aM ?_))))
        rcases (show inQ y st=false∨(inQ y st=true∧i=0)∨(inQ y st=true∧0 < i) by cases inQ y st<;>simp<;>omega) with e1 | ⟨e1,h9⟩ | ⟨e1,h9⟩
        ·skip
         refine iV (m:=26) bY hS (by kernel_rfl) (by kernel_rfl) rfl (cQ 1 rfl 1 rfl (by kernel_rfl) rfl (fun w hw=>aY (vs:=[_,_,_,_,_,_,_]) Tryz.isAgg29 Tryz.sizeOf29 rfl (aD.agree (aL hw 0) (Nat.zero_le _) (aD.own (j:=0) (m:=7) (hS.at_ 0 rfl) rfl))) rfl (cQ 2 rfl 1 rfl (by kernel_rfl) rfl (fun w hw=>aV (o':=5) jB rfl rfl) rfl (bI 3 rfl 44 1 rfl (by kernel_rfl) rfl rfl (fun w hw=>aZ Tryz.isAgg26 rfl ((aL hw 0).cell (Nat.zero_le _) (aJ (hS.at_ 0 rfl) rfl))) rfl (cQ 4 rfl 4 rfl (by kernel_rfl) rfl (fun w hw=>aW rfl) rfl (aG 5 rfl (isV _) (aC _) (rgV (li:=[(45,_),(46,_)]) rfl (aT rfl) ⟨aP 2 (by kernel_rfl) (aA rfl rfl rfl),aP 3 (by kernel_rfl) (aA rfl rfl rfl),trivial⟩ (fun w hw=>aX  Tryz.underlying26 Tryz.sizeOf3 rfl rfl rfl (by omega) rfl) (aE rfl)) (bI 6 rfl 47 4 rfl (by kernel_rfl) rfl rfl (fun w hw=>aZ Tryz.isAgg3 rfl ((aL hw 0).cell (Nat.zero_le _) (k1))) rfl ?_))))))
         refine aG 7 rfl (isV (.bool false)) (aC _) (cP [isV _,isV _] rfl sJ (aT rfl) ⟨bW (aP 0 (by kernel_rfl) (aA rfl rfl rfl)),bW (aP 5 (by kernel_rfl) (aA rfl rfl rfl)),trivial⟩ (fun vs w' hb hh=>by have e:=bZ (us:=[_,_]) hh;subst e;exact (xD ⟨s,st,sy,_,fl,fc,fs,ta,tl,tc,ts⟩ y _).mono fun e w2 h=>⟨_,by rw [h.1,e1],rfl,h.2⟩) (aE rfl)) ?_
         refine aG 8 rfl (isV (.bool true)) (aC _) (jQ (li:=[(49,_)]) rfl (aT rfl) ⟨aP 6 (by kernel_rfl) (aA rfl rfl rfl),trivial⟩ (fun w hw=>jD rfl) (rfl) (aE rfl)) (bI 9 rfl 50 7 rfl (by kernel_rfl) rfl rfl (fun w hw=>aW rfl) rfl (aG 10 rfl (isV undef) (aC _) (bD rfl (cG 51 rfl (by kernel_rfl) (by kernel_rfl) (aA rfl rfl rfl) rfl) (aE rfl)) (aG 11 rfl (isV undef) (aC _) (bD rfl (cG 51 rfl (by kernel_rfl) (by kernel_rfl) (aA rfl rfl rfl) rfl) (aE rfl)) (aG 12 rfl (isV undef) (aC _) (bD rfl (cG 51 rfl (by kernel_rfl) (by kernel_rfl) (aA rfl rfl rfl) rfl) (aE rfl)) (aG 13 rfl (isV undef) (aC _) (bD rfl (xZ 54 rfl (by kernel_rfl) (by kernel_rfl) (aA rfl rfl rfl)) (aE rfl)) (aG 14 rfl (isV undef) (aC _) (bD rfl (xZ 54 rfl (by kernel_rfl) (by kernel_rfl) (aA rfl rfl rfl)) (aE rfl)) (aG 15 rfl (isV undef) (aC _) (bD rfl (xZ 54 rfl (by kernel_rfl) (by kernel_rfl) (aA rfl rfl rfl)) (aE rfl)) (aG 16 rfl (isV undef) (aC _) (bD rfl (xZ 54 rfl (by kernel_rfl) (by kernel_rfl) (aA rfl rfl rfl)) (aE rfl)) (aG 17 rfl (isV undef) (aC _) (bD rfl (xZ 54 rfl (by kernel_rfl) (by kernel_rfl) (aA rfl rfl rfl)) (aE rfl)) (aG 18 rfl (isV undef) (aC _) (bD rfl (xZ 54 rfl (by kernel_rfl) (by kernel_rfl) (aA rfl rfl rfl)) (aE rfl)) (aG 19 rfl (isV undef) (aC _) (bD rfl (xZ 54 rfl (by kernel_rfl) (by kernel_rfl) (aA rfl rfl rfl)) (aE rfl)) (aG 20 rfl (isV undef) (aC _) (bD rfl (xZ 54 rfl (by kernel_rfl) (by kernel_rfl) (aA rfl rfl rfl)) (aE rfl)) (aG 21 rfl (isV undef) (aC _) (bD rfl (xZ 54 rfl (by kernel_rfl) (by kernel_rfl) (aA rfl rfl rfl)) (aE rfl)) (aG 22 rfl (isV undef) (aC _) (bD rfl (xZ 54 rfl (by kernel_rfl) (by kernel_rfl) (aA rfl rfl rfl)) (aE rfl)) (aG 23 rfl (isV undef) (aC _) (bD rfl (xZ 54 rfl (by kernel_rfl) (by kernel_rfl) (aA rfl rfl rfl)) (aE rfl)) (aG 24 rfl (isV undef) (aC _) (bD rfl (xZ 54 rfl (by kernel_rfl) (by kernel_rfl) (aA rfl rfl rfl)) (aE rfl)) (aG 25 rfl (isV undef) (aC _) (bD rfl (cG 51 rfl (by kernel_rfl) (by kernel_rfl) (aA rfl rfl rfl) rfl) (aE rfl)) (bI 26 rfl 51 8 rfl (by kernel_rfl) rfl rfl (fun w hw=>eM rfl rfl) rfl (dE ?_)))))))))))))))))))
         intro W3 hbR hS'
         clear hS;have hS:=hS';clear hS'
         refine aF (aF (aF (aF (aF (aF (aF (aF (aF (aF (aF (aF (aF (aF (aF (aF (aF (aF (aF (aF (aF ?_))))))))))))))))))))
         refine aF (aF (aF (aF (aF (cI (XF.thenN (eZ rfl (aM (aQ (aB rfl rfl (aO (XF.thenN (bR (XF.blkR (XF.thenR (XF.thenR (XF.blkR (XF.thenR (XF.res (cO Tryz.results9 rfl) ?_)))))))))))))))))))
         exact ⟨eP (by unfold fE;dsimp only;rw [if_neg h0,if_neg h1,if_pos (by unfold dI;rw [if_neg h2,yS (i:=i) (by omega) (Dw hy e1),Bool.false_and])]),hS.below⟩
        ·skip
         refine iV (m:=26) bY hS (by kernel_rfl) (by kernel_rfl) rfl (cQ 1 rfl 1 rfl (by kernel_rfl) rfl (fun w hw=>aY (vs:=[_,_,_,_,_,_,_]) Tryz.isAgg29 Tryz.sizeOf29 rfl (aD.agree (aL hw 0) (Nat.zero_le _) (aD.own (j:=0) (m:=7) (hS.at_ 0 rfl) rfl))) rfl (cQ 2 rfl 1 rfl (by kernel_rfl) rfl (fun w hw=>aV (o':=5) jB rfl rfl) rfl (bI 3 rfl 44 1 rfl (by kernel_rfl) rfl rfl (fun w hw=>aZ Tryz.isAgg26 rfl ((aL hw 0).cell (Nat.zero_le _) (aJ (hS.at_ 0 rfl) rfl))) rfl (cQ 4 rfl 4 rfl (by kernel_rfl) rfl (fun w hw=>aW rfl) rfl (aG 5 rfl (isV _) (aC _) (rgV (li:=[(45,_),(46,_)]) rfl (aT rfl) ⟨aP 2 (by kernel_rfl) (aA rfl rfl rfl),aP 3 (by kernel_rfl) (aA rfl rfl rfl),trivial⟩ (fun w hw=>aX  Tryz.underlying26 Tryz.sizeOf3 rfl rfl rfl (by omega) rfl) (aE rfl)) (bI 6 rfl 47 4 rfl (by kernel_rfl) rfl rfl (fun w hw=>aZ Tryz.isAgg3 rfl ((aL hw 0).cell (Nat.zero_le _) (k1))) rfl ?_))))))
         refine aG 7 rfl (isV (.bool true)) (aC _) (cP [isV _,isV _] rfl sJ (aT rfl) ⟨bW (aP 0 (by kernel_rfl) (aA rfl rfl rfl)),bW (aP 5 (by kernel_rfl) (aA rfl rfl rfl)),trivial⟩ (fun vs w' hb hh=>by have e:=bZ (us:=[_,_]) hh;subst e;exact (xD ⟨s,st,sy,_,fl,fc,fs,ta,tl,tc,ts⟩ y _).mono fun e w2 h=>⟨_,by rw [h.1,e1],rfl,h.2⟩) (aE rfl)) ?_
         refine aG 8 rfl (isV (.bool false)) (aC _) (jQ (li:=[(49,_)]) rfl (aT rfl) ⟨aP 6 (by kernel_rfl) (aA rfl rfl rfl),trivial⟩ (fun w hw=>jD rfl) (rfl) (aE rfl)) (bI 9 rfl 50 7 rfl (by kernel_rfl) rfl rfl (fun w hw=>aW rfl) rfl (aG 10 rfl (isV _) (aC _) (rgV (li:=[(4,_)]) rfl (bH 51 rfl (by kernel_rfl) (by kernel_rfl) (aA rfl rfl rfl)) ⟨cU (by kernel_rfl) rfl,trivial⟩ (fun w hw=>aW rfl) (aE rfl)) (aG 11 rfl (isV (.bool false)) (aC _) (jQ (li:=[(52,_)]) rfl (bH 51 rfl (by kernel_rfl) (by kernel_rfl) (aA rfl rfl rfl)) ⟨aP 9 (by kernel_rfl) (aA rfl rfl rfl),trivial⟩ (fun w hw=>Jk rfl rfl) (by rw [decide_eq_false (by omega)]) (aE rfl)) (aG 12 rfl (isV _) (aC _) (rgV (li:=[(53,_)]) rfl (bH 51 rfl (by kernel_rfl) (by kernel_rfl) (aA rfl rfl rfl)) ⟨aP 10 (by kernel_rfl) (aA rfl rfl rfl),trivial⟩ (fun w hw=>aW rfl) (aE rfl)) (aG 13 rfl (isV undef) (aC _) (bD rfl (cG 54 rfl (by kernel_rfl) (by kernel_rfl) (aA rfl rfl rfl) rfl) (aE rfl)) (aG 14 rfl (isV undef) (aC _) (bD rfl (cG 54 rfl (by kernel_rfl) (by kernel_rfl) (aA rfl rfl rfl) rfl) (aE rfl)) (aG 15 rfl (isV undef) (aC _) (bD rfl (cG 54 rfl (by kernel_rfl) (by kernel_rfl) (aA rfl rfl rfl) rfl) (aE rfl)) (aG 16 rfl (isV undef) (aC _) (bD rfl (cG 54 rfl (by kernel_rfl) (by kernel_rfl) (aA rfl rfl rfl) rfl) (aE rfl)) (aG 17 rfl (isV undef) (aC _) (bD rfl (cG 54 rfl (by kernel_rfl) (by kernel_rfl) (aA rfl rfl rfl) rfl) (aE rfl)) (aG 18 rfl (isV undef) (aC _) (bD rfl (cG 54 rfl (by kernel_rfl) (by kernel_rfl) (aA rfl rfl rfl) rfl) (aE rfl)) (aG 19 rfl (isV undef) (aC _) (bD rfl (cG 54 rfl (by kernel_rfl) (by kernel_rfl) (aA rfl rfl rfl) rfl) (aE rfl)) (aG 20 rfl (isV undef) (aC _) (bD rfl (cG 54 rfl (by kernel_rfl) (by kernel_rfl) (aA rfl rfl rfl) rfl) (aE rfl)) (aG 21 rfl (isV undef) (aC _) (bD rfl (cG 54 rfl (by kernel_rfl) (by kernel_rfl) (aA rfl rfl rfl) rfl) (aE rfl)) (aG 22 rfl (isV undef) (aC _) (bD rfl (cG 54 rfl (by kernel_rfl) (by kernel_rfl) (aA rfl rfl rfl) rfl) (aE rfl)) (aG 23 rfl (isV undef) (aC _) (bD rfl (cG 54 rfl (by kernel_rfl) (by kernel_rfl) (aA rfl rfl rfl) rfl) (aE rfl)) (aG 24 rfl (isV undef) (aC _) (bD rfl (cG 54 rfl (by kernel_rfl) (by kernel_rfl) (aA rfl rfl rfl) rfl) (aE rfl)) (aG 25 rfl (isV _) (aC _) (rgV (li:=[(54,_)]) rfl (bH 51 rfl (by kernel_rfl) (by kernel_rfl) (aA rfl rfl rfl)) ⟨aP 11 (by kernel_rfl) (aA rfl rfl rfl),trivial⟩ (fun w hw=>dY rfl rfl) (aE rfl)) (aG 26 rfl (isV _) (aC _) (rgV (li:=[(51,_),(67,_)]) rfl (aT rfl) ⟨aP 8 (by kernel_rfl) (aA rfl rfl rfl),aP 24 (by kernel_rfl) (aA rfl rfl rfl),trivial⟩ (fun w hw=>dY rfl rfl) (aE rfl)) (dE ?_)))))))))))))))))))
         intro W4 hbR hS'
         clear hS;have hS:=hS';clear hS'
         refine aF (aF (aF (aF (aF (aF (aF (aF (aF (aF (aF (aF (aF (aF (aF (aF (aF (aF (aF (aF (aF ?_))))))))))))))))))))
         refine aF (aF (aF (aF (aF (cI (XF.thenN (yV rfl (bJ (XF.blkN (XF.thenN (aQ (aH rfl rfl (cY rfl rfl (IntWalk.i64_in _ (by omega)) rfl (aB rfl rfl (aO ?_)))))))))))))))
         exact XF.round (fl - (i+1)) [(1,_),(4,_)] (by omega) ⟨rfl,rfl,trivial⟩ ⟨i+1,by omega,rfl,rfl,vS hall (Bb hy e1 h9),hS.clear⟩
        ·obtain ⟨b2,off2,z,e2,hz,hzc⟩:=hfrow.at1 (show i - 1 < fs.length by omega)
         cases e2
         have k2:=hS.old hzc
         refine iV (m:=26) bY hS (by kernel_rfl) (by kernel_rfl) rfl (cQ 1 rfl 1 rfl (by kernel_rfl) rfl (fun w hw=>aY (vs:=[_,_,_,_,_,_,_]) Tryz.isAgg29 Tryz.sizeOf29 rfl (aD.agree (aL hw 0) (Nat.zero_le _) (aD.own (j:=0) (m:=7) (hS.at_ 0 rfl) rfl))) rfl (cQ 2 rfl 1 rfl (by kernel_rfl) rfl (fun w hw=>aV (o':=5) jB rfl rfl) rfl (bI 3 rfl 44 1 rfl (by kernel_rfl) rfl rfl (fun w hw=>aZ Tryz.isAgg26 rfl ((aL hw 0).cell (Nat.zero_le _) (aJ (hS.at_ 0 rfl) rfl))) rfl (cQ 4 rfl 4 rfl (by kernel_rfl) rfl (fun w hw=>aW rfl) rfl (aG 5 rfl (isV _) (aC _) (rgV (li:=[(45,_),(46,_)]) rfl (aT rfl) ⟨aP 2 (by kernel_rfl) (aA rfl rfl rfl),aP 3 (by kernel_rfl) (aA rfl rfl rfl),trivial⟩ (fun w hw=>aX  Tryz.underlying26 Tryz.sizeOf3 rfl rfl rfl (by omega) rfl) (aE rfl)) (bI 6 rfl 47 4 rfl (by kernel_rfl) rfl rfl (fun w hw=>aZ Tryz.isAgg3 rfl ((aL hw 0).cell (Nat.zero_le _) (k1))) rfl ?_))))))
         refine aG 7 rfl (isV (.bool true)) (aC _) (cP [isV _,isV _] rfl sJ (aT rfl) ⟨bW (aP 0 (by kernel_rfl) (aA rfl rfl rfl)),bW (aP 5 (by kernel_rfl) (aA rfl rfl rfl)),trivial⟩ (fun vs w' hb hh=>by have e:=bZ (us:=[_,_]) hh;subst e;exact (xD ⟨s,st,sy,_,fl,fc,fs,ta,tl,tc,ts⟩ y _).mono fun e w2 h=>⟨_,by rw [h.1,e1],rfl,h.2⟩) (aE rfl)) ?_
         refine aG 8 rfl (isV (.bool false)) (aC _) (jQ (li:=[(49,_)]) rfl (aT rfl) ⟨aP 6 (by kernel_rfl) (aA rfl rfl rfl),trivial⟩ (fun w hw=>jD rfl) (rfl) (aE rfl)) (bI 9 rfl 50 7 rfl (by kernel_rfl) rfl rfl (fun w hw=>aW rfl) rfl (aG 10 rfl (isV _) (aC _) (rgV (li:=[(4,_)]) rfl (bH 51 rfl (by kernel_rfl) (by kernel_rfl) (aA rfl rfl rfl)) ⟨cU (by kernel_rfl) rfl,trivial⟩ (fun w hw=>aW rfl) (aE rfl)) (aG 11 rfl (isV (.bool true)) (aC _) (jQ (li:=[(52,_)]) rfl (bH 51 rfl (by kernel_rfl) (by kernel_rfl) (aA rfl rfl rfl)) ⟨aP 9 (by kernel_rfl) (aA rfl rfl rfl),trivial⟩ (fun w hw=>Jk rfl rfl) (by rw [decide_eq_true (by omega)]) (aE rfl)) (aG 12 rfl (isV _) (aC _) (rgV (li:=[(53,_)]) rfl (bH 51 rfl (by kernel_rfl) (by kernel_rfl) (aA rfl rfl rfl)) ⟨aP 10 (by kernel_rfl) (aA rfl rfl rfl),trivial⟩ (fun w hw=>aW rfl) (aE rfl)) (aG 13 rfl (isV _) (aC _) (rgV (li:=[(1,_)]) rfl (bH 54 rfl (by kernel_rfl) (by kernel_rfl) (aA rfl rfl rfl)) ⟨cU (by kernel_rfl) rfl,trivial⟩ (fun w hw=>aV (o':=5) jB rfl rfl) (aE rfl)) (aG 14 rfl (isV _) (aC _) (rgV (li:=[(55,_)]) rfl (bH 54 rfl (by kernel_rfl) (by kernel_rfl) (aA rfl rfl rfl)) ⟨aP 12 (by kernel_rfl) (aA rfl rfl rfl),trivial⟩ (fun w hw=>aZ Tryz.isAgg26 rfl ((aL hw 0).cell (Nat.zero_le _) (aJ (hS.at_ 0 rfl) rfl))) (aE rfl)) (aG 15 rfl (isV _) (aC _) (rgV (li:=[(4,_)]) rfl (bH 54 rfl (by kernel_rfl) (by kernel_rfl) (aA rfl rfl rfl)) ⟨cU (by kernel_rfl) rfl,trivial⟩ (fun w hw=>aW rfl) (aE rfl)) (aG 16 rfl (isV _) (aC _) (rgV (li:=[(56,_),(57,_)]) rfl (bH 54 rfl (by kernel_rfl) (by kernel_rfl) (aA rfl rfl rfl)) ⟨aP 13 (by kernel_rfl) (aA rfl rfl rfl),aP 14 (by kernel_rfl) (aA rfl rfl rfl),trivial⟩ (fun w hw=>aX  Tryz.underlying26 Tryz.sizeOf3 rfl rfl rfl (by omega) rfl) (aE rfl)) (aG 17 rfl (isV _) (aC _) (rgV (li:=[(58,_)]) rfl (bH 54 rfl (by kernel_rfl) (by kernel_rfl) (aA rfl rfl rfl)) ⟨aP 15 (by kernel_rfl) (aA rfl rfl rfl),trivial⟩ (fun w hw=>aZ Tryz.isAgg3 rfl ((aL hw 0).cell (Nat.zero_le _) (k1))) (aE rfl)) (aG 18 rfl (isV _) (aC _) (rgV (li:=[(1,_)]) rfl (bH 54 rfl (by kernel_rfl) (by kernel_rfl) (aA rfl rfl rfl)) ⟨cU (by kernel_rfl) rfl,trivial⟩ (fun w hw=>aV (o':=5) jB rfl rfl) (aE rfl)) (aG 19 rfl (isV _) (aC _) (rgV (li:=[(60,_)]) rfl (bH 54 rfl (by kernel_rfl) (by kernel_rfl) (aA rfl rfl rfl)) ⟨aP 17 (by kernel_rfl) (aA rfl rfl rfl),trivial⟩ (fun w hw=>aZ Tryz.isAgg26 rfl ((aL hw 0).cell (Nat.zero_le _) (aJ (hS.at_ 0 rfl) rfl))) (aE rfl)) (aG 20 rfl (isV _) (aC _) (rgV (li:=[(4,_)]) rfl (bH 54 rfl (by kernel_rfl) (by kernel_rfl) (aA rfl rfl rfl)) ⟨cU (by kernel_rfl) rfl,trivial⟩ (fun w hw=>aW rfl) (aE rfl)) (aG 21 rfl (isV _) (aC _) (rgV (li:=[(62,_)]) rfl (bH 54 rfl (by kernel_rfl) (by kernel_rfl) (aA rfl rfl rfl)) ⟨aP 19 (by kernel_rfl) (aA rfl rfl rfl),trivial⟩ (fun w hw=>Qq rfl rfl (IntWalk.i64_in _ (by omega))) (aE rfl)) (aG 22 rfl (isV _) (aC _) (rgV (li:=[(61,_),(63,_)]) rfl (bH 54 rfl (by kernel_rfl) (by kernel_rfl) (aA rfl rfl rfl)) ⟨aP 18 (by kernel_rfl) (aA rfl rfl rfl),aP 20 (by kernel_rfl) (aA rfl rfl rfl),trivial⟩ (fun w hw=>aX (j:=(i - 1)) Tryz.underlying26 Tryz.sizeOf3 rfl rfl (by omega) (by omega) rfl) (aE rfl)) (aG 23 rfl (isV _) (aC _) (rgV (li:=[(64,_)]) rfl (bH 54 rfl (by kernel_rfl) (by kernel_rfl) (aA rfl rfl rfl)) ⟨aP 21 (by kernel_rfl) (aA rfl rfl rfl),trivial⟩ (fun w hw=>aZ Tryz.isAgg3 rfl ((aL hw 0).cell (Nat.zero_le _) (k2))) (aE rfl)) (aG 24 rfl (isV _) (aC _) (rgV (li:=[(59,_),(65,_)]) rfl (bH 54 rfl (by kernel_rfl) (by kernel_rfl) (aA rfl rfl rfl)) ⟨aP 16 (by kernel_rfl) (aA rfl rfl rfl),aP 22 (by kernel_rfl) (aA rfl rfl rfl),trivial⟩ (fun w hw=>Qp rfl rfl) (aE rfl)) (aG 25 rfl (isV _) (aC _) (rgV (li:=[(54,_),(66,_)]) rfl (bH 51 rfl (by kernel_rfl) (by kernel_rfl) (aA rfl rfl rfl)) ⟨aP 11 (by kernel_rfl) (aA rfl rfl rfl),aP 23 (by kernel_rfl) (aA rfl rfl rfl),trivial⟩ (fun w hw=>eM rfl rfl) (aE rfl)) (aG 26 rfl (isV _) (aC _) (rgV (li:=[(51,_),(67,_)]) rfl (aT rfl) ⟨aP 8 (by kernel_rfl) (aA rfl rfl rfl),aP 24 (by kernel_rfl) (aA rfl rfl rfl),trivial⟩ (fun w hw=>dY rfl rfl) (aE rfl)) (dE ?_)))))))))))))))))))
         intro W5 hbR hS'
         clear hS;have hS:=hS';clear hS'
         refine aF (aF (aF (aF (aF (aF (aF (aF (aF (aF (aF (aF (aF (aF (aF (aF (aF (aF (aF (aF (aF ?_))))))))))))))))))))
         refine aF (aF (aF (aF (aF (cI (XF.thenN (bB rfl (fun hc=>?_) (fun hc=>?_))))))))
         ·have hc68:=hc;clear hc
          have hyz:=of_decide_eq_true hc68
          refine aM (aQ (aB rfl rfl (aO (XF.thenN (bR (XF.blkR (XF.thenR (XF.thenR (XF.blkR (XF.thenR (XF.res (cO Tryz.results9 rfl) ?_)))))))))))
          exact ⟨eP (by unfold fE;dsimp only;rw [if_neg h0,if_neg h1,if_pos (by unfold dI;rw [if_neg h2,yS (i:=i) (by omega) (by rw [sI hy hz e1 h9];exact decide_eq_false (by omega)),Bool.false_and])]),hS.below⟩
         ·have hc68:=hc;clear hc
          have hyz:=of_decide_eq_false hc68
          refine bJ (XF.blkN (XF.thenN (aQ (aH rfl rfl (cY rfl rfl (IntWalk.i64_in _ (by omega)) rfl (aB rfl rfl (aO ?_)))))))
          exact XF.round (fl - (i+1)) [(1,_),(4,_)] (by omega) ⟨rfl,rfl,trivial⟩ ⟨i+1,by omega,rfl,rfl,vS hall (by rw [sI hy hz e1 h9];exact decide_eq_true (by omega)),hS.clear⟩
       ·have hc40:=of_decide_eq_false hc;clear hc
        have hfb:Lc st fs=true:=Mz fun j hj=>hall j (by omega)
        refine dX (XF.thenX (XF.thenX (XF.blkX (XF.thenN (aM (aM (aQ (aB rfl rfl (aO (XF.thenN (bP (eA (fun m l W=>∃ i:Nat,i≤tl∧m=tl - i∧l=[(1,.pointer (some ⟨B1,0,none⟩)),(5,.int .i64 (i:Int))]∧(ts.take i).all (trB st sy)=true∧St w [(B1,[.int .i64 s.f.tag,.int .i64 s.f.dim,.slice s.f.a s.f.len s.f.cap,.int .i64 st,.int .i64 sy,.slice fa fl fc,.slice ta tl tc],29)] [] [] W) (tl - 0) ([(1,_),(5,_)]) ⟨rfl,rfl,trivial⟩ (⟨0,Nat.zero_le _,rfl,rfl,rfl,hS.clear⟩) ?_))))))))))))
        clear hS
        rintro m l W ⟨i,hi,rfl,rfl,hall,hS⟩
        refine aM (aM (aQ (aH rfl rfl (aN (o':=6) eW rfl rfl rfl (aS Tryz.isAgg27 rfl (aJ (hS.at_ 0 rfl) rfl) rfl (cJ Tryz.underlying27 rfl rfl (cS rfl rfl rfl (aO (XF.thenN (bB rfl (fun hc=>?_) (fun hc=>?_)))))))))))
        ·have hc73:=of_decide_eq_true hc;clear hc
         have hk:i < tl:=by omega
         obtain ⟨r,hr⟩:∃ r,ts[i]?=some r:=⟨ts[i]'(by omega),by simp [show i < ts.length by omega]⟩
         obtain ⟨b,off,rfl,hcs⟩:=htrow.at_ hr
         have k1:=aD.agree hS.agree (Nat.zero_le _) hcs
         have hri:=htin r (List.mem_of_getElem? hr)
         refine bJ (XF.thenN (aM (bP (aM (aQ (aN (o':=6) eW rfl rfl rfl (aS Tryz.isAgg27 rfl (aJ (hS.at_ 0 rfl) rfl) rfl (aH rfl rfl (cM  Tryz.underlying27 Tryz.sizeOf66 rfl rfl rfl (by omega) rfl rfl (aR (vs:=[_,_,_,_,_,_,_,_,_]) Tryz.isAgg66 Tryz.sizeOf66 rfl (k1) rfl (bC (cs:=[_,_,_,_,_,_,_,_,_]) hS Tryz.zeroValue66 rfl rfl fun B6 W6 hS=>aU (i:=0) (vs:=[_,_,_,_,_,_,_,_,_]) (cs':=[_,_,_,_,_,_,_,_,_]) (O':=[_,_]) hS Tryz.sizeOf66 rfl rfl rfl rfl rfl rfl rfl fun W7 hS=>aO (XF.thenN (aM (aQ (aR (vs:=[_,_,_,_,_,_,_]) Tryz.isAgg29 Tryz.sizeOf29 rfl (aD.own (j:=0) (m:=7) (hS.at_ 1 rfl) rfl) rfl (aN (o':=0) pS rfl rfl rfl (aS Tryz.isAgg3 rfl (aJ (hS.at_ 0 rfl) rfl) rfl (cB (vs:=[_,_]) hS sJ rfl (xD ⟨s,st,sy,fa,fl,fc,fs,_,tl,tc,ts⟩ r.f _) rfl fun W8 hS=>eO rfl rfl (aH rfl rfl (bV (d:=86) rfl (fun hc=>?_) (fun hc=>?_)))))))))))))))))))))
         ·have hg86:=hc;clear hc
          have e1:inQ r.f st=false:=by simpa using hg86
          refine aK (d:=86) rfl rfl rfl rfl (aK (d:=86) rfl rfl rfl rfl (aK (d:=86) rfl rfl rfl rfl (aK (d:=86) rfl rfl rfl rfl (aK (d:=86) rfl rfl rfl rfl (bF rfl rfl rfl (aH rfl rfl (aK (d:=93) rfl rfl rfl rfl (aK (d:=93) rfl rfl rfl rfl (aK (d:=93) rfl rfl rfl rfl (bF rfl rfl rfl (aH rfl rfl (aK (d:=98) rfl rfl rfl rfl (aK (d:=98) rfl rfl rfl rfl (aK (d:=98) rfl rfl rfl rfl (aK (d:=98) rfl rfl rfl rfl (aK (d:=98) rfl rfl rfl rfl (bF rfl rfl rfl (aO (XF.thenN (eZ rfl (aM (aQ ?_))))))))))))))))))))))
          refine aB rfl rfl (aO (XF.thenN (bR (XF.blkR (XF.thenR (XF.thenR (XF.blkR (XF.thenR (XF.res (cO Tryz.results9 rfl) ?_)))))))))
          exact ⟨eP (by unfold fE;dsimp only;rw [if_neg h0,if_neg h1,if_pos (by unfold dI;rw [if_neg h2,dH hr (by simp [trB,e1]),Bool.and_false])]),hS.below⟩
         ·have hg86:=hc;clear hc
          have e1:inQ r.f st=true:=by simpa using hg86
          refine aI (d:=86) rfl rfl (aR (vs:=[_,_,_,_,_,_,_]) Tryz.isAgg29 Tryz.sizeOf29 rfl (aD.own (j:=0) (m:=7) (hS.at_ 1 rfl) rfl) rfl (aI (d:=86) rfl rfl (aN (o':=2) kY rfl rfl rfl (aI (d:=86) rfl rfl (aS Tryz.isAgg3 rfl (aJ (hS.at_ 0 rfl) rfl) rfl (aI (d:=86) rfl rfl (cB (vs:=[_,_]) hS sJ rfl (xD ⟨s,st,sy,fa,fl,fc,fs,_,tl,tc,ts⟩ r.t _) rfl fun W9 hS=>aI (d:=86) rfl rfl (eO rfl rfl (bU rfl rfl rfl (aH rfl rfl (bV (d:=93) rfl (fun hc=>?_) (fun hc=>?_))))))))))))
          ·have hg93:=hc;clear hc
           have e3:inQ r.t st=false:=by simpa using hg93
           refine aK (d:=93) rfl rfl rfl rfl (aK (d:=93) rfl rfl rfl rfl (aK (d:=93) rfl rfl rfl rfl (bF rfl rfl rfl (aH rfl rfl (aK (d:=98) rfl rfl rfl rfl (aK (d:=98) rfl rfl rfl rfl (aK (d:=98) rfl rfl rfl rfl (aK (d:=98) rfl rfl rfl rfl (aK (d:=98) rfl rfl rfl rfl (bF rfl rfl rfl (aO (XF.thenN (eZ rfl (aM (aQ (aB rfl rfl (aO (XF.thenN (bR (XF.blkR (XF.thenR (XF.thenR (XF.blkR ?_)))))))))))))))))))))))
           refine XF.thenR (XF.res (cO Tryz.results9 rfl) ?_)
           exact ⟨eP (by unfold fE;dsimp only;rw [if_neg h0,if_neg h1,if_pos (by unfold dI;rw [if_neg h2,dH hr (by simp [trB,e3]),Bool.and_false])]),hS.below⟩
          ·have hg93:=hc;clear hc
           have e3:inQ r.t st=true:=by simpa using hg93
           refine aI (d:=93) rfl rfl (aN (o':=1) lY rfl rfl rfl (aI (d:=93) rfl rfl (aS Tryz.isAgg3 rfl (aJ (hS.at_ 0 rfl) rfl) rfl (aI (d:=93) rfl rfl (cS rfl rfl rfl (bU rfl rfl rfl (aH rfl rfl (bV (d:=98) rfl (fun hc=>?_) (fun hc=>?_)))))))))
           ·have hg98:=of_decide_eq_true hc;clear hc
            refine aK (d:=98) rfl rfl rfl rfl (aK (d:=98) rfl rfl rfl rfl (aK (d:=98) rfl rfl rfl rfl (aK (d:=98) rfl rfl rfl rfl (aK (d:=98) rfl rfl rfl rfl (bF rfl rfl rfl (aO (XF.thenN (eZ rfl (aM (aQ (aB rfl rfl (aO (XF.thenN (bR (XF.blkR (XF.thenR (XF.thenR (XF.blkR (XF.thenR (XF.res (cO Tryz.results9 rfl) ?_))))))))))))))))))))
            exact ⟨eP (by unfold fE;dsimp only;rw [if_neg h0,if_neg h1,if_pos (by unfold dI;rw [if_neg h2,dH hr (by simp [trB,show ¬ (-1≤r.g) by omega]),Bool.and_false])]),hS.below⟩
           ·have hg98:=of_decide_eq_false hc;clear hc
            refine aI (d:=98) rfl rfl (aN (o':=1) lY rfl rfl rfl (aI (d:=98) rfl rfl (aS Tryz.isAgg3 rfl (aJ (hS.at_ 0 rfl) rfl) rfl (aI (d:=98) rfl rfl (aN (o':=4) nJ rfl rfl rfl (aI (d:=98) rfl rfl (aS Tryz.isAgg3 rfl (aJ (hS.at_ 1 rfl) rfl) rfl (aI (d:=98) rfl rfl (nO rfl rfl rfl (bU rfl rfl rfl (aO (XF.thenN (bB rfl (fun hc=>?_) (fun hc=>?_))))))))))))))
            ·have hc104:=of_decide_eq_true hc;clear hc
             refine aM (aQ (aB rfl rfl (aO (XF.thenN (bR (XF.blkR (XF.thenR (XF.thenR (XF.blkR (XF.thenR (XF.res (cO Tryz.results9 rfl) ?_)))))))))))
             exact ⟨eP (by unfold fE;dsimp only;rw [if_neg h0,if_neg h1,if_pos (by unfold dI;rw [if_neg h2,dH hr (by simp [trB,show ¬ (r.g < sy) by omega]),Bool.and_false])]),hS.below⟩
            ·have hc104:=of_decide_eq_false hc;clear hc
             refine bJ (XF.blkN (XF.thenN (aQ (aH rfl rfl (cY rfl rfl (IntWalk.i64_in _ (by omega)) rfl (aB rfl rfl (aO ?_)))))))
             exact XF.round (tl - (i+1)) [(1,_),(5,_)] (by omega) ⟨rfl,rfl,trivial⟩ ⟨i+1,by omega,rfl,rfl,gB hr hall (by simp only [trB,e1,e3,Bool.true_and];rw [decide_eq_true (show -1≤r.g by omega),decide_eq_true (show r.g < sy by omega)];rfl),hS.tail.clear⟩
        ·have hc73:=of_decide_eq_false hc;clear hc
         rw [List.take_of_length_le (by omega)] at hall
         have h3:¬ dI st sy fs ts=false:=by unfold dI;rw [if_neg h2,hfb,hall];decide
         refine dX (XF.thenX (XF.thenX (XF.blkX (XF.thenN (aM (aM (aQ (aB rfl rfl (aO (XF.thenN (bP (eA (fun m l W=>∃ i:Nat,i≤tl∧m=tl - i∧l=[(1,.pointer (some ⟨B1,0,none⟩)),(7,.int .i64 (i:Int))]∧(ts.take i).all (fun t=>decide (lI s t.x=0))=true∧St w [(B1,[.int .i64 s.f.tag,.int .i64 s.f.dim,.slice s.f.a s.f.len s.f.cap,.int .i64 st,.int .i64 sy,.slice fa fl fc,.slice ta tl tc],29)] [] [] W) (tl - 0) ([(1,_),(7,_)]) ⟨rfl,rfl,trivial⟩ (⟨0,Nat.zero_le _,rfl,rfl,rfl,hS.clear⟩) ?_))))))))))))
         clear hS
         rintro m l W ⟨i,hi,rfl,rfl,hall2,hS⟩
         refine aM (aM (aQ (aH rfl rfl (aN (o':=6) eW rfl rfl rfl (aS Tryz.isAgg27 rfl (aJ (hS.at_ 0 rfl) rfl) rfl (cJ Tryz.underlying27 rfl rfl (cS rfl rfl rfl (aO (XF.thenN (bB rfl (fun hc=>?_) (fun hc=>?_)))))))))))
         ·have hc109:=of_decide_eq_true hc;clear hc
          have hk:i < tl:=by omega
          obtain ⟨r,hr⟩:∃ r,ts[i]?=some r:=⟨ts[i]'(by omega),by simp [show i < ts.length by omega]⟩
          obtain ⟨b,off,rfl,hcs⟩:=htrow.at_ hr
          have k1:=aD.agree hS.agree (Nat.zero_le _) hcs
          have hri:=htin r (List.mem_of_getElem? hr)
          have k2:aD W b (off+i * 9+3) r.x.f.six:=k1.2.2.2
          refine bJ (XF.thenN (aM (bP (aM (iV (m:=10) bY hS (by kernel_rfl) (by kernel_rfl) rfl (cQ 1 rfl 1 rfl (by kernel_rfl) rfl (fun w hw=>aV (o':=0) lZ rfl rfl) rfl (bI 2 rfl 112 0 rfl (by kernel_rfl) rfl rfl (fun w hw=>aY (vs:=[_,_,_]) Tryz.isAgg25 Tryz.sizeOf25 rfl (aD.agree (aL hw 0) (Nat.zero_le _) (aD.own (j:=0) (m:=3) (hS.at_ 0 rfl) rfl))) rfl (cQ 3 rfl 1 rfl (by kernel_rfl) rfl (fun w hw=>aV (o':=6) eW rfl rfl) rfl (bI 4 rfl 114 2 rfl (by kernel_rfl) rfl rfl (fun w hw=>aZ Tryz.isAgg27 rfl ((aL hw 0).cell (Nat.zero_le _) (aJ (hS.at_ 0 rfl) rfl))) rfl (cQ 5 rfl 7 rfl (by kernel_rfl) rfl (fun w hw=>aW rfl) rfl (aG 6 rfl (isV _) (aC _) (rgV (li:=[(115,_),(116,_)]) rfl (aT rfl) ⟨aP 3 (by kernel_rfl) (aA rfl rfl rfl),aP 4 (by kernel_rfl) (aA rfl rfl rfl),trivial⟩ (fun w hw=>aX  Tryz.underlying27 Tryz.sizeOf66 rfl rfl rfl (by omega) rfl) (aE rfl)) (bI 7 rfl 117 5 rfl (by kernel_rfl) rfl rfl (fun w hw=>aV vT rfl rfl) rfl (bI 8 rfl 118 6 rfl (by kernel_rfl) rfl rfl (fun w hw=>aY (vs:=[_,_,_,_,_,_]) Tryz.isAgg44 Tryz.sizeOf44 rfl (aD.agree (aL hw 0) (Nat.zero_le _) (k2))) rfl ?_)))))))))))))
          refine aG 9 rfl (isV (.int .i64 (lI s r.x))) (aC _) (cP [isV _,isV _] rfl goes_34 (aT rfl) ⟨bW (aP 1 (by kernel_rfl) (aA rfl rfl rfl)),bW (aP 7 (by kernel_rfl) (aA rfl rfl rfl)),trivial⟩ (fun vs w' hb hh=>by have e:=bZ (us:=[_,_]) hh;subst e;exact (Id ds d s r.x _ (SIn.below (hS.below.trans (hb.mono hS.below.size)) hs) (WIn.below (hS.below.trans (hb.mono hS.below.size)) hri)).mono fun e w2 h=>⟨_,h.1,rfl,h.2⟩) (aE rfl)) ?_
          refine bI 10 rfl 120 8 rfl (by kernel_rfl) rfl rfl (fun w hw=>yY rfl rfl) rfl (dE ?_)
          intro W10 hbR hS'
          clear hS;have hS:=hS';clear hS'
          refine aF (aF (aF (aF (aF (aF (aF (aF (aF (aF (cI (XF.thenN (bB rfl (fun hc=>?_) (fun hc=>?_)))))))))))))
          ·have hc121:=hc;clear hc
           refine aM (aQ (aB rfl rfl (aO (XF.thenN (bR (XF.blkR (XF.thenR (XF.thenR (XF.blkR (XF.thenR (XF.res (cO Tryz.results9 rfl) ?_)))))))))))
           exact ⟨eP (by unfold fE;dsimp only;rw [if_neg h0,if_neg h1,if_neg h3,if_neg (by rw [dH hr (decide_eq_false (by simpa using hc121))];decide)]),hS.below⟩
          ·have hc121:=hc;clear hc
           refine bJ (XF.blkN (XF.thenN (aQ (aH rfl rfl (cY rfl rfl (IntWalk.i64_in _ (by omega)) rfl (aB rfl rfl (aO ?_)))))))
           exact XF.round (tl - (i+1)) [(1,_),(7,_)] (by omega) ⟨rfl,rfl,trivial⟩ ⟨i+1,by omega,rfl,rfl,gB hr hall2 (by simpa using hc121),hS.clear⟩
         ·have hc109:=of_decide_eq_false hc;clear hc
          rw [List.take_of_length_le (by omega)] at hall2
          refine dX (XF.thenX (XF.thenX (XF.blkX (XF.thenN (aM (aQ (aB rfl rfl (aO (XF.thenN (bR (XF.res (cO Tryz.results9 rfl) ?_)))))))))))
          exact ⟨eP (by unfold fE;dsimp only;rw [if_neg h0,if_neg h1,if_neg h3,if_pos hall2]),hS.below⟩
theorem Uf (ds d:Nat) (a:AV) (w:World) (h:AIn w ds d a):Calls Tryz.prog 9 #[a.val] w (fun e w'=>e = .returned (.int .i64 (fE a))∧Below w.heap.size w w'):=autoR_c ds d _ _ _ _ _ _ _ _ _ _ _ w h.s h.frow h.flen h.trow h.tlen h.tin h.fmax h.tmax
theorem goes_8:bK Tryz.prog 8=true:=by kernel_rfl
theorem goes_9:bK Tryz.prog 9=true:=by kernel_rfl
theorem inf_4:Tryz.prog.info? 4=some Tryz.t4:=by kernel_rfl
theorem M1 {w:World} {lo n size:Nat} {e:TypeId} {v:Value} {xs:List Value} (h:w.ownsRow lo e size v n xs):∃ a c,v = .slice a n c:=by
 rcases h.2 with ⟨h1,h2⟩ | ⟨g,c,_,h1,_⟩
 ·subst h2;exact ⟨none,0,h1⟩
 ·exact ⟨_,c,h1⟩
section
variable {P:Program} {ops:Array Oper} {Q:Exit→Act→World→Prop} {σ:Type}
theorem Dx {ops:Array Oper} {k:Nat} (hk:ops.size=k):Dr ops k=true:=List.all_eq_true.2 fun j hj=>by
 rw [decide_eq_true (show j < k by have:=List.mem_range.1 hj;omega)];rfl
theorem Im {L:Array Bool} {i:Nat} (h:L.size≤i):L.getD i false=false:=by
 rw [Array.getD_eq_getD_getElem?,Array.getElem?_eq_none (by omega)];rfl
theorem Cf {t0:Array Value} {d0:List Deferred} {G:σ→World→Prop} {I:σ→Nat→Value→World→Prop} {V:σ→Array Bool→Prop} {k:Nat} (hk:ops.size=k) (ht:eL ops t0.size=true)
  (hstep:∀ i,i < k→Tv P ops Q t0 G I V i)
  (hfin:∀ s L a w,RInvG ops t0 d0 G I V s L a w→(∀ i,i < k→L.getD i false=true)→wpList P ops Q (ops.toList.drop k) a w) :
  ∀ (fuel:Nat) (s:σ) (L:Array Bool) (a:Act) (w:World),L.size=ops.size→L.toList.count false≤fuel→kX ops L→RInvG ops t0 d0 G I V s L a w→wpAny P .any ops Q fuel L a w:=by
 intro fuel
 induction fuel with
 | zero =>
  intro s L a w hs hc hcl h
  have hall:∀ i,i < k→L.getD i false=true:=fun i hi=>by
   cases hb:L.getD i false with
   | true=>rfl
   | false =>
    have:=fY _ _ (rF (by omega) hb)
    omega
  exact vI (fun _ _=>trivial) (Dx hk) ht 0 k 0 L a w (by omega) (Nat.le_refl _) (Nat.le_refl _) hs hcl hall (fun i hi=>Im (by omega)) (hfin s L a w h hall)
 | succ fuel ih =>
  intro s L a w hs hc hcl h
  by_cases hall:∀ i,i < k→L.getD i false=true
  ·exact vI (fun _ _=>trivial) (Dx hk) ht 0 k (fuel+1) L a w (by omega) (Nat.le_refl _) (Nat.zero_le _) hs hcl hall (fun i hi=>Im (by omega)) (hfin s L a w h hall)
  ·refine ⟨fun hr=>?_,fun i hi=>?_⟩
   ·exfalso;apply hall
    intro i hi
    have h1:=hQ ht hs hr i (by omega)
    rw [Array.getD_eq_getD_getElem?,Array.getElem?_eq_getElem (by omega)] at h1 ⊢
    simpa using h1
   ·obtain ⟨his,hr⟩:=vH hi hs
    have hik:i < k:=by omega
    have hc1:=fY _ _ (rF (by omega) hr.1)
    refine wpOp_mono ?_ (hstep i hik s L a w (fun t ht=>h.frame t ht) h.glob h.cons hs hcl hr (fun j d hw=>?_))
    ·rintro a' w' ⟨s',v,rfl,hV,hG,hI,hst⟩
     refine ih s' _ _ _ (by simpa using hs) ?_ (hcl.next hr (by omega)) ⟨by rw [mG];exact h.size,by rw [jC];exact h.defers,fun t hf=>?_,hG,hV,fun j d hd hj=>?_⟩
     ·rw [Array.toList_setIfInBounds];omega
     ·rw [fM ?_]
      ·exact h.frame t hf
      ·intro hd
       obtain ⟨o,ho,hd⟩:=Option.bind_eq_some_iff.1 hd
       have:=Array.all_eq_true'.1 hf o (Array.mem_of_getElem? ho)
       simp [hd] at this
     ·by_cases hji:j=i
      ·subst hji
       rw [sZ hd (by rw [h.size];exact (gW ht hd).1)]
       exact hI d hd
      ·rw [getD_set_ne false (Ne.symm hji)] at hj
       rw [fM (fun e=>hji ((gW ht e).2 j hd))]
       exact hst j d hd (h.done j d hd hj)
    ·have:j∈aft ops i:=by
      unfold bM at hw
      unfold aft
      cases ho:ops[i]? with
      | none=>simp [ho] at hw
      | some o =>
       simp only [ho,Bool.and_eq_true,beq_iff_eq] at hw
       obtain ⟨e,he,h2⟩:=Array.any_eq_true'.1 hw.1
       simp only [Bool.and_eq_true,beq_iff_eq] at h2
       exact List.mem_map.2 ⟨e,List.mem_filter.2 ⟨Array.mem_toList_iff.2 he,h2.2⟩,h2.1⟩
     have hd:(ops[j]?).bind (·.dst)=some d:=by
      unfold bM at hw
      simp only [Bool.and_eq_true,beq_iff_eq] at hw
      exact hw.2
     exact h.done j d hd (hr.2 j this)
end
section
variable {P:Program} {n:Nat} {Q:Exit→Act→World→Prop} {l:Fr} {w0 W:World} {ops:Array Oper} {os:List Oper} {K:List (Nat×World)} {L:List Asr} {i:Nat}
variable {al:List Nat} {ca:Nat→Option Value→List Value} {ta:Nat→TypeId} {Os:Option Value→Own} {Gs:Option Value→dC} {lo ef jy:Nat} {s:Sg}
variable {d:Nat} {op:Op} {ty:TypeId} {pos:String} {aft_:Array Edge} {v:Value} {gd:Option (Nat×Bool)}
theorem Ug {id k:Nat} {ds:List Nat} (hm:P.follows .mixedOrders=true) (hlo:lo=W.heap.size) (hS:St w0 (Os none) (Gs none) K W) (hk:os.length=k) (ht:eL os.toArray n=true) (hal:al.all (fun a=>Nat.blt a k)=true) (hnd:al.Nodup) (hea:al.contains ef=false)
  (hev:Nat.blt ef k=true) (hdst:(List.range k).all (fun j=>Nat.beq j ef || ((os.toArray[j]?).bind (·.dst)).isSome)=true) (hds:(os.drop k).all (fun o=>match o.dst with | some d=>ds.contains d | none=>true)=true)
  (h:BLS P n os.toArray Q l w0 K lo al ef jy ca ta Os Gs (fun Lr=>∀ (Bf:Nat→Nat) (y:Value) (W':World) (Ks:List (Nat×World)),W.heap.size≤W'.heap.size→(∀ q∈Ks,lo≤q.1)→St w0 (al.map (fun a=>(Bf a,ca a (some y),ta a))++Os (some y)) (Gs (some y)) (Ks++K) W' →
   (∀ {O2 G2 K2 W2},St w0 O2 G2 K2 W2→(∀ q∈Ks,q∈K2)→iY lo (XB (al.map (fun a=>(Bf a,ca a (some y),ta a))++Os (some y)) (Gs (some y))) W' W2) →
   lB (os.take k) (Kx al ef jy lo (XB (al.map (fun a=>(Bf a,ca a (some y),ta a))++Os (some y)) (Gs (some y))) Bf y 0 Lr.reverse) (sV ds l) (fun l' W'=>cW P n os.toArray Q (os.drop k) l' W') W') k [] 0):fP P n (.region id os.toArray true) Q l W:=by
 obtain ⟨Lr,h1,h2,hfin⟩:=Fu ht k 0 [] rfl (fun j _=>by rfl) (fun i hi=>by omega) h
 rw [Nat.zero_add] at h1 h2
 have hal':∀ a∈al,a < k:=fun a ha=>Nat.lt_of_lt_of_le (Nat.lt_succ_self _) (Nat.le_of_ble_eq_true (List.all_eq_true.1 hal a ha))
 have hea':ef∉al:=fun h=>by rw [List.contains_iff_mem.2 h] at hea;cases hea
 intro a ha
 refine wp_region_any hm (Cf (t0:=a.tmps) (d0:=a.defers) (V:=VG al ef) (I:=IG al ef jy lo ca ta Os Gs Lr.reverse) (G:=GG w0 K lo ca ta Os Gs) (k:=k) (by simpa using hk) (by rw [ha.size];exact ht) (fun i hi=>(h2 i hi).step a ha) ?_ _ ⟨none,[]⟩ _ _ _ (by simp) (jI _) (fun j hj=>by rw [Array.getD_eq_getD_getElem?,Array.getElem?_replicate] at hj;split at hj<;>simp at hj) ⟨rfl,rfl,fun _ _=>rfl,⟨by unfold OE;exact hS.drew,by rw [hlo];exact Nat.le_refl _,(fun q hq=>by cases hq)⟩,⟨fun a _=>?_,(fun q hq=>by cases hq),List.Pairwise.nil,?_⟩,fun i d _ hj=>?_⟩)
 ·intro s LB a' W' hR hdone
  obtain ⟨hG,hG2,hG3⟩:=hR.glob
  obtain ⟨v1,v2,v3,v4⟩:=hR.cons
  obtain ⟨ev,bs⟩:=s
  have hall:∀ x∈al,(x,bAt bs x)∈bs:=fun x hx=>Fv ((v1 x hx).1 (hdone x (hal' x hx)))
  obtain ⟨y,hy⟩:∃ y,ev=some y:=by
   have h3:ev.isSome=true:=v4.1 (hdone ef (Nat.lt_of_lt_of_le (Nat.lt_succ_self _) (Nat.le_of_ble_eq_true hev)))
   exact Option.isSome_iff_exists.1 h3
  subst hy
  have hperm:bs.Perm (al.map (fun x=>(x,bAt bs x))):=by
   refine (List.perm_ext_iff_of_nodup (v3.imp (fun h e=>h (by rw [e]))) ?_).2 fun q=>?_
   ·refine List.Pairwise.map _ (fun x y (hxy:x≠y)=>?_) hnd
    intro e;exact hxy (congrArg Prod.fst e)
   ·constructor
    ·intro hq
     have h3:=hall q.1 (v2 q hq)
     have h4:=vL v3 hq h3 rfl
     rw [h4]
     exact List.mem_map.2 ⟨q.1,v2 q hq,rfl⟩
    ·intro hq
     obtain ⟨x,hx,rfl⟩:=List.mem_map.1 hq
     exact hall x hx
  have hO:(OE ca ta Os ⟨some y,bs⟩).Perm (al.map (fun a=>(bAt bs a,ca a (some y),ta a))++Os (some y)):=by
   unfold OE
   refine List.Perm.append_right _ ?_
   have:=hperm.map (fun q:Nat×Nat=>(q.2,ca q.1 (some y),ta q.1))
   rw [List.map_map] at this
   exact this
  have hG':=hG.perm hO
  have hX:∀ b,XB (OE ca ta Os ⟨some y,bs⟩) (Gs (some y)) b↔XB (al.map (fun a=>(bAt bs a,ca a (some y),ta a))++Os (some y)) (Gs (some y)) b:=fun b=>by
   unfold XB
   constructor
   ·rintro (⟨p,hp,e⟩ | h);exact .inl ⟨p,hO.mem_iff.1 hp,e⟩;exact .inr h
   ·rintro (⟨p,hp,e⟩ | h);exact .inl ⟨p,hO.mem_iff.2 hp,e⟩;exact .inr h
  obtain ⟨Ks,c1,⟨qw,c2,c3⟩,c4⟩:=T3 (((al.map (fun a=>(bAt bs a,ca a (some y),ta a))++Os (some y)).map (·.1))++(Gs (some y)).filterMap (fun g=>g.v.ownBlock)) lo W'
  have hG4:=hG'.more Ks (fun q hq=>⟨(c1 q hq).2.1,fun p hp=>(c1 q hq).2.2 p.1 (List.mem_append_left _ (List.mem_map.2 ⟨p,hp,rfl⟩)),fun g hg b hb=>(c1 q hq).2.2 b (List.mem_append_right _ (List.mem_filterMap.2 ⟨g,hg,hb⟩))⟩)
  have hcov:∀ {O2 G2 K2 W2},St w0 O2 G2 K2 W2→(∀ q∈Ks,q∈K2)→iY lo (XB (al.map (fun a=>(bAt bs a,ca a (some y),ta a))++Os (some y)) (Gs (some y))) W' W2:=fun {O2 G2 K2 W2} h2 hq=>by
   refine ⟨⟨h2.below.os.trans hG.below.os.symm,h2.below.tape.trans hG.below.tape.symm,h2.below.output.trans hG.below.output.symm⟩,?_,fun b b1 b2 b3=>?_⟩
   ·have:=(h2.kept qw (hq qw c2)).1.1;rw [c3] at this;exact this
   ·obtain ⟨q,q1,q2,q3⟩:=c4 b b1 b2 (fun hb=>b3 (by
     rcases List.mem_append.1 hb with hb | hb
     ·obtain ⟨p,hp,rfl⟩:=List.mem_map.1 hb
      exact .inl ⟨p,hp,rfl⟩
     ·obtain ⟨g,hg,e⟩:=List.mem_filterMap.1 hb
      exact .inr ⟨g,hg,e⟩))
    exact ((h2.kept q (hq q q1)).1.2 b q2 q3).trans ((c1 q q1).2.1.2 b q2 q3).symm
  have htk:(os.take k).length=k:=by simp;omega
  refine vK (os.take k) (Kx al ef jy lo (XB (al.map (fun a=>(bAt bs a,ca a (some y),ta a))++Os (some y)) (Gs (some y))) (bAt bs) y 0 Lr.reverse) (sV ds l) (fun i d hi hd'=>?_) (fun i hi hd'=>?_) (hR.size.trans ha.size) (hR.defers.trans ha.defers) ?_ (fun l' h ha'=>?_) (hfin (bAt bs) y W' Ks (by rw [← hlo];exact hG2) (fun q hq=>(c1 q hq).1) hG4 hcov)
  ·have hik:i < k:=by omega
   have hd2:(os.toArray[i]?).bind (·.dst)=some d:=by rw [List.getElem?_take,if_pos hik] at hd';simpa using hd'
   obtain ⟨i1,i2,i3,i4⟩:=hR.done i d hd2 (hdone i hik)
   rw [rH Lr.reverse 0 i (by simp;omega),Nat.add_zero]
   cases hc1:al.contains i with
   | true =>
    rw [cond_true]
    obtain ⟨B,hB,e⟩:=i1 (List.contains_iff_mem.1 hc1)
    have:=vL v3 hB (hall i (List.contains_iff_mem.1 hc1)) rfl
    show _=_
    rw [e,show B=bAt bs i from congrArg Prod.snd this]
   | false =>
    rw [cond_false]
    have hni:i∉al:=fun hm'=>by rw [List.contains_iff_mem.2 hm'] at hc1;cases hc1
    cases hc2:Nat.beq i ef with
    | true =>
     rw [cond_true]
     have h5:=i2 (Nat.eq_of_beq_eq_true hc2)
     exact (Option.some.inj h5).symm
    | false =>
     rw [cond_false]
     have hne:i≠ef:=fun e=>by rw [e,Nat.beq_refl] at hc2;cases hc2
     have h6:AwS lo (XB (al.map (fun a=>(bAt bs a,ca a (some y),ta a))++Os (some y)) (Gs (some y))) (atI Lr.reverse i) (a'.tmps.getD d undef) W':=fun w2 hw2=>i4 hni hne w2 ⟨hw2.1,hw2.2.1,fun b b1 b2 b3=>hw2.2.2 b b1 b2 (fun hb=>b3 ((hX b).2 hb))⟩
     cases hc3:Nat.beq i jy with
     | true =>
      rw [cond_true]
      refine ⟨?_,h6⟩
      exact i3 (Nat.eq_of_beq_eq_true hc3) y rfl
     | false=>rw [cond_false];exact h6
  ·have hik:i < k:=by omega
   have h3:=List.all_eq_true.1 hdst i (List.mem_range.2 hik)
   rw [Bool.or_eq_true] at h3
   have hd2:(os.toArray[i]?).bind (·.dst)=none:=by rw [List.getElem?_take,if_pos hik] at hd';simpa using hd'
   rcases h3 with h3 | h3
   ·rw [rH Lr.reverse 0 i (by simp;omega),Nat.add_zero]
    have hc1:al.contains i=false:=by rw [Nat.eq_of_beq_eq_true h3];exact hea
    rw [hc1,cond_false,h3,cond_true]
    exact ⟨y,rfl⟩
   ·rw [hd2] at h3;cases h3
  ·intro t v hv hno
   have hl:=pN hv (gL hv)
   have hnt:=gL hv
   rw [hR.frame t ?_]
   ·exact ha.at_ t v hl
   ·unfold freeT;rw [Array.all_eq_true'];intro o' ho'
    have ho2:o'∈os:=by simpa using ho'
    rw [← List.take_append_drop k os] at ho2
    rcases List.mem_append.1 ho2 with ho2 | ho2
    ·simpa using hno o' ho2
    ·have h5:=List.all_eq_true.1 hds o' ho2
     cases hx:o'.dst with
     | none=>simp
     | some d =>
      rw [hx] at h5
      simp
      intro e;subst e
      exact hnt (List.contains_iff_mem.1 h5)
  ·have:=h a' ha'
   simpa using this
 ·rw [Array.getD_eq_getD_getElem?,Array.getElem?_replicate]
  constructor
  ·intro h3;split at h3<;>simp at h3
  ·rintro ⟨B,hB⟩;cases hB
 ·rw [Array.getD_eq_getD_getElem?,Array.getElem?_replicate]
  constructor
  ·intro h3;split at h3<;>simp at h3
  ·intro h3;cases h3
 ·rw [Array.getD_eq_getD_getElem?,Array.getElem?_replicate] at hj
  split at hj<;>simp at hj
end
section
variable {P:Program} {n:Nat} {Q:Exit→Act→World→Prop} {l:Fr} {w0 W:World} {ops:Array Oper} {os:List Oper} {K:List (Nat×World)} {L:List Asr} {i:Nat} {O:Own} {G:dC}
variable {al:List Nat} {zc:Nat→List Value} {ta:Nat→TypeId} {lo ef jy:Nat} {d:Nat} {ty:TypeId} {pos:String} {aft_:Array Edge} {v:Value}
def osY (O:Own) (j jx B:Nat) (cs:List Value) (U:TypeId):Option Value→Own
 | none=>O
 | some y=>O.set j (B,jE cs jx y.cells.toList,U)
theorem pT {O:Own} {j jx B i:Nat} {cs:List Value} {U:TypeId} {ev:Option Value} {p:Nat×List Value×TypeId} (h:O[i]?=some p) (hij:Nat.beq i j=false):(osY O j jx B cs U ev)[i]?=some p:=by
 cases ev with
 | none=>exact h
 | some y =>
  show (O.set j _)[i]?=_
  rw [List.getElem?_set_ne (fun e=>by rw [e,Nat.beq_refl] at hij;cases hij)];exact h
theorem vV {T U:TypeId} {x:Operand} {tyy B m:Nat} {cs:List Value} {py:Asr} (j jx:Nat) (li:Fr) (hal:al.contains ef=false) (hij:Nat.beq ef jy=false) (hi:ops[ef]?=some ⟨none,.store T x (.tmp tyy),ty,pos,aft_,none⟩) (hjy:(ops[jy]?).bind (·.dst)=some tyy) (hwy:bM ops ef jy tyy=true) (hja:al.contains jy=false) (hLy:atI L jy=py) (hNo:sU al ef L) (hli:xY n ops l L ef li) (hx:evL li x=some (.pointer (some ⟨B,jx,none⟩)))
  (hO:O[j]?=some (B,cs,U)) (hsz:∀ w,(sizeOf T).run P w = .ok m w) (hpy:∀ v w,py v w→∃ vs:List Value,v.cells=vs.toArray∧vs.length=m∧vs.all Value.oneCell'=true) (hjm:Nat.ble (jx+m) cs.length=true):SG P n ops Q l w0 K lo al ef jy (pO zc) ta (osY O j jx B cs U) (xB G) L ef :=
 Tz hal hij hi fun t0 a bs w h0 hF hG hbs hD=>by
  have hD':=A3 h0 hF hD (fun j d _ hj=>hNo j hj)
  have ex:=jU h0 hF hD' hli x _ hx
  have hy:=((hD jy tyy hwy).2.2.2 (fun h=>by rw [List.contains_iff_mem.2 h] at hja;cases hja) (fun e=>by rw [e,Nat.beq_refl] at hij;cases hij)).here
  rw [hLy] at hy
  obtain ⟨vs,hc,hl,h1⟩:=hpy _ _ hy
  have hcl:(a.eval (.tmp tyy)).cells.toList=vs:=by rw [hc]
  have hOk:(OE (pO zc) ta (osY O j jx B cs U) ⟨none,bs⟩)[bs.length+j]?=some (B,cs,U):=by
   unfold OE
   rw [List.getElem?_append_right (by simp)]
   simpa [osY] using hO
  have hXB:XB (OE (pO zc) ta (osY O j jx B cs U) ⟨none,bs⟩) (xB G none) B:=.inl ⟨_,List.mem_of_getElem? hOk,rfl⟩
  have hrun:=vM (P:=P) hsz hc hl h1 (hG.1.at_ _ hOk) (j:=jx) (Nat.le_of_ble_eq_true hjm)
  have hO':OE (pO zc) ta (osY O j jx B cs U) ⟨some (a.eval (.tmp tyy)),bs⟩=(OE (pO zc) ta (osY O j jx B cs U) ⟨none,bs⟩).set (bs.length+j) (B,jE cs jx vs,U):=by
   unfold OE
   rw [List.set_append_right _ _ (by simp)]
   congr 1
   simp [osY,hcl]
  refine Ie hi rfl rfl rfl (by rw [ex];exact hrun) ⟨undef,a.eval (.tmp tyy),rfl,(fun d hd=>by cases hd),?_,sX hXB,?_,fun d hd=>?_⟩
  ·rw [hO']
   exact hG.1.setMany _ vs jx hOk
  ·rintro b (⟨p,hp,rfl⟩ | h)
   ·rw [hO'] at hp
    rcases List.mem_or_eq_of_mem_set hp with hp | rfl
    ·exact .inl (.inl ⟨p,hp,rfl⟩)
    ·exact .inl hXB
   ·exact .inl (.inr h)
  ·rw [hjy] at hd;cases hd;rfl
end
section
variable {P:Program} {n:Nat} {Q:Exit→Act→World→Prop} {l:Fr} {w0 W:World} {ops:Array Oper} {os:List Oper} {K:List (Nat×World)} {L:List Asr} {i:Nat}
variable {al:List Nat} {ca:Nat→Option Value→List Value} {ta:Nat→TypeId} {Os:Option Value→Own} {Gs:Option Value→dC} {lo ef jy:Nat} {s:Sg}
variable {d:Nat} {op:Op} {ty:TypeId} {pos:String} {aft_:Array Edge} {v:Value} {gd:Option (Nat×Bool)}
end
theorem xE {lo:Nat} {W:World} {a:Option Addr} {c:Nat} {xs:List Int} (h:If lo W a c xs):xs.length≤maxLen:=by
 rcases h.2 with ⟨e1,e2⟩ | ⟨g,cap,cur,e1,_,_,hn,hm,_⟩
 ·omega
 ·omega
end Go.Proofs.YtmgnkpibpjgncaaGreatDoor
namespace Go.Proofs.YtmgnkpibpjgncaaGreatDoor
open Go.RowKit Go.ChangeShapes Go.WideShapes Go.Deep
section
variable {H:Type} {enc:TypeId×Value→H} {w:World} {base:Nat} {spare:Nat→Bool} {held:Bool}
theorem Dy {cs:List Value} (h:cs.length=3):∃ a b c,cs=[a,b,c]:=by
 match cs,h with
 | [a,b,c],_=>exact ⟨a,b,c,rfl⟩
theorem Py {n:Nat} {cs:List Value} {x:DataW H×List MemPlace} (hl:cs.length=3) (h:DataW.trod enc Tryz.prog w base spare held n 105 cs=some x) :
  ∃ c:Cl,c.f < 18446744073709551616∧cs=[.int .u64 (c.f:Int),.int .i64 c.k,.int .i64 c.v]:=by
 obtain ⟨xs,n',_,hx,_,hlen,hg⟩:=DataW.trod_struct Tryz.underlying105 h
 obtain ⟨a,b,c,rfl⟩:=Dy hl
 ·skip
  have hlen3:xs.length=3:=hlen
  have g0:=hg 0 _ rfl
  have g1:=hg 1 _ rfl
  have g2:=hg 2 _ rfl
  rw [show Tryz.prog.cellsOf _=1 by kernel_rfl,List.getElem?_eq_getElem (by omega)] at g0 g1 g2
  obtain ⟨z0,e0,_,w0⟩:=DataW.trod_int Tryz.underlying37 g0
  obtain ⟨z1,e1,_,w1⟩:=DataW.trod_int (k:=.i64) (by kernel_rfl) g1
  obtain ⟨z2,e2,_,w2⟩:=DataW.trod_int (k:=.i64) (by kernel_rfl) g2
  simp at e0 e1 e2
  subst e0 e1 e2
  have hw:0≤z0∧z0≤18446744073709551615:=by simpa [Lit.wf,IntKind.signed,IntKind.bits,IntKind.min,IntKind.max] using w0
  exact ⟨⟨z0.toNat,z1,z2⟩,by show z0.toNat < _;omega,by simp;omega⟩
theorem M2:∀ (n:Nat) (p:Nat→Cl→Prop),(∀ i,i < n→∃ c,p i c)→∃ xs:List Cl,xs.length=n∧∀ i c,xs[i]?=some c→p i c
 | 0,p,h=>⟨[],rfl,fun i c hi=>by simp at hi⟩
 | n+1,p,h=>by
  obtain ⟨xs,hl,hp⟩:=M2 n p (fun i hi=>h i (by omega))
  obtain ⟨c,hc⟩:=h n (by omega)
  refine ⟨xs++[c],by simp [hl],fun i d hi=>?_⟩
  rcases Nat.lt_or_ge i n with h1 | h1
  ·rw [List.getElem?_append_left (by omega)] at hi
   exact hp i d hi
  ·obtain ⟨h2,_⟩:=List.getElem?_eq_some_iff.1 hi
   simp [hl] at h2
   obtain rfl:i=n:=by omega
   rw [List.getElem?_append_right (by omega),hl,Nat.sub_self] at hi
   simp at hi
   subst hi
   exact hc
theorem Le {n:Nat} {a:Option Addr} {len cap:Nat} {x:DataW H×List MemPlace} (h:DataW.trod enc Tryz.prog w base spare held n 41 [.slice a len cap]=some x) :
  ∃ xs,IsCells w a len cap xs:=by
 rcases open_slice Tryz.underlying41 h with ⟨hcs,_⟩ | ⟨ad,len',cap',m,n',D,Pl,hcs,hb,hl,hm,hmm,hx,hi⟩
 ·simp at hcs
  obtain ⟨rfl,rfl,rfl⟩:=hcs
  exact ⟨[],rfl,by simp,.inl rfl,fun c hc=>by simp at hc⟩
 ·simp at hcs
  obtain ⟨rfl,rfl,rfl⟩:=hcs
  rw [show Tryz.prog.cellsOf 105=3 by kernel_rfl] at hi
  obtain ⟨xs,hxl,hxs⟩:=M2 len (fun i c=>c.f < 18446744073709551616∧w.cell? (ad.add (i * 3))=some (.int .u64 (c.f:Int))∧w.cell? (ad.add (i * 3+1))=some (.int .i64 c.k)∧w.cell? (ad.add (i * 3+2))=some (.int .i64 c.v)) (fun i hil=>by
   obtain ⟨cs',hc,ht⟩:=hi i (by rw [hmm];split<;>omega)
   obtain ⟨_,hcl,hat⟩:=World.cells?_some hc
   obtain ⟨c,hf,rfl⟩:=Py hcl ht
   have e0:=hat 0 (by omega)
   have e1:=hat 1 (by omega)
   have e2:=hat 2 (by omega)
   rw [add_add] at e0 e1 e2
   exact ⟨c,hf,e0,e1,e2⟩)
  refine ⟨xs,hxl.symm,by omega,?_,fun c hc=>?_⟩
  ·rcases Nat.eq_zero_or_pos len with h0 | h0
   ·exact .inl (List.length_eq_zero_iff.1 (by omega))
   ·obtain ⟨b,off,spot⟩:=ad
    obtain ⟨_,h1,_,_⟩:=hxs 0 (xs[0]'(by omega)) (List.getElem?_eq_getElem (by omega))
    have hspot:spot=none:=by simpa [Addr.add] using World.cell?_spot h1
    subst hspot
    refine .inr ⟨b,off,rfl,fun i c hic=>?_⟩
    have e:∀ k,({ block:=b,off:=off }:Addr).add k=⟨b,off+k,none⟩:=fun k=>by simp [Addr.add]
    have h3:=(hxs i c hic).2
    rw [e,e,e,← Nat.add_assoc,← Nat.add_assoc] at h3
    exact h3
  ·obtain ⟨i,hi',hic⟩:=List.mem_iff_getElem.1 hc
   exact (hxs i c (by rw [← hic];exact List.getElem?_eq_getElem hi')).1
end
section
variable {H:Type} {enc:TypeId×Value→H} {w:World} {base:Nat} {spare:Nat→Bool} {held:Bool}
theorem Lf {n:Nat} {cs:List Value} {x:DataW H×List MemPlace} (h:DataW.trod enc Tryz.prog w base spare held n 41 cs=some x):∃ a len cap,cs=[.slice a len cap]:=by
 rcases open_slice Tryz.underlying41 h with ⟨hcs,_⟩ | ⟨ad,len',cap',m,n',D,Pl,hcs,_⟩
 ·exact ⟨_,_,_,hcs⟩
 ·exact ⟨_,_,_,hcs⟩
end
end Go.Proofs.YtmgnkpibpjgncaaGreatDoor
namespace Go.Proofs.YtmgnkpibpjgncaaGreatDoor
open Go.RowKit Go.ChangeShapes Go.WideShapes Go.Deep Go.Joins
theorem sK {α:Type}:∀ (n:Nat) (p:Nat→α→Prop),(∀ i,i < n→∃ c,p i c)→∃ xs:List α,xs.length=n∧∀ i c,xs[i]?=some c→p i c
 | 0,p,h=>⟨[],rfl,fun i c hi=>by simp at hi⟩
 | n+1,p,h=>by
  obtain ⟨xs,hl,hp⟩:=sK n p (fun i hi=>h i (by omega))
  obtain ⟨c,hc⟩:=h n (by omega)
  refine ⟨xs++[c],by simp [hl],fun i d hi=>?_⟩
  rcases Nat.lt_or_ge i n with h1 | h1
  ·rw [List.getElem?_append_left (by omega)] at hi
   exact hp i d hi
  ·obtain ⟨h2,_⟩:=List.getElem?_eq_some_iff.1 hi
   simp [hl] at h2
   obtain rfl:i=n:=by omega
   rw [List.getElem?_append_right (by omega),hl,Nat.sub_self] at hi
   simp at hi
   subst hi
   exact hc
theorem SIn.more {w:World}:∀ {d e:Nat} {s:SV},d≤e→SIn w d s→SIn w e s
 | 0,_,_,_,h=>h.elim
 | d+1,0,_,hl,_=>by omega
 | d+1,e+1,.mk f ps,hl,⟨h1,h2,h3⟩=>⟨h1,h2,fun p hp=>SIn.more (by omega) (h3 p hp)⟩
theorem WIn.more {w:World}:∀ {d e:Nat} {s:WV},d≤e→WIn w d s→WIn w e s
 | 0,_,_,_,h=>h.elim
 | d+1,0,_,hl,_=>by omega
 | d+1,e+1,.mk f ps,hl,⟨h0,h1,h2,h3⟩=>⟨h0,h1,h2,fun p hp=>WIn.more (by omega) (h3 p hp)⟩
theorem six_len {cs:List Value} (h:cs.length=6):∃ a b c d e f,cs=[a,b,c,d,e,f]:=by
 match cs,h with
 | [a,b,c,d,e,f],_=>exact ⟨a,b,c,d,e,f,rfl⟩
section
variable {H:Type} {enc:TypeId×Value→H} {w:World} {base:Nat} {spare:Nat→Bool} {held:Bool}
theorem Uh:∀ (fuel:Nat) {cs:List Value} {x:DataW H×List MemPlace},DataW.trod enc Tryz.prog w base spare held fuel 25 cs=some x→∃ s:SV,cs=[.int .i64 s.f.tag,.int .i64 s.f.dim,.slice s.f.a s.f.len s.f.cap]∧SIn w fuel s:=by
 intro fuel
 induction fuel using Nat.strongRecOn with
 | _ fuel ih =>
 intro cs x h
 obtain ⟨xs,n,hn,_,hl,hlen,hg⟩:=DataW.trod_struct Tryz.underlying25 h
 rw [show Tryz.prog.cellsOf 25=3 by kernel_rfl] at hl
 obtain ⟨a,b,c,rfl⟩:=Dy hl
 have hlen3:xs.length=3:=hlen
 have g0:=hg 0 _ rfl
 have g1:=hg 1 _ rfl
 have g2:=hg 2 _ rfl
 rw [show Tryz.prog.cellsOf _=1 by kernel_rfl,List.getElem?_eq_getElem (by omega)] at g0 g1 g2
 obtain ⟨z0,e0,_,w0⟩:=DataW.trod_int (k:=.i64) (by kernel_rfl) g0
 obtain ⟨z1,e1,_,w1⟩:=DataW.trod_int (k:=.i64) (by kernel_rfl) g1
 simp at e0 e1
 subst e0 e1
 rcases DataW.trod_slice Tryz.underlying23 g2 with ⟨hcs,_⟩ | ⟨ad,len,cap,elems,rest,n',hn',hcs,_,hb,hle,hcap,hel,hi,_,_⟩
 ·simp at hcs
  subst hcs
  subst hn
  exact ⟨.mk ⟨z0,z1,none,0,0⟩ [],rfl,rfl,.inl rfl,fun p hp=>by cases hp⟩
 ·simp at hcs
  subst hcs
  subst hn
  rw [show Tryz.prog.cellsOf 25=3 by kernel_rfl] at hi
  obtain ⟨ps,hpl,hps⟩:=sK len (fun i (p:SV)=>(w.cell? (ad.add (i * 3))=some (.int .i64 p.f.tag)∧w.cell? (ad.add (i * 3+1))=some (.int .i64 p.f.dim)∧w.cell? (ad.add (i * 3+2))=some (.slice p.f.a p.f.len p.f.cap))∧SIn w n' p) (fun i hil=>by
   have hii:=hi i hil
   rw [List.getElem?_eq_getElem (by omega)] at hii
   obtain ⟨cs',hc,ht⟩:=Option.bind_eq_some_iff.1 hii
   obtain ⟨_,hcl,hat⟩:=World.cells?_some hc
   obtain ⟨s,rfl,hs⟩:=ih n' (by omega) ht
   have e0:=hat 0 (by omega)
   have e1:=hat 1 (by omega)
   have e2:=hat 2 (by omega)
   rw [Go.Deep.add_add] at e0 e1 e2
   exact ⟨s,⟨e0,e1,e2⟩,hs⟩)
  refine ⟨.mk ⟨z0,z1,some ad,len,cap⟩ ps,rfl,hpl,?_,fun p hp=>?_⟩
  ·rcases Nat.eq_zero_or_pos len with h0 | h0
   ·exact .inl (List.length_eq_zero_iff.1 (by omega))
   ·obtain ⟨b,off,spot⟩:=ad
    obtain ⟨⟨h1,_,_⟩,_⟩:=hps 0 (ps[0]'(by omega)) (List.getElem?_eq_getElem (by omega))
    have hspot:spot=none:=by simpa [Addr.add] using World.cell?_spot h1
    subst hspot
    refine .inr ⟨b,off,rfl,fun i c hic=>?_⟩
    have e:∀ k,({ block:=b,off:=off }:Addr).add k=⟨b,off+k,none⟩:=fun k=>by simp [Addr.add]
    have h3:=(hps i c hic).1
    rw [e,e,e,← Nat.add_assoc,← Nat.add_assoc] at h3
    exact h3
  ·obtain ⟨i,hi',hic⟩:=List.mem_iff_getElem.1 hp
   exact (hps i p (by rw [← hic];exact List.getElem?_eq_getElem hi')).2.more (by omega)
theorem Pz {n:Nat} {v:Value} {x:DataW H×List MemPlace} (h:DataW.trod enc Tryz.prog w base spare held n 38 [v]=some x) :
  ∃ (a:Option Addr) (len cap:Nat) (rows:List Nat),v = .slice a len cap∧fA w a (u64s rows)∧rows.length=len∧∀ r∈rows,r < 18446744073709551616:=by
 rcases open_ints (t:=38) (e:=37) (k:=.u64) (by kernel_rfl) (by kernel_rfl) (by kernel_rfl) h with ⟨hcs,_⟩ | ⟨x,len,cap,zs,hcs,_,hl,hm,hz,_,hcell,hwz⟩
 ·have hcs':v = .slice none 0 0:=by simpa using hcs
  subst hcs'
  exact ⟨none,0,0,[],rfl,.inl rfl,rfl,fun r hr=>by cases hr⟩
 ·have hcs':v = .slice (some x) len cap:=by simpa using hcs
  subst hcs'
  have hzl:len≤zs.length:=by rw [hz];split<;>omega
  refine ⟨some x,len,cap,(zs.take len).map Int.toNat,rfl,?_,?_,?_⟩
  ·rcases Nat.eq_zero_or_pos len with h0 | h0
   ·subst h0;exact .inl (by simp [u64s])
   ·obtain ⟨b,off,spot⟩:=x
    have hc0:=hcell 0 (by omega)
    have hspot:spot=none:=by simpa [Addr.add] using World.cell?_spot hc0
    subst hspot
    refine .inr ⟨b,off,rfl,fun i v hi=>?_⟩
    obtain ⟨q,hq,rfl⟩:=E0 hi
    rw [List.getElem?_map,List.getElem?_take] at hq
    split at hq
    ·rename_i hlt
     have hi2:i < zs.length:=by omega
     rw [List.getElem?_eq_getElem hi2] at hq
     have hq':(zs[i]).toNat=q:=by simpa using hq
     obtain ⟨m,hm1,hm2⟩:=Fa (hwz _ (List.getElem_mem hi2))
     have hc:=hcell i hi2
     have e:({ block:=b,off:=off }:Addr).add i=⟨b,off+i,none⟩:=by simp [Addr.add]
     rw [e] at hc
     rw [hc]
     have:zs.getD i 0=zs[i]:=by simp [List.getD,List.getElem?_eq_getElem hi2]
     rw [this,hm1,← hq',hm1]
     rfl
    ·cases hq
  ·simp;omega
  ·intro r hr
   obtain ⟨z,hz1,rfl⟩:=List.mem_map.1 hr
   obtain ⟨m,hm1,hm2⟩:=Fa (hwz z (List.mem_of_mem_take hz1))
   rw [hm1];exact hm2
theorem Ui {n:Nat} {a b:Value} {x:DataW H×List MemPlace} (h:DataW.trod enc Tryz.prog w base spare held n 40 [a,b]=some x) :
  ∃ (g:Nat) (ra:Option Addr) (rl rc:Nat) (rows:List Nat),a = .int .u64 (g:Int)∧b = .slice ra rl rc∧g < 18446744073709551616∧fA w ra (u64s rows)∧rows.length=rl∧∀ r∈rows,r < 18446744073709551616:=by
 obtain ⟨xs,n',_,_,hl,hlen,hg⟩:=DataW.trod_struct Tryz.underlying40 h
 have hlen2:xs.length=2:=hlen
 have g0:=hg 0 _ rfl
 have g1:=hg 1 _ rfl
 rw [show Tryz.prog.cellsOf _=1 by kernel_rfl,List.getElem?_eq_getElem (by omega)] at g0 g1
 obtain ⟨z0,e0,_,w0⟩:=DataW.trod_int (k:=.u64) (by kernel_rfl) g0
 simp at e0
 subst e0
 obtain ⟨g,rfl,hg64⟩:=Fa w0
 obtain ⟨ra,rl,rc,rows,e1,h1,h2,h3⟩:=Pz (v:=b) g1
 exact ⟨g,ra,rl,rc,rows,rfl,e1,hg64,h1,h2,h3⟩
theorem P0:∀ (fuel:Nat) {cs:List Value} {x:DataW H×List MemPlace},DataW.trod enc Tryz.prog w base spare held fuel 44 cs=some x→∃ s:WV,cs=s.f.six∧WIn w fuel s:=by
 intro fuel
 induction fuel using Nat.strongRecOn with
 | _ fuel ih =>
 intro cs x h
 obtain ⟨xs,n,hn,_,hl,hlen,hg⟩:=DataW.trod_struct Tryz.underlying44 h
 rw [show Tryz.prog.cellsOf 44=6 by kernel_rfl] at hl
 obtain ⟨a,b,c,d,e,f,rfl⟩:=six_len hl
 have hlen5:xs.length=5:=hlen
 have g0:=hg 0 _ rfl
 have g1:=hg 1 _ rfl
 have g2:=hg 2 _ rfl
 have g3:=hg 3 _ rfl
 have g4:=hg 4 _ rfl
 rw [show Tryz.prog.cellsOf _=1 by kernel_rfl,List.getElem?_eq_getElem (by omega)] at g0 g1 g3 g4
 rw [show Tryz.prog.cellsOf _=2 by kernel_rfl,List.getElem?_eq_getElem (by omega)] at g2
 obtain ⟨z0,e0,_⟩:=DataW.trod_bool (by kernel_rfl) g0
 obtain ⟨z1,e1,_,w1⟩:=DataW.trod_int (k:=.i64) (by kernel_rfl) g1
 simp at e0 e1
 subst e0 e1
 obtain ⟨gg,ra,rl,rc,rows,rfl,rfl,hg64,hrow,hrl,hr64⟩:=Ui (a:=c) (b:=d) g2
 obtain ⟨ca,cl,cc,e3⟩:=Lf g3
 have e3':e = .slice ca cl cc:=by simpa using e3
 subst e3'
 obtain ⟨cells,hcl,hcm,hcrow,hcbits⟩:=Le (a:=ca) (len:=cl) (cap:=cc) g3
 rcases DataW.trod_slice Tryz.underlying42 g4 with ⟨hcs,_⟩ | ⟨ad,len,cap,elems,rest,n',hn',hcs,_,hb,hle,hcap,hel,hi,_,_⟩
 ·simp at hcs
  subst hcs
  subst hn
  exact ⟨.mk ⟨z0,z1,gg,ra,rl,rc,rows,ca,cl,cc,cells,none,0,0⟩ [],rfl,⟨hrow,hrl,hg64,hr64,hcrow,hcl.symm,hcbits,by dsimp only;omega⟩,rfl,.inl rfl,fun p hp=>by cases hp⟩
 ·simp at hcs
  subst hcs
  subst hn
  rw [show Tryz.prog.cellsOf 44=6 by kernel_rfl] at hi
  obtain ⟨ps,hpl,hps⟩:=sK len (fun i (p:WV)=>(w.cell? (ad.add (i * 6))=some (.bool p.f.z)∧w.cell? (ad.add (i * 6+1))=some (.int .i64 p.f.c)∧w.cell? (ad.add (i * 6+2))=some (.int .u64 (p.f.g:Int))∧w.cell? (ad.add (i * 6+3))=some (.slice p.f.ra p.f.rl p.f.rc)∧w.cell? (ad.add (i * 6+4))=some (.slice p.f.ca p.f.cl p.f.cc)∧w.cell? (ad.add (i * 6+5))=some (.slice p.f.pa p.f.pl p.f.pc))∧WIn w n' p) (fun i hil=>by
   have hii:=hi i hil
   rw [List.getElem?_eq_getElem (by omega)] at hii
   obtain ⟨cs',hc,ht⟩:=Option.bind_eq_some_iff.1 hii
   obtain ⟨_,hcl,hat⟩:=World.cells?_some hc
   obtain ⟨s,rfl,hs⟩:=ih n' (by omega) ht
   have e0:=hat 0 (by omega)
   have e1:=hat 1 (by omega)
   have e2:=hat 2 (by omega)
   have e3:=hat 3 (by omega)
   have e4:=hat 4 (by omega)
   have e5:=hat 5 (by omega)
   rw [Go.Deep.add_add] at e0 e1 e2 e3 e4 e5
   exact ⟨s,⟨e0,e1,e2,e3,e4,e5⟩,hs⟩)
  refine ⟨.mk ⟨z0,z1,gg,ra,rl,rc,rows,ca,cl,cc,cells,some ad,len,cap⟩ ps,rfl,⟨hrow,hrl,hg64,hr64,hcrow,hcl.symm,hcbits,by dsimp only;omega⟩,hpl,?_,fun p hp=>?_⟩
  ·rcases Nat.eq_zero_or_pos len with h0 | h0
   ·exact .inl (List.length_eq_zero_iff.1 (by omega))
   ·obtain ⟨b,off,spot⟩:=ad
    obtain ⟨⟨h1,_⟩,_⟩:=hps 0 (ps[0]'(by omega)) (List.getElem?_eq_getElem (by omega))
    have hspot:spot=none:=by simpa [Addr.add] using World.cell?_spot h1
    subst hspot
    refine .inr ⟨b,off,rfl,fun i c hic=>?_⟩
    have e:∀ k,({ block:=b,off:=off }:Addr).add k=⟨b,off+k,none⟩:=fun k=>by simp [Addr.add]
    have h3:=(hps i c hic).1
    rw [e,e,e,e,e,e,← Nat.add_assoc,← Nat.add_assoc,← Nat.add_assoc,← Nat.add_assoc,← Nat.add_assoc] at h3
    exact h3
  ·obtain ⟨i,hi',hic⟩:=List.mem_iff_getElem.1 hp
   exact (hps i p (by rw [← hic];exact List.getElem?_eq_getElem hi')).2.more (by omega)
end
theorem Bc {w:World} {b:Nat}:∀ (vs:List Value) (o:Nat),(∀ (j:Nat) u,vs[j]?=some u→w.cell? ⟨b,o+j,none⟩=some u)→aD w b o vs
 | [],_,_=>trivial
 | v::vs,o,h=>⟨h 0 v rfl,Bc vs (o+1) fun j u hj=>by have:=h (j+1) u (by simpa using hj);rwa [show o+1+j=o+(j+1) by omega]⟩
section
variable {H:Type} {enc:TypeId×Value→H} {w:World} {base:Nat} {spare:Nat→Bool} {held:Bool}
theorem M3 {n:Nat} {v:Value} {x:DataW H×List MemPlace} (h:DataW.trod enc Tryz.prog w base spare held n 26 [v]=some x) :
  ∃ (a:Option Addr) (len cap:Nat) (zs:List Int),v = .slice a len cap∧Row w a zs∧zs.length=len∧len≤cap∧cap≤maxLen:=by
 rcases open_ints (t:=26) (e:=3) (k:=.i64) (by kernel_rfl) (by kernel_rfl) (by kernel_rfl) h with ⟨hcs,_⟩ | ⟨x,len,cap,zs,hcs,_,hl,hm,hz,_,hcell,hwz⟩
 ·have hcs':v = .slice none 0 0:=by simpa using hcs
  subst hcs'
  exact ⟨none,0,0,[],rfl,.inl rfl,rfl,Nat.le_refl _,Nat.zero_le _⟩
 ·have hcs':v = .slice (some x) len cap:=by simpa using hcs
  subst hcs'
  have hzl:len≤zs.length:=by rw [hz];split<;>omega
  refine ⟨some x,len,cap,zs.take len,rfl,?_,by simp;omega,hl,hm⟩
  rcases Nat.eq_zero_or_pos len with h0 | h0
  ·subst h0;exact .inl (by simp)
  ·obtain ⟨b,off,spot⟩:=x
   have hc0:=hcell 0 (by omega)
   have hspot:spot=none:=by simpa [Addr.add] using World.cell?_spot hc0
   subst hspot
   refine .inr ⟨b,off,rfl,fun i hi=>?_⟩
   have hi1:i < len:=by simp at hi;omega
   have hi2:i < zs.length:=by omega
   have hc:=hcell i hi2
   have e:({ block:=b,off:=off }:Addr).add i=⟨b,off+i,none⟩:=by simp [Addr.add]
   rw [e] at hc
   rw [hc]
   simp [List.getD,List.getElem?_take,hi1]
theorem P1 {n:Nat} {a:Option Addr} {len cap:Nat} {x:DataW H×List MemPlace} (h:DataW.trod enc Tryz.prog w base spare held n 26 [.slice a len cap]=some x):∃ zs:List Int,Row w a zs∧zs.length=len∧len≤cap∧len≤9223372036854775807:=by
 obtain ⟨a',len',cap',zs,e,h1,h2,h3,h4⟩:=M3 h
 cases e
 exact ⟨zs,h1,h2,h3,by simp only [maxLen] at h4;omega⟩
end
end Go.Proofs.YtmgnkpibpjgncaaGreatDoor
namespace Go.Proofs.YtmgnkpibpjgncaaGreatDoor
open Go Go.RowKit
section
variable {P:Program} {d td:Nat} {ty:TypeId} {pos:String}
end
theorem M4 {O:Own} {j jx B:Nat} {cs:List Value} {U:TypeId} {ev:Option Value} {p:Nat×List Value×TypeId} (he:ev=none) (h:O[j]?=some p):(osY O j jx B cs U ev)[j]?=some p:=by
 subst he;exact h
section
variable {P:Program} {n:Nat} {Q:Exit→Act→World→Prop} {l:Fr} {w0 W:World} {ops:Array Oper} {os:List Oper} {K:List (Nat×World)} {L:List Asr} {i:Nat}
variable {ca:Nat→Option Value→List Value} {ta:Nat→TypeId} {Os:Option Value→Own} {Gs:Option Value→dC} {lo ef jy:Nat} {s:Sg}
variable {d:Nat} {op:Op} {ty:TypeId} {pos:String} {aft_:Array Edge} {v:Value} {gd:Option (Nat×Bool)}
end
theorem Bd:∀ (A old new B:List Value),old.length=new.length→jE (A++old++B) A.length new=A++new++B
 | A,[],[],B,_=>by simp [jE]
 | A,[],_::_,B,h=>by simp at h
 | A,_::_,[],B,h=>by simp at h
 | A,o::old,v::new,B,h=>by
  have h9:=Bd (A++[v]) old new B (by simpa using h)
  simp only [jE]
  have e:(A++o::old++B).set A.length v=(A++[v])++old++B:=by simp [List.set_append]
  rw [e]
  simpa using h9
theorem Dz (fs:List WF):(fs.flatMap WF.six).length=fs.length * 6:=by
 induction fs with
 | nil=>rfl
 | cons f r ih=>rw [List.flatMap_cons,List.length_append,ih];simp only [List.length_cons,List.length_nil];omega
theorem rP {fs:List WF} {i:Nat} {f:WF} (h:fs[i]?=some f):fs.flatMap WF.six=(fs.take i).flatMap WF.six++f.six++(fs.drop (i+1)).flatMap WF.six:=by
 have hl:=(List.getElem?_eq_some_iff.1 h).1
 have e:fs=fs.take i++f::fs.drop (i+1):=by
  have h1:=(List.take_append_drop i fs).symm
  rw [List.drop_eq_getElem_cons hl,(List.getElem?_eq_some_iff.1 h).2] at h1
  exact h1
 have e2:=congrArg (fun l=>List.flatMap WF.six l) e
 simp only [List.flatMap_append,List.flatMap_cons] at e2
 rw [List.append_assoc]
 exact e2
theorem D4 {fs:List WF} {i:Nat} (h:i < fs.length):((fs.take i).flatMap WF.six).length=0+i * 6:=by
 rw [Dz,List.length_take];omega
theorem Uj {fs:List WF} {cs:List Value} {i:Nat} {f:WF} (h:fs[i]?=some f):((fs.flatMap WF.six++cs).drop (0+i * 6)).take 6=f.six:=by
 rw [rP h,← D4 (List.getElem?_eq_some_iff.1 h).1,List.append_assoc,List.append_assoc,List.drop_left]
 rfl
theorem Lg {fs:List WF} {cs:List Value} {i:Nat} {f g:WF} (h:fs[i]?=some f):jE (fs.flatMap WF.six++cs) (0+i * 6) g.six=(fs.set i g).flatMap WF.six++cs:=by
 have hl:=(List.getElem?_eq_some_iff.1 h).1
 have h2:(fs.set i g)[i]?=some g:=by rw [List.getElem?_set_self hl]
 rw [rP h,rP h2,← D4 hl,List.append_assoc _ _ cs,Bd _ f.six g.six _ rfl]
 rw [List.take_set_of_le (Nat.le_refl _),List.drop_set_of_lt (Nat.lt_succ_self _)]
 simp [List.append_assoc]
def mX (S:PS) (b:Bool) (x y:PX):PX:=if b then kC S y x else kC S x y
def uE (fs:List Int) (n:Int):Bool:=fs.any (fun y=>decide (y=n))
abbrev rdC (f0:WF) (a:AV) (bk:Bool) (bm VA VX:Nat):List Value:=[.int .i64 a.s.f.tag,.int .i64 a.s.f.dim,.slice a.s.f.a a.s.f.len a.s.f.cap,.bool f0.z,.int .i64 f0.c,.int .u64 (f0.g:Int),.slice f0.ra f0.rl f0.rc,.slice f0.ca f0.cl f0.cc,.slice f0.pa f0.pl f0.pc,.int .i64 a.s.f.tag,.int .i64 a.s.f.dim,.slice a.s.f.a a.s.f.len a.s.f.cap,.int .i64 a.st,.int .i64 a.sy,.slice a.fa a.fl a.fc,.slice a.ta a.tl a.tc,.bool bk,.map (some bm),.pointer (some ⟨VA,0,none⟩),.pointer (some ⟨VX,0,none⟩)]
abbrev gO (v:Value) (n IB WB:Nat):List Value:=[v,.slice (some ⟨IB,0,none⟩) n n,.slice (some ⟨WB,0,none⟩) n n]
noncomputable abbrev inC (S:PS) (xs:List PX):List Value:=xs.map (fun x=>.bool (nzX S x))
abbrev wC (fs:List WF):List Value:=fs.flatMap WF.six
abbrev atC (l:List Nat):List Value:=l.map (fun (i:Nat)=>Value.int .i64 (i:Int))
structure VecOk (S:PS) (w0:World) (K:List (Nat×World)) (n:Nat) (fs:List WF) (xs:List PX) (l:List Nat):Prop where
 fl:fs.length=n
 xl:xs.length=n
 held:∀ (i:Nat) f x,fs[i]?=some f→xs[i]?=some x→x≠bX S→kI w0 K (fun W=>XIs W S f x)
 ok:∀ x∈xs,OkX S x
 ats:∀ i,i∈l↔∃ x,xs[i]?=some x∧x≠bX S
 nd:l.Nodup
section
variable {S:PS} {w0:World} {K K':List (Nat×World)} {n s:Nat} {fs:List WF} {xs:List PX} {l:List Nat} {f:WF} {x x0:PX}
theorem nd_len:∀ (n:Nat) (l:List Nat),l.Nodup→(∀ i∈l,i < n)→l.length≤n:=by
 intro n
 induction n with
 | zero =>
  intro l _ h
  cases l with
  | nil=>exact Nat.le_refl _
  | cons a t=>exact absurd (h a List.mem_cons_self) (Nat.not_lt_zero _)
 | succ n ih =>
  intro l hl h
  have h1:=ih (l.filter (· ≠ n)) (hl.filter _) (fun i hi=>by
   simp at hi
   have:=h i hi.1
   omega)
  have h2:l.length≤(l.filter (· ≠ n)).length+1:=by
   clear ih h h1
   induction l with
   | nil=>simp
   | cons a t iht =>
    have hn:=List.nodup_cons.1 hl
    by_cases e:a=n
    ·subst e
     have:t.filter (· ≠ a)=t:=by
      rw [List.filter_eq_self]
      intro b hb
      simp
      intro e
      subst e
      exact hn.1 hb
     rw [List.filter_cons_of_neg (by simp),this]
     simp
    ·rw [List.filter_cons_of_pos (by simpa using e)]
     have:=iht hn.2
     simp only [List.length_cons]
     omega
  omega
theorem VecOk.len (h:VecOk S w0 K n fs xs l):l.length≤n:=nd_len n l h.nd fun i hi=>by
 obtain ⟨y,h1,_⟩:=(h.ats i).1 hi
 have:=(List.getElem?_eq_some_iff.1 h1).1
 rw [h.xl] at this;exact this
theorem VecOk.more (h:VecOk S w0 K n fs xs l) (hk:∀ q∈K,q∈K'):VecOk S w0 K' n fs xs l:=⟨h.fl,h.xl,fun i f x h1 h2 h3=>kI.more (h.held i f x h1 h2 h3) hk,h.ok,h.ats,h.nd⟩
theorem VecOk.emptied (h:fs.length=n):VecOk S w0 K n fs (List.replicate n (bX S)) []:=⟨h,by simp,fun i f x h1 h2 h3=>by
 have h4:=(List.getElem?_eq_some_iff.1 h2).2
 rw [List.getElem_replicate] at h4
 exfalso;exact h3 h4.symm,fun x hx=>by rw [(List.mem_replicate.1 hx).2];exact mP,fun i=>⟨fun h=>(by cases h),fun ⟨y,h1,h2⟩=>by
 have h4:=(List.getElem?_eq_some_iff.1 h1).2
 rw [List.getElem_replicate] at h4
 exact absurd h4.symm h2⟩,List.nodup_nil⟩
theorem VecOk.at_ (h:VecOk S w0 K n fs xs l) (hs:s < n):∃ f x,fs[s]?=some f∧xs[s]?=some x∧OkX S x:=by
 have h1:s < fs.length:=by rw [h.fl];exact hs
 have h2:s < xs.length:=by rw [h.xl];exact hs
 exact ⟨fs[s],xs[s],List.getElem?_eq_getElem h1,List.getElem?_eq_getElem h2,h.ok _ (List.getElem_mem h2)⟩
theorem Uk (h:xs[s]?=some x):(inC S xs)[0+s * 1]?=some (.bool (nzX S x)):=by
 rw [Nat.zero_add,Nat.mul_one,List.getElem?_map,h];rfl
theorem inC_lt (h:xs[s]?=some x):Nat.blt (0+s * 1) (inC S xs).length=true:=by
 rw [Nat.blt_eq,List.length_map]
 have:=(List.getElem?_eq_some_iff.1 h).1
 omega
theorem M5 (x:PX):(inC S xs).set (0+s * 1) (.bool (nzX S x))=inC S (xs.set s x):=by
 rw [Nat.zero_add,Nat.mul_one]
 exact List.map_set.symm
theorem In (h:fs[s]?=some f):((wC fs).drop (0+s * 6)).take 6=f.six:=by
 have h9:=Uj (cs:=[]) h
 rw [List.append_nil] at h9;exact h9
theorem wC_le (h:fs[s]?=some f):Nat.ble (0+s * 6+6) (wC fs).length=true:=by
 rw [Nat.ble_eq,Dz]
 have:=(List.getElem?_eq_some_iff.1 h).1
 omega
theorem D5 {g:WF} (h:fs[s]?=some f):jE (wC fs) (0+s * 6) g.six=wC (fs.set s g):=by
 have h9:=Lg (cs:=[]) (g:=g) h
 rw [List.append_nil,List.append_nil] at h9;exact h9
theorem VecOk.put {K':List (Nat×World)} {l':List Nat} {g:WF} {y:PX} (h:VecOk S w0 K n fs xs l) (hs:s < n) (hx0:xs[s]?=some x0) (hk:∀ q∈K,q∈K') (hg:kI w0 K' (fun W=>XIs W S g y)) (hy:OkX S y) (hy0:y≠bX S) (hl:(x0≠bX S∧l'=l)∨(x0=bX S∧l'=l++[s])):VecOk S w0 K' n (fs.set s g) (xs.set s y) l':=by
 have hsl:s < xs.length:=by rw [h.xl];exact hs
 refine ⟨by rw [List.length_set];exact h.fl,by rw [List.length_set];exact h.xl,fun i f x h1 h2 h3=>?_,fun x hx=>?_,fun i=>?_,?_⟩
 ·rcases Nat.decEq i s with e | rfl
  ·rw [List.getElem?_set_ne (Ne.symm e)] at h1 h2
   exact kI.more (h.held i f x h1 h2 h3) hk
  ·rw [List.getElem?_set_self (by rw [h.fl];exact hs)] at h1
   rw [List.getElem?_set_self hsl] at h2
   cases h1;cases h2;exact hg
 ·rcases List.mem_or_eq_of_mem_set hx with h1 | rfl
  ·exact h.ok x h1
  ·exact hy
 ·rcases Nat.decEq i s with e | rfl
  ·rw [List.getElem?_set_ne (Ne.symm e)]
   rcases hl with ⟨_,rfl⟩ | ⟨_,rfl⟩
   ·exact h.ats i
   ·rw [List.mem_append]
    exact ⟨fun h1=>(h.ats i).1 (h1.resolve_right (by simpa using e)),fun h1=>.inl ((h.ats i).2 h1)⟩
  ·rw [List.getElem?_set_self hsl]
   refine ⟨fun _=>⟨y,rfl,hy0⟩,fun _=>?_⟩
   rcases hl with ⟨h1,rfl⟩ | ⟨_,rfl⟩
   ·exact (h.ats i).2 ⟨x0,hx0,h1⟩
   ·simp
 ·rcases hl with ⟨_,rfl⟩ | ⟨h1,rfl⟩
  ·exact h.nd
  ·rw [List.nodup_append]
   refine ⟨h.nd,by simp,fun a ha b hb=>?_⟩
   simp at hb;subst hb
   intro e;subst e
   obtain ⟨y',h2,h3⟩:=(h.ats a).1 ha
   rw [hx0] at h2;cases h2;exact h3 h1
theorem P2 {α:Type} {l:List α} {s:Nat} {x:α} (h:l[s]?=some x):l.set s x=l:=by
 apply List.ext_getElem?
 intro i
 rcases Nat.decEq i s with e | rfl
 ·rw [List.getElem?_set_ne (Ne.symm e)]
 ·rw [List.getElem?_set_self (List.getElem?_eq_some_iff.1 h).1,h]
theorem Be (h:xs[s]?=some x):xs.set s x=xs:=by
 apply List.ext_getElem?
 intro i
 rcases Nat.decEq i s with e | rfl
 ·rw [List.getElem?_set_ne (Ne.symm e)]
 ·rw [List.getElem?_set_self (List.getElem?_eq_some_iff.1 h).1,h]
theorem M6 (hok:S.ok) (hx:OkX S x0) (hy:OkX S x) (h:x0≠bX S):cF S x0 x≠bX S:=fun e=>h (by
 have h1:=jM hok hx hx hy
 rw [pJ hok hx,e,lV hx] at h1
 exact h1.symm)
theorem atC_len (l:List Nat):(atC l).length=l.length:=by simp
end
theorem M7 {f g:WF} (h:f.val=g.val) (hp:f.pf=g.pf):f=g:=by
 obtain ⟨z,c,g1,ra,rl,rc,rows,ca,cl,cc,cells,pa,pl,pc⟩:=f
 obtain ⟨z',c',g',ra',rl',rc',rows',ca',cl',cc',cells',pa',pl',pc'⟩:=g
 simp [WF.val,WF.pf] at h hp
 obtain ⟨h1,h2,h3,h4,h5,h6⟩:=h
 obtain ⟨p1,p2,p3,p4,p5⟩:=hp
 obtain ⟨e1,e2,e3⟩:=h4
 obtain ⟨e4,e5,e6⟩:=h5
 obtain ⟨e7,e8,e9⟩:=h6
 subst h1;subst h2;subst p3;subst p4;subst p5;subst e1;subst e2;subst e3;subst e4;subst e5;subst e6;subst e7;subst e8;subst e9
 rfl
theorem fU.samepf {lo lo':Nat} {w w':World} {S:PS} {f g:WF} {x:PX} (h:fU lo w S f x) (k:fU lo' w' S g x):f.pf=g.pf:=by
 cases S<;>cases x<;>first | exact h.elim | skip
 ·exact h.is.pf.trans k.is.pf.symm
 ·exact h.1.trans k.1.symm
theorem newOff {lo B:Nat} {A W:World} {S:PS} {f:WF} {x:PX} (hn:Aw (some B) (dL lo S x) f.val A) (hf:fU lo A S f x) (hlo:lo≤A.heap.size) (hx:Jp lo B A W):fU lo W S f x:=by
 obtain ⟨w',⟨g,hg,hgn⟩,ha⟩:=Aw.mid hn hlo hx
 obtain rfl:=M7 hg (hf.samepf hgn)
 exact hgn.agree ha
theorem M8 {f g:WF} (h:f.val=g.val):f.six=g.six:=congrArg (fun v:Value=>v.cells.toList) h
section
variable {n:Nat} {Q:Exit→Act→World→Prop} {l:Fr} {W:World} {ops:Array Oper} {L:List Asr} {i d:Nat} {ty:TypeId} {pos:String} {aft:Array Edge} {gd:Option (Nat×Bool)} {S:PS} {x y z:PX} {p q r:Operand}
theorem Ul (hi:ops[i]?=some ⟨some d,.buildSlice 42 2 (List.toArray [(0,p),(1,q)]),ty,pos,aft,gd⟩) (hw:gX ops L i ⟨some d,.buildSlice 42 2 (List.toArray [(0,p),(1,q)]),ty,pos,aft,gd⟩) (hp:wJ n ops l L i [p,q] [isX S x,isX S y]) (hI:atI L i=mT S [x,y]):RGA Tryz.prog n ops Q l W L i :=
 ag_row [isX S x,isX S y] hi hw Tryz.underlying42 Tryz.sizeOf44 Tryz.zeroValue44 rfl rfl hp fun β vs w hb hh=>by
  obtain ⟨v1,v2,rfl,⟨f,rfl,hf⟩,g,rfl,hg⟩:=pM (hh w (Off.refl _ _))
  refine ⟨f.six++g.six,rT _ _ _ _ _ _ _ _ _ _ _ _,fun B w' hB h1 ho=>?_⟩
  obtain ⟨v1,v2,hv,⟨f',hv1,hf'⟩,g',hv2,hg'⟩:=pM (hh w' ho)
  simp only [List.cons.injEq,and_true] at hv
  obtain ⟨e1,e2⟩:=hv
  rw [M8 (e1.trans hv1),M8 (e2.trans hv2)] at h1
  rw [hI]
  exact ⟨B,[f',g'],rfl,Do h1,nI hf' (nI hg' Fo)⟩
end
theorem lK (w:World) (b o:Nat):(Instr.fieldAt 109 (.pointer (some ⟨b,o,none⟩)) 0).run Tryz.prog w = .ok (.pointer (some ⟨b,o+0,none⟩)) w:=by
 simp [Instr.fieldAt,run_underlying Tryz.underlying109,Instr.sureAddr,go_sem,Addr.add_lit]
theorem kJ (w:World) (b o:Nat):(Instr.fieldAt 139 (.pointer (some ⟨b,o,none⟩)) 0).run Tryz.prog w = .ok (.pointer (some ⟨b,o+0,none⟩)) w:=by
 simp [Instr.fieldAt,run_underlying Tryz.underlying139,Instr.sureAddr,go_sem,Addr.add_lit]
theorem vW (w:World) (b o:Nat):(Instr.fieldAt 139 (.pointer (some ⟨b,o,none⟩)) 1).run Tryz.prog w = .ok (.pointer (some ⟨b,o+1,none⟩)) w:=by
 simp [Instr.fieldAt,run_underlying Tryz.underlying139,Instr.sureAddr,go_sem,Addr.add_lit]
theorem mY (w:World) (b o:Nat):(Instr.fieldAt 139 (.pointer (some ⟨b,o,none⟩)) 2).run Tryz.prog w = .ok (.pointer (some ⟨b,o+2,none⟩)) w:=by
 simp [Instr.fieldAt,run_underlying Tryz.underlying139,Instr.sureAddr,go_sem,Addr.add_lit]
theorem goes_38:bK Tryz.prog 38=true:=by kernel_rfl
theorem St.mark0 {w0 W:World} {O:Own} {G:dC} {K:List (Nat×World)} (h:St w0 O G K W):St w0 O G ((W.heap.size,W)::K) W where
 below:=h.below
 own:=h.own
 dist:=h.dist
 kept:=fun q hq=>by
  rcases List.mem_cons.1 hq with rfl | hq
  ·exact ⟨dS.refl _ _,fun p hp=>.inl (cC (h.own p hp).2)⟩
  ·exact h.kept q hq
 rows:=fun g hg=>⟨(h.rows g hg).1,fun b hb=>⟨((h.rows g hg).2 b hb).1,fun q hq=>by
  rcases List.mem_cons.1 hq with rfl | hq
  ·exact .inl (h.glt hg hb).2
  ·exact ((h.rows g hg).2 b hb).2 q hq⟩⟩
 gdist:=h.gdist
theorem Bg (S:PS) (a:AV) (f0:WF) (bk:Bool) (bm VA VX RB VB IB WB n:Nat) (v:Value) (fs:List WF) (xs:List PX) (l:List Nat) (Ot:Own) (Gt:dC) (K Kv:List (Nat×World)) (w0:World) (s:Nat) (f:WF) (x x0:PX) (w:World) (hS0:St w0 ((RB,rdC f0 a bk bm VA VX,109)::(VB,gO v n IB WB,139)::(IB,inC S xs,4)::(WB,wC fs,44)::Ot) (⟨v,l.length,atC l,3,1⟩::Gt) K w) (hKv:∀ q∈Kv,q∈K) (hV:VecOk S w0 Kv n fs xs l) (hn:n≤4096) (hs:s < n) (hx0:xs[s]?=some x0) (hsi:SIs w0 S a.s.f) (hok:S.ok) (ht:Tabs w0) (H0:kI w0 Kv (fun W=>XIs W S f0 (bX S))) (HX:kI w0 Kv (fun W=>XIs W S f x)) (hx:OkX S x) :
  Calls Tryz.prog 94 #[.pointer (some ⟨RB,0,none⟩),.pointer (some ⟨VB,0,none⟩),.int .i64 (s:Int),f.val] w (fun e w'=>∃ (u:Value) (l':List Nat) (fs':List WF) (Kw:List (Nat×World)),e = .returned (.bool (!eqX (cF S x0 x) x0))∧(∀ q∈Kw,w.heap.size≤q.1)∧VecOk S w0 (Kw++Kv) n fs' (xs.set s (cF S x0 x)) l'∧((cF S x0 x=x0∧l'=l)∨l'=l∨l'=l++[s])∧St w0 ((RB,rdC f0 a bk bm VA VX,109)::(VB,gO u n IB WB,139)::(IB,inC S (xs.set s (cF S x0 x)),4)::(WB,wC fs',44)::Ot) (⟨u,l'.length,atC l',3,1⟩::Gt) (Kw++K) w'):=by
 refine cD (args:=[.pointer (some ⟨RB,0,none⟩),.pointer (some ⟨VB,0,none⟩),.int .i64 (s:Int),f.val]) Tryz.func94 rfl Tryz.ntmps94 rfl ?_
 have hS:=hS0
 have hS:=hS.mark0
 obtain ⟨g0,x9,hg0,hx9,hok0⟩:=hV.at_ hs
 rw [hx0] at hx9;cases hx9
 have hll:=hV.len
 have hzz:OkX S (bX S):=mP
 refine aM (aQ (bT (cs:=[_,_,_,_,_,_]) hS rfl rfl rfl fun B1 W1 hS=>aB rfl rfl (aO (XF.thenN (aM (aM (aQ (aH rfl rfl (cL rfl rfl (aN (o':=1) vW rfl rfl rfl (aS Tryz.isAgg58 rfl (aJ (hS.at_ 2 rfl) rfl) rfl (aH rfl rfl (cM (j:=s) Tryz.underlying58 Tryz.sizeOf4 rfl rfl (rfl) (hs) rfl rfl (aS Tryz.isAgg4 rfl (aJ (hS.at_ 3 rfl) (Uk hx0)) rfl (eO rfl rfl (aO (XF.thenN (bB rfl (fun hc=>?_) (fun hc=>?_)))))))))))))))))))
 ·have hc17:=hc;clear hc
  have hz:x0=bX S:=by simpa [kU] using hc17
  have h0w:=H0 hS (fun q hq=>by simp [hKv q hq])
  have hxw:=HX hS (fun q hq=>by simp [hKv q hq])
  have hcx:cF S x0 x=x:=by rw [hz];exact pK hx
  refine aM (aM (iV (m:=6) bY hS (by kernel_rfl) (by kernel_rfl) rfl (cQ 1 rfl 0 rfl (by kernel_rfl) rfl (fun w hw=>aW rfl) rfl (bI 2 rfl 18 0 rfl (by kernel_rfl) rfl rfl (fun w hw=>cV rfl) rfl (bI 3 rfl 19 1 rfl (by kernel_rfl) rfl rfl (fun w hw=>aV (o':=0) lK rfl rfl) rfl (bI 4 rfl 20 2 rfl (by kernel_rfl) rfl rfl (fun w hw=>aY (vs:=[_,_,_,_,_,_,_,_,_]) Tryz.isAgg76 Tryz.sizeOf76 rfl (aD.agree (aL hw 0) (Nat.zero_le _) (aD.own (j:=0) (m:=9) (hS.at_ 1 rfl) rfl))) rfl (cQ 5 rfl 7 rfl (by kernel_rfl) rfl (fun w hw=>aY (vs:=[_,_,_,_,_,_]) Tryz.isAgg44 Tryz.sizeOf44 rfl (aD.agree (aL hw 0) (Nat.zero_le _) (aD.own (j:=0) (m:=6) (hS.at_ 0 rfl) rfl))) rfl ?_)))))))
  refine aG 6 rfl (isV (.bool (!nzX S x))) (aC _) (cP [isV _,isV _] rfl goes_38 (aT rfl) ⟨bW (aP 3 (by kernel_rfl) (aA rfl rfl rfl)),bW (aP 4 (by kernel_rfl) (aA rfl rfl rfl)),trivial⟩ (fun vs w' hb hh=>by have e:=bZ (us:=[_,_]) hh;subst e;exact (Ce S a.s.f f0 f x w' (h0w.below hb) (hxw.below hb)).mono fun e w2 h=>⟨_,h.1,rfl,h.2⟩) (aE rfl)) ?_
  refine dE ?_
  intro W2 hbR hS'
  clear hS;have hS:=hS';clear hS'
  refine aF (aF (aF (aF (aF (aF (cI (XF.thenN (bB rfl (fun hc=>?_) (fun hc=>?_)))))))))
  ·have hc23:=hc;clear hc
   have hxz:x=bX S:=by simpa [kU] using hc23
   have hee:cF S x0 x=x0:=by rw [hcx,hxz,hz]
   refine aM (aQ (aB rfl rfl (aO (XF.thenN (bR (XF.thenR (XF.thenR (XF.res (cO Tryz.results94 rfl) ?_))))))))
   have hS9:=hS.tail
   have hxs:xs.set s (cF S x0 x)=xs:=by rw [hee,Be hx0]
   refine ⟨v,l,fs,[],?_,?_,?_,?_,by rw [hxs];exact hS9.keep K (fun q hq=>by simp [hq])⟩
   ·rw [rN.2 hee];rfl
   ·exact fun q hq=>by cases hq
   ·rw [hxs];exact hV
   ·exact .inl ⟨hee,rfl⟩
  ·have hc23:=hc;clear hc
   have hnz:x≠bX S:=by simpa [oO] using hc23
   have hnx:nzX S x=true:=oO.2 hnz
   have hne:cF S x0 x≠x0:=by rw [hcx,hz];exact hnz
   refine bJ (XF.thenN (aM (aQ (aH rfl rfl (cL rfl rfl (aN (o':=1) vW rfl rfl rfl (aS Tryz.isAgg58 rfl (aJ (hS.at_ 2 rfl) rfl) rfl (aH rfl rfl (cM (j:=s) Tryz.underlying58 Tryz.sizeOf4 rfl rfl (rfl) (hs) rfl rfl (dT (i:=3) (cs':=(inC S xs).set (0+s * 1) (.bool true)) (O':=_::_::_::_::_::Ot) hS Tryz.sizeOf4 rfl rfl rfl rfl (inC_lt hx0) rfl rfl fun W4 hS=>?_))))))))))
   have hS:=hS.castO (O':=_::_::_::(IB,inC S (xs.set s x),4)::_::Ot) (by rw [← M5,hnx])
   refine aO (XF.thenN (aM (aQ (aH rfl rfl (aH rfl rfl (cL rfl rfl (aN (o':=0) kJ rfl rfl rfl (aS Tryz.isAgg26 rfl (aJ (hS.at_ 2 rfl) rfl) rfl (aH rfl rfl (cT (us:=[(0,.int .i64 _)]) hS Tryz.underlying26 Tryz.sizeOf3 Tryz.zeroValue3 rfl rfl rfl (gS _) rfl fun B3 W3 hS=>?_))))))))))
   refine nW (i:=0) (news:=[_]) hS Tryz.underlying26 zI rfl rfl (by show 0 < 1;decide) rfl rfl rfl rfl rfl (aD.own (j:=0) (m:=1) (hS.at_ 0 rfl) rfl) rfl rfl (by dsimp only;simp only [maxLen];omega) (by dsimp only;show _ * 8≤_;omega) rfl fun v4 W4 hS=>?_
   refine cL rfl rfl (aN (o':=0) kJ rfl rfl rfl (dT (i:=3) (cs':=[_,_,_]) (O':=(_::_::_::_::_::_::Ot)) hS Tryz.sizeOf26 rfl rfl (by first | rfl | exact (hS.oneV 0 _ rfl :) | exact (hS.oneV 1 _ rfl :) | exact (hS.oneV 2 _ rfl :) | exact (hS.oneV 3 _ rfl :)) rfl rfl rfl rfl fun W5 hS=>aO (XF.thenN (aM (Ug (ef:=7) (jy:=5) (ca:=pO (fun _=>[])) (ta:=fun _=>0) (Os:=osY _ 5 (0+s * 6) WB (wC fs) 44) (Gs:=xB _) (al:=[]) (k:=8) (ds:=[]) bY rfl hS rfl (by kernel_rfl) rfl (by decide) rfl rfl rfl rfl (bA 1 rfl rfl (isV _) (fun hNo=>sgV [(1,_)] rfl rfl rfl rfl hNo (aT rfl) ⟨cU (by kernel_rfl) rfl,trivial⟩ (fun ev w he hw=>aW rfl) (aE rfl)) (bA 2 rfl rfl (isV _) (fun hNo=>sgV [(40,_)] rfl rfl rfl rfl hNo (aT rfl) ⟨aP 0 (by kernel_rfl) (aA rfl rfl rfl),trivial⟩ (fun ev w he hw=>cV rfl) (aE rfl)) (bA 3 rfl rfl (isV _) (fun hNo=>sgV [(41,_)] rfl rfl rfl rfl hNo (aT rfl) ⟨aP 1 (by kernel_rfl) (aA rfl rfl rfl),trivial⟩ (fun ev w he hw=>aV (o':=2) mY rfl rfl) (aE rfl)) (bA 4 rfl rfl (isV _) (fun hNo=>sgV [(42,_)] rfl rfl rfl rfl hNo (aT rfl) ⟨aP 2 (by kernel_rfl) (aA rfl rfl rfl),trivial⟩ (fun ev w he hw=>aZ Tryz.isAgg42 rfl ((aJ (hw.at_ 3 (pT (i:=3) (j:=5) rfl rfl)) rfl))) (aE rfl)) (bA 5 rfl rfl (isV _) (fun hNo=>sgV [(2,_)] rfl rfl rfl rfl hNo (aT rfl) ⟨cU (by kernel_rfl) rfl,trivial⟩ (fun ev w he hw=>aW rfl) (aE rfl)) (bA 6 rfl rfl (isV _) (fun hNo=>sgV [(7,_)] rfl rfl rfl rfl hNo (aT rfl) ⟨cU (by kernel_rfl) rfl,trivial⟩ (fun ev w he hw=>aY (vs:=[_,_,_,_,_,_]) Tryz.isAgg44 Tryz.sizeOf44 rfl ((aD.own (j:=0) (m:=6) (hw.at_ 1 (pT (i:=1) (j:=5) rfl rfl)) rfl))) (aE rfl)) (bA 7 rfl rfl (isV _) (fun hNo=>sgV [(43,_),(44,_)] rfl rfl rfl rfl hNo (aT rfl) ⟨aP 3 (by kernel_rfl) (aA rfl rfl rfl),aP 4 (by kernel_rfl) (aA rfl rfl rfl),trivial⟩ (fun ev w he hw=>aX (j:=s) Tryz.underlying42 Tryz.sizeOf44 rfl rfl (rfl) (hs) rfl) (aE rfl)) ?_))))))))))))
   refine sG 8 rfl (vV (py:=isV _) (m:=6) 5 (0+s * 6) [(46,_)] rfl rfl rfl rfl (by kernel_rfl) rfl rfl (fun j hj=>by rcases hj with h | rfl<;>first | (cases h<;>rfl) | rfl) ⟨aP 6 (by kernel_rfl) (aA rfl rfl rfl),trivial⟩ rfl rfl Tryz.sizeOf44 (fun v w h=>by subst h;exact ⟨_,rfl,rfl,rfl⟩) (wC_le hg0)) ?_
   refine lX ?_
   intro Bf6 y6 W6 Ks6 hsz6 hKs6 hS' hcov6
   clear hS;have hS:=hS'.castO (O':=(_::_::_::_::_::_::Ot)) rfl;clear hS'
   refine vN (L':=[AwS _ _ (isV _),AwS _ _ (isV _),AwS _ _ (isV _),AwS _ _ (isV _),AwS _ _ (isV _),(fun v0_ w0_=>v0_=_∧AwS _ _ (isV _) v0_ w0_),AwS _ _ (isV _),isV _]) rfl (cA (cA (cA (cA (cA ?_)))))
   refine dF ?_;rintro _ ⟨rfl,hA6⟩;have hA6:=hA6.here;cases hA6
   refine cA (Ds (cI (aO (XF.thenN (aM (aQ (aB rfl rfl (aO (XF.thenN (bR (XF.thenR (XF.res (cO Tryz.results94 rfl) ?_))))))))))))
   have hS9:=(hS.tail.tail.castO (O':=_::_::_::(WB,wC (fs.set s f),44)::Ot) (by rw [← D5 (g:=f) hg0];rfl)).castG (G':=⟨_,(l++[s]).length,atC (l++[s]),3,1⟩::Gt) (by rw [show atC (l++[s])=atC l++[Value.int .i64 (s:Int)] by simp [atC],List.length_append];rfl)
   refine ⟨_,l++[s],fs.set s f,[],?_,?_,?_,?_,by rw [hcx];exact hS9.keep K (fun q hq=>by simp [hq])⟩
   ·rw [sH.2 hne];rfl
   ·exact fun q hq=>by cases hq
   ·rw [hcx];exact hV.put hs hx0 (fun q hq=>hq) HX hx hnz (.inr ⟨hz,rfl⟩)
   ·exact .inr (.inr rfl)
 ·have hc17:=hc;clear hc
  have hnz0:x0≠bX S:=by simpa [oO] using hc17
  have hxw:=HX hS (fun q hq=>by simp [hKv q hq])
  have hx0w:=(hV.held s g0 x0 hg0 hx0 hnz0) hS (fun q hq=>by simp [hKv q hq])
  have hsz8:=hS.below.size
  have hq8:w.heap.size≤W1.heap.size:=(hS.kept (w.heap.size,w) (by simp)).1.1
  have hcz:cF S x0 x≠bX S:=M6 hok hok0 hx hnz0
  have hcok:OkX S (cF S x0 x):=lH hok hok0 hx
  refine bJ (XF.thenN (aM (regBA (cs:=[_,_,_,_,_,_]) bY 15 14 hS rfl rfl rfl rfl Tryz.zeroValue44 rfl (by kernel_rfl) (by kernel_rfl) (by kernel_rfl) (fun d hd=>by cases hd) (dZ 1 rfl rfl (isV _) (aC _) (agV (li:=[(0,_)]) rfl (aT rfl) ⟨cU (by kernel_rfl) rfl,trivial⟩ (fun w hw=>aW rfl) (aE rfl)) (dZ 2 rfl rfl (isV _) (aC _) (agV (li:=[(47,_)]) rfl (aT rfl) ⟨aP 0 (by kernel_rfl) (aA rfl rfl rfl),trivial⟩ (fun w hw=>cV rfl) (aE rfl)) (dZ 3 rfl rfl (isV _) (aC _) (agV (li:=[(48,_)]) rfl (aT rfl) ⟨aP 1 (by kernel_rfl) (aA rfl rfl rfl),trivial⟩ (fun w hw=>aV (o':=0) lK rfl rfl) (aE rfl)) (dZ 4 rfl rfl (isV _) (aC _) (agV (li:=[(49,_)]) rfl (aT rfl) ⟨aP 2 (by kernel_rfl) (aA rfl rfl rfl),trivial⟩ (fun w hw=>aY (vs:=[_,_,_,_,_,_,_,_,_]) Tryz.isAgg76 Tryz.sizeOf76 rfl (aD.agree (aL hw 0) (Nat.zero_le _) (aD.own (j:=0) (m:=9) (hS.at_ 1 rfl) rfl))) (aE rfl)) (dZ 5 rfl rfl (isV _) (aC _) (agV (li:=[(1,_)]) rfl (aT rfl) ⟨cU (by kernel_rfl) rfl,trivial⟩ (fun w hw=>aW rfl) (aE rfl)) (dZ 6 rfl rfl (isV _) (aC _) (agV (li:=[(51,_)]) rfl (aT rfl) ⟨aP 4 (by kernel_rfl) (aA rfl rfl rfl),trivial⟩ (fun w hw=>cV rfl) (aE rfl)) (dZ 7 rfl rfl (isV _) (aC _) (agV (li:=[(52,_)]) rfl (aT rfl) ⟨aP 5 (by kernel_rfl) (aA rfl rfl rfl),trivial⟩ (fun w hw=>aV (o':=2) mY rfl rfl) (aE rfl)) (dZ 8 rfl rfl (isV _) (aC _) (agV (li:=[(53,_)]) rfl (aT rfl) ⟨aP 6 (by kernel_rfl) (aA rfl rfl rfl),trivial⟩ (fun w hw=>aZ Tryz.isAgg42 rfl ((aL hw 0).cell (Nat.zero_le _) (aJ (hS.at_ 2 rfl) rfl))) (aE rfl)) (dZ 9 rfl rfl (isV _) (aC _) (agV (li:=[(2,_)]) rfl (aT rfl) ⟨cU (by kernel_rfl) rfl,trivial⟩ (fun w hw=>aW rfl) (aE rfl)) (dZ 10 rfl rfl (isV _) (aC _) (agV (li:=[(54,_),(55,_)]) rfl (aT rfl) ⟨aP 7 (by kernel_rfl) (aA rfl rfl rfl),aP 8 (by kernel_rfl) (aA rfl rfl rfl),trivial⟩ (fun w hw=>aX (j:=s) Tryz.underlying42 Tryz.sizeOf44 rfl rfl (rfl) (hs) rfl) (aE rfl)) (dZ 11 rfl rfl (isX S x0) (oN) (agP (li:=[(56,_)]) rfl (aT rfl) ⟨aP 9 (by kernel_rfl) (aA rfl rfl rfl),trivial⟩ (fun w hw=>aY (vs:=[_,_,_,_,_,_]) Tryz.isAgg44 Tryz.sizeOf44 rfl (aD.agree (aL hw 0) (Nat.zero_le _) (aD.own (j:=0+s * 6) (m:=6) (hS.at_ 4 rfl) (In hg0)))) (fun w hw=>⟨g0,rfl,hx0w.below hw⟩) (aE rfl)) (dZ 12 rfl rfl (isX S x) (oN) (agP (li:=[(7,_)]) rfl (aT rfl) ⟨cU (by kernel_rfl) rfl,trivial⟩ (fun w hw=>aY (vs:=[_,_,_,_,_,_]) Tryz.isAgg44 Tryz.sizeOf44 rfl (aD.agree (aL hw 0) (Nat.zero_le _) (aD.own (j:=0) (m:=6) (hS.at_ 0 rfl) rfl))) (fun w hw=>⟨f,rfl,hxw.below hw⟩) (aE rfl)) (dZ 13 rfl rfl (mT S [x0,x]) (rI) (Ul rfl (aT rfl) ⟨bW (aP 10 (by kernel_rfl) (aA rfl rfl rfl)),bW (aP 11 (by kernel_rfl) (aA rfl rfl rfl)),trivial⟩ (aE rfl)) (dZ 14 rfl rfl (dL W1.heap.size S (cF S x0 x)) (dO) (ag_call [isV (jN a.s.f f0),mT S [x0,x]] rfl My (aT rfl) ⟨bW (aP 3 (by kernel_rfl) (aA rfl rfl rfl)),bW (aP 12 (by kernel_rfl) (aA rfl rfl rfl)),trivial⟩ (fun vs w' hb hh=>plus2N hh (hsi.below (hS.below.trans (hb.mono hS.below.size))) hok hok0 (ht.below (hS.below.trans (hb.mono hS.below.size))) hb.size) (aE rfl)) (Ck 15 rfl rfl (L4 ?_)))))))))))))))))))
  intro B7 AB7 W7 hbR hA1 hA2 hBlo hBhi hS'
  clear hS;have hS:=hS';clear hS'
  refine iC (iC (iC (iC (iC (iC (iC (iC (iC (iC ?_)))))))))
  refine dF ?_;intro _ _
  refine dF ?_;intro _ _
  refine dF ?_;intro _ _
  refine dF ?_;rintro _ hn9;obtain ⟨f9,e9,hf9⟩:=hn9.here;subst e9
  refine aF ?_
  obtain ⟨Kw,hKw⟩:∃ k,k=[(W1.heap.size,AB7),(B7+1,W7)]:=⟨_,rfl⟩
  have hnw:∀ q∈Kw,w.heap.size≤q.1:=fun q hq=>by
   rw [hKw] at hq
   simp only [List.mem_cons,List.not_mem_nil,or_false] at hq
   rcases hq with rfl | rfl
   ·exact hq8
   ·dsimp only;omega
  have HX9:kI w0 (Kw++Kv) (fun W2=>XIs W2 S f9 (cF S x0 x)):=fun h2 hk=>(newOff hn9 hf9 hbR.size (Nv hA1 hA2 (h2.kept (W1.heap.size,AB7) (hk _ (by rw [hKw];simp))).1 (h2.kept (B7+1,W7) (hk _ (by rw [hKw];simp))).1)).is
  refine cI (aU (i:=0) (vs:=[_,_,_,_,_,_]) (cs':=[_,_,_,_,_,_]) (O':=(_::_::_::_::_::_::Ot)) hS Tryz.sizeOf44 rfl rfl rfl rfl rfl rfl rfl fun W8 hS=>aO (XF.thenN (aM (aM ?_))))
  have hx9w:=HX9 hS (fun q hq=>by
   rw [hKw] at hq
   simp only [List.cons_append,List.nil_append,List.mem_cons] at hq
   rcases hq with rfl | rfl | hq
   ·simp
   ·simp
   ·simp [hKv q hq])
  have hx0v:=(hV.held s g0 x0 hg0 hx0 hnz0) hS (fun q hq=>by simp [hKv q hq])
  refine iV (m:=9) bY hS (by kernel_rfl) (by kernel_rfl) rfl (cQ 1 rfl 9 rfl (by kernel_rfl) rfl (fun w hw=>aY (vs:=[_,_,_,_,_,_]) Tryz.isAgg44 Tryz.sizeOf44 rfl (aD.agree (aL hw 0) (Nat.zero_le _) (aD.own (j:=0) (m:=6) (hS.at_ 0 rfl) rfl))) rfl (cQ 2 rfl 1 rfl (by kernel_rfl) rfl (fun w hw=>aW rfl) rfl (bI 3 rfl 62 1 rfl (by kernel_rfl) rfl rfl (fun w hw=>cV rfl) rfl (bI 4 rfl 63 2 rfl (by kernel_rfl) rfl rfl (fun w hw=>aV (o':=2) mY rfl rfl) rfl (bI 5 rfl 64 3 rfl (by kernel_rfl) rfl rfl (fun w hw=>aZ Tryz.isAgg42 rfl ((aL hw 0).cell (Nat.zero_le _) (aJ (hS.at_ 3 rfl) rfl))) rfl (cQ 6 rfl 2 rfl (by kernel_rfl) rfl (fun w hw=>aW rfl) rfl (aG 7 rfl (isV _) (aC _) (rgV (li:=[(65,_),(66,_)]) rfl (aT rfl) ⟨aP 4 (by kernel_rfl) (aA rfl rfl rfl),aP 5 (by kernel_rfl) (aA rfl rfl rfl),trivial⟩ (fun w hw=>aX (j:=s) Tryz.underlying42 Tryz.sizeOf44 rfl rfl (rfl) (hs) rfl) (aE rfl)) (bI 8 rfl 67 6 rfl (by kernel_rfl) rfl rfl (fun w hw=>aY (vs:=[_,_,_,_,_,_]) Tryz.isAgg44 Tryz.sizeOf44 rfl (aD.agree (aL hw 0) (Nat.zero_le _) (aD.own (j:=0+s * 6) (m:=6) (hS.at_ 5 rfl) (In hg0)))) rfl ?_))))))))
  refine aG 9 rfl (isV (.bool (eqX (cF S x0 x) x0))) (aC _) (cP [isV _,isV _] rfl Ei (aT rfl) ⟨bW (aP 0 (by kernel_rfl) (aA rfl rfl rfl)),bW (aP 7 (by kernel_rfl) (aA rfl rfl rfl)),trivial⟩ (fun vs w' hb hh=>by have e:=bZ (us:=[_,_]) hh;subst e;exact (Ij (hx9w.below hb) (hx0v.below hb) (eqX (cF S x0 x) x0) rN).mono fun e w2 h=>⟨_,h.1,rfl,h.2⟩) (aE rfl)) ?_
  refine dE ?_
  intro W9 hbR hS'
  clear hS;have hS:=hS';clear hS'
  refine aF (aF (aF (aF (aF (aF (aF (aF (aF (cI (XF.thenN (bB rfl (fun hc=>?_) (fun hc=>?_))))))))))))
  ·have hc69:=hc;clear hc
   have hee:cF S x0 x=x0:=rN.1 hc69
   refine aM (aQ (aB rfl rfl (aO (XF.thenN (bR (XF.thenR (XF.res (cO Tryz.results94 rfl) ?_)))))))
   have hS9:=hS.tail.tail
   have hxs:xs.set s (cF S x0 x)=xs:=by rw [hee,Be hx0]
   refine ⟨v,l,fs,[],?_,?_,?_,?_,by rw [hxs];exact hS9.keep K (fun q hq=>by simp [hq])⟩
   ·rw [rN.2 hee];rfl
   ·exact fun q hq=>by cases hq
   ·rw [hxs];exact hV
   ·exact .inl ⟨hee,rfl⟩
  ·have hc69:=hc;clear hc
   have hne:cF S x0 x≠x0:=sH.1 hc69
   refine bJ (XF.thenN (aM (Ug (ef:=7) (jy:=5) (ca:=pO (fun _=>[])) (ta:=fun _=>0) (Os:=osY _ 5 (0+s * 6) WB (wC fs) 44) (Gs:=xB _) (al:=[]) (k:=8) (ds:=[]) bY rfl hS rfl (by kernel_rfl) rfl (by decide) rfl rfl rfl rfl (bA 1 rfl rfl (isV _) (fun hNo=>sgV [(1,_)] rfl rfl rfl rfl hNo (aT rfl) ⟨cU (by kernel_rfl) rfl,trivial⟩ (fun ev w he hw=>aW rfl) (aE rfl)) (bA 2 rfl rfl (isV _) (fun hNo=>sgV [(70,_)] rfl rfl rfl rfl hNo (aT rfl) ⟨aP 0 (by kernel_rfl) (aA rfl rfl rfl),trivial⟩ (fun ev w he hw=>cV rfl) (aE rfl)) (bA 3 rfl rfl (isV _) (fun hNo=>sgV [(71,_)] rfl rfl rfl rfl hNo (aT rfl) ⟨aP 1 (by kernel_rfl) (aA rfl rfl rfl),trivial⟩ (fun ev w he hw=>aV (o':=2) mY rfl rfl) (aE rfl)) (bA 4 rfl rfl (isV _) (fun hNo=>sgV [(72,_)] rfl rfl rfl rfl hNo (aT rfl) ⟨aP 2 (by kernel_rfl) (aA rfl rfl rfl),trivial⟩ (fun ev w he hw=>aZ Tryz.isAgg42 rfl ((aJ (hw.at_ 3 (pT (i:=3) (j:=5) rfl rfl)) rfl))) (aE rfl)) (bA 5 rfl rfl (isV _) (fun hNo=>sgV [(2,_)] rfl rfl rfl rfl hNo (aT rfl) ⟨cU (by kernel_rfl) rfl,trivial⟩ (fun ev w he hw=>aW rfl) (aE rfl)) (bA 6 rfl rfl (isV _) (fun hNo=>sgV [(9,_)] rfl rfl rfl rfl hNo (aT rfl) ⟨cU (by kernel_rfl) rfl,trivial⟩ (fun ev w he hw=>aY (vs:=[_,_,_,_,_,_]) Tryz.isAgg44 Tryz.sizeOf44 rfl ((aD.own (j:=0) (m:=6) (hw.at_ 0 (pT (i:=0) (j:=5) rfl rfl)) rfl))) (aE rfl)) (bA 7 rfl rfl (isV _) (fun hNo=>sgV [(73,_),(74,_)] rfl rfl rfl rfl hNo (aT rfl) ⟨aP 3 (by kernel_rfl) (aA rfl rfl rfl),aP 4 (by kernel_rfl) (aA rfl rfl rfl),trivial⟩ (fun ev w he hw=>aX (j:=s) Tryz.underlying42 Tryz.sizeOf44 rfl rfl (rfl) (hs) rfl) (aE rfl)) ?_))))))))))
   refine sG 8 rfl (vV (py:=isV _) (m:=6) 5 (0+s * 6) [(76,_)] rfl rfl rfl rfl (by kernel_rfl) rfl rfl (fun j hj=>by rcases hj with h | rfl<;>first | (cases h<;>rfl) | rfl) ⟨aP 6 (by kernel_rfl) (aA rfl rfl rfl),trivial⟩ rfl rfl Tryz.sizeOf44 (fun v w h=>by subst h;exact ⟨_,rfl,rfl,rfl⟩) (wC_le hg0)) ?_
   refine lX ?_
   intro Bf10 y10 W10 Ks10 hsz10 hKs10 hS' hcov10
   clear hS;have hS:=hS'.castO (O':=(_::_::_::_::_::_::Ot)) rfl;clear hS'
   refine vN (L':=[AwS _ _ (isV _),AwS _ _ (isV _),AwS _ _ (isV _),AwS _ _ (isV _),AwS _ _ (isV _),(fun v0_ w0_=>v0_=_∧AwS _ _ (isV _) v0_ w0_),AwS _ _ (isV _),isV _]) rfl (cA (cA (cA (cA (cA ?_)))))
   refine dF ?_;rintro _ ⟨rfl,hA10⟩;have hA10:=hA10.here;cases hA10
   refine cA (Ds (cI (aO (XF.thenN (aM (aQ (aB rfl rfl (aO (XF.thenN (bR (XF.res (cO Tryz.results94 rfl) ?_)))))))))))
   have hin9:inC S (xs.set s (cF S x0 x))=inC S xs:=by rw [← M5,oO.2 hcz,Nat.zero_add,Nat.mul_one];exact P2 (by rw [List.getElem?_map,hx0];show some (Value.bool (nzX S x0))=_;rw [oO.2 hnz0])
   have hS9:=hS.tail.tail.castO (O':=_::_::_::(WB,wC (fs.set s f9),44)::Ot) (by rw [← D5 (g:=f9) hg0];rfl)
   refine ⟨v,l,fs.set s f9,Kw,?_,?_,?_,?_,by rw [hin9];exact hS9.keep (Kw++K) (fun q hq=>by
    rw [hKw] at hq
    simp only [List.cons_append,List.nil_append,List.mem_cons] at hq
    rcases hq with rfl | rfl | hq
    ·simp
    ·simp
    ·simp [hq])⟩
   ·rw [sH.2 hne];rfl
   ·exact hnw
   ·exact hV.put hs hx0 (fun q hq=>List.mem_append_right _ hq) HX9 hcok hcz (.inl ⟨hnz0,rfl⟩)
   ·exact .inr (.inl rfl)
theorem Um (w:World) (b o:Nat):(Instr.fieldAt 109 (.pointer (some ⟨b,o,none⟩)) 2).run Tryz.prog w = .ok (.pointer (some ⟨b,o+16,none⟩)) w:=by
 simp [Instr.fieldAt,run_underlying Tryz.underlying109,Instr.sureAddr,go_sem,Addr.add_lit]
theorem xF (S:PS) (a:AV) (f0:WF) (bk:Bool) (bm VA VX RB:Nat) (f g:WF) (x y:PX) (tf tg tt:Int) (w:World) (hrb:w.heap[RB]?=some (.cells (rdC f0 a bk bm VA VX).toArray 109 (0,0))) (hsi:SIs w S a.s.f) (hok:S.ok) (ht:Tabs w) (hx:XIs w S f x) (hy:XIs w S g y) :
  Calls Tryz.prog 66 #[.pointer (some ⟨RB,0,none⟩),f.val,.agg #[.int .i64 tf,.int .i64 tg,.int .i64 tt,.bool g.z,.int .i64 g.c,.int .u64 (g.g:Int),.slice g.ra g.rl g.rc,.slice g.ca g.cl g.cc,.slice g.pa g.pl g.pc]] w (gN S (mX S bk x y) w):=by
 refine cD (args:=[.pointer (some ⟨RB,0,none⟩),f.val,.agg #[.int .i64 tf,.int .i64 tg,.int .i64 tt,.bool g.z,.int .i64 g.c,.int .u64 (g.g:Int),.slice g.ra g.rl g.rc,.slice g.ca g.cl g.cc,.slice g.pa g.pl g.pc]]) Tryz.func66 rfl Tryz.ntmps66 rfl ?_
 have hS:=St.start w
 refine aM (aQ (bT (cs:=[_,_,_,_,_,_]) hS rfl rfl rfl fun B1 W1 hS=>bT (cs:=[_,_,_,_,_,_,_,_,_]) hS rfl rfl rfl fun B2 W2 hS=>bC (cs:=[_,_,_,_,_,_]) hS Tryz.zeroValue44 rfl rfl fun B3 W3 hS=>aO (XF.thenN (aM (aM ?_)))))
 have hring:=aD.own (j:=0) (m:=9) (vs:=[.int .i64 a.s.f.tag,.int .i64 a.s.f.dim,.slice a.s.f.a a.s.f.len a.s.f.cap,.bool f0.z,.int .i64 f0.c,.int .u64 (f0.g:Int),.slice f0.ra f0.rl f0.rc,.slice f0.ca f0.cl f0.cc,.slice f0.pa f0.pl f0.pc]) hrb rfl
 have hbk0:=aJ (j:=16) hrb rfl
 have hsz:=hS.below.size
 refine aQ (aH rfl rfl (cL rfl rfl (aN Um rfl rfl rfl (aS Tryz.isAgg4 rfl (hS.old hbk0) rfl (aO (XF.thenN (bB rfl (fun hc=>?_) (fun hc=>?_))))))))
 ·have hc10:=hc;clear hc
  refine aM ?_
  have hxw:=hx.below hS.below
  have hyw:=hy.below hS.below
  have k9:=aD.agree hS.agree (Nat.zero_le _) hring
  refine qM bY 9 hS rfl rfl (by kernel_rfl) (by kernel_rfl) (by kernel_rfl) (fun d hd=>by cases hd) (cQ 1 rfl 0 rfl (by kernel_rfl) rfl (fun w hw=>aW rfl) rfl (bI 2 rfl 11 0 rfl (by kernel_rfl) rfl rfl (fun w hw=>cV rfl) rfl (bI 3 rfl 12 1 rfl (by kernel_rfl) rfl rfl (fun w hw=>aV lK rfl (Nat.add_zero _)) rfl (bI 4 rfl 13 2 rfl (by kernel_rfl) rfl rfl (fun w hw=>aY (vs:=[_,_,_,_,_,_,_,_,_]) Tryz.isAgg76 Tryz.sizeOf76 rfl (aD.agree (aL hw 0) (Nat.zero_le _) (k9))) rfl (cQ 5 rfl 5 rfl (by kernel_rfl) rfl (fun w hw=>aV (o':=3) vT rfl rfl) rfl (aG 6 rfl (isX S y) (oN) (rgP (li:=[(15,_)]) rfl (aT rfl) ⟨aP 4 (by kernel_rfl) (aA rfl rfl rfl),trivial⟩ (fun w hw=>aY (vs:=[_,_,_,_,_,_]) Tryz.isAgg44 Tryz.sizeOf44 rfl (aD.agree (aL hw 0) (Nat.zero_le _) (aD.own (j:=3) (m:=6) (hS.at_ 1 rfl) rfl))) (fun w hw=>⟨g,rfl,hyw.below hw⟩) (aE rfl)) (aG 7 rfl (isX S x) (oN) (rgP (li:=[(4,_)]) rfl (aT rfl) ⟨cU (by kernel_rfl) rfl,trivial⟩ (fun w hw=>aY (vs:=[_,_,_,_,_,_]) Tryz.isAgg44 Tryz.sizeOf44 rfl (aD.agree (aL hw 0) (Nat.zero_le _) (aD.own (j:=0) (m:=6) (hS.at_ 2 rfl) rfl))) (fun w hw=>⟨f,rfl,hxw.below hw⟩) (aE rfl)) (aG 8 rfl (mT S [y,x]) (rI) (Ih rfl (aT rfl) ⟨bW (aP 5 (by kernel_rfl) (aA rfl rfl rfl)),bW (aP 6 (by kernel_rfl) (aA rfl rfl rfl)),trivial⟩ (aE rfl)) (aG 9 rfl (dL W3.heap.size S (kC S y x)) (dO) (cP [isV (jN a.s.f f0),mT S [y,x]] rfl L0 (aT rfl) ⟨bW (aP 3 (by kernel_rfl) (aA rfl rfl rfl)),bW (aP 7 (by kernel_rfl) (aA rfl rfl rfl)),trivial⟩ (fun vs w' hb hh=>T4 hh (hsi.below (hS.below.trans (hb.mono hS.below.size))) hok (ht.below (hS.below.trans (hb.mono hS.below.size))) hb.size) (aE rfl)) (dE ?_))))))))))
  intro W4 hbR hS'
  clear hS;have hS:=hS';clear hS'
  refine aF (aF (aF (aF (aF ?_))))
  refine dF ?_;rintro _ _
  refine dF ?_;rintro _ _
  refine dF ?_;rintro _ _
  refine dF ?_;rintro _ ⟨f2,rfl,hn2⟩
  refine cI (aU (i:=0) (vs:=[_,_,_,_,_,_]) (cs':=[_,_,_,_,_,_]) (O':=[_,_,_]) hS Tryz.sizeOf44 rfl rfl rfl rfl rfl rfl rfl fun W5 hS=>aO (XF.thenN (bR (XF.thenR (XF.res (dP (vs:=[_,_,_,_,_,_]) Tryz.results66 Tryz.isAgg44 Tryz.sizeOf44 rfl (aD.own (j:=0) (m:=6) (hS.at_ 0 rfl) rfl)) ?_)))))
  have e9:bk=true:=hc10
  subst e9
  exact ⟨f2,rfl,(hn2.agree (hS.since 0 rfl)).mono (by simpa using hsz),hS.below⟩
 ·have hc10:=hc;clear hc
  refine bJ (XF.thenN (aM ?_))
  have hxw:=hx.below hS.below
  have hyw:=hy.below hS.below
  have k9:=aD.agree hS.agree (Nat.zero_le _) hring
  refine qM bY 9 hS rfl rfl (by kernel_rfl) (by kernel_rfl) (by kernel_rfl) (fun d hd=>by cases hd) (cQ 1 rfl 0 rfl (by kernel_rfl) rfl (fun w hw=>aW rfl) rfl (bI 2 rfl 20 0 rfl (by kernel_rfl) rfl rfl (fun w hw=>cV rfl) rfl (bI 3 rfl 21 1 rfl (by kernel_rfl) rfl rfl (fun w hw=>aV lK rfl (Nat.add_zero _)) rfl (bI 4 rfl 22 2 rfl (by kernel_rfl) rfl rfl (fun w hw=>aY (vs:=[_,_,_,_,_,_,_,_,_]) Tryz.isAgg76 Tryz.sizeOf76 rfl (aD.agree (aL hw 0) (Nat.zero_le _) (k9))) rfl (aG 5 rfl (isX S x) (oN) (rgP (li:=[(4,_)]) rfl (aT rfl) ⟨cU (by kernel_rfl) rfl,trivial⟩ (fun w hw=>aY (vs:=[_,_,_,_,_,_]) Tryz.isAgg44 Tryz.sizeOf44 rfl (aD.agree (aL hw 0) (Nat.zero_le _) (aD.own (j:=0) (m:=6) (hS.at_ 2 rfl) rfl))) (fun w hw=>⟨f,rfl,hxw.below hw⟩) (aE rfl)) (cQ 6 rfl 5 rfl (by kernel_rfl) rfl (fun w hw=>aV (o':=3) vT rfl rfl) rfl (aG 7 rfl (isX S y) (oN) (rgP (li:=[(25,_)]) rfl (aT rfl) ⟨aP 5 (by kernel_rfl) (aA rfl rfl rfl),trivial⟩ (fun w hw=>aY (vs:=[_,_,_,_,_,_]) Tryz.isAgg44 Tryz.sizeOf44 rfl (aD.agree (aL hw 0) (Nat.zero_le _) (aD.own (j:=3) (m:=6) (hS.at_ 1 rfl) rfl))) (fun w hw=>⟨g,rfl,hyw.below hw⟩) (aE rfl)) (aG 8 rfl (mT S [x,y]) (rI) (Ih rfl (aT rfl) ⟨bW (aP 4 (by kernel_rfl) (aA rfl rfl rfl)),bW (aP 6 (by kernel_rfl) (aA rfl rfl rfl)),trivial⟩ (aE rfl)) (aG 9 rfl (dL W3.heap.size S (kC S x y)) (dO) (cP [isV (jN a.s.f f0),mT S [x,y]] rfl L0 (aT rfl) ⟨bW (aP 3 (by kernel_rfl) (aA rfl rfl rfl)),bW (aP 7 (by kernel_rfl) (aA rfl rfl rfl)),trivial⟩ (fun vs w' hb hh=>T4 hh (hsi.below (hS.below.trans (hb.mono hS.below.size))) hok (ht.below (hS.below.trans (hb.mono hS.below.size))) hb.size) (aE rfl)) (dE ?_))))))))))
  intro W6 hbR hS'
  clear hS;have hS:=hS';clear hS'
  refine aF (aF (aF (aF ?_)))
  refine dF ?_;rintro _ _
  refine aF ?_
  refine dF ?_;rintro _ _
  refine dF ?_;rintro _ _
  refine dF ?_;rintro _ ⟨f2,rfl,hn2⟩
  refine cI (aU (i:=0) (vs:=[_,_,_,_,_,_]) (cs':=[_,_,_,_,_,_]) (O':=[_,_,_]) hS Tryz.sizeOf44 rfl rfl rfl rfl rfl rfl rfl fun W7 hS=>aO (XF.thenN (bR (XF.res (dP (vs:=[_,_,_,_,_,_]) Tryz.results66 Tryz.isAgg44 Tryz.sizeOf44 rfl (aD.own (j:=0) (m:=6) (hS.at_ 0 rfl) rfl)) ?_))))
  have e9:bk=false:=hc10
  subst e9
  exact ⟨f2,rfl,(hn2.agree (hS.since 0 rfl)).mono (by simpa using hsz),hS.below⟩
theorem slNil {w:World} {base n size:Nat} {e:TypeId} {a:Option Addr} {c:Nat} {xs:List Value} (h:w.ownsRow base e size (.slice a n c) n xs):(a=none∧n=0∧c=0)∨∃ b,a=some ⟨b,0,none⟩:=by
 rcases h.2 with ⟨e1,e2⟩ | ⟨g,cap,cur,e1,_⟩
 ·cases e1;exact .inl ⟨rfl,rfl,rfl⟩
 ·cases e1;exact .inr ⟨_,rfl⟩
theorem jP {w:World} {base n:Nat} {e:TypeId} {a:Option Addr} {c i:Nat} {xs:List Value} {x:Value} (h:w.ownsRow base e 1 (.slice a n c) n xs) (hi:xs[i]?=some x):∃ b,a=some ⟨b,0,none⟩∧w.cell? ⟨b,0+i * 1,none⟩=some x:=by
 rcases sY h with ⟨h1,h0⟩ | ⟨b,h1,_,h3⟩
 ·have h4:=h.1
  have:=(List.getElem?_eq_some_iff.1 hi).1
  omega
 ·exact ⟨b,h1,by rw [Nat.zero_add,Nat.mul_one];exact h3 i x hi⟩
theorem Io (S:PS) (VB IB WB n:Nat) (v:Value) (fs:List WF) (xs:List PX) (l:List Nat) (Ot:Own) (Gt:dC) (K:List (Nat×World)) (w0:World) (w:World) (hS0:St w0 ((VB,gO v n IB WB,139)::(IB,inC S xs,4)::(WB,wC fs,44)::Ot) (⟨v,l.length,atC l,3,1⟩::Gt) K w) (hV:VecOk S w0 K n fs xs l) (hn:n≤4096) :
  Calls Tryz.prog 95 #[.pointer (some ⟨VB,0,none⟩)] w (fun e w'=>∃ (u:Value),e = .returned (.tuple #[])∧VecOk S w0 K n fs (List.replicate n (bX S)) []∧St w0 ((VB,gO u n IB WB,139)::(IB,inC S (List.replicate n (bX S)),4)::(WB,wC fs,44)::Ot) (⟨u,([]:List Nat).length,atC [],3,1⟩::Gt) K w'):=by
 refine cD (args:=[.pointer (some ⟨VB,0,none⟩)]) Tryz.func95 rfl Tryz.ntmps95 rfl ?_
 have hS:=hS0
 have hll:=hV.len
 obtain ⟨va,vc,rfl⟩:=hS.headSl
 refine aM (aM (aQ (aH rfl rfl (cL rfl rfl (aN (o':=0) kJ rfl rfl rfl (aS Tryz.isAgg26 rfl (aJ (hS.at_ 0 rfl) rfl) rfl (cJ Tryz.underlying26 rfl rfl (aH rfl rfl (aO (XF.thenN (bP ?_)))))))))))
 refine eA (fun m lf W=>∃ (i:Nat) (bs:List Bool),i≤l.length∧m=l.length - i∧lf=[(0,.pointer (some ⟨VB,0,none⟩)),(7,.slice va l.length vc),(8,.int .i64 (l.length:Int)),(9,.int .i64 (i:Int))]∧bs.length=n∧(∀ (j:Nat) (b:Bool),bs[j]?=some b→b=(nzX S (xs.getD j (bX S)) && !(l.take i).contains j))∧St w0 ((VB,gO (.slice va l.length vc) n IB WB,139)::(IB,bs.map Value.bool,4)::(WB,wC fs,44)::Ot) (⟨.slice va l.length vc,l.length,atC l,3,1⟩::Gt) K W) (l.length - 0) ([(0,_),(7,_),(8,_),(9,_)]) ⟨rfl,rfl,rfl,rfl,trivial⟩ (⟨0,xs.map (nzX S),Nat.zero_le _,rfl,rfl,by rw [List.length_map];exact hV.xl,(fun j b hb=>by
  rw [List.getElem?_map] at hb
  cases hx:xs[j]? with
  | none=>rw [hx] at hb;cases hb
  | some x=>rw [hx] at hb;cases hb;simp [List.getD_eq_getElem?_getD,hx]),hS.castO (by rw [List.map_map];rfl)⟩) ?_
 clear hS
 rintro m lf W ⟨i,bs,hi,rfl,rfl,hbl,hbs,hS⟩
 refine aM (aQ (cS rfl rfl rfl (aO (XF.thenN (aM (bB rfl (fun hc=>?_) (fun hc=>?_)))))))
 ·have hc10:=of_decide_eq_true hc;clear hc
  have hk:i < l.length:=by omega
  obtain ⟨y,hy⟩:∃ y,l[i]?=some y:=⟨l[i],List.getElem?_eq_getElem hk⟩
  obtain ⟨xy,hxy,hxz⟩:=(hV.ats y).1 (List.mem_of_getElem? hy)
  have hyn:y < n:=by have:=(List.getElem?_eq_some_iff.1 hxy).1;rw [hV.xl] at this;exact this
  obtain ⟨b9,rfl,k9⟩:=jP (hS.row 0 rfl) (show (atC l)[i]?=some (.int .i64 (y:Int)) by rw [List.getElem?_map,hy];rfl)
  refine bJ (XF.thenN (aM (bP (aM (aQ (cM  Tryz.underlying26 Tryz.sizeOf3 rfl rfl rfl (by omega) rfl rfl (aS Tryz.isAgg3 rfl (k9) rfl (aB rfl rfl (aO (XF.thenN (aQ (aH rfl rfl (cL rfl rfl (aN (o':=1) vW rfl rfl rfl (aS Tryz.isAgg58 rfl (aJ (hS.at_ 0 rfl) rfl) rfl (aH rfl rfl (cM (j:=y) Tryz.underlying58 Tryz.sizeOf4 rfl rfl (rfl) (hyn) rfl rfl ?_)))))))))))))))))
  refine dT (i:=1) (cs':=(bs.map Value.bool).set (0+y * 1) (.bool false)) (O':=_::_::_::Ot) hS Tryz.sizeOf4 rfl rfl rfl rfl (by rw [Nat.blt_eq,List.length_map,hbl];omega) rfl rfl fun W4 hS=>?_
  refine aO (XF.blkN (XF.thenN (aQ (cY rfl rfl (IntWalk.i64_in _ (by omega)) rfl (aH rfl rfl (aO ?_))))))
  exact XF.round (l.length - (i+1)) [(0,_),(7,_),(8,_),(9,_)] (by omega) ⟨rfl,rfl,rfl,rfl,trivial⟩ ⟨i+1,bs.set y false,by omega,rfl,rfl,by rw [List.length_set];exact hbl,(fun j b hb=>by
   rw [List.take_add_one,hy]
   rcases Nat.decEq j y with e | rfl
   ·rw [List.getElem?_set_ne (Ne.symm e)] at hb
    rw [hbs j b hb]
    simp [e]
   ·rw [List.getElem?_set_self (by rw [hbl];exact hyn)] at hb
    cases hb
    simp),hS.castO (by rw [Nat.zero_add,Nat.mul_one,List.map_set])⟩
 ·have hc10:=of_decide_eq_false hc;clear hc
  have hbz:bs=List.replicate n false:=by
   apply List.ext_getElem?
   intro j
   rw [List.take_of_length_le (by omega)] at hbs
   rcases Nat.lt_or_ge j n with hj | hj
   ·have h1:j < bs.length:=by omega
    have h2:=hbs j bs[j] (List.getElem?_eq_getElem h1)
    rw [List.getElem?_eq_getElem h1,h2,List.getElem?_replicate,if_pos hj]
    congr 1
    obtain ⟨f9,x9,_,hx9,_⟩:=hV.at_ hj
    rw [List.getD_eq_getElem?_getD,hx9]
    by_cases hz:x9=bX S
    ·simp [kU.2 hz]
    ·have:j∈l:=(hV.ats j).2 ⟨x9,hx9,hz⟩
     simp [this]
   ·rw [List.getElem?_eq_none (by omega),List.getElem?_replicate,if_neg (by omega)]
  subst hbz
  have hinz:inC S (List.replicate n (bX S))=(List.replicate n false).map Value.bool:=by simp [inC,kU.2 rfl]
  refine dX (XF.thenX (XF.thenX (XF.blkX (XF.thenN ?_))))
  rcases slNil (hS.row 0 rfl) with ⟨h1,h2,h3⟩ | ⟨b5,h1⟩
  ·obtain rfl:=h1
   obtain rfl:l=[]:=List.eq_nil_of_length_eq_zero h2
   obtain rfl:=h3
   refine aQ (aH rfl rfl (aH rfl rfl (cL rfl rfl (aN (o':=0) kJ rfl rfl rfl (aS Tryz.isAgg26 rfl (aJ (hS.at_ 0 rfl) rfl) rfl (Pw Tryz.underlying26 Tryz.sizeOf3 rfl rfl rfl rfl (cL rfl rfl (aN (o':=0) kJ rfl rfl rfl (dT (i:=0) (cs':=[_,_,_]) (O':=(_::_::_::Ot)) hS Tryz.sizeOf26 rfl rfl (by first | rfl | exact (hS.oneV 0 _ rfl :) | exact (hS.oneV 1 _ rfl :) | exact (hS.oneV 2 _ rfl :) | exact (hS.oneV 3 _ rfl :)) rfl rfl rfl rfl fun W1 hS=>aO (XF.resN (Ji Tryz.results95) ?_))))))))))
   have hS9:=(hS.castO (O':=_::(IB,inC S (List.replicate n (bX S)),4)::_::Ot) (by rw [hinz])).castG (G':=⟨_,([]:List Nat).length,atC [],3,1⟩::Gt) rfl
   exact ⟨_,rfl,VecOk.emptied hV.fl,hS9⟩
  ·obtain rfl:=h1
   refine aQ (aH rfl rfl (aH rfl rfl (cL rfl rfl (aN (o':=0) kJ rfl rfl rfl (aS Tryz.isAgg26 rfl (aJ (hS.at_ 0 rfl) rfl) rfl (op_cut (k:=0) hS 0 Tryz.underlying26 Tryz.sizeOf3 rfl rfl rfl (rfl) (Nat.zero_le _) rfl ?_))))))
   intro hS';clear hS;have hS:=hS';clear hS'
   refine cL rfl rfl (aN (o':=0) kJ rfl rfl rfl (dT (i:=0) (cs':=[_,_,_]) (O':=(_::_::_::Ot)) hS Tryz.sizeOf26 rfl rfl (by first | rfl | exact (hS.oneV 0 _ rfl :) | exact (hS.oneV 1 _ rfl :) | exact (hS.oneV 2 _ rfl :) | exact (hS.oneV 3 _ rfl :)) rfl rfl rfl rfl fun W2 hS=>aO (XF.resN (Ji Tryz.results95) ?_)))
   have hS9:=(hS.castO (O':=_::(IB,inC S (List.replicate n (bX S)),4)::_::Ot) (by rw [hinz])).castG (G':=⟨_,([]:List Nat).length,atC [],3,1⟩::Gt) rfl
   exact ⟨_,rfl,VecOk.emptied hV.fl,hS9⟩
section
variable {P:Program} {ops:Array Oper} {Q:Exit→Act→World→Prop} {n:Nat} {l:Fr} {W:World} {L:List Asr} {i:Nat}
variable {d:Nat} {op:Op} {ty:TypeId} {pos:String} {aft_:Array Edge}
theorem F4 (ds:List (Nat×Nat×Asr)) (hi:ops[i]?=some ⟨some d,op,ty,pos,aft_,none⟩) {q:Asr} (hds:Ud ops L i ds)
  (hr:∀ (ev:Operand→Value) w,Below W.heap.size W w→Uc ds ev w→∃ v w',(execOp ev ⟨some d,op,ty,pos,#[],none⟩).run P w = .ok (.value v) w'∧q v w'∧Below w.heap.size w w') (hI:atI L i=q):RG P n ops Q l W L i :=
 fun a ha=>qI hi (aT rfl) fun b w hF hG hD=>by
  have key:∀ (ds:List (Nat×Nat×Asr)),Ud ops L i ds→Uc ds b.eval w:=by
   intro ds
   induction ds with
   | nil=>intro _;trivial
   | cons x xs ih =>
    intro h
    refine ⟨?_,ih h.2⟩
    have h1:=hD x.1 x.2.1 h.1.1
    rw [h.1.2] at h1
    exact h1
  obtain ⟨v,w',h2,h3,h4⟩:=hr b.eval w hG (key ds hds)
  exact ⟨v,w',by rw [fZ b.eval _ _ _ _ pos _ #[] _ none];exact h2,by rw [hI];exact h3,h4⟩
end
def xG (lo m:Nat) (e:TypeId) (cs:List Value):Asr:=fun v w=>∃ B,v = .slice (some ⟨B,0,none⟩) m m∧lo≤B∧w.heap[B]?=some (.cells cs.toArray e (0,0))
theorem xS {lo m:Nat} {e:TypeId} {cs:List Value}:iT (xG lo m e cs):=fun v w w' ⟨B,h1,h2,h3⟩ hb=>⟨B,h1,h2,(hb.block B (cC h3)).trans h3⟩
theorem Ip {P:Program} {W:World} {T e:TypeId} {inf:TypeInfo} {z:Value} {m d:Nat} {cs:List Value} {x y:Operand} {ty:TypeId} {pos:String} {ev:Operand→Value} (hU:P.underlying T=some (.slice e)) (hinf:P.info? e=some inf) (hz:inf.zero=some z) (hx:ev x = .int .i64 (m:Int)) (hy:ev y = .int .i64 (m:Int))
  (hcs:madeCells z.cells (m * inf.size)=cs.toArray) (hb:(inf.bytes:Int) * m≤281474976710656) (h63:(m:Int)≤9223372036854775807) {lo:Nat} (hlo:lo≤W.heap.size):∃ v w',(execOp ev ⟨some d,.makeSlice T x y,ty,pos,#[],none⟩).run P W = .ok (.value v) w'∧xG lo m e cs v w'∧Below W.heap.size W w':=by
 have hr:=run_make (P:=P) W T e inf z hU hinf hz .i64 .i64 m m (by omega) (by omega) hb h63
 rw [Int.toNat_natCast,hcs] at hr
 refine ⟨.slice (some ⟨W.heap.size,0,none⟩) m m,W.alloc (.cells cs.toArray e),?_,⟨W.heap.size,rfl,hlo,heap_alloc_new W _⟩,(Below.refl _ _).alloc (Nat.le_refl _) _⟩
 unfold execOp;simp only [];rw [hx,hy]
 simp [hr,Result.andThen]
theorem St.adoptL {w0 W W':World} {O N:Own} {G:dC} {K:List (Nat×World)} (h:St w0 O G K W) (h':St w0 O G K W') (hN:∀ p∈N,W.heap.size≤p.1∧W'.heap[p.1]?=some (.cells p.2.1.toArray p.2.2 (0,0))) (hd:N.Pairwise (fun p q=>p.1≠q.1)):St w0 (N++O) G K W' where
 below:=h'.below
 own:=fun p hp=>by
  rcases List.mem_append.1 hp with hp | hp
  ·exact ⟨Nat.le_trans h.below.size (hN p hp).1,(hN p hp).2⟩
  ·exact h'.own p hp
 dist:=by
  rw [List.pairwise_append]
  refine ⟨hd,h'.dist,fun p hp q hq e=>?_⟩
  have h1:=(hN p hp).1
  have h2:=cC (h.own q hq).2
  omega
 kept:=fun q hq=>⟨(h'.kept q hq).1,fun p hp=>by
  rcases List.mem_append.1 hp with hp | hp
  ·exact .inr (Nat.le_trans (h.kept q hq).1.1 (hN p hp).1)
  ·exact (h'.kept q hq).2 p hp⟩
 rows:=fun g hg=>⟨(h'.rows g hg).1,fun b hb=>⟨fun p hp=>by
  rcases List.mem_append.1 hp with hp | hp
  ·have h1:=(hN p hp).1
   have h2:=((h.rows g hg).1.lt b hb).2
   omega
  ·exact ((h'.rows g hg).2 b hb).1 p hp,((h'.rows g hg).2 b hb).2⟩⟩
 gdist:=h'.gdist
theorem Iq (v1a:Option Addr) (v1l:Nat) (v1c:Nat) (v2a:Option Addr) (v2l:Nat) (v2c:Nat):Tryz.prog.built 139 [(1,.slice v1a v1l v1c),(2,.slice v2a v2l v2c)]=some #[.slice none 0 0,.slice v1a v1l v1c,.slice v2a v2l v2c]:=by kernel_rfl
theorem Lh (n:Nat):madeCells (Value.bool false).cells (n * 1)=(List.replicate n (Value.bool false)).toArray:=by
 apply Array.ext'
 rw [Nat.mul_one]
 exact toList_madeCells_one _ n
theorem Cg (n:Nat):(madeCells (Value.agg #[.bool false,.int .i64 0,.int .u64 0,.slice none 0 0,.slice none 0 0,.slice none 0 0]).cells (n * 6)).toList=wC (List.replicate n (⟨false,0,0,none,0,0,[],none,0,0,[],none,0,0⟩:WF)):=by
 induction n with
 | zero=>simp [madeCells]
 | succ n ih =>
  rw [show (n+1) * 6=n * 6+6 by omega,List.replicate_succ',wC,List.flatMap_append]
  show _=wC (List.replicate n (⟨false,0,0,none,0,0,[],none,0,0,[],none,0,0⟩:WF))++_
  rw [← ih]
  unfold madeCells
  simp only [Array.toList_map,Array.toList_range,List.range_succ,List.map_append,List.map_cons,List.map_nil,List.append_assoc]
  have h:∀ k,k < 6→(n * 6+k) % (Value.agg #[.bool false,.int .i64 0,.int .u64 0,.slice none 0 0,.slice none 0 0,.slice none 0 0]).cells.size=k:=fun k hk=>by
   show (n * 6+k) % 6=k
   omega
  rw [show (n * 6) % (Value.agg #[.bool false,.int .i64 0,.int .u64 0,.slice none 0 0,.slice none 0 0,.slice none 0 0]).cells.size=0 from h 0 (by omega),h 1 (by omega),h 2 (by omega),h 3 (by omega),h 4 (by omega),h 5 (by omega)]
  rfl
theorem F5 (n:Nat):madeCells (Value.agg #[.bool false,.int .i64 0,.int .u64 0,.slice none 0 0,.slice none 0 0,.slice none 0 0]).cells (n * 6)=(wC (List.replicate n (⟨false,0,0,none,0,0,[],none,0,0,[],none,0,0⟩:WF))).toArray:=by
 apply Array.ext'
 rw [Cg]
def Li (lo n:Nat):Asr:=fun v w=>∃ IB WB,v = .agg #[.slice none 0 0,.slice (some ⟨IB,0,none⟩) n n,.slice (some ⟨WB,0,none⟩) n n]∧lo≤IB∧lo≤WB∧w.heap[IB]?=some (.cells (List.replicate n (Value.bool false)).toArray 4 (0,0))∧w.heap[WB]?=some (.cells (wC (List.replicate n (⟨false,0,0,none,0,0,[],none,0,0,[],none,0,0⟩:WF))).toArray 44 (0,0))
theorem Ir {lo n:Nat}:iT (Li lo n):=fun v w w' ⟨IB,WB,h1,h2,h3,h4,h5⟩ hb=>⟨IB,WB,h1,h2,h3,(hb.block _ (cC h4)).trans h4,(hb.block _ (cC h5)).trans h5⟩
def F6 (lo n:Nat):Asr:=fun v w=>∃ VB IB WB,v = .pointer (some ⟨VB,0,none⟩)∧lo≤VB∧lo≤IB∧lo≤WB∧w.heap[VB]?=some (.cells (gO (.slice none 0 0) n IB WB).toArray 139 (0,0))∧w.heap[IB]?=some (.cells (List.replicate n (Value.bool false)).toArray 4 (0,0))∧w.heap[WB]?=some (.cells (wC (List.replicate n (⟨false,0,0,none,0,0,[],none,0,0,[],none,0,0⟩:WF))).toArray 44 (0,0))
theorem xT {lo n:Nat}:iT (F6 lo n):=fun v w w' ⟨VB,IB,WB,h1,h2,h3,h4,h5,h6,h7⟩ hb=>⟨VB,IB,WB,h1,h2,h3,h4,(hb.block _ (cC h5)).trans h5,(hb.block _ (cC h6)).trans h6,(hb.block _ (cC h7)).trans h7⟩
theorem vec_own {w0 W W':World} {O:Own} {G:dC} {K:List (Nat×World)} {n VB IB WB:Nat} (h:St w0 O G K W) (h':St w0 O G K W') (l1:W.heap.size≤VB) (l2:W.heap.size≤IB) (l3:W.heap.size≤WB) (h1:W'.heap[VB]?=some (.cells (gO (.slice none 0 0) n IB WB).toArray 139 (0,0))) (h2:W'.heap[IB]?=some (.cells (List.replicate n (Value.bool false)).toArray 4 (0,0))) (h3:W'.heap[WB]?=some (.cells (wC (List.replicate n (⟨false,0,0,none,0,0,[],none,0,0,[],none,0,0⟩:WF))).toArray 44 (0,0))) :
  St w0 ((VB,gO (.slice none 0 0) n IB WB,139)::(IB,List.replicate n (Value.bool false),4)::(WB,wC (List.replicate n (⟨false,0,0,none,0,0,[],none,0,0,[],none,0,0⟩:WF)),44)::O) G K W':=by
 have n1:VB≠IB:=fun e=>by rw [e,h2] at h1;injection h1 with h1;injection h1 with _ h1 _;exact absurd h1 (by decide)
 have n2:VB≠WB:=fun e=>by rw [e,h3] at h1;injection h1 with h1;injection h1 with _ h1 _;exact absurd h1 (by decide)
 have n3:IB≠WB:=fun e=>by rw [e,h3] at h2;injection h2 with h2;injection h2 with _ h2 _;exact absurd h2 (by decide)
 exact h.adoptL (N:=[(VB,_,139),(IB,_,4),(WB,_,44)]) h' (fun p hp=>by
  simp only [List.mem_cons,List.not_mem_nil,or_false] at hp
  rcases hp with rfl | rfl | rfl
  ·exact ⟨l1,h1⟩
  ·exact ⟨l2,h2⟩
  ·exact ⟨l3,h3⟩) (by simp [n1,n2,n3])
theorem P3 (n:Nat) (w:World) (hn:n≤4096) :
  Calls Tryz.prog 93 #[.int .i64 (n:Int)] w (fun e w'=>∃ (VB IB WB:Nat),e = .returned (.pointer (some ⟨VB,0,none⟩))∧w.heap.size≤VB∧w.heap.size≤IB∧w.heap.size≤WB∧w'.heap[VB]?=some (.cells (gO (.slice none 0 0) n IB WB).toArray 139 (0,0))∧w'.heap[IB]?=some (.cells (List.replicate n (Value.bool false)).toArray 4 (0,0))∧w'.heap[WB]?=some (.cells (wC (List.replicate n (⟨false,0,0,none,0,0,[],none,0,0,[],none,0,0⟩:WF))).toArray 44 (0,0))∧Below w.heap.size w w'):=by
 refine cD (args:=[.int .i64 (n:Int)]) Tryz.func93 rfl Tryz.ntmps93 rfl ?_
 have hS:=St.start w
 refine aM (aQ (aB rfl rfl (aO (XF.thenN (aM (iV (m:=7) bY hS (by kernel_rfl) (by kernel_rfl) rfl (cQ 1 rfl 0 rfl (by kernel_rfl) rfl (fun w hw=>aW rfl) rfl ?_)))))))
 refine aG 2 rfl (xG w.heap.size n 4 (List.replicate n (Value.bool false))) (xS) (F4 [(0,3,isV (.int .i64 (n:Int)))] rfl ⟨⟨by kernel_rfl,aA rfl rfl rfl⟩,trivial⟩ (fun ev w9 hb9 hd9=>Ip (cs:=List.replicate n (Value.bool false)) Tryz.underlying58 inf_4 rfl hd9.1 hd9.1 (Lh n) (by show (1:Int) * n≤_;omega) (by omega) hb9.size) (aE rfl)) ?_
 refine cQ 3 rfl 0 rfl (by kernel_rfl) rfl (fun w hw=>aW rfl) rfl ?_
 refine aG 4 rfl (xG w.heap.size n 44 (wC (List.replicate n (⟨false,0,0,none,0,0,[],none,0,0,[],none,0,0⟩:WF)))) (xS) (F4 [(2,5,isV (.int .i64 (n:Int)))] rfl ⟨⟨by kernel_rfl,aA rfl rfl rfl⟩,trivial⟩ (fun ev w9 hb9 hd9=>Ip (cs:=wC (List.replicate n (⟨false,0,0,none,0,0,[],none,0,0,[],none,0,0⟩:WF))) Tryz.underlying42 Jn rfl hd9.1 hd9.1 (F5 n) (by show (96:Int) * n≤_;omega) (by omega) hb9.size) (aE rfl)) ?_
 refine aG 5 rfl (Li w.heap.size n) (Ir) (F4 [(1,4,xG w.heap.size n 4 (List.replicate n (Value.bool false))),(3,6,xG w.heap.size n 44 (wC (List.replicate n (⟨false,0,0,none,0,0,[],none,0,0,[],none,0,0⟩:WF))))] rfl ⟨⟨by kernel_rfl,aA rfl rfl rfl⟩,⟨by kernel_rfl,aA rfl rfl rfl⟩,trivial⟩ (fun ev w9 hb9 hd9=>by
  obtain ⟨⟨IB,e1,l1,h1⟩,⟨WB,e2,l2,h2⟩,_⟩:=hd9
  have hr9:=run_build w9 139 #[(1,.slice (some ⟨IB,0,none⟩) n n),(2,.slice (some ⟨WB,0,none⟩) n n)] _ (P:=Tryz.prog) (Iq (some ⟨IB,0,none⟩) n n (some ⟨WB,0,none⟩) n n)
  exact ⟨_,w9,by unfold execOp;simp only [List.map_toArray,List.map_cons,List.map_nil,e1,e2];simp [hr9],⟨IB,WB,rfl,l1,l2,h1,h2⟩,Below.refl _ _⟩) (aE rfl)) ?_
 refine aG 6 rfl (F6 w.heap.size n) (xT) (F4 [(4,7,Li w.heap.size n)] rfl ⟨⟨by kernel_rfl,aA rfl rfl rfl⟩,trivial⟩ (fun ev w9 hb9 hd9=>by
  obtain ⟨⟨IB,WB,e1,l1,l2,h1,h2⟩,_⟩:=hd9
  exact ⟨.pointer (some ⟨w9.heap.size,0,none⟩),w9.alloc (.cells (gO (.slice none 0 0) n IB WB).toArray 139),by unfold execOp;simp only [];rw [e1];simp [Instr.box,newVar,newRow];rfl,⟨w9.heap.size,IB,WB,rfl,hb9.size,l1,l2,heap_alloc_new w9 _,(Below.heap_alloc w9 _ _ (cC h1)).trans h1,(Below.heap_alloc w9 _ _ (cC h2)).trans h2⟩,(Below.refl _ _).alloc (Nat.le_refl _) _⟩) (aE rfl)) ?_
 refine aG 7 rfl (F6 w.heap.size n) (xT) (F4 [(5,8,F6 w.heap.size n)] rfl ⟨⟨by kernel_rfl,aA rfl rfl rfl⟩,trivial⟩ (fun ev w9 hb9 hd9=>⟨ev (.tmp 8),w9,by unfold execOp;rfl,hd9.1,Below.refl _ _⟩) (aE rfl)) ?_
 refine dE ?_
 intro W1 hbR hS'
 clear hS;have hS:=hS';clear hS'
 refine aF ?_
 refine dF ?_;intro _ _
 refine aF ?_
 refine dF ?_;intro _ _
 refine dF ?_;intro _ _
 refine dF ?_;intro _ _
 refine dF ?_;rintro _ ⟨VB,IB,WB,rfl,l1,l2,l3,h1,h2,h3⟩
 refine cI (XF.thenN (bR (XF.res (cO Tryz.results93 rfl) ?_)))
 exact ⟨VB,IB,WB,rfl,l1,l2,l3,h1,h2,h3,hS.below⟩
end Go.Proofs.YtmgnkpibpjgncaaGreatDoor
namespace Go.Proofs.YtmgnkpibpjgncaaGreatDoor
open Go Go.RowKit
open Go.WideMaps (KeyLaw)
open Go.ChangeMaps (setBlock)
section
variable {P:Program} {ops:Array Oper} {Q:Exit→Act→World→Prop} {t0:Array Value} {d0:List Deferred} {GL:Array Bool→World→Prop} {R:Nat→World→World→Prop} {I:Nat→Value→World→Prop}
abbrev D6 (ops:Array Oper) (t0:Array Value) (d0:List Deferred) (I:Nat→Value→World→Prop) (L:Array Bool) (a:Act) (w:World):Prop:=RInv ops t0 d0 (fun _=>True) I L a w
def pU (P:Program) (ops:Array Oper) (Q:Exit→Act→World→Prop) (t0:Array Value) (GL:Array Bool→World→Prop) (R:Nat→World→World→Prop) (I:Nat→Value→World→Prop) (i:Nat):Prop :=
 ∀ (L:Array Bool) (a:Act) (w:World),L.size=ops.size→L.getD i true=false→(∀ j d,bM ops i j d=true→L.getD j false=true)→(∀ t,freeT ops t=true→a.eval (.tmp t)=t0.getD t undef)→GL L w→(∀ j d,bM ops i j d=true→I j (a.eval (.tmp d)) w) →
  wpOp P ops Q i (fun a' w'=>(∃ v,a'=a.put ((ops[i]?).bind (·.dst)) v∧(∀ d,(ops[i]?).bind (·.dst)=some d→I i v w'))∧GL (L.setIfInBounds i true) w'∧R i w w') a w
theorem D6.next {L:Array Bool} {a:Act} {w w':World} {i:Nat} {v:Value} (h:D6 ops t0 d0 I L a w) (ht:eL ops t0.size=true) (hst:∀ i j v w w',i≠j→I i v w→R j w w'→I i v w') (hI:∀ d,(ops[i]?).bind (·.dst)=some d→I i v w') (hR:R i w w') :
  D6 ops t0 d0 I (L.setIfInBounds i true) (a.put ((ops[i]?).bind (·.dst)) v) w' where
 size:=by rw [mG];exact h.size
 defers:=by rw [jC];exact h.defers
 frame:=fun t hf=>by
  rw [fM ?_]
  ·exact h.frame t hf
  ·intro hd
   obtain ⟨o,ho,hd⟩:=Option.bind_eq_some_iff.1 hd
   have:=Array.all_eq_true'.1 hf o (Array.mem_of_getElem? ho)
   simp [hd] at this
 glob:=trivial
 done:=fun j d hd hj=>by
  by_cases hji:j=i
  ·subst hji
   rw [sZ hd (by rw [h.size];exact (gW ht hd).1)]
   exact hI d hd
  ·rw [getD_set_ne false (Ne.symm hji)] at hj
   rw [fM (fun e=>hji ((gW ht e).2 j hd))]
   exact hst _ _ _ _ _ hji (h.done j d hd hj) hR
theorem Is {L:Array Bool} {i:Nat} (hi:i∈Region.ready .any ops L):∀ j d,bM ops i j d=true→L.getD j false=true:=fun j d hw=>by
 obtain ⟨_,o,ho,hall⟩:=mem_ready.1 hi
 simp only [bM,ho,Bool.and_eq_true,beq_iff_eq] at hw
 obtain ⟨e,he,h1⟩:=Array.any_eq_true'.1 hw.1
 simp only [Bool.and_eq_true,beq_iff_eq] at h1
 have:=hall e he h1.2
 rw [h1.1] at this
 exact this
theorem P4 (ht:eL ops t0.size=true) (hst:∀ i j v w w',i≠j→I i v w→R j w w'→I i v w') (hstep:∀ i,i < ops.size→pU P ops Q t0 GL R I i)
  (hfin:∀ (L:Array Bool) (a:Act) (w:World),a.tmps.size=t0.size→a.defers=d0→(∀ t,freeT ops t=true→a.tmps.getD t undef=t0.getD t undef)→(∀ i,i < ops.size→L.getD i true=true)→L.size=ops.size→GL L w→(∀ i d,i < ops.size→(ops[i]?).bind (·.dst)=some d→I i (a.tmps.getD d undef) w)→Q .normal a w) :
  ∀ (fuel:Nat) (L:Array Bool) (a:Act) (w:World),L.size=ops.size→L.toList.count false≤fuel→GL L w→D6 ops t0 d0 I L a w→wpAny P .any ops Q fuel L a w:=by
 have fin:∀ (L:Array Bool) (a:Act) (w:World),(∀ i,i < ops.size→L.getD i true=true)→L.size=ops.size→GL L w→D6 ops t0 d0 I L a w→Q .normal a w:=fun L a w hall hs hG h =>
  hfin L a w h.size h.defers h.frame hall hs hG fun i d hi hd=>h.done i d hd (by
   have:=hall i hi
   rw [Array.getD_eq_getD_getElem?] at this ⊢
   rw [Array.getElem?_eq_getElem (by omega)] at this ⊢
   simpa using this)
 intro fuel
 induction fuel with
 | zero =>
  intro L a w hs hc hG h
  have hall:∀ i,i < ops.size→L.getD i true=true:=fun i hi=>by
   have hn:false∉L.toList:=List.count_eq_zero.1 (by omega)
   cases hL:L.getD i true with
   | true=>rfl
   | false =>
    rw [Array.getD_eq_getD_getElem?,Array.getElem?_eq_getElem (by omega)] at hL
    exact absurd (by rw [← show L[i]=false by simpa using hL];exact Array.mem_toList_iff.2 (Array.getElem_mem _)) hn
  refine ⟨?_,fin L a w hall hs hG h⟩
  cases hr:Region.ready .any ops L with
  | nil=>rfl
  | cons i rest =>
   have hi:i∈Region.ready .any ops L:=by rw [hr];exact List.mem_cons_self
   obtain ⟨h1,o,ho,_⟩:=mem_ready.1 hi
   rw [hall i (Array.getElem?_eq_some_iff.1 ho).1] at h1
   cases h1
 | succ fuel ih =>
  intro L a w hs hc hG h
  refine ⟨fun hr=>fin L a w (hQ ht hs hr) hs hG h,fun i hi=>?_⟩
  obtain ⟨h1,o,ho,_⟩:=mem_ready.1 hi
  have his:i < ops.size:=(Array.getElem?_eq_some_iff.1 ho).1
  refine wpOp_mono ?_ (hstep i his L a w hs h1 (Is hi) h.frameE hG (h.deps hi))
  rintro a' w' ⟨⟨v,rfl,hI⟩,hG',hR⟩
  refine ih _ _ _ (by simpa using hs) ?_ hG' (D6.next h ht hst hI hR)
  have:L.toList[i]?=some false:=by
   rw [Array.getD_eq_getD_getElem?,Array.getElem?_eq_getElem (by omega)] at h1
   rw [Array.getElem?_toList,Array.getElem?_eq_getElem (by omega)]
   simpa using h1
  have:=fY _ _ this
  rw [Array.toList_setIfInBounds]
  omega
theorem F7 {id:Nat} {a:Act} {w:World} (hm:P.follows .mixedOrders=true) (hG:GL (Array.replicate ops.size false) w.drew) (ht:eL ops a.tmps.size=true) (hst:∀ i j v w w',i≠j→I i v w→R j w w'→I i v w') (hstep:∀ i,i < ops.size→pU P ops Q a.tmps GL R I i)
  (hfin:∀ (L:Array Bool) (a':Act) (w:World),a'.tmps.size=a.tmps.size→a'.defers=a.defers→(∀ t,freeT ops t=true→a'.tmps.getD t undef=a.tmps.getD t undef)→(∀ i,i < ops.size→L.getD i true=true)→L.size=ops.size→GL L w→(∀ i d,i < ops.size→(ops[i]?).bind (·.dst)=some d→I i (a'.tmps.getD d undef) w)→Q .normal a' w) :
  (Code.region id ops true).wp P Q a w :=
 wp_region_any hm (P4 ht hst hstep hfin _ _ _ _ (by simp) (jI _) hG (qF trivial))
theorem pU.value {i:Nat} {o:Oper} (hi:ops[i]?=some o) (hgd:o.guard=none)
  (h:∀ (L:Array Bool) (a:Act) (w:World),L.size=ops.size→L.getD i true=false→(∀ j d,bM ops i j d=true→L.getD j false=true)→(∀ t,freeT ops t=true→a.eval (.tmp t)=t0.getD t undef)→GL L w→(∀ j d,bM ops i j d=true→I j (a.eval (.tmp d)) w) →
   ∃ v w',(execOp a.eval o).run P w = .ok (.value v) w'∧I i v w'∧GL (L.setIfInBounds i true) w'∧R i w w'):pU P ops Q t0 GL R I i:=fun L a w hs hL hW hF hG hD=>by
 obtain ⟨v,w',hr,hI,hG',hR⟩:=h L a w hs hL hW hF hG hD
 unfold wpOp
 simp only [hi,fJ hgd,if_true]
 refine .inl ?_
 unfold Oper.wp
 rw [hr]
 exact ⟨⟨v,by simp,fun _ _=>hI⟩,hG',hR⟩
end
section
variable {α:Type} {P:Program} {K E S T:TypeId} {κ:α→Value} {W:World} {lo b:Nat} {f:α→List Value}
theorem Grp.entryW [DecidableEq α] (h:Grp P K E κ lo f b W) (L:KeyLaw P K) (ht:P.underlying T=some (.map K S)) (hz:∀ w,(zeroValue S).run P w = .ok (.slice none 0 0) w) {k:α} (hk:∃ l,keyOf P K (κ k)=some l) (hinj:∀ x y,κ x=κ y→x=y) :
  ∃ v0 st o1,(∀ w,w.heap[b]?=W.heap[b]?→(Instr.mapEntry T (.map (some b)) (κ k)).run P w = .ok (.tuple #[v0,st]) (setBlock w b o1))∧W.ownsRow lo E 1 v0 (f k).length (f k)∧(∀ p,v0.ownBlock=some p→p≠b) ∧
   ∀ W2 v' zs,W2.heap[b]?=some o1→W.heap.size≤W2.heap.size→(∀ p,p < W.heap.size→p≠b→v0.ownBlock≠some p→W2.heap[p]?=W.heap[p]?)→W2.ownsRow lo E 1 v' zs.length zs→(v'.ownBlock=v0.ownBlock∨∃ p,v'.ownBlock=some p∧W.heap.size≤p)→∃ W3,(Instr.entryStore T (.map (some b)) st v').run P W2 = .ok () W3∧W2.grownBy W3 (some b)∧Grp P K E κ lo (fun x=>if x=k then zs else f x) b W3:=by
 obtain ⟨es,clock,hb,hE⟩:=h
 obtain ⟨l,hl⟩:=hk
 have hold:∀ x∈es.toList,∀ p,x.val.ownBlock=some p→p < W.heap.size∧p≠b:=fun x hx p hp=>by
  obtain ⟨k2,_,_,h2⟩:=hE.is x hx
  exact ⟨(h2.lt p hp).2,lJ h2 hb hp⟩
 rcases L.find W hl es.toList hE.valid with ⟨h1,h2⟩ | ⟨j,e0,h1,h2,h3⟩
 ·have hnil:=hE.nil_of h2
  refine ⟨.slice none 0 0,goInt clock,.map (es.push ⟨κ k,.slice none 0 0,clock⟩) (clock+1),fun w hw=>?_,by rw [hnil];exact World.ownsRow_nil _ _ _ _,(fun p hp=>by cases hp),fun W2 v' zs hb2 hsz hg hr hv=>?_⟩
  ·have hbw:=hw.trans hb
   rcases L.find w hl es.toList hE.valid with ⟨h1w,_⟩ | ⟨j,e0,_,h2w,h3w⟩
   ·simp [Instr.mapEntry,run_underlying ht,MapKept.run_getObj_map hbw,L.check w _ hl,h1w,hz,MapKept.run_setObj_map _ hbw,setBlock,Result.andThen]
   ·exact absurd h3w (h2 e0 (List.mem_of_getElem? h2w))
  ·have hidx:(es.push ⟨κ k,.slice none 0 0,clock⟩).findIdx? (fun e=>((e.born:Nat):Int) == ((clock:Nat):Int))=some es.size:=by
    rw [WideElems.findIdx_arr]
    refine WideElems.findIdx_born (e0:=⟨κ k,.slice none 0 0,clock⟩) ?_ (by simp)
    rw [Array.toList_push,List.map_append,List.nodup_append]
    refine ⟨hE.nodup,by simp,fun a ha c hc e1=>?_⟩
    obtain ⟨x,hx,rfl⟩:=List.mem_map.1 ha
    have:=hE.born x hx
    simp at hc;omega
   have hmod:(es.push ⟨κ k,.slice none 0 0,clock⟩).modify es.size (fun e=>{ e with val:=v' })=es.push ⟨κ k,v',clock⟩:=by
    apply Array.ext'
    rw [Array.toList_modify,Array.toList_push,Array.toList_push,← Array.length_toList,WideElems.modify_last]
   refine ⟨setBlock W2 b (.map (es.push ⟨κ k,v',clock⟩) (clock+1)),?_,mV hb2,⟨_,_,rM hb2,?_⟩⟩
   ·simp [Instr.entryStore,MapKept.run_getObj_map hb2,asInt,asIntOf,goInt,hidx,hmod,MapKept.run_setObj_map _ hb2,setBlock,Result.andThen]
   ·have hmem:∀ x,x∈(es.push ⟨κ k,v',clock⟩).toList↔x∈es.toList∨x=⟨κ k,v',clock⟩:=fun x=>by simp
    have hrow:∀ x∈es.toList,∀ p,x.val.ownBlock=some p→(setBlock W2 b (.map (es.push ⟨κ k,v',clock⟩) (clock+1))).heap[p]?=W.heap[p]?:=fun x hx p hp=>by
     obtain ⟨p1,p2⟩:=hold x hx p hp
     rw [eR hb2 p2,hg p p1 p2 (fun e=>by cases e)]
    refine ⟨fun x hx=>?_,?_,?_,fun x hx=>?_,fun k2 hk2=>?_,fun x hx y hy hne=>?_⟩
    ·rcases (hmem x).1 hx with hx | rfl
     ·have:=hE.born x hx;omega
     ·exact Nat.lt_succ_self _
    ·rw [Array.toList_push,List.map_append,List.nodup_append]
     refine ⟨hE.nodup,by simp,fun a ha c hc e1=>?_⟩
     obtain ⟨x,hx,rfl⟩:=List.mem_map.1 ha
     have:=hE.born x hx
     simp at hc;omega
    ·rw [Array.toList_push,List.pairwise_append]
     refine ⟨hE.keys,by simp,fun x hx y hy=>?_⟩
     simp at hy;subst hy;exact h2 x hx
    ·rcases (hmem x).1 hx with hx | rfl
     ·obtain ⟨k2,e1,e2,e3⟩:=hE.is x hx
      refine ⟨k2,e1,e2,?_⟩
      rw [if_neg (fun e=>h2 x hx (by rw [e1,e]))]
      exact dQ e3 (hrow x hx)
     ·refine ⟨k,rfl,⟨l,hl⟩,?_⟩
      rw [if_pos rfl]
      exact dQ hr fun p hp=>eR hb2 (lJ hr hb2 hp)
    ·by_cases e:k2=k
     ·exact ⟨⟨κ k,v',clock⟩,(hmem _).2 (.inr rfl),by rw [e]⟩
     ·rw [if_neg e] at hk2
      obtain ⟨x,hx,hxk⟩:=hE.all k2 hk2
      exact ⟨x,(hmem x).2 (.inl hx),hxk⟩
    ·have hnew:∀ x∈es.toList,∀ p,x.val.ownBlock=some p→v'.ownBlock≠some p:=fun x hx p hp e=>by
      rcases hv with hv | ⟨q,hv,hq⟩
      ·rw [hv] at e;cases e
      ·rw [hv] at e
       have:=(hold x hx p hp).1
       have:=Option.some.inj e
       omega
     rcases (hmem x).1 hx with hx | rfl
     ·rcases (hmem y).1 hy with hy | rfl
      ·exact hE.apart x hx y hy hne
      ·exact fun p hp=>hnew x hx p hp
     ·rcases (hmem y).1 hy with hy | rfl
      ·exact fun p hp e=>hnew y hy p e hp
      ·exact absurd rfl hne
 ·have hm0:=List.mem_of_getElem? h2
  have hj:es[j]?=some e0:=by simpa using h2
  have hsame:es.modify j (fun e=>{ e with key:=κ k })=es:=by
   apply Array.ext'
   apply List.ext_getElem?
   intro i
   rw [Array.toList_modify,List.getElem?_modify]
   by_cases hij:j=i
   ·subst hij
    rw [h2]
    simp [← h3]
   ·simp [hij]
  refine ⟨e0.val,goInt e0.born,.map es clock,fun w hw=>?_,hE.at_ hinj hm0 h3,(fun p hp=>(hold e0 hm0 p hp).2),fun W2 v' zs hb2 hsz hg hr hv=>?_⟩
  ·have hbw:=hw.trans hb
   rcases L.find w hl es.toList hE.valid with ⟨_,h2w⟩ | ⟨j',e0',h1w,h2w,h3w⟩
   ·exact absurd h3 (h2w e0 hm0)
   ·have he:e0'=e0:=A7 hE.keys (List.mem_of_getElem? h2w) hm0 (h3w.trans h3.symm)
    subst he
    have hjj:j'=j:=by
     have hbn:=hE.nodup
     obtain ⟨a1,a2⟩:=List.getElem?_eq_some_iff.1 h2w
     obtain ⟨c1,c2⟩:=List.getElem?_eq_some_iff.1 h2
     exact (List.getElem_inj (i:=j') (j:=j) (h₀:=by rw [List.length_map];exact a1) (h₁:=by rw [List.length_map];exact c1) hbn).1 (by rw [List.getElem_map,List.getElem_map,a2,c2])
    subst hjj
    simp [Instr.mapEntry,run_underlying ht,MapKept.run_getObj_map hbw,L.check w _ hl,h1w,hj,h3,L.stays w hl,hsame,MapKept.run_setObj_map _ hbw,setBlock,Result.andThen]
  ·have hidx:es.findIdx? (fun e=>((e.born:Nat):Int) == ((e0.born:Nat):Int))=some j:=by
    rw [WideElems.findIdx_arr]
    exact WideElems.findIdx_born hE.nodup h2
   refine ⟨setBlock W2 b (.map (es.modify j fun e=>{ e with val:=v' }) clock),?_,mV hb2,⟨_,_,rM hb2,?_⟩⟩
   ·simp [Instr.entryStore,MapKept.run_getObj_map hb2,asInt,asIntOf,goInt,hidx,MapKept.run_setObj_map _ hb2,setBlock,Result.andThen]
   ·have hrow:∀ x∈es.toList,x.key≠κ k→∀ p,x.val.ownBlock=some p→(setBlock W2 b (.map (es.modify j fun e=>{ e with val:=v' }) clock)).heap[p]?=W.heap[p]?:=fun x hx hne p hp=>by
     obtain ⟨p1,p2⟩:=hold x hx p hp
     rw [eR hb2 p2,hg p p1 p2 (fun e=>hE.apart x hx e0 hm0 (by rw [h3];exact hne) p hp e)]
    have hcs:∀ x∈(es.modify j fun e=>{ e with val:=v' }).toList,(x.key=κ k∧x.val=v')∨(x∈es.toList∧x.key≠κ k):=fun x hx=>by
     rcases A8 h2 hx with rfl | ⟨i,hij,hi⟩
     ·exact .inl ⟨h3,rfl⟩
     ·refine .inr ⟨List.mem_of_getElem? hi,fun e=>hij ?_⟩
      have hx0:=A7 hE.keys (List.mem_of_getElem? hi) hm0 (e.trans h3.symm)
      subst hx0
      have hbn:=hE.nodup
      obtain ⟨a1,a2⟩:=List.getElem?_eq_some_iff.1 hi
      obtain ⟨c1,c2⟩:=List.getElem?_eq_some_iff.1 h2
      exact (List.getElem_inj (i:=i) (j:=j) (h₀:=by rw [List.length_map];exact a1) (h₁:=by rw [List.length_map];exact c1) hbn).1 (by rw [List.getElem_map,List.getElem_map,a2,c2])
    refine ⟨fun x hx=>?_,?_,?_,fun x hx=>?_,fun k2 hk2=>?_,fun x hx y hy hne=>?_⟩
    ·rcases A8 h2 hx with rfl | ⟨i,_,hi⟩
     ·exact hE.born e0 hm0
     ·exact hE.born x (List.mem_of_getElem? hi)
    ·exact (Ba (es:=es) (j:=j) (g:=fun e=>{ e with val:=v' }) (p:=fun x=>x.born) (fun _=>rfl))▸hE.nodup
    ·exact pw_map (p:=fun x=>x.key) (r:=fun x y=>x≠y) hE.keys (Ba (es:=es) (j:=j) (g:=fun e=>{ e with val:=v' }) (p:=fun x=>x.key) (fun _=>rfl))
    ·rcases hcs x hx with ⟨e1,e2⟩ | ⟨e1,e2⟩
     ·refine ⟨k,e1,⟨l,hl⟩,?_⟩
      rw [if_pos rfl,e2]
      exact dQ hr fun p hp=>eR hb2 (lJ hr hb2 hp)
     ·obtain ⟨k2,a1,a2,a3⟩:=hE.is x e1
      refine ⟨k2,a1,a2,?_⟩
      rw [if_neg (fun e=>e2 (by rw [a1,e]))]
      exact dQ a3 (hrow x e1 e2)
    ·by_cases e:k2=k
     ·refine ⟨_,A9 h2,?_⟩
      rw [if_pos rfl,e];exact h3
     ·rw [if_neg e] at hk2
      obtain ⟨x,hx,hxk⟩:=hE.all k2 hk2
      obtain ⟨i,hi⟩:=List.getElem?_of_mem hx
      refine ⟨_,A9 (j:=j) (g:=fun e=>{ e with val:=v' }) hi,?_⟩
      by_cases hij:j=i
      ·rw [if_pos hij];exact hxk
      ·rw [if_neg hij];exact hxk
    ·have hnew:∀ x∈es.toList,x.key≠κ k→∀ p,x.val.ownBlock=some p→v'.ownBlock≠some p:=fun x hx hne p hp e=>by
      rcases hv with hv | ⟨q,hv,hq⟩
      ·rw [hv] at e;exact hE.apart x hx e0 hm0 (by rw [h3];exact hne) p hp e
      ·rw [hv] at e
       have:=(hold x hx p hp).1
       have:=Option.some.inj e
       omega
     rcases hcs x hx with ⟨e1,e2⟩ | ⟨e1,e2⟩
     ·rcases hcs y hy with ⟨d1,d2⟩ | ⟨d1,d2⟩
      ·exact absurd (e1.trans d1.symm) hne
      ·exact fun p hp e=>hnew y d1 d2 p e (by rw [← e2];exact hp)
     ·rcases hcs y hy with ⟨d1,d2⟩ | ⟨d1,d2⟩
      ·exact fun p hp=>by rw [d2];exact hnew x e1 e2 p hp
      ·exact hE.apart x e1 y d1 hne
theorem St.foreignK {w0 W W':World} {O:Own} {Kk:List (Nat×World)} {row:Option Nat} (h:St w0 O [] Kk W) (hg:W.grownBy W' row) (hb:∀ k,row=some k→w0.heap.size≤k∧(∀ p∈O,p.1≠k)∧∀ q∈Kk,k < q.1∨q.2.heap.size≤k):St w0 O [] Kk W' where
 below:=h.below.grown hg h.below.size (fun k hk=>(hb k hk).1)
 own:=fun p hp=>by
  obtain ⟨h1,h2⟩:=h.own p hp
  exact ⟨h1,(hg.block _ (cC h2) (fun e=>(hb _ e.symm).2.1 p hp rfl)).trans h2⟩
 dist:=h.dist
 kept:=fun q hq=>by
  obtain ⟨⟨h1,h2⟩,h3⟩:=h.kept q hq
  refine ⟨⟨Nat.le_trans h1 hg.size,fun k hk hk2=>(hg.block k (Nat.lt_of_lt_of_le hk2 h1) (fun e=>?_)).trans (h2 k hk hk2)⟩,h3⟩
  rcases (hb k e.symm).2.2 q hq with h4 | h4<;>omega
 rows:=fun g hg=>by cases hg
 gdist:=List.Pairwise.nil
theorem oP {a:Act} {t:Nat} {v:Value} (h:a.eval (.tmp t)=v):∀ x u,evL [(t,v)] x=some u→a.eval x=u:=by
 intro x u hx
 cases x with
 | tmp s =>
  unfold evL look at hx
  cases hb:Nat.beq t s with
  | true=>simp only [hb,cond_true,Option.some.injEq] at hx;rw [← Nat.eq_of_beq_eq_true hb,← hx];exact h
  | false=>simp only [hb,cond_false] at hx;cases hx
 | const c=>exact Option.some.inj hx
 | global g=>exact Option.some.inj hx
 | func f=>exact Option.some.inj hx
structure GrpG (P:Program) (K E:TypeId) (κ:α→Value) (lo:Nat) (f':α→List Value) (b:Nat) (W w0:World) (O:Own) (Kk:List (Nat×World)) (v0:Value) (o1:Obj) (L:Array Bool) (w:World):Prop where
 st:St w0 O [] Kk w
 sz:W.heap.size≤w.heap.size
 c11:L.getD 11 false=true→L.getD 9 false=true∧L.getD 10 false=true
 c10:L.getD 10 false=true→L.getD 7 false=true
 c9:L.getD 9 false=true→L.getD 8 false=true
 c8:L.getD 8 false=true→L.getD 7 false=true
 m0:L.getD 7 false=false→w.heap[b]?=W.heap[b]?
 m1:L.getD 7 false=true→L.getD 11 false=false→w.heap[b]?=some o1
 old:∀ p,p < W.heap.size→p≠b→v0.ownBlock≠some p→w.heap[p]?=W.heap[p]?
 row0:L.getD 9 false=false→∀ p,v0.ownBlock=some p→w.heap[p]?=W.heap[p]?
 fin:L.getD 11 false=true→Grp P K E κ lo f' b w
def GrpI (E:TypeId) (lo:Nat) (W:World) (vals:Nat→Value) (x v0 st:Value) (xs:List Value) (i:Nat) (v:Value) (w:World):Prop :=
 (i < 6→v=vals i)∧(i=6→∃ B,v = .slice (some ⟨B,0,none⟩) 1 1∧W.heap.size≤B∧w.heap[B]?=some (.cells #[x] E (0,0)))∧(i=7→v = .tuple #[v0,st])∧(i=8→v=v0)∧(i=9→w.ownsRow lo E 1 v (xs.length+1) (xs++[x])∧(v.ownBlock=v0.ownBlock∨∃ p,v.ownBlock=some p∧W.heap.size≤p))∧(i=10→v=st)
theorem oQ {L:Array Bool} {i:Nat} (h:i < L.size):(L.setIfInBounds i true).getD i false=true:=by
 rw [Array.getD_eq_getD_getElem?,Array.getElem?_setIfInBounds_self_of_lt h];rfl
theorem dA {L:Array Bool} {i j:Nat} (h:i≠j):(L.setIfInBounds i true).getD j false=L.getD j false:=getD_set_ne false h
theorem F8 {L:Array Bool} {i:Nat} (h:L.getD i true=false):L.getD i false=false:=by
 rw [Array.getD_eq_getD_getElem?] at h ⊢
 cases hL:L[i]? with
 | none=>rfl
 | some b=>rw [hL] at h;simpa using h
theorem It [DecidableEq α] {id n:Nat} {ops:Array Oper} {Q:Exit→Act→World→Prop} {l:Fr} {w0:World} {O:Own} {Kk:List (Nat×World)} {vals:Nat→Value} {k:α} {x:Value} {t:TypeId} {inf:TypeInfo} {z:Value} {d3 d4 d5 d6 d7 d8 d9 d10:Nat} {ty6 ty7 ty8 ty9 ty10 ty11:TypeId} {p6 p7 p8 p9 p10 p11:String} {a6 a7 a8 a9 a10 a11:Array Edge}
  (hm:P.follows .mixedOrders=true) (hS:St w0 O [] Kk W) (hM:Grp P K E κ lo f b W) (hO:∀ p∈O,p.1≠b∧(p.1 < lo∨p.2.2≠E)) (hwb:w0.heap.size≤b) (hwl:w0.heap.size≤lo) (hlo:lo≤W.heap.size) (hK:∀ q∈Kk,q.2.heap.size≤lo∧(b < q.1∨q.2.heap.size≤b))
  (LW:KeyLaw P K) (ht:P.underlying T=some (.map K S)) (hz:∀ w,(zeroValue S).run P w = .ok (.slice none 0 0) w) (hk:∃ l,keyOf P K (κ k)=some l) (hinj:∀ x y,κ x=κ y→x=y)
  (hU:P.underlying t=some (.slice E)) (hinf:P.info? E=some inf) (hzi:inf.zero=some z) (hzs:z.cells.size=inf.size) (hsz:inf.size=1) (hx1:x.oneCell'=true) (hrow1:∀ (ev:Operand→Value) w,ev (.tmp d5)=x→(execOp ev ⟨some d6,.buildSlice t 1 #[(0,.tmp d5)],ty6,p6,a6,none⟩).run P w = .ok (.value (.slice (some ⟨w.heap.size,0,none⟩) 1 1)) (w.alloc (.cells #[x] E)))
  (h63:(f k).length+1≤maxLen) (hbytes:((f k).length+1) * inf.bytes≤140737488355328)
  (hsize:ops.size=12) (htidy:eL ops n=true)
  (hv3:vals 3 = .map (some b)) (hv4:vals 4=κ k) (hv5:vals 5=x)
  (hpure:∀ i,i < 6→∀ (a0 a:Act) (w:World),Has n l a0→(∀ t,freeT ops t=true→a.eval (.tmp t)=a0.tmps.getD t undef)→St w0 O [] Kk w→(∀ j d,bM ops i j d=true→a.eval (.tmp d)=vals j)→∃ o,ops[i]?=some o∧o.guard=none∧(execOp a.eval o).run P w = .ok (.value (vals i)) w)
  (hi6:ops[6]?=some ⟨some d6,.buildSlice t 1 #[(0,.tmp d5)],ty6,p6,a6,none⟩) (hi7:ops[7]?=some ⟨some d7,.mapEntry T (.tmp d3) (.tmp d4),ty7,p7,a7,none⟩) (hi8:ops[8]?=some ⟨some d8,.extract (.tmp d7) 0,ty8,p8,a8,none⟩) (hi9:ops[9]?=some ⟨some d9,.call { callee:=.builtin .append,args:=#[.tmp d8,.tmp d6],argTypes:=#[t,t] },ty9,p9,a9,none⟩) (hi10:ops[10]?=some ⟨some d10,.extract (.tmp d7) 1,ty10,p10,a10,none⟩) (hi11:ops[11]?=some ⟨none,.entryStore T (.tmp d3) (.tmp d10) (.tmp d9),ty11,p11,a11,none⟩)
  (w65:bM ops 6 5 d5=true) (w73:bM ops 7 3 d3=true) (w74:bM ops 7 4 d4=true) (w87:bM ops 8 7 d7=true) (w98:bM ops 9 8 d8=true) (w96:bM ops 9 6 d6=true) (w107:bM ops 10 7 d7=true) (w113:bM ops 11 3 d3=true) (w1110:bM ops 11 10 d10=true) (w119:bM ops 11 9 d9=true)
  (h:∀ W',St w0 O [] Kk W'→Grp P K E κ lo (fun y=>if y=k then f k++[x] else f y) b W'→W.heap.size≤W'.heap.size→∀ a,a.tmps.size=n→a.defers=[]→(∀ t,freeT ops t=true→∀ v,look l t=some v→a.tmps.getD t undef=v)→Q .normal a W'):fP P n (.region id ops true) Q l W:=fun a0 ha0=>by
 obtain ⟨v0,st,o1,hrun,hown,hnb,back⟩:=hM.entryW LW ht hz hk hinj
 have hbm:=hM.lt
 have hrl:∀ p,v0.ownBlock=some p→p < W.heap.size:=fun p hp=>(hown.lt p hp).2
 have hrlo:∀ p,v0.ownBlock=some p→lo≤p:=fun p hp=>(hown.lt p hp).1
 refine F7 (GL:=GrpG P K E κ lo (fun y=>if y=k then f k++[x] else f y) b W w0 O Kk v0 o1)
  (R:=fun j w w'=>w.heap.size≤w'.heap.size∧(∀ p,W.heap.size≤p→p < w.heap.size→w'.heap[p]?=w.heap[p]?)∧(j≠9→∀ p,v0.ownBlock=some p→w'.heap[p]?=w.heap[p]?))
  (I:=GrpI E lo W vals x v0 st (f k)) hm ?_ ?_ ?_ ?_ ?_
 ·have hf:∀ j,(Array.replicate ops.size false).getD j false=false:=fun j=>by
   rw [Array.getD_eq_getD_getElem?,Array.getElem?_replicate]
   split<;>rfl
  refine ⟨hS.grow (Below.refl _ _).drew,Nat.le_refl _,?_,?_,?_,?_,fun _=>rfl,?_,fun _ _ _ _=>rfl,fun _ _ _=>rfl,?_⟩<;>(intro h1;rw [hf] at h1;cases h1)
 ·rw [ha0.size];exact htidy
 ·rintro i j v w w' hij ⟨h1,h2,h3,h4,h5,h6⟩ ⟨r1,r2,r3⟩
  refine ⟨h1,fun e=>?_,h3,h4,fun e=>?_,h6⟩
  ·obtain ⟨B,e1,e2,e3⟩:=h2 e
   exact ⟨B,e1,e2,(r2 B e2 (cC e3)).trans e3⟩
  ·obtain ⟨e1,e2⟩:=h5 e
   refine ⟨dQ e1 fun p hp=>?_,e2⟩
   rcases e2 with e2 | ⟨p2,e2,e3⟩
   ·exact r3 (fun e4=>hij (e.trans e4.symm)) p (by rw [← e2];exact hp)
   ·rw [e2] at hp
    cases hp
    exact r2 _ e3 (e1.lt _ e2).2
 ·intro i hi
  rw [hsize] at hi
  by_cases hi6':i < 6
  ·-- what is pure
   intro L a w hs hL hW hF hG hD
   obtain ⟨o,ho,hgd,hr⟩:=hpure i hi6' a0 a w ha0 hF hG.st (fun j d hw=>by
    have hji:j < i:=by
     cases ho:ops[i]? with
     | none=>simp [bM,ho] at hw
     | some o =>
      simp only [bM,ho,Bool.and_eq_true,beq_iff_eq] at hw
      obtain ⟨e,he,h1⟩:=Array.any_eq_true'.1 hw.1
      simp only [Bool.and_eq_true,beq_iff_eq] at h1
      have:=kN htidy ho e he h1.2
      omega
    exact (hD j d hw).1 (by omega))
   unfold wpOp
   simp only [ho,fJ hgd,if_true]
   refine .inl ?_
   unfold Oper.wp
   rw [hr]
   have n7:=dA (L:=L) (show i≠7 by omega);have n8:=dA (L:=L) (show i≠8 by omega);have n9:=dA (L:=L) (show i≠9 by omega);have n10:=dA (L:=L) (show i≠10 by omega);have n11:=dA (L:=L) (show i≠11 by omega)
   refine ⟨⟨_,rfl,fun d _=>⟨fun _=>rfl,fun e=>by omega,fun e=>by omega,fun e=>by omega,fun e=>by omega,fun e=>by omega⟩⟩,⟨hG.st,hG.sz,by rw [n11,n9,n10];exact hG.c11,by rw [n10,n7];exact hG.c10,by rw [n9,n8];exact hG.c9,by rw [n8,n7];exact hG.c8,by rw [n7];exact hG.m0,by rw [n7,n11];exact hG.m1,hG.old,by rw [n9];exact hG.row0,by rw [n11];exact hG.fin⟩,Nat.le_refl _,fun _ _ _=>rfl,fun _ _ _=>rfl⟩
  have hcase:i=6∨i=7∨i=8∨i=9∨i=10∨i=11:=by omega
  rcases hcase with rfl | rfl | rfl | rfl | rfl | rfl
  ·-- the row
   refine pU.value hi6 rfl fun L a w hs hL hW hF hG hD=>?_
   have e5:=(hD 5 d5 w65).1 (by omega)
   rw [hv5] at e5
   have n7:=dA (L:=L) (show 6≠7 by omega);have n8:=dA (L:=L) (show 6≠8 by omega);have n9:=dA (L:=L) (show 6≠9 by omega);have n10:=dA (L:=L) (show 6≠10 by omega);have n11:=dA (L:=L) (show 6≠11 by omega)
   have hal:∀ p,p < w.heap.size→(w.alloc (.cells #[x] E)).heap[p]?=w.heap[p]?:=fun p hp=>Below.heap_alloc w _ _ hp
   have hbw:b < w.heap.size:=Nat.lt_of_lt_of_le hbm hG.sz
   refine ⟨.slice (some ⟨w.heap.size,0,none⟩) 1 1,w.alloc (.cells #[x] E),?_,⟨fun e=>by omega,fun _=>⟨w.heap.size,rfl,hG.sz,heap_alloc_new w _⟩,fun e=>by omega,fun e=>by omega,fun e=>by omega,fun e=>by omega⟩,⟨(hG.st.alloc [x] E).tail,by simp;have:=hG.sz;omega,by rw [n11,n9,n10];exact hG.c11,by rw [n10,n7];exact hG.c10,by rw [n9,n8];exact hG.c9,by rw [n8,n7];exact hG.c8,by rw [n7];exact fun h1=>(hal b hbw).trans (hG.m0 h1),by rw [n7,n11];exact fun h1 h2=>(hal b hbw).trans (hG.m1 h1 h2),fun p hp h1 h2=>(hal p (Nat.lt_of_lt_of_le hp hG.sz)).trans (hG.old p hp h1 h2),by rw [n9];exact fun h1 p hp=>(hal p (Nat.lt_of_lt_of_le (hrl p hp) hG.sz)).trans (hG.row0 h1 p hp),by rw [n11];exact fun h1=>(hG.fin h1).below ((Below.refl _ _).alloc (Nat.le_refl _) _)⟩,by simp,fun p _ hp=>hal p hp,fun _ p hp=>hal p (Nat.lt_of_lt_of_le (hrl p hp) hG.sz)⟩
   exact hrow1 a.eval w e5
  ·-- the entry
   refine pU.value hi7 rfl fun L a w hs hL hW hF hG hD=>?_
   have hL:=F8 hL
   have e3:=(hD 3 d3 w73).1 (by omega)
   have e4:=(hD 4 d4 w74).1 (by omega)
   rw [hv3] at e3
   rw [hv4] at e4
   have hbw:=hG.m0 hL
   have h11:L.getD 11 false=false:=by
    cases h9:L.getD 11 false with
    | false=>rfl
    | true=>rw [hG.c10 (hG.c11 h9).2] at hL;cases hL
   have h9:L.getD 9 false=false:=by
    cases h9:L.getD 9 false with
    | false=>rfl
    | true=>rw [hG.c8 (hG.c9 h9)] at hL;cases hL
   obtain ⟨ob,hob⟩:∃ ob,w.heap[b]?=some ob:=⟨_,Array.getElem?_eq_getElem (Nat.lt_of_lt_of_le hbm hG.sz)⟩
   have hgr:=mV (o':=o1) hob
   have n8:=dA (L:=L) (show 7≠8 by omega);have n9:=dA (L:=L) (show 7≠9 by omega);have n10:=dA (L:=L) (show 7≠10 by omega);have n11:=dA (L:=L) (show 7≠11 by omega)
   have n7:(L.setIfInBounds 7 true).getD 7 false=true:=oQ (by omega)
   refine ⟨.tuple #[v0,st],setBlock w b o1,?_,⟨fun e=>by omega,fun e=>by omega,fun _=>rfl,fun e=>by omega,fun e=>by omega,fun e=>by omega⟩,⟨hG.st.foreignK hgr (fun k hk=>by cases hk;exact ⟨hwb,fun p hp=>(hO p hp).1,fun q hq=>(hK q hq).2⟩),by simp [setBlock];exact hG.sz,(by rw [n11,h11];intro h;cases h),fun _=>n7,(by rw [n9,h9];intro h;cases h),fun _=>n7,(by rw [n7];intro h;cases h),fun _ _=>rM hob,fun p hp h1 h2=>(eR hob h1).trans (hG.old p hp h1 h2),fun _ p hp=>(eR hob (hnb p hp)).trans (hG.row0 h9 p hp),(by rw [n11,h11];intro h;cases h)⟩,by simp [setBlock],fun p hp _=>eR hob (by omega),fun _ p hp=>eR hob (hnb p hp)⟩
   unfold execOp
   simp only []
   rw [e3,e4]
   simp [hrun w hbw,Result.andThen]
  ·-- its row
   refine pU.value hi8 rfl fun L a w hs hL hW hF hG hD=>?_
   have e7:=(hD 7 d7 w87).2.2.1 rfl
   have h7:=hW 7 d7 w87
   have n7:=dA (L:=L) (show 8≠7 by omega);have n9:=dA (L:=L) (show 8≠9 by omega);have n10:=dA (L:=L) (show 8≠10 by omega);have n11:=dA (L:=L) (show 8≠11 by omega)
   have n8:(L.setIfInBounds 8 true).getD 8 false=true:=oQ (by omega)
   refine ⟨v0,w,?_,⟨fun e=>by omega,fun e=>by omega,fun e=>by omega,fun _=>rfl,fun e=>by omega,fun e=>by omega⟩,⟨hG.st,hG.sz,by rw [n11,n9,n10];exact hG.c11,by rw [n10,n7];exact hG.c10,fun _=>n8,fun _=>by rw [n7];exact h7,by rw [n7];exact hG.m0,by rw [n7,n11];exact hG.m1,hG.old,by rw [n9];exact hG.row0,by rw [n11];exact hG.fin⟩,Nat.le_refl _,fun _ _ _=>rfl,fun _ _ _=>rfl⟩
   unfold execOp
   simp only []
   rw [e7]
   simp [Instr.extract]
  ·-- one more
   refine pU.value hi9 rfl fun L a w hs hL hW hF hG hD=>?_
   have hL:=F8 hL
   have e8:=(hD 8 d8 w98).2.2.2.1 rfl
   obtain ⟨B,e6,hB1,hB2⟩:=(hD 6 d6 w96).2.1 rfl
   have h8:=hW 8 d8 w98
   have h7:=hG.c8 h8
   have h11:L.getD 11 false=false:=by
    cases h9:L.getD 11 false with
    | false=>rfl
    | true=>rw [(hG.c11 h9).1] at hL;cases hL
   have hrw:w.ownsRow lo E inf.size v0 (f k).length (f k):=by rw [hsz];exact dQ hown fun p hp=>hG.row0 hL p hp
   obtain ⟨v',w',hr,o9,g9,b9⟩:=lA (P:=P) (w:=w) lo t ty9 E inf z hU hinf hzi hzs (by omega) v0 _ _ hrw ⟨B,0,none⟩ 1 1 [x] (by rw [hsz];rfl) (fun j u hj=>by
    rw [Addr.add_lit,Nat.zero_add]
    simp only [World.cell?,hB2]
    simpa using hj) (fun u hu=>by simp at hu;subst hu;exact hx1) h63 hbytes (Nat.le_trans hlo hG.sz)
   rw [hsz] at o9
   have n7:=dA (L:=L) (show 9≠7 by omega);have n8:=dA (L:=L) (show 9≠8 by omega);have n10:=dA (L:=L) (show 9≠10 by omega);have n11:=dA (L:=L) (show 9≠11 by omega)
   have n9:(L.setIfInBounds 9 true).getD 9 false=true:=oQ (by omega)
   have hne:∀ p,v0.ownBlock≠some p→p < w.heap.size→w'.heap[p]?=w.heap[p]?:=fun p h1 h2=>g9.block p h2 (fun e=>h1 e.symm)
   have hnbm:v0.ownBlock≠some b:=fun e=>hnb b e rfl
   refine ⟨v',w',?_,⟨fun e=>by omega,fun e=>by omega,fun e=>by omega,fun e=>by omega,fun _=>⟨o9,b9.imp_right (fun h=>⟨_,h,hG.sz⟩)⟩,fun e=>by omega⟩,⟨hG.st.foreignK g9 (fun k hk=>⟨Nat.le_trans hwl (hrlo k hk),fun p hp e=>by
    rcases (hO p hp).2 with h5 | h5
    ·have:=hrlo k hk;omega
    ·have h6:=(hG.st.own p hp).2
     rcases hrw.2 with ⟨e7,_⟩ | ⟨g,cap,cur,e7,_,h7,_⟩
     ·rw [e7] at hk;cases hk
     ·rw [e7] at hk
      have h8:g=k:=Option.some.inj hk
      rw [e,← h8,h7] at h6
      injection h6 with h6
      injection h6 with _ h6 _
      exact h5 h6.symm,fun q hq=>.inr (Nat.le_trans (hK q hq).1 (hrlo k hk))⟩),Nat.le_trans hG.sz g9.size,(by rw [n11,h11];intro h;cases h),by rw [n10,n7];exact hG.c10,fun _=>by rw [n8];exact h8,by rw [n8,n7];exact hG.c8,(by rw [n7,h7];intro h;cases h),by rw [n7,n11];exact fun h1 h2=>(hne b hnbm (Nat.lt_of_lt_of_le hbm hG.sz)).trans (hG.m1 h1 h2),fun p hp h1 h2=>(hne p h2 (Nat.lt_of_lt_of_le hp hG.sz)).trans (hG.old p hp h1 h2),(by rw [n9];intro h;cases h),(by rw [n11,h11];intro h;cases h)⟩,g9.size,fun p h1 h2=>hne p (fun e=>by have:=hrl p e;omega) h2,fun h=>absurd rfl h⟩
   unfold execOp
   simp only [resolve,invoke,builtin,Sem.run_bind,Sem.run_pure,Result.andThen_ok,List.map_toArray,List.map_cons,List.map_nil,e8,e6,hr]
  ·-- the way back
   refine pU.value hi10 rfl fun L a w hs hL hW hF hG hD=>?_
   have e7:=(hD 7 d7 w107).2.2.1 rfl
   have h7:=hW 7 d7 w107
   have n7:=dA (L:=L) (show 10≠7 by omega);have n8:=dA (L:=L) (show 10≠8 by omega);have n9:=dA (L:=L) (show 10≠9 by omega);have n11:=dA (L:=L) (show 10≠11 by omega)
   have n10:(L.setIfInBounds 10 true).getD 10 false=true:=oQ (by omega)
   refine ⟨st,w,?_,⟨fun e=>by omega,fun e=>by omega,fun e=>by omega,fun e=>by omega,fun e=>by omega,fun _=>rfl⟩,⟨hG.st,hG.sz,by rw [n11,n9];exact fun h=>⟨(hG.c11 h).1,n10⟩,fun _=>by rw [n7];exact h7,by rw [n9,n8];exact hG.c9,by rw [n8,n7];exact hG.c8,by rw [n7];exact hG.m0,by rw [n7,n11];exact hG.m1,hG.old,by rw [n9];exact hG.row0,by rw [n11];exact hG.fin⟩,Nat.le_refl _,fun _ _ _=>rfl,fun _ _ _=>rfl⟩
   unfold execOp
   simp only []
   rw [e7]
   simp [Instr.extract]
  ·-- the entry's store
   intro L a w hs hL hW hF hG hD
   have hL:=F8 hL
   have e3:=(hD 3 d3 w113).1 (by omega)
   rw [hv3] at e3
   have e10:=(hD 10 d10 w1110).2.2.2.2.2 rfl
   obtain ⟨o9,b9⟩:=(hD 9 d9 w119).2.2.2.2.1 rfl
   have h10:=hW 10 d10 w1110
   have h9:=hW 9 d9 w119
   have h7:=hG.c10 h10
   have hbo:=hG.m1 h7 hL
   obtain ⟨W3,r3,g3,m3⟩:=back w (a.eval (.tmp d9)) (f k++[x]) hbo hG.sz hG.old (by rw [List.length_append];exact o9) b9
   have hob3:W.heap.size≤W3.heap.size:=Nat.le_trans hG.sz g3.size
   have n7:=dA (L:=L) (show 11≠7 by omega);have n8:=dA (L:=L) (show 11≠8 by omega);have n9:=dA (L:=L) (show 11≠9 by omega);have n10:=dA (L:=L) (show 11≠10 by omega)
   have n11:(L.setIfInBounds 11 true).getD 11 false=true:=oQ (by omega)
   have hne:∀ p,p≠b→p < w.heap.size→W3.heap[p]?=w.heap[p]?:=fun p h1 h2=>g3.block p h2 (fun e=>h1 (Option.some.inj e))
   unfold wpOp
   simp only [hi11,fJ (show (⟨none,.entryStore T (.tmp d3) (.tmp d10) (.tmp d9),ty11,p11,a11,none⟩:Oper).guard=none from rfl),if_true]
   refine .inl ?_
   unfold Oper.wp execOp
   simp only []
   rw [e3,e10]
   simp only [Sem.run_bind,r3,Result.andThen_ok,Sem.run_pure,Oper.upon_skip]
   refine ⟨⟨undef,by simp,fun d hd=>by cases hd⟩,⟨hG.st.foreignK g3 (fun k hk=>by cases hk;exact ⟨hwb,fun p hp=>(hO p hp).1,fun q hq=>(hK q hq).2⟩),hob3,fun _=>⟨by rw [n9];exact h9,by rw [n10];exact h10⟩,by rw [n10,n7];exact hG.c10,by rw [n9,n8];exact hG.c9,by rw [n8,n7];exact hG.c8,(by rw [n7,h7];intro h;cases h),(by rw [n11];intro _ h;cases h),fun p hp h1 h2=>(hne p h1 (Nat.lt_of_lt_of_le hp hG.sz)).trans (hG.old p hp h1 h2),(by rw [n9,h9];intro h;cases h),fun _=>m3⟩,g3.size,fun p h1 h2=>hne p (by omega) h2,fun _ p hp=>hne p (hnb p hp) (Nat.lt_of_lt_of_le (hrl p hp) hG.sz)⟩
 ·intro L a w h1 h2 h3 hall hs hG _
  have h11:L.getD 11 false=true:=by
   have:=hall 11 (by omega)
   rw [Array.getD_eq_getD_getElem?] at this ⊢
   rw [Array.getElem?_eq_getElem (by omega)] at this ⊢
   simpa using this
  exact h w hG.st (hG.fin h11) hG.sz a (by rw [h1,ha0.size]) (by rw [h2,ha0.defers]) (fun t ht v hv=>by rw [h3 t ht];exact ha0.at_ t v hv)
end
end Go.Proofs.YtmgnkpibpjgncaaGreatDoor
namespace Go.Proofs.YtmgnkpibpjgncaaGreatDoor
open Go Go.RowKit
section
variable {P:Program} {n:Nat} {Q:Exit→Act→World→Prop} {l:Fr} {w0 W:World} {O:Own} {G:dC} {K:List (Nat×World)}
abbrev Mks:=List (Nat×Own)
abbrev Iu (s:Mks):Own:=s.flatMap (·.2)
def MkI (mk:List Nat) (vals:Nat→Value) (Pm:Nat→Value→Own→Prop) (s:Mks) (i:Nat) (v:Value) (w:World):Prop :=
 (i∉mk→v=vals i)∧(i∈mk→∃ ON,(i,ON)∈s∧Pm i v ON)
def MkV (mk:List Nat) (s:Mks) (L:Array Bool):Prop:=(∀ i∈mk,L.getD i false=true↔∃ ON,(i,ON)∈s)∧(∀ q∈s,q.1∈mk)∧s.Pairwise (fun p q=>p.1≠q.1)
theorem regMk {id k:Nat} {ops:Array Oper} {mk:List Nat} {vals:Nat→Value} {Pm:Nat→Value→Own→Prop} (Gp:Mks→World→Prop) (hm:P.follows .mixedOrders=true) (hS:Gp [] W.drew) (hk:k < ops.size) (hl:Dr ops k=true) (ht:eL ops n=true)
  (hpure:∀ i,i < k→i∉mk→∀ (s:Mks) (a0 a:Act) (w:World),Has n l a0→(∀ t,freeT ops t=true→a.eval (.tmp t)=a0.tmps.getD t undef)→Gp s w→(∀ j d,bM ops i j d=true→MkI mk vals Pm s j (a.eval (.tmp d)) w)→∃ o,ops[i]?=some o∧o.guard=none∧(execOp a.eval o).run P w = .ok (.value (vals i)) w)
  (hmake:∀ i,i∈mk→∀ (s:Mks) (a0 a:Act) (w:World),Has n l a0→(∀ t,freeT ops t=true→a.eval (.tmp t)=a0.tmps.getD t undef)→Gp s w→(∀ ON,(i,ON)∉s)→(∀ j d,bM ops i j d=true→MkI mk vals Pm s j (a.eval (.tmp d)) w)→wpOp P ops Q i (fun a' w'=>∃ v ON,a'=a.put ((ops[i]?).bind (·.dst)) v∧Pm i v ON∧Gp ((i,ON)::s) w') a w)
  (hmk:∀ i∈mk,i < k)
  (h:∀ (s:Mks) (a:Act) (w:World),Gp s w→a.tmps.size=n→a.defers=[]→(∀ t v,freeT ops t=true→look l t=some v→a.tmps.getD t undef=v)→(∀ i d,i < k→i∉mk→(ops[i]?).bind (·.dst)=some d→a.tmps.getD d undef=vals i)→(∀ i∈mk,∃ ON,(i,ON)∈s)→(∀ i d,i∈mk→(ops[i]?).bind (·.dst)=some d→∃ ON,(i,ON)∈s∧Pm i (a.tmps.getD d undef) ON)→(∀ q∈s,q.1∈mk)→s.Pairwise (fun p q=>p.1≠q.1)→wpList P ops Q (ops.toList.drop k) a w):fP P n (.region id ops true) Q l W:=fun a0 ha0=>by
 refine wp_region_any hm (vJ (G:=fun s w=>Gp s w) (I:=MkI mk vals Pm) (V:=MkV mk) (t0:=a0.tmps) (d0:=a0.defers) hk hl (by rw [ha0.size];exact ht) (fun i hi=>?_) (fun s L a w hR hall hnot=>?_) _ [] _ _ _ (by simp) (jI _) ?_ ?_ ⟨rfl,rfl,fun _ _=>rfl,?_,?_,?_⟩)
 ·intro s L a w hF hG hV hs hcl hr hD
  by_cases him:i∈mk
  ·have hnew:∀ ON',(i,ON')∉s:=fun ON' h9=>by
    have:=(hV.1 i him).2 ⟨ON',h9⟩
    rw [hr.1] at this;cases this
   refine wpOp_mono ?_ (hmake i him s a0 a w ha0 hF hG hnew hD)
   rintro a' w' ⟨v,ON,rfl,hP,hS'⟩
   have hsz:i < ops.size:=Nat.lt_trans (hmk i him) hk
   refine ⟨(i,ON)::s,v,rfl,⟨fun j hj=>?_,fun q hq=>?_,List.Pairwise.cons (fun q hq e=>hnew q.2 (by rw [show i=q.1 from e];exact hq)) hV.2.2⟩,hS',fun d hd=>⟨fun h9=>absurd him h9,fun _=>⟨ON,List.mem_cons_self,hP⟩⟩,fun j d hd hj=>⟨hj.1,fun hjm=>?_⟩⟩
   ·by_cases hji:j=i
    ·subst hji
     rw [oQ (by rw [hs];exact hsz)]
     exact ⟨fun _=>⟨ON,List.mem_cons_self⟩,fun _=>rfl⟩
    ·rw [dA (Ne.symm hji),hV.1 j hj]
     exact ⟨fun ⟨N',h9⟩=>⟨N',List.mem_cons_of_mem _ h9⟩,fun ⟨N',h9⟩=>by
      rcases List.mem_cons.1 h9 with h9 | h9
      ·exact absurd (congrArg Prod.fst h9) hji
      ·exact ⟨N',h9⟩⟩
   ·rcases List.mem_cons.1 hq with rfl | hq
    ·exact him
    ·exact hV.2.1 q hq
   ·obtain ⟨N',h1,h2⟩:=hj.2 hjm
    exact ⟨N',List.mem_cons_of_mem _ h1,h2⟩
  ·obtain ⟨o,ho,hgd,hrun⟩:=hpure i hi him s a0 a w ha0 hF hG hD
   unfold wpOp
   simp only [ho,fJ hgd,if_true]
   refine .inl ?_
   unfold Oper.wp
   rw [hrun]
   refine ⟨s,_,rfl,⟨fun j hj=>?_,hV.2⟩,hG,fun d hd=>⟨fun _=>rfl,fun h9=>absurd h9 him⟩,fun j d hd hj=>hj⟩
   rw [dA (fun e=>him (by rw [e];exact hj))]
   exact hV.1 j hj
 ·have hd:∀ i d,i < k→(ops[i]?).bind (·.dst)=some d→MkI mk vals Pm s i (a.tmps.getD d undef) w:=fun i d hi hd=>hR.done i d hd (hall i hi)
  exact h s a w hR.glob (by rw [hR.size,ha0.size]) (by rw [hR.defers,ha0.defers]) (fun t v ht' hv=>by rw [hR.frame t ht'];exact ha0.at_ t v hv) (fun i d hi him hd'=>(hd i d hi hd').1 him) (fun i him=>(hR.cons.1 i him).1 (hall i (hmk i him))) (fun i d him hd'=>(hd i d (hmk i him) hd').2 him) hR.cons.2.1 hR.cons.2.2
 ·intro j hj
  rw [Array.getD_eq_getD_getElem?,Array.getElem?_replicate] at hj
  split at hj<;>simp at hj
 ·intro i _
  rw [Array.getD_eq_getD_getElem?,Array.getElem?_replicate]
  split<;>rfl
 ·exact hS
 ·refine ⟨fun i _=>?_,fun q hq=>(by cases hq),List.Pairwise.nil⟩
  rw [Array.getD_eq_getD_getElem?,Array.getElem?_replicate]
  constructor
  ·intro h9;split at h9<;>simp at h9
  ·rintro ⟨_,h9⟩;cases h9
 ·intro i d hd h9
  rw [Array.getD_eq_getD_getElem?,Array.getElem?_replicate] at h9
  split at h9<;>simp at h9
theorem M9 {ops:Array Oper} {i d:Nat} {f:FuncId} {xs:List Operand} {ts:Array TypeId} {ty:TypeId} {pos:String} {aft:Array Edge} {a:Act} {w:World} {vs:List Value} {R:Value→Own→World→Prop} (hi:ops[i]?=some ⟨some d,.call { callee:=.value (.func f),args:=xs.toArray,argTypes:=ts },ty,pos,aft,none⟩) (hgo:bK P f=true) (hx:xs.map a.eval=vs)
  (hc:Calls P f vs.toArray w fun e w'=>∃ v ON,e = .returned v∧R v ON w'):wpOp P ops Q i (fun a' w'=>∃ v ON,a'=a.put ((ops[i]?).bind (·.dst)) v∧R v ON w') a w:=by
 unfold wpOp
 simp only [hi,fJ (show (⟨some d,.call { callee:=.value (.func f),args:=xs.toArray,argTypes:=ts },ty,pos,aft,none⟩:Oper).guard=none from rfl),if_true]
 refine .inl ?_
 unfold Oper.wp
 rw [nV P a.eval w f xs.toArray ts _ rfl rfl hgo,Oper.upon_enter]
 rw [show xs.toArray.map a.eval=vs.toArray by rw [← hx];simp]
 refine hc.mono ?_
 rintro e w' ⟨v,ON,rfl,h9⟩
 exact ⟨v,ON,by simp,h9⟩
theorem Iv {ops:Array Oper} {i B j:Nat} {T U:TypeId} {x y:Operand} {ty:TypeId} {pos:String} {aft:Array Edge} {a:Act} {w:World} {cs:List Value} {v:Value} {R:Act→World→Prop} (hi:ops[i]?=some ⟨none,.store T x y,ty,pos,aft,none⟩) (hsz:∀ w,(sizeOf T).run P w = .ok 1 w) (hx:a.eval x = .pointer (some ⟨B,j,none⟩)) (hy:a.eval y=v) (hv:v.oneCell'=true) (hB:w.heap[B]?=some (.cells cs.toArray U (0,0))) (hj:j < cs.length)
  (h:R (a.put none undef) (w.setCell ⟨B,j,none⟩ v)):wpOp P ops Q i R a w:=by
 unfold wpOp
 simp only [hi,fJ (show (⟨none,.store T x y,ty,pos,aft,none⟩:Oper).guard=none from rfl),if_true]
 refine .inl ?_
 unfold Oper.wp execOp
 simp only []
 rw [hx,hy]
 have hcells:v.cells=#[v]:=by cases v<;>first | rfl | cases hv
 have hst:=iU (P:=P) [v] 0 j w cs hB (by simp;omega) (fun u hu=>by simp at hu;subst hu;exact hv)
 simp only [Nat.add_zero,setMany] at hst
 have:(Instr.storeAt T (.pointer (some ⟨B,j,none⟩)) v).run P w = .ok () (w.setCell ⟨B,j,none⟩ v):=by
  simp [Instr.storeAt,Instr.sureAddr,storeVar,hsz,hcells,hst]
 simp only [Sem.run_bind,this,Result.andThen_ok,Sem.run_pure,Oper.upon_skip]
 exact h
theorem St.drop8 {x1 x2 x3 x4 x5 x6 x7 y:Nat×List Value×TypeId} (h:St w0 (x1::x2::x3::x4::x5::x6::x7::y::O) G K W):St w0 (x1::x2::x3::x4::x5::x6::x7::O) G K W:=(h.perm (List.perm_middle (l₁:=[x1,x2,x3,x4,x5,x6,x7]))).tail
def P5 (a:Act):Fr→Prop
 | []=>True
 | p::r=>a.tmps.getD p.1 undef=p.2∧P5 a r
theorem P5.has {a:Act} (hs:a.tmps.size=n) (hd:a.defers=[]):∀ {l:Fr},P5 a l→Has n l a
 | l,h=>⟨hs,hd,by
  induction l with
  | nil=>intro t v hv;cases hv
  | cons p r ih =>
   intro t v hv
   unfold look at hv
   cases hb:Nat.beq p.1 t with
   | true =>
    simp only [hb,cond_true,Option.some.injEq] at hv
    rw [← Nat.eq_of_beq_eq_true hb,← hv];exact h.1
   | false =>
    simp only [hb,cond_false] at hv
    exact ih h.2 t v hv⟩
end
end Go.Proofs.YtmgnkpibpjgncaaGreatDoor
