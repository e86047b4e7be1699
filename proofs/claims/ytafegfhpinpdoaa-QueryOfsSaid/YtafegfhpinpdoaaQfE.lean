import Derived.Deep.Slices
import Derived.Deep.Fields
import Derived.ChangeSame
import Derived.Lib.SmallJoins
import Derived.ChangeSlices
import Derived.ProofKit
import Derived.Test.YtafegfhpinpdoaaQfD
set_option maxRecDepth 100000
set_option maxHeartbeats 4000000
set_option linter.unusedVariables false
set_option linter.unusedSimpArgs false
set_option linter.unusedSectionVars false
set_option linter.unnecessarySimpa false
namespace Go.Proofs.Ytafegfhpinpdoaa
open Go.Proofs.Try
section
open Go.RowKit
theorem pK (w:World) (b o:Nat):(Instr.fieldAt 67 (.pointer (some ⟨b,o,none⟩)) 0).run prog w = .ok (.pointer (some ⟨b,o+0,none⟩)) w:=by
 simp [Instr.fieldAt,run_underlying underlying67,Instr.sureAddr,go_sem,Addr.add_lit]
theorem kA (w:World) (b o:Nat):(Instr.fieldAt 67 (.pointer (some ⟨b,o,none⟩)) 1).run prog w = .ok (.pointer (some ⟨b,o+1,none⟩)) w:=by
 simp [Instr.fieldAt,run_underlying underlying67,Instr.sureAddr,go_sem,Addr.add_lit]
theorem rU (w:World) (b o:Nat):(Instr.fieldAt 67 (.pointer (some ⟨b,o,none⟩)) 2).run prog w = .ok (.pointer (some ⟨b,o+2,none⟩)) w:=by
 simp [Instr.fieldAt,run_underlying underlying67,Instr.sureAddr,go_sem,Addr.add_lit]
theorem uS (w:World) (b o:Nat):(Instr.fieldAt 67 (.pointer (some ⟨b,o,none⟩)) 3).run prog w = .ok (.pointer (some ⟨b,o+3,none⟩)) w:=by
 simp [Instr.fieldAt,run_underlying underlying67,Instr.sureAddr,go_sem,Addr.add_lit]
theorem jL (w:World) (b o:Nat):(Instr.fieldAt 42 (.pointer (some ⟨b,o,none⟩)) 0).run prog w = .ok (.pointer (some ⟨b,o+0,none⟩)) w:=by
 simp [Instr.fieldAt,run_underlying underlying42,Instr.sureAddr,go_sem,Addr.add_lit]
theorem dO (w:World) (b o:Nat):(Instr.fieldAt 42 (.pointer (some ⟨b,o,none⟩)) 1).run prog w = .ok (.pointer (some ⟨b,o+3,none⟩)) w:=by
 simp [Instr.fieldAt,run_underlying underlying42,Instr.sureAddr,go_sem,Addr.add_lit]
theorem nG (w:World) (b o:Nat):(Instr.fieldAt 42 (.pointer (some ⟨b,o,none⟩)) 2).run prog w = .ok (.pointer (some ⟨b,o+4,none⟩)) w:=by
 simp [Instr.fieldAt,run_underlying underlying42,Instr.sureAddr,go_sem,Addr.add_lit]
theorem eB (w:World) (b o:Nat):(Instr.fieldAt 42 (.pointer (some ⟨b,o,none⟩)) 3).run prog w = .ok (.pointer (some ⟨b,o+5,none⟩)) w:=by
 simp [Instr.fieldAt,run_underlying underlying42,Instr.sureAddr,go_sem,Addr.add_lit]
theorem dA (w:World) (b o:Nat):(Instr.fieldAt 42 (.pointer (some ⟨b,o,none⟩)) 4).run prog w = .ok (.pointer (some ⟨b,o+6,none⟩)) w:=by
 simp [Instr.fieldAt,run_underlying underlying42,Instr.sureAddr,go_sem,Addr.add_lit]
theorem pL:bW prog 46=true:=by kernel_rfl
theorem sS (a:AV) (n:Int) (w:World) :
  Calls prog 46 #[a.val,.int .i64 n] w (fun e w'=>e = .returned (.bool (inQ n a.st))∧Below w.heap.size w w'):=by
 refine cG (args:=[a.val,.int .i64 n]) func46 rfl ntmps46 rfl ?_
 have hS:=St.start w
 refine aO (aR (bQ (cs:=[_,_,_,_,_,_,_]) hS rfl rfl rfl fun B1 W1 hS=>aB rfl rfl (aQ (XF.thenN (aO (aR (aI rfl rfl (gV rfl rfl rfl (aI rfl rfl (bG (d:=7) rfl (fun hc=>?_) (fun hc=>?_)))))))))))
 ·have hg7:=of_decide_eq_true hc;clear hc
  refine aC (d:=7) rfl rfl (aI rfl rfl (aC (d:=7) rfl rfl (aN (o':=3) dO rfl rfl rfl (aC (d:=7) rfl rfl (aT isAgg3 rfl (aJ (hS.at_ 0 rfl) rfl) rfl (aC (d:=7) rfl rfl (cC rfl rfl rfl (aY rfl rfl rfl (aB rfl rfl (aQ (XF.thenN (bM (XF.res (bV results46 rfl) ?_)))))))))))))
  exact ⟨bR (by simp [inQ,show 0≤n from hg7]),hS.below⟩
 ·have hg7:=of_decide_eq_false hc;clear hc
  refine aF (d:=7) rfl rfl rfl rfl (aF (d:=7) rfl rfl rfl rfl (aF (d:=7) rfl rfl rfl rfl (aF (d:=7) rfl rfl rfl rfl (bN rfl rfl rfl (aB rfl rfl (aQ (XF.thenN (bM (XF.res (bV results46 rfl) ?_)))))))))
  exact ⟨bR (by simp [inQ];omega),hS.below⟩
theorem autoR_c (ds d:Nat) (s:SV) (st sy:Int) (fa:Option Addr) (fl fc:Nat) (fs:List Int) (ta:Option Addr) (tl tc:Nat) (ts:List TV) (w:World) (hs:SIn w ds s) (hfrow:Row w fa fs) (hflen:fs.length=fl) (htrow:qT w ta ts) (htlen:ts.length=tl) (htin:∀ t∈ts,WIn w d t.x) (hfm:fl≤9223372036854775807) (htm:tl≤9223372036854775807) :
  Calls prog 31 #[.agg #[.int .i64 s.f.tag,.int .i64 s.f.dim,.slice s.f.a s.f.len s.f.cap,.int .i64 st,.int .i64 sy,.slice fa fl fc,.slice ta tl tc]] w (fun e w'=>e = .returned (.int .i64 (fM ⟨s,st,sy,fa,fl,fc,fs,ta,tl,tc,ts⟩))∧Below w.heap.size w w'):=by
 refine cG (args:=[.agg #[.int .i64 s.f.tag,.int .i64 s.f.dim,.slice s.f.a s.f.len s.f.cap,.int .i64 st,.int .i64 sy,.slice fa fl fc,.slice ta tl tc]]) func31 rfl ntmps31 rfl ?_
 have hS:=St.start w
 refine aO (aR (bQ (cs:=[_,_,_,_,_,_,_]) hS rfl rfl rfl fun B1 W1 hS=>aB rfl rfl (aQ (XF.thenN (aO (aR (aN (o':=0) jL rfl rfl rfl (aU (vs:=[_,_,_]) isAgg25 sizeOf25 rfl (aK.own (j:=0) (m:=3) (hS.at_ 0 rfl) rfl) rfl (bT (vs:=[_]) hS rG rfl (pI ds s _ _ (SIn.below hS.below hs) rfl) rfl fun W2 hS=>aB rfl rfl (aQ (XF.thenN (aO (aO (aR (aI rfl rfl (cN rfl rfl rfl (aQ (XF.thenN (bC rfl (fun hc=>?_) (fun hc=>?_))))))))))))))))))))
 ·have hc12:=of_decide_eq_true hc;clear hc
  refine aO (aR (aI rfl rfl (aB rfl rfl (aQ (XF.thenN (bM (XF.thenR (XF.res (bV results31 rfl) ?_))))))))
  exact ⟨cL (by unfold fM;dsimp only;rw [if_pos hc12]),hS.below⟩
 ·have hc12:=of_decide_eq_false hc;clear hc
  have h0:¬ dD s≠0:=hc12
  have hse:dD s=0:=by omega
  refine bH (XF.thenN (aO (aO (aR (aN (o':=6) dA rfl rfl rfl (aT isAgg40 rfl (aJ (hS.at_ 0 rfl) rfl) rfl (bX underlying40 rfl rfl (dS rfl rfl rfl (aQ (XF.thenN (bC rfl (fun hc=>?_) (fun hc=>?_))))))))))))
  ·have hc17:=of_decide_eq_true hc;clear hc
   refine aO (aR (aB rfl rfl (aQ (XF.thenN (bM (XF.thenR (XF.res (bV results31 rfl) ?_)))))))
   exact ⟨cL (by unfold fM;dsimp only;rw [if_neg h0,if_pos (by omega)]),hS.below⟩
  ·have hc17:=of_decide_eq_false hc;clear hc
   have h1:¬ 65536 < tl:=by omega
   refine bH (XF.thenN (aO (aO (aR (aN (o':=3) dO rfl rfl rfl (aT isAgg3 rfl (aJ (hS.at_ 0 rfl) rfl) rfl (cC rfl rfl rfl (aI rfl rfl (bG (d:=21) rfl (fun hc=>?_) (fun hc=>?_))))))))))
   ·have hg21:=of_decide_eq_true hc;clear hc
    refine aF (d:=21) rfl rfl rfl rfl (aF (d:=21) rfl rfl rfl rfl (aF (d:=21) rfl rfl rfl rfl (aY rfl rfl rfl (aI rfl rfl (aF (d:=26) rfl rfl rfl rfl (aF (d:=26) rfl rfl rfl rfl (aF (d:=26) rfl rfl rfl rfl (aY rfl rfl rfl (aI rfl rfl (aF (d:=31) rfl rfl rfl rfl (aF (d:=31) rfl rfl rfl rfl (aF (d:=31) rfl rfl rfl rfl (aY rfl rfl rfl (aQ (XF.thenN (cU rfl (aO (aR (aB rfl rfl (aQ (XF.thenN (bM (XF.thenR (XF.res (bV results31 rfl) ?_))))))))))))))))))))))))
    exact ⟨cL (by unfold fM;dsimp only;rw [if_neg h0,if_neg h1,if_pos (by unfold fT;rw [if_pos (by omega)])]),hS.below⟩
   ·have hg21:=of_decide_eq_false hc;clear hc
    refine aC (d:=21) rfl rfl (aN (o':=3) dO rfl rfl rfl (aC (d:=21) rfl rfl (aT isAgg3 rfl (aJ (hS.at_ 0 rfl) rfl) rfl (aC (d:=21) rfl rfl (dS rfl rfl rfl (bN rfl rfl rfl (aI rfl rfl (bG (d:=26) rfl (fun hc=>?_) (fun hc=>?_)))))))))
    ·have hg26:=of_decide_eq_true hc;clear hc
     refine aF (d:=26) rfl rfl rfl rfl (aF (d:=26) rfl rfl rfl rfl (aF (d:=26) rfl rfl rfl rfl (aY rfl rfl rfl (aI rfl rfl (aF (d:=31) rfl rfl rfl rfl (aF (d:=31) rfl rfl rfl rfl (aF (d:=31) rfl rfl rfl rfl (aY rfl rfl rfl (aQ (XF.thenN (cU rfl (aO (aR (aB rfl rfl (aQ (XF.thenN (bM (XF.thenR (XF.res (bV results31 rfl) ?_)))))))))))))))))))
     exact ⟨cL (by unfold fM;dsimp only;rw [if_neg h0,if_neg h1,if_pos (by unfold fT;rw [if_pos (by omega)])]),hS.below⟩
    ·have hg26:=of_decide_eq_false hc;clear hc
     refine aC (d:=26) rfl rfl (aN (o':=4) nG rfl rfl rfl (aC (d:=26) rfl rfl (aT isAgg3 rfl (aJ (hS.at_ 0 rfl) rfl) rfl (aC (d:=26) rfl rfl (cC rfl rfl rfl (bN rfl rfl rfl (aI rfl rfl (bG (d:=31) rfl (fun hc=>?_) (fun hc=>?_)))))))))
     ·have hg31:=of_decide_eq_true hc;clear hc
      refine aF (d:=31) rfl rfl rfl rfl (aF (d:=31) rfl rfl rfl rfl (aF (d:=31) rfl rfl rfl rfl (aY rfl rfl rfl (aQ (XF.thenN (cU rfl (aO (aR (aB rfl rfl (aQ (XF.thenN (bM (XF.thenR (XF.res (bV results31 rfl) ?_))))))))))))))
      exact ⟨cL (by unfold fM;dsimp only;rw [if_neg h0,if_neg h1,if_pos (by unfold fT;rw [if_pos (by omega)])]),hS.below⟩
     ·have hg31:=of_decide_eq_false hc;clear hc
      refine aC (d:=31) rfl rfl (aN (o':=4) nG rfl rfl rfl (aC (d:=31) rfl rfl (aT isAgg3 rfl (aJ (hS.at_ 0 rfl) rfl) rfl (aC (d:=31) rfl rfl (dS rfl rfl rfl (bN rfl rfl rfl (aQ (XF.thenN (bC rfl (fun hc=>?_) (fun hc=>?_))))))))))
      ·have hc35:=of_decide_eq_true hc;clear hc
       refine aO (aR (aB rfl rfl (aQ (XF.thenN (bM (XF.thenR (XF.res (bV results31 rfl) ?_)))))))
       exact ⟨cL (by unfold fM;dsimp only;rw [if_neg h0,if_neg h1,if_pos (by unfold fT;rw [if_pos (by omega)])]),hS.below⟩
      ·have hc35:=of_decide_eq_false hc;clear hc
       have h2:¬ (st < 0∨4096 < st∨sy < 0∨4096 < sy):=by omega
       refine bH (XF.thenN (aO (aO (aR (aB rfl rfl (aQ (XF.thenN (bI (cX (fun m l W=>∃ i:Nat,i≤fl∧m=fl - i∧l=[(1,.pointer (some ⟨B1,0,none⟩)),(4,.int .i64 (i:Int))]∧(∀ j,j < i→mK st fs j=true)∧St w [(B1,[.int .i64 s.f.tag,.int .i64 s.f.dim,.slice s.f.a s.f.len s.f.cap,.int .i64 st,.int .i64 sy,.slice fa fl fc,.slice ta tl tc],42)] [] [] W) (fl - 0) ([(1,_),(4,_)]) ⟨rfl,rfl,trivial⟩ (⟨0,Nat.zero_le _,rfl,rfl,fun j hj=>absurd hj (Nat.not_lt_zero _),hS.clear⟩) ?_)))))))))
       clear hS
       rintro m l W ⟨i,hi,rfl,rfl,hall,hS⟩
       refine aO (aO (aR (aI rfl rfl (aN (o':=5) eB rfl rfl rfl (aT isAgg30 rfl (aJ (hS.at_ 0 rfl) rfl) rfl (bX underlying30 rfl rfl (cC rfl rfl rfl (aQ (XF.thenN (bC rfl (fun hc=>?_) (fun hc=>?_)))))))))))
       ·have hc40:=of_decide_eq_true hc;clear hc
        have hk:i < fl:=by omega
        obtain ⟨b,off,y,rfl,hy,hyc⟩:=hfrow.at1 (show i < fs.length by omega)
        have k1:=hS.old hyc
        refine bH (XF.thenN (aO (bI (aO ?_))))
        rcases (show inQ y st=false∨(inQ y st=true∧i=0)∨(inQ y st=true∧0 < i) by cases inQ y st<;>simp<;>omega) with e1 | ⟨e1,h9⟩ | ⟨e1,h9⟩
        ·skip
         refine gP (m:=26) bY hS (by kernel_rfl) (by kernel_rfl) rfl (cB 1 rfl 1 rfl rfl (fun w hw=>bL (vs:=[_,_,_,_,_,_,_]) isAgg42 sizeOf42 rfl (aK.agree (aP hw 0) (Nat.zero_le _) (aK.own (j:=0) (m:=7) (hS.at_ 0 rfl) rfl))) rfl (cB 2 rfl 1 rfl rfl (fun w hw=>aV (o':=5) eB rfl rfl) rfl (bD 3 rfl 44 1 rfl rfl rfl (fun w hw=>aX isAgg30 rfl ((aP hw 0).cell (Nat.zero_le _) (aJ (hS.at_ 0 rfl) rfl))) rfl (cB 4 rfl 4 rfl rfl (fun w hw=>aZ rfl) rfl (aM 5 rfl (isV _) (aH _) (rgV (li:=[(45,_),(46,_)]) rfl (aS rfl) ⟨aL 2 (aA rfl rfl rfl),aL 3 (aA rfl rfl rfl),trivial⟩ (fun w hw=>bA  underlying30 sizeOf3 rfl rfl rfl (by omega) rfl) (aD rfl)) (bD 6 rfl 47 4 rfl rfl rfl (fun w hw=>aX isAgg3 rfl ((aP hw 0).cell (Nat.zero_le _) (k1))) rfl ?_))))))
         refine aM 7 rfl (isV (.bool false)) (aH _) (cP [isV _,isV _] rfl pL (aS rfl) ⟨cD (aL 0 (aA rfl rfl rfl)),cD (aL 5 (aA rfl rfl rfl)),trivial⟩ (fun vs w' hb hh=>by have e:=bZ (us:=[_,_]) hh;subst e;exact (sS ⟨s,st,sy,_,fl,fc,fs,ta,tl,tc,ts⟩ y _).mono fun e w2 h=>⟨_,by rw [h.1,e1],rfl,h.2⟩) (aD rfl)) ?_
         refine aM 8 rfl (isV (.bool true)) (aH _) (jR (li:=[(49,_)]) rfl (aS rfl) ⟨aL 6 (aA rfl rfl rfl),trivial⟩ (fun w hw=>gU rfl) (rfl) (aD rfl)) (bD 9 rfl 50 7 rfl rfl rfl (fun w hw=>aZ rfl) rfl (aM 10 rfl (isV undef) (aH _) (bJ rfl (bK 51 rfl (aA rfl rfl rfl) rfl) (aD rfl)) (aM 11 rfl (isV undef) (aH _) (bJ rfl (bK 51 rfl (aA rfl rfl rfl) rfl) (aD rfl)) (aM 12 rfl (isV undef) (aH _) (bJ rfl (bK 51 rfl (aA rfl rfl rfl) rfl) (aD rfl)) (aM 13 rfl (isV undef) (aH _) (bJ rfl (nL 54 rfl (aA rfl rfl rfl)) (aD rfl)) (aM 14 rfl (isV undef) (aH _) (bJ rfl (nL 54 rfl (aA rfl rfl rfl)) (aD rfl)) (aM 15 rfl (isV undef) (aH _) (bJ rfl (nL 54 rfl (aA rfl rfl rfl)) (aD rfl)) (aM 16 rfl (isV undef) (aH _) (bJ rfl (nL 54 rfl (aA rfl rfl rfl)) (aD rfl)) (aM 17 rfl (isV undef) (aH _) (bJ rfl (nL 54 rfl (aA rfl rfl rfl)) (aD rfl)) (aM 18 rfl (isV undef) (aH _) (bJ rfl (nL 54 rfl (aA rfl rfl rfl)) (aD rfl)) (aM 19 rfl (isV undef) (aH _) (bJ rfl (nL 54 rfl (aA rfl rfl rfl)) (aD rfl)) (aM 20 rfl (isV undef) (aH _) (bJ rfl (nL 54 rfl (aA rfl rfl rfl)) (aD rfl)) (aM 21 rfl (isV undef) (aH _) (bJ rfl (nL 54 rfl (aA rfl rfl rfl)) (aD rfl)) (aM 22 rfl (isV undef) (aH _) (bJ rfl (nL 54 rfl (aA rfl rfl rfl)) (aD rfl)) (aM 23 rfl (isV undef) (aH _) (bJ rfl (nL 54 rfl (aA rfl rfl rfl)) (aD rfl)) (aM 24 rfl (isV undef) (aH _) (bJ rfl (nL 54 rfl (aA rfl rfl rfl)) (aD rfl)) (aM 25 rfl (isV undef) (aH _) (bJ rfl (bK 51 rfl (aA rfl rfl rfl) rfl) (aD rfl)) (bD 26 rfl 51 8 rfl rfl rfl (fun w hw=>dG rfl rfl) rfl (dB ?_)))))))))))))))))))
         intro W3 hbR hS'
         clear hS;have hS:=hS';clear hS'
         refine aG (aG (aG (aG (aG (aG (aG (aG (aG (aG (aG (aG (aG (aG (aG (aG (aG (aG (aG (aG (aG (aG (aG (aG (aG (aG (cH (XF.thenN (cU rfl (aO (aR (aB rfl rfl (aQ (XF.thenN (bM ?_))))))))))))))))))))))))))))))))))
         refine XF.blkR (XF.thenR (XF.thenR (XF.blkR (XF.thenR (XF.res (bV results31 rfl) ?_)))))
         exact ⟨cL (by unfold fM;dsimp only;rw [if_neg h0,if_neg h1,if_pos (by unfold fT;rw [if_neg h2,Hh (i:=i) (by omega) (I0 hy e1),Bool.false_and])]),hS.below⟩
        ·skip
         refine gP (m:=26) bY hS (by kernel_rfl) (by kernel_rfl) rfl (cB 1 rfl 1 rfl rfl (fun w hw=>bL (vs:=[_,_,_,_,_,_,_]) isAgg42 sizeOf42 rfl (aK.agree (aP hw 0) (Nat.zero_le _) (aK.own (j:=0) (m:=7) (hS.at_ 0 rfl) rfl))) rfl (cB 2 rfl 1 rfl rfl (fun w hw=>aV (o':=5) eB rfl rfl) rfl (bD 3 rfl 44 1 rfl rfl rfl (fun w hw=>aX isAgg30 rfl ((aP hw 0).cell (Nat.zero_le _) (aJ (hS.at_ 0 rfl) rfl))) rfl (cB 4 rfl 4 rfl rfl (fun w hw=>aZ rfl) rfl (aM 5 rfl (isV _) (aH _) (rgV (li:=[(45,_),(46,_)]) rfl (aS rfl) ⟨aL 2 (aA rfl rfl rfl),aL 3 (aA rfl rfl rfl),trivial⟩ (fun w hw=>bA  underlying30 sizeOf3 rfl rfl rfl (by omega) rfl) (aD rfl)) (bD 6 rfl 47 4 rfl rfl rfl (fun w hw=>aX isAgg3 rfl ((aP hw 0).cell (Nat.zero_le _) (k1))) rfl ?_))))))
         refine aM 7 rfl (isV (.bool true)) (aH _) (cP [isV _,isV _] rfl pL (aS rfl) ⟨cD (aL 0 (aA rfl rfl rfl)),cD (aL 5 (aA rfl rfl rfl)),trivial⟩ (fun vs w' hb hh=>by have e:=bZ (us:=[_,_]) hh;subst e;exact (sS ⟨s,st,sy,_,fl,fc,fs,ta,tl,tc,ts⟩ y _).mono fun e w2 h=>⟨_,by rw [h.1,e1],rfl,h.2⟩) (aD rfl)) ?_
         refine aM 8 rfl (isV (.bool false)) (aH _) (jR (li:=[(49,_)]) rfl (aS rfl) ⟨aL 6 (aA rfl rfl rfl),trivial⟩ (fun w hw=>gU rfl) (rfl) (aD rfl)) (bD 9 rfl 50 7 rfl rfl rfl (fun w hw=>aZ rfl) rfl (aM 10 rfl (isV _) (aH _) (rgV (li:=[(4,_)]) rfl (bE 51 rfl (aA rfl rfl rfl)) ⟨bP rfl,trivial⟩ (fun w hw=>aZ rfl) (aD rfl)) (aM 11 rfl (isV (.bool false)) (aH _) (jR (li:=[(52,_)]) rfl (bE 51 rfl (aA rfl rfl rfl)) ⟨aL 9 (aA rfl rfl rfl),trivial⟩ (fun w hw=>Dx rfl rfl) (by rw [decide_eq_false (by omega)]) (aD rfl)) (aM 12 rfl (isV _) (aH _) (rgV (li:=[(53,_)]) rfl (bE 51 rfl (aA rfl rfl rfl)) ⟨aL 10 (aA rfl rfl rfl),trivial⟩ (fun w hw=>aZ rfl) (aD rfl)) (aM 13 rfl (isV undef) (aH _) (bJ rfl (bK 54 rfl (aA rfl rfl rfl) rfl) (aD rfl)) (aM 14 rfl (isV undef) (aH _) (bJ rfl (bK 54 rfl (aA rfl rfl rfl) rfl) (aD rfl)) (aM 15 rfl (isV undef) (aH _) (bJ rfl (bK 54 rfl (aA rfl rfl rfl) rfl) (aD rfl)) (aM 16 rfl (isV undef) (aH _) (bJ rfl (bK 54 rfl (aA rfl rfl rfl) rfl) (aD rfl)) (aM 17 rfl (isV undef) (aH _) (bJ rfl (bK 54 rfl (aA rfl rfl rfl) rfl) (aD rfl)) (aM 18 rfl (isV undef) (aH _) (bJ rfl (bK 54 rfl (aA rfl rfl rfl) rfl) (aD rfl)) (aM 19 rfl (isV undef) (aH _) (bJ rfl (bK 54 rfl (aA rfl rfl rfl) rfl) (aD rfl)) (aM 20 rfl (isV undef) (aH _) (bJ rfl (bK 54 rfl (aA rfl rfl rfl) rfl) (aD rfl)) (aM 21 rfl (isV undef) (aH _) (bJ rfl (bK 54 rfl (aA rfl rfl rfl) rfl) (aD rfl)) (aM 22 rfl (isV undef) (aH _) (bJ rfl (bK 54 rfl (aA rfl rfl rfl) rfl) (aD rfl)) (aM 23 rfl (isV undef) (aH _) (bJ rfl (bK 54 rfl (aA rfl rfl rfl) rfl) (aD rfl)) (aM 24 rfl (isV undef) (aH _) (bJ rfl (bK 54 rfl (aA rfl rfl rfl) rfl) (aD rfl)) (aM 25 rfl (isV _) (aH _) (rgV (li:=[(54,_)]) rfl (bE 51 rfl (aA rfl rfl rfl)) ⟨aL 11 (aA rfl rfl rfl),trivial⟩ (fun w hw=>dH rfl rfl) (aD rfl)) (aM 26 rfl (isV _) (aH _) (rgV (li:=[(51,_),(67,_)]) rfl (aS rfl) ⟨aL 8 (aA rfl rfl rfl),aL 24 (aA rfl rfl rfl),trivial⟩ (fun w hw=>dH rfl rfl) (aD rfl)) (dB ?_)))))))))))))))))))
         intro W4 hbR hS'
         clear hS;have hS:=hS';clear hS'
         refine aG (aG (aG (aG (aG (aG (aG (aG (aG (aG (aG (aG (aG (aG (aG (aG (aG (aG (aG (aG (aG (aG (aG (aG (aG (aG (cH (XF.thenN (F3 rfl (bH (XF.blkN (XF.thenN (aR ?_))))))))))))))))))))))))))))))))
         refine aI rfl rfl (cE rfl rfl (IntWalk.i64_in _ (by omega)) rfl (aB rfl rfl (aQ ?_)))
         exact XF.round (fl - (i+1)) [(1,_),(4,_)] (by omega) ⟨rfl,rfl,trivial⟩ ⟨i+1,by omega,rfl,rfl,C6 hall (vY hy e1 h9),hS.clear⟩
        ·obtain ⟨b2,off2,z,e2,hz,hzc⟩:=hfrow.at1 (show i - 1 < fs.length by omega)
         cases e2
         have k2:=hS.old hzc
         refine gP (m:=26) bY hS (by kernel_rfl) (by kernel_rfl) rfl (cB 1 rfl 1 rfl rfl (fun w hw=>bL (vs:=[_,_,_,_,_,_,_]) isAgg42 sizeOf42 rfl (aK.agree (aP hw 0) (Nat.zero_le _) (aK.own (j:=0) (m:=7) (hS.at_ 0 rfl) rfl))) rfl (cB 2 rfl 1 rfl rfl (fun w hw=>aV (o':=5) eB rfl rfl) rfl (bD 3 rfl 44 1 rfl rfl rfl (fun w hw=>aX isAgg30 rfl ((aP hw 0).cell (Nat.zero_le _) (aJ (hS.at_ 0 rfl) rfl))) rfl (cB 4 rfl 4 rfl rfl (fun w hw=>aZ rfl) rfl (aM 5 rfl (isV _) (aH _) (rgV (li:=[(45,_),(46,_)]) rfl (aS rfl) ⟨aL 2 (aA rfl rfl rfl),aL 3 (aA rfl rfl rfl),trivial⟩ (fun w hw=>bA  underlying30 sizeOf3 rfl rfl rfl (by omega) rfl) (aD rfl)) (bD 6 rfl 47 4 rfl rfl rfl (fun w hw=>aX isAgg3 rfl ((aP hw 0).cell (Nat.zero_le _) (k1))) rfl ?_))))))
         refine aM 7 rfl (isV (.bool true)) (aH _) (cP [isV _,isV _] rfl pL (aS rfl) ⟨cD (aL 0 (aA rfl rfl rfl)),cD (aL 5 (aA rfl rfl rfl)),trivial⟩ (fun vs w' hb hh=>by have e:=bZ (us:=[_,_]) hh;subst e;exact (sS ⟨s,st,sy,_,fl,fc,fs,ta,tl,tc,ts⟩ y _).mono fun e w2 h=>⟨_,by rw [h.1,e1],rfl,h.2⟩) (aD rfl)) ?_
         refine aM 8 rfl (isV (.bool false)) (aH _) (jR (li:=[(49,_)]) rfl (aS rfl) ⟨aL 6 (aA rfl rfl rfl),trivial⟩ (fun w hw=>gU rfl) (rfl) (aD rfl)) (bD 9 rfl 50 7 rfl rfl rfl (fun w hw=>aZ rfl) rfl (aM 10 rfl (isV _) (aH _) (rgV (li:=[(4,_)]) rfl (bE 51 rfl (aA rfl rfl rfl)) ⟨bP rfl,trivial⟩ (fun w hw=>aZ rfl) (aD rfl)) (aM 11 rfl (isV (.bool true)) (aH _) (jR (li:=[(52,_)]) rfl (bE 51 rfl (aA rfl rfl rfl)) ⟨aL 9 (aA rfl rfl rfl),trivial⟩ (fun w hw=>Dx rfl rfl) (by rw [decide_eq_true (by omega)]) (aD rfl)) (aM 12 rfl (isV _) (aH _) (rgV (li:=[(53,_)]) rfl (bE 51 rfl (aA rfl rfl rfl)) ⟨aL 10 (aA rfl rfl rfl),trivial⟩ (fun w hw=>aZ rfl) (aD rfl)) (aM 13 rfl (isV _) (aH _) (rgV (li:=[(1,_)]) rfl (bE 54 rfl (aA rfl rfl rfl)) ⟨bP rfl,trivial⟩ (fun w hw=>aV (o':=5) eB rfl rfl) (aD rfl)) (aM 14 rfl (isV _) (aH _) (rgV (li:=[(55,_)]) rfl (bE 54 rfl (aA rfl rfl rfl)) ⟨aL 12 (aA rfl rfl rfl),trivial⟩ (fun w hw=>aX isAgg30 rfl ((aP hw 0).cell (Nat.zero_le _) (aJ (hS.at_ 0 rfl) rfl))) (aD rfl)) (aM 15 rfl (isV _) (aH _) (rgV (li:=[(4,_)]) rfl (bE 54 rfl (aA rfl rfl rfl)) ⟨bP rfl,trivial⟩ (fun w hw=>aZ rfl) (aD rfl)) (aM 16 rfl (isV _) (aH _) (rgV (li:=[(56,_),(57,_)]) rfl (bE 54 rfl (aA rfl rfl rfl)) ⟨aL 13 (aA rfl rfl rfl),aL 14 (aA rfl rfl rfl),trivial⟩ (fun w hw=>bA  underlying30 sizeOf3 rfl rfl rfl (by omega) rfl) (aD rfl)) (aM 17 rfl (isV _) (aH _) (rgV (li:=[(58,_)]) rfl (bE 54 rfl (aA rfl rfl rfl)) ⟨aL 15 (aA rfl rfl rfl),trivial⟩ (fun w hw=>aX isAgg3 rfl ((aP hw 0).cell (Nat.zero_le _) (k1))) (aD rfl)) (aM 18 rfl (isV _) (aH _) (rgV (li:=[(1,_)]) rfl (bE 54 rfl (aA rfl rfl rfl)) ⟨bP rfl,trivial⟩ (fun w hw=>aV (o':=5) eB rfl rfl) (aD rfl)) (aM 19 rfl (isV _) (aH _) (rgV (li:=[(60,_)]) rfl (bE 54 rfl (aA rfl rfl rfl)) ⟨aL 17 (aA rfl rfl rfl),trivial⟩ (fun w hw=>aX isAgg30 rfl ((aP hw 0).cell (Nat.zero_le _) (aJ (hS.at_ 0 rfl) rfl))) (aD rfl)) (aM 20 rfl (isV _) (aH _) (rgV (li:=[(4,_)]) rfl (bE 54 rfl (aA rfl rfl rfl)) ⟨bP rfl,trivial⟩ (fun w hw=>aZ rfl) (aD rfl)) (aM 21 rfl (isV _) (aH _) (rgV (li:=[(62,_)]) rfl (bE 54 rfl (aA rfl rfl rfl)) ⟨aL 19 (aA rfl rfl rfl),trivial⟩ (fun w hw=>Jw rfl rfl (IntWalk.i64_in _ (by omega))) (aD rfl)) (aM 22 rfl (isV _) (aH _) (rgV (li:=[(61,_),(63,_)]) rfl (bE 54 rfl (aA rfl rfl rfl)) ⟨aL 18 (aA rfl rfl rfl),aL 20 (aA rfl rfl rfl),trivial⟩ (fun w hw=>bA (j:=(i - 1)) underlying30 sizeOf3 rfl rfl (by omega) (by omega) rfl) (aD rfl)) (aM 23 rfl (isV _) (aH _) (rgV (li:=[(64,_)]) rfl (bE 54 rfl (aA rfl rfl rfl)) ⟨aL 21 (aA rfl rfl rfl),trivial⟩ (fun w hw=>aX isAgg3 rfl ((aP hw 0).cell (Nat.zero_le _) (k2))) (aD rfl)) (aM 24 rfl (isV _) (aH _) (rgV (li:=[(59,_),(65,_)]) rfl (bE 54 rfl (aA rfl rfl rfl)) ⟨aL 16 (aA rfl rfl rfl),aL 22 (aA rfl rfl rfl),trivial⟩ (fun w hw=>Ju rfl rfl) (aD rfl)) (aM 25 rfl (isV _) (aH _) (rgV (li:=[(54,_),(66,_)]) rfl (bE 51 rfl (aA rfl rfl rfl)) ⟨aL 11 (aA rfl rfl rfl),aL 23 (aA rfl rfl rfl),trivial⟩ (fun w hw=>dG rfl rfl) (aD rfl)) (aM 26 rfl (isV _) (aH _) (rgV (li:=[(51,_),(67,_)]) rfl (aS rfl) ⟨aL 8 (aA rfl rfl rfl),aL 24 (aA rfl rfl rfl),trivial⟩ (fun w hw=>dH rfl rfl) (aD rfl)) (dB ?_)))))))))))))))))))
         intro W5 hbR hS'
         clear hS;have hS:=hS';clear hS'
         refine aG (aG (aG (aG (aG (aG (aG (aG (aG (aG (aG (aG (aG (aG (aG (aG (aG (aG (aG (aG (aG (aG (aG (aG (aG (aG (cH (XF.thenN (bC rfl (fun hc=>?_) (fun hc=>?_)))))))))))))))))))))))))))))
         ·have hc68:=hc;clear hc
          have hyz:=of_decide_eq_true hc68
          refine aO (aR (aB rfl rfl (aQ (XF.thenN (bM (XF.blkR (XF.thenR (XF.thenR (XF.blkR (XF.thenR (XF.res (bV results31 rfl) ?_)))))))))))
          exact ⟨cL (by unfold fM;dsimp only;rw [if_neg h0,if_neg h1,if_pos (by unfold fT;rw [if_neg h2,Hh (i:=i) (by omega) (by rw [sR hy hz e1 h9];exact decide_eq_false (by omega)),Bool.false_and])]),hS.below⟩
         ·have hc68:=hc;clear hc
          have hyz:=of_decide_eq_false hc68
          refine bH (XF.blkN (XF.thenN (aR (aI rfl rfl (cE rfl rfl (IntWalk.i64_in _ (by omega)) rfl (aB rfl rfl (aQ ?_)))))))
          exact XF.round (fl - (i+1)) [(1,_),(4,_)] (by omega) ⟨rfl,rfl,trivial⟩ ⟨i+1,by omega,rfl,rfl,C6 hall (by rw [sR hy hz e1 h9];exact decide_eq_true (by omega)),hS.clear⟩
       ·have hc40:=of_decide_eq_false hc;clear hc
        have hfb:Iz st fs=true:=Hg fun j hj=>hall j (by omega)
        refine cW (XF.thenX (XF.thenX (XF.blkX (XF.thenN (aO (aO (aR (aB rfl rfl (aQ (XF.thenN (bI (cX (fun m l W=>∃ i:Nat,i≤tl∧m=tl - i∧l=[(1,.pointer (some ⟨B1,0,none⟩)),(5,.int .i64 (i:Int))]∧(ts.take i).all (trB st sy)=true∧St w [(B1,[.int .i64 s.f.tag,.int .i64 s.f.dim,.slice s.f.a s.f.len s.f.cap,.int .i64 st,.int .i64 sy,.slice fa fl fc,.slice ta tl tc],42)] [] [] W) (tl - 0) ([(1,_),(5,_)]) ⟨rfl,rfl,trivial⟩ (⟨0,Nat.zero_le _,rfl,rfl,rfl,hS.clear⟩) ?_))))))))))))
        clear hS
        rintro m l W ⟨i,hi,rfl,rfl,hall,hS⟩
        refine aO (aO (aR (aI rfl rfl (aN (o':=6) dA rfl rfl rfl (aT isAgg40 rfl (aJ (hS.at_ 0 rfl) rfl) rfl (bX underlying40 rfl rfl (cC rfl rfl rfl (aQ (XF.thenN (bC rfl (fun hc=>?_) (fun hc=>?_)))))))))))
        ·have hc73:=of_decide_eq_true hc;clear hc
         have hk:i < tl:=by omega
         obtain ⟨r,hr⟩:∃ r,ts[i]?=some r:=⟨ts[i]'(by omega),by simp [show i < ts.length by omega]⟩
         obtain ⟨b,off,rfl,hcs⟩:=htrow.at_ hr
         have k1:=aK.agree hS.agree (Nat.zero_le _) hcs
         have hri:=htin r (List.mem_of_getElem? hr)
         refine bH (XF.thenN (aO (bI (aO (aR (aN (o':=6) dA rfl rfl rfl (aT isAgg40 rfl (aJ (hS.at_ 0 rfl) rfl) rfl (aI rfl rfl (cJ  underlying40 sizeOf67 rfl rfl rfl (by omega) rfl rfl (aU (vs:=[_,_,_,_,_,_,_,_,_]) isAgg67 sizeOf67 rfl (k1) rfl (bU (cs:=[_,_,_,_,_,_,_,_,_]) hS zeroValue67 rfl rfl fun B6 W6 hS=>bB (i:=0) (vs:=[_,_,_,_,_,_,_,_,_]) (cs':=[_,_,_,_,_,_,_,_,_]) (O':=[_,_]) hS sizeOf67 rfl rfl rfl rfl rfl rfl rfl fun W7 hS=>aQ (XF.thenN (aO (aR (aU (vs:=[_,_,_,_,_,_,_]) isAgg42 sizeOf42 rfl (aK.own (j:=0) (m:=7) (hS.at_ 1 rfl) rfl) rfl (aN (o':=0) pK rfl rfl rfl (aT isAgg3 rfl (aJ (hS.at_ 0 rfl) rfl) rfl (bT (vs:=[_,_]) hS pL rfl (sS ⟨s,st,sy,fa,fl,fc,fs,_,tl,tc,ts⟩ r.f _) rfl fun W8 hS=>dV rfl rfl (aI rfl rfl (bG (d:=86) rfl (fun hc=>?_) (fun hc=>?_)))))))))))))))))))))
         ·have hg86:=hc;clear hc
          have e1:inQ r.f st=false:=by simpa using hg86
          refine aF (d:=86) rfl rfl rfl rfl (aF (d:=86) rfl rfl rfl rfl (aF (d:=86) rfl rfl rfl rfl (aF (d:=86) rfl rfl rfl rfl (aF (d:=86) rfl rfl rfl rfl (aY rfl rfl rfl (aI rfl rfl (aF (d:=93) rfl rfl rfl rfl (aF (d:=93) rfl rfl rfl rfl (aF (d:=93) rfl rfl rfl rfl (aY rfl rfl rfl (aI rfl rfl (aF (d:=98) rfl rfl rfl rfl (aF (d:=98) rfl rfl rfl rfl (aF (d:=98) rfl rfl rfl rfl (aF (d:=98) rfl rfl rfl rfl (aF (d:=98) rfl rfl rfl rfl (aY rfl rfl rfl (aQ (XF.thenN (cU rfl (aO (aR (aB rfl rfl (aQ (XF.thenN (bM (XF.blkR (XF.thenR (XF.thenR (XF.blkR (XF.thenR (XF.res (bV results31 rfl) ?_))))))))))))))))))))))))))))))))
          exact ⟨cL (by unfold fM;dsimp only;rw [if_neg h0,if_neg h1,if_pos (by unfold fT;rw [if_neg h2,cF hr (by simp [trB,e1]),Bool.and_false])]),hS.below⟩
         ·have hg86:=hc;clear hc
          have e1:inQ r.f st=true:=by simpa using hg86
          refine aC (d:=86) rfl rfl (aU (vs:=[_,_,_,_,_,_,_]) isAgg42 sizeOf42 rfl (aK.own (j:=0) (m:=7) (hS.at_ 1 rfl) rfl) rfl (aC (d:=86) rfl rfl (aN (o':=2) rU rfl rfl rfl (aC (d:=86) rfl rfl (aT isAgg3 rfl (aJ (hS.at_ 0 rfl) rfl) rfl (aC (d:=86) rfl rfl (bT (vs:=[_,_]) hS pL rfl (sS ⟨s,st,sy,fa,fl,fc,fs,_,tl,tc,ts⟩ r.t _) rfl fun W9 hS=>aC (d:=86) rfl rfl (dV rfl rfl (bN rfl rfl rfl (aI rfl rfl (bG (d:=93) rfl (fun hc=>?_) (fun hc=>?_))))))))))))
          ·have hg93:=hc;clear hc
           have e3:inQ r.t st=false:=by simpa using hg93
           refine aF (d:=93) rfl rfl rfl rfl (aF (d:=93) rfl rfl rfl rfl (aF (d:=93) rfl rfl rfl rfl (aY rfl rfl rfl (aI rfl rfl (aF (d:=98) rfl rfl rfl rfl (aF (d:=98) rfl rfl rfl rfl (aF (d:=98) rfl rfl rfl rfl (aF (d:=98) rfl rfl rfl rfl (aF (d:=98) rfl rfl rfl rfl (aY rfl rfl rfl (aQ (XF.thenN (cU rfl (aO (aR (aB rfl rfl (aQ (XF.thenN (bM (XF.blkR (XF.thenR (XF.thenR (XF.blkR (XF.thenR (XF.res (bV results31 rfl) ?_)))))))))))))))))))))))))
           exact ⟨cL (by unfold fM;dsimp only;rw [if_neg h0,if_neg h1,if_pos (by unfold fT;rw [if_neg h2,cF hr (by simp [trB,e3]),Bool.and_false])]),hS.below⟩
          ·have hg93:=hc;clear hc
           have e3:inQ r.t st=true:=by simpa using hg93
           refine aC (d:=93) rfl rfl (aN (o':=1) kA rfl rfl rfl (aC (d:=93) rfl rfl (aT isAgg3 rfl (aJ (hS.at_ 0 rfl) rfl) rfl (aC (d:=93) rfl rfl (cC rfl rfl rfl (bN rfl rfl rfl (aI rfl rfl (bG (d:=98) rfl (fun hc=>?_) (fun hc=>?_)))))))))
           ·have hg98:=of_decide_eq_true hc;clear hc
            refine aF (d:=98) rfl rfl rfl rfl (aF (d:=98) rfl rfl rfl rfl (aF (d:=98) rfl rfl rfl rfl (aF (d:=98) rfl rfl rfl rfl (aF (d:=98) rfl rfl rfl rfl (aY rfl rfl rfl (aQ (XF.thenN (cU rfl (aO (aR (aB rfl rfl (aQ (XF.thenN (bM (XF.blkR (XF.thenR (XF.thenR (XF.blkR (XF.thenR (XF.res (bV results31 rfl) ?_))))))))))))))))))))
            exact ⟨cL (by unfold fM;dsimp only;rw [if_neg h0,if_neg h1,if_pos (by unfold fT;rw [if_neg h2,cF hr (by simp [trB,show ¬ (-1≤r.g) by omega]),Bool.and_false])]),hS.below⟩
           ·have hg98:=of_decide_eq_false hc;clear hc
            refine aC (d:=98) rfl rfl (aN (o':=1) kA rfl rfl rfl (aC (d:=98) rfl rfl (aT isAgg3 rfl (aJ (hS.at_ 0 rfl) rfl) rfl (aC (d:=98) rfl rfl (aN (o':=4) nG rfl rfl rfl (aC (d:=98) rfl rfl (aT isAgg3 rfl (aJ (hS.at_ 1 rfl) rfl) rfl (aC (d:=98) rfl rfl (gV rfl rfl rfl (bN rfl rfl rfl (aQ (XF.thenN (bC rfl (fun hc=>?_) (fun hc=>?_))))))))))))))
            ·have hc104:=of_decide_eq_true hc;clear hc
             refine aO (aR (aB rfl rfl (aQ (XF.thenN (bM (XF.blkR (XF.thenR (XF.thenR (XF.blkR (XF.thenR (XF.res (bV results31 rfl) ?_)))))))))))
             exact ⟨cL (by unfold fM;dsimp only;rw [if_neg h0,if_neg h1,if_pos (by unfold fT;rw [if_neg h2,cF hr (by simp [trB,show ¬ (r.g < sy) by omega]),Bool.and_false])]),hS.below⟩
            ·have hc104:=of_decide_eq_false hc;clear hc
             refine bH (XF.blkN (XF.thenN (aR (aI rfl rfl (cE rfl rfl (IntWalk.i64_in _ (by omega)) rfl (aB rfl rfl (aQ ?_)))))))
             exact XF.round (tl - (i+1)) [(1,_),(5,_)] (by omega) ⟨rfl,rfl,trivial⟩ ⟨i+1,by omega,rfl,rfl,cQ hr hall (by simp only [trB,e1,e3,Bool.true_and];rw [decide_eq_true (show -1≤r.g by omega),decide_eq_true (show r.g < sy by omega)];rfl),hS.tail.clear⟩
        ·have hc73:=of_decide_eq_false hc;clear hc
         rw [List.take_of_length_le (by omega)] at hall
         have h3:¬ fT st sy fs ts=false:=by unfold fT;rw [if_neg h2,hfb,hall];decide
         refine cW (XF.thenX (XF.thenX (XF.blkX (XF.thenN (aO (aO (aR (aB rfl rfl (aQ (XF.thenN (bI (cX (fun m l W=>∃ i:Nat,i≤tl∧m=tl - i∧l=[(1,.pointer (some ⟨B1,0,none⟩)),(7,.int .i64 (i:Int))]∧(ts.take i).all (fun t=>decide (iR s t.x=0))=true∧St w [(B1,[.int .i64 s.f.tag,.int .i64 s.f.dim,.slice s.f.a s.f.len s.f.cap,.int .i64 st,.int .i64 sy,.slice fa fl fc,.slice ta tl tc],42)] [] [] W) (tl - 0) ([(1,_),(7,_)]) ⟨rfl,rfl,trivial⟩ (⟨0,Nat.zero_le _,rfl,rfl,rfl,hS.clear⟩) ?_))))))))))))
         clear hS
         rintro m l W ⟨i,hi,rfl,rfl,hall2,hS⟩
         refine aO (aO (aR (aI rfl rfl (aN (o':=6) dA rfl rfl rfl (aT isAgg40 rfl (aJ (hS.at_ 0 rfl) rfl) rfl (bX underlying40 rfl rfl (cC rfl rfl rfl (aQ (XF.thenN (bC rfl (fun hc=>?_) (fun hc=>?_)))))))))))
         ·have hc109:=of_decide_eq_true hc;clear hc
          have hk:i < tl:=by omega
          obtain ⟨r,hr⟩:∃ r,ts[i]?=some r:=⟨ts[i]'(by omega),by simp [show i < ts.length by omega]⟩
          obtain ⟨b,off,rfl,hcs⟩:=htrow.at_ hr
          have k1:=aK.agree hS.agree (Nat.zero_le _) hcs
          have hri:=htin r (List.mem_of_getElem? hr)
          have k2:aK W b (off+i * 9+3) r.x.f.six:=k1.2.2.2
          refine bH (XF.thenN (aO (bI (aO (gP (m:=10) bY hS (by kernel_rfl) (by kernel_rfl) rfl (cB 1 rfl 1 rfl rfl (fun w hw=>aV (o':=0) jL rfl rfl) rfl (bD 2 rfl 112 0 rfl rfl rfl (fun w hw=>bL (vs:=[_,_,_]) isAgg25 sizeOf25 rfl (aK.agree (aP hw 0) (Nat.zero_le _) (aK.own (j:=0) (m:=3) (hS.at_ 0 rfl) rfl))) rfl (cB 3 rfl 1 rfl rfl (fun w hw=>aV (o':=6) dA rfl rfl) rfl (bD 4 rfl 114 2 rfl rfl rfl (fun w hw=>aX isAgg40 rfl ((aP hw 0).cell (Nat.zero_le _) (aJ (hS.at_ 0 rfl) rfl))) rfl (cB 5 rfl 7 rfl rfl (fun w hw=>aZ rfl) rfl (aM 6 rfl (isV _) (aH _) (rgV (li:=[(115,_),(116,_)]) rfl (aS rfl) ⟨aL 3 (aA rfl rfl rfl),aL 4 (aA rfl rfl rfl),trivial⟩ (fun w hw=>bA  underlying40 sizeOf67 rfl rfl rfl (by omega) rfl) (aD rfl)) (bD 7 rfl 117 5 rfl rfl rfl (fun w hw=>aV uS rfl rfl) rfl (bD 8 rfl 118 6 rfl rfl rfl (fun w hw=>bL (vs:=[_,_,_,_,_,_]) isAgg56 sizeOf56 rfl (aK.agree (aP hw 0) (Nat.zero_le _) (k2))) rfl ?_)))))))))))))
          refine aM 9 rfl (isV (.int .i64 (iR s r.x))) (aH _) (cP [isV _,isV _] rfl Ga (aS rfl) ⟨cD (aL 1 (aA rfl rfl rfl)),cD (aL 7 (aA rfl rfl rfl)),trivial⟩ (fun vs w' hb hh=>by have e:=bZ (us:=[_,_]) hh;subst e;exact (tK ds d s r.x _ (SIn.below (hS.below.trans (hb.mono hS.below.size)) hs) (WIn.below (hS.below.trans (hb.mono hS.below.size)) hri)).mono fun e w2 h=>⟨_,h.1,rfl,h.2⟩) (aD rfl)) ?_
          refine bD 10 rfl 120 8 rfl rfl rfl (fun w hw=>zA rfl rfl) rfl (dB ?_)
          intro W10 hbR hS'
          clear hS;have hS:=hS';clear hS'
          refine aG (aG (aG (aG (aG (aG (aG (aG (aG (aG (cH (XF.thenN (bC rfl (fun hc=>?_) (fun hc=>?_)))))))))))))
          ·have hc121:=hc;clear hc
           refine aO (aR (aB rfl rfl (aQ (XF.thenN (bM (XF.blkR (XF.thenR (XF.thenR (XF.blkR (XF.thenR (XF.res (bV results31 rfl) ?_)))))))))))
           exact ⟨cL (by unfold fM;dsimp only;rw [if_neg h0,if_neg h1,if_neg h3,if_neg (by rw [cF hr (decide_eq_false (by simpa using hc121))];decide)]),hS.below⟩
          ·have hc121:=hc;clear hc
           refine bH (XF.blkN (XF.thenN (aR (aI rfl rfl (cE rfl rfl (IntWalk.i64_in _ (by omega)) rfl (aB rfl rfl (aQ ?_)))))))
           exact XF.round (tl - (i+1)) [(1,_),(7,_)] (by omega) ⟨rfl,rfl,trivial⟩ ⟨i+1,by omega,rfl,rfl,cQ hr hall2 (by simpa using hc121),hS.clear⟩
         ·have hc109:=of_decide_eq_false hc;clear hc
          rw [List.take_of_length_le (by omega)] at hall2
          refine cW (XF.thenX (XF.thenX (XF.blkX (XF.thenN (aO (aR (aB rfl rfl (aQ (XF.thenN (bM (XF.res (bV results31 rfl) ?_)))))))))))
          exact ⟨cL (by unfold fM;dsimp only;rw [if_neg h0,if_neg h1,if_neg h3,if_pos hall2]),hS.below⟩
theorem C7 (ds d:Nat) (a:AV) (w:World) (h:AIn w ds d a):Calls prog 31 #[a.val] w (fun e w'=>e = .returned (.int .i64 (fM a))∧Below w.heap.size w w'):=autoR_c ds d _ _ _ _ _ _ _ _ _ _ _ w h.s h.frow h.flen h.trow h.tlen h.tin h.fmax h.tmax
theorem Hl:bW prog 31=true:=by kernel_rfl
theorem Mh (ds2 d2:Nat) (p:PV) (S T:PS) (q:Bool) (ds d:Nat) (s:SV) (st sy:Int) (fa:Option Addr) (fl fc:Nat) (fs:List Int) (ta:Option Addr) (tl tc:Nat) (ts:List TV) (w:World) (hs:SIn w ds s) (hfrow:Row w fa fs) (hflen:fs.length=fl) (htrow:qT w ta ts) (htlen:ts.length=tl) (htin:∀ t∈ts,WIn w d t.x) (hfm:fl≤9223372036854775807) (htm:tl≤9223372036854775807) (hp:PvIn w ds2 d2 p) (hSS:dX p=0→SIs w S p.s.f) (hTT:dD s=0→SIs w T s.f) (hq:q=true↔S=T) :
  Calls prog 14 #[p.val,.agg #[.int .i64 s.f.tag,.int .i64 s.f.dim,.slice s.f.a s.f.len s.f.cap,.int .i64 st,.int .i64 sy,.slice fa fl fc,.slice ta tl tc]] w (fun e w'=>e = .returned (.int .i64 (jT p ⟨s,st,sy,fa,fl,fc,fs,ta,tl,tc,ts⟩ q))∧Below w.heap.size w w'):=by
 refine cG (args:=[p.val,.agg #[.int .i64 s.f.tag,.int .i64 s.f.dim,.slice s.f.a s.f.len s.f.cap,.int .i64 st,.int .i64 sy,.slice fa fl fc,.slice ta tl tc]]) func14 rfl ntmps14 rfl ?_
 have hS:=St.start w
 refine aO (aR (bQ (cs:=[_,_,_,_,_,_]) hS rfl rfl rfl fun B1 W1 hS=>bQ (cs:=[_,_,_,_,_,_,_]) hS rfl rfl rfl fun B2 W2 hS=>aB rfl rfl (aQ (XF.thenN (aO (aR (aU (vs:=[_,_,_,_,_,_]) isAgg28 sizeOf28 rfl (aK.own (j:=0) (m:=6) (hS.at_ 1 rfl) rfl) rfl (bT (vs:=[_]) hS zL rfl (Am ds2 d2 p _ (hp.below hS.below)) rfl fun W3 hS=>aB rfl rfl (aQ (XF.thenN (aO (aO (aR (aI rfl rfl (cN rfl rfl rfl (aQ (XF.thenN (bC rfl (fun hc=>?_) (fun hc=>?_)))))))))))))))))))
 ·have hc11:=of_decide_eq_true hc;clear hc
  refine aO (aR (aI rfl rfl (aB rfl rfl (aQ (XF.thenN (bM (XF.thenR (XF.res (bV results14 rfl) ?_))))))))
  exact ⟨cL (by unfold jT;rw [if_pos hc11]),hS.below⟩
 ·have hc11:=of_decide_eq_false hc;clear hc
  have h0:¬ dX p≠0:=hc11
  have hp0:dX p=0:=by omega
  refine bH (XF.thenN (aO (aR (aU (vs:=[_,_,_,_,_,_,_]) isAgg42 sizeOf42 rfl (aK.own (j:=0) (m:=7) (hS.at_ 0 rfl) rfl) rfl (bT (vs:=[_]) hS Hl rfl (C7 ds d ⟨s,st,sy,fa,fl,fc,fs,ta,tl,tc,ts⟩ _ (AIn.below ⟨hs,hfrow,hflen,htrow,htlen,htin,hfm,htm⟩ hS.below)) rfl fun W4 hS=>aB rfl rfl (aQ (XF.thenN (aO (aO (aR (aI rfl rfl (cN rfl rfl rfl (aQ (XF.thenN (bC rfl (fun hc=>?_) (fun hc=>?_))))))))))))))))
  ·have hc16:=of_decide_eq_true hc;clear hc
   refine aO (aR (aI rfl rfl (aB rfl rfl (aQ (XF.thenN (bM (XF.thenR (XF.res (bV results14 rfl) ?_))))))))
   exact ⟨cL (by unfold jT;rw [if_neg h0,if_pos hc16]),hS.below⟩
  ·have hc16:=of_decide_eq_false hc;clear hc
   have h1:¬ fM ⟨s,st,sy,fa,fl,fc,fs,ta,tl,tc,ts⟩≠0:=hc16
   have hse:dD s=0:=by
    have h9:fM ⟨s,st,sy,fa,fl,fc,fs,ta,tl,tc,ts⟩=0:=by omega
    unfold fM at h9
    by_cases h8:dD s≠0
    ·rw [if_pos h8] at h9;exact absurd h9 h8
    ·omega
   refine bH (XF.thenN (aO (aO (aR (aN (o':=0) iJ rfl rfl rfl (aU (vs:=[_,_,_]) isAgg25 sizeOf25 rfl (aK.own (j:=0) (m:=3) (hS.at_ 1 rfl) rfl) rfl (aN (o':=0) jL rfl rfl rfl (aU (vs:=[_,_,_]) isAgg25 sizeOf25 rfl (aK.own (j:=0) (m:=3) (hS.at_ 0 rfl) rfl) rfl (bT (vs:=[_,_]) hS zF rfl (Mf ((hSS hp0).below hS.below) ((hTT hse).below hS.below) q hq) rfl fun W5 hS=>dV rfl rfl (aI rfl rfl (bG (d:=24) rfl (fun hc=>?_) (fun hc=>?_))))))))))))
   ·have hg24:=hc;clear hc
    have e1:q=false:=by simpa using hg24
    refine aF (d:=24) rfl rfl rfl rfl (aF (d:=24) rfl rfl rfl rfl (aF (d:=24) rfl rfl rfl rfl (aF (d:=24) rfl rfl rfl rfl (aF (d:=24) rfl rfl rfl rfl (aY rfl rfl rfl (aI rfl rfl (aF (d:=31) rfl rfl rfl rfl (aF (d:=31) rfl rfl rfl rfl (aF (d:=31) rfl rfl rfl rfl (aF (d:=31) rfl rfl rfl rfl (aF (d:=31) rfl rfl rfl rfl (aY rfl rfl rfl (aQ (XF.thenN (cU rfl (aO (aR (aB rfl rfl (aQ (XF.thenN (bM (XF.thenR (XF.res (bV results14 rfl) ?_)))))))))))))))))))))))
    exact ⟨cL (by unfold jT;rw [if_neg h0,if_neg h1,if_pos (Or.inl e1)]),hS.below⟩
   ·have hg24:=hc;clear hc
    have e1:q=true:=by simpa using hg24
    refine aC (d:=24) rfl rfl (aN (o':=4) nG rfl rfl rfl (aC (d:=24) rfl rfl (aT isAgg3 rfl (aJ (hS.at_ 0 rfl) rfl) rfl (aC (d:=24) rfl rfl (aN (o':=4) eE rfl rfl rfl (aC (d:=24) rfl rfl (aT isAgg3 rfl (aJ (hS.at_ 1 rfl) rfl) rfl (aC (d:=24) rfl rfl (cN rfl rfl rfl (bN rfl rfl rfl (aI rfl rfl (bG (d:=31) rfl (fun hc=>?_) (fun hc=>?_)))))))))))))
    ·have hg31:=of_decide_eq_true hc;clear hc
     refine aF (d:=31) rfl rfl rfl rfl (aF (d:=31) rfl rfl rfl rfl (aF (d:=31) rfl rfl rfl rfl (aF (d:=31) rfl rfl rfl rfl (aF (d:=31) rfl rfl rfl rfl (aY rfl rfl rfl (aQ (XF.thenN (cU rfl (aO (aR (aB rfl rfl (aQ (XF.thenN (bM (XF.thenR (XF.res (bV results14 rfl) ?_))))))))))))))))
     exact ⟨cL (by unfold jT;rw [if_neg h0,if_neg h1,if_pos (Or.inr (Or.inl hg31))]),hS.below⟩
    ·have hg31:=of_decide_eq_false hc;clear hc
     refine aC (d:=31) rfl rfl (aN (o':=3) dO rfl rfl rfl (aC (d:=31) rfl rfl (aT isAgg3 rfl (aJ (hS.at_ 0 rfl) rfl) rfl (aC (d:=31) rfl rfl (aN (o':=3) eT rfl rfl rfl (aC (d:=31) rfl rfl (aT isAgg3 rfl (aJ (hS.at_ 1 rfl) rfl) rfl (aC (d:=31) rfl rfl (cC rfl rfl rfl (bN rfl rfl rfl (aQ (XF.thenN (bC rfl (fun hc=>?_) (fun hc=>?_))))))))))))))
     ·have hc37:=of_decide_eq_true hc;clear hc
      refine aO (aR (aB rfl rfl (aQ (XF.thenN (bM (XF.thenR (XF.res (bV results14 rfl) ?_)))))))
      exact ⟨cL (by unfold jT;rw [if_neg h0,if_neg h1,if_pos (Or.inr (Or.inr hc37))]),hS.below⟩
     ·have hc37:=of_decide_eq_false hc;clear hc
      have h3:¬ (q=false∨sy≠p.sy∨st < p.st):=by rw [e1];simp;omega
      refine bH (XF.thenN (aO (aO (aR (aB rfl rfl (aQ (XF.thenN (bI (cX (fun m l W=>∃ i:Nat,i≤tl∧m=tl - i∧l=[(2,.pointer (some ⟨B1,0,none⟩)),(3,.pointer (some ⟨B2,0,none⟩)),(7,.int .i64 (i:Int))]∧(ts.take i).all (I1 p.st)=true∧St w [(B2,[.int .i64 s.f.tag,.int .i64 s.f.dim,.slice s.f.a s.f.len s.f.cap,.int .i64 st,.int .i64 sy,.slice fa fl fc,.slice ta tl tc],42),(B1,p.six,28)] [] [] W) (tl - 0) ([(2,_),(3,_),(7,_)]) ⟨rfl,rfl,rfl,trivial⟩ (⟨0,Nat.zero_le _,rfl,rfl,rfl,hS.clear⟩) ?_)))))))))
      clear hS
      rintro m l W ⟨i,hi,rfl,rfl,hall,hS⟩
      refine aO (aO (aR (aI rfl rfl (aN (o':=6) dA rfl rfl rfl (aT isAgg40 rfl (aJ (hS.at_ 0 rfl) rfl) rfl (bX underlying40 rfl rfl (cC rfl rfl rfl (aQ (XF.thenN (bC rfl (fun hc=>?_) (fun hc=>?_)))))))))))
      ·have hc42:=of_decide_eq_true hc;clear hc
       have hk:i < tl:=by omega
       obtain ⟨r,hr⟩:∃ r,ts[i]?=some r:=⟨ts[i]'(by omega),by simp [show i < ts.length by omega]⟩
       obtain ⟨b,off,rfl,hcs⟩:=htrow.at_ hr
       have k1:=aK.agree hS.agree (Nat.zero_le _) hcs
       have hri:=htin r (List.mem_of_getElem? hr)
       refine bH (XF.thenN (aO (bI (aO ?_))))
       by_cases hg0:r.g < 0
       ·skip
        refine gP (m:=18) bY hS (by kernel_rfl) (by kernel_rfl) rfl (cB 1 rfl 3 rfl rfl (fun w hw=>aV (o':=6) dA rfl rfl) rfl (bD 2 rfl 45 0 rfl rfl rfl (fun w hw=>aX isAgg40 rfl ((aP hw 0).cell (Nat.zero_le _) (aJ (hS.at_ 0 rfl) rfl))) rfl (cB 3 rfl 7 rfl rfl (fun w hw=>aZ rfl) rfl (aM 4 rfl (isV _) (aH _) (rgV (li:=[(46,_),(47,_)]) rfl (aS rfl) ⟨aL 1 (aA rfl rfl rfl),aL 2 (aA rfl rfl rfl),trivial⟩ (fun w hw=>bA  underlying40 sizeOf67 rfl rfl rfl (by omega) rfl) (aD rfl)) (bD 5 rfl 48 3 rfl rfl rfl (fun w hw=>aV kA rfl rfl) rfl (bD 6 rfl 49 4 rfl rfl rfl (fun w hw=>aX isAgg3 rfl ((aP hw 0).cell (Nat.zero_le _) (k1.2.1))) rfl (aM 7 rfl (isV (.bool true)) (aH _) (jR (li:=[(50,_)]) rfl (aS rfl) ⟨aL 5 (aA rfl rfl rfl),trivial⟩ (fun w hw=>nX rfl rfl) (by rw [decide_eq_true hg0]) (aD rfl)) (bD 8 rfl 51 6 rfl rfl rfl (fun w hw=>aZ rfl) rfl (aM 9 rfl (isV undef) (aH _) (bJ rfl (bK 52 rfl (aA rfl rfl rfl) rfl) (aD rfl)) (aM 10 rfl (isV undef) (aH _) (bJ rfl (bK 52 rfl (aA rfl rfl rfl) rfl) (aD rfl)) (aM 11 rfl (isV undef) (aH _) (bJ rfl (bK 52 rfl (aA rfl rfl rfl) rfl) (aD rfl)) (aM 12 rfl (isV undef) (aH _) (bJ rfl (bK 52 rfl (aA rfl rfl rfl) rfl) (aD rfl)) (aM 13 rfl (isV undef) (aH _) (bJ rfl (bK 52 rfl (aA rfl rfl rfl) rfl) (aD rfl)) (aM 14 rfl (isV undef) (aH _) (bJ rfl (bK 52 rfl (aA rfl rfl rfl) rfl) (aD rfl)) (aM 15 rfl (isV undef) (aH _) (bJ rfl (bK 52 rfl (aA rfl rfl rfl) rfl) (aD rfl)) (aM 16 rfl (isV undef) (aH _) (bJ rfl (bK 52 rfl (aA rfl rfl rfl) rfl) (aD rfl)) (aM 17 rfl (isV undef) (aH _) (bJ rfl (bK 52 rfl (aA rfl rfl rfl) rfl) (aD rfl)) (bD 18 rfl 52 7 rfl rfl rfl (fun w hw=>dG rfl rfl) rfl (dB ?_)))))))))))))))))))
        intro W6 hbR hS'
        clear hS;have hS:=hS';clear hS'
        refine aG (aG (aG (aG (aG (aG (aG (aG (aG (aG (aG (aG (aG (aG (aG (aG (aG (aG (cH (XF.thenN (cU rfl (aO (aR (aB rfl rfl (aQ (XF.thenN (bM (XF.blkR (XF.thenR (XF.thenR (XF.blkR (XF.thenR (XF.res (bV results14 rfl) ?_))))))))))))))))))))))))))))))))
        exact ⟨cL (by unfold jT;rw [if_neg h0,if_neg h1,if_neg h3,if_neg (by rw [cF hr (by simp [I1];omega)];decide)]),hS.below⟩
       ·skip
        refine gP (m:=18) bY hS (by kernel_rfl) (by kernel_rfl) rfl (cB 1 rfl 3 rfl rfl (fun w hw=>aV (o':=6) dA rfl rfl) rfl (bD 2 rfl 45 0 rfl rfl rfl (fun w hw=>aX isAgg40 rfl ((aP hw 0).cell (Nat.zero_le _) (aJ (hS.at_ 0 rfl) rfl))) rfl (cB 3 rfl 7 rfl rfl (fun w hw=>aZ rfl) rfl (aM 4 rfl (isV _) (aH _) (rgV (li:=[(46,_),(47,_)]) rfl (aS rfl) ⟨aL 1 (aA rfl rfl rfl),aL 2 (aA rfl rfl rfl),trivial⟩ (fun w hw=>bA  underlying40 sizeOf67 rfl rfl rfl (by omega) rfl) (aD rfl)) (bD 5 rfl 48 3 rfl rfl rfl (fun w hw=>aV kA rfl rfl) rfl (bD 6 rfl 49 4 rfl rfl rfl (fun w hw=>aX isAgg3 rfl ((aP hw 0).cell (Nat.zero_le _) (k1.2.1))) rfl (aM 7 rfl (isV (.bool false)) (aH _) (jR (li:=[(50,_)]) rfl (aS rfl) ⟨aL 5 (aA rfl rfl rfl),trivial⟩ (fun w hw=>nX rfl rfl) (by rw [decide_eq_false hg0]) (aD rfl)) (bD 8 rfl 51 6 rfl rfl rfl (fun w hw=>aZ rfl) rfl (aM 9 rfl (isV _) (aH _) (rgV (li:=[(3,_)]) rfl (bE 52 rfl (aA rfl rfl rfl)) ⟨bP rfl,trivial⟩ (fun w hw=>aV (o':=6) dA rfl rfl) (aD rfl)) (aM 10 rfl (isV _) (aH _) (rgV (li:=[(53,_)]) rfl (bE 52 rfl (aA rfl rfl rfl)) ⟨aL 8 (aA rfl rfl rfl),trivial⟩ (fun w hw=>aX isAgg40 rfl ((aP hw 0).cell (Nat.zero_le _) (aJ (hS.at_ 0 rfl) rfl))) (aD rfl)) (aM 11 rfl (isV _) (aH _) (rgV (li:=[(7,_)]) rfl (bE 52 rfl (aA rfl rfl rfl)) ⟨bP rfl,trivial⟩ (fun w hw=>aZ rfl) (aD rfl)) (aM 12 rfl (isV _) (aH _) (rgV (li:=[(54,_),(55,_)]) rfl (bE 52 rfl (aA rfl rfl rfl)) ⟨aL 9 (aA rfl rfl rfl),aL 10 (aA rfl rfl rfl),trivial⟩ (fun w hw=>bA  underlying40 sizeOf67 rfl rfl rfl (by omega) rfl) (aD rfl)) (aM 13 rfl (isV _) (aH _) (rgV (li:=[(56,_)]) rfl (bE 52 rfl (aA rfl rfl rfl)) ⟨aL 11 (aA rfl rfl rfl),trivial⟩ (fun w hw=>aV rU rfl rfl) (aD rfl)) (aM 14 rfl (isV _) (aH _) (rgV (li:=[(57,_)]) rfl (bE 52 rfl (aA rfl rfl rfl)) ⟨aL 12 (aA rfl rfl rfl),trivial⟩ (fun w hw=>aX isAgg3 rfl ((aP hw 0).cell (Nat.zero_le _) (k1.2.2.1))) (aD rfl)) (aM 15 rfl (isV _) (aH _) (rgV (li:=[(2,_)]) rfl (bE 52 rfl (aA rfl rfl rfl)) ⟨bP rfl,trivial⟩ (fun w hw=>aV (o':=3) eT rfl rfl) (aD rfl)) (aM 16 rfl (isV _) (aH _) (rgV (li:=[(59,_)]) rfl (bE 52 rfl (aA rfl rfl rfl)) ⟨aL 14 (aA rfl rfl rfl),trivial⟩ (fun w hw=>aX isAgg3 rfl ((aP hw 0).cell (Nat.zero_le _) (aJ (hS.at_ 1 rfl) rfl))) (aD rfl)) (aM 17 rfl (isV _) (aH _) (rgV (li:=[(58,_),(60,_)]) rfl (bE 52 rfl (aA rfl rfl rfl)) ⟨aL 13 (aA rfl rfl rfl),aL 15 (aA rfl rfl rfl),trivial⟩ (fun w hw=>nX rfl rfl) (aD rfl)) (aM 18 rfl (isV _) (aH _) (rgV (li:=[(52,_),(61,_)]) rfl (aS rfl) ⟨aL 7 (aA rfl rfl rfl),aL 16 (aA rfl rfl rfl),trivial⟩ (fun w hw=>dH rfl rfl) (aD rfl)) (dB ?_)))))))))))))))))))
        intro W7 hbR hS'
        clear hS;have hS:=hS';clear hS'
        refine aG (aG (aG (aG (aG (aG (aG (aG (aG (aG (aG (aG (aG (aG (aG (aG (aG (aG (cH (XF.thenN (bC rfl (fun hc=>?_) (fun hc=>?_)))))))))))))))))))))
        ·have hc62:=hc;clear hc
         have hlt:=of_decide_eq_true hc62
         refine aO (aR (aB rfl rfl (aQ (XF.thenN (bM (XF.blkR (XF.thenR (XF.thenR (XF.blkR (XF.thenR (XF.res (bV results14 rfl) ?_)))))))))))
         exact ⟨cL (by unfold jT;rw [if_neg h0,if_neg h1,if_neg h3,if_neg (by rw [cF hr (by simp [I1];omega)];decide)]),hS.below⟩
        ·have hc62:=hc;clear hc
         have hlt:=of_decide_eq_false hc62
         refine bH (XF.blkN (XF.thenN (aR (aI rfl rfl (cE rfl rfl (IntWalk.i64_in _ (by omega)) rfl (aB rfl rfl (aQ ?_)))))))
         exact XF.round (tl - (i+1)) [(2,_),(3,_),(7,_)] (by omega) ⟨rfl,rfl,rfl,trivial⟩ ⟨i+1,by omega,rfl,rfl,cQ hr hall (by simp [I1];omega),hS.clear⟩
      ·have hc42:=of_decide_eq_false hc;clear hc
       rw [List.take_of_length_le (by omega)] at hall
       refine cW (XF.thenX (XF.thenX (XF.blkX (XF.thenN (aO (aR (aB rfl rfl (aQ (XF.thenN (bM (XF.res (bV results14 rfl) ?_)))))))))))
       exact ⟨cL (by unfold jT;rw [if_neg h0,if_neg h1,if_neg h3,if_pos hall]),hS.below⟩
theorem I4 (ds2 d2 ds d:Nat) (p:PV) (S T:PS) (q:Bool) (a:AV) (w:World) (hp:PvIn w ds2 d2 p) (h:AIn w ds d a) (hSS:dX p=0→SIs w S p.s.f) (hTT:dD a.s=0→SIs w T a.s.f) (hq:q=true↔S=T):Calls prog 14 #[p.val,a.val] w (fun e w'=>e = .returned (.int .i64 (jT p a q))∧Below w.heap.size w w'):=Mh ds2 d2 p S T q ds d _ _ _ _ _ _ _ _ _ _ _ w h.s h.frow h.flen h.trow h.tlen h.tin h.fmax h.tmax hp hSS hTT hq
structure GV where
 p:Int
 d:DV
abbrev GV.four (r:GV):List Value:=[.int .i64 r.p,.int .i64 r.d.sy,.slice r.d.na r.d.nl r.d.nc,.slice r.d.aa r.d.al r.d.ac]
abbrev GV.val (r:GV):Value:=.agg #[.int .i64 r.p,.int .i64 r.d.sy,.slice r.d.na r.d.nl r.d.nc,.slice r.d.aa r.d.al r.d.ac]
def wD (w:World) (a:Option Addr) (ls:List GV):Prop:=∀ (i:Nat) r,ls[i]?=some r→∃ b off,a=some ⟨b,off,none⟩∧aK w b (off+i * 4) r.four
theorem wD.below {w w':World} {a:Option Addr} {ls:List GV} (h:wD w a ls) (hb:Below w.heap.size w w'):wD w' a ls:=fun i r hi=>by
 obtain ⟨b,off,e,h1⟩:=h i r hi
 exact ⟨b,off,e,h1.agree (aP hb 0) (Nat.zero_le _)⟩
def eZ (p:PV) (r:GV):Int:=if inQ r.p p.st=false then 101 else if gW r.d≠0 then gW r.d else if r.d.sy≠p.sy then 140 else 0
def lU {α:Type} (f:α→Int):List α→Int
 | []=>0
 | a::r=>if f a=0 then lU f r else f a
theorem kF {α:Type} {f:α→Int}:∀ {l:List α} {i:Nat} {x:α},l[i]?=some x→(l.take i).all (fun y=>decide (f y=0))=true→f x≠0→lU f l=f x
 | [],_,_,h,_,_=>by simp at h
 | a::l,0,x,h,_,hn=>by
  simp at h;subst h
  unfold lU;rw [if_neg hn]
 | a::l,i+1,x,h,ha,hn=>by
  simp only [List.take_succ_cons,List.all_cons,Bool.and_eq_true,decide_eq_true_eq] at ha
  unfold lU;rw [if_pos ha.1]
  exact kF (by simpa using h) ha.2 hn
theorem qU {α:Type} {f:α→Int}:∀ {l:List α},l.all (fun y=>decide (f y=0))=true→lU f l=0
 | [],_=>rfl
 | a::l,h=>by
  simp only [List.all_cons,Bool.and_eq_true,decide_eq_true_eq] at h
  unfold lU;rw [if_pos h.1]
  exact qU h.2
def sumN (ls:List GV):Nat:=(ls.map (fun r=>r.d.nl)).sum
def iG (sy:Int) (ls:List GV):Int:=(ls.map (fun r=>((r.d.nl:Int)+1) * sy)).sum
theorem fY {ls:List GV} {i:Nat} {r:GV} (h:ls[i]?=some r):sumN (ls.take (i+1))=sumN (ls.take i)+r.d.nl:=by
 unfold sumN;rw [List.take_add_one,h];simp
theorem kG {sy:Int} {ls:List GV} {i:Nat} {r:GV} (h:ls[i]?=some r):iG sy (ls.take (i+1))=iG sy (ls.take i)+((r.d.nl:Int)+1) * sy:=by
 unfold iG;rw [List.take_add_one,h];simp
def gB (p:PV) (ls:List GV):Int:=if lU (eZ p) ls≠0 then lU (eZ p) ls else if 4096 < p.st+(sumN ls:Int)∨65536 < iG p.sy ls then 3 else 0
theorem lA {d:DV} (h:gW d=0):d.nl≤1024∧1≤d.nl∧0≤d.sy∧d.sy≤4096∧d.al=d.nl∧d.ns.all (pS d.sy d.nl)=true:=by
 unfold gW at h
 split at h
 ·cases h
 ·rename_i h1
  split at h
  ·rename_i h2;exact ⟨by omega,by omega,by omega,by omega,by omega,h2⟩
  ·cases h
theorem fB (w:World) (b o:Nat):(Instr.fieldAt 39 (.pointer (some ⟨b,o,none⟩)) 0).run prog w = .ok (.pointer (some ⟨b,o+0,none⟩)) w:=by
 simp [Instr.fieldAt,run_underlying underlying39,Instr.sureAddr,go_sem,Addr.add_lit]
theorem gF (w:World) (b o:Nat):(Instr.fieldAt 39 (.pointer (some ⟨b,o,none⟩)) 1).run prog w = .ok (.pointer (some ⟨b,o+1,none⟩)) w:=by
 simp [Instr.fieldAt,run_underlying underlying39,Instr.sureAddr,go_sem,Addr.add_lit]
theorem goes_37:bW prog 37=true:=by kernel_rfl
theorem goes_43:bW prog 43=true:=by kernel_rfl
theorem Mi (p:PV) (r:GV) (w:World) (hd:DIn w r.d) :
  Calls prog 22 #[p.val,r.val] w (fun e w'=>e = .returned (.int .i64 (eZ p r))∧Below w.heap.size w w'):=by
 refine cG (args:=[p.val,r.val]) func22 rfl ntmps22 rfl ?_
 have hS:=St.start w
 refine aO (aR (bQ (cs:=[_,_,_,_,_,_]) hS rfl rfl rfl fun B1 W1 hS=>bQ (cs:=[_,_,_,_]) hS rfl rfl rfl fun B2 W2 hS=>aB rfl rfl (aQ (XF.thenN (aO (aO (aR (aN (o':=0) fB rfl rfl rfl (aT isAgg3 rfl (aJ (hS.at_ 0 rfl) rfl) rfl (cC rfl rfl rfl (aI rfl rfl (bG (d:=9) rfl (fun hc=>?_) (fun hc=>?_)))))))))))))
 ·have hg9:=of_decide_eq_true hc;clear hc
  refine aF (d:=9) rfl rfl rfl rfl (aF (d:=9) rfl rfl rfl rfl (aF (d:=9) rfl rfl rfl rfl (aF (d:=9) rfl rfl rfl rfl (aF (d:=9) rfl rfl rfl rfl (aY rfl rfl rfl (aQ (XF.thenN (cU rfl (aO (aR (aB rfl rfl (aQ (XF.thenN (bM (XF.thenR (XF.res (bV results22 rfl) ?_))))))))))))))))
  have hin:inQ r.p p.st=false:=by simp [inQ];omega
  exact ⟨cL (by unfold eZ;rw [if_pos hin]),hS.below⟩
 ·have hg9:=of_decide_eq_false hc;clear hc
  refine aC (d:=9) rfl rfl (aN (o':=0) fB rfl rfl rfl (aC (d:=9) rfl rfl (aT isAgg3 rfl (aJ (hS.at_ 0 rfl) rfl) rfl (aC (d:=9) rfl rfl (aN (o':=3) eT rfl rfl rfl (aC (d:=9) rfl rfl (aT isAgg3 rfl (aJ (hS.at_ 1 rfl) rfl) rfl (aC (d:=9) rfl rfl (gV rfl rfl rfl (bN rfl rfl rfl (aQ (XF.thenN (bC rfl (fun hc=>?_) (fun hc=>?_))))))))))))))
  ·have hc15:=of_decide_eq_true hc;clear hc
   refine aO (aR (aB rfl rfl (aQ (XF.thenN (bM (XF.thenR (XF.res (bV results22 rfl) ?_)))))))
   have hin:inQ r.p p.st=false:=by simp [inQ];omega
   exact ⟨cL (by unfold eZ;rw [if_pos hin]),hS.below⟩
  ·have hc15:=of_decide_eq_false hc;clear hc
   have hin:inQ r.p p.st=true:=by simp [inQ];omega
   refine bH (XF.thenN (aO (aR (aN (o':=1) gF rfl rfl rfl (aU (vs:=[_,_,_]) isAgg37 sizeOf37 rfl (aK.own (j:=1) (m:=3) (hS.at_ 0 rfl) rfl) rfl (bT (vs:=[_]) hS goes_43 rfl (dfaR_is r.d _ (hd.below hS.below)) rfl fun W3 hS=>aB rfl rfl (aQ (XF.thenN (aO (aO (aR (aI rfl rfl (cN rfl rfl rfl (aQ (XF.thenN (bC rfl (fun hc=>?_) (fun hc=>?_)))))))))))))))))
   ·have hc20:=of_decide_eq_true hc;clear hc
    refine aO (aR (aI rfl rfl (aB rfl rfl (aQ (XF.thenN (bM (XF.thenR (XF.res (bV results22 rfl) ?_))))))))
    exact ⟨cL (by unfold eZ;rw [if_neg (by rw [hin];decide),if_pos hc20]),hS.below⟩
   ·have hc20:=of_decide_eq_false hc;clear hc
    refine bH (XF.thenN (aO (aO (aR (aN (o':=1) gF rfl rfl rfl (aN (o':=1) iU rfl rfl rfl (aT isAgg3 rfl (aJ (hS.at_ 0 rfl) rfl) rfl (aN (o':=4) eE rfl rfl rfl (aT isAgg3 rfl (aJ (hS.at_ 1 rfl) rfl) rfl (cN rfl rfl rfl (aQ (XF.thenN (bC rfl (fun hc=>?_) (fun hc=>?_))))))))))))))
    ·have hc27:=of_decide_eq_true hc;clear hc
     refine aO (aR (aB rfl rfl (aQ (XF.thenN (bM (XF.thenR (XF.res (bV results22 rfl) ?_)))))))
     exact ⟨cL (by unfold eZ;rw [if_neg (by rw [hin];decide),if_neg hc20,if_pos hc27]),hS.below⟩
    ·have hc27:=of_decide_eq_false hc;clear hc
     refine bH (XF.thenN (aO (aR (aB rfl rfl (aQ (XF.thenN (bM (XF.res (bV results22 rfl) ?_))))))))
     exact ⟨cL (by unfold eZ;rw [if_neg (by rw [hin];decide),if_neg hc20,if_neg hc27]),hS.below⟩
theorem Aw (p:PV) (la:Option Addr) (ll lc:Nat) (ls:List GV) (w:World) (hlr:wD w la ls) (hln:ls.length=ll) (hli:∀ r∈ls,DIn w r.d) (hlm:ll≤1000000) (hst:0≤p.st∧p.st≤4096) (hsy:0≤p.sy∧p.sy≤4096) :
  Calls prog 18 #[p.val,.slice la ll lc] w (fun e w'=>e = .returned (.int .i64 (gB p ls))∧Below w.heap.size w w'):=by
 refine cG (args:=[p.val,.slice la ll lc]) func18 rfl ntmps18 rfl ?_
 have hS:=St.start w
 refine aO (aR (bQ (cs:=[_,_,_,_,_,_]) hS rfl rfl rfl fun B1 W1 hS=>aB rfl rfl (aQ (XF.thenN (aO (aR (aN (o':=3) eT rfl rfl rfl (aT isAgg3 rfl (aJ (hS.at_ 0 rfl) rfl) rfl (aB rfl rfl (aB rfl rfl (aQ (XF.thenN (aO (aO (aR (aI rfl rfl (bX underlying29 rfl rfl (aI rfl rfl (aQ (XF.thenN (bI (cX (fun m l W=>∃ (i:Nat) (u5 u6:Int),i≤ll∧m=ll - i∧l=[(2,.pointer (some ⟨B1,0,none⟩)),(5,.int .i64 u5),(6,.int .i64 u6),(12,.slice la ll lc),(13,.int .i64 (ll:Int)),(14,.int .i64 (i:Int))]∧u5=p.st+(sumN (ls.take i):Int)∧u6=iG p.sy (ls.take i)∧(ls.take i).all (fun y=>decide (eZ p y=0))=true∧sumN (ls.take i)≤i * 1024∧0≤iG p.sy (ls.take i)∧iG p.sy (ls.take i)≤(i:Int) * 4198400∧St w [(B1,p.six,28)] [] [] W) (ll - 0) ([(2,_),(5,_),(6,_),(12,_),(13,_),(14,_)]) ⟨rfl,rfl,rfl,rfl,rfl,rfl,trivial⟩ (⟨0,_,_,Nat.zero_le _,rfl,rfl,by simp [sumN],by simp [iG],rfl,by simp [sumN],by simp [iG],by simp [iG],hS.clear⟩) ?_))))))))))))))))))))))
 clear hS
 rintro m l W ⟨i,u5,u6,hi,rfl,rfl,hu5,hu6,hall,hsN,hsT0,hsT,hS⟩
 refine aO (aR (cC rfl rfl rfl (aQ (XF.thenN (aO (bC rfl (fun hc=>?_) (fun hc=>?_)))))))
 ·have hc15:=of_decide_eq_true hc;clear hc
  have hk:i < ll:=by omega
  obtain ⟨r,hr⟩:∃ r,ls[i]?=some r:=⟨ls[i]'(by omega),by simp [show i < ls.length by omega]⟩
  obtain ⟨b,off,rfl,hcs⟩:=hlr i r hr
  have k1:=aK.agree hS.agree (Nat.zero_le _) hcs
  have hdi:=hli r (List.mem_of_getElem? hr)
  refine bH (XF.thenN (aO (bI (aO (aR (cJ  underlying29 sizeOf39 rfl rfl rfl (by omega) rfl rfl (aU (vs:=[_,_,_,_]) isAgg39 sizeOf39 rfl (k1) rfl (bU (cs:=[_,_,_,_]) hS zeroValue39 rfl rfl fun B2 W2 hS=>bB (i:=0) (vs:=[_,_,_,_]) (cs':=[_,_,_,_]) (O':=[_,_]) hS sizeOf39 rfl rfl rfl rfl rfl rfl rfl fun W3 hS=>aQ (XF.thenN (aO (aO (aR (aN (o':=0) fB rfl rfl rfl (aT isAgg3 rfl (aJ (hS.at_ 0 rfl) rfl) rfl (cC rfl rfl rfl (aI rfl rfl (bG (d:=21) rfl (fun hc=>?_) (fun hc=>?_))))))))))))))))))
  ·have hg21:=of_decide_eq_true hc;clear hc
   refine aF (d:=21) rfl rfl rfl rfl (aF (d:=21) rfl rfl rfl rfl (aF (d:=21) rfl rfl rfl rfl (aF (d:=21) rfl rfl rfl rfl (aF (d:=21) rfl rfl rfl rfl (aY rfl rfl rfl (aQ (XF.thenN (cU rfl (aO (aR (aB rfl rfl (aQ (XF.thenN (bM (XF.thenR (XF.blkR (XF.thenR (XF.thenR (XF.blkR (XF.thenR (XF.res (bV results18 rfl) ?_)))))))))))))))))))))
   have hin:inQ r.p p.st=false:=by simp [inQ];omega
   have hpe:eZ p r=101:=by unfold eZ;rw [if_pos hin]
   have hfe:=kF hr hall (show eZ p r≠0 by rw [hpe];decide)
   exact ⟨cL (by unfold gB;rw [if_pos (by rw [hfe,hpe];decide),hfe,hpe]),hS.below⟩
  ·have hg21:=of_decide_eq_false hc;clear hc
   refine aC (d:=21) rfl rfl (aN (o':=0) fB rfl rfl rfl (aC (d:=21) rfl rfl (aT isAgg3 rfl (aJ (hS.at_ 0 rfl) rfl) rfl (aC (d:=21) rfl rfl (aN (o':=3) eT rfl rfl rfl (aC (d:=21) rfl rfl (aT isAgg3 rfl (aJ (hS.at_ 1 rfl) rfl) rfl (aC (d:=21) rfl rfl (gV rfl rfl rfl (bN rfl rfl rfl (aQ (XF.thenN (bC rfl (fun hc=>?_) (fun hc=>?_))))))))))))))
   ·have hc27:=of_decide_eq_true hc;clear hc
    refine aO (aR (aB rfl rfl (aQ (XF.thenN (bM (XF.thenR (XF.blkR (XF.thenR (XF.thenR (XF.blkR (XF.thenR (XF.res (bV results18 rfl) ?_))))))))))))
    have hin:inQ r.p p.st=false:=by simp [inQ];omega
    have hpe:eZ p r=101:=by unfold eZ;rw [if_pos hin]
    have hfe:=kF hr hall (show eZ p r≠0 by rw [hpe];decide)
    exact ⟨cL (by unfold gB;rw [if_pos (by rw [hfe,hpe];decide),hfe,hpe]),hS.below⟩
   ·have hc27:=of_decide_eq_false hc;clear hc
    have hin:inQ r.p p.st=true:=by simp [inQ];omega
    refine bH (XF.thenN (aO (aO (aR (aN (o':=1) gF rfl rfl rfl (aU (vs:=[_,_,_]) isAgg37 sizeOf37 rfl (aK.own (j:=1) (m:=3) (hS.at_ 0 rfl) rfl) rfl (bT (vs:=[_]) hS goes_37 rfl (dfaA_is r.d _ (hdi.below hS.below)) rfl fun W4 hS=>aB rfl rfl (aQ (XF.thenN (aO (aR (aI rfl rfl (cN rfl rfl rfl (aQ (XF.thenN (bC rfl (fun hc=>?_) (fun hc=>?_)))))))))))))))))
    ·have hc32:=of_decide_eq_true hc;clear hc
     refine aO (aR (aI rfl rfl (aB rfl rfl (aQ (XF.thenN (bM (XF.thenR (XF.blkR (XF.thenR (XF.thenR (XF.blkR (XF.thenR (XF.res (bV results18 rfl) ?_)))))))))))))
     have hpe:eZ p r=gW r.d:=by unfold eZ;rw [if_neg (by rw [hin];decide),if_pos hc32]
     have hfe:=kF hr hall (show eZ p r≠0 by rw [hpe];exact hc32)
     exact ⟨cL (by unfold gB;rw [if_pos (by rw [hfe,hpe];exact hc32),hfe,hpe]),hS.below⟩
    ·have hc32:=of_decide_eq_false hc;clear hc
     refine bH (XF.thenN (aO (aO (aR (aN (o':=1) gF rfl rfl rfl (aN (o':=1) iU rfl rfl rfl (aT isAgg3 rfl (aJ (hS.at_ 0 rfl) rfl) rfl (aN (o':=4) eE rfl rfl rfl (aT isAgg3 rfl (aJ (hS.at_ 1 rfl) rfl) rfl (cN rfl rfl rfl (aQ (XF.thenN (bC rfl (fun hc=>?_) (fun hc=>?_))))))))))))))
     ·have hc39:=of_decide_eq_true hc;clear hc
      refine aO (aR (aB rfl rfl (aQ (XF.thenN (bM (XF.thenR (XF.blkR (XF.thenR (XF.thenR (XF.blkR (XF.thenR (XF.res (bV results18 rfl) ?_))))))))))))
      have hpe:eZ p r=140:=by unfold eZ;rw [if_neg (by rw [hin];decide),if_neg hc32,if_pos hc39]
      have hfe:=kF hr hall (show eZ p r≠0 by rw [hpe];decide)
      exact ⟨cL (by unfold gB;rw [if_pos (by rw [hfe,hpe];decide),hfe,hpe]),hS.below⟩
     ·have hc39:=of_decide_eq_false hc;clear hc
      obtain ⟨hn1,hn2,_⟩:=lA (show gW r.d=0 from Decidable.of_not_not hc32)
      have hpe:eZ p r=0:=by unfold eZ;rw [if_neg (by rw [hin];decide),if_neg hc32,if_neg hc39]
      have hmb:=Hk (n:=r.d.nl) (s:=p.sy) hn1 hsy.1 hsy.2
      have hmd:((r.d.nl:Int)+1) * p.sy=(r.d.nl:Int) * p.sy+p.sy:=by rw [Int.add_mul,Int.one_mul]
      refine bH (XF.thenN (aO (aR (aI rfl rfl (aN (o':=1) gF rfl rfl rfl (aN (o':=2) eA rfl rfl rfl (aT isAgg34 rfl (aJ (hS.at_ 0 rfl) rfl) rfl (bX underlying34 rfl rfl (cE rfl rfl (IntWalk.i64_in _ (by omega)) rfl (aB rfl rfl (aQ (XF.thenN (aR (aI rfl rfl (aN (o':=1) gF rfl rfl rfl (aN (o':=2) eA rfl rfl rfl (aT isAgg34 rfl (aJ (hS.at_ 0 rfl) rfl) rfl (bX underlying34 rfl rfl (cE rfl rfl (IntWalk.i64_in _ (by omega)) rfl (aN (o':=4) eE rfl rfl rfl (aT isAgg3 rfl (aJ (hS.at_ 1 rfl) rfl) rfl (zB rfl rfl (IntWalk.i64_in _ (by omega)) rfl (cE rfl rfl (IntWalk.i64_in _ (by omega)) rfl (aB rfl rfl (aQ (XF.blkN (XF.thenN (aR (cE rfl rfl (IntWalk.i64_in _ (by omega)) rfl (aI rfl rfl (aQ ?_)))))))))))))))))))))))))))))))
      exact XF.round (ll - (i+1)) [(2,_),(5,_),(6,_),(12,_),(13,_),(14,_)] (by omega) ⟨rfl,rfl,rfl,rfl,rfl,rfl,trivial⟩ ⟨i+1,_,_,by omega,rfl,rfl,by rw [fY hr];omega,by rw [kG hr];omega,cQ hr hall (decide_eq_true hpe),by rw [fY hr];omega,by rw [kG hr];omega,by rw [kG hr];omega,hS.tail.clear⟩
 ·have hc15:=of_decide_eq_false hc;clear hc
  have htk:ls.take i=ls:=List.take_of_length_le (by omega)
  rw [htk] at hall hsN hsT0 hsT hu5 hu6
  have hfe:=qU hall
  refine cW (XF.thenX (XF.thenX (XF.blkX (XF.thenN (aO (aO (aR (aI rfl rfl (dS rfl rfl rfl (aI rfl rfl (bG (d:=59) rfl (fun hc=>?_) (fun hc=>?_))))))))))))
  ·have hg59:=of_decide_eq_true hc;clear hc
   refine aF (d:=59) rfl rfl rfl rfl (aF (d:=59) rfl rfl rfl rfl (aY rfl rfl rfl (aQ (XF.thenN (cU rfl (aO (aR (aB rfl rfl (aQ (XF.thenN (bM (XF.thenR (XF.res (bV results18 rfl) ?_)))))))))))))
   exact ⟨cL (by unfold gB;rw [if_neg (by rw [hfe];decide),if_pos (by omega)]),hS.below⟩
  ·have hg59:=of_decide_eq_false hc;clear hc
   refine aC (d:=59) rfl rfl (aI rfl rfl (aC (d:=59) rfl rfl (dS rfl rfl rfl (bN rfl rfl rfl (aQ (XF.thenN (bC rfl (fun hc=>?_) (fun hc=>?_))))))))
   ·have hc62:=of_decide_eq_true hc;clear hc
    refine aO (aR (aB rfl rfl (aQ (XF.thenN (bM (XF.thenR (XF.res (bV results18 rfl) ?_)))))))
    exact ⟨cL (by unfold gB;rw [if_neg (by rw [hfe];decide),if_pos (by omega)]),hS.below⟩
   ·have hc62:=of_decide_eq_false hc;clear hc
    refine bH (XF.thenN (aO (aR (aB rfl rfl (aQ (XF.thenN (bM (XF.res (bV results18 rfl) ?_))))))))
    exact ⟨cL (by unfold gB;rw [if_neg (by rw [hfe];decide),if_neg (by omega)]),hS.below⟩
section
variable {P:Program} {ops:Array Oper} {Q:Exit→Act→World→Prop} {n:Nat} {l:Fr} {W:World} {L:List Asr} {i:Nat}
variable {d:Nat} {op:Op} {ty:TypeId} {pos:String} {aft_:Array Edge}
theorem rgPs (ds:List (Nat×Nat×Asr)) (hi:ops[i]?=some ⟨some d,op,ty,pos,aft_,none⟩) {q:Asr} (hds:C2 ops L i ds)
  (hr:∀ (ev:Operand→Value) w,Below W.heap.size W w→qC ds ev w→∃ v,(execOp ev ⟨some d,op,ty,pos,#[],none⟩).run P w = .ok (.value v) w∧q v w) (hI:atI L i=q):RG P n ops Q l W L i :=
 fun a ha=>rD hi (aS rfl) fun b w hF hG hD=>by
  have key:∀ (ds:List (Nat×Nat×Asr)),C2 ops L i ds→qC ds b.eval w:=by
   intro ds
   induction ds with
   | nil=>intro _;trivial
   | cons x xs ih =>
    intro h
    refine ⟨?_,ih h.2⟩
    have h1:=hD x.1 x.2.1 h.1.1
    rw [h.1.2] at h1
    exact h1
  obtain ⟨v,h2,h3⟩:=hr b.eval w hG (key ds hds)
  exact ⟨v,w,by rw [fO b.eval _ _ _ _ pos _ #[] _ none];exact h2,by rw [hI];exact h3,Below.refl _ _⟩
end
section
variable {ops:Array Oper} {Q:Exit→Act→World→Prop} {n:Nat} {l:Fr} {W:World} {L:List Asr} {i:Nat} {d:Nat} {ty:TypeId} {pos:String} {aft_:Array Edge}
end
abbrev nR (f g t:Int) (x:WF):List Value:=[.int .i64 f,.int .i64 g,.int .i64 t,.bool x.z,.int .i64 x.c,.int .u64 (x.g:Int),.slice x.ra x.rl x.rc,.slice x.ca x.cl x.cc,.slice x.pa x.pl x.pc]
abbrev mkC (sf:SF) (f0:WF) (sq:SF) (st sy:Int) (vf vt:Value):List Value:=[.int .i64 sf.tag,.int .i64 sf.dim,.slice sf.a sf.len sf.cap,.bool f0.z,.int .i64 f0.c,.int .u64 (f0.g:Int),.slice f0.ra f0.rl f0.rc,.slice f0.ca f0.cl f0.cc,.slice f0.pa f0.pl f0.pc,.int .i64 sq.tag,.int .i64 sq.dim,.slice sq.a sq.len sq.cap,.int .i64 st,.int .i64 sy,vf,vt]
def C8 (lo:Nat) (f g t:Int) (S:PS) (x:PX):Asr:=fun v w=>∃ wf:WF,v = .agg (nR f g t wf).toArray∧kU lo w S wf x
def uT (lo:Nat) (f g t:Int) (S:PS) (x:PX):Asr:=fun v w=>∃ (wf:WF) (B:Nat),v = .slice (some ⟨B,0,none⟩) 1 1∧w.heap[B]?=some (.cells (nR f g t wf).toArray 67 (0,0))∧kU lo w S wf x
theorem Mj {lo:Nat} {f g t:Int} {S:PS} {x:PX}:kL (C8 lo f g t S x):=fun v w w' ⟨wf,h1,h2⟩ hb=>⟨wf,h1,h2.below hb⟩
theorem Fd {lo:Nat} {f g t:Int} {S:PS} {x:PX}:kL (uT lo f g t S x):=fun v w w' ⟨wf,B,h1,h2,h3⟩ hb=>⟨wf,B,h1,(hb.block B (dI h2)).trans h2,h3.below hb⟩
theorem bldT9 (f g t:Int) (x:WF):prog.built 67 [(0,.int .i64 f),(1,.int .i64 g),(2,.int .i64 t),(3,x.val)]=some (nR f g t x).toArray:=by kernel_rfl
theorem bld_trP {d j1 j2 j3 j4 t1 t2 t3 t4 lo:Nat} {W:World} {ty:TypeId} {pos:String} {f g t:Int} {S:PS} {x:PX}:∀ (ev:Operand→Value) (w:World),Below W.heap.size W w→qC [(j1,t1,isV (.int .i64 f)),(j2,t2,isV (.int .i64 g)),(j3,t3,isV (.int .i64 t)),(j4,t4,eY lo S x)] ev w →
  ∃ v,(execOp ev ⟨some d,.build 67 #[(0,.tmp t1),(1,.tmp t2),(2,.tmp t3),(3,.tmp t4)],ty,pos,#[],none⟩).run prog w = .ok (.value v) w∧C8 lo f g t S x v w:=fun ev w _ ⟨h1,h2,h3,⟨wf,h4,h5⟩,_⟩=>by
 have e1:ev (.tmp t1)=_:=h1
 have e2:ev (.tmp t2)=_:=h2
 have e3:ev (.tmp t3)=_:=h3
 have e4:ev (.tmp t4)=_:=h4
 refine ⟨.agg (nR f g t wf).toArray,?_,wf,rfl,h5⟩
 have hr:=run_build w 67 #[(0,.int .i64 f),(1,.int .i64 g),(2,.int .i64 t),(3,wf.val)] _ (P:=prog) (bldT9 f g t wf)
 unfold execOp
 simp only [List.map_toArray,List.map_cons,List.map_nil,e1,e2,e3,e4]
 simp [hr]
theorem I5 {lo:Nat} {f g t:Int} {S:PS} {x:PX}:Gm 1 9 (fun cs w=>∃ wf:WF,cs=nR f g t wf∧kU lo w S wf x) (uT lo f g t S x):=fun v w ⟨wf,B,h1,h2,h3⟩ =>
 ⟨B,0,1,_,h1,aK.own (j:=0) (m:=9) h2 rfl,rfl,rfl,wf,rfl,h3⟩
theorem bs_tr9 (f g t:Int) (x:WF):Instr.fill (fun i=>some (i * 9,9)) ((Array.range (1 * 9)).map ((Value.cells (.agg #[.int .i64 0,.int .i64 0,.int .i64 0,.bool false,.int .i64 0,.int .u64 0,.slice none 0 0,.slice none 0 0,.slice none 0 0]))[· % (Value.cells (.agg #[.int .i64 0,.int .i64 0,.int .i64 0,.bool false,.int .i64 0,.int .u64 0,.slice none 0 0,.slice none 0 0,.slice none 0 0])).size]!)) [(0,.agg (nR f g t x).toArray)]=some (nR f g t x).toArray:=by kernel_rfl
section
variable {ops:Array Oper} {Q:Exit→Act→World→Prop} {n:Nat} {l:Fr} {W:World} {L:List Asr} {i:Nat} {d:Nat} {ty:TypeId} {pos:String} {aft_:Array Edge}
theorem Mk {tt lo:Nat} {f g t:Int} {S:PS} {x:PX} (hi:ops[i]?=some ⟨some d,.buildSlice 40 1 #[(0,.tmp tt)],ty,pos,aft_,none⟩) (hp:OpG n ops l L i tt (C8 lo f g t S x)) (hI:atI L i=uT lo f g t S x):RG prog n ops Q l W L i :=
 zC (xs:=[(0,.tmp tt)]) [C8 lo f g t S x] hi (aS rfl) underlying40 sizeOf67 zeroValue67 rfl rfl ⟨cD hp,trivial⟩ fun vs w hb hh=>by
  match vs,hh with
  | [v],⟨⟨wf,h1,h2⟩,_⟩ =>
   subst h1
   exact ⟨nR f g t wf,bs_tr9 f g t wf,fun B2 w' hB h4 h5=>by rw [hI];exact ⟨wf,B2,rfl,h4,h2.below h5⟩⟩
end
theorem fa_76_0 (w:World) (b o:Nat):(Instr.fieldAt 76 (.pointer (some ⟨b,o,none⟩)) 0).run prog w = .ok (.pointer (some ⟨b,o+0,none⟩)) w:=by
 simp [Instr.fieldAt,run_underlying underlying76,Instr.sureAddr,go_sem,Addr.add_lit]
theorem fC (w:World) (b o:Nat):(Instr.fieldAt 76 (.pointer (some ⟨b,o,none⟩)) 1).run prog w = .ok (.pointer (some ⟨b,o+9,none⟩)) w:=by
 simp [Instr.fieldAt,run_underlying underlying76,Instr.sureAddr,go_sem,Addr.add_lit]
theorem Fe:prog.info? 67=some Try.t67:=by kernel_rfl
theorem Ax (S:PS) (sf:SF) (f0:WF) (sq:SF) (zt yt:Int) (vf v1:Value) (n:Nat) (xs1:List Value) (B:Nat) (Ot:Own) (K:List (Nat×World)) (w0:World) (fr sm tt:Int) (w:World) (hS0:St w0 ((B,mkC sf f0 sq zt yt vf v1,76)::Ot) [⟨v1,n,xs1,67,9⟩] K w) (hn:n≤100000) (hsi:SIs w0 S sf) (hok:S.ok) :
  Calls prog 33 #[.pointer (some ⟨B,0,none⟩),.int .i64 fr,.int .i64 sm,.int .i64 tt] w (fun e w'=>∃ (u:Value) (f:WF) (Kn:List (Nat×World)),e = .returned (.tuple #[])∧(∀ q∈K,q∈Kn)∧iT w0 Kn (fun W2=>XIs W2 S f (eV S))∧St w0 ((B,mkC sf f0 sq zt yt vf u,76)::Ot) [⟨u,n+1,xs1++nR fr sm tt f,67,9⟩] Kn w'):=by
 refine cG (args:=[.pointer (some ⟨B,0,none⟩),.int .i64 fr,.int .i64 sm,.int .i64 tt]) func33 rfl ntmps33 rfl ?_
 have hS:=hS0
 refine regBPC (p:=16) (k:=20) (gi:=0) (m:=1) bY hS rfl rfl (by kernel_rfl) (by kernel_rfl) (by kernel_rfl) (fun d hd=>by cases hd) rfl rfl underlying40 Fe rfl rfl (by show 0 < 9;decide) rfl rfl rfl (by dsimp only;simp only [maxLen];omega) (by dsimp only;show _ * 120≤_;omega) ?_
 refine iK 1 rfl rfl (rgV (li:=[(0,_)]) rfl (aS rfl) ⟨bP rfl,trivial⟩ (fun w hw=>aZ rfl) (aD rfl)) (lgV (li:=[(0,_)]) rfl (aS rfl) ⟨bP rfl,trivial⟩ (fun w=>aZ rfl) (aD rfl) rfl) (cK 2 rfl rfl (by kernel_rfl) (rgV (li:=[(0,_)]) rfl (aS rfl) ⟨bP rfl,trivial⟩ (fun w hw=>aZ rfl) (aD rfl)) (cK 3 rfl rfl (by kernel_rfl) (rgV (li:=[(9,_)]) rfl (aS rfl) ⟨aL 1 (aA rfl rfl rfl),trivial⟩ (fun w hw=>fL rfl) (aD rfl)) (cK 4 rfl rfl (by kernel_rfl) (rgV (li:=[(10,_)]) rfl (aS rfl) ⟨aL 2 (aA rfl rfl rfl),trivial⟩ (fun w hw=>aV (o':=9) fC rfl rfl) (aD rfl)) (cK 5 rfl rfl (by kernel_rfl) (rgV (li:=[(11,_)]) rfl (aS rfl) ⟨aL 3 (aA rfl rfl rfl),trivial⟩ (fun w hw=>aV (o':=15) dA rfl rfl) (aD rfl)) (cK 6 rfl rfl (by kernel_rfl) (rgV (li:=[(12,_)]) rfl (aS rfl) ⟨aL 4 (aA rfl rfl rfl),trivial⟩ (fun w hw=>aX isAgg40 rfl ((aP hw 0).cell (Nat.zero_le _) (aJ (hS.at_ 0 rfl) rfl))) (aD rfl)) (cK 7 rfl rfl (by kernel_rfl) (rgV (li:=[(1,_)]) rfl (aS rfl) ⟨bP rfl,trivial⟩ (fun w hw=>aZ rfl) (aD rfl)) (cK 8 rfl rfl (by kernel_rfl) (rgV (li:=[(2,_)]) rfl (aS rfl) ⟨bP rfl,trivial⟩ (fun w hw=>aZ rfl) (aD rfl)) (cK 9 rfl rfl (by kernel_rfl) (rgV (li:=[(3,_)]) rfl (aS rfl) ⟨bP rfl,trivial⟩ (fun w hw=>aZ rfl) (aD rfl)) (cK 10 rfl rfl (by kernel_rfl) (rgV (li:=[(0,_)]) rfl (aS rfl) ⟨bP rfl,trivial⟩ (fun w hw=>aZ rfl) (aD rfl)) (cK 11 rfl rfl (by kernel_rfl) (rgV (li:=[(17,_)]) rfl (aS rfl) ⟨aL 9 (aA rfl rfl rfl),trivial⟩ (fun w hw=>fL rfl) (aD rfl)) (cK 12 rfl rfl (by kernel_rfl) (rgV (li:=[(18,_)]) rfl (aS rfl) ⟨aL 10 (aA rfl rfl rfl),trivial⟩ (fun w hw=>aV (o':=0) fa_76_0 rfl rfl) (aD rfl)) (cK 13 rfl rfl (by kernel_rfl) (rgV (li:=[(19,_)]) rfl (aS rfl) ⟨aL 11 (aA rfl rfl rfl),trivial⟩ (fun w hw=>bL (vs:=[_,_,_,_,_,_,_,_,_]) isAgg74 sizeOf74 rfl (aK.agree (aP hw 0) (Nat.zero_le _) (aK.own (j:=0) (m:=9) (hS.at_ 0 rfl) rfl))) (aD rfl)) ?_))))))))))))
 refine tD 14 rfl rfl (by kernel_rfl) (eY w.heap.size S (eV S)) (eO) (cP [isV _] rfl goes_51 (aS rfl) ⟨cD (aL 12 (aA rfl rfl rfl)),trivial⟩ (fun vs w' hb hh=>by have e:=bZ (us:=[_]) hh;subst e;exact fS hb.size (E5 S sf f0 w' (hsi.below (hS.below.trans (hb.mono hS.below.size))) hok)) (aD rfl)) ?_
 refine tD 15 rfl rfl (by kernel_rfl) (C8 w.heap.size fr sm tt S (eV S)) (Mj) (rgPs [(6,14,isV _),(7,15,isV _),(8,16,isV _),(13,21,eY w.heap.size S (eV S))] rfl ⟨⟨by kernel_rfl,aA rfl rfl rfl⟩,⟨by kernel_rfl,aA rfl rfl rfl⟩,⟨by kernel_rfl,aA rfl rfl rfl⟩,⟨by kernel_rfl,aA rfl rfl rfl⟩,trivial⟩ bld_trP (aD rfl)) ?_
 refine tD 16 rfl rfl (by kernel_rfl) (uT w.heap.size fr sm tt S (eV S)) (Fd) (Mk rfl (aL 14 (aA rfl rfl rfl)) (aD rfl)) (oX 17 rfl rfl (iK 18 rfl rfl (rgV (li:=[(8,_)]) rfl (aS rfl) ⟨aL 0 (aA rfl rfl rfl),trivial⟩ (fun w hw=>fL rfl) (aD rfl)) (lgV (li:=[(8,_)]) rfl (aS rfl) ⟨aL 0 (aA rfl rfl rfl),trivial⟩ (fun w=>fL rfl) (aD rfl) rfl) (iK 19 rfl rfl (rgV (li:=[(25,_)]) rfl (aS rfl) ⟨aL 17 (aA rfl rfl rfl),trivial⟩ (fun w hw=>aV (o':=9) fC rfl rfl) (aD rfl)) (lgV (li:=[(25,_)]) rfl (aS rfl) ⟨aL 17 (aA rfl rfl rfl),trivial⟩ (fun w=>aV (o':=9) fC rfl rfl) (aD rfl) rfl) (iK 20 rfl rfl (rgV (li:=[(26,_)]) rfl (aS rfl) ⟨aL 18 (aA rfl rfl rfl),trivial⟩ (fun w hw=>aV (o':=15) dA rfl rfl) (aD rfl)) (lgV (li:=[(26,_)]) rfl (aS rfl) ⟨aL 18 (aA rfl rfl rfl),trivial⟩ (fun w=>aV (o':=15) dA rfl rfl) (aD rfl) rfl) (oW ⟨_,_,aL 5 (aA rfl rfl rfl),aL 15 (aA rfl rfl rfl),I5,?_⟩)))))
 intro A1 v1 news1 W1 hbR hqA1 hS'
 clear hS;have hS:=hS';clear hS'
 have hqN:=hqA1
 refine aG (aG (aG (aG (aG (aG (aG (aG (aG (aG (aG (aG (aG ?_))))))))))))
 refine dR ?_;intro _ _
 refine dR ?_;intro _ _
 refine dR ?_;intro _ _
 refine aG (aG (aG (aG ?_)))
 obtain ⟨wf,rfl,hxn⟩:=hqN
 have HX:iT w0 ((w.heap.size,A1)::K) (fun W2=>XIs W2 S wf (eV S)):=fun h2 hk=>(hxn.agree (h2.kept (w.heap.size,A1) (hk _ List.mem_cons_self)).1).is
 refine cH (dK (i:=0) (cs':=[_,_,_,_,_,_,_,_,_,_,_,_,_,_,_,_]) (O':=(_::Ot)) hS sizeOf40 rfl rfl (by first | rfl | exact (hS.oneV 0 _ rfl :) | exact (hS.oneV 1 _ rfl :) | exact (hS.oneV 2 _ rfl :) | exact (hS.oneV 3 _ rfl :)) rfl rfl rfl rfl fun W2 hS=>aQ (XF.resN (res0 results33) ?_))
 exact ⟨_,wf,_,rfl,fun q hq=>List.mem_cons_of_mem _ hq,HX,hS⟩
section
variable {P:Program} {ops:Array Oper} {Q:Exit→Act→World→Prop} {σ:Type}
theorem yL {ops:Array Oper} {k:Nat} (hk:ops.size=k):tM ops k=true:=List.all_eq_true.2 fun j hj=>by
 rw [decide_eq_true (show j < k by have:=List.mem_range.1 hj;omega)];rfl
theorem C9 {L:Array Bool} {i:Nat} (h:L.size≤i):L.getD i false=false:=by
 rw [Array.getD_eq_getD_getElem?,Array.getElem?_eq_none (by omega)];rfl
theorem xD {t0:Array Value} {d0:List Deferred} {G:σ→World→Prop} {I:σ→Nat→Value→World→Prop} {V:σ→Array Bool→Prop} {k:Nat} (hk:ops.size=k) (ht:dQ ops t0.size=true)
  (hstep:∀ i,i < k→Hc P ops Q t0 G I V i)
  (hfin:∀ s L a w,RInvG ops t0 d0 G I V s L a w→(∀ i,i < k→L.getD i false=true)→wpList P ops Q (ops.toList.drop k) a w) :
  ∀ (fuel:Nat) (s:σ) (L:Array Bool) (a:Act) (w:World),L.size=ops.size→L.toList.count false≤fuel→gE ops L→RInvG ops t0 d0 G I V s L a w→wpAny P .any ops Q fuel L a w:=by
 intro fuel
 induction fuel with
 | zero =>
  intro s L a w hs hc hcl h
  have hall:∀ i,i < k→L.getD i false=true:=fun i hi=>by
   cases hb:L.getD i false with
   | true=>rfl
   | false =>
    have:=eR _ _ (jO (by omega) hb)
    omega
  exact oM (fun _ _=>trivial) (yL hk) ht 0 k 0 L a w (by omega) (Nat.le_refl _) (Nat.le_refl _) hs hcl hall (fun i hi=>C9 (by omega)) (hfin s L a w h hall)
 | succ fuel ih =>
  intro s L a w hs hc hcl h
  by_cases hall:∀ i,i < k→L.getD i false=true
  ·exact oM (fun _ _=>trivial) (yL hk) ht 0 k (fuel+1) L a w (by omega) (Nat.le_refl _) (Nat.zero_le _) hs hcl hall (fun i hi=>C9 (by omega)) (hfin s L a w h hall)
  ·refine ⟨fun hr=>?_,fun i hi=>?_⟩
   ·exfalso;apply hall
    intro i hi
    have h1:=fV ht hs hr i (by omega)
    rw [Array.getD_eq_getD_getElem?,Array.getElem?_eq_getElem (by omega)] at h1 ⊢
    simpa using h1
   ·obtain ⟨his,hr⟩:=pJ hi hs
    have hik:i < k:=by omega
    have hc1:=eR _ _ (jO (by omega) hr.1)
    refine wpOp_mono ?_ (hstep i hik s L a w (fun t ht=>h.frame t ht) h.glob h.cons hs hcl hr (fun j d hw=>?_))
    ·rintro a' w' ⟨s',v,rfl,hV,hG,hI,hst⟩
     refine ih s' _ _ _ (by simpa using hs) ?_ (hcl.next hr (by omega)) ⟨by rw [kK];exact h.size,by rw [iC];exact h.defers,fun t hf=>?_,hG,hV,fun j d hd hj=>?_⟩
     ·rw [Array.toList_setIfInBounds];omega
     ·rw [eH ?_]
      ·exact h.frame t hf
      ·intro hd
       obtain ⟨o,ho,hd⟩:=Option.bind_eq_some_iff.1 hd
       have:=Array.all_eq_true'.1 hf o (Array.mem_of_getElem? ho)
       simp [hd] at this
     ·by_cases hji:j=i
      ·subst hji
       rw [qE hd (by rw [h.size];exact (fU ht hd).1)]
       exact hI d hd
      ·rw [getD_set_ne false (Ne.symm hji)] at hj
       rw [eH (fun e=>hji ((fU ht e).2 j hd))]
       exact hst j d hd (h.done j d hd hj)
    ·have:j∈aft ops i:=by
      unfold bO at hw
      unfold aft
      cases ho:ops[i]? with
      | none=>simp [ho] at hw
      | some o =>
       simp only [ho,Bool.and_eq_true,beq_iff_eq] at hw
       obtain ⟨e,he,h2⟩:=Array.any_eq_true'.1 hw.1
       simp only [Bool.and_eq_true,beq_iff_eq] at h2
       exact List.mem_map.2 ⟨e,List.mem_filter.2 ⟨Array.mem_toList_iff.2 he,h2.2⟩,h2.1⟩
     have hd:(ops[j]?).bind (·.dst)=some d:=by
      unfold bO at hw
      simp only [Bool.and_eq_true,beq_iff_eq] at hw
      exact hw.2
     exact h.done j d hd (hr.2 j this)
end
section
variable {P:Program} {n:Nat} {Q:Exit→Act→World→Prop} {l:Fr} {w0 W:World} {ops:Array Oper} {os:List Oper} {K:List (Nat×World)} {L:List Asr} {i:Nat}
variable {al:List Nat} {ca:Nat→Option Value→List Value} {ta:Nat→TypeId} {Os:Option Value→Own} {Gs:Option Value→cR} {lo ef jy:Nat} {s:Sg}
variable {d:Nat} {op:Op} {ty:TypeId} {pos:String} {aft_:Array Edge} {v:Value} {gd:Option (Nat×Bool)}
theorem wE {id k:Nat} {ds:List Nat} (hm:P.follows .mixedOrders=true) (hlo:lo=W.heap.size) (hS:St w0 (Os none) (Gs none) K W) (hk:os.length=k) (ht:dQ os.toArray n=true) (hal:al.all (fun a=>Nat.blt a k)=true) (hnd:al.Nodup) (hea:al.contains ef=false)
  (hev:Nat.blt ef k=true) (hdst:(List.range k).all (fun j=>Nat.beq j ef || ((os.toArray[j]?).bind (·.dst)).isSome)=true) (hds:(os.drop k).all (fun o=>match o.dst with | some d=>ds.contains d | none=>true)=true)
  (h:BLS P n os.toArray Q l w0 K lo al ef jy ca ta Os Gs (fun Lr=>∀ (Bf:Nat→Nat) (y:Value) (W':World) (Ks:List (Nat×World)),W.heap.size≤W'.heap.size→(∀ q∈Ks,lo≤q.1)→St w0 (al.map (fun a=>(Bf a,ca a (some y),ta a))++Os (some y)) (Gs (some y)) (Ks++K) W' →
   (∀ {O2 G2 K2 W2},St w0 O2 G2 K2 W2→(∀ q∈Ks,q∈K2)→eP lo (XB (al.map (fun a=>(Bf a,ca a (some y),ta a))++Os (some y)) (Gs (some y))) W' W2) →
   jS (os.take k) (Aq al ef jy lo (XB (al.map (fun a=>(Bf a,ca a (some y),ta a))++Os (some y)) (Gs (some y))) Bf y 0 Lr.reverse) (nQ ds l) (fun l' W'=>cT P n os.toArray Q (os.drop k) l' W') W') k [] 0):eC P n (.region id os.toArray true) Q l W:=by
 obtain ⟨Lr,h1,h2,hfin⟩:=uQ ht k 0 [] rfl (fun j _=>by rfl) (fun i hi=>by omega) h
 rw [Nat.zero_add] at h1 h2
 have hal':∀ a∈al,a < k:=fun a ha=>Nat.lt_of_lt_of_le (Nat.lt_succ_self _) (Nat.le_of_ble_eq_true (List.all_eq_true.1 hal a ha))
 have hea':ef∉al:=fun h=>by rw [List.contains_iff_mem.2 h] at hea;cases hea
 intro a ha
 refine wp_region_any hm (xD (t0:=a.tmps) (d0:=a.defers) (V:=VG al ef) (I:=IG al ef jy lo ca ta Os Gs Lr.reverse) (G:=GG w0 K lo ca ta Os Gs) (k:=k) (by simpa using hk) (by rw [ha.size];exact ht) (fun i hi=>(h2 i hi).step a ha) ?_ _ ⟨none,[]⟩ _ _ _ (by simp) (iD _) (fun j hj=>by rw [Array.getD_eq_getD_getElem?,Array.getElem?_replicate] at hj;split at hj<;>simp at hj) ⟨rfl,rfl,fun _ _=>rfl,⟨by unfold OE;exact hS.drew,by rw [hlo];exact Nat.le_refl _,(fun q hq=>by cases hq)⟩,⟨fun a _=>?_,(fun q hq=>by cases hq),List.Pairwise.nil,?_⟩,fun i d _ hj=>?_⟩)
 ·intro s LB a' W' hR hdone
  obtain ⟨hG,hG2,hG3⟩:=hR.glob
  obtain ⟨v1,v2,v3,v4⟩:=hR.cons
  obtain ⟨ev,bs⟩:=s
  have hall:∀ x∈al,(x,bAt bs x)∈bs:=fun x hx=>uR ((v1 x hx).1 (hdone x (hal' x hx)))
  obtain ⟨y,hy⟩:∃ y,ev=some y:=by
   have h3:ev.isSome=true:=v4.1 (hdone ef (Nat.lt_of_lt_of_le (Nat.lt_succ_self _) (Nat.le_of_ble_eq_true hev)))
   exact Option.isSome_iff_exists.1 h3
  subst hy
  have hperm:bs.Perm (al.map (fun x=>(x,bAt bs x))):=by
   refine (List.perm_ext_iff_of_nodup (v3.imp (fun h e=>h (by rw [e]))) ?_).2 fun q=>?_
   ·refine List.Pairwise.map _ (fun x y (hxy:x≠y)=>?_) hnd
    intro e;exact hxy (congrArg Prod.fst e)
   ·constructor
    ·intro hq
     have h3:=hall q.1 (v2 q hq)
     have h4:=mI v3 hq h3 rfl
     rw [h4]
     exact List.mem_map.2 ⟨q.1,v2 q hq,rfl⟩
    ·intro hq
     obtain ⟨x,hx,rfl⟩:=List.mem_map.1 hq
     exact hall x hx
  have hO:(OE ca ta Os ⟨some y,bs⟩).Perm (al.map (fun a=>(bAt bs a,ca a (some y),ta a))++Os (some y)):=by
   unfold OE
   refine List.Perm.append_right _ ?_
   have:=hperm.map (fun q:Nat×Nat=>(q.2,ca q.1 (some y),ta q.1))
   rw [List.map_map] at this
   exact this
  have hG':=hG.perm hO
  have hX:∀ b,XB (OE ca ta Os ⟨some y,bs⟩) (Gs (some y)) b↔XB (al.map (fun a=>(bAt bs a,ca a (some y),ta a))++Os (some y)) (Gs (some y)) b:=fun b=>by
   unfold XB
   constructor
   ·rintro (⟨p,hp,e⟩ | h);exact .inl ⟨p,hO.mem_iff.1 hp,e⟩;exact .inr h
   ·rintro (⟨p,hp,e⟩ | h);exact .inl ⟨p,hO.mem_iff.2 hp,e⟩;exact .inr h
  obtain ⟨Ks,c1,⟨qw,c2,c3⟩,c4⟩:=Ey (((al.map (fun a=>(bAt bs a,ca a (some y),ta a))++Os (some y)).map (·.1))++(Gs (some y)).filterMap (fun g=>g.v.ownBlock)) lo W'
  have hG4:=hG'.more Ks (fun q hq=>⟨(c1 q hq).2.1,fun p hp=>(c1 q hq).2.2 p.1 (List.mem_append_left _ (List.mem_map.2 ⟨p,hp,rfl⟩)),fun g hg b hb=>(c1 q hq).2.2 b (List.mem_append_right _ (List.mem_filterMap.2 ⟨g,hg,hb⟩))⟩)
  have hcov:∀ {O2 G2 K2 W2},St w0 O2 G2 K2 W2→(∀ q∈Ks,q∈K2)→eP lo (XB (al.map (fun a=>(bAt bs a,ca a (some y),ta a))++Os (some y)) (Gs (some y))) W' W2:=fun {O2 G2 K2 W2} h2 hq=>by
   refine ⟨⟨h2.below.os.trans hG.below.os.symm,h2.below.tape.trans hG.below.tape.symm,h2.below.output.trans hG.below.output.symm⟩,?_,fun b b1 b2 b3=>?_⟩
   ·have:=(h2.kept qw (hq qw c2)).1.1;rw [c3] at this;exact this
   ·obtain ⟨q,q1,q2,q3⟩:=c4 b b1 b2 (fun hb=>b3 (by
     rcases List.mem_append.1 hb with hb | hb
     ·obtain ⟨p,hp,rfl⟩:=List.mem_map.1 hb
      exact .inl ⟨p,hp,rfl⟩
     ·obtain ⟨g,hg,e⟩:=List.mem_filterMap.1 hb
      exact .inr ⟨g,hg,e⟩))
    exact ((h2.kept q (hq q q1)).1.2 b q2 q3).trans ((c1 q q1).2.1.2 b q2 q3).symm
  have htk:(os.take k).length=k:=by simp;omega
  refine mH (os.take k) (Aq al ef jy lo (XB (al.map (fun a=>(bAt bs a,ca a (some y),ta a))++Os (some y)) (Gs (some y))) (bAt bs) y 0 Lr.reverse) (nQ ds l) (fun i d hi hd'=>?_) (fun i hi hd'=>?_) (hR.size.trans ha.size) (hR.defers.trans ha.defers) ?_ (fun l' h ha'=>?_) (hfin (bAt bs) y W' Ks (by rw [← hlo];exact hG2) (fun q hq=>(c1 q hq).1) hG4 hcov)
  ·have hik:i < k:=by omega
   have hd2:(os.toArray[i]?).bind (·.dst)=some d:=by rw [List.getElem?_take,if_pos hik] at hd';simpa using hd'
   obtain ⟨i1,i2,i3,i4⟩:=hR.done i d hd2 (hdone i hik)
   rw [kX Lr.reverse 0 i (by simp;omega),Nat.add_zero]
   cases hc1:al.contains i with
   | true =>
    rw [cond_true]
    obtain ⟨B,hB,e⟩:=i1 (List.contains_iff_mem.1 hc1)
    have:=mI v3 hB (hall i (List.contains_iff_mem.1 hc1)) rfl
    show _=_
    rw [e,show B=bAt bs i from congrArg Prod.snd this]
   | false =>
    rw [cond_false]
    have hni:i∉al:=fun hm'=>by rw [List.contains_iff_mem.2 hm'] at hc1;cases hc1
    cases hc2:Nat.beq i ef with
    | true =>
     rw [cond_true]
     have h5:=i2 (Nat.eq_of_beq_eq_true hc2)
     exact (Option.some.inj h5).symm
    | false =>
     rw [cond_false]
     have hne:i≠ef:=fun e=>by rw [e,Nat.beq_refl] at hc2;cases hc2
     have h6:AwS lo (XB (al.map (fun a=>(bAt bs a,ca a (some y),ta a))++Os (some y)) (Gs (some y))) (atI Lr.reverse i) (a'.tmps.getD d undef) W':=fun w2 hw2=>i4 hni hne w2 ⟨hw2.1,hw2.2.1,fun b b1 b2 b3=>hw2.2.2 b b1 b2 (fun hb=>b3 ((hX b).2 hb))⟩
     cases hc3:Nat.beq i jy with
     | true =>
      rw [cond_true]
      refine ⟨?_,h6⟩
      exact i3 (Nat.eq_of_beq_eq_true hc3) y rfl
     | false=>rw [cond_false];exact h6
  ·have hik:i < k:=by omega
   have h3:=List.all_eq_true.1 hdst i (List.mem_range.2 hik)
   rw [Bool.or_eq_true] at h3
   have hd2:(os.toArray[i]?).bind (·.dst)=none:=by rw [List.getElem?_take,if_pos hik] at hd';simpa using hd'
   rcases h3 with h3 | h3
   ·rw [kX Lr.reverse 0 i (by simp;omega),Nat.add_zero]
    have hc1:al.contains i=false:=by rw [Nat.eq_of_beq_eq_true h3];exact hea
    rw [hc1,cond_false,h3,cond_true]
    exact ⟨y,rfl⟩
   ·rw [hd2] at h3;cases h3
  ·intro t v hv hno
   have hl:=kW hv (eQ hv)
   have hnt:=eQ hv
   rw [hR.frame t ?_]
   ·exact ha.at_ t v hl
   ·unfold freeT;rw [Array.all_eq_true'];intro o' ho'
    have ho2:o'∈os:=by simpa using ho'
    rw [← List.take_append_drop k os] at ho2
    rcases List.mem_append.1 ho2 with ho2 | ho2
    ·simpa using hno o' ho2
    ·have h5:=List.all_eq_true.1 hds o' ho2
     cases hx:o'.dst with
     | none=>simp
     | some d =>
      rw [hx] at h5
      simp
      intro e;subst e
      exact hnt (List.contains_iff_mem.1 h5)
  ·have:=h a' ha'
   simpa using this
 ·rw [Array.getD_eq_getD_getElem?,Array.getElem?_replicate]
  constructor
  ·intro h3;split at h3<;>simp at h3
  ·rintro ⟨B,hB⟩;cases hB
 ·rw [Array.getD_eq_getD_getElem?,Array.getElem?_replicate]
  constructor
  ·intro h3;split at h3<;>simp at h3
  ·intro h3;cases h3
 ·rw [Array.getD_eq_getD_getElem?,Array.getElem?_replicate] at hj
  split at hj<;>simp at hj
end
section
variable {P:Program} {n:Nat} {Q:Exit→Act→World→Prop} {l:Fr} {w0 W:World} {ops:Array Oper} {os:List Oper} {K:List (Nat×World)} {L:List Asr} {i:Nat} {O:Own} {G:cR}
variable {al:List Nat} {zc:Nat→List Value} {ta:Nat→TypeId} {lo ef jy:Nat} {d:Nat} {ty:TypeId} {pos:String} {aft_:Array Edge} {v:Value}
def osY (O:Own) (j jx B:Nat) (cs:List Value) (U:TypeId):Option Value→Own
 | none=>O
 | some y=>O.set j (B,eJ cs jx y.cells.toList,U)
theorem gX {O:Own} {j jx B i:Nat} {cs:List Value} {U:TypeId} {ev:Option Value} {p:Nat×List Value×TypeId} (h:O[i]?=some p) (hij:Nat.beq i j=false):(osY O j jx B cs U ev)[i]?=some p:=by
 cases ev with
 | none=>exact h
 | some y =>
  show (O.set j _)[i]?=_
  rw [List.getElem?_set_ne (fun e=>by rw [e,Nat.beq_refl] at hij;cases hij)];exact h
theorem nH {T U:TypeId} {x:Operand} {tyy B m:Nat} {cs:List Value} {py:Asr} (j jx:Nat) (li:Fr) (hal:al.contains ef=false) (hij:Nat.beq ef jy=false) (hi:ops[ef]?=some ⟨none,.store T x (.tmp tyy),ty,pos,aft_,none⟩) (hjy:(ops[jy]?).bind (·.dst)=some tyy) (hwy:bO ops ef jy tyy=true) (hja:al.contains jy=false) (hLy:atI L jy=py) (hNo:nP al ef L) (hli:wX n ops l L ef li) (hx:evL li x=some (.pointer (some ⟨B,jx,none⟩)))
  (hO:O[j]?=some (B,cs,U)) (hsz:∀ w,(sizeOf T).run P w = .ok m w) (hpy:∀ v w,py v w→∃ vs:List Value,v.cells=vs.toArray∧vs.length=m∧vs.all Value.oneCell'=true) (hjm:Nat.ble (jx+m) cs.length=true):SG P n ops Q l w0 K lo al ef jy (sQ zc) ta (osY O j jx B cs U) (pR G) L ef :=
 L6 hal hij hi fun t0 a bs w h0 hF hG hbs hD=>by
  have hD':=vV h0 hF hD (fun j d _ hj=>hNo j hj)
  have ex:=nZ h0 hF hD' hli x _ hx
  have hy:=((hD jy tyy hwy).2.2.2 (fun h=>by rw [List.contains_iff_mem.2 h] at hja;cases hja) (fun e=>by rw [e,Nat.beq_refl] at hij;cases hij)).here
  rw [hLy] at hy
  obtain ⟨vs,hc,hl,h1⟩:=hpy _ _ hy
  have hcl:(a.eval (.tmp tyy)).cells.toList=vs:=by rw [hc]
  have hOk:(OE (sQ zc) ta (osY O j jx B cs U) ⟨none,bs⟩)[bs.length+j]?=some (B,cs,U):=by
   unfold OE
   rw [List.getElem?_append_right (by simp)]
   simpa [osY] using hO
  have hXB:XB (OE (sQ zc) ta (osY O j jx B cs U) ⟨none,bs⟩) (pR G none) B:=.inl ⟨_,List.mem_of_getElem? hOk,rfl⟩
  have hrun:=rT (P:=P) hsz hc hl h1 (hG.1.at_ _ hOk) (j:=jx) (Nat.le_of_ble_eq_true hjm)
  have hO':OE (sQ zc) ta (osY O j jx B cs U) ⟨some (a.eval (.tmp tyy)),bs⟩=(OE (sQ zc) ta (osY O j jx B cs U) ⟨none,bs⟩).set (bs.length+j) (B,eJ cs jx vs,U):=by
   unfold OE
   rw [List.set_append_right _ _ (by simp)]
   congr 1
   simp [osY,hcl]
  refine C1 hi rfl rfl rfl (by rw [ex];exact hrun) ⟨undef,a.eval (.tmp tyy),rfl,(fun d hd=>by cases hd),?_,pZ hXB,?_,fun d hd=>?_⟩
  ·rw [hO']
   exact hG.1.setMany _ vs jx hOk
  ·rintro b (⟨p,hp,rfl⟩ | h)
   ·rw [hO'] at hp
    rcases List.mem_or_eq_of_mem_set hp with hp | rfl
    ·exact .inl (.inl ⟨p,hp,rfl⟩)
    ·exact .inl hXB
   ·exact .inl (.inr h)
  ·rw [hjy] at hd;cases hd;rfl
end
section
variable {P:Program} {n:Nat} {Q:Exit→Act→World→Prop} {l:Fr} {w0 W:World} {ops:Array Oper} {os:List Oper} {K:List (Nat×World)} {L:List Asr} {i:Nat}
variable {al:List Nat} {ca:Nat→Option Value→List Value} {ta:Nat→TypeId} {Os:Option Value→Own} {Gs:Option Value→cR} {lo ef jy:Nat} {s:Sg}
variable {d:Nat} {op:Op} {ty:TypeId} {pos:String} {aft_:Array Edge} {v:Value} {gd:Option (Nat×Bool)}
end
section
variable {n:Nat} {Q:Exit→Act→World→Prop} {l:Fr} {w0 W:World} {ops:Array Oper} {os:List Oper} {K:List (Nat×World)} {L:List Asr} {i:Nat}
variable {al:List Nat} {ca:Nat→Option Value→List Value} {ta:Nat→TypeId} {Os:Option Value→Own} {Gs:Option Value→cR} {lo ef jy:Nat} {s:Sg}
variable {d:Nat} {ty:TypeId} {pos:String} {aft_:Array Edge}
theorem sg_ofs {P:Program} {op:Op} (dd:List (Nat×Nat×Asr)) (hal:al.contains i=false) (hie:Nat.beq i ef=false) (hij:oN ops ef jy i=true) (hi:ops[i]?=some ⟨some d,op,ty,pos,aft_,none⟩) (hNo:nP al ef L) {q:Asr} (hds:C2 ops L i dd) (hnd:dd.all (fun x => !(al.contains x.1) && !(Nat.beq x.1 ef))=true)
  (hr:∀ (ev:Operand→Value) w,qC dd ev w→∃ v,(execOp ev ⟨some d,op,ty,pos,#[],none⟩).run P w = .ok (.value v) w∧∀ w2,qC dd ev w2→q v w2) (hI:atI L i=q):SG P n ops Q l w0 K lo al ef jy ca ta Os Gs L i :=
 uP (fun h=>by rw [List.contains_iff_mem.2 h] at hal;cases hal) (fun e=>by rw [e,Nat.beq_refl] at hie;cases hie) (mG hij) hi hNo fun t0 a s w h0 hF hG he hD hD'=>by
  have key:∀ (dd:List (Nat×Nat×Asr)),C2 ops L i dd→dd.all (fun x => !(al.contains x.1) && !(Nat.beq x.1 ef))=true→∀ w2,eP lo (XB (OE ca ta Os s) (Gs s.ev)) w w2→qC dd a.eval w2:=by
   intro dd
   induction dd with
   | nil=>intro _ _ w2 _;trivial
   | cons x xs ih =>
    intro h hn w2 h2
    simp only [List.all_cons,Bool.and_eq_true,Bool.not_eq_true'] at hn
    refine ⟨?_,ih h.2 hn.2 w2 h2⟩
    have hA:=(hD x.1 x.2.1 h.1.1).2.2.2 (fun h9=>by rw [List.contains_iff_mem.2 h9] at hn;cases hn.1.1) (fun e=>by rw [e,Nat.beq_refl] at hn;cases hn.1.2)
    rw [h.1.2] at hA
    exact hA w2 h2
  obtain ⟨v,h1,h2⟩:=hr a.eval w (key dd hds hnd w (eP.refl _ _ _))
  exact Ap hi rfl (by rw [fO a.eval _ _ _ _ pos _ #[] _ none];exact h1) ⟨v,rfl,by rw [hI];exact fun w2 hw2=>h2 w2 (key dd hds hnd w2 hw2),Below.refl _ _⟩
end
end
section
open Go.RowKit Go.ChangeShapes Go.WideShapes Go.Deep
section
variable {H:Type} {enc:TypeId×Value→H} {w:World} {base:Nat} {spare:Nat→Bool} {held:Bool}
theorem yM {cs:List Value} (h:cs.length=3):∃ a b c,cs=[a,b,c]:=by
 match cs,h with
 | [a,b,c],_=>exact ⟨a,b,c,rfl⟩
theorem I6 {n:Nat} {cs:List Value} {x:DataW H×List MemPlace} (hl:cs.length=3) (h:DataW.trod enc prog w base spare held n 89 cs=some x) :
  ∃ c:Cl,c.f < 18446744073709551616∧cs=[.int .u64 (c.f:Int),.int .i64 c.k,.int .i64 c.v]:=by
 obtain ⟨xs,n',_,hx,_,hlen,hg⟩:=DataW.trod_struct underlying89 h
 obtain ⟨a,b,c,rfl⟩:=yM hl
 ·skip
  have hlen3:xs.length=3:=hlen
  have g0:=hg 0 _ rfl
  have g1:=hg 1 _ rfl
  have g2:=hg 2 _ rfl
  rw [show prog.cellsOf _=1 by kernel_rfl,List.getElem?_eq_getElem (by omega)] at g0 g1 g2
  obtain ⟨z0,e0,_,w0⟩:=DataW.trod_int underlying49 g0
  obtain ⟨z1,e1,_,w1⟩:=DataW.trod_int (k:=.i64) (by kernel_rfl) g1
  obtain ⟨z2,e2,_,w2⟩:=DataW.trod_int (k:=.i64) (by kernel_rfl) g2
  simp at e0 e1 e2
  subst e0 e1 e2
  have hw:0≤z0∧z0≤18446744073709551615:=by simpa [Lit.wf,IntKind.signed,IntKind.bits,IntKind.min,IntKind.max] using w0
  exact ⟨⟨z0.toNat,z1,z2⟩,by show z0.toNat < _;omega,by simp;omega⟩
theorem Hm:∀ (n:Nat) (p:Nat→Cl→Prop),(∀ i,i < n→∃ c,p i c)→∃ xs:List Cl,xs.length=n∧∀ i c,xs[i]?=some c→p i c
 | 0,p,h=>⟨[],rfl,fun i c hi=>by simp at hi⟩
 | n+1,p,h=>by
  obtain ⟨xs,hl,hp⟩:=Hm n p (fun i hi=>h i (by omega))
  obtain ⟨c,hc⟩:=h n (by omega)
  refine ⟨xs++[c],by simp [hl],fun i d hi=>?_⟩
  rcases Nat.lt_or_ge i n with h1 | h1
  ·rw [List.getElem?_append_left (by omega)] at hi
   exact hp i d hi
  ·obtain ⟨h2,_⟩:=List.getElem?_eq_some_iff.1 hi
   simp [hl] at h2
   obtain rfl:i=n:=by omega
   rw [List.getElem?_append_right (by omega),hl,Nat.sub_self] at hi
   simp at hi
   subst hi
   exact hc
theorem Ff {n:Nat} {a:Option Addr} {len cap:Nat} {x:DataW H×List MemPlace} (h:DataW.trod enc prog w base spare held n 53 [.slice a len cap]=some x) :
  ∃ xs,IsCells w a len cap xs:=by
 rcases open_slice underlying53 h with ⟨hcs,_⟩ | ⟨ad,len',cap',m,n',D,Pl,hcs,hb,hl,hm,hmm,hx,hi⟩
 ·simp at hcs
  obtain ⟨rfl,rfl,rfl⟩:=hcs
  exact ⟨[],rfl,by simp,.inl rfl,fun c hc=>by simp at hc⟩
 ·simp at hcs
  obtain ⟨rfl,rfl,rfl⟩:=hcs
  rw [show prog.cellsOf 89=3 by kernel_rfl] at hi
  obtain ⟨xs,hxl,hxs⟩:=Hm len (fun i c=>c.f < 18446744073709551616∧w.cell? (ad.add (i * 3))=some (.int .u64 (c.f:Int))∧w.cell? (ad.add (i * 3+1))=some (.int .i64 c.k)∧w.cell? (ad.add (i * 3+2))=some (.int .i64 c.v)) (fun i hil=>by
   obtain ⟨cs',hc,ht⟩:=hi i (by rw [hmm];split<;>omega)
   obtain ⟨_,hcl,hat⟩:=World.cells?_some hc
   obtain ⟨c,hf,rfl⟩:=I6 hcl ht
   have e0:=hat 0 (by omega)
   have e1:=hat 1 (by omega)
   have e2:=hat 2 (by omega)
   rw [add_add] at e0 e1 e2
   exact ⟨c,hf,e0,e1,e2⟩)
  refine ⟨xs,hxl.symm,by omega,?_,fun c hc=>?_⟩
  ·rcases Nat.eq_zero_or_pos len with h0 | h0
   ·exact .inl (List.length_eq_zero_iff.1 (by omega))
   ·obtain ⟨b,off,spot⟩:=ad
    obtain ⟨_,h1,_,_⟩:=hxs 0 (xs[0]'(by omega)) (List.getElem?_eq_getElem (by omega))
    have hspot:spot=none:=by simpa [Addr.add] using World.cell?_spot h1
    subst hspot
    refine .inr ⟨b,off,rfl,fun i c hic=>?_⟩
    have e:∀ k,({ block:=b,off:=off }:Addr).add k=⟨b,off+k,none⟩:=fun k=>by simp [Addr.add]
    have h3:=(hxs i c hic).2
    rw [e,e,e,← Nat.add_assoc,← Nat.add_assoc] at h3
    exact h3
  ·obtain ⟨i,hi',hic⟩:=List.mem_iff_getElem.1 hc
   exact (hxs i c (by rw [← hic];exact List.getElem?_eq_getElem hi')).1
end
section
variable {H:Type} {enc:TypeId×Value→H} {w:World} {base:Nat} {spare:Nat→Bool} {held:Bool}
theorem Fg {n:Nat} {cs:List Value} {x:DataW H×List MemPlace} (h:DataW.trod enc prog w base spare held n 53 cs=some x):∃ a len cap,cs=[.slice a len cap]:=by
 rcases open_slice underlying53 h with ⟨hcs,_⟩ | ⟨ad,len',cap',m,n',D,Pl,hcs,_⟩
 ·exact ⟨_,_,_,hcs⟩
 ·exact ⟨_,_,_,hcs⟩
end
end
section
open Go.RowKit Go.ChangeShapes Go.WideShapes Go.Deep Go.Joins
theorem kH {α:Type}:∀ (n:Nat) (p:Nat→α→Prop),(∀ i,i < n→∃ c,p i c)→∃ xs:List α,xs.length=n∧∀ i c,xs[i]?=some c→p i c
 | 0,p,h=>⟨[],rfl,fun i c hi=>by simp at hi⟩
 | n+1,p,h=>by
  obtain ⟨xs,hl,hp⟩:=kH n p (fun i hi=>h i (by omega))
  obtain ⟨c,hc⟩:=h n (by omega)
  refine ⟨xs++[c],by simp [hl],fun i d hi=>?_⟩
  rcases Nat.lt_or_ge i n with h1 | h1
  ·rw [List.getElem?_append_left (by omega)] at hi
   exact hp i d hi
  ·obtain ⟨h2,_⟩:=List.getElem?_eq_some_iff.1 hi
   simp [hl] at h2
   obtain rfl:i=n:=by omega
   rw [List.getElem?_append_right (by omega),hl,Nat.sub_self] at hi
   simp at hi
   subst hi
   exact hc
theorem SIn.more {w:World}:∀ {d e:Nat} {s:SV},d≤e→SIn w d s→SIn w e s
 | 0,_,_,_,h=>h.elim
 | d+1,0,_,hl,_=>by omega
 | d+1,e+1,.mk f ps,hl,⟨h1,h2,h3⟩=>⟨h1,h2,fun p hp=>SIn.more (by omega) (h3 p hp)⟩
theorem WIn.more {w:World}:∀ {d e:Nat} {s:WV},d≤e→WIn w d s→WIn w e s
 | 0,_,_,_,h=>h.elim
 | d+1,0,_,hl,_=>by omega
 | d+1,e+1,.mk f ps,hl,⟨h0,h1,h2,h3⟩=>⟨h0,h1,h2,fun p hp=>WIn.more (by omega) (h3 p hp)⟩
theorem Hn {cs:List Value} (h:cs.length=6):∃ a b c d e f,cs=[a,b,c,d,e,f]:=by
 match cs,h with
 | [a,b,c,d,e,f],_=>exact ⟨a,b,c,d,e,f,rfl⟩
theorem two_len {cs:List Value} (h:cs.length=2):∃ a b,cs=[a,b]:=by
 match cs,h with
 | [a,b],_=>exact ⟨a,b,rfl⟩
section
variable {H:Type} {enc:TypeId×Value→H} {w:World} {base:Nat} {spare:Nat→Bool} {held:Bool}
theorem Ml:∀ (fuel:Nat) {cs:List Value} {x:DataW H×List MemPlace},DataW.trod enc prog w base spare held fuel 25 cs=some x→∃ s:SV,cs=[.int .i64 s.f.tag,.int .i64 s.f.dim,.slice s.f.a s.f.len s.f.cap]∧SIn w fuel s:=by
 intro fuel
 induction fuel using Nat.strongRecOn with
 | _ fuel ih =>
 intro cs x h
 obtain ⟨xs,n,hn,_,hl,hlen,hg⟩:=DataW.trod_struct underlying25 h
 rw [show prog.cellsOf 25=3 by kernel_rfl] at hl
 obtain ⟨a,b,c,rfl⟩:=yM hl
 have hlen3:xs.length=3:=hlen
 have g0:=hg 0 _ rfl
 have g1:=hg 1 _ rfl
 have g2:=hg 2 _ rfl
 rw [show prog.cellsOf _=1 by kernel_rfl,List.getElem?_eq_getElem (by omega)] at g0 g1 g2
 obtain ⟨z0,e0,_,w0⟩:=DataW.trod_int (k:=.i64) (by kernel_rfl) g0
 obtain ⟨z1,e1,_,w1⟩:=DataW.trod_int (k:=.i64) (by kernel_rfl) g1
 simp at e0 e1
 subst e0 e1
 rcases DataW.trod_slice underlying23 g2 with ⟨hcs,_⟩ | ⟨ad,len,cap,elems,rest,n',hn',hcs,_,hb,hle,hcap,hel,hi,_,_⟩
 ·simp at hcs
  subst hcs
  subst hn
  exact ⟨.mk ⟨z0,z1,none,0,0⟩ [],rfl,rfl,.inl rfl,fun p hp=>by cases hp⟩
 ·simp at hcs
  subst hcs
  subst hn
  rw [show prog.cellsOf 25=3 by kernel_rfl] at hi
  obtain ⟨ps,hpl,hps⟩:=kH len (fun i (p:SV)=>(w.cell? (ad.add (i * 3))=some (.int .i64 p.f.tag)∧w.cell? (ad.add (i * 3+1))=some (.int .i64 p.f.dim)∧w.cell? (ad.add (i * 3+2))=some (.slice p.f.a p.f.len p.f.cap))∧SIn w n' p) (fun i hil=>by
   have hii:=hi i hil
   rw [List.getElem?_eq_getElem (by omega)] at hii
   obtain ⟨cs',hc,ht⟩:=Option.bind_eq_some_iff.1 hii
   obtain ⟨_,hcl,hat⟩:=World.cells?_some hc
   obtain ⟨s,rfl,hs⟩:=ih n' (by omega) ht
   have e0:=hat 0 (by omega)
   have e1:=hat 1 (by omega)
   have e2:=hat 2 (by omega)
   rw [Go.Deep.add_add] at e0 e1 e2
   exact ⟨s,⟨e0,e1,e2⟩,hs⟩)
  refine ⟨.mk ⟨z0,z1,some ad,len,cap⟩ ps,rfl,hpl,?_,fun p hp=>?_⟩
  ·rcases Nat.eq_zero_or_pos len with h0 | h0
   ·exact .inl (List.length_eq_zero_iff.1 (by omega))
   ·obtain ⟨b,off,spot⟩:=ad
    obtain ⟨⟨h1,_,_⟩,_⟩:=hps 0 (ps[0]'(by omega)) (List.getElem?_eq_getElem (by omega))
    have hspot:spot=none:=by simpa [Addr.add] using World.cell?_spot h1
    subst hspot
    refine .inr ⟨b,off,rfl,fun i c hic=>?_⟩
    have e:∀ k,({ block:=b,off:=off }:Addr).add k=⟨b,off+k,none⟩:=fun k=>by simp [Addr.add]
    have h3:=(hps i c hic).1
    rw [e,e,e,← Nat.add_assoc,← Nat.add_assoc] at h3
    exact h3
  ·obtain ⟨i,hi',hic⟩:=List.mem_iff_getElem.1 hp
   exact (hps i p (by rw [← hic];exact List.getElem?_eq_getElem hi')).2.more (by omega)
theorem I7 {n:Nat} {v:Value} {x:DataW H×List MemPlace} (h:DataW.trod enc prog w base spare held n 50 [v]=some x) :
  ∃ (a:Option Addr) (len cap:Nat) (rows:List Nat),v = .slice a len cap∧gQ w a (dT rows)∧rows.length=len∧∀ r∈rows,r < 18446744073709551616:=by
 rcases open_ints (t:=50) (e:=49) (k:=.u64) (by kernel_rfl) (by kernel_rfl) (by kernel_rfl) h with ⟨hcs,_⟩ | ⟨x,len,cap,zs,hcs,_,hl,hm,hz,_,hcell,hwz⟩
 ·have hcs':v = .slice none 0 0:=by simpa using hcs
  subst hcs'
  exact ⟨none,0,0,[],rfl,.inl rfl,rfl,fun r hr=>by cases hr⟩
 ·have hcs':v = .slice (some x) len cap:=by simpa using hcs
  subst hcs'
  have hzl:len≤zs.length:=by rw [hz];split<;>omega
  refine ⟨some x,len,cap,(zs.take len).map Int.toNat,rfl,?_,?_,?_⟩
  ·rcases Nat.eq_zero_or_pos len with h0 | h0
   ·subst h0;exact .inl (by simp [dT])
   ·obtain ⟨b,off,spot⟩:=x
    have hc0:=hcell 0 (by omega)
    have hspot:spot=none:=by simpa [Addr.add] using World.cell?_spot hc0
    subst hspot
    refine .inr ⟨b,off,rfl,fun i v hi=>?_⟩
    obtain ⟨q,hq,rfl⟩:=zT hi
    rw [List.getElem?_map,List.getElem?_take] at hq
    split at hq
    ·rename_i hlt
     have hi2:i < zs.length:=by omega
     rw [List.getElem?_eq_getElem hi2] at hq
     have hq':(zs[i]).toNat=q:=by simpa using hq
     obtain ⟨m,hm1,hm2⟩:=zZ (hwz _ (List.getElem_mem hi2))
     have hc:=hcell i hi2
     have e:({ block:=b,off:=off }:Addr).add i=⟨b,off+i,none⟩:=by simp [Addr.add]
     rw [e] at hc
     rw [hc]
     have:zs.getD i 0=zs[i]:=by simp [List.getD,List.getElem?_eq_getElem hi2]
     rw [this,hm1,← hq',hm1]
     rfl
    ·cases hq
  ·simp;omega
  ·intro r hr
   obtain ⟨z,hz1,rfl⟩:=List.mem_map.1 hr
   obtain ⟨m,hm1,hm2⟩:=zZ (hwz z (List.mem_of_mem_take hz1))
   rw [hm1];exact hm2
theorem Mm {n:Nat} {a b:Value} {x:DataW H×List MemPlace} (h:DataW.trod enc prog w base spare held n 52 [a,b]=some x) :
  ∃ (g:Nat) (ra:Option Addr) (rl rc:Nat) (rows:List Nat),a = .int .u64 (g:Int)∧b = .slice ra rl rc∧g < 18446744073709551616∧gQ w ra (dT rows)∧rows.length=rl∧∀ r∈rows,r < 18446744073709551616:=by
 obtain ⟨xs,n',_,_,hl,hlen,hg⟩:=DataW.trod_struct underlying52 h
 have hlen2:xs.length=2:=hlen
 have g0:=hg 0 _ rfl
 have g1:=hg 1 _ rfl
 rw [show prog.cellsOf _=1 by kernel_rfl,List.getElem?_eq_getElem (by omega)] at g0 g1
 obtain ⟨z0,e0,_,w0⟩:=DataW.trod_int (k:=.u64) (by kernel_rfl) g0
 simp at e0
 subst e0
 obtain ⟨g,rfl,hg64⟩:=zZ w0
 obtain ⟨ra,rl,rc,rows,e1,h1,h2,h3⟩:=I7 (v:=b) g1
 exact ⟨g,ra,rl,rc,rows,rfl,e1,hg64,h1,h2,h3⟩
theorem I8:∀ (fuel:Nat) {cs:List Value} {x:DataW H×List MemPlace},DataW.trod enc prog w base spare held fuel 56 cs=some x→∃ s:WV,cs=s.f.six∧WIn w fuel s:=by
 intro fuel
 induction fuel using Nat.strongRecOn with
 | _ fuel ih =>
 intro cs x h
 obtain ⟨xs,n,hn,_,hl,hlen,hg⟩:=DataW.trod_struct underlying56 h
 rw [show prog.cellsOf 56=6 by kernel_rfl] at hl
 obtain ⟨a,b,c,d,e,f,rfl⟩:=Hn hl
 have hlen5:xs.length=5:=hlen
 have g0:=hg 0 _ rfl
 have g1:=hg 1 _ rfl
 have g2:=hg 2 _ rfl
 have g3:=hg 3 _ rfl
 have g4:=hg 4 _ rfl
 rw [show prog.cellsOf _=1 by kernel_rfl,List.getElem?_eq_getElem (by omega)] at g0 g1 g3 g4
 rw [show prog.cellsOf _=2 by kernel_rfl,List.getElem?_eq_getElem (by omega)] at g2
 obtain ⟨z0,e0,_⟩:=DataW.trod_bool (by kernel_rfl) g0
 obtain ⟨z1,e1,_,w1⟩:=DataW.trod_int (k:=.i64) (by kernel_rfl) g1
 simp at e0 e1
 subst e0 e1
 obtain ⟨gg,ra,rl,rc,rows,rfl,rfl,hg64,hrow,hrl,hr64⟩:=Mm (a:=c) (b:=d) g2
 obtain ⟨ca,cl,cc,e3⟩:=Fg g3
 have e3':e = .slice ca cl cc:=by simpa using e3
 subst e3'
 obtain ⟨cells,hcl,hcm,hcrow,hcbits⟩:=Ff (a:=ca) (len:=cl) (cap:=cc) g3
 rcases DataW.trod_slice underlying54 g4 with ⟨hcs,_⟩ | ⟨ad,len,cap,elems,rest,n',hn',hcs,_,hb,hle,hcap,hel,hi,_,_⟩
 ·simp at hcs
  subst hcs
  subst hn
  exact ⟨.mk ⟨z0,z1,gg,ra,rl,rc,rows,ca,cl,cc,cells,none,0,0⟩ [],rfl,⟨hrow,hrl,hg64,hr64,hcrow,hcl.symm,hcbits,by dsimp only;omega⟩,rfl,.inl rfl,fun p hp=>by cases hp⟩
 ·simp at hcs
  subst hcs
  subst hn
  rw [show prog.cellsOf 56=6 by kernel_rfl] at hi
  obtain ⟨ps,hpl,hps⟩:=kH len (fun i (p:WV)=>(w.cell? (ad.add (i * 6))=some (.bool p.f.z)∧w.cell? (ad.add (i * 6+1))=some (.int .i64 p.f.c)∧w.cell? (ad.add (i * 6+2))=some (.int .u64 (p.f.g:Int))∧w.cell? (ad.add (i * 6+3))=some (.slice p.f.ra p.f.rl p.f.rc)∧w.cell? (ad.add (i * 6+4))=some (.slice p.f.ca p.f.cl p.f.cc)∧w.cell? (ad.add (i * 6+5))=some (.slice p.f.pa p.f.pl p.f.pc))∧WIn w n' p) (fun i hil=>by
   have hii:=hi i hil
   rw [List.getElem?_eq_getElem (by omega)] at hii
   obtain ⟨cs',hc,ht⟩:=Option.bind_eq_some_iff.1 hii
   obtain ⟨_,hcl,hat⟩:=World.cells?_some hc
   obtain ⟨s,rfl,hs⟩:=ih n' (by omega) ht
   have e0:=hat 0 (by omega)
   have e1:=hat 1 (by omega)
   have e2:=hat 2 (by omega)
   have e3:=hat 3 (by omega)
   have e4:=hat 4 (by omega)
   have e5:=hat 5 (by omega)
   rw [Go.Deep.add_add] at e0 e1 e2 e3 e4 e5
   exact ⟨s,⟨e0,e1,e2,e3,e4,e5⟩,hs⟩)
  refine ⟨.mk ⟨z0,z1,gg,ra,rl,rc,rows,ca,cl,cc,cells,some ad,len,cap⟩ ps,rfl,⟨hrow,hrl,hg64,hr64,hcrow,hcl.symm,hcbits,by dsimp only;omega⟩,hpl,?_,fun p hp=>?_⟩
  ·rcases Nat.eq_zero_or_pos len with h0 | h0
   ·exact .inl (List.length_eq_zero_iff.1 (by omega))
   ·obtain ⟨b,off,spot⟩:=ad
    obtain ⟨⟨h1,_⟩,_⟩:=hps 0 (ps[0]'(by omega)) (List.getElem?_eq_getElem (by omega))
    have hspot:spot=none:=by simpa [Addr.add] using World.cell?_spot h1
    subst hspot
    refine .inr ⟨b,off,rfl,fun i c hic=>?_⟩
    have e:∀ k,({ block:=b,off:=off }:Addr).add k=⟨b,off+k,none⟩:=fun k=>by simp [Addr.add]
    have h3:=(hps i c hic).1
    rw [e,e,e,e,e,e,← Nat.add_assoc,← Nat.add_assoc,← Nat.add_assoc,← Nat.add_assoc,← Nat.add_assoc] at h3
    exact h3
  ·obtain ⟨i,hi',hic⟩:=List.mem_iff_getElem.1 hp
   exact (hps i p (by rw [← hic];exact List.getElem?_eq_getElem hi')).2.more (by omega)
end
theorem ten_len {cs:List Value} (h:cs.length=10):∃ a b c d e f g i j k,cs=[a,b,c,d,e,f,g,i,j,k]:=by
 match cs,h with
 | [a,b,c,d,e,f,g,i,j,k],_=>exact ⟨a,b,c,d,e,f,g,i,j,k,rfl⟩
theorem qV {w:World} {b:Nat}:∀ (vs:List Value) (o:Nat),(∀ (j:Nat) u,vs[j]?=some u→w.cell? ⟨b,o+j,none⟩=some u)→aK w b o vs
 | [],_,_=>trivial
 | v::vs,o,h=>⟨h 0 v rfl,qV vs (o+1) fun j u hj=>by have:=h (j+1) u (by simpa using hj);rwa [show o+1+j=o+(j+1) by omega]⟩
section
variable {H:Type} {enc:TypeId×Value→H} {w:World} {base:Nat} {spare:Nat→Bool} {held:Bool}
theorem Ay {n:Nat} {v:Value} {x:DataW H×List MemPlace} (h:DataW.trod enc prog w base spare held n 30 [v]=some x) :
  ∃ (a:Option Addr) (len cap:Nat) (zs:List Int),v = .slice a len cap∧Row w a zs∧zs.length=len∧len≤cap∧cap≤maxLen:=by
 rcases open_ints (t:=30) (e:=3) (k:=.i64) (by kernel_rfl) (by kernel_rfl) (by kernel_rfl) h with ⟨hcs,_⟩ | ⟨x,len,cap,zs,hcs,_,hl,hm,hz,_,hcell,hwz⟩
 ·have hcs':v = .slice none 0 0:=by simpa using hcs
  subst hcs'
  exact ⟨none,0,0,[],rfl,.inl rfl,rfl,Nat.le_refl _,Nat.zero_le _⟩
 ·have hcs':v = .slice (some x) len cap:=by simpa using hcs
  subst hcs'
  have hzl:len≤zs.length:=by rw [hz];split<;>omega
  refine ⟨some x,len,cap,zs.take len,rfl,?_,by simp;omega,hl,hm⟩
  rcases Nat.eq_zero_or_pos len with h0 | h0
  ·subst h0;exact .inl (by simp)
  ·obtain ⟨b,off,spot⟩:=x
   have hc0:=hcell 0 (by omega)
   have hspot:spot=none:=by simpa [Addr.add] using World.cell?_spot hc0
   subst hspot
   refine .inr ⟨b,off,rfl,fun i hi=>?_⟩
   have hi1:i < len:=by simp at hi;omega
   have hi2:i < zs.length:=by omega
   have hc:=hcell i hi2
   have e:({ block:=b,off:=off }:Addr).add i=⟨b,off+i,none⟩:=by simp [Addr.add]
   rw [e] at hc
   rw [hc]
   simp [List.getD,List.getElem?_take,hi1]
theorem rule_in {n:Nat} {cs:List Value} {x:DataW H×List MemPlace} (h:DataW.trod enc prog w base spare held n 93 cs=some x):∃ r:RV,cs=r.ten∧RIn w n r:=by
 obtain ⟨xs,n',hn,_,hl,hlen,hg⟩:=DataW.trod_struct underlying93 h
 rw [show prog.cellsOf 93=10 by kernel_rfl] at hl
 obtain ⟨a,b,c,d,e,f,g,i,j,k,rfl⟩:=ten_len hl
 have hlen5:xs.length=5:=hlen
 have g0:=hg 0 _ rfl
 have g1:=hg 1 _ rfl
 have g2:=hg 2 _ rfl
 have g3:=hg 3 _ rfl
 have g4:=hg 4 _ rfl
 rw [show prog.cellsOf _=1 by kernel_rfl,List.getElem?_eq_getElem (by omega)] at g0 g1 g2 g3
 rw [show prog.cellsOf _=6 by kernel_rfl,List.getElem?_eq_getElem (by omega)] at g4
 obtain ⟨z0,e0,_,w0⟩:=DataW.trod_int (k:=.i64) (by kernel_rfl) g0
 obtain ⟨z1,e1,_,w1⟩:=DataW.trod_int (k:=.i64) (by kernel_rfl) g1
 obtain ⟨z2,e2,_,w2⟩:=DataW.trod_int (k:=.i64) (by kernel_rfl) g2
 simp at e0 e1 e2
 subst e0 e1 e2
 obtain ⟨ra,rl,rc,ws,rfl,hrow,hrl,_,_⟩:=Ay (v:=d) g3
 obtain ⟨s,e4,hs⟩:=I8 n' g4
 have e4':[e,f,g,i,j,k]=s.f.six:=by simpa using e4
 simp only [List.cons.injEq,and_true] at e4'
 obtain ⟨rfl,rfl,rfl,rfl,rfl,rfl⟩:=e4'
 exact ⟨⟨z0,z1,z2,ra,rl,rc,ws,s⟩,rfl,hrow,hrl,hs.more (by omega)⟩
theorem pds_in {n:Nat} {cs:List Value} {x:DataW H×List MemPlace} (h:DataW.trod enc prog w base spare held n 28 cs=some x):∃ p:PV,cs=p.six∧PvIn w n n p:=by
 obtain ⟨xs,n',hn,_,hl,hlen,hg⟩:=DataW.trod_struct underlying28 h
 rw [show prog.cellsOf 28=6 by kernel_rfl] at hl
 obtain ⟨a,b,c,d,e,f,rfl⟩:=Hn hl
 have hlen4:xs.length=4:=hlen
 have g0:=hg 0 _ rfl
 have g1:=hg 1 _ rfl
 have g2:=hg 2 _ rfl
 have g3:=hg 3 _ rfl
 rw [show prog.cellsOf _=3 by kernel_rfl,List.getElem?_eq_getElem (by omega)] at g0
 rw [show prog.cellsOf _=1 by kernel_rfl,List.getElem?_eq_getElem (by omega)] at g1 g2 g3
 obtain ⟨s,es,hs⟩:=Ml n' g0
 have es':[a,b,c]=[.int .i64 s.f.tag,.int .i64 s.f.dim,.slice s.f.a s.f.len s.f.cap]:=by simpa using es
 simp only [List.cons.injEq,and_true] at es'
 obtain ⟨rfl,rfl,rfl⟩:=es'
 obtain ⟨z1,e1,_,w1⟩:=DataW.trod_int (k:=.i64) (by kernel_rfl) g1
 obtain ⟨z2,e2,_,w2⟩:=DataW.trod_int (k:=.i64) (by kernel_rfl) g2
 simp at e1 e2
 subst e1 e2
 rcases DataW.trod_slice underlying26 g3 with ⟨hcs,_⟩ | ⟨ad,len,cap,elems,rest,n2,hn2,hcs,_,hb,hle,hcap,hel,hi,_,_⟩
 ·simp at hcs
  subst hcs
  exact ⟨⟨s,z1,z2,none,0,0,[]⟩,rfl,hs.more (by omega),.inl rfl,rfl,fun r hr=>by cases hr⟩
 ·simp at hcs
  subst hcs
  rw [show prog.cellsOf 93=10 by kernel_rfl] at hi
  obtain ⟨rs,hrl,hrs⟩:=kH len (fun i (r:RV)=>(∀ (j:Nat) u,r.ten[j]?=some u→w.cell? (ad.add (i * 10+j))=some u)∧RIn w n2 r) (fun i hil=>by
   have hii:=hi i hil
   rw [List.getElem?_eq_getElem (by omega)] at hii
   obtain ⟨cs',hc,ht⟩:=Option.bind_eq_some_iff.1 hii
   obtain ⟨_,hcl,hat⟩:=World.cells?_some hc
   obtain ⟨r,rfl,hr⟩:=rule_in ht
   refine ⟨r,fun j u hj=>?_,hr⟩
   have hj10:j < 10:=(List.getElem?_eq_some_iff.1 hj).1
   have h0:=hat j (by omega)
   rw [Go.Deep.add_add] at h0
   rw [h0];exact hj)
  refine ⟨⟨s,z1,z2,some ad,len,cap,rs⟩,rfl,hs.more (by omega),?_,hrl,fun r hr=>?_⟩
  ·rcases Nat.eq_zero_or_pos len with h0 | h0
   ·exact .inl (List.length_eq_zero_iff.1 (by dsimp only;omega))
   ·obtain ⟨b,off,spot⟩:=ad
    have h1:=(hrs 0 (rs[0]'(by omega)) (List.getElem?_eq_getElem (by omega))).1 0 _ rfl
    have hspot:spot=none:=by simpa [Addr.add] using World.cell?_spot h1
    subst hspot
    refine .inr ⟨b,off,rfl,fun i r hir=>qV _ _ fun j u hj=>?_⟩
    have h3:=(hrs i r hir).1 j u hj
    have e:∀ k,({ block:=b,off:=off }:Addr).add k=⟨b,off+k,none⟩:=fun k=>by simp [Addr.add]
    rw [e,← Nat.add_assoc] at h3
    exact h3
  ·obtain ⟨i,hi',hic⟩:=List.mem_iff_getElem.1 hr
   have h4:=(hrs i r (by rw [← hic];exact List.getElem?_eq_getElem hi')).2
   exact ⟨h4.row,h4.len,h4.x.more (by omega)⟩
theorem Mn {r:Reach} {b0:Nat} {v:Value} {d:DataW H} {p:List MemPlace} (hv:Value.okWide prog w r b0 28 v) (h:DataW.Trod enc prog w base spare held 28 v d p) :
  ∃ (n:Nat) (s:PV),v=s.val∧PvIn w n n s:=by
 obtain ⟨cs,rfl,_⟩:=okWide_struct underlying28 hv
 obtain ⟨n,h⟩:=h
 obtain ⟨s,e,hs⟩:=pds_in (n:=n) h
 have e':cs.toList=_:=e
 exact ⟨n,s,by show Value.agg cs=Value.agg _;congr 1;exact Array.ext' e',hs⟩
end
end
section
open Go.RowKit
theorem nI {n:Nat} {w A W:World} (hn:n=w.heap.size) (h1:Below n w A) (h2:Below n w W) (h3:cZ n A W):Below A.heap.size A W where
 os:=h2.os.trans h1.os.symm
 tape:=h2.tape.trans h1.tape.symm
 output:=h2.output.trans h1.output.symm
 size:=h3.1
 block:=fun k hk=>by
  rcases Nat.lt_or_ge k n with h | h
  ·exact (h2.block k h).trans (h1.block k h).symm
  ·exact h3.2 k h hk
theorem PdsOk.below {w w':World} {S:PS} {px:RV→PX} {p:PV} (h:PdsOk w S px p) (hb:Below w.heap.size w w'):PdsOk w' S px p:=⟨h.chk,h.ok,h.si.below hb,fun r hr=>(h.x r hr).below hb,h.rl,h.w4,h.st,h.sy,h.rule⟩
theorem Da {w:World} {ds d:Nat} {p:PV} (hp:PvIn w ds d p):∃ S px,dX p=0→PdsOk w S px p:=by
 by_cases h:dX p=0
 ·obtain ⟨S,px,hk⟩:=Me hp h
  exact ⟨S,px,fun _=>hk⟩
 ·exact ⟨.one 0 0,fun _=>eV (.one 0 0),fun h9=>absurd h9 h⟩
def jU (M:World→Prop):Prop:=∀ W W',M W→Below W.heap.size W W'→M W'
def qW (M:World→Prop) (t n:Int) (f:WF) (x:PF):Prop:=∀ W,M W→PIs W t n f x
def iH (M:World→Prop):PS→WF→PX→Prop
 | .one t n,f,.one a=>qW M t n f a
 | .two t n u m,f,.two a b=>f.pf=pC 0∧f.rl=0∧f.cl=0∧f.pl=2∧∃ blk off g h,f.pa=some ⟨blk,off,none⟩∧(∀ W,M W→W6 W blk off g∧W6 W blk (off+6) h)∧qW M t n g a∧qW M u m h b
 | _,_,_=>False
theorem iH.is {M:World→Prop} {S:PS} {f:WF} {x:PX} {w:World} (h:iH M S f x) (hM:M w):XIs w S f x:=by
 cases S<;>cases x<;>first | exact h.elim | exact (show qW M _ _ f _ from h) w hM | skip
 obtain ⟨h1,h2,h3,h4,blk,off,g,k,h5,h6,h7,h8⟩:=h
 exact ⟨h1,h2,h3,h4,blk,off,g,k,h5,(h6 w hM).1,(h6 w hM).2,h7 w hM,h8 w hM⟩
theorem iH.mono {M M':World→Prop} {S:PS} {f:WF} {x:PX} (h:iH M S f x) (hm:∀ W,M' W→M W):iH M' S f x:=by
 cases S<;>cases x<;>first | exact h.elim | exact (fun W hW=>(show qW M _ _ f _ from h) W (hm W hW)) | skip
 obtain ⟨h1,h2,h3,h4,blk,off,g,k,h5,h6,h7,h8⟩:=h
 exact ⟨h1,h2,h3,h4,blk,off,g,k,h5,fun W hW=>h6 W (hm W hW),fun W hW=>h7 W (hm W hW),fun W hW=>h8 W (hm W hW)⟩
theorem kU.far {lo:Nat} {A:World} {S:PS} {f:WF} {x:PX} (h:kU lo A S f x):iH (fun W=>cZ lo A W) S f x:=by
 cases S<;>cases x<;>first | exact h.elim | exact (fun W hW=>(PNew.agree h hW).is) | skip
 obtain ⟨h1,h2,h3,h4,blk,g,k,h5,h0,h6,h7,h8,h9⟩:=h
 exact ⟨h1,h2,h3,h4,blk,0,g,k,h5,fun W hW=>⟨h6.agree h0 hW,h7.agree h0 hW⟩,fun W hW=>(h8.agree hW).is,fun W hW=>(h9.agree hW).is⟩
theorem XIs.far {w:World} {S:PS} {f:WF} {x:PX} (h:XIs w S f x):iH (fun W=>Below w.heap.size w W) S f x:=by
 cases S<;>cases x<;>first | exact h.elim | exact (fun W hW=>PIs.below h hW) | skip
 obtain ⟨h1,h2,h3,h4,blk,off,g,k,h5,h6,h7,h8,h9⟩:=h
 exact ⟨h1,h2,h3,h4,blk,off,g,k,h5,fun W hW=>⟨h6.below hW,h7.below hW⟩,fun W hW=>h8.below hW,fun W hW=>h9.below hW⟩
def Mo (M:World→Prop) (S:PS) (x:PX) (w:World) (e:Ending) (w':World):Prop:=∃ f:WF,e = .returned f.val∧iH (fun W=>M W∧cZ w.heap.size w' W) S f x∧Below w.heap.size w w'
def nS (M:World→Prop) (lo:Nat) (S:PS) (x:PX):Asr:=fun v w=>∃ f:WF,v=f.val∧iH (fun W=>M W∧cZ lo w W) S f x
theorem wF {M:World→Prop} {lo:Nat} {S:PS} {x:PX}:kL (nS M lo S x):=fun v w w' ⟨f,h1,h2⟩ hb=>⟨f,h1,h2.mono fun W hW=>⟨hW.1,(aP hb lo).trans hW.2⟩⟩
theorem wG {P:Program} {f:FuncId} {vs:Array Value} {M:World→Prop} {w:World} {S:PS} {x:PX} {lo:Nat} (hlo:lo≤w.heap.size) (h:Calls P f vs w (Mo M S x w)):Calls P f vs w (Be (nS M lo S x) w):=h.mono fun e w' ⟨f,he,hn,hb⟩=>⟨f.val,he,⟨f,rfl,hn.mono fun W hW=>⟨hW.1,hW.2.mono hlo⟩⟩,hb⟩
theorem wH {M:World→Prop} {w W:World} {t n:Int} {f:WF} {x:PF} (h:PNew w.heap.size W t n f x) (hb:Below w.heap.size w W):Mo M (.one t n) (.one x) w (.returned f.val) W:=⟨f,rfl,fun W2 hW=>(h.agree hW.2).is,hb⟩
section
variable {w W:World} {k:Nat} {n:Int} {f g:WF} {x y:PF}
theorem Mp (hx:PIs w 2 n f x) (hy:PIs w 2 n g y) (hf:f.z=false) (hg:g.z=false) (p0:0≤f.c) (p1:f.c≤n) (q0:0≤g.c) (q1:g.c≤n):PNew k W 2 n (yD (min f.c g.c)) (fH 2 n x y):=by
 obtain ⟨rfl,_,_⟩:=hx.k2 hf
 obtain ⟨rfl,_,_⟩:=hy.k2 hg
 rw [Lc]
 exact oJ (.cost _ rfl (by omega) (by omega))
theorem Mq {m:Nat} {a:Option Addr} {cap:Nat} (hx:PIs w 4 m f x) (hy:PIs w 4 m g y) (hf:f.z=false) (hg:g.z=false) (hv:lS W a (iY f.cells g.cells)) (hl:∀ ad,a=some ad→k≤ad.block):PNew k W 4 m (qO a cap (iY f.cells g.cells)) (fH 4 m x y):=by
 obtain ⟨hx',h0⟩:=hx.k4 hf
 obtain ⟨hy',h1⟩:=hy.k4 hg
 have hv2:=K7 h0 h1
 rw [hx',hy',Le]
 exact sO (.cells m _ rfl rfl hv2) hv2.bits (by have:=hv2.le;have:=hv2.len;unfold maxLen;omega) hv hl
end
def wI (M:World→Prop) (lo:Nat) (S:PS) (x:PX):Asr:=fun v w=>∃ b,v = .slice (some ⟨b,0,none⟩) 2 2∧iH (fun W=>M W∧cZ lo w W) S (oI b) x
theorem xE {M:World→Prop} {lo:Nat} {S:PS} {x:PX}:kL (wI M lo S x):=fun v w w' ⟨b,h1,h2⟩ hb=>⟨b,h1,h2.mono fun W hW=>⟨hW.1,(aP hb lo).trans hW.2⟩⟩
section
variable {n:Nat} {Q:Exit→Act→World→Prop} {l:Fr} {W:World} {ops:Array Oper} {L:List Asr} {i d:Nat} {ty:TypeId} {pos:String} {aft:Array Edge} {gd:Option (Nat×Bool)} {t k u m:Int} {x y:PF} {p q:Operand} {M:World→Prop}
theorem I9 (hi:ops[i]?=some ⟨some d,.buildSlice 54 2 (List.toArray [(0,p),(1,q)]),ty,pos,aft,gd⟩) (hw:gT ops L i ⟨some d,.buildSlice 54 2 (List.toArray [(0,p),(1,q)]),ty,pos,aft,gd⟩) (hp:wY n ops l L i [p,q] [nS M W.heap.size (.one t k) (.one x),nS M W.heap.size (.one u m) (.one y)]) (hI:atI L i=wI M W.heap.size (.two t k u m) (.two x y)):RG prog n ops Q l W L i :=
 zC [nS M W.heap.size (.one t k) (.one x),nS M W.heap.size (.one u m) (.one y)] hi hw underlying54 sizeOf56 zeroValue56 rfl rfl hp fun vs w hb hh=>by
  obtain ⟨v1,v2,rfl,⟨f,rfl,hf⟩,g,rfl,hg⟩:=Et hh
  refine ⟨f.six++g.six,F8 _ _ _ _ _ _ _ _ _ _ _ _,fun B w' hB h1 h2=>?_⟩
  rw [hI]
  rcases frow2 h1 with h | ⟨b,off,e,h3⟩
  ·cases h
  ·cases e
   have hlo:W.heap.size≤B:=by rw [← hB];exact hb.size
   exact ⟨B,rfl,rfl,rfl,rfl,rfl,B,0,f,g,rfl,fun W2 hW=>⟨(h3 0 f rfl).agree hlo hW.2,(h3 1 g rfl).agree hlo hW.2⟩,fun W2 hW=>(show qW _ t k f x from hf) W2 ⟨hW.1,(aP h2 _).trans hW.2⟩,fun W2 hW=>(show qW _ u m g y from hg) W2 ⟨hW.1,(aP h2 _).trans hW.2⟩⟩
end
theorem lV (M:World→Prop) (t n:Int) (sa:Option Addr) (sc:Nat) (f g:WF) (x y:PF) (w:World) (hp:bS t n 0=true) (hw:M w) (hfx:qW M t n f x) (hfy:qW M t n g y) :
  Calls prog 47 #[.agg #[.int .i64 t,.int .i64 n,.slice sa 0 sc],f.val,g.val] w (Mo M (.one t n) (.one (fH t n x y)) w):=by
 have hx:=hfx w hw
 have hy:=hfy w hw
 refine cG (args:=[.agg #[.int .i64 t,.int .i64 n,.slice sa 0 sc],f.val,g.val]) func47 rfl ntmps47 rfl ?_
 have hS:=St.start w
 refine aO (aR (bQ (cs:=[_,_,_]) hS rfl rfl rfl fun B1 W1 hS=>bQ (cs:=[_,_,_,_,_,_]) hS rfl rfl rfl fun B2 W2 hS=>bQ (cs:=[_,_,_,_,_,_]) hS rfl rfl rfl fun B3 W3 hS=>bU (cs:=[_,_,_,_,_,_]) hS zeroValue56 rfl rfl fun B4 W4 hS=>aQ (XF.thenN (aO (aO (aR (aN (o':=0) eD rfl rfl rfl (aT isAgg4 rfl (aJ (hS.at_ 2 rfl) rfl) rfl (aQ (XF.thenN (bC rfl (fun hc=>?_) (fun hc=>?_))))))))))))
 ·have hc10:=hc;clear hc
  have hz:=hc10
  refine aO (aR (aU (vs:=[_,_,_,_,_,_]) isAgg56 sizeOf56 rfl (aK.own (j:=0) (m:=6) (hS.at_ 1 rfl) rfl) rfl (bB (i:=0) (vs:=[_,_,_,_,_,_]) (cs':=[_,_,_,_,_,_]) (O':=[_,_,_,_]) hS sizeOf56 rfl rfl rfl rfl rfl rfl rfl fun W5 hS=>aQ (XF.thenN (bM (XF.thenR (XF.res (dY (vs:=[_,_,_,_,_,_]) results47 isAgg56 sizeOf56 rfl (aK.own (j:=0) (m:=6) (hS.at_ 0 rfl) rfl)) ?_)))))))
  exact ⟨g,rfl,fun W hM=>by rw [hx.zero hc10,pH];exact hfy W hM.1,hS.below⟩
 ·have hc10:=hc;clear hc
  have hf:=hc10
  refine bH (XF.thenN (aO (aO (aR (aN (o':=0) eD rfl rfl rfl (aT isAgg4 rfl (aJ (hS.at_ 1 rfl) rfl) rfl (aQ (XF.thenN (bC rfl (fun hc=>?_) (fun hc=>?_))))))))))
  ·have hc13:=hc;clear hc
   refine aO (aR (aU (vs:=[_,_,_,_,_,_]) isAgg56 sizeOf56 rfl (aK.own (j:=0) (m:=6) (hS.at_ 2 rfl) rfl) rfl (bB (i:=0) (vs:=[_,_,_,_,_,_]) (cs':=[_,_,_,_,_,_]) (O':=[_,_,_,_]) hS sizeOf56 rfl rfl rfl rfl rfl rfl rfl fun W6 hS=>aQ (XF.thenN (bM (XF.thenR (XF.res (dY (vs:=[_,_,_,_,_,_]) results47 isAgg56 sizeOf56 rfl (aK.own (j:=0) (m:=6) (hS.at_ 0 rfl) rfl)) ?_)))))))
   exact ⟨f,rfl,fun W hM=>by rw [hy.zero hc13,uL hx.ok];exact hfx W hM.1,hS.below⟩
  ·have hc13:=hc;clear hc
   have hg:=hc13
   refine bH (XF.thenN (aO (aR (cY (us:=[]) rfl (qI) rfl (bU (cs:=[_,_,_,_,_,_]) hS zeroValue56 rfl rfl fun B7 W7 hS=>bB (i:=0) (vs:=[_,_,_,_,_,_]) (cs':=[_,_,_,_,_,_]) (O':=[_,_,_,_,_]) hS sizeOf56 rfl rfl rfl rfl rfl rfl rfl fun W8 hS=>aQ (XF.thenN (aO (aO (aR (aN (o':=0) dZ rfl rfl rfl (aT isAgg22 rfl (aJ (hS.at_ 4 rfl) rfl) rfl (aQ (XF.thenN (bI (aO (aR (cM rfl rfl rfl (aB rfl rfl (aQ (XF.thenN (bC rfl (fun hc=>?_) (fun hc=>?_))))))))))))))))))))))
   ·have hc18:=of_decide_eq_true hc;clear hc
    have e2:t=2:=hc18
    subst e2
    obtain ⟨_,p0,p1⟩:=hx.k2 hf
    obtain ⟨_,q0,q1⟩:=hy.k2 hg
    refine aR (aN (o':=1) gC rfl rfl rfl (aT isAgg3 rfl (aJ (hS.at_ 3 rfl) rfl) rfl (aN (o':=1) gC rfl rfl rfl (aT isAgg3 rfl (aJ (hS.at_ 2 rfl) rfl) rfl (E4 rfl rfl rfl (aN (o':=1) gC rfl rfl rfl (dK (i:=0) (cs':=[_,_,_,_,_,_]) (O':=[_,_,_,_,_]) hS sizeOf3 rfl rfl rfl rfl rfl rfl rfl fun W9 hS=>aQ (XF.blkN (XF.thenN (aO (aR (aU (vs:=[_,_,_,_,_,_]) isAgg56 sizeOf56 rfl (aK.own (j:=0) (m:=6) (hS.at_ 0 rfl) rfl) rfl (bB (i:=1) (vs:=[_,_,_,_,_,_]) (cs':=[_,_,_,_,_,_]) (O':=[_,_,_,_,_]) hS sizeOf56 rfl rfl rfl rfl rfl rfl rfl fun W10 hS=>aQ (XF.thenN (bM (XF.res (dY (vs:=[_,_,_,_,_,_]) results47 isAgg56 sizeOf56 rfl (aK.own (j:=0) (m:=6) (hS.at_ 1 rfl) rfl)) ?_))))))))))))))))
    exact wH (Mp hx hy hf hg p0 p1 q0 q1) hS.below
   ·have hc18:=of_decide_eq_false hc;clear hc
    refine aO (aR (cM rfl rfl rfl (aB rfl rfl (aQ (XF.thenN (bC rfl (fun hc=>?_) (fun hc=>?_)))))))
    ·have hc26:=of_decide_eq_true hc;clear hc
     have e3:t=3:=hc26
     subst e3
     obtain ⟨m,rfl,hm⟩:=Ct hp (.inl rfl)
     refine aR (aN (o':=1) eS rfl rfl rfl (aT isAgg3 rfl (aJ (hS.at_ 4 rfl) rfl) rfl (aN (o':=2) gD rfl rfl rfl (aU (vs:=[_,_]) isAgg52 sizeOf52 rfl (aK.own (j:=2) (m:=2) (hS.at_ 3 rfl) rfl) rfl (aN (o':=2) gD rfl rfl rfl (aU (vs:=[_,_]) isAgg52 sizeOf52 rfl (aK.own (j:=2) (m:=2) (hS.at_ 2 rfl) rfl) rfl ?_))))))
     have hsz:=hS.below.size
     refine dC (vs:=[_,_,_]) hS goes_61 rfl (Kx _ _ _ _ _ _ _ _ _ _ (hx.at_.fat (by have:=hx.rows64 (l:=0);omega) |>.below hS.below) (hy.at_.fat (by have:=hy.rows64 (l:=0);omega) |>.below hS.below) _ rfl _ rfl _ rfl _ _ hx.at_.rl hy.at_.rl) rfl ?_
     rintro e W11 ⟨a1,c1,rfl,hv,hl,hb⟩
     refine ⟨_,rfl,hb,fun hS'=>?_⟩
     clear hS;have hS:=hS';clear hS'
     refine aI rfl rfl (cI rfl rfl rfl (cI rfl rfl rfl (aN (o':=2) gD rfl rfl rfl (bB (i:=0) (vs:=[_,_]) (cs':=[_,_,_,_,_,_]) (O':=[_,_,_,_,_]) hS sizeOf52 rfl rfl rfl rfl rfl rfl rfl fun W12 hS=>aQ (XF.blkN (XF.thenN (aO (aR (aU (vs:=[_,_,_,_,_,_]) isAgg56 sizeOf56 rfl (aK.own (j:=0) (m:=6) (hS.at_ 0 rfl) rfl) rfl (bB (i:=1) (vs:=[_,_,_,_,_,_]) (cs':=[_,_,_,_,_,_]) (O':=[_,_,_,_,_]) hS sizeOf56 rfl rfl rfl rfl rfl rfl rfl fun W13 hS=>aQ (XF.thenN (bM (XF.res (dY (vs:=[_,_,_,_,_,_]) results47 isAgg56 sizeOf56 rfl (aK.own (j:=0) (m:=6) (hS.at_ 1 rfl) rfl)) ?_)))))))))))))
     exact wH (comb_f3 hx hy hf hg (hv.agree (fun ad e=>(hl ad e).1) (hS.since 0 rfl)) (fun ad e=>Nat.le_trans hsz (hl ad e).1)) hS.below
    ·have hc26:=of_decide_eq_false hc;clear hc
     refine aO (aR (cM rfl rfl rfl (aB rfl rfl (aQ (XF.thenN (bC rfl (fun hc=>?_) (fun hc=>?_)))))))
     ·have hc39:=of_decide_eq_true hc;clear hc
      have e4:t=4:=hc39
      subst e4
      obtain ⟨m,rfl,hm⟩:=Ct hp (.inr rfl)
      obtain ⟨hpx,vx⟩:=hx.k4 hf
      obtain ⟨hpy,vy⟩:=hy.k4 hg
      refine aO (aR (aB rfl rfl (aQ (XF.thenN (bI (cX (fun q l W=>∃ (k:Nat) (v:Value),k≤m∧q=m - k∧l=[(3,.pointer (some ⟨B1,0,none⟩)),(4,.pointer (some ⟨B2,0,none⟩)),(5,.pointer (some ⟨B3,0,none⟩)),(6,.pointer (some ⟨B4,0,none⟩)),(7,.pointer (some ⟨B7,0,none⟩)),(8,.int .i64 (k:Int))]∧St w [(B7,[.bool false,.int .i64 0,.int .u64 0,.slice none 0 0,v,.slice none 0 0],56),(B4,[.bool false,.int .i64 0,.int .u64 0,.slice none 0 0,.slice none 0 0,.slice none 0 0],56),(B3,[.bool g.z,.int .i64 g.c,.int .u64 (g.g:Int),.slice g.ra g.rl g.rc,.slice g.ca g.cl g.cc,.slice g.pa g.pl g.pc],56),(B2,[.bool f.z,.int .i64 f.c,.int .u64 (f.g:Int),.slice f.ra f.rl f.rc,.slice f.ca f.cl f.cc,.slice f.pa f.pl f.pc],56),(B1,[.int .i64 4,.int .i64 (m:Int),.slice sa 0 sc],25)] [⟨v,k,jE ((iY f.cells g.cells).take k),89,3⟩] [] W) (m - 0) ([(3,_),(4,_),(5,_),(6,_),(7,_),(8,_)]) ⟨rfl,rfl,rfl,rfl,rfl,rfl,trivial⟩ (⟨0,.slice none 0 0,Nat.zero_le _,rfl,rfl,hS.clear.newG _ _⟩) ?_))))))
      clear hS
      rintro q l W ⟨k,v,hkm,rfl,rfl,hS⟩
      refine aO (aO (aR (aI rfl rfl (aN (o':=1) eS rfl rfl rfl (aT isAgg3 rfl (aJ (hS.at_ 4 rfl) rfl) rfl (cC rfl rfl rfl (aQ (XF.thenN (bC rfl (fun hc=>?_) (fun hc=>?_))))))))))
      ·have hc44:=of_decide_eq_true hc;clear hc
       have hk:k < m:=by omega
       have hlx:=vx.len
       have hly:=vy.len
       obtain ⟨bx,offx,x1,ecx,hx1,hbx,c0,c1,c2⟩:=(hx.at_.cells.below hS.below).at_ (k:=k) (by omega)
       obtain ⟨ba,offa,y1,eca,hy1,hba,a0,a1,a2⟩:=(hy.at_.cells.below hS.below).at_ (k:=k) (by omega)
       have k0:aK W bx (offx+k * 3) [.int .u64 (x1.f:Int),.int .i64 x1.k,.int .i64 x1.v]:=⟨c0,c1,c2,trivial⟩
       have k1:aK W ba (offa+k * 3) [.int .u64 (y1.f:Int),.int .i64 y1.k,.int .i64 y1.v]:=⟨a0,a1,a2,trivial⟩
       have h1:(iY f.cells g.cells)[k]?=some (join x1 y1):=by unfold iY;rw [List.getElem?_zipWith,hx1,hy1]
       have hcl:=hx.at_.cl
       have hclg:=hy.at_.cl
       simp only [ecx,eca] at hS
       refine bH (XF.thenN (aO (bI ?_)))
       refine Bn (p:=14) (k:=16) (gi:=0) (m:=1) bY hS rfl rfl (by kernel_rfl) (by kernel_rfl) (by kernel_rfl) (fun d hd=>by cases hd) rfl rfl underlying53 D6 rfl rfl (by show 0 < 3;decide) rfl rfl rfl (by dsimp only;simp only [maxLen];omega) (by dsimp only;show _ * 24≤_;omega) ?_
       refine cK 1 rfl rfl (by kernel_rfl) (rgV (li:=[(7,_)]) rfl (aS rfl) ⟨bP rfl,trivial⟩ (fun w hw=>aV (o':=4) dJ rfl rfl) (aD rfl)) (cK 2 rfl rfl (by kernel_rfl) (rgV (li:=[(47,_)]) rfl (aS rfl) ⟨aL 0 (aA rfl rfl rfl),trivial⟩ (fun w hw=>aX isAgg53 rfl ((aP hw 0).cell (Nat.zero_le _) (aJ (hS.at_ 0 rfl) rfl))) (aD rfl)) (cK 3 rfl rfl (by kernel_rfl) (rgV (li:=[(4,_)]) rfl (aS rfl) ⟨bP rfl,trivial⟩ (fun w hw=>aV (o':=4) dJ rfl rfl) (aD rfl)) (cK 4 rfl rfl (by kernel_rfl) (rgV (li:=[(49,_)]) rfl (aS rfl) ⟨aL 2 (aA rfl rfl rfl),trivial⟩ (fun w hw=>aX isAgg53 rfl ((aP hw 0).cell (Nat.zero_le _) (aJ (hS.at_ 3 rfl) rfl))) (aD rfl)) (cK 5 rfl rfl (by kernel_rfl) (rgV (li:=[(8,_)]) rfl (aS rfl) ⟨bP rfl,trivial⟩ (fun w hw=>aZ rfl) (aD rfl)) (cK 6 rfl rfl (by kernel_rfl) (rgV (li:=[(50,_),(51,_)]) rfl (aS rfl) ⟨aL 3 (aA rfl rfl rfl),aL 4 (aA rfl rfl rfl),trivial⟩ (fun w hw=>bA  underlying53 sizeOf89 rfl rfl rfl (by omega) rfl) (aD rfl)) (cK 7 rfl rfl (by kernel_rfl) (rgV (li:=[(52,_)]) rfl (aS rfl) ⟨aL 5 (aA rfl rfl rfl),trivial⟩ (fun w hw=>bL (vs:=[_,_,_]) isAgg89 sizeOf89 rfl (aK.agree (aP hw 0) (Nat.zero_le _) (by assumption))) (aD rfl)) (cK 8 rfl rfl (by kernel_rfl) (rgV (li:=[(5,_)]) rfl (aS rfl) ⟨bP rfl,trivial⟩ (fun w hw=>aV (o':=4) dJ rfl rfl) (aD rfl)) (cK 9 rfl rfl (by kernel_rfl) (rgV (li:=[(54,_)]) rfl (aS rfl) ⟨aL 7 (aA rfl rfl rfl),trivial⟩ (fun w hw=>aX isAgg53 rfl ((aP hw 0).cell (Nat.zero_le _) (aJ (hS.at_ 2 rfl) rfl))) (aD rfl)) (cK 10 rfl rfl (by kernel_rfl) (rgV (li:=[(8,_)]) rfl (aS rfl) ⟨bP rfl,trivial⟩ (fun w hw=>aZ rfl) (aD rfl)) (cK 11 rfl rfl (by kernel_rfl) (rgV (li:=[(55,_),(56,_)]) rfl (aS rfl) ⟨aL 8 (aA rfl rfl rfl),aL 9 (aA rfl rfl rfl),trivial⟩ (fun w hw=>bA  underlying53 sizeOf89 rfl rfl rfl (by omega) rfl) (aD rfl)) (cK 12 rfl rfl (by kernel_rfl) (rgV (li:=[(57,_)]) rfl (aS rfl) ⟨aL 10 (aA rfl rfl rfl),trivial⟩ (fun w hw=>bL (vs:=[_,_,_]) isAgg89 sizeOf89 rfl (aK.agree (aP hw 0) (Nat.zero_le _) (by assumption))) (aD rfl)) ?_)))))))))))
       refine cK 13 rfl rfl (by kernel_rfl) (cP [isV _,isV _] rfl Gd (aS rfl) ⟨cD (aL 6 (aA rfl rfl rfl)),cD (aL 11 (aA rfl rfl rfl)),trivial⟩ (fun vs w' hb hh=>by have e:=bZ (us:=[_,_]) hh;subst e;exact (Md x1 y1 (vx.oks k x1 hx1) (vy.oks k y1 hy1) _).mono fun e w2 h=>⟨_,h.1,rfl,h.2⟩) (aD rfl)) ?_
       refine tD 14 rfl rfl (by kernel_rfl) (tC W.heap.size 1 89 _) (kN) (rF (us:=[.agg (List.toArray [_,_,_])]) rfl (aS rfl) underlying53 sizeOf89 zeroValue89 rfl rfl ⟨cD (aL 12 (aA rfl rfl rfl)),trivial⟩ (zE _ _ _) (aD rfl)) (oX 15 rfl rfl (iK 16 rfl rfl (rgV (li:=[(7,_)]) rfl (aS rfl) ⟨bP rfl,trivial⟩ (fun w hw=>aV (o':=4) dJ rfl rfl) (aD rfl)) (lgV (li:=[(7,_)]) rfl (aS rfl) ⟨bP rfl,trivial⟩ (fun w=>aV (o':=4) dJ rfl rfl) (aD rfl) rfl) (oW ⟨_,_,aL 1 (aA rfl rfl rfl),aL 13 (aA rfl rfl rfl),jM rfl rfl,?_⟩)))
       intro A14 v14 news14 W14 hbR hqA14 hS'
       clear hS;have hS:=hS';clear hS'
       cases hqA14
       refine aG (aG (aG (aG (aG (aG (aG (aG (aG (aG (aG (aG (aG ?_))))))))))))
       refine dR ?_;intro _ _
       refine aG (aG ?_)
       obtain ⟨g9,c9,e9,_,_⟩:=(hS.row 0 rfl).form (by show 0 < k+1;omega)
       dsimp only at e9
       subst e9
       refine cH (dK (i:=0) (cs':=[_,_,_,_,_,_]) (O':=[_,_,_,_,_]) hS sizeOf53 rfl rfl rfl rfl rfl rfl rfl fun W15 hS=>aQ (XF.blkN (XF.thenN (aR (aI rfl rfl (cE rfl rfl (IntWalk.i64_in _ (by omega)) rfl (aB rfl rfl (aQ ?_))))))))
       simp only [← ecx,← eca] at hS
       exact XF.round (m - (k+1)) [(3,_),(4,_),(5,_),(6,_),(7,_),(8,_)] (by omega) ⟨rfl,rfl,rfl,rfl,rfl,rfl,trivial⟩ ⟨k+1,_,by omega,rfl,rfl,by rw [yI h1];exact hS.clear⟩
      ·have hc44:=of_decide_eq_false hc;clear hc
       refine cW (XF.thenX (XF.thenX (XF.blkX (XF.blkN (XF.thenN (aO ?_))))))
       obtain rfl:k=m:=by omega
       have hrow:=hS.row 0 rfl
       have hln:(iY f.cells g.cells).length=k:=by unfold iY;rw [List.length_zipWith,vx.len,vy.len,Nat.min_self]
       have ht0:(iY f.cells g.cells).take k=iY f.cells g.cells:=List.take_of_length_le (by rw [hln];exact Nat.le_refl _)
       simp only [ht0] at hrow
       obtain ⟨hn,a9,c9,rfl,_,_⟩:=gJ hrow
       clear hrow
       refine aR (aU (vs:=[_,_,_,_,_,_]) isAgg56 sizeOf56 rfl (aK.own (j:=0) (m:=6) (hS.at_ 0 rfl) rfl) rfl (bB (i:=1) (vs:=[_,_,_,_,_,_]) (cs':=[_,_,_,_,_,_]) (O':=[_,_,_,_,_]) hS sizeOf56 rfl rfl rfl rfl rfl rfl rfl fun W16 hS=>aQ (XF.thenN (bM (XF.res (dY (vs:=[_,_,_,_,_,_]) results47 isAgg56 sizeOf56 rfl (aK.own (j:=0) (m:=6) (hS.at_ 1 rfl) rfl)) ?_)))))
       have hrow:=hS.row 0 rfl
       simp only [ht0] at hrow
       obtain ⟨_,a8,c8,e8,hr9,hf9⟩:=gJ hrow
       cases e8
       refine ⟨qO a9 c9 (iY f.cells g.cells),?_,fun W2 hW=>((Mq (k:=w.heap.size) hx hy hf hg hr9 (fun ad e=>(hf9 ad e).1)).agree hW.2).is,hS.below⟩
       show _=Ending.returned (Value.agg #[.bool false,.int .i64 0,.int .u64 ((0:Nat):Int),.slice none 0 0,.slice a9 (iY f.cells g.cells).length c9,.slice none 0 0])
       rw [hln]
       rfl
     ·have hc39:=of_decide_eq_false hc;clear hc
      refine aO (aR (cM rfl rfl rfl (aB rfl rfl (aQ (XF.thenN (bC rfl (fun hc=>absurd (of_decide_eq_true hc) (by exact mF hp)) (fun hc=>?_)))))))
      have hc:=of_decide_eq_false hc
      refine bH (XF.blkN (XF.thenN (aO (aR (aU (vs:=[_,_,_,_,_,_]) isAgg56 sizeOf56 rfl (aK.own (j:=0) (m:=6) (hS.at_ 0 rfl) rfl) rfl (bB (i:=1) (vs:=[_,_,_,_,_,_]) (cs':=[_,_,_,_,_,_]) (O':=[_,_,_,_,_]) hS sizeOf56 rfl rfl rfl rfl rfl rfl rfl fun W17 hS=>aQ (XF.thenN (bM (XF.res (dY (vs:=[_,_,_,_,_,_]) results47 isAgg56 sizeOf56 rfl (aK.own (j:=0) (m:=6) (hS.at_ 1 rfl) rfl)) ?_)))))))))
      have e1:t=1:=by
       have:=(fP hp).2
       omega
      subst e1
      exact wH (comb_f1 hx hy hf hg) hS.below
theorem Az (M:World→Prop) (hM:jU M) (t n u m:Int) (a1 a2:Option Addr) (c1 c2 b off sc:Nat) (w:World) (hs1:S3 w b off ⟨t,n,a1,0,c1⟩) (hs2:S3 w b (off+3) ⟨u,m,a2,0,c2⟩) (hp1:bS t n 0=true) (hp2:bS u m 0=true)(fra fca:Option Addr) (frc fcc fpc fb fo:Nat) (f1 f2:WF) (x1 x2:PF) (hf6:W6 w fb fo f1) (hf7:W6 w fb (fo+6) f2) (hx1:qW M t n f1 x1) (hx2:qW M u m f2 x2)(gra gca:Option Addr) (grc gcc gpc gb go:Nat) (g1 g2:WF) (y1 y2:PF) (hg6:W6 w gb go g1) (hg7:W6 w gb (go+6) g2) (hy1:qW M t n g1 y1) (hy2:qW M u m g2 y2) (hw:M w) :
  Calls prog 47 #[.agg #[.int .i64 5,.int .i64 0,.slice (some ⟨b,off,none⟩) 2 sc],.agg #[.bool false,.int .i64 0,.int .u64 0,.slice fra 0 frc,.slice fca 0 fcc,.slice (some ⟨fb,fo,none⟩) 2 fpc],.agg #[.bool false,.int .i64 0,.int .u64 0,.slice gra 0 grc,.slice gca 0 gcc,.slice (some ⟨gb,go,none⟩) 2 gpc]] w (Mo M (.two t n u m) (.two (fH t n x1 y1) (fH u m x2 y2)) w):=by
 refine cG (args:=[.agg #[.int .i64 5,.int .i64 0,.slice (some ⟨b,off,none⟩) 2 sc],.agg #[.bool false,.int .i64 0,.int .u64 0,.slice fra 0 frc,.slice fca 0 fcc,.slice (some ⟨fb,fo,none⟩) 2 fpc],.agg #[.bool false,.int .i64 0,.int .u64 0,.slice gra 0 grc,.slice gca 0 gcc,.slice (some ⟨gb,go,none⟩) 2 gpc]]) func47 rfl ntmps47 rfl ?_
 have hS:=St.start w
 refine aO (aR (bQ (cs:=[_,_,_]) hS rfl rfl rfl fun B1 W1 hS=>bQ (cs:=[_,_,_,_,_,_]) hS rfl rfl rfl fun B2 W2 hS=>bQ (cs:=[_,_,_,_,_,_]) hS rfl rfl rfl fun B3 W3 hS=>bU (cs:=[_,_,_,_,_,_]) hS zeroValue56 rfl rfl fun B4 W4 hS=>aQ (XF.thenN (aO (aO (aR (aN (o':=0) eD rfl rfl rfl (aT isAgg4 rfl (aJ (hS.at_ 2 rfl) rfl) rfl (aQ (XF.thenN (bC rfl (fun hc=>absurd hc (by decide)) (fun hc=>?_))))))))))))
 skip
 refine bH (XF.thenN (aO (aO (aR (aN (o':=0) eD rfl rfl rfl (aT isAgg4 rfl (aJ (hS.at_ 1 rfl) rfl) rfl (aQ (XF.thenN (bC rfl (fun hc=>absurd hc (by decide)) (fun hc=>?_))))))))))
 skip
 refine bH (XF.thenN (aO (aR (cY (us:=[]) rfl (qI) rfl (bU (cs:=[_,_,_,_,_,_]) hS zeroValue56 rfl rfl fun B5 W5 hS=>bB (i:=0) (vs:=[_,_,_,_,_,_]) (cs':=[_,_,_,_,_,_]) (O':=[_,_,_,_,_]) hS sizeOf56 rfl rfl rfl rfl rfl rfl rfl fun W6 hS=>aQ (XF.thenN (aO (aO (aR (aN (o':=0) dZ rfl rfl rfl (aT isAgg22 rfl (aJ (hS.at_ 4 rfl) rfl) rfl (aQ (XF.thenN (bI (aO (aR (cM rfl rfl rfl (aB rfl rfl (aQ (XF.thenN (bC rfl (fun hc=>absurd (of_decide_eq_true hc) (by omega)) (fun hc=>?_))))))))))))))))))))))
 have hc:=of_decide_eq_false hc
 refine aO (aR (cM rfl rfl rfl (aB rfl rfl (aQ (XF.thenN (bC rfl (fun hc=>absurd (of_decide_eq_true hc) (by omega)) (fun hc=>?_)))))))
 have hc:=of_decide_eq_false hc
 refine aO (aR (cM rfl rfl rfl (aB rfl rfl (aQ (XF.thenN (bC rfl (fun hc=>absurd (of_decide_eq_true hc) (by omega)) (fun hc=>?_)))))))
 have hc:=of_decide_eq_false hc
 refine aO (aR (cM rfl rfl rfl (aB rfl rfl (aQ (XF.thenN (bC rfl (fun hc=>?_) (fun hc=>absurd (of_decide_eq_false hc) (by omega))))))))
 have hc:=of_decide_eq_true hc
 have hsz:=hS.below.size
 have k1:=aK.agree hS.agree (Nat.zero_le _) hs1.cells
 have k2:=aK.agree hS.agree (Nat.zero_le _) hs2.cells
 have kf1:=aK.agree hS.agree (Nat.zero_le _) hf6.cells
 have kf2:=aK.agree hS.agree (Nat.zero_le _) hf7.cells
 have kg1:=aK.agree hS.agree (Nat.zero_le _) hg6.cells
 have kg2:=aK.agree hS.agree (Nat.zero_le _) hg7.cells
 refine xI bY 28 hS rfl rfl (by kernel_rfl) (by kernel_rfl) (by kernel_rfl) (fun d hd=>by cases hd) (cB 1 rfl 3 rfl rfl (fun w hw=>aV (o':=2) dM rfl rfl) rfl (bD 2 rfl 65 0 rfl rfl rfl (fun w hw=>aX isAgg23 rfl ((aP hw 0).cell (Nat.zero_le _) (aJ (hS.at_ 4 rfl) rfl))) rfl (bD 3 rfl 66 1 rfl rfl rfl (fun w hw=>bA (j:=0) underlying23 sizeOf25 rfl rfl rfl (by omega) (Nat.add_zero _)) rfl (bD 4 rfl 67 2 rfl rfl rfl (fun w hw=>bL (vs:=[_,_,_]) isAgg25 sizeOf25 rfl (aK.agree (aP hw 0) (Nat.zero_le _) (by assumption))) rfl (cB 5 rfl 4 rfl rfl (fun w hw=>aV (o':=5) cV rfl rfl) rfl (bD 6 rfl 69 4 rfl rfl rfl (fun w hw=>aX isAgg54 rfl ((aP hw 0).cell (Nat.zero_le _) (aJ (hS.at_ 3 rfl) rfl))) rfl (bD 7 rfl 70 5 rfl rfl rfl (fun w hw=>bA (j:=0) underlying54 sizeOf56 rfl rfl rfl (by omega) (Nat.add_zero _)) rfl (bD 8 rfl 71 6 rfl rfl rfl (fun w hw=>bL (vs:=[_,_,_,_,_,_]) isAgg56 sizeOf56 rfl (aK.agree (aP hw 0) (Nat.zero_le _) (by assumption))) rfl (cB 9 rfl 5 rfl rfl (fun w hw=>aV (o':=5) cV rfl rfl) rfl (bD 10 rfl 73 8 rfl rfl rfl (fun w hw=>aX isAgg54 rfl ((aP hw 0).cell (Nat.zero_le _) (aJ (hS.at_ 2 rfl) rfl))) rfl (bD 11 rfl 74 9 rfl rfl rfl (fun w hw=>bA (j:=0) underlying54 sizeOf56 rfl rfl rfl (by omega) (Nat.add_zero _)) rfl (bD 12 rfl 75 10 rfl rfl rfl (fun w hw=>bL (vs:=[_,_,_,_,_,_]) isAgg56 sizeOf56 rfl (aK.agree (aP hw 0) (Nat.zero_le _) (by assumption))) rfl ?_))))))))))))
 refine aM 13 rfl (nS M W6.heap.size (.one t n) (.one (fH t n x1 y1))) (wF) (cP [isV _,isV _,isV _] rfl Gc (aS rfl) ⟨cD (aL 3 (aA rfl rfl rfl)),cD (aL 7 (aA rfl rfl rfl)),cD (aL 11 (aA rfl rfl rfl)),trivial⟩ (fun vs w' hb hh=>by have e:=bZ (us:=[_,_,_]) hh;subst e;exact wG hb.size (lV M _ _ _ _ _ _ _ _ _ hp1 (hM _ _ hw (hS.below.trans (hb.mono hS.below.size))) hx1 hy1)) (aD rfl)) ?_
 refine cB 14 rfl 3 rfl rfl (fun w hw=>aV (o':=2) dM rfl rfl) rfl (bD 15 rfl 78 13 rfl rfl rfl (fun w hw=>aX isAgg23 rfl ((aP hw 0).cell (Nat.zero_le _) (aJ (hS.at_ 4 rfl) rfl))) rfl (bD 16 rfl 79 14 rfl rfl rfl (fun w hw=>bA (j:=1) underlying23 sizeOf25 rfl rfl rfl (by omega) rfl) rfl (bD 17 rfl 80 15 rfl rfl rfl (fun w hw=>bL (vs:=[_,_,_]) isAgg25 sizeOf25 rfl (aK.agree (aP hw 0) (Nat.zero_le _) (by assumption))) rfl (cB 18 rfl 4 rfl rfl (fun w hw=>aV (o':=5) cV rfl rfl) rfl (bD 19 rfl 82 17 rfl rfl rfl (fun w hw=>aX isAgg54 rfl ((aP hw 0).cell (Nat.zero_le _) (aJ (hS.at_ 3 rfl) rfl))) rfl (bD 20 rfl 83 18 rfl rfl rfl (fun w hw=>bA (j:=1) underlying54 sizeOf56 rfl rfl rfl (by omega) rfl) rfl (bD 21 rfl 84 19 rfl rfl rfl (fun w hw=>bL (vs:=[_,_,_,_,_,_]) isAgg56 sizeOf56 rfl (aK.agree (aP hw 0) (Nat.zero_le _) (by assumption))) rfl (cB 22 rfl 5 rfl rfl (fun w hw=>aV (o':=5) cV rfl rfl) rfl (bD 23 rfl 86 21 rfl rfl rfl (fun w hw=>aX isAgg54 rfl ((aP hw 0).cell (Nat.zero_le _) (aJ (hS.at_ 2 rfl) rfl))) rfl (bD 24 rfl 87 22 rfl rfl rfl (fun w hw=>bA (j:=1) underlying54 sizeOf56 rfl rfl rfl (by omega) rfl) rfl (bD 25 rfl 88 23 rfl rfl rfl (fun w hw=>bL (vs:=[_,_,_,_,_,_]) isAgg56 sizeOf56 rfl (aK.agree (aP hw 0) (Nat.zero_le _) (by assumption))) rfl ?_)))))))))))
 refine aM 26 rfl (nS M W6.heap.size (.one u m) (.one (fH u m x2 y2))) (wF) (cP [isV _,isV _,isV _] rfl Gc (aS rfl) ⟨cD (aL 16 (aA rfl rfl rfl)),cD (aL 20 (aA rfl rfl rfl)),cD (aL 24 (aA rfl rfl rfl)),trivial⟩ (fun vs w' hb hh=>by have e:=bZ (us:=[_,_,_]) hh;subst e;exact wG hb.size (lV M _ _ _ _ _ _ _ _ _ hp2 (hM _ _ hw (hS.below.trans (hb.mono hS.below.size))) hx2 hy2)) (aD rfl)) ?_
 refine aM 27 rfl (wI M W6.heap.size (.two t n u m) (.two (fH t n x1 y1) (fH u m x2 y2))) (xE) (I9 rfl (aS rfl) ⟨cD (aL 12 (aA rfl rfl rfl)),cD (aL 25 (aA rfl rfl rfl)),trivial⟩ (aD rfl)) (cB 28 rfl 7 rfl rfl (fun w hw=>aV (o':=5) cV rfl rfl) rfl (dB ?_))
 intro W7 hbR hS'
 clear hS;have hS:=hS';clear hS'
 refine aG (aG (aG (aG (aG (aG (aG (aG (aG (aG (aG (aG ?_)))))))))))
 refine dR ?_;rintro _ ⟨v1,rfl,hn1⟩
 refine aG (aG (aG (aG (aG (aG (aG (aG (aG (aG (aG (aG ?_)))))))))))
 refine dR ?_;rintro _ ⟨v2,rfl,hn2⟩
 refine dR ?_;rintro _ ⟨b9,rfl,hn9⟩
 refine aG (cH (dK (i:=0) (cs':=[_,_,_,_,_,_]) (O':=[_,_,_,_,_]) hS sizeOf54 rfl rfl rfl rfl rfl rfl rfl fun W8 hS=>aQ (XF.blkN (XF.thenN (aO (aR (aU (vs:=[_,_,_,_,_,_]) isAgg56 sizeOf56 rfl (aK.own (j:=0) (m:=6) (hS.at_ 0 rfl) rfl) rfl (bB (i:=1) (vs:=[_,_,_,_,_,_]) (cs':=[_,_,_,_,_,_]) (O':=[_,_,_,_,_]) hS sizeOf56 rfl rfl rfl rfl rfl rfl rfl fun W9 hS=>aQ (XF.thenN (bM (XF.res (dY (vs:=[_,_,_,_,_,_]) results47 isAgg56 sizeOf56 rfl (aK.own (j:=0) (m:=6) (hS.at_ 1 rfl) rfl)) ?_)))))))))))
 exact ⟨oI b9,rfl,hn9.mono fun W hW=>⟨hW.1,(hS.since 0 rfl).trans (hW.2.mono hsz)⟩,hS.below⟩
theorem iH.two {M:World→Prop} {t n u m:Int} {f:WF} {a b:PF} (h:iH M (.two t n u m) f (.two a b)):∃ (ra ca:Option Addr) (rc cc pc fb fo:Nat) (f1 f2:WF),f=⟨false,0,0,ra,0,rc,[],ca,0,cc,[],some ⟨fb,fo,none⟩,2,pc⟩∧(∀ W,M W→W6 W fb fo f1∧W6 W fb (fo+6) f2)∧qW M t n f1 a∧qW M u m f2 b:=by
 obtain ⟨h1,h2,h3,h4,blk,off,g,k,h5,h6,h7,h8⟩:=h
 obtain ⟨z,c,gg,ra,rl,rc,rows,ca,cl,cc,cells,pa,pl,pc⟩:=f
 simp only [WF.pf,pC,PF.mk.injEq] at h1
 obtain ⟨rfl,rfl,rfl,rfl,rfl⟩:=h1
 dsimp only at h2 h3 h4 h5
 subst h2;subst h3;subst h4;subst h5
 exact ⟨ra,ca,rc,cc,pc,blk,off,g,k,rfl,h6,h7,h8⟩
theorem Fh {M:World→Prop} {S:PS} {sf:SF} {f g:WF} {x y:PX} {w:World} (hM:jU M) (hs:SIs w S sf) (hok:S.ok) (hw:M w) (hx:iH M S f x) (hy:iH M S g y):Calls prog 47 #[sf.val,f.val,g.val] w (Mo M S (lL S x y) w):=by
 cases S<;>cases x<;>cases y<;>first | exact hx.elim | exact hy.elim | skip
 ·obtain ⟨a,c,rfl⟩:=hs
  exact lV M _ _ _ _ _ _ _ _ _ hok hw hx hy
 ·obtain ⟨b,off,c,a1,c1,a2,c2,rfl,h1,h2⟩:=hs
  obtain ⟨ra,ca,rc,cc,pc,fb,fo,f1,f2,rfl,h6,h8,h9⟩:=hx.two
  obtain ⟨ra',ca',rc',cc',pc',gb,go,g1,g2,rfl,h6',h8',h9'⟩:=hy.two
  exact Az M hM _ _ _ _ _ _ _ _ _ _ _ _ h1 h2 hok.1 hok.2 _ _ _ _ _ _ _ _ _ _ _ (h6 w hw).1 (h6 w hw).2 h8 h9 _ _ _ _ _ _ _ _ _ _ _ (h6' w hw).1 (h6' w hw).2 h8' h9' hw
def MK (M:World→Prop) (K:List (Nat×World)) (W:World):Prop:=M W∧∀ q∈K,cZ q.1 q.2 W
theorem MK.keep {M:World→Prop} {W W':World} {K:List (Nat×World)} (h:MK M K W) (hM:jU M) (hb:Below W.heap.size W W'):MK M K W':=⟨hM _ _ h.1 hb,fun q hq=>(h.2 q hq).trans (aP hb _)⟩
theorem sT {M:World→Prop} (hM:jU M) (K:List (Nat×World)):jU (MK M K):=fun W W' h hb=>h.keep hM hb
theorem St.stays {M:World→Prop} {w0 W:World} {O:Own} {G:cR} {K:List (Nat×World)} (h:St w0 O G K W) (hM:jU M) (hw:M w0):MK M K W:=⟨hM _ _ hw h.below,fun q hq=>(h.kept q hq).1⟩
def XLF (M:World→Prop) (S:PS) (fs:List WF) (xs:List PX):Prop:=fs.length=xs.length∧∀ (i:Nat) f x,fs[i]?=some f→xs[i]?=some x→iH M S f x
theorem XLF.at_ {M:World→Prop} {S:PS} {fs:List WF} {xs:List PX} (h:XLF M S fs xs) {k:Nat} (hk:k < fs.length):∃ f x,fs[k]?=some f∧xs[k]?=some x∧iH M S f x :=
 ⟨fs[k],xs[k]'(by have:=h.1;omega),by simp [hk],by have:=h.1;simp [show k < xs.length by omega],h.2 k _ _ (by simp [hk]) (by have:=h.1;simp [show k < xs.length by omega])⟩
theorem rV (w:World):jU (fun W=>Below w.heap.size w W):=fun W W' h hb=>h.trans (hb.mono h.size)
theorem win_one {w:World} {t n:Int} {f:WF} {x:PF} (hx:PIs w t n f x) (d:Nat):WIn w (d+1) (.mk f []):=⟨hx.at_,hx.pl.symm,.inl rfl,by simp⟩
abbrev MB (w0:World) (Kk:List (Nat×World)):World→Prop:=MK (fun W=>Below w0.heap.size w0 W) Kk
theorem MB.of {w0 W:World} {O:Own} {G:cR} {K Kk:List (Nat×World)} (h:St w0 O G K W) (hk:∀ q∈Kk,q∈K):MB w0 Kk W:=⟨h.below,fun q hq=>(h.kept q (hk q hq)).1⟩
theorem MB.st {w0 W:World} {K:List (Nat×World)} (h:MB w0 K W):St w0 [] [] K W:=⟨h.1,(fun p h=>by cases h),List.Pairwise.nil,(fun q hq=>⟨h.2 q hq,fun p hp=>by cases hp⟩),(fun q h=>by cases h),List.Pairwise.nil⟩
theorem mL {lo lo':Nat} {A W:World} (h:cZ lo A W) (hl:lo≤lo'):cZ lo' A W:=⟨h.1,fun k h1 h2=>h.2 k (Nat.le_trans hl h1) h2⟩
theorem Mr {w:World} {B:Nat} {f:WF} {o:Nat} (h:aK w B o f.six):W6 w B o f:=⟨h.1,h.2.1,h.2.2.1,h.2.2.2.1,h.2.2.2.2.1,h.2.2.2.2.2.1⟩
section
variable {P:Program} {d td:Nat} {ty:TypeId} {pos:String}
end
theorem pM {O:Own} {j jx B:Nat} {cs:List Value} {U:TypeId} {ev:Option Value} {p:Nat×List Value×TypeId} (he:ev=none) (h:O[j]?=some p):(osY O j jx B cs U ev)[j]?=some p:=by
 subst he;exact h
theorem xb_lt {O:Own} {j jx B lo hi:Nat} {cs:List Value} {U:TypeId} {y:Value} (h:∀ p∈O,p.1 < lo) (hB:B < lo):∀ b,lo≤b→b < hi→¬ XB (osY O j jx B cs U (some y)) (pR [] (some y)) b:=by
 rintro b h1 _ (⟨p,hp,rfl⟩ | ⟨g,hg,_⟩)
 ·rcases List.mem_or_eq_of_mem_set (show p∈O.set j (B,eJ cs jx y.cells.toList,U) from hp) with hp | rfl
  ·exact absurd (h p hp) (Nat.not_lt_of_le h1)
  ·exact absurd hB (Nat.not_lt_of_le h1)
 ·cases hg
theorem Ja {w0 W':World} {Ks Kk:List (Nat×World)} {lo:Nat} {X:Nat→Prop} {S:PS} {f:WF} {z:PX} (hcov:∀ {O2:Own} {G2:cR} {K2:List (Nat×World)} {W2:World},St w0 O2 G2 K2 W2→(∀ q∈Ks,q∈K2)→eP lo X W' W2) (hX:∀ b,lo≤b→b < W'.heap.size→¬ X b) (h:iH (fun W=>MB w0 Kk W∧cZ lo W' W) S f z):iH (MB w0 (Ks++Kk)) S f z :=
 h.mono fun W hW=>by
  have hs:=hcov (MB.st hW) (fun q hq=>List.mem_append_left _ hq)
  exact ⟨⟨hW.1,fun q hq=>hW.2 q (List.mem_append_right _ hq)⟩,hs.2.1,fun b h1 h2=>hs.2.2 b h1 h2 (hX b h1 h2)⟩
def Db (lo:Nat) (S:PS) (st sy:Int):Asr:=fun v w=>∃ sq:SF,v = .agg #[.int .i64 sq.tag,.int .i64 sq.dim,.slice sq.a sq.len sq.cap,.int .i64 st,.int .i64 sy,.slice none 0 0,.slice none 0 0]∧∀ W2,cZ lo w W2→SIs W2 S sq
theorem sf_inj9 {a b:SF} (h:a.val=b.val):a=b:=by
 obtain ⟨t,n,c,l,d⟩:=a
 obtain ⟨t2,n2,c2,l2,d2⟩:=b
 simp [SF.val] at h
 obtain ⟨rfl,rfl,rfl,rfl,rfl⟩:=h
 rfl
theorem bldAu9 (sq:SF) (st sy:Int):prog.built 42 [(0,sq.val),(1,.int .i64 st),(2,.int .i64 sy)]=some #[.int .i64 sq.tag,.int .i64 sq.dim,.slice sq.a sq.len sq.cap,.int .i64 st,.int .i64 sy,.slice none 0 0,.slice none 0 0]:=by kernel_rfl
theorem bld_auS {d j1 j2 j3 t1 t2 t3 lo:Nat} {ty:TypeId} {pos:String} {S:PS} {st sy:Int}:∀ (ev:Operand→Value) (w:World),qC [(j1,t1,yK lo S),(j2,t2,isV (.int .i64 st)),(j3,t3,isV (.int .i64 sy))] ev w →
  ∃ v,(execOp ev ⟨some d,.build 42 #[(0,.tmp t1),(1,.tmp t2),(2,.tmp t3)],ty,pos,#[],none⟩).run prog w = .ok (.value v) w∧∀ w2,qC [(j1,t1,yK lo S),(j2,t2,isV (.int .i64 st)),(j3,t3,isV (.int .i64 sy))] ev w2→Db lo S st sy v w2:=fun ev w ⟨⟨sq,h1,h4⟩,h2,h3,_⟩=>by
 have e1:ev (.tmp t1)=_:=h1
 have e2:ev (.tmp t2)=_:=h2
 have e3:ev (.tmp t3)=_:=h3
 refine ⟨_,?_,fun w2 ⟨⟨sq2,k1,k4⟩,_,_,_⟩=>⟨sq,rfl,?_⟩⟩
 ·have hr:=run_build w 42 #[(0,sq.val),(1,.int .i64 st),(2,.int .i64 sy)] _ (P:=prog) (bldAu9 sq st sy)
  unfold execOp
  simp only [List.map_toArray,List.map_cons,List.map_nil,e1,e2,e3]
  simp [hr]
 ·have k1':ev (.tmp t1)=_:=k1
  rw [e1] at k1'
  have e9:sq=sq2:=sf_inj9 k1'
  rw [e9];exact k4
theorem Ms {lo:Nat} {S:PS} {st sy:Int} {sq:SF} {W:World} (h:Db lo S st sy (.agg #[.int .i64 sq.tag,.int .i64 sq.dim,.slice sq.a sq.len sq.cap,.int .i64 st,.int .i64 sy,.slice none 0 0,.slice none 0 0]) W):SIs W S sq:=by
 obtain ⟨sq2,e,h4⟩:=h
 have e9:sq=sq2:=by
  obtain ⟨t,n,a,l,c⟩:=sq
  obtain ⟨t2,n2,a2,l2,c2⟩:=sq2
  simp at e
  obtain ⟨rfl,rfl,rfl,rfl,rfl⟩:=e
  rfl
 rw [e9];exact h4 W ⟨Nat.le_refl _,fun _ _ _=>rfl⟩
structure T9 where
 f:Int
 g:Int
 t:Int
 x:WF
abbrev T9.nine (r:T9):List Value:=nR r.f r.g r.t r.x
abbrev T9.pl (r:T9):Int×Int×Int:=(r.f,r.g,r.t)
def atF (st p:Int):Nat→Int
 | 0=>p
 | k+1=>st+(k:Int)
def chL (st p:Int) (ws:List Int) (k:Nat):List (Int×Int×Int):=(List.range k).map (fun j=>(atF st p j,ws.getD j 0,st+(j:Int)))
theorem Mt (st p:Int) (ws:List Int) (k:Nat):chL st p ws (k+1)=chL st p ws k++[(atF st p k,ws.getD k 0,st+(k:Int))]:=by
 unfold chL;rw [List.range_succ,List.map_append];rfl
theorem chL_len (st p:Int) (ws:List Int) (k:Nat):(chL st p ws k).length=k:=by simp [chL]
def qD (p:PV) (c:CV):Int:=if fA p c≠0 then fA p c else if 4096 < p.st+(c.wl:Int) then 3 else 0
def QOne (S:PS) (p:PV) (c:CV) (w:World) (e:Ending) (w':World):Prop:=Below w.heap.size w w' ∧
 ((qD p c≠0∧e = .returned (.tuple #[.agg #[.int .i64 0,.int .i64 0,.slice none 0 0,.int .i64 0,.int .i64 0,.slice none 0 0,.slice none 0 0],.int .i64 (qD p c)])) ∨
  (qD p c=0∧∃ (sq:SF) (B:Nat) (ta:Option Addr) (tc:Nat) (ns:List T9),e = .returned (.tuple #[.agg #[.int .i64 sq.tag,.int .i64 sq.dim,.slice sq.a sq.len sq.cap,.int .i64 (p.st+(c.wl:Int)),.int .i64 p.sy,.slice (some ⟨B,0,none⟩) 1 1,.slice ta ns.length tc],.int .i64 0]) ∧
   w.heap.size≤B∧SIs w' S sq∧Row w' (some ⟨B,0,none⟩) [atF p.st c.p c.wl]∧ns.map T9.pl=chL p.st c.p c.ws c.wl∧w'.ownsRow w.heap.size 67 9 (.slice ta ns.length tc) ns.length (ns.flatMap T9.nine)∧∀ r∈ns,XIs w' S r.x (eV S)))
theorem Dc {S:PS} {p:PV} {c:CV} {w w':World} {E:Int} (hE:qD p c=E) (hn:E≠0) (hb:Below w.heap.size w w'):QOne S p c w (.returned (.tuple #[.agg #[.int .i64 0,.int .i64 0,.slice none 0 0,.int .i64 0,.int .i64 0,.slice none 0 0,.slice none 0 0],.int .i64 E])) w':=by
 subst hE;exact ⟨hb,.inl ⟨hn,rfl⟩⟩
theorem Mu (v00:Value) (v01:Value) (v02:Value) (v03:Value) (v04:Value) (v05:Value) (v06:Value) (v07:Value) (v08:Value):prog.built 76 [(0,.agg #[v00,v01,v02,v03,v04,v05,v06,v07,v08])]=some #[v00,v01,v02,v03,v04,v05,v06,v07,v08,.int .i64 0,.int .i64 0,.slice none 0 0,.int .i64 0,.int .i64 0,.slice none 0 0,.slice none 0 0]:=by kernel_rfl
theorem oQ:prog.built 42 []=some #[.int .i64 0,.int .i64 0,.slice none 0 0,.int .i64 0,.int .i64 0,.slice none 0 0,.slice none 0 0]:=by kernel_rfl
theorem Ho:bW prog 19=true:=by kernel_rfl
theorem A2:bW prog 33=true:=by kernel_rfl
theorem tQ (S:PS) (p:PV) (Ot:Own) (G:cR) (K:List (Nat×World)) (w0:World) (w:World) (hS0:St w0 Ot G K w) (hsi:SIs w0 S p.s.f) (hok:S.ok) :
  Calls prog 19 #[p.val] w (fun e w'=>∃ (B:Nat) (f0:WF) (sq:SF) (Kn:List (Nat×World)),e = .returned (.pointer (some ⟨B,0,none⟩))∧(∀ q∈K,q∈Kn)∧iT w0 Kn (fun W2=>SIs W2 S sq)∧St w0 ((B,mkC p.s.f f0 sq p.st p.sy (.slice none 0 0) (.slice none 0 0),76)::Ot) G Kn w'):=by
 refine cG (args:=[p.val]) func19 rfl ntmps19 rfl ?_
 have hS:=hS0
 refine aO (aR (bQ (cs:=[_,_,_,_,_,_]) hS rfl rfl rfl fun B1 W1 hS=>aB rfl rfl (aQ (XF.thenN (aO (aR (aN (o':=0) iJ rfl rfl rfl (aU (vs:=[_,_,_]) isAgg25 sizeOf25 rfl (aK.own (j:=0) (m:=3) (hS.at_ 0 rfl) rfl) rfl (dC (vs:=[_]) hS goes_38 rfl (Iw S p.s.f _ (hsi.below hS.below) hok) rfl ?_)))))))))
 rintro e W2 ⟨f0,rfl,_,hb⟩
 refine ⟨_,rfl,hb,fun hS'=>?_⟩
 clear hS;have hS:=hS';clear hS' hb
 refine cY (us:=[(0,.agg (List.toArray [_,_,_,_,_,_,_,_,_]))]) rfl (Mu _ _ _ _ _ _ _ _ _) rfl (bQ (cs:=[_,_,_,_,_,_,_,_,_,_,_,_,_,_,_,_]) hS rfl rfl rfl fun B3 W3 hS=>aB rfl rfl (aQ (XF.thenN (aO (wE (ef:=11) (jy:=8) (ca:=sQ (fun _=>[])) (ta:=fun _=>0) (Os:=osY _ 0 9 B3 (mkC p.s.f f0 ⟨0,0,none,0,0⟩ 0 0 (.slice none 0 0) (.slice none 0 0)) 76) (Gs:=pR _) (al:=[]) (k:=12) (ds:=[]) bY rfl hS rfl (by kernel_rfl) rfl (by decide) rfl rfl rfl rfl (aW 1 rfl rfl (isV _) (fun hNo=>sgV [(3,_)] rfl rfl rfl rfl hNo (aS rfl) ⟨bP rfl,trivial⟩ (fun ev w he hw=>aZ rfl) (aD rfl)) (aW 2 rfl rfl (isV _) (fun hNo=>sgV [(1,_)] rfl rfl rfl rfl hNo (aS rfl) ⟨bP rfl,trivial⟩ (fun ev w he hw=>aV (o':=0) iJ rfl rfl) (aD rfl)) (aW 3 rfl rfl (isV _) (fun hNo=>sgV [(10,_)] rfl rfl rfl rfl hNo (aS rfl) ⟨aL 1 (aA rfl rfl rfl),trivial⟩ (fun ev w he hw=>bL (vs:=[_,_,_]) isAgg25 sizeOf25 rfl ((aK.own (j:=0) (m:=3) (hw.at_ 1 (gX (i:=1) (j:=0) rfl rfl)) rfl))) (aD rfl)) ?_))))))))
 refine aW 4 rfl rfl (yK W3.heap.size S) (fun hNo=>Hd [isV _] rfl rfl rfl rfl hNo Hi (aS rfl) ⟨cD (aL 2 (aA rfl rfl rfl)),trivial⟩ (fun vs ev w' he hSt hlo hh=>by have e:=bZ (us:=[_]) hh;subst e;exact I2 S p.s.f w' (hsi.below hSt.below) hlo) (aD rfl)) ?_
 refine aW 5 rfl rfl (isV _) (fun hNo=>sgV [(1,_)] rfl rfl rfl rfl hNo (aS rfl) ⟨bP rfl,trivial⟩ (fun ev w he hw=>aV (o':=3) eT rfl rfl) (aD rfl)) (aW 6 rfl rfl (isV _) (fun hNo=>sgV [(13,_)] rfl rfl rfl rfl hNo (aS rfl) ⟨aL 4 (aA rfl rfl rfl),trivial⟩ (fun ev w he hw=>aX isAgg3 rfl ((aJ (hw.at_ 1 (gX (i:=1) (j:=0) rfl rfl)) rfl))) (aD rfl)) (aW 7 rfl rfl (isV _) (fun hNo=>sgV [(1,_)] rfl rfl rfl rfl hNo (aS rfl) ⟨bP rfl,trivial⟩ (fun ev w he hw=>aV (o':=4) eE rfl rfl) (aD rfl)) (aW 8 rfl rfl (isV _) (fun hNo=>sgV [(15,_)] rfl rfl rfl rfl hNo (aS rfl) ⟨aL 6 (aA rfl rfl rfl),trivial⟩ (fun ev w he hw=>aX isAgg3 rfl ((aJ (hw.at_ 1 (gX (i:=1) (j:=0) rfl rfl)) rfl))) (aD rfl)) (aW 9 rfl rfl (Db W3.heap.size S p.st p.sy) (fun hNo=>sg_ofs [(3,12,yK W3.heap.size S),(5,14,isV _),(7,16,isV _)] rfl rfl rfl rfl hNo ⟨⟨by kernel_rfl,aA rfl rfl rfl⟩,⟨by kernel_rfl,aA rfl rfl rfl⟩,⟨by kernel_rfl,aA rfl rfl rfl⟩,trivial⟩ (by kernel_rfl) bld_auS (aD rfl)) (aW 10 rfl rfl (isV _) (fun hNo=>sgV [(9,_)] rfl rfl rfl rfl hNo (aS rfl) ⟨aL 0 (aA rfl rfl rfl),trivial⟩ (fun ev w he hw=>fL rfl) (aD rfl)) (aW 11 rfl rfl (isV _) (fun hNo=>sgV [(18,_)] rfl rfl rfl rfl hNo (aS rfl) ⟨aL 9 (aA rfl rfl rfl),trivial⟩ (fun ev w he hw=>aV (o':=9) fC rfl rfl) (aD rfl)) ?_))))))
 refine jJ 12 rfl (nH (py:=Db W3.heap.size S p.st p.sy) (m:=7) 0 9 [(19,_)] rfl rfl rfl rfl (by kernel_rfl) rfl rfl (fun j hj=>by rcases hj with h | rfl<;>first | (cases h<;>rfl) | rfl) ⟨aL 10 (aA rfl rfl rfl),trivial⟩ rfl rfl sizeOf42 (fun v w ⟨sq,e,_⟩=>by subst e;exact ⟨[.int .i64 sq.tag,.int .i64 sq.dim,.slice sq.a sq.len sq.cap,.int .i64 p.st,.int .i64 p.sy,.slice none 0 0,.slice none 0 0],rfl,rfl,rfl⟩) rfl) ?_
 refine jZ ?_
 intro Bf4 y4 W4 Ks4 hsz4 hKs4 hS' hcov4
 clear hS;have hS:=hS'.castO (O':=(_::_::Ot)) rfl;clear hS'
 refine qA (L':=[AwS _ _ (isV _),AwS _ _ (isV _),AwS _ _ (isV _),AwS _ _ (yK W3.heap.size S),AwS _ _ (isV _),AwS _ _ (isV _),AwS _ _ (isV _),AwS _ _ (isV _),(fun v w=>v=_∧AwS _ _ (Db W3.heap.size S p.st p.sy) v w),AwS _ _ (isV _),AwS _ _ (isV _),isV _]) rfl (bF (bF (bF ?_)))
 refine dR ?_;intro _ _
 refine bF (bF (bF (bF ?_)))
 refine dR ?_;rintro _ ⟨rfl,hA4⟩
 obtain ⟨sq,rfl,_⟩:=hA4.here
 have HSp:iT w0 Ks4 (fun W2=>SIs W2 S sq):=fun h2 hk=>Ms (hA4 _ (hcov4 h2 hk))
 refine bF (bF (tO (cH (aQ (XF.thenN (aO (aR (aI rfl rfl (aB rfl rfl (aQ (XF.thenN (bM (XF.res (bV results19 rfl) ?_)))))))))))))
 exact ⟨_,f0,sq,_,rfl,fun q hq=>by simp [hq],HSp.more (fun q hq=>by simp [hq]),(hS.perm (List.Perm.swap _ _ _)).tail⟩
theorem Fi (ds d:Nat) (p:PV) (cp:Int) (wa:Option Addr) (wl wc:Nat) (ws:List Int) (w:World) (hp:PvIn w ds d p) (hrow:Row w wa ws) (hlen:ws.length=wl) (hwm:wl≤9223372036854775807) (S:PS) (px:RV→PX) (hpx:dX p=0→PdsOk w S px p) :
  Calls prog 15 #[p.val,.agg #[.int .i64 cp,.slice wa wl wc]] w (QOne S p ⟨cp,wa,wl,wc,ws⟩ w):=by
 refine cG (args:=[p.val,.agg #[.int .i64 cp,.slice wa wl wc]]) func15 rfl ntmps15 rfl ?_
 have hS:=St.start w
 refine aO (aR (bQ (cs:=[_,_,_,_,_,_]) hS rfl rfl rfl fun B1 W1 hS=>bQ (cs:=[_,_]) hS rfl rfl rfl fun B2 W2 hS=>bU (cs:=[_,_,_,_,_,_,_]) hS zeroValue42 rfl rfl fun B3 W3 hS=>aB rfl rfl (aQ (XF.thenN (aO (aO (aR (aU (vs:=[_,_,_,_,_,_]) isAgg28 sizeOf28 rfl (aK.own (j:=0) (m:=6) (hS.at_ 2 rfl) rfl) rfl (aU (vs:=[_,_]) isAgg32 sizeOf32 rfl (aK.own (j:=0) (m:=2) (hS.at_ 1 rfl) rfl) rfl (bT (vs:=[_,_]) hS goes_32 rfl (L3 ds d p ⟨cp,wa,wl,wc,ws⟩ _ (hp.below hS.below) ⟨hrow.below hS.below,hlen⟩) rfl fun W4 hS=>aB rfl rfl (aQ (XF.thenN (aO (aR (aI rfl rfl (cN rfl rfl rfl (aQ (XF.thenN (bC rfl (fun hc=>?_) (fun hc=>?_))))))))))))))))))))
 ·have hc16:=of_decide_eq_true hc;clear hc
  refine aO (aR (cY (us:=[]) rfl (oQ) rfl (aI rfl rfl ?_)))
  refine bB (i:=0) (vs:=[_,_,_,_,_,_,_]) (cs':=[_,_,_,_,_,_,_]) (O':=[_,_,_]) hS sizeOf42 rfl rfl (by first | rfl | (have h0:=hS.oneV 0 _ rfl;simp only [List.all_cons,List.all_nil,Bool.and_true,Bool.and_eq_true];exact ⟨rfl,rfl,rfl,rfl,rfl,rfl,h0⟩)) rfl rfl rfl rfl fun W5 hS=>?_
  refine aB rfl rfl (aQ (XF.thenN (bM (XF.thenR (XF.res (jV (vs:=[_,_,_,_,_,_,_]) results15 isAgg42 sizeOf42 rfl (aK.own (j:=0) (m:=7) (hS.at_ 0 rfl) rfl) rfl) ?_)))))
  exact Dc (by unfold qD;rw [if_pos hc16]) hc16 hS.below
 ·have hc16:=of_decide_eq_false hc;clear hc
  have h0:¬ fA p ⟨cp,wa,wl,wc,ws⟩≠0:=hc16
  have hE:dX p=0:=by
   by_cases h9:dX p=0
   ·exact h9
   ·exfalso;apply h0;unfold fA;rw [if_pos h9];exact h9
  have hok:=hpx hE
  have hst:0≤p.st∧p.st≤4096:=hok.st
  have hw4:wl≤4096:=by
   have h9:fA p ⟨cp,wa,wl,wc,ws⟩=0:=Decidable.of_not_not h0
   unfold fA iS at h9
   rw [if_neg (fun h=>h hE)] at h9
   split at h9
   ·rename_i h8
    simp only [Bool.and_eq_true,decide_eq_true_eq] at h8
    exact h8.2.1
   ·cases h9
  refine bH (XF.thenN (aO (aO (aR (aN (o':=3) eT rfl rfl rfl (aT isAgg3 rfl (aJ (hS.at_ 2 rfl) rfl) rfl (aN (o':=1) iB rfl rfl rfl (aT isAgg30 rfl (aJ (hS.at_ 1 rfl) rfl) rfl (bX underlying30 rfl rfl (cE rfl rfl (IntWalk.i64_in _ (by omega)) rfl (dS rfl rfl rfl (aQ (XF.thenN (bC rfl (fun hc=>?_) (fun hc=>?_)))))))))))))))
  ·have hc25:=of_decide_eq_true hc;clear hc
   refine aO (aR (cY (us:=[]) rfl (oQ) rfl ?_))
   refine bB (i:=0) (vs:=[_,_,_,_,_,_,_]) (cs':=[_,_,_,_,_,_,_]) (O':=[_,_,_]) hS sizeOf42 rfl rfl (by first | rfl | (have h0:=hS.oneV 0 _ rfl;simp only [List.all_cons,List.all_nil,Bool.and_true,Bool.and_eq_true];exact ⟨rfl,rfl,rfl,rfl,rfl,rfl,h0⟩)) rfl rfl rfl rfl fun W6 hS=>?_
   refine aB rfl rfl (aQ (XF.thenN (bM (XF.thenR (XF.res (jV (vs:=[_,_,_,_,_,_,_]) results15 isAgg42 sizeOf42 rfl (aK.own (j:=0) (m:=7) (hS.at_ 0 rfl) rfl) rfl) ?_)))))
   exact Dc (by unfold qD;rw [if_neg h0,if_pos (by dsimp only;omega)]) (by decide) hS.below
  ·have hc25:=of_decide_eq_false hc;clear hc
   have h1:p.st+(wl:Int)≤4096:=by omega
   have hoE:qD p ⟨cp,wa,wl,wc,ws⟩=0:=by unfold qD;rw [if_neg h0,if_neg (by dsimp only;omega)]
   refine bH (XF.thenN (aO (aR (aU (vs:=[_,_,_,_,_,_]) isAgg28 sizeOf28 rfl (aK.own (j:=0) (m:=6) (hS.at_ 2 rfl) rfl) rfl (mJ (vs:=[_]) Ho rfl (tQ S p _ _ _ w _ hS hok.si hok.ok) rfl ?_)))))
   rintro e W9 ⟨Bm,f0,sq,Kn,rfl,hsub,HSp,hS9⟩
   refine ⟨_,rfl,?_⟩
   clear hS;have hS:=hS9;clear hS9
   refine aB rfl rfl (aQ (XF.thenN (aO (aR (aN (o':=0) lH rfl rfl rfl (aT isAgg3 rfl (aJ (hS.at_ 2 rfl) rfl) rfl (aB rfl rfl (aQ (XF.thenN (aO (aO ?_)))))))))))
   have hS:=hS.newG 67 9
   refine aR (aN (o':=1) iB rfl rfl rfl (aT isAgg30 rfl (aJ (hS.at_ 2 rfl) rfl) rfl (bX underlying30 rfl rfl (aI rfl rfl (aQ (XF.thenN (bI (cX (fun m l W=>∃ (i:Nat) (u:Value) (Kk:List (Nat×World)) (ns:List T9),i≤wl∧m=wl - i∧l=[(2,.pointer (some ⟨B1,0,none⟩)),(3,.pointer (some ⟨B2,0,none⟩)),(4,.pointer (some ⟨B3,0,none⟩)),(7,.pointer (some ⟨Bm,0,none⟩)),(8,.int .i64 (atF p.st cp i)),(32,.slice wa wl wc),(33,.int .i64 (wl:Int)),(34,.int .i64 (i:Int))]∧ns.map T9.pl=chL p.st cp ws i∧iT w Kk (fun W2=>SIs W2 S sq∧∀ r∈ns,XIs W2 S r.x (eV S))∧St w ((Bm,mkC p.s.f f0 sq (p.st+(i:Int)) p.sy (.slice none 0 0) u,76)::[(B3,[.int .i64 0,.int .i64 0,.slice none 0 0,.int .i64 0,.int .i64 0,.slice none 0 0,.slice none 0 0],42),(B2,[.int .i64 cp,.slice wa wl wc],32),(B1,p.six,28)]) [⟨u,ns.length,ns.flatMap T9.nine,67,9⟩] Kk W) (wl - 0) ([(2,_),(3,_),(4,_),(7,_),(8,_),(32,_),(33,_),(34,_)]) ⟨rfl,rfl,rfl,rfl,rfl,rfl,rfl,rfl,trivial⟩ (⟨0,_,_,[],Nat.zero_le _,rfl,rfl,rfl,(fun h2 hk=>⟨HSp h2 hk,fun r hr=>by cases hr⟩),hS.castO (by simp)⟩) ?_))))))))
   clear hS
   rintro m l W ⟨i,u,Kk,ns,hi,rfl,rfl,hns,HN,hS⟩
   refine aO (aR (cC rfl rfl rfl (aQ (XF.thenN (aO (bC rfl (fun hc=>?_) (fun hc=>?_)))))))
   ·have hc35:=of_decide_eq_true hc;clear hc
    have hk:i < wl:=by omega
    obtain ⟨b,off,y,rfl,hy,hyc⟩:=hrow.at1 (show i < ws.length by omega)
    have k1:=hS.old hyc
    have hnl:ns.length=i:=by have h9:=congrArg List.length hns;rw [List.length_map,chL_len] at h9;exact h9
    refine bH (XF.thenN (aO (bI (aO (aR (cJ  underlying30 sizeOf3 rfl rfl rfl (by omega) rfl rfl (aT isAgg3 rfl (k1) rfl (aB rfl rfl (aQ (XF.thenN (aO (aR (aI rfl rfl (eG rfl rfl (aN (o':=9) fC rfl rfl rfl (aN (o':=12) dO rfl rfl rfl (aT isAgg3 rfl (aJ (hS.at_ 0 rfl) rfl) rfl (aB rfl rfl (aQ (XF.thenN (aO (aR (aI rfl rfl (eG rfl rfl (aN (o':=9) fC rfl rfl rfl (aN (o':=12) dO rfl rfl rfl (aT isAgg3 rfl (aJ (hS.at_ 0 rfl) rfl) rfl (cE rfl rfl (IntWalk.i64_in _ (by omega)) rfl (eG rfl rfl (aN (o':=9) fC rfl rfl rfl (aN (o':=12) dO rfl rfl rfl (dK (i:=0) (cs':=[_,_,_,_,_,_,_,_,_,_,_,_,_,_,_,_]) (O':=[_,_,_,_]) hS sizeOf3 rfl rfl (by first | rfl | exact (hS.oneV 0 _ rfl :) | exact (hS.oneV 1 _ rfl :) | exact (hS.oneV 2 _ rfl :) | exact (hS.oneV 3 _ rfl :)) rfl rfl rfl rfl fun W7 hS=>aQ (XF.thenN (aO (aR (aI rfl rfl (aI rfl rfl (aI rfl rfl ?_))))))))))))))))))))))))))))))))))))))
    refine aI rfl rfl (mJ (vs:=[_,_,_,_]) A2 rfl (Ax S p.s.f f0 sq _ p.sy _ u ns.length (ns.flatMap T9.nine) Bm _ _ w _ _ _ _ hS (by omega) hok.si hok.ok) rfl ?_)
    rintro e W9 ⟨u9,f9,Kn9,rfl,hsub9,HX9,hS9⟩
    refine ⟨_,rfl,?_⟩
    clear hS;have hS:=hS9;clear hS9
    refine aQ (XF.thenN (aR (aI rfl rfl (aB rfl rfl (aQ (XF.blkN (XF.thenN (aR (cE rfl rfl (IntWalk.i64_in _ (by omega)) rfl (aI rfl rfl (aQ ?_)))))))))))
    exact XF.round (wl - (i+1)) [(2,_),(3,_),(4,_),(7,_),(8,_),(32,_),(33,_),(34,_)] (by omega) ⟨rfl,rfl,rfl,rfl,rfl,rfl,rfl,rfl,trivial⟩ ⟨i+1,u9,Kn9,ns++[⟨atF p.st cp i,y,p.st+(i:Int),f9⟩],by omega,rfl,rfl,by rw [List.map_append,hns,Mt,jK hy];rfl,(fun h2 hk=>⟨(HN h2 (fun q hq=>hk q (hsub9 q hq))).1,fun r hr=>by
      rcases List.mem_append.1 hr with hr | hr
      ·exact (HN h2 (fun q hq=>hk q (hsub9 q hq))).2 r hr
      ·rw [List.mem_singleton.1 hr];exact HX9 h2 hk⟩),(hS.castO (by simp [Int.add_assoc])).castG (by simp)⟩
   ·have hc35:=of_decide_eq_false hc;clear hc
    have hil:i=wl:=by omega
    subst hil
    refine cW (XF.thenX (XF.thenX (XF.blkX (XF.thenN (aO (aR (aI rfl rfl (aI rfl rfl (dE (us:=[(0,.int .i64 _)]) hS underlying30 sizeOf3 zeroValue3 rfl rfl rfl (uG _) rfl fun B8 W8 hS=>eG rfl rfl (aN (o':=9) fC rfl rfl rfl (aN (o':=14) eB rfl rfl rfl (dK (i:=1) (cs':=[_,_,_,_,_,_,_,_,_,_,_,_,_,_,_,_]) (O':=[_,_,_,_,_]) hS sizeOf30 rfl rfl (by first | rfl | exact (hS.oneV 0 _ rfl :) | exact (hS.oneV 1 _ rfl :) | exact (hS.oneV 2 _ rfl :) | exact (hS.oneV 3 _ rfl :)) rfl rfl rfl rfl fun W9 hS=>aQ (XF.thenN (aO (aR (aI rfl rfl (eG rfl rfl (aN (o':=9) fC rfl rfl rfl (aU (vs:=[_,_,_,_,_,_,_]) isAgg42 sizeOf42 rfl (aK.own (j:=9) (m:=7) (hS.at_ 1 rfl) rfl) rfl ?_)))))))))))))))))))
    refine bB (i:=2) (vs:=[_,_,_,_,_,_,_]) (cs':=[_,_,_,_,_,_,_]) (O':=[_,_,_,_,_]) hS sizeOf42 rfl rfl (by first | rfl | (have h0:=hS.oneV 0 _ rfl;simp only [List.all_cons,List.all_nil,Bool.and_true,Bool.and_eq_true];exact ⟨rfl,rfl,rfl,rfl,rfl,rfl,h0⟩)) rfl rfl rfl rfl fun W10 hS=>?_
    refine aB rfl rfl (aQ (XF.thenN (bM (XF.res (jV (vs:=[_,_,_,_,_,_,_]) results15 isAgg42 sizeOf42 rfl (aK.own (j:=0) (m:=7) (hS.at_ 2 rfl) rfl) rfl) ?_))))
    obtain ⟨a9,c9,rfl⟩:=hS.headSl
    exact ⟨hS.below,.inr ⟨hoE,sq,_,a9,c9,ns,rfl,(hS.own _ List.mem_cons_self).1,(HN.now (hS.keep Kk (fun q hq=>by simp [hq]))).1,.inr ⟨_,0,rfl,fun j hj=>by
      cases j with
      | zero=>have h9:=(hS.at_ 0 rfl);exact (aK.own (j:=0) (m:=1) (vs:=[_]) h9 rfl).1
      | succ j=>simp at hj⟩,hns,hS.row 0 rfl,(HN.now (hS.keep Kk (fun q hq=>by simp [hq]))).2⟩⟩
def Mv (lo:Nat) (p:Asr) (w:World):Ending→World→Prop:=fun e w'=>∃ v,e = .returned v∧(∀ w2,cZ lo w' w2→p v w2)∧Below w.heap.size w w'
section
variable {P:Program} {n:Nat} {Q:Exit→Act→World→Prop} {l:Fr} {w0 W:World} {ops:Array Oper} {os:List Oper} {K:List (Nat×World)} {L:List Asr} {i:Nat}
variable {ca:Nat→Option Value→List Value} {ta:Nat→TypeId} {Os:Option Value→Own} {Gs:Option Value→cR} {lo ef jy:Nat} {s:Sg}
variable {d:Nat} {op:Op} {ty:TypeId} {pos:String} {aft_:Array Edge} {v:Value} {gd:Option (Nat×Bool)}
theorem Mw {f:FuncId} {xs:List Operand} {ts:Array TypeId} (ps:List Asr) (hX:∀ ev b,lo≤b→¬ XB (Os ev) (Gs ev) b) (hie:Nat.beq i ef=false) (hij:oN ops ef jy i=true) (hi:ops[i]?=some ⟨some d,.call { callee:=.value (.func f),args:=xs.toArray,argTypes:=ts },ty,pos,aft_,gd⟩) (hNo:nP [] ef L) (hgo:bW P f=true)
  (hw:gT ops L i ⟨some d,.call { callee:=.value (.func f),args:=xs.toArray,argTypes:=ts },ty,pos,aft_,gd⟩) (hp:wY n ops l L i xs ps)
  {p:Asr} (hc:∀ vs ev w,(kV ops ef i=true→ev=none)→St w0 (Os ev) (Gs ev) K w→lo≤w.heap.size→nM ps vs w→Calls P f vs.toArray w (Mv lo p w)) (hI:atI L i=p):SG P n ops Q l w0 K lo [] ef jy ca ta Os Gs L i:=fun t0 h0 s LB a w hF hG hV hs hcl hr hD=>by
 have hnil:s.bs=[]:=by
  cases hb:s.bs with
  | nil=>rfl
  | cons q r=>have:=hV.2.1 q (by rw [hb];exact List.mem_cons_self);cases this
 have hD':=vV h0 hF hD (fun j d _ hj=>hNo j hj)
 have hS:St w0 (Os s.ev) (Gs s.ev) K w:=St.drops _ hG.1
 have h1:=hc (xs.map a.eval) s.ev w (fun he=>rR hV hs hcl hr.1 he) hS hG.2.1 (jA h0 hF hD' hp)
 rw [show (xs.map a.eval).toArray=xs.toArray.map a.eval by simp] at h1
 unfold wpOp
 simp only [hi,hw.yes hD',if_true]
 refine .inl ?_
 unfold Oper.wp
 rw [lX P a.eval w f xs.toArray ts _ rfl rfl hgo,Oper.upon_enter]
 refine h1.mono ?_
 rintro e w' ⟨v,rfl,hv,hb⟩
 have hA:AwS lo (XB (OE ca ta Os s) (Gs s.ev)) (atI L i) v w':=by
  rw [hI]
  intro w2 h2
  refine hv w2 ⟨h2.2.1,fun b h3 h4=>h2.2.2 b h3 h4 (fun hx=>hX s.ev b h3 ?_)⟩
  unfold OE at hx
  rw [hnil] at hx
  exact hx
 have hie':i≠ef:=fun e=>by rw [e,Nat.beq_refl] at hie;cases hie
 refine ⟨s,v,by simp,Cz hV (List.not_mem_nil) hie',⟨hG.1.grow hb,Nat.le_trans hG.2.1 hb.size,hG.2.2⟩,Tr.refl hb,fun _ _=>⟨(fun h=>absurd h List.not_mem_nil),(fun e=>absurd e hie'),(fun h y hy=>by rw [rR hV hs hcl hr.1 (mG hij h)] at hy;cases hy),fun _ _=>hA⟩⟩
end
theorem osY_lt {O:Own} {j jx B lo:Nat} {cs:List Value} {U:TypeId} (h:∀ p∈O,p.1 < lo) (hB:B < lo):∀ (ev:Option Value) b,lo≤b→¬ XB (osY O j jx B cs U ev) (pR [] ev) b:=by
 intro ev b h1 hx
 cases ev with
 | none =>
  rcases hx with ⟨p,hp,rfl⟩ | ⟨g,hg,_⟩
  ·exact absurd (h p hp) (Nat.not_lt_of_le h1)
  ·cases hg
 | some y=>exact xb_lt (hi:=b+1) h hB b h1 (Nat.lt_succ_self b) hx
theorem wJ:∀ (A old new B:List Value),old.length=new.length→eJ (A++old++B) A.length new=A++new++B
 | A,[],[],B,_=>by simp [eJ]
 | A,[],_::_,B,h=>by simp at h
 | A,_::_,[],B,h=>by simp at h
 | A,o::old,v::new,B,h=>by
  have h9:=wJ (A++[v]) old new B (by simpa using h)
  simp only [eJ]
  have e:(A++o::old++B).set A.length v=(A++[v])++old++B:=by simp [List.set_append]
  rw [e]
  simpa using h9
theorem sU (fs:List WF):(fs.flatMap WF.six).length=fs.length * 6:=by
 induction fs with
 | nil=>rfl
 | cons f r ih=>rw [List.flatMap_cons,List.length_append,ih];simp only [List.length_cons,List.length_nil];omega
theorem oR {fs:List WF} {i:Nat} {f:WF} (h:fs[i]?=some f):fs.flatMap WF.six=(fs.take i).flatMap WF.six++f.six++(fs.drop (i+1)).flatMap WF.six:=by
 have hl:=(List.getElem?_eq_some_iff.1 h).1
 have e:fs=fs.take i++f::fs.drop (i+1):=by
  have h1:=(List.take_append_drop i fs).symm
  rw [List.drop_eq_getElem_cons hl,(List.getElem?_eq_some_iff.1 h).2] at h1
  exact h1
 have e2:=congrArg (fun l=>List.flatMap WF.six l) e
 simp only [List.flatMap_append,List.flatMap_cons] at e2
 rw [List.append_assoc]
 exact e2
theorem yO {fs:List WF} {i:Nat} (h:i < fs.length):((fs.take i).flatMap WF.six).length=0+i * 6:=by
 rw [sU,List.length_take];omega
theorem wK {fs:List WF} {cs:List Value} {i:Nat} {f:WF} (h:fs[i]?=some f):((fs.flatMap WF.six++cs).drop (0+i * 6)).take 6=f.six:=by
 rw [oR h,← yO (List.getElem?_eq_some_iff.1 h).1,List.append_assoc,List.append_assoc,List.drop_left]
 rfl
theorem Fj {fs:List WF} {cs:List Value} {i:Nat} {f g:WF} (h:fs[i]?=some f):eJ (fs.flatMap WF.six++cs) (0+i * 6) g.six=(fs.set i g).flatMap WF.six++cs:=by
 have hl:=(List.getElem?_eq_some_iff.1 h).1
 have h2:(fs.set i g)[i]?=some g:=by rw [List.getElem?_set_self hl]
 rw [oR h,oR h2,← yO hl,List.append_assoc _ _ cs,wJ _ f.six g.six _ rfl]
 rw [List.take_set_of_le (Nat.le_refl _),List.drop_set_of_lt (Nat.lt_succ_self _)]
 simp [List.append_assoc]
theorem Mx {W:World} {b:Nat} {fs:List WF} {cs:List Value} {T:TypeId} (h:W.heap[b]?=some (.cells (fs.flatMap WF.six++cs).toArray T (0,0))):tZ W (some ⟨b,0,none⟩) fs:=.inr ⟨b,0,rfl,fun i f hi=>Mr (aK.own (j:=0+i * 6) (m:=6) h (wK hi))⟩
theorem Jb {W:World} {lo n c:Nat} {a:Option Addr} {fs:List WF} {T:TypeId} (h:W.ownsRow lo T 6 (.slice a n c) n (fs.flatMap WF.six)):tZ W a fs:=by
 rcases fX h with ⟨_,h2⟩ | ⟨b,rfl,_,hc⟩
 ·have h3:=h.1
  rw [sU,h2] at h3
  exact .inl (List.eq_nil_of_length_eq_zero (by omega))
 ·refine .inr ⟨b,0,rfl,fun i f hi=>Mr (aK.of fun j v hj=>hc _ _ ?_)⟩
  have e:=wK (cs:=[]) hi
  rw [List.append_nil] at e
  have hj6:j < 6:=(List.getElem?_eq_some_iff.1 hj).1
  rw [← e,List.getElem?_take,if_pos hj6,List.getElem?_drop] at hj
  exact hj
theorem St.rowOwn {w0 W:World} {O:Own} {K:List (Nat×World)} {a:Option Addr} {n c:Nat} {xs:List Value} {T:TypeId} {sz:Nat} (h:St w0 O [⟨.slice a n c,n,xs,T,sz⟩] K W) (hn:0 < n):∃ (b:Nat) (cs:List Value),a=some ⟨b,0,none⟩∧St w0 ((b,xs++cs,T)::O) [] K W:=by
 obtain ⟨hrow,hap⟩:=h.rows _ List.mem_cons_self
 dsimp only at hrow hap
 rcases hrow.2 with ⟨_,e2⟩ | ⟨g,cap,cur,e1,hg,hh,hn2,hm,hs,ht⟩
 ·omega
 ·injection e1 with e1 _ _
  subst e1
  obtain ⟨ho,hq⟩:=hap g rfl
  refine ⟨g,cur.toList.drop (n * sz),rfl,h.below,fun p hp=>?_,List.Pairwise.cons (fun p hp e=>ho p hp e.symm) h.dist,fun q hq'=>⟨(h.kept q hq').1,fun p hp=>?_⟩,(fun g hg=>by cases hg),List.Pairwise.nil⟩
  ·rcases List.mem_cons.1 hp with rfl | hp
   ·refine ⟨hg,?_⟩
    dsimp only
    rw [← ht,List.take_append_drop,Array.toArray_toList]
    exact hh
   ·exact h.own p hp
  ·rcases List.mem_cons.1 hp with rfl | hp
   ·exact hq q hq'
   ·exact (h.kept q hq').2 p hp
def A3 (S:PS) (b:Bool) (x y:PX):PX:=if b then Eo S y x else Eo S x y
def sV (fs:List Int) (n:Int):Bool:=fs.any (fun y=>decide (y=n))
def iV (S:PS) (fs:List Int) (n:Nat):List PX:=(List.range n).map (fun (s:Nat)=>if sV fs (s:Int) then eV S else eN S)
theorem wL (S:PS) (fs:List Int) (n:Nat):iV S fs (n+1)=iV S fs n++[if sV fs (n:Int) then eV S else eN S]:=by
 unfold iV;rw [List.range_succ,List.map_append];rfl
def tR (S:PS) (back:Bool) (sy:Int) (l acc:List PX) (f g t:Int) (z:PX):List PX :=
 if g=sy then acc.set f.toNat (lL S (acc.getD f.toNat (eN S)) (A3 S back z (l.getD t.toNat (eN S)))) else acc
def lN (S:PS) (back:Bool) (sy:Int) (l:List PX) (py:TV→PX) (n:Nat) (ts:List TV):List PX:=ts.foldl (fun acc t=>tR S back sy l acc t.f t.g t.t (py t)) (List.replicate n (eN S))
theorem Jc {S:PS} {back:Bool} {sy:Int} {l acc:List PX} {f g t:Int} {z:PX}:(tR S back sy l acc f g t z).length=acc.length:=by
 unfold tR;split<;>simp
theorem yP {S:PS} {back:Bool} {sy:Int} {l:List PX} {py:TV→PX}:∀ (ts:List TV) (acc:List PX),(ts.foldl (fun acc t=>tR S back sy l acc t.f t.g t.t (py t)) acc).length=acc.length
 | [],_=>rfl
 | t::ts,acc=>by rw [List.foldl_cons,yP ts,Jc]
theorem kI {S:PS} {back:Bool} {sy:Int} {l:List PX} {py:TV→PX} {n:Nat} {ts:List TV}:(lN S back sy l py n ts).length=n:=by
 unfold lN;rw [yP,List.length_replicate]
theorem qX {S:PS} {back:Bool} {sy:Int} {l:List PX} {py:TV→PX} {n:Nat} {ts:List TV} {i:Nat} {t:TV} (h:ts[i]?=some t):lN S back sy l py n (ts.take (i+1))=tR S back sy l (lN S back sy l py n (ts.take i)) t.f t.g t.t (py t):=by
 unfold lN
 rw [List.take_add_one,h,List.foldl_append];rfl
theorem A4 {M:World→Prop} {S:PS} {fs:List WF} {xs:List PX} {f:WF} {x:PX} (h:XLF M S fs xs) (hx:iH M S f x):XLF M S (fs++[f]) (xs++[x]):=⟨by rw [List.length_append,List.length_append,h.1];rfl,fun i g y hg hy=>by
 rcases Nat.lt_or_ge i fs.length with h1 | h1
 ·rw [List.getElem?_append_left h1] at hg
  rw [List.getElem?_append_left (by rw [← h.1];exact h1)] at hy
  exact h.2 i g y hg hy
 ·rw [List.getElem?_append_right h1] at hg
  rw [List.getElem?_append_right (by rw [← h.1];exact h1),← h.1] at hy
  cases hk:i - fs.length with
  | zero=>rw [hk] at hg hy;cases hg;cases hy;exact hx
  | succ k=>rw [hk] at hg;simp at hg⟩
theorem xlf_set {M:World→Prop} {S:PS} {fs:List WF} {xs:List PX} {f:WF} {x:PX} {k:Nat} (h:XLF M S fs xs) (hx:iH M S f x):XLF M S (fs.set k f) (xs.set k x):=⟨by rw [List.length_set,List.length_set,h.1],fun i g y hg hy=>by
 rcases Nat.decEq i k with h1 | rfl
 ·rw [List.getElem?_set_ne (Ne.symm h1)] at hg hy
  exact h.2 i g y hg hy
 ·have hl:i < fs.length:=by
   rcases Nat.lt_or_ge i fs.length with h2 | h2
   ·exact h2
   ·rw [List.getElem?_eq_none (by simpa using h2)] at hg;cases hg
  rw [List.getElem?_set_self hl] at hg
  rw [List.getElem?_set_self (by rw [← h.1];exact hl)] at hy
  cases hg;cases hy;exact hx⟩
theorem iH.keepM {M:World→Prop} {K1 K2:List (Nat×World)} {S:PS} {f:WF} {x:PX} (h:iH (MK M K1) S f x) (hk:∀ q∈K1,q∈K2):iH (MK M K2) S f x:=h.mono fun W hW=>⟨hW.1,fun q hq=>hW.2 q (hk q hq)⟩
theorem mM {M:World→Prop} {K1 K2:List (Nat×World)} {S:PS} {fs:List WF} {xs:List PX} (h:XLF (MK M K1) S fs xs) (hk:∀ q∈K1,q∈K2):XLF (MK M K2) S fs xs:=⟨h.1,fun i f x hf hx=>(h.2 i f x hf hx).keepM hk⟩
theorem oS {M M':World→Prop} {S:PS} {fs:List WF} {xs:List PX} (h:XLF M S fs xs) (hm:∀ W,M' W→M W):XLF M' S fs xs:=⟨h.1,fun i f x hf hx=>(h.2 i f x hf hx).mono hm⟩
abbrev MZ (w:World) (M:World→Prop):World→Prop:=fun W=>M W∧w.heap.size≤W.heap.size
theorem yQ {w:World} {M:World→Prop} (h:jU M):jU (MZ w M):=fun W W' hW hb=>⟨h _ _ hW.1 hb,Nat.le_trans hW.2 hb.size⟩
theorem Hp {M:World→Prop} {w W:World} {O:Own} {G:cR} {K:List (Nat×World)} {S:PS} {fs:List WF} {xs:List PX} (hS:St w O G K W) (hlo:∀ q∈K,w.heap.size≤q.1) (h:XLF (MK (MZ w M) K) S fs xs):XLF (fun W2=>M W2∧cZ w.heap.size W W2) S fs xs :=
 oS h fun W2 hW=>⟨⟨hW.1,Nat.le_trans hS.below.size hW.2.1⟩,fun q hq=>(hS.kept q hq).1.trans (mL hW.2 (hlo q hq))⟩
theorem Jd {w W:World} {O:Own} {G:cR} {K:List (Nat×World)} {b:Nat} {fs:List WF} {cs:List Value} {T:TypeId} (hS:St w ((b,fs.flatMap WF.six++cs,T)::O) G K W):∀ W2,cZ w.heap.size W W2→tZ W2 (some ⟨b,0,none⟩) fs:=fun W2 hg=>by
 have h:=hS.own _ List.mem_cons_self
 exact Mx ((hg.2 b h.1 (dI h.2)).trans h.2)
def Dd (w W:World):World:={ w with heap:=w.heap++W.heap.extract w.heap.size W.heap.size }
theorem sW {w W:World} (h:w.heap.size≤W.heap.size):(Dd w W).heap.size=W.heap.size:=by
 unfold Dd;simp only [Array.size_append,Array.size_extract];omega
theorem My {w W:World} {k:Nat} (hk:k < w.heap.size):(Dd w W).heap[k]?=w.heap[k]?:=by
 unfold Dd;simp only [Array.getElem?_append_left hk]
theorem De {w W:World} (h:w.heap.size≤W.heap.size) {k:Nat} (hk:w.heap.size≤k):(Dd w W).heap[k]?=W.heap[k]?:=by
 unfold Dd
 simp only [Array.getElem?_append_right hk]
 rw [Array.getElem?_extract]
 rcases Nat.lt_or_ge k W.heap.size with h1 | h1
 ·rw [if_pos (by omega),show w.heap.size+(k - w.heap.size)=k by omega]
 ·rw [if_neg (by omega),Array.getElem?_eq_none (by omega)]
theorem Fk {w W:World} (h:w.heap.size≤W.heap.size):Below w.heap.size w (Dd w W) where
 os:=rfl
 tape:=rfl
 output:=rfl
 size:=by rw [sW h];exact h
 block:=fun k hk=>My hk
theorem Fl {M:World→Prop} {w0 W':World} {Ks Kk:List (Nat×World)} {lo:Nat} {X:Nat→Prop} {S:PS} {f:WF} {z:PX} (hcov:∀ {O2:Own} {G2:cR} {K2:List (Nat×World)} {W2:World},St w0 O2 G2 K2 W2→(∀ q∈Ks,q∈K2)→eP lo X W' W2) (hX:∀ b,lo≤b→b < W'.heap.size→¬ X b) (hlo:w0.heap.size≤lo) (hKs:∀ q∈Ks,lo≤q.1) (h:iH (fun W=>MK (MZ w0 M) Kk W∧cZ lo W' W) S f z):iH (MK (MZ w0 M) (Ks++Kk)) S f z :=
 h.mono fun W hW=>by
  have hsz:w0.heap.size≤W.heap.size:=hW.1.2
  have hst:St w0 [] [] Ks (Dd w0 W):=⟨Fk hsz,(fun p h=>by cases h),List.Pairwise.nil,(fun q hq=>⟨⟨by rw [sW hsz];exact (hW.2 q (List.mem_append_left _ hq)).1,fun k h1 h2=>by rw [De hsz (Nat.le_trans hlo (Nat.le_trans (hKs q hq) h1))];exact (hW.2 q (List.mem_append_left _ hq)).2 k h1 h2⟩,fun p hp=>by cases hp⟩),(fun q h=>by cases h),List.Pairwise.nil⟩
  have hs:=hcov hst (fun q hq=>hq)
  refine ⟨⟨hW.1,fun q hq=>hW.2 q (List.mem_append_right _ hq)⟩,by have h9:=hs.2.1;rw [sW hsz] at h9;exact h9,fun b h1 h2=>?_⟩
  have h9:=hs.2.2 b h1 h2 (hX b h1 h2)
  rw [De hsz (Nat.le_trans hlo h1)] at h9
  exact h9
def lO (M:World→Prop) (lo:Nat) (S:PS) (xs:List PX):Asr:=fun v w=>∃ a c fs,v = .slice a xs.length c∧(∀ W2,cZ lo w W2→tZ W2 a fs)∧XLF (fun W=>M W∧cZ lo w W) S fs xs
theorem kC {M:World→Prop} {lo:Nat} {S:PS} {xs:List PX}:kL (lO M lo S xs):=fun v w w' ⟨a,c,fs,h1,h2,h3⟩ hb=>⟨a,c,fs,h1,fun W2 hg=>h2 W2 ((aP hb lo).trans hg),oS h3 fun W hW=>⟨hW.1,(aP hb lo).trans hW.2⟩⟩
def iW (f z:Int) (xs:List Int) (k:Nat):List (Int×Int×Int):=(List.range k).map (fun (j:Nat)=>(f,(j:Int),z+xs.getD j 0))
theorem pN (f z:Int) (xs:List Int) (k:Nat):iW f z xs (k+1)=iW f z xs k++[(f,(k:Int),z+xs.getD k 0)]:=by
 unfold iW;rw [List.range_succ,List.map_append];rfl
theorem jP {f z:Int} {xs:List Int} {k:Nat}:(iW f z xs k).length=k:=by simp [iW]
def jW (z:Int) (ns:List IV) (s k:Nat):List (Int×Int×Int):=(List.range k).flatMap (fun (i:Nat)=>iW (z+(i:Int)) z ((ns.map IV.xs).getD i []) s)
theorem qY (z:Int) (ns:List IV) (s k:Nat):jW z ns s (k+1)=jW z ns s k++iW (z+(k:Int)) z ((ns.map IV.xs).getD k []) s:=by
 unfold jW;rw [List.range_succ,List.flatMap_append];simp
theorem pO {z:Int} {ns:List IV} {s:Nat}:∀ {k:Nat},(jW z ns s k).length=k * s
 | 0=>by simp [jW]
 | k+1=>by rw [qY,List.length_append,pO,jP,Nat.succ_mul]
def nT (g z:Int) (ns:List IV) (s n:Nat):List (Int×Int×Int):=iW g z ((ns.map IV.xs).getD 0 []) s++jW z ns s n
def pT (z:Nat) (bs:List Bool) (fb:List Bool):Nat→List Bool
 | 0=>fb
 | i+1=>(pT z bs fb i).set (z+i) (bs.getD i false)
theorem gL {z:Nat} {bs fb:List Bool}:∀ {i:Nat},(pT z bs fb i).length=fb.length
 | 0=>rfl
 | i+1=>by rw [pT,List.length_set,gL]
theorem yR {ns:List IV} {i:Nat} {r:IV} (h:ns[i]?=some r):(ns.map IV.xs).getD i []=r.xs:=by
 rw [List.getD_eq_getElem?_getD,List.getElem?_map,h];rfl
theorem tS {bs:List Bool} {i:Nat} (h:i < bs.length):bs[i]?=some (bs.getD i false):=by
 rw [List.getD_eq_getElem?_getD,List.getElem?_eq_getElem h];rfl
theorem uU {fb:List Bool} {i:Nat} (h:i < fb.length):(fb.map Value.bool)[0+i * 1]?=some (.bool (fb.getD i false)):=by
 rw [show 0+i * 1=i by omega,List.getElem?_map,tS h];rfl
theorem Df {fb:List Bool} {i:Nat} {b:Bool}:(fb.map Value.bool).set (0+i * 1) (.bool b)=(fb.set i b).map Value.bool:=by
 rw [show 0+i * 1=i by omega,List.map_set]
theorem tT {fb:List Bool} {i:Nat} {b:Bool}:eJ (fb.map Value.bool) (0+i * 1) [.bool b]=(fb.set i b).map Value.bool:=Df
theorem cnt9 {i n s:Nat} (h:i < n):i * s+s≤n * s:=by
 have h1:(i+1) * s≤n * s:=Nat.mul_le_mul_right s h
 rw [Nat.succ_mul] at h1;exact h1
end
end Go.Proofs.Ytafegfhpinpdoaa
