import Derived.Lib.SmallJoins
import Derived.Deep.Slices
import Derived.Deep.Fields
import Derived.ChangeSlices
import Derived.ChangeSame
import Derived.ProofKit
import Derived.Test.YtpgmnbgkejiomaaNsC
set_option maxRecDepth 100000
set_option maxHeartbeats 4000000
set_option linter.unusedVariables false
set_option linter.unusedSimpArgs false
set_option linter.unusedSectionVars false
set_option linter.unnecessarySimpa false
namespace Go.Proofs.Ytpgmnbgkejiomaa
open Go.Proofs.Try
section
open Go.RowKit
theorem fa_94_1 (w:World) (b o:Nat):(Instr.fieldAt 94 (.pointer (some ⟨b,o,none⟩)) 1).run prog w = .ok (.pointer (some ⟨b,o+5,none⟩)) w:=by
 simp [Instr.fieldAt,run_underlying underlying94,Instr.sureAddr,go_sem,Addr.add_lit]
theorem goes_72:bD prog 72=true:=by kernel_rfl
theorem goes_73:bD prog 73=true:=by kernel_rfl
theorem sE (BB MB n:Nat) (sy s0 e0:Int) (L:List ArV) (wa:Option Addr) (wc:Nat) (nm:ByteArray) (ka:Option Addr) (kl kc:Nat) (f t:Int) (v:Int) (es:List (List UInt8×Int)) (Kt:List (Nat×World)) (Ot:Own) (G:aX) (K:List (Nat×World)) (w0 w:World) (hS0:St w0 ((BB,[.int .i64 ((n:Nat):Int),.int .i64 sy,.int .i64 s0,.int .i64 e0,.slice wa (L).length wc,.map (some MB),.bool false],94)::Ot) (⟨.slice wa (L).length wc,(L).length,(L).flatMap ArV.three,57,3⟩::G) K w) (hKt:∀ q∈Kt,q∈K) (hM:bT w0 Kt (fun W=>MsI MB es W)) (hL:L.length < 65536) (hsz:nm.size≤maxLen) (hf:es.find? (fun p=>decide (p.1=nm.data.toList))=some (nm.data.toList,v)) :
  Calls prog 58 #[.pointer (some ⟨BB,0,none⟩),.agg #[.int .i64 1,.string nm,.slice ka kl kc],.int .i64 f,.int .i64 t] w (fun e w'=>e = .returned (.tuple #[])∧∃ (wa:Option Addr) (wc:Nat),St w0 ((BB,[.int .i64 ((n:Nat):Int),.int .i64 sy,.int .i64 s0,.int .i64 e0,.slice wa (L++[ArV.mk f v t]).length wc,.map (some MB),.bool false],94)::Ot) (⟨.slice wa (L++[ArV.mk f v t]).length wc,(L++[ArV.mk f v t]).length,(L++[ArV.mk f v t]).flatMap ArV.three,57,3⟩::G) K w'):=by
 refine bE (args:=[.pointer (some ⟨BB,0,none⟩),.agg #[.int .i64 1,.string nm,.slice ka kl kc],.int .i64 f,.int .i64 t]) func58 rfl ntmps58 rfl ?_
 have hS:=hS0
 refine aD (aH (bY (cs:=[_,_,_]) hS rfl rfl rfl fun B1 W1 hS=>aG (XF.thenN (aD (aD (aH (aB rfl rfl (bJ rfl rfl (aI (o':=6) fQ rfl rfl rfl (aJ isAgg4 rfl (aF (hS.at_ 1 rfl) rfl) rfl (aG (XF.thenN (cB rfl (aS (XF.thenN (aD (aH (aA rfl rfl (aG (XF.thenN (aD (aH (aI (o':=0) cU rfl rfl rfl (aJ isAgg59 rfl (aF (hS.at_ 0 rfl) rfl) rfl (aG (XF.thenN (aL (aD (aL (aD (aL (aD (aL (aD (aL (aD (aL (aD (aL ?_)))))))))))))))))))))))))))))))))))))))
 refine aD (aL (aD (aD (aD (aH (opV (bL (c:=true) rfl rfl (by decide)) rfl (aA rfl rfl (aG (XF.thenN (cI rfl (bX (XF.thenX (XF.thenX (XF.blkX (XF.thenN (aD (aD ?_)))))))))))))))))
 have hM9:=hM (hS.keep K (fun q hq=>by simp [hq])) hKt
 refine lL (m:=12) cQ hS (by kernel_rfl) (by kernel_rfl) rfl (dB 1 rfl 0 rfl rfl (fun w hw=>bI rfl) rfl (cD 2 rfl 38 0 rfl rfl rfl (fun w hw=>cP rfl) rfl (cD 3 rfl 39 1 rfl rfl rfl (fun w hw=>cF (o':=5) fa_94_1 rfl rfl) rfl (cD 4 rfl 40 2 rfl rfl rfl (fun w hw=>bR isAgg79 rfl ((aY hw 0).cell (Nat.zero_le _) (aF (hS.at_ 1 rfl) rfl))) rfl (dB 5 rfl 5 rfl rfl (fun w hw=>cF (o':=1) iV rfl rfl) rfl (cD 6 rfl 42 4 rfl rfl rfl (fun w hw=>bR isAgg9 rfl ((aY hw 0).cell (Nat.zero_le _) (aF (hS.at_ 0 rfl) rfl))) rfl (aZ 7 rfl (isV _) (aT _) (rgV (li:=[(41,_),(43,_)]) rfl (bO rfl) ⟨aW 3 (aM rfl rfl rfl),aW 5 (aM rfl rfl rfl),trivial⟩ (fun w hw=>tY (hM9.below hw) hsz hf zeroValue3 rfl rfl) (aV rfl)) (cD 8 rfl 44 6 rfl rfl rfl (fun w hw=>bI rfl) rfl (cD 9 rfl 37 7 rfl rfl rfl (fun w hw=>gZ rfl rfl) rfl (aZ 10 rfl (isV (.bool true)) (aT _) (qZ (li:=[(37,_)]) rfl (bO rfl) ⟨aW 7 (aM rfl rfl rfl),trivial⟩ (fun w hw=>gZ rfl rfl) (rfl) (aV rfl)) (cD 11 rfl 45 8 rfl rfl rfl (fun w hw=>fB rfl) rfl (cD 12 rfl 46 9 rfl rfl rfl (fun w hw=>fB rfl) rfl (fM ?_)))))))))))))
 intro W2 hbR hS'
 clear hS;have hS:=hS';clear hS'
 refine aR (aR (aR (aR (aR (aR (aR (aR (aR (aR (aR (aR (dM (XF.thenN (aD (aH (aB rfl rfl (aG (XF.thenN (cI rfl (aH (aB rfl rfl (aB rfl rfl (aB rfl rfl (aB rfl rfl (aU (vs:=[_,_,_,_]) jT rfl (jR BB MB (n) sy s0 e0 (f) (v) (t) (L) _ _ _ _ K w0 _ ((hS.keep K (fun q hq=>by simp [hq])).perm (List.Perm.swap _ _ _)) (by omega)) rfl ?_)))))))))))))))))))))))))
 rintro e W9 ⟨rfl,wa1,wc1,hS9⟩
 refine ⟨_,rfl,?_⟩
 clear hS;have hS:=hS9.perm (List.Perm.swap _ _ _);clear hS9
 refine aG (XF.thenN (bX (XF.blkO rfl (XF.thenX (XF.blkO rfl (XF.thenX (XF.blkO rfl (XF.thenX (XF.blkO rfl (XF.thenX (XF.blkO rfl (XF.thenX (XF.blkO rfl (XF.thenX (XF.blkX (XF.resN (lG results58) ?_))))))))))))))))
 exact ⟨rfl,wa1,wc1,(hS.keep K (fun q hq=>by simp [hq])).tail⟩
theorem uD (BB MB n:Nat) (sy s0 e0:Int) (L:List ArV) (wa:Option Addr) (wc:Nat) (nm:ByteArray) (ka:Option Addr) (kl kc:Nat) (f t:Int) (Ot:Own) (G:aX) (K:List (Nat×World)) (w0 w:World) (hS0:St w0 ((BB,[.int .i64 ((n:Nat):Int),.int .i64 sy,.int .i64 s0,.int .i64 e0,.slice wa (L).length wc,.map (some MB),.bool false],94)::Ot) (⟨.slice wa (L).length wc,(L).length,(L).flatMap ArV.three,57,3⟩::G) K w) (hL:L.length < 65536) :
  Calls prog 58 #[.pointer (some ⟨BB,0,none⟩),.agg #[.int .i64 3,.string nm,.slice ka kl kc],.int .i64 f,.int .i64 t] w (fun e w'=>e = .returned (.tuple #[])∧∃ (wa:Option Addr) (wc:Nat),St w0 ((BB,[.int .i64 ((n:Nat):Int),.int .i64 sy,.int .i64 s0,.int .i64 e0,.slice wa (L++[ArV.mk f (-1) t]).length wc,.map (some MB),.bool false],94)::Ot) (⟨.slice wa (L++[ArV.mk f (-1) t]).length wc,(L++[ArV.mk f (-1) t]).length,(L++[ArV.mk f (-1) t]).flatMap ArV.three,57,3⟩::G) K w'):=by
 refine bE (args:=[.pointer (some ⟨BB,0,none⟩),.agg #[.int .i64 3,.string nm,.slice ka kl kc],.int .i64 f,.int .i64 t]) func58 rfl ntmps58 rfl ?_
 have hS:=hS0
 refine aD (aH (bY (cs:=[_,_,_]) hS rfl rfl rfl fun B1 W1 hS=>aG (XF.thenN (aD (aD (aH (aB rfl rfl (bJ rfl rfl (aI (o':=6) fQ rfl rfl rfl (aJ isAgg4 rfl (aF (hS.at_ 1 rfl) rfl) rfl (aG (XF.thenN (cB rfl (aS (XF.thenN (aD (aH (aA rfl rfl (aG (XF.thenN (aD (aH (aI (o':=0) cU rfl rfl rfl (aJ isAgg59 rfl (aF (hS.at_ 0 rfl) rfl) rfl (aG (XF.thenN (aL (aD (aL (aD (aL (aD (aL (aD (aL (aD (aL (aD (aL ?_)))))))))))))))))))))))))))))))))))))))
 refine aD (aL (aD (aD (aD (aH (opV (bL (c:=false) rfl rfl (by decide)) rfl (aA rfl rfl (aG (XF.thenN (cB rfl (aS (XF.thenN (aD (aD (aH (opV (bL (c:=false) rfl rfl (by decide)) rfl (aA rfl rfl (aG (XF.thenN (cB rfl (aS (XF.thenN (aD (aD (aH (opV (bL (c:=true) rfl rfl (by decide)) rfl (aA rfl rfl (aG (XF.thenN (cI rfl (bX (XF.thenX (XF.thenX (XF.blkO rfl (XF.thenX (XF.blkO rfl (XF.thenX (XF.blkX ?_))))))))))))))))))))))))))))))))))))))
 refine XF.thenN (aD (aH (aB rfl rfl (aB rfl rfl (aB rfl rfl (aB rfl rfl (aU (vs:=[_,_,_,_]) jT rfl (jR BB MB (n) sy s0 e0 (f) (-1) (t) (L) _ _ _ _ K w0 _ ((hS.keep K (fun q hq=>by simp [hq])).perm (List.Perm.swap _ _ _)) (by omega)) rfl ?_)))))))
 rintro e W9 ⟨rfl,wa1,wc1,hS9⟩
 refine ⟨_,rfl,?_⟩
 clear hS;have hS:=hS9.perm (List.Perm.swap _ _ _);clear hS9
 refine aG (XF.thenN (bX (XF.blkO rfl (XF.thenX (XF.blkO rfl (XF.thenX (XF.blkO rfl (XF.thenX (XF.blkO rfl (XF.thenX (XF.blkX (XF.resN (lG results58) ?_))))))))))))
 exact ⟨rfl,wa1,wc1,(hS.keep K (fun q hq=>by simp [hq])).tail⟩
theorem uE (BB MB n2 k:Nat) (sy s0 e0:Int) (L2:List ArV) (wa:Option Addr) (wc:Nat) (nm:ByteArray) (ka:Option Addr) (kl kc:Nat) (f t:Int) (kids:List ReV) (fr:Nat→Int) (sn:Nat→Nat) (sL:Nat→List ArV) (es:List (List UInt8×Int)) (Kt:List (Nat×World)) (Ot:Own) (G:aX) (K:List (Nat×World)) (w0 w:World) (hS0:St w0 ((BB,[.int .i64 ((sn 0:Nat):Int),.int .i64 sy,.int .i64 s0,.int .i64 e0,.slice wa (sL 0).length wc,.map (some MB),.bool false],94)::Ot) (⟨.slice wa (sL 0).length wc,(sL 0).length,(sL 0).flatMap ArV.three,57,3⟩::G) K w) (hKt:∀ q∈Kt,q∈K) (hM:bT w0 Kt (fun W=>MsI MB es W)) (hX:bT w0 Kt (fun W=>ReIn W (.mk 5 nm ka kl kc kids))) (hkk:kids.length=k+1) (hf0:fr 0=f) (h1:∀ i,i < k→sn i < 4096∧fr (i+1)=(sn i:Int)) (h2:∀ (i:Nat) c,i < k→kids[i]?=some c→pC es c (fr i) (fr (i+1)) (sn i+1) (sL i) (sn (i+1)) (sL (i+1))) (h3:∀ c,kids[k]?=some c→pC es c (fr k) t (sn k) (sL k) n2 L2) :
  Calls prog 58 #[.pointer (some ⟨BB,0,none⟩),.agg #[.int .i64 5,.string nm,.slice ka kl kc],.int .i64 f,.int .i64 t] w (fun e w'=>e = .returned (.tuple #[])∧∃ (wa:Option Addr) (wc:Nat),St w0 ((BB,[.int .i64 ((n2:Nat):Int),.int .i64 sy,.int .i64 s0,.int .i64 e0,.slice wa (L2).length wc,.map (some MB),.bool false],94)::Ot) (⟨.slice wa (L2).length wc,(L2).length,(L2).flatMap ArV.three,57,3⟩::G) K w'):=by
 refine bE (args:=[.pointer (some ⟨BB,0,none⟩),.agg #[.int .i64 5,.string nm,.slice ka kl kc],.int .i64 f,.int .i64 t]) func58 rfl ntmps58 rfl ?_
 have hS:=hS0
 obtain ⟨hkl,hk5,hkc⟩:kids.length=kl∧kl≤500∧kl≤kc:=(by cases hX hS0 hKt with | mk h1 h2 h2c h3 h4=>exact ⟨h1,h2,h2c⟩)
 have hk3:bT w0 Kt (fun W=>∀ (i:Nat) k,kids[i]?=some k→∃ b off,ka=some ⟨b,off,none⟩∧aK W b (off+i * 3) k.cells):=fun h9 hk9=>(by cases hX h9 hk9 with | mk h1 h2 h2c h3 h4=>exact h3)
 have hk4:∀ k∈kids,bT w0 Kt (fun W=>ReIn W k):=fun k hk=>(show bT w0 Kt (fun W=>ReIn W k) from fun h9 hk9=>(by cases hX h9 hk9 with | mk h1 h2 h2c h3 h4=>exact h4 k hk))
 refine aD (aH (bY (cs:=[_,_,_]) hS rfl rfl rfl fun B1 W1 hS=>aG (XF.thenN (aD (aD (aH (aB rfl rfl (bJ rfl rfl (aI (o':=6) fQ rfl rfl rfl (aJ isAgg4 rfl (aF (hS.at_ 1 rfl) rfl) rfl (aG (XF.thenN (cB rfl (aS (XF.thenN (aD (aH (aA rfl rfl (aG (XF.thenN (aD (aH (aI (o':=0) cU rfl rfl rfl (aJ isAgg59 rfl (aF (hS.at_ 0 rfl) rfl) rfl (aG (XF.thenN (aL (aD (aL (aD (aL (aD (aL (aD (aL (aD (aL (aD (aL ?_)))))))))))))))))))))))))))))))))))))))
 refine aD (aL (aD (aD (aD (aH (opV (bL (c:=false) rfl rfl (by decide)) rfl (aA rfl rfl (aG (XF.thenN (cB rfl (aS (XF.thenN (aD (aD (aH (opV (bL (c:=false) rfl rfl (by decide)) rfl (aA rfl rfl (aG (XF.thenN (cB rfl (aS (XF.thenN (aD (aD (aH (opV (bL (c:=false) rfl rfl (by decide)) rfl (aA rfl rfl (aG (XF.thenN (cB rfl (aS (XF.thenN (aD (aD (aH (opV (bL (c:=true) rfl rfl (by decide)) rfl (aA rfl rfl (aG (XF.thenN (cI rfl ?_))))))))))))))))))))))))))))))))))))))))
 refine bX (XF.thenX (XF.thenX (XF.blkO rfl (XF.thenX (XF.blkO rfl (XF.thenX (XF.blkO rfl (XF.thenX (XF.blkX (XF.thenN (aD (aH (aB rfl rfl (aI (o':=2) dX rfl rfl rfl (aJ isAgg60 rfl (aF (hS.at_ 0 rfl) rfl) rfl (aB rfl rfl (aB rfl rfl (aU (vs:=[_,_,_,_]) goes_72 rfl (sD BB MB n2 k sy s0 e0 L2 _ _ ka kl kc kids f t fr sn sL es Kt _ _ K w0 _ ((hS.keep K (fun q hq=>by simp [hq])).perm (List.Perm.swap _ _ _)) hKt hM hk3 hk4 hkl hk5 hkc (by omega) hf0 h1 h2 h3) rfl ?_))))))))))))))))))
 rintro e W9 ⟨rfl,wa1,wc1,hS9⟩
 refine ⟨_,rfl,?_⟩
 clear hS;have hS:=hS9.perm (List.Perm.swap _ _ _);clear hS9
 refine aG (XF.thenN (bX (XF.blkO rfl (XF.thenX (XF.blkO rfl (XF.thenX (XF.blkO rfl (XF.thenX (XF.blkX (XF.resN (lG results58) ?_))))))))))
 exact ⟨rfl,wa1,wc1,(hS.keep K (fun q hq=>by simp [hq])).tail⟩
theorem uF (BB MB:Nat) (sy s0 e0:Int) (wa:Option Addr) (wc:Nat) (nm:ByteArray) (ka:Option Addr) (kl kc:Nat) (f t:Int) (kids:List ReV) (sn:Nat→Nat) (sL tL:Nat→List ArV) (es:List (List UInt8×Int)) (Kt:List (Nat×World)) (Ot:Own) (G:aX) (K:List (Nat×World)) (w0 w:World) (hS0:St w0 ((BB,[.int .i64 ((sn 0:Nat):Int),.int .i64 sy,.int .i64 s0,.int .i64 e0,.slice wa (sL 0).length wc,.map (some MB),.bool false],94)::Ot) (⟨.slice wa (sL 0).length wc,(sL 0).length,(sL 0).flatMap ArV.three,57,3⟩::G) K w) (hKt:∀ q∈Kt,q∈K) (hM:bT w0 Kt (fun W=>MsI MB es W)) (hX:bT w0 Kt (fun W=>ReIn W (.mk 6 nm ka kl kc kids))) (h1:∀ i,i < kids.length→sn i+2≤4096∧(sL i).length < 65536∧(tL i).length < 65536∧sL (i+1)=tL i++[⟨(sn i:Int)+1,-1,t⟩]) (h2:∀ (i:Nat) c,kids[i]?=some c→pC es c (sn i:Int) ((sn i:Int)+1) (sn i+2) (sL i++[⟨f,-1,(sn i:Int)⟩]) (sn (i+1)) (tL i)) :
  Calls prog 58 #[.pointer (some ⟨BB,0,none⟩),.agg #[.int .i64 6,.string nm,.slice ka kl kc],.int .i64 f,.int .i64 t] w (fun e w'=>e = .returned (.tuple #[])∧∃ (wa:Option Addr) (wc:Nat),St w0 ((BB,[.int .i64 ((sn kids.length:Nat):Int),.int .i64 sy,.int .i64 s0,.int .i64 e0,.slice wa (sL kids.length).length wc,.map (some MB),.bool false],94)::Ot) (⟨.slice wa (sL kids.length).length wc,(sL kids.length).length,(sL kids.length).flatMap ArV.three,57,3⟩::G) K w'):=by
 refine bE (args:=[.pointer (some ⟨BB,0,none⟩),.agg #[.int .i64 6,.string nm,.slice ka kl kc],.int .i64 f,.int .i64 t]) func58 rfl ntmps58 rfl ?_
 have hS:=hS0
 obtain ⟨hkl,hk5,hkc⟩:kids.length=kl∧kl≤500∧kl≤kc:=(by cases hX hS0 hKt with | mk h1 h2 h2c h3 h4=>exact ⟨h1,h2,h2c⟩)
 have hk3:bT w0 Kt (fun W=>∀ (i:Nat) k,kids[i]?=some k→∃ b off,ka=some ⟨b,off,none⟩∧aK W b (off+i * 3) k.cells):=fun h9 hk9=>(by cases hX h9 hk9 with | mk h1 h2 h2c h3 h4=>exact h3)
 have hk4:∀ k∈kids,bT w0 Kt (fun W=>ReIn W k):=fun k hk=>(show bT w0 Kt (fun W=>ReIn W k) from fun h9 hk9=>(by cases hX h9 hk9 with | mk h1 h2 h2c h3 h4=>exact h4 k hk))
 refine aD (aH (bY (cs:=[_,_,_]) hS rfl rfl rfl fun B1 W1 hS=>aG (XF.thenN (aD (aD (aH (aB rfl rfl (bJ rfl rfl (aI (o':=6) fQ rfl rfl rfl (aJ isAgg4 rfl (aF (hS.at_ 1 rfl) rfl) rfl (aG (XF.thenN (cB rfl (aS (XF.thenN (aD (aH (aA rfl rfl (aG (XF.thenN (aD (aH (aI (o':=0) cU rfl rfl rfl (aJ isAgg59 rfl (aF (hS.at_ 0 rfl) rfl) rfl (aG (XF.thenN (aL (aD (aL (aD (aL (aD (aL (aD (aL (aD (aL (aD (aL ?_)))))))))))))))))))))))))))))))))))))))
 refine aD (aL (aD (aD (aD (aH (opV (bL (c:=false) rfl rfl (by decide)) rfl (aA rfl rfl (aG (XF.thenN (cB rfl (aS (XF.thenN (aD (aD (aH (opV (bL (c:=false) rfl rfl (by decide)) rfl (aA rfl rfl (aG (XF.thenN (cB rfl (aS (XF.thenN (aD (aD (aH (opV (bL (c:=false) rfl rfl (by decide)) rfl (aA rfl rfl (aG (XF.thenN (cB rfl (aS (XF.thenN (aD (aD (aH (opV (bL (c:=false) rfl rfl (by decide)) rfl (aA rfl rfl (aG (XF.thenN (cB rfl ?_))))))))))))))))))))))))))))))))))))))))
 refine aS (XF.thenN (aD (aD (aH (opV (bL (c:=true) rfl rfl (by decide)) rfl (aA rfl rfl (aG (XF.thenN (cI rfl (bX (XF.thenX (XF.thenX (XF.blkO rfl (XF.thenX (XF.blkO rfl (XF.thenX (XF.blkO rfl (XF.thenX (XF.blkO rfl (XF.thenX (XF.blkX (XF.thenN (aD (aD (aH (aI (o':=2) dX rfl rfl rfl (aJ isAgg60 rfl (aF (hS.at_ 0 rfl) rfl) rfl (bN underlying60 rfl rfl (aB rfl rfl (aG (XF.thenN (aL (cE (fun m l W=>∃ (i:Nat) (wa:Option Addr) (wc:Nat),i≤kl∧m=kl - i∧l=[(0,.pointer (some ⟨BB,0,none⟩)),(2,.int .i64 f),(3,.int .i64 t),(65,.slice ka kl kc),(66,.int .i64 (kl:Int)),(67,.int .i64 (i:Int))]∧St w0 ((B1,[.int .i64 6,.string nm,.slice ka kl kc],62)::(BB,[.int .i64 ((sn i:Nat):Int),.int .i64 sy,.int .i64 s0,.int .i64 e0,.slice wa (sL i).length wc,.map (some MB),.bool false],94)::Ot) (⟨.slice wa (sL i).length wc,(sL i).length,(sL i).flatMap ArV.three,57,3⟩::G) K W) (kl - 0) ([(0,_),(2,_),(3,_),(65,_),(66,_),(67,_)]) ⟨rfl,rfl,rfl,rfl,rfl,rfl,trivial⟩ (⟨0,wa,wc,Nat.zero_le _,rfl,rfl,hS.keep K (fun q hq=>by simp [hq])⟩) ?_)))))))))))))))))))))))))))))))))
 clear hS
 rintro m l W ⟨i,wa,wc,hi,rfl,rfl,hS⟩
 refine aD (aH (bK rfl rfl rfl (aG (XF.thenN (aD (bC rfl (fun hc=>?_) (fun hc=>?_)))))))
 ·have hc68:=of_decide_eq_true hc;clear hc
  obtain ⟨k9,hki⟩:∃ c,kids[i]?=some c:=⟨_,List.getElem?_eq_getElem (by omega)⟩
  have hkm:=List.mem_of_getElem? hki
  obtain ⟨b,off,hka,hcs⟩:=hk3 (hS.keep K (fun q hq=>by simp [hq])) hKt i k9 hki
  have hkx:bT w0 Kt (fun W=>ReIn W k9):=hk4 k9 hkm
  obtain ⟨hsn,hsl,htl,hsl2⟩:=h1 i (by omega)
  have hkl9:=h2 i k9 hki
  obtain ⟨ko,kn,kka,kkl,kkc,kks⟩:=k9
  have k1:aK _ b (off+i * 3) [.int .i64 ko,.string kn,.slice kka kkl kkc]:=hcs
  refine aS (XF.thenN (aD (aL (aD (aH ?_)))))
  refine aQ (j:=i) (b:=b) (o:=off) (m:=kl) (c:=kc) underlying60 sizeOf62 (by show some (Value.slice _ _ _)=_;rw [hka]) rfl rfl (by omega) rfl rfl ?_
  refine aO (vs:=[_,_,_]) isAgg62 sizeOf62 rfl k1 rfl (bS (cs:=[_,_,_]) hS zeroValue62 rfl rfl fun B2 W2 hS=>bQ (i:=0) (vs:=[_,_,_]) (cs':=[_,_,_]) (O':=(_::_::_::Ot)) hS sizeOf62 rfl rfl rfl rfl rfl rfl rfl fun W3 hS=>aG (XF.thenN (aD (aH (aB rfl rfl (aO (vs:=[_,_,_]) isAgg62 sizeOf62 rfl (aK.own (j:=0) (m:=3) (hS.at_ 0 rfl) rfl) rfl (aB rfl rfl (aU (vs:=[_,_,_]) goes_73 rfl (sC BB MB (sn i) sy s0 e0 (sL i) (tL i) (sn (i+1)) _ _ ko kn kka kkl kkc kks f es Kt _ _ K w0 _ ((hS.keep K (fun q hq=>by simp [hq])).perm jC) hKt hM hkx hsn hsl hkl9) rfl ?_))))))))
  rintro e W9 ⟨rfl,wa1,wc1,hS9⟩
  refine ⟨_,rfl,?_⟩
  clear hS;have hS:=hS9.perm jC.symm;clear hS9
  refine aB rfl rfl (bM rfl rfl rfl (bM rfl rfl rfl (aA rfl rfl (aA rfl rfl (aG (XF.thenN (aH (aB rfl rfl (aB rfl rfl (aB rfl rfl (aU (vs:=[_,_,_,_]) jT rfl (jR BB MB (sn (i+1)) sy s0 e0 ((sn i:Int)+1) (-1) (t) (tL i) _ _ _ _ K w0 _ ((hS.keep K (fun q hq=>by simp [hq])).perm jC) (by omega)) rfl ?_)))))))))))
  rintro e W9 ⟨rfl,wa3,wc3,hS9⟩
  refine ⟨_,rfl,?_⟩
  clear hS;have hS:=hS9.perm jC.symm;clear hS9
  refine aG (XF.blkN (XF.thenN (aH (bB rfl rfl (IntWalk.i64_in _ (by omega)) rfl (aB rfl rfl (aG ?_))))))
  rw [← hsl2] at hS
  exact XF.round (kl - (i+1)) [(0,_),(2,_),(3,_),(65,_),(66,_),(67,_)] (by omega) ⟨rfl,rfl,rfl,rfl,rfl,rfl,trivial⟩ ⟨i+1,wa3,wc3,by omega,rfl,rfl,hS.tail.keep K (fun q hq=>by simp [hq])⟩
 ·have hc68:=of_decide_eq_false hc;clear hc
  obtain rfl:i=kl:=by omega
  refine bX (XF.thenX (XF.thenX (XF.blkX (XF.thenN (bX (XF.blkO rfl (XF.thenX (XF.blkO rfl (XF.thenX (XF.blkX (XF.resN (lG results58) ?_)))))))))))
  rw [hkl]
  exact ⟨rfl,wa,wc,(hS.keep K (fun q hq=>by simp [hq])).tail⟩
theorem lay_is {es:List (List UInt8×Int)} {x:ReV} {f t:Int} {n n2:Nat} {L L2:List ArV} (h:Lay es x f t n L n2 L2):pC es x f t n L n2 L2:=by
 induction h with
 | @name x f t v n L h1 h2 h3 h4 =>
  intro BB MB sy s0 e0 wa wc Kt Ot G K w0 w hS0 hKt hX hM
  cases x with
  | mk op nm ka kl kc kids =>
   change op=1 at h1
   subst h1
   exact sE BB MB n sy s0 e0 L wa wc nm ka kl kc f t v es Kt Ot G K w0 w hS0 hKt hM h4 h2 h3
 | @emp x f t n L h1 h2 =>
  intro BB MB sy s0 e0 wa wc Kt Ot G K w0 w hS0 hKt hX hM
  cases x with
  | mk op nm ka kl kc kids =>
   change op=3 at h1
   subst h1
   exact uD BB MB n sy s0 e0 L wa wc nm ka kl kc f t Ot G K w0 w hS0 h2
 | @seq x f t k n2 L2 fr sn sL h1 h2 h3 h4 h5 h6 ih1 ih2 =>
  intro BB MB sy s0 e0 wa wc Kt Ot G K w0 w hS0 hKt hX hM
  cases x with
  | mk op nm ka kl kc kids =>
   change op=5 at h1
   subst h1
   exact uE BB MB n2 k sy s0 e0 L2 wa wc nm ka kl kc f t kids fr sn sL es Kt Ot G K w0 w hS0 hKt hM hX h2 h3 h4 ih1 ih2
 | @alt x f t sn sL tL h1 h2 h3 ih =>
  intro BB MB sy s0 e0 wa wc Kt Ot G K w0 w hS0 hKt hX hM
  cases x with
  | mk op nm ka kl kc kids =>
   change op=6 at h1
   subst h1
   exact uF BB MB sy s0 e0 wa wc nm ka kl kc f t kids sn sL tL es Kt Ot G K w0 w hS0 hKt hM hX h2 ih
theorem uG (v1:Option Nat):prog.built 94 [(1,.map v1)]=some #[.int .i64 0,.int .i64 0,.int .i64 0,.int .i64 0,.slice none 0 0,.map v1,.bool false]:=by kernel_rfl
def exV (B1 B2:Nat):ReV:=.mk 5 ⟨#[]⟩ (some ⟨B2,0,none⟩) 2 2 [.mk 1 ⟨#[97]⟩ none 0 0 [],.mk 6 ⟨#[]⟩ (some ⟨B1,0,none⟩) 2 2 [.mk 1 ⟨#[98]⟩ none 0 0 [],.mk 3 ⟨#[]⟩ none 0 0 []]]
def exL:List ArV:=[⟨0,0,2⟩,⟨2,-1,3⟩,⟨3,1,4⟩,⟨4,-1,1⟩,⟨2,-1,5⟩,⟨5,-1,6⟩,⟨6,-1,1⟩]
theorem uH {op:Int} {nm:ByteArray} {n d:Nat} (hn:n+1≤500) (hd:d≤50):FitsR (.mk op nm none 0 0 []) d n (n+1):=FitsR.mk (x:=.mk op nm none 0 0 []) (f:=fun _=>n+1) hn hd rfl (fun i k hi=>by simp [ReV.kids] at hi)
theorem uI (B1 B2:Nat):FitsR (exV B1 B2) 1 0 5:=by
 refine FitsR.mk (x:=exV B1 B2) (f:=fun i=>match i with | 0=>1 | 1=>2 | _=>5) (by omega) (by omega) rfl fun i k hi=>?_
 match i,hi with
 | 0,hi =>
  obtain rfl:ReV.mk 1 ⟨#[97]⟩ none 0 0 []=k:=by simpa [exV,ReV.kids] using hi
  exact uH (n:=1) (by omega) (by omega)
 | 1,hi =>
  obtain rfl:ReV.mk 6 ⟨#[]⟩ (some ⟨B1,0,none⟩) 2 2 [.mk 1 ⟨#[98]⟩ none 0 0 [],.mk 3 ⟨#[]⟩ none 0 0 []]=k:=by simpa [exV,ReV.kids] using hi
  refine FitsR.mk (n:=2) (f:=fun i=>match i with | 0=>3 | 1=>4 | _=>5) (by omega) (by omega) rfl fun i k hi=>?_
  match i,hi with
  | 0,hi =>
   obtain rfl:ReV.mk 1 ⟨#[98]⟩ none 0 0 []=k:=by simpa [ReV.kids] using hi
   exact uH (n:=3) (by omega) (by omega)
  | 1,hi =>
   obtain rfl:ReV.mk 3 ⟨#[]⟩ none 0 0 []=k:=by simpa [ReV.kids] using hi
   exact uH (n:=4) (by omega) (by omega)
  | i+2,hi=>simp [ReV.kids] at hi
 | i+2,hi=>simp [exV,ReV.kids] at hi
theorem uJ (B1 B2:Nat):WellM (exV B1 B2):=by
 have hb:WellM (.mk 1 ⟨#[98]⟩ none 0 0 []):=.mk (fun k hk=>by cases hk) (.inl ⟨rfl,.inr rfl,rfl⟩)
 have ha:WellM (.mk 1 ⟨#[97]⟩ none 0 0 []):=.mk (fun k hk=>by cases hk) (.inl ⟨rfl,.inl rfl,rfl⟩)
 have he:WellM (.mk 3 ⟨#[]⟩ none 0 0 []):=.mk (fun k hk=>by cases hk) (.inr ⟨rfl,.inl ⟨rfl,rfl⟩⟩)
 refine .mk (fun k hk=>?_) (.inr ⟨rfl,.inr ⟨.inl rfl,fun k hk=>?_,Nat.le_refl _⟩⟩)
 ·simp only [exV,ReV.kids,List.mem_cons,List.not_mem_nil,or_false] at hk
  rcases hk with rfl | rfl
  ·exact ha
  ·refine .mk (fun k hk=>?_) (.inr ⟨rfl,.inr ⟨.inr rfl,fun k hk=>?_,Nat.le_refl _⟩⟩)
   ·simp only [ReV.kids,List.mem_cons,List.not_mem_nil,or_false] at hk
    rcases hk with rfl | rfl
    ·exact hb
    ·exact he
   ·simp only [ReV.kids,List.mem_cons,List.not_mem_nil,or_false] at hk
    rcases hk with rfl | rfl
    ·show (1:Int)≠6;decide
    ·show (3:Int)≠6;decide
 ·simp only [exV,ReV.kids,List.mem_cons,List.not_mem_nil,or_false] at hk
  rcases hk with rfl | rfl
  ·show (1:Int)≠5;decide
  ·show (6:Int)≠5;decide
theorem exV_lay (B1 B2:Nat):Lay (kV 2) (exV B1 B2) 0 1 2 [] 7 exL:=by
 refine Lay.seq (x:=exV B1 B2) (k:=1) (fun i=>match i with | 0=>0 | _=>2) (fun i=>match i with | 0=>2 | _=>3) (fun i=>match i with | 0=>[] | _=>[⟨0,0,2⟩]) rfl rfl rfl (fun i hi=>?_) (fun i c hi hc=>?_) (fun c hc=>?_)
 ·obtain rfl:i=0:=by omega
  exact ⟨by decide,rfl⟩
 ·obtain rfl:i=0:=by omega
  obtain rfl:ReV.mk 1 ⟨#[97]⟩ none 0 0 []=c:=by simpa [exV,ReV.kids] using hc
  exact Lay.name (v:=0) (L:=[]) rfl (by decide) (by decide) (by decide)
 ·obtain rfl:ReV.mk 6 ⟨#[]⟩ (some ⟨B1,0,none⟩) 2 2 [.mk 1 ⟨#[98]⟩ none 0 0 [],.mk 3 ⟨#[]⟩ none 0 0 []]=c:=by simpa [exV,ReV.kids] using hc
  refine Lay.alt (x:=.mk 6 ⟨#[]⟩ (some ⟨B1,0,none⟩) 2 2 [.mk 1 ⟨#[98]⟩ none 0 0 [],.mk 3 ⟨#[]⟩ none 0 0 []]) (t:=1) (f:=2) (fun i=>match i with | 0=>3 | 1=>5 | _=>7) (fun i=>match i with | 0=>[⟨0,0,2⟩] | 1=>[⟨0,0,2⟩,⟨2,-1,3⟩,⟨3,1,4⟩,⟨4,-1,1⟩] | _=>exL) (fun i=>match i with | 0=>[⟨0,0,2⟩,⟨2,-1,3⟩,⟨3,1,4⟩] | _=>[⟨0,0,2⟩,⟨2,-1,3⟩,⟨3,1,4⟩,⟨4,-1,1⟩,⟨2,-1,5⟩,⟨5,-1,6⟩]) rfl (fun i hi=>?_) (fun i c hc=>?_)
  ·match i,hi with
   | 0,_=>exact ⟨by decide,by decide,by decide,rfl⟩
   | 1,_=>exact ⟨by decide,by decide,by decide,rfl⟩
   | i+2,hi=>simp [ReV.kids] at hi;omega
  ·match i,hc with
   | 0,hc =>
    obtain rfl:ReV.mk 1 ⟨#[98]⟩ none 0 0 []=c:=by simpa [ReV.kids] using hc
    exact Lay.name (v:=1) (L:=[⟨0,0,2⟩,⟨2,-1,3⟩]) rfl (by decide) (by decide) (by decide)
   | 1,hc =>
    obtain rfl:ReV.mk 3 ⟨#[]⟩ none 0 0 []=c:=by simpa [ReV.kids] using hc
    exact Lay.emp (L:=[⟨0,0,2⟩,⟨2,-1,3⟩,⟨3,1,4⟩,⟨4,-1,1⟩,⟨2,-1,5⟩]) rfl (by decide)
   | i+2,hc=>simp [ReV.kids] at hc
theorem uK (MB n2:Nat) (L2:List ArV) (op:Int) (nm:ByteArray) (ka:Option Addr) (kl kc:Nat) (kids:List ReV) (es:List (List UInt8×Int)) (Kt:List (Nat×World)) (Ot:Own) (G:aX) (K:List (Nat×World)) (w0 w:World) (hS0:St w0 Ot G K w) (hKt:∀ q∈Kt,q∈K) (hM:bT w0 Kt (fun W=>MsI MB es W)) (hX:bT w0 Kt (fun W=>ReIn W (.mk op nm ka kl kc kids))) (hl:Lay es (.mk op nm ka kl kc kids) 0 1 2 [] n2 L2) :
  Calls prog 49 #[.agg #[.int .i64 op,.string nm,.slice ka kl kc],.map (some MB)] w (fun e w'=>∃ (wa:Option Addr) (wc:Nat),e = .returned (.tuple #[NfV.val ⟨(n2:Int),(es.length:Int),0,1,wa,L2.length,wc,L2⟩,.bool true])∧St w0 Ot (⟨.slice wa (L2).length wc,(L2).length,(L2).flatMap ArV.three,57,3⟩::G) K w'):=by
 refine bE (args:=[.agg #[.int .i64 op,.string nm,.slice ka kl kc],.map (some MB)]) func49 rfl ntmps49 rfl ?_
 have hS:=hS0
 refine aD (aH (bY (cs:=[_,_,_]) hS rfl rfl rfl fun B1 W1 hS=>bS (cs:=[_,_,_,_,_]) hS zeroValue24 rfl rfl fun B2 W2 hS=>aA rfl rfl (aG (XF.thenN (aD (aH (aB rfl rfl (dF (us:=[(1,.map _)]) rfl (uG _) rfl (bS (cs:=[_,_,_,_,_,_,_]) hS zeroValue94 rfl rfl fun B3 W3 hS=>bQ (i:=0) (vs:=[_,_,_,_,_,_,_]) (cs':=[_,_,_,_,_,_,_]) (O':=(_::_::_::Ot)) hS sizeOf94 rfl rfl rfl rfl rfl rfl rfl fun W4 hS=>aG (XF.thenN (aD (aH (aB rfl rfl (opV (nN (hM (hS.keep K (fun q hq=>by simp [hq])) hKt) rfl) rfl (aI (o':=0) dJ rfl rfl rfl (aI (o':=1) dV rfl rfl rfl (bV (i:=0) (cs':=[_,_,_,_,_,_,_]) (O':=(_::_::_::Ot)) hS sizeOf3 rfl rfl rfl rfl rfl rfl rfl fun W5 hS=>aG (XF.thenN (aD ?_)))))))))))))))))))
 have hS':=hS.newG 57 3;clear hS;have hS:=hS';clear hS'
 refine aH (aU (vs:=[_]) iX rfl (eO B3 MB 0 (es.length:Int) 0 0 (.slice none 0 0) _ _ K w0 _ (hS.keep K (fun q hq=>by simp [hq])) (by omega)) rfl ?_)
 rintro e W8 ⟨rfl,hS9⟩
 refine ⟨_,rfl,?_⟩
 clear hS;have hS:=hS9;clear hS9
 refine aU (vs:=[_]) iX rfl (eO B3 MB 1 (es.length:Int) 0 0 (.slice none 0 0) _ _ K w0 _ (hS.keep K (fun q hq=>by simp [hq])) (by omega)) rfl ?_
 rintro e W9 ⟨rfl,hS9⟩
 refine ⟨_,rfl,?_⟩
 clear hS;have hS:=hS9;clear hS9
 refine aI (o':=0) dJ rfl rfl rfl (aI (o':=2) dW rfl rfl rfl (bV (i:=0) (cs':=[_,_,_,_,_,_,_]) (O':=(_::_::_::Ot)) hS sizeOf3 rfl rfl rfl rfl rfl rfl rfl fun W6 hS=>aI (o':=0) dJ rfl rfl rfl (aI (o':=3) eU rfl rfl rfl (bV (i:=0) (cs':=[_,_,_,_,_,_,_]) (O':=(_::_::_::Ot)) hS sizeOf3 rfl rfl rfl rfl rfl rfl rfl fun W7 hS=>aG (XF.thenN (aD (aH (aO (vs:=[_,_,_]) isAgg62 sizeOf62 rfl (aK.own (j:=0) (m:=3) (hS.at_ 2 rfl) rfl) rfl (aI (o':=0) dJ rfl rfl rfl (aI (o':=2) dW rfl rfl rfl (aJ isAgg3 rfl (aF (hS.at_ 0 rfl) rfl) rfl (aI (o':=0) dJ rfl rfl rfl (aI (o':=3) eU rfl rfl rfl (aJ isAgg3 rfl (aF (hS.at_ 0 rfl) rfl) rfl (aU (vs:=[_,_,_,_]) jS rfl (lay_is hl B3 MB (es.length:Int) 0 1 none 0 Kt _ _ K w0 _ (hS.keep K (fun q hq=>by simp [hq])) hKt hX hM) rfl ?_)))))))))))))))
 rintro e W9 ⟨rfl,wa2,wc2,hS9⟩
 refine ⟨_,rfl,?_⟩
 clear hS;have hS:=hS9;clear hS9
 refine aG (XF.thenN (aD (regS (ef:=5) (jy:=7) (ca:=jK (fun _=>[])) (ta:=fun _=>0) (Os:=lP _ 1 0 B2 ([.int .i64 0,.int .i64 0,.int .i64 0,.int .i64 0,.slice none 0 0]) ([.int .i64 (n2:Int),.int .i64 (es.length:Int),.int .i64 0,.int .i64 1,.slice wa2 L2.length wc2]) 24) (Gs:=rE _) (al:=[]) (k:=6) (ds:=[5]) cQ rfl hS rfl (by kernel_rfl) (by kernel_rfl) rfl (by decide) rfl (some) (.inl ⟨rfl,rfl⟩) rfl rfl (cK 1 rfl rfl (isV _) (fun hNo=>sgV [(6,_)] rfl rfl rfl rfl hNo (bO rfl) ⟨dR rfl,trivial⟩ (fun ev w he hw=>cF (o':=0) dJ rfl rfl) (aV rfl)) (cK 2 rfl rfl (isV _) (fun hNo=>sgV [(27,_)] rfl rfl rfl rfl hNo (bO rfl) ⟨aW 0 (aM rfl rfl rfl),trivial⟩ (fun ev w he hw=>eA (vs:=[_,_,_,_,_]) isAgg24 sizeOf24 rfl ((aK.own (j:=0) (m:=5) (hw.at_ 0 (pQ (i:=0) (j:=1) rfl rfl)) rfl))) (aV rfl)) (cK 3 rfl rfl (isV _) (fun hNo=>sgV [(6,_)] rfl rfl rfl rfl hNo (bO rfl) ⟨dR rfl,trivial⟩ (fun ev w he hw=>cF (o':=6) fQ rfl rfl) (aV rfl)) (cK 4 rfl rfl (isV _) (fun hNo=>sgV [(29,_)] rfl rfl rfl rfl hNo (bO rfl) ⟨aW 2 (aM rfl rfl rfl),trivial⟩ (fun ev w he hw=>bR isAgg4 rfl ((aF (hw.at_ 0 (pQ (i:=0) (j:=1) rfl rfl)) rfl))) (aV rfl)) (cK 5 rfl rfl (isV _) (fun hNo=>sgV [(30,_)] rfl rfl rfl rfl hNo (bO rfl) ⟨aW 3 (aM rfl rfl rfl),trivial⟩ (fun ev w he hw=>nT rfl) (aV rfl)) ?_))))))))
 refine pP 6 rfl (eff_stO (m:=5) 1 0 [(4,_),(28,_)] rfl rfl rfl rfl (fun j hj=>by rcases hj with h | rfl<;>first | (cases h<;>rfl) | rfl) ⟨dR rfl,aW 1 (aM rfl rfl rfl),trivial⟩ rfl rfl rfl sizeOf24 rfl rfl rfl rfl) ?_
 refine pO ?_
 intro Bf8 y8 W8 Ks8 hsz8 hKs8 hS' hcov8
 clear hS;have hS:=hS'.castO (O':=(_::_::_::Ot)) rfl;clear hS'
 refine tA (L':=[AwS _ _ (isV _),AwS _ _ (isV _),AwS _ _ (isV _),AwS _ _ (isV _),AwS _ _ (isV _),isV _]) rfl (cZ (cZ (cZ (cZ (cZ (fin_0 (dM (aA rfl rfl (aG (XF.thenN (bH (XF.res (sU (vs:=[_,_,_,_,_]) results49 isAgg24 sizeOf24 rfl (aK.own (j:=0) (m:=5) (hS.at_ 1 rfl) rfl) rfl) ?_))))))))))))
 exact ⟨wa2,wc2,rfl,((hS.keep K (fun q hq=>by simp [hq])).tail.tail.tail)⟩
theorem bld_24:prog.built 24 []=some #[.int .i64 0,.int .i64 0,.int .i64 0,.int .i64 0,.slice none 0 0]:=by kernel_rfl
theorem kM (v0:Int) (v2a:Option Addr) (v2l:Nat) (v2c:Nat):prog.built 62 [(0,.int .i64 v0),(2,.slice v2a v2l v2c)]=some #[.int .i64 v0,.string ByteArray.empty,.slice v2a v2l v2c]:=by kernel_rfl
theorem uL (v0:Int):prog.built 62 [(0,.int .i64 v0)]=some #[.int .i64 v0,.string ByteArray.empty,.slice none 0 0]:=by kernel_rfl
theorem qS (v00:Value) (v01:Value) (v02:Value) (v10:Value) (v11:Value) (v12:Value):Instr.fill (fun i=>some (i * 3,3)) ((Array.range (2 * 3)).map ((Value.cells (.agg #[.int .i64 0,.string ByteArray.empty,.slice none 0 0]))[· % (Value.cells (.agg #[.int .i64 0,.string ByteArray.empty,.slice none 0 0])).size]!)) [(0,.agg #[v00,v01,v02]),(1,.agg #[v10,v11,v12])]=some (List.toArray [v00,v01,v02,v10,v11,v12]):=by kernel_rfl
theorem goes_48:bD prog 48=true:=by kernel_rfl
theorem goes_49:bD prog 49=true:=by kernel_rfl
theorem nO {n:Nat} {w A W:World} (hn:n=w.heap.size) (h1:Below n w A) (h2:Below n w W) (h3:dA n A W):Below A.heap.size A W where
 os:=h2.os.trans h1.os.symm
 tape:=h2.tape.trans h1.tape.symm
 output:=h2.output.trans h1.output.symm
 size:=h3.1
 block:=fun k hk=>by
  rcases Nat.lt_or_ge k n with h | h
  ·exact (h2.block k h).trans (h1.block k h).symm
  ·exact h3.2 k h hk
theorem NIn.agree {A W:World} {a:NfV} (h:NIn A a) (hg:dA 0 A W):NIn W a:=⟨fun i r hi=>by
 obtain ⟨b,off,e,hc⟩:=h.arow i r hi
 exact ⟨b,off,e,aK.agree hg (Nat.zero_le _) hc⟩,h.alen,h.amax⟩
theorem uM {w0 W4:World} {lo MB:Nat} {es:List (List UInt8×Int)} (h:MsI MB es W4) (hlo:lo≤MB):bT w0 [(lo,W4)] (fun W=>MsI MB es W):=fun h9 hk9=>h.same (fun hlt=>(h9.kept _ (hk9 _ (List.mem_singleton.2 rfl))).1.2 MB hlo hlt)
theorem exV_in {W:World} {B1 B2:Nat} {T:TypeId} (h1:W.heap[B1]?=some (.cells #[.int .i64 1,.string ⟨#[98]⟩,.slice none 0 0,.int .i64 3,.string ⟨#[]⟩,.slice none 0 0] T (0,0))) (h2:W.heap[B2]?=some (.cells #[.int .i64 1,.string ⟨#[97]⟩,.slice none 0 0,.int .i64 6,.string ⟨#[]⟩,.slice (some ⟨B1,0,none⟩) 2 2] T (0,0))):ReIn W (exV B1 B2):=by
 have leaf:∀ (op:Int) (nm:ByteArray),ReIn W (.mk op nm none 0 0 []):=fun op nm=>.mk rfl (by omega) (Nat.le_refl _) (fun i k hi=>by simp at hi) (fun k hk=>by cases hk)
 refine .mk rfl (by omega) (Nat.le_refl _) (fun i k hi=>⟨B2,0,rfl,?_⟩) (fun k hk=>?_)
 ·match i,hi with
  | 0,hi =>
   obtain rfl:=Option.some.inj hi
   exact aK.own (j:=0) (m:=3) (cs:=[_,_,_,_,_,_]) h2 rfl
  | 1,hi =>
   obtain rfl:=Option.some.inj hi
   exact aK.own (j:=3) (m:=3) (cs:=[_,_,_,_,_,_]) h2 rfl
  | i+2,hi=>simp at hi
 ·simp only [List.mem_cons,List.not_mem_nil,or_false] at hk
  rcases hk with rfl | rfl
  ·exact leaf _ _
  ·refine .mk rfl (by omega) (Nat.le_refl _) (fun i k hi=>⟨B1,0,rfl,?_⟩) (fun k hk=>?_)
   ·match i,hi with
    | 0,hi =>
     obtain rfl:=Option.some.inj hi
     exact aK.own (j:=0) (m:=3) (cs:=[_,_,_,_,_,_]) h1 rfl
    | 1,hi =>
     obtain rfl:=Option.some.inj hi
     exact aK.own (j:=3) (m:=3) (cs:=[_,_,_,_,_,_]) h1 rfl
    | i+2,hi=>simp at hi
   ·simp only [List.mem_cons,List.not_mem_nil,or_false] at hk
    rcases hk with rfl | rfl<;>exact leaf _ _
theorem nmAB_in {W:World} {B:Nat} {T:TypeId} (h:W.heap[B]?=some (.cells #[.string ⟨#[97]⟩,.string ⟨#[98]⟩] T (0,0))):tZ W (some ⟨B,0,none⟩) mE:=fun i s hs=>by
 match i,hs with
 | 0,hs =>
  obtain rfl:=Option.some.inj hs
  exact ⟨B,0,rfl,aF (cs:=[_,_]) h rfl⟩
 | 1,hs =>
  obtain rfl:=Option.some.inj hs
  exact ⟨B,0,rfl,aF (cs:=[_,_]) h rfl⟩
 | i+2,hs=>simp [mE] at hs
def exA (wa:Option Addr) (wc:Nat):NfV:=⟨7,2,0,1,wa,7,wc,exL⟩
theorem pD {wa:Option Addr} {wc:Nat}:cM (exA wa wc)=0:=by
 have e:cM (exA wa wc)=cM (exA none 0):=rfl
 rw [e];decide
theorem uO {q:Nat} (h:E1 exL 0 q):False:=by
 obtain ⟨t,ht,e1,e2,_⟩:=h
 simp only [exL,List.mem_cons,List.not_mem_nil,or_false] at ht
 rcases ht with rfl | rfl | rfl | rfl | rfl | rfl | rfl<;>simp at e1 e2
theorem exL_hd0 {q:Nat} (h:Hd exL (fun q=>(q:Int)=0) q):q=0:=Hd.sub (R:=fun q=>q=0) (fun q h=>by omega) (fun p q hp e=>by subst hp;exact (uO e).elim) h
theorem iY {t:ArV} (h:t∈exL) {p q:Nat} (h1:t.f=(p:Int)) (h2:t.s = -1) (h3:t.q=(q:Int)):E1 exL p q:=⟨t,h,h1,h2,h3⟩
theorem uP {wa:Option Addr} {wc:Nat}:AccN (exA wa wc) [0,1]:=by
 show Hd exL (By9 exL 1 (Hd exL (By9 exL 0 (Hd exL (fun q=>(q:Int)=0))))) 1
 have h2:Hd exL (By9 exL 0 (Hd exL (fun q=>(q:Int)=0))) 2:=.base ⟨0,.base rfl,⟨0,0,2⟩,by simp [exL],rfl,.inl rfl,rfl⟩
 have h3:Hd exL (By9 exL 0 (Hd exL (fun q=>(q:Int)=0))) 3:=.arc h2 (iY (t:=⟨2,-1,3⟩) (by simp [exL]) rfl rfl rfl)
 have h4:Hd exL (By9 exL 1 (Hd exL (By9 exL 0 (Hd exL (fun q=>(q:Int)=0))))) 4:=.base ⟨3,h3,⟨3,1,4⟩,by simp [exL],rfl,.inl rfl,rfl⟩
 exact .arc h4 (iY (t:=⟨4,-1,1⟩) (by simp [exL]) rfl rfl rfl)
theorem uQ {wa:Option Addr} {wc:Nat}:¬ AccN (exA wa wc) [1]:=by
 intro h
 have h1:Hd exL (By9 exL 1 (Hd exL (fun q=>(q:Int)=0))) 1:=h
 refine Hd.sub (R:=fun _=>False) (fun q hq=>?_) (fun _ _ h _=>h) h1
 obtain ⟨p,hp,t,ht,e1,e2,_⟩:=hq
 obtain rfl:=exL_hd0 hp
 simp only [exL,List.mem_cons,List.not_mem_nil,or_false] at ht
 rcases ht with rfl | rfl | rfl | rfl | rfl | rfl | rfl<;>simp at e1 e2
theorem exL_rz0 {n p:Nat} (h:Rz exL 2 1 n p):n=0→p≠0:=by
 induction h with
 | end_=>exact fun _=>by decide
 | eps _ e ih=>intro _ hp;subst hp;exact uO e
 | sym _ _ _=>exact fun h=>absurd h (by omega)
theorem qT:Rz exL 2 1 1 0:=by
 have h6:Rz exL 2 1 0 6:=.eps .end_ (iY (t:=⟨6,-1,1⟩) (by simp [exL]) rfl rfl rfl)
 have h5:Rz exL 2 1 0 5:=.eps h6 (iY (t:=⟨5,-1,6⟩) (by simp [exL]) rfl rfl rfl)
 have h2:Rz exL 2 1 0 2:=.eps h5 (iY (t:=⟨2,-1,5⟩) (by simp [exL]) rfl rfl rfl)
 exact .sym h2 ⟨by decide,⟨0,0,2⟩,by simp [exL],rfl,by decide,rfl⟩
theorem sF {wa:Option Addr} {wc:Nat} {ok:Bool} {l:List Int} (h:LstE (exA wa wc) ok l):ok=true∧l.length=1:=by
 rcases h.2 pD with ⟨_,_,h1⟩ | ⟨h1,m,h2,h3⟩
 ·exact absurd qT (h1 1)
 ·refine ⟨h1,?_⟩
  rw [h3.len]
  have h4:m≤1:=h2.2 1 qT
  have h5:m≠0:=fun e=>exL_rz0 h2.1 e rfl
  omega
theorem gT {wa:Option Addr} {wc:Nat}:fU (exA wa wc) [0,1]=0∧fU (exA wa wc) [1]=0:=by
 unfold fU
 rw [pD]
 exact ⟨rfl,rfl⟩
theorem uR (wa:Option Addr) (wc B:Nat) (T:TypeId) (w:World) (hA:NIn w (exA wa wc)) (h:w.heap[B]?=some (.cells #[.int .i64 0,.int .i64 1] T (0,0))):Calls prog 16 #[(exA wa wc).val,.slice (some ⟨B,0,none⟩) 2 2] w (fun e w'=>e = .returned (.tuple #[.bool true,.int .i64 0])∧Below w.heap.size w w'):=by
 refine (nM (exA wa wc) (some ⟨B,0,none⟩) 2 2 [0,1] w hA (.inr ⟨B,0,rfl,fun j hj=>?_⟩) rfl (by decide)).mono ?_
 ·match j,hj with
  | 0,_=>exact aF (cs:=[_,_]) h rfl
  | 1,_=>exact aF (cs:=[_,_]) h rfl
  | j+2,hj=>simp at hj;omega
 ·rintro e w1 ⟨b,rfl,h1,_,hb⟩
  have:=(h1 gT.1).2 uP
  subst this
  rw [gT.1]
  exact ⟨rfl,hb⟩
theorem run1_is (wa:Option Addr) (wc B:Nat) (T:TypeId) (w:World) (hA:NIn w (exA wa wc)) (h:w.heap[B]?=some (.cells #[.int .i64 1] T (0,0))):Calls prog 16 #[(exA wa wc).val,.slice (some ⟨B,0,none⟩) 1 1] w (fun e w'=>e = .returned (.tuple #[.bool false,.int .i64 0])∧Below w.heap.size w w'):=by
 refine (nM (exA wa wc) (some ⟨B,0,none⟩) 1 1 [1] w hA (.inr ⟨B,0,rfl,fun j hj=>?_⟩) rfl (by decide)).mono ?_
 ·match j,hj with
  | 0,_=>exact aF (cs:=[_]) h rfl
  | j+1,hj=>simp at hj
 ·rintro e w1 ⟨b,rfl,h1,_,hb⟩
  have h2:b=false:=by
   cases b with
   | false=>rfl
   | true=>exact absurd ((h1 gT.2).1 rfl) uQ
  subst h2
  rw [gT.2]
  exact ⟨rfl,hb⟩
theorem pE (wa:Option Addr) (wc:Nat) (w:World) (hA:NIn w (exA wa wc)):Calls prog 18 #[(exA wa wc).val] w (fun e w'=>∃ (la:Option Addr) (lc:Nat),e = .returned (.tuple #[.slice la 1 lc,.bool true,.int .i64 0])∧Below w.heap.size w w'):=by
 refine (oS (exA wa wc) w hA).mono ?_
 rintro e w1 ⟨ok,l,la,lc,rfl,h1,_,_,hb⟩
 obtain ⟨rfl,h2⟩:=sF h1
 rw [pD,h2]
 exact ⟨la,lc,rfl,hb⟩
theorem sG (L2:List ArV) (n2 n3:Nat) (op:Int) (nm:ByteArray) (ka:Option Addr) (kl kc:Nat) (kids:List ReV) (na:Option Addr) (nc:Nat) (w:World) (hX:ReIn w (.mk op nm ka kl kc kids)) (hF:FitsR (.mk op nm ka kl kc kids) 1 0 n3) (hW:WellM (.mk op nm ka kl kc kids)) (hl:Lay (kV 2) (.mk op nm ka kl kc kids) 0 1 2 [] n2 L2) (hN:tZ w na mE) :
  Calls prog 34 #[.agg #[.int .i64 op,.string nm,.slice ka kl kc],.slice na 2 nc] w (fun e w'=>∃ (wa:Option Addr) (wc:Nat),e = .returned (.tuple #[NfV.val ⟨(n2:Int),2,0,1,wa,L2.length,wc,L2⟩,.int .i64 0])∧jL w' wa L2∧Below w.heap.size w w'):=by
 refine bE (args:=[.agg #[.int .i64 op,.string nm,.slice ka kl kc],.slice na 2 nc]) func34 rfl ntmps34 rfl ?_
 have hS:=St.start w
 refine aD (aH (bY (cs:=[_,_,_]) hS rfl rfl rfl fun B1 W1 hS=>bS (cs:=[_,_,_,_,_]) hS zeroValue24 rfl rfl fun B2 W2 hS=>aA rfl rfl (aG (XF.thenN (aD (aD (aH (aO (vs:=[_,_,_]) isAgg62 sizeOf62 rfl (aK.own (j:=0) (m:=3) (hS.at_ 1 rfl) rfl) rfl (bW (vs:=[_]) hS qR rfl (kL op nm ka kl kc kids n3 _ (hX.keep hS.below) hF hW) rfl fun W3 hS=>aA rfl rfl (aG (XF.thenN (aD (aH (aB rfl rfl (opV (gS (c:=false) rfl rfl (by decide)) rfl (aG (XF.thenN (cB rfl (aS (XF.thenN (aD (aH (aB rfl rfl ?_)))))))))))))))))))))))
 refine gK (vs:=[_]) hS goes_48 rfl (sB na nc _ (fun i s hs=>by obtain ⟨b,off,e,hc⟩:=hN i s hs;exact ⟨b,off,e,hS.old hc⟩)) rfl ?_
 rintro e W4 ⟨MB,rfl,hMs,hlo,hb⟩
 refine ⟨_,rfl,hb,fun hS'=>?_⟩
 clear hS;have hS:=hS';clear hS' hb
 obtain ⟨Km,hM,hS9⟩:∃ Km,bT w Km (fun W=>MsI MB (kV 2) W)∧St w _ _ Km _:=⟨[(_,_)],uM hMs hlo,hS.keep _ (fun q hq=>by simp at hq;simp [hq])⟩
 clear hS;have hS:=hS9;clear hS9
 refine aB rfl rfl (bM rfl rfl rfl (bM rfl rfl rfl (aA rfl rfl (aA rfl rfl (aG (XF.thenN (aD (aD (aH (aB rfl rfl (cN rfl rfl (aB rfl rfl (aC (d:=23) rfl rfl (aB rfl rfl (aC (d:=23) rfl rfl (bN underlying77 rfl rfl (aC (d:=23) rfl rfl (dU rfl rfl rfl (bA rfl rfl rfl (aG (XF.thenN (bC rfl (fun hc=>?_) (fun hc=>?_)))))))))))))))))))))))
 ·have hc27:=of_decide_eq_true hc;clear hc
  refine aD (aH (dF (us:=[]) rfl (bld_24) rfl (bQ (i:=0) (vs:=[_,_,_,_,_]) (cs':=[_,_,_,_,_]) (O':=[_,_]) hS sizeOf24 rfl rfl rfl rfl rfl rfl rfl fun W5 hS=>aA rfl rfl (aG (XF.thenN (bH (XF.thenR (XF.res (sU (vs:=[_,_,_,_,_]) results34 isAgg24 sizeOf24 rfl (aK.own (j:=0) (m:=5) (hS.at_ 0 rfl) rfl) rfl) ?_))))))))
  exfalso;simp at hc27
 ·have hc27:=of_decide_eq_false hc;clear hc
  refine aS (XF.thenN (aD (aH (aO (vs:=[_,_,_]) isAgg62 sizeOf62 rfl (aK.own (j:=0) (m:=3) (hS.at_ 1 rfl) rfl) rfl (aB rfl rfl (aU (vs:=[_,_]) goes_49 rfl (uK MB n2 L2 op nm ka kl kc kids (kV 2) Km _ _ Km w _ (hS.keep Km (fun q hq=>by simp [hq])) (fun q hq=>hq) hM (fun h9 hk9=>hX.keep h9.below) hl) rfl ?_))))))
  rintro e W9 ⟨wa2,wc2,rfl,hS9⟩
  refine ⟨_,rfl,?_⟩
  clear hS;have hS:=hS9;clear hS9
  refine aB rfl rfl (bM rfl rfl rfl (bM rfl rfl rfl (bS (cs:=[_,_,_,_,_]) hS zeroValue24 rfl rfl fun B6 W6 hS=>bQ (i:=0) (vs:=[_,_,_,_,_]) (cs':=[_,_,_,_,_]) (O':=[_,_,_]) hS sizeOf24 rfl rfl rfl rfl rfl rfl rfl fun W7 hS=>aA rfl rfl (aG (XF.thenN (aD (aD (aH (aB rfl rfl (cN rfl rfl (aG (XF.thenN (cB rfl (aS (XF.thenN (aD (aH (aO (vs:=[_,_,_,_,_]) isAgg24 sizeOf24 rfl (aK.own (j:=0) (m:=5) (hS.at_ 0 rfl) rfl) rfl (bQ (i:=1) (vs:=[_,_,_,_,_]) (cs':=[_,_,_,_,_]) (O':=[_,_,_]) hS sizeOf24 rfl rfl rfl rfl rfl rfl rfl fun W8 hS=>aA rfl rfl (aG (XF.thenN (bH (XF.res (sU (vs:=[_,_,_,_,_]) results34 isAgg24 sizeOf24 rfl (aK.own (j:=0) (m:=5) (hS.at_ 1 rfl) rfl) rfl) ?_)))))))))))))))))))))))
  obtain ⟨K8,k8,g8,hS8⟩:=St.rowKeepN (o:=⟨.slice wa2 L2.length wc2,L2.length,L2.flatMap ArV.three⟩) hS
  exact ⟨wa2,wc2,rfl,nE (g8 hS8 (fun q hq=>hq)),hS.below⟩
theorem pF (w:World) :
  Calls prog 35 #[] w (fun e w'=>∃ B1 B2:Nat,e = .returned (exV B1 B2).val∧ReIn w' (exV B1 B2)∧Below w.heap.size w w'):=by
 refine bE (args:=[]) func35 rfl ntmps35 rfl ?_
 have hS:=St.start w
 refine aD (aH (bS (cs:=[_,_,_]) hS zeroValue62 rfl rfl fun B1 W1 hS=>aG (XF.thenN (aD (aH (dF (us:=[(0,.int .i64 _),(1,.string _)]) rfl (iC _ _) rfl (dF (us:=[(0,.int .i64 _)]) rfl (uL _) rfl (bP (us:=[(0,.agg (List.toArray [_,_,_])),(1,.agg (List.toArray [_,_,_]))]) hS underlying60 sizeOf62 zeroValue62 rfl rfl rfl (qS _ _ _ _ _ _) rfl fun B2 W2 hS=>dF (us:=[(0,.int .i64 _),(2,.slice _ _ _)]) rfl (kM _ _ _ _) rfl (bS (cs:=[_,_,_]) hS zeroValue62 rfl rfl fun B3 W3 hS=>bQ (i:=0) (vs:=[_,_,_]) (cs':=[_,_,_]) (O':=[_,_,_]) hS sizeOf62 rfl rfl rfl rfl rfl rfl rfl fun W4 hS=>aG (XF.thenN (aD (aH (dF (us:=[(0,.int .i64 _),(1,.string _)]) rfl (iC _ _) rfl (aO (vs:=[_,_,_]) isAgg62 sizeOf62 rfl (aK.own (j:=0) (m:=3) (hS.at_ 0 rfl) rfl) rfl (bP (us:=[(0,.agg (List.toArray [_,_,_])),(1,.agg (List.toArray [_,_,_]))]) hS underlying60 sizeOf62 zeroValue62 rfl rfl rfl (qS _ _ _ _ _ _) rfl fun B5 W5 hS=>dF (us:=[(0,.int .i64 _),(2,.slice _ _ _)]) rfl (kM _ _ _ _) rfl (bQ (i:=3) (vs:=[_,_,_]) (cs':=[_,_,_]) (O':=[_,_,_,_]) hS sizeOf62 rfl rfl rfl rfl rfl rfl rfl fun W6 hS=>aG (XF.thenN (bH (XF.res (resC1 (vs:=[_,_,_]) results35 isAgg62 sizeOf62 rfl (aK.own (j:=0) (m:=3) (hS.at_ 3 rfl) rfl)) ?_)))))))))))))))))))
 exact ⟨B2,B5,rfl,exV_in (hS.at_ 2 rfl) (hS.at_ 0 rfl),hS.below⟩
theorem bs_77_2 (v0:ByteArray) (v1:ByteArray):Instr.fill (fun i=>some (i * 1,1)) ((Array.range (2 * 1)).map ((Value.cells (.string ByteArray.empty))[· % (Value.cells (.string ByteArray.empty)).size]!)) [(0,.string v0),(1,.string v1)]=some (List.toArray [.string v0,.string v1]):=by kernel_rfl
theorem qU:bD prog 16=true:=by kernel_rfl
theorem goes_18:bD prog 18=true:=by kernel_rfl
theorem goes_34:bD prog 34=true:=by kernel_rfl
theorem goes_35:bD prog 35=true:=by kernel_rfl
theorem sH (w:World) :
  Calls prog 15 #[] w (fun e w'=>e = .returned (.bool true)∧Below w.heap.size w w'):=by
 refine bE (args:=[]) func15 rfl ntmps15 rfl ?_
 have hS:=St.start w
 refine aD (aH (aA rfl rfl (aG (XF.thenN (aD (aH (gK (vs:=[]) hS goes_35 rfl (pF _) rfl ?_)))))))
 rintro e W1 ⟨E1,E2,rfl,hEx,hb⟩
 refine ⟨_,rfl,hb,fun hS'=>?_⟩
 clear hS;have hS:=hS';clear hS'
 have hbE:=hb
 clear hb
 refine bP (us:=[(0,.string _),(1,.string _)]) hS underlying77 sizeOf9 zeroValue9 rfl rfl rfl (bs_77_2 _ _) rfl fun B2 W2 hS=>gK (vs:=[_,_]) hS goes_34 rfl (sG exL 7 5 _ _ _ _ _ _ _ _ _ (hEx.keep (nO rfl hbE hS.below (hS.since 0 rfl))) (uI E1 E2) (uJ E1 E2) (exV_lay E1 E2) (nmAB_in (hS.at_ 0 rfl))) rfl ?_
 rintro e W8 ⟨wa,wc,rfl,hAr,hb⟩
 refine ⟨_,rfl,hb,fun hS'=>?_⟩
 clear hS;have hS:=(hS'.tail).mark 0 (fun p hp=>by cases hp) rfl;clear hS' hb
 have hNin:NIn W8 (exA wa wc):=⟨hAr,rfl,by show 7≤_;decide⟩
 refine aB rfl rfl (bM rfl rfl rfl (bM rfl rfl rfl (bS (cs:=[_,_,_,_,_]) hS zeroValue24 rfl rfl fun B3 W3 hS=>bQ (i:=0) (vs:=[_,_,_,_,_]) (cs':=[_,_,_,_,_]) (O':=[_]) hS sizeOf24 rfl rfl rfl rfl rfl rfl rfl fun W4 hS=>aA rfl rfl (aG (XF.thenN (aD (aH (aO (vs:=[_,_,_,_,_]) isAgg24 sizeOf24 rfl (aK.own (j:=0) (m:=5) (hS.at_ 0 rfl) rfl) rfl (bP (us:=[(0,.int .i64 _),(1,.int .i64 _)]) hS underlying25 sizeOf3 zeroValue3 rfl rfl rfl (bs_25_2 _ _) rfl fun B5 W5 hS=>bW (vs:=[_,_]) hS qU rfl (uR wa wc _ _ _ (hNin.agree (hS.since 0 rfl)) (hS.at_ 0 rfl)) rfl fun W6 hS=>aB rfl rfl (bM rfl rfl rfl (bM rfl rfl rfl (aA rfl rfl (aA rfl rfl (aG (XF.thenN (aD (aH (aO (vs:=[_,_,_,_,_]) isAgg24 sizeOf24 rfl (aK.own (j:=0) (m:=5) (hS.at_ 1 rfl) rfl) rfl (bP (us:=[(0,.int .i64 _)]) hS underlying25 sizeOf3 zeroValue3 rfl rfl rfl (dS _) rfl fun B7 W7 hS=>bW (vs:=[_,_]) hS qU rfl (run1_is wa wc _ _ _ (hNin.agree (hS.since 1 rfl)) (hS.at_ 0 rfl)) rfl fun W8 hS=>aB rfl rfl (bM rfl rfl rfl (bM rfl rfl rfl (aA rfl rfl (aA rfl rfl (aG (XF.thenN (aD (aH (aO (vs:=[_,_,_,_,_]) isAgg24 sizeOf24 rfl (aK.own (j:=0) (m:=5) (hS.at_ 2 rfl) rfl) rfl (gK (vs:=[_]) hS goes_18 rfl (pE wa wc _ (hNin.agree (hS.since 2 rfl))) rfl ?_)))))))))))))))))))))))))))))
 rintro e W9 ⟨la,lc,rfl,hb⟩
 refine ⟨_,rfl,hb,fun hS'=>?_⟩
 clear hS;have hS:=hS';clear hS' hb
 refine aB rfl rfl (bM rfl rfl rfl (bM rfl rfl rfl (bM rfl rfl rfl (aA rfl rfl (aA rfl rfl (aA rfl rfl (aG (XF.thenN (aD (aH (aB rfl rfl (opV (bL (c:=true) rfl rfl (by decide)) rfl (aB rfl rfl (aC (d:=36) rfl rfl (aB rfl rfl (aC (d:=36) rfl rfl (opV (bL (c:=true) rfl rfl (by decide)) rfl (aN rfl rfl rfl (aB rfl rfl (aC (d:=40) rfl rfl (aB rfl rfl (aC (d:=40) rfl rfl (opV (bL (c:=true) rfl rfl (by decide)) rfl (aN rfl rfl rfl (aB rfl rfl (aC (d:=44) rfl rfl (aB rfl rfl (aC (d:=44) rfl rfl (opV (bL (c:=true) rfl rfl (by decide)) rfl (aN rfl rfl rfl (aB rfl rfl (aC (d:=48) rfl rfl (aB rfl rfl (aN rfl rfl rfl ?_))))))))))))))))))))))))))))))))))
 refine aB rfl rfl (aC (d:=51) rfl rfl (aB rfl rfl (aC (d:=51) rfl rfl (cN rfl rfl (aN rfl rfl rfl (aB rfl rfl (aC (d:=55) rfl rfl (aB rfl rfl (aN rfl rfl rfl (aB rfl rfl (aC (d:=58) rfl rfl (aB rfl rfl (aC (d:=58) rfl rfl (bN underlying25 rfl rfl (aC (d:=58) rfl rfl (opV (bL (c:=true) rfl rfl (by decide)) rfl (aN rfl rfl rfl (aA rfl rfl (aG (XF.thenN (bH (XF.res (bU results15 rfl) ?_))))))))))))))))))))))
 exact ⟨rfl,hS.below⟩
theorem goes_10:bD prog 10=true:=by kernel_rfl
theorem goes_11:bD prog 11=true:=by kernel_rfl
theorem qV:bD prog 12=true:=by kernel_rfl
theorem goes_15:bD prog 15=true:=by kernel_rfl
theorem goes_8:bD prog 8=true:=by kernel_rfl
theorem goes_9:bD prog 9=true:=by kernel_rfl
theorem gU {w:World} {a:Option Addr} {zs:List Int} (h:Row w a zs):bT w [] (fun W=>Row W a zs):=fun h9 _=>h.below h9.below
theorem kW (a:NfV) (x:Int) (la:Option Addr) (ll lc:Nat) (ls:List Int) (w:World) (hA0:NIn w a) (hL0:Row w la ls∧ls.length=ll∧ll≤lc∧ll≤9223372036854775807) :
  Calls prog 3 #[a.val,.int .i64 x,.slice la ll lc] w (fun e w'=>e = .returned (.bool true)∧Below w.heap.size w w'):=by
 refine bE (args:=[a.val,.int .i64 x,.slice la ll lc]) func3 rfl ntmps3 rfl ?_
 have hS:=St.start w
 obtain ⟨hL,hll,hlc,hlm⟩:=hL0
 refine aD (aH (bY (cs:=[_,_,_,_,_]) hS rfl rfl rfl fun B1 W1 hS=>aA rfl rfl (aG (XF.thenN (aD (aH (aO (vs:=[_,_,_,_,_]) isAgg24 sizeOf24 rfl (aK.own (j:=0) (m:=5) (hS.at_ 0 rfl) rfl) rfl (aB rfl rfl (aU (vs:=[_,_]) goes_8 rfl (oL a la ll lc ls [] _ [] [] w _ (hS.keep [] (fun q hq=>by simp [hq])) (fun q hq=>by cases hq) (fH hA0) (gU hL) hll hlm) rfl ?_)))))))))
 rintro e W9 ⟨l1,wa1,wc1,K1,hx1,hy1,rfl,hk1,hR1,hS9⟩
 refine ⟨_,rfl,?_⟩
 clear hS;have hS:=hS9;clear hS9
 refine aB rfl rfl (bM rfl rfl rfl (bM rfl rfl rfl (aA rfl rfl (aA rfl rfl (aG (XF.thenN (aD (aH (aO (vs:=[_,_,_,_,_]) isAgg24 sizeOf24 rfl (aK.own (j:=0) (m:=5) (hS.at_ 0 rfl) rfl) rfl (aB rfl rfl (aU (vs:=[_,_]) goes_9 rfl (oQ a la ll lc ls [] _ [] K1 w _ (hS.keep K1 (fun q hq=>by simp [hq])) (fun q hq=>by cases hq) (fH hA0) (gU hL) hll hlm) rfl ?_)))))))))))
 rintro e W9 ⟨l2,wa2,wc2,K2,hx2,hy2,rfl,hk2,hR2,hS9⟩
 refine ⟨_,rfl,?_⟩
 clear hS;have hS:=hS9;clear hS9
 refine aB rfl rfl (bM rfl rfl rfl (bM rfl rfl rfl (aA rfl rfl (aA rfl rfl (aG (XF.thenN (aD (aH (aO (vs:=[_,_,_,_,_]) isAgg24 sizeOf24 rfl (aK.own (j:=0) (m:=5) (hS.at_ 0 rfl) rfl) rfl (aB rfl rfl (aB rfl rfl (aU (vs:=[_,_,_]) goes_10 rfl (rM a la ll lc ls x [] _ [] K2 w _ (hS.keep K2 (fun q hq=>by simp [hq])) (fun q hq=>by cases hq) (fH hA0) (gU hL) hll hlm) rfl ?_))))))))))))
 rintro e W9 ⟨l3,wa3,wc3,K3,hx3,hy3,rfl,hk3,hR3,hS9⟩
 refine ⟨_,rfl,?_⟩
 clear hS;have hS:=hS9;clear hS9
 refine aB rfl rfl (bM rfl rfl rfl (bM rfl rfl rfl (aA rfl rfl (aA rfl rfl (aG (XF.thenN (aD (aH (aO (vs:=[_,_,_,_,_]) isAgg24 sizeOf24 rfl (aK.own (j:=0) (m:=5) (hS.at_ 0 rfl) rfl) rfl (aB rfl rfl (aB rfl rfl (aU (vs:=[_,_,_]) goes_11 rfl (rS a la ll lc ls x [] _ [] K3 w _ (hS.keep K3 (fun q hq=>by simp [hq])) (fun q hq=>by cases hq) (fH hA0) (gU hL) hll hlm) rfl ?_))))))))))))
 rintro e W9 ⟨l4,wa4,wc4,K4,hx4,hy4,rfl,hk4,hR4,hS9⟩
 refine ⟨_,rfl,?_⟩
 clear hS;have hS:=hS9;clear hS9
 refine aB rfl rfl (bM rfl rfl rfl (bM rfl rfl rfl (aA rfl rfl (aA rfl rfl (aG (XF.thenN (aD ?_)))))))
 have e12:l1=l2:=by
  by_cases h0:cH a ls=0
  ·exact (hx1 h0).1.one (hx2 h0).1 (fun q=>Iff.rfl)
  ·rw [hy1 h0,hy2 h0]
 have e34:l3=l4:=by
  by_cases h0:fX a x ls=0
  ·exact (hx3 h0).1.one (hx4 h0).1 (fun q=>Iff.rfl)
  ·rw [hy3 h0,hy4 h0]
 have hl1:l1.length≤4096:=by
  by_cases h0:cH a ls=0
  ·exact (hx1 h0).2
  ·rw [hy1 h0];exact Nat.zero_le _
 have hl3:l3.length≤4096:=by
  by_cases h0:fX a x ls=0
  ·exact (hx3 h0).2
  ·rw [hy3 h0];exact Nat.zero_le _
 subst e12 e34
 have hS5:=hS.keep K4 (fun q hq=>by simp [hq])
 have hr4:=hR4 hS5 (fun q hq=>hq)
 have hr3:=hR3 hS5 (fun q hq=>hk4 q hq)
 have hr2:=hR2 hS5 (fun q hq=>hk4 q (hk3 q hq))
 have hr1:=hR1 hS5 (fun q hq=>hk4 q (hk3 q (hk2 q hq)))
 have hA5:=hA0.below hS.below
 refine lL (m:=29) cQ hS (by kernel_rfl) (by kernel_rfl) rfl (dB 1 rfl 7 rfl rfl (fun w hw=>bI rfl) rfl (dB 2 rfl 9 rfl rfl (fun w hw=>bI rfl) rfl ?_))
 refine aZ 3 rfl (isV (.bool true)) (aT _) (gL [isV _,isV _] rfl qV (bO rfl) ⟨jD (aW 0 (aM rfl rfl rfl)),jD (aW 1 (aM rfl rfl rfl)),trivial⟩ (fun vs w' hb hh=>by have e:=eI (us:=[_,_]) hh;subst e;exact (qK wa1 wa2 l1.length l1.length wc1 wc2 (nI l1) (nI l1) w' (hr1.below hb) (hr2.below hb) eG eG (by omega)).mono fun e w2 ⟨h1,h2⟩=>⟨_,h1.trans (by rw [decide_eq_true rfl]),rfl,h2⟩) (aV rfl)) ?_
 refine cD 4 rfl 43 2 rfl rfl rfl (fun w hw=>bI rfl) rfl (aZ 5 rfl (isV _) (aT _) (rgV (li:=[(8,_)]) rfl (cO 44 rfl (aM rfl rfl rfl)) ⟨dR rfl,trivial⟩ (fun w hw=>bI rfl) (aV rfl)) (aZ 6 rfl (isV _) (aT _) (rgV (li:=[(10,_)]) rfl (cO 44 rfl (aM rfl rfl rfl)) ⟨dR rfl,trivial⟩ (fun w hw=>bI rfl) (aV rfl)) (aZ 7 rfl (isV (.bool true)) (aT _) (qZ (li:=[(45,_),(46,_)]) rfl (cO 44 rfl (aM rfl rfl rfl)) ⟨aW 4 (aM rfl rfl rfl),aW 5 (aM rfl rfl rfl),trivial⟩ (fun w hw=>jX rfl rfl) (by rw [decide_eq_true rfl]) (aV rfl)) (aZ 8 rfl (isV _) (aT _) (rgV (li:=[(44,_),(47,_)]) rfl (bO rfl) ⟨aW 3 (aM rfl rfl rfl),aW 6 (aM rfl rfl rfl),trivial⟩ (fun w hw=>eL rfl rfl) (aV rfl)) (cD 9 rfl 48 7 rfl rfl rfl (fun w hw=>bI rfl) rfl (aZ 10 rfl (isV _) (aT _) (rgV (li:=[(11,_)]) rfl (cO 49 rfl (aM rfl rfl rfl)) ⟨dR rfl,trivial⟩ (fun w hw=>bI rfl) (aV rfl)) (aZ 11 rfl (isV _) (aT _) (rgV (li:=[(13,_)]) rfl (cO 49 rfl (aM rfl rfl rfl)) ⟨dR rfl,trivial⟩ (fun w hw=>bI rfl) (aV rfl)) ?_)))))))
 refine aZ 12 rfl (isV (.bool true)) (aT _) (gL [isV _,isV _] rfl qV (cO 49 rfl (aM rfl rfl rfl)) ⟨jD (aW 9 (aM rfl rfl rfl)),jD (aW 10 (aM rfl rfl rfl)),trivial⟩ (fun vs w' hb hh=>by have e:=eI (us:=[_,_]) hh;subst e;exact (qK wa3 wa4 l3.length l3.length wc3 wc4 (nI l3) (nI l3) w' (hr3.below hb) (hr4.below hb) eG eG (by omega)).mono fun e w2 ⟨h1,h2⟩=>⟨_,h1.trans (by rw [decide_eq_true rfl]),rfl,h2⟩) (aV rfl)) ?_
 refine aZ 13 rfl (isV _) (aT _) (rgV (li:=[(49,_),(52,_)]) rfl (bO rfl) ⟨aW 8 (aM rfl rfl rfl),aW 11 (aM rfl rfl rfl),trivial⟩ (fun w hw=>eL rfl rfl) (aV rfl)) (cD 14 rfl 53 12 rfl rfl rfl (fun w hw=>bI rfl) rfl (aZ 15 rfl (isV _) (aT _) (rgV (li:=[(12,_)]) rfl (cO 54 rfl (aM rfl rfl rfl)) ⟨dR rfl,trivial⟩ (fun w hw=>bI rfl) (aV rfl)) (aZ 16 rfl (isV _) (aT _) (rgV (li:=[(14,_)]) rfl (cO 54 rfl (aM rfl rfl rfl)) ⟨dR rfl,trivial⟩ (fun w hw=>bI rfl) (aV rfl)) (aZ 17 rfl (isV (.bool true)) (aT _) (qZ (li:=[(55,_),(56,_)]) rfl (cO 54 rfl (aM rfl rfl rfl)) ⟨aW 14 (aM rfl rfl rfl),aW 15 (aM rfl rfl rfl),trivial⟩ (fun w hw=>jX rfl rfl) (by rw [decide_eq_true rfl]) (aV rfl)) (aZ 18 rfl (isV _) (aT _) (rgV (li:=[(54,_),(57,_)]) rfl (bO rfl) ⟨aW 13 (aM rfl rfl rfl),aW 16 (aM rfl rfl rfl),trivial⟩ (fun w hw=>eL rfl rfl) (aV rfl)) (cD 19 rfl 58 17 rfl rfl rfl (fun w hw=>bI rfl) rfl (aZ 20 rfl (isV _) (aT _) (rgV (li:=[(3,_)]) rfl (cO 59 rfl (aM rfl rfl rfl)) ⟨dR rfl,trivial⟩ (fun w hw=>eA (vs:=[_,_,_,_,_]) isAgg24 sizeOf24 rfl (aK.agree (aY hw 0) (Nat.zero_le _) (aK.own (j:=0) (m:=5) (hS.at_ 0 rfl) rfl))) (aV rfl)) ?_)))))))
 refine aZ 21 rfl (isV (.int .i64 (cM a))) (aT _) (gL [isV _] rfl jO (cO 59 rfl (aM rfl rfl rfl)) ⟨jD (aW 19 (aM rfl rfl rfl)),trivial⟩ (fun vs w' hb hh=>by have e:=eI (us:=[_]) hh;subst e;exact (jP a w' (hA5.below hb)).mono fun e w2 ⟨h1,h2⟩=>⟨_,h1,rfl,h2⟩) (aV rfl)) ?_
 refine aZ 22 rfl (isV _) (aT _) (rgV (li:=[(3,_)]) rfl (cO 59 rfl (aM rfl rfl rfl)) ⟨dR rfl,trivial⟩ (fun w hw=>eA (vs:=[_,_,_,_,_]) isAgg24 sizeOf24 rfl (aK.agree (aY hw 0) (Nat.zero_le _) (aK.own (j:=0) (m:=5) (hS.at_ 0 rfl) rfl))) (aV rfl)) ?_
 refine aZ 23 rfl (isV (.int .i64 (cM a))) (aT _) (gL [isV _] rfl qG (cO 59 rfl (aM rfl rfl rfl)) ⟨jD (aW 21 (aM rfl rfl rfl)),trivial⟩ (fun vs w' hb hh=>by have e:=eI (us:=[_]) hh;subst e;exact (pW a w' (hA5.below hb)).mono fun e w2 ⟨h1,h2⟩=>⟨_,h1,rfl,h2⟩) (aV rfl)) ?_
 refine aZ 24 rfl (isV (.bool true)) (aT _) (qZ (li:=[(61,_),(63,_)]) rfl (cO 59 rfl (aM rfl rfl rfl)) ⟨aW 20 (aM rfl rfl rfl),aW 22 (aM rfl rfl rfl),trivial⟩ (fun w hw=>jX rfl rfl) (by rw [decide_eq_true rfl]) (aV rfl)) (aZ 25 rfl (isV _) (aT _) (rgV (li:=[(59,_),(64,_)]) rfl (bO rfl) ⟨aW 18 (aM rfl rfl rfl),aW 23 (aM rfl rfl rfl),trivial⟩ (fun w hw=>eL rfl rfl) (aV rfl)) (cD 26 rfl 65 24 rfl rfl rfl (fun w hw=>bI rfl) rfl ?_))
 refine aZ 27 rfl (isV (.bool true)) (aT _) (gL [] rfl goes_15 (cO 66 rfl (aM rfl rfl rfl)) trivial (fun vs w' hb hh=>by have e:vs=[]:=(by cases vs with | nil=>rfl | cons _ _=>exact hh.elim);subst e;exact (sH w').mono fun e w2 ⟨h1,h2⟩=>⟨_,h1,rfl,h2⟩) (aV rfl)) ?_
 refine aZ 28 rfl (isV _) (aT _) (rgV (li:=[(66,_),(67,_)]) rfl (bO rfl) ⟨aW 25 (aM rfl rfl rfl),aW 26 (aM rfl rfl rfl),trivial⟩ (fun w hw=>eL rfl rfl) (aV rfl)) (cD 29 rfl 68 27 rfl rfl rfl (fun w hw=>fB rfl) rfl (fM ?_))
 intro W2 hbR hS'
 clear hS;have hS:=hS';clear hS'
 refine aR (aR (aR (aR (aR (aR (aR (aR (aR (aR (aR (aR (aR (aR (aR (aR (aR (aR (aR (aR (aR (aR (aR (aR (aR (aR (aR (aR (aR (dM (XF.thenN (bH (XF.res (bU results3 rfl) ?_))))))))))))))))))))))))))))))))
 exact ⟨rfl,hS.below⟩
end
section
open Go.RowKit Go.ChangeShapes Go.WideShapes Go.Deep Go.Joins
theorem kN {α:Type}:∀ (n:Nat) (p:Nat→α→Prop),(∀ i,i < n→∃ c,p i c)→∃ xs:List α,xs.length=n∧∀ i c,xs[i]?=some c→p i c
 | 0,p,h=>⟨[],rfl,fun i c hi=>by simp at hi⟩
 | n+1,p,h=>by
  obtain ⟨xs,hl,hp⟩:=kN n p (fun i hi=>h i (by omega))
  obtain ⟨c,hc⟩:=h n (by omega)
  refine ⟨xs++[c],by simp [hl],fun i d hi=>?_⟩
  rcases Nat.lt_or_ge i n with h1 | h1
  ·rw [List.getElem?_append_left (by omega)] at hi
   exact hp i d hi
  ·obtain ⟨h2,_⟩:=List.getElem?_eq_some_iff.1 hi
   simp [hl] at h2
   obtain rfl:i=n:=by omega
   rw [List.getElem?_append_right (by omega),hl,Nat.sub_self] at hi
   simp at hi
   subst hi
   exact hc
theorem pG {cs:List Value} (h:cs.length=3):∃ a b c,cs=[a,b,c]:=by
 match cs,h with
 | [a,b,c],_=>exact ⟨a,b,c,rfl⟩
theorem sI {cs:List Value} (h:cs.length=5):∃ a b c d e,cs=[a,b,c,d,e]:=by
 match cs,h with
 | [a,b,c,d,e],_=>exact ⟨a,b,c,d,e,rfl⟩
section
variable {H:Type} {enc:TypeId×Value→H} {w:World} {base:Nat} {spare:Nat→Bool} {held:Bool}
theorem nP {α:Type} {f:α→List Value} {sz:Nat} {t e:TypeId} {n:Nat} {v:Value} {x:DataW H×List MemPlace} (ht:prog.underlying t=some (.slice e)) (hc:prog.cellsOf e=sz) (hp:0 < sz) (hf:∀ y,(f y).length=sz)
  (one:∀ (n:Nat) (cs:List Value) (x:DataW H×List MemPlace),DataW.trod enc prog w base spare held n e cs=some x→∃ y,cs=f y) (h:DataW.trod enc prog w base spare held n t [v]=some x) :
  ∃ (a:Option Addr) (len cap:Nat) (xs:List α),v = .slice a len cap∧(xs=[]∨∃ b off,a=some ⟨b,off,none⟩∧∀ (i:Nat) x,xs[i]?=some x→aK w b (off+i * sz) (f x))∧xs.length=len∧len≤cap∧cap≤maxLen:=by
 rcases DataW.trod_slice ht h with ⟨hcs,_⟩ | ⟨ad,len,cap,elems,rest,n2,hn2,hcs,_,hb,hle,hcap,hel,hi,_,_⟩
 ·simp at hcs
  subst hcs
  exact ⟨none,0,0,[],rfl,.inl rfl,rfl,Nat.le_refl _,Nat.zero_le _⟩
 ·simp at hcs
  subst hcs
  rw [hc] at hi
  obtain ⟨rs,hrl,hrs⟩:=kN len (fun i (r:α)=>∀ (j:Nat) u,(f r)[j]?=some u→w.cell? (ad.add (i * sz+j))=some u) (fun i hil=>by
   have hii:=hi i hil
   rw [List.getElem?_eq_getElem (by omega)] at hii
   obtain ⟨cs',hc',ht'⟩:=Option.bind_eq_some_iff.1 hii
   obtain ⟨_,hcl,hat⟩:=World.cells?_some hc'
   obtain ⟨r,rfl⟩:=one _ _ _ ht'
   refine ⟨r,fun j u hj=>?_⟩
   have hjs:j < sz:=by have:=(List.getElem?_eq_some_iff.1 hj).1;rw [hf] at this;exact this
   have h0:=hat j hjs
   rw [Go.Deep.add_add] at h0
   rw [h0];exact hj)
  refine ⟨some ad,len,cap,rs,rfl,?_,hrl,hle,hcap⟩
  rcases Nat.eq_zero_or_pos len with h0 | h0
  ·exact .inl (List.length_eq_zero_iff.1 (by omega))
  ·obtain ⟨b,off,spot⟩:=ad
   have h1:=hrs 0 (rs[0]'(by omega)) (List.getElem?_eq_getElem (by omega)) 0 _ (List.getElem?_eq_getElem (by rw [hf];exact hp))
   have hspot:spot=none:=by simpa [Addr.add] using World.cell?_spot h1
   subst hspot
   refine .inr ⟨b,off,rfl,fun i r hir=>aK.of fun j u hj=>?_⟩
   have h3:=hrs i r hir j u hj
   have e:∀ k,({ block:=b,off:=off }:Addr).add k=⟨b,off+k,none⟩:=fun k=>by simp [Addr.add]
   rw [e,← Nat.add_assoc] at h3
   exact h3
theorem pH {n:Nat} {a:Option Addr} {len cap:Nat} {x:DataW H×List MemPlace} (h:DataW.trod enc prog w base spare held n 25 [.slice a len cap]=some x):∃ zs:List Int,Row w a zs∧zs.length=len∧len≤cap∧len≤9223372036854775807:=by
 obtain ⟨a',len',cap',zs,e,h1,h2,h3,h4⟩:=nP (f:=fun x:Int=>[Value.int .i64 x]) (e:=3) (sz:=1) (by kernel_rfl) (by kernel_rfl) (by omega) (fun _=>rfl) (fun n cs x h=>by
  obtain ⟨z0,e0,_,_⟩:=DataW.trod_int (k:=.i64) (by kernel_rfl) h
  exact ⟨z0,e0⟩) h
 cases e
 refine ⟨zs,?_,h2,h3,by simp only [maxLen] at h4;omega⟩
 rcases h1 with rfl | ⟨b,off,rfl,h1⟩
 ·exact .inl rfl
 ·refine .inr ⟨b,off,rfl,fun j hj=>?_⟩
  have h5:=(h1 j _ (List.getElem?_eq_getElem hj)).1
  rw [Nat.mul_one] at h5
  rw [h5];simp [hj]
theorem uS {r:Reach} {b0:Nat} {v:Value} {d:DataW H} {p:List MemPlace} (hv:Value.okWide prog w r b0 24 v) (h:DataW.Trod enc prog w base spare held 24 v d p) :
  ∃ (s:NfV),v=s.val∧NIn w s:=by
 obtain ⟨cs,rfl,_⟩:=okWide_struct underlying24 hv
 obtain ⟨n,h⟩:=h
 obtain ⟨xs,n',hn,_,hl,hlen,hg⟩:=DataW.trod_struct underlying24 h
 rw [show prog.cellsOf 24=5 by kernel_rfl] at hl
 obtain ⟨a,b,c,d9,e9,hcs⟩:=sI hl
 rw [hcs] at hg
 have hlen5:xs.length=5:=hlen
 have g0:=hg 0 _ rfl
 have g1:=hg 1 _ rfl
 have g2:=hg 2 _ rfl
 have g3:=hg 3 _ rfl
 have g4:=hg 4 _ rfl
 rw [show prog.cellsOf _=1 by kernel_rfl,List.getElem?_eq_getElem (by omega)] at g0 g1 g2 g3 g4
 obtain ⟨z0,e0,_,_⟩:=DataW.trod_int (k:=.i64) (by kernel_rfl) g0
 simp at e0
 subst e0
 obtain ⟨z1,e1,_,_⟩:=DataW.trod_int (k:=.i64) (by kernel_rfl) g1
 simp at e1
 subst e1
 obtain ⟨z2,e2,_,_⟩:=DataW.trod_int (k:=.i64) (by kernel_rfl) g2
 simp at e2
 subst e2
 obtain ⟨z3,e3,_,_⟩:=DataW.trod_int (k:=.i64) (by kernel_rfl) g3
 simp at e3
 subst e3
 obtain ⟨aa,al,ac,ar,rfl,har,hal,hac,ham⟩:=nP (f:=ArV.three) (sz:=3) (e:=57) (v:=e9) (by kernel_rfl) (by kernel_rfl) (by omega) (fun _=>rfl) (fun n cs x h=>by
  obtain ⟨ys,n2,hn2,_,hl2,hlen2,hg2⟩:=DataW.trod_struct underlying57 h
  rw [show prog.cellsOf 57=3 by kernel_rfl] at hl2
  obtain ⟨u0,u1,u2,rfl⟩:=pG hl2
  have hlen3:ys.length=3:=hlen2
  have k0:=hg2 0 _ rfl
  have k1:=hg2 1 _ rfl
  have k2:=hg2 2 _ rfl
  rw [show prog.cellsOf _=1 by kernel_rfl,List.getElem?_eq_getElem (by omega)] at k0 k1 k2
  obtain ⟨x0,e0,_,_⟩:=DataW.trod_int (k:=.i64) (by kernel_rfl) k0
  obtain ⟨x1,e1,_,_⟩:=DataW.trod_int (k:=.i64) (by kernel_rfl) k1
  obtain ⟨x2,e2,_,_⟩:=DataW.trod_int (k:=.i64) (by kernel_rfl) k2
  simp at e0 e1 e2
  subst e0 e1 e2
  exact ⟨⟨x0,x1,x2⟩,rfl⟩) g4
 refine ⟨⟨z0,z1,z2,z3,aa,al,ac,ar⟩,?_,⟨fun i r hi=>?_,hal,?_⟩⟩
 ·show Value.agg cs=Value.agg _
  congr 1
  exact Array.ext' hcs
 ·rcases har with rfl | ⟨b,off,rfl,h1⟩
  ·simp at hi
  ·exact ⟨b,off,rfl,h1 i r hi⟩
 ·simp only [maxLen] at ham;dsimp only;omega
end
end
end Go.Proofs.Ytpgmnbgkejiomaa
