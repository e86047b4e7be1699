import Derived.Deep.DrawnRows
import Derived.Lib.SliceRun
import Derived.Laws.OwnMore
import Derived.OwnWalk
import Derived.WalkSpells
import Derived.Lib.Join
import Derived.Test.YtafegfhpinpdoaaQfA
set_option maxRecDepth 100000
set_option maxHeartbeats 4000000
set_option linter.unusedVariables false
set_option linter.unusedSimpArgs false
set_option linter.unusedSectionVars false
set_option linter.unnecessarySimpa false
namespace Go.Proofs.Ytafegfhpinpdoaa
open Go.Proofs.Try
section
open Go.RowKit
theorem big_no {n:Int} (h:kR n≠0):(if eI n=true then (30:Int) else 31)=31:=by
 by_cases hd:eI n=true
 ·exfalso;apply h
  simp only [eI,Bool.and_eq_true,decide_eq_true_eq] at hd
  unfold kR;rw [if_pos (by omega)]
 ·rw [if_neg hd]
theorem big_yes {n:Int} (h:¬ kR n≠0):eI n=true∧n≤64:=by
 have h':kR n=0:=by omega
 unfold kR at h'
 split at h'
 ·rename_i hn
  refine ⟨?_,by omega⟩
  simp only [eI,Bool.and_eq_true,decide_eq_true_eq];omega
 ·omega
theorem big_ne {n:Int}:(if eI n=true then (30:Int) else 31)≠0:=by
 split<;>omega
theorem Gr {n:Int} (h:eI n=true):n≤64:=by
 simp only [eI,Bool.and_eq_true,decide_eq_true_eq] at h;omega
theorem Cc (n:Int) (a:Option Addr) (len cap gen:Nat) (w:World) (hl:100 < len) :
  Calls prog 87 #[.int .i64 n,.agg #[.int .u64 (gen:Int),.slice a len cap]] w (fun e w'=>e = .returned (.int .i64 (if eI n=true then 30 else 31))∧Below w.heap.size w w'):=by
 refine cG (args:=[.int .i64 n,.agg #[.int .u64 (gen:Int),.slice a len cap]]) func87 rfl ntmps87 rfl ?_
 have hS:=St.start w
 refine aO (aR (bQ (cs:=[_,_]) hS rfl rfl rfl fun B1 W1 hS=>aB rfl rfl (aQ (XF.thenN (aO (aR (aI rfl rfl (dC (vs:=[_]) hS goes_92 rfl (oB n _ _ rfl rfl _) rfl ?_))))))))
 rintro e W2 ⟨rfl,rfl⟩
 refine ⟨_,rfl,Below.refl _ _,fun hS'=>?_⟩
 clear hS;have hS:=hS';clear hS'
 refine aI rfl rfl (cI rfl rfl rfl (cI rfl rfl rfl (aB rfl rfl (aB rfl rfl (aQ (XF.thenN (aO (aO (aR (aI rfl rfl (cN rfl rfl rfl (aQ (XF.thenN (bC rfl (fun hc=>?_) (fun hc=>?_)))))))))))))))
 ·have hc15:=of_decide_eq_true hc;clear hc
  refine aO (aR (aB rfl rfl (aQ (XF.thenN (bM (XF.thenR (XF.res (bV results87 rfl) ?_)))))))
  exact ⟨by rw [big_no hc15],hS.below⟩
 ·have hc15:=of_decide_eq_false hc;clear hc
  obtain ⟨hd,hd2⟩:=big_yes hc15
  refine bH (XF.thenN (aO (aO (aR (aN (o':=1) F9 rfl rfl rfl (aT isAgg50 rfl (aJ (hS.at_ 0 rfl) rfl) rfl (bX underlying50 rfl rfl (aI rfl rfl (cN rfl rfl rfl (aI rfl rfl (bG (d:=21) rfl (fun hc=>?_) (fun hc=>absurd (of_decide_eq_false hc) (by omega)))))))))))))
  have hc:=of_decide_eq_true hc
  refine aF (d:=21) rfl rfl rfl rfl (aF (d:=21) rfl rfl rfl rfl (aF (d:=21) rfl rfl rfl rfl (aF (d:=21) rfl rfl rfl rfl (aF (d:=21) rfl rfl rfl rfl (aY rfl rfl rfl (aQ (XF.thenN (cU rfl (aO (aR (aB rfl rfl (aQ (XF.thenN (bM (XF.thenR (XF.res (bV results87 rfl) ?_))))))))))))))))
  exact ⟨by rw [if_pos hd],hS.below⟩
theorem Ee (n:Int) (a:Option Addr) (len cap gen:Nat) (w:World) (hl:100 < len) :
  Calls prog 78 #[.int .i64 n,.agg #[.int .u64 (gen:Int),.slice a len cap]] w (fun e w'=>e = .returned (.int .i64 (if eI n=true then 30 else 31))∧Below w.heap.size w w'):=by
 refine cG (args:=[.int .i64 n,.agg #[.int .u64 (gen:Int),.slice a len cap]]) func78 rfl ntmps78 rfl ?_
 have hS:=St.start w
 refine aO (aR (bQ (cs:=[_,_]) hS rfl rfl rfl fun B1 W1 hS=>aB rfl rfl (aQ (XF.thenN (aO (aO (aR (aI rfl rfl (aU (vs:=[_,_]) isAgg52 sizeOf52 rfl (aK.own (j:=0) (m:=2) (hS.at_ 0 rfl) rfl) rfl (bT (vs:=[_,_]) hS goes_87 rfl (Cc n a len cap gen _ hl) rfl fun W2 hS=>aB rfl rfl (aQ (XF.thenN (aO (aR (aI rfl rfl (cN rfl rfl rfl (aQ (XF.thenN (bC rfl (fun hc=>?_) (fun hc=>absurd (of_decide_eq_false hc) (by exact fun h=>h big_ne)))))))))))))))))))))
 have hc:=of_decide_eq_true hc
 refine aO (aR (aI rfl rfl (aB rfl rfl (aQ (XF.thenN (bM (XF.thenR (XF.res (bV results78 rfl) ?_))))))))
 exact ⟨rfl,hS.below⟩
theorem Ef (n:Int) (a:Option Addr) (len cap gen:Nat) (w:World) (hl:100 < len) (hd:eI n=true) :
  Calls prog 81 #[.int .i64 n,.agg #[.int .u64 (gen:Int),.slice a len cap]] w (fun e w'=>e = .returned (.bool false)∧Below w.heap.size w w'):=by
 have hd2:=Gr hd
 refine cG (args:=[.int .i64 n,.agg #[.int .u64 (gen:Int),.slice a len cap]]) func81 rfl ntmps81 rfl ?_
 have hS:=St.start w
 refine aO (aR (bQ (cs:=[_,_]) hS rfl rfl rfl fun B1 W1 hS=>aB rfl rfl (aQ (XF.thenN (aO (aO (aR (aN (o':=1) F9 rfl rfl rfl (aT isAgg50 rfl (aJ (hS.at_ 0 rfl) rfl) rfl (bX underlying50 rfl rfl (aI rfl rfl (cN rfl rfl rfl (aI rfl rfl (bG (d:=11) rfl (fun hc=>?_) (fun hc=>absurd (of_decide_eq_false hc) (by omega))))))))))))))))
 have hc:=of_decide_eq_true hc
 refine aF (d:=11) rfl rfl rfl rfl (aF (d:=11) rfl rfl rfl rfl (aF (d:=11) rfl rfl rfl rfl (aF (d:=11) rfl rfl rfl rfl (aF (d:=11) rfl rfl rfl rfl (aY rfl rfl rfl (aQ (XF.thenN (cU rfl (aO (aR (aB rfl rfl (aQ (XF.thenN (bM (XF.thenR (XF.res (bV results81 rfl) ?_))))))))))))))))
 exact ⟨rfl,hS.below⟩
theorem Eg (n:Int) (a:Option Addr) (len cap gen:Nat) (w:World) (hl:100 < len) :
  Calls prog 68 #[.int .i64 n,.agg #[.int .u64 (gen:Int),.slice a len cap]] w (fun e w'=>e = .returned (.int .i64 (if eI n=true then 30 else 31))∧Below w.heap.size w w'):=by
 refine cG (args:=[.int .i64 n,.agg #[.int .u64 (gen:Int),.slice a len cap]]) func68 rfl ntmps68 rfl ?_
 have hS:=St.start w
 refine aO (aR (bQ (cs:=[_,_]) hS rfl rfl rfl fun B1 W1 hS=>aB rfl rfl (aQ (XF.thenN (aO (aO (aR (aI rfl rfl (dC (vs:=[_]) hS goes_70 rfl (sG n _ rfl _) rfl ?_)))))))))
 rintro e W2 ⟨rfl,rfl⟩
 refine ⟨_,rfl,Below.refl _ _,fun hS'=>?_⟩
 clear hS;have hS:=hS';clear hS'
 refine dV rfl rfl (aQ (XF.thenN (bC rfl (fun hc=>?_) (fun hc=>?_))))
 ·have hc7:=hc;clear hc
  refine aO (aR (aB rfl rfl (aQ (XF.thenN (bM (XF.thenR (XF.res (bV results68 rfl) ?_)))))))
  exact ⟨by rw [if_neg (by simpa using hc7)],hS.below⟩
 ·have hc7:=hc;clear hc
  have hd:eI n=true:=by simpa using hc7
  refine bH (XF.thenN (aO (aO (gP (m:=11) bY hS (by kernel_rfl) (by kernel_rfl) rfl (cB 1 rfl 0 rfl rfl (fun w hw=>aZ rfl) rfl (cB 2 rfl 3 rfl rfl (fun w hw=>bL (vs:=[_,_]) isAgg52 sizeOf52 rfl (aK.agree (aP hw 0) (Nat.zero_le _) (aK.own (j:=0) (m:=2) (hS.at_ 0 rfl) rfl))) rfl ?_))))))
  refine aM 3 rfl (isV (.bool false)) (aH _) (cP [isV _,isV _] rfl goes_81 (aS rfl) ⟨cD (aL 0 (aA rfl rfl rfl)),cD (aL 1 (aA rfl rfl rfl)),trivial⟩ (fun vs w' hb hh=>by have e:=bZ (us:=[_,_]) hh;subst e;exact (Ef n a len cap gen _ hl hd).mono fun e w2 h=>⟨_,h.1,rfl,h.2⟩) (aD rfl)) ?_
  refine aM 4 rfl (isV (.bool true)) (aH _) (jR (li:=[(10,_)]) rfl (aS rfl) ⟨aL 2 (aA rfl rfl rfl),trivial⟩ (fun w hw=>gU rfl) (rfl) (aD rfl)) (bD 5 rfl 11 3 rfl rfl rfl (fun w hw=>aZ rfl) rfl (aM 6 rfl (isV undef) (aH _) (bJ rfl (bK 12 rfl (aA rfl rfl rfl) rfl) (aD rfl)) (aM 7 rfl (isV undef) (aH _) (bJ rfl (bK 12 rfl (aA rfl rfl rfl) rfl) (aD rfl)) (aM 8 rfl (isV undef) (aH _) (bJ rfl (bK 12 rfl (aA rfl rfl rfl) rfl) (aD rfl)) (aM 9 rfl (isV undef) (aH _) (bJ rfl (bK 12 rfl (aA rfl rfl rfl) rfl) (aD rfl)) (aM 10 rfl (isV undef) (aH _) (bJ rfl (bK 12 rfl (aA rfl rfl rfl) rfl) (aD rfl)) (bD 11 rfl 12 4 rfl rfl rfl (fun w hw=>dG rfl rfl) rfl (dB ?_))))))))
  intro W3 hbR hS'
  clear hS;have hS:=hS';clear hS'
  refine aG (aG (aG (aG (aG (aG (aG (aG (aG (aG (aG (cH (XF.thenN (cU rfl (aO (aR (aB rfl rfl (aQ (XF.thenN (bM (XF.thenR (XF.res (bV results68 rfl) ?_)))))))))))))))))))))
  exact ⟨by rw [if_pos hd],hS.below⟩
theorem vF {n:Int} {gen:Nat} {rows:List Nat} (h:100 < rows.length):dW n gen rows=(if eI n=true then 30 else 31):=by
 unfold dW
 by_cases hd:eI n=true
 ·have h64:=Gr hd
  have e:eF n.toNat gen rows=false:=by
   unfold eF
   rw [decide_eq_false (by omega)];rfl
  rw [if_pos hd,if_pos hd,e];rfl
 ·rw [if_neg hd,if_neg hd]
theorem Eh (n:Int) (a:Option Addr) (cap gen:Nat) (rows:List Nat) (w:World) {f:WF} (hf:f.At w) (r:Int) (hr:dW n gen rows=r) (len:Nat) (hl:rows.length=len) (ha:f.ra=a:=by rfl) (hg:f.g=gen:=by rfl) (hrr:f.rows=rows:=by rfl) :
  Calls prog 78 #[.int .i64 n,.agg #[.int .u64 (gen:Int),.slice a len cap]] w fun e w'=>e = .returned (.int .i64 r)∧Below w.heap.size w w':=by
 subst ha;subst hg;subst hrr
 by_cases h:f.rows.length≤100
 ·exact H7 n _ cap _ _ w ⟨hf.rows,hf.g64,hf.r64,h⟩ r hr len hl
 ·rw [← hr,vF (by omega)]
  exact Ee n _ len cap _ w (by omega)
theorem Ei (n:Int) (a:Option Addr) (cap gen:Nat) (rows:List Nat) (w:World) {f:WF} (hf:f.At w) (r:Int) (hr:dW n gen rows=r) (len:Nat) (hl:rows.length=len) (ha:f.ra=a:=by rfl) (hg:f.g=gen:=by rfl) (hrr:f.rows=rows:=by rfl) :
  Calls prog 68 #[.int .i64 n,.agg #[.int .u64 (gen:Int),.slice a len cap]] w fun e w'=>e = .returned (.int .i64 r)∧Below w.heap.size w w':=by
 subst ha;subst hg;subst hrr
 by_cases h:f.rows.length≤100
 ·exact pA n _ cap _ _ w ⟨hf.rows,hf.g64,hf.r64,h⟩ r hr len hl
 ·rw [← hr,vF (by omega)]
  exact Eg n _ len cap _ w (by omega)
theorem Cd (f:WF) (r:Bool) (hr:hC false false false false f=r) (w:World) :
  Calls prog 67 #[f.val,.bool false,.bool false,.bool false,.bool false] w fun e w'=>e = .returned (.bool r)∧Below w.heap.size w w':=by
 obtain ⟨z,c,g,ra,rl,rc,rows,ca,cl,cc,cells,pa,pl,pc⟩:=f
 show Calls prog 67 #[.agg #[.bool z,.int .i64 c,.int .u64 (g:Int),.slice ra rl rc,.slice ca cl cc,.slice pa pl pc],.bool false,.bool false,.bool false,.bool false] w _
 have hB:=Lib.hid (xB w #[.bool z,.int .i64 c,.int .u64 (g:Int),.slice ra rl rc,.slice ca cl cc,.slice pa pl pc] 56)
 obtain ⟨b1,h1⟩:∃ b,(c == 0)=b:=⟨_,rfl⟩
 obtain ⟨b2,h2⟩:∃ b,((g:Int) == 0)=b:=⟨_,rfl⟩
 obtain ⟨b3,h3⟩:∃ b,((rl:Int) == 0)=b:=⟨_,rfl⟩
 obtain ⟨b4,h4⟩:∃ b,((cl:Int) == 0)=b:=⟨_,rfl⟩
 obtain ⟨b5,h5⟩:∃ b,((pl:Int) == 0)=b:=⟨_,rfl⟩
 have HR:Hid (((false || b1) && ((false || (b2 && b3)) && ((false || b4) && (false || b5))))=r):=by
  show _=_
  rw [← hr,← h1,← h2,← h3,← h4,← h5,dN,dN,dN,dN,pB];rfl
 clear hr
 cases b1
 ·go_enter func67,ntmps67
  go_wp2_with fail
  go_ret
  exact ⟨bR (by rw [← HR.out];simp),hB.out⟩
 cases b2
 ·go_enter func67,ntmps67
  go_wp2_with fail
  go_ret
  exact ⟨bR (by rw [← HR.out];simp),hB.out⟩
 cases b3
 ·go_enter func67,ntmps67
  go_wp2_with fail
  go_ret
  exact ⟨bR (by rw [← HR.out];simp),hB.out⟩
 cases b4
 ·go_enter func67,ntmps67
  go_wp2_with fail
  go_ret
  exact ⟨bR (by rw [← HR.out];simp),hB.out⟩
 cases b5
 ·go_enter func67,ntmps67
  go_wp2_with fail
  go_ret
  exact ⟨bR (by rw [← HR.out];simp),hB.out⟩
 go_enter func67,ntmps67
 go_wp2_with fail
 go_ret
 exact ⟨bR (by rw [← HR.out];simp),hB.out⟩
theorem Ke (f:WF) (r:Bool) (hr:hC true false false false f=r) (w:World) :
  Calls prog 67 #[f.val,.bool true,.bool false,.bool false,.bool false] w fun e w'=>e = .returned (.bool r)∧Below w.heap.size w w':=by
 obtain ⟨z,c,g,ra,rl,rc,rows,ca,cl,cc,cells,pa,pl,pc⟩:=f
 show Calls prog 67 #[.agg #[.bool z,.int .i64 c,.int .u64 (g:Int),.slice ra rl rc,.slice ca cl cc,.slice pa pl pc],.bool true,.bool false,.bool false,.bool false] w _
 have hB:=Lib.hid (xB w #[.bool z,.int .i64 c,.int .u64 (g:Int),.slice ra rl rc,.slice ca cl cc,.slice pa pl pc] 56)
 obtain ⟨b1,h1⟩:∃ b,(c == 0)=b:=⟨_,rfl⟩
 obtain ⟨b2,h2⟩:∃ b,((g:Int) == 0)=b:=⟨_,rfl⟩
 obtain ⟨b3,h3⟩:∃ b,((rl:Int) == 0)=b:=⟨_,rfl⟩
 obtain ⟨b4,h4⟩:∃ b,((cl:Int) == 0)=b:=⟨_,rfl⟩
 obtain ⟨b5,h5⟩:∃ b,((pl:Int) == 0)=b:=⟨_,rfl⟩
 have HR:Hid (((true || b1) && ((false || (b2 && b3)) && ((false || b4) && (false || b5))))=r):=by
  show _=_
  rw [← hr,← h1,← h2,← h3,← h4,← h5,dN,dN,dN,dN,pB];rfl
 clear hr
 cases b2
 ·go_enter func67,ntmps67
  go_wp2_with fail
  go_ret
  exact ⟨bR (by rw [← HR.out];simp),hB.out⟩
 cases b3
 ·go_enter func67,ntmps67
  go_wp2_with fail
  go_ret
  exact ⟨bR (by rw [← HR.out];simp),hB.out⟩
 cases b4
 ·go_enter func67,ntmps67
  go_wp2_with fail
  go_ret
  exact ⟨bR (by rw [← HR.out];simp),hB.out⟩
 cases b5
 ·go_enter func67,ntmps67
  go_wp2_with fail
  go_ret
  exact ⟨bR (by rw [← HR.out];simp),hB.out⟩
 go_enter func67,ntmps67
 go_wp2_with fail
 go_ret
 exact ⟨bR (by rw [← HR.out];simp),hB.out⟩
theorem Kf (f:WF) (r:Bool) (hr:hC false true false false f=r) (w:World) :
  Calls prog 67 #[f.val,.bool false,.bool true,.bool false,.bool false] w fun e w'=>e = .returned (.bool r)∧Below w.heap.size w w':=by
 obtain ⟨z,c,g,ra,rl,rc,rows,ca,cl,cc,cells,pa,pl,pc⟩:=f
 show Calls prog 67 #[.agg #[.bool z,.int .i64 c,.int .u64 (g:Int),.slice ra rl rc,.slice ca cl cc,.slice pa pl pc],.bool false,.bool true,.bool false,.bool false] w _
 have hB:=Lib.hid (xB w #[.bool z,.int .i64 c,.int .u64 (g:Int),.slice ra rl rc,.slice ca cl cc,.slice pa pl pc] 56)
 obtain ⟨b1,h1⟩:∃ b,(c == 0)=b:=⟨_,rfl⟩
 obtain ⟨b2,h2⟩:∃ b,((g:Int) == 0)=b:=⟨_,rfl⟩
 obtain ⟨b3,h3⟩:∃ b,((rl:Int) == 0)=b:=⟨_,rfl⟩
 obtain ⟨b4,h4⟩:∃ b,((cl:Int) == 0)=b:=⟨_,rfl⟩
 obtain ⟨b5,h5⟩:∃ b,((pl:Int) == 0)=b:=⟨_,rfl⟩
 have HR:Hid (((false || b1) && ((true || (b2 && b3)) && ((false || b4) && (false || b5))))=r):=by
  show _=_
  rw [← hr,← h1,← h2,← h3,← h4,← h5,dN,dN,dN,dN,pB];rfl
 clear hr
 cases b1
 ·go_enter func67,ntmps67
  go_wp2_with fail
  go_ret
  exact ⟨bR (by rw [← HR.out];simp),hB.out⟩
 cases b4
 ·go_enter func67,ntmps67
  go_wp2_with fail
  go_ret
  exact ⟨bR (by rw [← HR.out];simp),hB.out⟩
 cases b5
 ·go_enter func67,ntmps67
  go_wp2_with fail
  go_ret
  exact ⟨bR (by rw [← HR.out];simp),hB.out⟩
 go_enter func67,ntmps67
 go_wp2_with fail
 go_ret
 exact ⟨bR (by rw [← HR.out];simp),hB.out⟩
theorem Kg (f:WF) (r:Bool) (hr:hC false false true false f=r) (w:World) :
  Calls prog 67 #[f.val,.bool false,.bool false,.bool true,.bool false] w fun e w'=>e = .returned (.bool r)∧Below w.heap.size w w':=by
 obtain ⟨z,c,g,ra,rl,rc,rows,ca,cl,cc,cells,pa,pl,pc⟩:=f
 show Calls prog 67 #[.agg #[.bool z,.int .i64 c,.int .u64 (g:Int),.slice ra rl rc,.slice ca cl cc,.slice pa pl pc],.bool false,.bool false,.bool true,.bool false] w _
 have hB:=Lib.hid (xB w #[.bool z,.int .i64 c,.int .u64 (g:Int),.slice ra rl rc,.slice ca cl cc,.slice pa pl pc] 56)
 obtain ⟨b1,h1⟩:∃ b,(c == 0)=b:=⟨_,rfl⟩
 obtain ⟨b2,h2⟩:∃ b,((g:Int) == 0)=b:=⟨_,rfl⟩
 obtain ⟨b3,h3⟩:∃ b,((rl:Int) == 0)=b:=⟨_,rfl⟩
 obtain ⟨b4,h4⟩:∃ b,((cl:Int) == 0)=b:=⟨_,rfl⟩
 obtain ⟨b5,h5⟩:∃ b,((pl:Int) == 0)=b:=⟨_,rfl⟩
 have HR:Hid (((false || b1) && ((false || (b2 && b3)) && ((true || b4) && (false || b5))))=r):=by
  show _=_
  rw [← hr,← h1,← h2,← h3,← h4,← h5,dN,dN,dN,dN,pB];rfl
 clear hr
 cases b1
 ·go_enter func67,ntmps67
  go_wp2_with fail
  go_ret
  exact ⟨bR (by rw [← HR.out];simp),hB.out⟩
 cases b2
 ·go_enter func67,ntmps67
  go_wp2_with fail
  go_ret
  exact ⟨bR (by rw [← HR.out];simp),hB.out⟩
 cases b3
 ·go_enter func67,ntmps67
  go_wp2_with fail
  go_ret
  exact ⟨bR (by rw [← HR.out];simp),hB.out⟩
 cases b5
 ·go_enter func67,ntmps67
  go_wp2_with fail
  go_ret
  exact ⟨bR (by rw [← HR.out];simp),hB.out⟩
 go_enter func67,ntmps67
 go_wp2_with fail
 go_ret
 exact ⟨bR (by rw [← HR.out];simp),hB.out⟩
theorem rL (f:WF) (r:Bool) (hr:hC false false false true f=r) (w:World) :
  Calls prog 67 #[f.val,.bool false,.bool false,.bool false,.bool true] w fun e w'=>e = .returned (.bool r)∧Below w.heap.size w w':=by
 obtain ⟨z,c,g,ra,rl,rc,rows,ca,cl,cc,cells,pa,pl,pc⟩:=f
 show Calls prog 67 #[.agg #[.bool z,.int .i64 c,.int .u64 (g:Int),.slice ra rl rc,.slice ca cl cc,.slice pa pl pc],.bool false,.bool false,.bool false,.bool true] w _
 have hB:=Lib.hid (xB w #[.bool z,.int .i64 c,.int .u64 (g:Int),.slice ra rl rc,.slice ca cl cc,.slice pa pl pc] 56)
 obtain ⟨b1,h1⟩:∃ b,(c == 0)=b:=⟨_,rfl⟩
 obtain ⟨b2,h2⟩:∃ b,((g:Int) == 0)=b:=⟨_,rfl⟩
 obtain ⟨b3,h3⟩:∃ b,((rl:Int) == 0)=b:=⟨_,rfl⟩
 obtain ⟨b4,h4⟩:∃ b,((cl:Int) == 0)=b:=⟨_,rfl⟩
 obtain ⟨b5,h5⟩:∃ b,((pl:Int) == 0)=b:=⟨_,rfl⟩
 have HR:Hid (((false || b1) && ((false || (b2 && b3)) && ((false || b4) && (true || b5))))=r):=by
  show _=_
  rw [← hr,← h1,← h2,← h3,← h4,← h5,dN,dN,dN,dN,pB];rfl
 clear hr
 cases b1
 ·go_enter func67,ntmps67
  go_wp2_with fail
  go_ret
  exact ⟨bR (by rw [← HR.out];simp),hB.out⟩
 cases b2
 ·go_enter func67,ntmps67
  go_wp2_with fail
  go_ret
  exact ⟨bR (by rw [← HR.out];simp),hB.out⟩
 cases b3
 ·go_enter func67,ntmps67
  go_wp2_with fail
  go_ret
  exact ⟨bR (by rw [← HR.out];simp),hB.out⟩
 cases b4
 ·go_enter func67,ntmps67
  go_wp2_with fail
  go_ret
  exact ⟨bR (by rw [← HR.out];simp),hB.out⟩
 go_enter func67,ntmps67
 go_wp2_with fail
 go_ret
 exact ⟨bR (by rw [← HR.out];simp),hB.out⟩
theorem Ej {m s:Nat} (hm:m≤64) (hs:s < 18446744073709551616):lB m s=lQ m s:=by
 rw [Bool.eq_iff_iff,kS hm hs,lQ,beq_iff_eq,Nat.div_eq_zero_iff_lt (Nat.two_pow_pos m)]
set_option maxHeartbeats 2000000 in
theorem Kh (m:Nat) (hm:m≤64) (f:Nat) (k v:Int) (hf:f < 18446744073709551616) (r:Bool) (hr:mA m ⟨f,k,v⟩=r) (w:World) :
  Calls prog 69 #[.int .i64 m,.agg #[.int .u64 f,.int .i64 k,.int .i64 v]] w fun e w'=>e = .returned (.bool r)∧Below w.heap.size w w':=by
 have hB:=Lib.hid (xB w #[.int .u64 f,.int .i64 k,.int .i64 v] 89)
 obtain ⟨i,hi⟩:∃ i,lQ m f=i:=⟨_,rfl⟩
 have HI:Hid (Ed m f=i):=by
  show _=_
  have hd:eI (m:Int)=true:=by simp [eI];omega
  rw [Ed,if_pos hd,Int.toNat_natCast,Ej hm hf,hi]
 have HR:Hid ((i && dL f k v)=r):=by show _=_;rw [← hr,mA,lR,hi]
 clear hr hi
 cases i
 ·have HR2:Hid (false=r):=by show _=_;rw [← HR.out];rfl
  go_enter func69,ntmps69
  go_wp2_with fail
  refine (fW m f hf false HI.out _).mono ?_
  rintro e w1 ⟨rfl,rfl⟩
  go_wp2_with fail
  go_ret
  exact ⟨bR HR2.out,hB.out⟩
 by_cases k0:k=0
 ·subst k0
  have HR2:Hid ((v == 0)=r):=by show _=_;rw [← HR.out];simp [dL]
  go_enter func69,ntmps69
  go_wp2_with fail
  refine (fW m f hf true HI.out _).mono ?_
  rintro e w1 ⟨rfl,rfl⟩
  go_wp2_with fail
  go_ret
  exact ⟨bR HR2.out,hB.out⟩
 by_cases k1:k=1
 ·subst k1
  have HR2:Hid (true=r):=by show _=_;rw [← HR.out];simp [dL]
  clear k0
  go_enter func69,ntmps69
  go_wp2_with fail
  refine (fW m f hf true HI.out _).mono ?_
  rintro e w1 ⟨rfl,rfl⟩
  go_wp2_with fail
  go_ret
  exact ⟨bR HR2.out,hB.out⟩
 by_cases k2:k=2
 ·subst k2
  clear k0 k1
  by_cases v0:v=0
  ·subst v0
   have HR2:Hid (((f:Int) == 0)=r):=by show _=_;rw [← HR.out,dN,Bool.eq_iff_iff];simp [dL]
   go_enter func69,ntmps69
   go_wp2_with fail
   refine (fW m f hf true HI.out _).mono ?_
   rintro e w1 ⟨rfl,rfl⟩
   go_wp2_with fail
   go_ret
   exact ⟨bR HR2.out,hB.out⟩
  ·have HR2:Hid (false=r):=by show _=_;rw [← HR.out];simp [dL,v0]
   have hv:(v == 0)=false:=by simp [v0]
   go_enter func69,ntmps69
   go_wp2_with fail
   refine (fW m f hf true HI.out _).mono ?_
   rintro e w1 ⟨rfl,rfl⟩
   go_wp2_with fail
   go_ret
   exact ⟨bR HR2.out,hB.out⟩
 ·have HR2:Hid (false=r):=by show _=_;rw [← HR.out];simp [dL,k0,k1,k2]
  have e0:(k == 0)=false:=by simp [k0]
  have e1:(k == 1)=false:=by simp [k1]
  have e2:(k == 2)=false:=by simp [k2]
  clear k0 k1 k2
  go_enter func69,ntmps69
  go_wp2_with fail
  refine (fW m f hf true HI.out _).mono ?_
  rintro e w1 ⟨rfl,rfl⟩
  go_wp2_with fail
  go_ret
  exact ⟨bR HR2.out,hB.out⟩
attribute [local go_sem ↓] Go.wp_at_zero Go.wp_at_succ
def pwAt (p:SV):Option WV→Bool | some x=>eU p.f.tag p.f.dim x.f | none=>false
def gA (p q:SV) (g:WF) (qs:List WV):Bool:=hH 5 g && (!g.z && (decide (qs.length=2) && (pwAt p qs[0]? && pwAt q qs[1]?)))
theorem WIn.two {w:World} {d:Nat} {f:WF} {p q:WV} (h:WIn w (d+1) (.mk f [p,q])):f.pl=2∧∃ b off,f.pa=some ⟨b,off,none⟩∧b < w.heap.size∧W6 w b off p.f∧W6 w b (off+6) q.f∧WIn w d p∧WIn w d q:=by
 obtain ⟨_,h1,h2,h3⟩:=h
 refine ⟨h1.symm,?_⟩
 rcases h2 with h2 | ⟨b,off,ha,hc⟩
 ·cases h2
 ·have c0:=hc 0 p rfl
  have c1:=hc 1 q rfl
  simp only [Nat.zero_mul,Nat.add_zero,Nat.one_mul] at c0 c1
  exact ⟨b,off,ha,iL c0.1,c0,c1,h3 p (by simp),h3 q (by simp)⟩
theorem WIn.at_ {w:World} {d:Nat} {x:WV} (h:WIn w d x):x.f.At w:=by
 match d,x,h with
 | d+1,.mk f ps,h=>exact h.1
end
section
open Go.RowKit
def sK (ys xs:List Nat) (k:Nat):List Nat:=ys.take k++xs.drop k
theorem Ki {ys xs:List Nat} {k x y:Nat} (hy:ys[k]?=some y) (hx:xs[k]?=some x):(sK ys xs k).set k y=sK ys xs (k+1):=by
 obtain ⟨hk,ex⟩:=List.getElem?_eq_some_iff.1 hx
 obtain ⟨hk2,ey⟩:=List.getElem?_eq_some_iff.1 hy
 unfold sK
 have hl:(ys.take k).length=k:=by rw [List.length_take];omega
 rw [List.set_append_right _ _ (by omega),hl,Nat.sub_self,List.drop_eq_getElem_cons hk,List.set_cons_zero,List.take_succ_eq_append_getElem hk2,ey,List.append_assoc]
 rfl
theorem mixL_at {ys xs:List Nat} {k x:Nat} (hl:ys.length=xs.length) (hx:xs[k]?=some x):(sK ys xs k)[k]?=some x:=by
 obtain ⟨hk,ex⟩:=List.getElem?_eq_some_iff.1 hx
 unfold sK
 have h2:(ys.take k).length=k:=by rw [List.length_take];omega
 rw [List.getElem?_append_right (by omega),h2,Nat.sub_self,List.getElem?_drop,Nat.add_zero,hx]
theorem H9 (ys xs:List Nat):sK ys xs 0=xs:=by simp [sK]
theorem Km {ys xs:List Nat} (hl:ys.length=xs.length):sK ys xs xs.length=ys:=by
 unfold sK
 rw [List.take_of_length_le (by omega),List.drop_of_length_le (Nat.le_refl _),List.append_nil]
theorem Ko (l:List Nat) (k y:Nat):(dT l).set k (.int .u64 (y:Int))=dT (l.set k y):=by
 unfold dT;rw [List.map_set]
theorem Kp {l:List Nat} {k x:Nat} (h:l[k]?=some x):(dT l)[k]?=some (.int .u64 (x:Int)):=by
 unfold dT;rw [List.getElem?_map,h];rfl
def Kq (gen:Nat) (rows:List Nat) (err:Int) (w:World) (e:Ending) (w':World):Prop :=
 ∃ a cap,e = .returned (.tuple #[.agg #[.int .u64 (gen:Int),.slice a rows.length cap],.int .i64 err])∧gQ w' a (dT rows)∧(∀ ad,a=some ad→w.heap.size≤ad.block∧ad.block < w'.heap.size)∧Below w.heap.size w w'
theorem Ce {w w':World} (err:Int) (hb:Below w.heap.size w w'):Kq 0 [] err w (.returned (.tuple #[.agg #[.int .u64 0,.slice none 0 0],.int .i64 err])) w' :=
 ⟨none,0,rfl,.inl rfl,(fun ad e=>by cases e),hb⟩
theorem Ia {w:World} {base n:Nat} {E:TypeId} {v:Value} {xs:List Value} (h:w.ownsRow base E 1 v n xs):∃ a cap,v = .slice a n cap:=by
 rcases h.2 with ⟨h,h0⟩ | ⟨g,cap,cur,h,_⟩
 ·exact ⟨none,0,by rw [h,h0]⟩
 ·exact ⟨_,_,h⟩
theorem Kr {w w':World} {gen n:Nat} {v:Value} {rows:List Nat} {base:Nat} (hb0:w.heap.size≤base) (h:w'.ownsRow base 49 1 v n (dT rows)) (hb:Below w.heap.size w w') (err:Int):Kq gen rows err w (.returned (.tuple #[.agg #[.int .u64 (gen:Int),v],.int .i64 err])) w':=by
 obtain ⟨hn,a,cap,rfl,hr,hf⟩:=gQ.of_own h
 exact ⟨a,cap,by rw [gG],hr,fun ad e=>⟨Nat.le_trans hb0 (hf ad e).1,(hf ad e).2⟩,hb⟩
def lJ (n:Int) (ga:Nat) (xs:List Nat) (gb:Nat) (ys:List Nat):Int:=if dW n ga xs=0 then dW n gb ys else dW n ga xs
set_option maxHeartbeats 1000000 in
theorem uI (n:Int) (a b:Option Addr) (capa capb ga gb:Nat) (xs ys:List Nat) (w:World) (hfa:FAt w a ga xs) (hfb:FAt w b gb ys) (r:Int) (hr:lJ n ga xs gb ys=r) (la lb:Nat) (hla:xs.length=la) (hlb:ys.length=lb) :
  Calls prog 71 #[.int .i64 n,gY ga a la capa,gY gb b lb capb] w fun e w'=>e = .returned (.int .i64 r)∧Below w.heap.size w w':=by
 unfold gY
 have hB0:Below w.heap.size w ((w.alloc (.cells #[.int .u64 (ga:Int),.slice a la capa] 52)).alloc (.cells #[.int .u64 (gb:Int),.slice b lb capb] 52)):=((Below.refl _ _).alloc (Nat.le_refl _) _).alloc (by simp) _
 have HA:=Lib.hid (hfa.below hB0);have HB:=Lib.hid (hfb.below hB0);have HLA:=Lib.hid hla;have HLB:=Lib.hid hlb
 obtain ⟨t0,t1⟩:=oZ w #[.int .u64 (ga:Int),.slice a la capa] #[.int .u64 (gb:Int),.slice b lb capb] 52
 have T1:=Lib.hid t1
 obtain ⟨s,hs⟩:∃ s,dW n ga xs=s:=⟨_,rfl⟩
 have HS:=Lib.hid hs
 by_cases h0:s=0
 ·subst h0
  have HR:Hid (dW n gb ys=r):=by show _=_;rw [← hr,lJ,if_pos hs]
  clear hfa hfb hr hla hlb t0 t1 hs
  go_enter func71,ntmps71
  go_wp2_with fail
  refine (pA n a capa ga xs _ HA.out 0 HS.out la HLA.out).mono ?_
  rintro e w1 ⟨rfl,hb1⟩
  have hB1:=hB0.trans (hb1.mono hB0.size)
  obtain ⟨d0,d1,_⟩:=cA (cS T1.out hb1)
  go_wp2_with fail
  refine (pA n b capb gb ys _ (HB.out.below hb1) r HR.out lb HLB.out).mono ?_
  rintro e w2 ⟨rfl,hb2⟩
  go_wp2
  go_ret
  exact ⟨rfl,hB1.trans (hb2.mono hB1.size)⟩
 ·have HR:Hid (s=r):=by show _=_;rw [← hr,lJ,hs,if_neg h0]
  have hne:(s != 0)=true:=by simpa using h0
  clear hfa hfb hr hla hlb t0 t1 hs h0
  go_enter func71,ntmps71
  go_wp2_with fail
  refine (pA n a capa ga xs _ HA.out s HS.out la HLA.out).mono ?_
  rintro e w1 ⟨rfl,hb1⟩
  go_wp2
  go_ret
  exact ⟨cL HR.out,hB0.trans (hb1.mono hB0.size)⟩
end
section
open Go.RowKit Go.Shelf
theorem Ek {s j:Nat} (hj:j < 64) (h:s.testBit j=true):j∈mem s:=by
 unfold mem
 rw [List.mem_filter]
 exact ⟨List.mem_range.2 hj,h⟩
section iter
attribute [local go_sem] Oper.semAt_some
end iter
def rM (rows:List Nat) (gen:Nat) (l:List Nat):Nat:=l.foldl (fun c i=>c ||| rows.getD i 0) gen
def madeF (gen:Nat) (rows:List Nat) (s:Nat):Nat:=rM rows gen (mem s)
theorem Ib (rows:List Nat) (gen:Nat) (l:List Nat) (x:Nat):rM rows gen (l++[x])=rM rows gen l ||| rows.getD x 0:=by
 unfold rM;rw [List.foldl_append];rfl
theorem Kt {a b:Nat} (ha:a < 18446744073709551616) (hb:b < 18446744073709551616):a ||| b < 18446744073709551616:=by
 have e:(18446744073709551616:Nat)=2 ^ 64:=rfl
 rw [e] at *;exact Nat.or_lt_two_pow ha hb
theorem Gt {rows:List Nat} (hr:∀ r∈rows,r < 18446744073709551616):∀ (l:List Nat) (gen:Nat),gen < 18446744073709551616→rM rows gen l < 18446744073709551616
 | [],gen,h=>h
 | x::l,gen,h=>by
  have:rows.getD x 0 < 18446744073709551616:=by
   rw [List.getD_eq_getElem?_getD]
   cases hx:rows[x]? with
   | none=>simp
   | some y=>exact hr y (List.mem_of_getElem? hx)
  exact Gt hr l _ (Kt h this)
theorem rN {rows:List Nat} {gen s:Nat} (hr:∀ r∈rows,r < 18446744073709551616) (hg:gen < 18446744073709551616):madeF gen rows s < 18446744073709551616:=Gt hr _ _ hg
end
section
open Go.RowKit Go.Shelf
section madeA
attribute [local go_sem] Oper.semAt_some
end madeA
theorem Ku {s m:Nat} (hs:s < 2 ^ m) (hm:m≤64):tW s m=mem s:=by
 unfold tW mem
 obtain ⟨d,hd⟩:∃ d,64=m+d:=⟨64 - m,by omega⟩
 rw [hd,List.range_add,List.filter_append]
 have:((List.range d).map (m + ·)).filter s.testBit=[]:=by
  rw [List.filter_eq_nil_iff]
  intro x hx
  rw [List.mem_map] at hx
  obtain ⟨y,_,rfl⟩:=hx
  rw [Nat.testBit_lt_two_pow (Nat.lt_of_lt_of_le hs (Nat.pow_le_pow_right (by omega) (by omega)))]
  simp
 rw [this,List.append_nil]
set_option maxHeartbeats 1000000 in
theorem Cf (a:Option Addr) (cap gen:Nat) (rows:List Nat) (s:Nat) (hs:s < 2 ^ rows.length) (hl64:rows.length≤64) (w:World) (hf:FAt w a gen rows) (r:Nat) (hr:madeF gen rows s=r) (len:Nat) (hl:rows.length=len) :
  Calls prog 83 #[gY gen a len cap,.int .u64 s] w fun e W'=>e = .returned (.int .u64 r)∧Below w.heap.size w W':=by
 unfold gY
 have hs64:s < 18446744073709551616:=Nat.lt_of_lt_of_le hs (kQ hl64)
 have hB0:Below w.heap.size w (w.alloc (.cells #[.int .u64 (gen:Int),.slice a len cap] 52)):=(Below.refl _ _).alloc (Nat.le_refl _) _
 have HF1:Hid (FAt (w.alloc (.cells #[.int .u64 (gen:Int),.slice a len cap] 52)) a gen rows):=hf.below hB0
 have hgen:=hf.gen
 have HALL:=Lib.hid hf.all
 have HL:=Lib.hid hl
 rw [hl] at hl64 hs
 have HR:Hid (rM rows gen (tW s len)=r):=by show _=_;rw [Ku hs hl64];exact hr
 clear hf hr hl hs
 go_enter func83,ntmps83
 go_wp2_with fail
 go_loopw [5,6] (fun o i wr=>∃ (k u:Nat),k≤len∧i = .int .i64 k∧o = .int .u64 u∧u < 18446744073709551616∧Hid (rM rows gen (tW s k)=u)∧(w.alloc (.cells #[.int .u64 (gen:Int),.slice a len cap] 52))=wr) (fun _ i _=>len - (intOf i).toNat)
 case atStart=>exact ⟨0,gen,Nat.zero_le _,rfl,rfl,hgen,rfl,rfl⟩
 case round =>
  obtain ⟨k,u,hk,rfl,rfl,hu,HU,rfl⟩:=hrel
  by_cases hlt:k < len
  ·cases hbit:s.testBit k
   ·have HN:Hid (rM rows gen (tW s (k+1))=u):=by show _=_;rw [memK_no hbit];exact HU.out
    have HH:=Lib.hid (show xA s k=false by simp [xA,hbit])
    clear hbit
    go_wp2_with fail
    refine (zR s k false HH.out hs64 _).mono ?_
    rintro e w1 ⟨rfl,rfl⟩
    go_wp2
    go_roundw
    case rel=>exact ⟨k+1,u,by omega,by go_num,rfl,hu,HN,by trivial⟩
    case measure=>simp [intOf];omega
   ·obtain ⟨ba,offa,z,rfl,hz,hz64,hba,a0⟩:=HF1.out.at_ (i:=k) (by rw [HL.out];exact hlt)
    obtain ⟨q,hq⟩:∃ q,u ||| z=q:=⟨_,rfl⟩
    have hq64:q < 18446744073709551616:=by rw [← hq];exact Kt hu hz64
    have HN:Hid (rM rows gen (tW s (k+1))=q):=by
     show _=_
     rw [J8 hbit,Ib,HU.out,List.getD_eq_getElem?_getD,hz,← hq];rfl
    have HH:=Lib.hid (show xA s k=true by simp [xA,hbit];omega)
    have HQ:=Lib.hid hq
    have g0:(0:Int)≤(k:Int):=by omega
    have g1:(k:Int) < (len:Int):=by omega
    clear hbit hz hq
    go_wp2_with fail
    refine (zR s k true HH.out hs64 _).mono ?_
    rintro e w1 ⟨rfl,rfl⟩
    go_wp2_with fail
    refine (J9 u z q hu hz64 HQ.out _).mono ?_
    rintro e w1 ⟨rfl,rfl⟩
    go_wp2
    go_roundw
    case rel=>exact ⟨k+1,q,by omega,by go_num,rfl,hq64,HN,by trivial⟩
    case measure=>simp [intOf];omega
  ·have HE:Hid ((u:Int)=(r:Int)):=by
    show _=_
    rw [← HU.out,← HR.out,show k=len by omega]
   go_wp2
   go_ret
   exact ⟨cL HE.out,hB0⟩
end
section
open Go.RowKit
theorem pD {n:Int} {gen:Nat} {rows:List Nat} (h:dW n gen rows=0):eI n=true∧eF n.toNat gen rows=true∧jC gen rows=true:=by
 unfold dW at h
 split at h
 ·rename_i hd
  split at h
  ·rename_i hs
   rw [Bool.and_eq_true] at hs
   exact ⟨hd,hs.1,hs.2⟩
  ·cases h
 ·cases h
theorem mZ {m gen:Nat} {rows:List Nat} (h:eF m gen rows=true):rows.length=m∧lB m gen=true∧∀ r∈rows,lB m r=true:=by
 unfold eF at h
 simp only [Bool.and_eq_true,decide_eq_true_eq,List.all_eq_true] at h
 exact h
def orL (xs ys:List Nat):List Nat:=List.zipWith (fun a b:Nat=>a ||| b) xs ys
theorem orL_at {xs ys:List Nat} {k x y:Nat} (hx:xs[k]?=some x) (hy:ys[k]?=some y):(orL xs ys)[k]?=some (x ||| y):=by simp [orL,List.getElem?_zipWith,hx,hy]
theorem Gu {xs ys:List Nat} (h:ys.length=xs.length):(orL xs ys).length=xs.length:=by simp [orL,h]
theorem Kv {xs ys:List Nat} (hx:∀ r∈xs,r < 18446744073709551616) (hy:∀ r∈ys,r < 18446744073709551616):∀ r∈orL xs ys,r < 18446744073709551616:=by
 intro r hr
 obtain ⟨i,hi⟩:=List.getElem?_of_mem hr
 unfold orL at hi
 rw [List.getElem?_zipWith] at hi
 cases h1:xs[i]? with
 | none=>rw [h1] at hi;simp at hi
 | some a =>
  cases h2:ys[i]? with
  | none=>rw [h1,h2] at hi;simp at hi
  | some b =>
   rw [h1,h2] at hi
   have:a ||| b=r:=by simpa using hi
   rw [← this]
   exact Kt (hx a (List.mem_of_getElem? h1)) (hy b (List.mem_of_getElem? h2))
def oF (n:Int) (ga:Nat) (xs:List Nat) (gb:Nat) (ys:List Nat):Nat:=if lJ n ga xs gb ys=0 then ga ||| gb else 0
def nN (n:Int) (ga:Nat) (xs:List Nat) (gb:Nat) (ys:List Nat):List Nat:=if lJ n ga xs gb ys=0 then eW (ga ||| gb) (orL xs ys) else []
theorem Cg {n:Int} {ga gb:Nat} {xs ys:List Nat} (h:lJ n ga xs gb ys=0):dW n ga xs=0∧dW n gb ys=0:=by
 unfold lJ at h
 split at h
 ·rename_i h1;exact ⟨h1,h⟩
 ·rename_i h1;exact absurd h h1
theorem xN {n:Int} {ga gb:Nat} {xs ys:List Nat} (h:lJ n ga xs gb ys=0):∃ m:Nat,n=m∧m≤64∧xs.length=m∧ys.length=m:=by
 obtain ⟨h1,h2⟩:=Cg h
 obtain ⟨hd,s1,_⟩:=pD h1
 obtain ⟨_,s2,_⟩:=pD h2
 obtain ⟨m,rfl,hm⟩:=mU hd
 rw [Int.toNat_natCast] at s1 s2
 exact ⟨m,rfl,hm,(mZ s1).1,(mZ s2).1⟩
theorem tF (w:World) (a b c:Array Value) (T:TypeId) :
  (((w.alloc (.cells a T)).alloc (.cells b T)).alloc (.cells c T)).heap[w.heap.size]?=some (.cells a T (0,0))∧(((w.alloc (.cells a T)).alloc (.cells b T)).alloc (.cells c T)).heap[w.heap.size+1]?=some (.cells b T (0,0))∧(((w.alloc (.cells a T)).alloc (.cells b T)).alloc (.cells c T)).heap[w.heap.size+1+1]?=some (.cells c T (0,0)):=by
 obtain ⟨t0,t1⟩:=oZ w a b T
 refine ⟨cO t0 _,cO t1 _,?_⟩
 have:=dF ((w.alloc (.cells a T)).alloc (.cells b T)) (.cells c T)
 rwa [World.size_alloc,World.size_alloc] at this
def tY (n:Int) (ga:Nat) (xs:List Nat) (gb:Nat) (ys:List Nat):Nat:=if lJ n ga xs gb ys=0 then madeF gb ys ga else 0
def sL (n:Int) (ga:Nat) (xs:List Nat) (gb:Nat) (ys:List Nat):List Nat:=if lJ n ga xs gb ys=0 then eW (madeF gb ys ga) (xs.map (madeF gb ys)) else []
structure KeepK (w wr:World) (A B:Nat) (ca cb:Array Value):Prop where
 hA:wr.heap[A]?=some (.cells ca 52 (0,0))
 hB:wr.heap[B]?=some (.cells cb 52 (0,0))
 below:Below w.heap.size w wr
theorem KeepK.drew {w wr:World} {A B:Nat} {ca cb:Array Value} (h:KeepK w wr A B ca cb):KeepK w wr.drew A B ca cb:=⟨h.hA,h.hB,h.below.drew⟩
theorem KeepK.alloc {w wr:World} {A B:Nat} {ca cb:Array Value} (h:KeepK w wr A B ca cb) (o:Obj):KeepK w (wr.alloc o) A B ca cb:=⟨cO h.hA o,cO h.hB o,h.below.alloc h.below.size o⟩
theorem KeepK.call {w wr w':World} {A B:Nat} {ca cb:Array Value} (h:KeepK w wr A B ca cb) (hb:Below wr.heap.size wr w'):KeepK w w' A B ca cb:=⟨cS h.hA hb,cS h.hB hb,h.below.trans (hb.mono h.below.size)⟩
theorem KeepK.set {w wr:World} {A B F j:Nat} {ca cb:Array Value} (h:KeepK w wr A B ca cb) (h1:A≠F) (h2:B≠F) (h3:w.heap.size≤F) (v:Value):KeepK w (wr.setCell ⟨F,j,none⟩ v) A B ca cb:=⟨gI h.hA h1,gI h.hB h2,h.below.setCell (p:=⟨F,j,none⟩) h3 v⟩
theorem KeepK.grown {w wr w':World} {A B base n:Nat} {ca cb:Array Value} {v:Value} {xs:List Value} (h:KeepK w wr A B ca cb) (hr:wr.ownsRow base 49 1 v n xs) (hb:w.heap.size≤base) (hg:wr.grownBy w' v.ownBlock):KeepK w w' A B ca cb :=
 ⟨eK h.hA (by decide) hr hg,eK h.hB (by decide) hr hg,h.below.grown hg h.below.size (fun j e=>Nat.le_trans hb (hr.lt j e).1)⟩
theorem KeepK.cells {w wr:World} {A B:Nat} {u1 u2 v1 v2:Value} (h:KeepK w wr A B #[u1,u2] #[v1,v2]) {p q:Addr} {x y:Value} (hp:w.cell? p=some x) (hq:w.cell? q=some y) :
  wr.cell? ⟨A,1,none⟩=some u2∧wr.cell? p=some x∧wr.cell? ⟨B,1,none⟩=some v2∧wr.cell? q=some y :=
 ⟨(cA h.hA).2.1,(h.below.cell (iL hp)).trans hp,(cA h.hB).2.1,(h.below.cell (iL hq)).trans hq⟩
theorem Kw {xs ys:List Nat} {k x y q:Nat} (hx:xs[k]?=some x) (hy:ys[k]?=some y) (hq:x ||| y=q):(orL xs ys).take (k+1)=(orL xs ys).take k++[q]:=by
 have h2:=orL_at hx hy
 rw [hq] at h2
 obtain ⟨hk,e⟩:=List.getElem?_eq_some_iff.1 h2
 rw [List.take_succ_eq_append_getElem hk,e]
set_option maxHeartbeats 20000000 in
theorem Kx (n:Int) (a b:Option Addr) (capa capb ga gb:Nat) (xs ys:List Nat) (w:World) (hfa:FAt w a ga xs) (hfb:FAt w b gb ys) (e0:Int) (he:lJ n ga xs gb ys=e0) (g:Nat) (hg:oF n ga xs gb ys=g) (zs:List Nat) (hz:nN n ga xs gb ys=zs) (la lb:Nat) (hla:xs.length=la) (hlb:ys.length=lb) :
  Calls prog 61 #[.int .i64 n,gY ga a la capa,gY gb b lb capb] w (Kq g zs e0 w):=by
 unfold gY
 have hB0:Below w.heap.size w (((w.alloc (.cells #[.int .u64 (ga:Int),.slice a la capa] 52)).alloc (.cells #[.int .u64 (gb:Int),.slice b lb capb] 52)).alloc (.cells #[.int .u64 0,.slice none 0 0] 52)):=(((Below.refl _ _).alloc (Nat.le_refl _) _).alloc (by simp) _).alloc (by simp;omega) _
 have HA0:=Lib.hid hfa;have HBB0:=Lib.hid hfb
 have HA:=Lib.hid (hfa.below hB0);have HB:=Lib.hid (hfb.below hB0);have HLA:=Lib.hid hla;have HLB:=Lib.hid hlb
 obtain ⟨t0,t1,t2⟩:=tF w #[.int .u64 (ga:Int),.slice a la capa] #[.int .u64 (gb:Int),.slice b lb capb] #[.int .u64 0,.slice none 0 0] 52
 have T0:=Lib.hid t0;have T1:=Lib.hid t1;have T2:=Lib.hid t2
 have hga:=hfa.gen;have hgb:=hfb.gen
 have HXA:=Lib.hid hfa.all;have HYA:=Lib.hid hfb.all
 have HXL:=Lib.hid hfa.len
 have HE:=Lib.hid he
 by_cases h0:e0=0
 ·subst h0
  obtain ⟨m,rfl,hm,hxm,hym⟩:=xN he
  obtain rfl:m=la:=by omega
  obtain rfl:m=lb:=by omega
  obtain rfl:ga ||| gb=g:=by rw [← hg,oF,if_pos he]
  have HZ:Hid (eW (ga ||| gb) (orL xs ys)=zs):=by show _=_;rw [← hz,nN,if_pos he]
  have HOL:Hid ((orL xs ys).length=m):=by show _=_;rw [Gu (by omega)];exact hla
  have hgg:=Kt hga hgb
  obtain ⟨gg,hggq⟩:∃ gg,ga ||| gb=gg:=⟨_,rfl⟩
  have HGQ:=Lib.hid hggq
  rw [hggq] at hgg HZ ⊢
  obtain ⟨i0,hi,hz0,hz1,hz2⟩:=info_parts Bu
  clear hfa hfb he hg hz hla hlb t0 t1 t2 hxm hym hggq
  go_enter func61,ntmps61
  go_wp2_with fail
  refine (uI m a b capa capb ga gb xs ys _ HA.out HB.out 0 HE.out m m HLA.out HLB.out).mono ?_
  rintro e w1 ⟨rfl,hb1⟩
  have hB1:=hB0.trans (hb1.mono hB0.size)
  have U0:=Lib.hid (cS T0.out hb1);have U1:=Lib.hid (cS T1.out hb1);have U2:=Lib.hid (cS T2.out hb1)
  obtain ⟨c0,c1,_⟩:=cA U0.out
  obtain ⟨k0,k1,_⟩:=cA U1.out
  go_wp2_with fail
  refine (J9 ga gb gg hga hgb HGQ.out _).mono ?_
  rintro e w2 ⟨rfl,rfl⟩
  have hw1:w.heap.size+1+1 < w1.heap.size:=(Array.getElem?_eq_some_iff.1 U2.out).1
  have UF:=Lib.hid (dF w1 (.cells #[.int .u64 (gg:Int),.slice none 0 0] 52))
  have K0:Hid (KeepK w (w1.alloc (.cells #[.int .u64 (gg:Int),.slice none 0 0] 52)) w.heap.size (w.heap.size+1) #[.int .u64 (ga:Int),.slice a m capa] #[.int .u64 (gb:Int),.slice b m capb]):=KeepK.alloc ⟨U0.out,U1.out,hB1⟩ _
  have S0:=Lib.hid (cO U2.out (.cells #[.int .u64 (gg:Int),.slice none 0 0] 52))
  obtain ⟨F,hF⟩:∃ F,w1.heap.size=F:=⟨_,rfl⟩
  have HFL:Hid ((w1.alloc (.cells #[.int .u64 (gg:Int),.slice none 0 0] 52)).heap.size=F+1):=by show _=_;rw [World.size_alloc,hF]
  rw [hF] at UF hw1
  clear c0 c1 k0 k1
  go_wp2_with fail
  go_loopw [10] (fun i wr=>∃ (k:Nat) (v:Value),k≤m∧i = .int .i64 k∧Hid (KeepK w wr w.heap.size (w.heap.size+1) #[.int .u64 (ga:Int),.slice a m capa] #[.int .u64 (gb:Int),.slice b m capb])∧Hid (wr.heap[w.heap.size+1+1]?=some (.cells #[.int .u64 0,.slice none 0 0] 52 (0,0)))∧Hid (wr.heap[F]?=some (.cells #[.int .u64 (gg:Int),v] 52 (0,0)))∧Hid (wr.ownsRow F 49 1 v k (dT ((orL xs ys).take k)))∧F≤wr.heap.size) (fun i _=>m - (intOf i).toNat)
  case atStart=>exact ⟨0,.slice none 0 0,Nat.zero_le _,rfl,K0,S0,UF,World.ownsRow_nil _ _ _ _,by have:=HFL.out;omega⟩
  case round =>
   obtain ⟨k,v,hk,rfl,K,R2,RF,HO,hFw⟩:=hrel
   obtain ⟨f0,f1,ff⟩:=cA RF.out
   have ff1:=ff 1
   by_cases hlt:k < m
   ·obtain ⟨ba,offa,x,rfl,hx,hx64,hba,a0⟩:=HA0.out.at_ (i:=k) (by rw [HLA.out];exact hlt)
    obtain ⟨bb,offb,y,rfl,hy,hy64,hbb,b0⟩:=HBB0.out.at_ (i:=k) (by rw [HLB.out];exact hlt)
    obtain ⟨q,hq⟩:∃ q,x ||| y=q:=⟨_,rfl⟩
    have HQ:=Lib.hid hq
    have HT:=Lib.hid (Kw hx hy hq)
    have A0:=Lib.hid a0;have B0:=Lib.hid b0
    have g0:(0:Int)≤(k:Int):=by omega
    have g1:(k:Int) < (m:Int):=by omega
    have q1:(wr.alloc (.cells #[.int .u64 (q:Int)] 49)).cell? ⟨F,1,none⟩=some v:=(cA (cO RF.out _)).2.1
    have KA:=Lib.hid (K.out.drew.alloc (.cells #[.int .u64 (q:Int)] 49))
    obtain ⟨s1,s2,s3,s4⟩:=K.out.cells a0 b0
    clear hx hy hq ff a0 b0
    go_wp2_with fail
    go_region_law (first | (refine step_append_lies (wr.drew.alloc (.cells #[.int .u64 (q:Int)] 49)) ?_ (.tmp 31) (.tmp 43) 50 ?_ F 49 i0 _ 1 8 underlying50 hi hz0 hz1 hz2 ?_ ?_ v k (dT ((orL xs ys).take k)) ?_ ?_ ⟨wr.heap.size,0,none⟩ 1 1 [.int .u64 (q:Int)] ?_ ?_ ?_ ?_ ?_ ?_ ?_ ?_ (wr.heap.size+1) ?_ ?_;rfl;rfl;rfl;omega;rfl;exact (HO.out:(wr.drew).ownsRow _ _ _ _ _ _).alloc _;rfl;rfl;exact (World.news_of_block (cs:=#[.int .u64 (q:Int)]) (t:=49) (fr:=(0,0)) (dF wr.drew _));simp [Value.oneCell'];omega;(unfold maxLen;omega);omega;(simp;omega);simp;intro gg9 cp w5 hown1 hgrow hat hlt5;have HOA:=Lib.hid ((HO.out:(wr.drew).ownsRow _ _ _ _ _ _).alloc (.cells #[.int .u64 (q:Int)] 49));have K5:=Lib.hid (KA.out.grown HOA.out (by omega) hgrow);have D2:=Lib.hid (eK (cO (w:=wr.drew) R2.out (.cells #[.int .u64 (q:Int)] 49)) (by decide) HOA.out hgrow);have DF:=Lib.hid (eK (cO (w:=wr.drew) RF.out (.cells #[.int .u64 (q:Int)] 49)) (by decide) HOA.out hgrow);have hs5:=hgrow.size;obtain ⟨_,d1,df⟩:=cA DF.out;have df1:=df 1;clear df) | (go_simp;go_at_call 72;refine (J9 x y q hx64 hy64 HQ.out _).mono ?_;rintro e w3 ⟨rfl,rfl⟩) | fail)
    all_goals
     have hsl:Hid (F≤w5.heap.size):=by show _≤_;simp at hs5;omega
     have HO5:=Lib.hid (show (w5.setCell ⟨F,1,none⟩ (.slice (some ⟨gg9,0,none⟩) (k+1) cp)).ownsRow F 49 1 (.slice (some ⟨gg9,0,none⟩) (k+1) cp) (k+1) (dT ((orL xs ys).take (k+1))) by
      rw [HT.out,oY];exact hown1.kept (fI w5 _ _ _) (.inr (iM DF.out (by decide) hown1).symm))
     have N2:=Lib.hid (gI (B:=F) (j:=1) (c:=.slice (some ⟨gg9,0,none⟩) (k+1) cp) D2.out (by omega))
     have NF:=Lib.hid (gH (c:=.slice (some ⟨gg9,0,none⟩) (k+1) cp) DF.out)
     have NK:=Lib.hid (K5.out.set (F:=F) (j:=1) (by omega) (by omega) (by omega) (.slice (some ⟨gg9,0,none⟩) (k+1) cp))
     clear hown1 hgrow hat d1 df1 q1 s1 s2 s3 s4 f0 f1 ff1 hs5
     go_wp2
     go_roundw
     case rel=>exact ⟨k+1,_,by omega,by go_num,NK,N2,NF,HO5,by have:=hsl.out;simpa [World.setCell] using this⟩
     case measure=>simp [intOf];omega
   ·obtain rfl:k=m:=by omega
    have HO2:Hid (wr.ownsRow F 49 1 v k (dT (orL xs ys))):=by
     have:=HO.out
     rwa [List.take_of_length_le (by rw [HOL.out];exact Nat.le_refl _)] at this
    obtain ⟨hvn,a3,cap3,hv3,hr3,hf3⟩:=gQ.of_own HO2.out
    have hol:(dT (orL xs ys)).length=k:=hvn.symm
    rw [hol] at hv3
    subst hv3
    have holn:(orL xs ys).length=k:=by rw [← hol,gG]
    have hfat:FAt wr a3 gg (orL xs ys):=⟨hr3,hgg,Kv HXA.out HYA.out,by rw [holn,← HLA.out];exact HXL.out⟩
    have can:∀ (W:World),FAt W a3 gg (orL xs ys)→Calls prog 73 #[.agg #[.int .u64 (gg:Int),.slice a3 k cap3]] W (FOne gg zs W):=fun W hW=>by
     have:=sH a3 cap3 gg (orL xs ys) W hW zs HZ.out
     rwa [holn] at this
    have HCAN:=Lib.hid can;have HFAT:=Lib.hid hfat
    have hrel:=K.out.below
    have hsz:w.heap.size≤wr.heap.size:=hrel.size
    have R3:=R2
    clear hvn hr3 hf3 hol holn hfat can ff ff1
    go_wp2_with fail
    refine (HCAN.out _ HFAT.out).mono ?_
    rintro e w4 ⟨a4,cap4,rfl,hr4,hf4,hb4⟩
    unfold gY
    have hB4:=hrel.trans (hb4.mono hrel.size)
    have U4:=Lib.hid (cS R3.out hb4)
    obtain ⟨k0,k1,df⟩:=cA U4.out
    have y0:=df 0;have y1:=df 1
    have N1:=Lib.hid (gH (c:=.slice a4 zs.length cap4) (kT (c:=.int .u64 (gg:Int)) U4.out))
    obtain ⟨s0,s1,_⟩:=cA N1.out
    have hne:∀ ad,a4=some ad→ad.block≠w.heap.size+1+1:=fun ad e=>by
     have h1:=(hf4 ad e).1
     omega
    have NR:=Lib.hid (lY (lY hr4 (B:=w.heap.size+1+1) (j:=0) (v:=.int .u64 (gg:Int)) hne) (B:=w.heap.size+1+1) (j:=1) (v:=.slice a4 zs.length cap4) hne)
    have HF4:=Lib.hid hf4
    clear df hr4 hf4 hne
    go_wp2
    refine bodyPost_ret (v:=.tuple #[.agg #[.int .u64 (gg:Int),.slice a4 zs.length cap4],.int .i64 0]) ?_ rfl ⟨a4,cap4,rfl,NR.out,fun ad e=>⟨Nat.le_trans hsz (HF4.out ad e).1,by simpa [World.setCell] using (HF4.out ad e).2⟩,(hB4.setCell (p:=⟨w.heap.size+1+1,0,none⟩) (by simp;omega) _).setCell (p:=⟨w.heap.size+1+1,1,none⟩) (by simp;omega) _⟩
    simp [results,results61,go_sem,s0,s1]
 ·obtain rfl:0=g:=by rw [← hg,oF,he,if_neg h0]
  obtain rfl:[]=zs:=by rw [← hz,nN,he,if_neg h0]
  have hne:(e0 != 0)=true:=by simpa using h0
  clear hfa hfb he hg hz hla hlb t0 t1 t2 h0
  go_enter func61,ntmps61
  go_wp2_with fail
  refine (uI n a b capa capb ga gb xs ys _ HA.out HB.out e0 HE.out la lb HLA.out HLB.out).mono ?_
  rintro e w1 ⟨rfl,hb1⟩
  have hB1:=hB0.trans (hb1.mono hB0.size)
  have U2:=Lib.hid (cS T2.out hb1)
  obtain ⟨d0,d1,df⟩:=cA U2.out
  have f0:=df 0;have f1:=df 1
  have N1:=Lib.hid (gH (c:=.slice none 0 0) (kT (c:=.int .u64 0) U2.out))
  obtain ⟨s0,s1,_⟩:=cA N1.out
  clear df
  go_wp2
  refine bodyPost_ret (v:=.tuple #[.agg #[.int .u64 0,.slice none 0 0],.int .i64 e0]) ?_ rfl (Ce e0 ((hB1.setCell (p:=⟨w.heap.size+1+1,0,none⟩) (by simp;omega) _).setCell (p:=⟨w.heap.size+1+1,1,none⟩) (by simp;omega) _))
  simp [results,results61,go_sem,s0,s1]
theorem KeepK.cells4 {w wr:World} {A B:Nat} {u1 u2 v1 v2:Value} (h:KeepK w wr A B #[u1,u2] #[v1,v2]) {p:Addr} {x:Value} (hp:w.cell? p=some x) :
  wr.cell? ⟨A,1,none⟩=some u2∧wr.cell? p=some x∧wr.cell? ⟨B,0,none⟩=some v1∧wr.cell? ⟨B,1,none⟩=some v2 :=
 ⟨(cA h.hA).2.1,(h.below.cell (iL hp)).trans hp,(cA h.hB).1,(cA h.hB).2.1⟩
theorem Ky {f:Nat→Nat} {xs:List Nat} {k x q:Nat} (hx:xs[k]?=some x) (hq:f x=q):(xs.map f).take (k+1)=(xs.map f).take k++[q]:=by
 have h2:(xs.map f)[k]?=some q:=by rw [List.getElem?_map,hx,← hq];rfl
 obtain ⟨hk,e⟩:=List.getElem?_eq_some_iff.1 h2
 rw [List.take_succ_eq_append_getElem hk,e]
set_option maxHeartbeats 20000000 in
theorem extR_is (n:Int) (a b:Option Addr) (capa capb ga gb:Nat) (xs ys:List Nat) (w:World) (hfa:FAt w a ga xs) (hfb:FAt w b gb ys) (e0:Int) (he:lJ n ga xs gb ys=e0) (g:Nat) (hg:tY n ga xs gb ys=g) (zs:List Nat) (hz:sL n ga xs gb ys=zs) (la lb:Nat) (hla:xs.length=la) (hlb:ys.length=lb) :
  Calls prog 74 #[.int .i64 n,gY ga a la capa,gY gb b lb capb] w (Kq g zs e0 w):=by
 unfold gY
 have hB0:Below w.heap.size w (((w.alloc (.cells #[.int .u64 (ga:Int),.slice a la capa] 52)).alloc (.cells #[.int .u64 (gb:Int),.slice b lb capb] 52)).alloc (.cells #[.int .u64 0,.slice none 0 0] 52)):=(((Below.refl _ _).alloc (Nat.le_refl _) _).alloc (by simp) _).alloc (by simp;omega) _
 have HA0:=Lib.hid hfa;have HBB0:=Lib.hid hfb
 have HA:=Lib.hid (hfa.below hB0);have HB:=Lib.hid (hfb.below hB0);have HLA:=Lib.hid hla;have HLB:=Lib.hid hlb
 obtain ⟨t0,t1,t2⟩:=tF w #[.int .u64 (ga:Int),.slice a la capa] #[.int .u64 (gb:Int),.slice b lb capb] #[.int .u64 0,.slice none 0 0] 52
 have T0:=Lib.hid t0;have T1:=Lib.hid t1;have T2:=Lib.hid t2
 have hga:=hfa.gen;have hgb:=hfb.gen
 have HXA:=Lib.hid hfa.all;have HYA:=Lib.hid hfb.all
 have HXL:=Lib.hid hfa.len
 have HE:=Lib.hid he
 by_cases h0:e0=0
 ·subst h0
  obtain ⟨m,rfl,hm,hxm,hym⟩:=xN he
  obtain rfl:m=la:=by omega
  obtain rfl:m=lb:=by omega
  obtain rfl:madeF gb ys ga=g:=by rw [← hg,tY,if_pos he]
  have HZ:Hid (eW (madeF gb ys ga) (xs.map (madeF gb ys))=zs):=by show _=_;rw [← hz,sL,if_pos he]
  have HOL:Hid ((xs.map (madeF gb ys)).length=m):=by show _=_;rw [List.length_map];exact hla
  obtain ⟨hc1,hc2⟩:=Cg he
  obtain ⟨_,sh1,_⟩:=pD hc1
  rw [Int.toNat_natCast] at sh1
  obtain ⟨_,ig,ir⟩:=mZ sh1
  have HINg:Hid (ga < 2 ^ ys.length):=by show _ < _;rw [hym];exact (kS hm hga).1 ig
  have HINr:Hid (∀ x∈xs,x < 2 ^ ys.length):=fun x hx=>by rw [hym];exact (kS hm (hfa.all x hx)).1 (ir x hx)
  have HY64:Hid (ys.length≤64):=by show _≤_;omega
  have hgg:madeF gb ys ga < 18446744073709551616:=rN hfb.all hgb
  obtain ⟨gg,hggq⟩:∃ gg,madeF gb ys ga=gg:=⟨_,rfl⟩
  have HGQ:=Lib.hid hggq
  rw [hggq] at hgg HZ ⊢
  obtain ⟨i0,hi,hz0,hz1,hz2⟩:=info_parts Bu
  clear hfa hfb he hg hz hla hlb t0 t1 t2 hxm hym hggq hc1 hc2 sh1 ig ir
  go_enter func74,ntmps74
  go_wp2_with fail
  refine (uI m a b capa capb ga gb xs ys _ HA.out HB.out 0 HE.out m m HLA.out HLB.out).mono ?_
  rintro e w1 ⟨rfl,hb1⟩
  have hB1:=hB0.trans (hb1.mono hB0.size)
  have U0:=Lib.hid (cS T0.out hb1);have U1:=Lib.hid (cS T1.out hb1);have U2:=Lib.hid (cS T2.out hb1)
  obtain ⟨c0,c1,_⟩:=cA U0.out
  obtain ⟨k0,k1,_⟩:=cA U1.out
  go_wp2_with fail
  refine (Cf b capb gb ys ga HINg.out HY64.out _ (HB.out.below hb1) gg HGQ.out m HLB.out).mono ?_
  rintro e w2 ⟨rfl,hb2⟩
  have U0:=Lib.hid (cS U0.out hb2);have U1:=Lib.hid (cS U1.out hb2);have U2:=Lib.hid (cS U2.out hb2)
  have hB1:=hB1.trans (hb2.mono hB1.size)
  have hw1:w.heap.size+1+1 < w2.heap.size:=(Array.getElem?_eq_some_iff.1 U2.out).1
  have UF:=Lib.hid (dF w2 (.cells #[.int .u64 (gg:Int),.slice none 0 0] 52))
  have K0:Hid (KeepK w (w2.alloc (.cells #[.int .u64 (gg:Int),.slice none 0 0] 52)) w.heap.size (w.heap.size+1) #[.int .u64 (ga:Int),.slice a m capa] #[.int .u64 (gb:Int),.slice b m capb]):=KeepK.alloc ⟨U0.out,U1.out,hB1⟩ _
  have S0:=Lib.hid (cO U2.out (.cells #[.int .u64 (gg:Int),.slice none 0 0] 52))
  obtain ⟨F,hF⟩:∃ F,w2.heap.size=F:=⟨_,rfl⟩
  have HFL:Hid ((w2.alloc (.cells #[.int .u64 (gg:Int),.slice none 0 0] 52)).heap.size=F+1):=by show _=_;rw [World.size_alloc,hF]
  rw [hF] at UF hw1
  clear c0 c1 k0 k1
  go_wp2_with fail
  go_loopw [10] (fun i wr=>∃ (k:Nat) (v:Value),k≤m∧i = .int .i64 k∧Hid (KeepK w wr w.heap.size (w.heap.size+1) #[.int .u64 (ga:Int),.slice a m capa] #[.int .u64 (gb:Int),.slice b m capb])∧Hid (wr.heap[w.heap.size+1+1]?=some (.cells #[.int .u64 0,.slice none 0 0] 52 (0,0)))∧Hid (wr.heap[F]?=some (.cells #[.int .u64 (gg:Int),v] 52 (0,0)))∧Hid (wr.ownsRow F 49 1 v k (dT ((xs.map (madeF gb ys)).take k)))∧F≤wr.heap.size) (fun i _=>m - (intOf i).toNat)
  case atStart=>exact ⟨0,.slice none 0 0,Nat.zero_le _,rfl,K0,S0,UF,World.ownsRow_nil _ _ _ _,by have:=HFL.out;omega⟩
  case round =>
   obtain ⟨k,v,hk,rfl,K,R2,RF,HO,hFw⟩:=hrel
   obtain ⟨f0,f1,ff⟩:=cA RF.out
   have ff1:=ff 1
   by_cases hlt:k < m
   ·obtain ⟨ba,offa,x,rfl,hx,hx64,hba,a0⟩:=HA0.out.at_ (i:=k) (by rw [HLA.out];exact hlt)
    obtain ⟨q,hq⟩:∃ q,madeF gb ys x=q:=⟨_,rfl⟩
    have HQ:=Lib.hid hq
    have HT:=Lib.hid (Ky hx hq)
    have HX2:=Lib.hid (HINr.out x (List.mem_of_getElem? hx))
    have A0:=Lib.hid a0
    have g0:(0:Int)≤(k:Int):=by omega
    have g1:(k:Int) < (m:Int):=by omega
    obtain ⟨s1,s2,s3,s4⟩:=K.out.cells4 a0
    clear hx hq ff a0
    go_wp2_with fail
    go_region_law (first | (refine step_append_lies (w3.alloc (.cells #[.int .u64 (q:Int)] 49)) ?_ (.tmp 30) (.tmp 38) 50 ?_ F 49 i0 _ 1 8 underlying50 hi hz0 hz1 hz2 ?_ ?_ v k (dT ((xs.map (madeF gb ys)).take k)) ?_ ?_ ⟨w3.heap.size,0,none⟩ 1 1 [.int .u64 (q:Int)] ?_ ?_ ?_ ?_ ?_ ?_ ?_ ?_ (w3.heap.size+1) ?_ ?_;rfl;rfl;rfl;omega;rfl;exact HO3.out.alloc _;rfl;rfl;exact (World.news_of_block (cs:=#[.int .u64 (q:Int)]) (t:=49) (fr:=(0,0)) (dF w3 _));simp [Value.oneCell'];omega;(unfold maxLen;omega);omega;(simp;omega);simp;intro gg9 cp w5 hown1 hgrow hat hlt5;have HOA:=Lib.hid (HO3.out.alloc (.cells #[.int .u64 (q:Int)] 49));have K5:=Lib.hid (KA.out.grown HOA.out (by omega) hgrow);have D2:=Lib.hid (eK (cO R23.out (.cells #[.int .u64 (q:Int)] 49)) (by decide) HOA.out hgrow);have DF:=Lib.hid (eK (cO RF3.out (.cells #[.int .u64 (q:Int)] 49)) (by decide) HOA.out hgrow);have hs5:=hgrow.size;obtain ⟨_,d1,df⟩:=cA DF.out;have df1:=df 1;clear df) | (go_simp;go_at_call 83;refine (Cf b capb gb ys x HX2.out HY64.out _ (by first | exact HBB0.out.below K.out.drew.below | exact HBB0.out.below K.out.below) q HQ.out m HLB.out).mono ?_;rintro e w3 ⟨rfl,hb3⟩;have K3:=Lib.hid (K.out.drew.call hb3);have R23:=Lib.hid (cS (w:=wr.drew) R2.out hb3);have RF3:=Lib.hid (cS (w:=wr.drew) RF.out hb3);have HO3:=Lib.hid (Ec (w:=wr.drew) HO.out hb3);have hFw3:F≤w3.heap.size:=Nat.le_trans hFw hb3.size;have x1:=(cA RF3.out).2.1;have q1:=(cA (cO RF3.out (.cells #[.int .u64 (q:Int)] 49))).2.1;have KA:=Lib.hid (K3.out.alloc (.cells #[.int .u64 (q:Int)] 49))) | fail)
    all_goals
     have hsl:Hid (F≤w5.heap.size):=by show _≤_;simp at hs5;omega
     have HO5:=Lib.hid (show (w5.setCell ⟨F,1,none⟩ (.slice (some ⟨gg9,0,none⟩) (k+1) cp)).ownsRow F 49 1 (.slice (some ⟨gg9,0,none⟩) (k+1) cp) (k+1) (dT ((xs.map (madeF gb ys)).take (k+1))) by
      rw [HT.out,oY];exact hown1.kept (fI w5 _ _ _) (.inr (iM DF.out (by decide) hown1).symm))
     have N2:=Lib.hid (gI (B:=F) (j:=1) (c:=.slice (some ⟨gg9,0,none⟩) (k+1) cp) D2.out (by omega))
     have NF:=Lib.hid (gH (c:=.slice (some ⟨gg9,0,none⟩) (k+1) cp) DF.out)
     have NK:=Lib.hid (K5.out.set (F:=F) (j:=1) (by omega) (by omega) (by omega) (.slice (some ⟨gg9,0,none⟩) (k+1) cp))
     clear hown1 hgrow hat d1 df1 q1 x1 s1 s2 s3 s4 f0 f1 ff1 hs5 hb3
     go_wp2
     go_roundw
     case rel=>exact ⟨k+1,_,by omega,by go_num,NK,N2,NF,HO5,by have:=hsl.out;simpa [World.setCell] using this⟩
     case measure=>simp [intOf];omega
   ·obtain rfl:k=m:=by omega
    have HO2:Hid (wr.ownsRow F 49 1 v k (dT (xs.map (madeF gb ys)))):=by
     have:=HO.out
     rwa [List.take_of_length_le (by rw [HOL.out];exact Nat.le_refl _)] at this
    obtain ⟨hvn,a3,cap3,hv3,hr3,hf3⟩:=gQ.of_own HO2.out
    have hol:(dT (xs.map (madeF gb ys))).length=k:=hvn.symm
    rw [hol] at hv3
    subst hv3
    have HMLT:Hid (∀ r∈xs.map (madeF gb ys),r < 18446744073709551616):=fun r hr=>by obtain ⟨x,_,e⟩:=List.mem_map.1 hr;rw [← e];exact rN HYA.out hgb
    have holn:(xs.map (madeF gb ys)).length=k:=by rw [← hol,gG]
    have hfat:FAt wr a3 gg (xs.map (madeF gb ys)):=⟨hr3,hgg,HMLT.out,by rw [holn,← HLA.out];exact HXL.out⟩
    have can:∀ (W:World),FAt W a3 gg (xs.map (madeF gb ys))→Calls prog 73 #[.agg #[.int .u64 (gg:Int),.slice a3 k cap3]] W (FOne gg zs W):=fun W hW=>by
     have:=sH a3 cap3 gg (xs.map (madeF gb ys)) W hW zs HZ.out
     rwa [holn] at this
    have HCAN:=Lib.hid can;have HFAT:=Lib.hid hfat
    have hrel:=K.out.below
    have hsz:w.heap.size≤wr.heap.size:=hrel.size
    have R3:=R2
    clear hvn hr3 hf3 hol holn hfat can ff ff1
    go_wp2_with fail
    refine (HCAN.out _ HFAT.out).mono ?_
    rintro e w4 ⟨a4,cap4,rfl,hr4,hf4,hb4⟩
    unfold gY
    have hB4:=hrel.trans (hb4.mono hrel.size)
    have U4:=Lib.hid (cS R3.out hb4)
    obtain ⟨k0,k1,df⟩:=cA U4.out
    have y0:=df 0;have y1:=df 1
    have N1:=Lib.hid (gH (c:=.slice a4 zs.length cap4) (kT (c:=.int .u64 (gg:Int)) U4.out))
    obtain ⟨s0,s1,_⟩:=cA N1.out
    have hne:∀ ad,a4=some ad→ad.block≠w.heap.size+1+1:=fun ad e=>by
     have h1:=(hf4 ad e).1
     omega
    have NR:=Lib.hid (lY (lY hr4 (B:=w.heap.size+1+1) (j:=0) (v:=.int .u64 (gg:Int)) hne) (B:=w.heap.size+1+1) (j:=1) (v:=.slice a4 zs.length cap4) hne)
    have HF4:=Lib.hid hf4
    clear df hr4 hf4 hne
    go_wp2
    refine bodyPost_ret (v:=.tuple #[.agg #[.int .u64 (gg:Int),.slice a4 zs.length cap4],.int .i64 0]) ?_ rfl ⟨a4,cap4,rfl,NR.out,fun ad e=>⟨Nat.le_trans hsz (HF4.out ad e).1,by simpa [World.setCell] using (HF4.out ad e).2⟩,(hB4.setCell (p:=⟨w.heap.size+1+1,0,none⟩) (by simp;omega) _).setCell (p:=⟨w.heap.size+1+1,1,none⟩) (by simp;omega) _⟩
    simp [results,results74,go_sem,s0,s1]
 ·obtain rfl:0=g:=by rw [← hg,tY,he,if_neg h0]
  obtain rfl:[]=zs:=by rw [← hz,sL,he,if_neg h0]
  have hne:(e0 != 0)=true:=by simpa using h0
  clear hfa hfb he hg hz hla hlb t0 t1 t2 h0
  go_enter func74,ntmps74
  go_wp2_with fail
  refine (uI n a b capa capb ga gb xs ys _ HA.out HB.out e0 HE.out la lb HLA.out HLB.out).mono ?_
  rintro e w1 ⟨rfl,hb1⟩
  have hB1:=hB0.trans (hb1.mono hB0.size)
  have U2:=Lib.hid (cS T2.out hb1)
  obtain ⟨d0,d1,df⟩:=cA U2.out
  have f0:=df 0;have f1:=df 1
  have N1:=Lib.hid (gH (c:=.slice none 0 0) (kT (c:=.int .u64 0) U2.out))
  obtain ⟨s0,s1,_⟩:=cA N1.out
  clear df
  go_wp2
  refine bodyPost_ret (v:=.tuple #[.agg #[.int .u64 0,.slice none 0 0],.int .i64 e0]) ?_ rfl (Ce e0 ((hB1.setCell (p:=⟨w.heap.size+1+1,0,none⟩) (by simp;omega) _).setCell (p:=⟨w.heap.size+1+1,1,none⟩) (by simp;omega) _))
  simp [results,results74,go_sem,s0,s1]
def Ch (gen:Nat) (rows:List Nat) (err:Int) (w:World) (e:Ending) (w':World):Prop :=
 ∃ v,e = .returned (.tuple #[.agg #[.int .u64 (gen:Int),v],.int .i64 err])∧w'.ownsRow w.heap.size 49 1 v rows.length (dT rows)∧Below w.heap.size w w'
theorem Ci {w w':World} (err:Int) (hb:Below w.heap.size w w'):Ch 0 [] err w (.returned (.tuple #[.agg #[.int .u64 0,.slice none 0 0],.int .i64 err])) w' :=
 ⟨_,rfl,World.ownsRow_nil _ _ _ _,hb⟩
theorem Cj {w w':World} {gen n:Nat} {v:Value} {rows:List Nat} (h:w'.ownsRow w.heap.size 49 1 v n (dT rows)) (hb:Below w.heap.size w w') (err:Int):Ch gen rows err w (.returned (.tuple #[.agg #[.int .u64 (gen:Int),v],.int .i64 err])) w':=by
 have hn:n=rows.length:=by have:=h.1;rw [gG] at this;omega
 subst hn
 exact ⟨v,rfl,h,hb⟩
theorem Ch.ret {gen:Nat} {rows:List Nat} {err:Int} {w w':World} {e:Ending} (h:Ch gen rows err w e w'):Kq gen rows err w e w':=by
 obtain ⟨v,rfl,ho,hb⟩:=h
 exact Kr (Nat.le_refl _) ho hb err
def fJ (m:Nat):List Nat:=(List.range m).map fun i=>2 ^ i
theorem gR (m:Nat):(fJ m).length=m:=by simp [fJ]
theorem vG {m k:Nat} (h:k < m):(fJ m)[k]?=some (2 ^ k):=by
 unfold fJ
 rw [List.getElem?_map,List.getElem?_range h];rfl
def oneV (n:Int):List Nat:=if eI n=true then fJ n.toNat else []
def Ck (n:Int):Int:=if eI n=true then 0 else 31
set_option maxHeartbeats 2000000 in
theorem oneA_is (n:Int) (w:World) (e0:Int) (he:Ck n=e0) (ys:List Nat) (hys:oneV n=ys) :
  Calls prog 85 #[.int .i64 n] w (Ch 0 ys e0 w):=by
 have hB0:Below w.heap.size w (w.alloc (.cells #[.int .u64 0,.slice none 0 0] 52)):=(Below.refl _ _).alloc (Nat.le_refl _) _
 have T0:=Lib.hid (dF w (.cells #[.int .u64 0,.slice none 0 0] 52))
 obtain ⟨i0,hi,hz0,hz1,hz2⟩:=info_parts Bu
 cases hd:eI n
 ·obtain rfl:31=e0:=by rw [← he,Ck,hd];rfl
  obtain rfl:[]=ys:=by rw [← hys,oneV,hd];rfl
  obtain ⟨d0,d1,df⟩:=cA T0.out
  have f0:=df 0;have f1:=df 1
  have hx:n < 0∨64 < n:=by
   by_cases h:n < 0
   ·exact .inl h
   ·simp [eI,show 0≤n by omega] at hd;exact .inr hd
  clear df hd he hys
  rcases hx with hx | hx
  all_goals
   go_enter func85,ntmps85
   go_wp2
   refine bodyPost_ret (v:=.tuple #[.agg #[.int .u64 0,.slice none 0 0],.int .i64 31]) ?_ rfl (Ci 31 hB0)
   simp [results,results85,go_sem,d0,d1]
 ·obtain ⟨m,rfl,hm⟩:=mU hd
  obtain rfl:0=e0:=by rw [← he,Ck,hd];rfl
  have HY:Hid (fJ m=ys):=by show _=_;rw [← hys,oneV,hd,if_pos rfl,Int.toNat_natCast]
  have hm0:(0:Int)≤(m:Int):=by omega
  have hm64:(m:Int)≤64:=by omega
  clear hd he hys
  go_enter func85,ntmps85
  go_wp2_with (at_make;go_loud (refine wpList_make_full _ rfl (.tmp 13) (.tmp 13) 50 rfl w.heap.size 49 i0 _ 1 underlying50 hi hz0 hz1 .i64 .i64 (m:Int) (m:Int) m rfl rfl rfl rfl (by rw [hz2];omega) (by unfold maxLen;omega) hB0.size ?_;intro w2 hown2 hgrow2))
  have hbl:(w.alloc (.cells #[.int .u64 0,.slice none 0 0] 52)).heap.size=w.heap.size+1:=by simp
  have hzz:Hid (w2.ownsRow w.heap.size 49 1 (.slice (some ⟨w.heap.size+1,0,none⟩) m m) m (dT (sK (fJ m) (List.replicate m 0) 0))):=by
   rw [H9,← hbl]
   have e:dT (List.replicate m 0)=List.replicate m (.int .u64 0):=by simp [dT]
   have e2:(madeCells (Value.int IntKind.u64 0).cells (m * 1)).toList=List.replicate m (.int .u64 0):=by
    rw [Nat.mul_one]
    apply List.ext_getElem
    ·simp [madeCells]
    ·intro i h1 h2
     simp [madeCells,Value.cells,Nat.mod_one]
   rw [e,← e2]
   exact hown2
  have U0:=Lib.hid ((hgrow2.block _ (Array.getElem?_eq_some_iff.1 T0.out).1 (by simp)).trans T0.out)
  have hB2:Below w.heap.size w w2:=hB0.grown hgrow2 hB0.size (fun j e=>by cases e)
  clear hown2
  go_wp2_with fail
  go_loopw [17] (fun i wr=>∃ k:Nat,k≤m∧i = .int .i64 k∧Hid (wr.ownsRow w.heap.size 49 1 (.slice (some ⟨w.heap.size+1,0,none⟩) m m) m (dT (sK (fJ m) (List.replicate m 0) k)))∧Hid (wr.heap[w.heap.size]?=some (.cells #[.int .u64 0,.slice none 0 0] 52 (0,0)))∧Below w.heap.size w wr) (fun i _=>m - (intOf i).toNat)
  case atStart=>exact ⟨0,Nat.zero_le _,rfl,hzz,U0,hB2⟩
  case round =>
   obtain ⟨k,hk,rfl,HO,HR,hb⟩:=hrel
   by_cases hlt:k < m
   ·have hsh:IntKind.u64.wrap ((2:Int) ^ k)=((2 ^ k:Nat):Int):=by
     have hpw:2 ^ k≤9223372036854775808:=rI (by omega)
     rw [IntKind.wrap_u64]
     have e:((2:Int) ^ k)=((2 ^ k:Nat):Int):=by simp
     rw [e]
     generalize 2 ^ k=q at *
     omega
    have hxk:(List.replicate m 0)[k]?=some 0:=by simp [hlt]
    have HM:=Lib.hid (Ki (vG hlt) hxk)
    obtain ⟨q,hq⟩:∃ q:Nat,2 ^ k=q:=⟨_,rfl⟩
    rw [hq] at hsh HM
    have q0:=HO.out.frozenAt k
    have d0:=(HO.out.cellAt k (by omega)).trans (Kp (mixL_at (by rw [gR];simp) hxk))
    have g0:(0:Int)≤(k:Int):=by omega
    have g3:(k:Int) < (m:Int):=by omega
    have HO2:Hid ((wr.setCell ⟨w.heap.size+1,k,none⟩ (.int .u64 (q:Int))).ownsRow w.heap.size 49 1 (.slice (some ⟨w.heap.size+1,0,none⟩) m m) m (dT (sK (fJ m) (List.replicate m 0) (k+1)))):=by
     rw [← HM.out,← Ko]
     exact (HO.out.stored k _).1
    have HR2:=Lib.hid (gI (B:=w.heap.size+1) (j:=k) (c:=.int .u64 (q:Int)) HR.out (by omega))
    have hb2:=hb.setCell (p:=⟨w.heap.size+1,k,none⟩) (by simp) (.int .u64 (q:Int))
    clear hxk hq
    go_wp2
    go_roundw
    case rel=>exact ⟨k+1,by omega,by go_num,HO2,HR2,hb2⟩
    case measure=>simp [intOf];omega
   ·obtain rfl:k=m:=by omega
    have HO2:Hid (wr.ownsRow w.heap.size 49 1 (.slice (some ⟨w.heap.size+1,0,none⟩) k k) k (dT ys)):=by
     have:=HO.out
     have e:sK (fJ k) (List.replicate k 0) k=fJ k:=by
      have:=Km (ys:=fJ k) (xs:=List.replicate k 0) (by rw [gR];simp)
      simpa using this
     rwa [e,HY.out] at this
    obtain ⟨r0,r1,rf⟩:=cA HR.out
    have rf0:=rf 0;have rf1:=rf 1
    have N1:=Lib.hid (gH (c:=.slice (some ⟨w.heap.size+1,0,none⟩) k k) (kT (c:=.int .u64 0) HR.out))
    obtain ⟨s0,s1,_⟩:=cA N1.out
    have HO5:=Lib.hid ((HO2.out.kept (fI _ _ 0 (.int .u64 0)) (.inr (iM HR.out (by decide) HO2.out).symm)).kept (fI _ w.heap.size 1 (.slice (some ⟨w.heap.size+1,0,none⟩) k k)) (.inr (iM HR.out (by decide) HO2.out).symm))
    have HB5:=Lib.hid ((hb.setCell (p:=⟨w.heap.size,0,none⟩) (Nat.le_refl _) (.int .u64 0)).setCell (p:=⟨w.heap.size,1,none⟩) (Nat.le_refl _) (.slice (some ⟨w.heap.size+1,0,none⟩) k k))
    clear rf
    go_wp2
    refine bodyPost_ret (v:=.tuple #[.agg #[.int .u64 0,.slice (some ⟨w.heap.size+1,0,none⟩) k k],.int .i64 0]) ?_ rfl (Cj (gen:=0) HO5.out HB5.out 0)
    simp [results,results85,go_sem,s0,s1]
theorem oneR_is (n:Int) (w:World) (e0:Int) (he:Ck n=e0) (ys:List Nat) (hys:oneV n=ys) :
  Calls prog 59 #[.int .i64 n] w (Ch 0 ys e0 w):=by
 have hB0:Below w.heap.size w (w.alloc (.cells #[.int .u64 0,.slice none 0 0] 52)):=(Below.refl _ _).alloc (Nat.le_refl _) _
 have T0:=Lib.hid (dF w (.cells #[.int .u64 0,.slice none 0 0] 52))
 obtain ⟨i0,hi,hz0,hz1,hz2⟩:=info_parts Bu
 cases hd:eI n
 ·obtain rfl:31=e0:=by rw [← he,Ck,hd];rfl
  obtain rfl:[]=ys:=by rw [← hys,oneV,hd];rfl
  have HD:=Lib.hid hd
  obtain ⟨d0,d1,df⟩:=cA T0.out
  have f0:=df 0;have f1:=df 1
  clear df hd he hys
  go_enter func59,ntmps59
  go_wp2_with fail
  refine (sG n false HD.out _).mono ?_
  rintro e w1 ⟨rfl,rfl⟩
  go_wp2
  refine bodyPost_ret (v:=.tuple #[.agg #[.int .u64 0,.slice none 0 0],.int .i64 31]) ?_ rfl (Ci 31 hB0)
  simp [results,results59,go_sem,d0,d1]
 ·have HD:=Lib.hid hd
  obtain ⟨m,rfl,hm⟩:=mU hd
  obtain rfl:0=e0:=by rw [← he,Ck,hd];rfl
  have HY:Hid (fJ m=ys):=by show _=_;rw [← hys,oneV,hd,if_pos rfl,Int.toNat_natCast]
  have HYL:Hid (ys.length=m):=by show _=_;rw [← HY.out,gR]
  clear hd he hys
  obtain ⟨t0,t1⟩:=oZ w #[.int .u64 0,.slice none 0 0] #[.int .u64 0,.slice none 0 0] 52
  have A0:=Lib.hid t0;have A1:=Lib.hid t1
  clear t0 t1
  go_enter func59,ntmps59
  go_wp2_with fail
  refine (sG m true HD.out _).mono ?_
  rintro e w1 ⟨rfl,rfl⟩
  go_wp2_with fail
  go_loopw [5] (fun i wr=>∃ (k:Nat) (v:Value),k≤m∧i = .int .i64 k∧Hid (wr.heap[w.heap.size]?=some (.cells #[.int .u64 0,.slice none 0 0] 52 (0,0)))∧Hid (wr.heap[w.heap.size+1]?=some (.cells #[.int .u64 0,v] 52 (0,0)))∧Hid (wr.ownsRow w.heap.size 49 1 v k (dT (ys.take k)))∧Below w.heap.size w wr) (fun i _=>m - (intOf i).toNat)
  case atStart=>exact ⟨0,.slice none 0 0,Nat.zero_le _,rfl,A0,A1,World.ownsRow_nil _ _ _ _,hB0.alloc (by simp) _⟩
  case round =>
   obtain ⟨k,v,hk,rfl,B1,B2,HO,hb⟩:=hrel
   obtain ⟨e0,e1,ef⟩:=cA B2.out
   have ef1:=ef 1
   by_cases hlt:k < m
   ·obtain ⟨y,hy⟩:∃ y:Nat,2 ^ k=y:=⟨_,rfl⟩
    have HYK:=Lib.hid hy
    have HT:Hid (ys.take (k+1)=ys.take k++[y]):=by
     show _=_
     have h2:ys[k]?=some y:=by rw [← HY.out,vG hlt,hy]
     obtain ⟨hk2,e⟩:=List.getElem?_eq_some_iff.1 h2
     rw [List.take_succ_eq_append_getElem hk2,e]
    have q1:(wr.alloc (.cells #[.int .u64 (y:Int)] 49)).cell? ⟨w.heap.size+1,1,none⟩=some v:=(cA (cO B2.out _)).2.1
    clear hy ef
    go_wp2_with fail
    go_region_law (first | (refine step_append_lies (wr.drew.alloc (.cells #[.int .u64 (y:Int)] 49)) ?_ (.tmp 17) (.tmp 20) 50 ?_ w.heap.size 49 i0 _ 1 8 underlying50 hi hz0 hz1 hz2 ?_ ?_ v k (dT (ys.take k)) ?_ ?_ ⟨wr.heap.size,0,none⟩ 1 1 [.int .u64 (y:Int)] ?_ ?_ ?_ ?_ ?_ ?_ ?_ ?_ (wr.heap.size+1) ?_ ?_;rfl;rfl;rfl;omega;rfl;exact (HO.out:(wr.drew).ownsRow _ _ _ _ _ _).alloc _;rfl;rfl;exact (World.news_of_block (cs:=#[.int .u64 (y:Int)]) (t:=49) (fr:=(0,0)) (dF wr.drew _));simp [Value.oneCell'];omega;(unfold maxLen;omega);omega;(have:=hb.size;simp;omega);simp;intro gg cp w5 hown1 hgrow hat hlt5;have hB4:Below w.heap.size w w5:=(hb.drew.alloc hb.size _).grown hgrow (by have:=hb.size;simp;omega) (fun j e=>(HO.out.lt j e).1);have D1:=Lib.hid (eK (cO (w:=wr.drew) B1.out (.cells #[.int .u64 (y:Int)] 49)) (by decide) ((HO.out:(wr.drew).ownsRow _ _ _ _ _ _).alloc _) hgrow);have D2:=Lib.hid (eK (cO (w:=wr.drew) B2.out (.cells #[.int .u64 (y:Int)] 49)) (by decide) ((HO.out:(wr.drew).ownsRow _ _ _ _ _ _).alloc _) hgrow);obtain ⟨_,d1,df⟩:=cA D2.out;have df1:=df 1;clear df) | (go_simp;go_at_call 60;refine (Bp k k y rfl HYK.out (by omega) _).mono ?_;rintro e w3 ⟨rfl,rfl⟩) | fail)
    all_goals
     have HO5:=Lib.hid (show (w5.setCell ⟨w.heap.size+1,1,none⟩ (.slice (some ⟨gg,0,none⟩) (k+1) cp)).ownsRow w.heap.size 49 1 (.slice (some ⟨gg,0,none⟩) (k+1) cp) (k+1) (dT (ys.take (k+1))) by
      rw [HT.out,oY];exact hown1.kept (fI w5 _ _ _) (.inr (iM D2.out (by decide) hown1).symm))
     have N1:=Lib.hid (gI (B:=w.heap.size+1) (j:=1) (c:=.slice (some ⟨gg,0,none⟩) (k+1) cp) D1.out (by omega))
     have N2:=Lib.hid (gH (c:=.slice (some ⟨gg,0,none⟩) (k+1) cp) D2.out)
     have NB:=Lib.hid (hB4.setCell (p:=⟨w.heap.size+1,1,none⟩) (by simp) (.slice (some ⟨gg,0,none⟩) (k+1) cp))
     clear hown1 hgrow hat d1 df1 q1 e0 e1 ef1
     go_wp2
     go_roundw
     case rel=>exact ⟨k+1,_,by omega,by go_num,N1,N2,HO5,NB.out⟩
     case measure=>simp [intOf];omega
   ·obtain rfl:k=m:=by omega
    obtain ⟨r0,r1,rf⟩:=cA B1.out
    have rf0:=rf 0;have rf1:=rf 1
    have HO2:Hid (wr.ownsRow w.heap.size 49 1 v k (dT ys)):=by
     have:=HO.out
     rwa [List.take_of_length_le (by rw [HYL.out];exact Nat.le_refl _)] at this
    obtain ⟨a3,cap3,hv3⟩:=Ia HO2.out
    subst hv3
    have N1:=Lib.hid (gH (c:=.slice a3 k cap3) (kT (c:=.int .u64 0) B1.out))
    obtain ⟨s0,s1,_⟩:=cA N1.out
    have HO5:=Lib.hid ((HO2.out.kept (fI _ _ 0 (.int .u64 0)) (.inr (iM B1.out (by decide) HO2.out).symm)).kept (fI _ w.heap.size 1 (.slice a3 k cap3)) (.inr (iM B1.out (by decide) HO2.out).symm))
    have HB5:=Lib.hid ((hb.setCell (p:=⟨w.heap.size,0,none⟩) (Nat.le_refl _) (.int .u64 0)).setCell (p:=⟨w.heap.size,1,none⟩) (Nat.le_refl _) (.slice a3 k cap3))
    clear rf ef
    go_wp2
    refine bodyPost_ret (v:=.tuple #[.agg #[.int .u64 0,.slice a3 k cap3],.int .i64 0]) ?_ rfl (Cj (gen:=0) HO5.out HB5.out 0)
    simp [results,results59,go_sem,s0,s1]
theorem zZ {a:Int} (h:(Lit.int .u64 a).wf=true):∃ n:Nat,a=n∧n < 18446744073709551616:=by
 simp only [Lit.wf,IntKind.min,IntKind.max,IntKind.signed,IntKind.bits,Bool.and_eq_true,decide_eq_true_eq] at h
 simp at h
 exact ⟨a.toNat,by omega,by omega⟩
theorem Ic (g:Nat) (zs:List Nat):rK g zs g zs=true:=by simp [rK]
theorem mem_iff {s i:Nat}:i∈mem s↔i < 64∧s.testBit i=true:=⟨fun h=>⟨mem_lt h,mem_bit h⟩,fun h=>Ek h.1 h.2⟩
theorem Gv (rows:List Nat) (j:Nat):∀ (l:List Nat) (g:Nat),(rM rows g l).testBit j=true↔g.testBit j=true∨∃ i∈l,(rows.getD i 0).testBit j=true
 | [],g=>by simp [rM]
 | x::l,g=>by
  have:=Gv rows j l (g ||| rows.getD x 0)
  rw [show rM rows g (x::l)=rM rows (g ||| rows.getD x 0) l from rfl,this,Nat.testBit_or,Bool.or_eq_true]
  simp only [List.mem_cons,exists_eq_or_imp]
  exact or_assoc
theorem eL {g s j:Nat} {rows:List Nat}:(madeF g rows s).testBit j=true↔g.testBit j=true∨∃ i,(i < 64∧s.testBit i=true)∧(rows.getD i 0).testBit j=true:=by
 rw [madeF,Gv]
 simp only [mem_iff]
theorem pE {a b:Nat} (h:∀ j,a.testBit j=true↔b.testBit j=true):a=b:=by
 apply Nat.eq_of_testBit_eq
 intro j
 rw [Bool.eq_iff_iff];exact h j
theorem Cm {a b j:Nat} (ha:a < 18446744073709551616) (hb:b < 18446744073709551616):(andn a b).testBit j=true↔a.testBit j=true∧¬ b.testBit j=true:=by
 rw [rJ ha hb];simp
theorem Gw {rows:List Nat} (h:∀ r∈rows,r < 18446744073709551616) (i:Nat):rows.getD i 0 < 18446744073709551616:=by
 rw [List.getD_eq_getElem?_getD]
 cases hx:rows[i]? with
 | none=>simp
 | some y=>exact h y (List.mem_of_getElem? hx)
theorem vH {g:Nat} {rows:List Nat} (i:Nat):(eW g rows).getD i 0=andn (rows.getD i 0) g:=by
 rw [List.getD_eq_getElem?_getD,List.getD_eq_getElem?_getD,eW,List.getElem?_map]
 cases rows[i]?<;>simp [andn]
theorem Aa {xs ys:List Nat} (hl:ys.length=xs.length) (i:Nat):(orL xs ys).getD i 0=xs.getD i 0 ||| ys.getD i 0:=by
 rw [List.getD_eq_getElem?_getD,List.getD_eq_getElem?_getD,List.getD_eq_getElem?_getD,orL,List.getElem?_zipWith]
 rcases Nat.lt_or_ge i xs.length with h | h
 ·rw [List.getElem?_eq_getElem h,List.getElem?_eq_getElem (by omega)];simp
 ·rw [List.getElem?_eq_none h,List.getElem?_eq_none (by omega)];simp
theorem vI {g:Nat} {rows:List Nat} (hg:g < 18446744073709551616) (hr:∀ r∈rows,r < 18446744073709551616) (s:Nat):madeF g (eW g rows) s=madeF g rows s:=by
 apply pE;intro j
 rw [eL,eL]
 constructor
 ·rintro (h | ⟨i,hi,h⟩)
  ·exact .inl h
  ·rw [vH,Cm (Gw hr i) hg] at h
   exact .inr ⟨i,hi,h.1⟩
 ·rintro (h | ⟨i,hi,h⟩)
  ·exact .inl h
  ·by_cases hj:g.testBit j=true
   ·exact .inl hj
   ·exact .inr ⟨i,hi,by rw [vH,Cm (Gw hr i) hg];exact ⟨h,hj⟩⟩
theorem made_or {ga gb:Nat} {xs ys:List Nat} (hl:ys.length=xs.length) (s:Nat):madeF (ga ||| gb) (orL xs ys) s=madeF ga xs s ||| madeF gb ys s:=by
 apply pE;intro j
 rw [Nat.testBit_or,Bool.or_eq_true,eL,eL,eL,Nat.testBit_or,Bool.or_eq_true]
 constructor
 ·rintro ((h | h) | ⟨i,hi,h⟩)
  ·exact .inl (.inl h)
  ·exact .inr (.inl h)
  ·rw [Aa hl,Nat.testBit_or,Bool.or_eq_true] at h
   rcases h with h | h
   ·exact .inl (.inr ⟨i,hi,h⟩)
   ·exact .inr (.inr ⟨i,hi,h⟩)
 ·rintro ((h | ⟨i,hi,h⟩) | (h | ⟨i,hi,h⟩))
  ·exact .inl (.inl h)
  ·exact .inr ⟨i,hi,by rw [Aa hl,Nat.testBit_or,Bool.or_eq_true];exact .inl h⟩
  ·exact .inl (.inr h)
  ·exact .inr ⟨i,hi,by rw [Aa hl,Nat.testBit_or,Bool.or_eq_true];exact .inr h⟩
theorem Cn {f:Nat→Nat} {xs:List Nat} (i:Nat):(xs.map f).getD i 0=if i < xs.length then f (xs.getD i 0) else 0:=by
 rw [List.getD_eq_getElem?_getD,List.getD_eq_getElem?_getD,List.getElem?_map]
 split
 ·rename_i h;rw [List.getElem?_eq_getElem h];rfl
 ·rename_i h;rw [List.getElem?_eq_none (by omega)];rfl
theorem Id {ga gb:Nat} {xs ys:List Nat} (s:Nat):madeF (madeF gb ys ga) (xs.map (madeF gb ys)) s=madeF gb ys (madeF ga xs s):=by
 apply pE;intro j
 rw [eL,eL,eL]
 simp only [eL]
 constructor
 ·rintro ((h | ⟨k,⟨hk,hk2⟩,h⟩) | ⟨i,hi,h⟩)
  ·exact .inl h
  ·exact .inr ⟨k,⟨hk,.inl hk2⟩,h⟩
  ·rw [Cn] at h
   split at h
   ·rw [eL] at h
    rcases h with h | ⟨k,⟨hk,hk2⟩,h⟩
    ·exact .inl h
    ·exact .inr ⟨k,⟨hk,.inr ⟨i,hi,hk2⟩⟩,h⟩
   ·simp at h
 ·rintro (h | ⟨k,⟨hk,(hk2 | ⟨i,hi,hk2⟩)⟩,h⟩)
  ·exact .inl (.inl h)
  ·exact .inl (.inr ⟨k,⟨hk,hk2⟩,h⟩)
  ·refine .inr ⟨i,hi,?_⟩
   rw [Cn]
   split
   ·rw [eL];exact .inr ⟨k,⟨hk,hk2⟩,h⟩
   ·rename_i hn
    rw [List.getD_eq_getElem?_getD,List.getElem?_eq_none (by omega)] at hk2
    simp at hk2
structure Good (m:Nat) (g:Nat) (rows:List Nat):Prop where
 hm:m≤64
 hl:rows.length=m
 hg:g < 2 ^ m
 hr:∀ r∈rows,r < 2 ^ m
 hc:∀ r∈rows,r &&& g=0
theorem Good.g64 {m g:Nat} {rows:List Nat} (h:Good m g rows):g < 18446744073709551616:=Nat.lt_of_lt_of_le h.hg (kQ h.hm)
theorem Good.r64 {m g:Nat} {rows:List Nat} (h:Good m g rows):∀ r∈rows,r < 18446744073709551616:=fun r hr=>Nat.lt_of_lt_of_le (h.hr r hr) (kQ h.hm)
theorem qL {m g:Nat} {rows:List Nat} (h:Good m g rows):dW m g rows=0:=by
 have hd:eI m=true:=by simp [eI];have:=h.hm;omega
 have h1:eF m g rows=true:=by
  unfold eF
  simp only [Bool.and_eq_true,decide_eq_true_eq,List.all_eq_true]
  exact ⟨h.hl,(kS h.hm h.g64).2 h.hg,fun r hr=>(kS h.hm (h.r64 r hr)).2 (h.hr r hr)⟩
 have h2:jC g rows=true:=by
  unfold jC
  rw [List.all_eq_true]
  intro r hr
  have:=h.hc r hr
  simp [this]
 unfold dW
 rw [if_pos hd,Int.toNat_natCast,h1,h2];rfl
theorem El {n:Int} {g:Nat} {rows:List Nat} (hg:g < 18446744073709551616) (hr:∀ r∈rows,r < 18446744073709551616) (h:dW n g rows=0):∃ m:Nat,n=m∧Good m g rows:=by
 obtain ⟨hd,hs,hc⟩:=pD h
 obtain ⟨m,rfl,hm⟩:=mU hd
 rw [Int.toNat_natCast] at hs
 obtain ⟨hl,ig,ir⟩:=mZ hs
 unfold jC at hc
 rw [List.all_eq_true] at hc
 exact ⟨m,rfl,hm,hl,(kS hm hg).1 ig,fun r h=>(kS hm (hr r h)).1 (ir r h),fun r h=>by simpa using hc r h⟩
theorem vJ {m g:Nat} {rows:List Nat} (hm:m≤64) (hl:rows.length=m) (hg:g < 2 ^ m) (hr:∀ r∈rows,r < 2 ^ m):Good m g (eW g rows) where
 hm:=hm
 hl:=by rw [lP,hl]
 hg:=hg
 hr:=fun r h=>by
  obtain ⟨x,hx,rfl⟩:=List.mem_map.1 h
  exact Nat.lt_of_le_of_lt Nat.and_le_left (hr x hx)
 hc:=fun r h=>by
  obtain ⟨x,hx,rfl⟩:=List.mem_map.1 h
  have h1:=Nat.lt_of_lt_of_le (hr x hx) (kQ hm)
  have h2:=Nat.lt_of_lt_of_le hg (kQ hm)
  apply Nat.eq_of_testBit_eq
  intro j
  rw [Nat.testBit_and,rJ h1 h2,Nat.zero_testBit]
  cases x.testBit j<;>cases g.testBit j<;>rfl
theorem xO {m:Nat} {rows:List Nat} (hr:∀ r∈rows,r < 2 ^ m):∀ (l:List Nat) (g:Nat),g < 2 ^ m→rM rows g l < 2 ^ m
 | [],g,h=>h
 | x::l,g,h=>by
  have:rows.getD x 0 < 2 ^ m:=by
   rw [List.getD_eq_getElem?_getD]
   cases hx:rows[x]? with
   | none=>exact Nat.two_pow_pos m
   | some y=>exact hr y (List.mem_of_getElem? hx)
  exact xO hr l _ (Nat.or_lt_two_pow h this)
theorem Good.made {m g:Nat} {rows:List Nat} (h:Good m g rows) (s:Nat):madeF g rows s < 2 ^ m:=xO h.hr _ _ h.hg
theorem Good.comb {m ga gb:Nat} {xs ys:List Nat} (ha:Good m ga xs) (hb:Good m gb ys):Good m (ga ||| gb) (eW (ga ||| gb) (orL xs ys)) :=
 vJ ha.hm (by rw [Gu (by rw [ha.hl,hb.hl]),ha.hl]) (Nat.or_lt_two_pow ha.hg hb.hg) (fun r hr=>by
  obtain ⟨i,hi⟩:=List.getElem?_of_mem hr
  unfold orL at hi
  rw [List.getElem?_zipWith] at hi
  cases h1:xs[i]? with
  | none=>rw [h1] at hi;simp at hi
  | some a =>
   cases h2:ys[i]? with
   | none=>rw [h1,h2] at hi;simp at hi
   | some b =>
    rw [h1,h2] at hi
    have:a ||| b=r:=by simpa using hi
    rw [← this]
    exact Nat.or_lt_two_pow (ha.hr a (List.mem_of_getElem? h1)) (hb.hr b (List.mem_of_getElem? h2)))
theorem Good.ext {m ga gb:Nat} {xs ys:List Nat} (ha:Good m ga xs) (hb:Good m gb ys):Good m (madeF gb ys ga) (eW (madeF gb ys ga) (xs.map (madeF gb ys))) :=
 vJ ha.hm (by rw [List.length_map,ha.hl]) (hb.made ga) (fun r hr=>by
  obtain ⟨x,_,rfl⟩:=List.mem_map.1 hr
  exact hb.made x)
theorem pG {m ga gb:Nat} {xs ys:List Nat} (ha:Good m ga xs) (hb:Good m gb ys):lJ m ga xs gb ys=0:=by
 rw [lJ,if_pos (qL ha)];exact qL hb
theorem vK {m ga gb:Nat} {xs ys:List Nat} (ha:Good m ga xs) (hb:Good m gb ys):oF m ga xs gb ys=ga ||| gb:=by rw [oF,if_pos (pG ha hb)]
theorem vL {m ga gb:Nat} {xs ys:List Nat} (ha:Good m ga xs) (hb:Good m gb ys):nN m ga xs gb ys=eW (ga ||| gb) (orL xs ys):=by rw [nN,if_pos (pG ha hb)]
theorem xP {m ga gb:Nat} {xs ys:List Nat} (ha:Good m ga xs) (hb:Good m gb ys):tY m ga xs gb ys=madeF gb ys ga:=by rw [tY,if_pos (pG ha hb)]
theorem xQ {m ga gb:Nat} {xs ys:List Nat} (ha:Good m ga xs) (hb:Good m gb ys):sL m ga xs gb ys=eW (madeF gb ys ga) (xs.map (madeF gb ys)):=by rw [sL,if_pos (pG ha hb)]
theorem Good.combT {m ga gb:Nat} {xs ys:List Nat} (ha:Good m ga xs) (hb:Good m gb ys):Good m (oF m ga xs gb ys) (nN m ga xs gb ys):=by rw [vK ha hb,vL ha hb];exact ha.comb hb
theorem Good.extT {m ga gb:Nat} {xs ys:List Nat} (ha:Good m ga xs) (hb:Good m gb ys):Good m (tY m ga xs gb ys) (sL m ga xs gb ys):=by rw [xP ha hb,xQ ha hb];exact ha.ext hb
theorem Ie {m ga gb:Nat} {xs ys:List Nat} (ha:Good m ga xs) (hb:Good m gb ys) (s:Nat):madeF (oF m ga xs gb ys) (nN m ga xs gb ys) s=madeF ga xs s ||| madeF gb ys s:=by
 rw [vK ha hb,vL ha hb,vI (Kt ha.g64 hb.g64) (Kv ha.r64 hb.r64),made_or (by rw [ha.hl,hb.hl])]
theorem Co {m ga gb:Nat} {xs ys:List Nat} (ha:Good m ga xs) (hb:Good m gb ys) (s:Nat):madeF (tY m ga xs gb ys) (sL m ga xs gb ys) s=madeF gb ys (madeF ga xs s):=by
 rw [xP ha hb,xQ ha hb,vI (rN hb.r64 hb.g64) (fun r hr=>by obtain ⟨x,_,rfl⟩:=List.mem_map.1 hr;exact rN hb.r64 hb.g64),Id]
theorem xR (g:Nat) (rows:List Nat):madeF g rows 0=g:=by rw [madeF,J6];rfl
theorem Cp {m g:Nat} {rows:List Nat} (h:Good m g rows) {i r:Nat} (hi:rows[i]?=some r):madeF g rows (2 ^ i)=g ||| r:=by
 have hil:=(List.getElem?_eq_some_iff.1 hi).1
 have hi64:i < 64:=by have:=h.hl;have:=h.hm;omega
 apply pE;intro j
 rw [eL,Nat.testBit_or,Bool.or_eq_true]
 constructor
 ·rintro (h1 | ⟨k,⟨hk,h2⟩,h3⟩)
  ·exact .inl h1
  ·rw [Nat.testBit_two_pow] at h2
   have e:i=k:=by simpa using h2
   subst e
   rw [List.getD_eq_getElem?_getD,hi] at h3
   exact .inr h3
 ·rintro (h1 | h1)
  ·exact .inl h1
  ·exact .inr ⟨i,⟨hi64,by rw [Nat.testBit_two_pow];simp⟩,by rw [List.getD_eq_getElem?_getD,hi];exact h1⟩
theorem vM {m g h:Nat} {xs ys:List Nat} (hx:Good m g xs) (hy:Good m h ys) (e:∀ s,madeF g xs s=madeF h ys s):g=h∧xs=ys:=by
 have e0:=e 0
 rw [xR,xR] at e0
 subst e0
 refine ⟨rfl,vD (by rw [hx.hl,hy.hl]) fun i x y hi hj=>?_⟩
 have e1:=e (2 ^ i)
 rw [Cp hx hi,Cp hy hj] at e1
 have c1:=hx.hc x (List.mem_of_getElem? hi)
 have c2:=hy.hc y (List.mem_of_getElem? hj)
 apply Nat.eq_of_testBit_eq
 intro j
 have b1:=congrArg (fun n=>n.testBit j) e1
 have b2:=congrArg (fun n=>n.testBit j) c1
 have b3:=congrArg (fun n=>n.testBit j) c2
 simp only [Nat.testBit_or,Nat.testBit_and,Nat.zero_testBit] at b1 b2 b3
 cases h1:x.testBit j<;>cases h2:y.testBit j<;>cases h3:g.testBit j<;>simp_all
theorem Kz {m i j:Nat}:((fJ m).getD i 0).testBit j=true↔i < m∧i=j:=by
 rw [List.getD_eq_getElem?_getD]
 rcases Nat.lt_or_ge i m with h | h
 ·rw [vG h]
  simp only [Option.getD_some,Nat.testBit_two_pow,decide_eq_true_eq]
  exact ⟨fun e=>⟨h,e⟩,fun e=>e.2⟩
 ·rw [List.getElem?_eq_none (by rw [gR];exact h)]
  simp only [Option.getD_none,Nat.zero_testBit]
  exact ⟨fun e=>(Bool.false_ne_true e).elim,fun e=>(by omega)⟩
theorem xS {m s:Nat} (hm:m≤64) (hs:s < 2 ^ m):madeF 0 (fJ m) s=s:=by
 apply pE;intro j
 rw [eL]
 simp only [Kz,Nat.zero_testBit]
 constructor
 ·rintro (h | ⟨i,⟨_,h2⟩,_,rfl⟩)
  ·cases h
  ·exact h2
 ·intro h
  have hj:j < m:=by
   rcases Nat.lt_or_ge j m with h1 | h1
   ·exact h1
   ·rw [Nat.testBit_lt_two_pow (Nat.lt_of_lt_of_le hs (Nat.pow_le_pow_right (by omega) h1))] at h;cases h
  exact .inr ⟨j,⟨by omega,h⟩,hj,rfl⟩
theorem jD {m:Nat} (hm:m≤64):Good m 0 (fJ m) where
 hm:=hm
 hl:=gR m
 hg:=Nat.two_pow_pos m
 hr:=fun r hr=>by
  obtain ⟨i,hi,rfl⟩:=List.mem_map.1 hr
  exact Nat.pow_lt_pow_right (by omega) (List.mem_range.1 hi)
 hc:=fun r _=>Nat.and_zero r
theorem rO {m:Nat} (hm:m≤64):Ck m=0∧oneV m=fJ m:=by
 have hd:eI m=true:=by simp [eI];omega
 exact ⟨by rw [Ck,if_pos hd],by rw [oneV,if_pos hd,Int.toNat_natCast]⟩
section
variable {m ga gb gc:Nat} {xs ys zs:List Nat}
theorem xT (a:Good m ga xs):oF m ga xs ga xs=ga∧nN m ga xs ga xs=xs :=
 vM (a.combT a) a fun s=>by rw [Ie a a,Nat.or_self]
theorem Gx {m s:Nat} (hm:m≤64) (g:Nat) (rows:List Nat) (hl:rows.length=m):madeF g rows s=madeF g rows (s % 2 ^ m):=by
 apply pE;intro j
 rw [eL,eL]
 constructor
 ·rintro (h | ⟨i,⟨hi,h2⟩,h3⟩)
  ·exact .inl h
  ·have him:i < m:=by
    rcases Nat.lt_or_ge i m with h1 | h1
    ·exact h1
    ·rw [List.getD_eq_getElem?_getD,List.getElem?_eq_none (by omega)] at h3;simp at h3
   exact .inr ⟨i,⟨hi,by rw [Nat.testBit_mod_two_pow];simp [him,h2]⟩,h3⟩
 ·rintro (h | ⟨i,⟨hi,h2⟩,h3⟩)
  ·exact .inl h
  ·rw [Nat.testBit_mod_two_pow,Bool.and_eq_true] at h2
   exact .inr ⟨i,⟨hi,h2.2⟩,h3⟩
theorem xU (a:Good m ga xs):tY m 0 (fJ m) ga xs=ga∧sL m 0 (fJ m) ga xs=xs :=
 vM ((jD a.hm).extT a) a fun s=>by
  rw [Co (jD a.hm) a,Gx a.hm 0 (fJ m) (gR m),xS a.hm (Nat.mod_lt _ (Nat.two_pow_pos m)),← Gx a.hm ga xs a.hl]
theorem xV (a:Good m ga xs):tY m ga xs 0 (fJ m)=ga∧sL m ga xs 0 (fJ m)=xs :=
 vM (a.extT (jD a.hm)) a fun s=>by rw [Co a (jD a.hm),xS a.hm (a.made s)]
end
def Ab (c:Cl):List Value:=[.int .u64 (c.f:Int),.int .i64 c.k,.int .i64 c.v]
def jE (cs:List Cl):List Value:=cs.flatMap Ab
theorem tG (cs:List Cl):(jE cs).length=cs.length * 3:=by
 induction cs with
 | nil=>rfl
 | cons c r ih=>simp [jE,Ab] at ih ⊢;omega
theorem mC (c:Cl) (r:List Cl):jE (c::r)=Ab c++jE r:=by simp [jE]
theorem xW (cs:List Cl) (c:Cl):jE (cs++[c])=jE cs++Ab c:=by simp [jE]
theorem uJ:∀ {cs:List Cl} {i:Nat} {c:Cl},cs[i]?=some c→(jE cs)[i * 3]?=some (.int .u64 (c.f:Int))∧(jE cs)[i * 3+1]?=some (.int .i64 c.k)∧(jE cs)[i * 3+2]?=some (.int .i64 c.v)
 | [],i,c,h=>by simp at h
 | x::r,0,c,h=>by
  simp at h;subst h
  simp [mC,Ab]
 | x::r,i+1,c,h=>by
  simp at h
  have ih:=uJ (cs:=r) (i:=i) h
  have e0:(i+1) * 3=i * 3+3:=by omega
  have e1:(i+1) * 3+1=(i * 3+1)+3:=by omega
  have e2:(i+1) * 3+2=(i * 3+2)+3:=by omega
  rw [e1,e2,e0,mC]
  simp only [Ab,List.cons_append,List.nil_append,List.getElem?_cons_succ]
  exact ih
theorem gJ {w:World} {base:Nat} {E:Nat} {v:Value} {n:Nat} {cs:List Cl} (h:w.ownsRow base E 3 v n (jE cs)) :
  n=cs.length∧∃ a cap,v = .slice a n cap∧lS w a cs∧∀ ad,a=some ad→base≤ad.block∧ad.off=0∧ad.block < w.heap.size:=by
 have hl:=h.1
 rw [tG] at hl
 have hn:n=cs.length:=by omega
 refine ⟨hn,?_⟩
 rcases h.2 with ⟨rfl,h0⟩ | ⟨g,cap,cur,rfl,hg,hh,hnc,hcm,hcs,ht⟩
 ·subst h0
  have:cs=[]:=List.length_eq_zero_iff.1 hn.symm
  exact ⟨none,0,rfl,.inl this,fun ad e=>by cases e⟩
 ·refine ⟨some ⟨g,0,none⟩,cap,rfl,.inr ⟨g,0,rfl,fun i c hi=>?_⟩,fun ad e=>by cases e;exact ⟨hg,rfl,(Array.getElem?_eq_some_iff.1 hh).1⟩⟩
  obtain ⟨f0,f1,f2⟩:=uJ hi
  have hi2:i < cs.length:=(List.getElem?_eq_some_iff.1 hi).1
  have c0:=h.cellAt (i * 3) (by omega)
  have c1:=h.cellAt (i * 3+1) (by omega)
  have c2:=h.cellAt (i * 3+2) (by omega)
  rw [Nat.zero_add]
  exact ⟨c0.trans f0,c1.trans f1,c2.trans f2⟩
def rP (cs:List Cl) (err:Int) (w:World) (e:Ending) (w':World):Prop :=
 ∃ a cap,e = .returned (.tuple #[.slice a cs.length cap,.int .i64 err])∧lS w' a cs∧(∀ ad,a=some ad→w.heap.size≤ad.block∧ad.block < w'.heap.size)∧Below w.heap.size w w'
theorem Ac (err:Int) {w w':World} (hb:Below w.heap.size w w'):rP [] err w (.returned (.tuple #[.slice none 0 0,.int .i64 err])) w' :=
 ⟨none,0,rfl,.inl rfl,(fun ad e=>by cases e),hb⟩
def If (cs:List Cl) (w:World) (e:Ending) (w':World):Prop :=
 ∃ v,e = .returned v∧w'.ownsRow w.heap.size 89 3 v cs.length (jE cs)∧Below w.heap.size w w'
theorem infoC:(prog.info? 89).map (fun i=>(i.zero,i.size,i.bytes))=some (some (.agg #[.int .u64 0,.int .i64 0,.int .i64 0]),3,24):=by kernel_rfl
def iY (xs ys:List Cl):List Cl:=List.zipWith join xs ys
theorem xX {d:Int} {cs:List Cl} (h:oD d cs=0):0≤d∧d≤64∧(cs.length:Int)=d∧cs.all (mA d.toNat)=true:=by
 unfold oD at h
 split at h
 ·omega
 ·split at h
  ·omega
  ·cases hz:cs.all (mA d.toNat)<;>rw [hz] at h<;>simp at h
   exact ⟨by omega,by omega,by omega,rfl⟩
def oG (x y:Cl):Bool:=decide (x.f=y.f) && decide (x.k=y.k) && decide (x.v=y.v)
theorem Ad (f f2:Nat) (k k2 v v2:Int) (w:World) :
  (binOp .neq 89 (.agg #[.int .u64 (f:Int),.int .i64 k,.int .i64 v]) (.agg #[.int .u64 (f2:Int),.int .i64 k2,.int .i64 v2])).run prog w = .ok (.bool (!oG ⟨f,k,v⟩ ⟨f2,k2,v2⟩)) w:=by
 by_cases h1:f=f2
 ·subst h1
  by_cases h2:k=k2
  ·subst h2
   by_cases h3:v=v2
   ·subst h3
    simp [oG,go_sem]
   ·have h3':(v == v2)=false:=by simp [h3]
    simp [oG,go_sem,h3]
  ·simp [oG,go_sem,h2]
 ·simp [oG,go_sem,h1]
  intro h;omega
theorem neq_is (x y:Cl) (s:Bool) (h:oG x y=s) (w:World):(binOp .neq 89 x.val y.val).run prog w = .ok (.bool (!s)) w:=by
 subst h;exact Ad _ _ _ _ _ _ w
def qM (row:List Cl) (c:Cl) (out:Cl) (i:Nat):Cl:=if c.f.testBit i then (match row[i]? with | some a=>join out a | none=>out) else out
def lC (row:List Cl) (c:Cl) (n:Nat):Cl:=(List.range n).foldl (qM row c) ⟨0,c.k,c.v⟩
def ofC (row:List Cl) (c:Cl):Cl:=lC row c row.length
theorem mD (row:List Cl) (c:Cl) (n:Nat):lC row c (n+1)=qM row c (lC row c n) n:=by
 simp [lC,List.range_succ]
theorem Cq {row:List Cl} {c x:Cl} {n:Nat} (hb:c.f.testBit n=true) (hx:row[n]?=some x):lC row c (n+1)=join (lC row c n) x:=by
 rw [mD,qM,if_pos hb,hx]
theorem Ae {row:List Cl} {c:Cl} {n:Nat} (hb:c.f.testBit n=false):lC row c (n+1)=lC row c n:=by
 rw [mD,qM,if_neg (by rw [hb];simp)]
theorem xY {row:List Cl} {c:Cl} {k:Nat}:∀ {n:Nat},k≤n→(∀ i,k≤i→i < n→c.f.testBit i=false)→lC row c n=lC row c k
 | 0,h,_=>by
  obtain rfl:k=0:=by omega
  rfl
 | n+1,h,hb=>by
  by_cases e:k=n+1
  ·subst e;rfl
  ·rw [Ae (hb n (by omega) (by omega))]
   exact xY (by omega) (fun i h1 h2=>hb i h1 (by omega))
theorem tH {f:Nat} {k v:Int} (h:dL f k v=true):dL 0 k v=true:=by
 unfold dL at *
 split
 ·rw [if_pos (by assumption)] at h;exact h
 ·rw [if_neg (by assumption)] at h
  split
  ·rfl
  ·rw [if_neg (by assumption)] at h
   split
   ·rw [if_pos (by assumption)] at h;simp at h ⊢;exact h.1
   ·rw [if_neg (by assumption)] at h;cases h
theorem Gy {a b:Cl} (ha:a.ok) (hb:b.ok):(join a b).ok:=by
 obtain ⟨f,k,v⟩:=a
 obtain ⟨f2,k2,v2⟩:=b
 obtain ⟨hf,hk⟩:=ha
 obtain ⟨hf2,hk2⟩:=hb
 simp only at hf hk hf2 hk2
 have hor:f ||| f2 < 18446744073709551616:=Nat.or_lt_two_pow (n:=64) hf hf2
 refine ⟨?_,?_⟩
 ·show (if joinK k v k2 v2=2 then 0 else f ||| f2) < _
  split<;>omega
 ·show dL (if joinK k v k2 v2=2 then 0 else f ||| f2) (joinK k v k2 v2) (iP k v k2 v2)=true
  rcases mY hk with ⟨rfl,rfl⟩ | rfl | ⟨rfl,rfl⟩<;>rcases mY hk2 with ⟨rfl,rfl⟩ | rfl | ⟨rfl,rfl⟩
  all_goals (try (simp [joinK,iP,dL];done))
  by_cases hv:v=v2<;>simp [joinK,iP,dL,hv]
theorem uK {row:List Cl} {c:Cl} (hc:c.ok) (hr:∀ (i:Nat) x,row[i]?=some x→x.ok):∀ n,(lC row c n).ok
 | 0=>⟨by simp [lC],tH hc.2⟩
 | n+1=>by
  rw [mD,qM]
  split
  ·split
   ·rename_i a h;exact Gy (uK hc hr n) (hr n a h)
   ·exact uK hc hr n
  ·exact uK hc hr n
def iE (xs ys:List Cl):List Cl:=ys.map (ofC xs)
def z0:Cl:=⟨0,0,0⟩
theorem Ig (n:Nat):(madeCells (Value.agg #[.int .u64 0,.int .i64 0,.int .i64 0]).cells (n * 3)).toList=jE (List.replicate n z0):=by
 have hc:(Value.agg #[.int .u64 0,.int .i64 0,.int .i64 0]).cells=#[.int .u64 0,.int .i64 0,.int .i64 0]:=rfl
 rw [hc]
 apply List.ext_getElem?
 intro j
 by_cases hj:j < n * 3
 ·have e:(List.replicate n z0)[j / 3]?=some z0:=by rw [List.getElem?_replicate,if_pos (by omega)]
  obtain ⟨f0,f1,f2⟩:=uJ e
  have hr:j % 3=0∨j % 3=1∨j % 3=2:=by omega
  have hlt:j < (madeCells #[Value.int .u64 0,.int .i64 0,.int .i64 0] (n * 3)).toList.length:=by simp [madeCells];exact hj
  rcases hr with h | h | h
  ·have ej:j=j / 3 * 3:=by omega
   rw [← ej] at f0
   rw [f0,List.getElem?_eq_getElem hlt]
   simp [madeCells,h,z0]
  ·have ej:j=j / 3 * 3+1:=by omega
   rw [← ej] at f1
   rw [f1,List.getElem?_eq_getElem hlt]
   simp [madeCells,h,z0]
  ·have ej:j=j / 3 * 3+2:=by omega
   rw [← ej] at f2
   rw [f2,List.getElem?_eq_getElem hlt]
   simp [madeCells,h,z0]
 ·rw [List.getElem?_eq_none (by simp [madeCells];omega),List.getElem?_eq_none (by rw [tG];simp;omega)]
theorem Ih {full:List Cl} {n k:Nat} {z:Cl} (hl:full.length=n) (hz:full[k]?=some z):(full.take k++List.replicate (n - k) z0).set k z=full.take (k+1)++List.replicate (n - (k+1)) z0:=by
 obtain ⟨hk,ex⟩:=List.getElem?_eq_some_iff.1 hz
 have hl2:(full.take k).length=k:=by simp;omega
 rw [List.set_append_right _ _ (by omega),hl2,Nat.sub_self,show n - k=(n - (k+1))+1 by omega,List.replicate_succ,List.set_cons_zero,List.take_succ_eq_append_getElem hk,List.append_assoc,ex]
 rfl
theorem fill_at {full:List Cl} {n k:Nat} (hl:full.length=n) (hk:k < n):(full.take k++List.replicate (n - k) z0)[k]?=some z0:=by
 have hl2:(full.take k).length=k:=by simp;omega
 rw [List.getElem?_append_right (by omega),hl2,Nat.sub_self,List.getElem?_replicate,if_pos (by omega)]
def lK (k:Nat):Cl:=⟨2 ^ k,0,0⟩
def eM (n:Nat):List Cl:=(List.range n).map lK
def vN (d:Int):List Cl:=if nU d=0 then eM d.toNat else []
theorem gK (n:Nat):(eM n).length=n:=by simp [eM]
theorem rQ {n k:Nat} (hk:k < n):(eM n)[k]?=some (lK k):=by
 simp [eM,List.getElem?_range hk]
theorem Ii {n k:Nat} (hk:k < n):(eM n).take (k+1)=(eM n).take k++[lK k]:=by
 obtain ⟨h,e⟩:=List.getElem?_eq_some_iff.1 (rQ hk)
 rw [List.take_succ_eq_append_getElem h,e]
theorem pow_u64 {k:Nat} (hk:k < 64):IntKind.u64.wrap (2 ^ k:Int)=((2 ^ k:Nat):Int):=by
 have h:2 ^ k < 18446744073709551616:=Nat.lt_of_lt_of_le (Nat.pow_lt_pow_right (by decide) hk) (by decide)
 have e:(2 ^ k:Int)=((2 ^ k:Nat):Int):=by simp
 rw [e]
 generalize 2 ^ k=q at h
 simp [IntKind.wrap,IntKind.signed,IntKind.bits]
 omega
theorem xZ:∀ (cs:List Cl) (i:Nat) (f f':Nat),cs[i]?=some ⟨f,0,0⟩→(jE cs).set (i * 3) (.int .u64 (f':Int))=jE (cs.set i ⟨f',0,0⟩)
 | [],i,f,f',h=>by simp at h
 | x::r,0,f,f',h=>by
  simp at h;subst h
  simp [mC,Ab]
 | x::r,i+1,f,f',h=>by
  have ih:=xZ r i f f' (by simpa using h)
  have e0:(i+1) * 3=i * 3+3:=by omega
  rw [e0,mC,List.set_cons_succ,mC,← ih]
  simp [Ab]
theorem Em {w:World} {base g n cap k:Nat} {E:Nat} {cs:List Cl} {f:Nat} (h:w.ownsRow base E 3 (.slice (some ⟨g,0,none⟩) n cap) n (jE cs)) (hk:cs[k]?=some ⟨f,0,0⟩) (f':Nat) :
  (w.setCell ⟨g,k * 3,none⟩ (.int .u64 (f':Int))).ownsRow base E 3 (.slice (some ⟨g,0,none⟩) n cap) n (jE (cs.set k ⟨f',0,0⟩)):=by
 rw [← xZ cs k f f' hk]
 exact (h.stored (k * 3) _).1
set_option maxHeartbeats 2000000 in
theorem K4 (n:Nat) (w:World) (hn:n≤64):Calls prog 91 #[.int .i64 n] w (If (eM n) w):=by
 obtain ⟨i0,hi,hz0,hz1,hz2⟩:=info_parts infoC
 have HN:=Lib.hid (gK n)
 go_enter func91,ntmps91
 go_wp2_with (at_make;refine wpList_make_full _ rfl (.tmp 5) (.tmp 5) 53 rfl w.heap.size 89 i0 _ 3 underlying53 hi hz0 hz1 .i64 .i64 (n:Int) (n:Int) n rfl rfl rfl rfl (by rw [hz2];omega) (by unfold maxLen;omega) (Nat.le_refl _) ?_;intro w2 hown2 hgrow2)
 have HO1:Hid (w2.ownsRow w.heap.size 89 3 (.slice (some ⟨w.heap.size,0,none⟩) n n) n (jE ((eM n).take 0++List.replicate (n - 0) z0))):=by
  rw [List.take_zero,List.nil_append,Nat.sub_zero,← Ig];exact hown2
 have hb2:Below w.heap.size w w2:=(Below.refl _ _).grown hgrow2 (Nat.le_refl _) (fun j e=>by cases e)
 clear hown2
 go_wp2_with fail
 go_loopw [8] (fun i wr=>∃ k:Nat,k≤n∧i = .int .i64 k∧Hid (wr.ownsRow w.heap.size 89 3 (.slice (some ⟨w.heap.size,0,none⟩) n n) n (jE ((eM n).take k++List.replicate (n - k) z0)))∧Below w.heap.size w wr) (fun i _=>n - (intOf i).toNat)
 case atStart=>exact ⟨0,Nat.zero_le _,rfl,HO1,hb2⟩
 case round =>
  obtain ⟨k,hk,rfl,HO,hb⟩:=hrel
  by_cases hlt:k < n
  ·have HZ:=Lib.hid (Ih (full:=eM n) (n:=n) (k:=k) HN.out (rQ hlt))
   have HA:=Lib.hid (fill_at (full:=eM n) (n:=n) HN.out hlt)
   have HW:=Lib.hid (pow_u64 (k:=k) (by omega))
   have f3:=uJ HA.out
   have e0:=(HO.out.cellAt (k * 3) (by omega)).trans f3.1
   have q0:=HO.out.frozenAt (k * 3)
   clear f3
   have g0:(0:Int)≤(k:Int):=by omega
   have g1:k < 64:=by omega
   have g2:(k:Int) < 64:=by omega
   have g3:(k:Int) < (n:Int):=by omega
   have HS:=Lib.hid (Em HO.out HA.out (2 ^ k))
   rw [show (⟨2 ^ k,0,0⟩:Cl)=lK k from rfl,HZ.out,← HW.out] at HS
   have HB:Hid (Below w.heap.size w (wr.setCell ⟨w.heap.size,k * 3,none⟩ (.int .u64 (IntKind.u64.wrap (2 ^ k))))):=hb.setCell (p:=⟨w.heap.size,k * 3,none⟩) (Nat.le_refl _) _
   go_wp2
   go_roundw
   case rel=>exact ⟨k+1,by omega,by go_num,HS,HB.out⟩
   case measure=>simp [intOf];omega
  ·obtain rfl:n=k:=by omega
   have HE:Hid (wr.ownsRow w.heap.size 89 3 (.slice (some ⟨w.heap.size,0,none⟩) n n) n (jE (eM n))):=by
    have:=HO.out
    rw [List.take_of_length_le (by rw [HN.out];exact Nat.le_refl _),Nat.sub_self,List.replicate_zero,List.append_nil] at this
    exact this
   go_wp2
   go_ret
   exact ⟨_,rfl,by rw [HN.out];exact HE.out,hb⟩
theorem Af {cs:List Cl} {w w1 w2:World} {v:Value} (hb1:Below w.heap.size w w1) (hown:w2.ownsRow w1.heap.size 89 3 v cs.length (jE cs)) (hb2:Below w1.heap.size w1 w2) (err:Int):rP cs err w (.returned (.tuple #[v,.int .i64 err])) w2:=by
 obtain ⟨_,a2,cap2,rfl,hr2,hf2⟩:=gJ hown
 exact ⟨a2,cap2,rfl,hr2,fun ad e=>⟨Nat.le_trans hb1.size (hf2 ad e).1,(hf2 ad e).2.2⟩,hb1.trans (hb2.mono hb1.size)⟩
theorem En {d:Int} (h:nU d=0):∃ n:Nat,d=n∧n≤64:=by
 by_cases hd:d < 0∨64 < d
 ·simp [nU,hd] at h
 ·exact ⟨d.toNat,by omega,by omega⟩
set_option maxHeartbeats 2000000 in
theorem one_any (d:Int) (w:World) (c:Int) (hc:nU d=c) :
  Calls prog 86 #[.int .i64 d] w (rP (vN d) c w):=by
 have HC:=Lib.hid hc
 by_cases h0:c=0
 ·subst h0
  obtain ⟨n,rfl,hn⟩:=En hc
  have HR:=Lib.hid (show vN n=eM n by simp [vN,hc])
  clear hc
  go_enter func86,ntmps86
  go_wp2_with (go_at_call 88;refine (jN _ _ 0 HC.out).mono ?_;rintro e w' ⟨rfl,rfl⟩)
  refine (K4 n _ hn).mono ?_
  rintro e w2 ⟨v,rfl,hown,hb2⟩
  have HO:=Lib.hid hown
  clear hown
  go_wp2
  go_ret2
  rw [HR.out]
  exact Af (Below.refl _ _) HO.out hb2 0
 ·have HR:=Lib.hid (show vN d=[] by simp [vN,hc,h0])
  have hne:(c != 0)=true:=by simpa using h0
  clear hc h0
  go_enter func86,ntmps86
  go_wp2_with (go_at_call 88;refine (jN _ _ c HC.out).mono ?_;rintro e w' ⟨rfl,rfl⟩)
  go_ret2
  rw [HR.out]
  exact Ac c (Below.refl _ _)
structure IsCells (w:World) (a:Option Addr) (len cap:Nat) (xs:List Cl):Prop where
 len:len=xs.length
 max:xs.length≤maxLen
 row:lS w a xs
 bits:H8 xs
set_option linter.unusedSimpArgs false
def K6:Cl:=⟨0,2,0⟩
theorem Cr {c:Cl} (h:c.ok):(∃ f,c=⟨f,0,0⟩)∨(∃ f v,c=⟨f,1,v⟩)∨c=K6:=by
 obtain ⟨f,k,v⟩:=c
 obtain ⟨_,h⟩:=h
 simp only at h
 unfold dL at h
 split at h
 ·rename_i h2;left;simp at h;subst h;subst h2;exact ⟨f,rfl⟩
 ·split at h
  ·rename_i h2;right;left;subst h2;exact ⟨f,v,rfl⟩
  ·split at h
   ·rename_i h2;right;right;subst h2;simp at h;obtain ⟨rfl,rfl⟩:=h;rfl
   ·cases h
theorem Ij {a:Cl} (ha:a.ok):join a a=a:=by
 rcases Cr ha with ⟨f,rfl⟩ | ⟨f,v,rfl⟩ | rfl<;>simp [join,joinK,iP,K6]
def Oks (xs:List Cl):Prop:=∀ (i:Nat) x,xs[i]?=some x→x.ok
set_option linter.unusedSimpArgs false
theorem hJ {n:Nat} {c:Cl}:mA n c=true↔c.f < 2 ^ n∧dL c.f c.k c.v=true:=by
 unfold mA lR lQ
 rw [Bool.and_eq_true,beq_iff_eq,Nat.div_eq_zero_iff]
 constructor
 ·rintro ⟨h | h,h2⟩
  ·have:=Nat.two_pow_pos n;omega
  ·exact ⟨h,h2⟩
 ·rintro ⟨h,h2⟩;exact ⟨.inr h,h2⟩
theorem oH {n f:Nat} (hn:n≤64) (h:f < 2 ^ n):f < 18446744073709551616 :=
 Nat.lt_of_lt_of_le h (Nat.le_trans (Nat.pow_le_pow_right (by decide) hn) (by decide))
structure Val (n:Nat) (xs:List Cl):Prop where
 le:n≤64
 len:xs.length=n
 ok:∀ (i:Nat) c,xs[i]?=some c→mA n c=true
theorem Val.oks {n:Nat} {xs:List Cl} (h:Val n xs):Oks xs:=fun i c hi=>by
 obtain ⟨h1,h2⟩:=hJ.1 (h.ok i c hi)
 exact ⟨oH h.le h1,h2⟩
theorem Val.bits {n:Nat} {xs:List Cl} (h:Val n xs):H8 xs:=fun c hc=>by
 obtain ⟨i,hi,e⟩:=List.mem_iff_getElem.1 hc
 exact (h.oks i c (by rw [← e];exact List.getElem?_eq_getElem hi)).1
theorem Val.chk {n:Nat} {xs:List Cl} (h:Val n xs):oD n xs=0:=by
 refine sI h.le h.len (Nat.le_refl _) ?_
 rw [List.take_length,List.all_eq_true]
 intro c hc
 obtain ⟨i,hi,e⟩:=List.mem_iff_getElem.1 hc
 exact h.ok i c (by rw [← e];exact List.getElem?_eq_getElem hi)
theorem val_of {d:Int} {xs:List Cl} (h:oD d xs=0):∃ n:Nat,d=n∧Val n xs:=by
 obtain ⟨d0,d1,la,oka⟩:=xX h
 refine ⟨d.toNat,by omega,by omega,by omega,fun i c hi=>?_⟩
 exact List.all_eq_true.1 oka c (List.mem_of_getElem? hi)
theorem yA {n:Nat} {a b:Cl} (ha:mA n a=true) (hb:mA n b=true) (hn:n≤64):mA n (join a b)=true:=by
 obtain ⟨h1,h2⟩:=hJ.1 ha
 obtain ⟨h3,h4⟩:=hJ.1 hb
 have h5:=Gy (a:=a) (b:=b) ⟨oH hn h1,h2⟩ ⟨oH hn h3,h4⟩
 refine hJ.2 ⟨?_,h5.2⟩
 show (if joinK a.k a.v b.k b.v=2 then 0 else a.f ||| b.f) < 2 ^ n
 split
 ·exact Nat.two_pow_pos n
 ·exact Nat.or_lt_two_pow h1 h3
theorem K7 {n:Nat} {xs ys:List Cl} (hx:Val n xs) (hy:Val n ys):Val n (iY xs ys):=by
 refine ⟨hx.le,by simp [iY,hx.len,hy.len],fun i c hi=>?_⟩
 simp [iY,List.getElem?_zipWith] at hi
 split at hi
 ·rename_i a b ha hb
  cases hi
  exact yA (hx.ok i a ha) (hy.ok i b hb) hx.le
 ·cases hi
theorem yB {n:Nat} {xs:List Cl} (hx:Val n xs) {c:Cl} (hc:mA n c=true):∀ m,mA n (lC xs c m)=true
 | 0=>hJ.2 ⟨Nat.two_pow_pos n,tH (hJ.1 hc).2⟩
 | m+1=>by
  have ih:=yB hx hc m
  rw [mD,qM]
  split
  ·split
   ·rename_i a h;exact yA ih (hx.ok m a h) hx.le
   ·exact ih
  ·exact ih
theorem K8 {n:Nat} {xs ys:List Cl} (hx:Val n xs) (hy:Val n ys):Val n (iE xs ys):=by
 refine ⟨hx.le,by simp [iE,hy.len],fun i c hi=>?_⟩
 simp [iE] at hi
 obtain ⟨y,h1,rfl⟩:=hi
 exact yB hx (hy.ok i y h1) _
theorem Cs {n:Nat} (hn:n≤64):Val n (eM n):=by
 refine ⟨hn,gK n,fun i c hi=>?_⟩
 have h1:i < n:=by rw [← gK n];exact (List.getElem?_eq_some_iff.1 hi).1
 rw [rQ h1] at hi
 cases hi
 exact hJ.2 ⟨Nat.pow_lt_pow_right (by decide) h1,by simp [dL,lK]⟩
theorem Ik {n:Nat} {xs:List Cl} (hx:Val n xs):iY xs xs=xs:=by
 apply List.ext_getElem?
 intro i
 simp [iY,List.getElem?_zipWith]
 rcases h:xs[i]? with _ | c
 ·rfl
 ·simp [Ij (hx.oks i c h)]
theorem yC {n:Nat} {c:Cl} (hc:mA n c=true):∀ m,m≤n→lC (eM n) c m=⟨c.f % 2 ^ m,c.k,c.v⟩
 | 0,_=>by simp [lC,Nat.mod_one]
 | m+1,hm=>by
  have ih:=yC hc m (by omega)
  have hrow:(eM n)[m]?=some (lK m):=rQ (by omega)
  rw [mD,qM,ih]
  cases hb:c.f.testBit m
  ·rw [if_neg (by simp)]
   congr 1
   apply Nat.eq_of_testBit_eq
   intro i
   rw [Nat.testBit_mod_two_pow,Nat.testBit_mod_two_pow]
   rcases Nat.lt_or_ge i m with h | h
   ·simp [h,Nat.lt_succ_of_lt h]
   ·rcases Nat.eq_or_lt_of_le h with h2 | h2
    ·subst h2;simp [hb]
    ·have e1:¬ i < m:=by omega
     have e2:¬ i < m+1:=by omega
     simp [e1,e2]
  ·rw [if_pos rfl,hrow]
   have hk:¬ c.k=2:=by
    intro h2
    have:=(hJ.1 hc).2
    simp [dL,h2] at this
    rw [this.2] at hb;simp at hb
   have hk0:c.k=0→c.v=0:=by
    intro h2
    have:=(hJ.1 hc).2
    simpa [dL,h2] using this
   have hf:c.f % 2 ^ m ||| 2 ^ m=c.f % 2 ^ (m+1):=by
    apply Nat.eq_of_testBit_eq
    intro i
    rw [Nat.testBit_or,Nat.testBit_mod_two_pow,Nat.testBit_mod_two_pow,Nat.testBit_two_pow]
    rcases Nat.lt_or_ge i m with h | h
    ·have e3:¬ m=i:=by omega
     simp [h,Nat.lt_succ_of_lt h,e3]
    ·rcases Nat.eq_or_lt_of_le h with h2 | h2
     ·subst h2;simp [hb]
     ·have e1:¬ i < m:=by omega
      have e2:¬ i < m+1:=by omega
      have e3:¬ m=i:=by omega
      simp [e1,e2,e3]
   by_cases h0:c.k=0
   ·simp [join,joinK,iP,lK,hk,hf,h0,hk0 h0]
   ·simp [join,joinK,iP,lK,hk,hf,h0]
theorem Il {n:Nat} {xs:List Cl} (hx:Val n xs):iE (eM n) xs=xs:=by
 apply List.ext_getElem?
 intro i
 simp only [iE,List.getElem?_map]
 rcases h:xs[i]? with _ | c
 ·rfl
 ·have h2:=yC (hx.ok i c h) n (Nat.le_refl _)
  simp
  unfold ofC
  rw [gK,h2,Nat.mod_eq_of_lt (hJ.1 (hx.ok i c h)).1]
theorem Im {c:Cl} (h:c.ok):join ⟨0,0,0⟩ c=c:=by
 rcases Cr h with ⟨f,rfl⟩ | ⟨f,v,rfl⟩ | rfl<;>simp [join,joinK,iP,K6]
theorem vO {xs:List Cl} {i:Nat}:∀ m,m≤i→lC xs (lK i) m=⟨0,0,0⟩
 | 0,_=>rfl
 | m+1,h=>by
  rw [Ae (by simp [lK,Nat.testBit_two_pow];omega)]
  exact vO m (by omega)
theorem In {n:Nat} {xs:List Cl} (hx:Val n xs) {i:Nat} {c:Cl} (hi:xs[i]?=some c):ofC xs (lK i)=c:=by
 have h1:i < xs.length:=(List.getElem?_eq_some_iff.1 hi).1
 have h2:lC xs (lK i) (i+1)=c:=by
  rw [Cq (by simp [lK,Nat.testBit_two_pow]) hi,vO i (Nat.le_refl _),Im (hx.oks i c hi)]
 unfold ofC
 rw [xY (k:=i+1) (by omega) (fun j h3 h4=>by simp [lK,Nat.testBit_two_pow];omega),h2]
theorem Io {n:Nat} {xs:List Cl} (hx:Val n xs):iE xs (eM n)=xs:=by
 apply List.ext_getElem?
 intro i
 simp only [iE,List.getElem?_map]
 rcases Nat.lt_or_ge i n with h | h
 ·have e:xs[i]?=some (xs[i]'(by rw [hx.len];exact h)):=List.getElem?_eq_getElem _
  rw [rQ h,e]
  simp [In hx e]
 ·rw [List.getElem?_eq_none (by rw [gK];exact h),List.getElem?_eq_none (by rw [hx.len];exact h)]
  rfl
structure PF where
 z:Bool
 c:Int
 g:Nat
 rows:List Nat
 cells:List Cl
def WF.pf (f:WF):PF:=⟨f.z,f.c,f.g,f.rows,f.cells⟩
def dU:PF:=⟨true,0,0,[],[]⟩
def pC (c:Int):PF:=⟨false,c,0,[],[]⟩
def pF (g:Nat) (rows:List Nat):PF:=⟨false,0,g,rows,[]⟩
def pX (cs:List Cl):PF:=⟨false,0,0,[],cs⟩
inductive OkP (t n:Int):PF→Prop
 | zero:OkP t n dU
 | bool (h:t=1):OkP t n (pC 0)
 | cost (c:Int) (h:t=2) (h0:0≤c) (h1:c≤n):OkP t n (pC c)
 | facts (m g:Nat) (rows:List Nat) (h:t=3) (hn:n=(m:Int)) (hg:Good m g rows):OkP t n (pF g rows)
 | cells (m:Nat) (cs:List Cl) (h:t=4) (hn:n=(m:Int)) (hv:Val m cs):OkP t n (pX cs)
def fH (t n:Int) (a b:PF):PF :=
 if a.z=true then b else if b.z=true then a else if t=2 then pC (min a.c b.c) else if t=3 then pF (oF n a.g a.rows b.g b.rows) (nN n a.g a.rows b.g b.rows) else if t=4 then pX (iY a.cells b.cells) else pC 0
def iF (t n:Int) (a b:PF):PF :=
 if a.z=true then dU else if b.z=true then dU else if t=2 then pC (min (a.c+b.c) n) else if t=3 then pF (tY n a.g a.rows b.g b.rows) (sL n a.g a.rows b.g b.rows) else if t=4 then pX (iE a.cells b.cells) else pC 0
def fQ (t n:Int):PF:=if t=3 then pF 0 (fJ n.toNat) else if t=4 then pX (eM n.toNat) else pC 0
theorem Gz {n:Int} {a:PF} (h:OkP 1 n a):a=dU∨a=pC 0:=by
 cases h with
 | zero=>exact .inl rfl
 | bool h=>exact .inr rfl
 | cost c h h0 h1=>omega
 | facts m g rows h=>omega
 | cells m cs h=>omega
theorem G1 {n:Int} {a:PF} (h:OkP 2 n a):a=dU∨∃ c,a=pC c∧0≤c∧c≤n:=by
 cases h with
 | zero=>exact .inl rfl
 | bool h=>omega
 | cost c h h0 h1=>exact .inr ⟨c,rfl,h0,h1⟩
 | facts m g rows h=>omega
 | cells m cs h=>omega
theorem G3 {m:Nat} {a:PF} (h:OkP 3 m a):a=dU∨∃ g rows,a=pF g rows∧Good m g rows:=by
 cases h with
 | zero=>exact .inl rfl
 | bool h=>omega
 | cost c h h0 h1=>omega
 | facts k g rows h hn hg =>
  obtain rfl:m=k:=by omega
  exact .inr ⟨g,rows,rfl,hg⟩
 | cells m cs h=>omega
theorem G4 {m:Nat} {a:PF} (h:OkP 4 m a):a=dU∨∃ cs,a=pX cs∧Val m cs:=by
 cases h with
 | zero=>exact .inl rfl
 | bool h=>omega
 | cost c h h0 h1=>omega
 | facts k g rows h hn hg=>omega
 | cells k cs h hn hv =>
  obtain rfl:m=k:=by omega
  exact .inr ⟨cs,rfl,hv⟩
theorem iQ {t n:Int} {l:Nat} (h:bS t n l=true):l=0∧((t=1∧n=0)∨(t=2∧0≤n∧n≤1048576)∨(t=3∧∃ m:Nat,n=m∧m≤64)∨(t=4∧∃ m:Nat,n=m∧m≤64)):=by
 obtain ⟨h0,ht⟩:=fP h
 obtain ⟨d0,d1,d2,d3⟩:=qK h
 refine ⟨h0,?_⟩
 rcases ht with rfl | rfl | rfl | rfl
 ·exact .inl ⟨rfl,d2 rfl⟩
 ·exact .inr (.inl ⟨rfl,d0,d1⟩)
 ·exact .inr (.inr (.inl ⟨rfl,n.toNat,by omega,by have:=d3 (.inl rfl);omega⟩))
 ·exact .inr (.inr (.inr ⟨rfl,n.toNat,by omega,by have:=d3 (.inr rfl);omega⟩))
section
variable {t n:Int} {l:Nat} {a b c:PF}
theorem pH:fH t n dU a=a:=by simp [fH,dU]
theorem uL (ha:OkP t n a):fH t n a dU=a:=by cases ha<;>simp [fH,dU,pC,pF,pX]
theorem K9:iF t n dU a=dU:=by simp [iF,dU]
theorem La:iF t n a dU=dU:=by simp [iF,dU]
theorem Lb:fH 1 n (pC 0) (pC 0)=pC 0:=by simp [fH,pC]
theorem Lc (x y:Int):fH 2 n (pC x) (pC y)=pC (min x y):=by simp [fH,pC]
theorem Ld (g h:Nat) (xs ys:List Nat):fH 3 n (pF g xs) (pF h ys)=pF (oF n g xs h ys) (nN n g xs h ys):=by simp [fH,pF]
theorem Le (xs ys:List Cl):fH 4 n (pX xs) (pX ys)=pX (iY xs ys):=by simp [fH,pX]
theorem Lf:iF 1 n (pC 0) (pC 0)=pC 0:=by simp [iF,pC]
theorem Lg (x y:Int):iF 2 n (pC x) (pC y)=pC (min (x+y) n):=by simp [iF,pC]
theorem Lh (g h:Nat) (xs ys:List Nat):iF 3 n (pF g xs) (pF h ys)=pF (tY n g xs h ys) (sL n g xs h ys):=by simp [iF,pF]
theorem Li (xs ys:List Cl):iF 4 n (pX xs) (pX ys)=pX (iE xs ys):=by simp [iF,pX]
theorem Lj:fQ 1 n=pC 0:=by simp [fQ]
theorem Lk:fQ 2 n=pC 0:=by simp [fQ]
theorem G5 (m:Nat):fQ 3 m=pF 0 (fJ m):=by simp [fQ]
theorem G6 (m:Nat):fQ 4 m=pX (eM m):=by simp [fQ]
theorem uM (h:bS t n l=true):OkP t n (fQ t n):=by
 rcases (iQ h).2 with ⟨rfl,hn⟩ | ⟨rfl,h0,h1⟩ | ⟨rfl,m,rfl,hm⟩ | ⟨rfl,m,rfl,hm⟩
 ·rw [Lj];exact .bool rfl
 ·rw [Lk];exact .cost 0 rfl (by omega) h0
 ·rw [G5];exact .facts m 0 _ rfl rfl (jD hm)
 ·rw [G6];exact .cells m _ rfl rfl (Cs hm)
theorem qN (h:bS t n l=true) (ha:OkP t n a):fH t n a a=a:=by
 rcases (iQ h).2 with ⟨rfl,hn⟩ | ⟨rfl,h0,h1⟩ | ⟨rfl,m,rfl,hm⟩ | ⟨rfl,m,rfl,hm⟩
 ·rcases Gz ha with rfl | rfl<;>simp only [pH,Lb]
 ·rcases G1 ha with rfl | ⟨x,rfl,hx⟩
  ·rw [pH]
  rw [Lc,Int.min_self]
 ·rcases G3 ha with rfl | ⟨g,xs,rfl,hx⟩
  ·rw [pH]
  rw [Ld,(xT hx).1,(xT hx).2]
 ·rcases G4 ha with rfl | ⟨xs,rfl,hx⟩
  ·rw [pH]
  rw [Le,Ik hx]
theorem Ag (h:bS t n l=true) (ha:OkP t n a):iF t n (fQ t n) a=a:=by
 by_cases za:a=dU
 ·subst za;rw [La]
 rcases (iQ h).2 with ⟨rfl,hn⟩ | ⟨rfl,h0,h1⟩ | ⟨rfl,m,rfl,hm⟩ | ⟨rfl,m,rfl,hm⟩
 ·obtain rfl:=(Gz ha).resolve_left za
  rw [Lj,Lf]
 ·obtain ⟨x,rfl,hx⟩:=(G1 ha).resolve_left za
  rw [Lk,Lg];congr 1;omega
 ·obtain ⟨g,x,rfl,hx⟩:=(G3 ha).resolve_left za
  rw [G5,Lh,(xU hx).1,(xU hx).2]
 ·obtain ⟨x,rfl,hx⟩:=(G4 ha).resolve_left za
  rw [G6,Li,Il hx]
theorem Ah (h:bS t n l=true) (ha:OkP t n a):iF t n a (fQ t n)=a:=by
 by_cases za:a=dU
 ·subst za;rw [K9]
 rcases (iQ h).2 with ⟨rfl,hn⟩ | ⟨rfl,h0,h1⟩ | ⟨rfl,m,rfl,hm⟩ | ⟨rfl,m,rfl,hm⟩
 ·obtain rfl:=(Gz ha).resolve_left za
  rw [Lj,Lf]
 ·obtain ⟨x,rfl,hx⟩:=(G1 ha).resolve_left za
  rw [Lk,Lg];congr 1;omega
 ·obtain ⟨g,x,rfl,hx⟩:=(G3 ha).resolve_left za
  rw [G5,Lh,(xV hx).1,(xV hx).2]
 ·obtain ⟨x,rfl,hx⟩:=(G4 ha).resolve_left za
  rw [G6,Li,Io hx]
end
inductive PS where
 | one (t n:Int)
 | two (t n u m:Int)
def PS.ok:PS→Prop
 | .one t n=>bS t n 0=true
 | .two t n u m=>bS t n 0=true∧bS u m 0=true
inductive PX where
 | one (a:PF)
 | two (a b:PF)
def OkX:PS→PX→Prop
 | .one t n,.one a=>OkP t n a
 | .two t n u m,.two a b=>OkP t n a∧OkP u m b
 | _,_=>False
def lL:PS→PX→PX→PX
 | .one t n,.one a,.one b=>.one (fH t n a b)
 | .two t n u m,.two a b,.two c d=>.two (fH t n a c) (fH u m b d)
 | _,x,_=>x
def Eo:PS→PX→PX→PX
 | .one t n,.one a,.one b=>.one (iF t n a b)
 | .two t n u m,.two a b,.two c d=>.two (iF t n a c) (iF u m b d)
 | _,x,_=>x
def eV:PS→PX
 | .one t n=>.one (fQ t n)
 | .two t n u m=>.two (fQ t n) (fQ u m)
def eN:PS→PX
 | .one _ _=>.one dU
 | .two _ _ _ _=>.two dU dU
section
variable {S:PS} {x y v:PX}
theorem Ai (h:S.ok):OkX S (eV S):=by
 cases S with
 | one t n=>exact uM h
 | two t n u m=>exact ⟨uM h.1,uM h.2⟩
theorem Ll:OkX S (eN S):=by
 cases S with
 | one t n=>exact .zero
 | two t n u m=>exact ⟨.zero,.zero⟩
theorem Ep (h:S.ok) (hx:OkX S x):lL S x x=x:=by
 cases S<;>cases x<;>first | exact hx.elim | exact congrArg PX.one (qN h hx) | (simp only [lL];rw [qN h.1 hx.1,qN h.2 hx.2])
theorem Eq (hx:OkX S x):lL S (eN S) x=x:=by
 cases S<;>cases x<;>first | exact hx.elim | (simp only [lL,eN,pH])
theorem Aj (hx:OkX S x):lL S x (eN S)=x:=by
 cases S<;>cases x<;>first | exact hx.elim | (simp only [lL,eN];rw [uL hx]) | (simp only [lL,eN];rw [uL hx.1,uL hx.2])
theorem Lm (h:S.ok) (hx:OkX S x):Eo S (eV S) x=x:=by
 cases S<;>cases x<;>first | exact hx.elim | exact congrArg PX.one (Ag h hx) | (simp only [Eo,eV];rw [Ag h.1 hx.1,Ag h.2 hx.2])
theorem Ln (h:S.ok) (hx:OkX S x):Eo S x (eV S)=x:=by
 cases S<;>cases x<;>first | exact hx.elim | exact congrArg PX.one (Ah h hx) | (simp only [Eo,eV];rw [Ah h.1 hx.1,Ah h.2 hx.2])
end
structure PIs (w:World) (t n:Int) (f:WF) (a:PF):Prop where
 at_:f.At w
 pf:f.pf=a
 ok:OkP t n a
 pl:f.pl=0
theorem PIs.below {w w':World} {t n:Int} {f:WF} {a:PF} (h:PIs w t n f a) (hb:Below w.heap.size w w'):PIs w' t n f a:=⟨h.at_.below hb,h.pf,h.ok,h.pl⟩
def XIs (w:World):PS→WF→PX→Prop
 | .one t n,f,.one a=>PIs w t n f a
 | .two t n u m,f,.two a b=>f.pf=pC 0∧f.rl=0∧f.cl=0∧f.pl=2∧∃ blk off g h,f.pa=some ⟨blk,off,none⟩∧W6 w blk off g∧W6 w blk (off+6) h∧PIs w t n g a∧PIs w u m h b
 | _,_,_=>False
theorem XIs.below {w w':World} {S:PS} {f:WF} {x:PX} (h:XIs w S f x) (hb:Below w.heap.size w w'):XIs w' S f x:=by
 cases S<;>cases x<;>first | exact h.elim | exact PIs.below h hb | skip
 obtain ⟨h1,h2,h3,h4,blk,off,g,k,h5,h6,h7,h8,h9⟩:=h
 exact ⟨h1,h2,h3,h4,blk,off,g,k,h5,h6.below hb,h7.below hb,h8.below hb,h9.below hb⟩
theorem PIs.of {w:World} {t n:Int} {f:WF} (hp:bS t n 0=true) (hf:f.At w) (h:eU t n f=true):PIs w t n f f.pf:=by
 have hrl:=hf.rl;have hcl:=hf.cl;have hg:=hf.g64;have hr:=hf.r64
 obtain ⟨z,c,g,ra,rl,rc,rows,ca,cl,cc,cells,pa,pl,pc⟩:=f
 dsimp only at hrl hcl hg hr
 subst hrl hcl
 simp only [eU,Bool.and_eq_true,Bool.or_eq_true,hH,hC,decide_eq_true_eq,Bool.not_eq_true'] at h
 obtain ⟨⟨h1,h2,h3,h4⟩,h5⟩:=h
 have ht5:t≠5:=by rintro rfl;simp [bS] at hp
 have hpl:pl=0:=by
  rcases h4 with ⟨_,h4⟩ | h4
  ·exact absurd h4 ht5
  ·exact h4
 refine ⟨hf,rfl,?_,hpl⟩
 show OkP t n ⟨z,c,g,rows,cells⟩
 cases z
 ·have h1':t=2∨c=0:=by simpa using h1
  have h2':t=3∨(g=0∧rows.length=0):=by simpa using h2
  have h3':t=4∨cells.length=0:=by simpa using h3
  simp only [Bool.false_eq_true,false_or] at h5
  rcases (iQ hp).2 with ⟨rfl,hn⟩ | ⟨rfl,h0,h1⟩ | ⟨rfl,m,rfl,hm⟩ | ⟨rfl,m,rfl,hm⟩
  ·obtain rfl:c=0:=by omega
   obtain ⟨rfl,hr0⟩:g=0∧rows.length=0:=by
    rcases h2' with h | h
    ·omega
    ·exact h
   obtain rfl:=List.eq_nil_of_length_eq_zero hr0
   obtain rfl:=List.eq_nil_of_length_eq_zero (h3'.resolve_left (by decide))
   exact .bool rfl
  ·obtain ⟨rfl,hr0⟩:=h2'.resolve_left (by decide)
   obtain rfl:=List.eq_nil_of_length_eq_zero hr0
   obtain rfl:=List.eq_nil_of_length_eq_zero (h3'.resolve_left (by decide))
   simp only [if_true,Bool.and_eq_true,decide_eq_true_eq] at h5
   exact .cost c rfl h5.1 h5.2
  ·obtain rfl:c=0:=by omega
   obtain rfl:=List.eq_nil_of_length_eq_zero (h3'.resolve_left (by decide))
   have h6:dW (m:Int) g rows=0:=by simpa using h5
   obtain ⟨k,hk,hgood⟩:=El hg hr h6
   exact .facts k g rows rfl hk hgood
  ·obtain rfl:c=0:=by omega
   obtain ⟨rfl,hr0⟩:=h2'.resolve_left (by decide)
   obtain rfl:=List.eq_nil_of_length_eq_zero hr0
   have h6:oD (m:Int) cells=0:=by simpa using h5
   obtain ⟨k,hk,hv⟩:=val_of h6
   exact .cells k cells rfl hk hv
 ·obtain rfl:c=0:=by simpa using h1
  obtain ⟨rfl,hr0⟩:g=0∧rows.length=0:=by simpa using h2
  have hc0:cells.length=0:=by simpa using h3
  obtain rfl:=List.eq_nil_of_length_eq_zero hr0
  obtain rfl:=List.eq_nil_of_length_eq_zero hc0
  exact .zero
def oI (blk:Nat):WF:=⟨false,0,0,none,0,0,[],none,0,0,[],some ⟨blk,0,none⟩,2,2⟩
def pV:WF:=⟨true,0,0,none,0,0,[],none,0,0,[],none,0,0⟩
set_option maxHeartbeats 2000000 in
theorem G7 (f g:WF) (w:World) :
  Calls prog 80 #[f.val,g.val] w fun e w'=>∃ blk,e = .returned (oI blk).val∧W6 w' blk 0 f∧W6 w' blk 6 g∧w.heap.size≤blk∧Below w.heap.size w w':=by
 obtain ⟨z,c,g0,ra,rl,rc,rows,ca,cl,cc,cells,pa,pl,pc⟩:=f
 obtain ⟨z2,c2,g2,ra2,rl2,rc2,rows2,ca2,cl2,cc2,cells2,pa2,pl2,pc2⟩:=g
 show Calls prog 80 #[.agg #[.bool z,.int .i64 c,.int .u64 (g0:Int),.slice ra rl rc,.slice ca cl cc,.slice pa pl pc],.agg #[.bool z2,.int .i64 c2,.int .u64 (g2:Int),.slice ra2 rl2 rc2,.slice ca2 cl2 cc2,.slice pa2 pl2 pc2]] w _
 obtain ⟨W2,hW2⟩:∃ W,(w.alloc (.cells #[.bool z,.int .i64 c,.int .u64 (g0:Int),.slice ra rl rc,.slice ca cl cc,.slice pa pl pc] 56)).alloc (.cells #[.bool z2,.int .i64 c2,.int .u64 (g2:Int),.slice ra2 rl2 rc2,.slice ca2 cl2 cc2,.slice pa2 pl2 pc2] 56)=W:=⟨_,rfl⟩
 have hs2:W2.heap.size=w.heap.size+1+1:=by rw [← hW2];simp
 have B2:Below w.heap.size w W2:=by rw [← hW2];exact Kc _ _ _ _ _
 obtain ⟨t0,t1⟩:=mX W2 #[.bool false,.int .i64 0,.int .u64 0,.slice none 0 0,.slice none 0 0,.slice (some ⟨w.heap.size+1+1+1,0,none⟩) 2 2] #[.bool z,.int .i64 c,.int .u64 (g0:Int),.slice ra rl rc,.slice ca cl cc,.slice pa pl pc,.bool z2,.int .i64 c2,.int .u64 (g2:Int),.slice ra2 rl2 rc2,.slice ca2 cl2 cc2,.slice pa2 pl2 pc2] 56 56
 have B4:Below w.heap.size w ((W2.alloc (.cells #[.bool false,.int .i64 0,.int .u64 0,.slice none 0 0,.slice none 0 0,.slice (some ⟨w.heap.size+1+1+1,0,none⟩) 2 2] 56)).alloc (.cells #[.bool z,.int .i64 c,.int .u64 (g0:Int),.slice ra rl rc,.slice ca cl cc,.slice pa pl pc,.bool z2,.int .i64 c2,.int .u64 (g2:Int),.slice ra2 rl2 rc2,.slice ca2 cl2 cc2,.slice pa2 pl2 pc2] 56)):=B2.trans ((Kc _ _ _ _ _).mono B2.size)
 rw [hs2] at t0 t1
 obtain ⟨s0,s1,s2,s3,s4,s5⟩:=kD t0
 have T1:=Lib.hid t1
 have HB4:=Lib.hid B4
 clear t0 t1 B2 B4 hs2
 subst hW2
 go_enter func80,ntmps80
 go_wp2_with fail
 refine bodyPost_ret (v:=.agg #[.bool false,.int .i64 0,.int .u64 0,.slice none 0 0,.slice none 0 0,.slice (some ⟨w.heap.size+1+1+1,0,none⟩) 2 2]) ?_ rfl ?_
 rotate_left
 ·exact ⟨w.heap.size+1+1+1,rfl,⟨gZ T1.out rfl,gZ T1.out rfl,gZ T1.out rfl,gZ T1.out rfl,gZ T1.out rfl,gZ T1.out rfl⟩,⟨gZ T1.out rfl,gZ T1.out rfl,gZ T1.out rfl,gZ T1.out rfl,gZ T1.out rfl,gZ T1.out rfl⟩,by omega,HB4.out⟩
 simp [results,results80,go_sem,s0,s1,s2,s3,s4,s5]
set_option maxHeartbeats 2000000 in
theorem tI (t n:Int) (a:Option Addr) (l c0:Nat) (ht:t≠5) (w:World) :
  Calls prog 66 #[.agg #[.int .i64 t,.int .i64 n,.slice a l c0]] w fun e w'=>e = .returned pV.val∧Below w.heap.size w w':=by
 have e5:(t == 5)=false:=by simp [ht]
 clear ht
 obtain ⟨t0,t1⟩:=mX w #[.int .i64 t,.int .i64 n,.slice a l c0] #[.bool true,.int .i64 0,.int .u64 0,.slice none 0 0,.slice none 0 0,.slice none 0 0] 25 56
 obtain ⟨s0,s1,s2,s3,s4,s5⟩:=kD t1
 clear t0 t1
 go_enter func66,ntmps66
 go_wp2_with fail
 refine bodyPost_ret (v:=.agg #[.bool true,.int .i64 0,.int .u64 0,.slice none 0 0,.slice none 0 0,.slice none 0 0]) ?_ rfl ⟨rfl,Kc _ _ _ _ _⟩
 simp [results,results66,go_sem,s0,s1,s2,s3,s4,s5]
theorem uN {t n:Int} {l:Nat} (h:bS t n l=true):t≠5:=by
 rintro rfl;simp [bS] at h
set_option maxHeartbeats 2000000 in
theorem pI (d:Nat) (s:SV) (e0:Int) (w:World) (hs:SIn w d s) (he:dD s=e0) :
  Calls prog 40 #[s.f.val] w fun e w'=>e = .returned (.int .i64 e0)∧Below w.heap.size w w':=by
 match d,s,hs with
 | d+1,.mk ⟨t,n,a,l,c⟩ ps,hs =>
 show Calls prog 40 #[.agg #[.int .i64 t,.int .i64 n,.slice a l c]] w _
 have hl:ps.length=l:=hs.1
 by_cases ht:t=5
 ·subst ht
  have hB:=Lib.hid (xB w #[.int .i64 5,.int .i64 n,.slice a l c] 25)
  have BX:=Lib.hid (dF w (.cells #[.int .i64 5,.int .i64 n,.slice a l c] 25))
  have hpl:bS 5 n l=false:=by simp [bS]
  by_cases h0:n=0∧l=2
  ·obtain ⟨rfl,rfl⟩:=h0
   obtain ⟨p,q,rfl⟩:=qJ hl
   obtain ⟨_,b,off,ha,hb,hp,hq,_,_⟩:=hs.two
   obtain rfl:a=some ⟨b,off,none⟩:=ha
   obtain ⟨⟨pt,pn,pa,pl,pc⟩,pps⟩:=p
   obtain ⟨⟨qt,qn,qa,ql,qc⟩,qps⟩:=q
   have HP:=Lib.hid (hp.below hB.out);have HQ:=Lib.hid (hq.below hB.out)
   obtain ⟨r1,hr1⟩:∃ r,bS pt pn pl=r:=⟨_,rfl⟩
   obtain ⟨r2,hr2⟩:∃ r,bS qt qn ql=r:=⟨_,rfl⟩
   have HR1:=Lib.hid hr1;have HR2:=Lib.hid hr2
   have HE:Hid ((if r1=true∧r2=true then (0:Int) else 50)=e0):=by
    show _=_
    rw [← he];simp [dD,hpl,SV.pl,SV.f,hr1,hr2]
   obtain ⟨W0,hW0⟩:∃ W,w.alloc (.cells #[.int .i64 5,.int .i64 0,.slice (some ⟨b,off,none⟩) 2 c] 25)=W:=⟨_,rfl⟩
   rw [hW0] at BX HP HQ hB
   clear hs hl hp hq hr1 hr2 he hpl
   have NX:∀ W:World,Below W0.heap.size W0 W→Hid (W.cell? ⟨w.heap.size,0,none⟩=some (.int .i64 5)∧W.cell? ⟨w.heap.size,1,none⟩=some (.int .i64 0)∧W.cell? ⟨w.heap.size,2,none⟩=some (.slice (some ⟨b,off,none⟩) 2 c)):=fun _ h=>fG (cS BX.out h)
   have NNX:=Lib.hid NX
   clear NX
   obtain ⟨z0,z1,z2⟩:=(NNX.out _ (Below.refl _ _)).out
   go_enter func40,ntmps40
   go_wp2_with fail
   clear z0 z1 z2
   go_loopw [3,4] (fun o i wr=>Below W0.heap.size W0 wr∧((i = .int .i64 0∧o = .bool true)∨(i = .int .i64 1∧o = .bool r1)∨(i = .int .i64 2∧r1=true∧o = .bool r2))) (fun _ i _=>2 - (intOf i).toNat)
   case atStart=>exact ⟨Below.refl _ _,.inl ⟨rfl,rfl⟩⟩
   case round =>
    obtain ⟨hb1,hrel⟩:=hrel
    obtain ⟨x0,x1,x2⟩:=(NNX.out _ hb1).out
    obtain ⟨y0,y1,y2⟩:=HP.out.below hb1
    obtain ⟨v0,v1,v2⟩:=HQ.out.below hb1
    dsimp only [SV.f] at y0 y1 y2 v0 v1 v2
    simp only [Nat.add_assoc,Nat.reduceAdd] at v1 v2
    rcases hrel with ⟨rfl,rfl⟩ | ⟨rfl,rfl⟩ | ⟨rfl,hr,rfl⟩
    ·by_cases hp5:pt=5
     ·subst hp5
      have HF:Hid (r1=false):=by show _=_;rw [← HR1.out];simp [bS]
      go_wp2_with fail
      go_roundw
      case rel=>exact ⟨hb1,.inr (.inl ⟨rfl,by rw [HF.out]⟩)⟩
      case measure=>simp [intOf]
     ·have hp6:(pt != 5)=true:=by simp [hp5]
      go_wp2_with fail
      refine (oE pt pn pa pl pc hp5 r1 HR1.out _).mono ?_
      rintro e w3 ⟨rfl,hb3⟩
      cases r1
      all_goals
       simp only [Bool.false_eq_true,if_false,if_true]
       go_wp2_with fail
       go_roundw
       case rel=>exact ⟨hb1.trans (hb3.mono hb1.size),.inr (.inl ⟨rfl,rfl⟩)⟩
       case measure=>simp [intOf]
    ·cases r1
     ·have HE2:Hid ((50:Int)=e0):=by show _=_;rw [← HE.out];simp
      go_wp2_with fail
      go_ret
      exact ⟨cL HE2.out,hB.out.trans (hb1.mono hB.out.size)⟩
     ·by_cases hp5:qt=5
      ·subst hp5
       have HF:Hid (r2=false):=by show _=_;rw [← HR2.out];simp [bS]
       go_wp2_with fail
       go_roundw
       case rel=>exact ⟨hb1,.inr (.inr ⟨by first | rfl | trivial,by first | rfl | trivial,by first | rfl | (rw [HF.out])⟩)⟩
       case measure=>simp [intOf]
      ·have hp6:(qt != 5)=true:=by simp [hp5]
       go_wp2_with fail
       refine (oE qt qn qa ql qc hp5 r2 HR2.out _).mono ?_
       rintro e w3 ⟨rfl,hb3⟩
       cases r2
       all_goals
        simp only [Bool.false_eq_true,if_false,if_true]
        go_wp2_with fail
        go_roundw
        case rel=>exact ⟨hb1.trans (hb3.mono hb1.size),.inr (.inr ⟨by first | rfl | trivial,by first | rfl | trivial,by first | rfl | trivial⟩)⟩
        case measure=>simp [intOf]
    ·have HE2:Hid ((if r2=true then (0:Int) else 50)=e0):=by show _=_;rw [← HE.out,hr];simp
     cases r2
     all_goals
      go_wp2_with fail
      go_ret
      exact ⟨cL HE2.out,hB.out.trans (hb1.mono hB.out.size)⟩
  ·have HE:Hid ((50:Int)=e0):=by
    show _=_
    rw [← he,dD,hpl,if_neg (by simp),if_neg]
    rintro ⟨_,h1,h2,_⟩
    exact h0 ⟨h1,by omega⟩
   obtain ⟨W0,hW0⟩:∃ W,w.alloc (.cells #[.int .i64 5,.int .i64 n,.slice a l c] 25)=W:=⟨_,rfl⟩
   rw [hW0] at BX hB
   obtain ⟨x0,x1,x2⟩:=fG BX.out
   clear hs hl he hpl
   have hc:(n=0∧((n == 0)=true)∧((l:Int) == 2)=false)∨((n == 0)=false):=by
    by_cases hn:n=0
    ·exact .inl ⟨hn,by simp [hn],by simp;omega⟩
    ·exact .inr (by simp [hn])
   clear h0
   rcases hc with ⟨rfl,c1,c2⟩ | c1
   all_goals
    go_enter func40,ntmps40
    go_wp2_with fail
    go_loopw [3,4] (fun o i wr=>i = .int .i64 0∧o = .bool false∧W0=wr) (fun _ i _=>0)
    case atStart=>exact ⟨rfl,rfl,rfl⟩
    case round =>
     obtain ⟨rfl,rfl,rfl⟩:=hrel
     by_cases hl0:0 < l
     ·have g1:(0:Int) < (l:Int):=by omega
      go_wp2_with fail
      go_ret
      exact ⟨cL HE.out,hB.out⟩
     ·obtain rfl:l=0:=by omega
      go_wp2_with fail
      go_ret
      exact ⟨cL HE.out,hB.out⟩
 ·obtain ⟨r,hr⟩:∃ r,bS t n l=r:=⟨_,rfl⟩
  refine (oE t n a l c ht r hr w).mono ?_
  rintro e w1 ⟨rfl,hb⟩
  refine ⟨?_,hb⟩
  rw [← he,Ca ht,hr]
theorem jF {w:World} {B:Nat} {cs:Array Value} {T:TypeId} (h:w.heap[B]?=some (.cells cs T (0,0))) (j:Nat):w.frozen? ⟨B,j,none⟩=false:=by
 unfold World.frozen?;simp [h]
theorem six_set {w:World} {B:Nat} {a b c d e f v0 v1 v2 v3 v4 v5:Value} {T:TypeId} (h:w.heap[B]?=some (.cells #[a,b,c,d,e,f] T (0,0))) :
  ((((((w.setCell ⟨B,0,none⟩ v0).setCell ⟨B,1,none⟩ v1).setCell ⟨B,2,none⟩ v2).setCell ⟨B,3,none⟩ v3).setCell ⟨B,4,none⟩ v4).setCell ⟨B,5,none⟩ v5).heap[B]?=some (.cells #[v0,v1,v2,v3,v4,v5] T (0,0)) :=
 heap_setCell_same _ B 5 _ _ _ (heap_setCell_same _ B 4 _ _ _ (heap_setCell_same _ B 3 _ _ _ (heap_setCell_same _ B 2 _ _ _ (heap_setCell_same _ B 1 _ _ _ (heap_setCell_same w B 0 _ _ _ h)))))
theorem Er {n:Nat} {w0 w:World} {B:Nat} (v0 v1 v2 v3 v4 v5:Value) (h:Below n w0 w) (hB:n≤B) :
  Below n w0 ((((((w.setCell ⟨B,0,none⟩ v0).setCell ⟨B,1,none⟩ v1).setCell ⟨B,2,none⟩ v2).setCell ⟨B,3,none⟩ v3).setCell ⟨B,4,none⟩ v4).setCell ⟨B,5,none⟩ v5) :=
 (((((h.setCell (p:=⟨B,0,none⟩) hB _).setCell (p:=⟨B,1,none⟩) hB _).setCell (p:=⟨B,2,none⟩) hB _).setCell (p:=⟨B,3,none⟩) hB _).setCell (p:=⟨B,4,none⟩) hB _).setCell (p:=⟨B,5,none⟩) hB _
def nO (n:Nat) (w w':World):Prop:=∀ k,n≤k→w'.heap[k]?=w.heap[k]?
theorem nO.refl (n:Nat) (w:World):nO n w w:=fun _ _=>rfl
theorem nO.setCell {n:Nat} {a w:World} (h:nO n a w) {p:Addr} (hp:p.block < n) (u:Value):nO n a (w.setCell p u):=fun k hk=>(Below.heap_setCell _ _ _ _ (by omega)).trans (h k hk)
theorem nO.cell {n:Nat} {w w':World} (h:nO n w w') {p:Addr} (hp:n≤p.block):w'.cell? p=w.cell? p:=World.cell?_of_block (w:=w) (h p.block hp)
theorem vP {n:Nat} {w0 w:World} {B:Nat} (v0 v1 v2 v3 v4 v5:Value) (h:nO n w0 w) (hB:B < n) :
  nO n w0 ((((((w.setCell ⟨B,0,none⟩ v0).setCell ⟨B,1,none⟩ v1).setCell ⟨B,2,none⟩ v2).setCell ⟨B,3,none⟩ v3).setCell ⟨B,4,none⟩ v4).setCell ⟨B,5,none⟩ v5) :=
 (((((h.setCell (p:=⟨B,0,none⟩) hB _).setCell (p:=⟨B,1,none⟩) hB _).setCell (p:=⟨B,2,none⟩) hB _).setCell (p:=⟨B,3,none⟩) hB _).setCell (p:=⟨B,4,none⟩) hB _).setCell (p:=⟨B,5,none⟩) hB _
theorem W6.above {w w':World} {n b o:Nat} {f:WF} (h:W6 w b o f) (hn:n≤b) (hb:nO n w w'):W6 w' b o f :=
 ⟨(hb.cell hn).trans h.1,(hb.cell hn).trans h.2.1,(hb.cell hn).trans h.2.2.1,(hb.cell hn).trans h.2.2.2.1,(hb.cell hn).trans h.2.2.2.2.1,(hb.cell hn).trans h.2.2.2.2.2⟩
structure PNew (n:Nat) (w:World) (t d:Int) (f:WF) (a:PF):Prop where
 is:PIs w t d f a
 ra:∀ ad,f.ra=some ad→n≤ad.block
 ca:∀ ad,f.ca=some ad→n≤ad.block
theorem PNew.below {n:Nat} {w w':World} {t d:Int} {f:WF} {a:PF} (h:PNew n w t d f a) (hb:Below w.heap.size w w'):PNew n w' t d f a:=⟨h.is.below hb,h.ra,h.ca⟩
theorem PNew.mono {n m:Nat} {w:World} {t d:Int} {f:WF} {a:PF} (h:PNew n w t d f a) (hm:m≤n):PNew m w t d f a:=⟨h.is,fun ad e=>Nat.le_trans hm (h.ra ad e),fun ad e=>Nat.le_trans hm (h.ca ad e)⟩
def kU (n:Nat) (w:World):PS→WF→PX→Prop
 | .one t d,f,.one a=>PNew n w t d f a
 | .two t d u m,f,.two a b=>f.pf=pC 0∧f.rl=0∧f.cl=0∧f.pl=2∧∃ blk g h,f.pa=some ⟨blk,0,none⟩∧n≤blk∧W6 w blk 0 g∧W6 w blk 6 h∧PNew n w t d g a∧PNew n w u m h b
 | _,_,_=>False
theorem kU.is {n:Nat} {w:World} {S:PS} {f:WF} {x:PX} (h:kU n w S f x):XIs w S f x:=by
 cases S<;>cases x<;>first | exact h.elim | exact PNew.is h | skip
 obtain ⟨h1,h2,h3,h4,blk,g,k,h5,_,h6,h7,h8,h9⟩:=h
 exact ⟨h1,h2,h3,h4,blk,0,g,k,h5,h6,by simpa using h7,h8.is,h9.is⟩
theorem kU.below {n:Nat} {w w':World} {S:PS} {f:WF} {x:PX} (h:kU n w S f x) (hb:Below w.heap.size w w'):kU n w' S f x:=by
 cases S<;>cases x<;>first | exact h.elim | exact PNew.below h hb | skip
 obtain ⟨h1,h2,h3,h4,blk,g,k,h5,h0,h6,h7,h8,h9⟩:=h
 exact ⟨h1,h2,h3,h4,blk,g,k,h5,h0,h6.below hb,h7.below hb,h8.below hb,h9.below hb⟩
theorem kU.mono {n m:Nat} {w:World} {S:PS} {f:WF} {x:PX} (h:kU n w S f x) (hm:m≤n):kU m w S f x:=by
 cases S<;>cases x<;>first | exact h.elim | exact PNew.mono h hm | skip
 obtain ⟨h1,h2,h3,h4,blk,g,k,h5,h0,h6,h7,h8,h9⟩:=h
 exact ⟨h1,h2,h3,h4,blk,g,k,h5,Nat.le_trans hm h0,h6,h7,h8.mono hm,h9.mono hm⟩
def jG (S:PS) (x:PX) (w:World) (e:Ending) (w':World):Prop:=∃ f:WF,e = .returned f.val∧kU w.heap.size w' S f x∧Below w.heap.size w w'
theorem mE (n:Nat) (w:World) (t d:Int):PNew n w t d pV dU :=
 ⟨⟨⟨.inl rfl,rfl,by decide,(fun r hr=>by cases hr),.inl rfl,rfl,(fun c hc=>by cases hc),by decide⟩,rfl,.zero,rfl⟩,(fun ad e=>by cases e),(fun ad e=>by cases e)⟩
theorem vQ {n:Nat} {w:World} {t d u m:Int} {blk:Nat} {g h:WF} {a b:PF} (h6:W6 w blk 0 g) (h7:W6 w blk 6 h) (hn:n≤blk) (ha:PNew n w t d g a) (hb:PNew n w u m h b):kU n w (.two t d u m) (oI blk) (.two a b) :=
 ⟨rfl,rfl,rfl,rfl,blk,g,h,rfl,hn,h6,h7,ha,hb⟩
def Row (w:World) (a:Option Addr) (zs:List Int):Prop :=
 zs=[]∨∃ b off,a=some ⟨b,off,none⟩∧∀ i,i < zs.length→w.cell? ⟨b,off+i,none⟩=some (.int .i64 (zs.getD i 0))
def okc (limit c:Int):Bool:=decide (-1≤c) && decide (c≤limit)
def chk (limit:Int) (zs:List Int):Int:=if limit < 0∨1048576 < limit then 20 else if zs.all (okc limit) then 0 else 21
theorem Es {w:World} {a:Addr} {v:Value} (h:w.cell? a=some v):a.block < w.heap.size:=by
 rcases Nat.lt_or_ge a.block w.heap.size with h' | h'
 ·exact h'
 ·simp [World.cell?,Array.getElem?_eq_none h'] at h
theorem Row.below {w w':World} {a:Option Addr} {zs:List Int} (h:Row w a zs) (hb:Below w.heap.size w w'):Row w' a zs:=by
 rcases h with h | ⟨b,off,rfl,hc⟩
 ·exact .inl h
 ·refine .inr ⟨b,off,rfl,fun i hi=>?_⟩
  have h1:=hc i hi
  rw [hb.cell]
  ·exact h1
  ·exact Es h1
theorem gQ.agree {A W:World} {lo:Nat} {a:Option Addr} {vs:List Value} (h:gQ A a vs) (hl:∀ ad,a=some ad→lo≤ad.block) (hg:cZ lo A W):gQ W a vs:=by
 rcases h with h | ⟨b,off,rfl,hc⟩
 ·exact .inl h
 ·exact .inr ⟨b,off,rfl,fun i v hi=>hg.cell (p:=⟨b,off+i,none⟩) (hl ⟨b,off,none⟩ rfl) (hc i v hi)⟩
theorem lS.agree {A W:World} {lo:Nat} {a:Option Addr} {cs:List Cl} (h:lS A a cs) (hl:∀ ad,a=some ad→lo≤ad.block) (hg:cZ lo A W):lS W a cs:=by
 rcases h with h | ⟨b,off,rfl,hc⟩
 ·exact .inl h
 ·exact .inr ⟨b,off,rfl,fun i c hi=>⟨hg.cell (p:=⟨b,_,none⟩) (hl ⟨b,off,none⟩ rfl) (hc i c hi).1,hg.cell (p:=⟨b,_,none⟩) (hl ⟨b,off,none⟩ rfl) (hc i c hi).2.1,hg.cell (p:=⟨b,_,none⟩) (hl ⟨b,off,none⟩ rfl) (hc i c hi).2.2⟩⟩
theorem W6.agree {A W:World} {lo b o:Nat} {f:WF} (h:W6 A b o f) (hb:lo≤b) (hg:cZ lo A W):W6 W b o f :=
 ⟨hg.cell hb h.1,hg.cell hb h.2.1,hg.cell hb h.2.2.1,hg.cell hb h.2.2.2.1,hg.cell hb h.2.2.2.2.1,hg.cell hb h.2.2.2.2.2⟩
theorem PNew.agree {n:Nat} {A W:World} {t d:Int} {f:WF} {a:PF} (h:PNew n A t d f a) (hg:cZ n A W):PNew n W t d f a :=
 ⟨⟨⟨h.is.at_.rows.agree h.ra hg,h.is.at_.rl,h.is.at_.g64,h.is.at_.r64,h.is.at_.cells.agree h.ca hg,h.is.at_.cl,h.is.at_.bits,h.is.at_.cmax⟩,h.is.pf,h.is.ok,h.is.pl⟩,h.ra,h.ca⟩
theorem kU.agree {n:Nat} {A W:World} {S:PS} {f:WF} {x:PX} (h:kU n A S f x) (hg:cZ n A W):kU n W S f x:=by
 cases S<;>cases x<;>first | exact h.elim | exact PNew.agree h hg | skip
 obtain ⟨h1,h2,h3,h4,blk,g,k,h5,h0,h6,h7,h8,h9⟩:=h
 exact ⟨h1,h2,h3,h4,blk,g,k,h5,h0,h6.agree h0 hg,h7.agree h0 hg,h8.agree hg,h9.agree hg⟩
theorem W6.cells {w:World} {b o:Nat} {f:WF} (h:W6 w b o f):aK w b o f.six:=⟨h.1,h.2.1,h.2.2.1,h.2.2.2.1,h.2.2.2.2.1,h.2.2.2.2.2,trivial⟩
theorem W6.of_cells {w:World} {b o:Nat} {f:WF} (h:aK w b o f.six):W6 w b o f:=⟨h.1,h.2.1,h.2.2.1,h.2.2.2.1,h.2.2.2.2.1,h.2.2.2.2.2.1⟩
abbrev SF.three (f:SF):List Value:=[.int .i64 f.tag,.int .i64 f.dim,.slice f.a f.len f.cap]
theorem S3.cells {w:World} {b o:Nat} {f:SF} (h:S3 w b o f):aK w b o f.three:=⟨h.1,h.2.1,h.2.2,trivial⟩
abbrev yD (c:Int):WF:=⟨false,c,0,none,0,0,[],none,0,0,[],none,0,0⟩
abbrev Ak (g:Nat) (a:Option Addr) (cap:Nat) (rows:List Nat):WF:=⟨false,0,g,a,rows.length,cap,rows,none,0,0,[],none,0,0⟩
abbrev qO (a:Option Addr) (cap:Nat) (cs:List Cl):WF:=⟨false,0,0,none,0,0,[],a,cs.length,cap,cs,none,0,0⟩
theorem oJ {n:Nat} {W:World} {t d c:Int} (h:OkP t d (pC c)):PNew n W t d (yD c) (pC c) :=
 ⟨⟨⟨.inl rfl,rfl,(by show (0:Nat) < _;decide),(fun r hr=>by cases hr),.inl rfl,rfl,(fun c hc=>by cases hc),(by show (0:Nat)≤_;decide)⟩,rfl,h,rfl⟩,(fun ad e=>by cases e),(fun ad e=>by cases e)⟩
theorem sM {n:Nat} {W:World} {t d:Int} {g:Nat} {a:Option Addr} {cap:Nat} {rows:List Nat} (h:OkP t d (pF g rows)) (hg:g < 18446744073709551616) (hr:∀ r∈rows,r < 18446744073709551616) (hv:gQ W a (dT rows)) (hl:∀ ad,a=some ad→n≤ad.block):PNew n W t d (Ak g a cap rows) (pF g rows) :=
 ⟨⟨⟨hv,rfl,hg,hr,.inl rfl,rfl,(fun c hc=>by cases hc),by simp [maxLen]⟩,rfl,h,rfl⟩,hl,(fun ad e=>by cases e)⟩
theorem sO {n:Nat} {W:World} {t d:Int} {a:Option Addr} {cap:Nat} {cs:List Cl} (h:OkP t d (pX cs)) (hb:H8 cs) (hm:cs.length≤maxLen) (hv:lS W a cs) (hl:∀ ad,a=some ad→n≤ad.block):PNew n W t d (qO a cap cs) (pX cs) :=
 ⟨⟨⟨.inl rfl,rfl,(by show (0:Nat) < _;decide),(fun r hr=>by cases hr),hv,rfl,hb,hm⟩,rfl,h,rfl⟩,(fun ad e=>by cases e),hl⟩
theorem PIs.z {w:World} {t n:Int} {f:WF} {x:PF} (h:PIs w t n f x):x.z=f.z:=by rw [← h.pf];rfl
theorem PIs.zero {w:World} {t n:Int} {f:WF} {x:PF} (h:PIs w t n f x) (hz:f.z=true):x=dU:=by
 have h1:=h.z;have h2:=h.ok
 rw [hz] at h1
 cases h2<;>first | rfl | cases h1
theorem nA {f:WF} {x:PF} (h:f.pf=x):f.z=x.z∧f.c=x.c∧f.g=x.g∧f.rows=x.rows∧f.cells=x.cells:=by subst h;exact ⟨rfl,rfl,rfl,rfl,rfl⟩
theorem PIs.k1 {w:World} {n:Int} {f:WF} {x:PF} (h:PIs w 1 n f x) (hz:f.z=false):x=pC 0:=by
 rcases Gz h.ok with rfl | rfl
 ·rw [(nA h.pf).1] at hz;cases hz
 ·rfl
theorem PIs.k2 {w:World} {n:Int} {f:WF} {x:PF} (h:PIs w 2 n f x) (hz:f.z=false):x=pC f.c∧0≤f.c∧f.c≤n:=by
 rcases G1 h.ok with rfl | ⟨c,rfl,h0,h1⟩
 ·rw [(nA h.pf).1] at hz;cases hz
 ·have:f.c=c:=(nA h.pf).2.1
  subst this;exact ⟨rfl,h0,h1⟩
theorem PIs.k3 {w:World} {m:Nat} {f:WF} {x:PF} (h:PIs w 3 m f x) (hz:f.z=false):x=pF f.g f.rows∧Good m f.g f.rows:=by
 rcases G3 h.ok with rfl | ⟨g,rows,rfl,h0⟩
 ·rw [(nA h.pf).1] at hz;cases hz
 ·have h1:f.g=g:=(nA h.pf).2.2.1
  have h2:f.rows=rows:=(nA h.pf).2.2.2.1
  subst h1;subst h2;exact ⟨rfl,h0⟩
theorem PIs.k4 {w:World} {m:Nat} {f:WF} {x:PF} (h:PIs w 4 m f x) (hz:f.z=false):x=pX f.cells∧Val m f.cells:=by
 rcases G4 h.ok with rfl | ⟨cs,rfl,h0⟩
 ·rw [(nA h.pf).1] at hz;cases hz
 ·have h1:f.cells=cs:=(nA h.pf).2.2.2.2
  subst h1;exact ⟨rfl,h0⟩
theorem row_own {W:World} {B:Nat} {T:TypeId} {a b:Int} (h:W.heap[B]?=some (.cells (List.toArray [.int .i64 a,.int .i64 b]) T (0,0))):Row W (some ⟨B,0,none⟩) [a,b]:=by
 refine .inr ⟨B,0,rfl,fun i hi=>?_⟩
 match i,hi with
 | 0,_=>exact aJ h rfl
 | 1,_=>exact aJ h rfl
theorem mF {t n:Int} {l:Nat} (h:bS t n l=true):t≠5:=uN h
section
variable {w W:World} {k:Nat} {n:Int} {f g:WF} {x y:PF}
theorem hY {t:Int} {f:WF} {x:PF} (h:PNew w.heap.size W t n f x) (hb:Below w.heap.size w W):jG (.one t n) (.one x) w (.returned f.val) W:=⟨f,rfl,h,hb⟩
theorem ext_zL {t:Int} (hx:PIs w t n f x) (hz:f.z=true) (hb:Below w.heap.size w W):jG (.one t n) (.one (iF t n x y)) w (.returned pV.val) W:=by
 rw [hx.zero hz,K9];exact hY (mE _ _ _ _) hb
theorem ext_zR {t:Int} (hy:PIs w t n g y) (hz:g.z=true) (hb:Below w.heap.size w W):jG (.one t n) (.one (iF t n x y)) w (.returned pV.val) W:=by
 rw [hy.zero hz,La];exact hY (mE _ _ _ _) hb
theorem ext_f1 (hx:PIs w 1 n f x) (hy:PIs w 1 n g y) (hf:f.z=false) (hg:g.z=false):PNew k W 1 n (yD 0) (iF 1 n x y):=by
 rw [hx.k1 hf,hy.k1 hg,Lf];exact oJ (.bool rfl)
theorem ext_f3 {m:Nat} {a:Option Addr} {cap:Nat} (hx:PIs w 3 m f x) (hy:PIs w 3 m g y) (hf:f.z=false) (hg:g.z=false) (hv:gQ W a (dT (sL m f.g f.rows g.g g.rows))) (hl:∀ ad,a=some ad→k≤ad.block):PNew k W 3 m (Ak (tY m f.g f.rows g.g g.rows) a cap (sL m f.g f.rows g.g g.rows)) (iF 3 m x y):=by
 obtain ⟨hx',h0⟩:=hx.k3 hf
 obtain ⟨hy',h1⟩:=hy.k3 hg
 rw [hx',hy',Lh]
 exact sM (.facts m _ _ rfl rfl (h0.extT h1)) (h0.extT h1).g64 (h0.extT h1).r64 hv hl
theorem comb_f1 (hx:PIs w 1 n f x) (hy:PIs w 1 n g y) (hf:f.z=false) (hg:g.z=false):PNew k W 1 n (yD 0) (fH 1 n x y):=by
 rw [hx.k1 hf,hy.k1 hg,Lb];exact oJ (.bool rfl)
theorem comb_f3 {m:Nat} {a:Option Addr} {cap:Nat} (hx:PIs w 3 m f x) (hy:PIs w 3 m g y) (hf:f.z=false) (hg:g.z=false) (hv:gQ W a (dT (nN m f.g f.rows g.g g.rows))) (hl:∀ ad,a=some ad→k≤ad.block):PNew k W 3 m (Ak (oF m f.g f.rows g.g g.rows) a cap (nN m f.g f.rows g.g g.rows)) (fH 3 m x y):=by
 obtain ⟨hx',h0⟩:=hx.k3 hf
 obtain ⟨hy',h1⟩:=hy.k3 hg
 rw [hx',hy',Ld]
 exact sM (.facts m _ _ rfl rfl (h0.combT h1)) (h0.combT h1).g64 (h0.combT h1).r64 hv hl
theorem Lo {t:Int} (hp:bS t n 0=true) (h3:t≠3) (h4:t≠4):PNew k W t n (yD 0) (fQ t n):=by
 have h:=uM hp
 have e:fQ t n=pC 0:=by unfold fQ;rw [if_neg h3,if_neg h4]
 rw [e] at h ⊢
 exact oJ h
theorem Lp {m:Nat} {a:Option Addr} {cap:Nat} (hm:m≤64) (hv:gQ W a (dT (fJ m))) (hl:∀ ad,a=some ad→k≤ad.block):PNew k W 3 m (Ak 0 a cap (fJ m)) (fQ 3 m):=by
 rw [G5]
 exact sM (.facts m _ _ rfl rfl (jD hm)) (by decide) (jD hm).r64 hv hl
theorem Lq {m:Nat} {a:Option Addr} {cap:Nat} (hm:m≤64) (hv:lS W a (eM m)) (hl:∀ ad,a=some ad→k≤ad.block):PNew k W 4 m (qO a cap (eM m)) (fQ 4 m):=by
 have h:=Cs hm
 rw [G6]
 exact sO (.cells m _ rfl rfl h) h.bits (by have:=h.len;unfold maxLen;omega) hv hl
theorem Ct {t:Int} {l:Nat} (h:bS t n l=true) (ht:t=3∨t=4):∃ m:Nat,n=m∧m≤64:=by
 obtain ⟨d0,_,_,d3⟩:=qK h
 exact ⟨n.toNat,by omega,by have:=d3 ht;omega⟩
end
def SIs (w:World):PS→SF→Prop
 | .one t n,f=>∃ a c,f=⟨t,n,a,0,c⟩
 | .two t n u m,f=>∃ b off c a1 c1 a2 c2,f=⟨5,0,some ⟨b,off,none⟩,2,c⟩∧S3 w b off ⟨t,n,a1,0,c1⟩∧S3 w b (off+3) ⟨u,m,a2,0,c2⟩
theorem SIs.below {w w':World} {S:PS} {f:SF} (h:SIs w S f) (hb:Below w.heap.size w w'):SIs w' S f:=by
 cases S with
 | one t n=>exact h
 | two t n u m =>
  obtain ⟨b,off,c,a1,c1,a2,c2,h1,h2,h3⟩:=h
  exact ⟨b,off,c,a1,c1,a2,c2,h1,h2.below hb,h3.below hb⟩
def eY (lo:Nat) (S:PS) (x:PX):Asr:=fun v w=>∃ f:WF,v=f.val∧kU lo w S f x
theorem eO {lo:Nat} {S:PS} {x:PX}:kL (eY lo S x):=fun v w w' ⟨f,h1,h2⟩ hb=>⟨f,h1,h2.below hb⟩
theorem fS {P:Program} {f:FuncId} {vs:Array Value} {w:World} {S:PS} {x:PX} {lo:Nat} (hlo:lo≤w.heap.size) (h:Calls P f vs w (jG S x w)):Calls P f vs w (Be (eY lo S x) w):=h.mono fun e w' ⟨f,he,hn,hb⟩=>⟨f.val,he,⟨f,rfl,hn.mono hlo⟩,hb⟩
theorem Et {p q:Asr} {vs:List Value} {w:World} (h:nM [p,q] vs w):∃ a b,vs=[a,b]∧p a w∧q b w:=by
 match vs,h with
 | [a,b],h=>exact ⟨a,b,rfl,h.1,h.2.1⟩
theorem Eu {w:World} {lo:Nat} {t n u m:Int} {a b:PF} {vs:List Value} (hlo:lo≤w.heap.size) (h:nM [eY lo (.one t n) (.one a),eY lo (.one u m) (.one b)] vs w):Calls prog 80 vs.toArray w (Be (eY lo (.two t n u m) (.two a b)) w):=by
 obtain ⟨v1,v2,rfl,⟨f,rfl,hf⟩,g,rfl,hg⟩:=Et h
 refine (G7 f g w).mono ?_
 rintro e w' ⟨blk,rfl,h6,h7,hb1,hb⟩
 exact ⟨_,rfl,⟨oI blk,rfl,vQ h6 h7 (Nat.le_trans hlo hb1) (PNew.below hf hb) (PNew.below hg hb)⟩,hb⟩
theorem G8:bW prog 77=true:=by kernel_rfl
theorem goes_78:bW prog 78=true:=by kernel_rfl
theorem goes_79:bW prog 79=true:=by kernel_rfl
theorem vR (p q:SV) (g:WF) (qs:List WV) {w:World} {e:Nat} (hw:WIn w (e+1) (.mk g qs)):g.z=true∨(g.z=false∧g.pl≠2)∨(∃ x y,g.z=false∧qs=[x,y]∧eU p.f.tag p.f.dim x.f=false)∨(∃ x y,g.z=false∧qs=[x,y]∧eU p.f.tag p.f.dim x.f=true):=by
 cases hz:g.z with
 | true=>exact .inl rfl
 | false =>
  refine .inr ?_
  by_cases h2:g.pl=2
  ·refine .inr ?_
   obtain ⟨x,y,rfl⟩:=qJ (hw.2.1.trans h2)
   cases h:eU p.f.tag p.f.dim x.f with
   | false=>exact .inl ⟨x,y,rfl,rfl,h⟩
   | true=>exact .inr ⟨x,y,rfl,rfl,h⟩
  ·exact .inl ⟨rfl,h2⟩
theorem nB (t n:Int) (a:Option Addr) (l c0:Nat) (f:WF) (hp:bS t n l=true) (hs:0≤f.rl) (w:World) (hf:f.At w) (r:Bool) (hr:eU t n f=r) :
  Calls prog 65 #[.agg #[.int .i64 t,.int .i64 n,.slice a l c0],f.val] w (fun e w'=>e = .returned (.bool (r))∧Below w.heap.size w w'):=by
 refine cG (args:=[.agg #[.int .i64 t,.int .i64 n,.slice a l c0],f.val]) func65 rfl ntmps65 rfl ?_
 have hS:=St.start w
 have htg:=(fP hp).2
 have h5:t≠5:=by omega
 refine aO (aR (bQ (cs:=[_,_,_]) hS rfl rfl rfl fun B1 W1 hS=>bQ (cs:=[_,_,_,_,_,_]) hS rfl rfl rfl fun B2 W2 hS=>aB rfl rfl (aQ (XF.thenN (aO (aO (aR (aU (vs:=[_,_,_]) isAgg25 sizeOf25 rfl (aK.own (j:=0) (m:=3) (hS.at_ 1 rfl) rfl) rfl (aU (vs:=[_,_,_,_,_,_]) isAgg56 sizeOf56 rfl (aK.own (j:=0) (m:=6) (hS.at_ 0 rfl) rfl) rfl (bT (vs:=[_,_]) hS G8 rfl (Gq t n a l c0 f _ rfl _) rfl fun W3 hS=>dV rfl rfl (aQ (XF.thenN (bC rfl (fun hc=>?_) (fun hc=>?_))))))))))))))
 ·have hc8:=hc;clear hc
  refine aO (aR (aB rfl rfl (aQ (XF.thenN (bM (XF.thenR (XF.res (bV results65 rfl) ?_)))))))
  exact ⟨bR (by rw [← hr];unfold eU;rw [show hH t f=false by simpa using hc8];rfl),hS.below⟩
 ·have hc8:=hc;clear hc
  have hbb:hH t f=true:=by simpa using hc8
  refine bH (XF.thenN (aO (aO (aR (aN (o':=0) dZ rfl rfl rfl (aT isAgg22 rfl (aJ (hS.at_ 1 rfl) rfl) rfl (cM rfl rfl rfl (aQ (XF.thenN (bC rfl (fun hc=>absurd (of_decide_eq_true hc) (by exact h5)) (fun hc=>?_)))))))))))
  have hc:=of_decide_eq_false hc
  refine bH (XF.thenN (aO (aO (aR (aN (o':=0) eD rfl rfl rfl (aT isAgg4 rfl (aJ (hS.at_ 0 rfl) rfl) rfl (aQ (XF.thenN (bC rfl (fun hc=>?_) (fun hc=>?_))))))))))
  ·have hc44:=hc;clear hc
   refine aO (aR (aB rfl rfl (aQ (XF.thenN (bM (XF.thenR (XF.res (bV results65 rfl) ?_)))))))
   exact ⟨bR (by rw [← hr];unfold eU;rw [hbb,show f.z=true from hc44];rfl),hS.below⟩
  ·have hc44:=hc;clear hc
   have hz:f.z=false:=hc44
   refine bH (XF.thenN (aO (aO (aR (aN (o':=0) dZ rfl rfl rfl (aT isAgg22 rfl (aJ (hS.at_ 1 rfl) rfl) rfl (aQ (XF.thenN (bI (aO (aR (cM rfl rfl rfl (aB rfl rfl (aQ (XF.thenN (bC rfl (fun hc=>?_) (fun hc=>?_)))))))))))))))))
   ·have hc47:=of_decide_eq_true hc;clear hc
    refine aO (aR (aN (o':=1) gC rfl rfl rfl (aT isAgg3 rfl (aJ (hS.at_ 0 rfl) rfl) rfl (gV rfl rfl rfl (aI rfl rfl (bG (d:=52) rfl (fun hc=>?_) (fun hc=>?_)))))))
    ·have hg52:=of_decide_eq_true hc;clear hc
     refine aC (d:=52) rfl rfl (aN (o':=1) gC rfl rfl rfl (aC (d:=52) rfl rfl (aT isAgg3 rfl (aJ (hS.at_ 0 rfl) rfl) rfl (aC (d:=52) rfl rfl (aN (o':=1) eS rfl rfl rfl (aC (d:=52) rfl rfl (aT isAgg3 rfl (aJ (hS.at_ 1 rfl) rfl) rfl (aC (d:=52) rfl rfl (Jv rfl rfl rfl (aY rfl rfl rfl (aB rfl rfl (aQ (XF.thenN (bM (XF.blkR (XF.thenR (XF.res (bV results65 rfl) ?_)))))))))))))))))
     exact ⟨bR (by rw [← hr];unfold eU;rw [hbb,hz,if_pos hc47];simp [show (0:Int)≤f.c from hg52]),hS.below⟩
    ·have hg52:=of_decide_eq_false hc;clear hc
     refine aF (d:=52) rfl rfl rfl rfl (aF (d:=52) rfl rfl rfl rfl (aF (d:=52) rfl rfl rfl rfl (aF (d:=52) rfl rfl rfl rfl (aF (d:=52) rfl rfl rfl rfl (bN rfl rfl rfl (aB rfl rfl (aQ (XF.thenN (bM (XF.blkR (XF.thenR (XF.res (bV results65 rfl) ?_))))))))))))
     exact ⟨bR (by rw [← hr];unfold eU;rw [hbb,hz,if_pos hc47];simp [show ¬ (0:Int)≤f.c from hg52]),hS.below⟩
   ·have hc47:=of_decide_eq_false hc;clear hc
    refine aO (aR (cM rfl rfl rfl (aB rfl rfl (aQ (XF.thenN (bC rfl (fun hc=>?_) (fun hc=>?_)))))))
    ·have hc59:=of_decide_eq_true hc;clear hc
     refine aO (aR (aN (o':=1) eS rfl rfl rfl (aT isAgg3 rfl (aJ (hS.at_ 1 rfl) rfl) rfl (aN (o':=2) gD rfl rfl rfl (aU (vs:=[_,_]) isAgg52 sizeOf52 rfl (aK.own (j:=2) (m:=2) (hS.at_ 0 rfl) rfl) rfl (bT (vs:=[_,_]) hS goes_78 rfl (Eh n f.ra f.rc f.g f.rows _ (hf.below hS.below) _ rfl f.rl hf.rl) rfl fun W4 hS=>cM rfl rfl rfl (aB rfl rfl (aQ (XF.thenN (bM (XF.blkR (XF.thenR (XF.res (bV results65 rfl) ?_)))))))))))))
     exact ⟨bR (by rw [← hr];unfold eU;rw [hbb,hz,if_neg hc47,if_pos hc59];rfl),hS.below⟩
    ·have hc59:=of_decide_eq_false hc;clear hc
     refine aO (aR (cM rfl rfl rfl (aB rfl rfl (aQ (XF.thenN (bC rfl (fun hc=>?_) (fun hc=>?_)))))))
     ·have hc67:=of_decide_eq_true hc;clear hc
      refine aO (aR (aN (o':=1) eS rfl rfl rfl (aT isAgg3 rfl (aJ (hS.at_ 1 rfl) rfl) rfl (aN (o':=4) dJ rfl rfl rfl (aT isAgg53 rfl (aJ (hS.at_ 0 rfl) rfl) rfl ?_)))))
      refine bT (vs:=[_,_]) hS goes_79 rfl (Kd n f.ca f.cl f.cc f.cells _ _ hf.cl (by rw [hf.cl];exact hf.cmax) (hf.cells.below hS.below) hf.bits rfl) rfl fun W5 hS=>?_
      refine cM rfl rfl rfl (aB rfl rfl (aQ (XF.thenN (bM (XF.blkR (XF.thenR (XF.res (bV results65 rfl) ?_)))))))
      exact ⟨bR (by rw [← hr];unfold eU;rw [hbb,hz,if_neg hc47,if_neg hc59,if_pos hc67];rfl),hS.below⟩
     ·have hc67:=of_decide_eq_false hc;clear hc
      refine bH (XF.blkN (XF.thenN (aO (aR (aB rfl rfl (aQ (XF.thenN (bM (XF.res (bV results65 rfl) ?_)))))))))
      exact ⟨bR (by rw [← hr];unfold eU;rw [hbb,hz,if_neg hc47,if_neg hc59,if_neg hc67];rfl),hS.below⟩
theorem Ip (d:Nat) (sa:Option Addr) (sc:Nat) (p q:SV) (g:WF) (qs:List WV) (w:World) (hsp:SIn w (d+1) (.mk ⟨5,0,sa,2,sc⟩ [p,q])) (hp:p.pl=true) (hq:q.pl=true) (e:Nat) (hw:WIn w (e+1) (.mk g qs)) (hs:∀ x∈qs,0≤x.f.rl) (r:Bool) (hr:gA p q g qs=r) :
  Calls prog 65 #[.agg #[.int .i64 5,.int .i64 0,.slice sa 2 sc],g.val] w (fun e w'=>e = .returned (.bool (r))∧Below w.heap.size w w'):=by
 refine cG (args:=[.agg #[.int .i64 5,.int .i64 0,.slice sa 2 sc],g.val]) func65 rfl ntmps65 rfl ?_
 have hS:=St.start w
 obtain ⟨_,b,off,ha,hb0,hp3,hq3,_,_⟩:=hsp.two
 obtain rfl:sa=some ⟨b,off,none⟩:=ha
 refine aO (aR (bQ (cs:=[_,_,_]) hS rfl rfl rfl fun B1 W1 hS=>bQ (cs:=[_,_,_,_,_,_]) hS rfl rfl rfl fun B2 W2 hS=>aB rfl rfl (aQ (XF.thenN (aO (aO (aR (aU (vs:=[_,_,_]) isAgg25 sizeOf25 rfl (aK.own (j:=0) (m:=3) (hS.at_ 1 rfl) rfl) rfl (aU (vs:=[_,_,_,_,_,_]) isAgg56 sizeOf56 rfl (aK.own (j:=0) (m:=6) (hS.at_ 0 rfl) rfl) rfl (bT (vs:=[_,_]) hS G8 rfl (Gq 5 0 _ 2 sc g _ rfl _) rfl fun W3 hS=>dV rfl rfl (aQ (XF.thenN (bC rfl (fun hc=>?_) (fun hc=>?_))))))))))))))
 ·have hc8:=hc;clear hc
  refine aO (aR (aB rfl rfl (aQ (XF.thenN (bM (XF.thenR (XF.res (bV results65 rfl) ?_)))))))
  exact ⟨bR (by rw [← hr];unfold gA;rw [show hH 5 g=false by simpa using hc8];rfl),hS.below⟩
 ·have hc8:=hc;clear hc
  have hbb:hH 5 g=true:=by simpa using hc8
  refine bH (XF.thenN (aO (aO (aR (aN (o':=0) dZ rfl rfl rfl (aT isAgg22 rfl (aJ (hS.at_ 1 rfl) rfl) rfl (cM rfl rfl rfl (aQ (XF.thenN (bC rfl (fun hc=>?_) (fun hc=>absurd (of_decide_eq_false hc) (by decide))))))))))))
  have hc:=of_decide_eq_true hc
  refine aO ?_
  rcases vR p q g qs hw with h1 | h1 | h1 | h1
  ·skip
   refine gP (m:=32) bY hS (by kernel_rfl) (by kernel_rfl) rfl (cB 1 rfl 3 rfl rfl (fun w hw=>aV (o':=0) eD rfl rfl) rfl (bD 2 rfl 12 0 rfl rfl rfl (fun w hw=>aX isAgg4 rfl ((aP hw 0).cell (Nat.zero_le _) (aJ (hS.at_ 0 rfl) rfl))) rfl ?_))
   refine aM 3 rfl (isV (.bool false)) (aH _) (jR (li:=[(13,_)]) rfl (aS rfl) ⟨aL 1 (aA rfl rfl rfl),trivial⟩ (fun w hw=>gU rfl) (by rw [h1];rfl) (aD rfl)) ?_
   refine bD 4 rfl 14 2 rfl rfl rfl (fun w hw=>aZ rfl) rfl (aM 5 rfl (isV undef) (aH _) (bJ rfl (bK 15 rfl (aA rfl rfl rfl) rfl) (aD rfl)) (aM 6 rfl (isV undef) (aH _) (bJ rfl (bK 15 rfl (aA rfl rfl rfl) rfl) (aD rfl)) (aM 7 rfl (isV undef) (aH _) (bJ rfl (bK 15 rfl (aA rfl rfl rfl) rfl) (aD rfl)) (aM 8 rfl (isV undef) (aH _) (bJ rfl (bK 15 rfl (aA rfl rfl rfl) rfl) (aD rfl)) (bD 9 rfl 15 3 rfl rfl rfl (fun w hw=>dH rfl rfl) rfl (bD 10 rfl 20 8 rfl rfl rfl (fun w hw=>aZ rfl) rfl (aM 11 rfl (isV undef) (aH _) (bJ rfl (bK 21 rfl (aA rfl rfl rfl) rfl) (aD rfl)) (aM 12 rfl (isV undef) (aH _) (bJ rfl (bK 21 rfl (aA rfl rfl rfl) rfl) (aD rfl)) (aM 13 rfl (isV undef) (aH _) (bJ rfl (bK 21 rfl (aA rfl rfl rfl) rfl) (aD rfl)) (aM 14 rfl (isV undef) (aH _) (bJ rfl (bK 21 rfl (aA rfl rfl rfl) rfl) (aD rfl)) (aM 15 rfl (isV undef) (aH _) (bJ rfl (bK 21 rfl (aA rfl rfl rfl) rfl) (aD rfl)) (aM 16 rfl (isV undef) (aH _) (bJ rfl (bK 21 rfl (aA rfl rfl rfl) rfl) (aD rfl)) (aM 17 rfl (isV undef) (aH _) (bJ rfl (bK 21 rfl (aA rfl rfl rfl) rfl) (aD rfl)) (aM 18 rfl (isV undef) (aH _) (bJ rfl (bK 21 rfl (aA rfl rfl rfl) rfl) (aD rfl)) (aM 19 rfl (isV undef) (aH _) (bJ rfl (bK 21 rfl (aA rfl rfl rfl) rfl) (aD rfl)) (bD 20 rfl 21 9 rfl rfl rfl (fun w hw=>dH rfl rfl) rfl (bD 21 rfl 31 19 rfl rfl rfl (fun w hw=>aZ rfl) rfl (aM 22 rfl (isV undef) (aH _) (bJ rfl (bK 32 rfl (aA rfl rfl rfl) rfl) (aD rfl)) (aM 23 rfl (isV undef) (aH _) (bJ rfl (bK 32 rfl (aA rfl rfl rfl) rfl) (aD rfl)) (aM 24 rfl (isV undef) (aH _) (bJ rfl (bK 32 rfl (aA rfl rfl rfl) rfl) (aD rfl)) (aM 25 rfl (isV undef) (aH _) (bJ rfl (bK 32 rfl (aA rfl rfl rfl) rfl) (aD rfl)) (aM 26 rfl (isV undef) (aH _) (bJ rfl (bK 32 rfl (aA rfl rfl rfl) rfl) (aD rfl)) (aM 27 rfl (isV undef) (aH _) (bJ rfl (bK 32 rfl (aA rfl rfl rfl) rfl) (aD rfl)) (aM 28 rfl (isV undef) (aH _) (bJ rfl (bK 32 rfl (aA rfl rfl rfl) rfl) (aD rfl)) (aM 29 rfl (isV undef) (aH _) (bJ rfl (bK 32 rfl (aA rfl rfl rfl) rfl) (aD rfl)) (aM 30 rfl (isV undef) (aH _) (bJ rfl (bK 32 rfl (aA rfl rfl rfl) rfl) (aD rfl)) (bD 31 rfl 32 20 rfl rfl rfl (fun w hw=>dH rfl rfl) rfl (bD 32 rfl 42 30 rfl rfl rfl (fun w hw=>fE rfl) rfl (dB ?_)))))))))))))))))))))))))))))
   intro W4 hbR hS'
   clear hS;have hS:=hS';clear hS'
   refine aG (aG (aG (aG (aG (aG (aG (aG (aG (aG (aG (aG (aG (aG (aG (aG (aG (aG (aG (aG (aG (aG (aG (aG (aG (aG (aG (aG (aG (aG (aG (aG (cH ?_))))))))))))))))))))))))))))))))
   refine XF.thenN (bM (XF.thenR (XF.res (bV results65 rfl) ?_)))
   exact ⟨bR (by rw [← hr];unfold gA;rw [hbb,h1];rfl),hS.below⟩
  ·obtain ⟨hz,h2⟩:=h1
   refine gP (m:=32) bY hS (by kernel_rfl) (by kernel_rfl) rfl (cB 1 rfl 3 rfl rfl (fun w hw=>aV (o':=0) eD rfl rfl) rfl (bD 2 rfl 12 0 rfl rfl rfl (fun w hw=>aX isAgg4 rfl ((aP hw 0).cell (Nat.zero_le _) (aJ (hS.at_ 0 rfl) rfl))) rfl ?_))
   refine aM 3 rfl (isV (.bool true)) (aH _) (jR (li:=[(13,_)]) rfl (aS rfl) ⟨aL 1 (aA rfl rfl rfl),trivial⟩ (fun w hw=>gU rfl) (by rw [hz];rfl) (aD rfl)) ?_
   refine bD 4 rfl 14 2 rfl rfl rfl (fun w hw=>aZ rfl) rfl (aM 5 rfl (isV _) (aH _) (rgV (li:=[(3,_)]) rfl (bE 15 rfl (aA rfl rfl rfl)) ⟨bP rfl,trivial⟩ (fun w hw=>aV (o':=5) cV rfl rfl) (aD rfl)) (aM 6 rfl (isV _) (aH _) (rgV (li:=[(16,_)]) rfl (bE 15 rfl (aA rfl rfl rfl)) ⟨aL 4 (aA rfl rfl rfl),trivial⟩ (fun w hw=>aX isAgg54 rfl ((aP hw 0).cell (Nat.zero_le _) (aJ (hS.at_ 0 rfl) rfl))) (aD rfl)) (aM 7 rfl (isV _) (aH _) (rgV (li:=[(17,_)]) rfl (bE 15 rfl (aA rfl rfl rfl)) ⟨aL 5 (aA rfl rfl rfl),trivial⟩ (fun w hw=>mQ underlying54 rfl) (aD rfl)) (aM 8 rfl (isV (.bool false)) (aH _) (jR (li:=[(18,_)]) rfl (bE 15 rfl (aA rfl rfl rfl)) ⟨aL 6 (aA rfl rfl rfl),trivial⟩ (fun w hw=>mS rfl rfl) (by rw [decide_eq_false (by omega)]) (aD rfl)) (aM 9 rfl (isV _) (aH _) (rgV (li:=[(15,_),(19,_)]) rfl (aS rfl) ⟨aL 3 (aA rfl rfl rfl),aL 7 (aA rfl rfl rfl),trivial⟩ (fun w hw=>dG rfl rfl) (aD rfl)) (bD 10 rfl 20 8 rfl rfl rfl (fun w hw=>aZ rfl) rfl (aM 11 rfl (isV undef) (aH _) (bJ rfl (bK 21 rfl (aA rfl rfl rfl) rfl) (aD rfl)) (aM 12 rfl (isV undef) (aH _) (bJ rfl (bK 21 rfl (aA rfl rfl rfl) rfl) (aD rfl)) (aM 13 rfl (isV undef) (aH _) (bJ rfl (bK 21 rfl (aA rfl rfl rfl) rfl) (aD rfl)) (aM 14 rfl (isV undef) (aH _) (bJ rfl (bK 21 rfl (aA rfl rfl rfl) rfl) (aD rfl)) (aM 15 rfl (isV undef) (aH _) (bJ rfl (bK 21 rfl (aA rfl rfl rfl) rfl) (aD rfl)) (aM 16 rfl (isV undef) (aH _) (bJ rfl (bK 21 rfl (aA rfl rfl rfl) rfl) (aD rfl)) (aM 17 rfl (isV undef) (aH _) (bJ rfl (bK 21 rfl (aA rfl rfl rfl) rfl) (aD rfl)) (aM 18 rfl (isV undef) (aH _) (bJ rfl (bK 21 rfl (aA rfl rfl rfl) rfl) (aD rfl)) (aM 19 rfl (isV undef) (aH _) (bJ rfl (bK 21 rfl (aA rfl rfl rfl) rfl) (aD rfl)) (bD 20 rfl 21 9 rfl rfl rfl (fun w hw=>dH rfl rfl) rfl (bD 21 rfl 31 19 rfl rfl rfl (fun w hw=>aZ rfl) rfl (aM 22 rfl (isV undef) (aH _) (bJ rfl (bK 32 rfl (aA rfl rfl rfl) rfl) (aD rfl)) (aM 23 rfl (isV undef) (aH _) (bJ rfl (bK 32 rfl (aA rfl rfl rfl) rfl) (aD rfl)) (aM 24 rfl (isV undef) (aH _) (bJ rfl (bK 32 rfl (aA rfl rfl rfl) rfl) (aD rfl)) (aM 25 rfl (isV undef) (aH _) (bJ rfl (bK 32 rfl (aA rfl rfl rfl) rfl) (aD rfl)) (aM 26 rfl (isV undef) (aH _) (bJ rfl (bK 32 rfl (aA rfl rfl rfl) rfl) (aD rfl)) (aM 27 rfl (isV undef) (aH _) (bJ rfl (bK 32 rfl (aA rfl rfl rfl) rfl) (aD rfl)) (aM 28 rfl (isV undef) (aH _) (bJ rfl (bK 32 rfl (aA rfl rfl rfl) rfl) (aD rfl)) (aM 29 rfl (isV undef) (aH _) (bJ rfl (bK 32 rfl (aA rfl rfl rfl) rfl) (aD rfl)) (aM 30 rfl (isV undef) (aH _) (bJ rfl (bK 32 rfl (aA rfl rfl rfl) rfl) (aD rfl)) (bD 31 rfl 32 20 rfl rfl rfl (fun w hw=>dH rfl rfl) rfl (bD 32 rfl 42 30 rfl rfl rfl (fun w hw=>fE rfl) rfl (dB ?_)))))))))))))))))))))))))))))
   intro W5 hbR hS'
   clear hS;have hS:=hS';clear hS'
   refine aG (aG (aG (aG (aG (aG (aG (aG (aG (aG (aG (aG (aG (aG (aG (aG (aG (aG (aG (aG (aG (aG (aG (aG (aG (aG (aG (aG (aG (aG (aG (aG (cH ?_))))))))))))))))))))))))))))))))
   refine XF.thenN (bM (XF.thenR (XF.res (bV results65 rfl) ?_)))
   exact ⟨bR (by rw [← hr];unfold gA;rw [hbb,hz,show decide (qs.length=2)=false from decide_eq_false (by have h9:qs.length=g.pl:=hw.2.1;omega)];rfl),hS.below⟩
  ·obtain ⟨x,y,hz,rfl,hx1⟩:=h1
   obtain ⟨hpl,b2,off2,hpa,hb2,hx6,hy6,hxi,hyi⟩:=hw.two
   obtain ⟨gz,gc,gg,gra,grl,grc,grows,gca,gcl,gcc,gcells,gpa,gpl,gpc⟩:=g
   dsimp only at hpl hpa hz
   subst hpl;subst hpa
   refine gP (m:=32) bY hS (by kernel_rfl) (by kernel_rfl) rfl (cB 1 rfl 3 rfl rfl (fun w hw=>aV (o':=0) eD rfl rfl) rfl (bD 2 rfl 12 0 rfl rfl rfl (fun w hw=>aX isAgg4 rfl ((aP hw 0).cell (Nat.zero_le _) (aJ (hS.at_ 0 rfl) rfl))) rfl ?_))
   refine aM 3 rfl (isV (.bool true)) (aH _) (jR (li:=[(13,_)]) rfl (aS rfl) ⟨aL 1 (aA rfl rfl rfl),trivial⟩ (fun w hw=>gU rfl) (by rw [hz];rfl) (aD rfl)) ?_
   refine bD 4 rfl 14 2 rfl rfl rfl (fun w hw=>aZ rfl) rfl (aM 5 rfl (isV _) (aH _) (rgV (li:=[(3,_)]) rfl (bE 15 rfl (aA rfl rfl rfl)) ⟨bP rfl,trivial⟩ (fun w hw=>aV (o':=5) cV rfl rfl) (aD rfl)) (aM 6 rfl (isV _) (aH _) (rgV (li:=[(16,_)]) rfl (bE 15 rfl (aA rfl rfl rfl)) ⟨aL 4 (aA rfl rfl rfl),trivial⟩ (fun w hw=>aX isAgg54 rfl ((aP hw 0).cell (Nat.zero_le _) (aJ (hS.at_ 0 rfl) rfl))) (aD rfl)) (aM 7 rfl (isV _) (aH _) (rgV (li:=[(17,_)]) rfl (bE 15 rfl (aA rfl rfl rfl)) ⟨aL 5 (aA rfl rfl rfl),trivial⟩ (fun w hw=>mQ underlying54 rfl) (aD rfl)) (aM 8 rfl (isV (.bool true)) (aH _) (jR (li:=[(18,_)]) rfl (bE 15 rfl (aA rfl rfl rfl)) ⟨aL 6 (aA rfl rfl rfl),trivial⟩ (fun w hw=>mS rfl rfl) (rfl) (aD rfl)) (aM 9 rfl (isV _) (aH _) (rgV (li:=[(15,_),(19,_)]) rfl (aS rfl) ⟨aL 3 (aA rfl rfl rfl),aL 7 (aA rfl rfl rfl),trivial⟩ (fun w hw=>dG rfl rfl) (aD rfl)) (bD 10 rfl 20 8 rfl rfl rfl (fun w hw=>aZ rfl) rfl (aM 11 rfl (isV _) (aH _) (rgV (li:=[(2,_)]) rfl (bE 21 rfl (aA rfl rfl rfl)) ⟨bP rfl,trivial⟩ (fun w hw=>aV (o':=2) dM rfl rfl) (aD rfl)) (aM 12 rfl (isV _) (aH _) (rgV (li:=[(22,_)]) rfl (bE 21 rfl (aA rfl rfl rfl)) ⟨aL 10 (aA rfl rfl rfl),trivial⟩ (fun w hw=>aX isAgg23 rfl ((aP hw 0).cell (Nat.zero_le _) (aJ (hS.at_ 1 rfl) rfl))) (aD rfl)) ?_))))))))
   refine aM 13 rfl (isV _) (aH _) (rgV (li:=[(23,_)]) rfl (bE 21 rfl (aA rfl rfl rfl)) ⟨aL 11 (aA rfl rfl rfl),trivial⟩ (fun w hw=>bA (j:=0) underlying23 sizeOf25 rfl rfl rfl (by show _ < 2;decide) (Nat.add_zero _)) (aD rfl)) ?_
   refine aM 14 rfl (isV _) (aH _) (rgV (li:=[(24,_)]) rfl (bE 21 rfl (aA rfl rfl rfl)) ⟨aL 12 (aA rfl rfl rfl),trivial⟩ (fun w hw=>bL (vs:=[_,_,_]) isAgg25 sizeOf25 rfl (aK.agree (aP hw 0) (Nat.zero_le _) (aK.agree hS.agree (Nat.zero_le _) hp3.cells))) (aD rfl)) (aM 15 rfl (isV _) (aH _) (rgV (li:=[(3,_)]) rfl (bE 21 rfl (aA rfl rfl rfl)) ⟨bP rfl,trivial⟩ (fun w hw=>aV (o':=5) cV rfl rfl) (aD rfl)) (aM 16 rfl (isV _) (aH _) (rgV (li:=[(26,_)]) rfl (bE 21 rfl (aA rfl rfl rfl)) ⟨aL 14 (aA rfl rfl rfl),trivial⟩ (fun w hw=>aX isAgg54 rfl ((aP hw 0).cell (Nat.zero_le _) (aJ (hS.at_ 0 rfl) rfl))) (aD rfl)) ?_))
   refine aM 17 rfl (isV _) (aH _) (rgV (li:=[(27,_)]) rfl (bE 21 rfl (aA rfl rfl rfl)) ⟨aL 15 (aA rfl rfl rfl),trivial⟩ (fun w hw=>bA (j:=0) underlying54 sizeOf56 rfl rfl rfl (by show _ < 2;decide) (Nat.add_zero _)) (aD rfl)) ?_
   refine aM 18 rfl (isV _) (aH _) (rgV (li:=[(28,_)]) rfl (bE 21 rfl (aA rfl rfl rfl)) ⟨aL 16 (aA rfl rfl rfl),trivial⟩ (fun w hw=>bL (vs:=[_,_,_,_,_,_]) isAgg56 sizeOf56 rfl (aK.agree (aP hw 0) (Nat.zero_le _) (aK.agree hS.agree (Nat.zero_le _) hx6.cells))) (aD rfl)) ?_
   refine aM 19 rfl (isV (.bool false)) (aH _) (cP [isV _,isV _] rfl uE (bE 21 rfl (aA rfl rfl rfl)) ⟨cD (aL 13 (aA rfl rfl rfl)),cD (aL 17 (aA rfl rfl rfl)),trivial⟩ (fun vs w' hb hh=>by have e:=bZ (us:=[_,_]) hh;subst e;exact (nB p.f.tag p.f.dim p.f.a p.f.len p.f.cap x.f hp (Nat.zero_le _) _ (hxi.at_.below (hS.below.trans (hb.mono hS.below.size))) _ hx1).mono fun e w2 h=>⟨_,h.1,rfl,h.2⟩) (aD rfl)) ?_
   refine aM 20 rfl (isV _) (aH _) (rgV (li:=[(21,_),(30,_)]) rfl (aS rfl) ⟨aL 9 (aA rfl rfl rfl),aL 18 (aA rfl rfl rfl),trivial⟩ (fun w hw=>dG rfl rfl) (aD rfl)) (bD 21 rfl 31 19 rfl rfl rfl (fun w hw=>aZ rfl) rfl (aM 22 rfl (isV undef) (aH _) (bJ rfl (bK 32 rfl (aA rfl rfl rfl) rfl) (aD rfl)) (aM 23 rfl (isV undef) (aH _) (bJ rfl (bK 32 rfl (aA rfl rfl rfl) rfl) (aD rfl)) (aM 24 rfl (isV undef) (aH _) (bJ rfl (bK 32 rfl (aA rfl rfl rfl) rfl) (aD rfl)) (aM 25 rfl (isV undef) (aH _) (bJ rfl (bK 32 rfl (aA rfl rfl rfl) rfl) (aD rfl)) (aM 26 rfl (isV undef) (aH _) (bJ rfl (bK 32 rfl (aA rfl rfl rfl) rfl) (aD rfl)) (aM 27 rfl (isV undef) (aH _) (bJ rfl (bK 32 rfl (aA rfl rfl rfl) rfl) (aD rfl)) (aM 28 rfl (isV undef) (aH _) (bJ rfl (bK 32 rfl (aA rfl rfl rfl) rfl) (aD rfl)) (aM 29 rfl (isV undef) (aH _) (bJ rfl (bK 32 rfl (aA rfl rfl rfl) rfl) (aD rfl)) (aM 30 rfl (isV undef) (aH _) (bJ rfl (bK 32 rfl (aA rfl rfl rfl) rfl) (aD rfl)) (bD 31 rfl 32 20 rfl rfl rfl (fun w hw=>dH rfl rfl) rfl (bD 32 rfl 42 30 rfl rfl rfl (fun w hw=>fE rfl) rfl (dB ?_)))))))))))))
   intro W6 hbR hS'
   clear hS;have hS:=hS';clear hS'
   refine aG (aG (aG (aG (aG (aG (aG (aG (aG (aG (aG (aG (aG (aG (aG (aG (aG (aG (aG (aG (aG (aG (aG (aG (aG (aG (aG (aG (aG (aG (aG (aG (cH ?_))))))))))))))))))))))))))))))))
   refine XF.thenN (bM (XF.thenR (XF.res (bV results65 rfl) ?_)))
   exact ⟨bR (by rw [← hr];unfold gA;rw [hbb];show _=(true && (!gz && (true && (eU p.f.tag p.f.dim x.f && eU q.f.tag q.f.dim y.f))));rw [hz,hx1];rfl),hS.below⟩
  ·obtain ⟨x,y,hz,rfl,hx1⟩:=h1
   obtain ⟨hpl,b2,off2,hpa,hb2,hx6,hy6,hxi,hyi⟩:=hw.two
   obtain ⟨gz,gc,gg,gra,grl,grc,grows,gca,gcl,gcc,gcells,gpa,gpl,gpc⟩:=g
   dsimp only at hpl hpa hz
   subst hpl;subst hpa
   refine gP (m:=32) bY hS (by kernel_rfl) (by kernel_rfl) rfl (cB 1 rfl 3 rfl rfl (fun w hw=>aV (o':=0) eD rfl rfl) rfl (bD 2 rfl 12 0 rfl rfl rfl (fun w hw=>aX isAgg4 rfl ((aP hw 0).cell (Nat.zero_le _) (aJ (hS.at_ 0 rfl) rfl))) rfl ?_))
   refine aM 3 rfl (isV (.bool true)) (aH _) (jR (li:=[(13,_)]) rfl (aS rfl) ⟨aL 1 (aA rfl rfl rfl),trivial⟩ (fun w hw=>gU rfl) (by rw [hz];rfl) (aD rfl)) ?_
   refine bD 4 rfl 14 2 rfl rfl rfl (fun w hw=>aZ rfl) rfl (aM 5 rfl (isV _) (aH _) (rgV (li:=[(3,_)]) rfl (bE 15 rfl (aA rfl rfl rfl)) ⟨bP rfl,trivial⟩ (fun w hw=>aV (o':=5) cV rfl rfl) (aD rfl)) (aM 6 rfl (isV _) (aH _) (rgV (li:=[(16,_)]) rfl (bE 15 rfl (aA rfl rfl rfl)) ⟨aL 4 (aA rfl rfl rfl),trivial⟩ (fun w hw=>aX isAgg54 rfl ((aP hw 0).cell (Nat.zero_le _) (aJ (hS.at_ 0 rfl) rfl))) (aD rfl)) (aM 7 rfl (isV _) (aH _) (rgV (li:=[(17,_)]) rfl (bE 15 rfl (aA rfl rfl rfl)) ⟨aL 5 (aA rfl rfl rfl),trivial⟩ (fun w hw=>mQ underlying54 rfl) (aD rfl)) (aM 8 rfl (isV (.bool true)) (aH _) (jR (li:=[(18,_)]) rfl (bE 15 rfl (aA rfl rfl rfl)) ⟨aL 6 (aA rfl rfl rfl),trivial⟩ (fun w hw=>mS rfl rfl) (rfl) (aD rfl)) (aM 9 rfl (isV _) (aH _) (rgV (li:=[(15,_),(19,_)]) rfl (aS rfl) ⟨aL 3 (aA rfl rfl rfl),aL 7 (aA rfl rfl rfl),trivial⟩ (fun w hw=>dG rfl rfl) (aD rfl)) (bD 10 rfl 20 8 rfl rfl rfl (fun w hw=>aZ rfl) rfl (aM 11 rfl (isV _) (aH _) (rgV (li:=[(2,_)]) rfl (bE 21 rfl (aA rfl rfl rfl)) ⟨bP rfl,trivial⟩ (fun w hw=>aV (o':=2) dM rfl rfl) (aD rfl)) (aM 12 rfl (isV _) (aH _) (rgV (li:=[(22,_)]) rfl (bE 21 rfl (aA rfl rfl rfl)) ⟨aL 10 (aA rfl rfl rfl),trivial⟩ (fun w hw=>aX isAgg23 rfl ((aP hw 0).cell (Nat.zero_le _) (aJ (hS.at_ 1 rfl) rfl))) (aD rfl)) ?_))))))))
   refine aM 13 rfl (isV _) (aH _) (rgV (li:=[(23,_)]) rfl (bE 21 rfl (aA rfl rfl rfl)) ⟨aL 11 (aA rfl rfl rfl),trivial⟩ (fun w hw=>bA (j:=0) underlying23 sizeOf25 rfl rfl rfl (by show _ < 2;decide) (Nat.add_zero _)) (aD rfl)) ?_
   refine aM 14 rfl (isV _) (aH _) (rgV (li:=[(24,_)]) rfl (bE 21 rfl (aA rfl rfl rfl)) ⟨aL 12 (aA rfl rfl rfl),trivial⟩ (fun w hw=>bL (vs:=[_,_,_]) isAgg25 sizeOf25 rfl (aK.agree (aP hw 0) (Nat.zero_le _) (aK.agree hS.agree (Nat.zero_le _) hp3.cells))) (aD rfl)) (aM 15 rfl (isV _) (aH _) (rgV (li:=[(3,_)]) rfl (bE 21 rfl (aA rfl rfl rfl)) ⟨bP rfl,trivial⟩ (fun w hw=>aV (o':=5) cV rfl rfl) (aD rfl)) (aM 16 rfl (isV _) (aH _) (rgV (li:=[(26,_)]) rfl (bE 21 rfl (aA rfl rfl rfl)) ⟨aL 14 (aA rfl rfl rfl),trivial⟩ (fun w hw=>aX isAgg54 rfl ((aP hw 0).cell (Nat.zero_le _) (aJ (hS.at_ 0 rfl) rfl))) (aD rfl)) ?_))
   refine aM 17 rfl (isV _) (aH _) (rgV (li:=[(27,_)]) rfl (bE 21 rfl (aA rfl rfl rfl)) ⟨aL 15 (aA rfl rfl rfl),trivial⟩ (fun w hw=>bA (j:=0) underlying54 sizeOf56 rfl rfl rfl (by show _ < 2;decide) (Nat.add_zero _)) (aD rfl)) ?_
   refine aM 18 rfl (isV _) (aH _) (rgV (li:=[(28,_)]) rfl (bE 21 rfl (aA rfl rfl rfl)) ⟨aL 16 (aA rfl rfl rfl),trivial⟩ (fun w hw=>bL (vs:=[_,_,_,_,_,_]) isAgg56 sizeOf56 rfl (aK.agree (aP hw 0) (Nat.zero_le _) (aK.agree hS.agree (Nat.zero_le _) hx6.cells))) (aD rfl)) ?_
   refine aM 19 rfl (isV (.bool true)) (aH _) (cP [isV _,isV _] rfl uE (bE 21 rfl (aA rfl rfl rfl)) ⟨cD (aL 13 (aA rfl rfl rfl)),cD (aL 17 (aA rfl rfl rfl)),trivial⟩ (fun vs w' hb hh=>by have e:=bZ (us:=[_,_]) hh;subst e;exact (nB p.f.tag p.f.dim p.f.a p.f.len p.f.cap x.f hp (Nat.zero_le _) _ (hxi.at_.below (hS.below.trans (hb.mono hS.below.size))) _ hx1).mono fun e w2 h=>⟨_,h.1,rfl,h.2⟩) (aD rfl)) ?_
   refine aM 20 rfl (isV _) (aH _) (rgV (li:=[(21,_),(30,_)]) rfl (aS rfl) ⟨aL 9 (aA rfl rfl rfl),aL 18 (aA rfl rfl rfl),trivial⟩ (fun w hw=>dG rfl rfl) (aD rfl)) (bD 21 rfl 31 19 rfl rfl rfl (fun w hw=>aZ rfl) rfl (aM 22 rfl (isV _) (aH _) (rgV (li:=[(2,_)]) rfl (bE 32 rfl (aA rfl rfl rfl)) ⟨bP rfl,trivial⟩ (fun w hw=>aV (o':=2) dM rfl rfl) (aD rfl)) (aM 23 rfl (isV _) (aH _) (rgV (li:=[(33,_)]) rfl (bE 32 rfl (aA rfl rfl rfl)) ⟨aL 21 (aA rfl rfl rfl),trivial⟩ (fun w hw=>aX isAgg23 rfl ((aP hw 0).cell (Nat.zero_le _) (aJ (hS.at_ 1 rfl) rfl))) (aD rfl)) ?_)))
   refine aM 24 rfl (isV _) (aH _) (rgV (li:=[(34,_)]) rfl (bE 32 rfl (aA rfl rfl rfl)) ⟨aL 22 (aA rfl rfl rfl),trivial⟩ (fun w hw=>bA (j:=1) underlying23 sizeOf25 rfl rfl rfl (by show _ < 2;decide) rfl) (aD rfl)) ?_
   refine aM 25 rfl (isV _) (aH _) (rgV (li:=[(35,_)]) rfl (bE 32 rfl (aA rfl rfl rfl)) ⟨aL 23 (aA rfl rfl rfl),trivial⟩ (fun w hw=>bL (vs:=[_,_,_]) isAgg25 sizeOf25 rfl (aK.agree (aP hw 0) (Nat.zero_le _) (aK.agree hS.agree (Nat.zero_le _) hq3.cells))) (aD rfl)) (aM 26 rfl (isV _) (aH _) (rgV (li:=[(3,_)]) rfl (bE 32 rfl (aA rfl rfl rfl)) ⟨bP rfl,trivial⟩ (fun w hw=>aV (o':=5) cV rfl rfl) (aD rfl)) (aM 27 rfl (isV _) (aH _) (rgV (li:=[(37,_)]) rfl (bE 32 rfl (aA rfl rfl rfl)) ⟨aL 25 (aA rfl rfl rfl),trivial⟩ (fun w hw=>aX isAgg54 rfl ((aP hw 0).cell (Nat.zero_le _) (aJ (hS.at_ 0 rfl) rfl))) (aD rfl)) ?_))
   refine aM 28 rfl (isV _) (aH _) (rgV (li:=[(38,_)]) rfl (bE 32 rfl (aA rfl rfl rfl)) ⟨aL 26 (aA rfl rfl rfl),trivial⟩ (fun w hw=>bA (j:=1) underlying54 sizeOf56 rfl rfl rfl (by show _ < 2;decide) rfl) (aD rfl)) ?_
   refine aM 29 rfl (isV _) (aH _) (rgV (li:=[(39,_)]) rfl (bE 32 rfl (aA rfl rfl rfl)) ⟨aL 27 (aA rfl rfl rfl),trivial⟩ (fun w hw=>bL (vs:=[_,_,_,_,_,_]) isAgg56 sizeOf56 rfl (aK.agree (aP hw 0) (Nat.zero_le _) (aK.agree hS.agree (Nat.zero_le _) hy6.cells))) (aD rfl)) ?_
   refine aM 30 rfl (isV (.bool (eU q.f.tag q.f.dim y.f))) (aH _) (cP [isV _,isV _] rfl uE (bE 32 rfl (aA rfl rfl rfl)) ⟨cD (aL 24 (aA rfl rfl rfl)),cD (aL 28 (aA rfl rfl rfl)),trivial⟩ (fun vs w' hb hh=>by have e:=bZ (us:=[_,_]) hh;subst e;exact (nB q.f.tag q.f.dim q.f.a q.f.len q.f.cap y.f hq (Nat.zero_le _) _ (hyi.at_.below (hS.below.trans (hb.mono hS.below.size))) _ rfl).mono fun e w2 h=>⟨_,h.1,rfl,h.2⟩) (aD rfl)) ?_
   refine aM 31 rfl (isV _) (aH _) (rgV (li:=[(32,_),(41,_)]) rfl (aS rfl) ⟨aL 20 (aA rfl rfl rfl),aL 29 (aA rfl rfl rfl),trivial⟩ (fun w hw=>dG rfl rfl) (aD rfl)) (bD 32 rfl 42 30 rfl rfl rfl (fun w hw=>fE rfl) rfl (dB ?_))
   intro W7 hbR hS'
   clear hS;have hS:=hS';clear hS'
   refine aG (aG (aG (aG (aG (aG (aG (aG (aG (aG (aG (aG (aG (aG (aG (aG (aG (aG (aG (aG (aG (aG (aG (aG (aG (aG (aG (aG (aG (aG (aG (aG (cH ?_))))))))))))))))))))))))))))))))
   refine XF.thenN (bM (XF.thenR (XF.res (bV results65 rfl) ?_)))
   exact ⟨bR (by rw [← hr];unfold gA;rw [hbb];show _=(true && (!gz && (true && (eU p.f.tag p.f.dim x.f && eU q.f.tag q.f.dim y.f))));rw [hz,hx1];rfl),hS.below⟩
theorem jY:bW prog 67=true:=by kernel_rfl
theorem goes_68:bW prog 68=true:=by kernel_rfl
theorem goes_69:bW prog 69=true:=by kernel_rfl
theorem nC (t n:Int) (a:Option Addr) (l c0:Nat) (f:WF) (hp:bS t n l=true) (hs:0≤f.rl) (w:World) (hf:f.At w) (r:Bool) (hr:eU t n f=r) :
  Calls prog 58 #[.agg #[.int .i64 t,.int .i64 n,.slice a l c0],f.val] w (fun e w'=>e = .returned (.bool (r))∧Below w.heap.size w w'):=by
 refine cG (args:=[.agg #[.int .i64 t,.int .i64 n,.slice a l c0],f.val]) func58 rfl ntmps58 rfl ?_
 have hS:=St.start w
 have htg:=(fP hp).2
 have h5:t≠5:=by omega
 refine aO (aR (bQ (cs:=[_,_,_]) hS rfl rfl rfl fun B1 W1 hS=>bQ (cs:=[_,_,_,_,_,_]) hS rfl rfl rfl fun B2 W2 hS=>aB rfl rfl (aQ (XF.thenN (aO (aO (aR (aN (o':=0) eD rfl rfl rfl (aT isAgg4 rfl (aJ (hS.at_ 0 rfl) rfl) rfl (aQ (XF.thenN (bC rfl (fun hc=>?_) (fun hc=>?_)))))))))))))
 ·have hc7:=hc;clear hc
  refine aO (aR (aN (o':=0) dZ rfl rfl rfl (aT isAgg22 rfl (aJ (hS.at_ 1 rfl) rfl) rfl (cN rfl rfl rfl (aI rfl rfl (bG (d:=11) rfl (fun hc=>?_) (fun hc=>absurd (of_decide_eq_false hc) (by exact fun h=>h h5))))))))
  have hc:=of_decide_eq_true hc
  refine aC (d:=11) rfl rfl (aU (vs:=[_,_,_,_,_,_]) isAgg56 sizeOf56 rfl (aK.own (j:=0) (m:=6) (hS.at_ 0 rfl) rfl) rfl (aC (d:=11) rfl rfl (bT (vs:=[_,_,_,_,_]) hS jY rfl (Cd f _ rfl _) rfl fun W3 hS=>aY rfl rfl rfl (aB rfl rfl (aQ (XF.thenN (bM (XF.thenR (XF.res (bV results58 rfl) ?_)))))))))
  exact ⟨bR (by rw [← hr];unfold eU;rw [show f.z=true from hc7];unfold hH;rw [show f.z=true from hc7];simp),hS.below⟩
 ·have hc7:=hc;clear hc
  have hz:f.z=false:=hc7
  refine bH (XF.thenN (aO (aO (aR (aN (o':=0) dZ rfl rfl rfl (aT isAgg22 rfl (aJ (hS.at_ 1 rfl) rfl) rfl (aQ (XF.thenN (bI (aO (aR (cM rfl rfl rfl (aB rfl rfl (aQ (XF.thenN (bC rfl (fun hc=>?_) (fun hc=>?_)))))))))))))))))
  ·have hc17:=of_decide_eq_true hc;clear hc
   refine aO (aR (aU (vs:=[_,_,_,_,_,_]) isAgg56 sizeOf56 rfl (aK.own (j:=0) (m:=6) (hS.at_ 0 rfl) rfl) rfl (bT (vs:=[_,_,_,_,_]) hS jY rfl (Cd f _ rfl _) rfl fun W4 hS=>aB rfl rfl (aQ (XF.thenN (bM (XF.blkR (XF.thenR (XF.res (bV results58 rfl) ?_)))))))))
   exact ⟨bR (by rw [← hr];unfold eU;rw [hz];unfold hH;rw [hz,hc17];simp),hS.below⟩
  ·have hc17:=of_decide_eq_false hc;clear hc
   refine aO (aR (cM rfl rfl rfl (aB rfl rfl (aQ (XF.thenN (bC rfl (fun hc=>?_) (fun hc=>?_)))))))
   ·have hc21:=of_decide_eq_true hc;clear hc
    have hbb:hH t f=hC true false false false f:=by unfold hH;rw [hz,hc21];simp
    refine aO (aR (aU (vs:=[_,_,_,_,_,_]) isAgg56 sizeOf56 rfl (aK.own (j:=0) (m:=6) (hS.at_ 0 rfl) rfl) rfl (bT (vs:=[_,_,_,_,_]) hS jY rfl (Ke f _ rfl _) rfl fun W5 hS=>aI rfl rfl (bG (d:=25) rfl (fun hc=>?_) (fun hc=>?_)))))
    ·have hg25:=hc;clear hc
     refine aC (d:=25) rfl rfl (aN (o':=1) gC rfl rfl rfl (aC (d:=25) rfl rfl (aT isAgg3 rfl (aJ (hS.at_ 0 rfl) rfl) rfl (aC (d:=25) rfl rfl (gV rfl rfl rfl (aY rfl rfl rfl (aI rfl rfl (bG (d:=30) rfl (fun hc=>?_) (fun hc=>?_)))))))))
     ·have hg30:=of_decide_eq_true hc;clear hc
      refine aC (d:=30) rfl rfl (aN (o':=1) gC rfl rfl rfl (aC (d:=30) rfl rfl (aT isAgg3 rfl (aJ (hS.at_ 0 rfl) rfl) rfl (aC (d:=30) rfl rfl (aN (o':=1) eS rfl rfl rfl (aC (d:=30) rfl rfl (aT isAgg3 rfl (aJ (hS.at_ 1 rfl) rfl) rfl (aC (d:=30) rfl rfl (Jv rfl rfl rfl (aY rfl rfl rfl (aB rfl rfl (aQ (XF.thenN (bM (XF.blkR (XF.thenR (XF.res (bV results58 rfl) ?_)))))))))))))))))
      exact ⟨bR (by rw [← hr];unfold eU;rw [hbb,hz,if_pos hc21,show hC true false false false f=true from hg25];simp [show (0:Int)≤f.c from hg30]),hS.below⟩
     ·have hg30:=of_decide_eq_false hc;clear hc
      refine aF (d:=30) rfl rfl rfl rfl (aF (d:=30) rfl rfl rfl rfl (aF (d:=30) rfl rfl rfl rfl (aF (d:=30) rfl rfl rfl rfl (aF (d:=30) rfl rfl rfl rfl (bN rfl rfl rfl (aB rfl rfl (aQ (XF.thenN (bM (XF.blkR (XF.thenR (XF.res (bV results58 rfl) ?_))))))))))))
      exact ⟨bR (by rw [← hr];unfold eU;rw [hbb,hz,if_pos hc21,show hC true false false false f=true from hg25];simp [show ¬ (0:Int)≤f.c from hg30]),hS.below⟩
    ·have hg25:=hc;clear hc
     refine aF (d:=25) rfl rfl rfl rfl (aF (d:=25) rfl rfl rfl rfl (aF (d:=25) rfl rfl rfl rfl (bN rfl rfl rfl (aI rfl rfl (aF (d:=30) rfl rfl rfl rfl (aF (d:=30) rfl rfl rfl rfl (aF (d:=30) rfl rfl rfl rfl (aF (d:=30) rfl rfl rfl rfl (aF (d:=30) rfl rfl rfl rfl (bN rfl rfl rfl (aB rfl rfl (aQ (XF.thenN (bM (XF.blkR (XF.thenR (XF.res (bV results58 rfl) ?_)))))))))))))))))
     exact ⟨bR (by rw [← hr];unfold eU;rw [hbb,show hC true false false false f=false from hg25];rfl),hS.below⟩
   ·have hc21:=of_decide_eq_false hc;clear hc
    refine aO (aR (cM rfl rfl rfl (aB rfl rfl (aQ (XF.thenN (bC rfl (fun hc=>?_) (fun hc=>?_)))))))
    ·have hc37:=of_decide_eq_true hc;clear hc
     have hbb:hH t f=hC false true false false f:=by unfold hH;rw [hz,hc37];simp
     refine aO (aR (aU (vs:=[_,_,_,_,_,_]) isAgg56 sizeOf56 rfl (aK.own (j:=0) (m:=6) (hS.at_ 0 rfl) rfl) rfl (bT (vs:=[_,_,_,_,_]) hS jY rfl (Kf f _ rfl _) rfl fun W6 hS=>aI rfl rfl (bG (d:=41) rfl (fun hc=>?_) (fun hc=>?_)))))
     ·have hg41:=hc;clear hc
      refine aC (d:=41) rfl rfl (aN (o':=1) eS rfl rfl rfl (aC (d:=41) rfl rfl (aT isAgg3 rfl (aJ (hS.at_ 1 rfl) rfl) rfl (aC (d:=41) rfl rfl (aN (o':=2) gD rfl rfl rfl (aC (d:=41) rfl rfl (aU (vs:=[_,_]) isAgg52 sizeOf52 rfl (aK.own (j:=2) (m:=2) (hS.at_ 0 rfl) rfl) rfl (aC (d:=41) rfl rfl (bT (vs:=[_,_]) hS goes_68 rfl (Ei n f.ra f.rc f.g f.rows _ (hf.below hS.below) _ rfl f.rl hf.rl) rfl fun W7 hS=>aC (d:=41) rfl rfl (cM rfl rfl rfl (aY rfl rfl rfl (aB rfl rfl (aQ (XF.thenN (bM (XF.blkR (XF.thenR (XF.res (bV results58 rfl) ?_))))))))))))))))))
      exact ⟨bR (by rw [← hr];unfold eU;rw [hbb,hz,if_neg hc21,if_pos hc37,show hC false true false false f=true from hg41];rfl),hS.below⟩
     ·have hg41:=hc;clear hc
      refine aF (d:=41) rfl rfl rfl rfl (aF (d:=41) rfl rfl rfl rfl (aF (d:=41) rfl rfl rfl rfl (aF (d:=41) rfl rfl rfl rfl (aF (d:=41) rfl rfl rfl rfl (aF (d:=41) rfl rfl rfl rfl (bN rfl rfl rfl (aB rfl rfl (aQ (XF.thenN (bM (XF.blkR (XF.thenR (XF.res (bV results58 rfl) ?_)))))))))))))
      exact ⟨bR (by rw [← hr];unfold eU;rw [hbb,show hC false true false false f=false from hg41];rfl),hS.below⟩
    ·have hc37:=of_decide_eq_false hc;clear hc
     refine aO (aR (cM rfl rfl rfl (aB rfl rfl (aQ (XF.thenN (bC rfl (fun hc=>?_) (fun hc=>absurd (of_decide_eq_false hc) (by omega))))))))
     have hc:=of_decide_eq_true hc
     have hc49:t=4:=hc
     have hbb:hH t f=hC false false true false f:=by unfold hH;rw [hz,hc49];simp
     obtain ⟨m,hnm,hm64⟩:∃ m:Nat,n=m∧m≤64:=by
      have h9:=hp
      simp only [bS,hc49] at h9
      simp at h9
      exact ⟨n.toNat,by omega,by omega⟩
     refine aO (aO (aR (aU (vs:=[_,_,_,_,_,_]) isAgg56 sizeOf56 rfl (aK.own (j:=0) (m:=6) (hS.at_ 0 rfl) rfl) rfl (bT (vs:=[_,_,_,_,_]) hS jY rfl (Kg f _ rfl _) rfl fun W8 hS=>dV rfl rfl (aI rfl rfl (bG (d:=54) rfl (fun hc=>?_) (fun hc=>?_)))))))
     ·have hg54:=hc;clear hc
      refine aF (d:=54) rfl rfl rfl rfl (aF (d:=54) rfl rfl rfl rfl (aF (d:=54) rfl rfl rfl rfl (aF (d:=54) rfl rfl rfl rfl (aF (d:=54) rfl rfl rfl rfl (aF (d:=54) rfl rfl rfl rfl (aY rfl rfl rfl (aQ (XF.thenN (cU rfl (aO (aR (aB rfl rfl (aQ (XF.thenN (bM (XF.thenR (XF.blkR (XF.thenR (XF.res (bV results58 rfl) ?_)))))))))))))))))))
      exact ⟨bR (by rw [← hr];unfold eU;rw [hbb,show hC false false true false f=false by simpa using hg54];rfl),hS.below⟩
     ·have hg54:=hc;clear hc
      have hon:hC false false true false f=true:=by simpa using hg54
      refine aC (d:=54) rfl rfl (aN (o':=4) dJ rfl rfl rfl (aC (d:=54) rfl rfl (aT isAgg53 rfl (aJ (hS.at_ 0 rfl) rfl) rfl (aC (d:=54) rfl rfl (bX underlying53 rfl rfl (aC (d:=54) rfl rfl (aN (o':=1) eS rfl rfl rfl (aC (d:=54) rfl rfl (aT isAgg3 rfl (aJ (hS.at_ 1 rfl) rfl) rfl (aC (d:=54) rfl rfl (cN rfl rfl rfl (bN rfl rfl rfl (aQ (XF.thenN (bC rfl (fun hc=>?_) (fun hc=>?_))))))))))))))))
      ·have hc61:=of_decide_eq_true hc;clear hc
       refine aO (aR (aB rfl rfl (aQ (XF.thenN (bM (XF.thenR (XF.blkR (XF.thenR (XF.res (bV results58 rfl) ?_)))))))))
       have hne:oD n f.cells≠0:=fun h9=>by have:=(xX h9).2.2.1;rw [hf.cl] at this;exact hc61 this
       exact ⟨bR (by rw [← hr];unfold eU;rw [hbb,hz,hon,if_neg hc21,if_neg hc37,if_pos hc49,decide_eq_false hne];rfl),hS.below⟩
      ·have hc61:=of_decide_eq_false hc;clear hc
       have hcl:f.cells.length=m:=by rw [hf.cl];omega
       refine bH (XF.thenN (aO (aO (aR (aB rfl rfl (aQ (XF.thenN (bI (cX (fun m_ l_ W=>∃ i:Nat,i≤f.cl∧m_=f.cl - i∧l_=[(2,.pointer (some ⟨B1,0,none⟩)),(3,.pointer (some ⟨B2,0,none⟩)),(5,.int .i64 (i:Int))]∧(f.cells.take i).all (mA m)=true∧St w [(B2,f.six,56),(B1,[.int .i64 t,.int .i64 n,.slice a l c0],25)] [] [] W) (f.cl - 0) ([(2,_),(3,_),(5,_)]) ⟨rfl,rfl,rfl,trivial⟩ (⟨0,Nat.zero_le _,rfl,rfl,rfl,hS.clear⟩) ?_)))))))))
       clear hS
       rintro m_ l_ W ⟨i,hi,rfl,rfl,hall,hS⟩
       refine aO (aO (aR (aI rfl rfl (aN (o':=4) dJ rfl rfl rfl (aT isAgg53 rfl (aJ (hS.at_ 0 rfl) rfl) rfl (bX underlying53 rfl rfl (cC rfl rfl rfl (aQ (XF.thenN (bC rfl (fun hc=>?_) (fun hc=>?_)))))))))))
       ·have hc66:=of_decide_eq_true hc;clear hc
        obtain ⟨b9,off9,ce,hca9,hce,hb9,h91,h92,h93⟩:=(hf.cells.below hS.below).at_ (k:=i) (by rw [hf.cl];omega)
        have k1:aK W b9 (off9+i * 3) [.int .u64 (ce.f:Int),.int .i64 ce.k,.int .i64 ce.v]:=⟨h91,h92,h93,trivial⟩
        have hc64:=hf.bits ce (List.mem_of_getElem? hce)
        refine bH (XF.thenN (aO (bI (aO (gP (m:=9) bY hS (by kernel_rfl) (by kernel_rfl) rfl (cB 1 rfl 2 rfl rfl (fun w hw=>aV (o':=1) eS rfl rfl) rfl (bD 2 rfl 69 0 rfl rfl rfl (fun w hw=>aX isAgg3 rfl ((aP hw 0).cell (Nat.zero_le _) (aJ (hS.at_ 1 rfl) rfl))) rfl (cB 3 rfl 3 rfl rfl (fun w hw=>aV (o':=4) dJ rfl rfl) rfl (aM 4 rfl (isV (.slice (some ⟨b9,off9,none⟩) f.cl f.cc)) (aH _) (jR (li:=[(71,_)]) rfl (aS rfl) ⟨aL 2 (aA rfl rfl rfl),trivial⟩ (fun w hw=>aX isAgg53 rfl ((aP hw 0).cell (Nat.zero_le _) (aJ (hS.at_ 0 rfl) rfl))) (by rw [← hca9]) (aD rfl)) (cB 5 rfl 5 rfl rfl (fun w hw=>aZ rfl) rfl (aM 6 rfl (isV _) (aH _) (rgV (li:=[(72,_),(73,_)]) rfl (aS rfl) ⟨aL 3 (aA rfl rfl rfl),aL 4 (aA rfl rfl rfl),trivial⟩ (fun w hw=>bA (j:=i) underlying53 sizeOf89 rfl rfl (rfl) (by omega) rfl) (aD rfl)) (bD 7 rfl 74 5 rfl rfl rfl (fun w hw=>bL (vs:=[_,_,_]) isAgg89 sizeOf89 rfl (aK.agree (aP hw 0) (Nat.zero_le _) (k1))) rfl ?_))))))))))))
        refine aM 8 rfl (isV (.bool (mA m ce))) (aH _) (cP [isV _,isV _] rfl goes_69 (aS rfl) ⟨cD (aL 1 (aA rfl rfl rfl)),cD (aL 6 (aA rfl rfl rfl)),trivial⟩ (fun vs w' hb hh=>by have e:=bZ (us:=[_,_]) hh;subst e;have h9:=Kh m hm64 ce.f ce.k ce.v hc64 _ rfl w';rw [← hnm] at h9;exact h9.mono fun e w2 h=>⟨_,h.1,rfl,h.2⟩) (aD rfl)) ?_
        refine bD 9 rfl 76 7 rfl rfl rfl (fun w hw=>gU rfl) rfl (dB ?_)
        intro W9 hbR hS'
        clear hS;have hS:=hS';clear hS'
        refine aG (aG (aG (aG (aG (aG (aG (aG (aG (cH (XF.thenN (bC rfl (fun hc=>?_) (fun hc=>?_))))))))))))
        ·have hc77:=hc;clear hc
         refine aO (aR (aB rfl rfl (aQ (XF.thenN (bM (XF.blkR (XF.thenR (XF.thenR (XF.blkR (XF.thenR (XF.blkR (XF.thenR (XF.res (bV results58 rfl) ?_)))))))))))))
         exact ⟨bR (by rw [← hr];unfold eU;rw [hbb,hz,hon,if_neg hc21,if_neg hc37,if_pos hc49,hnm,By hm64 hcl hce (by simpa using hc77)];rfl),hS.below⟩
        ·have hc77:=hc;clear hc
         refine bH (XF.blkN (XF.thenN (aR (aI rfl rfl (cE rfl rfl (IntWalk.i64_in _ (by omega)) rfl (aB rfl rfl (aQ ?_)))))))
         exact XF.round (f.cl - (i+1)) [(2,_),(3,_),(5,_)] (by omega) ⟨rfl,rfl,rfl,trivial⟩ ⟨i+1,by omega,rfl,rfl,mB hce hall (by simpa using hc77),hS.clear⟩
       ·have hc66:=of_decide_eq_false hc;clear hc
        refine cW (XF.thenX (XF.thenX (XF.blkX (XF.thenN (aO (aR (aB rfl rfl (aQ (XF.thenN (bM (XF.blkR (XF.thenR (XF.res (bV results58 rfl) ?_)))))))))))))
        exact ⟨bR (by rw [← hr];unfold eU;rw [hbb,hz,hon,if_neg hc21,if_neg hc37,if_pos hc49,hnm,sI hm64 hcl (k:=i) (by rw [hf.cl];omega) hall];rfl),hS.below⟩
theorem Cu (p q:SV) (g:WF) (qs:List WV) {w:World} {e:Nat} (hw:WIn w (e+1) (.mk g qs)) (hz:g.z=false) (on:Bool):on=false∨(on=true∧g.pl≠2)∨(on=true∧∃ x y,g.z=false∧qs=[x,y]∧eU p.f.tag p.f.dim x.f=false)∨(on=true∧∃ x y,g.z=false∧qs=[x,y]∧eU p.f.tag p.f.dim x.f=true):=by
 cases on with
 | false=>exact .inl rfl
 | true =>
  rcases vR p q g qs hw with h | h | h | h
  ·rw [hz] at h;cases h
  ·exact .inr (.inl ⟨rfl,h.2⟩)
  ·exact .inr (.inr (.inl ⟨rfl,h⟩))
  ·exact .inr (.inr (.inr ⟨rfl,h⟩))
theorem Iq (d:Nat) (sa:Option Addr) (sc:Nat) (p q:SV) (g:WF) (qs:List WV) (w:World) (hsp:SIn w (d+1) (.mk ⟨5,0,sa,2,sc⟩ [p,q])) (hp:p.pl=true) (hq:q.pl=true) (e:Nat) (hw:WIn w (e+1) (.mk g qs)) (hs:∀ x∈qs,0≤x.f.rl) (r:Bool) (hr:gA p q g qs=r) :
  Calls prog 58 #[.agg #[.int .i64 5,.int .i64 0,.slice sa 2 sc],g.val] w (fun e w'=>e = .returned (.bool (r))∧Below w.heap.size w w'):=by
 refine cG (args:=[.agg #[.int .i64 5,.int .i64 0,.slice sa 2 sc],g.val]) func58 rfl ntmps58 rfl ?_
 have hS:=St.start w
 obtain ⟨_,b,off,ha,hb0,hp3,hq3,_,_⟩:=hsp.two
 obtain rfl:sa=some ⟨b,off,none⟩:=ha
 refine aO (aR (bQ (cs:=[_,_,_]) hS rfl rfl rfl fun B1 W1 hS=>bQ (cs:=[_,_,_,_,_,_]) hS rfl rfl rfl fun B2 W2 hS=>aB rfl rfl (aQ (XF.thenN (aO (aO (aR (aN (o':=0) eD rfl rfl rfl (aT isAgg4 rfl (aJ (hS.at_ 0 rfl) rfl) rfl (aQ (XF.thenN (bC rfl (fun hc=>?_) (fun hc=>?_)))))))))))))
 ·have hc7:=hc;clear hc
  refine aO (aR (aN (o':=0) dZ rfl rfl rfl (aT isAgg22 rfl (aJ (hS.at_ 1 rfl) rfl) rfl (cN rfl rfl rfl (aI rfl rfl (bG (d:=11) rfl (fun hc=>absurd (of_decide_eq_true hc) (by decide)) (fun hc=>?_)))))))
  have hc:=of_decide_eq_false hc
  refine aF (d:=11) rfl rfl rfl rfl (aF (d:=11) rfl rfl rfl rfl (bN rfl rfl rfl (aB rfl rfl (aQ (XF.thenN (bM (XF.thenR (XF.res (bV results58 rfl) ?_))))))))
  exact ⟨bR (by rw [← hr];unfold gA;rw [show g.z=true from hc7];simp),hS.below⟩
 ·have hc7:=hc;clear hc
  have hz0:g.z=false:=hc7
  refine bH (XF.thenN (aO (aO (aR (aN (o':=0) dZ rfl rfl rfl (aT isAgg22 rfl (aJ (hS.at_ 1 rfl) rfl) rfl (aQ (XF.thenN (bI (aO (aR (cM rfl rfl rfl (aB rfl rfl (aQ (XF.thenN (bC rfl (fun hc=>absurd (of_decide_eq_true hc) (by decide)) (fun hc=>?_)))))))))))))))))
  have hc:=of_decide_eq_false hc
  refine aO (aR (cM rfl rfl rfl (aB rfl rfl (aQ (XF.thenN (bC rfl (fun hc=>absurd (of_decide_eq_true hc) (by decide)) (fun hc=>?_)))))))
  have hc:=of_decide_eq_false hc
  refine aO (aR (cM rfl rfl rfl (aB rfl rfl (aQ (XF.thenN (bC rfl (fun hc=>absurd (of_decide_eq_true hc) (by decide)) (fun hc=>?_)))))))
  have hc:=of_decide_eq_false hc
  refine aO (aR (cM rfl rfl rfl (aB rfl rfl (aQ (XF.thenN (bC rfl (fun hc=>absurd (of_decide_eq_true hc) (by decide)) (fun hc=>?_)))))))
  have hc:=of_decide_eq_false hc
  refine bH (XF.blkN (XF.thenN (aO ?_)))
  obtain ⟨on,hon⟩:∃ b,hC false false false true g=b:=⟨_,rfl⟩
  have hbb:hH 5 g=on:=by rw [← hon];unfold hH;rw [hz0];simp
  rcases Cu p q g qs hw hz0 on with h1 | h1 | h1 | h1
  ·subst h1
   refine gP (m:=31) bY hS (by kernel_rfl) (by kernel_rfl) rfl (cB 1 rfl 3 rfl rfl (fun w hw=>bL (vs:=[_,_,_,_,_,_]) isAgg56 sizeOf56 rfl (aK.agree (aP hw 0) (Nat.zero_le _) (aK.own (j:=0) (m:=6) (hS.at_ 0 rfl) rfl))) rfl ?_)
   refine aM 2 rfl (isV (.bool false)) (aH _) (cP [isV _,isV _,isV _,isV _,isV _] rfl jY (aS rfl) ⟨cD (aL 0 (aA rfl rfl rfl)),eX,eX,eX,eX,trivial⟩ (fun vs w' hb hh=>by have e:=bZ (us:=[_,_,_,_,_]) hh;subst e;exact (rL g _ hon _).mono fun e w2 h=>⟨_,h.1,rfl,h.2⟩) (aD rfl)) ?_
   refine bD 3 rfl 79 1 rfl rfl rfl (fun w hw=>aZ rfl) rfl (aM 4 rfl (isV undef) (aH _) (bJ rfl (bK 80 rfl (aA rfl rfl rfl) rfl) (aD rfl)) (aM 5 rfl (isV undef) (aH _) (bJ rfl (bK 80 rfl (aA rfl rfl rfl) rfl) (aD rfl)) (aM 6 rfl (isV undef) (aH _) (bJ rfl (bK 80 rfl (aA rfl rfl rfl) rfl) (aD rfl)) (aM 7 rfl (isV undef) (aH _) (bJ rfl (bK 80 rfl (aA rfl rfl rfl) rfl) (aD rfl)) (bD 8 rfl 80 2 rfl rfl rfl (fun w hw=>dH rfl rfl) rfl (bD 9 rfl 85 7 rfl rfl rfl (fun w hw=>aZ rfl) rfl (aM 10 rfl (isV undef) (aH _) (bJ rfl (bK 86 rfl (aA rfl rfl rfl) rfl) (aD rfl)) (aM 11 rfl (isV undef) (aH _) (bJ rfl (bK 86 rfl (aA rfl rfl rfl) rfl) (aD rfl)) (aM 12 rfl (isV undef) (aH _) (bJ rfl (bK 86 rfl (aA rfl rfl rfl) rfl) (aD rfl)) (aM 13 rfl (isV undef) (aH _) (bJ rfl (bK 86 rfl (aA rfl rfl rfl) rfl) (aD rfl)) (aM 14 rfl (isV undef) (aH _) (bJ rfl (bK 86 rfl (aA rfl rfl rfl) rfl) (aD rfl)) (aM 15 rfl (isV undef) (aH _) (bJ rfl (bK 86 rfl (aA rfl rfl rfl) rfl) (aD rfl)) (aM 16 rfl (isV undef) (aH _) (bJ rfl (bK 86 rfl (aA rfl rfl rfl) rfl) (aD rfl)) (aM 17 rfl (isV undef) (aH _) (bJ rfl (bK 86 rfl (aA rfl rfl rfl) rfl) (aD rfl)) (aM 18 rfl (isV undef) (aH _) (bJ rfl (bK 86 rfl (aA rfl rfl rfl) rfl) (aD rfl)) (bD 19 rfl 86 8 rfl rfl rfl (fun w hw=>dH rfl rfl) rfl (bD 20 rfl 96 18 rfl rfl rfl (fun w hw=>aZ rfl) rfl (aM 21 rfl (isV undef) (aH _) (bJ rfl (bK 97 rfl (aA rfl rfl rfl) rfl) (aD rfl)) (aM 22 rfl (isV undef) (aH _) (bJ rfl (bK 97 rfl (aA rfl rfl rfl) rfl) (aD rfl)) (aM 23 rfl (isV undef) (aH _) (bJ rfl (bK 97 rfl (aA rfl rfl rfl) rfl) (aD rfl)) (aM 24 rfl (isV undef) (aH _) (bJ rfl (bK 97 rfl (aA rfl rfl rfl) rfl) (aD rfl)) (aM 25 rfl (isV undef) (aH _) (bJ rfl (bK 97 rfl (aA rfl rfl rfl) rfl) (aD rfl)) (aM 26 rfl (isV undef) (aH _) (bJ rfl (bK 97 rfl (aA rfl rfl rfl) rfl) (aD rfl)) (aM 27 rfl (isV undef) (aH _) (bJ rfl (bK 97 rfl (aA rfl rfl rfl) rfl) (aD rfl)) (aM 28 rfl (isV undef) (aH _) (bJ rfl (bK 97 rfl (aA rfl rfl rfl) rfl) (aD rfl)) (aM 29 rfl (isV undef) (aH _) (bJ rfl (bK 97 rfl (aA rfl rfl rfl) rfl) (aD rfl)) (bD 30 rfl 97 19 rfl rfl rfl (fun w hw=>dH rfl rfl) rfl (bD 31 rfl 107 29 rfl rfl rfl (fun w hw=>fE rfl) rfl (dB ?_)))))))))))))))))))))))))))))
   intro W3 hbR hS'
   clear hS;have hS:=hS';clear hS'
   refine aG (aG (aG (aG (aG (aG (aG (aG (aG (aG (aG (aG (aG (aG (aG (aG (aG (aG (aG (aG (aG (aG (aG (aG (aG (aG (aG (aG (aG (aG (aG (cH (XF.thenN ?_))))))))))))))))))))))))))))))))
   refine bM (XF.res (bV results58 rfl) ?_)
   exact ⟨bR (by rw [← hr];unfold gA;rw [hbb];rfl),hS.below⟩
  ·obtain ⟨h1,h2⟩:=h1;subst h1
   refine gP (m:=31) bY hS (by kernel_rfl) (by kernel_rfl) rfl (cB 1 rfl 3 rfl rfl (fun w hw=>bL (vs:=[_,_,_,_,_,_]) isAgg56 sizeOf56 rfl (aK.agree (aP hw 0) (Nat.zero_le _) (aK.own (j:=0) (m:=6) (hS.at_ 0 rfl) rfl))) rfl ?_)
   refine aM 2 rfl (isV (.bool true)) (aH _) (cP [isV _,isV _,isV _,isV _,isV _] rfl jY (aS rfl) ⟨cD (aL 0 (aA rfl rfl rfl)),eX,eX,eX,eX,trivial⟩ (fun vs w' hb hh=>by have e:=bZ (us:=[_,_,_,_,_]) hh;subst e;exact (rL _ _ hon _).mono fun e w2 h=>⟨_,h.1,rfl,h.2⟩) (aD rfl)) ?_
   refine bD 3 rfl 79 1 rfl rfl rfl (fun w hw=>aZ rfl) rfl (aM 4 rfl (isV _) (aH _) (rgV (li:=[(3,_)]) rfl (bE 80 rfl (aA rfl rfl rfl)) ⟨bP rfl,trivial⟩ (fun w hw=>aV (o':=5) cV rfl rfl) (aD rfl)) (aM 5 rfl (isV _) (aH _) (rgV (li:=[(81,_)]) rfl (bE 80 rfl (aA rfl rfl rfl)) ⟨aL 3 (aA rfl rfl rfl),trivial⟩ (fun w hw=>aX isAgg54 rfl ((aP hw 0).cell (Nat.zero_le _) (aJ (hS.at_ 0 rfl) rfl))) (aD rfl)) (aM 6 rfl (isV _) (aH _) (rgV (li:=[(82,_)]) rfl (bE 80 rfl (aA rfl rfl rfl)) ⟨aL 4 (aA rfl rfl rfl),trivial⟩ (fun w hw=>mQ underlying54 rfl) (aD rfl)) (aM 7 rfl (isV (.bool false)) (aH _) (jR (li:=[(83,_)]) rfl (bE 80 rfl (aA rfl rfl rfl)) ⟨aL 5 (aA rfl rfl rfl),trivial⟩ (fun w hw=>mS rfl rfl) (by rw [decide_eq_false (by omega)]) (aD rfl)) (aM 8 rfl (isV _) (aH _) (rgV (li:=[(80,_),(84,_)]) rfl (aS rfl) ⟨aL 2 (aA rfl rfl rfl),aL 6 (aA rfl rfl rfl),trivial⟩ (fun w hw=>dG rfl rfl) (aD rfl)) (bD 9 rfl 85 7 rfl rfl rfl (fun w hw=>aZ rfl) rfl (aM 10 rfl (isV undef) (aH _) (bJ rfl (bK 86 rfl (aA rfl rfl rfl) rfl) (aD rfl)) (aM 11 rfl (isV undef) (aH _) (bJ rfl (bK 86 rfl (aA rfl rfl rfl) rfl) (aD rfl)) (aM 12 rfl (isV undef) (aH _) (bJ rfl (bK 86 rfl (aA rfl rfl rfl) rfl) (aD rfl)) (aM 13 rfl (isV undef) (aH _) (bJ rfl (bK 86 rfl (aA rfl rfl rfl) rfl) (aD rfl)) (aM 14 rfl (isV undef) (aH _) (bJ rfl (bK 86 rfl (aA rfl rfl rfl) rfl) (aD rfl)) (aM 15 rfl (isV undef) (aH _) (bJ rfl (bK 86 rfl (aA rfl rfl rfl) rfl) (aD rfl)) (aM 16 rfl (isV undef) (aH _) (bJ rfl (bK 86 rfl (aA rfl rfl rfl) rfl) (aD rfl)) (aM 17 rfl (isV undef) (aH _) (bJ rfl (bK 86 rfl (aA rfl rfl rfl) rfl) (aD rfl)) (aM 18 rfl (isV undef) (aH _) (bJ rfl (bK 86 rfl (aA rfl rfl rfl) rfl) (aD rfl)) (bD 19 rfl 86 8 rfl rfl rfl (fun w hw=>dH rfl rfl) rfl (bD 20 rfl 96 18 rfl rfl rfl (fun w hw=>aZ rfl) rfl (aM 21 rfl (isV undef) (aH _) (bJ rfl (bK 97 rfl (aA rfl rfl rfl) rfl) (aD rfl)) (aM 22 rfl (isV undef) (aH _) (bJ rfl (bK 97 rfl (aA rfl rfl rfl) rfl) (aD rfl)) (aM 23 rfl (isV undef) (aH _) (bJ rfl (bK 97 rfl (aA rfl rfl rfl) rfl) (aD rfl)) (aM 24 rfl (isV undef) (aH _) (bJ rfl (bK 97 rfl (aA rfl rfl rfl) rfl) (aD rfl)) (aM 25 rfl (isV undef) (aH _) (bJ rfl (bK 97 rfl (aA rfl rfl rfl) rfl) (aD rfl)) (aM 26 rfl (isV undef) (aH _) (bJ rfl (bK 97 rfl (aA rfl rfl rfl) rfl) (aD rfl)) (aM 27 rfl (isV undef) (aH _) (bJ rfl (bK 97 rfl (aA rfl rfl rfl) rfl) (aD rfl)) (aM 28 rfl (isV undef) (aH _) (bJ rfl (bK 97 rfl (aA rfl rfl rfl) rfl) (aD rfl)) (aM 29 rfl (isV undef) (aH _) (bJ rfl (bK 97 rfl (aA rfl rfl rfl) rfl) (aD rfl)) (bD 30 rfl 97 19 rfl rfl rfl (fun w hw=>dH rfl rfl) rfl (bD 31 rfl 107 29 rfl rfl rfl (fun w hw=>fE rfl) rfl (dB ?_)))))))))))))))))))))))))))))
   intro W4 hbR hS'
   clear hS;have hS:=hS';clear hS'
   refine aG (aG (aG (aG (aG (aG (aG (aG (aG (aG (aG (aG (aG (aG (aG (aG (aG (aG (aG (aG (aG (aG (aG (aG (aG (aG (aG (aG (aG (aG (aG (cH (XF.thenN ?_))))))))))))))))))))))))))))))))
   refine bM (XF.res (bV results58 rfl) ?_)
   exact ⟨bR (by rw [← hr];unfold gA;rw [hbb,hz0,show decide (qs.length=2)=false from decide_eq_false (by have h9:qs.length=g.pl:=hw.2.1;omega)];rfl),hS.below⟩
  ·obtain ⟨h0,h1⟩:=h1;subst h0
   obtain ⟨x,y,hz,rfl,hx1⟩:=h1
   obtain ⟨hpl,b2,off2,hpa,hb2,hx6,hy6,hxi,hyi⟩:=hw.two
   obtain ⟨gz,gc,gg,gra,grl,grc,grows,gca,gcl,gcc,gcells,gpa,gpl,gpc⟩:=g
   dsimp only at hpl hpa hz
   subst hpl;subst hpa
   refine gP (m:=31) bY hS (by kernel_rfl) (by kernel_rfl) rfl (cB 1 rfl 3 rfl rfl (fun w hw=>bL (vs:=[_,_,_,_,_,_]) isAgg56 sizeOf56 rfl (aK.agree (aP hw 0) (Nat.zero_le _) (aK.own (j:=0) (m:=6) (hS.at_ 0 rfl) rfl))) rfl ?_)
   refine aM 2 rfl (isV (.bool true)) (aH _) (cP [isV _,isV _,isV _,isV _,isV _] rfl jY (aS rfl) ⟨cD (aL 0 (aA rfl rfl rfl)),eX,eX,eX,eX,trivial⟩ (fun vs w' hb hh=>by have e:=bZ (us:=[_,_,_,_,_]) hh;subst e;exact (rL _ _ hon _).mono fun e w2 h=>⟨_,h.1,rfl,h.2⟩) (aD rfl)) ?_
   refine bD 3 rfl 79 1 rfl rfl rfl (fun w hw=>aZ rfl) rfl (aM 4 rfl (isV _) (aH _) (rgV (li:=[(3,_)]) rfl (bE 80 rfl (aA rfl rfl rfl)) ⟨bP rfl,trivial⟩ (fun w hw=>aV (o':=5) cV rfl rfl) (aD rfl)) (aM 5 rfl (isV _) (aH _) (rgV (li:=[(81,_)]) rfl (bE 80 rfl (aA rfl rfl rfl)) ⟨aL 3 (aA rfl rfl rfl),trivial⟩ (fun w hw=>aX isAgg54 rfl ((aP hw 0).cell (Nat.zero_le _) (aJ (hS.at_ 0 rfl) rfl))) (aD rfl)) (aM 6 rfl (isV _) (aH _) (rgV (li:=[(82,_)]) rfl (bE 80 rfl (aA rfl rfl rfl)) ⟨aL 4 (aA rfl rfl rfl),trivial⟩ (fun w hw=>mQ underlying54 rfl) (aD rfl)) (aM 7 rfl (isV (.bool true)) (aH _) (jR (li:=[(83,_)]) rfl (bE 80 rfl (aA rfl rfl rfl)) ⟨aL 5 (aA rfl rfl rfl),trivial⟩ (fun w hw=>mS rfl rfl) (rfl) (aD rfl)) (aM 8 rfl (isV _) (aH _) (rgV (li:=[(80,_),(84,_)]) rfl (aS rfl) ⟨aL 2 (aA rfl rfl rfl),aL 6 (aA rfl rfl rfl),trivial⟩ (fun w hw=>dG rfl rfl) (aD rfl)) (bD 9 rfl 85 7 rfl rfl rfl (fun w hw=>aZ rfl) rfl (aM 10 rfl (isV _) (aH _) (rgV (li:=[(2,_)]) rfl (bE 86 rfl (aA rfl rfl rfl)) ⟨bP rfl,trivial⟩ (fun w hw=>aV (o':=2) dM rfl rfl) (aD rfl)) (aM 11 rfl (isV _) (aH _) (rgV (li:=[(87,_)]) rfl (bE 86 rfl (aA rfl rfl rfl)) ⟨aL 9 (aA rfl rfl rfl),trivial⟩ (fun w hw=>aX isAgg23 rfl ((aP hw 0).cell (Nat.zero_le _) (aJ (hS.at_ 1 rfl) rfl))) (aD rfl)) ?_))))))))
   refine aM 12 rfl (isV _) (aH _) (rgV (li:=[(88,_)]) rfl (bE 86 rfl (aA rfl rfl rfl)) ⟨aL 10 (aA rfl rfl rfl),trivial⟩ (fun w hw=>bA (j:=0) underlying23 sizeOf25 rfl rfl rfl (by show _ < 2;decide) (Nat.add_zero _)) (aD rfl)) ?_
   refine aM 13 rfl (isV _) (aH _) (rgV (li:=[(89,_)]) rfl (bE 86 rfl (aA rfl rfl rfl)) ⟨aL 11 (aA rfl rfl rfl),trivial⟩ (fun w hw=>bL (vs:=[_,_,_]) isAgg25 sizeOf25 rfl (aK.agree (aP hw 0) (Nat.zero_le _) (aK.agree hS.agree (Nat.zero_le _) hp3.cells))) (aD rfl)) (aM 14 rfl (isV _) (aH _) (rgV (li:=[(3,_)]) rfl (bE 86 rfl (aA rfl rfl rfl)) ⟨bP rfl,trivial⟩ (fun w hw=>aV (o':=5) cV rfl rfl) (aD rfl)) (aM 15 rfl (isV _) (aH _) (rgV (li:=[(91,_)]) rfl (bE 86 rfl (aA rfl rfl rfl)) ⟨aL 13 (aA rfl rfl rfl),trivial⟩ (fun w hw=>aX isAgg54 rfl ((aP hw 0).cell (Nat.zero_le _) (aJ (hS.at_ 0 rfl) rfl))) (aD rfl)) ?_))
   refine aM 16 rfl (isV _) (aH _) (rgV (li:=[(92,_)]) rfl (bE 86 rfl (aA rfl rfl rfl)) ⟨aL 14 (aA rfl rfl rfl),trivial⟩ (fun w hw=>bA (j:=0) underlying54 sizeOf56 rfl rfl rfl (by show _ < 2;decide) (Nat.add_zero _)) (aD rfl)) ?_
   refine aM 17 rfl (isV _) (aH _) (rgV (li:=[(93,_)]) rfl (bE 86 rfl (aA rfl rfl rfl)) ⟨aL 15 (aA rfl rfl rfl),trivial⟩ (fun w hw=>bL (vs:=[_,_,_,_,_,_]) isAgg56 sizeOf56 rfl (aK.agree (aP hw 0) (Nat.zero_le _) (aK.agree hS.agree (Nat.zero_le _) hx6.cells))) (aD rfl)) ?_
   refine aM 18 rfl (isV (.bool false)) (aH _) (cP [isV _,isV _] rfl uD (bE 86 rfl (aA rfl rfl rfl)) ⟨cD (aL 12 (aA rfl rfl rfl)),cD (aL 16 (aA rfl rfl rfl)),trivial⟩ (fun vs w' hb hh=>by have e:=bZ (us:=[_,_]) hh;subst e;exact (nC p.f.tag p.f.dim p.f.a p.f.len p.f.cap x.f hp (Nat.zero_le _) _ (hxi.at_.below (hS.below.trans (hb.mono hS.below.size))) _ hx1).mono fun e w2 h=>⟨_,h.1,rfl,h.2⟩) (aD rfl)) ?_
   refine aM 19 rfl (isV _) (aH _) (rgV (li:=[(86,_),(95,_)]) rfl (aS rfl) ⟨aL 8 (aA rfl rfl rfl),aL 17 (aA rfl rfl rfl),trivial⟩ (fun w hw=>dG rfl rfl) (aD rfl)) (bD 20 rfl 96 18 rfl rfl rfl (fun w hw=>aZ rfl) rfl (aM 21 rfl (isV undef) (aH _) (bJ rfl (bK 97 rfl (aA rfl rfl rfl) rfl) (aD rfl)) (aM 22 rfl (isV undef) (aH _) (bJ rfl (bK 97 rfl (aA rfl rfl rfl) rfl) (aD rfl)) (aM 23 rfl (isV undef) (aH _) (bJ rfl (bK 97 rfl (aA rfl rfl rfl) rfl) (aD rfl)) (aM 24 rfl (isV undef) (aH _) (bJ rfl (bK 97 rfl (aA rfl rfl rfl) rfl) (aD rfl)) (aM 25 rfl (isV undef) (aH _) (bJ rfl (bK 97 rfl (aA rfl rfl rfl) rfl) (aD rfl)) (aM 26 rfl (isV undef) (aH _) (bJ rfl (bK 97 rfl (aA rfl rfl rfl) rfl) (aD rfl)) (aM 27 rfl (isV undef) (aH _) (bJ rfl (bK 97 rfl (aA rfl rfl rfl) rfl) (aD rfl)) (aM 28 rfl (isV undef) (aH _) (bJ rfl (bK 97 rfl (aA rfl rfl rfl) rfl) (aD rfl)) (aM 29 rfl (isV undef) (aH _) (bJ rfl (bK 97 rfl (aA rfl rfl rfl) rfl) (aD rfl)) (bD 30 rfl 97 19 rfl rfl rfl (fun w hw=>dH rfl rfl) rfl (bD 31 rfl 107 29 rfl rfl rfl (fun w hw=>fE rfl) rfl (dB ?_)))))))))))))
   intro W5 hbR hS'
   clear hS;have hS:=hS';clear hS'
   refine aG (aG (aG (aG (aG (aG (aG (aG (aG (aG (aG (aG (aG (aG (aG (aG (aG (aG (aG (aG (aG (aG (aG (aG (aG (aG (aG (aG (aG (aG (aG (cH (XF.thenN ?_))))))))))))))))))))))))))))))))
   refine bM (XF.res (bV results58 rfl) ?_)
   exact ⟨bR (by rw [← hr];unfold gA;rw [hbb];show _=(true && (!gz && (true && (eU p.f.tag p.f.dim x.f && eU q.f.tag q.f.dim y.f))));rw [hz,hx1];rfl),hS.below⟩
  ·obtain ⟨h0,h1⟩:=h1;subst h0
   obtain ⟨x,y,hz,rfl,hx1⟩:=h1
   obtain ⟨hpl,b2,off2,hpa,hb2,hx6,hy6,hxi,hyi⟩:=hw.two
   obtain ⟨gz,gc,gg,gra,grl,grc,grows,gca,gcl,gcc,gcells,gpa,gpl,gpc⟩:=g
   dsimp only at hpl hpa hz
   subst hpl;subst hpa
   refine gP (m:=31) bY hS (by kernel_rfl) (by kernel_rfl) rfl (cB 1 rfl 3 rfl rfl (fun w hw=>bL (vs:=[_,_,_,_,_,_]) isAgg56 sizeOf56 rfl (aK.agree (aP hw 0) (Nat.zero_le _) (aK.own (j:=0) (m:=6) (hS.at_ 0 rfl) rfl))) rfl ?_)
   refine aM 2 rfl (isV (.bool true)) (aH _) (cP [isV _,isV _,isV _,isV _,isV _] rfl jY (aS rfl) ⟨cD (aL 0 (aA rfl rfl rfl)),eX,eX,eX,eX,trivial⟩ (fun vs w' hb hh=>by have e:=bZ (us:=[_,_,_,_,_]) hh;subst e;exact (rL _ _ hon _).mono fun e w2 h=>⟨_,h.1,rfl,h.2⟩) (aD rfl)) ?_
   refine bD 3 rfl 79 1 rfl rfl rfl (fun w hw=>aZ rfl) rfl (aM 4 rfl (isV _) (aH _) (rgV (li:=[(3,_)]) rfl (bE 80 rfl (aA rfl rfl rfl)) ⟨bP rfl,trivial⟩ (fun w hw=>aV (o':=5) cV rfl rfl) (aD rfl)) (aM 5 rfl (isV _) (aH _) (rgV (li:=[(81,_)]) rfl (bE 80 rfl (aA rfl rfl rfl)) ⟨aL 3 (aA rfl rfl rfl),trivial⟩ (fun w hw=>aX isAgg54 rfl ((aP hw 0).cell (Nat.zero_le _) (aJ (hS.at_ 0 rfl) rfl))) (aD rfl)) (aM 6 rfl (isV _) (aH _) (rgV (li:=[(82,_)]) rfl (bE 80 rfl (aA rfl rfl rfl)) ⟨aL 4 (aA rfl rfl rfl),trivial⟩ (fun w hw=>mQ underlying54 rfl) (aD rfl)) (aM 7 rfl (isV (.bool true)) (aH _) (jR (li:=[(83,_)]) rfl (bE 80 rfl (aA rfl rfl rfl)) ⟨aL 5 (aA rfl rfl rfl),trivial⟩ (fun w hw=>mS rfl rfl) (rfl) (aD rfl)) (aM 8 rfl (isV _) (aH _) (rgV (li:=[(80,_),(84,_)]) rfl (aS rfl) ⟨aL 2 (aA rfl rfl rfl),aL 6 (aA rfl rfl rfl),trivial⟩ (fun w hw=>dG rfl rfl) (aD rfl)) (bD 9 rfl 85 7 rfl rfl rfl (fun w hw=>aZ rfl) rfl (aM 10 rfl (isV _) (aH _) (rgV (li:=[(2,_)]) rfl (bE 86 rfl (aA rfl rfl rfl)) ⟨bP rfl,trivial⟩ (fun w hw=>aV (o':=2) dM rfl rfl) (aD rfl)) (aM 11 rfl (isV _) (aH _) (rgV (li:=[(87,_)]) rfl (bE 86 rfl (aA rfl rfl rfl)) ⟨aL 9 (aA rfl rfl rfl),trivial⟩ (fun w hw=>aX isAgg23 rfl ((aP hw 0).cell (Nat.zero_le _) (aJ (hS.at_ 1 rfl) rfl))) (aD rfl)) ?_))))))))
   refine aM 12 rfl (isV _) (aH _) (rgV (li:=[(88,_)]) rfl (bE 86 rfl (aA rfl rfl rfl)) ⟨aL 10 (aA rfl rfl rfl),trivial⟩ (fun w hw=>bA (j:=0) underlying23 sizeOf25 rfl rfl rfl (by show _ < 2;decide) (Nat.add_zero _)) (aD rfl)) ?_
   refine aM 13 rfl (isV _) (aH _) (rgV (li:=[(89,_)]) rfl (bE 86 rfl (aA rfl rfl rfl)) ⟨aL 11 (aA rfl rfl rfl),trivial⟩ (fun w hw=>bL (vs:=[_,_,_]) isAgg25 sizeOf25 rfl (aK.agree (aP hw 0) (Nat.zero_le _) (aK.agree hS.agree (Nat.zero_le _) hp3.cells))) (aD rfl)) (aM 14 rfl (isV _) (aH _) (rgV (li:=[(3,_)]) rfl (bE 86 rfl (aA rfl rfl rfl)) ⟨bP rfl,trivial⟩ (fun w hw=>aV (o':=5) cV rfl rfl) (aD rfl)) (aM 15 rfl (isV _) (aH _) (rgV (li:=[(91,_)]) rfl (bE 86 rfl (aA rfl rfl rfl)) ⟨aL 13 (aA rfl rfl rfl),trivial⟩ (fun w hw=>aX isAgg54 rfl ((aP hw 0).cell (Nat.zero_le _) (aJ (hS.at_ 0 rfl) rfl))) (aD rfl)) ?_))
   refine aM 16 rfl (isV _) (aH _) (rgV (li:=[(92,_)]) rfl (bE 86 rfl (aA rfl rfl rfl)) ⟨aL 14 (aA rfl rfl rfl),trivial⟩ (fun w hw=>bA (j:=0) underlying54 sizeOf56 rfl rfl rfl (by show _ < 2;decide) (Nat.add_zero _)) (aD rfl)) ?_
   refine aM 17 rfl (isV _) (aH _) (rgV (li:=[(93,_)]) rfl (bE 86 rfl (aA rfl rfl rfl)) ⟨aL 15 (aA rfl rfl rfl),trivial⟩ (fun w hw=>bL (vs:=[_,_,_,_,_,_]) isAgg56 sizeOf56 rfl (aK.agree (aP hw 0) (Nat.zero_le _) (aK.agree hS.agree (Nat.zero_le _) hx6.cells))) (aD rfl)) ?_
   refine aM 18 rfl (isV (.bool true)) (aH _) (cP [isV _,isV _] rfl uD (bE 86 rfl (aA rfl rfl rfl)) ⟨cD (aL 12 (aA rfl rfl rfl)),cD (aL 16 (aA rfl rfl rfl)),trivial⟩ (fun vs w' hb hh=>by have e:=bZ (us:=[_,_]) hh;subst e;exact (nC p.f.tag p.f.dim p.f.a p.f.len p.f.cap x.f hp (Nat.zero_le _) _ (hxi.at_.below (hS.below.trans (hb.mono hS.below.size))) _ hx1).mono fun e w2 h=>⟨_,h.1,rfl,h.2⟩) (aD rfl)) ?_
   refine aM 19 rfl (isV _) (aH _) (rgV (li:=[(86,_),(95,_)]) rfl (aS rfl) ⟨aL 8 (aA rfl rfl rfl),aL 17 (aA rfl rfl rfl),trivial⟩ (fun w hw=>dG rfl rfl) (aD rfl)) (bD 20 rfl 96 18 rfl rfl rfl (fun w hw=>aZ rfl) rfl (aM 21 rfl (isV _) (aH _) (rgV (li:=[(2,_)]) rfl (bE 97 rfl (aA rfl rfl rfl)) ⟨bP rfl,trivial⟩ (fun w hw=>aV (o':=2) dM rfl rfl) (aD rfl)) (aM 22 rfl (isV _) (aH _) (rgV (li:=[(98,_)]) rfl (bE 97 rfl (aA rfl rfl rfl)) ⟨aL 20 (aA rfl rfl rfl),trivial⟩ (fun w hw=>aX isAgg23 rfl ((aP hw 0).cell (Nat.zero_le _) (aJ (hS.at_ 1 rfl) rfl))) (aD rfl)) ?_)))
   refine aM 23 rfl (isV _) (aH _) (rgV (li:=[(99,_)]) rfl (bE 97 rfl (aA rfl rfl rfl)) ⟨aL 21 (aA rfl rfl rfl),trivial⟩ (fun w hw=>bA (j:=1) underlying23 sizeOf25 rfl rfl rfl (by show _ < 2;decide) rfl) (aD rfl)) ?_
   refine aM 24 rfl (isV _) (aH _) (rgV (li:=[(100,_)]) rfl (bE 97 rfl (aA rfl rfl rfl)) ⟨aL 22 (aA rfl rfl rfl),trivial⟩ (fun w hw=>bL (vs:=[_,_,_]) isAgg25 sizeOf25 rfl (aK.agree (aP hw 0) (Nat.zero_le _) (aK.agree hS.agree (Nat.zero_le _) hq3.cells))) (aD rfl)) (aM 25 rfl (isV _) (aH _) (rgV (li:=[(3,_)]) rfl (bE 97 rfl (aA rfl rfl rfl)) ⟨bP rfl,trivial⟩ (fun w hw=>aV (o':=5) cV rfl rfl) (aD rfl)) (aM 26 rfl (isV _) (aH _) (rgV (li:=[(102,_)]) rfl (bE 97 rfl (aA rfl rfl rfl)) ⟨aL 24 (aA rfl rfl rfl),trivial⟩ (fun w hw=>aX isAgg54 rfl ((aP hw 0).cell (Nat.zero_le _) (aJ (hS.at_ 0 rfl) rfl))) (aD rfl)) ?_))
   refine aM 27 rfl (isV _) (aH _) (rgV (li:=[(103,_)]) rfl (bE 97 rfl (aA rfl rfl rfl)) ⟨aL 25 (aA rfl rfl rfl),trivial⟩ (fun w hw=>bA (j:=1) underlying54 sizeOf56 rfl rfl rfl (by show _ < 2;decide) rfl) (aD rfl)) ?_
   refine aM 28 rfl (isV _) (aH _) (rgV (li:=[(104,_)]) rfl (bE 97 rfl (aA rfl rfl rfl)) ⟨aL 26 (aA rfl rfl rfl),trivial⟩ (fun w hw=>bL (vs:=[_,_,_,_,_,_]) isAgg56 sizeOf56 rfl (aK.agree (aP hw 0) (Nat.zero_le _) (aK.agree hS.agree (Nat.zero_le _) hy6.cells))) (aD rfl)) ?_
   refine aM 29 rfl (isV (.bool (eU q.f.tag q.f.dim y.f))) (aH _) (cP [isV _,isV _] rfl uD (bE 97 rfl (aA rfl rfl rfl)) ⟨cD (aL 23 (aA rfl rfl rfl)),cD (aL 27 (aA rfl rfl rfl)),trivial⟩ (fun vs w' hb hh=>by have e:=bZ (us:=[_,_]) hh;subst e;exact (nC q.f.tag q.f.dim q.f.a q.f.len q.f.cap y.f hq (Nat.zero_le _) _ (hyi.at_.below (hS.below.trans (hb.mono hS.below.size))) _ rfl).mono fun e w2 h=>⟨_,h.1,rfl,h.2⟩) (aD rfl)) ?_
   refine aM 30 rfl (isV _) (aH _) (rgV (li:=[(97,_),(106,_)]) rfl (aS rfl) ⟨aL 19 (aA rfl rfl rfl),aL 28 (aA rfl rfl rfl),trivial⟩ (fun w hw=>dG rfl rfl) (aD rfl)) (bD 31 rfl 107 29 rfl rfl rfl (fun w hw=>fE rfl) rfl (dB ?_))
   intro W6 hbR hS'
   clear hS;have hS:=hS';clear hS'
   refine aG (aG (aG (aG (aG (aG (aG (aG (aG (aG (aG (aG (aG (aG (aG (aG (aG (aG (aG (aG (aG (aG (aG (aG (aG (aG (aG (aG (aG (aG (aG (cH (XF.thenN ?_))))))))))))))))))))))))))))))))
   refine bM (XF.res (bV results58 rfl) ?_)
   exact ⟨bR (by rw [← hr];unfold gA;rw [hbb];show _=(true && (!gz && (true && (eU p.f.tag p.f.dim x.f && eU q.f.tag q.f.dim y.f))));rw [hz,hx1];rfl),hS.below⟩
end
end Go.Proofs.Ytafegfhpinpdoaa
