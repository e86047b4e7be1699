import Derived.Laws.BytesArg
import Derived.Maps.OwnSet
import Derived.Deep.AppendSrc
import Derived.Test.YtbmieipifgailaaGreatDoorCkE
set_option maxRecDepth 100000
set_option maxHeartbeats 4000000
set_option linter.unusedVariables false
set_option linter.unusedSimpArgs false
set_option linter.unusedSectionVars false
set_option linter.unnecessarySimpa false
namespace Go.Proofs.YtbmieipifgailaaGreatDoor
open Go.Proofs.Tryz
section
open Go.RowKit
theorem nI (w:World) (b o:Nat):(Instr.fieldAt 109 (.pointer (some ⟨b,o,none⟩)) 0).run prog w = .ok (.pointer (some ⟨b,o+0,none⟩)) w:=by simp [Instr.fieldAt,run_underlying underlying109,Instr.sureAddr,go_sem,Addr.add_lit]
theorem kV (w:World) (b o:Nat):(Instr.fieldAt 116 (.pointer (some ⟨b,o,none⟩)) 0).run prog w = .ok (.pointer (some ⟨b,o+0,none⟩)) w:=by simp [Instr.fieldAt,run_underlying underlying116,Instr.sureAddr,go_sem,Addr.add_lit]
theorem vZ (w:World) (b o:Nat):(Instr.fieldAt 116 (.pointer (some ⟨b,o,none⟩)) 1).run prog w = .ok (.pointer (some ⟨b,o+1,none⟩)) w:=by simp [Instr.fieldAt,run_underlying underlying116,Instr.sureAddr,go_sem,Addr.add_lit]
theorem nJ (w:World) (b o:Nat):(Instr.fieldAt 116 (.pointer (some ⟨b,o,none⟩)) 2).run prog w = .ok (.pointer (some ⟨b,o+2,none⟩)) w:=by simp [Instr.fieldAt,run_underlying underlying116,Instr.sureAddr,go_sem,Addr.add_lit]
theorem Ph:bJ prog 22=true:=by kernel_rfl
theorem St.mark0 {w0 W:World} {O:Own} {G:cV} {K:List (Nat×World)} (h:St w0 O G K W):St w0 O G ((W.heap.size,W)::K) W where
 below:=h.below
 own:=h.own
 dist:=h.dist
 kept:=fun q hq=>by
  rcases List.mem_cons.1 hq with rfl | hq
  ·exact ⟨dD.refl _ _,fun p hp=>.inl (cA (h.own p hp).2)⟩
  ·exact h.kept q hq
 rows:=fun g hg=>⟨(h.rows g hg).1,fun b hb=>⟨((h.rows g hg).2 b hb).1,fun q hq=>by
  rcases List.mem_cons.1 hq with rfl | hq
  ·exact .inl (h.glt hg hb).2
  ·exact ((h.rows g hg).2 b hb).2 q hq⟩⟩
 gdist:=h.gdist
theorem Bt (S:PS) (a:AV) (f0:WF) (bk:Bool) (bm VA VX RB VB IB WB n:Nat) (v:Value) (fs:List WF) (xs:List PX) (l:List Nat) (Ot:Own) (Gt:cV) (K Kv:List (Nat×World)) (w0:World) (s:Nat) (f:WF) (x x0:PX) (w:World) (hS0:St w0 ((RB,rdC f0 a bk bm VA VX,109)::(VB,gZ v n IB WB,116)::(IB,inC S xs,4)::(WB,wC fs,46)::Ot) (⟨v,l.length,atC l,3,1⟩::Gt) K w) (hKv:∀ q∈Kv,q∈K) (hV:VecOk S w0 Kv n fs xs l) (hn:n≤4096) (hs:s < n) (hx0:xs[s]?=some x0) (hsi:SIs w0 S a.s.f) (hok:S.ok) (ht:Tabs w0) (H0:jC w0 Kv (fun W=>XIs W S f0 (bU S))) (HX:jC w0 Kv (fun W=>XIs W S f x)) (hx:OkX S x) :
  Calls prog 69 #[.pointer (some ⟨RB,0,none⟩),.pointer (some ⟨VB,0,none⟩),.int .i64 (s:Int),f.val] w (fun e w'=>∃ (u:Value) (l':List Nat) (fs':List WF) (Kw:List (Nat×World)),e = .returned (.bool (!eqX (cD S x0 x) x0))∧(∀ q∈Kw,w.heap.size≤q.1)∧VecOk S w0 (Kw++Kv) n fs' (xs.set s (cD S x0 x)) l'∧((cD S x0 x=x0∧l'=l)∨l'=l∨l'=l++[s])∧St w0 ((RB,rdC f0 a bk bm VA VX,109)::(VB,gZ u n IB WB,116)::(IB,inC S (xs.set s (cD S x0 x)),4)::(WB,wC fs',46)::Ot) (⟨u,l'.length,atC l',3,1⟩::Gt) (Kw++K) w'):=by
 refine cG (args:=[.pointer (some ⟨RB,0,none⟩),.pointer (some ⟨VB,0,none⟩),.int .i64 (s:Int),f.val]) func69 rfl ntmps69 rfl ?_;have hS:=hS0;have hS:=hS.mark0;obtain ⟨g0,x9,hg0,hx9,hok0⟩:=hV.at_ hs;rw [hx0] at hx9;cases hx9;have hll:=hV.len;have hzz:OkX S (bU S):=nC;refine aO (aQ (bY (cs:=[_,_,_,_,_,_]) hS rfl rfl rfl fun B1 W1 hS=>aB rfl rfl (aP (XF.thenN (aO (aO (aQ (aH rfl rfl (cQ rfl rfl (aN (o':=1) vZ rfl rfl rfl (aR isAgg114 rfl (aK (hS.at_ 2 rfl) rfl) rfl (aH rfl rfl (cK (j:=s) underlying114 sizeOf4 rfl rfl (rfl) (hs) rfl rfl (aR isAgg4 rfl (aK (hS.at_ 3 rfl) (V6 hx0)) rfl (fB rfl rfl (aP (XF.thenN (bB rfl (fun hc=>?_) (fun hc=>?_)))))))))))))))))))
 ·have hc17:=hc;clear hc;have hz:x0=bU S:=by simpa [iC] using hc17
  have h0w:=H0 hS (fun q hq=>by simp [hKv q hq]);have hxw:=HX hS (fun q hq=>by simp [hKv q hq]);have hcx:cD S x0 x=x:=by rw [hz];exact lJ hx
  refine aO (aO (iX (m:=6) cC hS (by kernel_rfl) (by kernel_rfl) rfl (cE 1 rfl 0 rfl rfl (fun w hw=>aW rfl) rfl (aZ 2 rfl 18 0 rfl rfl rfl (fun w hw=>cU rfl) rfl (aZ 3 rfl 19 1 rfl rfl rfl (fun w hw=>aV (o':=0) nI rfl rfl) rfl (aZ 4 rfl 20 2 rfl rfl rfl (fun w hw=>aY (vs:=[_,_,_,_,_,_,_,_,_]) isAgg57 sizeOf57 rfl (aC.agree (aL hw 0) (Nat.zero_le _) (aC.own (j:=0) (m:=9) (hS.at_ 1 rfl) rfl))) rfl (cE 5 rfl 7 rfl rfl (fun w hw=>aY (vs:=[_,_,_,_,_,_]) isAgg46 sizeOf46 rfl (aC.agree (aL hw 0) (Nat.zero_le _) (aC.own (j:=0) (m:=6) (hS.at_ 0 rfl) rfl))) rfl ?_)))))));refine aJ 6 rfl (isV (.bool (!nzX S x))) (aE _) (cN [isV _,isV _] rfl Ph (aS rfl) ⟨bT (aM 3 (aA rfl rfl rfl)),bT (aM 4 (aA rfl rfl rfl)),trivial⟩ (fun vs w' hb hh=>by have e:=bW (us:=[_,_]) hh;subst e;exact (tM S a.s.f f0 f x w' (h0w.below hb) (hxw.below hb)).mono fun e w2 h=>⟨_,h.1,rfl,h.2⟩) (aF rfl)) ?_;refine dI ?_;intro W2 hbR;clear hS;intro hS;refine aG (aG (aG (aG (aG (aG (cM (XF.thenN (bB rfl (fun hc=>?_) (fun hc=>?_)))))))))
  ·have hc23:=hc;clear hc;have hxz:x=bU S:=by simpa [iC] using hc23
   have hee:cD S x0 x=x0:=by rw [hcx,hxz,hz]
   refine aO (aQ (aB rfl rfl (aP (XF.thenN (bL (XF.thenR (XF.thenR (XF.res (cI results69 rfl) ?_))))))));have hS9:=hS.tail;have hxs:xs.set s (cD S x0 x)=xs:=by rw [hee,Br hx0]
   refine ⟨v,l,fs,[],?_,?_,?_,?_,by rw [hxs];exact hS9.keep K (fun q hq=>by simp [hq])⟩
   ·rw [nH.2 hee];rfl
   ·exact fun q hq=>by cases hq
   ·rw [hxs];exact hV
   ·exact .inl ⟨hee,rfl⟩
  ·have hc23:=hc;clear hc;have hnz:x≠bU S:=by simpa [jD] using hc23
   have hnx:nzX S x=true:=jD.2 hnz;have hne:cD S x0 x≠x0:=by rw [hcx,hz];exact hnz
   refine bP (XF.thenN (aO (aQ (aH rfl rfl (cQ rfl rfl (aN (o':=1) vZ rfl rfl rfl (aR isAgg114 rfl (aK (hS.at_ 2 rfl) rfl) rfl (aH rfl rfl (cK (j:=s) underlying114 sizeOf4 rfl rfl (rfl) (hs) rfl rfl (dK (i:=3) (cs':=(inC S xs).set (0+s * 1) (.bool true)) (O':=_::_::_::_::_::Ot) hS sizeOf4 rfl rfl rfl rfl (inC_lt hx0) rfl rfl fun W4 hS=>?_))))))))));have hS:=hS.castO (O':=_::_::_::(IB,inC S (xs.set s x),4)::_::Ot) (by rw [← Pe,hnx]);refine aP (XF.thenN (aO (aQ (aH rfl rfl (aH rfl rfl (cQ rfl rfl (aN (o':=0) kV rfl rfl rfl (aR isAgg26 rfl (aK (hS.at_ 2 rfl) rfl) rfl (aH rfl rfl (cX (us:=[(0,.int .i64 _)]) hS underlying26 sizeOf3 zeroValue3 rfl rfl rfl (pY _) rfl fun B3 W3 hS=>?_))))))))));refine jS (i:=0) (news:=[_]) hS underlying26 Eb rfl rfl (by show 0 < 1;decide) rfl rfl rfl rfl rfl (aC.own (j:=0) (m:=1) (hS.at_ 0 rfl) rfl) rfl rfl (by dsimp only;simp only [maxLen];omega) (by dsimp only;show _ * 8≤_;omega) rfl fun v4 W4 hS=>?_
   refine cQ rfl rfl (aN (o':=0) kV rfl rfl rfl (dK (i:=3) (cs':=[_,_,_]) (O':=(_::_::_::_::_::_::Ot)) hS sizeOf26 rfl rfl (by first | rfl | exact (hS.oneV 0 _ rfl :) | exact (hS.oneV 1 _ rfl :) | exact (hS.oneV 2 _ rfl :) | exact (hS.oneV 3 _ rfl :)) rfl rfl rfl rfl fun W5 hS=>aP (XF.thenN (aO (Pc (ef:=7) (jy:=5) (ca:=qN (fun _=>[])) (ta:=fun _=>0) (Os:=osY _ 5 (0+s * 6) WB (wC fs) 46) (Gs:=rM _) (al:=[]) (k:=8) (ds:=[]) cC rfl hS rfl (by kernel_rfl) rfl (by decide) rfl rfl rfl rfl (aX 1 rfl rfl (isV _) (fun hNo=>sgV [(1,_)] rfl rfl rfl rfl hNo (aS rfl) ⟨cJ rfl,trivial⟩ (fun ev w he hw=>aW rfl) (aF rfl)) (aX 2 rfl rfl (isV _) (fun hNo=>sgV [(40,_)] rfl rfl rfl rfl hNo (aS rfl) ⟨aM 0 (aA rfl rfl rfl),trivial⟩ (fun ev w he hw=>cU rfl) (aF rfl)) (aX 3 rfl rfl (isV _) (fun hNo=>sgV [(41,_)] rfl rfl rfl rfl hNo (aS rfl) ⟨aM 1 (aA rfl rfl rfl),trivial⟩ (fun ev w he hw=>aV (o':=2) nJ rfl rfl) (aF rfl)) (aX 4 rfl rfl (isV _) (fun hNo=>sgV [(42,_)] rfl rfl rfl rfl hNo (aS rfl) ⟨aM 2 (aA rfl rfl rfl),trivial⟩ (fun ev w he hw=>bA isAgg44 rfl ((aK (hw.at_ 3 (xH (i:=3) (j:=5) rfl rfl)) rfl))) (aF rfl)) (aX 5 rfl rfl (isV _) (fun hNo=>sgV [(2,_)] rfl rfl rfl rfl hNo (aS rfl) ⟨cJ rfl,trivial⟩ (fun ev w he hw=>aW rfl) (aF rfl)) (aX 6 rfl rfl (isV _) (fun hNo=>sgV [(7,_)] rfl rfl rfl rfl hNo (aS rfl) ⟨cJ rfl,trivial⟩ (fun ev w he hw=>aY (vs:=[_,_,_,_,_,_]) isAgg46 sizeOf46 rfl ((aC.own (j:=0) (m:=6) (hw.at_ 1 (xH (i:=1) (j:=5) rfl rfl)) rfl))) (aF rfl)) (aX 7 rfl rfl (isV _) (fun hNo=>sgV [(43,_),(44,_)] rfl rfl rfl rfl hNo (aS rfl) ⟨aM 3 (aA rfl rfl rfl),aM 4 (aA rfl rfl rfl),trivial⟩ (fun ev w he hw=>bE (j:=s) underlying44 sizeOf46 rfl rfl (rfl) (hs) rfl) (aF rfl)) ?_))))))))))));refine nX 8 rfl (zE (py:=isV _) (m:=6) 5 (0+s * 6) [(46,_)] rfl rfl rfl rfl (by kernel_rfl) rfl rfl (fun j hj=>by rcases hj with h | rfl<;>first | (cases h<;>rfl) | rfl) ⟨aM 6 (aA rfl rfl rfl),trivial⟩ rfl rfl sizeOf46 (fun v w h=>by subst h;exact ⟨_,rfl,rfl,rfl⟩) (wC_le hg0)) ?_;refine mP ?_;intro Bf6 y6 W6 Ks6 hsz6 hKs6 hS' hcov6;clear hS;have hS:=hS'.castO (O':=(_::_::_::_::_::_::Ot)) rfl;clear hS';refine vU (L':=[AwS _ _ (isV _),AwS _ _ (isV _),AwS _ _ (isV _),AwS _ _ (isV _),AwS _ _ (isV _),(fun v0_ w0_=>v0_=_∧AwS _ _ (isV _) v0_ w0_),AwS _ _ (isV _),isV _]) rfl (bQ (bQ (bQ (bQ (bQ ?_)))));refine dF ?_;rintro _ ⟨rfl,hA6⟩;have hA6:=hA6.here;cases hA6;refine bQ (Ed (cM (aP (XF.thenN (aO (aQ (aB rfl rfl (aP (XF.thenN (bL (XF.thenR (XF.res (cI results69 rfl) ?_))))))))))));have hS9:=(hS.tail.tail.castO (O':=_::_::_::(WB,wC (fs.set s f),46)::Ot) (by rw [← Em (g:=f) hg0];rfl)).castG (G':=⟨_,(l++[s]).length,atC (l++[s]),3,1⟩::Gt) (by rw [show atC (l++[s])=atC l++[Value.int .i64 (s:Int)] by simp [atC],List.length_append];rfl);refine ⟨_,l++[s],fs.set s f,[],?_,?_,?_,?_,by rw [hcx];exact hS9.keep K (fun q hq=>by simp [hq])⟩
   ·rw [pB.2 hne];rfl
   ·exact fun q hq=>by cases hq
   ·rw [hcx];exact hV.put hs hx0 (fun q hq=>hq) HX hx hnz (.inr ⟨hz,rfl⟩)
   ·exact .inr (.inr rfl)
 ·have hc17:=hc;clear hc;have hnz0:x0≠bU S:=by simpa [jD] using hc17
  have hxw:=HX hS (fun q hq=>by simp [hKv q hq]);have hx0w:=(hV.held s g0 x0 hg0 hx0 hnz0) hS (fun q hq=>by simp [hKv q hq]);have hsz8:=hS.below.size;have hq8:w.heap.size≤W1.heap.size:=(hS.kept (w.heap.size,w) (by simp)).1.1;have hcz:cD S x0 x≠bU S:=zF hok hok0 hx hnz0;have hcok:OkX S (cD S x0 x):=kN hok hok0 hx;refine bP (XF.thenN (aO (regBA (cs:=[_,_,_,_,_,_]) cC 15 14 hS rfl rfl rfl rfl zeroValue46 rfl (by kernel_rfl) (by kernel_rfl) (by kernel_rfl) (fun d hd=>by cases hd) (fX 1 rfl rfl (isV _) (aE _) (agV (li:=[(0,_)]) rfl (aS rfl) ⟨cJ rfl,trivial⟩ (fun w hw=>aW rfl) (aF rfl)) (fX 2 rfl rfl (isV _) (aE _) (agV (li:=[(47,_)]) rfl (aS rfl) ⟨aM 0 (aA rfl rfl rfl),trivial⟩ (fun w hw=>cU rfl) (aF rfl)) (fX 3 rfl rfl (isV _) (aE _) (agV (li:=[(48,_)]) rfl (aS rfl) ⟨aM 1 (aA rfl rfl rfl),trivial⟩ (fun w hw=>aV (o':=0) nI rfl rfl) (aF rfl)) (fX 4 rfl rfl (isV _) (aE _) (agV (li:=[(49,_)]) rfl (aS rfl) ⟨aM 2 (aA rfl rfl rfl),trivial⟩ (fun w hw=>aY (vs:=[_,_,_,_,_,_,_,_,_]) isAgg57 sizeOf57 rfl (aC.agree (aL hw 0) (Nat.zero_le _) (aC.own (j:=0) (m:=9) (hS.at_ 1 rfl) rfl))) (aF rfl)) (fX 5 rfl rfl (isV _) (aE _) (agV (li:=[(1,_)]) rfl (aS rfl) ⟨cJ rfl,trivial⟩ (fun w hw=>aW rfl) (aF rfl)) (fX 6 rfl rfl (isV _) (aE _) (agV (li:=[(51,_)]) rfl (aS rfl) ⟨aM 4 (aA rfl rfl rfl),trivial⟩ (fun w hw=>cU rfl) (aF rfl)) (fX 7 rfl rfl (isV _) (aE _) (agV (li:=[(52,_)]) rfl (aS rfl) ⟨aM 5 (aA rfl rfl rfl),trivial⟩ (fun w hw=>aV (o':=2) nJ rfl rfl) (aF rfl)) (fX 8 rfl rfl (isV _) (aE _) (agV (li:=[(53,_)]) rfl (aS rfl) ⟨aM 6 (aA rfl rfl rfl),trivial⟩ (fun w hw=>bA isAgg44 rfl ((aL hw 0).cell (Nat.zero_le _) (aK (hS.at_ 2 rfl) rfl))) (aF rfl)) (fX 9 rfl rfl (isV _) (aE _) (agV (li:=[(2,_)]) rfl (aS rfl) ⟨cJ rfl,trivial⟩ (fun w hw=>aW rfl) (aF rfl)) (fX 10 rfl rfl (isV _) (aE _) (agV (li:=[(54,_),(55,_)]) rfl (aS rfl) ⟨aM 7 (aA rfl rfl rfl),aM 8 (aA rfl rfl rfl),trivial⟩ (fun w hw=>bE (j:=s) underlying44 sizeOf46 rfl rfl (rfl) (hs) rfl) (aF rfl)) (fX 11 rfl rfl (isX S x0) (lZ) (agP (li:=[(56,_)]) rfl (aS rfl) ⟨aM 9 (aA rfl rfl rfl),trivial⟩ (fun w hw=>aY (vs:=[_,_,_,_,_,_]) isAgg46 sizeOf46 rfl (aC.agree (aL hw 0) (Nat.zero_le _) (aC.own (j:=0+s * 6) (m:=6) (hS.at_ 4 rfl) (Jg hg0)))) (fun w hw=>⟨g0,rfl,hx0w.below hw⟩) (aF rfl)) (fX 12 rfl rfl (isX S x) (lZ) (agP (li:=[(7,_)]) rfl (aS rfl) ⟨cJ rfl,trivial⟩ (fun w hw=>aY (vs:=[_,_,_,_,_,_]) isAgg46 sizeOf46 rfl (aC.agree (aL hw 0) (Nat.zero_le _) (aC.own (j:=0) (m:=6) (hS.at_ 0 rfl) rfl))) (fun w hw=>⟨f,rfl,hxw.below hw⟩) (aF rfl)) (fX 13 rfl rfl (kU S [x0,x]) (nW) (V7 rfl (aS rfl) ⟨bT (aM 10 (aA rfl rfl rfl)),bT (aM 11 (aA rfl rfl rfl)),trivial⟩ (aF rfl)) (fX 14 rfl rfl (dP W1.heap.size S (cD S x0 x)) (dU) (ag_call [isV (gR a.s.f f0),kU S [x0,x]] rfl zC (aS rfl) ⟨bT (aM 3 (aA rfl rfl rfl)),bT (aM 12 (aA rfl rfl rfl)),trivial⟩ (fun vs w' hb hh=>plus2N hh (hsi.below (hS.below.trans (hb.mono hS.below.size))) hok hok0 (ht.below (hS.below.trans (hb.mono hS.below.size))) hb.size) (aF rfl)) (Ri 15 rfl rfl (bla_nil ?_)))))))))))))))))));intro B7 AB7 W7 hbR hA1 hA2 hBlo hBhi;clear hS;intro hS;refine oB (oB (oB (oB (oB (oB (oB (oB (oB (oB ?_)))))))));refine dF ?_;intro _ _;refine dF ?_;intro _ _;refine dF ?_;intro _ _;refine dF ?_;rintro _ hn9;obtain ⟨f9,e9,hf9⟩:=hn9.here;subst e9;refine aG ?_;obtain ⟨Kw,hKw⟩:∃ k,k=[(W1.heap.size,AB7),(B7+1,W7)]:=⟨_,rfl⟩;have hnw:∀ q∈Kw,w.heap.size≤q.1:=fun q hq=>by
   rw [hKw] at hq;simp only [List.mem_cons,List.not_mem_nil,or_false] at hq;rcases hq with rfl | rfl
   ·exact hq8
   ·dsimp only;omega
  have HX9:jC w0 (Kw++Kv) (fun W2=>XIs W2 S f9 (cD S x0 x)):=fun h2 hk=>(newOff hn9 hf9 hbR.size (Rh hA1 hA2 (h2.kept (W1.heap.size,AB7) (hk _ (by rw [hKw];simp))).1 (h2.kept (B7+1,W7) (hk _ (by rw [hKw];simp))).1)).is
  refine cM (aU (i:=0) (vs:=[_,_,_,_,_,_]) (cs':=[_,_,_,_,_,_]) (O':=(_::_::_::_::_::_::Ot)) hS sizeOf46 rfl rfl rfl rfl rfl rfl rfl fun W8 hS=>aP (XF.thenN (aO (aO ?_))));have hx9w:=HX9 hS (fun q hq=>by
   rw [hKw] at hq;simp only [List.cons_append,List.nil_append,List.mem_cons] at hq;rcases hq with rfl | rfl | hq
   ·simp
   ·simp
   ·simp [hKv q hq])
  have hx0v:=(hV.held s g0 x0 hg0 hx0 hnz0) hS (fun q hq=>by simp [hKv q hq]);refine iX (m:=9) cC hS (by kernel_rfl) (by kernel_rfl) rfl (cE 1 rfl 9 rfl rfl (fun w hw=>aY (vs:=[_,_,_,_,_,_]) isAgg46 sizeOf46 rfl (aC.agree (aL hw 0) (Nat.zero_le _) (aC.own (j:=0) (m:=6) (hS.at_ 0 rfl) rfl))) rfl (cE 2 rfl 1 rfl rfl (fun w hw=>aW rfl) rfl (aZ 3 rfl 62 1 rfl rfl rfl (fun w hw=>cU rfl) rfl (aZ 4 rfl 63 2 rfl rfl rfl (fun w hw=>aV (o':=2) nJ rfl rfl) rfl (aZ 5 rfl 64 3 rfl rfl rfl (fun w hw=>bA isAgg44 rfl ((aL hw 0).cell (Nat.zero_le _) (aK (hS.at_ 3 rfl) rfl))) rfl (cE 6 rfl 2 rfl rfl (fun w hw=>aW rfl) rfl (aJ 7 rfl (isV _) (aE _) (rgV (li:=[(65,_),(66,_)]) rfl (aS rfl) ⟨aM 4 (aA rfl rfl rfl),aM 5 (aA rfl rfl rfl),trivial⟩ (fun w hw=>bE (j:=s) underlying44 sizeOf46 rfl rfl (rfl) (hs) rfl) (aF rfl)) (aZ 8 rfl 67 6 rfl rfl rfl (fun w hw=>aY (vs:=[_,_,_,_,_,_]) isAgg46 sizeOf46 rfl (aC.agree (aL hw 0) (Nat.zero_le _) (aC.own (j:=0+s * 6) (m:=6) (hS.at_ 5 rfl) (Jg hg0)))) rfl ?_))))))));refine aJ 9 rfl (isV (.bool (eqX (cD S x0 x) x0))) (aE _) (cN [isV _,isV _] rfl yV (aS rfl) ⟨bT (aM 0 (aA rfl rfl rfl)),bT (aM 7 (aA rfl rfl rfl)),trivial⟩ (fun vs w' hb hh=>by have e:=bW (us:=[_,_]) hh;subst e;exact (Jc (hx9w.below hb) (hx0v.below hb) (eqX (cD S x0 x) x0) nH).mono fun e w2 h=>⟨_,h.1,rfl,h.2⟩) (aF rfl)) ?_;refine dI ?_;intro W9 hbR;clear hS;intro hS;refine aG (aG (aG (aG (aG (aG (aG (aG (aG (cM (XF.thenN (bB rfl (fun hc=>?_) (fun hc=>?_))))))))))))
  ·have hc69:=hc;clear hc;have hee:cD S x0 x=x0:=nH.1 hc69;refine aO (aQ (aB rfl rfl (aP (XF.thenN (bL (XF.thenR (XF.res (cI results69 rfl) ?_)))))));have hS9:=hS.tail.tail;have hxs:xs.set s (cD S x0 x)=xs:=by rw [hee,Br hx0]
   refine ⟨v,l,fs,[],?_,?_,?_,?_,by rw [hxs];exact hS9.keep K (fun q hq=>by simp [hq])⟩
   ·rw [nH.2 hee];rfl
   ·exact fun q hq=>by cases hq
   ·rw [hxs];exact hV
   ·exact .inl ⟨hee,rfl⟩
  ·have hc69:=hc;clear hc;have hne:cD S x0 x≠x0:=pB.1 hc69;refine bP (XF.thenN (aO (Pc (ef:=7) (jy:=5) (ca:=qN (fun _=>[])) (ta:=fun _=>0) (Os:=osY _ 5 (0+s * 6) WB (wC fs) 46) (Gs:=rM _) (al:=[]) (k:=8) (ds:=[]) cC rfl hS rfl (by kernel_rfl) rfl (by decide) rfl rfl rfl rfl (aX 1 rfl rfl (isV _) (fun hNo=>sgV [(1,_)] rfl rfl rfl rfl hNo (aS rfl) ⟨cJ rfl,trivial⟩ (fun ev w he hw=>aW rfl) (aF rfl)) (aX 2 rfl rfl (isV _) (fun hNo=>sgV [(70,_)] rfl rfl rfl rfl hNo (aS rfl) ⟨aM 0 (aA rfl rfl rfl),trivial⟩ (fun ev w he hw=>cU rfl) (aF rfl)) (aX 3 rfl rfl (isV _) (fun hNo=>sgV [(71,_)] rfl rfl rfl rfl hNo (aS rfl) ⟨aM 1 (aA rfl rfl rfl),trivial⟩ (fun ev w he hw=>aV (o':=2) nJ rfl rfl) (aF rfl)) (aX 4 rfl rfl (isV _) (fun hNo=>sgV [(72,_)] rfl rfl rfl rfl hNo (aS rfl) ⟨aM 2 (aA rfl rfl rfl),trivial⟩ (fun ev w he hw=>bA isAgg44 rfl ((aK (hw.at_ 3 (xH (i:=3) (j:=5) rfl rfl)) rfl))) (aF rfl)) (aX 5 rfl rfl (isV _) (fun hNo=>sgV [(2,_)] rfl rfl rfl rfl hNo (aS rfl) ⟨cJ rfl,trivial⟩ (fun ev w he hw=>aW rfl) (aF rfl)) (aX 6 rfl rfl (isV _) (fun hNo=>sgV [(9,_)] rfl rfl rfl rfl hNo (aS rfl) ⟨cJ rfl,trivial⟩ (fun ev w he hw=>aY (vs:=[_,_,_,_,_,_]) isAgg46 sizeOf46 rfl ((aC.own (j:=0) (m:=6) (hw.at_ 0 (xH (i:=0) (j:=5) rfl rfl)) rfl))) (aF rfl)) (aX 7 rfl rfl (isV _) (fun hNo=>sgV [(73,_),(74,_)] rfl rfl rfl rfl hNo (aS rfl) ⟨aM 3 (aA rfl rfl rfl),aM 4 (aA rfl rfl rfl),trivial⟩ (fun ev w he hw=>bE (j:=s) underlying44 sizeOf46 rfl rfl (rfl) (hs) rfl) (aF rfl)) ?_))))))))));refine nX 8 rfl (zE (py:=isV _) (m:=6) 5 (0+s * 6) [(76,_)] rfl rfl rfl rfl (by kernel_rfl) rfl rfl (fun j hj=>by rcases hj with h | rfl<;>first | (cases h<;>rfl) | rfl) ⟨aM 6 (aA rfl rfl rfl),trivial⟩ rfl rfl sizeOf46 (fun v w h=>by subst h;exact ⟨_,rfl,rfl,rfl⟩) (wC_le hg0)) ?_;refine mP ?_;intro Bf10 y10 W10 Ks10 hsz10 hKs10 hS' hcov10;clear hS;have hS:=hS'.castO (O':=(_::_::_::_::_::_::Ot)) rfl;clear hS';refine vU (L':=[AwS _ _ (isV _),AwS _ _ (isV _),AwS _ _ (isV _),AwS _ _ (isV _),AwS _ _ (isV _),(fun v0_ w0_=>v0_=_∧AwS _ _ (isV _) v0_ w0_),AwS _ _ (isV _),isV _]) rfl (bQ (bQ (bQ (bQ (bQ ?_)))));refine dF ?_;rintro _ ⟨rfl,hA10⟩;have hA10:=hA10.here;cases hA10;refine bQ (Ed (cM (aP (XF.thenN (aO (aQ (aB rfl rfl (aP (XF.thenN (bL (XF.res (cI results69 rfl) ?_)))))))))));have hin9:inC S (xs.set s (cD S x0 x))=inC S xs:=by rw [← Pe,jD.2 hcz,Nat.zero_add,Nat.mul_one];exact Sk (by rw [List.getElem?_map,hx0];show some (Value.bool (nzX S x0))=_;rw [jD.2 hnz0])
   have hS9:=hS.tail.tail.castO (O':=_::_::_::(WB,wC (fs.set s f9),46)::Ot) (by rw [← Em (g:=f9) hg0];rfl);refine ⟨v,l,fs.set s f9,Kw,?_,?_,?_,?_,by rw [hin9];exact hS9.keep (Kw++K) (fun q hq=>by
    rw [hKw] at hq;simp only [List.cons_append,List.nil_append,List.mem_cons] at hq;rcases hq with rfl | rfl | hq
    ·simp
    ·simp
    ·simp [hq])⟩
   ·rw [pB.2 hne];rfl
   ·exact hnw
   ·exact hV.put hs hx0 (fun q hq=>List.mem_append_right _ hq) HX9 hcok hcz (.inl ⟨hnz0,rfl⟩)
   ·exact .inr (.inl rfl)
theorem V8 (w:World) (b o:Nat):(Instr.fieldAt 109 (.pointer (some ⟨b,o,none⟩)) 2).run prog w = .ok (.pointer (some ⟨b,o+16,none⟩)) w:=by simp [Instr.fieldAt,run_underlying underlying109,Instr.sureAddr,go_sem,Addr.add_lit]
theorem En (S:PS) (a:AV) (f0:WF) (bk:Bool) (bm VA VX RB:Nat) (f g:WF) (x y:PX) (tf tg tt:Int) (w:World) (hrb:w.heap[RB]?=some (.cells (rdC f0 a bk bm VA VX).toArray 109 (0,0))) (hsi:SIs w S a.s.f) (hok:S.ok) (ht:Tabs w) (hx:XIs w S f x) (hy:XIs w S g y) :
  Calls prog 72 #[.pointer (some ⟨RB,0,none⟩),f.val,.agg #[.int .i64 tf,.int .i64 tg,.int .i64 tt,.bool g.z,.int .i64 g.c,.int .u64 (g.g:Int),.slice g.ra g.rl g.rc,.slice g.ca g.cl g.cc,.slice g.pa g.pl g.pc]] w (jO S (nQ S bk x y) w):=by
 refine cG (args:=[.pointer (some ⟨RB,0,none⟩),f.val,.agg #[.int .i64 tf,.int .i64 tg,.int .i64 tt,.bool g.z,.int .i64 g.c,.int .u64 (g.g:Int),.slice g.ra g.rl g.rc,.slice g.ca g.cl g.cc,.slice g.pa g.pl g.pc]]) func72 rfl ntmps72 rfl ?_;have hS:=St.start w;refine aO (aQ (bY (cs:=[_,_,_,_,_,_]) hS rfl rfl rfl fun B1 W1 hS=>bY (cs:=[_,_,_,_,_,_,_,_,_]) hS rfl rfl rfl fun B2 W2 hS=>bF (cs:=[_,_,_,_,_,_]) hS zeroValue46 rfl rfl fun B3 W3 hS=>aP (XF.thenN (aO (aO ?_)))));have hring:=aC.own (j:=0) (m:=9) (vs:=[.int .i64 a.s.f.tag,.int .i64 a.s.f.dim,.slice a.s.f.a a.s.f.len a.s.f.cap,.bool f0.z,.int .i64 f0.c,.int .u64 (f0.g:Int),.slice f0.ra f0.rl f0.rc,.slice f0.ca f0.cl f0.cc,.slice f0.pa f0.pl f0.pc]) hrb rfl;have hbk0:=aK (j:=16) hrb rfl;have hsz:=hS.below.size;refine aQ (aH rfl rfl (cQ rfl rfl (aN V8 rfl rfl rfl (aR isAgg4 rfl (hS.old hbk0) rfl (aP (XF.thenN (bB rfl (fun hc=>?_) (fun hc=>?_))))))))
 ·have hc10:=hc;clear hc;refine aO ?_;have hxw:=hx.below hS.below;have hyw:=hy.below hS.below;have k9:=aC.agree hS.agree (Nat.zero_le _) hring;refine xU cC 9 hS rfl rfl (by kernel_rfl) (by kernel_rfl) (by kernel_rfl) (fun d hd=>by cases hd) (cE 1 rfl 0 rfl rfl (fun w hw=>aW rfl) rfl (aZ 2 rfl 11 0 rfl rfl rfl (fun w hw=>cU rfl) rfl (aZ 3 rfl 12 1 rfl rfl rfl (fun w hw=>aV nI rfl (Nat.add_zero _)) rfl (aZ 4 rfl 13 2 rfl rfl rfl (fun w hw=>aY (vs:=[_,_,_,_,_,_,_,_,_]) isAgg57 sizeOf57 rfl (aC.agree (aL hw 0) (Nat.zero_le _) (k9))) rfl (cE 5 rfl 5 rfl rfl (fun w hw=>aV (o':=3) fS rfl rfl) rfl (aJ 6 rfl (isX S y) (lZ) (rgP (li:=[(15,_)]) rfl (aS rfl) ⟨aM 4 (aA rfl rfl rfl),trivial⟩ (fun w hw=>aY (vs:=[_,_,_,_,_,_]) isAgg46 sizeOf46 rfl (aC.agree (aL hw 0) (Nat.zero_le _) (aC.own (j:=3) (m:=6) (hS.at_ 1 rfl) rfl))) (fun w hw=>⟨g,rfl,hyw.below hw⟩) (aF rfl)) (aJ 7 rfl (isX S x) (lZ) (rgP (li:=[(4,_)]) rfl (aS rfl) ⟨cJ rfl,trivial⟩ (fun w hw=>aY (vs:=[_,_,_,_,_,_]) isAgg46 sizeOf46 rfl (aC.agree (aL hw 0) (Nat.zero_le _) (aC.own (j:=0) (m:=6) (hS.at_ 2 rfl) rfl))) (fun w hw=>⟨f,rfl,hxw.below hw⟩) (aF rfl)) (aJ 8 rfl (kU S [y,x]) (nW) (A6 rfl (aS rfl) ⟨bT (aM 5 (aA rfl rfl rfl)),bT (aM 6 (aA rfl rfl rfl)),trivial⟩ (aF rfl)) (aJ 9 rfl (dP W3.heap.size S (kZ S y x)) (dU) (cN [isV (gR a.s.f f0),kU S [y,x]] rfl Iy (aS rfl) ⟨bT (aM 3 (aA rfl rfl rfl)),bT (aM 7 (aA rfl rfl rfl)),trivial⟩ (fun vs w' hb hh=>Vr hh (hsi.below (hS.below.trans (hb.mono hS.below.size))) hok (ht.below (hS.below.trans (hb.mono hS.below.size))) hb.size) (aF rfl)) (dI ?_))))))))));intro W4 hbR;clear hS;intro hS;refine aG (aG (aG (aG (aG ?_))));refine dF ?_;rintro _ _;refine dF ?_;rintro _ _;refine dF ?_;rintro _ _;refine dF ?_;rintro _ ⟨f2,rfl,hn2⟩;refine cM (aU (i:=0) (vs:=[_,_,_,_,_,_]) (cs':=[_,_,_,_,_,_]) (O':=[_,_,_]) hS sizeOf46 rfl rfl rfl rfl rfl rfl rfl fun W5 hS=>aP (XF.thenN (bL (XF.thenR (XF.res (eE (vs:=[_,_,_,_,_,_]) results72 isAgg46 sizeOf46 rfl (aC.own (j:=0) (m:=6) (hS.at_ 0 rfl) rfl)) ?_)))));have e9:bk=true:=hc10;subst e9;exact ⟨f2,rfl,(hn2.agree (hS.since 0 rfl)).mono (by simpa using hsz),hS.below⟩
 ·have hc10:=hc;clear hc;refine bP (XF.thenN (aO ?_));have hxw:=hx.below hS.below;have hyw:=hy.below hS.below;have k9:=aC.agree hS.agree (Nat.zero_le _) hring;refine xU cC 9 hS rfl rfl (by kernel_rfl) (by kernel_rfl) (by kernel_rfl) (fun d hd=>by cases hd) (cE 1 rfl 0 rfl rfl (fun w hw=>aW rfl) rfl (aZ 2 rfl 20 0 rfl rfl rfl (fun w hw=>cU rfl) rfl (aZ 3 rfl 21 1 rfl rfl rfl (fun w hw=>aV nI rfl (Nat.add_zero _)) rfl (aZ 4 rfl 22 2 rfl rfl rfl (fun w hw=>aY (vs:=[_,_,_,_,_,_,_,_,_]) isAgg57 sizeOf57 rfl (aC.agree (aL hw 0) (Nat.zero_le _) (k9))) rfl (aJ 5 rfl (isX S x) (lZ) (rgP (li:=[(4,_)]) rfl (aS rfl) ⟨cJ rfl,trivial⟩ (fun w hw=>aY (vs:=[_,_,_,_,_,_]) isAgg46 sizeOf46 rfl (aC.agree (aL hw 0) (Nat.zero_le _) (aC.own (j:=0) (m:=6) (hS.at_ 2 rfl) rfl))) (fun w hw=>⟨f,rfl,hxw.below hw⟩) (aF rfl)) (cE 6 rfl 5 rfl rfl (fun w hw=>aV (o':=3) fS rfl rfl) rfl (aJ 7 rfl (isX S y) (lZ) (rgP (li:=[(25,_)]) rfl (aS rfl) ⟨aM 5 (aA rfl rfl rfl),trivial⟩ (fun w hw=>aY (vs:=[_,_,_,_,_,_]) isAgg46 sizeOf46 rfl (aC.agree (aL hw 0) (Nat.zero_le _) (aC.own (j:=3) (m:=6) (hS.at_ 1 rfl) rfl))) (fun w hw=>⟨g,rfl,hyw.below hw⟩) (aF rfl)) (aJ 8 rfl (kU S [x,y]) (nW) (A6 rfl (aS rfl) ⟨bT (aM 4 (aA rfl rfl rfl)),bT (aM 6 (aA rfl rfl rfl)),trivial⟩ (aF rfl)) (aJ 9 rfl (dP W3.heap.size S (kZ S x y)) (dU) (cN [isV (gR a.s.f f0),kU S [x,y]] rfl Iy (aS rfl) ⟨bT (aM 3 (aA rfl rfl rfl)),bT (aM 7 (aA rfl rfl rfl)),trivial⟩ (fun vs w' hb hh=>Vr hh (hsi.below (hS.below.trans (hb.mono hS.below.size))) hok (ht.below (hS.below.trans (hb.mono hS.below.size))) hb.size) (aF rfl)) (dI ?_))))))))));intro W6 hbR;clear hS;intro hS;refine aG (aG (aG (aG ?_)));refine dF ?_;rintro _ _;refine aG ?_;refine dF ?_;rintro _ _;refine dF ?_;rintro _ _;refine dF ?_;rintro _ ⟨f2,rfl,hn2⟩;refine cM (aU (i:=0) (vs:=[_,_,_,_,_,_]) (cs':=[_,_,_,_,_,_]) (O':=[_,_,_]) hS sizeOf46 rfl rfl rfl rfl rfl rfl rfl fun W7 hS=>aP (XF.thenN (bL (XF.res (eE (vs:=[_,_,_,_,_,_]) results72 isAgg46 sizeOf46 rfl (aC.own (j:=0) (m:=6) (hS.at_ 0 rfl) rfl)) ?_))));have e9:bk=false:=hc10;subst e9;exact ⟨f2,rfl,(hn2.agree (hS.since 0 rfl)).mono (by simpa using hsz),hS.below⟩
theorem slNil {w:World} {base n size:Nat} {e:TypeId} {a:Option Addr} {c:Nat} {xs:List Value} (h:w.ownsRow base e size (.slice a n c) n xs):(a=none∧n=0∧c=0)∨∃ b,a=some ⟨b,0,none⟩:=by
 rcases h.2 with ⟨e1,e2⟩ | ⟨g,cap,cur,e1,_⟩
 ·cases e1;exact .inl ⟨rfl,rfl,rfl⟩
 ·cases e1;exact .inr ⟨_,rfl⟩
theorem jW {w:World} {base n:Nat} {e:TypeId} {a:Option Addr} {c i:Nat} {xs:List Value} {x:Value} (h:w.ownsRow base e 1 (.slice a n c) n xs) (hi:xs[i]?=some x):∃ b,a=some ⟨b,0,none⟩∧w.cell? ⟨b,0+i * 1,none⟩=some x:=by
 rcases lM h with ⟨h1,h0⟩ | ⟨b,h1,_,h3⟩
 ·have h4:=h.1;have:=(List.getElem?_eq_some_iff.1 hi).1;omega
 ·exact ⟨b,h1,by rw [Nat.zero_add,Nat.mul_one];exact h3 i x hi⟩
theorem Jh (S:PS) (VB IB WB n:Nat) (v:Value) (fs:List WF) (xs:List PX) (l:List Nat) (Ot:Own) (Gt:cV) (K:List (Nat×World)) (w0:World) (w:World) (hS0:St w0 ((VB,gZ v n IB WB,116)::(IB,inC S xs,4)::(WB,wC fs,46)::Ot) (⟨v,l.length,atC l,3,1⟩::Gt) K w) (hV:VecOk S w0 K n fs xs l) (hn:n≤4096) :
  Calls prog 71 #[.pointer (some ⟨VB,0,none⟩)] w (fun e w'=>∃ (u:Value),e = .returned (.tuple #[])∧VecOk S w0 K n fs (List.replicate n (bU S)) []∧St w0 ((VB,gZ u n IB WB,116)::(IB,inC S (List.replicate n (bU S)),4)::(WB,wC fs,46)::Ot) (⟨u,([]:List Nat).length,atC [],3,1⟩::Gt) K w'):=by
 refine cG (args:=[.pointer (some ⟨VB,0,none⟩)]) func71 rfl ntmps71 rfl ?_;have hS:=hS0;have hll:=hV.len;obtain ⟨va,vc,rfl⟩:=hS.headSl;refine aO (aO (aQ (aH rfl rfl (cQ rfl rfl (aN (o':=0) kV rfl rfl rfl (aR isAgg26 rfl (aK (hS.at_ 0 rfl) rfl) rfl (cL underlying26 rfl rfl (aH rfl rfl (aP (XF.thenN (bX ?_)))))))))));refine eJ (fun m lf W=>∃ (i:Nat) (bs:List Bool),i≤l.length∧m=l.length - i∧lf=[(0,.pointer (some ⟨VB,0,none⟩)),(7,.slice va l.length vc),(8,.int .i64 (l.length:Int)),(9,.int .i64 (i:Int))]∧bs.length=n∧(∀ (j:Nat) (b:Bool),bs[j]?=some b→b=(nzX S (xs.getD j (bU S)) && !(l.take i).contains j))∧St w0 ((VB,gZ (.slice va l.length vc) n IB WB,116)::(IB,bs.map Value.bool,4)::(WB,wC fs,46)::Ot) (⟨.slice va l.length vc,l.length,atC l,3,1⟩::Gt) K W) (l.length - 0) ([(0,_),(7,_),(8,_),(9,_)]) ⟨rfl,rfl,rfl,rfl,trivial⟩ (⟨0,xs.map (nzX S),Nat.zero_le _,rfl,rfl,by rw [List.length_map];exact hV.xl,(fun j b hb=>by
  rw [List.getElem?_map] at hb;cases hx:xs[j]? with
  | none=>rw [hx] at hb;cases hb
  | some x=>rw [hx] at hb;cases hb;simp [List.getD_eq_getElem?_getD,hx]),hS.castO (by rw [List.map_map];rfl)⟩) ?_
 clear hS;rintro m lf W ⟨i,bs,hi,rfl,rfl,hbl,hbs,hS⟩;refine aO (aQ (cT rfl rfl rfl (aP (XF.thenN (aO (bB rfl (fun hc=>?_) (fun hc=>?_)))))))
 ·have hc10:=of_decide_eq_true hc;clear hc;have hk:i < l.length:=by omega
  obtain ⟨y,hy⟩:∃ y,l[i]?=some y:=⟨l[i],List.getElem?_eq_getElem hk⟩;obtain ⟨xy,hxy,hxz⟩:=(hV.ats y).1 (List.mem_of_getElem? hy);have hyn:y < n:=by have:=(List.getElem?_eq_some_iff.1 hxy).1;rw [hV.xl] at this;exact this
  obtain ⟨b9,rfl,k9⟩:=jW (hS.row 0 rfl) (show (atC l)[i]?=some (.int .i64 (y:Int)) by rw [List.getElem?_map,hy];rfl);refine bP (XF.thenN (aO (bX (aO (aQ (cK  underlying26 sizeOf3 rfl rfl rfl (by omega) rfl rfl (aR isAgg3 rfl (k9) rfl (aB rfl rfl (aP (XF.thenN (aQ (aH rfl rfl (cQ rfl rfl (aN (o':=1) vZ rfl rfl rfl (aR isAgg114 rfl (aK (hS.at_ 0 rfl) rfl) rfl (aH rfl rfl (cK (j:=y) underlying114 sizeOf4 rfl rfl (rfl) (hyn) rfl rfl ?_)))))))))))))))));refine dK (i:=1) (cs':=(bs.map Value.bool).set (0+y * 1) (.bool false)) (O':=_::_::_::Ot) hS sizeOf4 rfl rfl rfl rfl (by rw [Nat.blt_eq,List.length_map,hbl];omega) rfl rfl fun W4 hS=>?_
  refine aP (XF.blkN (XF.thenN (aQ (cY rfl rfl (IntWalk.i64_in _ (by omega)) rfl (aH rfl rfl (aP ?_))))));exact XF.round (l.length - (i+1)) [(0,_),(7,_),(8,_),(9,_)] (by omega) ⟨rfl,rfl,rfl,rfl,trivial⟩ ⟨i+1,bs.set y false,by omega,rfl,rfl,by rw [List.length_set];exact hbl,(fun j b hb=>by
   rw [List.take_add_one,hy];rcases Nat.decEq j y with e | rfl
   ·rw [List.getElem?_set_ne (Ne.symm e)] at hb;rw [hbs j b hb];simp [e]
   ·rw [List.getElem?_set_self (by rw [hbl];exact hyn)] at hb;cases hb;simp),hS.castO (by rw [Nat.zero_add,Nat.mul_one,List.map_set])⟩
 ·have hc10:=of_decide_eq_false hc;clear hc;have hbz:bs=List.replicate n false:=by
   apply List.ext_getElem?;intro j;rw [List.take_of_length_le (by omega)] at hbs;rcases Nat.lt_or_ge j n with hj | hj
   ·have h1:j < bs.length:=by omega
    have h2:=hbs j bs[j] (List.getElem?_eq_getElem h1);rw [List.getElem?_eq_getElem h1,h2,List.getElem?_replicate,if_pos hj];congr 1;obtain ⟨f9,x9,_,hx9,_⟩:=hV.at_ hj;rw [List.getD_eq_getElem?_getD,hx9];by_cases hz:x9=bU S
    ·simp [iC.2 hz]
    ·have:j∈l:=(hV.ats j).2 ⟨x9,hx9,hz⟩
     simp [this]
   ·rw [List.getElem?_eq_none (by omega),List.getElem?_replicate,if_neg (by omega)]
  subst hbz;have hinz:inC S (List.replicate n (bU S))=(List.replicate n false).map Value.bool:=by simp [inC,iC.2 rfl]
  refine dT (XF.thenX (XF.thenX (XF.blkX (XF.thenN ?_))));rcases slNil (hS.row 0 rfl) with ⟨h1,h2,h3⟩ | ⟨b5,h1⟩
  ·obtain rfl:=h1;obtain rfl:l=[]:=List.eq_nil_of_length_eq_zero h2;obtain rfl:=h3;refine aQ (aH rfl rfl (aH rfl rfl (cQ rfl rfl (aN (o':=0) kV rfl rfl rfl (aR isAgg26 rfl (aK (hS.at_ 0 rfl) rfl) rfl (R6 underlying26 sizeOf3 rfl rfl rfl rfl (cQ rfl rfl (aN (o':=0) kV rfl rfl rfl (dK (i:=0) (cs':=[_,_,_]) (O':=(_::_::_::Ot)) hS sizeOf26 rfl rfl (by first | rfl | exact (hS.oneV 0 _ rfl :) | exact (hS.oneV 1 _ rfl :) | exact (hS.oneV 2 _ rfl :) | exact (hS.oneV 3 _ rfl :)) rfl rfl rfl rfl fun W1 hS=>aP (XF.resN (Rf results71) ?_))))))))));have hS9:=(hS.castO (O':=_::(IB,inC S (List.replicate n (bU S)),4)::_::Ot) (by rw [hinz])).castG (G':=⟨_,([]:List Nat).length,atC [],3,1⟩::Gt) rfl;exact ⟨_,rfl,VecOk.emptied hV.fl,hS9⟩
  ·obtain rfl:=h1;refine aQ (aH rfl rfl (aH rfl rfl (cQ rfl rfl (aN (o':=0) kV rfl rfl rfl (aR isAgg26 rfl (aK (hS.at_ 0 rfl) rfl) rfl (op_cut (k:=0) hS 0 underlying26 sizeOf3 rfl rfl rfl (rfl) (Nat.zero_le _) rfl ?_))))));clear hS;intro hS;refine cQ rfl rfl (aN (o':=0) kV rfl rfl rfl (dK (i:=0) (cs':=[_,_,_]) (O':=(_::_::_::Ot)) hS sizeOf26 rfl rfl (by first | rfl | exact (hS.oneV 0 _ rfl :) | exact (hS.oneV 1 _ rfl :) | exact (hS.oneV 2 _ rfl :) | exact (hS.oneV 3 _ rfl :)) rfl rfl rfl rfl fun W2 hS=>aP (XF.resN (Rf results71) ?_)));have hS9:=(hS.castO (O':=_::(IB,inC S (List.replicate n (bU S)),4)::_::Ot) (by rw [hinz])).castG (G':=⟨_,([]:List Nat).length,atC [],3,1⟩::Gt) rfl;exact ⟨_,rfl,VecOk.emptied hV.fl,hS9⟩
section
variable {P:Program} {ops:Array Oper} {Q:Exit→Act→World→Prop} {n:Nat} {l:Fr} {W:World} {L:List Asr} {i:Nat}
variable {d:Nat} {op:Op} {ty:TypeId} {pos:String} {aft_:Array Edge}
theorem Gw (ds:List (Nat×Nat×Asr)) (hi:ops[i]?=some ⟨some d,op,ty,pos,aft_,none⟩) {q:Asr} (hds:I6 ops L i ds)
  (hr:∀ (ev:Operand→Value) w,Below W.heap.size W w→Ee ds ev w→∃ v w',(execOp ev ⟨some d,op,ty,pos,#[],none⟩).run P w = .ok (.value v) w'∧q v w'∧Below w.heap.size w w') (hI:atI L i=q):RG P n ops Q l W L i :=
 fun a ha=>oU hi (aS rfl) fun b w hF hG hD=>by
  have key:∀ (ds:List (Nat×Nat×Asr)),I6 ops L i ds→Ee ds b.eval w:=by
   intro ds
   induction ds with
   | nil=>intro _;trivial
   | cons x xs ih =>
    intro h;refine ⟨?_,ih h.2⟩;have h1:=hD x.1 x.2.1 h.1.1;rw [h.1.2] at h1;exact h1
  obtain ⟨v,w',h2,h3,h4⟩:=hr b.eval w hG (key ds hds);exact ⟨v,w',by rw [eR b.eval _ _ _ _ pos _ #[] _ none];exact h2,by rw [hI];exact h3,h4⟩
end
def xI (lo m:Nat) (e:TypeId) (cs:List Value):Asr:=fun v w=>∃ B,v = .slice (some ⟨B,0,none⟩) m m∧lo≤B∧w.heap[B]?=some (.cells cs.toArray e (0,0))
theorem yC {lo m:Nat} {e:TypeId} {cs:List Value}:gQ (xI lo m e cs):=fun v w w' ⟨B,h1,h2,h3⟩ hb=>⟨B,h1,h2,(hb.block B (cA h3)).trans h3⟩
theorem Ji {P:Program} {W:World} {T e:TypeId} {inf:TypeInfo} {z:Value} {m d:Nat} {cs:List Value} {x y:Operand} {ty:TypeId} {pos:String} {ev:Operand→Value} (hU:P.underlying T=some (.slice e)) (hinf:P.info? e=some inf) (hz:inf.zero=some z) (hx:ev x = .int .i64 (m:Int)) (hy:ev y = .int .i64 (m:Int))
  (hcs:madeCells z.cells (m * inf.size)=cs.toArray) (hb:(inf.bytes:Int) * m≤281474976710656) (h63:(m:Int)≤9223372036854775807) {lo:Nat} (hlo:lo≤W.heap.size):∃ v w',(execOp ev ⟨some d,.makeSlice T x y,ty,pos,#[],none⟩).run P W = .ok (.value v) w'∧xI lo m e cs v w'∧Below W.heap.size W w':=by
 have hr:=run_make (P:=P) W T e inf z hU hinf hz .i64 .i64 m m (by omega) (by omega) hb h63;rw [Int.toNat_natCast,hcs] at hr;refine ⟨.slice (some ⟨W.heap.size,0,none⟩) m m,W.alloc (.cells cs.toArray e),?_,⟨W.heap.size,rfl,hlo,heap_alloc_new W _⟩,(Below.refl _ _).alloc (Nat.le_refl _) _⟩;unfold execOp;simp only [];rw [hx,hy];simp [hr,Result.andThen]
theorem St.adoptL {w0 W W':World} {O N:Own} {G:cV} {K:List (Nat×World)} (h:St w0 O G K W) (h':St w0 O G K W') (hN:∀ p∈N,W.heap.size≤p.1∧W'.heap[p.1]?=some (.cells p.2.1.toArray p.2.2 (0,0))) (hd:N.Pairwise (fun p q=>p.1≠q.1)):St w0 (N++O) G K W' where
 below:=h'.below
 own:=fun p hp=>by
  rcases List.mem_append.1 hp with hp | hp
  ·exact ⟨Nat.le_trans h.below.size (hN p hp).1,(hN p hp).2⟩
  ·exact h'.own p hp
 dist:=by rw [List.pairwise_append];refine ⟨hd,h'.dist,fun p hp q hq e=>?_⟩;have h1:=(hN p hp).1;have h2:=cA (h.own q hq).2;omega
 kept:=fun q hq=>⟨(h'.kept q hq).1,fun p hp=>by
  rcases List.mem_append.1 hp with hp | hp
  ·exact .inr (Nat.le_trans (h.kept q hq).1.1 (hN p hp).1)
  ·exact (h'.kept q hq).2 p hp⟩
 rows:=fun g hg=>⟨(h'.rows g hg).1,fun b hb=>⟨fun p hp=>by
  rcases List.mem_append.1 hp with hp | hp
  ·have h1:=(hN p hp).1;have h2:=((h.rows g hg).1.lt b hb).2;omega
  ·exact ((h'.rows g hg).2 b hb).1 p hp,((h'.rows g hg).2 b hb).2⟩⟩
 gdist:=h'.gdist
theorem Jj (v1a:Option Addr) (v1l:Nat) (v1c:Nat) (v2a:Option Addr) (v2l:Nat) (v2c:Nat):prog.built 116 [(1,.slice v1a v1l v1c),(2,.slice v2a v2l v2c)]=some #[.slice none 0 0,.slice v1a v1l v1c,.slice v2a v2l v2c]:=by kernel_rfl
theorem Mu (n:Nat):madeCells (Value.bool false).cells (n * 1)=(List.replicate n (Value.bool false)).toArray:=by apply Array.ext';rw [Nat.mul_one];exact toList_madeCells_one _ n
theorem Ct (n:Nat):(madeCells (Value.agg #[.bool false,.int .i64 0,.int .u64 0,.slice none 0 0,.slice none 0 0,.slice none 0 0]).cells (n * 6)).toList=wC (List.replicate n (⟨false,0,0,none,0,0,[],none,0,0,[],none,0,0⟩:WF)):=by
 induction n with
 | zero=>simp [madeCells]
 | succ n ih =>
  rw [show (n+1) * 6=n * 6+6 by omega,List.replicate_succ',wC,List.flatMap_append];show _=wC (List.replicate n (⟨false,0,0,none,0,0,[],none,0,0,[],none,0,0⟩:WF))++_;rw [← ih];unfold madeCells;simp only [Array.toList_map,Array.toList_range,List.range_succ,List.map_append,List.map_cons,List.map_nil,List.append_assoc];have h:∀ k,k < 6→(n * 6+k) % (Value.agg #[.bool false,.int .i64 0,.int .u64 0,.slice none 0 0,.slice none 0 0,.slice none 0 0]).cells.size=k:=fun k hk=>by show (n * 6+k) % 6=k;omega
  rw [show (n * 6) % (Value.agg #[.bool false,.int .i64 0,.int .u64 0,.slice none 0 0,.slice none 0 0,.slice none 0 0]).cells.size=0 from h 0 (by omega),h 1 (by omega),h 2 (by omega),h 3 (by omega),h 4 (by omega),h 5 (by omega)];rfl
theorem Gx (n:Nat):madeCells (Value.agg #[.bool false,.int .i64 0,.int .u64 0,.slice none 0 0,.slice none 0 0,.slice none 0 0]).cells (n * 6)=(wC (List.replicate n (⟨false,0,0,none,0,0,[],none,0,0,[],none,0,0⟩:WF))).toArray:=by apply Array.ext';rw [Ct]
def Mv (lo n:Nat):Asr:=fun v w=>∃ IB WB,v = .agg #[.slice none 0 0,.slice (some ⟨IB,0,none⟩) n n,.slice (some ⟨WB,0,none⟩) n n]∧lo≤IB∧lo≤WB∧w.heap[IB]?=some (.cells (List.replicate n (Value.bool false)).toArray 4 (0,0))∧w.heap[WB]?=some (.cells (wC (List.replicate n (⟨false,0,0,none,0,0,[],none,0,0,[],none,0,0⟩:WF))).toArray 46 (0,0))
theorem Jk {lo n:Nat}:gQ (Mv lo n):=fun v w w' ⟨IB,WB,h1,h2,h3,h4,h5⟩ hb=>⟨IB,WB,h1,h2,h3,(hb.block _ (cA h4)).trans h4,(hb.block _ (cA h5)).trans h5⟩
def Gy (lo n:Nat):Asr:=fun v w=>∃ VB IB WB,v = .pointer (some ⟨VB,0,none⟩)∧lo≤VB∧lo≤IB∧lo≤WB∧w.heap[VB]?=some (.cells (gZ (.slice none 0 0) n IB WB).toArray 116 (0,0))∧w.heap[IB]?=some (.cells (List.replicate n (Value.bool false)).toArray 4 (0,0))∧w.heap[WB]?=some (.cells (wC (List.replicate n (⟨false,0,0,none,0,0,[],none,0,0,[],none,0,0⟩:WF))).toArray 46 (0,0))
theorem yD {lo n:Nat}:gQ (Gy lo n):=fun v w w' ⟨VB,IB,WB,h1,h2,h3,h4,h5,h6,h7⟩ hb=>⟨VB,IB,WB,h1,h2,h3,h4,(hb.block _ (cA h5)).trans h5,(hb.block _ (cA h6)).trans h6,(hb.block _ (cA h7)).trans h7⟩
theorem vec_own {w0 W W':World} {O:Own} {G:cV} {K:List (Nat×World)} {n VB IB WB:Nat} (h:St w0 O G K W) (h':St w0 O G K W') (l1:W.heap.size≤VB) (l2:W.heap.size≤IB) (l3:W.heap.size≤WB) (h1:W'.heap[VB]?=some (.cells (gZ (.slice none 0 0) n IB WB).toArray 116 (0,0))) (h2:W'.heap[IB]?=some (.cells (List.replicate n (Value.bool false)).toArray 4 (0,0))) (h3:W'.heap[WB]?=some (.cells (wC (List.replicate n (⟨false,0,0,none,0,0,[],none,0,0,[],none,0,0⟩:WF))).toArray 46 (0,0))) :
  St w0 ((VB,gZ (.slice none 0 0) n IB WB,116)::(IB,List.replicate n (Value.bool false),4)::(WB,wC (List.replicate n (⟨false,0,0,none,0,0,[],none,0,0,[],none,0,0⟩:WF)),46)::O) G K W':=by
 have n1:VB≠IB:=fun e=>by rw [e,h2] at h1;injection h1 with h1;injection h1 with _ h1 _;exact absurd h1 (by decide)
 have n2:VB≠WB:=fun e=>by rw [e,h3] at h1;injection h1 with h1;injection h1 with _ h1 _;exact absurd h1 (by decide)
 have n3:IB≠WB:=fun e=>by rw [e,h3] at h2;injection h2 with h2;injection h2 with _ h2 _;exact absurd h2 (by decide)
 exact h.adoptL (N:=[(VB,_,116),(IB,_,4),(WB,_,46)]) h' (fun p hp=>by
  simp only [List.mem_cons,List.not_mem_nil,or_false] at hp;rcases hp with rfl | rfl | rfl
  ·exact ⟨l1,h1⟩
  ·exact ⟨l2,h2⟩
  ·exact ⟨l3,h3⟩) (by simp [n1,n2,n3])
theorem Sl (n:Nat) (w:World) (hn:n≤4096) :
  Calls prog 68 #[.int .i64 (n:Int)] w (fun e w'=>∃ (VB IB WB:Nat),e = .returned (.pointer (some ⟨VB,0,none⟩))∧w.heap.size≤VB∧w.heap.size≤IB∧w.heap.size≤WB∧w'.heap[VB]?=some (.cells (gZ (.slice none 0 0) n IB WB).toArray 116 (0,0))∧w'.heap[IB]?=some (.cells (List.replicate n (Value.bool false)).toArray 4 (0,0))∧w'.heap[WB]?=some (.cells (wC (List.replicate n (⟨false,0,0,none,0,0,[],none,0,0,[],none,0,0⟩:WF))).toArray 46 (0,0))∧Below w.heap.size w w'):=by
 refine cG (args:=[.int .i64 (n:Int)]) func68 rfl ntmps68 rfl ?_;have hS:=St.start w;refine aO (aQ (aB rfl rfl (aP (XF.thenN (aO (iX (m:=7) cC hS (by kernel_rfl) (by kernel_rfl) rfl (cE 1 rfl 0 rfl rfl (fun w hw=>aW rfl) rfl ?_)))))));refine aJ 2 rfl (xI w.heap.size n 4 (List.replicate n (Value.bool false))) (yC) (Gw [(0,3,isV (.int .i64 (n:Int)))] rfl ⟨⟨by kernel_rfl,aA rfl rfl rfl⟩,trivial⟩ (fun ev w9 hb9 hd9=>Ji (cs:=List.replicate n (Value.bool false)) underlying114 inf_4 rfl hd9.1 hd9.1 (Mu n) (by show (1:Int) * n≤_;omega) (by omega) hb9.size) (aF rfl)) ?_;refine cE 3 rfl 0 rfl rfl (fun w hw=>aW rfl) rfl ?_;refine aJ 4 rfl (xI w.heap.size n 46 (wC (List.replicate n (⟨false,0,0,none,0,0,[],none,0,0,[],none,0,0⟩:WF)))) (yC) (Gw [(2,5,isV (.int .i64 (n:Int)))] rfl ⟨⟨by kernel_rfl,aA rfl rfl rfl⟩,trivial⟩ (fun ev w9 hb9 hd9=>Ji (cs:=wC (List.replicate n (⟨false,0,0,none,0,0,[],none,0,0,[],none,0,0⟩:WF))) underlying44 Lm rfl hd9.1 hd9.1 (Gx n) (by show (96:Int) * n≤_;omega) (by omega) hb9.size) (aF rfl)) ?_;refine aJ 5 rfl (Mv w.heap.size n) (Jk) (Gw [(1,4,xI w.heap.size n 4 (List.replicate n (Value.bool false))),(3,6,xI w.heap.size n 46 (wC (List.replicate n (⟨false,0,0,none,0,0,[],none,0,0,[],none,0,0⟩:WF))))] rfl ⟨⟨by kernel_rfl,aA rfl rfl rfl⟩,⟨by kernel_rfl,aA rfl rfl rfl⟩,trivial⟩ (fun ev w9 hb9 hd9=>by
  obtain ⟨⟨IB,e1,l1,h1⟩,⟨WB,e2,l2,h2⟩,_⟩:=hd9;have hr9:=run_build w9 116 #[(1,.slice (some ⟨IB,0,none⟩) n n),(2,.slice (some ⟨WB,0,none⟩) n n)] _ (P:=prog) (Jj (some ⟨IB,0,none⟩) n n (some ⟨WB,0,none⟩) n n);exact ⟨_,w9,by unfold execOp;simp only [List.map_toArray,List.map_cons,List.map_nil,e1,e2];simp [hr9],⟨IB,WB,rfl,l1,l2,h1,h2⟩,Below.refl _ _⟩) (aF rfl)) ?_
 refine aJ 6 rfl (Gy w.heap.size n) (yD) (Gw [(4,7,Mv w.heap.size n)] rfl ⟨⟨by kernel_rfl,aA rfl rfl rfl⟩,trivial⟩ (fun ev w9 hb9 hd9=>by
  obtain ⟨⟨IB,WB,e1,l1,l2,h1,h2⟩,_⟩:=hd9;exact ⟨.pointer (some ⟨w9.heap.size,0,none⟩),w9.alloc (.cells (gZ (.slice none 0 0) n IB WB).toArray 116),by unfold execOp;simp only [];rw [e1];simp [Instr.box,newVar,newRow];rfl,⟨w9.heap.size,IB,WB,rfl,hb9.size,l1,l2,heap_alloc_new w9 _,(Below.heap_alloc w9 _ _ (cA h1)).trans h1,(Below.heap_alloc w9 _ _ (cA h2)).trans h2⟩,(Below.refl _ _).alloc (Nat.le_refl _) _⟩) (aF rfl)) ?_
 refine aJ 7 rfl (Gy w.heap.size n) (yD) (Gw [(5,8,Gy w.heap.size n)] rfl ⟨⟨by kernel_rfl,aA rfl rfl rfl⟩,trivial⟩ (fun ev w9 hb9 hd9=>⟨ev (.tmp 8),w9,by unfold execOp;rfl,hd9.1,Below.refl _ _⟩) (aF rfl)) ?_;refine dI ?_;intro W1 hbR;clear hS;intro hS;refine aG ?_;refine dF ?_;intro _ _;refine aG ?_;refine dF ?_;intro _ _;refine dF ?_;intro _ _;refine dF ?_;intro _ _;refine dF ?_;rintro _ ⟨VB,IB,WB,rfl,l1,l2,l3,h1,h2,h3⟩;refine cM (XF.thenN (bL (XF.res (cI results68 rfl) ?_)));exact ⟨VB,IB,WB,rfl,l1,l2,l3,h1,h2,h3,hS.below⟩
end
section
open Go.RowKit
open Go.WideMaps (KeyLaw)
open Go.ChangeMaps (setBlock)
section
variable {P:Program} {ops:Array Oper} {Q:Exit→Act→World→Prop} {t0:Array Value} {d0:List Deferred} {GL:Array Bool→World→Prop} {R:Nat→World→World→Prop} {I:Nat→Value→World→Prop}
abbrev Eo (ops:Array Oper) (t0:Array Value) (d0:List Deferred) (I:Nat→Value→World→Prop) (L:Array Bool) (a:Act) (w:World):Prop:=RInv ops t0 d0 (fun _=>True) I L a w
def qE (P:Program) (ops:Array Oper) (Q:Exit→Act→World→Prop) (t0:Array Value) (GL:Array Bool→World→Prop) (R:Nat→World→World→Prop) (I:Nat→Value→World→Prop) (i:Nat):Prop :=
 ∀ (L:Array Bool) (a:Act) (w:World),L.size=ops.size→L.getD i true=false→(∀ j d,bH ops i j d=true→L.getD j false=true)→(∀ t,freeT ops t=true→a.eval (.tmp t)=t0.getD t undef)→GL L w→(∀ j d,bH ops i j d=true→I j (a.eval (.tmp d)) w) →
  wpOp P ops Q i (fun a' w'=>(∃ v,a'=a.put ((ops[i]?).bind (·.dst)) v∧(∀ d,(ops[i]?).bind (·.dst)=some d→I i v w'))∧GL (L.setIfInBounds i true) w'∧R i w w') a w
theorem Eo.next {L:Array Bool} {a:Act} {w w':World} {i:Nat} {v:Value} (h:Eo ops t0 d0 I L a w) (ht:dO ops t0.size=true) (hst:∀ i j v w w',i≠j→I i v w→R j w w'→I i v w') (hI:∀ d,(ops[i]?).bind (·.dst)=some d→I i v w') (hR:R i w w') :
  Eo ops t0 d0 I (L.setIfInBounds i true) (a.put ((ops[i]?).bind (·.dst)) v) w' where
 size:=by rw [mX];exact h.size
 defers:=by rw [jM];exact h.defers
 frame:=fun t hf=>by
  rw [fK ?_]
  ·exact h.frame t hf
  ·intro hd;obtain ⟨o,ho,hd⟩:=Option.bind_eq_some_iff.1 hd;have:=Array.all_eq_true'.1 hf o (Array.mem_of_getElem? ho);simp [hd] at this
 glob:=trivial
 done:=fun j d hd hj=>by
  by_cases hji:j=i
  ·subst hji;rw [tS hd (by rw [h.size];exact (gX ht hd).1)];exact hI d hd
  ·rw [getD_set_ne false (Ne.symm hji)] at hj;rw [fK (fun e=>hji ((gX ht e).2 j hd))];exact hst _ _ _ _ _ hji (h.done j d hd hj) hR
theorem Jl {L:Array Bool} {i:Nat} (hi:i∈Region.ready .any ops L):∀ j d,bH ops i j d=true→L.getD j false=true:=fun j d hw=>by obtain ⟨_,o,ho,hall⟩:=mem_ready.1 hi;simp only [bH,ho,Bool.and_eq_true,beq_iff_eq] at hw;obtain ⟨e,he,h1⟩:=Array.any_eq_true'.1 hw.1;simp only [Bool.and_eq_true,beq_iff_eq] at h1;have:=hall e he h1.2;rw [h1.1] at this;exact this
theorem Sm (ht:dO ops t0.size=true) (hst:∀ i j v w w',i≠j→I i v w→R j w w'→I i v w') (hstep:∀ i,i < ops.size→qE P ops Q t0 GL R I i)
  (hfin:∀ (L:Array Bool) (a:Act) (w:World),a.tmps.size=t0.size→a.defers=d0→(∀ t,freeT ops t=true→a.tmps.getD t undef=t0.getD t undef)→(∀ i,i < ops.size→L.getD i true=true)→L.size=ops.size→GL L w→(∀ i d,i < ops.size→(ops[i]?).bind (·.dst)=some d→I i (a.tmps.getD d undef) w)→Q .normal a w) :
  ∀ (fuel:Nat) (L:Array Bool) (a:Act) (w:World),L.size=ops.size→L.toList.count false≤fuel→GL L w→Eo ops t0 d0 I L a w→wpAny P .any ops Q fuel L a w:=by
 have fin:∀ (L:Array Bool) (a:Act) (w:World),(∀ i,i < ops.size→L.getD i true=true)→L.size=ops.size→GL L w→Eo ops t0 d0 I L a w→Q .normal a w:=fun L a w hall hs hG h =>
  hfin L a w h.size h.defers h.frame hall hs hG fun i d hi hd=>h.done i d hd (by
   have:=hall i hi;rw [Array.getD_eq_getD_getElem?] at this ⊢;rw [Array.getElem?_eq_getElem (by omega)] at this ⊢;simpa using this)
 intro fuel
 induction fuel with
 | zero =>
  intro L a w hs hc hG h;have hall:∀ i,i < ops.size→L.getD i true=true:=fun i hi=>by
   have hn:false∉L.toList:=List.count_eq_zero.1 (by omega);cases hL:L.getD i true with
   | true=>rfl
   | false =>
    rw [Array.getD_eq_getD_getElem?,Array.getElem?_eq_getElem (by omega)] at hL;exact absurd (by rw [← show L[i]=false by simpa using hL];exact Array.mem_toList_iff.2 (Array.getElem_mem _)) hn
  refine ⟨?_,fin L a w hall hs hG h⟩;cases hr:Region.ready .any ops L with
  | nil=>rfl
  | cons i rest =>
   have hi:i∈Region.ready .any ops L:=by rw [hr];exact List.mem_cons_self
   obtain ⟨h1,o,ho,_⟩:=mem_ready.1 hi;rw [hall i (Array.getElem?_eq_some_iff.1 ho).1] at h1;cases h1
 | succ fuel ih =>
  intro L a w hs hc hG h;refine ⟨fun hr=>fin L a w (gI ht hs hr) hs hG h,fun i hi=>?_⟩;obtain ⟨h1,o,ho,_⟩:=mem_ready.1 hi;have his:i < ops.size:=(Array.getElem?_eq_some_iff.1 ho).1;refine wpOp_mono ?_ (hstep i his L a w hs h1 (Jl hi) h.frameE hG (h.deps hi));rintro a' w' ⟨⟨v,rfl,hI⟩,hG',hR⟩;refine ih _ _ _ (by simpa using hs) ?_ hG' (Eo.next h ht hst hI hR)
  have:L.toList[i]?=some false:=by rw [Array.getD_eq_getD_getElem?,Array.getElem?_eq_getElem (by omega)] at h1;rw [Array.getElem?_toList,Array.getElem?_eq_getElem (by omega)];simpa using h1
  have:=fF _ _ this;rw [Array.toList_setIfInBounds];omega
theorem Gz {id:Nat} {a:Act} {w:World} (hm:P.follows .mixedOrders=true) (hG:GL (Array.replicate ops.size false) w.drew) (ht:dO ops a.tmps.size=true) (hst:∀ i j v w w',i≠j→I i v w→R j w w'→I i v w') (hstep:∀ i,i < ops.size→qE P ops Q a.tmps GL R I i)
  (hfin:∀ (L:Array Bool) (a':Act) (w:World),a'.tmps.size=a.tmps.size→a'.defers=a.defers→(∀ t,freeT ops t=true→a'.tmps.getD t undef=a.tmps.getD t undef)→(∀ i,i < ops.size→L.getD i true=true)→L.size=ops.size→GL L w→(∀ i d,i < ops.size→(ops[i]?).bind (·.dst)=some d→I i (a'.tmps.getD d undef) w)→Q .normal a' w) :
  (Code.region id ops true).wp P Q a w :=
 wp_region_any hm (Sm ht hst hstep hfin _ _ _ _ (by simp) (iP _) hG (oT trivial))
theorem qE.value {i:Nat} {o:Oper} (hi:ops[i]?=some o) (hgd:o.guard=none)
  (h:∀ (L:Array Bool) (a:Act) (w:World),L.size=ops.size→L.getD i true=false→(∀ j d,bH ops i j d=true→L.getD j false=true)→(∀ t,freeT ops t=true→a.eval (.tmp t)=t0.getD t undef)→GL L w→(∀ j d,bH ops i j d=true→I j (a.eval (.tmp d)) w) →
   ∃ v w',(execOp a.eval o).run P w = .ok (.value v) w'∧I i v w'∧GL (L.setIfInBounds i true) w'∧R i w w'):qE P ops Q t0 GL R I i:=fun L a w hs hL hW hF hG hD=>by
 obtain ⟨v,w',hr,hI,hG',hR⟩:=h L a w hs hL hW hF hG hD;unfold wpOp;simp only [hi,fI hgd,if_true];refine .inl ?_;unfold Oper.wp;rw [hr];exact ⟨⟨v,by simp,fun _ _=>hI⟩,hG',hR⟩
end
section
variable {α:Type} {P:Program} {K E S T:TypeId} {κ:α→Value} {W:World} {lo b:Nat} {f:α→List Value}
theorem Grp.entryW [DecidableEq α] (h:Grp P K E κ lo f b W) (L:KeyLaw P K) (ht:P.underlying T=some (.map K S)) (hz:∀ w,(zeroValue S).run P w = .ok (.slice none 0 0) w) {k:α} (hk:∃ l,keyOf P K (κ k)=some l) (hinj:∀ x y,κ x=κ y→x=y) :
  ∃ v0 st o1,(∀ w,w.heap[b]?=W.heap[b]?→(Instr.mapEntry T (.map (some b)) (κ k)).run P w = .ok (.tuple #[v0,st]) (setBlock w b o1))∧W.ownsRow lo E 1 v0 (f k).length (f k)∧(∀ p,v0.ownBlock=some p→p≠b) ∧
   ∀ W2 v' zs,W2.heap[b]?=some o1→W.heap.size≤W2.heap.size→(∀ p,p < W.heap.size→p≠b→v0.ownBlock≠some p→W2.heap[p]?=W.heap[p]?)→W2.ownsRow lo E 1 v' zs.length zs→(v'.ownBlock=v0.ownBlock∨∃ p,v'.ownBlock=some p∧W.heap.size≤p)→∃ W3,(Instr.entryStore T (.map (some b)) st v').run P W2 = .ok () W3∧W2.grownBy W3 (some b)∧Grp P K E κ lo (fun x=>if x=k then zs else f x) b W3:=by
 obtain ⟨es,clock,hb,hE⟩:=h;obtain ⟨l,hl⟩:=hk;have hold:∀ x∈es.toList,∀ p,x.val.ownBlock=some p→p < W.heap.size∧p≠b:=fun x hx p hp=>by obtain ⟨k2,_,_,h2⟩:=hE.is x hx;exact ⟨(h2.lt p hp).2,mA h2 hb hp⟩
 rcases L.find W hl es.toList hE.valid with ⟨h1,h2⟩ | ⟨j,e0,h1,h2,h3⟩
 ·have hnil:=hE.nil_of h2;refine ⟨.slice none 0 0,goInt clock,.map (es.push ⟨κ k,.slice none 0 0,clock⟩) (clock+1),fun w hw=>?_,by rw [hnil];exact World.ownsRow_nil _ _ _ _,(fun p hp=>by cases hp),fun W2 v' zs hb2 hsz hg hr hv=>?_⟩
  ·have hbw:=hw.trans hb;rcases L.find w hl es.toList hE.valid with ⟨h1w,_⟩ | ⟨j,e0,_,h2w,h3w⟩
   ·simp [Instr.mapEntry,run_underlying ht,MapKept.run_getObj_map hbw,L.check w _ hl,h1w,hz,MapKept.run_setObj_map _ hbw,setBlock,Result.andThen]
   ·exact absurd h3w (h2 e0 (List.mem_of_getElem? h2w))
  ·have hidx:(es.push ⟨κ k,.slice none 0 0,clock⟩).findIdx? (fun e=>((e.born:Nat):Int) == ((clock:Nat):Int))=some es.size:=by rw [WideElems.findIdx_arr];refine WideElems.findIdx_born (e0:=⟨κ k,.slice none 0 0,clock⟩) ?_ (by simp);rw [Array.toList_push,List.map_append,List.nodup_append];refine ⟨hE.nodup,by simp,fun a ha c hc e1=>?_⟩;obtain ⟨x,hx,rfl⟩:=List.mem_map.1 ha;have:=hE.born x hx;simp at hc;omega
   have hmod:(es.push ⟨κ k,.slice none 0 0,clock⟩).modify es.size (fun e=>{ e with val:=v' })=es.push ⟨κ k,v',clock⟩:=by apply Array.ext';rw [Array.toList_modify,Array.toList_push,Array.toList_push,← Array.length_toList,WideElems.modify_last]
   refine ⟨setBlock W2 b (.map (es.push ⟨κ k,v',clock⟩) (clock+1)),?_,nF hb2,⟨_,_,rN hb2,?_⟩⟩
   ·simp [Instr.entryStore,MapKept.run_getObj_map hb2,asInt,asIntOf,goInt,hidx,hmod,MapKept.run_setObj_map _ hb2,setBlock,Result.andThen]
   ·have hmem:∀ x,x∈(es.push ⟨κ k,v',clock⟩).toList↔x∈es.toList∨x=⟨κ k,v',clock⟩:=fun x=>by simp
    have hrow:∀ x∈es.toList,∀ p,x.val.ownBlock=some p→(setBlock W2 b (.map (es.push ⟨κ k,v',clock⟩) (clock+1))).heap[p]?=W.heap[p]?:=fun x hx p hp=>by obtain ⟨p1,p2⟩:=hold x hx p hp;rw [eN hb2 p2,hg p p1 p2 (fun e=>by cases e)]
    refine ⟨fun x hx=>?_,?_,?_,fun x hx=>?_,fun k2 hk2=>?_,fun x hx y hy hne=>?_⟩
    ·rcases (hmem x).1 hx with hx | rfl
     ·have:=hE.born x hx;omega
     ·exact Nat.lt_succ_self _
    ·rw [Array.toList_push,List.map_append,List.nodup_append];refine ⟨hE.nodup,by simp,fun a ha c hc e1=>?_⟩;obtain ⟨x,hx,rfl⟩:=List.mem_map.1 ha;have:=hE.born x hx;simp at hc;omega
    ·rw [Array.toList_push,List.pairwise_append];refine ⟨hE.keys,by simp,fun x hx y hy=>?_⟩;simp at hy;subst hy;exact h2 x hx
    ·rcases (hmem x).1 hx with hx | rfl
     ·obtain ⟨k2,e1,e2,e3⟩:=hE.is x hx;refine ⟨k2,e1,e2,?_⟩;rw [if_neg (fun e=>h2 x hx (by rw [e1,e]))];exact dN e3 (hrow x hx)
     ·refine ⟨k,rfl,⟨l,hl⟩,?_⟩;rw [if_pos rfl];exact dN hr fun p hp=>eN hb2 (mA hr hb2 hp)
    ·by_cases e:k2=k
     ·exact ⟨⟨κ k,v',clock⟩,(hmem _).2 (.inr rfl),by rw [e]⟩
     ·rw [if_neg e] at hk2;obtain ⟨x,hx,hxk⟩:=hE.all k2 hk2;exact ⟨x,(hmem x).2 (.inl hx),hxk⟩
    ·have hnew:∀ x∈es.toList,∀ p,x.val.ownBlock=some p→v'.ownBlock≠some p:=fun x hx p hp e=>by
      rcases hv with hv | ⟨q,hv,hq⟩
      ·rw [hv] at e;cases e
      ·rw [hv] at e;have:=(hold x hx p hp).1;have:=Option.some.inj e;omega
     rcases (hmem x).1 hx with hx | rfl
     ·rcases (hmem y).1 hy with hy | rfl
      ·exact hE.apart x hx y hy hne
      ·exact fun p hp=>hnew x hx p hp
     ·rcases (hmem y).1 hy with hy | rfl
      ·exact fun p hp e=>hnew y hy p e hp
      ·exact absurd rfl hne
 ·have hm0:=List.mem_of_getElem? h2;have hj:es[j]?=some e0:=by simpa using h2
  have hsame:es.modify j (fun e=>{ e with key:=κ k })=es:=by
   apply Array.ext';apply List.ext_getElem?;intro i;rw [Array.toList_modify,List.getElem?_modify];by_cases hij:j=i
   ·subst hij;rw [h2];simp [← h3]
   ·simp [hij]
  refine ⟨e0.val,goInt e0.born,.map es clock,fun w hw=>?_,hE.at_ hinj hm0 h3,(fun p hp=>(hold e0 hm0 p hp).2),fun W2 v' zs hb2 hsz hg hr hv=>?_⟩
  ·have hbw:=hw.trans hb;rcases L.find w hl es.toList hE.valid with ⟨_,h2w⟩ | ⟨j',e0',h1w,h2w,h3w⟩
   ·exact absurd h3 (h2w e0 hm0)
   ·have he:e0'=e0:=Bb hE.keys (List.mem_of_getElem? h2w) hm0 (h3w.trans h3.symm);subst he;have hjj:j'=j:=by have hbn:=hE.nodup;obtain ⟨a1,a2⟩:=List.getElem?_eq_some_iff.1 h2w;obtain ⟨c1,c2⟩:=List.getElem?_eq_some_iff.1 h2;exact (List.getElem_inj (i:=j') (j:=j) (h₀:=by rw [List.length_map];exact a1) (h₁:=by rw [List.length_map];exact c1) hbn).1 (by rw [List.getElem_map,List.getElem_map,a2,c2])
    subst hjj;simp [Instr.mapEntry,run_underlying ht,MapKept.run_getObj_map hbw,L.check w _ hl,h1w,hj,h3,L.stays w hl,hsame,MapKept.run_setObj_map _ hbw,setBlock,Result.andThen]
  ·have hidx:es.findIdx? (fun e=>((e.born:Nat):Int) == ((e0.born:Nat):Int))=some j:=by rw [WideElems.findIdx_arr];exact WideElems.findIdx_born hE.nodup h2
   refine ⟨setBlock W2 b (.map (es.modify j fun e=>{ e with val:=v' }) clock),?_,nF hb2,⟨_,_,rN hb2,?_⟩⟩
   ·simp [Instr.entryStore,MapKept.run_getObj_map hb2,asInt,asIntOf,goInt,hidx,MapKept.run_setObj_map _ hb2,setBlock,Result.andThen]
   ·have hrow:∀ x∈es.toList,x.key≠κ k→∀ p,x.val.ownBlock=some p→(setBlock W2 b (.map (es.modify j fun e=>{ e with val:=v' }) clock)).heap[p]?=W.heap[p]?:=fun x hx hne p hp=>by obtain ⟨p1,p2⟩:=hold x hx p hp;rw [eN hb2 p2,hg p p1 p2 (fun e=>hE.apart x hx e0 hm0 (by rw [h3];exact hne) p hp e)]
    have hcs:∀ x∈(es.modify j fun e=>{ e with val:=v' }).toList,(x.key=κ k∧x.val=v')∨(x∈es.toList∧x.key≠κ k):=fun x hx=>by
     rcases Bc h2 hx with rfl | ⟨i,hij,hi⟩
     ·exact .inl ⟨h3,rfl⟩
     ·refine .inr ⟨List.mem_of_getElem? hi,fun e=>hij ?_⟩;have hx0:=Bb hE.keys (List.mem_of_getElem? hi) hm0 (e.trans h3.symm);subst hx0;have hbn:=hE.nodup;obtain ⟨a1,a2⟩:=List.getElem?_eq_some_iff.1 hi;obtain ⟨c1,c2⟩:=List.getElem?_eq_some_iff.1 h2;exact (List.getElem_inj (i:=i) (j:=j) (h₀:=by rw [List.length_map];exact a1) (h₁:=by rw [List.length_map];exact c1) hbn).1 (by rw [List.getElem_map,List.getElem_map,a2,c2])
    refine ⟨fun x hx=>?_,?_,?_,fun x hx=>?_,fun k2 hk2=>?_,fun x hx y hy hne=>?_⟩
    ·rcases Bc h2 hx with rfl | ⟨i,_,hi⟩
     ·exact hE.born e0 hm0
     ·exact hE.born x (List.mem_of_getElem? hi)
    ·exact (Be (es:=es) (j:=j) (g:=fun e=>{ e with val:=v' }) (p:=fun x=>x.born) (fun _=>rfl))▸hE.nodup
    ·exact pw_map (p:=fun x=>x.key) (r:=fun x y=>x≠y) hE.keys (Be (es:=es) (j:=j) (g:=fun e=>{ e with val:=v' }) (p:=fun x=>x.key) (fun _=>rfl))
    ·rcases hcs x hx with ⟨e1,e2⟩ | ⟨e1,e2⟩
     ·refine ⟨k,e1,⟨l,hl⟩,?_⟩;rw [if_pos rfl,e2];exact dN hr fun p hp=>eN hb2 (mA hr hb2 hp)
     ·obtain ⟨k2,a1,a2,a3⟩:=hE.is x e1;refine ⟨k2,a1,a2,?_⟩;rw [if_neg (fun e=>e2 (by rw [a1,e]))];exact dN a3 (hrow x e1 e2)
    ·by_cases e:k2=k
     ·refine ⟨_,Bd h2,?_⟩;rw [if_pos rfl,e];exact h3
     ·rw [if_neg e] at hk2;obtain ⟨x,hx,hxk⟩:=hE.all k2 hk2;obtain ⟨i,hi⟩:=List.getElem?_of_mem hx;refine ⟨_,Bd (j:=j) (g:=fun e=>{ e with val:=v' }) hi,?_⟩;by_cases hij:j=i
      ·rw [if_pos hij];exact hxk
      ·rw [if_neg hij];exact hxk
    ·have hnew:∀ x∈es.toList,x.key≠κ k→∀ p,x.val.ownBlock=some p→v'.ownBlock≠some p:=fun x hx hne p hp e=>by
      rcases hv with hv | ⟨q,hv,hq⟩
      ·rw [hv] at e;exact hE.apart x hx e0 hm0 (by rw [h3];exact hne) p hp e
      ·rw [hv] at e;have:=(hold x hx p hp).1;have:=Option.some.inj e;omega
     rcases hcs x hx with ⟨e1,e2⟩ | ⟨e1,e2⟩
     ·rcases hcs y hy with ⟨d1,d2⟩ | ⟨d1,d2⟩
      ·exact absurd (e1.trans d1.symm) hne
      ·exact fun p hp e=>hnew y d1 d2 p e (by rw [← e2];exact hp)
     ·rcases hcs y hy with ⟨d1,d2⟩ | ⟨d1,d2⟩
      ·exact fun p hp=>by rw [d2];exact hnew x e1 e2 p hp
      ·exact hE.apart x e1 y d1 hne
theorem St.foreignK {w0 W W':World} {O:Own} {Kk:List (Nat×World)} {row:Option Nat} (h:St w0 O [] Kk W) (hg:W.grownBy W' row) (hb:∀ k,row=some k→w0.heap.size≤k∧(∀ p∈O,p.1≠k)∧∀ q∈Kk,k < q.1∨q.2.heap.size≤k):St w0 O [] Kk W' where
 below:=h.below.grown hg h.below.size (fun k hk=>(hb k hk).1)
 own:=fun p hp=>by obtain ⟨h1,h2⟩:=h.own p hp;exact ⟨h1,(hg.block _ (cA h2) (fun e=>(hb _ e.symm).2.1 p hp rfl)).trans h2⟩
 dist:=h.dist
 kept:=fun q hq=>by obtain ⟨⟨h1,h2⟩,h3⟩:=h.kept q hq;refine ⟨⟨Nat.le_trans h1 hg.size,fun k hk hk2=>(hg.block k (Nat.lt_of_lt_of_le hk2 h1) (fun e=>?_)).trans (h2 k hk hk2)⟩,h3⟩;rcases (hb k e.symm).2.2 q hq with h4 | h4<;>omega
 rows:=fun g hg=>by cases hg
 gdist:=List.Pairwise.nil
theorem wA {a:Act} {t:Nat} {v:Value} (h:a.eval (.tmp t)=v):∀ x u,evL [(t,v)] x=some u→a.eval x=u:=by
 intro x u hx;cases x with
 | tmp s =>
  unfold evL look at hx;cases hb:Nat.beq t s with
  | true=>simp only [hb,cond_true,Option.some.injEq] at hx;rw [← Nat.eq_of_beq_eq_true hb,← hx];exact h
  | false=>simp only [hb,cond_false] at hx;cases hx
 | const c=>exact Option.some.inj hx
 | global g=>exact Option.some.inj hx
 | func f=>exact Option.some.inj hx
structure GrpG (P:Program) (K E:TypeId) (κ:α→Value) (lo:Nat) (f':α→List Value) (b:Nat) (W w0:World) (O:Own) (Kk:List (Nat×World)) (v0:Value) (o1:Obj) (L:Array Bool) (w:World):Prop where
 st:St w0 O [] Kk w
 sz:W.heap.size≤w.heap.size
 c11:L.getD 11 false=true→L.getD 9 false=true∧L.getD 10 false=true
 c10:L.getD 10 false=true→L.getD 7 false=true
 c9:L.getD 9 false=true→L.getD 8 false=true
 c8:L.getD 8 false=true→L.getD 7 false=true
 m0:L.getD 7 false=false→w.heap[b]?=W.heap[b]?
 m1:L.getD 7 false=true→L.getD 11 false=false→w.heap[b]?=some o1
 old:∀ p,p < W.heap.size→p≠b→v0.ownBlock≠some p→w.heap[p]?=W.heap[p]?
 row0:L.getD 9 false=false→∀ p,v0.ownBlock=some p→w.heap[p]?=W.heap[p]?
 fin:L.getD 11 false=true→Grp P K E κ lo f' b w
def GrpI (E:TypeId) (lo:Nat) (W:World) (vals:Nat→Value) (x v0 st:Value) (xs:List Value) (i:Nat) (v:Value) (w:World):Prop :=
 (i < 6→v=vals i)∧(i=6→∃ B,v = .slice (some ⟨B,0,none⟩) 1 1∧W.heap.size≤B∧w.heap[B]?=some (.cells #[x] E (0,0)))∧(i=7→v = .tuple #[v0,st])∧(i=8→v=v0)∧(i=9→w.ownsRow lo E 1 v (xs.length+1) (xs++[x])∧(v.ownBlock=v0.ownBlock∨∃ p,v.ownBlock=some p∧W.heap.size≤p))∧(i=10→v=st)
theorem pD {L:Array Bool} {i:Nat} (h:i < L.size):(L.setIfInBounds i true).getD i false=true:=by rw [Array.getD_eq_getD_getElem?,Array.getElem?_setIfInBounds_self_of_lt h];rfl
theorem cZ {L:Array Bool} {i j:Nat} (h:i≠j):(L.setIfInBounds i true).getD j false=L.getD j false:=getD_set_ne false h
theorem G0 {L:Array Bool} {i:Nat} (h:L.getD i true=false):L.getD i false=false:=by
 rw [Array.getD_eq_getD_getElem?] at h ⊢;cases hL:L[i]? with
 | none=>rfl
 | some b=>rw [hL] at h;simpa using h
theorem V9 [DecidableEq α] {id n:Nat} {ops:Array Oper} {Q:Exit→Act→World→Prop} {l:Fr} {w0:World} {O:Own} {Kk:List (Nat×World)} {vals:Nat→Value} {k:α} {x:Value} {t:TypeId} {inf:TypeInfo} {z:Value} {d3 d4 d5 d6 d7 d8 d9 d10:Nat} {ty6 ty7 ty8 ty9 ty10 ty11:TypeId} {p6 p7 p8 p9 p10 p11:String} {a6 a7 a8 a9 a10 a11:Array Edge}
  (hm:P.follows .mixedOrders=true) (hS:St w0 O [] Kk W) (hM:Grp P K E κ lo f b W) (hO:∀ p∈O,p.1≠b∧(p.1 < lo∨p.2.2≠E)) (hwb:w0.heap.size≤b) (hwl:w0.heap.size≤lo) (hlo:lo≤W.heap.size) (hK:∀ q∈Kk,q.2.heap.size≤lo∧(b < q.1∨q.2.heap.size≤b))
  (LW:KeyLaw P K) (ht:P.underlying T=some (.map K S)) (hz:∀ w,(zeroValue S).run P w = .ok (.slice none 0 0) w) (hk:∃ l,keyOf P K (κ k)=some l) (hinj:∀ x y,κ x=κ y→x=y)
  (hU:P.underlying t=some (.slice E)) (hinf:P.info? E=some inf) (hzi:inf.zero=some z) (hzs:z.cells.size=inf.size) (hsz:inf.size=1) (hx1:x.oneCell'=true) (hrow1:∀ (ev:Operand→Value) w,ev (.tmp d5)=x→(execOp ev ⟨some d6,.buildSlice t 1 #[(0,.tmp d5)],ty6,p6,a6,none⟩).run P w = .ok (.value (.slice (some ⟨w.heap.size,0,none⟩) 1 1)) (w.alloc (.cells #[x] E)))
  (h63:(f k).length+1≤maxLen) (hbytes:((f k).length+1) * inf.bytes≤140737488355328)
  (hsize:ops.size=12) (htidy:dO ops n=true)
  (hv3:vals 3 = .map (some b)) (hv4:vals 4=κ k) (hv5:vals 5=x)
  (hpure:∀ i,i < 6→∀ (a0 a:Act) (w:World),Has n l a0→(∀ t,freeT ops t=true→a.eval (.tmp t)=a0.tmps.getD t undef)→St w0 O [] Kk w→(∀ j d,bH ops i j d=true→a.eval (.tmp d)=vals j)→∃ o,ops[i]?=some o∧o.guard=none∧(execOp a.eval o).run P w = .ok (.value (vals i)) w)
  (hi6:ops[6]?=some ⟨some d6,.buildSlice t 1 #[(0,.tmp d5)],ty6,p6,a6,none⟩) (hi7:ops[7]?=some ⟨some d7,.mapEntry T (.tmp d3) (.tmp d4),ty7,p7,a7,none⟩) (hi8:ops[8]?=some ⟨some d8,.extract (.tmp d7) 0,ty8,p8,a8,none⟩) (hi9:ops[9]?=some ⟨some d9,.call { callee:=.builtin .append,args:=#[.tmp d8,.tmp d6],argTypes:=#[t,t] },ty9,p9,a9,none⟩) (hi10:ops[10]?=some ⟨some d10,.extract (.tmp d7) 1,ty10,p10,a10,none⟩) (hi11:ops[11]?=some ⟨none,.entryStore T (.tmp d3) (.tmp d10) (.tmp d9),ty11,p11,a11,none⟩)
  (w65:bH ops 6 5 d5=true) (w73:bH ops 7 3 d3=true) (w74:bH ops 7 4 d4=true) (w87:bH ops 8 7 d7=true) (w98:bH ops 9 8 d8=true) (w96:bH ops 9 6 d6=true) (w107:bH ops 10 7 d7=true) (w113:bH ops 11 3 d3=true) (w1110:bH ops 11 10 d10=true) (w119:bH ops 11 9 d9=true)
  (h:∀ W',St w0 O [] Kk W'→Grp P K E κ lo (fun y=>if y=k then f k++[x] else f y) b W'→W.heap.size≤W'.heap.size→∀ a,a.tmps.size=n→a.defers=[]→(∀ t,freeT ops t=true→∀ v,look l t=some v→a.tmps.getD t undef=v)→Q .normal a W'):eW P n (.region id ops true) Q l W:=fun a0 ha0=>by
 obtain ⟨v0,st,o1,hrun,hown,hnb,back⟩:=hM.entryW LW ht hz hk hinj;have hbm:=hM.lt;have hrl:∀ p,v0.ownBlock=some p→p < W.heap.size:=fun p hp=>(hown.lt p hp).2
 have hrlo:∀ p,v0.ownBlock=some p→lo≤p:=fun p hp=>(hown.lt p hp).1
 refine Gz (GL:=GrpG P K E κ lo (fun y=>if y=k then f k++[x] else f y) b W w0 O Kk v0 o1)
  (R:=fun j w w'=>w.heap.size≤w'.heap.size∧(∀ p,W.heap.size≤p→p < w.heap.size→w'.heap[p]?=w.heap[p]?)∧(j≠9→∀ p,v0.ownBlock=some p→w'.heap[p]?=w.heap[p]?))
  (I:=GrpI E lo W vals x v0 st (f k)) hm ?_ ?_ ?_ ?_ ?_
 ·have hf:∀ j,(Array.replicate ops.size false).getD j false=false:=fun j=>by rw [Array.getD_eq_getD_getElem?,Array.getElem?_replicate];split<;>rfl
  refine ⟨hS.grow (Below.refl _ _).drew,Nat.le_refl _,?_,?_,?_,?_,fun _=>rfl,?_,fun _ _ _ _=>rfl,fun _ _ _=>rfl,?_⟩<;>(intro h1;rw [hf] at h1;cases h1)
 ·rw [ha0.size];exact htidy
 ·rintro i j v w w' hij ⟨h1,h2,h3,h4,h5,h6⟩ ⟨r1,r2,r3⟩;refine ⟨h1,fun e=>?_,h3,h4,fun e=>?_,h6⟩
  ·obtain ⟨B,e1,e2,e3⟩:=h2 e;exact ⟨B,e1,e2,(r2 B e2 (cA e3)).trans e3⟩
  ·obtain ⟨e1,e2⟩:=h5 e;refine ⟨dN e1 fun p hp=>?_,e2⟩;rcases e2 with e2 | ⟨p2,e2,e3⟩
   ·exact r3 (fun e4=>hij (e.trans e4.symm)) p (by rw [← e2];exact hp)
   ·rw [e2] at hp;cases hp;exact r2 _ e3 (e1.lt _ e2).2
 ·intro i hi;rw [hsize] at hi;by_cases hi6':i < 6
  ·-- what is pure
   intro L a w hs hL hW hF hG hD;obtain ⟨o,ho,hgd,hr⟩:=hpure i hi6' a0 a w ha0 hF hG.st (fun j d hw=>by
    have hji:j < i:=by
     cases ho:ops[i]? with
     | none=>simp [bH,ho] at hw
     | some o =>
      simp only [bH,ho,Bool.and_eq_true,beq_iff_eq] at hw;obtain ⟨e,he,h1⟩:=Array.any_eq_true'.1 hw.1;simp only [Bool.and_eq_true,beq_iff_eq] at h1;have:=jL htidy ho e he h1.2;omega
    exact (hD j d hw).1 (by omega))
   unfold wpOp;simp only [ho,fI hgd,if_true];refine .inl ?_;unfold Oper.wp;rw [hr];have n7:=cZ (L:=L) (show i≠7 by omega);have n8:=cZ (L:=L) (show i≠8 by omega);have n9:=cZ (L:=L) (show i≠9 by omega);have n10:=cZ (L:=L) (show i≠10 by omega);have n11:=cZ (L:=L) (show i≠11 by omega);refine ⟨⟨_,rfl,fun d _=>⟨fun _=>rfl,fun e=>by omega,fun e=>by omega,fun e=>by omega,fun e=>by omega,fun e=>by omega⟩⟩,⟨hG.st,hG.sz,by rw [n11,n9,n10];exact hG.c11,by rw [n10,n7];exact hG.c10,by rw [n9,n8];exact hG.c9,by rw [n8,n7];exact hG.c8,by rw [n7];exact hG.m0,by rw [n7,n11];exact hG.m1,hG.old,by rw [n9];exact hG.row0,by rw [n11];exact hG.fin⟩,Nat.le_refl _,fun _ _ _=>rfl,fun _ _ _=>rfl⟩
  have hcase:i=6∨i=7∨i=8∨i=9∨i=10∨i=11:=by omega
  rcases hcase with rfl | rfl | rfl | rfl | rfl | rfl
  ·-- the row
   refine qE.value hi6 rfl fun L a w hs hL hW hF hG hD=>?_
   have e5:=(hD 5 d5 w65).1 (by omega);rw [hv5] at e5;have n7:=cZ (L:=L) (show 6≠7 by omega);have n8:=cZ (L:=L) (show 6≠8 by omega);have n9:=cZ (L:=L) (show 6≠9 by omega);have n10:=cZ (L:=L) (show 6≠10 by omega);have n11:=cZ (L:=L) (show 6≠11 by omega);have hal:∀ p,p < w.heap.size→(w.alloc (.cells #[x] E)).heap[p]?=w.heap[p]?:=fun p hp=>Below.heap_alloc w _ _ hp
   have hbw:b < w.heap.size:=Nat.lt_of_lt_of_le hbm hG.sz;refine ⟨.slice (some ⟨w.heap.size,0,none⟩) 1 1,w.alloc (.cells #[x] E),?_,⟨fun e=>by omega,fun _=>⟨w.heap.size,rfl,hG.sz,heap_alloc_new w _⟩,fun e=>by omega,fun e=>by omega,fun e=>by omega,fun e=>by omega⟩,⟨(hG.st.alloc [x] E).tail,by simp;have:=hG.sz;omega,by rw [n11,n9,n10];exact hG.c11,by rw [n10,n7];exact hG.c10,by rw [n9,n8];exact hG.c9,by rw [n8,n7];exact hG.c8,by rw [n7];exact fun h1=>(hal b hbw).trans (hG.m0 h1),by rw [n7,n11];exact fun h1 h2=>(hal b hbw).trans (hG.m1 h1 h2),fun p hp h1 h2=>(hal p (Nat.lt_of_lt_of_le hp hG.sz)).trans (hG.old p hp h1 h2),by rw [n9];exact fun h1 p hp=>(hal p (Nat.lt_of_lt_of_le (hrl p hp) hG.sz)).trans (hG.row0 h1 p hp),by rw [n11];exact fun h1=>(hG.fin h1).below ((Below.refl _ _).alloc (Nat.le_refl _) _)⟩,by simp,fun p _ hp=>hal p hp,fun _ p hp=>hal p (Nat.lt_of_lt_of_le (hrl p hp) hG.sz)⟩;exact hrow1 a.eval w e5
  ·-- the entry
   refine qE.value hi7 rfl fun L a w hs hL hW hF hG hD=>?_
   have hL:=G0 hL;have e3:=(hD 3 d3 w73).1 (by omega);have e4:=(hD 4 d4 w74).1 (by omega);rw [hv3] at e3;rw [hv4] at e4;have hbw:=hG.m0 hL;have h11:L.getD 11 false=false:=by
    cases h9:L.getD 11 false with
    | false=>rfl
    | true=>rw [hG.c10 (hG.c11 h9).2] at hL;cases hL
   have h9:L.getD 9 false=false:=by
    cases h9:L.getD 9 false with
    | false=>rfl
    | true=>rw [hG.c8 (hG.c9 h9)] at hL;cases hL
   obtain ⟨ob,hob⟩:∃ ob,w.heap[b]?=some ob:=⟨_,Array.getElem?_eq_getElem (Nat.lt_of_lt_of_le hbm hG.sz)⟩;have hgr:=nF (o':=o1) hob;have n8:=cZ (L:=L) (show 7≠8 by omega);have n9:=cZ (L:=L) (show 7≠9 by omega);have n10:=cZ (L:=L) (show 7≠10 by omega);have n11:=cZ (L:=L) (show 7≠11 by omega);have n7:(L.setIfInBounds 7 true).getD 7 false=true:=pD (by omega);refine ⟨.tuple #[v0,st],setBlock w b o1,?_,⟨fun e=>by omega,fun e=>by omega,fun _=>rfl,fun e=>by omega,fun e=>by omega,fun e=>by omega⟩,⟨hG.st.foreignK hgr (fun k hk=>by cases hk;exact ⟨hwb,fun p hp=>(hO p hp).1,fun q hq=>(hK q hq).2⟩),by simp [setBlock];exact hG.sz,(by rw [n11,h11];intro h;cases h),fun _=>n7,(by rw [n9,h9];intro h;cases h),fun _=>n7,(by rw [n7];intro h;cases h),fun _ _=>rN hob,fun p hp h1 h2=>(eN hob h1).trans (hG.old p hp h1 h2),fun _ p hp=>(eN hob (hnb p hp)).trans (hG.row0 h9 p hp),(by rw [n11,h11];intro h;cases h)⟩,by simp [setBlock],fun p hp _=>eN hob (by omega),fun _ p hp=>eN hob (hnb p hp)⟩;unfold execOp;simp only [];rw [e3,e4];simp [hrun w hbw,Result.andThen]
  ·-- its row
   refine qE.value hi8 rfl fun L a w hs hL hW hF hG hD=>?_
   have e7:=(hD 7 d7 w87).2.2.1 rfl;have h7:=hW 7 d7 w87;have n7:=cZ (L:=L) (show 8≠7 by omega);have n9:=cZ (L:=L) (show 8≠9 by omega);have n10:=cZ (L:=L) (show 8≠10 by omega);have n11:=cZ (L:=L) (show 8≠11 by omega);have n8:(L.setIfInBounds 8 true).getD 8 false=true:=pD (by omega);refine ⟨v0,w,?_,⟨fun e=>by omega,fun e=>by omega,fun e=>by omega,fun _=>rfl,fun e=>by omega,fun e=>by omega⟩,⟨hG.st,hG.sz,by rw [n11,n9,n10];exact hG.c11,by rw [n10,n7];exact hG.c10,fun _=>n8,fun _=>by rw [n7];exact h7,by rw [n7];exact hG.m0,by rw [n7,n11];exact hG.m1,hG.old,by rw [n9];exact hG.row0,by rw [n11];exact hG.fin⟩,Nat.le_refl _,fun _ _ _=>rfl,fun _ _ _=>rfl⟩;unfold execOp;simp only [];rw [e7];simp [Instr.extract]
  ·-- one more
   refine qE.value hi9 rfl fun L a w hs hL hW hF hG hD=>?_
   have hL:=G0 hL;have e8:=(hD 8 d8 w98).2.2.2.1 rfl;obtain ⟨B,e6,hB1,hB2⟩:=(hD 6 d6 w96).2.1 rfl;have h8:=hW 8 d8 w98;have h7:=hG.c8 h8;have h11:L.getD 11 false=false:=by
    cases h9:L.getD 11 false with
    | false=>rfl
    | true=>rw [(hG.c11 h9).1] at hL;cases hL
   have hrw:w.ownsRow lo E inf.size v0 (f k).length (f k):=by rw [hsz];exact dN hown fun p hp=>hG.row0 hL p hp
   obtain ⟨v',w',hr,o9,g9,b9⟩:=lU (P:=P) (w:=w) lo t ty9 E inf z hU hinf hzi hzs (by omega) v0 _ _ hrw ⟨B,0,none⟩ 1 1 [x] (by rw [hsz];rfl) (fun j u hj=>by
    rw [Addr.add_lit,Nat.zero_add];simp only [World.cell?,hB2];simpa using hj) (fun u hu=>by simp at hu;subst hu;exact hx1) h63 hbytes (Nat.le_trans hlo hG.sz)
   rw [hsz] at o9;have n7:=cZ (L:=L) (show 9≠7 by omega);have n8:=cZ (L:=L) (show 9≠8 by omega);have n10:=cZ (L:=L) (show 9≠10 by omega);have n11:=cZ (L:=L) (show 9≠11 by omega);have n9:(L.setIfInBounds 9 true).getD 9 false=true:=pD (by omega);have hne:∀ p,v0.ownBlock≠some p→p < w.heap.size→w'.heap[p]?=w.heap[p]?:=fun p h1 h2=>g9.block p h2 (fun e=>h1 e.symm)
   have hnbm:v0.ownBlock≠some b:=fun e=>hnb b e rfl
   refine ⟨v',w',?_,⟨fun e=>by omega,fun e=>by omega,fun e=>by omega,fun e=>by omega,fun _=>⟨o9,b9.imp_right (fun h=>⟨_,h,hG.sz⟩)⟩,fun e=>by omega⟩,⟨hG.st.foreignK g9 (fun k hk=>⟨Nat.le_trans hwl (hrlo k hk),fun p hp e=>by
    rcases (hO p hp).2 with h5 | h5
    ·have:=hrlo k hk;omega
    ·have h6:=(hG.st.own p hp).2;rcases hrw.2 with ⟨e7,_⟩ | ⟨g,cap,cur,e7,_,h7,_⟩
     ·rw [e7] at hk;cases hk
     ·rw [e7] at hk;have h8:g=k:=Option.some.inj hk;rw [e,← h8,h7] at h6;injection h6 with h6
      injection h6 with _ h6 _
      exact h5 h6.symm,fun q hq=>.inr (Nat.le_trans (hK q hq).1 (hrlo k hk))⟩),Nat.le_trans hG.sz g9.size,(by rw [n11,h11];intro h;cases h),by rw [n10,n7];exact hG.c10,fun _=>by rw [n8];exact h8,by rw [n8,n7];exact hG.c8,(by rw [n7,h7];intro h;cases h),by rw [n7,n11];exact fun h1 h2=>(hne b hnbm (Nat.lt_of_lt_of_le hbm hG.sz)).trans (hG.m1 h1 h2),fun p hp h1 h2=>(hne p h2 (Nat.lt_of_lt_of_le hp hG.sz)).trans (hG.old p hp h1 h2),(by rw [n9];intro h;cases h),(by rw [n11,h11];intro h;cases h)⟩,g9.size,fun p h1 h2=>hne p (fun e=>by have:=hrl p e;omega) h2,fun h=>absurd rfl h⟩
   unfold execOp;simp only [resolve,invoke,builtin,Sem.run_bind,Sem.run_pure,Result.andThen_ok,List.map_toArray,List.map_cons,List.map_nil,e8,e6,hr]
  ·-- the way back
   refine qE.value hi10 rfl fun L a w hs hL hW hF hG hD=>?_
   have e7:=(hD 7 d7 w107).2.2.1 rfl;have h7:=hW 7 d7 w107;have n7:=cZ (L:=L) (show 10≠7 by omega);have n8:=cZ (L:=L) (show 10≠8 by omega);have n9:=cZ (L:=L) (show 10≠9 by omega);have n11:=cZ (L:=L) (show 10≠11 by omega);have n10:(L.setIfInBounds 10 true).getD 10 false=true:=pD (by omega);refine ⟨st,w,?_,⟨fun e=>by omega,fun e=>by omega,fun e=>by omega,fun e=>by omega,fun e=>by omega,fun _=>rfl⟩,⟨hG.st,hG.sz,by rw [n11,n9];exact fun h=>⟨(hG.c11 h).1,n10⟩,fun _=>by rw [n7];exact h7,by rw [n9,n8];exact hG.c9,by rw [n8,n7];exact hG.c8,by rw [n7];exact hG.m0,by rw [n7,n11];exact hG.m1,hG.old,by rw [n9];exact hG.row0,by rw [n11];exact hG.fin⟩,Nat.le_refl _,fun _ _ _=>rfl,fun _ _ _=>rfl⟩;unfold execOp;simp only [];rw [e7];simp [Instr.extract]
  ·-- the entry's store
   intro L a w hs hL hW hF hG hD;have hL:=G0 hL;have e3:=(hD 3 d3 w113).1 (by omega);rw [hv3] at e3;have e10:=(hD 10 d10 w1110).2.2.2.2.2 rfl;obtain ⟨o9,b9⟩:=(hD 9 d9 w119).2.2.2.2.1 rfl;have h10:=hW 10 d10 w1110;have h9:=hW 9 d9 w119;have h7:=hG.c10 h10;have hbo:=hG.m1 h7 hL;obtain ⟨W3,r3,g3,m3⟩:=back w (a.eval (.tmp d9)) (f k++[x]) hbo hG.sz hG.old (by rw [List.length_append];exact o9) b9;have hob3:W.heap.size≤W3.heap.size:=Nat.le_trans hG.sz g3.size;have n7:=cZ (L:=L) (show 11≠7 by omega);have n8:=cZ (L:=L) (show 11≠8 by omega);have n9:=cZ (L:=L) (show 11≠9 by omega);have n10:=cZ (L:=L) (show 11≠10 by omega);have n11:(L.setIfInBounds 11 true).getD 11 false=true:=pD (by omega);have hne:∀ p,p≠b→p < w.heap.size→W3.heap[p]?=w.heap[p]?:=fun p h1 h2=>g3.block p h2 (fun e=>h1 (Option.some.inj e))
   unfold wpOp;simp only [hi11,fI (show (⟨none,.entryStore T (.tmp d3) (.tmp d10) (.tmp d9),ty11,p11,a11,none⟩:Oper).guard=none from rfl),if_true];refine .inl ?_;unfold Oper.wp execOp;simp only [];rw [e3,e10];simp only [Sem.run_bind,r3,Result.andThen_ok,Sem.run_pure,Oper.upon_skip];refine ⟨⟨undef,by simp,fun d hd=>by cases hd⟩,⟨hG.st.foreignK g3 (fun k hk=>by cases hk;exact ⟨hwb,fun p hp=>(hO p hp).1,fun q hq=>(hK q hq).2⟩),hob3,fun _=>⟨by rw [n9];exact h9,by rw [n10];exact h10⟩,by rw [n10,n7];exact hG.c10,by rw [n9,n8];exact hG.c9,by rw [n8,n7];exact hG.c8,(by rw [n7,h7];intro h;cases h),(by rw [n11];intro _ h;cases h),fun p hp h1 h2=>(hne p h1 (Nat.lt_of_lt_of_le hp hG.sz)).trans (hG.old p hp h1 h2),(by rw [n9,h9];intro h;cases h),fun _=>m3⟩,g3.size,fun p h1 h2=>hne p (by omega) h2,fun _ p hp=>hne p (hnb p hp) (Nat.lt_of_lt_of_le (hrl p hp) hG.sz)⟩
 ·intro L a w h1 h2 h3 hall hs hG _;have h11:L.getD 11 false=true:=by have:=hall 11 (by omega);rw [Array.getD_eq_getD_getElem?] at this ⊢;rw [Array.getElem?_eq_getElem (by omega)] at this ⊢;simpa using this
  exact h w hG.st (hG.fin h11) hG.sz a (by rw [h1,ha0.size]) (by rw [h2,ha0.defers]) (fun t ht v hv=>by rw [h3 t ht];exact ha0.at_ t v hv)
end
end
section
open Go.RowKit
section
variable {P:Program} {n:Nat} {Q:Exit→Act→World→Prop} {l:Fr} {w0 W:World} {O:Own} {G:cV} {K:List (Nat×World)}
abbrev Mks:=List (Nat×Own)
abbrev Jm (s:Mks):Own:=s.flatMap (·.2)
def MkI (mk:List Nat) (vals:Nat→Value) (Pm:Nat→Value→Own→Prop) (s:Mks) (i:Nat) (v:Value) (w:World):Prop :=
 (i∉mk→v=vals i)∧(i∈mk→∃ ON,(i,ON)∈s∧Pm i v ON)
def MkV (mk:List Nat) (s:Mks) (L:Array Bool):Prop:=(∀ i∈mk,L.getD i false=true↔∃ ON,(i,ON)∈s)∧(∀ q∈s,q.1∈mk)∧s.Pairwise (fun p q=>p.1≠q.1)
theorem regMk {id k:Nat} {ops:Array Oper} {mk:List Nat} {vals:Nat→Value} {Pm:Nat→Value→Own→Prop} (Gp:Mks→World→Prop) (hm:P.follows .mixedOrders=true) (hS:Gp [] W.drew) (hk:k < ops.size) (hl:Ec ops k=true) (ht:dO ops n=true)
  (hpure:∀ i,i < k→i∉mk→∀ (s:Mks) (a0 a:Act) (w:World),Has n l a0→(∀ t,freeT ops t=true→a.eval (.tmp t)=a0.tmps.getD t undef)→Gp s w→(∀ j d,bH ops i j d=true→MkI mk vals Pm s j (a.eval (.tmp d)) w)→∃ o,ops[i]?=some o∧o.guard=none∧(execOp a.eval o).run P w = .ok (.value (vals i)) w)
  (hmake:∀ i,i∈mk→∀ (s:Mks) (a0 a:Act) (w:World),Has n l a0→(∀ t,freeT ops t=true→a.eval (.tmp t)=a0.tmps.getD t undef)→Gp s w→(∀ ON,(i,ON)∉s)→(∀ j d,bH ops i j d=true→MkI mk vals Pm s j (a.eval (.tmp d)) w)→wpOp P ops Q i (fun a' w'=>∃ v ON,a'=a.put ((ops[i]?).bind (·.dst)) v∧Pm i v ON∧Gp ((i,ON)::s) w') a w)
  (hmk:∀ i∈mk,i < k)
  (h:∀ (s:Mks) (a:Act) (w:World),Gp s w→a.tmps.size=n→a.defers=[]→(∀ t v,freeT ops t=true→look l t=some v→a.tmps.getD t undef=v)→(∀ i d,i < k→i∉mk→(ops[i]?).bind (·.dst)=some d→a.tmps.getD d undef=vals i)→(∀ i∈mk,∃ ON,(i,ON)∈s)→(∀ i d,i∈mk→(ops[i]?).bind (·.dst)=some d→∃ ON,(i,ON)∈s∧Pm i (a.tmps.getD d undef) ON)→(∀ q∈s,q.1∈mk)→s.Pairwise (fun p q=>p.1≠q.1)→wpList P ops Q (ops.toList.drop k) a w):eW P n (.region id ops true) Q l W:=fun a0 ha0=>by
 refine wp_region_any hm (vN (G:=fun s w=>Gp s w) (I:=MkI mk vals Pm) (V:=MkV mk) (t0:=a0.tmps) (d0:=a0.defers) hk hl (by rw [ha0.size];exact ht) (fun i hi=>?_) (fun s L a w hR hall hnot=>?_) _ [] _ _ _ (by simp) (iP _) ?_ ?_ ⟨rfl,rfl,fun _ _=>rfl,?_,?_,?_⟩)
 ·intro s L a w hF hG hV hs hcl hr hD;by_cases him:i∈mk
  ·have hnew:∀ ON',(i,ON')∉s:=fun ON' h9=>by have:=(hV.1 i him).2 ⟨ON',h9⟩;rw [hr.1] at this;cases this
   refine wpOp_mono ?_ (hmake i him s a0 a w ha0 hF hG hnew hD);rintro a' w' ⟨v,ON,rfl,hP,hS'⟩;have hsz:i < ops.size:=Nat.lt_trans (hmk i him) hk;refine ⟨(i,ON)::s,v,rfl,⟨fun j hj=>?_,fun q hq=>?_,List.Pairwise.cons (fun q hq e=>hnew q.2 (by rw [show i=q.1 from e];exact hq)) hV.2.2⟩,hS',fun d hd=>⟨fun h9=>absurd him h9,fun _=>⟨ON,List.mem_cons_self,hP⟩⟩,fun j d hd hj=>⟨hj.1,fun hjm=>?_⟩⟩
   ·by_cases hji:j=i
    ·subst hji;rw [pD (by rw [hs];exact hsz)];exact ⟨fun _=>⟨ON,List.mem_cons_self⟩,fun _=>rfl⟩
    ·rw [cZ (Ne.symm hji),hV.1 j hj];exact ⟨fun ⟨N',h9⟩=>⟨N',List.mem_cons_of_mem _ h9⟩,fun ⟨N',h9⟩=>by
      rcases List.mem_cons.1 h9 with h9 | h9
      ·exact absurd (congrArg Prod.fst h9) hji
      ·exact ⟨N',h9⟩⟩
   ·rcases List.mem_cons.1 hq with rfl | hq
    ·exact him
    ·exact hV.2.1 q hq
   ·obtain ⟨N',h1,h2⟩:=hj.2 hjm;exact ⟨N',List.mem_cons_of_mem _ h1,h2⟩
  ·obtain ⟨o,ho,hgd,hrun⟩:=hpure i hi him s a0 a w ha0 hF hG hD;unfold wpOp;simp only [ho,fI hgd,if_true];refine .inl ?_;unfold Oper.wp;rw [hrun];refine ⟨s,_,rfl,⟨fun j hj=>?_,hV.2⟩,hG,fun d hd=>⟨fun _=>rfl,fun h9=>absurd h9 him⟩,fun j d hd hj=>hj⟩;rw [cZ (fun e=>him (by rw [e];exact hj))];exact hV.1 j hj
 ·have hd:∀ i d,i < k→(ops[i]?).bind (·.dst)=some d→MkI mk vals Pm s i (a.tmps.getD d undef) w:=fun i d hi hd=>hR.done i d hd (hall i hi)
  exact h s a w hR.glob (by rw [hR.size,ha0.size]) (by rw [hR.defers,ha0.defers]) (fun t v ht' hv=>by rw [hR.frame t ht'];exact ha0.at_ t v hv) (fun i d hi him hd'=>(hd i d hi hd').1 him) (fun i him=>(hR.cons.1 i him).1 (hall i (hmk i him))) (fun i d him hd'=>(hd i d (hmk i him) hd').2 him) hR.cons.2.1 hR.cons.2.2
 ·intro j hj;rw [Array.getD_eq_getD_getElem?,Array.getElem?_replicate] at hj;split at hj<;>simp at hj
 ·intro i _;rw [Array.getD_eq_getD_getElem?,Array.getElem?_replicate];split<;>rfl
 ·exact hS
 ·refine ⟨fun i _=>?_,fun q hq=>(by cases hq),List.Pairwise.nil⟩;rw [Array.getD_eq_getD_getElem?,Array.getElem?_replicate];constructor
  ·intro h9;split at h9<;>simp at h9
  ·rintro ⟨_,h9⟩;cases h9
 ·intro i d hd h9;rw [Array.getD_eq_getD_getElem?,Array.getElem?_replicate] at h9;split at h9<;>simp at h9
theorem Pi {ops:Array Oper} {i d:Nat} {f:FuncId} {xs:List Operand} {ts:Array TypeId} {ty:TypeId} {pos:String} {aft:Array Edge} {a:Act} {w:World} {vs:List Value} {R:Value→Own→World→Prop} (hi:ops[i]?=some ⟨some d,.call { callee:=.value (.func f),args:=xs.toArray,argTypes:=ts },ty,pos,aft,none⟩) (hgo:bJ P f=true) (hx:xs.map a.eval=vs)
  (hc:Calls P f vs.toArray w fun e w'=>∃ v ON,e = .returned v∧R v ON w'):wpOp P ops Q i (fun a' w'=>∃ v ON,a'=a.put ((ops[i]?).bind (·.dst)) v∧R v ON w') a w:=by
 unfold wpOp;simp only [hi,fI (show (⟨some d,.call { callee:=.value (.func f),args:=xs.toArray,argTypes:=ts },ty,pos,aft,none⟩:Oper).guard=none from rfl),if_true];refine .inl ?_;unfold Oper.wp;rw [lT P a.eval w f xs.toArray ts _ rfl rfl hgo,Oper.upon_enter];rw [show xs.toArray.map a.eval=vs.toArray by rw [← hx];simp];refine hc.mono ?_;rintro e w' ⟨v,ON,rfl,h9⟩;exact ⟨v,ON,by simp,h9⟩
theorem Jn {ops:Array Oper} {i B j:Nat} {T U:TypeId} {x y:Operand} {ty:TypeId} {pos:String} {aft:Array Edge} {a:Act} {w:World} {cs:List Value} {v:Value} {R:Act→World→Prop} (hi:ops[i]?=some ⟨none,.store T x y,ty,pos,aft,none⟩) (hsz:∀ w,(sizeOf T).run P w = .ok 1 w) (hx:a.eval x = .pointer (some ⟨B,j,none⟩)) (hy:a.eval y=v) (hv:v.oneCell'=true) (hB:w.heap[B]?=some (.cells cs.toArray U (0,0))) (hj:j < cs.length)
  (h:R (a.put none undef) (w.setCell ⟨B,j,none⟩ v)):wpOp P ops Q i R a w:=by
 unfold wpOp;simp only [hi,fI (show (⟨none,.store T x y,ty,pos,aft,none⟩:Oper).guard=none from rfl),if_true];refine .inl ?_;unfold Oper.wp execOp;simp only [];rw [hx,hy];have hcells:v.cells=#[v]:=by cases v<;>first | rfl | cases hv
 have hst:=iB (P:=P) [v] 0 j w cs hB (by simp;omega) (fun u hu=>by simp at hu;subst hu;exact hv);simp only [Nat.add_zero,setMany] at hst
 have:(Instr.storeAt T (.pointer (some ⟨B,j,none⟩)) v).run P w = .ok () (w.setCell ⟨B,j,none⟩ v):=by simp [Instr.storeAt,Instr.sureAddr,storeVar,hsz,hcells,hst]
 simp only [Sem.run_bind,this,Result.andThen_ok,Sem.run_pure,Oper.upon_skip];exact h
theorem St.drop8 {x1 x2 x3 x4 x5 x6 x7 y:Nat×List Value×TypeId} (h:St w0 (x1::x2::x3::x4::x5::x6::x7::y::O) G K W):St w0 (x1::x2::x3::x4::x5::x6::x7::O) G K W:=(h.perm (List.perm_middle (l₁:=[x1,x2,x3,x4,x5,x6,x7]))).tail
def Wa (a:Act):Fr→Prop
 | []=>True
 | p::r=>a.tmps.getD p.1 undef=p.2∧Wa a r
theorem Wa.has {a:Act} (hs:a.tmps.size=n) (hd:a.defers=[]):∀ {l:Fr},Wa a l→Has n l a
 | l,h=>⟨hs,hd,by
  induction l with
  | nil=>intro t v hv;cases hv
  | cons p r ih =>
   intro t v hv;unfold look at hv;cases hb:Nat.beq p.1 t with
   | true =>
    simp only [hb,cond_true,Option.some.injEq] at hv;rw [← Nat.eq_of_beq_eq_true hb,← hv];exact h.1
   | false =>
    simp only [hb,cond_false] at hv;exact ih h.2 t v hv⟩
end
theorem yM (v00:Value) (v01:Value) (v02:Value) (v03:Value) (v04:Value) (v05:Value) (v06:Value) (v07:Value) (v08:Value) (v10:Value) (v11:Value) (v12:Value) (v13:Value) (v14:Value) (v15:Value) (v16:Value) (v2:Bool) (v3:Option Nat):prog.built 109 [(0,.agg #[v00,v01,v02,v03,v04,v05,v06,v07,v08]),(1,.agg #[v10,v11,v12,v13,v14,v15,v16]),(2,.bool v2),(3,.map v3)]=some #[v00,v01,v02,v03,v04,v05,v06,v07,v08,v10,v11,v12,v13,v14,v15,v16,.bool v2,.map v3,.pointer none,.pointer none]:=by kernel_rfl
theorem kW (w:World) (b o:Nat):(Instr.fieldAt 109 (.pointer (some ⟨b,o,none⟩)) 4).run prog w = .ok (.pointer (some ⟨b,o+18,none⟩)) w:=by simp [Instr.fieldAt,run_underlying underlying109,Instr.sureAddr,go_sem,Addr.add_lit]
theorem rT (w:World) (b o:Nat):(Instr.fieldAt 109 (.pointer (some ⟨b,o,none⟩)) 5).run prog w = .ok (.pointer (some ⟨b,o+19,none⟩)) w:=by simp [Instr.fieldAt,run_underlying underlying109,Instr.sureAddr,go_sem,Addr.add_lit]
theorem Pj:bJ prog 68=true:=by kernel_rfl
theorem gY.skip {n:Nat} {w w':World} {S:PS} {f:WF} {x:PX} (h:gY n w S f x) (hc:∀ (a:Addr) v,n≤a.block→w.cell? a=some v→w'.cell? a=some v):gY n w' S f x:=by
 have hW:∀ {b o:Nat} {g:WF},n≤b→W6 w b o g→W6 w' b o g:=fun hb h=>⟨hc _ _ hb h.1,hc _ _ hb h.2.1,hc _ _ hb h.2.2.1,hc _ _ hb h.2.2.2.1,hc _ _ hb h.2.2.2.2.1,hc _ _ hb h.2.2.2.2.2⟩
 have hP:∀ {t d:Int} {g:WF} {a:PF},PNew n w t d g a→PNew n w' t d g a:=fun {t d g a} h=>by
  refine ⟨⟨⟨?_,h.is.at_.rl,h.is.at_.g64,h.is.at_.r64,?_,h.is.at_.cl,h.is.at_.bits,h.is.at_.cmax⟩,h.is.pf,h.is.ok,h.is.pl⟩,h.ra,h.ca⟩
  ·rcases h.is.at_.rows with h1 | ⟨b,off,e,h1⟩
   ·exact .inl h1
   ·exact .inr ⟨b,off,e,fun i v hv=>hc _ _ (show n≤b from h.ra _ e) (h1 i v hv)⟩
  ·rcases h.is.at_.cells with h1 | ⟨b,off,e,h1⟩
   ·exact .inl h1
   ·exact .inr ⟨b,off,e,fun i v hv=>⟨hc _ _ (show n≤b from h.ca _ e) (h1 i v hv).1,hc _ _ (show n≤b from h.ca _ e) (h1 i v hv).2.1,hc _ _ (show n≤b from h.ca _ e) (h1 i v hv).2.2⟩⟩
 cases S<;>cases x<;>first | exact h.elim | exact hP h | skip;obtain ⟨h1,h2,h3,h4,blk,g,k,h5,h0,h6,h7,h8,h9⟩:=h;exact ⟨h1,h2,h3,h4,blk,g,k,h5,h0,hW h0 h6,hW h0 h7,hP h8,hP h9⟩
def pE (W:World) (n:Nat):World:={ W with heap:=W.heap.extract 0 n }
theorem iO {W:World} {n:Nat} (h:n≤W.heap.size):(pE W n).heap.size=n:=by simp [pE];omega
theorem wB {W:World} {n k:Nat} (h:n≤W.heap.size) (hk:k < n):(pE W n).heap[k]?=W.heap[k]?:=by rw [Array.getElem?_eq_getElem (by rw [iO h];exact hk),Array.getElem?_eq_getElem (by omega)];simp [pE]
theorem St.markCut {w0 W:World} {O:Own} {K:List (Nat×World)} {n1 n2:Nat} (h:St w0 O [] K W) (hn:n2≤W.heap.size) (hO:∀ p∈O,p.1 < n1∨n2≤p.1):St w0 O [] ((n1,pE W n2)::K) W where
 below:=h.below
 own:=h.own
 dist:=h.dist
 kept:=fun q hq=>by
  rcases List.mem_cons.1 hq with rfl | hq
  ·refine ⟨⟨by rw [iO hn];exact hn,fun k _ hk=>?_⟩,fun p hp=>by rw [iO hn];exact hO p hp⟩;rw [iO hn] at hk;exact (wB hn hk).symm
  ·exact h.kept q hq
 rows:=fun g hg=>by cases hg
 gdist:=List.Pairwise.nil
abbrev wD (f0:WF) (a:AV) (bk:Bool) (bm:Nat):List Value:=[.int .i64 a.s.f.tag,.int .i64 a.s.f.dim,.slice a.s.f.a a.s.f.len a.s.f.cap,.bool f0.z,.int .i64 f0.c,.int .u64 (f0.g:Int),.slice f0.ra f0.rl f0.rc,.slice f0.ca f0.cl f0.cc,.slice f0.pa f0.pl f0.pc,.int .i64 a.s.f.tag,.int .i64 a.s.f.dim,.slice a.s.f.a a.s.f.len a.s.f.cap,.int .i64 a.st,.int .i64 a.sy,.slice a.fa a.fl a.fc,.slice a.ta a.tl a.tc,.bool bk,.map (some bm),.pointer none,.pointer none]
def Mw (S:PS) (a:AV) (lo:Nat):Asr:=fun v w=>∃ f0,v=gR a.s.f f0∧gY lo w S f0 (bU S)
theorem Jo {S:PS} {a:AV} {lo:Nat}:gQ (Mw S a lo):=fun v w w' ⟨f0,h1,h2⟩ hb=>⟨f0,h1,h2.below hb⟩
def Mx (lo:Nat):Asr:=fun v w=>∃ bm,v = .map (some bm)∧lo≤bm∧w.heap[bm]?=some (.map #[] 0)
theorem Jp {lo:Nat}:gQ (Mx lo):=fun v w w' ⟨bm,h1,h2,h3⟩ hb=>⟨bm,h1,h2,(hb.block _ (cA h3)).trans h3⟩
def Wb (S:PS) (a:AV) (bk:Bool) (lo:Nat):Asr:=fun v w=>∃ f0 bm,v = .agg (wD f0 a bk bm).toArray∧lo≤bm∧w.heap[bm]?=some (.map #[] 0)∧gY lo w S f0 (bU S)
theorem My {S:PS} {a:AV} {bk:Bool} {lo:Nat}:gQ (Wb S a bk lo):=fun v w w' ⟨f0,bm,h1,h2,h3,h4⟩ hb=>⟨f0,bm,h1,h2,(hb.block _ (cA h3)).trans h3,h4.below hb⟩
def Pk (S:PS) (a:AV) (bk:Bool) (lo:Nat):Asr:=fun v w=>∃ (RB:Nat) (f0:WF) (bm:Nat) (w9:World),v = .pointer (some ⟨RB,0,none⟩)∧lo≤bm∧bm < RB∧RB=w9.heap.size∧w9.heap[bm]?=some (.map #[] 0)∧gY lo w9 S f0 (bU S)∧(∀ p,p < RB→w.heap[p]?=w9.heap[p]?)∧w.heap[RB]?=some (.cells (wD f0 a bk bm).toArray 109 (0,0))
theorem Bu {S:PS} {a:AV} {bk:Bool} {lo:Nat}:gQ (Pk S a bk lo):=fun v w w' ⟨RB,f0,bm,w9,h1,h2,h3,h4,h5,h6,h7,h8⟩ hb=>⟨RB,f0,bm,w9,h1,h2,h3,h4,h5,h6,fun p hp=>(hb.block p (Nat.lt_trans hp (cA h8))).trans (h7 p hp),(hb.block _ (cA h8)).trans h8⟩
theorem rd_zero {w0 W w9:World} {S:PS} {f0:WF} {K:List (Nat×World)} {lo bm RB:Nat} (hX:gY lo w9 S f0 (bU S)) (h9:RB=w9.heap.size) (hm:w9.heap[bm]?=some (.map #[] 0)) (hbm:bm < RB) (hp:∀ p,p < RB→W.heap[p]?=w9.heap[p]?) (hRB:RB < W.heap.size):jC w0 ((lo,pE W bm)::(bm+1,pE W RB)::K) (fun W2=>XIs W2 S f0 (bU S)):=fun {O2 G2 K2 W2} h2 hk=>by
 refine (hX.skip (w':=W2) fun a v hb hv=>?_).is;have hlt:a.block < RB:=by rw [h9];exact jF hv
 have hne:a.block≠bm:=fun e=>by unfold World.cell? at hv;rw [e,hm] at hv;cases hv
 have key:W2.heap[a.block]?=w9.heap[a.block]?:=by
  rcases Nat.lt_or_ge a.block bm with h3 | h3
  ·have h4:=(h2.kept _ (hk _ List.mem_cons_self)).1.2 a.block hb (by dsimp only;rw [iO (by omega)];exact h3);rw [h4];exact (wB (by omega) h3).trans (hp _ hlt)
  ·have h4:=(h2.kept _ (hk _ (List.mem_cons_of_mem _ List.mem_cons_self))).1.2 a.block (by dsimp only;omega) (by dsimp only;rw [iO (by omega)];exact hlt);rw [h4];exact (wB (by omega) hlt).trans (hp _ hlt)
 exact (World.cell?_of_block key).trans hv
abbrev VecP (n:Nat) (v:Value) (ON:Own):Prop:=∃ VB IB WB,v = .pointer (some ⟨VB,0,none⟩)∧ON=[(VB,gZ (.slice none 0 0) n IB WB,116),(IB,List.replicate n (Value.bool false),4),(WB,wC (List.replicate n (⟨false,0,0,none,0,0,[],none,0,0,[],none,0,0⟩:WF)),46)]
abbrev vecO (n VB IB WB:Nat):Own:=[(VB,gZ (.slice none 0 0) n IB WB,116),(IB,List.replicate n (Value.bool false),4),(WB,wC (List.replicate n (⟨false,0,0,none,0,0,[],none,0,0,[],none,0,0⟩:WF)),46)]
theorem Bv {w0 W:World} {O:Own} {G:cV} {K:List (Nat×World)} {n i:Nat} (hS:St w0 O G K W) (hn:n≤4096) {R:Nat→Value→Own→Prop} (hR:∀ v ON,VecP n v ON→R i v ON):Calls prog 68 #[.int .i64 (n:Int)] W fun e w'=>∃ v ON,e = .returned v∧R i v ON∧St w0 (ON++O) G K w':=by refine (Sl n W hn).mono ?_;rintro e w' ⟨VB,IB,WB,rfl,l1,l2,l3,h1,h2,h3,hb⟩;exact ⟨_,_,rfl,hR _ _ ⟨VB,IB,WB,rfl,rfl⟩,vec_own hS (hS.grow hb) l1 l2 l3 h1 h2 h3⟩
theorem Wc {s:Mks} {A X R:Own} (hm:∀ q∈s,q.1∈[4,7,10]) (hd:s.Pairwise (fun p q=>p.1≠q.1)) (h4:(4,A)∈s) (h7:(7,X)∈s) (h10:(10,R)∈s):(Jm s).Perm (A++(X++R)):=by
 have huniq:∀ p∈s,∀ q∈s,p.1=q.1→p=q:=by
  clear hm h4 h7 h10
  induction hd with
  | nil=>intro p hp;cases hp
  | cons h1 _ ih =>
   intro p hp q hq e;rcases List.mem_cons.1 hp with h5 | h5<;>rcases List.mem_cons.1 hq with h6 | h6
   ·rw [h5,h6]
   ·rw [h5] at e;exact absurd e (h1 _ h6)
   ·rw [h6] at e;exact absurd e.symm (h1 _ h5)
   ·exact ih p h5 q h6 e
 have hnd:s.Nodup:=hd.imp (fun h e=>h (by rw [e]));have hp:s.Perm [(4,A),(7,X),(10,R)]:=(List.perm_ext_iff_of_nodup hnd (by simp)).2 fun q=>by
  constructor
  ·intro hq;have h9:=hm q hq;simp only [List.mem_cons,List.not_mem_nil,or_false] at h9 ⊢;rcases h9 with h9 | h9 | h9
   ·exact .inl (huniq q hq _ h4 h9)
   ·exact .inr (.inl (huniq q hq _ h7 h9))
   ·exact .inr (.inr (huniq q hq _ h10 h9))
  ·intro hq;simp only [List.mem_cons,List.not_mem_nil,or_false] at hq;rcases hq with rfl | rfl | rfl<;>assumption
 have h9:=hp.flatMap_right (f:=fun q=>q.2);simpa [Jm] using h9
theorem G1 (S:PS) (a:AV) (bk:Bool) (n:Nat) (Ot:Own) (K:List (Nat×World)) (w0:World) (w:World) (hS0:St w0 Ot [] K w) (hsi:SIs w0 S a.s.f) (hok:S.ok) (hst:a.st=(n:Int)) (hn:n≤4096) :
  Calls prog 42 #[a.val,.bool bk] w (fun e w'=>∃ (RB VA IA WA VX IX WX bm:Nat) (f0:WF) (Kr:List (Nat×World)),e = .returned (.pointer (some ⟨RB,0,none⟩))∧(∀ q∈K,q∈Kr)∧jC w0 Kr (fun W2=>XIs W2 S f0 (bU S))∧w0.heap.size≤bm∧w'.heap[bm]?=some (.map #[] 0)∧(∀ q∈Kr,bm < q.1∨q.2.heap.size≤bm)∧St w0 ((VA,gZ (.slice none 0 0) n IA WA,116)::(IA,List.replicate n (Value.bool false),4)::(WA,wC (List.replicate n (⟨false,0,0,none,0,0,[],none,0,0,[],none,0,0⟩:WF)),46)::(VX,gZ (.slice none 0 0) n IX WX,116)::(IX,List.replicate n (Value.bool false),4)::(WX,wC (List.replicate n (⟨false,0,0,none,0,0,[],none,0,0,[],none,0,0⟩:WF)),46)::(RB,rdC f0 a bk bm VA VX,109)::Ot) [] Kr w'):=by
 refine cG (args:=[a.val,.bool bk]) func42 rfl ntmps42 rfl ?_;have hS:=hS0;refine aO (aQ (bY (cs:=[_,_,_,_,_,_,_]) hS rfl rfl rfl fun B1 W1 hS=>aB rfl rfl (aP (XF.thenN (aO ?_)))));have hSb:=hS;refine iX (m:=9) cC hS (by kernel_rfl) (by kernel_rfl) rfl (cE 1 rfl 2 rfl rfl (fun w hw=>aV (o':=0) iQ rfl rfl) rfl (aZ 2 rfl 6 0 rfl rfl rfl (fun w hw=>aY (vs:=[_,_,_]) isAgg25 sizeOf25 rfl (aC.agree (aL hw 0) (Nat.zero_le _) (aC.own (j:=0) (m:=3) (hS.at_ 0 rfl) rfl))) rfl ?_));refine aJ 3 rfl (Mw S a W1.heap.size) (Jo) (cN [isV _] rfl O1 (aS rfl) ⟨bT (aM 1 (aA rfl rfl rfl)),trivial⟩ (fun vs w' hb hh=>by have e:=bW (us:=[_]) hh;subst e;exact (Eh S a.s.f w' (hsi.below (hS.below.trans (hb.mono hS.below.size))) hok).mono fun e w2 ⟨f0,h1,h2,h3⟩=>⟨_,h1,⟨f0,rfl,h2.mono hb.size⟩,h3⟩) (aF rfl)) ?_;refine cE 4 rfl 2 rfl rfl (fun w hw=>aY (vs:=[_,_,_,_,_,_,_]) isAgg29 sizeOf29 rfl (aC.agree (aL hw 0) (Nat.zero_le _) (aC.own (j:=0) (m:=7) (hS.at_ 0 rfl) rfl))) rfl (cE 5 rfl 1 rfl rfl (fun w hw=>aW rfl) rfl ?_);refine aJ 6 rfl (Mx W1.heap.size) (Jp) (Gw [] rfl trivial (fun ev w9 hb9 hd9=>⟨.map (some w9.heap.size),w9.alloc (.map #[] 0),by unfold execOp;simp [Instr.makeMap,Result.andThen],⟨w9.heap.size,rfl,hb9.size,heap_alloc_new w9 _⟩,(Below.refl _ _).alloc (Nat.le_refl _) _⟩) (aF rfl)) ?_;refine aJ 7 rfl (Wb S a bk W1.heap.size) (My) (Gw [(2,8,Mw S a W1.heap.size),(3,9,isV a.val),(4,10,isV (.bool bk)),(5,11,Mx W1.heap.size)] rfl ⟨⟨by kernel_rfl,aA rfl rfl rfl⟩,⟨by kernel_rfl,aA rfl rfl rfl⟩,⟨by kernel_rfl,aA rfl rfl rfl⟩,⟨by kernel_rfl,aA rfl rfl rfl⟩,trivial⟩ (fun ev w9 hb9 hd9=>by
  obtain ⟨⟨f0,e1,h1⟩,e2,e3,⟨bm,e4,h4,h5⟩,_⟩:=hd9;have e2:ev (.tmp 9)=a.val:=e2;have e3:ev (.tmp 10) = .bool bk:=e3;have e1:ev (.tmp 8)=gR a.s.f f0:=e1;have e4:ev (.tmp 11) = .map (some bm):=e4;have hr9:=run_build w9 109 #[(0,gR a.s.f f0),(1,a.val),(2,.bool bk),(3,.map (some bm))] _ (P:=prog) (yM _ _ _ _ _ _ _ _ _ _ _ _ _ _ _ _  bk (some bm));exact ⟨_,w9,by unfold execOp;simp only [List.map_toArray,List.map_cons,List.map_nil,e1,e2,e3,e4];simp [hr9],⟨f0,bm,rfl,h4,h5,h1⟩,Below.refl _ _⟩) (aF rfl)) ?_
 refine aJ 8 rfl (Pk S a bk W1.heap.size) (Bu) (Gw [(6,12,Wb S a bk W1.heap.size)] rfl ⟨⟨by kernel_rfl,aA rfl rfl rfl⟩,trivial⟩ (fun ev w9 hb9 hd9=>by
  obtain ⟨⟨f0,bm,e1,h1,h2,h3⟩,_⟩:=hd9;have e1:ev (.tmp 12) = .agg (wD f0 a bk bm).toArray:=e1;exact ⟨.pointer (some ⟨w9.heap.size,0,none⟩),w9.alloc (.cells (wD f0 a bk bm).toArray 109),by unfold execOp;simp only [];rw [e1];simp [Instr.box,newVar,newRow];rfl,⟨w9.heap.size,f0,bm,w9,rfl,h1,cA h2,rfl,h2,h3,fun p hp=>Below.heap_alloc w9 _ _ hp,heap_alloc_new w9 _⟩,(Below.refl _ _).alloc (Nat.le_refl _) _⟩) (aF rfl)) ?_
 refine aJ 9 rfl (Pk S a bk W1.heap.size) (Bu) (Gw [(7,13,Pk S a bk W1.heap.size)] rfl ⟨⟨by kernel_rfl,aA rfl rfl rfl⟩,trivial⟩ (fun ev w9 hb9 hd9=>⟨ev (.tmp 13),w9,by unfold execOp;rfl,hd9.1,Below.refl _ _⟩) (aF rfl)) ?_;refine dI ?_;intro W2 hbR;clear hS;intro hS;refine aG (aG ?_);refine dF ?_;intro _ _;refine aG (aG ?_);refine dF ?_;intro _ _;refine dF ?_;intro _ _;refine dF ?_;intro _ _;refine dF ?_;rintro _ ⟨RB,f0,bm,w9,rfl,hm1,hm2,hm3,hm4,hX9,hp9,hR9⟩;refine cM (XF.thenN (aO ?_));have hlt9:=cA hR9;have hRB0:W1.heap.size≤RB:=by omega
 have hltO:=hSb.own_lt;have hS8:St w0 ((RB,wD f0 a bk bm,109)::(B1,a.seven,29)::Ot) [] K W2:=hSb.adoptL (N:=[(RB,wD f0 a bk bm,109)]) (hS.keep K (fun q hq=>by simp [hq])) (fun p hp=>by simp at hp;subst hp;exact ⟨hRB0,hR9⟩) (by simp);have hS7:=(hS8.markCut (n1:=bm+1) (n2:=RB) (Nat.le_of_lt hlt9) (fun p hp=>by
  rcases List.mem_cons.1 hp with rfl | hp
  ·exact .inr (Nat.le_refl _)
  ·have:=hltO p hp;exact .inl (by omega))).markCut (n1:=W1.heap.size) (n2:=bm) (by omega) (fun p hp=>by
  rcases List.mem_cons.1 hp with rfl | hp
  ·exact .inr (by dsimp only;omega)
  ·exact .inl (hltO p hp))
 clear hS;have hS:=hS7;clear hS7;have H0:jC w0 ((W1.heap.size,pE W2 bm)::(bm+1,pE W2 RB)::K) (fun W2=>XIs W2 S f0 (bU S)):=rd_zero hX9 hm3 hm4 hm2 hp9 hlt9;have hbm0:W2.heap[bm]?=some (.map #[] 0):=(hp9 bm hm2).trans hm4;obtain ⟨Kr,hKr⟩:∃ k,k=(W1.heap.size,pE W2 bm)::(bm+1,pE W2 RB)::K:=⟨_,rfl⟩;rw [← hKr] at hS H0;have hS:=hS.markCut (n1:=bm) (n2:=bm+1) (by omega) (fun p hp=>by
  rcases List.mem_cons.1 hp with rfl | hp
  ·exact .inr hm2
  ·have:=hltO p hp;exact .inl (by omega))
 obtain ⟨Kq,hKq⟩:∃ k,k=(bm,pE W2 (bm+1))::Kr:=⟨_,rfl⟩;rw [← hKq] at hS;obtain ⟨W9,hW9⟩:∃ w,w=W2:=⟨_,rfl⟩;rw [← hW9] at hKq hbm0 hlt9 hKr;refine regMk (mk:=[4,7,10]) (k:=11) (vals:=fun i=>match i with | 0=>.pointer (some ⟨RB,0,none⟩) | 1=>.pointer (some ⟨RB,0,none⟩) | 2=>.pointer (some ⟨B1,0+3,none⟩) | 3=>.int .i64 (n:Int) | 5=>.pointer (some ⟨B1,0+3,none⟩) | 6=>.int .i64 (n:Int) | 8=>.pointer (some ⟨RB,0,none⟩) | _=>.pointer (some ⟨RB,0+18,none⟩)) (Pm:=fun i v ON=>i≠10→VecP n v ON) (fun s w=>St w0 (Jm s++((if s.any (fun q=>Nat.beq q.1 10) then [] else [(RB,wD f0 a bk bm,109)])++(B1,a.seven,29)::Ot)) [] Kq w∧∀ ON,(10,ON)∈s→∃ VA IA WA,(4,vecO n VA IA WA)∈s∧ON=[(RB,(wD f0 a bk bm).set 18 (.pointer (some ⟨VA,0,none⟩)),109)]) cC ⟨hS.grow (Below.refl _ _).drew,fun ON h=>by cases h⟩ (Nat.le_of_ble_eq_true (by kernel_rfl)) (by kernel_rfl) (by kernel_rfl) ?_ ?_ (by decide) ?_
 ·intro i hi hin s a0 c9 w ha0 hF9 hG hD;have hfr:∀ t v,freeT _ t=true→look _ t=some v→c9.eval (.tmp t)=v:=fun t v h1 h2=>(hF9 t h1).trans (ha0.at_ t v h2)
  have hown:∃ N,St w0 (N++((B1,a.seven,29)::Ot)) [] Kq w:=⟨Jm s++(if s.any (fun q=>Nat.beq q.1 10) then [] else [(RB,wD f0 a bk bm,109)]),by rw [List.append_assoc];exact hG.1⟩;obtain ⟨N9,hS9⟩:=hown;have hB9:=hS9.own (B1,a.seven,29) (by simp)
  match i,hi,hin with
  | 0,_,_=>exact ⟨_,rfl,rfl,by
   exact aW (l:=[(5,.pointer (some ⟨RB,0,none⟩))]) rfl c9.eval (wA (hfr 5 _ (by kernel_rfl) rfl))⟩
  | 1,_,_=>exact ⟨_,rfl,rfl,by
   exact aW (l:=[(5,.pointer (some ⟨RB,0,none⟩))]) rfl c9.eval (wA (hfr 5 _ (by kernel_rfl) rfl))⟩
  | 2,_,_=>exact ⟨_,rfl,rfl,by
   exact aV (l:=[(2,.pointer (some ⟨B1,0,none⟩))]) iH rfl rfl c9.eval (wA (hfr 2 _ (by kernel_rfl) rfl))⟩
  | 5,_,_=>exact ⟨_,rfl,rfl,by
   exact aV (l:=[(2,.pointer (some ⟨B1,0,none⟩))]) iH rfl rfl c9.eval (wA (hfr 2 _ (by kernel_rfl) rfl))⟩
  | 3,_,_=>exact ⟨_,rfl,rfl,by
   have h9:=(hD 2 16 (by kernel_rfl)).1 (by decide);have hc9:=aK (j:=3) hB9.2 rfl;rw [hst] at hc9;exact bA (l:=[(16,.pointer (some ⟨B1,0+3,none⟩))]) isAgg3 rfl hc9 c9.eval (wA h9)⟩
  | 6,_,_=>exact ⟨_,rfl,rfl,by
   have h9:=(hD 5 19 (by kernel_rfl)).1 (by decide);have hc9:=aK (j:=3) hB9.2 rfl;rw [hst] at hc9;exact bA (l:=[(19,.pointer (some ⟨B1,0+3,none⟩))]) isAgg3 rfl hc9 c9.eval (wA h9)⟩
  | 8,_,_=>exact ⟨_,rfl,rfl,by
   have h9:=(hD 0 14 (by kernel_rfl)).1 (by decide);exact cU (l:=[(14,.pointer (some ⟨RB,0,none⟩))]) rfl c9.eval (wA h9)⟩
  | 9,_,_=>exact ⟨_,rfl,rfl,by
   have h9:=(hD 8 22 (by kernel_rfl)).1 (by decide);exact aV (l:=[(22,.pointer (some ⟨RB,0,none⟩))]) kW rfl rfl c9.eval (wA h9)⟩
  | 4,_,h9=>exact absurd (by decide) h9
  | 7,_,h9=>exact absurd (by decide) h9
  | 10,_,h9=>exact absurd (by decide) h9
  | i+11,h9,_=>omega
 ·intro i him s a0 c9 w ha0 hF9 hG hnew hD;have hcase:i=4∨i=7∨i=10:=by simpa using him
  rcases hcase with rfl | rfl | rfl
  ·have h9:=(hD 3 17 (by kernel_rfl)).1 (by decide);refine Pi rfl Pj (vs:=[.int .i64 (n:Int)]) (by simp only [List.map_cons,List.map_nil,h9]) ((Bv hG.1 hn (R:=fun i v ON=>i≠10→VecP n v ON) (i:=4) (fun v ON h _=>h)).mono ?_);rintro e w' ⟨v,ON,rfl,hP,hS9⟩;refine ⟨v,ON,rfl,hP,?_,fun ON' h=>?_⟩
   ·show St w0 ((List.flatMap (·.2) ((4,ON)::s))++_) _ _ _;rw [List.flatMap_cons,List.append_assoc];exact hS9
   ·rcases List.mem_cons.1 h with h | h
    ·cases h
    ·obtain ⟨VA,IA,WA,h1,h2⟩:=hG.2 ON' h;exact ⟨VA,IA,WA,List.mem_cons_of_mem _ h1,h2⟩
  ·have h9:=(hD 6 20 (by kernel_rfl)).1 (by decide);refine Pi rfl Pj (vs:=[.int .i64 (n:Int)]) (by simp only [List.map_cons,List.map_nil,h9]) ((Bv hG.1 hn (R:=fun i v ON=>i≠10→VecP n v ON) (i:=7) (fun v ON h _=>h)).mono ?_);rintro e w' ⟨v,ON,rfl,hP,hS9⟩;refine ⟨v,ON,rfl,hP,?_,fun ON' h=>?_⟩
   ·show St w0 ((List.flatMap (·.2) ((7,ON)::s))++_) _ _ _;rw [List.flatMap_cons,List.append_assoc];exact hS9
   ·rcases List.mem_cons.1 h with h | h
    ·cases h
    ·obtain ⟨VA,IA,WA,h1,h2⟩:=hG.2 ON' h;exact ⟨VA,IA,WA,List.mem_cons_of_mem _ h1,h2⟩
  ·have h9:=(hD 9 23 (by kernel_rfl)).1 (by decide);obtain ⟨ON4,h4,hP4⟩:=(hD 4 18 (by kernel_rfl)).2 (by decide);obtain ⟨VA,IA,WA,hv4,hO4⟩:=hP4 (by decide);have hno:s.any (fun q=>Nat.beq q.1 10)=false:=by rw [List.any_eq_false];intro q hq h8;exact hnew q.2 (by rw [← Nat.eq_of_beq_eq_true h8];exact hq)
   have hS9:=hG.1;rw [hno] at hS9;have hi9:(Jm s++((RB,wD f0 a bk bm,109)::(B1,a.seven,29)::Ot))[(Jm s).length]?=some (RB,wD f0 a bk bm,109):=by simp
   have hS8:=hS9.set (Jm s).length hi9 18 (.pointer (some ⟨VA,0,none⟩));refine Jn rfl sizeOf107 h9 hv4 rfl (hS9.own _ (List.mem_of_getElem? hi9)).2 (show 18 < 20 by decide) (⟨undef,[(RB,(wD f0 a bk bm).set 18 (.pointer (some ⟨VA,0,none⟩)),109)],rfl,fun h=>absurd rfl h,?_,fun ON' h=>?_⟩)
   ·show St w0 (((RB,(wD f0 a bk bm).set 18 _,109)::Jm s)++([]++_)) _ _ _;refine hS8.perm ?_;rw [List.set_append_right _ _ (Nat.le_refl _),Nat.sub_self];exact List.perm_middle
   ·rcases List.mem_cons.1 h with h | h
    ·cases h;exact ⟨VA,IA,WA,List.mem_cons_of_mem _ (by rw [show vecO n VA IA WA=ON4 from hO4.symm];exact h4),rfl⟩
    ·exact absurd h (hnew ON')
 ·intro s c9 w hG hsz hdf hfr hval hin hmk hkeys hdist;obtain ⟨O10,h10⟩:=hin 10 (by decide);obtain ⟨VA,IA,WA,h4,e10⟩:=hG.2 O10 h10;obtain ⟨O4,h4',hP4⟩:=hmk 4 18 (by decide) rfl;obtain ⟨O7,h7,hP7⟩:=hmk 7 21 (by decide) rfl;obtain ⟨VX,IX,WX,hv7,e7⟩:=hP7 (by decide);obtain ⟨VA',IA',WA',hv4,e4⟩:=hP4 (by decide);have hany:s.any (fun q=>Nat.beq q.1 10)=true:=List.any_eq_true.2 ⟨_,h10,rfl⟩;have hS9:=hG.1;rw [hany] at hS9;have hS9:=hS9.perm ((Wc hkeys hdist h4 h7 h10).append_right _);subst e10;subst e7;have hS:St w0 (((VA,gZ (.slice none 0 0) n IA WA,116)::(IA,List.replicate n (Value.bool false),4)::(WA,wC (List.replicate n (⟨false,0,0,none,0,0,[],none,0,0,[],none,0,0⟩:WF)),46)::(VX,gZ (.slice none 0 0) n IX WX,116)::(IX,List.replicate n (Value.bool false),4)::(WX,wC (List.replicate n (⟨false,0,0,none,0,0,[],none,0,0,[],none,0,0⟩:WF)),46)::(RB,(wD f0 a bk bm).set 18 (.pointer (some ⟨VA,0,none⟩)),109)::(B1,a.seven,29)::Ot)) [] Kq w:=hS9;refine (show cO _ _ _ _ (List.drop 11 _) [(5,.pointer (some ⟨RB,0,none⟩)),(21,.pointer (some ⟨VX,0,none⟩)),(15,.pointer (some ⟨RB,0,none⟩))] w from ?_) c9 (Wa.has hsz hdf ⟨hfr 5 _ (by kernel_rfl) rfl,hv7,hval 1 15 (by decide) (by decide) rfl,trivial⟩);refine cQ rfl rfl (aN (o':=19) rT rfl rfl rfl (dK (i:=6) (cs':=[_,_,_,_,_,_,_,_,_,_,_,_,_,_,_,_,_,_,_,_]) (O':=(_::_::_::_::_::_::_::_::Ot)) hS sizeOf107 rfl rfl rfl rfl rfl rfl rfl fun W3 hS=>aP (XF.thenN (aO (aQ (aH rfl rfl (aB rfl rfl (aP (XF.thenN (bL (XF.res (cI results42 rfl) ?_)))))))))));have hmap9:=(hS.kept (bm,pE W9 (bm+1)) (by rw [hKq];exact List.mem_cons_self)).1.2 bm (Nat.le_refl _) (by dsimp only;rw [iO (by omega)];omega);rw [wB (by omega) (Nat.lt_succ_self _),hbm0] at hmap9;have hS5:=(hS.keep Kr (fun q hq=>by rw [hKq];exact List.mem_cons_of_mem _ hq)).drop8;have hKbm:∀ q∈Kr,bm < q.1∨q.2.heap.size≤bm:=fun q hq=>by
   rw [hKr] at hq;simp only [List.mem_cons] at hq;rcases hq with rfl | rfl | hq
   ·exact .inr (by rw [iO (by omega)];exact Nat.le_refl _)
   ·exact .inl (Nat.lt_succ_self _)
   ·exact .inr (Nat.le_trans (hSb.kept q hq).1.1 hm1)
  exact ⟨RB,VA,IA,WA,VX,IX,WX,bm,f0,Kr,rfl,(fun q hq=>by rw [hKr];simp [hq]),H0,Nat.le_trans hSb.below.size hm1,hmap9,hKbm,hS5⟩
end
section
open Go.RowKit
open Go.WideMaps (KeyLaw)
abbrev kv (k:Int×Int):Value:=.agg #[.int .i64 k.1,.int .i64 k.2]
theorem Mz (x y:Int×Int) (h:kv x=kv y):x=y:=by obtain ⟨a,b⟩:=x;obtain ⟨c,d⟩:=y;simp at h;rw [h.1,h.2]
theorem Ep {a b:Nat} (h:a < b):b=b - 1+1:=by omega
theorem Jq:prog.cellsOf 3=1:=by kernel_rfl
theorem Bw {x:Int} (h0:0≤x) (h1:x≤1000000):(Lit.int .i64 x).wf=true:=by have e1:IntKind.i64.min = -9223372036854775808:=rfl;have e2:IntKind.i64.max=9223372036854775807:=rfl;simp [Lit.wf];omega
theorem Wd:(112:TypeId) < prog.types.size:=of_decide_eq_true (by kernel_rfl)
theorem plcSize:prog.types.size=prog.types.size - 1+1:=Ep Wd
theorem plcWide:(match prog.underlying 112 with | some (.array _ _) | some (.struct _)=>true | _=>false)=true:=by rw [underlying112]
theorem M3:KeyLaw prog 112:=deep_law_laid (by kernel_rfl) (m:=2) (by omega) Wd (by kernel_rfl) plcWide
theorem Jr:prog.cellsOf 112=2:=by kernel_rfl
theorem M4 {p g:Int} (hp:(Lit.int .i64 p).wf=true) (hg:(Lit.int .i64 g).wf=true):∃ l,keyOf prog 112 (kv (p,g))=some l:=by
 have h1:prog.keyType 112=true:=by kernel_rfl
 have h2:(kv (p,g)).formed prog 112=true:=by simp [Value.formed,underlying112,Jr]
 have hi:∀ (d:Nat) (x:Int),(Lit.int .i64 x).wf=true→prog.keyLits (d+1) 3 [.int .i64 x]=some [.int .i64 x]:=fun d x hx=>by simp [Program.keyLits,underlying3,hx]
 obtain ⟨m,hm⟩:∃ m,prog.types.size=m+1:=⟨prog.types.size - 1,plcSize⟩;unfold keyOf;rw [underlying112];simp only [h1,h2,Bool.and_self,if_true];rw [hm];simp [Program.keyLits,underlying112,Jr,Jq,hi m p hp,hi m g hg,Value.cells,hp,hg]
theorem xJ {x:Int} (h0 : -1≤x) (h1:x≤1000000):(Lit.int .i64 x).wf=true:=by have e1:IntKind.i64.min = -9223372036854775808:=rfl;have e2:IntKind.i64.max=9223372036854775807:=rfl;simp [Lit.wf];omega
end
section
open Go.RowKit
theorem rU (v0:Int) (v1:Int):prog.built 112 [(0,.int .i64 v0),(1,.int .i64 v1)]=some #[.int .i64 v0,.int .i64 v1]:=by kernel_rfl
theorem wE (w:World) (b o:Nat):(Instr.fieldAt 109 (.pointer (some ⟨b,o,none⟩)) 1).run prog w = .ok (.pointer (some ⟨b,o+9,none⟩)) w:=by simp [Instr.fieldAt,run_underlying underlying109,Instr.sureAddr,go_sem,Addr.add_lit]
theorem Bx (w:World) (b o:Nat):(Instr.fieldAt 109 (.pointer (some ⟨b,o,none⟩)) 3).run prog w = .ok (.pointer (some ⟨b,o+17,none⟩)) w:=by simp [Instr.fieldAt,run_underlying underlying109,Instr.sureAddr,go_sem,Addr.add_lit]
theorem St.unkeep {w0 W:World} {O:Own} {q:Nat×World} {K:List (Nat×World)} (h:St w0 O [] (q::K) W):St w0 O [] K W:=⟨h.below,h.own,h.dist,fun q hq=>h.kept q (List.mem_cons_of_mem _ hq),(fun g hg=>by cases hg),List.Pairwise.nil⟩
theorem We {P:Program} {t E:TypeId} {z x:Value} (hU:P.underlying t=some (.slice E)) (hs:∀ w,(sizeOf E).run P w = .ok 1 w) (hz:∀ w,(zeroValue E).run P w = .ok z w) (hf:Instr.fill (fun i=>some (i * 1,1)) ((Array.range (1 * 1)).map (z.cells[· % z.cells.size]!)) [(0,x)]=some (List.toArray [x])) {d s:Nat} {ty:TypeId} {pos:String} {aft:Array Edge} (ev:Operand→Value) (w:World) (hx:ev (.tmp s)=x) :
  (execOp ev ⟨some d,.buildSlice t 1 #[(0,.tmp s)],ty,pos,aft,none⟩).run P w = .ok (.value (.slice (some ⟨w.heap.size,0,none⟩) 1 1)) (w.alloc (.cells #[x] E)):=by
 unfold execOp;simp only [List.map_toArray,List.map_cons,List.map_nil,hx];simp only [Instr.buildSlice,Sem.run_bind,run_underlying hU,Result.andThen_ok,hs,if_neg (show ¬ (1 * 1 > 2 ^ 24) by omega),if_neg (show ¬ (1 * 1=0) by omega),hz,Sem.run_pure,hf,newRow,run_newObj_alloc]
def byT (kf:TV→Int×Int):List TV→Nat→Int×Int→List Int
 | [],_,_=>[]
 | t::ts,i,k=>if k=kf t then (i:Int)::byT kf ts (i+1) k else byT kf ts (i+1) k
theorem Pn (kf:TV→Int×Int) (t:TV) (k:Int×Int):∀ (ts:List TV) (i:Nat),byT kf (ts++[t]) i k=byT kf ts i k++(if k=kf t then [((i+ts.length:Nat):Int)] else [])
 | [],i=>by simp only [byT,List.nil_append,List.length_nil,Nat.add_zero]
 | x::ts,i=>by
  simp only [List.cons_append,byT,Pn kf t k ts (i+1),List.length_cons];rw [show i+1+ts.length=i+(ts.length+1) by omega];by_cases h:k=kf x
  ·rw [if_pos h,if_pos h];rfl
  ·rw [if_neg h,if_neg h]
theorem Wg {kf:TV→Int×Int} {ts:List TV} {i:Nat} {t:TV} (h:ts[i]?=some t) (k:Int×Int):byT kf (ts.take (i+1)) 0 k=byT kf (ts.take i) 0 k++(if k=kf t then [(i:Int)] else []):=by rw [List.take_add_one,h];show byT kf (ts.take i++[t]) 0 k=_;rw [Pn,List.length_take,Nat.min_eq_left (Nat.le_of_lt (List.getElem?_eq_some_iff.1 h).1),Nat.zero_add]
theorem wF (kf:TV→Int×Int) (k:Int×Int):∀ (ts:List TV) (i:Nat),(byT kf ts i k).length≤ts.length
 | [],_=>Nat.le_refl _
 | x::ts,i=>by have:=wF kf k ts (i+1);unfold byT;split<;>simp<;>omega
theorem sU {kf:TV→Int×Int} {k:Int×Int} {j:Int}:∀ {ts:List TV} {i:Nat},j∈byT kf ts i k↔∃ (m:Nat) (t:TV),j=((i+m:Nat):Int)∧ts[m]?=some t∧k=kf t
 | [],i=>by simp [byT]
 | x::ts,i=>by
  have ih:=@sU kf k j ts (i+1);unfold byT;constructor
  ·intro h;by_cases hk:k=kf x
   ·rw [if_pos hk] at h;rcases List.mem_cons.1 h with h | h
    ·exact ⟨0,x,h,rfl,hk⟩
    ·obtain ⟨m,t,h1,h2,h3⟩:=ih.1 h;exact ⟨m+1,t,by rw [h1];congr 1;omega,h2,h3⟩
   ·rw [if_neg hk] at h;obtain ⟨m,t,h1,h2,h3⟩:=ih.1 h;exact ⟨m+1,t,by rw [h1];congr 1;omega,h2,h3⟩
  ·rintro ⟨m,t,h1,h2,h3⟩;cases m with
   | zero =>
    simp at h2;subst h2;rw [if_pos h3];exact List.mem_cons.2 (.inl h1)
   | succ m =>
    have h9:=ih.2 ⟨m,t,by rw [h1];congr 1;omega,by simpa using h2,h3⟩;split
    ·exact List.mem_cons_of_mem _ h9
    ·exact h9
abbrev Cu (kf:TV→Int×Int) (ts:List TV) (k:Int×Int):List Value:=(byT kf ts 0 k).map (Value.int .i64)
theorem Sn {kf:TV→Int×Int} {ts:List TV} {i:Nat} {t:TV} (h:ts[i]?=some t):(fun x=>if x=kf t then Cu kf (ts.take i) (kf t)++[.int .i64 (i:Int)] else Cu kf (ts.take i) x)=Cu kf (ts.take (i+1)):=by
 funext x;unfold Cu;rw [Wg h x];by_cases e:x=kf t
 ·subst e;rw [if_pos rfl,if_pos rfl,List.map_append];rfl
 ·rw [if_neg e,if_neg e,List.append_nil]
def GrpP (kf:TV→Int×Int) (lo:Nat) (ts:List TV) (b:Nat) (W:World):Prop:=Grp prog 112 3 kv lo (Cu kf ts) b W
def qF (w0:World) (K:List (Nat×World)) (kf:TV→Int×Int) (lo:Nat) (ts:List TV) (b:Nat):Prop:=∃ Wf,GrpP kf lo ts b Wf∧jC w0 K (fun W2=>W2.heap[b]?=Wf.heap[b]?∧∀ p,lo≤p→p < Wf.heap.size→W2.heap[p]?=Wf.heap[p]?)
theorem qF.more {w0:World} {K K':List (Nat×World)} {kf:TV→Int×Int} {lo b:Nat} {ts:List TV} (h:qF w0 K kf lo ts b) (hk:∀ q∈K,q∈K'):qF w0 K' kf lo ts b:=by obtain ⟨Wf,h1,h2⟩:=h;exact ⟨Wf,h1,jC.more h2 hk⟩
abbrev kSym (t:TV):Int×Int:=(t.f,t.g)
theorem Wh (S:PS) (a:AV) (f0:WF) (bk:Bool) (bm VA VX RB:Nat) (Ot:Own) (K:List (Nat×World)) (w0:World) (w:World) (hS0:St w0 ((RB,rdC f0 a bk bm VA VX,109)::Ot) [] K w) (hmap:w.heap[bm]?=some (.map #[] 0)) (hwb:w0.heap.size≤bm) (hKb:∀ q∈K,bm < q.1∨q.2.heap.size≤bm) (htrow:mQ w0 a.ta a.ts) (htlen:a.ts.length=a.tl) (htm:a.tl≤65536) (hky:∀ t∈a.ts,(0≤t.f∧t.f≤1000000)∧(-1≤t.g∧t.g≤1000000)) :
  Calls prog 43 #[.pointer (some ⟨RB,0,none⟩)] w (fun e w'=>∃ (lo:Nat) (Kn:List (Nat×World)),e = .returned (.tuple #[])∧(∀ q∈K,q∈Kn)∧w0.heap.size≤lo∧qF w0 Kn kSym lo a.ts bm∧St w0 ((RB,rdC f0 a bk bm VA VX,109)::Ot) [] Kn w'):=by
 refine cG (args:=[.pointer (some ⟨RB,0,none⟩)]) func43 rfl ntmps43 rfl ?_;have hS:=hS0;obtain ⟨lo,hlo⟩:∃ lo,lo=w.heap.size:=⟨_,rfl⟩;have hO:=O6 hS hmap;have hwl:=hS.below.size;have hKb9:∀ q∈K,q.2.heap.size≤lo∧(bm < q.1∨q.2.heap.size≤bm):=fun q hq=>⟨by rw [hlo];exact (hS.kept q hq).1.1,hKb q hq⟩
 rw [← hlo] at hO hwl;refine aO (aQ (aH rfl rfl (cQ rfl rfl (aN (o':=9) wE rfl rfl rfl (aN (o':=15) dB rfl rfl rfl (aR isAgg27 rfl (aK (hS.at_ 0 rfl) rfl) rfl (cL underlying27 rfl rfl (aH rfl rfl (aP (XF.thenN (bX (eJ (fun m l W=>∃ i:Nat,i≤a.tl∧m=a.tl - i∧l=[(0,.pointer (some ⟨RB,0,none⟩)),(9,.slice a.ta a.tl a.tc),(10,.int .i64 (a.tl:Int)),(11,.int .i64 (i:Int))]∧Grp prog 112 3 kv lo (Cu kSym (a.ts.take i)) bm W∧lo≤W.heap.size∧St w0 ((RB,rdC f0 a bk bm VA VX,109)::Ot) [] K W) (a.tl - 0) ([(0,_),(9,_),(10,_),(11,_)]) ⟨rfl,rfl,rfl,rfl,trivial⟩ (⟨0,Nat.zero_le _,rfl,rfl,Grp.fresh lo hmap,Nat.le_of_eq hlo,hS⟩) ?_))))))))))));clear hS;rintro m l W ⟨i,hi,rfl,rfl,hM,hlo9,hS⟩;refine aO (aQ (cT rfl rfl rfl (aP (XF.thenN (aO (bB rfl (fun hc=>?_) (fun hc=>?_)))))))
 ·have hc12:=of_decide_eq_true hc;clear hc;have hk:i < a.tl:=by omega
  obtain ⟨r,hr⟩:∃ r,a.ts[i]?=some r:=⟨a.ts[i]'(by omega),by simp [show i < a.ts.length by omega]⟩;obtain ⟨b,off,hta,hcs⟩:=htrow.at_ hr;have k1:=aC.agree hS.agree (Nat.zero_le _) hcs;obtain ⟨hrf,hrg⟩:=hky r (List.mem_of_getElem? hr);have hS:=(hS.markAt (Grp.lt hM) (fun p hp=>(hO p hp).1)).mark lo (fun p hp=>(hO p hp).2) rfl;refine bP (XF.thenN (aO (bX (aO (aQ (aH rfl rfl ?_))))));refine cK (j:=i) (b:=b) (o:=off) (m:=a.tl) (c:=a.tc) underlying27 sizeOf48 (by show some (Value.slice a.ta a.tl a.tc)=_;rw [hta]) rfl rfl (by omega) rfl rfl ?_;refine aT (vs:=[_,_,_,_,_,_,_,_,_]) isAgg48 sizeOf48 rfl (k1) rfl (bF (cs:=[_,_,_,_,_,_,_,_,_]) hS zeroValue48 rfl rfl fun B1 W1 hS=>aB rfl rfl (aU (i:=0) (vs:=[_,_,_,_,_,_,_,_,_]) (cs':=[_,_,_,_,_,_,_,_,_]) (O':=(_::_::Ot)) hS sizeOf48 rfl rfl rfl rfl rfl rfl rfl fun W2 hS=>aP (XF.thenN (aO (aQ (aN (o':=0) jI rfl rfl rfl (aR isAgg3 rfl (aK (hS.at_ 0 rfl) rfl) rfl (aN (o':=1) iF rfl rfl rfl (aR isAgg3 rfl (aK (hS.at_ 0 rfl) rfl) rfl (dY (us:=[(0,.int .i64 _),(1,.int .i64 _)]) rfl (rU _ _) rfl (bF (cs:=[_,_]) hS zeroValue112 rfl rfl fun B3 W3 hS=>aU (i:=0) (vs:=[_,_]) (cs':=[_,_]) (O':=(_::_::_::Ot)) hS sizeOf112 rfl rfl rfl rfl rfl rfl rfl fun W4 hS=>aP (XF.thenN ?_))))))))))));have hM8:=(Grp.same hM (fun h1=>((hS.since 1 rfl).2 bm (Nat.le_refl _) (sP h1)).trans (sQ h1)) (fun p h0 h1=>(hS.since 0 rfl).2 p h0 h1));have hlo8:=Nat.le_trans hlo9 (hS.since 0 rfl).1;have h9:=hM8;obtain ⟨es9,ck9,hb9,_⟩:=h9;have hO9:=O6 hS hb9;have hb3:=(hO9 _ (List.mem_cons_of_mem _ List.mem_cons_self)).1;have hb4:=(hO9 _ List.mem_cons_self).1;have hS:=hS.unkeep.unkeep;refine V9 (n:=_) (k:=kSym r) (vals:=fun i9=>match i9 with | 0=>.pointer (some ⟨RB,0,none⟩) | 1=>.pointer (some ⟨RB,0,none⟩) | 2=>.pointer (some ⟨RB,0+17,none⟩) | 3=>.map (some bm) | 4=>kv (kSym r) | _=>.int .i64 (i:Int)) (x:=.int .i64 (i:Int)) cC hS hM8 ?_ hwb hwl hlo8 hKb9 M3 underlying106 zeroValue26 (M4 (Bw hrf.1 hrf.2) (xJ hrg.1 hrg.2)) Mz underlying26 Eb rfl rfl rfl rfl (fun ev w h=>We underlying26 sizeOf3 zeroValue3 (pY _) ev w h) (by have h9:=wF kSym (kSym r) (a.ts.take i) 0;rw [List.length_take] at h9;rw [List.length_map];simp only [maxLen];omega) (by have h9:=wF kSym (kSym r) (a.ts.take i) 0;rw [List.length_take] at h9;rw [List.length_map];show (_+1) * 8≤_;omega) rfl (by kernel_rfl) rfl rfl rfl ?_ rfl rfl rfl rfl rfl rfl (by kernel_rfl) (by kernel_rfl) (by kernel_rfl) (by kernel_rfl) (by kernel_rfl) (by kernel_rfl) (by kernel_rfl) (by kernel_rfl) (by kernel_rfl) (by kernel_rfl) ?_
  ·intro p hp;rcases List.mem_cons.1 hp with rfl | hp
   ·exact ⟨hb4,.inr (show (112:Nat)≠3 by decide)⟩
   rcases List.mem_cons.1 hp with rfl | hp
   ·exact ⟨hb3,.inr (show (48:Nat)≠3 by decide)⟩
   ·exact ⟨(hO p hp).1,.inl (hO p hp).2⟩
  ·intro i9 hi9 a0 c9 w9 ha0 hF9 hS9 hD;have hfr:∀ t v,freeT _ t=true→look _ t=some v→c9.eval (.tmp t)=v:=fun t v h1 h2=>(hF9 t h1).trans (ha0.at_ t v h2)
   have hB4:=(hS9.own _ List.mem_cons_self).2;have hRB:=(hS9.own (RB,rdC f0 a bk bm VA VX,109) (by simp)).2
   match i9,hi9 with
   | 0,_=>exact ⟨_,rfl,rfl,by
    exact aW (l:=[(0,.pointer (some ⟨RB,0,none⟩))]) rfl c9.eval (wA (hfr 0 _ (by kernel_rfl) rfl))⟩
   | 1,_=>exact ⟨_,rfl,rfl,by
    exact cU (l:=[(21,.pointer (some ⟨RB,0,none⟩))]) rfl c9.eval (wA (hD 0 21 (by kernel_rfl)))⟩
   | 2,_=>exact ⟨_,rfl,rfl,by
    exact aV (l:=[(22,.pointer (some ⟨RB,0,none⟩))]) Bx rfl rfl c9.eval (wA (hD 1 22 (by kernel_rfl)))⟩
   | 3,_=>exact ⟨_,rfl,rfl,by
    exact bA (l:=[(23,.pointer (some ⟨RB,0+17,none⟩))]) isAgg106 rfl (aK hRB rfl) c9.eval (wA (hD 2 23 (by kernel_rfl)))⟩
   | 4,_=>exact ⟨_,rfl,rfl,by
    exact aY (l:=[(4,.pointer (some ⟨B3,0,none⟩))]) (vs:=[_,_]) isAgg112 sizeOf112 rfl (aC.own (j:=0) (m:=2) hB4 rfl) c9.eval (wA (hfr 4 _ (by kernel_rfl) rfl))⟩
   | 5,_=>exact ⟨_,rfl,rfl,by
    exact aW (l:=[(2,.int .i64 (i:Int))]) rfl c9.eval (wA (hfr 2 _ (by kernel_rfl) rfl))⟩
   | i9+6,h9=>omega
  ·intro W9 hS9 hM9 hsz10 c9 h1 h2 h3;rw [Sn hr] at hM9;clear hS;have hS:=hS9;clear hS9;refine (show XF _ .normal _ [(0,_),(9,_),(10,_),(11,_)] W9 from ?_) c9 (Wa.has h1 h2 ⟨h3 0 (by kernel_rfl) _ rfl,h3 9 (by kernel_rfl) _ rfl,h3 10 (by kernel_rfl) _ rfl,h3 11 (by kernel_rfl) _ rfl,trivial⟩);refine XF.blkN (XF.thenN (aQ (cY rfl rfl (IntWalk.i64_in _ (by omega)) rfl (aH rfl rfl (aP ?_)))));exact XF.round (a.tl - (i+1)) [(0,_),(9,_),(10,_),(11,_)] (by omega) ⟨rfl,rfl,rfl,rfl,trivial⟩ ⟨i+1,by omega,rfl,rfl,hM9,Nat.le_trans hlo8 hsz10,hS.tail.tail⟩
 ·have hc12:=of_decide_eq_false hc;clear hc;rw [List.take_of_length_le (by omega)] at hM;have hS7:=(hS.markAt (Grp.lt hM) (fun p hp=>(hO p hp).1)).mark lo (fun p hp=>(hO p hp).2) rfl;refine dT (XF.thenX (XF.thenX (XF.blkX (XF.resN (Rf results43) (⟨lo,_,rfl,(fun q hq=>List.mem_cons_of_mem _ (List.mem_cons_of_mem _ hq)),hwl,⟨_,hM,?_⟩,hS7⟩)))));intro O2 G2 K2 W2 h2 hk;have h1:=Grp.lt hM;exact ⟨((h2.kept _ (hk _ (List.mem_cons_of_mem _ List.mem_cons_self))).1.2 bm (Nat.le_refl _) (sP h1)).trans (sQ h1),fun p h3 h4=>(h2.kept _ (hk _ List.mem_cons_self)).1.2 p h3 h4⟩
theorem goes_58:bJ prog 58=true:=by kernel_rfl
theorem So (S:PS) (sf:SF) (w:World) (hs:SIs w S sf) (hok:S.ok) :
  Calls prog 58 #[sf.val] w (jO S (bU S) w):=by
 refine cG (args:=[sf.val]) func58 rfl ntmps58 rfl ?_;have hS:=St.start w;refine aO (aQ (bY (cs:=[_,_,_]) hS rfl rfl rfl fun B1 W1 hS=>bF (cs:=[_,_,_,_,_,_]) hS zeroValue46 rfl rfl fun B2 W2 hS=>aP (XF.thenN (aO (aQ (aT (vs:=[_,_,_]) isAgg25 sizeOf25 rfl (aC.own (j:=0) (m:=3) (hS.at_ 1 rfl) rfl) rfl ?_))))));have hsz:=hS.below.size;refine cS (vs:=[_]) hS goes_90 rfl (I8 S sf _ (hs.below hS.below) hok) rfl ?_;rintro e W3 ⟨f,rfl,hn,hb⟩;refine ⟨_,rfl,hb,?_⟩;clear hS;intro hS;refine aH rfl rfl (bZ rfl rfl rfl (bZ rfl rfl rfl (bF (cs:=[_,_,_,_,_,_]) hS zeroValue46 rfl rfl fun B4 W4 hS=>aU (i:=0) (vs:=[_,_,_,_,_,_]) (cs':=[_,_,_,_,_,_]) (O':=[_,_,_]) hS sizeOf46 rfl rfl rfl rfl rfl rfl rfl fun W5 hS=>aB rfl rfl (aP (XF.thenN (aO (aQ (aT (vs:=[_,_,_,_,_,_]) isAgg46 sizeOf46 rfl (aC.own (j:=0) (m:=6) (hS.at_ 0 rfl) rfl) rfl (aU (i:=1) (vs:=[_,_,_,_,_,_]) (cs':=[_,_,_,_,_,_]) (O':=[_,_,_]) hS sizeOf46 rfl rfl rfl rfl rfl rfl rfl fun W6 hS=>aP (XF.thenN (bL (XF.res (eE (vs:=[_,_,_,_,_,_]) results58 isAgg46 sizeOf46 rfl (aC.own (j:=0) (m:=6) (hS.at_ 1 rfl) rfl)) ?_))))))))))));exact ⟨f,rfl,(hn.agree (hS.since 0 rfl)).mono hsz,hS.below⟩
def wG (a:AV) (fr ws:List Int):Int:=if dJ a≠0 then dJ a else if fr.all (fun y=>inQ y a.st)=true then (if ws.all (fun y=>inQ y a.sy)=true then 0 else 102) else 101
theorem M5:bJ prog 28=true:=by kernel_rfl
theorem lN {x:Int} {n:Nat} (h:inQ x (n:Int)=true):∃ k:Nat,x=(k:Int)∧k < n:=by simp only [inQ,Bool.and_eq_true,decide_eq_true_eq] at h;exact ⟨x.toNat,by omega,by omega⟩
theorem goes_73:bJ prog 73=true:=by kernel_rfl
def wH (S:PS) (xs:List PX) (l:List Int):PX:=l.foldl (fun z s=>cD S z (xs.getD s.toNat (bU S))) (bU S)
theorem Sp {S:PS} {xs:List PX} {l:List Int} {i:Nat} {y:Int} (h:l[i]?=some y):wH S xs (l.take (i+1))=cD S (wH S xs (l.take i)) (xs.getD y.toNat (bU S)):=by rw [List.take_add_one,h];show wH S xs (l.take i++[y])=_;unfold wH;rw [List.foldl_append];rfl
theorem endX_ok {S:PS} {xs:List PX} (hok:S.ok) (hx:∀ x∈xs,OkX S x) (l:List Int):OkX S (wH S xs l):=by
 unfold wH
 have:∀ (l:List Int) (z:PX),OkX S z→OkX S (l.foldl (fun z s=>cD S z (xs.getD s.toNat (bU S))) z):=by
  intro l
  induction l with
  | nil=>intro z hz;exact hz
  | cons a t ih =>
   intro z hz;refine ih _ (kN hok hz ?_);rw [List.getD_eq_getElem?_getD];cases h:xs[a.toNat]? with
   | none=>exact nC
   | some x=>exact hx x (List.mem_of_getElem? h)
 exact this l _ nC
theorem newS {S:PS} {lo lo':Nat} {X:Nat→Prop} {W W2:World} {f:WF} {x:PX} (hf:gY lo W S f x) (hA:AwS lo X (dP lo S x) f.val W) (h:iW lo X W W2) (hl:lo'≤lo):gY lo' W2 S f x:=by obtain ⟨g,hg,hgn⟩:=hA _ h;obtain rfl:=Pf hg (hf.samepf hgn);exact hgn.mono hl
theorem plusRow {w:World} {S:PS} {sf:SF} {f0 f g:WF} {x y:PX} {vs:List Value} {lo lo2:Nat} {T:TypeId} (hh:lV [isV (gR sf f0),oV lo2 2 T (f.six++g.six)] vs w) (hs:SIs w S sf) (hok:S.ok) (hf:XIs w S f x) (hg:XIs w S g y) (hx:OkX S x) (ht:Tabs w) (hlo:lo≤w.heap.size):Calls prog 23 vs.toArray w (wW (dP lo S (cD S x y)) w):=by obtain ⟨v1,v2,rfl,e1,b,rfl,hlb,hb⟩:=nD hh;have e1:v1=_:=e1;subst e1;refine nG hlo ?_;have h9:=qD S sf f0 w hs hok _ 2 2 [f,g] [x,y] (Is hb) (sM hf (sM hg L5)) rfl (by decide) ht;rw [Vx hx] at h9;exact h9
theorem Wi (S:PS) (a:AV) (f0:WF) (bk:Bool) (bm VA VX RB IB WB n:Nat) (v:Value) (fs:List WF) (xs:List PX) (w:World) (hrb:w.heap[RB]?=some (.cells (rdC f0 a bk bm VA VX).toArray 109 (0,0))) (hva:w.heap[VA]?=some (.cells (gZ v n IB WB).toArray 116 (0,0))) (hib:w.heap[IB]?=some (.cells (inC S xs).toArray 4 (0,0))) (hwb:w.heap[WB]?=some (.cells (wC fs).toArray 46 (0,0))) (hfl:fs.length=n) (hxl:xs.length=n) (hxs:∀ (i:Nat) f x,fs[i]?=some f→xs[i]?=some x→x≠bU S→XIs w S f x) (hxo:∀ x∈xs,OkX S x) (hn:n≤4096) (hfrow:Row w a.fa a.fs) (hflen:a.fs.length=a.fl) (hfm:a.fl≤9223372036854775807) (hfq:∀ s∈a.fs,inQ s (n:Int)=true) (hsi:SIs w S a.s.f) (hok:S.ok) (ht:Tabs w) :
  Calls prog 47 #[.pointer (some ⟨RB,0,none⟩)] w (jO S (wH S xs a.fs) w):=by
 refine cG (args:=[.pointer (some ⟨RB,0,none⟩)]) func47 rfl ntmps47 rfl ?_;have hS:=St.start w;refine aO (aQ (bF (cs:=[_,_,_,_,_,_]) hS zeroValue46 rfl rfl fun B1 W1 hS=>aP (XF.thenN (aO ?_))));have hring:=aC.own (j:=0) (m:=9) (vs:=[.int .i64 a.s.f.tag,.int .i64 a.s.f.dim,.slice a.s.f.a a.s.f.len a.s.f.cap,.bool f0.z,.int .i64 f0.c,.int .u64 (f0.g:Int),.slice f0.ra f0.rl f0.rc,.slice f0.ca f0.cl f0.cc,.slice f0.pa f0.pl f0.pc]) hrb rfl;have k9:=aC.agree hS.agree (Nat.zero_le _) hring;refine aQ (aH rfl rfl (cQ rfl rfl (aN nI rfl (Nat.add_zero _) rfl (aT (vs:=[_,_,_,_,_,_,_,_,_]) isAgg57 sizeOf57 rfl (k9) rfl ?_))));have hsz1:=hS.below.size;refine cS (vs:=[_]) hS goes_73 rfl (Jd S a.s.f f0 _ (hsi.below hS.below) hok) rfl ?_;rintro e W2 ⟨f1,rfl,hn1,hb⟩;refine ⟨_,rfl,hb,?_⟩;clear hS;intro hS;refine bF (cs:=[_,_,_,_,_,_]) hS zeroValue46 rfl rfl fun B3 W3 hS=>aU (i:=0) (vs:=[_,_,_,_,_,_]) (cs':=[_,_,_,_,_,_]) (O':=[_,_]) hS sizeOf46 rfl rfl rfl rfl rfl rfl rfl fun W4 hS=>aP (XF.thenN (aO (aO ?_)))
 have hfin0:=aK (j:=14) hrb rfl;have hat0:=aK (j:=18) hrb rfl;have hin0:=aK (j:=1) hva rfl;have hw0:=aK (j:=2) hva rfl;refine aQ (aH rfl rfl (cQ rfl rfl (aN wE rfl rfl rfl (aN eV rfl rfl rfl (aR isAgg26 rfl (hS.old hfin0) rfl (cL underlying26 rfl rfl (aH rfl rfl (aP (XF.thenN (bX (eJ (fun m l W=>∃ (i:Nat) (fz:WF) (Kk:List (Nat×World)),i≤a.fl∧m=a.fl - i∧l=[(0,.pointer (some ⟨RB,0,none⟩)),(15,.slice a.fa a.fl a.fc),(16,.int .i64 (a.fl:Int)),(17,.int .i64 (i:Int)),(2,.pointer (some ⟨B1,0,none⟩)),(3,.pointer (some ⟨B3,0,none⟩))]∧jC w Kk (fun W2=>gY w.heap.size W2 S fz (wH S xs (a.fs.take i)))∧St w [(B3,fz.six,46),(B1,[.bool false,.int .i64 0,.int .u64 0,.slice none 0 0,.slice none 0 0,.slice none 0 0],46)] [] Kk W) (a.fl - 0) ([(0,_),(15,_),(16,_),(17,_),(2,_),(3,_)]) ⟨rfl,rfl,rfl,rfl,rfl,rfl,trivial⟩ (⟨0,f1,_,Nat.zero_le _,rfl,rfl,(fun h2 hk=>(hn1.agree (h2.kept _ (hk _ List.mem_cons_self)).1).mono hsz1),hS⟩) ?_)))))))))));clear hS;rintro m l W ⟨i,fz,Kk,hi,rfl,rfl,HZ,hS⟩;refine aO (aQ (cT rfl rfl rfl (aP (XF.thenN (aO (bB rfl (fun hc=>?_) (fun hc=>?_)))))))
 ·have hc18:=of_decide_eq_true hc;clear hc;have hk:i < a.fl:=by omega
  obtain ⟨b,off,y,hfa,hy,hyc⟩:=hfrow.at1 (show i < a.fs.length by omega);have k1:=hS.old hyc;obtain ⟨sN,rfl,hsN⟩:=lN (hfq y (List.mem_of_getElem? hy));obtain ⟨x0,hx0⟩:∃ x0,xs[sN]?=some x0:=⟨xs[sN]'(by omega),List.getElem?_eq_getElem _⟩;obtain ⟨g0,hg0⟩:∃ g0,fs[sN]?=some g0:=⟨fs[sN]'(by omega),List.getElem?_eq_getElem _⟩;have hbit:=aK (j:=0+sN * 1) hib (V6 hx0);have hxe:xs.getD ((sN:Int)).toNat (bU S)=x0:=by rw [Int.toNat_natCast,List.getD_eq_getElem?_getD,hx0];rfl
  have hstep:=Sp (S:=S) (xs:=xs) hy;rw [hxe] at hstep;have hzok:=endX_ok hok hxo (a.fs.take i);refine bP (XF.thenN (aO (bX (aO (aQ ?_)))));refine cK (j:=i) (b:=b) (o:=off) (m:=a.fl) (c:=a.fc) underlying26 sizeOf3 (by show some (Value.slice a.fa a.fl a.fc)=_;rw [hfa]) rfl rfl (by omega) rfl rfl ?_;refine aR isAgg3 rfl (k1) rfl (aB rfl rfl (aP (XF.thenN (aO (aQ (aH rfl rfl (cQ rfl rfl (aN kW rfl rfl rfl (aR isAgg107 rfl (hS.old hat0) rfl (cQ rfl rfl (aN vZ rfl rfl rfl (aR isAgg114 rfl (hS.old hin0) rfl (aH rfl rfl (cK (j:=sN) underlying114 sizeOf4 rfl rfl (rfl) (by omega) rfl rfl (aR isAgg4 rfl (hS.old hbit) rfl (aP (XF.thenN (bB rfl (fun hc=>?_) (fun hc=>?_)))))))))))))))))))
  ·have hc30:=hc;clear hc;have hnz:x0≠bU S:=by simpa [jD] using hc30
   have hxi:=hxs sN g0 x0 hg0 hx0 hnz;have k6:=aC.own (j:=0+sN * 6) (m:=6) hwb (Jg hg0);have hsz6:=hS.below.size;refine Pc (ef:=17) (jy:=16) (ca:=qN (fun _=>[])) (ta:=fun _=>0) (Os:=osY _ 0 (0) B3 (fz.six) 46) (Gs:=rM _) (al:=[]) (k:=18) (ds:=[]) cC rfl hS rfl (by kernel_rfl) rfl (by decide) rfl rfl rfl rfl (aX 1 rfl rfl (isV _) (fun hNo=>sgV [(0,_)] rfl rfl rfl rfl hNo (aS rfl) ⟨cJ rfl,trivial⟩ (fun ev w he hw=>aW rfl) (aF rfl)) (aX 2 rfl rfl (isV _) (fun hNo=>sgV [(31,_)] rfl rfl rfl rfl hNo (aS rfl) ⟨aM 0 (aA rfl rfl rfl),trivial⟩ (fun ev w he hw=>cU rfl) (aF rfl)) (aX 3 rfl rfl (isV _) (fun hNo=>sgV [(32,_)] rfl rfl rfl rfl hNo (aS rfl) ⟨aM 1 (aA rfl rfl rfl),trivial⟩ (fun ev w he hw=>aV nI rfl (Nat.add_zero _)) (aF rfl)) (aX 4 rfl rfl (isV _) (fun hNo=>sgV [(33,_)] rfl rfl rfl rfl hNo (aS rfl) ⟨aM 2 (aA rfl rfl rfl),trivial⟩ (fun ev w he hw=>aY (vs:=[_,_,_,_,_,_,_,_,_]) isAgg57 sizeOf57 rfl (aC.agree hw.agree (Nat.zero_le _) (hring))) (aF rfl)) (aX 5 rfl rfl (isV _) (fun hNo=>sgV [(3,_)] rfl rfl rfl rfl hNo (aS rfl) ⟨cJ rfl,trivial⟩ (fun ev w he hw=>aY (vs:=[_,_,_,_,_,_]) isAgg46 sizeOf46 rfl ((aC.own (j:=0) (m:=6) (hw.at_ 0 (Pd (he rfl) rfl)) rfl))) (aF rfl)) (aX 6 rfl rfl (isV _) (fun hNo=>sgV [(0,_)] rfl rfl rfl rfl hNo (aS rfl) ⟨cJ rfl,trivial⟩ (fun ev w he hw=>aW rfl) (aF rfl)) (aX 7 rfl rfl (isV _) (fun hNo=>sgV [(36,_)] rfl rfl rfl rfl hNo (aS rfl) ⟨aM 5 (aA rfl rfl rfl),trivial⟩ (fun ev w he hw=>cU rfl) (aF rfl)) (aX 8 rfl rfl (isV _) (fun hNo=>sgV [(37,_)] rfl rfl rfl rfl hNo (aS rfl) ⟨aM 6 (aA rfl rfl rfl),trivial⟩ (fun ev w he hw=>aV kW rfl rfl) (aF rfl)) (aX 9 rfl rfl (isV _) (fun hNo=>sgV [(38,_)] rfl rfl rfl rfl hNo (aS rfl) ⟨aM 7 (aA rfl rfl rfl),trivial⟩ (fun ev w he hw=>bA isAgg107 rfl (hw.agree.cell (Nat.zero_le _) (hat0))) (aF rfl)) (aX 10 rfl rfl (isV _) (fun hNo=>sgV [(39,_)] rfl rfl rfl rfl hNo (aS rfl) ⟨aM 8 (aA rfl rfl rfl),trivial⟩ (fun ev w he hw=>cU rfl) (aF rfl)) (aX 11 rfl rfl (isV _) (fun hNo=>sgV [(40,_)] rfl rfl rfl rfl hNo (aS rfl) ⟨aM 9 (aA rfl rfl rfl),trivial⟩ (fun ev w he hw=>aV nJ rfl rfl) (aF rfl)) (aX 12 rfl rfl (isV _) (fun hNo=>sgV [(41,_)] rfl rfl rfl rfl hNo (aS rfl) ⟨aM 10 (aA rfl rfl rfl),trivial⟩ (fun ev w he hw=>bA isAgg44 rfl (hw.agree.cell (Nat.zero_le _) (hw0))) (aF rfl)) (aX 13 rfl rfl (isV _) (fun hNo=>sgV [(5,_)] rfl rfl rfl rfl hNo (aS rfl) ⟨cJ rfl,trivial⟩ (fun ev w he hw=>aW rfl) (aF rfl)) (aX 14 rfl rfl (isV _) (fun hNo=>sgV [(42,_),(43,_)] rfl rfl rfl rfl hNo (aS rfl) ⟨aM 11 (aA rfl rfl rfl),aM 12 (aA rfl rfl rfl),trivial⟩ (fun ev w he hw=>bE (j:=sN) underlying44 sizeOf46 rfl rfl (rfl) (by omega) rfl) (aF rfl)) (aX 15 rfl rfl (isV _) (fun hNo=>sgV [(44,_)] rfl rfl rfl rfl hNo (aS rfl) ⟨aM 13 (aA rfl rfl rfl),trivial⟩ (fun ev w he hw=>aY (vs:=[_,_,_,_,_,_]) isAgg46 sizeOf46 rfl (aC.agree hw.agree (Nat.zero_le _) (k6))) (aF rfl)) (aX 16 rfl rfl (oV W.heap.size 2 46 _) (fun hNo=>sg_rowV (us:=[.agg (List.toArray [_,_,_,_,_,_]),.agg (List.toArray [_,_,_,_,_,_])]) rfl rfl rfl rfl hNo (aS rfl) underlying44 sizeOf46 zeroValue46 rfl rfl ⟨bT (aM 4 (aA rfl rfl rfl)),bT (aM 14 (aA rfl rfl rfl)),trivial⟩ (uX _ _ _ _ _ _ _ _ _ _ _ _) (aF rfl)) (aX 17 rfl rfl (dP W.heap.size S (cD S (wH S xs (a.fs.take i)) x0)) (fun hNo=>zA [isV _,oV W.heap.size 2 46 _] rfl rfl rfl rfl hNo zC (aS rfl) ⟨bT (aM 3 (aA rfl rfl rfl)),bT (aM 15 (aA rfl rfl rfl)),trivial⟩ (fun vs ev w' he hSt hlo hh=>plusRow hh (hsi.below hSt.below) hok (HZ hSt (fun q hq=>hq)).is (hxi.below hSt.below) hzok (ht.below hSt.below) hlo) (aF rfl)) ?_)))))))))))))))));refine nX 18 rfl (zE (py:=dP W.heap.size S (cD S (wH S xs (a.fs.take i)) x0)) (m:=6) 0 (0) [(3,_)] rfl rfl rfl rfl (by kernel_rfl) rfl rfl (fun j hj=>by rcases hj with h | rfl<;>first | (cases h<;>rfl) | rfl) ⟨cJ rfl,trivial⟩ rfl rfl sizeOf46 (fun v w ⟨h,e,_⟩=>by subst e;exact ⟨h.six,rfl,rfl,rfl⟩) rfl) ?_;refine mP ?_;intro Bf5 y5 W5 Ks5 hsz5 hKs5 hS' hcov5;clear hS;have hS:=hS'.castO (O':=[_,_]) rfl;clear hS'
   refine vU (L':=[AwS _ _ (isV _),AwS _ _ (isV _),AwS _ _ (isV _),AwS _ _ (isV _),AwS _ _ (isV _),AwS _ _ (isV _),AwS _ _ (isV _),AwS _ _ (isV _),AwS _ _ (isV _),AwS _ _ (isV _),AwS _ _ (isV _),AwS _ _ (isV _),AwS _ _ (isV _),AwS _ _ (isV _),AwS _ _ (isV _),AwS _ _ (oV W.heap.size 2 46 _),(fun v0_ w0_=>v0_=_∧AwS _ _ (dP W.heap.size S (cD S (wH S xs (a.fs.take i)) x0)) v0_ w0_),isV _]) rfl (bQ (bQ (bQ (bQ (bQ (bQ (bQ (bQ (bQ (bQ (bQ (bQ (bQ (bQ (bQ ?_)))))))))))))));refine dF ?_;intro _ _;refine dF ?_;rintro _ ⟨rfl,hA5⟩;obtain ⟨f9,rfl,hn9⟩:=hA5.here;have H9:jC w Ks5 (fun W2=>gY w.heap.size W2 S f9 (cD S (wH S xs (a.fs.take i)) x0)):=fun h2 hk=>newS hn9 hA5 (hcov5 h2 hk) hsz6
   refine Ed (cM (aP (XF.blkN (XF.thenN (aQ (cY rfl rfl (IntWalk.i64_in _ (by omega)) rfl (aH rfl rfl (aP ?_))))))));exact XF.round (a.fl - (i+1)) [(0,_),(15,_),(16,_),(17,_),(2,_),(3,_)] (by omega) ⟨rfl,rfl,rfl,rfl,rfl,rfl,trivial⟩ ⟨i+1,f9,_,by omega,rfl,rfl,(by rw [hstep];exact H9.more (fun q hq=>by simp [hq])),hS⟩
  ·have hc30:=hc;clear hc;refine bP (XF.blkN (XF.thenN (aQ (cY rfl rfl (IntWalk.i64_in _ (by omega)) rfl (aH rfl rfl (aP ?_))))));have hz:x0=bU S:=by simpa [iC] using hc30
   exact XF.round (a.fl - (i+1)) [(0,_),(15,_),(16,_),(17,_),(2,_),(3,_)] (by omega) ⟨rfl,rfl,rfl,rfl,rfl,rfl,trivial⟩ ⟨i+1,fz,Kk,by omega,rfl,rfl,(by rw [hstep,hz,kO hzok];exact HZ),hS⟩
 ·have hc18:=of_decide_eq_false hc;clear hc;rw [List.take_of_length_le (by omega)] at HZ;refine dT (XF.thenX (XF.thenX (XF.blkX (XF.thenN (aO (aQ (aT (vs:=[_,_,_,_,_,_]) isAgg46 sizeOf46 rfl (aC.own (j:=0) (m:=6) (hS.at_ 0 rfl) rfl) rfl (aU (i:=1) (vs:=[_,_,_,_,_,_]) (cs':=[_,_,_,_,_,_]) (O':=[_,_]) hS sizeOf46 rfl rfl rfl rfl rfl rfl rfl fun W6 hS=>aP (XF.thenN (bL (XF.res (eE (vs:=[_,_,_,_,_,_]) results47 isAgg46 sizeOf46 rfl (aC.own (j:=0) (m:=6) (hS.at_ 1 rfl) rfl)) ?_)))))))))));exact ⟨fz,rfl,HZ hS (fun q hq=>by simp [hq]),hS.below⟩
theorem Po:bJ prog 72=true:=by kernel_rfl
theorem G3:bJ prog 69=true:=by kernel_rfl
theorem goes_71:bJ prog 71=true:=by kernel_rfl
theorem Js {O:Own} {j jx B:Nat} {cs vs:List Value} {U:TypeId} {ev:Option Value} {p:Nat×List Value×TypeId} (he:ev=none) (h:O[j]?=some p):(Gm O j jx B cs vs U ev)[j]?=some p:=by subst he;exact h
def hopX (S:PS) (bk:Bool) (py:TV→PX) (x:PX) (t:TV) (ys:List PX):List PX:=ys.set t.t.toNat (cD S (ys.getD t.t.toNat (bU S)) (nQ S bk x (py t)))
def mJ (S:PS) (bk:Bool) (py:TV→PX) (ts:List TV) (x:PX) (js:List Int) (ys:List PX):List PX:=js.foldl (fun ys j=>match ts[j.toNat]? with | some t=>hopX S bk py x t ys | none=>ys) ys
def kX (S:PS) (bk:Bool) (py:TV→PX) (ts:List TV) (xs:List PX) (sym:Int) (l:List Nat) (ys:List PX):List PX:=l.foldl (fun ys s=>mJ S bk py ts (xs.getD s (bU S)) (byT kSym ts 0 ((s:Int),sym)) ys) ys
theorem Sq {S:PS} {bk:Bool} {py:TV→PX} {ts:List TV} {x:PX} {js:List Int} {ys:List PX} {j tj:Nat} {t:TV} (h:js[j]?=some (tj:Int)) (ht:ts[tj]?=some t):mJ S bk py ts x (js.take (j+1)) ys=hopX S bk py x t (mJ S bk py ts x (js.take j) ys):=by rw [List.take_add_one,h];show mJ S bk py ts x (js.take j++[(tj:Int)]) ys=_;unfold mJ;rw [List.foldl_append];show (match ts[((tj:Int)).toNat]? with | some t=>_ | none=>_)=_;rw [Int.toNat_natCast,ht]
theorem Sr {S:PS} {bk:Bool} {py:TV→PX} {ts:List TV} {xs:List PX} {sym:Int} {l:List Nat} {ys:List PX} {i y:Nat} {x:PX} (h:l[i]?=some y) (hx:xs[y]?=some x):kX S bk py ts xs sym (l.take (i+1)) ys=mJ S bk py ts x (byT kSym ts 0 ((y:Int),sym)) (kX S bk py ts xs sym (l.take i) ys):=by rw [List.take_add_one,h];show kX S bk py ts xs sym (l.take i++[y]) ys=_;unfold kX;rw [List.foldl_append];show mJ S bk py ts (xs.getD y (bU S)) _ _=_;rw [List.getD_eq_getElem?_getD,hx];rfl
theorem hop_at {S:PS} {bk:Bool} {py:TV→PX} {x x5:PX} {rf rg:Int} {tN:Nat} {tx:WV} {ys:List PX} (h:ys[tN]?=some x5):hopX S bk py x ⟨rf,rg,(tN:Int),tx⟩ ys=ys.set tN (cD S x5 (nQ S bk x (py ⟨rf,rg,(tN:Int),tx⟩))):=by unfold hopX;dsimp only;rw [Int.toNat_natCast,List.getD_eq_getElem?_getD,h];rfl
theorem Jt {S:PS} {bk:Bool} {x y:PX} (hok:S.ok) (hx:OkX S x) (hy:OkX S y):OkX S (nQ S bk x y):=by
 unfold nQ;split
 ·exact yY hok hy hx
 ·exact yY hok hx hy
theorem perm3 {α:Type} (x a b c:α) (l:List α):(x::a::b::c::l).Perm (a::b::c::x::l):=(List.perm_middle (l₁:=[a,b,c])).symm
theorem Pp {α:Type} (x a b c d:α) (l:List α):(x::a::b::c::d::l).Perm (a::b::c::d::x::l):=(List.perm_middle (l₁:=[a,b,c,d])).symm
theorem Ss (S:PS) (a:AV) (f0:WF) (bk:Bool) (bm VA VX RB IA WA IX WX n:Nat) (vx va:Value) (fx fs:List WF) (xx xs:List PX) (lx l:List Nat) (Ot:Own) (Gt:cV) (K:List (Nat×World)) (w0:World) (lo:Nat) (py:TV→PX) (sym:Int) (w:World) (hS0:St w0 ((RB,rdC f0 a bk bm VA VX,109)::(VX,gZ vx n IX WX,116)::(IX,inC S xx,4)::(WX,wC fx,46)::(VA,gZ va n IA WA,116)::(IA,inC S xs,4)::(WA,wC fs,46)::Ot) (⟨vx,lx.length,atC lx,3,1⟩::⟨va,l.length,atC l,3,1⟩::Gt) K w) (hVX:VecOk S w0 K n fx xx lx) (hVA:VecOk S w0 K n fs xs l) (hn:n≤4096) (hM:qF w0 K kSym lo a.ts bm) (htrow:mQ w0 a.ta a.ts) (htlen:a.ts.length=a.tl) (htm:a.tl≤65536) (htq:∀ t∈a.ts,inQ t.t (n:Int)=true) (hpy:∀ t∈a.ts,XIs w0 S t.x.f (py t)) (hsy : -1≤sym∧sym≤1000000) (hsi:SIs w0 S a.s.f) (hok:S.ok) (ht:Tabs w0) (H0:jC w0 K (fun W=>XIs W S f0 (bU S))) :
  Calls prog 45 #[.pointer (some ⟨RB,0,none⟩),.int .i64 sym] w (fun e w'=>∃ (u v:Value) (l':List Nat) (fs':List WF) (Kn:List (Nat×World)),e = .returned (.tuple #[])∧(∀ q∈K,q∈Kn)∧VecOk S w0 Kn n fs' (kX S bk py a.ts xs sym l (List.replicate n (bU S))) l'∧St w0 ((RB,rdC f0 a bk bm VX VA,109)::(VX,gZ u n IX WX,116)::(IX,inC S (kX S bk py a.ts xs sym l (List.replicate n (bU S))),4)::(WX,wC fs',46)::(VA,gZ v n IA WA,116)::(IA,inC S xs,4)::(WA,wC fs,46)::Ot) (⟨u,l'.length,atC l',3,1⟩::⟨v,l.length,atC l,3,1⟩::Gt) Kn w'):=by
 refine cG (args:=[.pointer (some ⟨RB,0,none⟩),.int .i64 sym]) func45 rfl ntmps45 rfl ?_;have hS:=hS0;obtain ⟨aa,ac,hva,_⟩:=fC (hS.row 1 rfl);have hva:va = .slice aa l.length ac:=hva;subst hva;have hll:=hVA.len;refine aO (aQ (aH rfl rfl (cQ rfl rfl (aN (o':=19) rT rfl rfl rfl (aR isAgg107 rfl (aK (hS.at_ 0 rfl) rfl) rfl (fY (vs:=[_]) goes_71 rfl (Jh S VX IX WX n vx fx xx lx _ _ _ w0 _ (hS.perm (perm3 _ _ _ _ _)) hVX hn) rfl ?_))))));rintro e W9 ⟨u9,rfl,hV9,hS9⟩;refine ⟨_,rfl,?_⟩;clear hS;have hS:=hS9.perm (perm3 _ _ _ _ _).symm;clear hS9;refine aP (XF.thenN (aO (aO (aQ (aH rfl rfl (cQ rfl rfl (aN (o':=18) kW rfl rfl rfl (aR isAgg107 rfl (aK (hS.at_ 0 rfl) rfl) rfl (cQ rfl rfl (aN (o':=0) kV rfl rfl rfl (aR isAgg26 rfl (aK (hS.at_ 4 rfl) rfl) rfl (cL underlying26 rfl rfl (aH rfl rfl (aP (XF.thenN (bX (eJ (fun m lf W=>∃ (i:Nat) (v9:Value) (f9s:List WF) (x9s:List PX) (l9:List Nat) (Kk:List (Nat×World)),i≤l.length∧m=l.length - i∧lf=[(0,.pointer (some ⟨RB,0,none⟩)),(1,.int .i64 sym),(20,.slice aa l.length ac),(21,.int .i64 (l.length:Int)),(22,.int .i64 (i:Int))]∧(∀ q∈K,q∈Kk)∧x9s=kX S bk py a.ts xs sym (l.take i) (List.replicate n (bU S))∧VecOk S w0 Kk n f9s x9s l9∧St w0 ((RB,rdC f0 a bk bm VA VX,109)::(VX,gZ v9 n IX WX,116)::(IX,inC S x9s,4)::(WX,wC f9s,46)::(VA,gZ (.slice aa l.length ac) n IA WA,116)::(IA,inC S xs,4)::(WA,wC fs,46)::Ot) (⟨v9,l9.length,atC l9,3,1⟩::⟨(.slice aa l.length ac),l.length,atC l,3,1⟩::Gt) Kk W) (l.length - 0) ([(0,_),(1,_),(20,_),(21,_),(22,_)]) ⟨rfl,rfl,rfl,rfl,rfl,trivial⟩ (⟨0,u9,fx,_,[],K,Nat.zero_le _,rfl,rfl,(fun q hq=>hq),rfl,hV9,hS⟩) ?_)))))))))))))))));clear hS;rintro m lf W ⟨i,v9,f9s,x9s,l9,Kk,hi,rfl,rfl,hKk,hx9s,hV,hS⟩;refine aO (aQ (cT rfl rfl rfl (aP (XF.thenN (aO (bB rfl (fun hc=>?_) (fun hc=>?_)))))))
 ·have hc23:=of_decide_eq_true hc;clear hc;have hk:i < l.length:=by omega
  obtain ⟨y,hy⟩:∃ y,l[i]?=some y:=⟨l[i],List.getElem?_eq_getElem hk⟩;obtain ⟨xy,hxy,hxz⟩:=(hVA.ats y).1 (List.mem_of_getElem? hy);have hyn:y < n:=by have:=(List.getElem?_eq_some_iff.1 hxy).1;rw [hVA.xl] at this;exact this
  obtain ⟨fy,hfy⟩:∃ fy,fs[y]?=some fy:=⟨fs[y]'(by rw [hVA.fl];exact hyn),List.getElem?_eq_getElem _⟩;obtain ⟨b9,rfl,k9⟩:=jW (hS.row 1 rfl) (show (atC l)[i]?=some (.int .i64 (y:Int)) by rw [List.getElem?_map,hy];rfl);refine bP (XF.thenN (aO (bX (aO (aQ (cK  underlying26 sizeOf3 rfl rfl rfl (by omega) rfl rfl (aR isAgg3 rfl (k9) rfl (aB rfl rfl (aP (XF.thenN (aO ?_)))))))))));obtain ⟨Wf,hG,hH⟩:=hM;have hH4:=hH hS hKk;obtain ⟨v33,hlk,hrw⟩:=Grp.look hG M3 underlying106 zeroValue26 (k:=((y:Int),sym)) (M4 (Bw (Int.natCast_nonneg _) (by omega)) (xJ hsy.1 hsy.2)) Mz;obtain ⟨ra,rc,rfl,hrc⟩:=fC hrw;obtain ⟨rl,hrl⟩:∃ m,m=(Cu kSym a.ts ((y:Int),sym)).length:=⟨_,rfl⟩;rw [← hrl] at hlk hrw hrc;have hlk4:=hlk _ hH4.1;have hrl2:rl=(byT kSym a.ts 0 ((y:Int),sym)).length:=by rw [hrl,List.length_map]
  have hrl3:=wF kSym ((y:Int),sym) a.ts 0;refine aQ (aH rfl rfl (cQ rfl rfl (aN (o':=17) Bx rfl rfl rfl (aR isAgg106 rfl (aK (hS.at_ 0 rfl) rfl) rfl (aH rfl rfl (aH rfl rfl (dY (us:=[(0,.int .i64 _),(1,.int .i64 _)]) rfl (rU _ _) rfl (opV (Ef rfl rfl hlk4) rfl (cL underlying26 rfl rfl (aH rfl rfl (aP (XF.thenN (bX (eJ (fun m lf W=>∃ (j:Nat) (v7:Value) (f7:List WF) (x7:List PX) (l7:List Nat) (Kj:List (Nat×World)),j≤rl∧m=rl - j∧lf=[(0,.pointer (some ⟨RB,0,none⟩)),(1,.int .i64 sym),(5,.int .i64 (y:Int)),(20,.slice (some ⟨b9,0,none⟩) l.length ac),(21,.int .i64 (l.length:Int)),(22,.int .i64 (i:Int)),(33,.slice ra rl rc),(34,.int .i64 (rl:Int)),(35,.int .i64 (j:Int))]∧(∀ q∈K,q∈Kj)∧x7=mJ S bk py a.ts xy ((byT kSym a.ts 0 ((y:Int),sym)).take j) x9s∧VecOk S w0 Kj n f7 x7 l7∧St w0 ((RB,rdC f0 a bk bm VA VX,109)::(VX,gZ v7 n IX WX,116)::(IX,inC S x7,4)::(WX,wC f7,46)::(VA,gZ (.slice (some ⟨b9,0,none⟩) l.length ac) n IA WA,116)::(IA,inC S xs,4)::(WA,wC fs,46)::Ot) (⟨v7,l7.length,atC l7,3,1⟩::⟨(.slice (some ⟨b9,0,none⟩) l.length ac),l.length,atC l,3,1⟩::Gt) Kj W) (rl - 0) ([(0,_),(1,_),(5,_),(20,_),(21,_),(22,_),(33,_),(34,_),(35,_)]) ⟨rfl,rfl,rfl,rfl,rfl,rfl,rfl,rfl,rfl,trivial⟩ (⟨0,v9,f9s,x9s,l9,Kk,Nat.zero_le _,rfl,rfl,hKk,rfl,hV,hS⟩) ?_))))))))))))));clear hS;clear hV;rintro m lf W ⟨j,v7,f7,x7,l7,Kj,hj,rfl,rfl,hKj,hx7,hV,hS⟩;refine aO (aQ (cT rfl rfl rfl (aP (XF.thenN (aO (bB rfl (fun hc=>?_) (fun hc=>?_)))))))
  ·have hc36:=of_decide_eq_true hc;clear hc;have hkj:j < rl:=by omega
   obtain ⟨z,hz⟩:∃ z,(byT kSym a.ts 0 ((y:Int),sym))[j]?=some z:=⟨_,List.getElem?_eq_getElem (by omega)⟩;obtain ⟨tj,t9,hz1,ht9,hkt⟩:=sU.1 (List.mem_of_getElem? hz);rw [Nat.zero_add] at hz1;subst hz1;have hrwW:=dN hrw (fun p hp=>(hH hS hKj).2 p (hrw.lt p hp).1 (hrw.lt p hp).2);obtain ⟨b6,rfl,k6⟩:=jW hrwW (show (Cu kSym a.ts ((y:Int),sym))[j]?=some (.int .i64 (tj:Int)) by rw [List.getElem?_map,hz];rfl);have htj:=(List.getElem?_eq_some_iff.1 ht9).1;have hmt:=List.mem_of_getElem? ht9;obtain ⟨rf,rg,rt,tx⟩:=t9;obtain ⟨tN,htt,htN⟩:=lN (htq _ hmt);dsimp only at htt;subst htt;have hpt:=hpy _ hmt;obtain ⟨bt,ot,hta,hcs⟩:=htrow.at_ ht9;have kt:=aC.agree hS.agree (Nat.zero_le _) hcs;obtain ⟨f5,x5,hf5,hx5,hok5⟩:=hV.at_ htN;have hokx:OkX S (nQ S bk xy (py ⟨rf,rg,(tN:Int),tx⟩)):=Jt hok (hVA.ok xy (List.mem_of_getElem? hxy)) hpt.ok;refine bP (XF.thenN (aO (bX (aO (aQ (cK  underlying26 sizeOf3 rfl rfl rfl (by omega) rfl rfl (aR isAgg3 rfl (k6) rfl (aB rfl rfl (aP (XF.thenN (aO (aQ (aH rfl rfl (cQ rfl rfl (aN (o':=9) wE rfl rfl rfl (aN (o':=15) dB rfl rfl rfl (aR isAgg27 rfl (aK (hS.at_ 0 rfl) rfl) rfl (aH rfl rfl ?_))))))))))))))))));refine cK (j:=tj) (b:=bt) (o:=ot) (m:=a.tl) (c:=a.tc) underlying27 sizeOf48 (by show some (Value.slice a.ta a.tl a.tc)=_;rw [hta]) rfl rfl (by omega) rfl rfl ?_
   refine aT (vs:=[_,_,_,_,_,_,_,_,_]) isAgg48 sizeOf48 rfl (kt) rfl (bF (cs:=[_,_,_,_,_,_,_,_,_]) hS zeroValue48 rfl rfl fun B1 W1 hS=>aU (i:=0) (vs:=[_,_,_,_,_,_,_,_,_]) (cs':=[_,_,_,_,_,_,_,_,_]) (O':=(_::_::_::_::_::_::_::_::Ot)) hS sizeOf48 rfl rfl rfl rfl rfl rfl rfl fun W2 hS=>aP (XF.thenN (Vq (ef:=21) (jy:=21) (ca:=qN (fun _=>[])) (ta:=fun _=>0) (Os:=Gl _) (Gs:=rM _) (al:=[]) (k:=20) (ds:=[67]) cC rfl hS rfl (by kernel_rfl) (by kernel_rfl) rfl (by decide) rfl (fun _=>none) (.inr ⟨rfl,rfl,rfl⟩) rfl rfl (aX 1 rfl rfl (isV _) (fun hNo=>sgV [(0,_)] rfl rfl rfl rfl hNo (aS rfl) ⟨cJ rfl,trivial⟩ (fun ev w he hw=>aW rfl) (aF rfl)) (aX 2 rfl rfl (isV _) (fun hNo=>sgV [(0,_)] rfl rfl rfl rfl hNo (aS rfl) ⟨cJ rfl,trivial⟩ (fun ev w he hw=>aW rfl) (aF rfl)) (aX 3 rfl rfl (isV _) (fun hNo=>sgV [(48,_)] rfl rfl rfl rfl hNo (aS rfl) ⟨aM 1 (aA rfl rfl rfl),trivial⟩ (fun ev w he hw=>cU rfl) (aF rfl)) (aX 4 rfl rfl (isV _) (fun hNo=>sgV [(49,_)] rfl rfl rfl rfl hNo (aS rfl) ⟨aM 2 (aA rfl rfl rfl),trivial⟩ (fun ev w he hw=>aV (o':=19) rT rfl rfl) (aF rfl)) (aX 5 rfl rfl (isV _) (fun hNo=>sgV [(50,_)] rfl rfl rfl rfl hNo (aS rfl) ⟨aM 3 (aA rfl rfl rfl),trivial⟩ (fun ev w he hw=>bA isAgg107 rfl ((aK (hw.at_ 1 rfl) rfl))) (aF rfl)) (aX 6 rfl rfl (isV _) (fun hNo=>sgV [(8,_)] rfl rfl rfl rfl hNo (aS rfl) ⟨cJ rfl,trivial⟩ (fun ev w he hw=>aV (o':=2) iG rfl rfl) (aF rfl)) (aX 7 rfl rfl (isV _) (fun hNo=>sgV [(52,_)] rfl rfl rfl rfl hNo (aS rfl) ⟨aM 5 (aA rfl rfl rfl),trivial⟩ (fun ev w he hw=>bA isAgg3 rfl ((aK (hw.at_ 0 rfl) rfl))) (aF rfl)) (aX 8 rfl rfl (isV _) (fun hNo=>sgV [(0,_)] rfl rfl rfl rfl hNo (aS rfl) ⟨cJ rfl,trivial⟩ (fun ev w he hw=>aW rfl) (aF rfl)) (aX 9 rfl rfl (isV _) (fun hNo=>sgV [(0,_)] rfl rfl rfl rfl hNo (aS rfl) ⟨cJ rfl,trivial⟩ (fun ev w he hw=>aW rfl) (aF rfl)) (aX 10 rfl rfl (isV _) (fun hNo=>sgV [(55,_)] rfl rfl rfl rfl hNo (aS rfl) ⟨aM 8 (aA rfl rfl rfl),trivial⟩ (fun ev w he hw=>cU rfl) (aF rfl)) (aX 11 rfl rfl (isV _) (fun hNo=>sgV [(56,_)] rfl rfl rfl rfl hNo (aS rfl) ⟨aM 9 (aA rfl rfl rfl),trivial⟩ (fun ev w he hw=>aV (o':=18) kW rfl rfl) (aF rfl)) (aX 12 rfl rfl (isV _) (fun hNo=>sgV [(57,_)] rfl rfl rfl rfl hNo (aS rfl) ⟨aM 10 (aA rfl rfl rfl),trivial⟩ (fun ev w he hw=>bA isAgg107 rfl ((aK (hw.at_ 1 rfl) rfl))) (aF rfl)) (aX 13 rfl rfl (isV _) (fun hNo=>sgV [(58,_)] rfl rfl rfl rfl hNo (aS rfl) ⟨aM 11 (aA rfl rfl rfl),trivial⟩ (fun ev w he hw=>cU rfl) (aF rfl)) (aX 14 rfl rfl (isV _) (fun hNo=>sgV [(59,_)] rfl rfl rfl rfl hNo (aS rfl) ⟨aM 12 (aA rfl rfl rfl),trivial⟩ (fun ev w he hw=>aV (o':=2) nJ rfl rfl) (aF rfl)) (aX 15 rfl rfl (isV _) (fun hNo=>sgV [(60,_)] rfl rfl rfl rfl hNo (aS rfl) ⟨aM 13 (aA rfl rfl rfl),trivial⟩ (fun ev w he hw=>bA isAgg44 rfl ((aK (hw.at_ 5 rfl) rfl))) (aF rfl)) (aX 16 rfl rfl (isV _) (fun hNo=>sgV [(5,_)] rfl rfl rfl rfl hNo (aS rfl) ⟨cJ rfl,trivial⟩ (fun ev w he hw=>aW rfl) (aF rfl)) (aX 17 rfl rfl (isV _) (fun hNo=>sgV [(61,_),(62,_)] rfl rfl rfl rfl hNo (aS rfl) ⟨aM 14 (aA rfl rfl rfl),aM 15 (aA rfl rfl rfl),trivial⟩ (fun ev w he hw=>bE (j:=y) underlying44 sizeOf46 rfl rfl (rfl) (hyn) rfl) (aF rfl)) (aX 18 rfl rfl (isV _) (fun hNo=>sgV [(63,_)] rfl rfl rfl rfl hNo (aS rfl) ⟨aM 16 (aA rfl rfl rfl),trivial⟩ (fun ev w he hw=>aY (vs:=[_,_,_,_,_,_]) isAgg46 sizeOf46 rfl ((aC.own (j:=0+y * 6) (m:=6) (hw.at_ 7 rfl) (Jg hfy)))) (aF rfl)) (aX 19 rfl rfl (isV _) (fun hNo=>sgV [(8,_)] rfl rfl rfl rfl hNo (aS rfl) ⟨cJ rfl,trivial⟩ (fun ev w he hw=>aY (vs:=[_,_,_,_,_,_,_,_,_]) isAgg48 sizeOf48 rfl ((aC.own (j:=0) (m:=9) (hw.at_ 0 rfl) rfl))) (aF rfl)) ?_))))))))))))))))))))));refine aX 20 rfl rfl (dP W2.heap.size S (nQ S bk xy (py ⟨rf,rg,(tN:Int),tx⟩))) (fun hNo=>zA [isV _,isV _,isV _] rfl rfl rfl rfl hNo Po (aS rfl) ⟨bT (aM 7 (aA rfl rfl rfl)),bT (aM 17 (aA rfl rfl rfl)),bT (aM 18 (aA rfl rfl rfl)),trivial⟩ (fun vs ev w' he hSt hlo hh=>by
    have e:=bW (us:=[_,_,_]) hh;subst e;exact nG hlo (En S a f0 bk bm VA VX RB fy tx.f xy (py ⟨rf,rg,(tN:Int),tx⟩) rf rg (tN:Int) w' (hSt.at_ 1 rfl) (hsi.below hSt.below) hok (ht.below hSt.below) (hVA.held y fy xy hfy hxy hxz hSt (fun q hq=>hKj q hq)) (hpt.below hSt.below))) (aF rfl)) ?_
   refine mP ?_;intro Bf3 y3 W3 Ks3 hsz3 hKs3 hS' hcov3;clear hS;have hS:=hS'.castO (O':=(_::_::_::_::_::_::_::_::Ot)) rfl;clear hS';refine vU (L':=[AwS _ _ (isV _),AwS _ _ (isV _),AwS _ _ (isV _),AwS _ _ (isV _),AwS _ _ (isV _),AwS _ _ (isV _),AwS _ _ (isV _),AwS _ _ (isV _),AwS _ _ (isV _),AwS _ _ (isV _),AwS _ _ (isV _),AwS _ _ (isV _),AwS _ _ (isV _),AwS _ _ (isV _),AwS _ _ (isV _),AwS _ _ (isV _),AwS _ _ (isV _),AwS _ _ (isV _),AwS _ _ (isV _),AwS _ _ (dP W2.heap.size S (nQ S bk xy (py ⟨rf,rg,(tN:Int),tx⟩)))]) rfl (bQ (bQ (bQ (bQ (bQ (bQ (bQ (bQ (bQ (bQ (bQ (bQ (bQ (bQ (bQ (bQ (bQ (bQ (bQ ?_)))))))))))))))))));refine dF ?_;rintro vP h8p;obtain ⟨f9,rfl,hn9⟩:=h8p.here;have HX9:jC w0 (Ks3++Kj) (fun W2=>XIs W2 S f9 (nQ S bk xy (py ⟨rf,rg,(tN:Int),tx⟩))):=fun h2 hk=>(newS hn9 h8p (hcov3 h2 (fun q hq=>hk q (List.mem_append_left _ hq))) (Nat.le_refl _)).is
   obtain ⟨K8,hK8⟩:∃ x,x=Ks3++Kj:=⟨_,rfl⟩;have hK9:∀ q∈Kj,q∈K8:=fun q hq=>by rw [hK8];exact List.mem_append_right _ hq
   rw [← hK8] at HX9 hS;refine cM (fY (vs:=[_,_,_,_]) G3 rfl (Bt S a f0 bk bm VA VX RB VX IX WX n v7 f7 x7 l7 _ _ K8 K8 w0 tN f9 (nQ S bk xy (py ⟨rf,rg,(tN:Int),tx⟩)) x5 _ (hS.perm (Pp _ _ _ _ _ _)) (fun q hq=>hq) (hV.more hK9) hn htN hx5 hsi hok ht (H0.more (fun q hq=>hK9 q (hKj q hq))) HX9 hokx) rfl ?_);rintro e W9 ⟨u8,l8,fs8,Kw8,rfl,_,hV8,hl8,hS8⟩;obtain ⟨Kn8,hKn8⟩:∃ x,x=Kw8++K8:=⟨_,rfl⟩;rw [← hKn8] at hV8 hS8;have hsub8:∀ q∈K8,q∈Kn8:=fun q hq=>by rw [hKn8];exact List.mem_append_right _ hq
   refine ⟨_,rfl,?_⟩;clear hS;have hS:=hS8.perm (Pp _ _ _ _ _ _).symm;clear hS8;refine aP (XF.blkN (XF.thenN (aQ (cY rfl rfl (IntWalk.i64_in _ (by omega)) rfl (aH rfl rfl (aP ?_))))));exact XF.round (rl - (j+1)) [(0,_),(1,_),(5,_),(20,_),(21,_),(22,_),(33,_),(34,_),(35,_)] (by omega) ⟨rfl,rfl,rfl,rfl,rfl,rfl,rfl,rfl,rfl,trivial⟩ ⟨j+1,u8,fs8,_,l8,Kn8,by omega,rfl,rfl,(fun q hq=>hsub8 q (hK9 q (hKj q hq))),by rw [Sq hz ht9,← hx7,hop_at hx5],hV8,hS.tail⟩
  ·have hc36:=of_decide_eq_false hc;clear hc;rw [List.take_of_length_le (by omega)] at hx7;refine dT (XF.thenX (XF.thenX (XF.blkX (XF.blkN (XF.thenN (aQ (cY rfl rfl (IntWalk.i64_in _ (by omega)) rfl (aH rfl rfl (aP ?_)))))))));exact XF.round (l.length - (i+1)) [(0,_),(1,_),(20,_),(21,_),(22,_)] (by omega) ⟨rfl,rfl,rfl,rfl,rfl,trivial⟩ ⟨i+1,v7,f7,x7,l7,Kj,by omega,rfl,rfl,hKj,by rw [Sr hy hxy,← hx9s];exact hx7,hV,hS⟩
 ·have hc23:=of_decide_eq_false hc;clear hc;rw [List.take_of_length_le (by omega)] at hx9s;subst hx9s;refine dT (XF.thenX (XF.thenX (XF.blkX (XF.thenN (Vq (ef:=12) (jy:=16) (ca:=qN (fun _=>[])) (ta:=fun _=>0) (Os:=Gm _ 0 18 RB (rdC f0 a bk bm VA VX) ([.pointer (some ⟨VX,0,none⟩)]) 109) (Gs:=rM _) (al:=[]) (k:=13) (ds:=[82,83]) cC rfl hS rfl (by kernel_rfl) (by kernel_rfl) rfl (by decide) rfl (some) (.inl ⟨rfl,rfl⟩) rfl rfl (aX 1 rfl rfl (isV _) (fun hNo=>sgV [(0,_)] rfl rfl rfl rfl hNo (aS rfl) ⟨cJ rfl,trivial⟩ (fun ev w he hw=>aW rfl) (aF rfl)) (aX 2 rfl rfl (isV _) (fun hNo=>sgV [(0,_)] rfl rfl rfl rfl hNo (aS rfl) ⟨cJ rfl,trivial⟩ (fun ev w he hw=>aW rfl) (aF rfl)) (aX 3 rfl rfl (isV _) (fun hNo=>sgV [(0,_)] rfl rfl rfl rfl hNo (aS rfl) ⟨cJ rfl,trivial⟩ (fun ev w he hw=>aW rfl) (aF rfl)) (aX 4 rfl rfl (isV _) (fun hNo=>sgV [(72,_)] rfl rfl rfl rfl hNo (aS rfl) ⟨aM 2 (aA rfl rfl rfl),trivial⟩ (fun ev w he hw=>cU rfl) (aF rfl)) (aX 5 rfl rfl (isV _) (fun hNo=>sgV [(73,_)] rfl rfl rfl rfl hNo (aS rfl) ⟨aM 3 (aA rfl rfl rfl),trivial⟩ (fun ev w he hw=>aV (o':=19) rT rfl rfl) (aF rfl)) (aX 6 rfl rfl (isV _) (fun hNo=>sgV [(74,_)] rfl rfl rfl rfl hNo (aS rfl) ⟨aM 4 (aA rfl rfl rfl),trivial⟩ (fun ev w he hw=>bA isAgg107 rfl ((aK (hw.at_ 0 (Js (he rfl) rfl)) rfl))) (aF rfl)) (aX 7 rfl rfl (isV _) (fun hNo=>sgV [(0,_)] rfl rfl rfl rfl hNo (aS rfl) ⟨cJ rfl,trivial⟩ (fun ev w he hw=>aW rfl) (aF rfl)) (aX 8 rfl rfl (isV _) (fun hNo=>sgV [(76,_)] rfl rfl rfl rfl hNo (aS rfl) ⟨aM 6 (aA rfl rfl rfl),trivial⟩ (fun ev w he hw=>cU rfl) (aF rfl)) (aX 9 rfl rfl (isV _) (fun hNo=>sgV [(77,_)] rfl rfl rfl rfl hNo (aS rfl) ⟨aM 7 (aA rfl rfl rfl),trivial⟩ (fun ev w he hw=>aV (o':=18) kW rfl rfl) (aF rfl)) (aX 10 rfl rfl (isV _) (fun hNo=>sgV [(78,_)] rfl rfl rfl rfl hNo (aS rfl) ⟨aM 8 (aA rfl rfl rfl),trivial⟩ (fun ev w he hw=>bA isAgg107 rfl ((aK (hw.at_ 0 (Js (he rfl) rfl)) rfl))) (aF rfl)) (aX 11 rfl rfl (isV _) (fun hNo=>sgV [(70,_)] rfl rfl rfl rfl hNo (aS rfl) ⟨aM 0 (aA rfl rfl rfl),trivial⟩ (fun ev w he hw=>cU rfl) (aF rfl)) (aX 12 rfl rfl (isV _) (fun hNo=>sgV [(80,_)] rfl rfl rfl rfl hNo (aS rfl) ⟨aM 10 (aA rfl rfl rfl),trivial⟩ (fun ev w he hw=>aV (o':=18) kW rfl rfl) (aF rfl)) ?_)))))))))))))))));refine nX 13 rfl (eff_stO (m:=1) 0 18 [(81,_),(75,_)] rfl rfl rfl rfl (fun j hj=>by rcases hj with h | rfl<;>first | (cases h<;>rfl) | rfl) ⟨aM 11 (aA rfl rfl rfl),aM 5 (aA rfl rfl rfl),trivial⟩ rfl rfl rfl sizeOf107 rfl rfl rfl rfl) ?_;refine mP ?_;intro Bf4 y4 W4 Ks4 hsz4 hKs4 hS' hcov4;clear hS;have hS:=hS'.castO (O':=(_::_::_::_::_::_::_::Ot)) rfl;clear hS';refine vU (L':=[AwS _ _ (isV _),AwS _ _ (isV _),AwS _ _ (isV _),AwS _ _ (isV _),AwS _ _ (isV _),AwS _ _ (isV _),AwS _ _ (isV _),AwS _ _ (isV _),AwS _ _ (isV _),AwS _ _ (isV _),AwS _ _ (isV _),AwS _ _ (isV _),isV _]) rfl (bQ (bQ (bQ (bQ (bQ (bQ (bQ (bQ (bQ (bQ (bQ (bQ (Ed (cM (cQ rfl rfl (aN (o':=19) rT rfl rfl rfl (dK (i:=0) (cs':=[_,_,_,_,_,_,_,_,_,_,_,_,_,_,_,_,_,_,_,_]) (O':=(_::_::_::_::_::_::_::Ot)) hS sizeOf107 rfl rfl (by first | rfl | exact (hS.oneV 0 _ rfl :) | exact (hS.oneV 1 _ rfl :) | exact (hS.oneV 2 _ rfl :) | exact (hS.oneV 3 _ rfl :)) rfl rfl rfl rfl fun W5 hS=>aP (XF.resN (Rf results45) ?_))))))))))))))))));have hS9:=hS.castO (O':=(RB,rdC f0 a bk bm VX VA,109)::(VX,gZ v9 n IX WX,116)::(IX,inC S (kX S bk py a.ts xs sym l (List.replicate n (bU S))),4)::(WX,wC f9s,46)::(VA,gZ _ n IA WA,116)::(IA,inC S xs,4)::(WA,wC fs,46)::Ot) rfl;refine ⟨v9,_,l9,f9s,_,rfl,?_,?_,hS9⟩
  ·exact fun q hq=>by simp [hKk q hq]
  ·exact hV.more (fun q hq=>by simp [hq])
def LeX (S:PS) (x z:PX):Prop:=cD S z x=z
def iJ (S:PS) (b:Bool) (x y:PX):PX:=if b then kZ S y x else kZ S x y
section
variable {S:PS} {b:Bool} {x y z u:PX}
theorem By (h:S.ok) (hx:OkX S x):LeX S x x:=pT h hx
theorem wI (hx:OkX S x):LeX S (bU S) x:=kO hx
theorem gN (h:S.ok) (hx:OkX S x) (hy:OkX S y) (hz:OkX S z) (h1:LeX S x y) (h2:LeX S y z):LeX S x z:=by unfold LeX at *;rw [← h2,jU h hz hy hx,h1]
theorem Wj (h:S.ok) (hx:OkX S x) (hy:OkX S y) (h1:LeX S x y) (h2:LeX S y x):x=y:=by unfold LeX at *;rw [← h1,Ar h hy hx,h2]
theorem Bz (h:S.ok) (hx:OkX S x) (hy:OkX S y):LeX S x (cD S y x):=by unfold LeX;rw [jU h hy hx hx,pT h hx]
theorem sV (h:S.ok) (hx:OkX S x) (hy:OkX S y):LeX S y (cD S y x):=by unfold LeX;rw [Ar h hy hx,jU h hx hy hy,pT h hy]
theorem Wk (h:S.ok) (hx:OkX S x) (hy:OkX S y) (hz:OkX S z) (h1:LeX S x z) (h2:LeX S y z):LeX S (cD S x y) z:=by unfold LeX at *;rw [← jU h hz hx hy,h1,h2]
theorem iI (h:S.ok) (hx:OkX S x) (hy:OkX S y):OkX S (iJ S b x y):=by
 unfold iJ;split
 ·exact yY h hy hx
 ·exact yY h hx hy
theorem oneD (h:S.ok) (hx:OkX S x):iJ S b (oW S) x=x:=by
 unfold iJ;cases b
 ·exact Vb h hx
 ·exact Vc h hx
theorem Wl (hx:OkX S x):iJ S b (bU S) x=bU S:=by
 unfold iJ;cases b
 ·exact Rl hx
 ·exact Rm hx
theorem Ca (h:S.ok) (hx:OkX S x) (hy:OkX S y) (hz:OkX S z):iJ S b (cD S x y) z=cD S (iJ S b x z) (iJ S b y z):=by
 unfold iJ;cases b
 ·exact Ro h hx hy hz
 ·exact Rn h hz hx hy
theorem qG (h:S.ok) (hx:OkX S x) (hy:OkX S y) (hz:OkX S z) (h1:LeX S x y):LeX S (iJ S b x z) (iJ S b y z):=by unfold LeX at *;rw [← Ca h hy hx hz,h1]
end
inductive Fs (S:PS) (A:PX→Prop):PX→Prop
 | zero:Fs S A (bU S)
 | add {z x:PX}:Fs S A z→A x→Fs S A (cD S z x)
section
variable {S:PS} {b:Bool} {A A':PX→Prop} {x y z:PX}
theorem Fs.ok (h:S.ok) (hA:∀ x,A x→OkX S x) (hz:Fs S A z):OkX S z:=by
 induction hz with
 | zero=>exact nC
 | add _ h1 ih=>exact kN h ih (hA _ h1)
theorem Fs.mono (hA:∀ x,A x→A' x) (hz:Fs S A z):Fs S A' z:=by
 induction hz with
 | zero=>exact .zero
 | add _ h1 ih=>exact .add ih (hA _ h1)
theorem Fs.one (hx:A x) (ho:OkX S x):Fs S A x:=by have h:=Fs.add (S:=S) .zero hx;rw [lJ ho] at h;exact h
theorem Fs.plus (h:S.ok) (hA:∀ x,A x→OkX S x) (hy:Fs S A y) (hz:Fs S A z):Fs S A (cD S y z):=by
 have hyo:=hy.ok h hA
 induction hz with
 | zero=>rw [kO hyo];exact hy
 | add h0 h1 ih =>
  rw [← jU h hyo (Fs.ok h hA h0) (hA _ h1)];exact .add ih h1
theorem Fs.extL (h:S.ok) (hA:∀ x,A x→OkX S x) (hy:OkX S y) (hz:Fs S A z) (hA':∀ x,A x→A' (iJ S b x y)):Fs S A' (iJ S b z y):=by
 induction hz with
 | zero=>rw [Wl hy];exact .zero
 | add h0 h1 ih =>
  rw [Ca h (Fs.ok h hA h0) (hA _ h1) hy];exact .add ih (hA' _ h1)
theorem Fs.le (h:S.ok) (hA:∀ x,A x→OkX S x) (hy:OkX S y) (hz:Fs S A z) (hl:∀ x,A x→LeX S x y):LeX S z y:=by
 induction hz with
 | zero=>exact wI hy
 | add h0 h1 ih=>exact Wk h (Fs.ok h hA h0) (hA _ h1) hy ih (hl _ h1)
end
structure LubX (S:PS) (A:PX→Prop) (z:PX):Prop where
 sum:Fs S A z
 top:∀ x,A x→LeX S x z
section
variable {S:PS} {A A':PX→Prop} {z z':PX}
theorem LubX.uniq (h:S.ok) (hA:∀ x,A x→OkX S x) (h1:LubX S A z) (h2:LubX S A z'):z=z' :=
 Wj h (h1.sum.ok h hA) (h2.sum.ok h hA) (h1.sum.le h hA (h2.sum.ok h hA) h2.top) (h2.sum.le h hA (h1.sum.ok h hA) h1.top)
theorem LubX.none (hA:∀ x,¬ A x):LubX S A (bU S):=⟨.zero,fun x hx=>absurd hx (hA x)⟩
end
structure Eg where
 f:Nat
 g:Int
 t:Nat
 y:PX
inductive Pth (S:PS) (b:Bool) (E:List Eg) (p:Nat):List Int→Nat→PX→Prop
 | nil:Pth S b E p [] p (oW S)
 | eps {u:List Int} {q:Nat} {x:PX} {e:Eg}:Pth S b E p u q x→e∈E→e.f=q→e.g = -1→Pth S b E p u e.t (iJ S b x e.y)
 | sym {u:List Int} {q:Nat} {x:PX} {e:Eg}:Pth S b E p u q x→e∈E→e.f=q→e.g ≠ -1→Pth S b E p (u++[e.g]) e.t (iJ S b x e.y)
section
variable {S:PS} {b:Bool} {E E':List Eg} {p q:Nat} {u v:List Int} {x y:PX}
theorem Pth.ok (h:S.ok) (hE:∀ e∈E,OkX S e.y) (hp:Pth S b E p u q x):OkX S x:=by
 induction hp with
 | nil=>exact pS h
 | eps _ h1 _ _ ih=>exact iI h ih (hE _ h1)
 | sym _ h1 _ _ ih=>exact iI h ih (hE _ h1)
end
def M6 (S:PS) (b:Bool) (E:List Eg) (F:List Nat) (p:Nat) (u:List Int) (x:PX):Prop:=∃ q∈F,Pth S b E p u q x
theorem M7 {S:PS} {b:Bool} {E:List Eg} {F:List Nat} {p:Nat} {u:List Int} (h:S.ok) (hE:∀ e∈E,OkX S e.y):∀ x,M6 S b E F p u x→OkX S x:=fun x ⟨q,_,hp⟩=>hp.ok h hE
abbrev AtX (xs:List PX) (s:Nat) (x:PX):Prop:=xs[s]?=some x
structure Full (S:PS) (b:Bool) (E:List Eg) (p:Nat) (u:List Int) (xs:List PX):Prop where
 sum:∀ s x,AtX xs s x→Fs S (Pth S b E p u s) x
 top:∀ s x y,AtX xs s x→Pth S b E p u s y→LeX S y x
structure Eps (S:PS) (b:Bool) (E:List Eg) (xs ys:List PX):Prop where
 len:ys.length=xs.length
 up:∀ s x y,AtX xs s x→AtX ys s y→LeX S x y
 sum:∀ A:Nat→PX→Prop,(∀ s x,A s x→OkX S x)→(∀ e∈E,e.g = -1→∀ x,A e.f x→A e.t (iJ S b x e.y))→(∀ s x,AtX xs s x→Fs S (A s) x)→∀ s y,AtX ys s y→Fs S (A s) y
def xK (S:PS) (b:Bool) (E:List Eg) (ys:List PX):Prop:=∀ e∈E,e.g = -1→∀ x y,AtX ys e.f x→AtX ys e.t y→LeX S (iJ S b x e.y) y
section
variable {S:PS} {b:Bool} {E:List Eg} {p n:Nat} {u:List Int} {xs ys zs:List PX}
theorem Eps.refl (h:S.ok) (hx:∀ x∈xs,OkX S x):Eps S b E xs xs:=⟨rfl,fun s x y h1 h2=>by unfold AtX at h1 h2;rw [h1] at h2;cases h2;exact By h (hx x (List.mem_of_getElem? h1)),fun A _ _ h3=>h3⟩
theorem Eps.step (h:S.ok) (hx:∀ x∈xs,OkX S x) (hy:∀ x∈ys,OkX S x) (hE:∀ e∈E,OkX S e.y) (h1:Eps S b E xs ys) {e:Eg} (he:e∈E) (hg:e.g = -1) {x y:PX} (hxf:AtX ys e.f x) (hyt:AtX ys e.t y):Eps S b E xs (ys.set e.t (cD S y (iJ S b x e.y))):=by
 have hxo:=hy x (List.mem_of_getElem? hxf);have hyo:=hy y (List.mem_of_getElem? hyt);have hlt:=(List.getElem?_eq_some_iff.1 hyt).1;have hzo:=iI (b:=b) h hxo (hE e he);refine ⟨by rw [List.length_set];exact h1.len,fun s v z hv hz=>?_,fun A hA hc hs s z hz=>?_⟩
 ·rcases Nat.decEq s e.t with e1 | e1
  ·rw [AtX,List.getElem?_set_ne (Ne.symm e1)] at hz;exact h1.up s v z hv hz
  ·subst e1;rw [AtX,List.getElem?_set_self hlt] at hz;cases hz;have h2:=h1.up _ v y hv hyt;exact gN h (hx v (List.mem_of_getElem? hv)) hyo (kN h hyo hzo) h2 (sV h hzo hyo)
 ·rcases Nat.decEq s e.t with e1 | e1
  ·rw [AtX,List.getElem?_set_ne (Ne.symm e1)] at hz;exact h1.sum A hA hc hs s z hz
  ·subst e1;rw [AtX,List.getElem?_set_self hlt] at hz;cases hz;exact Fs.plus h (hA _) (h1.sum A hA hc hs _ y hyt) (Fs.extL h (hA _) (hE e he) (h1.sum A hA hc hs _ x hxf) (fun v hv=>hc e he hg v hv))
theorem Pq (h:S.ok) (hE:∀ e∈E,OkX S e.y) (hyo:∀ x∈ys,OkX S x) (hn:ys.length=n) (hb:∀ e∈E,e.f < n∧e.t < n) (hc:xK S b E ys) (hs:∀ s x,AtX ys s x→Fs S (Pth S b E p u s) x)
  (hnil:u=[]→∀ x,AtX ys p x→LeX S (oW S) x) (hsym:∀ v q x (e:Eg),e∈E→e.f=q→e.g ≠ -1→u=v++[e.g]→Pth S b E p v q x→∀ z,AtX ys e.t z→LeX S (iJ S b x e.y) z):Full S b E p u ys:=by
 refine ⟨hs,fun s x y hx hp=>?_⟩;have key:∀ {v q y},Pth S b E p v q y→v=u→∀ x,AtX ys q x→LeX S y x:=by
  intro v q y hp
  induction hp with
  | nil=>intro hv x hx;exact hnil hv.symm x hx
  | @eps v q y e h0 h1 h2 h3 ih =>
   intro hv x hx;subst hv;have hlt:e.f < ys.length:=by rw [hn];exact (hb e h1).1
   have hxf:AtX ys e.f ys[e.f]:=List.getElem?_eq_getElem hlt;have h4:=ih rfl ys[e.f] (by unfold AtX;rw [← h2];exact hxf);have ho:=hyo _ (List.getElem_mem hlt);exact gN h (iI h (h0.ok h hE) (hE e h1)) (iI h ho (hE e h1)) (hyo x (List.mem_of_getElem? hx)) (qG h (h0.ok h hE) ho (hE e h1) h4) (hc e h1 h3 _ x hxf hx)
  | @sym v q y e h0 h1 h2 h3 ih =>
   intro hv x hx;exact hsym v q y e h1 h2 h3 hv.symm h0 x hx
 exact key hp rfl x hx
end
def Wt (S:PS) (b:Bool) (E:List Eg) (ys:List PX) (ws:List Nat) (dn:Eg→Prop):Prop:=∀ e∈E,e.g = -1→e.f∉ws→dn e→∀ x y,AtX ys e.f x→AtX ys e.t y→LeX S (iJ S b x e.y) y
section
variable {S:PS} {b:Bool} {E:List Eg} {ys:List PX} {ws ws':List Nat} {dn dn':Eg→Prop}
theorem Wt.start (hy:∀ x∈ys,OkX S x) (hE:∀ e∈E,OkX S e.y) (hw:∀ i x,AtX ys i x→i∉ws→x=bU S):Wt S b E ys ws (fun _=>True):=fun e he _ hf _ x y hx hz=>by rw [hw _ _ hx hf,Wl (hE e he)];exact wI (hy y (List.mem_of_getElem? hz))
theorem Wt.weaken (h:Wt S b E ys ws dn) (hd:∀ e,e.f∉ws'→dn' e→e.f∉ws∧dn e):Wt S b E ys ws' dn':=fun e he hg hf hd'=>h e he hg (hd e hf hd').1 (hd e hf hd').2
theorem Wt.closed (h:Wt S b E ys [] (fun _=>True)):xK S b E ys:=fun e he hg=>h e he hg (by simp) trivial
theorem set_atX {x:PX} {s:Nat} (h:AtX ys s x):ys.set s x=ys:=by
 apply List.ext_getElem?;intro i;rcases Nat.decEq i s with e | rfl
 ·rw [List.getElem?_set_ne (Ne.symm e)]
 ·rw [List.getElem?_set_self (List.getElem?_eq_some_iff.1 h).1];exact h.symm
theorem Wt.put (hS:S.ok) (hy:∀ x∈ys,OkX S x) (hE:∀ e∈E,OkX S e.y) (h:Wt S b E ys ws dn) {e:Eg} (he:e∈E) {x y:PX} (hx:AtX ys e.f x) (hyt:AtX ys e.t y) (hws:∀ i∈ws,i∈ws') (hin:cD S y (iJ S b x e.y)≠y→e.t∈ws') :
  Wt S b E (ys.set e.t (cD S y (iJ S b x e.y))) ws' (fun e'=>dn e'∨e'=e):=fun e' he' hg hf hd x' y' hx' hy'=>by
 have hxo:=hy x (List.mem_of_getElem? hx);have hyo:=hy y (List.mem_of_getElem? hyt);have hzo:=iI (b:=b) hS hxo (hE e he);have hlt:=(List.getElem?_eq_some_iff.1 hyt).1;have hf0:e'.f∉ws:=fun h1=>hf (hws _ h1)
 by_cases c:cD S y (iJ S b x e.y)=y
 ·rw [c,set_atX hyt] at hx' hy';rcases hd with hd | rfl
  ·exact h e' he' hg hf0 hd x' y' hx' hy'
  ·unfold AtX at hx hyt hx' hy';rw [hx] at hx';rw [hyt] at hy';cases hx';cases hy';exact c
 ·have hne:e'.f≠e.t:=fun h1=>hf (by rw [h1];exact hin c)
  unfold AtX at hx';rw [List.getElem?_set_ne (Ne.symm hne)] at hx';rcases hd with hd | rfl
  ·rcases Nat.decEq e'.t e.t with e1 | e1
   ·unfold AtX at hy';rw [List.getElem?_set_ne (Ne.symm e1)] at hy';exact h e' he' hg hf0 hd x' y' hx' hy'
   ·unfold AtX at hy';rw [e1,List.getElem?_set_self hlt] at hy';cases hy';exact gN hS (iI hS (hy x' (List.mem_of_getElem? hx')) (hE e' he')) hyo (kN hS hyo hzo) (h e' he' hg hf0 hd x' y hx' (by rw [e1];exact hyt)) (sV hS hzo hyo)
  ·unfold AtX at hx hy';rw [hx] at hx';cases hx';rw [List.getElem?_set_self hlt] at hy';cases hy';exact Bz hS hzo hyo
end
def pG (S:PS) (ys:List PX):Nat:=(ys.map (fun x=>(Iv S).toNat - rkX S x)).sum
theorem Ju {S:PS} (hS:S.ok) {x y:PX} (hx:OkX S x) (hy:OkX S y) (hne:cD S x y≠x):∀ {ys:List PX} {s:Nat},ys[s]?=some x→pG S (ys.set s (cD S x y)) < pG S ys
 | [],s,h=>by simp at h
 | z::ys,0,h=>by
  simp at h;subst h;have h1:=(rkX_up hS hx hy).resolve_left hne;have h2:=rkX_le hS (kN hS hx hy);simp only [pG,List.set_cons_zero,List.map_cons,List.sum_cons];omega
 | z::ys,s+1,h=>by have ih:=Ju hS hx hy hne (ys:=ys) (s:=s) (by simpa using h);simp only [pG,List.set_cons_succ,List.map_cons,List.sum_cons] at ih ⊢;omega
theorem Pr {S:PS}:∀ (ys:List PX),pG S ys≤ys.length * (Iv S).toNat
 | []=>by simp [pG]
 | z::ys=>by have ih:=Pr (S:=S) ys;simp only [pG,List.map_cons,List.sum_cons,List.length_cons,Nat.succ_mul] at ih ⊢;omega
end
section
open Go.RowKit
open Go.Maps
theorem St.setMap {w0 W W':World} {O:Own} {G:cV} {K:List (Nat×World)} {b:Nat} (h:St w0 O G K W) (hm:W.mapTurned W' b) (hwb:w0.heap.size≤b) (hK:∀ q∈K,b < q.1∨q.2.heap.size≤b):St w0 O G K W':=by
 have hg:=hm.grown;obtain ⟨es,clock,_,_,hb,_⟩:=hm;have ne:∀ (k:Nat) (cs:Array Value) (T:TypeId),W.heap[k]?=some (.cells cs T (0,0))→k≠b:=fun k cs T hk e=>by subst e;rw [hb] at hk;cases hk
 have blk:∀ k,k < W.heap.size→k≠b→W'.heap[k]?=W.heap[k]?:=fun k hk hne=>hg.block _ hk (fun e=>hne (Option.some.inj e))
 refine ⟨h.below.grown hg h.below.size (fun k hk=>by cases hk;exact hwb),fun p hp=>?_,h.dist,fun q hq=>⟨⟨Nat.le_trans (h.kept q hq).1.1 hg.size,fun k h1 h2=>?_⟩,(h.kept q hq).2⟩,fun g hg'=>⟨dN (h.rows g hg').1 fun k hk=>?_,(h.rows g hg').2⟩,h.gdist⟩
 ·obtain ⟨h1,h2⟩:=h.own p hp;exact ⟨h1,(blk _ (cA h2) (ne _ _ _ h2)).trans h2⟩
 ·refine (blk k (Nat.lt_of_lt_of_le h2 (h.kept q hq).1.1) ?_).trans ((h.kept q hq).1.2 k h1 h2);rcases hK q hq with h3 | h3<;>omega
 ·exact blk k (((h.rows g hg').1.lt k hk).2) (mA (h.rows g hg').1 hb hk)
section
variable {n:Nat} {ops:Array Oper} {Q:Exit→Act→World→Prop} {l:Fr} {w0 W:World} {O:Own} {G:cV} {K:List (Nat×World)} {os:List Oper} {d b m:Nat} {ty:TypeId} {pos:String} {aft:Array Edge} {x y z:Operand} {ks:List (Int×List Int)} {k:Int×List Int}
end
theorem St.permG {w0 W:World} {O:Own} {G G':cV} {K:List (Nat×World)} (h:St w0 O G K W) (hp:G.Perm G'):St w0 O G' K W where
 below:=h.below
 own:=h.own
 dist:=h.dist
 kept:=h.kept
 rows:=fun g hg=>h.rows g (hp.mem_iff.2 hg)
 gdist:=(hp.pairwise_iff (fun {x y} (h:Value.apart x.v y.v) b hb hc=>h b hc hb)).1 h.gdist
theorem wJ:Go.Maps.Keyed prog 3:=int_keyed underlying3
theorem G4 {x:Nat} (h:x≤1000000):keyOf prog 3 (.int .i64 (x:Int))=some (.int .i64 (x:Int)):=by refine keyOf_int_mk underlying3 ?_;have e1:IntKind.i64.min = -9223372036854775808:=rfl;have e2:IntKind.i64.max=9223372036854775807:=rfl;simp [Lit.wf];omega
def jE (b n:Nat) (ks:List Nat) (W:World):Prop:=∃ D:DataW Unit,W.ownsMap prog 3 unitElem b n D∧∀ x:Nat,x≤1000000→Maps.has D (.int .i64 (x:Int))=decide (x∈ks)
theorem jE.same {b n:Nat} {ks:List Nat} {W W':World} (h:jE b n ks W) (he:b < W.heap.size→W'.heap[b]?=W.heap[b]?):jE b n ks W':=by obtain ⟨D,⟨es,clock,h1,h2⟩,h3⟩:=h;exact ⟨D,⟨es,clock,(he (cA h1)).trans h1,h2⟩,h3⟩
theorem jE.lt {b n:Nat} {ks:List Nat} {W:World} (h:jE b n ks W):b < W.heap.size:=by obtain ⟨D,⟨es,clock,h1,h2⟩,h3⟩:=h;exact cA h1
theorem jE.fresh (W:World):jE W.heap.size 0 [] (W.alloc (.map #[] 0)) :=
 ⟨.map [],World.ownsMap_made W _ _ _,fun x _=>by simp [Maps.has,DataW.atKey]⟩
theorem jE.made {W:World} {b:Nat} (hb:W.heap[b]?=some (.map #[] 0)):jE b 0 [] W:=by
 obtain ⟨D,⟨es,clock,h1,h2⟩,h3⟩:=jE.fresh W;have h4:=(heap_alloc_new W (.map #[] 0)).symm.trans h1;injection h4 with h4
 injection h4 with h5 h6
 subst h5;subst h6;exact ⟨D,⟨_,_,hb,h2⟩,h3⟩
theorem jE.look {b n:Nat} {ks:List Nat} {W:World} (h:jE b n ks W) {x:Nat} (hx:x≤1000000) (hz:∀ w,(zeroValue 119).run prog w = .ok (.agg #[]) w):(Instr.lookup 118 (.map (some b)) (.int .i64 (x:Int)) true).run prog W = .ok (.tuple #[.agg #[],.bool (decide (x∈ks))]) W:=by obtain ⟨D,h1,h2⟩:=h;obtain ⟨v,ps,h3,h4⟩:=h1.look_ok wJ underlying118 (hz W) unitElem_mk (G4 hx);obtain ⟨rfl,_⟩:=unitElem_inv h4;rw [h3,h2 x hx]
theorem Wm {x y:Nat} (h:y≠x):(Lit.int .i64 (y:Int))≠.int .i64 (x:Int):=fun e=>by
 injection e with e1 e2
 exact h (Int.ofNat.inj e2)
theorem jE.put {b n:Nat} {ks:List Nat} {W:World} (h:jE b n ks W) {x:Nat} (hx:x≤1000000) (hn:n < maxLen):∃ w',(Instr.mapUpdate 118 (.map (some b)) (.int .i64 (x:Int)) (.agg #[])).run prog W = .ok () w'∧jE b (n+1) (x::ks) w'∧W.mapTurned w' b:=by
 obtain ⟨D,h1,h2⟩:=h;obtain ⟨w',h3,h4,h5⟩:=h1.store wJ underlying118 hn (G4 hx) unitElem_mk;refine ⟨w',h3,⟨_,h4,fun y hy=>?_⟩,h5⟩;by_cases e:y=x
 ·subst e;rw [has_put_same h1.isMap (wJ.key (G4 hy))];simp
 ·rw [has_put_other (Wm e),h2 y hy];simp [e]
theorem jE.drop {b n:Nat} {ks:List Nat} {W:World} (h:jE b n ks W) {x:Nat} (hx:x≤1000000) (ty:TypeId):∃ w',(Builtin.delete_ #[118,3] ty #[.map (some b),.int .i64 (x:Int)]).run prog W = .ok (.tuple #[]) w'∧jE b n (ks.filter (· ≠ x)) w'∧W.mapTurned w' b:=by
 obtain ⟨D,h1,h2⟩:=h;obtain ⟨w',h3,h4,h5⟩:=h1.drop wJ underlying118 (G4 hx) ty;refine ⟨w',h3,⟨_,h4,fun y hy=>?_⟩,h5⟩;by_cases e:y=x
 ·subst e;rw [has_del_same];simp
 ·rw [has_del_other (Wm e),h2 y hy];simp [e]
section
variable {n:Nat} {ops:Array Oper} {Q:Exit→Act→World→Prop} {l:Fr} {w0 W:World} {O:Own} {G:cV} {K:List (Nat×World)} {os:List Oper} {d b m:Nat} {ty:TypeId} {pos:String} {aft:Array Edge} {x y z:Operand} {ks:List Nat} {k:Nat}
theorem Jv (hM:jE b m ks W) (hk:k≤1000000) (hz:∀ w,(zeroValue 119).run prog w = .ok (.agg #[]) w) (hx:evL l x=some (.map (some b))) (hy:evL l y=some (.int .i64 (k:Int))) (hd:Nat.blt d n=true)
  (h:cO prog n ops Q os ((d,.tuple #[.agg #[],.bool (decide (k∈ks))])::l) W):cO prog n ops Q (⟨some d,.lookup 118 x y true,ty,pos,aft,none⟩::os) l W :=
 opV (fun ev he=>by
  unfold execOp;simp only [];rw [he x _ hx,he y _ hy];simp [hM.look hk hz,Result.andThen]) hd h
theorem Cb (hS:St w0 O G K W) (hM:jE b m ks W) (hk:k≤1000000) (hm:m < maxLen) (hwb:w0.heap.size≤b) (hK:∀ q∈K,b < q.1∨q.2.heap.size≤b) (hx:evL l x=some (.map (some b))) (hy:evL l y=some (.int .i64 (k:Int))) (hz:evL l z=some (.agg #[]))
  (h:∀ W',St w0 O G K W'→jE b (m+1) (k::ks) W'→cO prog n ops Q os l W'):cO prog n ops Q (⟨none,.mapUpdate 118 x y z,ty,pos,aft,none⟩::os) l W:=fun a ha=>by
 obtain ⟨W',h1,h2,h3⟩:=hM.put hk hm;refine wpList_plain rfl fun K' hK'=>?_
 unfold Oper.wp execOp;simp only [];rw [ha.ev x _ hx,ha.ev y _ hy,ha.ev z _ hz];simp only [Sem.run_bind,h1,Result.andThen_ok,Sem.run_pure,Oper.upon_skip];exact hK' _ _ (h W' (hS.setMap h3 hwb hK) h2 a ha)
theorem Jw (hS:St w0 O G K W) (hM:jE b m ks W) (hk:k≤1000000) (hwb:w0.heap.size≤b) (hK:∀ q∈K,b < q.1∨q.2.heap.size≤b) (hx:evL l x=some (.map (some b))) (hy:evL l y=some (.int .i64 (k:Int)))
  (h:∀ W',St w0 O G K W'→jE b m (ks.filter (· ≠ k)) W'→cO prog n ops Q os l W'):cO prog n ops Q (⟨none,.call { callee:=.builtin .delete,args:=#[x,y],argTypes:=#[118,3] },ty,pos,aft,none⟩::os) l W:=fun a ha=>by
 obtain ⟨W',h1,h2,h3⟩:=hM.drop hk ty;refine wpList_plain rfl fun K' hK'=>?_
 unfold Oper.wp;simp [execOp,resolve,invoke,builtin,ha.ev x _ hx,ha.ev y _ hy,h1,Result.andThen];exact hK' _ _ (h W' (hS.setMap h3 hwb hK) h2 a ha)
theorem Jx {T kT eT:TypeId} {h9:Int} (hS:St w0 O G K W) (hT:prog.underlying T=some (.map kT eT)) (hy:evL l y=some (.int .i64 h9)) (hd:Nat.blt d n=true) (h:∀ B W',W'.heap[B]?=some (.map #[] 0)→W.heap.size≤B→St w0 O G ((W.heap.size,W')::K) W'→cO prog n ops Q os ((d,.map (some B))::l) W'):cO prog n ops Q (⟨some d,.makeMap T (some y),ty,pos,aft,none⟩::os) l W :=
 opV (W':=W.alloc (.map #[] 0)) (v:=.map (some W.heap.size)) (fun ev he=>by
  unfold execOp;simp [he y _ hy,Instr.makeMap,run_underlying hT,asInt,asIntOf,Result.andThen]) hd (h _ _ (heap_alloc_new W _) (Nat.le_refl _) (hS.call ((Below.refl _ _).alloc (Nat.le_refl _) _)))
end
end
section
open Go.RowKit
def Qv (k:Nat) (g:GR) (q:Value):Prop:=k≤g.n∧∃ a c ad,g.v = .slice a g.n c∧q = .slice ad (g.n - k) (c - k)∧(c≠k→ad=a.map (·.add (k * 1)))
theorem Qv.start {w:World} {base:Nat} {g:GR} (h:w.ownsRow base g.e g.size g.v g.n g.xs):Qv 0 g g.v:=by
 obtain ⟨a,c,e,_⟩:=fC h;refine ⟨Nat.zero_le _,a,c,a,e,by rw [e];rfl,fun _=>?_⟩;cases a with
 | none=>rfl
 | some p=>simp [Addr.add]
theorem Qv.len {k:Nat} {g:GR} {q:Value} (h:Qv k g q):∃ ad c,q = .slice ad (g.n - k) c:=by obtain ⟨_,a,c,ad,_,h2,_⟩:=h;exact ⟨ad,_,h2⟩
theorem Qv.next {k:Nat} {g:GR} {a9 ad:Option Addr} {m c9:Nat} (h:Qv k g (.slice a9 m c9)) (hk:k < g.n) (hmc:m≤c9) (hE:c9=1→ad=a9) (hN:c9≠1→ad=a9.map (·.add (1 * 1))):Qv (k+1) g (.slice ad (m - 1) (c9 - 1)):=by
 obtain ⟨h0,a,c,ad0,h1,h2,h3⟩:=h;injection h2 with h5 h6 h7
 subst h5;subst h6;subst h7;refine ⟨hk,a,c,ad,h1,by rw [Nat.sub_sub,Nat.sub_sub],fun hc=>?_⟩;have h8:c≠k:=by omega
 rw [hN (by omega),h3 h8];cases a with
 | none=>rfl
 | some p=>by_cases hk0:k=0<;>simp [Addr.add,hk0]<;>omega
theorem Qv.cell {w:World} {base k:Nat} {g:GR} {q:Value} {x:Value} (h:Qv k g q) (hs:g.size=1) (ho:w.ownsRow base g.e g.size g.v g.n g.xs) (hx:g.xs[k]?=some x):∃ b c,q = .slice (some ⟨b,k * 1,none⟩) (g.n - k) c∧w.cell? ⟨b,k * 1+0 * 1,none⟩=some x:=by
 obtain ⟨h0,a,c,ad,h1,h2,h3⟩:=h;have hl:=ho.1;rw [hs,Nat.mul_one] at hl;have hlt:=(List.getElem?_eq_some_iff.1 hx).1;rw [h1] at ho;rcases ho.2 with ⟨e1,e2⟩ | ⟨b,cap,cur,e1,hb,hh,hn,_⟩
 ·omega
 ·injection e1 with e1 _ e3
  subst e1;subst e3;refine ⟨b,c - k,by rw [h2,h3 (by omega)];simp [Addr.add_lit],?_⟩;have h9:=ho.cells (g:=b) rfl k x hx;simpa [Addr.add_lit] using h9
theorem Wn {P:Program} {w:World} {base:Nat} {t ty e:TypeId} {i:TypeInfo} {z:Value} (ht:P.underlying t=some (.slice e)) (hi:P.info? e=some i) (hz:i.zero=some z) (hzs:z.cells.size=i.size) (hsz:i.size=1)
  {v q:Value} {n k:Nat} {xs:List Value} (hown:w.ownsRow base e 1 v n xs) (hq:Qv k ⟨v,n,xs,e,1⟩ q) {B:Nat} {x:Value} (hB:w.heap[B]?=some (.cells #[x] e (0,0))) (h1:x.oneCell'=true) (h63:n+1≤maxLen) (hbytes:(n+1) * i.bytes≤140737488355328) (hbase:base≤w.heap.size) :
  ∃ q' v' n' k' xs' w',(Builtin.append_ #[t,t] ty #[q,.slice (some ⟨B,0,none⟩) 1 1]).run P w = .ok q' w'∧w'.ownsRow base e 1 v' n' xs'∧w.grownBy w' v.ownBlock∧(v'.ownBlock=v.ownBlock∨v'.ownBlock=some w.heap.size)∧Qv k' ⟨v',n',xs',e,1⟩ q'∧xs'.drop k'=xs.drop k++[x]∧n' - k'=n - k+1∧n'≤n+1:=by
 have hcB:∀ (j:Nat) u,[x][j]?=some u→w.cell? ((⟨B,0,none⟩:Addr).add j)=some u:=fun j u hj=>by rw [Addr.add_lit,Nat.zero_add];simp only [World.cell?,hB];simpa using hj
 have hone:∀ u∈[x],u.oneCell'=true:=fun u hu=>by simp at hu;subst hu;exact h1
 have hl9:[x].length=1 * i.size:=by rw [hsz];rfl
 have hsrc:Src P i.size t (.slice (some ⟨B,0,none⟩) 1 1) 1 [x] w:=Src.ofSlice w ht ⟨B,0,none⟩ 1 1 [x] hl9 hcB hone;obtain ⟨h0,a,c,ad,hv,hqv,h3⟩:=hq;dsimp only at h0 hv hqv;have hown':=hown;rw [← hsz] at hown';obtain ⟨v1,w1,hr1,o1,g1,b1⟩:=lU (P:=P) (w:=w) base t ty e i z ht hi hz hzs (by omega) v n xs hown' ⟨B,0,none⟩ 1 1 [x] hl9 hcB hone h63 hbytes hbase;rw [hsz] at o1;have hlen:=hown.1;rw [Nat.mul_one] at hlen;have hnc:n≤c:=by
  obtain ⟨a2,c2,e2,h9⟩:=fC hown;rw [hv] at e2;injection e2 with _ _ e3
  rw [e3];exact h9
 by_cases hroom:n+1≤c
 ·-- there is room: the row itself grows in place
  have hown2:=hown.2;rw [hv] at hown2;rcases hown2 with ⟨e1,_⟩ | ⟨b,cap,cur,e1,hb,hh,hn,hm,hcs,htk⟩
  ·injection e1 with _ _ e3;omega
  ·injection e1 with e1 _ e3
   subst e1;subst e3;rw [Nat.mul_one] at hcs;have had:=h3 (by omega);simp [Addr.add_lit] at had;subst had;have hsome:∀ j,j < [x].length→(w.cell? ⟨b,0+n * i.size+j,none⟩).isSome=true:=fun j hj=>by
    have hj0:j=0:=by simpa using hj
    subst hj0;simp only [World.cell?,hh,hsz]
    have:n < cur.size:=by omega
    simp [this]
   have hfroz:∀ j,j < [x].length→w.frozen? ⟨b,0+n * i.size+j,none⟩=false:=fun j _=>by simp [World.frozen?,hh]
   have rb:=run_append_room_src (P:=P) w t t ty e i ht hi b 0 n c (.slice (some ⟨B,0,none⟩) 1 1) 1 [x] hsrc hroom hsome hfroz;have e9:k+(n - k) * i.size=0+n * i.size:=by rw [hsz];omega
   have rq:=run_append_room_src (P:=P) w t t ty e i ht hi b k (n - k) (c - k) (.slice (some ⟨B,0,none⟩) 1 1) 1 [x] hsrc (by omega) (fun j hj=>by rw [e9];exact hsome j hj) (fun j hj=>by rw [e9];exact hfroz j hj);rw [e9] at rq;rw [hv] at hr1;rw [hr1] at rb;simp only [Result.ok.injEq] at rb;obtain ⟨rfl,rfl⟩:=rb;refine ⟨_,_,n+1,k,xs++[x],_,by rw [hqv];exact rq,o1,g1,b1,⟨by dsimp only;omega,some ⟨b,0,none⟩,c,some ⟨b,k,none⟩,rfl,by dsimp only;rw [show n - k+1=n+1 - k by omega],fun _=>by simp [Addr.add_lit]⟩,by rw [List.drop_append_of_le_length (by omega)],by omega,Nat.le_refl _⟩
 ·-- a new row
  have hcn:c=n:=by omega
  subst hcn;have hge:=grownCap_ge w (c - k+1) (c - k) e;have hcm:=grownCap_le_maxLen w (c - k+1) (c - k) e (by omega);have hold:(Builtin.firstCells i.size (c - k) (.slice ad (c - k) (c - k))).run P w.drew = .ok (xs.drop k).toArray w.drew:=by
   have hown2:=hown.2;rw [hv] at hown2;rcases hown2 with ⟨e1,e2⟩ | ⟨b,cap,cur,e1,hb,hh,hn,hm,hcs,htk⟩
   ·have:xs=[]:=List.eq_nil_of_length_eq_zero (by omega)
    subst this;have e3:c - k=0:=by omega
    rw [e3];cases ad with
    | none=>simpa using run_firstCells_none (P:=P) w.drew i.size 0 0 0
    | some p=>simpa using run_firstCells_some (P:=P) w.drew i.size 0 p 0 0 [] (by simp) (by simp)
   ·injection e1 with e1 _ e3
    subst e1;rcases Nat.lt_or_ge k c with hkc | hkc
    ·have had:=h3 (by omega);simp [Addr.add_lit] at had;subst had;refine run_firstCells_some (P:=P) w.drew i.size (c - k) ⟨b,k,none⟩ (c - k) (c - k) (xs.drop k) (by rw [List.length_drop,hsz];omega) (fun j u hj=>?_);rw [List.getElem?_drop] at hj;have h9:=(show w.ownsRow base e 1 (.slice (some ⟨b,0,none⟩) c c) c xs from hv▸hown).cells (g:=b) rfl (k+j) u hj;rw [Addr.add_lit] at h9 ⊢;simpa using h9
    ·have e4:c - k=0:=by omega
     rw [e4,List.drop_eq_nil_of_le (by omega)];cases ad with
     | none=>simpa using run_firstCells_none (P:=P) w.drew i.size 0 0 0
     | some p=>simpa using run_firstCells_some (P:=P) w.drew i.size 0 p 0 0 [] (by simp) (by simp)
  have rq:=run_append_grow_src (P:=P) w t t ty e i z ht hi hz ad (c - k) (c - k) (xs.drop k) hold (.slice (some ⟨B,0,none⟩) 1 1) 1 [x] hsrc (by omega) (by simp only [maxLen] at h63;omega) (growslice_fits (by omega) (Nat.le_trans (Nat.mul_le_mul_right _ (by omega)) hbytes));refine ⟨_,.slice (some ⟨w.heap.size,0,none⟩) (c - k+1) (grownCap w (c - k+1) (c - k) e),c - k+1,0,xs.drop k++[x],_,by rw [hqv];exact rq,⟨by rw [List.length_append,List.length_drop];simp;omega,.inr ⟨w.heap.size,_,_,rfl,hbase,heap_alloc_new w.drew _,hge,hcm,?_,?_⟩⟩,⟨rfl,rfl,rfl,by simp,fun j hj _=>heap_alloc_old w.drew _ hj⟩,.inr rfl,⟨Nat.zero_le _,_,_,_,rfl,rfl,fun _=>by simp [Addr.add_lit]⟩,by simp,by omega,by omega⟩
  ·rw [Array.size_append,List.size_toArray,List.length_append,List.length_drop,size_zeroCells,hzs,hsz];simp only [List.length_cons,List.length_nil];omega
  ·rw [Array.toList_append,List.toList_toArray,Nat.mul_one];refine List.take_left' ?_;rw [List.length_append,List.length_drop];simp;omega
section
variable {P:Program} {n:Nat} {Q:Exit→Act→World→Prop} {l:Fr} {w0 W:World} {ops:Array Oper} {os:List Oper} {O:Own} {G:cV} {K:List (Nat×World)} {d:Nat} {ty:TypeId} {pos:String} {aft:Array Edge}
theorem M8 {t e:TypeId} {x y:Operand} {gi k m:Nat} {v q u:Value} {xs:List Value} {B:Nat} {inf:TypeInfo} {z:Value} (hS:St w0 O G K W) (hU:P.underlying t=some (.slice e)) (hinf:P.info? e=some inf) (hz:inf.zero=some z) (hzs:z.cells.size=inf.size) (hsz:inf.size=1)
  (hi:G[gi]?=some ⟨v,m,xs,e,1⟩) (hq:Qv k ⟨v,m,xs,e,1⟩ q) (hx:evL l x=some q) (hy:evL l y=some (.slice (some ⟨B,0,none⟩) 1 1)) (hB:W.heap[B]?=some (.cells #[u] e (0,0))) (h1:u.oneCell'=true)
  (h63:m+1≤maxLen) (hbytes:(m+1) * inf.bytes≤140737488355328) (hd:Nat.blt d n=true)
  (h:∀ q' v' m' k' xs' W',St w0 O (G.set gi ⟨v',m',xs',e,1⟩) K W'→Qv k' ⟨v',m',xs',e,1⟩ q'→xs'.drop k'=xs.drop k++[u]→m' - k'=m - k+1→m'≤m+1→cO P n ops Q os ((d,q')::l) W') :
  cO P n ops Q (⟨some d,.call { callee:=.builtin .append,args:=#[x,y],argTypes:=#[t,t] },ty,pos,aft,none⟩::os) l W:=by
 have hrow:=hS.row gi hi;obtain ⟨q',v',m',k',xs',W',hr,h2,h3,h4,h5,h6,h7,h8⟩:=Wn (P:=P) (w:=W) (t:=t) (ty:=ty) hU hinf hz hzs hsz hrow hq hB h1 h63 hbytes hS.below.size;refine opV (W':=W') (v:=q') (fun ev hev=>?_) hd (h q' v' m' k' xs' W' (hS.setG gi hi h2 h3 h4) h5 h6 h7 h8);unfold execOp;simp only [resolve,invoke,builtin,Sem.run_bind,Sem.run_pure,Result.andThen_ok,List.map_toArray,List.map_cons,List.map_nil,hev x _ hx,hev y _ hy,hr]
end
theorem row_src {w:World} {base n:Nat} {e:TypeId} {a:Option Addr} {c:Nat} {xs:List Value} (h:w.ownsRow base e 1 (.slice a n c) n xs):(a=none∧n=0)∨∃ p,a=some p∧∀ (j:Nat) u,xs[j]?=some u→w.cell? (p.add j)=some u:=by
 rcases slNil h with ⟨h1,h2,_⟩ | ⟨b,h1⟩
 ·exact .inl ⟨h1,h2⟩
 ·refine .inr ⟨_,h1,fun j u hj=>?_⟩;obtain ⟨b',h2,h3⟩:=jW h hj;rw [h1] at h2;cases h2;rw [Addr.add_lit];simpa using h3
def egX (kf:TV→Int×Int) (py:TV→PX) (t:TV):Eg:=⟨(kf t).1.toNat,(kf t).2,t.t.toNat,py t⟩
abbrev egsX (kf:TV→Int×Int) (py:TV→PX) (ts:List TV):List Eg:=ts.map (egX kf py)
def dnX (kf:TV→Int×Int) (py:TV→PX) (ts:List TV) (s:Nat) (js:List Int):Eg→Prop:=fun e=>e.f≠s∨∃ (j:Nat) (t:TV),(j:Int)∈js∧ts[j]?=some t∧e=egX kf py t
theorem dnX_all {kf:TV→Int×Int} {py:TV→PX} {ts:List TV} {s:Nat} (hkf:∀ t∈ts,∃ i:Nat,(kf t).1=(i:Int)) {e:Eg} (he:e∈egsX kf py ts) (hg:e.g = -1):dnX kf py ts s (byT kf ts 0 ((s:Int),-1)) e:=by
 obtain ⟨t,ht,rfl⟩:=List.mem_map.1 he;rcases Nat.decEq (egX kf py t).f s with h | h
 ·exact .inl h
 ·obtain ⟨m,hm⟩:=List.getElem?_of_mem ht;refine .inr ⟨m,t,sU.2 ⟨m,t,by rw [Nat.zero_add],hm,?_⟩,hm,rfl⟩;obtain ⟨i,hi⟩:=hkf t ht;have h1:(kf t).1.toNat=s:=h;have h2:(kf t).2 = -1:=hg;rw [hi,Int.toNat_natCast] at h1;subst h1;exact Prod.ext hi.symm h2.symm
theorem Cc {kf:TV→Int×Int} {py:TV→PX} {ts:List TV} {s j tj:Nat} {js:List Int} {t:TV} (h:js[j]?=some (tj:Int)) (ht:ts[tj]?=some t) (e:Eg) (hd:dnX kf py ts s (js.take (j+1)) e):dnX kf py ts s (js.take j) e∨e=egX kf py t:=by
 rcases hd with hd | ⟨m,t9,h1,h2,h3⟩
 ·exact .inl (.inl hd)
 ·rw [List.take_add_one,h] at h1;rcases List.mem_append.1 h1 with h1 | h1
  ·exact .inl (.inr ⟨m,t9,h1,h2,h3⟩)
  ·have h4:(m:Int)=(tj:Int):=by simpa using h1
   have h5:m=tj:=by omega
   subst h5;rw [ht] at h2;cases h2;exact .inr h3
theorem Wt.pop {S:PS} {b:Bool} {kf:TV→Int×Int} {py:TV→PX} {ts:List TV} {ys:List PX} {ws:List Nat} {s:Nat} (h:Wt S b (egsX kf py ts) ys (s::ws) (fun _=>True)):Wt S b (egsX kf py ts) ys ws (dnX kf py ts s []):=h.weaken fun e hf hd=>by
 refine ⟨fun h1=>?_,trivial⟩;rcases hd with hd | ⟨m,t,h2,_⟩
 ·rcases List.mem_cons.1 h1 with h3 | h3
  ·exact hd h3
  ·exact hf h3
 ·cases h2
theorem Wt.done {S:PS} {b:Bool} {kf:TV→Int×Int} {py:TV→PX} {ts:List TV} {ys:List PX} {ws:List Nat} {s:Nat} (hkf:∀ t∈ts,∃ i:Nat,(kf t).1=(i:Int)) (h:Wt S b (egsX kf py ts) ys ws (dnX kf py ts s (byT kf ts 0 ((s:Int),-1)))):Wt S b (egsX kf py ts) ys ws (fun _=>True):=fun e he hg hf _=>h e he hg hf (dnX_all hkf he hg)
theorem Ps:prog.built 119 []=some #[]:=by kernel_rfl
theorem St.restG {w0 W:World} {O:Own} {g:GR} {G:cV} {K:List (Nat×World)} (h:St w0 O (g::G) K W):St w0 O G K W:=⟨h.below,h.own,h.dist,h.kept,fun g hg=>h.rows g (List.mem_cons_of_mem _ hg),(List.pairwise_cons.1 h.gdist).2⟩
theorem Qv.cap {k:Nat} {g:GR} {ad:Option Addr} {m c base:Nat} {w:World} (h:Qv k g (.slice ad m c)) (ho:w.ownsRow base g.e g.size g.v g.n g.xs):m≤c:=by
 obtain ⟨h0,a,c0,ad0,h1,h2,h3⟩:=h;injection h2 with _ e1 e2
 obtain ⟨a2,c2,e,hle⟩:=fC ho;rw [h1] at e;injection e with _ _ e3
 omega
theorem jE.blk {b n:Nat} {ks:List Nat} {W:World} (h:jE b n ks W):∃ es clock,W.heap[b]?=some (.map es clock):=by obtain ⟨D,⟨es,clock,h1,h2⟩,h3⟩:=h;exact ⟨es,clock,h1⟩
theorem jE.kept {w0 W W':World} {O:Own} {G:cV} {K:List (Nat×World)} {b n:Nat} {ks:List Nat} (h:jE b n ks W) (hS:St w0 O G K W') (hq:(b,oI W b)∈K):jE b n ks W':=h.same fun hlt=>((hS.kept _ hq).1.2 b (Nat.le_refl _) (sP hlt)).trans (sQ hlt)
theorem Pt {w0 W W':World} {O:Own} {G:cV} {K:List (Nat×World)} {b:Nat} (hS:St w0 O G K W') (hq:(b,oI W b)∈K) (hb:b < W.heap.size):b < W'.heap.size:=Nat.lt_of_lt_of_le (sP hb) (hS.kept _ hq).1.1
theorem G5 {S:PS} {x0 x:PX} (hok:S.ok) (h0:OkX S x0) (hx:OkX S x) (h:cD S x0 x≠x0):cD S x0 x≠bU S:=by
 by_cases hz:x0=bU S
 ·rw [hz] at h ⊢;exact h
 ·exact zF hok h0 hx hz
theorem yE (S:PS) (a:AV) (f0:WF) (bk:Bool) (bm VA VX RB IA WA n:Nat) (va:Value) (fs:List WF) (xs:List PX) (l:List Nat) (Ot:Own) (Gt:cV) (K:List (Nat×World)) (w0:World) (lo:Nat) (py:TV→PX) (kf:TV→Int×Int) (w:World) (hS0:St w0 ((RB,rdC f0 a bk bm VA VX,109)::(VA,gZ va n IA WA,116)::(IA,inC S xs,4)::(WA,wC fs,46)::Ot) (⟨va,l.length,atC l,3,1⟩::Gt) K w) (hV:VecOk S w0 K n fs xs l) (hn:n≤4096) (hM:qF w0 K kf lo a.ts bm) (htrow:mQ w0 a.ta a.ts) (htlen:a.ts.length=a.tl) (htm:a.tl≤65536) (htq:∀ t∈a.ts,inQ t.t (n:Int)=true) (hpy:∀ t∈a.ts,XIs w0 S t.x.f (py t)) (hkf:∀ t∈a.ts,∃ s:Nat,(kf t).1=(s:Int)∧s < n) (hht:Iv S≤4194304) (hsi:SIs w0 S a.s.f) (hok:S.ok) (ht:Tabs w0) (H0:jC w0 K (fun W=>XIs W S f0 (bU S))) :
  Calls prog 46 #[.pointer (some ⟨RB,0,none⟩)] w (fun e w'=>∃ (u:Value) (l':List Nat) (fs':List WF) (xs':List PX) (Kn:List (Nat×World)),e = .returned (.tuple #[])∧(∀ q∈K,q∈Kn)∧VecOk S w0 Kn n fs' xs' l'∧Eps S bk (egsX kf py a.ts) xs xs'∧xK S bk (egsX kf py a.ts) xs'∧St w0 ((RB,rdC f0 a bk bm VA VX,109)::(VA,gZ u n IA WA,116)::(IA,inC S xs',4)::(WA,wC fs',46)::Ot) (⟨u,l'.length,atC l',3,1⟩::Gt) Kn w'):=by
 refine cG (args:=[.pointer (some ⟨RB,0,none⟩)]) func46 rfl ntmps46 rfl ?_;have hS:=hS0;obtain ⟨aa,ac,hva,_⟩:=fC (hS.row 0 rfl);have hva:va = .slice aa l.length ac:=hva;subst hva;have hll:=hV.len;have hEo:∀ e∈(egsX kf py a.ts),OkX S e.y:=fun e he=>by obtain ⟨t,ht9,rfl⟩:=List.mem_map.1 he;exact (hpy t ht9).ok
 refine aO (aQ (aH rfl rfl (cQ rfl rfl (aN (o':=18) kW rfl rfl rfl (aR isAgg107 rfl (aK (hS.at_ 0 rfl) rfl) rfl (aB rfl rfl (aP (XF.thenN (aO (aQ (mS hS underlying26 sizeOf3 rfl fun v1 W1 hS=>aH rfl rfl (cQ rfl rfl (aN (o':=0) kV rfl rfl rfl (aR isAgg26 rfl (aK (hS.at_ 1 rfl) rfl) rfl ?_))))))))))))));refine gU (i:=0) (news:=atC l) hS underlying26 Eb rfl rfl (by show 0 < 1;decide) rfl rfl rfl rfl rfl (row_src (hS.row 1 rfl)) (by rw [atC_len];show _=l.length * 1;omega) (fun u hu=>by obtain ⟨i,_,rfl⟩:=List.mem_map.1 hu;rfl) (by dsimp only;simp only [maxLen];omega) (by show (0+l.length) * 8≤_;omega) rfl fun v2 W2 hS=>?_
 obtain ⟨a3,c3,hv3,_⟩:=fC (hS.row 0 rfl);have hv3:v2 = .slice a3 (0+l.length) c3:=hv3;rw [Nat.zero_add] at hv3;subst hv3;have hS:=(hS.castG (G':=⟨(.slice a3 l.length c3),l.length,atC l,3,1⟩::⟨(.slice aa l.length ac),l.length,atC l,3,1⟩::Gt) (by show _::_=_;rw [Nat.zero_add];rfl)).permG (List.Perm.swap _ _ _);refine aB rfl rfl (aP (XF.thenN (aO (aQ (aH rfl rfl (cL underlying26 rfl rfl (Jx hS underlying118 rfl rfl ?_)))))));have hsz2:=hS.below.size;have hKs2:∀ q∈K,q.2.heap.size≤_:=fun q hq=>(hS.kept q hq).1.1
 clear hS;intro bS W8 hbS hlS hS;have hmt:=jE.made hbS;have hS:=hS.keep K (fun q hq=>List.mem_cons_of_mem _ hq);have hKb:(∀ q∈K,bS < q.1∨q.2.heap.size≤bS):=fun q hq=>.inr (Nat.le_trans (hKs2 q hq) hlS)
 have hwb:w0.heap.size≤bS:=Nat.le_trans hsz2 hlS;refine aB rfl rfl (aP (XF.thenN (aO (aO (aQ (aH rfl rfl (cL underlying26 rfl rfl (aH rfl rfl (aP (XF.thenN (bX (eJ (fun m lf W=>∃ i:Nat,i≤l.length∧m=l.length - i∧lf=[(0,.pointer (some ⟨RB,0,none⟩)),(2,.pointer (some ⟨VA,0,none⟩)),(3,.slice a3 l.length c3),(4,.map (some bS)),(26,.slice a3 l.length c3),(27,.int .i64 (l.length:Int)),(28,.int .i64 (i:Int))]∧jE bS i (l.take i).reverse W∧St w0 ((RB,rdC f0 a bk bm VA VX,109)::(VA,gZ (.slice aa l.length ac) n IA WA,116)::(IA,inC S xs,4)::(WA,wC fs,46)::Ot) (⟨(.slice aa l.length ac),l.length,atC l,3,1⟩::⟨(.slice a3 l.length c3),l.length,atC l,3,1⟩::Gt) K W) (l.length - 0) ([(0,_),(2,_),(3,_),(4,_),(26,_),(27,_),(28,_)]) ⟨rfl,rfl,rfl,rfl,rfl,rfl,rfl,trivial⟩ (⟨0,Nat.zero_le _,rfl,rfl,hmt,hS⟩) ?_))))))))))));clear hS;rintro m lf W ⟨i,hi,rfl,rfl,hmt,hS⟩;refine aO (aQ (cT rfl rfl rfl (aP (XF.thenN (aO (bB rfl (fun hc=>?_) (fun hc=>?_)))))))
 ·have hc29:=of_decide_eq_true hc;clear hc;have hk:i < l.length:=by omega
  obtain ⟨y,hy⟩:∃ y,l[i]?=some y:=⟨l[i],List.getElem?_eq_getElem hk⟩;obtain ⟨xy,hxy,hxz⟩:=(hV.ats y).1 (List.mem_of_getElem? hy);have hyn:y < n:=by have:=(List.getElem?_eq_some_iff.1 hxy).1;rw [hV.xl] at this;exact this
  obtain ⟨b9,rfl,k9⟩:=jW (hS.row 1 rfl) (show (atC l)[i]?=some (.int .i64 (y:Int)) by rw [List.getElem?_map,hy];rfl);refine bP (XF.thenN (aO (bX (aO (aQ (cK  underlying26 sizeOf3 rfl rfl rfl (by omega) rfl rfl (aR isAgg3 rfl (k9) rfl (aB rfl rfl (aP (XF.thenN (aQ (aH rfl rfl (aH rfl rfl (dY (us:=[]) rfl (Ps) rfl ?_))))))))))))));refine Cb hS hmt (by omega) (by simp only [maxLen];omega) hwb hKb rfl rfl rfl ?_;clear hS hmt;intro W7 hS hmt;refine aP (XF.blkN (XF.thenN (aQ (cY rfl rfl (IntWalk.i64_in _ (by omega)) rfl (aH rfl rfl (aP ?_))))));exact XF.round (l.length - (i+1)) [(0,_),(2,_),(3,_),(4,_),(26,_),(27,_),(28,_)] (by omega) ⟨rfl,rfl,rfl,rfl,rfl,rfl,rfl,trivial⟩ ⟨i+1,by omega,rfl,rfl,(by rw [List.take_add_one,hy,List.reverse_append];exact hmt),hS⟩
 ·have hc29:=of_decide_eq_false hc;clear hc;rw [List.take_of_length_le (by omega)] at hmt;have hil:i=l.length:=by omega
  subst hil;have hB0:=Pr (S:=S) xs;have hxl:=hV.xl;obtain ⟨B0,hB⟩:∃ b,b=n+xs.length * (Iv S).toNat:=⟨_,rfl⟩;have hB0le:B0≤4096+4096 * 4194304:=by rw [hB];exact Nat.add_le_add hn (Nat.mul_le_mul (by rw [hxl];exact hn) (by omega))
  have hq0:=Qv.start (hS.row 1 rfl);refine dT (XF.thenX (XF.thenX (XF.blkX (XF.thenN (bX (eJ (fun m lf W=>∃ (q vq:Value) (mq kq cnt:Nat) (xq:List Value) (ks ws:List Nat) (v9:Value) (f9s:List WF) (x9s:List PX) (l9:List Nat) (Kk:List (Nat×World)),m=pG S x9s+ws.length∧lf=[(0,.pointer (some ⟨RB,0,none⟩)),(2,.pointer (some ⟨VA,0,none⟩)),(3,q),(4,.map (some bS))]∧(∀ q∈K,q∈Kk)∧(∀ q∈Kk,bS < q.1∨q.2.heap.size≤bS)∧Qv kq ⟨vq,mq,xq,3,1⟩ q∧xq.drop kq=atC ws∧mq - kq=ws.length∧mq+pG S x9s≤B0∧cnt+pG S x9s≤B0∧jE bS cnt ks W∧(∀ i,i∈ks↔i∈ws)∧ws.Nodup∧(∀ i∈ws,i∈l9)∧Eps S bk (egsX kf py a.ts) xs x9s∧Wt S bk (egsX kf py a.ts) x9s ws (fun _=>True)∧VecOk S w0 Kk n f9s x9s l9∧St w0 ((RB,rdC f0 a bk bm VA VX,109)::(VA,gZ v9 n IA WA,116)::(IA,inC S x9s,4)::(WA,wC f9s,46)::Ot) (⟨v9,l9.length,atC l9,3,1⟩::⟨vq,mq,xq,3,1⟩::Gt) Kk W) (pG S xs+l.length) ([(0,_),(2,_),(3,_),(4,_)]) ⟨rfl,rfl,rfl,rfl,trivial⟩ (⟨_,_,_,0,l.length,_,l.reverse,l,_,fs,xs,l,K,rfl,rfl,(fun q hq=>hq),hKb,hq0,rfl,rfl,by omega,by omega,hmt,(fun i=>List.mem_reverse),hV.nd,(fun i hi=>hi),Eps.refl hok hV.ok,Wt.start hV.ok hEo (fun i x h1 h2=>Classical.byContradiction fun h3=>h2 ((hV.ats i).2 ⟨x,h1,h3⟩)),hV,hS⟩) ?_))))));clear hS;clear hmt hq0 hS;rintro m lf W ⟨q,vq,mq,kq,cnt,xq,ks,ws,v9,f9s,x9s,l9,Kk,rfl,rfl,hKk,hKbk,hq,hxq,hmq,hd1,hd2,hmt,hks,hnd,hwn,hE,hW,hV9,hS⟩;obtain ⟨adq,cq,hq9⟩:=hq.len;have hq9:q = .slice adq ws.length cq:=by rw [hq9];show Value.slice adq (mq - kq) cq=_;rw [hmq]
  subst hq9;refine aO (aO (aQ (aH rfl rfl (cL underlying26 rfl rfl (nZ rfl rfl rfl (aP (XF.thenN (bB rfl (fun hc=>?_) (fun hc=>?_)))))))))
  ·have hc38:=of_decide_eq_true hc;clear hc;obtain ⟨s,ws,rfl⟩:∃ y t,ws=y::t:=by
    cases ws with
    | nil=>exact absurd hc38 (by simp)
    | cons y t=>exact ⟨y,t,rfl⟩
   have hx9:(xq.drop kq)[0]?=some (.int .i64 (s:Int)):=by rw [hxq];rfl
   rw [List.getElem?_drop,Nat.add_zero] at hx9;obtain ⟨bq,cq9,hqc,kqc⟩:=Qv.cell hq rfl (hS.row 1 rfl) hx9;injection hqc with e1 e2 e3
   subst e1;subst e3;have hsl9:s∈l9:=hwn s List.mem_cons_self;obtain ⟨xs9,hxs9,hxsz⟩:=(hV9.ats s).1 hsl9;have hsn:s < n:=by have:=(List.getElem?_eq_some_iff.1 hxs9).1;rw [hV9.xl] at this;exact this
   have hkq:kq < mq:=by rw [List.length_cons] at hmq;omega
   have hcap:=hq.cap (hS.row 1 rfl);obtain ⟨M0,hM0⟩:∃ m,m=pG S x9s+ws.length:=⟨_,rfl⟩;rw [List.length_cons] at hmq;refine bP (XF.thenN (bX (aO (aQ (aH rfl rfl (cK (j:=0) underlying26 sizeOf3 rfl rfl (rfl) (Nat.succ_pos _) rfl rfl (aR isAgg3 rfl (kqc) rfl (aB rfl rfl (aP (XF.thenN (aO (aQ (aH rfl rfl (kL (j:=1) underlying26 sizeOf3 rfl rfl rfl (Nat.succ_le_succ (Nat.zero_le _)) rfl ?_))))))))))))));intro ad3 hadE3 hadN3;have hqN:=Qv.next hq hkq hcap hadE3 hadN3;refine aB rfl rfl (aP (XF.thenN (aO (aQ (aH rfl rfl (aH rfl rfl (Jw hS hmt (by omega) hwb hKbk rfl rfl ?_)))))));clear hS hmt;intro W7 hS hmt;refine aP (XF.thenN (aO ?_));obtain ⟨Wf,hG,hH⟩:=hM;have hH4:=hH hS hKk;obtain ⟨v33,hlk,hrw⟩:=Grp.look hG M3 underlying106 zeroValue26 (k:=((s:Int),-1)) (M4 (Bw (Int.natCast_nonneg _) (by omega)) (xJ (by decide) (by decide))) Mz;obtain ⟨ra,rc,rfl,hrc⟩:=fC hrw;obtain ⟨rl,hrl⟩:∃ m,m=(Cu kf a.ts ((s:Int),-1)).length:=⟨_,rfl⟩;rw [← hrl] at hlk hrw hrc;have hlk4:=hlk _ hH4.1;have hrl2:rl=(byT kf a.ts 0 ((s:Int),-1)).length:=by rw [hrl,List.length_map]
   have hrl3:=wF kf ((s:Int),-1) a.ts 0;refine aQ (aH rfl rfl (cQ rfl rfl (aN (o':=17) Bx rfl rfl rfl (aR isAgg106 rfl (aK (hS.at_ 0 rfl) rfl) rfl (aH rfl rfl (dY (us:=[(0,.int .i64 _),(1,.int .i64 _)]) rfl (rU _ _) rfl (opV (Ef rfl rfl hlk4) rfl (cL underlying26 rfl rfl (aH rfl rfl (aP (XF.thenN (bX ?_))))))))))));refine eJ (fun m lf W=>∃ (j:Nat) (q vq:Value) (mq kq cnt:Nat) (xq:List Value) (ks ws9:List Nat) (v7:Value) (f7:List WF) (x7:List PX) (l7:List Nat) (Kj:List (Nat×World)),j≤rl∧m=rl - j∧lf=[(0,.pointer (some ⟨RB,0,none⟩)),(2,.pointer (some ⟨VA,0,none⟩)),(3,q),(4,.map (some bS)),(7,.int .i64 (s:Int)),(52,.slice ra rl rc),(53,.int .i64 (rl:Int)),(54,.int .i64 (j:Int))]∧(∀ q∈K,q∈Kj)∧(∀ q∈Kj,bS < q.1∨q.2.heap.size≤bS)∧Qv kq ⟨vq,mq,xq,3,1⟩ q∧xq.drop kq=atC ws9∧mq - kq=ws9.length∧mq+pG S x7≤B0∧cnt+pG S x7≤B0∧jE bS cnt ks W∧(∀ i,i∈ks↔i∈ws9)∧ws9.Nodup∧(∀ i∈ws9,i∈l7)∧s∈l7∧Eps S bk (egsX kf py a.ts) xs x7∧Wt S bk (egsX kf py a.ts) x7 ws9 (dnX kf py a.ts s ((byT kf a.ts 0 ((s:Int),-1)).take j))∧pG S x7+ws9.length≤M0∧VecOk S w0 Kj n f7 x7 l7∧St w0 ((RB,rdC f0 a bk bm VA VX,109)::(VA,gZ v7 n IA WA,116)::(IA,inC S x7,4)::(WA,wC f7,46)::Ot) (⟨v7,l7.length,atC l7,3,1⟩::⟨vq,mq,xq,3,1⟩::Gt) Kj W) (rl - 0) ([(0,_),(2,_),(3,_),(4,_),(7,_),(52,_),(53,_),(54,_)]) ⟨rfl,rfl,rfl,rfl,rfl,rfl,rfl,rfl,trivial⟩ (⟨0,_,vq,mq,kq+1,cnt,xq,_,ws,v9,f9s,x9s,l9,Kk,Nat.zero_le _,rfl,rfl,hKk,hKbk,hqN,(by have h:=congrArg List.tail hxq;rw [List.tail_drop] at h;exact h),by omega,hd1,hd2,hmt,(fun i=>by rw [List.mem_filter,hks i];have h9:=(List.nodup_cons.1 hnd).1;constructor<;>intro h<;>first | (rcases List.mem_cons.1 h.1 with rfl | h8;exact absurd h.2 (by simp);exact h8) | exact ⟨List.mem_cons_of_mem _ h,by simp;intro e;subst e;exact h9 h⟩),(List.nodup_cons.1 hnd).2,(fun i hi=>hwn i (List.mem_cons_of_mem _ hi)),hsl9,hE,hW.pop,Nat.le_of_eq hM0.symm,hV9,hS⟩) ?_;clear hS;clear hmt hq hqN hS hW hE hV9 hks hnd hwn hd1 hd2 hxq hmq hcap hxs9 kqc hx9 hkq;rintro m lf W ⟨j,q,vq,mq,kq,cnt,xq,ks,ws9,v7,f7,x7,l7,Kj,hj,rfl,rfl,hKj,hKbj,hq,hxq,hmq,hd1,hd2,hmt,hks,hnd,hwn,hsl7,hE,hW,hM7,hV7,hS⟩;refine aO (aQ (cT rfl rfl rfl (aP (XF.thenN (aO (bB rfl (fun hc=>?_) (fun hc=>?_)))))))
   ·have hc55:=of_decide_eq_true hc;clear hc;have hkj:j < rl:=by omega
    obtain ⟨xy,hxy,hxz⟩:=(hV7.ats s).1 hsl7;obtain ⟨fy,hfy⟩:∃ fy,f7[s]?=some fy:=⟨f7[s]'(by rw [hV7.fl];exact hsn),List.getElem?_eq_getElem _⟩;obtain ⟨z,hz⟩:∃ z,(byT kf a.ts 0 ((s:Int),-1))[j]?=some z:=⟨_,List.getElem?_eq_getElem (by omega)⟩;obtain ⟨tj,t9,hz1,ht9,hkt⟩:=sU.1 (List.mem_of_getElem? hz);rw [Nat.zero_add] at hz1;subst hz1;have hrwW:=dN hrw (fun p hp=>(hH hS hKj).2 p (hrw.lt p hp).1 (hrw.lt p hp).2);obtain ⟨b6,rfl,k6⟩:=jW hrwW (show (Cu kf a.ts ((s:Int),-1))[j]?=some (.int .i64 (tj:Int)) by rw [List.getElem?_map,hz];rfl);have htj:=(List.getElem?_eq_some_iff.1 ht9).1;have hmt9:=List.mem_of_getElem? ht9;obtain ⟨rf,rg,rt,tx⟩:=t9;obtain ⟨tN,htt,htN⟩:=lN (htq _ hmt9);dsimp only at htt;subst htt;have hpt:=hpy _ hmt9;obtain ⟨bt,ot,hta,hcs⟩:=htrow.at_ ht9;have kt:=aC.agree hS.agree (Nat.zero_le _) hcs;obtain ⟨f5,x5,hf5,hx5,hok5⟩:=hV7.at_ htN;have hokx:OkX S (nQ S bk xy (py ⟨rf,rg,(tN:Int),tx⟩)):=Jt hok (hV7.ok xy (List.mem_of_getElem? hxy)) hpt.ok;have heM:egX kf py ⟨rf,rg,(tN:Int),tx⟩∈(egsX kf py a.ts):=List.mem_map_of_mem hmt9;have hef:(egX kf py ⟨rf,rg,(tN:Int),tx⟩).f=s:=by show (kf _).1.toNat=s;rw [← hkt];exact Int.toNat_natCast s
    have heg:(egX kf py ⟨rf,rg,(tN:Int),tx⟩).g = -1:=by show (kf _).2 = -1;rw [← hkt]
    obtain ⟨es9,ck9,hme⟩:=hmt.blk;have hS:=hS.markMap hme;have hlt7:=hmt.lt;refine bP (XF.thenN (aO (bX (aO (aQ (cK  underlying26 sizeOf3 rfl rfl rfl (by omega) rfl rfl (aR isAgg3 rfl (k6) rfl (aB rfl rfl (aP (XF.thenN (aO (aQ (aH rfl rfl (cQ rfl rfl (aN (o':=9) wE rfl rfl rfl (aN (o':=15) dB rfl rfl rfl (aR isAgg27 rfl (aK (hS.at_ 0 rfl) rfl) rfl (aH rfl rfl ?_))))))))))))))))));refine cK (j:=tj) (b:=bt) (o:=ot) (m:=a.tl) (c:=a.tc) underlying27 sizeOf48 (by show some (Value.slice a.ta a.tl a.tc)=_;rw [hta]) rfl rfl (by omega) rfl rfl ?_;refine aT (vs:=[_,_,_,_,_,_,_,_,_]) isAgg48 sizeOf48 rfl (kt) rfl (bF (cs:=[_,_,_,_,_,_,_,_,_]) hS zeroValue48 rfl rfl fun B4 W4 hS=>aU (i:=0) (vs:=[_,_,_,_,_,_,_,_,_]) (cs':=[_,_,_,_,_,_,_,_,_]) (O':=(_::_::_::_::_::Ot)) hS sizeOf48 rfl rfl rfl rfl rfl rfl rfl fun W5 hS=>aP (XF.thenN (aO (aO ?_))));have hb15:=Pt hS List.mem_cons_self hlt7;refine Vq (ef:=16) (jy:=16) (ca:=qN (fun _=>[])) (ta:=fun _=>0) (Os:=Gl _) (Gs:=rM _) (al:=[]) (k:=14) (ds:=[80,81]) cC rfl hS rfl (by kernel_rfl) (by kernel_rfl) rfl (by decide) rfl (fun _=>none) (.inr ⟨rfl,rfl,rfl⟩) rfl rfl (aX 1 rfl rfl (isV _) (fun hNo=>sgV [(0,_)] rfl rfl rfl rfl hNo (aS rfl) ⟨cJ rfl,trivial⟩ (fun ev w he hw=>aW rfl) (aF rfl)) (aX 2 rfl rfl (isV _) (fun hNo=>sgV [(2,_)] rfl rfl rfl rfl hNo (aS rfl) ⟨cJ rfl,trivial⟩ (fun ev w he hw=>aW rfl) (aF rfl)) (aX 3 rfl rfl (isV _) (fun hNo=>sgV [(10,_)] rfl rfl rfl rfl hNo (aS rfl) ⟨cJ rfl,trivial⟩ (fun ev w he hw=>aV (o':=2) iG rfl rfl) (aF rfl)) (aX 4 rfl rfl (isV _) (fun hNo=>sgV [(68,_)] rfl rfl rfl rfl hNo (aS rfl) ⟨aM 2 (aA rfl rfl rfl),trivial⟩ (fun ev w he hw=>bA isAgg3 rfl ((aK (hw.at_ 0 rfl) rfl))) (aF rfl)) (aX 5 rfl rfl (isV _) (fun hNo=>sgV [(0,_)] rfl rfl rfl rfl hNo (aS rfl) ⟨cJ rfl,trivial⟩ (fun ev w he hw=>aW rfl) (aF rfl)) (aX 6 rfl rfl (isV _) (fun hNo=>sgV [(2,_)] rfl rfl rfl rfl hNo (aS rfl) ⟨cJ rfl,trivial⟩ (fun ev w he hw=>aW rfl) (aF rfl)) (aX 7 rfl rfl (isV _) (fun hNo=>sgV [(71,_)] rfl rfl rfl rfl hNo (aS rfl) ⟨aM 5 (aA rfl rfl rfl),trivial⟩ (fun ev w he hw=>cU rfl) (aF rfl)) (aX 8 rfl rfl (isV _) (fun hNo=>sgV [(72,_)] rfl rfl rfl rfl hNo (aS rfl) ⟨aM 6 (aA rfl rfl rfl),trivial⟩ (fun ev w he hw=>aV (o':=2) nJ rfl rfl) (aF rfl)) (aX 9 rfl rfl (isV _) (fun hNo=>sgV [(73,_)] rfl rfl rfl rfl hNo (aS rfl) ⟨aM 7 (aA rfl rfl rfl),trivial⟩ (fun ev w he hw=>bA isAgg44 rfl ((aK (hw.at_ 2 rfl) rfl))) (aF rfl)) (aX 10 rfl rfl (isV _) (fun hNo=>sgV [(7,_)] rfl rfl rfl rfl hNo (aS rfl) ⟨cJ rfl,trivial⟩ (fun ev w he hw=>aW rfl) (aF rfl)) (aX 11 rfl rfl (isV _) (fun hNo=>sgV [(74,_),(75,_)] rfl rfl rfl rfl hNo (aS rfl) ⟨aM 8 (aA rfl rfl rfl),aM 9 (aA rfl rfl rfl),trivial⟩ (fun ev w he hw=>bE (j:=s) underlying44 sizeOf46 rfl rfl (rfl) (hsn) rfl) (aF rfl)) (aX 12 rfl rfl (isV _) (fun hNo=>sgV [(76,_)] rfl rfl rfl rfl hNo (aS rfl) ⟨aM 10 (aA rfl rfl rfl),trivial⟩ (fun ev w he hw=>aY (vs:=[_,_,_,_,_,_]) isAgg46 sizeOf46 rfl ((aC.own (j:=0+s * 6) (m:=6) (hw.at_ 4 rfl) (Jg hfy)))) (aF rfl)) (aX 13 rfl rfl (isV _) (fun hNo=>sgV [(10,_)] rfl rfl rfl rfl hNo (aS rfl) ⟨cJ rfl,trivial⟩ (fun ev w he hw=>aY (vs:=[_,_,_,_,_,_,_,_,_]) isAgg48 sizeOf48 rfl ((aC.own (j:=0) (m:=9) (hw.at_ 0 rfl) rfl))) (aF rfl)) ?_)))))))))))));refine aX 14 rfl rfl (dP W5.heap.size S (nQ S bk xy (py ⟨rf,rg,(tN:Int),tx⟩))) (fun hNo=>zA [isV _,isV _,isV _] rfl rfl rfl rfl hNo Po (aS rfl) ⟨bT (aM 4 (aA rfl rfl rfl)),bT (aM 11 (aA rfl rfl rfl)),bT (aM 12 (aA rfl rfl rfl)),trivial⟩ (fun vs ev w' he hSt hlo hh=>by
     have e:=bW (us:=[_,_,_]) hh;subst e;exact nG hlo (En S a f0 bk bm VA VX RB fy tx.f xy (py ⟨rf,rg,(tN:Int),tx⟩) rf rg (tN:Int) w' (hSt.at_ 1 rfl) (hsi.below hSt.below) hok (ht.below hSt.below) (hV7.held s fy xy hfy hxy hxz hSt (fun q hq=>List.mem_cons_of_mem _ hq)) (hpt.below hSt.below))) (aF rfl)) ?_
    refine mP ?_;intro Bf6 y6 W6 Ks6 hsz6 hKs6 hS' hcov6;clear hS;have hS:=hS'.castO (O':=(_::_::_::_::_::Ot)) rfl;clear hS';refine vU (L':=[AwS _ _ (isV _),AwS _ _ (isV _),AwS _ _ (isV _),AwS _ _ (isV _),AwS _ _ (isV _),AwS _ _ (isV _),AwS _ _ (isV _),AwS _ _ (isV _),AwS _ _ (isV _),AwS _ _ (isV _),AwS _ _ (isV _),AwS _ _ (isV _),AwS _ _ (isV _),AwS _ _ (dP W5.heap.size S (nQ S bk xy (py ⟨rf,rg,(tN:Int),tx⟩)))]) rfl (bQ (bQ (bQ (bQ (bQ (bQ (bQ (bQ (bQ (bQ (bQ (bQ (bQ ?_)))))))))))));refine dF ?_;rintro vP h8p;obtain ⟨f9,rfl,hn9⟩:=h8p.here;have HX9:jC w0 (Ks6++Kj) (fun W2=>XIs W2 S f9 (nQ S bk xy (py ⟨rf,rg,(tN:Int),tx⟩))):=fun h2 hk=>(newS hn9 h8p (hcov6 h2 (fun q hq=>hk q (List.mem_append_left _ hq))) (Nat.le_refl _)).is
    have hKs8:=hKs6;obtain ⟨K8,hK8⟩:∃ x,x=Ks6++Kj:=⟨_,rfl⟩;have hK98:∀ q∈Kj,q∈K8:=fun q hq=>by rw [hK8];exact List.mem_append_right _ hq
    have hKv8:∀ q∈K8,q∈Ks6++((bS,oI W bS)::Kj):=fun q hq=>by rw [hK8] at hq;rcases List.mem_append.1 hq with h | h;exact List.mem_append_left _ h;exact List.mem_append_right _ (List.mem_cons_of_mem _ h)
    have hb16:=Pt hS (List.mem_append_right Ks6 List.mem_cons_self) hlt7;rw [← hK8] at HX9;refine cM (fY (vs:=[_,_,_,_]) G3 rfl (Bt S a f0 bk bm VA VX RB VA IA WA n v7 f7 x7 l7 _ _ _ K8 w0 tN f9 (nQ S bk xy (py ⟨rf,rg,(tN:Int),tx⟩)) x5 _ (hS.perm (Pp _ _ _ _ _ _)) hKv8 (hV7.more hK98) hn htN hx5 hsi hok ht (H0.more (fun q hq=>hK98 q (hKj q hq))) HX9 hokx) rfl ?_);rintro e W9 ⟨u8,l8,fs8,Kw8,rfl,hnw8,hV8,hl8,hS8⟩;obtain ⟨K9,hK9⟩:∃ x,x=Kw8++K8:=⟨_,rfl⟩;have hsub9:∀ q∈Kj,q∈K9:=fun q hq=>by rw [hK9];exact List.mem_append_right _ (hK98 q hq)
    rw [← hK9] at hV8;have hKb9:∀ q∈K9,bS < q.1∨q.2.heap.size≤bS:=fun q hq=>by
     rw [hK9,hK8] at hq;rcases List.mem_append.1 hq with h | h
     ·exact .inl (Nat.lt_of_lt_of_le hb16 (hnw8 q h))
     ·rcases List.mem_append.1 h with h | h
      ·exact .inl (Nat.lt_of_lt_of_le hb15 (hKs8 q h))
      ·exact hKbj q h
    clear hS;have hS:=(hS8.perm (Pp _ _ _ _ _ _).symm).keep ((bS,oI W bS)::K9) (fun q hq=>by
     rw [hK9,hK8] at hq;simp only [List.mem_cons,List.mem_append] at hq ⊢;rcases hq with h | h | h | h<;>simp [h]);clear hS8
    have hE8:=hE.step hok hV.ok hV7.ok hEo heM heg (x:=xy) (y:=x5) (by rw [hef];exact hxy) hx5;have hsl8:s∈l8:=by rcases hl8 with ⟨_,h⟩ | h | h<;>rw [h]<;>simp [hsl7]
    have hll8:∀ i∈l7,i∈l8:=fun i hi=>by rcases hl8 with ⟨_,h⟩ | h | h<;>rw [h]<;>simp [hi]
    refine ⟨_,rfl,?_⟩;refine fB rfl rfl (aP (XF.thenN (bB rfl (fun hc=>?_) (fun hc=>?_))))
    ·have hc81:=hc;clear hc;have hee:cD S x5 (nQ S bk xy (py ⟨rf,rg,(tN:Int),tx⟩))=x5:=by have h9:=hc81;rw [Bool.not_not] at h9;exact nH.1 h9
     have hd8:pG S (x7.set tN (cD S x5 (nQ S bk xy (py ⟨rf,rg,(tN:Int),tx⟩))))=pG S x7:=by rw [hee,Br hx5]
     refine dT (XF.thenX (XF.blkX (XF.thenN (aQ (cY rfl rfl (IntWalk.i64_in _ (by omega)) rfl (aH rfl rfl (aP ?_)))))));exact XF.round (rl - (j+1)) [(0,_),(2,_),(3,_),(4,_),(7,_),(52,_),(53,_),(54,_)] (by omega) ⟨rfl,rfl,rfl,rfl,rfl,rfl,rfl,rfl,trivial⟩ ⟨j+1,q,vq,mq,kq,cnt,xq,ks,ws9,u8,fs8,(x7.set tN (cD S x5 (nQ S bk xy (py ⟨rf,rg,(tN:Int),tx⟩)))),l8,K9,by omega,rfl,rfl,(fun q hq=>hsub9 q (hKj q hq)),hKb9,hq,hxq,hmq,by omega,by omega,hmt.kept hS List.mem_cons_self,hks,hnd,(fun i hi=>hll8 i (hwn i hi)),hsl8,hE8,(hW.put hok hV7.ok hEo heM (by rw [hef];exact hxy) hx5 (fun i hi=>hi) (fun h=>absurd hee h)).weaken (fun e hf hd=>⟨hf,Cc hz ht9 e hd⟩),by omega,hV8,(hS.keep K9 (fun q hq=>List.mem_cons_of_mem _ hq)).tail⟩
    ·have hc81:=hc;clear hc;have hne:cD S x5 (nQ S bk xy (py ⟨rf,rg,(tN:Int),tx⟩))≠x5:=by have h9:=hc81;rw [Bool.not_not] at h9;exact pB.1 h9
     have hd8:pG S (x7.set tN (cD S x5 (nQ S bk xy (py ⟨rf,rg,(tN:Int),tx⟩)))) < pG S x7:=Ju hok hok5 hokx hne hx5;have htl8:tN∈l8:=(hV8.ats tN).2 ⟨_,List.getElem?_set_self (by rw [hV7.xl];exact htN),G5 hok hok5 hokx hne⟩;have hmt8:=hmt.kept hS List.mem_cons_self;refine bP (XF.thenN (aO (aQ (aH rfl rfl (aN (o':=2) iG rfl rfl rfl (aR isAgg3 rfl (aK (hS.at_ 0 rfl) rfl) rfl (Jv hmt8 (by omega) zeroValue119 rfl rfl rfl (aH rfl rfl (bZ rfl rfl rfl (bZ rfl rfl rfl (bF (cs:=[]) hS zeroValue119 rfl rfl fun B7 W7 hS=>aU (i:=0) (vs:=[]) (cs':=[]) (O':=(_::_::_::_::_::_::Ot)) hS sizeOf119 rfl rfl rfl rfl rfl rfl rfl fun W8 hS=>aB rfl rfl (aP (XF.thenN (aO (aQ (aH rfl rfl (fB rfl rfl (aP (XF.thenN (bB rfl (fun hc=>?_) (fun hc=>?_)))))))))))))))))))))
     ·have hc90:=hc;clear hc;have hnin:tN∉ks:=by have h9:=hc90;rw [Bool.not_eq_true'] at h9;exact of_decide_eq_false h9
      have hmt9w:=hmt.kept hS List.mem_cons_self;have hnws:tN∉ws9:=fun h=>hnin ((hks tN).2 h)
      have hS:=hS.keep K9 (fun q hq=>List.mem_cons_of_mem _ hq);refine aO (aQ (aH rfl rfl (aN (o':=2) iG rfl rfl rfl (aR isAgg3 rfl (aK (hS.at_ 1 rfl) rfl) rfl (dY (us:=[]) rfl (Ps) rfl ?_)))));refine Cb hS hmt9w (by omega) (by simp only [maxLen];omega) hwb hKb9 rfl rfl rfl ?_;clear hS hmt9w;intro W19 hS hmt19;obtain ⟨es19,ck19,hme19⟩:=hmt19.blk;have hS:=hS.markMap hme19;refine aP (XF.thenN (aQ (aH rfl rfl (aN (o':=2) iG rfl rfl rfl (aR isAgg3 rfl (aK (hS.at_ 1 rfl) rfl) rfl (cX (us:=[(0,.int .i64 _)]) hS underlying26 sizeOf3 zeroValue3 rfl rfl rfl (pY _) rfl fun B9 W9 hS=>?_))))));refine M8 (gi:=1) hS underlying26 Eb rfl rfl rfl rfl hq rfl rfl (hS.at_ 0 rfl) rfl (by simp only [maxLen];omega) (by show (_+1) * 8≤_;omega) rfl ?_;clear hS;intro q9 vq9 mq9 kq9 xq9 W20 hS hq9 hxq9 hmq9 hmq99;have hmt20:=hmt19.kept hS List.mem_cons_self;have hS:=(hS.keep K9 (fun q hq=>List.mem_cons_of_mem _ hq)).castG (G':=⟨u8,l8.length,atC l8,3,1⟩::⟨vq9,mq9,xq9,3,1⟩::Gt) rfl;refine aB rfl rfl (aP (XF.blkN (XF.thenN (aQ (cY rfl rfl (IntWalk.i64_in _ (by omega)) rfl (aH rfl rfl (aP ?_)))))));exact XF.round (rl - (j+1)) [(0,_),(2,_),(3,_),(4,_),(7,_),(52,_),(53,_),(54,_)] (by omega) ⟨rfl,rfl,rfl,rfl,rfl,rfl,rfl,rfl,trivial⟩ ⟨j+1,q9,vq9,mq9,kq9,cnt+1,xq9,tN::ks,ws9++[tN],u8,fs8,(x7.set tN (cD S x5 (nQ S bk xy (py ⟨rf,rg,(tN:Int),tx⟩)))),l8,K9,by omega,rfl,rfl,(fun q hq=>hsub9 q (hKj q hq)),hKb9,hq9,(by rw [hxq9,hxq];simp [atC]),(by rw [hmq9,hmq,List.length_append];rfl),by omega,by omega,hmt20,(fun i=>by rw [List.mem_cons,List.mem_append,List.mem_singleton,hks i];exact Or.comm),(by rw [List.nodup_append];exact ⟨hnd,by simp,fun a ha b hb=>by simp at hb;subst hb;intro e;subst e;exact hnws ha⟩),(fun i hi=>by rcases List.mem_append.1 hi with h | h;exact hll8 i (hwn i h);simp at h;subst h;exact htl8),hsl8,hE8,(hW.put hok hV7.ok hEo heM (by rw [hef];exact hxy) hx5 (fun i hi=>List.mem_append_left _ hi) (fun _=>by simp;exact .inr rfl)).weaken (fun e hf hd=>⟨hf,Cc hz ht9 e hd⟩),(by rw [List.length_append];simp only [List.length_cons,List.length_nil];omega),hV8,hS.tail.tail.tail⟩
     ·have hc90:=hc;clear hc;have hin:tN∈ks:=by have h9:=hc90;rw [Bool.not_eq_false'] at h9;exact of_decide_eq_true h9
      have hmt9w:=hmt.kept hS List.mem_cons_self;refine bP (XF.blkN (XF.thenN (aQ (cY rfl rfl (IntWalk.i64_in _ (by omega)) rfl (aH rfl rfl (aP ?_))))));exact XF.round (rl - (j+1)) [(0,_),(2,_),(3,_),(4,_),(7,_),(52,_),(53,_),(54,_)] (by omega) ⟨rfl,rfl,rfl,rfl,rfl,rfl,rfl,rfl,trivial⟩ ⟨j+1,q,vq,mq,kq,cnt,xq,ks,ws9,u8,fs8,(x7.set tN (cD S x5 (nQ S bk xy (py ⟨rf,rg,(tN:Int),tx⟩)))),l8,K9,by omega,rfl,rfl,(fun q hq=>hsub9 q (hKj q hq)),hKb9,hq,hxq,hmq,by omega,by omega,hmt9w,hks,hnd,(fun i hi=>hll8 i (hwn i hi)),hsl8,hE8,(hW.put hok hV7.ok hEo heM (by rw [hef];exact hxy) hx5 (fun i hi=>hi) (fun _=>(hks tN).1 hin)).weaken (fun e hf hd=>⟨hf,Cc hz ht9 e hd⟩),by omega,hV8,(hS.keep K9 (fun q hq=>List.mem_cons_of_mem _ hq)).tail.tail⟩
   ·have hc55:=of_decide_eq_false hc;clear hc;rw [List.take_of_length_le (by omega)] at hW;have hW:=hW.done (fun t ht=>by obtain ⟨i,h1,_⟩:=hkf t ht;exact ⟨i,h1⟩);refine dT (XF.thenX (XF.thenX (XF.blkX (XF.blkN ?_))));exact XF.round (pG S x7+ws9.length) [(0,_),(2,_),(3,_),(4,_)] (by rw [List.length_cons];omega) ⟨rfl,rfl,rfl,rfl,trivial⟩ ⟨q,vq,mq,kq,cnt,xq,ks,ws9,v7,f7,x7,l7,Kj,rfl,rfl,hKj,hKbj,hq,hxq,hmq,hd1,hd2,hmt,hks,hnd,hwn,hE,hW,hV7,hS⟩
  ·have hc38:=of_decide_eq_false hc;clear hc;have hws:ws=[]:=List.eq_nil_of_length_eq_zero (by omega);subst hws;refine dT (XF.thenX (XF.thenX (XF.blkX (XF.resN (Rf results46) ?_))));exact ⟨v9,l9,f9s,x9s,Kk,rfl,hKk,hV9,hE,hW.closed,(hS.permG (List.Perm.swap _ _ _)).restG⟩
end
end Go.Proofs.YtbmieipifgailaaGreatDoor
