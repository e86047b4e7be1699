import Derived.Test.YtmgnkpibpjgncaaGreatDoorPaG
set_option maxRecDepth 100000
set_option maxHeartbeats 4000000
set_option linter.unusedVariables false
set_option linter.unusedVariables false
set_option linter.unusedSimpArgs false
set_option linter.unusedSectionVars false
set_option linter.unnecessarySimpa false
namespace Go.Proofs.YtmgnkpibpjgncaaGreatDoor
open Go Go.RowKit
theorem xJ (v00:Value) (v01:Value) (v02:Value) (v1:Int) (v2:Int) (v3a:Option Addr) (v3l:Nat) (v3c:Nat) (v4a:Option Addr) (v4l:Nat) (v4c:Nat):Tryz.prog.built 29 [(0,.agg #[v00,v01,v02]),(1,.int .i64 v1),(2,.int .i64 v2),(3,.slice v3a v3l v3c),(4,.slice v4a v4l v4c)]=some #[v00,v01,v02,.int .i64 v1,.int .i64 v2,.slice v3a v3l v3c,.slice v4a v4l v4c]:=by kernel_rfl
theorem wF (v1:Int) (v2:Int) (v30:Value) (v31:Value) (v32:Value) (v33:Value) (v34:Value) (v35:Value):Tryz.prog.built 66 [(1,.int .i64 v1),(2,.int .i64 v2),(3,.agg #[v30,v31,v32,v33,v34,v35])]=some #[.int .i64 0,.int .i64 v1,.int .i64 v2,v30,v31,v32,v33,v34,v35]:=by kernel_rfl
theorem Lq (v1:Int) (v30:Value) (v31:Value) (v32:Value) (v33:Value) (v34:Value) (v35:Value):Tryz.prog.built 66 [(1,.int .i64 v1),(3,.agg #[v30,v31,v32,v33,v34,v35])]=some #[.int .i64 0,.int .i64 v1,.int .i64 0,v30,v31,v32,v33,v34,v35]:=by kernel_rfl
theorem bs_27_3 (v00:Value) (v01:Value) (v02:Value) (v03:Value) (v04:Value) (v05:Value) (v06:Value) (v07:Value) (v08:Value) (v10:Value) (v11:Value) (v12:Value) (v13:Value) (v14:Value) (v15:Value) (v16:Value) (v17:Value) (v18:Value) (v20:Value) (v21:Value) (v22:Value) (v23:Value) (v24:Value) (v25:Value) (v26:Value) (v27:Value) (v28:Value):Instr.fill (fun i=>some (i * 9,9)) ((Array.range (3 * 9)).map ((Value.cells (.agg #[.int .i64 0,.int .i64 0,.int .i64 0,.bool false,.int .i64 0,.int .u64 0,.slice none 0 0,.slice none 0 0,.slice none 0 0]))[· % (Value.cells (.agg #[.int .i64 0,.int .i64 0,.int .i64 0,.bool false,.int .i64 0,.int .u64 0,.slice none 0 0,.slice none 0 0,.slice none 0 0])).size]!)) [(0,.agg #[v00,v01,v02,v03,v04,v05,v06,v07,v08]),(1,.agg #[v10,v11,v12,v13,v14,v15,v16,v17,v18]),(2,.agg #[v20,v21,v22,v23,v24,v25,v26,v27,v28])]=some (List.toArray [v00,v01,v02,v03,v04,v05,v06,v07,v08,v10,v11,v12,v13,v14,v15,v16,v17,v18,v20,v21,v22,v23,v24,v25,v26,v27,v28]):=by kernel_rfl
def wC9 (c:Int):WV:=.mk ⟨false,c,0,none,0,0,[],none,0,0,[],none,0,0⟩ []
abbrev exA (b1 b2:Nat):AV:=⟨.mk ⟨2,9,none,0,0⟩ [],2,1,some ⟨b1,0,none⟩,1,1,[1],some ⟨b2,0,none⟩,3,3,[⟨0,0,1,wC9 3⟩,⟨0,-1,0,wC9 1⟩,⟨0,0,1,wC9 5⟩]⟩
def pyC (t:TV):PX:=.one t.x.f.pf
theorem Gk (w:World) (c:Int):WIn w 1 (wC9 c):=⟨⟨.inl rfl,rfl,by show 0 < 18446744073709551616;decide,(fun r hr=>by cases hr),.inl rfl,rfl,(fun c hc=>by cases hc),Nat.zero_le _⟩,rfl,.inl rfl,fun p hp=>by cases hp⟩
theorem U7 {w:World} {c:Int} (h0:0≤c) (h1:c≤9):XIs w S9 (wC9 c).f (.one (wC9 c).f.pf):=PIs.of (t:=2) (n:=9) (by decide) (Gk w c).1 (by simp [fR,wC9,WV.f,iP,iO,h0,h1])
theorem exA_in {w:World} {b1 b2:Nat} {T1 T2:TypeId} (h1:w.heap[b1]?=some (.cells (List.toArray [.int .i64 1]) T1 (0,0)))
  (h2:w.heap[b2]?=some (.cells (List.toArray ((⟨0,0,1,wC9 3⟩:TV).nine++(⟨0,-1,0,wC9 1⟩:TV).nine++(⟨0,0,1,wC9 5⟩:TV).nine)) T2 (0,0))):AIn w 1 1 (exA b1 b2):=by
 refine ⟨⟨rfl,.inl rfl,fun p hp=>by cases hp⟩,Gi h1,rfl,.inr ⟨b2,0,rfl,fun i r hi=>?_⟩,rfl,fun r hr=>?_,by show 1≤9223372036854775807;decide,by show 3≤9223372036854775807;decide⟩
 ·match i,hi with
  | 0,hi=>cases hi;exact aD.own (j:=0) (m:=9) h2 rfl
  | 1,hi=>cases hi;exact aD.own (j:=9) (m:=9) h2 rfl
  | 2,hi=>cases hi;exact aD.own (j:=18) (m:=9) h2 rfl
  | i+3,hi=>exact absurd hi (by simp)
 ·simp only [List.mem_cons,List.not_mem_nil,or_false] at hr
  rcases hr with rfl | rfl | rfl<;>exact Gk w _
theorem U8 {w:World} {b1 b2:Nat} (h:AIn w 1 1 (exA b1 b2)):AutoOk w S9 pyC 2 (exA b1 b2):=by
 refine ⟨lT,⟨none,0,rfl⟩,rfl,by decide,h.frow,h.flen,h.fmax,h.trow,h.tlen,by show 3≤65536;decide,?_,?_,?_,?_,by show (0:Int)≤1∧(1:Int)≤4096;decide,?_⟩
 ·intro s hs;simp at hs;subst hs;decide
 ·intro t ht;simp only [List.mem_cons,List.not_mem_nil,or_false] at ht;rcases ht with rfl | rfl | rfl<;>decide
 ·intro t ht;simp only [List.mem_cons,List.not_mem_nil,or_false] at ht;rcases ht with rfl | rfl | rfl<;>decide
 ·intro t ht
  show -1≤t.g∧t.g < 1
  simp only [List.mem_cons,List.not_mem_nil,or_false] at ht
  rcases ht with rfl | rfl | rfl<;>(dsimp only;omega)
 ·intro t ht;simp only [List.mem_cons,List.not_mem_nil,or_false] at ht;rcases ht with rfl | rfl | rfl
  ·exact U7 (by decide) (by decide)
  ·exact U7 (by decide) (by decide)
  ·exact U7 (by decide) (by decide)
theorem exA_E {b1 b2:Nat}:fE (exA b1 b2)=0:=by
 have e1:dV (exA b1 b2).s=0:=by show dV (.mk ⟨2,9,none,0,0⟩ [])=0;decide
 have e2:dI (exA b1 b2).st (exA b1 b2).sy (exA b1 b2).fs (exA b1 b2).ts=true:=by show dI 2 1 [1] [⟨0,0,1,wC9 3⟩,⟨0,-1,0,wC9 1⟩,⟨0,0,1,wC9 5⟩]=true;decide
 have e3:∀ c:Int,c=3∨c=1∨c=5→lI (exA b1 b2).s (wC9 c)=0:=fun c hc=>by rcases hc with rfl | rfl | rfl<;>(show lI (.mk ⟨2,9,none,0,0⟩ []) _=0;decide)
 unfold fE
 rw [if_neg (fun h=>h e1),if_neg (by show ¬ 65536 < 3;decide),if_neg (by rw [e2];decide),if_pos]
 refine List.all_eq_true.2 fun t ht=>decide_eq_true ?_
 simp only [List.mem_cons,List.not_mem_nil,or_false] at ht
 rcases ht with rfl | rfl | rfl
 ·exact e3 3 (.inl rfl)
 ·exact e3 1 (.inr (.inl rfl))
 ·exact e3 5 (.inr (.inr rfl))
theorem No {b1 b2:Nat} (p:Int) (hp:p=0∨p=1):gP (exA b1 b2) [p] [0]=0:=Nk exA_E (fun y hy=>by simp at hy;subst hy;show inQ y 2=true;rcases hp with rfl | rfl<;>decide) (fun y hy=>by simp at hy;subst hy;show inQ 0 1=true;decide)
theorem xW (w:World) :
  Calls Tryz.prog 35 #[] w (fun e w'=>∃ b1 b2,e = .returned (exA b1 b2).val∧(∀ w2,dS w.heap.size w' w2→AIn w2 1 1 (exA b1 b2))∧Below w.heap.size w w'):=by
 refine cD (args:=[]) Tryz.func35 rfl Tryz.ntmps35 rfl ?_
 have hS:=St.start w
 refine aM (aQ (bC (cs:=[_,_,_,_,_,_,_]) hS Tryz.zeroValue29 rfl rfl fun B1 W1 hS=>aO (XF.thenN (aM (aQ (cX (us:=[(0,.int .i64 _),(1,.int .i64 _)]) rfl (Jm _ _) rfl (cT (us:=[(0,.int .i64 _)]) hS Tryz.underlying26 Tryz.sizeOf3 Tryz.zeroValue3 rfl rfl rfl (gS _) rfl fun B2 W2 hS=>cX (us:=[(1,.int .i64 _)]) rfl (zA _) rfl (cX (us:=[(1,.int .i64 _),(2,.int .i64 _),(3,.agg (List.toArray [_,_,_,_,_,_]))]) rfl (wF _ _ _ _ _ _ _ _) rfl (cX (us:=[(1,.int .i64 _)]) rfl (zA _) rfl (cX (us:=[(1,.int .i64 _),(3,.agg (List.toArray [_,_,_,_,_,_]))]) rfl (Lq _ _ _ _ _ _ _) rfl (cX (us:=[(1,.int .i64 _)]) rfl (zA _) rfl (cX (us:=[(1,.int .i64 _),(2,.int .i64 _),(3,.agg (List.toArray [_,_,_,_,_,_]))]) rfl (wF _ _ _ _ _ _ _ _) rfl (cT (us:=[(0,.agg (List.toArray [_,_,_,_,_,_,_,_,_])),(1,.agg (List.toArray [_,_,_,_,_,_,_,_,_])),(2,.agg (List.toArray [_,_,_,_,_,_,_,_,_]))]) hS Tryz.underlying27 Tryz.sizeOf66 Tryz.zeroValue66 rfl rfl rfl (bs_27_3 _ _ _ _ _ _ _ _ _ _ _ _ _ _ _ _ _ _ _ _ _ _ _ _ _ _ _) rfl fun B3 W3 hS=>cX (us:=[(0,.agg (List.toArray [_,_,_])),(1,.int .i64 _),(2,.int .i64 _),(3,.slice _ _ _),(4,.slice _ _ _)]) rfl (xJ _ _ _ _ _ _ _ _ _ _ _) rfl (aU (i:=2) (vs:=[_,_,_,_,_,_,_]) (cs':=[_,_,_,_,_,_,_]) (O':=[_,_,_]) hS Tryz.sizeOf29 rfl rfl rfl rfl rfl rfl rfl fun W4 hS=>aO (XF.thenN (bR (XF.res (dP (vs:=[_,_,_,_,_,_,_]) Tryz.results35 Tryz.isAgg29 Tryz.sizeOf29 rfl (aD.own (j:=0) (m:=7) (hS.at_ 2 rfl) rfl)) ?_)))))))))))))))))
 exact ⟨B2,B3,rfl,fun w2 hg=>exA_in ((hg.2 _ (hS.ge 1 rfl) (cC (hS.at_ 1 rfl))).trans (hS.at_ 1 rfl)) ((hg.2 _ (hS.ge 0 rfl) (cC (hS.at_ 0 rfl))).trans (hS.at_ 0 rfl)),hS.below⟩
theorem Qe (a:AV) (wa:Option Addr) (wl wc:Nat) (w:World) :
  Calls Tryz.prog 11 #[a.val,.slice wa wl wc] w (fun e w'=>∃ b:Bool,e = .returned (.bool b)∧(b=true→(a.tl:Int)≤300∧a.st≤300∧(wl:Int)≤40)∧Below w.heap.size w w'):=by
 refine cD (args:=[a.val,.slice wa wl wc]) Tryz.func11 rfl Tryz.ntmps11 rfl ?_
 have hS:=St.start w
 refine aM (aQ (bT (cs:=[_,_,_,_,_,_,_]) hS rfl rfl rfl fun B1 W1 hS=>aB rfl rfl (aO (XF.thenN (aM (aQ (aN (o':=6) eW rfl rfl rfl (aS Tryz.isAgg27 rfl (aJ (hS.at_ 0 rfl) rfl) rfl (cJ Tryz.underlying27 rfl rfl (wH rfl rfl rfl (aH rfl rfl (bV (d:=9) rfl (fun hc=>?_) (fun hc=>?_)))))))))))))
 ·have hg9:=of_decide_eq_true hc;clear hc
  refine aI (d:=9) rfl rfl (aN (o':=3) mA rfl rfl rfl (aI (d:=9) rfl rfl (aS Tryz.isAgg3 rfl (aJ (hS.at_ 0 rfl) rfl) rfl (aI (d:=9) rfl rfl (wH rfl rfl rfl (bF rfl rfl rfl (aH rfl rfl (bV (d:=14) rfl (fun hc=>?_) (fun hc=>?_)))))))))
  ·have hg14:=of_decide_eq_true hc;clear hc
   refine aI (d:=14) rfl rfl (aH rfl rfl (aI (d:=14) rfl rfl (cJ Tryz.underlying26 rfl rfl (aI (d:=14) rfl rfl (wH rfl rfl rfl (bF rfl rfl rfl (aB rfl rfl (aO (XF.thenN (bR (XF.res (cO Tryz.results11 rfl) ?_)))))))))))
   exact ⟨_,rfl,fun h=>⟨hg9,hg14,of_decide_eq_true h⟩,hS.below⟩
  ·have hg14:=of_decide_eq_false hc;clear hc
   refine aK (d:=14) rfl rfl rfl rfl (aK (d:=14) rfl rfl rfl rfl (aK (d:=14) rfl rfl rfl rfl (bU rfl rfl rfl (aB rfl rfl (aO (XF.thenN (bR (XF.res (cO Tryz.results11 rfl) ?_))))))))
   exact ⟨false,rfl,fun h=>by (cases h),hS.below⟩
 ·have hg9:=of_decide_eq_false hc;clear hc
  refine aK (d:=9) rfl rfl rfl rfl (aK (d:=9) rfl rfl rfl rfl (aK (d:=9) rfl rfl rfl rfl (bU rfl rfl rfl (aH rfl rfl (aK (d:=14) rfl rfl rfl rfl (aK (d:=14) rfl rfl rfl rfl (aK (d:=14) rfl rfl rfl rfl (bU rfl rfl rfl (aB rfl rfl (aO (XF.thenN (bR (XF.res (cO Tryz.results11 rfl) ?_)))))))))))))
  exact ⟨false,rfl,fun h=>by (cases h),hS.below⟩
theorem Gl:bK Tryz.prog 16=true:=by kernel_rfl
theorem Np:bK Tryz.prog 35=true:=by kernel_rfl
theorem Qf (w:World) (ht:Tabs w) :
  Calls Tryz.prog 10 #[] w (fun e w'=>e = .returned (.bool (true))∧Below w.heap.size w w'):=by
 refine cD (args:=[]) Tryz.func10 rfl Tryz.ntmps10 rfl ?_
 have hS:=St.start w
 refine aM (aQ (aB rfl rfl (aO (XF.thenN (aM (aQ (cK (vs:=[]) hS Np rfl (xW _) rfl ?_)))))))
 rintro e W1 ⟨b1,b2,rfl,hex,hb⟩
 refine ⟨_,rfl,hb,fun hS'=>?_⟩
 clear hS;have hS:=hS';clear hS'
 refine cT (us:=[(0,.int .i64 _)]) hS Tryz.underlying26 Tryz.sizeOf3 Tryz.zeroValue3 rfl rfl rfl (gS _) rfl fun B2 W2 hS=>?_
 have hx0:=hex _ (hS.since 0 rfl)
 refine cK (vs:=[_,_,_,_]) hS Gl rfl (xI 1 1 (exA b1 b2) S9 pyC 2 false 0 _ hx0 (U8 hx0) (by decide) _ 1 1 [0] (Gi (hS.at_ 0 rfl)) rfl (by decide) (No _ (.inl rfl)) (ht.below hS.below)) rfl ?_
 rintro e W3 ⟨f1,z1,rfl,hn1,hl1,hb⟩
 refine ⟨_,rfl,hb,fun hS'=>?_⟩
 clear hS;have hS:=hS';clear hS'
 have hz1:z1 = .one (pC 3):=ex_lub hl1
 subst hz1
 have hc1:f1.c=3:=(lR hn1.is.pf).2.1
 have hz1:f1.z=false:=(lR hn1.is.pf).1
 refine aH rfl rfl (bE rfl rfl rfl (bE rfl rfl rfl (bC (cs:=[_,_,_,_,_,_]) hS Tryz.zeroValue44 rfl rfl fun B4 W4 hS=>aU (i:=0) (vs:=[_,_,_,_,_,_]) (cs':=[_,_,_,_,_,_]) (O':=[_,_]) hS Tryz.sizeOf44 rfl rfl rfl rfl rfl rfl rfl fun W5 hS=>aB rfl rfl (aO (XF.thenN (aM (aQ (cK (vs:=[]) hS Np rfl (xW _) rfl ?_))))))))
 rintro e W6 ⟨b3,b4,rfl,hex2,hb⟩
 refine ⟨_,rfl,hb,fun hS'=>?_⟩
 clear hS;have hS:=hS';clear hS'
 refine cT (us:=[(0,.int .i64 _)]) hS Tryz.underlying26 Tryz.sizeOf3 Tryz.zeroValue3 rfl rfl rfl (gS _) rfl fun B7 W7 hS=>?_
 have hx1:=hex2 _ (hS.since 0 rfl)
 refine cK (vs:=[_,_,_,_]) hS Gl rfl (xI 1 1 (exA b3 b4) S9 pyC 2 false 1 _ hx1 (U8 hx1) (by decide) _ 1 1 [0] (Gi (hS.at_ 0 rfl)) rfl (by decide) (No _ (.inr rfl)) (ht.below hS.below)) rfl ?_
 rintro e W8 ⟨f2,z2,rfl,hn2,hl2,hb⟩
 refine ⟨_,rfl,hb,fun hS'=>?_⟩
 clear hS;have hS:=hS';clear hS'
 have hz2:z2=bX S9:=ex_none hl2
 subst hz2
 have hz2:f2.z=true:=(lR hn2.is.pf).1
 refine aH rfl rfl (bE rfl rfl rfl (bE rfl rfl rfl (bC (cs:=[_,_,_,_,_,_]) hS Tryz.zeroValue44 rfl rfl fun B9 W9 hS=>aU (i:=0) (vs:=[_,_,_,_,_,_]) (cs':=[_,_,_,_,_,_]) (O':=[_,_,_,_]) hS Tryz.sizeOf44 rfl rfl rfl rfl rfl rfl rfl fun W10 hS=>aB rfl rfl (aO (XF.thenN (aM (aQ (aH rfl rfl (cH rfl rfl rfl (aH rfl rfl (bV (d:=19) rfl (fun hc=>?_) (fun hc=>absurd (of_decide_eq_false hc) (by simp)))))))))))))
 have hc:=of_decide_eq_true hc
 refine aI (d:=19) rfl rfl (aH rfl rfl (aI (d:=19) rfl rfl (cH rfl rfl rfl (bF rfl rfl rfl (aH rfl rfl (bV (d:=23) rfl (fun hc=>?_) (fun hc=>absurd (of_decide_eq_false hc) (by simp))))))))
 have hc:=of_decide_eq_true hc
 refine aI (d:=23) rfl rfl (aN (o':=1) eG rfl rfl rfl (aI (d:=23) rfl rfl (aS Tryz.isAgg3 rfl (aJ (hS.at_ 2 rfl) rfl) rfl (aI (d:=23) rfl rfl (cH rfl rfl rfl (bF rfl rfl rfl (aH rfl rfl (bV (d:=28) rfl (fun hc=>?_) (fun hc=>absurd (of_decide_eq_false hc) (by exact fun h=>h hc1))))))))))
 have hc:=of_decide_eq_true hc
 refine aI (d:=28) rfl rfl (aN (o':=0) dG rfl rfl rfl (aI (d:=28) rfl rfl (aS Tryz.isAgg4 rfl (aJ (hS.at_ 2 rfl) rfl) rfl (aI (d:=28) rfl rfl (eO rfl rfl (bF rfl rfl rfl (aH rfl rfl ?_)))))))
 refine bV (d:=33) rfl (fun hc=>?_) (fun hc=>absurd hc (by rw [hz1];decide))
 skip
 refine aI (d:=33) rfl rfl (aN (o':=0) dG rfl rfl rfl (aI (d:=33) rfl rfl (aS Tryz.isAgg4 rfl (aJ (hS.at_ 0 rfl) rfl) rfl (bF rfl rfl rfl (aB rfl rfl (aO (XF.thenN (bR (XF.res (cO Tryz.results10 rfl) ?_)))))))))
 exact ⟨bQ hz2,hS.below⟩
theorem goes_10:bK Tryz.prog 10=true:=by kernel_rfl
theorem goes_11:bK Tryz.prog 11=true:=by kernel_rfl
def lU (S:PS) (bk:Bool) (py:TV→PX) (ts:List TV) (s:Int×PX×List Int) (j:Int):Option (Int×PX×List Int) :=
 if j < 0 then none else if (ts.length:Int)≤j then none else match ts[j.toNat]? with
  | none=>none
  | some t=>if t.f=s.1 then some (t.t,fV S bk s.2.1 (py t),if 0≤t.g then s.2.2++[t.g] else s.2.2) else none
def sQ (S:PS) (bk:Bool) (py:TV→PX) (ts:List TV) (l:List Int) (s:Int×PX×List Int):Option (Int×PX×List Int):=l.foldlM (lU S bk py ts) s
section
variable {S:PS} {bk:Bool} {py:TV→PX} {ts:List TV} {l:List Int} {s s1:Int×PX×List Int} {i:Nat} {y:Int}
theorem oT (h:l[i]?=some y) (h1:sQ S bk py ts (l.take i) s=some s1):sQ S bk py ts (l.take (i+1)) s=lU S bk py ts s1 y:=by
 unfold sQ at h1 ⊢
 rw [List.take_add_one,h,List.foldlM_append,h1]
 show (lU S bk py ts s1 y >>= fun s=>pure s)=_
 cases lU S bk py ts s1 y<;>rfl
theorem eE (h:l[i]?=some y) (h1:sQ S bk py ts (l.take i) s=some s1) (h2:lU S bk py ts s1 y=none):sQ S bk py ts l s=none:=by
 have h3:=oT h h1
 rw [h2] at h3
 have e:sQ S bk py ts (l.take (i+1)++l.drop (i+1)) s=none:=by
  unfold sQ at h3 ⊢
  rw [List.foldlM_append,h3];rfl
 rw [List.take_append_drop] at e;exact e
theorem mE (h:y < 0):lU S bk py ts s y=none:=by unfold lU;rw [if_pos h]
theorem mF (h:(ts.length:Int)≤y):lU S bk py ts s y=none:=by
 unfold lU
 rw [if_pos h]
 exact ite_self _
theorem oU {j:Nat} {t:TV} {q:Int} {x:PX} {u:List Int} (ht:ts[j]?=some t) (h:t.f≠q):lU S bk py ts (q,x,u) (j:Int)=none:=by
 have hl:=(List.getElem?_eq_some_iff.1 ht).1
 unfold lU
 rw [if_neg (by omega),if_neg (by omega),Int.toNat_natCast,ht]
 exact if_neg h
theorem wG {j:Nat} {t:TV} {q:Int} {x:PX} {u:List Int} (ht:ts[j]?=some t) (h:t.f=q):lU S bk py ts (q,x,u) (j:Int)=some (t.t,fV S bk x (py t),if 0≤t.g then u++[t.g] else u):=by
 have hl:=(List.getElem?_eq_some_iff.1 ht).1
 unfold lU
 rw [if_neg (by omega),if_neg (by omega),Int.toNat_natCast,ht]
 exact if_pos h
structure PE where
 e:Int
 u:List Int
 b:Bool
 x:Option PX
noncomputable def pE (S:PS) (bk:Bool) (py:TV→PX) (a:AV) (fr:Int) (l:List Int):PE :=
 if gP a [fr] []≠0 then ⟨gP a [fr] [],[],false,none⟩ else match sQ S bk py a.ts l (fr,jS S,[]) with
  | none=>⟨5,[],false,none⟩
  | some (q,x,u)=>⟨0,u,uE a.fs q,some x⟩
theorem uG {a:AV} {fr:Int} (h:gP a [fr] []≠0):pE S bk py a fr l=⟨gP a [fr] [],[],false,none⟩:=by unfold pE;rw [if_pos h]
theorem fI {a:AV} {fr:Int} (h:gP a [fr] []=0) (h1:sQ S bk py a.ts l (fr,jS S,[])=none):pE S bk py a fr l=⟨5,[],false,none⟩:=by unfold pE;rw [if_neg (fun h9=>h9 h),h1]
theorem Gm {a:AV} {fr q:Int} {x:PX} {u:List Int} (h:gP a [fr] []=0) (h1:sQ S bk py a.ts l (fr,jS S,[])=some (q,x,u)):pE S bk py a fr l=⟨0,u,uE a.fs q,some x⟩:=by unfold pE;rw [if_neg (fun h9=>h9 h),h1]
abbrev zF:WF:=⟨false,0,0,none,0,0,[],none,0,0,[],none,0,0⟩
def Qg (S:PS) (p:PE) (w:World) (e:Ending) (w':World):Prop:=∃ (f:WF) (a9:Option Addr) (c9:Nat),e = .returned (.tuple #[f.val,.slice a9 p.u.length c9,.bool p.b,.int .i64 p.e])∧If w.heap.size w' a9 c9 p.u∧(match p.x with | none=>f=zF | some x=>fU w.heap.size w' S f x)∧Below w.heap.size w w'
theorem lL {lo:Nat} {W:World}:If lo W none 0 []:=⟨rfl,.inl ⟨rfl,rfl⟩⟩
theorem Qh {fs:List Int} {n y:Int} {i:Nat} (h:fs[i]?=some y):uE (fs.take (i+1)) n=(uE (fs.take i) n || decide (y=n)):=by
 unfold uE;rw [List.take_add_one,h,List.any_append];simp
theorem kZ {P:Program} {n:Nat} {l:Fr} {W:World} {fn:Func} {r t u v:Nat} {T:TypeId} {B o:Nat} {vs:List Value} {x y z:Value} (hf:fn.results=#[.cell r T,.tmp t,.tmp u,.tmp v]) (hT:∀ w,(isAgg T).run P w = .ok true w) (hS:∀ w,(sizeOf T).run P w = .ok vs.length w) (hl:look l r=some (.pointer (some ⟨B,o,none⟩))) (hc:aD W B o vs) (hx:look l t=some x) (hy:look l u=some y) (hz:look l v=some z) :
  ∀ a,Has n l a→(results fn a.tmps).run P W = .ok (.tuple #[.agg vs.toArray,x,y,z]) W:=fun a ha=>by
 have h1:=run_loadCells_list (P:=P) W ⟨B,o,none⟩ vs (fun j u hj=>by rw [Addr.add_lit];exact hc.get j u hj)
 have h2:=ha.at_ r _ hl
 have h3:=ha.at_ t _ hx
 have h4:=ha.at_ u _ hy
 have h5:=ha.at_ v _ hz
 rw [Array.getD_eq_getD_getElem?] at h2 h3 h4 h5
 simp [results,hf,h2,h3,h4,h5,asAddr,loadVar,hT,hS,h1]
end
theorem U9 (ds d:Nat) (a:AV) (S:PS) (py:TV→PX) (n:Nat) (bk:Bool) (p:Nat) (w:World) (hin:AIn w ds d a) (hA:AutoOk w S py n a) (hp:p < n) (la:Option Addr) (ll lc:Nat) (l:List Int) (hla:Row w la l) (hll:l.length=ll) (hlm:ll≤4096) (hask:gP a [(p:Int)] []=0) (ht:Tabs w) :
  Calls Tryz.prog 21 #[a.val,.bool bk,.int .i64 (p:Int),.slice la ll lc] w (Qg S (pE S bk py a (p:Int) l) w):=by
 refine cD (args:=[a.val,.bool bk,.int .i64 (p:Int),.slice la ll lc]) Tryz.func21 rfl Tryz.ntmps21 rfl ?_
 have hS:=St.start w
 have hfm9:=hA.fmax
 refine aM (aQ (bT (cs:=[_,_,_,_,_,_,_]) hS rfl rfl rfl fun B1 W1 hS=>bC (cs:=[_,_,_,_,_,_]) hS Tryz.zeroValue44 rfl rfl fun B2 W2 hS=>aB rfl rfl (aB rfl rfl (aB rfl rfl (aO (XF.thenN (aM (aM (aQ (aR (vs:=[_,_,_,_,_,_,_]) Tryz.isAgg29 Tryz.sizeOf29 rfl (aD.own (j:=0) (m:=7) (hS.at_ 1 rfl) rfl) rfl (aH rfl rfl (cT (us:=[(0,.int .i64 _)]) hS Tryz.underlying26 Tryz.sizeOf3 Tryz.zeroValue3 rfl rfl rfl (gS _) rfl fun B3 W3 hS=>cB (vs:=[_,_]) hS yU rfl (mB ds d a _ (hin.below hS.below) _ 1 1 [(p:Int)] (Gi (hS.at_ 0 rfl)) rfl (by decide)) rfl fun W4 hS=>aB rfl rfl (aO (XF.thenN (aM (aQ (aH rfl rfl (dD rfl rfl rfl (aO (XF.thenN (bB rfl (fun hc=>absurd (of_decide_eq_true hc) (by exact fun h=>h hask)) (fun hc=>?_))))))))))))))))))))))
 have hc:=of_decide_eq_false hc
 refine bJ (XF.thenN (aM (aQ (aR (vs:=[_,_,_,_,_,_,_]) Tryz.isAgg29 Tryz.sizeOf29 rfl (aD.own (j:=0) (m:=7) (hS.at_ 2 rfl) rfl) rfl (aH rfl rfl (gC (vs:=[_,_]) Gj rfl (pV S a bk n _ _ w _ hS hA.si hA.ok hA.st hA.n4) rfl ?_))))))
 rintro e W9 ⟨RB,VA,IA,WA,VX,IX,WX,bm,f0,Kr,rfl,hKr,H0,hwb,hmap,hKb,hS9⟩
 refine ⟨_,rfl,?_⟩
 clear hS;have hS:=(hS9.tail.tail.tail.tail.tail.tail.perm (List.Perm.swap _ _ _)).tail;clear hS9
 refine aB rfl rfl (aO (XF.thenN (aM (aQ (aH rfl rfl (cL rfl rfl (aN (o':=0) lK rfl rfl rfl (aR (vs:=[_,_,_,_,_,_,_,_,_]) Tryz.isAgg76 Tryz.sizeOf76 rfl (aD.own (j:=0) (m:=9) (hS.at_ 0 rfl) rfl) rfl ?_))))))))
 have hsz1:=hS.below.size
 refine cK (vs:=[_]) hS Lz rfl (Av S a.s.f f0 _ (hA.si.below hS.below) hA.ok) rfl ?_
 rintro e W5 ⟨f1,rfl,hn1,hb⟩
 refine ⟨_,rfl,hb,fun hS'=>?_⟩
 clear hS;have hS:=hS';clear hS'
 refine aH rfl rfl (bC (cs:=[_,_,_,_,_,_]) hS Tryz.zeroValue44 rfl rfl fun B6 W6 hS=>aU (i:=0) (vs:=[_,_,_,_,_,_]) (cs':=[_,_,_,_,_,_]) (O':=[_,_,_,_]) hS Tryz.sizeOf44 rfl rfl rfl rfl rfl rfl rfl fun W7 hS=>aB rfl rfl (aO (XF.thenN (aM (aQ (aB rfl rfl (aO (XF.thenN (aM (aM (aQ (aH rfl rfl (cJ Tryz.underlying26 rfl rfl (aH rfl rfl (aO (XF.thenN (bP (eA (fun m lf W=>∃ (i:Nat) (q:Int) (x:PX) (fz:WF) (u:List Int) (v:Value) (Kk:List (Nat×World)),i≤ll∧m=ll - i∧lf=[(4,.pointer (some ⟨B1,0,none⟩)),(8,.pointer (some ⟨B2,0,none⟩)),(13,.pointer (some ⟨RB,0,none⟩)),(14,.pointer (some ⟨B6,0,none⟩)),(15,.int .i64 q),(16,v),(40,.slice la ll lc),(41,.int .i64 (ll:Int)),(42,.int .i64 (i:Int))]∧sQ S bk py a.ts (l.take i) ((p:Int),jS S,[])=some (q,x,u)∧u.length≤i∧kI w Kk (fun W2=>fU w.heap.size W2 S fz x)∧St w [(B6,fz.six,44),(RB,rdC f0 a bk bm VA VX,109),(B2,[.bool false,.int .i64 0,.int .u64 0,.slice none 0 0,.slice none 0 0,.slice none 0 0],44),(B1,a.seven,29)] [⟨v,u.length,u.map (Value.int .i64),3,1⟩] Kk W) (ll - 0) ([(4,_),(8,_),(13,_),(14,_),(15,_),(16,_),(40,_),(41,_),(42,_)]) ⟨rfl,rfl,rfl,rfl,rfl,rfl,rfl,rfl,rfl,trivial⟩ (⟨0,_,_,f1,[],_,_,Nat.zero_le _,rfl,rfl,rfl,Nat.le_refl _,(fun h2 hk=>(hn1.agree (h2.kept _ (hk _ List.mem_cons_self)).1).mono hsz1),(hS.newG 3 1).castG rfl⟩) ?_))))))))))))))))))
 clear hS
 rintro m lf W ⟨i,q,x,fz,u,v,Kk,hi,rfl,rfl,hpt,hul,HZ,hS⟩
 refine aM (aQ (cS rfl rfl rfl (aO (XF.thenN (aM (bB rfl (fun hc=>?_) (fun hc=>?_)))))))
 ·have hc43:=of_decide_eq_true hc;clear hc
  have hk:i < ll:=by omega
  obtain ⟨b,off,y,rfl,hy,hyc⟩:=hla.at1 (show i < l.length by omega)
  have k1:=hS.old hyc
  refine bJ (XF.thenN (aM (bP (aM (aQ (cM  Tryz.underlying26 Tryz.sizeOf3 rfl rfl rfl (by omega) rfl rfl (aS Tryz.isAgg3 rfl (k1) rfl (aB rfl rfl (aO (XF.thenN (aM (aM (aQ (aH rfl rfl (cS rfl rfl rfl (aH rfl rfl (bV (d:=48) rfl (fun hc=>?_) (fun hc=>?_))))))))))))))))))
  ·have hg48:=of_decide_eq_true hc;clear hc
   refine aK (d:=48) rfl rfl rfl rfl (aK (d:=48) rfl rfl rfl rfl (aK (d:=48) rfl rfl rfl rfl (aK (d:=48) rfl rfl rfl rfl (aK (d:=48) rfl rfl rfl rfl (bF rfl rfl rfl (aH rfl rfl (aK (d:=55) rfl rfl rfl rfl (aK (d:=55) rfl rfl rfl rfl (aK (d:=55) rfl rfl rfl rfl (aK (d:=55) rfl rfl rfl rfl (aK (d:=55) rfl rfl rfl rfl (aK (d:=55) rfl rfl rfl rfl (aK (d:=55) rfl rfl rfl rfl (aK (d:=55) rfl rfl rfl rfl (bF rfl rfl rfl (aO (XF.thenN (eZ rfl (aM (aQ (cX (us:=[]) rfl (jG) rfl (aU (i:=2) (vs:=[_,_,_,_,_,_]) (cs':=[_,_,_,_,_,_]) (O':=[_,_,_,_]) hS Tryz.sizeOf44 rfl rfl rfl rfl rfl rfl rfl fun W8 hS=>?_))))))))))))))))))))))
   refine aB rfl rfl (aB rfl rfl (aB rfl rfl (aO (XF.thenN (bR (XF.thenR (XF.blkR (XF.thenR (XF.thenR (XF.blkR (XF.thenR (XF.res (kZ (vs:=[_,_,_,_,_,_]) Tryz.results21 Tryz.isAgg44 Tryz.sizeOf44 rfl (aD.own (j:=0) (m:=6) (hS.at_ 2 rfl) rfl) rfl rfl rfl) ?_))))))))))))
   exact ⟨zF,none,0,by rw [fI hask (eE hy hpt (mE hg48))];rfl,by rw [fI hask (eE hy hpt (mE hg48))];exact lL,by rw [fI hask (eE hy hpt (mE hg48))],hS.below⟩
  ·have hg48:=of_decide_eq_false hc;clear hc
   refine aI (d:=48) rfl rfl (aH rfl rfl (aI (d:=48) rfl rfl (aN (o':=6) eW rfl rfl rfl (aI (d:=48) rfl rfl (aS Tryz.isAgg27 rfl (aJ (hS.at_ 3 rfl) rfl) rfl (aI (d:=48) rfl rfl (cJ Tryz.underlying27 rfl rfl (aI (d:=48) rfl rfl (nO rfl rfl rfl (bU rfl rfl rfl (aH rfl rfl (bV (d:=55) rfl (fun hc=>?_) (fun hc=>?_)))))))))))))
   ·have hg55:=of_decide_eq_true hc;clear hc
    refine aK (d:=55) rfl rfl rfl rfl (aK (d:=55) rfl rfl rfl rfl (aK (d:=55) rfl rfl rfl rfl (aK (d:=55) rfl rfl rfl rfl (aK (d:=55) rfl rfl rfl rfl (aK (d:=55) rfl rfl rfl rfl (aK (d:=55) rfl rfl rfl rfl (aK (d:=55) rfl rfl rfl rfl (bF rfl rfl rfl (aO (XF.thenN (eZ rfl (aM (aQ (cX (us:=[]) rfl (jG) rfl (aU (i:=2) (vs:=[_,_,_,_,_,_]) (cs':=[_,_,_,_,_,_]) (O':=[_,_,_,_]) hS Tryz.sizeOf44 rfl rfl rfl rfl rfl rfl rfl fun W9 hS=>aB rfl rfl (aB rfl rfl (aB rfl rfl (aO (XF.thenN (bR (XF.thenR (XF.blkR ?_))))))))))))))))))))))
    refine XF.thenR (XF.thenR (XF.blkR (XF.thenR (XF.res (kZ (vs:=[_,_,_,_,_,_]) Tryz.results21 Tryz.isAgg44 Tryz.sizeOf44 rfl (aD.own (j:=0) (m:=6) (hS.at_ 2 rfl) rfl) rfl rfl rfl) ?_))))
    exact ⟨zF,none,0,by rw [fI hask (eE hy hpt (mF (by have:=hA.tlen;omega)))];rfl,by rw [fI hask (eE hy hpt (mF (by have:=hA.tlen;omega)))];exact lL,by rw [fI hask (eE hy hpt (mF (by have:=hA.tlen;omega)))],hS.below⟩
   ·have hg55:=of_decide_eq_false hc;clear hc
    obtain ⟨yN,rfl⟩:∃ m:Nat,y=(m:Int):=⟨y.toNat,by omega⟩
    have hyl:yN < a.ts.length:=by have:=hA.tlen;omega
    have ht9:=List.getElem?_eq_getElem hyl
    obtain ⟨bt,ot,hta,hcs⟩:=hA.trow.at_ ht9
    have kt:=aD.agree hS.agree (Nat.zero_le _) hcs
    have hmt:=List.mem_of_getElem? ht9
    have hpt9:=hA.px _ hmt
    obtain ⟨t9,ht99⟩:∃ t,t=a.ts[yN]:=⟨_,rfl⟩
    rw [← ht99] at ht9 kt hmt hpt9
    obtain ⟨rf,rg,rt,tx⟩:=t9
    refine aI (d:=55) rfl rfl (aN (o':=6) eW rfl rfl rfl (aI (d:=55) rfl rfl (aS Tryz.isAgg27 rfl (aJ (hS.at_ 3 rfl) rfl) rfl (aI (d:=55) rfl rfl (aH rfl rfl (aI (d:=55) rfl rfl ?_))))))
    refine cM (j:=yN) (b:=bt) (o:=ot) (m:=a.tl) (c:=a.tc) Tryz.underlying27 Tryz.sizeOf66 (by show some (Value.slice a.ta a.tl a.tc)=_;rw [hta]) rfl rfl (by have:=hA.tlen;omega) rfl rfl ?_
    refine aI (d:=55) rfl rfl (aN pS rfl (Nat.add_zero _) rfl (aI (d:=55) rfl rfl (aS Tryz.isAgg3 rfl (kt.1) rfl (aI (d:=55) rfl rfl (aH rfl rfl (aI (d:=55) rfl rfl (dD rfl rfl rfl (bU rfl rfl rfl (aO (XF.thenN (bB rfl (fun hc=>?_) (fun hc=>?_))))))))))))
    ·have hc64:=of_decide_eq_true hc;clear hc
     refine aM (aQ (cX (us:=[]) rfl (jG) rfl (aU (i:=2) (vs:=[_,_,_,_,_,_]) (cs':=[_,_,_,_,_,_]) (O':=[_,_,_,_]) hS Tryz.sizeOf44 rfl rfl rfl rfl rfl rfl rfl fun W10 hS=>aB rfl rfl (aB rfl rfl (aB rfl rfl (aO (XF.thenN (bR (XF.thenR (XF.blkR (XF.thenR (XF.thenR (XF.blkR (XF.thenR (XF.res (kZ (vs:=[_,_,_,_,_,_]) Tryz.results21 Tryz.isAgg44 Tryz.sizeOf44 rfl (aD.own (j:=0) (m:=6) (hS.at_ 2 rfl) rfl) rfl rfl rfl) ?_)))))))))))))))
     exact ⟨zF,none,0,by rw [fI hask (eE hy hpt (oU ht9 hc64))];rfl,by rw [fI hask (eE hy hpt (oU ht9 hc64))];exact lL,by rw [fI hask (eE hy hpt (oU ht9 hc64))],hS.below⟩
    ·have hc64:=of_decide_eq_false hc;clear hc
     have hc64:rf=q:=Decidable.of_not_not hc64
     refine bJ (XF.thenN (aM (aQ (aN (o':=6) eW rfl rfl rfl (aS Tryz.isAgg27 rfl (aJ (hS.at_ 3 rfl) rfl) rfl (aH rfl rfl ?_))))))
     refine cM (j:=yN) (b:=bt) (o:=ot) (m:=a.tl) (c:=a.tc) Tryz.underlying27 Tryz.sizeOf66 (by show some (Value.slice a.ta a.tl a.tc)=_;rw [hta]) rfl rfl (by have:=hA.tlen;omega) rfl rfl ?_
     refine aR (vs:=[_,_,_,_,_,_,_,_,_]) Tryz.isAgg66 Tryz.sizeOf66 rfl (kt) rfl (bC (cs:=[_,_,_,_,_,_,_,_,_]) hS Tryz.zeroValue66 rfl rfl fun B11 W11 hS=>aU (i:=0) (vs:=[_,_,_,_,_,_,_,_,_]) (cs':=[_,_,_,_,_,_,_,_,_]) (O':=[_,_,_,_,_]) hS Tryz.sizeOf66 rfl rfl rfl rfl rfl rfl rfl fun W12 hS=>aO (XF.thenN (aM ?_)))
     have hszP:=hS.below.size
     refine Pp (ef:=6) (jy:=3) (ca:=pO (fun _=>[])) (ta:=fun _=>0) (Os:=osY _ 1 (0) B6 (fz.six) 44) (Gs:=xB _) (al:=[]) (k:=7) (ds:=[15]) bY rfl hS rfl (by kernel_rfl) (by kernel_rfl) rfl (by decide) rfl some (.inl ⟨rfl,rfl⟩) rfl rfl (bA 1 rfl rfl (isV _) (fun hNo=>sgV [(13,_)] rfl rfl rfl rfl hNo (aT rfl) ⟨cU (by kernel_rfl) rfl,trivial⟩ (fun ev w he hw=>aW rfl) (aE rfl)) (bA 2 rfl rfl (isV _) (fun hNo=>sgV [(14,_)] rfl rfl rfl rfl hNo (aT rfl) ⟨cU (by kernel_rfl) rfl,trivial⟩ (fun ev w he hw=>aY (vs:=[_,_,_,_,_,_]) Tryz.isAgg44 Tryz.sizeOf44 rfl ((aD.own (j:=0) (m:=6) (hw.at_ 1 (M4 (he rfl) rfl)) rfl))) (aE rfl)) (bA 3 rfl rfl (isV _) (fun hNo=>sgV [(19,_)] rfl rfl rfl rfl hNo (aT rfl) ⟨cU (by kernel_rfl) rfl,trivial⟩ (fun ev w he hw=>aY (vs:=[_,_,_,_,_,_,_,_,_]) Tryz.isAgg66 Tryz.sizeOf66 rfl ((aD.own (j:=0) (m:=9) (hw.at_ 0 (pT (i:=0) (j:=1) rfl rfl)) rfl))) (aE rfl)) ?_)))
     refine bA 4 rfl rfl (dL W12.heap.size S (fV S bk x (py ⟨rf,rg,rt,tx⟩))) (fun hNo=>sF [isV _,isV _,isV _] rfl rfl rfl rfl hNo Gd (aT rfl) ⟨bW (aP 0 (by kernel_rfl) (aA rfl rfl rfl)),bW (aP 1 (by kernel_rfl) (aA rfl rfl rfl)),bW (aP 2 (by kernel_rfl) (aA rfl rfl rfl)),trivial⟩ (fun vs ev w' he hSt hlo hh=>by
      have e:=bZ (us:=[_,_,_]) hh
      subst e
      exact kS hlo (xF S a f0 bk bm VA VX RB fz tx.f x (py ⟨rf,rg,rt,tx⟩) rf rg rt w' (hSt.at_ 2 (pT (i:=2) (j:=1) rfl rfl)) (hA.si.below hSt.below) hA.ok (ht.below hSt.below) (HZ hSt (fun q hq=>hq)).is (hpt9.below hSt.below))) (aE rfl)) ?_
     refine bA 5 rfl rfl (isV _) (fun hNo=>sgV [(19,_)] rfl rfl rfl rfl hNo (aT rfl) ⟨cU (by kernel_rfl) rfl,trivial⟩ (fun ev w he hw=>aV (o':=2) kY rfl rfl) (aE rfl)) (bA 6 rfl rfl (isV _) (fun hNo=>sgV [(75,_)] rfl rfl rfl rfl hNo (aT rfl) ⟨aP 4 (by kernel_rfl) (aA rfl rfl rfl),trivial⟩ (fun ev w he hw=>aZ Tryz.isAgg3 rfl ((aJ (hw.at_ 0 (pT (i:=0) (j:=1) rfl rfl)) rfl))) (aE rfl)) ?_)
     refine sG 7 rfl (vV (py:=dL W12.heap.size S (fV S bk x (py ⟨rf,rg,rt,tx⟩))) (m:=6) 1 (0) [(14,_)] rfl rfl rfl rfl (by kernel_rfl) rfl rfl (fun j hj=>by rcases hj with h | rfl<;>first | (cases h<;>rfl) | rfl) ⟨cU (by kernel_rfl) rfl,trivial⟩ rfl rfl Tryz.sizeOf44 (fun v w ⟨h,e,_⟩=>by subst e;exact ⟨h.six,rfl,rfl,rfl⟩) rfl) ?_
     refine lX ?_
     intro Bf13 y13 W13 Ks13 hsz13 hKs13 hS' hcov13
     clear hS;have hS:=hS'.castO (O':=[_,_,_,_,_]) rfl;clear hS'
     refine vN (L':=[AwS _ _ (isV _),AwS _ _ (isV _),AwS _ _ (isV _),(fun v0_ w0_=>v0_=_∧AwS _ _ (dL W12.heap.size S (fV S bk x (py ⟨rf,rg,rt,tx⟩))) v0_ w0_),AwS _ _ (isV _),AwS _ _ (isV _),isV _]) rfl (cA (cA (cA ?_)))
     refine dF ?_;rintro _ ⟨rfl,hA13⟩
     obtain ⟨f9,rfl,hn9⟩:=hA13.here
     have H9:kI w (Ks13++Kk) (fun W2=>fU w.heap.size W2 S f9 (fV S bk x (py ⟨rf,rg,rt,tx⟩))):=fun h2 hk=>Uv hn9 hA13 (hcov13 h2 (fun q hq=>hk q (List.mem_append_left _ hq))) hszP
     refine cA (cA (Ds (cI (aB rfl rfl (aO (XF.thenN (aM (aQ (aN (o':=1) lY rfl rfl rfl (aS Tryz.isAgg3 rfl (aJ (hS.at_ 0 rfl) rfl) rfl (nO rfl rfl rfl (aO (XF.thenN (bB rfl (fun hc=>?_) (fun hc=>?_)))))))))))))))
     ·have hc79:=of_decide_eq_true hc;clear hc
      refine aQ (aH rfl rfl (aN (o':=1) lY rfl rfl rfl (aS Tryz.isAgg3 rfl (aJ (hS.at_ 0 rfl) rfl) rfl (cT (us:=[(0,.int .i64 _)]) hS Tryz.underlying26 Tryz.sizeOf3 Tryz.zeroValue3 rfl rfl rfl (gS _) rfl fun B14 W14 hS=>?_))))
      refine nW (i:=0) (news:=[_]) hS Tryz.underlying26 zI rfl rfl (by show 0 < 1;decide) rfl rfl rfl rfl rfl (aD.own (j:=0) (m:=1) (hS.at_ 0 rfl) rfl) rfl rfl (by dsimp only;simp only [maxLen];omega) (by dsimp only;show (_+1) * 8≤_;omega) rfl fun v15 W15 hS=>?_
      refine aB rfl rfl (aO (XF.blkN (XF.thenN (aQ (cY rfl rfl (IntWalk.i64_in _ (by omega)) rfl (aH rfl rfl (aO ?_)))))))
      exact XF.round (ll - (i+1)) [(4,_),(8,_),(13,_),(14,_),(15,_),(16,_),(40,_),(41,_),(42,_)] (by omega) ⟨rfl,rfl,rfl,rfl,rfl,rfl,rfl,rfl,rfl,trivial⟩ ⟨i+1,rt,(fV S bk x (py ⟨rf,rg,rt,tx⟩)),f9,u++[rg],_,_,by omega,rfl,rfl,(by rw [oT hy hpt,wG ht9 hc64];dsimp only;rw [if_pos hc79]),(by first | omega | (simp only [List.length_append,List.length_cons,List.length_nil];omega)),H9,hS.tail.tail.castG (by rw [List.length_append,List.map_append];rfl)⟩
     ·have hc79:=of_decide_eq_false hc;clear hc
      refine bJ (XF.blkN (XF.thenN (aQ (cY rfl rfl (IntWalk.i64_in _ (by omega)) rfl (aH rfl rfl (aO ?_))))))
      exact XF.round (ll - (i+1)) [(4,_),(8,_),(13,_),(14,_),(15,_),(16,_),(40,_),(41,_),(42,_)] (by omega) ⟨rfl,rfl,rfl,rfl,rfl,rfl,rfl,rfl,rfl,trivial⟩ ⟨i+1,rt,(fV S bk x (py ⟨rf,rg,rt,tx⟩)),f9,u,v,_,by omega,rfl,rfl,(by rw [oT hy hpt,wG ht9 hc64];dsimp only;rw [if_neg hc79]),(by first | omega | (simp only [List.length_append,List.length_cons,List.length_nil];omega)),H9,hS.tail⟩
 ·have hc43:=of_decide_eq_false hc;clear hc
  rw [List.take_of_length_le (by omega)] at hpt
  refine dX (XF.thenX (XF.thenX (XF.blkX (XF.thenN (aM (aQ (aB rfl rfl (aO (XF.thenN (aM (aM (aQ (aN (o':=5) jB rfl rfl rfl (aS Tryz.isAgg26 rfl (aJ (hS.at_ 3 rfl) rfl) rfl (cJ Tryz.underlying26 rfl rfl (aH rfl rfl (aO (XF.thenN (bP (eA (fun m lf W=>∃ (i:Nat) (b9:Bool),i≤a.fl∧m=a.fl - i∧lf=[(8,.pointer (some ⟨B2,0,none⟩)),(14,.pointer (some ⟨B6,0,none⟩)),(15,.int .i64 q),(16,v),(20,.bool b9),(87,.slice a.fa a.fl a.fc),(88,.int .i64 (a.fl:Int)),(89,.int .i64 (i:Int))]∧b9=uE (a.fs.take i) q∧St w [(B6,fz.six,44),(RB,rdC f0 a bk bm VA VX,109),(B2,[.bool false,.int .i64 0,.int .u64 0,.slice none 0 0,.slice none 0 0,.slice none 0 0],44),(B1,a.seven,29)] [⟨v,u.length,u.map (Value.int .i64),3,1⟩] Kk W) (a.fl - 0) ([(8,_),(14,_),(15,_),(16,_),(20,_),(87,_),(88,_),(89,_)]) ⟨rfl,rfl,rfl,rfl,rfl,rfl,rfl,rfl,trivial⟩ (⟨0,false,Nat.zero_le _,rfl,rfl,rfl,hS⟩) ?_))))))))))))))))))))
  clear hS
  rintro m lf W ⟨i,b9,hi,rfl,rfl,hb9,hS⟩
  refine aM (aQ (cS rfl rfl rfl (aO (XF.thenN (aM (bB rfl (fun hc=>?_) (fun hc=>?_)))))))
  ·have hc90:=of_decide_eq_true hc;clear hc
   have hk:i < a.fl:=by omega
   obtain ⟨b,off,y,hfa,hy,hyc⟩:=hA.frow.at1 (show i < a.fs.length by have:=hA.flen;omega)
   have k1:=hS.old hyc
   have hst9:=Qh (n:=q) hy
   refine bJ (XF.thenN (aM (bP (aM (aQ ?_)))))
   refine cM (j:=i) (b:=b) (o:=off) (m:=a.fl) (c:=a.fc) Tryz.underlying26 Tryz.sizeOf3 (by show some (Value.slice a.fa a.fl a.fc)=_;rw [hfa]) rfl rfl (by omega) rfl rfl ?_
   refine aS Tryz.isAgg3 rfl (k1) rfl (aB rfl rfl (aO (XF.thenN (aQ (aH rfl rfl (aH rfl rfl (bV (d:=94) rfl (fun hc=>?_) (fun hc=>?_))))))))
   ·have hg94:=hc;clear hc
    refine aK (d:=94) rfl rfl rfl rfl (aK (d:=94) rfl rfl rfl rfl (aK (d:=94) rfl rfl rfl rfl (bF rfl rfl rfl (aB rfl rfl (aO (XF.blkN (XF.thenN (aQ (cY rfl rfl (IntWalk.i64_in _ (by omega)) rfl (aH rfl rfl (aO ?_)))))))))))
    exact XF.round (a.fl - (i+1)) [(8,_),(14,_),(15,_),(16,_),(20,_),(87,_),(88,_),(89,_)] (by omega) ⟨rfl,rfl,rfl,rfl,rfl,rfl,rfl,rfl,trivial⟩ ⟨i+1,_,by omega,rfl,rfl,(by rw [hst9,← hb9,hg94];rfl),hS⟩
   ·have hg94:=hc;clear hc
    refine aI (d:=94) rfl rfl (aH rfl rfl (aI (d:=94) rfl rfl (aH rfl rfl (aI (d:=94) rfl rfl (cH rfl rfl rfl (bU rfl rfl rfl (aB rfl rfl (aO (XF.blkN (XF.thenN (aQ (cY rfl rfl (IntWalk.i64_in _ (by omega)) rfl (aH rfl rfl (aO ?_))))))))))))))
    exact XF.round (a.fl - (i+1)) [(8,_),(14,_),(15,_),(16,_),(20,_),(87,_),(88,_),(89,_)] (by omega) ⟨rfl,rfl,rfl,rfl,rfl,rfl,rfl,rfl,trivial⟩ ⟨i+1,_,by omega,rfl,rfl,(by rw [hst9,← hb9,hg94];rfl),hS⟩
  ·have hc90:=of_decide_eq_false hc;clear hc
   rw [List.take_of_length_le (by have:=hA.flen;omega)] at hb9
   obtain ⟨a9,c9,e9⟩:=M1 (hS.row 0 rfl)
   dsimp only at e9
   subst e9
   refine dX (XF.thenX (XF.thenX (XF.blkX (XF.thenN (aM (aQ (aR (vs:=[_,_,_,_,_,_]) Tryz.isAgg44 Tryz.sizeOf44 rfl (aD.own (j:=0) (m:=6) (hS.at_ 0 rfl) rfl) rfl (aH rfl rfl (aH rfl rfl (aU (i:=2) (vs:=[_,_,_,_,_,_]) (cs':=[_,_,_,_,_,_]) (O':=[_,_,_,_]) hS Tryz.sizeOf44 rfl rfl rfl rfl rfl rfl rfl fun W16 hS=>aB rfl rfl (aB rfl rfl (aB rfl rfl (aO (XF.thenN (bR (XF.res (kZ (vs:=[_,_,_,_,_,_]) Tryz.results21 Tryz.isAgg44 Tryz.sizeOf44 rfl (aD.own (j:=0) (m:=6) (hS.at_ 2 rfl) rfl) rfl rfl rfl) ?_))))))))))))))))
   have hE:=Gm hask hpt
   subst hb9
   exact ⟨fz,a9,c9,by rw [hE],by rw [hE];exact hS.row 0 rfl,by rw [hE];exact HZ hS (fun q hq=>hq),hS.below⟩
theorem Qi (ds d:Nat) (a:AV) (S:PS) (py:TV→PX) (bk:Bool) (fr:Int) (w:World) (hin:AIn w ds d a) (la:Option Addr) (ll lc:Nat) (l:List Int) (hla:Row w la l) (hll:l.length=ll) (hlm:ll≤4096) (hask:gP a [fr] []≠0) :
  Calls Tryz.prog 21 #[a.val,.bool bk,.int .i64 fr,.slice la ll lc] w (Qg S (pE S bk py a fr l) w):=by
 refine cD (args:=[a.val,.bool bk,.int .i64 fr,.slice la ll lc]) Tryz.func21 rfl Tryz.ntmps21 rfl ?_
 have hS:=St.start w
 refine aM (aQ (bT (cs:=[_,_,_,_,_,_,_]) hS rfl rfl rfl fun B1 W1 hS=>bC (cs:=[_,_,_,_,_,_]) hS Tryz.zeroValue44 rfl rfl fun B2 W2 hS=>aB rfl rfl (aB rfl rfl (aB rfl rfl (aO (XF.thenN (aM (aM (aQ (aR (vs:=[_,_,_,_,_,_,_]) Tryz.isAgg29 Tryz.sizeOf29 rfl (aD.own (j:=0) (m:=7) (hS.at_ 1 rfl) rfl) rfl (aH rfl rfl (cT (us:=[(0,.int .i64 _)]) hS Tryz.underlying26 Tryz.sizeOf3 Tryz.zeroValue3 rfl rfl rfl (gS _) rfl fun B3 W3 hS=>cB (vs:=[_,_]) hS yU rfl (mB ds d a _ (hin.below hS.below) _ 1 1 [fr] (Gi (hS.at_ 0 rfl)) rfl (by decide)) rfl fun W4 hS=>aB rfl rfl (aO (XF.thenN (aM (aQ (aH rfl rfl (dD rfl rfl rfl (aO (XF.thenN (bB rfl (fun hc=>?_) (fun hc=>absurd (of_decide_eq_false hc) (by exact fun h=>h hask)))))))))))))))))))))))
 have hc:=of_decide_eq_true hc
 refine aM (aQ (cX (us:=[]) rfl (jG) rfl (aH rfl rfl (aU (i:=1) (vs:=[_,_,_,_,_,_]) (cs':=[_,_,_,_,_,_]) (O':=[_,_,_]) hS Tryz.sizeOf44 rfl rfl rfl rfl rfl rfl rfl fun W5 hS=>aB rfl rfl (aB rfl rfl (aB rfl rfl (aO (XF.thenN (bR (XF.thenR (XF.res (kZ (vs:=[_,_,_,_,_,_]) Tryz.results21 Tryz.isAgg44 Tryz.sizeOf44 rfl (aD.own (j:=0) (m:=6) (hS.at_ 1 rfl) rfl) rfl rfl rfl) ?_)))))))))))
 exact ⟨zF,none,0,by rw [uG hask];rfl,by rw [uG hask];exact lL,by rw [uG hask],hS.below⟩
theorem Nq:bK Tryz.prog 59=true:=by kernel_rfl
theorem goes_68:bK Tryz.prog 68=true:=by kernel_rfl
theorem path4 {ts:List TV} (n:Nat) (hl:ts.length=n) (y q:Int):y < 0∨(n:Int)≤y∨(∃ (j:Nat) (t:TV),y=(j:Int)∧ts[j]?=some t∧t.f≠q)∨∃ (j:Nat) (t:TV),y=(j:Int)∧ts[j]?=some t∧t.f=q:=by
 rcases Int.lt_or_le y 0 with h0 | h0
 ·exact .inl h0
 rcases Int.lt_or_le y (n:Int) with h1 | h1
 ·obtain ⟨j,rfl⟩:∃ m:Nat,y=(m:Int):=⟨y.toNat,by omega⟩
  have hj:j < ts.length:=by omega
  have ht:=List.getElem?_eq_getElem hj
  rcases Classical.em (ts[j].f=q) with h | h
  ·exact .inr (.inr (.inr ⟨j,_,rfl,ht,h⟩))
  ·exact .inr (.inr (.inl ⟨j,_,rfl,ht,h⟩))
 ·exact .inr (.inl h1)
theorem Va (ds d:Nat) (a:AV) (S:PS) (py:TV→PX) (n:Nat) (bk:Bool) (p:Nat) (w:World) (hin:AIn w ds d a) (hA:AutoOk w S py n a) (hp:p < n) (la:Option Addr) (ll lc:Nat) (l:List Int) (hla:Row w la l) (hll:l.length=ll) (hlm:ll≤4096) (hask:gP a [(p:Int)] []=0) :
  Calls Tryz.prog 22 #[a.val,.bool bk,.int .i64 (p:Int),.slice la ll lc] w (Qg S (pE S bk py a (p:Int) l) w):=by
 refine cD (args:=[a.val,.bool bk,.int .i64 (p:Int),.slice la ll lc]) Tryz.func22 rfl Tryz.ntmps22 rfl ?_
 have hS:=St.start w
 have hfm9:=hA.fmax
 have htl9:=hA.tlen
 have htl8:=hA.tl
 refine aM (aQ (bT (cs:=[_,_,_,_,_,_,_]) hS rfl rfl rfl fun B1 W1 hS=>bC (cs:=[_,_,_,_,_,_]) hS Tryz.zeroValue44 rfl rfl fun B2 W2 hS=>aB rfl rfl (aB rfl rfl (aB rfl rfl (aO (XF.thenN (aM (aQ (aR (vs:=[_,_,_,_,_,_,_]) Tryz.isAgg29 Tryz.sizeOf29 rfl (aD.own (j:=0) (m:=7) (hS.at_ 1 rfl) rfl) rfl (aH rfl rfl (cT (us:=[(0,.int .i64 _)]) hS Tryz.underlying26 Tryz.sizeOf3 Tryz.zeroValue3 rfl rfl rfl (gS _) rfl fun B3 W3 hS=>cB (vs:=[_,_,_]) hS Nq rfl (D8 ds d a.s a.st a.sy a.fa a.fl a.fc a.fs a.ta a.tl a.tc a.ts _ (hin.below hS.below).s (hin.below hS.below).frow (hin.below hS.below).flen (hin.below hS.below).trow (hin.below hS.below).tlen (hin.below hS.below).tin hin.fmax hin.tmax _ 1 1 [(p:Int)] none 0 0 [] (Gi (hS.at_ 0 rfl)) rfl (by decide) (.inl rfl) rfl (by decide)) rfl fun W4 hS=>aB rfl rfl (aO (XF.thenN (aM (aM (aQ (aH rfl rfl (dD rfl rfl rfl (aO (XF.thenN (bB rfl (fun hc=>absurd (of_decide_eq_true hc) (by exact fun h=>h hask)) (fun hc=>?_))))))))))))))))))))))
 have hc:=of_decide_eq_false hc
 refine bJ (XF.thenN (aM (aQ (aN (o':=0) lZ rfl rfl rfl (aR (vs:=[_,_,_]) Tryz.isAgg25 Tryz.sizeOf25 rfl (aD.own (j:=0) (m:=3) (hS.at_ 2 rfl) rfl) rfl ?_)))))
 have hsz1:=hS.below.size
 refine cK (vs:=[_]) hS goes_67 rfl (Ut S a.s.f _ (hA.si.below hS.below) hA.ok) rfl ?_
 rintro e W5 ⟨f1,rfl,hn1,hb⟩
 refine ⟨_,rfl,hb,fun hS'=>?_⟩
 clear hS;have hS:=hS';clear hS'
 refine bC (cs:=[_,_,_,_,_,_]) hS Tryz.zeroValue44 rfl rfl fun B6 W6 hS=>aU (i:=0) (vs:=[_,_,_,_,_,_]) (cs':=[_,_,_,_,_,_]) (O':=[_,_,_,_]) hS Tryz.sizeOf44 rfl rfl rfl rfl rfl rfl rfl fun W7 hS=>aO (XF.thenN (aM (aQ (aB rfl rfl (aO (XF.thenN (aM (aQ (aH rfl rfl (aB rfl rfl (aO (XF.thenN (aM (aM (aQ (aB rfl rfl (aO (XF.thenN (bP (eA (fun m lf W=>∃ (i:Nat) (q:Int) (x:PX) (fz:WF) (u:List Int) (v:Value) (Kk:List (Nat×World)),i≤ll∧m=ll - i∧lf=[(1,.bool bk),(3,.slice la ll lc),(4,.pointer (some ⟨B1,0,none⟩)),(8,.pointer (some ⟨B2,0,none⟩)),(13,.pointer (some ⟨B6,0,none⟩)),(14,v),(15,.int .i64 q),(16,.int .i64 (i:Int))]∧sQ S bk py a.ts (l.take i) ((p:Int),jS S,[])=some (q,x,u)∧u.length≤i∧kI w Kk (fun W2=>fU w.heap.size W2 S fz x)∧St w [(B6,fz.six,44),(B2,[.bool false,.int .i64 0,.int .u64 0,.slice none 0 0,.slice none 0 0,.slice none 0 0],44),(B1,a.seven,29)] [⟨v,u.length,u.map (Value.int .i64),3,1⟩] Kk W) (ll - 0) ([(1,_),(3,_),(4,_),(8,_),(13,_),(14,_),(15,_),(16,_)]) ⟨rfl,rfl,rfl,rfl,rfl,rfl,rfl,rfl,trivial⟩ (⟨0,_,_,f1,[],_,_,Nat.zero_le _,rfl,rfl,rfl,Nat.le_refl _,(fun h2 hk=>(hn1.agree (h2.kept _ (hk _ List.mem_cons_self)).1).mono hsz1),((hS.newG 3 1).perm (List.Perm.swap _ _ _)).tail.castG rfl⟩) ?_))))))))))))))))))))
 clear hS
 rintro m lf W ⟨i,q,x,fz,u,v,Kk,hi,rfl,rfl,hpt,hul,HZ,hS⟩
 refine aM (aM (aQ (aH rfl rfl (aH rfl rfl (cJ Tryz.underlying26 rfl rfl (cS rfl rfl rfl (aO (XF.thenN (bB rfl (fun hc=>?_) (fun hc=>?_))))))))))
 ·have hc33:=of_decide_eq_true hc;clear hc
  have hk:i < ll:=by omega
  obtain ⟨b,off,y,rfl,hy,hyc⟩:=hla.at1 (show i < l.length by omega)
  have k1:=hS.old hyc
  refine bJ (XF.thenN (aM (bP (aM (aM ?_)))))
  rcases path4 a.tl hA.tlen y q with hy0 | hy1 | ⟨yN,t9,rfl,ht9,htq⟩ | ⟨yN,t9,rfl,ht9,htq⟩
  ·skip
   refine iV (m:=28) bY hS (by kernel_rfl) (by kernel_rfl) rfl (cQ 1 rfl 3 rfl (by kernel_rfl) rfl (fun w hw=>aW rfl) rfl (cQ 2 rfl 16 rfl (by kernel_rfl) rfl (fun w hw=>aW rfl) rfl (aG 3 rfl (isV _) (aC _) (rgV (li:=[(36,_),(37,_)]) rfl (aT rfl) ⟨aP 0 (by kernel_rfl) (aA rfl rfl rfl),aP 1 (by kernel_rfl) (aA rfl rfl rfl),trivial⟩ (fun w hw=>aX  Tryz.underlying26 Tryz.sizeOf3 rfl rfl rfl (by omega) rfl) (aE rfl)) (bI 4 rfl 38 2 rfl (by kernel_rfl) rfl rfl (fun w hw=>aZ Tryz.isAgg3 rfl ((aL hw 0).cell (Nat.zero_le _) (k1))) rfl (aG 5 rfl (isV (.bool true)) (aC _) (jQ (li:=[(39,_)]) rfl (aT rfl) ⟨aP 3 (by kernel_rfl) (aA rfl rfl rfl),trivial⟩ (fun w hw=>tD rfl rfl) (by rw [decide_eq_true hy0]) (aE rfl)) (bI 6 rfl 40 4 rfl (by kernel_rfl) rfl rfl (fun w hw=>aW rfl) rfl (aG 7 rfl (isV undef) (aC _) (bD rfl (cG 41 rfl (by kernel_rfl) (by kernel_rfl) (aA rfl rfl rfl) rfl) (aE rfl)) (aG 8 rfl (isV undef) (aC _) (bD rfl (cG 41 rfl (by kernel_rfl) (by kernel_rfl) (aA rfl rfl rfl) rfl) (aE rfl)) (aG 9 rfl (isV undef) (aC _) (bD rfl (cG 41 rfl (by kernel_rfl) (by kernel_rfl) (aA rfl rfl rfl) rfl) (aE rfl)) (aG 10 rfl (isV undef) (aC _) (bD rfl (cG 41 rfl (by kernel_rfl) (by kernel_rfl) (aA rfl rfl rfl) rfl) (aE rfl)) (aG 11 rfl (isV undef) (aC _) (bD rfl (cG 41 rfl (by kernel_rfl) (by kernel_rfl) (aA rfl rfl rfl) rfl) (aE rfl)) (aG 12 rfl (isV undef) (aC _) (bD rfl (cG 41 rfl (by kernel_rfl) (by kernel_rfl) (aA rfl rfl rfl) rfl) (aE rfl)) (aG 13 rfl (isV undef) (aC _) (bD rfl (cG 41 rfl (by kernel_rfl) (by kernel_rfl) (aA rfl rfl rfl) rfl) (aE rfl)) (aG 14 rfl (isV undef) (aC _) (bD rfl (cG 41 rfl (by kernel_rfl) (by kernel_rfl) (aA rfl rfl rfl) rfl) (aE rfl)) (bI 15 rfl 41 5 rfl (by kernel_rfl) rfl rfl (fun w hw=>eM rfl rfl) rfl (bI 16 rfl 50 14 rfl (by kernel_rfl) rfl rfl (fun w hw=>aW rfl) rfl (aG 17 rfl (isV undef) (aC _) (bD rfl (cG 51 rfl (by kernel_rfl) (by kernel_rfl) (aA rfl rfl rfl) rfl) (aE rfl)) (aG 18 rfl (isV undef) (aC _) (bD rfl (cG 51 rfl (by kernel_rfl) (by kernel_rfl) (aA rfl rfl rfl) rfl) (aE rfl)) (aG 19 rfl (isV undef) (aC _) (bD rfl (cG 51 rfl (by kernel_rfl) (by kernel_rfl) (aA rfl rfl rfl) rfl) (aE rfl)) (aG 20 rfl (isV undef) (aC _) (bD rfl (cG 51 rfl (by kernel_rfl) (by kernel_rfl) (aA rfl rfl rfl) rfl) (aE rfl)) ?_))))))))))))))))))))
   refine aG 21 rfl (isV undef) (aC _) (bD rfl (cG 51 rfl (by kernel_rfl) (by kernel_rfl) (aA rfl rfl rfl) rfl) (aE rfl)) (aG 22 rfl (isV undef) (aC _) (bD rfl (cG 51 rfl (by kernel_rfl) (by kernel_rfl) (aA rfl rfl rfl) rfl) (aE rfl)) (aG 23 rfl (isV undef) (aC _) (bD rfl (cG 51 rfl (by kernel_rfl) (by kernel_rfl) (aA rfl rfl rfl) rfl) (aE rfl)) (aG 24 rfl (isV undef) (aC _) (bD rfl (cG 51 rfl (by kernel_rfl) (by kernel_rfl) (aA rfl rfl rfl) rfl) (aE rfl)) (aG 25 rfl (isV undef) (aC _) (bD rfl (cG 51 rfl (by kernel_rfl) (by kernel_rfl) (aA rfl rfl rfl) rfl) (aE rfl)) (aG 26 rfl (isV undef) (aC _) (bD rfl (cG 51 rfl (by kernel_rfl) (by kernel_rfl) (aA rfl rfl rfl) rfl) (aE rfl)) (aG 27 rfl (isV undef) (aC _) (bD rfl (cG 51 rfl (by kernel_rfl) (by kernel_rfl) (aA rfl rfl rfl) rfl) (aE rfl)) (bI 28 rfl 51 15 rfl (by kernel_rfl) rfl rfl (fun w hw=>eM rfl rfl) rfl (dE ?_))))))))
   intro W8 hbR hS'
   clear hS;have hS:=hS';clear hS'
   refine aF (aF (aF (aF (aF (aF (aF (aF (aF (aF (aF (aF (aF (aF (aF (aF (aF (aF (aF (aF (aF ?_))))))))))))))))))))
   refine aF (aF (aF (aF (aF (aF (aF (cI (XF.thenN (eZ rfl (aM (aQ (cX (us:=[]) rfl (jG) rfl (aU (i:=1) (vs:=[_,_,_,_,_,_]) (cs':=[_,_,_,_,_,_]) (O':=[_,_,_]) hS Tryz.sizeOf44 rfl rfl rfl rfl rfl rfl rfl fun W9 hS=>aB rfl rfl (aB rfl rfl (aB rfl rfl (aO (XF.thenN (bR (XF.thenR (XF.blkR (XF.thenR ?_)))))))))))))))))))))
   refine XF.thenR (XF.blkR (XF.thenR (XF.res (kZ (vs:=[_,_,_,_,_,_]) Tryz.results22 Tryz.isAgg44 Tryz.sizeOf44 rfl (aD.own (j:=0) (m:=6) (hS.at_ 1 rfl) rfl) rfl rfl rfl) ?_)))
   exact ⟨zF,none,0,by rw [fI hask (eE hy hpt (mE hy0))];rfl,by rw [fI hask (eE hy hpt (mE hy0))];exact lL,by rw [fI hask (eE hy hpt (mE hy0))],hS.below⟩
  ·skip
   refine iV (m:=28) bY hS (by kernel_rfl) (by kernel_rfl) rfl (cQ 1 rfl 3 rfl (by kernel_rfl) rfl (fun w hw=>aW rfl) rfl (cQ 2 rfl 16 rfl (by kernel_rfl) rfl (fun w hw=>aW rfl) rfl (aG 3 rfl (isV _) (aC _) (rgV (li:=[(36,_),(37,_)]) rfl (aT rfl) ⟨aP 0 (by kernel_rfl) (aA rfl rfl rfl),aP 1 (by kernel_rfl) (aA rfl rfl rfl),trivial⟩ (fun w hw=>aX  Tryz.underlying26 Tryz.sizeOf3 rfl rfl rfl (by omega) rfl) (aE rfl)) (bI 4 rfl 38 2 rfl (by kernel_rfl) rfl rfl (fun w hw=>aZ Tryz.isAgg3 rfl ((aL hw 0).cell (Nat.zero_le _) (k1))) rfl (aG 5 rfl (isV (.bool false)) (aC _) (jQ (li:=[(39,_)]) rfl (aT rfl) ⟨aP 3 (by kernel_rfl) (aA rfl rfl rfl),trivial⟩ (fun w hw=>tD rfl rfl) (by rw [decide_eq_false (by omega)]) (aE rfl)) (bI 6 rfl 40 4 rfl (by kernel_rfl) rfl rfl (fun w hw=>aW rfl) rfl (aG 7 rfl (isV _) (aC _) (rgV (li:=[(3,_)]) rfl (bH 41 rfl (by kernel_rfl) (by kernel_rfl) (aA rfl rfl rfl)) ⟨cU (by kernel_rfl) rfl,trivial⟩ (fun w hw=>aW rfl) (aE rfl)) (aG 8 rfl (isV _) (aC _) (rgV (li:=[(16,_)]) rfl (bH 41 rfl (by kernel_rfl) (by kernel_rfl) (aA rfl rfl rfl)) ⟨cU (by kernel_rfl) rfl,trivial⟩ (fun w hw=>aW rfl) (aE rfl)) (aG 9 rfl (isV _) (aC _) (rgV (li:=[(42,_),(43,_)]) rfl (bH 41 rfl (by kernel_rfl) (by kernel_rfl) (aA rfl rfl rfl)) ⟨aP 6 (by kernel_rfl) (aA rfl rfl rfl),aP 7 (by kernel_rfl) (aA rfl rfl rfl),trivial⟩ (fun w hw=>aX  Tryz.underlying26 Tryz.sizeOf3 rfl rfl rfl (by omega) rfl) (aE rfl)) (aG 10 rfl (isV _) (aC _) (rgV (li:=[(44,_)]) rfl (bH 41 rfl (by kernel_rfl) (by kernel_rfl) (aA rfl rfl rfl)) ⟨aP 8 (by kernel_rfl) (aA rfl rfl rfl),trivial⟩ (fun w hw=>aZ Tryz.isAgg3 rfl ((aL hw 0).cell (Nat.zero_le _) (k1))) (aE rfl)) (aG 11 rfl (isV _) (aC _) (rgV (li:=[(4,_)]) rfl (bH 41 rfl (by kernel_rfl) (by kernel_rfl) (aA rfl rfl rfl)) ⟨cU (by kernel_rfl) rfl,trivial⟩ (fun w hw=>aV (o':=6) eW rfl rfl) (aE rfl)) (aG 12 rfl (isV _) (aC _) (rgV (li:=[(46,_)]) rfl (bH 41 rfl (by kernel_rfl) (by kernel_rfl) (aA rfl rfl rfl)) ⟨aP 10 (by kernel_rfl) (aA rfl rfl rfl),trivial⟩ (fun w hw=>aZ Tryz.isAgg27 rfl ((aL hw 0).cell (Nat.zero_le _) (aJ (hS.at_ 2 rfl) rfl))) (aE rfl)) (aG 13 rfl (isV _) (aC _) (rgV (li:=[(47,_)]) rfl (bH 41 rfl (by kernel_rfl) (by kernel_rfl) (aA rfl rfl rfl)) ⟨aP 11 (by kernel_rfl) (aA rfl rfl rfl),trivial⟩ (fun w hw=>nN Tryz.underlying27 rfl) (aE rfl)) (aG 14 rfl (isV (.bool true)) (aC _) (jQ (li:=[(45,_),(48,_)]) rfl (bH 41 rfl (by kernel_rfl) (by kernel_rfl) (aA rfl rfl rfl)) ⟨aP 9 (by kernel_rfl) (aA rfl rfl rfl),aP 12 (by kernel_rfl) (aA rfl rfl rfl),trivial⟩ (fun w hw=>yX rfl rfl) (by rw [decide_eq_true (by omega)]) (aE rfl)) (aG 15 rfl (isV _) (aC _) (rgV (li:=[(41,_),(49,_)]) rfl (aT rfl) ⟨aP 5 (by kernel_rfl) (aA rfl rfl rfl),aP 13 (by kernel_rfl) (aA rfl rfl rfl),trivial⟩ (fun w hw=>dY rfl rfl) (aE rfl)) (bI 16 rfl 50 14 rfl (by kernel_rfl) rfl rfl (fun w hw=>aW rfl) rfl (aG 17 rfl (isV undef) (aC _) (bD rfl (cG 51 rfl (by kernel_rfl) (by kernel_rfl) (aA rfl rfl rfl) rfl) (aE rfl)) (aG 18 rfl (isV undef) (aC _) (bD rfl (cG 51 rfl (by kernel_rfl) (by kernel_rfl) (aA rfl rfl rfl) rfl) (aE rfl)) (aG 19 rfl (isV undef) (aC _) (bD rfl (cG 51 rfl (by kernel_rfl) (by kernel_rfl) (aA rfl rfl rfl) rfl) (aE rfl)) (aG 20 rfl (isV undef) (aC _) (bD rfl (cG 51 rfl (by kernel_rfl) (by kernel_rfl) (aA rfl rfl rfl) rfl) (aE rfl)) ?_))))))))))))))))))))
   refine aG 21 rfl (isV undef) (aC _) (bD rfl (cG 51 rfl (by kernel_rfl) (by kernel_rfl) (aA rfl rfl rfl) rfl) (aE rfl)) (aG 22 rfl (isV undef) (aC _) (bD rfl (cG 51 rfl (by kernel_rfl) (by kernel_rfl) (aA rfl rfl rfl) rfl) (aE rfl)) (aG 23 rfl (isV undef) (aC _) (bD rfl (cG 51 rfl (by kernel_rfl) (by kernel_rfl) (aA rfl rfl rfl) rfl) (aE rfl)) (aG 24 rfl (isV undef) (aC _) (bD rfl (cG 51 rfl (by kernel_rfl) (by kernel_rfl) (aA rfl rfl rfl) rfl) (aE rfl)) (aG 25 rfl (isV undef) (aC _) (bD rfl (cG 51 rfl (by kernel_rfl) (by kernel_rfl) (aA rfl rfl rfl) rfl) (aE rfl)) (aG 26 rfl (isV undef) (aC _) (bD rfl (cG 51 rfl (by kernel_rfl) (by kernel_rfl) (aA rfl rfl rfl) rfl) (aE rfl)) (aG 27 rfl (isV undef) (aC _) (bD rfl (cG 51 rfl (by kernel_rfl) (by kernel_rfl) (aA rfl rfl rfl) rfl) (aE rfl)) (bI 28 rfl 51 15 rfl (by kernel_rfl) rfl rfl (fun w hw=>eM rfl rfl) rfl (dE ?_))))))))
   intro W10 hbR hS'
   clear hS;have hS:=hS';clear hS'
   refine aF (aF (aF (aF (aF (aF (aF (aF (aF (aF (aF (aF (aF (aF (aF (aF (aF (aF (aF (aF (aF ?_))))))))))))))))))))
   refine aF (aF (aF (aF (aF (aF (aF (cI (XF.thenN (eZ rfl (aM (aQ (cX (us:=[]) rfl (jG) rfl (aU (i:=1) (vs:=[_,_,_,_,_,_]) (cs':=[_,_,_,_,_,_]) (O':=[_,_,_]) hS Tryz.sizeOf44 rfl rfl rfl rfl rfl rfl rfl fun W11 hS=>aB rfl rfl (aB rfl rfl (aB rfl rfl (aO (XF.thenN (bR (XF.thenR (XF.blkR (XF.thenR ?_)))))))))))))))))))))
   refine XF.thenR (XF.blkR (XF.thenR (XF.res (kZ (vs:=[_,_,_,_,_,_]) Tryz.results22 Tryz.isAgg44 Tryz.sizeOf44 rfl (aD.own (j:=0) (m:=6) (hS.at_ 1 rfl) rfl) rfl rfl rfl) ?_)))
   exact ⟨zF,none,0,by rw [fI hask (eE hy hpt (mF (by omega)))];rfl,by rw [fI hask (eE hy hpt (mF (by omega)))];exact lL,by rw [fI hask (eE hy hpt (mF (by omega)))],hS.below⟩
  ·obtain ⟨bt,ot,hta,hcs⟩:=hA.trow.at_ ht9
   have kt:=aD.agree hS.agree (Nat.zero_le _) hcs
   have hmt:=List.mem_of_getElem? ht9
   have hyl:=(List.getElem?_eq_some_iff.1 ht9).1
   have hpt9:=hA.px _ hmt
   obtain ⟨rf,rg,rt,tx⟩:=t9
   dsimp only at htq
   refine iV (m:=28) bY hS (by kernel_rfl) (by kernel_rfl) rfl (cQ 1 rfl 3 rfl (by kernel_rfl) rfl (fun w hw=>aW rfl) rfl (cQ 2 rfl 16 rfl (by kernel_rfl) rfl (fun w hw=>aW rfl) rfl (aG 3 rfl (isV _) (aC _) (rgV (li:=[(36,_),(37,_)]) rfl (aT rfl) ⟨aP 0 (by kernel_rfl) (aA rfl rfl rfl),aP 1 (by kernel_rfl) (aA rfl rfl rfl),trivial⟩ (fun w hw=>aX  Tryz.underlying26 Tryz.sizeOf3 rfl rfl rfl (by omega) rfl) (aE rfl)) (bI 4 rfl 38 2 rfl (by kernel_rfl) rfl rfl (fun w hw=>aZ Tryz.isAgg3 rfl ((aL hw 0).cell (Nat.zero_le _) (k1))) rfl (aG 5 rfl (isV (.bool false)) (aC _) (jQ (li:=[(39,_)]) rfl (aT rfl) ⟨aP 3 (by kernel_rfl) (aA rfl rfl rfl),trivial⟩ (fun w hw=>tD rfl rfl) (by rw [decide_eq_false (by omega)]) (aE rfl)) (bI 6 rfl 40 4 rfl (by kernel_rfl) rfl rfl (fun w hw=>aW rfl) rfl (aG 7 rfl (isV _) (aC _) (rgV (li:=[(3,_)]) rfl (bH 41 rfl (by kernel_rfl) (by kernel_rfl) (aA rfl rfl rfl)) ⟨cU (by kernel_rfl) rfl,trivial⟩ (fun w hw=>aW rfl) (aE rfl)) (aG 8 rfl (isV _) (aC _) (rgV (li:=[(16,_)]) rfl (bH 41 rfl (by kernel_rfl) (by kernel_rfl) (aA rfl rfl rfl)) ⟨cU (by kernel_rfl) rfl,trivial⟩ (fun w hw=>aW rfl) (aE rfl)) (aG 9 rfl (isV _) (aC _) (rgV (li:=[(42,_),(43,_)]) rfl (bH 41 rfl (by kernel_rfl) (by kernel_rfl) (aA rfl rfl rfl)) ⟨aP 6 (by kernel_rfl) (aA rfl rfl rfl),aP 7 (by kernel_rfl) (aA rfl rfl rfl),trivial⟩ (fun w hw=>aX  Tryz.underlying26 Tryz.sizeOf3 rfl rfl rfl (by omega) rfl) (aE rfl)) (aG 10 rfl (isV _) (aC _) (rgV (li:=[(44,_)]) rfl (bH 41 rfl (by kernel_rfl) (by kernel_rfl) (aA rfl rfl rfl)) ⟨aP 8 (by kernel_rfl) (aA rfl rfl rfl),trivial⟩ (fun w hw=>aZ Tryz.isAgg3 rfl ((aL hw 0).cell (Nat.zero_le _) (k1))) (aE rfl)) (aG 11 rfl (isV _) (aC _) (rgV (li:=[(4,_)]) rfl (bH 41 rfl (by kernel_rfl) (by kernel_rfl) (aA rfl rfl rfl)) ⟨cU (by kernel_rfl) rfl,trivial⟩ (fun w hw=>aV (o':=6) eW rfl rfl) (aE rfl)) (aG 12 rfl (isV _) (aC _) (rgV (li:=[(46,_)]) rfl (bH 41 rfl (by kernel_rfl) (by kernel_rfl) (aA rfl rfl rfl)) ⟨aP 10 (by kernel_rfl) (aA rfl rfl rfl),trivial⟩ (fun w hw=>aZ Tryz.isAgg27 rfl ((aL hw 0).cell (Nat.zero_le _) (aJ (hS.at_ 2 rfl) rfl))) (aE rfl)) (aG 13 rfl (isV _) (aC _) (rgV (li:=[(47,_)]) rfl (bH 41 rfl (by kernel_rfl) (by kernel_rfl) (aA rfl rfl rfl)) ⟨aP 11 (by kernel_rfl) (aA rfl rfl rfl),trivial⟩ (fun w hw=>nN Tryz.underlying27 rfl) (aE rfl)) (aG 14 rfl (isV (.bool false)) (aC _) (jQ (li:=[(45,_),(48,_)]) rfl (bH 41 rfl (by kernel_rfl) (by kernel_rfl) (aA rfl rfl rfl)) ⟨aP 9 (by kernel_rfl) (aA rfl rfl rfl),aP 12 (by kernel_rfl) (aA rfl rfl rfl),trivial⟩ (fun w hw=>yX rfl rfl) (by rw [decide_eq_false (by omega)]) (aE rfl)) (aG 15 rfl (isV _) (aC _) (rgV (li:=[(41,_),(49,_)]) rfl (aT rfl) ⟨aP 5 (by kernel_rfl) (aA rfl rfl rfl),aP 13 (by kernel_rfl) (aA rfl rfl rfl),trivial⟩ (fun w hw=>dY rfl rfl) (aE rfl)) (bI 16 rfl 50 14 rfl (by kernel_rfl) rfl rfl (fun w hw=>aW rfl) rfl (aG 17 rfl (isV _) (aC _) (rgV (li:=[(4,_)]) rfl (bH 51 rfl (by kernel_rfl) (by kernel_rfl) (aA rfl rfl rfl)) ⟨cU (by kernel_rfl) rfl,trivial⟩ (fun w hw=>aV (o':=6) eW rfl rfl) (aE rfl)) (aG 18 rfl (isV _) (aC _) (rgV (li:=[(52,_)]) rfl (bH 51 rfl (by kernel_rfl) (by kernel_rfl) (aA rfl rfl rfl)) ⟨aP 16 (by kernel_rfl) (aA rfl rfl rfl),trivial⟩ (fun w hw=>aZ Tryz.isAgg27 rfl ((aL hw 0).cell (Nat.zero_le _) (aJ (hS.at_ 2 rfl) rfl))) (aE rfl)) (aG 19 rfl (isV _) (aC _) (rgV (li:=[(3,_)]) rfl (bH 51 rfl (by kernel_rfl) (by kernel_rfl) (aA rfl rfl rfl)) ⟨cU (by kernel_rfl) rfl,trivial⟩ (fun w hw=>aW rfl) (aE rfl)) (aG 20 rfl (isV _) (aC _) (rgV (li:=[(16,_)]) rfl (bH 51 rfl (by kernel_rfl) (by kernel_rfl) (aA rfl rfl rfl)) ⟨cU (by kernel_rfl) rfl,trivial⟩ (fun w hw=>aW rfl) (aE rfl)) ?_))))))))))))))))))))
   refine aG 21 rfl (isV _) (aC _) (rgV (li:=[(54,_),(55,_)]) rfl (bH 51 rfl (by kernel_rfl) (by kernel_rfl) (aA rfl rfl rfl)) ⟨aP 18 (by kernel_rfl) (aA rfl rfl rfl),aP 19 (by kernel_rfl) (aA rfl rfl rfl),trivial⟩ (fun w hw=>aX  Tryz.underlying26 Tryz.sizeOf3 rfl rfl rfl (by omega) rfl) (aE rfl)) (aG 22 rfl (isV _) (aC _) (rgV (li:=[(56,_)]) rfl (bH 51 rfl (by kernel_rfl) (by kernel_rfl) (aA rfl rfl rfl)) ⟨aP 20 (by kernel_rfl) (aA rfl rfl rfl),trivial⟩ (fun w hw=>aZ Tryz.isAgg3 rfl ((aL hw 0).cell (Nat.zero_le _) (k1))) (aE rfl)) ?_)
   refine aG 23 rfl (isV _) (aC _) (rgV (li:=[(53,_),(57,_)]) rfl (bH 51 rfl (by kernel_rfl) (by kernel_rfl) (aA rfl rfl rfl)) ⟨aP 17 (by kernel_rfl) (aA rfl rfl rfl),aP 21 (by kernel_rfl) (aA rfl rfl rfl),trivial⟩ (fun w hw=>aX (j:=yN) (b:=bt) (o:=ot) (m:=a.tl) (c:=a.tc) Tryz.underlying27 Tryz.sizeOf66 (by show some (Value.slice a.ta a.tl a.tc)=_;rw [hta]) rfl rfl (by omega) rfl) (aE rfl)) ?_
   refine aG 24 rfl (isV _) (aC _) (rgV (li:=[(58,_)]) rfl (bH 51 rfl (by kernel_rfl) (by kernel_rfl) (aA rfl rfl rfl)) ⟨aP 22 (by kernel_rfl) (aA rfl rfl rfl),trivial⟩ (fun w hw=>aV pS rfl (Nat.add_zero _)) (aE rfl)) (aG 25 rfl (isV _) (aC _) (rgV (li:=[(59,_)]) rfl (bH 51 rfl (by kernel_rfl) (by kernel_rfl) (aA rfl rfl rfl)) ⟨aP 23 (by kernel_rfl) (aA rfl rfl rfl),trivial⟩ (fun w hw=>aZ Tryz.isAgg3 rfl ((aL hw 0).cell (Nat.zero_le _) (kt.1))) (aE rfl)) (aG 26 rfl (isV _) (aC _) (rgV (li:=[(15,_)]) rfl (bH 51 rfl (by kernel_rfl) (by kernel_rfl) (aA rfl rfl rfl)) ⟨cU (by kernel_rfl) rfl,trivial⟩ (fun w hw=>aW rfl) (aE rfl)) (aG 27 rfl (isV (.bool true)) (aC _) (jQ (li:=[(60,_),(61,_)]) rfl (bH 51 rfl (by kernel_rfl) (by kernel_rfl) (aA rfl rfl rfl)) ⟨aP 24 (by kernel_rfl) (aA rfl rfl rfl),aP 25 (by kernel_rfl) (aA rfl rfl rfl),trivial⟩ (fun w hw=>yY rfl rfl) (by simp [htq]) (aE rfl)) (aG 28 rfl (isV _) (aC _) (rgV (li:=[(51,_),(62,_)]) rfl (aT rfl) ⟨aP 15 (by kernel_rfl) (aA rfl rfl rfl),aP 26 (by kernel_rfl) (aA rfl rfl rfl),trivial⟩ (fun w hw=>dY rfl rfl) (aE rfl)) (dE ?_)))))
   intro W12 hbR hS'
   clear hS;have hS:=hS';clear hS'
   refine aF (aF (aF (aF (aF (aF (aF (aF (aF (aF (aF (aF (aF (aF (aF (aF (aF (aF (aF (aF (aF ?_))))))))))))))))))))
   refine aF (aF (aF (aF (aF (aF (aF (cI (XF.thenN (eZ rfl (aM (aQ (cX (us:=[]) rfl (jG) rfl (aU (i:=1) (vs:=[_,_,_,_,_,_]) (cs':=[_,_,_,_,_,_]) (O':=[_,_,_]) hS Tryz.sizeOf44 rfl rfl rfl rfl rfl rfl rfl fun W13 hS=>aB rfl rfl (aB rfl rfl (aB rfl rfl (aO (XF.thenN (bR (XF.thenR (XF.blkR (XF.thenR ?_)))))))))))))))))))))
   refine XF.thenR (XF.blkR (XF.thenR (XF.res (kZ (vs:=[_,_,_,_,_,_]) Tryz.results22 Tryz.isAgg44 Tryz.sizeOf44 rfl (aD.own (j:=0) (m:=6) (hS.at_ 1 rfl) rfl) rfl rfl rfl) ?_)))
   exact ⟨zF,none,0,by rw [fI hask (eE hy hpt (oU ht9 htq))];rfl,by rw [fI hask (eE hy hpt (oU ht9 htq))];exact lL,by rw [fI hask (eE hy hpt (oU ht9 htq))],hS.below⟩
  ·obtain ⟨bt,ot,hta,hcs⟩:=hA.trow.at_ ht9
   have kt:=aD.agree hS.agree (Nat.zero_le _) hcs
   have hmt:=List.mem_of_getElem? ht9
   have hyl:=(List.getElem?_eq_some_iff.1 ht9).1
   have hpt9:=hA.px _ hmt
   obtain ⟨rf,rg,rt,tx⟩:=t9
   dsimp only at htq
   refine iV (m:=28) bY hS (by kernel_rfl) (by kernel_rfl) rfl (cQ 1 rfl 3 rfl (by kernel_rfl) rfl (fun w hw=>aW rfl) rfl (cQ 2 rfl 16 rfl (by kernel_rfl) rfl (fun w hw=>aW rfl) rfl (aG 3 rfl (isV _) (aC _) (rgV (li:=[(36,_),(37,_)]) rfl (aT rfl) ⟨aP 0 (by kernel_rfl) (aA rfl rfl rfl),aP 1 (by kernel_rfl) (aA rfl rfl rfl),trivial⟩ (fun w hw=>aX  Tryz.underlying26 Tryz.sizeOf3 rfl rfl rfl (by omega) rfl) (aE rfl)) (bI 4 rfl 38 2 rfl (by kernel_rfl) rfl rfl (fun w hw=>aZ Tryz.isAgg3 rfl ((aL hw 0).cell (Nat.zero_le _) (k1))) rfl (aG 5 rfl (isV (.bool false)) (aC _) (jQ (li:=[(39,_)]) rfl (aT rfl) ⟨aP 3 (by kernel_rfl) (aA rfl rfl rfl),trivial⟩ (fun w hw=>tD rfl rfl) (by rw [decide_eq_false (by omega)]) (aE rfl)) (bI 6 rfl 40 4 rfl (by kernel_rfl) rfl rfl (fun w hw=>aW rfl) rfl (aG 7 rfl (isV _) (aC _) (rgV (li:=[(3,_)]) rfl (bH 41 rfl (by kernel_rfl) (by kernel_rfl) (aA rfl rfl rfl)) ⟨cU (by kernel_rfl) rfl,trivial⟩ (fun w hw=>aW rfl) (aE rfl)) (aG 8 rfl (isV _) (aC _) (rgV (li:=[(16,_)]) rfl (bH 41 rfl (by kernel_rfl) (by kernel_rfl) (aA rfl rfl rfl)) ⟨cU (by kernel_rfl) rfl,trivial⟩ (fun w hw=>aW rfl) (aE rfl)) (aG 9 rfl (isV _) (aC _) (rgV (li:=[(42,_),(43,_)]) rfl (bH 41 rfl (by kernel_rfl) (by kernel_rfl) (aA rfl rfl rfl)) ⟨aP 6 (by kernel_rfl) (aA rfl rfl rfl),aP 7 (by kernel_rfl) (aA rfl rfl rfl),trivial⟩ (fun w hw=>aX  Tryz.underlying26 Tryz.sizeOf3 rfl rfl rfl (by omega) rfl) (aE rfl)) (aG 10 rfl (isV _) (aC _) (rgV (li:=[(44,_)]) rfl (bH 41 rfl (by kernel_rfl) (by kernel_rfl) (aA rfl rfl rfl)) ⟨aP 8 (by kernel_rfl) (aA rfl rfl rfl),trivial⟩ (fun w hw=>aZ Tryz.isAgg3 rfl ((aL hw 0).cell (Nat.zero_le _) (k1))) (aE rfl)) (aG 11 rfl (isV _) (aC _) (rgV (li:=[(4,_)]) rfl (bH 41 rfl (by kernel_rfl) (by kernel_rfl) (aA rfl rfl rfl)) ⟨cU (by kernel_rfl) rfl,trivial⟩ (fun w hw=>aV (o':=6) eW rfl rfl) (aE rfl)) (aG 12 rfl (isV _) (aC _) (rgV (li:=[(46,_)]) rfl (bH 41 rfl (by kernel_rfl) (by kernel_rfl) (aA rfl rfl rfl)) ⟨aP 10 (by kernel_rfl) (aA rfl rfl rfl),trivial⟩ (fun w hw=>aZ Tryz.isAgg27 rfl ((aL hw 0).cell (Nat.zero_le _) (aJ (hS.at_ 2 rfl) rfl))) (aE rfl)) (aG 13 rfl (isV _) (aC _) (rgV (li:=[(47,_)]) rfl (bH 41 rfl (by kernel_rfl) (by kernel_rfl) (aA rfl rfl rfl)) ⟨aP 11 (by kernel_rfl) (aA rfl rfl rfl),trivial⟩ (fun w hw=>nN Tryz.underlying27 rfl) (aE rfl)) (aG 14 rfl (isV (.bool false)) (aC _) (jQ (li:=[(45,_),(48,_)]) rfl (bH 41 rfl (by kernel_rfl) (by kernel_rfl) (aA rfl rfl rfl)) ⟨aP 9 (by kernel_rfl) (aA rfl rfl rfl),aP 12 (by kernel_rfl) (aA rfl rfl rfl),trivial⟩ (fun w hw=>yX rfl rfl) (by rw [decide_eq_false (by omega)]) (aE rfl)) (aG 15 rfl (isV _) (aC _) (rgV (li:=[(41,_),(49,_)]) rfl (aT rfl) ⟨aP 5 (by kernel_rfl) (aA rfl rfl rfl),aP 13 (by kernel_rfl) (aA rfl rfl rfl),trivial⟩ (fun w hw=>dY rfl rfl) (aE rfl)) (bI 16 rfl 50 14 rfl (by kernel_rfl) rfl rfl (fun w hw=>aW rfl) rfl (aG 17 rfl (isV _) (aC _) (rgV (li:=[(4,_)]) rfl (bH 51 rfl (by kernel_rfl) (by kernel_rfl) (aA rfl rfl rfl)) ⟨cU (by kernel_rfl) rfl,trivial⟩ (fun w hw=>aV (o':=6) eW rfl rfl) (aE rfl)) (aG 18 rfl (isV _) (aC _) (rgV (li:=[(52,_)]) rfl (bH 51 rfl (by kernel_rfl) (by kernel_rfl) (aA rfl rfl rfl)) ⟨aP 16 (by kernel_rfl) (aA rfl rfl rfl),trivial⟩ (fun w hw=>aZ Tryz.isAgg27 rfl ((aL hw 0).cell (Nat.zero_le _) (aJ (hS.at_ 2 rfl) rfl))) (aE rfl)) (aG 19 rfl (isV _) (aC _) (rgV (li:=[(3,_)]) rfl (bH 51 rfl (by kernel_rfl) (by kernel_rfl) (aA rfl rfl rfl)) ⟨cU (by kernel_rfl) rfl,trivial⟩ (fun w hw=>aW rfl) (aE rfl)) (aG 20 rfl (isV _) (aC _) (rgV (li:=[(16,_)]) rfl (bH 51 rfl (by kernel_rfl) (by kernel_rfl) (aA rfl rfl rfl)) ⟨cU (by kernel_rfl) rfl,trivial⟩ (fun w hw=>aW rfl) (aE rfl)) ?_))))))))))))))))))))
   refine aG 21 rfl (isV _) (aC _) (rgV (li:=[(54,_),(55,_)]) rfl (bH 51 rfl (by kernel_rfl) (by kernel_rfl) (aA rfl rfl rfl)) ⟨aP 18 (by kernel_rfl) (aA rfl rfl rfl),aP 19 (by kernel_rfl) (aA rfl rfl rfl),trivial⟩ (fun w hw=>aX  Tryz.underlying26 Tryz.sizeOf3 rfl rfl rfl (by omega) rfl) (aE rfl)) (aG 22 rfl (isV _) (aC _) (rgV (li:=[(56,_)]) rfl (bH 51 rfl (by kernel_rfl) (by kernel_rfl) (aA rfl rfl rfl)) ⟨aP 20 (by kernel_rfl) (aA rfl rfl rfl),trivial⟩ (fun w hw=>aZ Tryz.isAgg3 rfl ((aL hw 0).cell (Nat.zero_le _) (k1))) (aE rfl)) ?_)
   refine aG 23 rfl (isV _) (aC _) (rgV (li:=[(53,_),(57,_)]) rfl (bH 51 rfl (by kernel_rfl) (by kernel_rfl) (aA rfl rfl rfl)) ⟨aP 17 (by kernel_rfl) (aA rfl rfl rfl),aP 21 (by kernel_rfl) (aA rfl rfl rfl),trivial⟩ (fun w hw=>aX (j:=yN) (b:=bt) (o:=ot) (m:=a.tl) (c:=a.tc) Tryz.underlying27 Tryz.sizeOf66 (by show some (Value.slice a.ta a.tl a.tc)=_;rw [hta]) rfl rfl (by omega) rfl) (aE rfl)) ?_
   refine aG 24 rfl (isV _) (aC _) (rgV (li:=[(58,_)]) rfl (bH 51 rfl (by kernel_rfl) (by kernel_rfl) (aA rfl rfl rfl)) ⟨aP 22 (by kernel_rfl) (aA rfl rfl rfl),trivial⟩ (fun w hw=>aV pS rfl (Nat.add_zero _)) (aE rfl)) (aG 25 rfl (isV _) (aC _) (rgV (li:=[(59,_)]) rfl (bH 51 rfl (by kernel_rfl) (by kernel_rfl) (aA rfl rfl rfl)) ⟨aP 23 (by kernel_rfl) (aA rfl rfl rfl),trivial⟩ (fun w hw=>aZ Tryz.isAgg3 rfl ((aL hw 0).cell (Nat.zero_le _) (kt.1))) (aE rfl)) (aG 26 rfl (isV _) (aC _) (rgV (li:=[(15,_)]) rfl (bH 51 rfl (by kernel_rfl) (by kernel_rfl) (aA rfl rfl rfl)) ⟨cU (by kernel_rfl) rfl,trivial⟩ (fun w hw=>aW rfl) (aE rfl)) (aG 27 rfl (isV (.bool false)) (aC _) (jQ (li:=[(60,_),(61,_)]) rfl (bH 51 rfl (by kernel_rfl) (by kernel_rfl) (aA rfl rfl rfl)) ⟨aP 24 (by kernel_rfl) (aA rfl rfl rfl),aP 25 (by kernel_rfl) (aA rfl rfl rfl),trivial⟩ (fun w hw=>yY rfl rfl) (by simp [htq]) (aE rfl)) (aG 28 rfl (isV _) (aC _) (rgV (li:=[(51,_),(62,_)]) rfl (aT rfl) ⟨aP 15 (by kernel_rfl) (aA rfl rfl rfl),aP 26 (by kernel_rfl) (aA rfl rfl rfl),trivial⟩ (fun w hw=>dY rfl rfl) (aE rfl)) (dE ?_)))))
   intro W14 hbR hS'
   clear hS;have hS:=hS';clear hS'
   refine aF (aF (aF (aF (aF (aF (aF (aF (aF (aF (aF (aF (aF (aF (aF (aF (aF (aF (aF (aF (aF ?_))))))))))))))))))))
   refine aF (aF (aF (aF (aF (aF (aF (cI (XF.thenN (yV rfl (bJ (XF.thenN (aM ?_))))))))))))
   have k2:=hS.old hyc
   have kt2:=aD.agree hS.agree (Nat.zero_le _) hcs
   refine regBA (cs:=[_,_,_,_,_,_,_,_,_]) bY 9 8 hS rfl rfl rfl rfl Tryz.zeroValue66 rfl (by kernel_rfl) (by kernel_rfl) (by kernel_rfl) (fun d hd=>by cases hd) (dZ 1 rfl rfl (isV _) (aC _) (agV (li:=[(4,_)]) rfl (aT rfl) ⟨cU (by kernel_rfl) rfl,trivial⟩ (fun w hw=>aV (o':=6) eW rfl rfl) (aE rfl)) (dZ 2 rfl rfl (isV _) (aC _) (agV (li:=[(65,_)]) rfl (aT rfl) ⟨aP 0 (by kernel_rfl) (aA rfl rfl rfl),trivial⟩ (fun w hw=>aZ Tryz.isAgg27 rfl ((aL hw 0).cell (Nat.zero_le _) (aJ (hS.at_ 2 rfl) rfl))) (aE rfl)) (dZ 3 rfl rfl (isV _) (aC _) (agV (li:=[(3,_)]) rfl (aT rfl) ⟨cU (by kernel_rfl) rfl,trivial⟩ (fun w hw=>aW rfl) (aE rfl)) (dZ 4 rfl rfl (isV _) (aC _) (agV (li:=[(16,_)]) rfl (aT rfl) ⟨cU (by kernel_rfl) rfl,trivial⟩ (fun w hw=>aW rfl) (aE rfl)) (dZ 5 rfl rfl (isV _) (aC _) (agV (li:=[(67,_),(68,_)]) rfl (aT rfl) ⟨aP 2 (by kernel_rfl) (aA rfl rfl rfl),aP 3 (by kernel_rfl) (aA rfl rfl rfl),trivial⟩ (fun w hw=>aX  Tryz.underlying26 Tryz.sizeOf3 rfl rfl rfl (by omega) rfl) (aE rfl)) (dZ 6 rfl rfl (isV _) (aC _) (agV (li:=[(69,_)]) rfl (aT rfl) ⟨aP 4 (by kernel_rfl) (aA rfl rfl rfl),trivial⟩ (fun w hw=>aZ Tryz.isAgg3 rfl ((aL hw 0).cell (Nat.zero_le _) (k2))) (aE rfl)) ?_))))))
   refine dZ 7 rfl rfl (isV _) (aC _) (agV (li:=[(66,_),(70,_)]) rfl (aT rfl) ⟨aP 1 (by kernel_rfl) (aA rfl rfl rfl),aP 5 (by kernel_rfl) (aA rfl rfl rfl),trivial⟩ (fun w hw=>aX (j:=yN) (b:=bt) (o:=ot) (m:=a.tl) (c:=a.tc) Tryz.underlying27 Tryz.sizeOf66 (by show some (Value.slice a.ta a.tl a.tc)=_;rw [hta]) rfl rfl (by omega) rfl) (aE rfl)) ?_
   refine dZ 8 rfl rfl (isV _) (aC _) (agV (li:=[(71,_)]) rfl (aT rfl) ⟨aP 6 (by kernel_rfl) (aA rfl rfl rfl),trivial⟩ (fun w hw=>aY (vs:=[_,_,_,_,_,_,_,_,_]) Tryz.isAgg66 Tryz.sizeOf66 rfl (aD.agree (aL hw 0) (Nat.zero_le _) (kt2))) (aE rfl)) (Ck 9 rfl rfl (L4 ?_))
   intro B15 AB15 W15 hbR hA1 hA2 hBlo hBhi hS'
   clear hS;have hS:=hS';clear hS'
   refine iC (iC (iC (iC (iC (iC (iC (iC (aF (cI (aU (i:=0) (vs:=[_,_,_,_,_,_,_,_,_]) (cs':=[_,_,_,_,_,_,_,_,_]) (O':=[_,_,_,_]) hS Tryz.sizeOf66 rfl rfl rfl rfl rfl rfl rfl fun W16 hS=>aO (XF.thenN (aM (aQ (aN (o':=0) lZ rfl rfl rfl (aR (vs:=[_,_,_]) Tryz.isAgg25 Tryz.sizeOf25 rfl (aD.own (j:=0) (m:=3) (hS.at_ 3 rfl) rfl) rfl (aH rfl rfl (aR (vs:=[_,_,_,_,_,_]) Tryz.isAgg44 Tryz.sizeOf44 rfl (aD.own (j:=0) (m:=6) (hS.at_ 1 rfl) rfl) rfl (aN (o':=3) vT rfl rfl rfl (aR (vs:=[_,_,_,_,_,_]) Tryz.isAgg44 Tryz.sizeOf44 rfl (aD.own (j:=3) (m:=6) (hS.at_ 0 rfl) rfl) rfl ?_)))))))))))))))))))
   have hszP:=hS.below.size
   refine cK (vs:=[_,_,_,_]) hS goes_68 rfl (Uu S a.s.f bk fz tx.f x (py ⟨rf,rg,rt,tx⟩) _ (hA.si.below hS.below) hA.ok (HZ hS (fun q hq=>by simp [hq])).is (hpt9.below hS.below)) rfl ?_
   rintro e W17 ⟨f9,rfl,hn9,hb⟩
   refine ⟨_,rfl,hb,fun hS'=>?_⟩
   clear hS;have hS:=hS';clear hS'
   have H9:kI w ((W16.heap.size,W17)::Kk) (fun W2=>fU w.heap.size W2 S f9 (fV S bk x (py ⟨rf,rg,rt,tx⟩))):=fun h2 hk=>(hn9.agree (h2.kept _ (hk _ List.mem_cons_self)).1).mono hszP
   have hS:=hS.keep ((W16.heap.size,W17)::Kk) (fun q hq=>by rcases List.mem_cons.1 hq with rfl | hq<;>simp [*])
   refine aU (i:=1) (vs:=[_,_,_,_,_,_]) (cs':=[_,_,_,_,_,_]) (O':=[_,_,_,_]) hS Tryz.sizeOf44 rfl rfl rfl rfl rfl rfl rfl fun W18 hS=>aO (XF.thenN (aM (aM (aQ (aN (o':=1) lY rfl rfl rfl (aS Tryz.isAgg3 rfl (aJ (hS.at_ 0 rfl) rfl) rfl (nO rfl rfl rfl (aO (XF.thenN (bB rfl (fun hc=>?_) (fun hc=>?_)))))))))))
   ·have hc82:=of_decide_eq_true hc;clear hc
    refine aQ (aH rfl rfl (aN (o':=1) lY rfl rfl rfl (aS Tryz.isAgg3 rfl (aJ (hS.at_ 0 rfl) rfl) rfl (cT (us:=[(0,.int .i64 _)]) hS Tryz.underlying26 Tryz.sizeOf3 Tryz.zeroValue3 rfl rfl rfl (gS _) rfl fun B19 W19 hS=>?_))))
    refine nW (i:=0) (news:=[_]) hS Tryz.underlying26 zI rfl rfl (by show 0 < 1;decide) rfl rfl rfl rfl rfl (aD.own (j:=0) (m:=1) (hS.at_ 0 rfl) rfl) rfl rfl (by dsimp only;simp only [maxLen];omega) (by dsimp only;show (_+1) * 8≤_;omega) rfl fun v20 W20 hS=>?_
    refine aB rfl rfl (aO (XF.thenN (aQ (aN (o':=2) kY rfl rfl rfl (aS Tryz.isAgg3 rfl (aJ (hS.at_ 1 rfl) rfl) rfl (aB rfl rfl (aO (XF.blkN (XF.thenN (aQ (aH rfl rfl (cY rfl rfl (IntWalk.i64_in _ (by omega)) rfl (aB rfl rfl (aO ?_))))))))))))))
    exact XF.round (ll - (i+1)) [(1,_),(3,_),(4,_),(8,_),(13,_),(14,_),(15,_),(16,_)] (by omega) ⟨rfl,rfl,rfl,rfl,rfl,rfl,rfl,rfl,trivial⟩ ⟨i+1,rt,(fV S bk x (py ⟨rf,rg,rt,tx⟩)),f9,u++[rg],_,_,by omega,rfl,rfl,(by rw [oT hy hpt,wG ht9 htq];dsimp only;rw [if_pos hc82]),(by first | omega | (simp only [List.length_append,List.length_cons,List.length_nil];omega)),H9,hS.tail.tail.castG (by rw [List.length_append,List.map_append];rfl)⟩
   ·have hc82:=of_decide_eq_false hc;clear hc
    refine bJ (XF.thenN (aQ (aN (o':=2) kY rfl rfl rfl (aS Tryz.isAgg3 rfl (aJ (hS.at_ 0 rfl) rfl) rfl (aB rfl rfl (aO (XF.blkN (XF.thenN (aQ (aH rfl rfl (cY rfl rfl (IntWalk.i64_in _ (by omega)) rfl (aB rfl rfl (aO ?_)))))))))))))
    exact XF.round (ll - (i+1)) [(1,_),(3,_),(4,_),(8,_),(13,_),(14,_),(15,_),(16,_)] (by omega) ⟨rfl,rfl,rfl,rfl,rfl,rfl,rfl,rfl,trivial⟩ ⟨i+1,rt,(fV S bk x (py ⟨rf,rg,rt,tx⟩)),f9,u,v,_,by omega,rfl,rfl,(by rw [oT hy hpt,wG ht9 htq];dsimp only;rw [if_neg hc82]),(by first | omega | (simp only [List.length_append,List.length_cons,List.length_nil];omega)),H9,hS.tail⟩
 ·have hc33:=of_decide_eq_false hc;clear hc
  rw [List.take_of_length_le (by omega)] at hpt
  obtain ⟨a9,c9,e9⟩:=M1 (hS.row 0 rfl)
  dsimp only at e9
  subst e9
  refine dX (XF.thenX (XF.thenX (XF.blkX (XF.thenN (aM (Pp (ef:=5) (jy:=0) (ca:=pO (fun _=>[])) (ta:=fun _=>0) (Os:=osY _ 1 (0) B2 ([.bool false,.int .i64 0,.int .u64 0,.slice none 0 0,.slice none 0 0,.slice none 0 0]) 44) (Gs:=xB _) (al:=[]) (k:=6) (ds:=[9,10,11]) bY rfl hS rfl (by kernel_rfl) (by kernel_rfl) rfl (by decide) rfl some (.inl ⟨rfl,rfl⟩) rfl rfl (bA 1 rfl rfl (isV _) (fun hNo=>sgV [(13,_)] rfl rfl rfl rfl hNo (aT rfl) ⟨cU (by kernel_rfl) rfl,trivial⟩ (fun ev w he hw=>aY (vs:=[_,_,_,_,_,_]) Tryz.isAgg44 Tryz.sizeOf44 rfl ((aD.own (j:=0) (m:=6) (hw.at_ 0 (pT (i:=0) (j:=1) rfl rfl)) rfl))) (aE rfl)) (bA 2 rfl rfl (isV _) (fun hNo=>sgV [(14,_)] rfl rfl rfl rfl hNo (aT rfl) ⟨cU (by kernel_rfl) rfl,trivial⟩ (fun ev w he hw=>aW rfl) (aE rfl)) (bA 3 rfl rfl (isV _) (fun hNo=>sgV [(4,_)] rfl rfl rfl rfl hNo (aT rfl) ⟨cU (by kernel_rfl) rfl,trivial⟩ (fun ev w he hw=>aY (vs:=[_,_,_,_,_,_,_]) Tryz.isAgg29 Tryz.sizeOf29 rfl ((aD.own (j:=0) (m:=7) (hw.at_ 2 (pT (i:=2) (j:=1) rfl rfl)) rfl))) (aE rfl)) (bA 4 rfl rfl (isV _) (fun hNo=>sgV [(15,_)] rfl rfl rfl rfl hNo (aT rfl) ⟨cU (by kernel_rfl) rfl,trivial⟩ (fun ev w he hw=>aW rfl) (aE rfl)) ?_))))))))))
  refine bA 5 rfl rfl (isV (.bool (uE a.fs q))) (fun hNo=>sF [isV _,isV _] rfl rfl rfl rfl hNo goes_69 (aT rfl) ⟨bW (aP 2 (by kernel_rfl) (aA rfl rfl rfl)),bW (aP 3 (by kernel_rfl) (aA rfl rfl rfl)),trivial⟩ (fun vs ev w' he hSt hlo hh=>by have e:=bZ (us:=[_,_]) hh;subst e;exact (Lm ds d a q w' (hin.below hSt.below)).mono fun e w2 h=>⟨_,h.1,fun _ _=>rfl,h.2⟩) (aE rfl)) ?_
  refine sG 6 rfl (vV (py:=isV _) (m:=6) 1 (0) [(8,_)] rfl rfl rfl rfl (by kernel_rfl) rfl rfl (fun j hj=>by rcases hj with h | rfl<;>first | (cases h<;>rfl) | rfl) ⟨cU (by kernel_rfl) rfl,trivial⟩ rfl rfl Tryz.sizeOf44 (fun v w h=>by subst h;exact ⟨_,rfl,rfl,rfl⟩) rfl) ?_
  refine lX ?_
  intro Bf21 y21 W21 Ks21 hsz21 hKs21 hS' hcov21
  clear hS;have hS:=hS'.castO (O':=[_,_,_]) rfl;clear hS'
  refine vN (L':=[(fun v0_ w0_=>v0_=_∧AwS _ _ (isV _) v0_ w0_),AwS _ _ (isV _),AwS _ _ (isV _),AwS _ _ (isV _),AwS _ _ (isV (.bool (uE a.fs q))),isV _]) rfl ?_
  refine dF ?_;rintro _ ⟨rfl,hA21⟩;have hA21:=hA21.here;cases hA21
  refine cA (cA (cA (cA (Ds (cI (aB rfl rfl (aB rfl rfl (aB rfl rfl (aO (XF.thenN (bR (XF.res (kZ (vs:=[_,_,_,_,_,_]) Tryz.results22 Tryz.isAgg44 Tryz.sizeOf44 rfl (aD.own (j:=0) (m:=6) (hS.at_ 1 rfl) rfl) rfl rfl rfl) ?_))))))))))))
  have hE:=Gm hask hpt
  exact ⟨fz,a9,c9,by rw [hE],by rw [hE];exact hS.row 0 rfl,by rw [hE];exact HZ hS (fun q hq=>by simp [hq]),hS.below⟩
theorem Qj (ds d:Nat) (a:AV) (S:PS) (py:TV→PX) (bk:Bool) (fr:Int) (w:World) (hin:AIn w ds d a) (la:Option Addr) (ll lc:Nat) (l:List Int) (hla:Row w la l) (hll:l.length=ll) (hlm:ll≤4096) (hask:gP a [fr] []≠0) :
  Calls Tryz.prog 22 #[a.val,.bool bk,.int .i64 fr,.slice la ll lc] w (Qg S (pE S bk py a fr l) w):=by
 refine cD (args:=[a.val,.bool bk,.int .i64 fr,.slice la ll lc]) Tryz.func22 rfl Tryz.ntmps22 rfl ?_
 have hS:=St.start w
 refine aM (aQ (bT (cs:=[_,_,_,_,_,_,_]) hS rfl rfl rfl fun B1 W1 hS=>bC (cs:=[_,_,_,_,_,_]) hS Tryz.zeroValue44 rfl rfl fun B2 W2 hS=>aB rfl rfl (aB rfl rfl (aB rfl rfl (aO (XF.thenN (aM (aQ (aR (vs:=[_,_,_,_,_,_,_]) Tryz.isAgg29 Tryz.sizeOf29 rfl (aD.own (j:=0) (m:=7) (hS.at_ 1 rfl) rfl) rfl (aH rfl rfl (cT (us:=[(0,.int .i64 _)]) hS Tryz.underlying26 Tryz.sizeOf3 Tryz.zeroValue3 rfl rfl rfl (gS _) rfl fun B3 W3 hS=>cB (vs:=[_,_,_]) hS Nq rfl (D8 ds d a.s a.st a.sy a.fa a.fl a.fc a.fs a.ta a.tl a.tc a.ts _ (hin.below hS.below).s (hin.below hS.below).frow (hin.below hS.below).flen (hin.below hS.below).trow (hin.below hS.below).tlen (hin.below hS.below).tin hin.fmax hin.tmax _ 1 1 [fr] none 0 0 [] (Gi (hS.at_ 0 rfl)) rfl (by decide) (.inl rfl) rfl (by decide)) rfl fun W4 hS=>aB rfl rfl (aO (XF.thenN (aM (aM (aQ (aH rfl rfl (dD rfl rfl rfl (aO (XF.thenN (bB rfl (fun hc=>?_) (fun hc=>absurd (of_decide_eq_false hc) (by exact fun h=>h hask)))))))))))))))))))))))
 have hc:=of_decide_eq_true hc
 refine aM (aQ (cX (us:=[]) rfl (jG) rfl (aH rfl rfl (aU (i:=1) (vs:=[_,_,_,_,_,_]) (cs':=[_,_,_,_,_,_]) (O':=[_,_,_]) hS Tryz.sizeOf44 rfl rfl rfl rfl rfl rfl rfl fun W5 hS=>aB rfl rfl (aB rfl rfl (aB rfl rfl (aO (XF.thenN (bR (XF.thenR (XF.res (kZ (vs:=[_,_,_,_,_,_]) Tryz.results22 Tryz.isAgg44 Tryz.sizeOf44 rfl (aD.own (j:=0) (m:=6) (hS.at_ 1 rfl) rfl) rfl rfl rfl) ?_)))))))))))
 exact ⟨zF,none,0,by rw [uG hask];rfl,by rw [uG hask];exact lL,by rw [uG hask],hS.below⟩
theorem Br (a1:Option Addr) (c1:Nat) (a2:Option Addr) (c2 n:Nat) (u:List Int) (w:World) (h1:Row w a1 u) (h2:Row w a2 u) (hl:u.length=n) (hm:n≤9223372036854775807) :
  Calls Tryz.prog 23 #[.slice a1 n c1,.slice a2 n c2] w (fun e w'=>e = .returned (.bool (true))∧Below w.heap.size w w'):=by
 refine cD (args:=[.slice a1 n c1,.slice a2 n c2]) Tryz.func23 rfl Tryz.ntmps23 rfl ?_
 have hS:=St.start w
 refine aM (aQ (aB rfl rfl (aO (XF.thenN (aM (aM (aQ (aH rfl rfl (cJ Tryz.underlying26 rfl rfl (aH rfl rfl (cJ Tryz.underlying26 rfl rfl (dD rfl rfl rfl (aO (XF.thenN (bB rfl (fun hc=>absurd (of_decide_eq_true hc) (by exact fun h=>h rfl)) (fun hc=>?_))))))))))))))))
 have hc:=of_decide_eq_false hc
 refine bJ (XF.thenN (aM (aM (aQ (aB rfl rfl (aO (XF.thenN (bP (eA (fun m lf W=>∃ i:Nat,i≤n∧m=n - i∧lf=[(0,.slice a1 n c1),(1,.slice a2 n c2),(5,.int .i64 (i:Int))]∧St w [] [] [] W) (n - 0) ([(0,_),(1,_),(5,_)]) ⟨rfl,rfl,rfl,trivial⟩ (⟨0,Nat.zero_le _,rfl,rfl,hS.clear⟩) ?_)))))))))
 clear hS
 rintro m lf W ⟨i,hi,rfl,rfl,hS⟩
 refine aM (aM (aQ (aH rfl rfl (aH rfl rfl (cJ Tryz.underlying26 rfl rfl (cS rfl rfl rfl (aO (XF.thenN (bB rfl (fun hc=>?_) (fun hc=>?_))))))))))
 ·have hc14:=of_decide_eq_true hc;clear hc
  have hk:i < n:=by omega
  obtain ⟨b,off,y,rfl,hy,hyc⟩:=h1.at1 (show i < u.length by omega)
  obtain ⟨b2,off2,y2,rfl,hy2,hyc2⟩:=h2.at1 (show i < u.length by omega)
  obtain rfl:y=y2:=Option.some.inj (hy.symm.trans hy2)
  have k1:=hS.old hyc
  have k2:=hS.old hyc2
  refine bJ (XF.thenN (aM (bP (aM (iV (m:=9) bY hS (by kernel_rfl) (by kernel_rfl) rfl (cQ 1 rfl 0 rfl (by kernel_rfl) rfl (fun w hw=>aW rfl) rfl (cQ 2 rfl 5 rfl (by kernel_rfl) rfl (fun w hw=>aW rfl) rfl (aG 3 rfl (isV _) (aC _) (rgV (li:=[(17,_),(18,_)]) rfl (aT rfl) ⟨aP 0 (by kernel_rfl) (aA rfl rfl rfl),aP 1 (by kernel_rfl) (aA rfl rfl rfl),trivial⟩ (fun w hw=>aX  Tryz.underlying26 Tryz.sizeOf3 rfl rfl rfl (by omega) rfl) (aE rfl)) (bI 4 rfl 19 2 rfl (by kernel_rfl) rfl rfl (fun w hw=>aZ Tryz.isAgg3 rfl ((aL hw 0).cell (Nat.zero_le _) (k1))) rfl (cQ 5 rfl 1 rfl (by kernel_rfl) rfl (fun w hw=>aW rfl) rfl (cQ 6 rfl 5 rfl (by kernel_rfl) rfl (fun w hw=>aW rfl) rfl (aG 7 rfl (isV _) (aC _) (rgV (li:=[(21,_),(22,_)]) rfl (aT rfl) ⟨aP 4 (by kernel_rfl) (aA rfl rfl rfl),aP 5 (by kernel_rfl) (aA rfl rfl rfl),trivial⟩ (fun w hw=>aX  Tryz.underlying26 Tryz.sizeOf3 rfl rfl rfl (by omega) rfl) (aE rfl)) (bI 8 rfl 23 6 rfl (by kernel_rfl) rfl rfl (fun w hw=>aZ Tryz.isAgg3 rfl ((aL hw 0).cell (Nat.zero_le _) (k2))) rfl (aG 9 rfl (isV (.bool false)) (aC _) (jQ (li:=[(20,_),(24,_)]) rfl (aT rfl) ⟨aP 3 (by kernel_rfl) (aA rfl rfl rfl),aP 7 (by kernel_rfl) (aA rfl rfl rfl),trivial⟩ (fun w hw=>yY rfl rfl) (by simp) (aE rfl)) (dE ?_)))))))))))))))
  intro W1 hbR hS'
  clear hS;have hS:=hS';clear hS'
  refine aF (aF (aF (aF (aF (aF (aF (aF (aF (cI (XF.thenN (yV rfl (bJ (XF.blkN (XF.thenN (aQ (aH rfl rfl (cY rfl rfl (IntWalk.i64_in _ (by omega)) rfl (aB rfl rfl (aO ?_)))))))))))))))))))
  exact XF.round (n - (i+1)) [(0,_),(1,_),(5,_)] (by omega) ⟨rfl,rfl,rfl,trivial⟩ ⟨i+1,by omega,rfl,rfl,hS.clear⟩
 ·have hc14:=of_decide_eq_false hc;clear hc
  refine dX (XF.thenX (XF.thenX (XF.blkX (XF.thenN (aM (aQ (aB rfl rfl (aO (XF.thenN (bR (XF.res (cO Tryz.results23 rfl) ?_)))))))))))
  exact ⟨rfl,hS.below⟩
theorem Qk (ds d:Nat) (a:AV) (S:PS) (py:TV→PX) (n:Nat) (bk:Bool) (fr:Int) (w:World) (hin:AIn w ds d a) (hA:gP a [fr] []=0→AutoOk w S py n a) (la:Option Addr) (ll lc:Nat) (l:List Int) (hla:Row w la l) (hll:l.length=ll) (hlm:ll≤4096) (ht:Tabs w):Calls Tryz.prog 21 #[a.val,.bool bk,.int .i64 fr,.slice la ll lc] w (Qg S (pE S bk py a fr l) w):=by
 by_cases h0:gP a [fr] []=0
 ·have hA9:=hA h0
  have h1:=(nM h0).2.1 fr (by simp)
  rw [hA9.st] at h1
  obtain ⟨p,rfl,hp⟩:=iN h1
  exact U9 ds d a S py n bk p w hin hA9 hp la ll lc l hla hll hlm h0 ht
 ·exact Qi ds d a S py bk fr w hin la ll lc l hla hll hlm h0
theorem Ql (ds d:Nat) (a:AV) (S:PS) (py:TV→PX) (n:Nat) (bk:Bool) (fr:Int) (w:World) (hin:AIn w ds d a) (hA:gP a [fr] []=0→AutoOk w S py n a) (la:Option Addr) (ll lc:Nat) (l:List Int) (hla:Row w la l) (hll:l.length=ll) (hlm:ll≤4096):Calls Tryz.prog 22 #[a.val,.bool bk,.int .i64 fr,.slice la ll lc] w (Qg S (pE S bk py a fr l) w):=by
 by_cases h0:gP a [fr] []=0
 ·have hA9:=hA h0
  have h1:=(nM h0).2.1 fr (by simp)
  rw [hA9.st] at h1
  obtain ⟨p,rfl,hp⟩:=iN h1
  exact Va ds d a S py n bk p w hin hA9 hp la ll lc l hla hll hlm h0
 ·exact Qj ds d a S py bk fr w hin la ll lc l hla hll hlm h0
theorem Vb {S:PS} {bk:Bool} {py:TV→PX} {a:AV} {fr:Int} {l:List Int} (h:(pE S bk py a fr l).e=0):∃ q x u,gP a [fr] []=0∧sQ S bk py a.ts l (fr,jS S,[])=some (q,x,u)∧pE S bk py a fr l=⟨0,u,uE a.fs q,some x⟩:=by
 by_cases h0:gP a [fr] []=0
 ·cases hp:sQ S bk py a.ts l (fr,jS S,[]) with
  | none=>rw [fI h0 hp] at h;cases h
  | some s=>obtain ⟨q,x,u⟩:=s;exact ⟨q,x,u,h0,rfl,Gm h0 hp⟩
 ·rw [uG h0] at h;exact absurd h h0
theorem pE_non {S:PS} {bk:Bool} {py:TV→PX} {a:AV} {fr:Int} {l:List Int} (h:(pE S bk py a fr l).x=none):(pE S bk py a fr l).e≠0:=fun h0=>by
 obtain ⟨q,x,u,_,_,h1⟩:=Vb h0
 rw [h1] at h;cases h
theorem D9 {S:PS} {bk:Bool} {py:TV→PX} {a:AV} {n p:Nat} {w:World} (hA:AutoOk w S py n a):∀ (l:List Int) (s s1:Int×PX×List Int),(∃ qn:Nat,s.1=(qn:Int)∧Pth S bk (egsX kSym py a.ts) p s.2.2 qn s.2.1∧∀ y∈s.2.2,inQ y a.sy=true)→sQ S bk py a.ts l s=some s1→∃ qn:Nat,s1.1=(qn:Int)∧Pth S bk (egsX kSym py a.ts) p s1.2.2 qn s1.2.1∧∀ y∈s1.2.2,inQ y a.sy=true
 | [],s,s1,h,h1=>by
  have e:some s=some s1:=h1
  cases e;exact h
 | j::l,s,s1,⟨qn,e1,hp,hs⟩,h1=>by
  have h2:(lU S bk py a.ts s j >>= fun s=>sQ S bk py a.ts l s)=some s1:=h1
  cases h3:lU S bk py a.ts s j with
  | none=>rw [h3] at h2;cases h2
  | some s2 =>
   rw [h3] at h2
   refine D9 hA l s2 s1 ?_ h2
   unfold lU at h3
   by_cases c1:j < 0
   ·rw [if_pos c1] at h3;cases h3
   rw [if_neg c1] at h3
   by_cases c2:(a.ts.length:Int)≤j
   ·rw [if_pos c2] at h3;cases h3
   rw [if_neg c2] at h3
   cases ht:a.ts[j.toNat]? with
   | none=>rw [ht] at h3;cases h3
   | some t =>
    rw [ht] at h3
    dsimp only at h3
    by_cases c3:t.f=s.1
    ·rw [if_pos c3] at h3
     have hm:=List.mem_of_getElem? ht
     obtain ⟨tn,htn,_⟩:=iN (hA.tt t hm)
     have hg:=hA.tg t hm
     have hef:(egX kSym py t).f=qn:=by show t.f.toNat=qn;rw [c3,e1,Int.toNat_natCast]
     have het:(egX kSym py t).t=tn:=by show t.t.toNat=tn;rw [htn,Int.toNat_natCast]
     cases h3
     refine ⟨tn,htn,?_,?_⟩
     ·dsimp only
      by_cases c4:0≤t.g
      ·rw [if_pos c4,← het]
       exact Pth.sym (e:=egX kSym py t) hp (List.mem_map_of_mem hm) hef (show t.g ≠ -1 by omega)
      ·rw [if_neg c4,← het]
       exact Pth.eps (e:=egX kSym py t) hp (List.mem_map_of_mem hm) hef (show t.g = -1 by omega)
     ·dsimp only
      intro y hy
      by_cases c4:0≤t.g
      ·rw [if_pos c4] at hy
       rcases List.mem_append.1 hy with h | h
       ·exact hs y h
       ·simp at h;subst h
        simp only [inQ,Bool.and_eq_true,decide_eq_true_eq];omega
      ·rw [if_neg c4] at hy;exact hs y hy
    ·rw [if_neg c3] at h3;cases h3
theorem Vc {fs:List Int} {qn:Nat} (h:uE fs (qn:Int)=true):qn∈fs.map Int.toNat:=by
 obtain ⟨y,hy,e⟩:=List.any_eq_true.1 h
 have e:y=(qn:Int):=by simpa using e
 exact List.mem_map.2 ⟨y,hy,by rw [e,Int.toNat_natCast]⟩
theorem path_ex {w:World} {ds d:Nat} {a:AV} {fr:Int} (hin:AIn w ds d a):∃ S py n,gP a [fr] []=0→AutoOk w S py n a:=by
 by_cases h1:gP a [fr] []=0
 ·obtain ⟨S,py,n,h⟩:=Qc hin (nM h1).1
  exact ⟨S,py,n,fun _=>h⟩
 ·exact ⟨.one 1 0,fun _=>.one dJ,0,fun h=>absurd h h1⟩
theorem goes_18:bK Tryz.prog 18=true:=by kernel_rfl
theorem goes_21:bK Tryz.prog 21=true:=by kernel_rfl
theorem goes_22:bK Tryz.prog 22=true:=by kernel_rfl
theorem Nr:bK Tryz.prog 23=true:=by kernel_rfl
theorem sameZ9 (w:World):Calls Tryz.prog 20 #[.agg #[.bool false,.int .i64 0,.int .u64 0,.slice none 0 0,.slice none 0 0,.slice none 0 0],.agg #[.bool false,.int .i64 0,.int .u64 0,.slice none 0 0,.slice none 0 0,.slice none 0 0]] w fun e w'=>e = .returned (.bool true)∧Below w.heap.size w w':=Dp 1 1 (wC9 0) (wC9 0) w (Gk w 0) (Gk w 0) rfl rfl
theorem Bt (ds d:Nat) (a:AV) (bk:Bool) (fr:Int) (w:World) (hin:AIn w ds d a) (la:Option Addr) (ll lc:Nat) (l:List Int) (hla:Row w la l) (hll:l.length=ll) (hlm:ll≤9223372036854775807) (ht:Tabs w) :
  Calls Tryz.prog 5 #[a.val,.bool bk,.int .i64 fr,.slice la ll lc] w (fun e w'=>e = .returned (.bool (true))∧Below w.heap.size w w'):=by
 refine cD (args:=[a.val,.bool bk,.int .i64 fr,.slice la ll lc]) Tryz.func5 rfl Tryz.ntmps5 rfl ?_
 have hS:=St.start w
 obtain ⟨S,py,n,hAx⟩:=path_ex (fr:=fr) hin
 refine aM (aQ (bT (cs:=[_,_,_,_,_,_,_]) hS rfl rfl rfl fun B1 W1 hS=>aB rfl rfl (aO (XF.thenN (aM (aM (aQ (cB (vs:=[]) hS goes_10 rfl (Qf _ (ht.below hS.below)) rfl fun W2 hS=>eO rfl rfl (aO (XF.thenN (yV rfl (bJ (XF.thenN (aM (aM (aQ (aR (vs:=[_,_,_,_,_,_,_]) Tryz.isAgg29 Tryz.sizeOf29 rfl (aD.own (j:=0) (m:=7) (hS.at_ 0 rfl) rfl) rfl (aH rfl rfl (cK (vs:=[_,_]) hS goes_11 rfl (Qe a la ll lc _) rfl ?_)))))))))))))))))))
 rintro e W3 ⟨b9,rfl,hsm,hb⟩
 refine ⟨_,rfl,hb,fun hS'=>?_⟩
 clear hS;have hS:=hS';clear hS' hb
 refine eO rfl rfl (aO (XF.thenN (bB rfl (fun hc=>?_) (fun hc=>?_))))
 ·have hc30:=hc;clear hc
  refine aM (aQ (aB rfl rfl (aO (XF.thenN (bR (XF.thenR (XF.res (cO Tryz.results5 rfl) ?_)))))))
  exact ⟨rfl,hS.below⟩
 ·have hc30:=hc;clear hc
  have hb9:b9=true:=by simpa using hc30
  obtain ⟨hs1,hs2,hs3⟩:=hsm hb9
  have hlm4:ll≤4096:=by omega
  refine bJ (XF.thenN (aM (aQ (aR (vs:=[_,_,_,_,_,_,_]) Tryz.isAgg29 Tryz.sizeOf29 rfl (aD.own (j:=0) (m:=7) (hS.at_ 0 rfl) rfl) rfl (aH rfl rfl (aH rfl rfl (aH rfl rfl (cK (vs:=[_,_,_,_]) hS goes_21 rfl (Qk ds d a S py n bk fr _ (hin.below hS.below) (fun h=>(hAx h).below hS.below) la ll lc l (hla.below hS.below) hll hlm4 (ht.below hS.below)) rfl ?_))))))))
  rintro e W4 ⟨f1,a1,c1,rfl,hr1,hx1,hb⟩
  refine ⟨_,rfl,hb,fun hS'=>?_⟩
  clear hS;have hS:=hS';clear hS'
  refine aH rfl rfl (bE rfl rfl rfl (bE rfl rfl rfl (bE rfl rfl rfl (bE rfl rfl rfl (bC (cs:=[_,_,_,_,_,_]) hS Tryz.zeroValue44 rfl rfl fun B5 W5 hS=>aU (i:=0) (vs:=[_,_,_,_,_,_]) (cs':=[_,_,_,_,_,_]) (O':=[_,_]) hS Tryz.sizeOf44 rfl rfl rfl rfl rfl rfl rfl fun W6 hS=>aB rfl rfl (aB rfl rfl (aB rfl rfl (aO (XF.thenN (aM (aQ (aR (vs:=[_,_,_,_,_,_,_]) Tryz.isAgg29 Tryz.sizeOf29 rfl (aD.own (j:=0) (m:=7) (hS.at_ 1 rfl) rfl) rfl (aH rfl rfl (aH rfl rfl (aH rfl rfl (cK (vs:=[_,_,_,_]) hS goes_22 rfl (Ql ds d a S py n bk fr _ (hin.below hS.below) (fun h=>(hAx h).below hS.below) la ll lc l (hla.below hS.below) hll hlm4) rfl ?_))))))))))))))))
  rintro e W7 ⟨f2,a2,c2,rfl,hr2,hx2,hb⟩
  refine ⟨_,rfl,hb,fun hS'=>?_⟩
  clear hS;have hS:=hS';clear hS'
  refine aH rfl rfl (bE rfl rfl rfl (bE rfl rfl rfl (bE rfl rfl rfl (bE rfl rfl rfl (bC (cs:=[_,_,_,_,_,_]) hS Tryz.zeroValue44 rfl rfl fun B8 W8 hS=>aU (i:=0) (vs:=[_,_,_,_,_,_]) (cs':=[_,_,_,_,_,_]) (O':=[_,_,_]) hS Tryz.sizeOf44 rfl rfl rfl rfl rfl rfl rfl fun W9 hS=>aB rfl rfl (aB rfl rfl (aB rfl rfl (aO (XF.thenN (aM (aM ?_)))))))))))
  rcases hxe:(pE S bk py a fr l).x with _ | x<;>rw [hxe] at hx1 hx2
  ·obtain rfl:=hx1
   obtain rfl:=hx2
   refine aQ (aR (vs:=[_,_,_,_,_,_]) Tryz.isAgg44 Tryz.sizeOf44 rfl (aD.own (j:=0) (m:=6) (hS.at_ 1 rfl) rfl) rfl (aR (vs:=[_,_,_,_,_,_]) Tryz.isAgg44 Tryz.sizeOf44 rfl (aD.own (j:=0) (m:=6) (hS.at_ 0 rfl) rfl) rfl (cB (vs:=[_,_]) hS rU rfl (sameZ9 _) rfl fun W10 hS=>eO rfl rfl (aH rfl rfl (aI (d:=55) rfl rfl (aH rfl rfl (aI (d:=55) rfl rfl (aH rfl rfl (aI (d:=55) rfl rfl ?_)))))))))
   refine cB (vs:=[_,_]) hS Nr rfl (Br a1 c1 a2 c2 _ _ _ (hr1.agree (hS.since 2 rfl)).row (hr2.agree (hS.since 1 rfl)).row rfl (by have h:=xE hr1;simp only [maxLen] at h;omega)) rfl fun W11 hS=>?_
   refine aI (d:=55) rfl rfl (eO rfl rfl (bU rfl rfl rfl (aH rfl rfl (aI (d:=61) rfl rfl (aH rfl rfl (aI (d:=61) rfl rfl (aH rfl rfl (aI (d:=61) rfl rfl (uI Tryz.underlying4 rfl rfl rfl (bU rfl rfl rfl (aH rfl rfl (bV (d:=66) rfl (fun hc=>absurd hc (by simp)) (fun hc=>?_)))))))))))))
   skip
   refine aI (d:=66) rfl rfl (aH rfl rfl (aI (d:=66) rfl rfl (aH rfl rfl (aI (d:=66) rfl rfl (dD rfl rfl rfl (bU rfl rfl rfl (aO (XF.thenN (bB rfl (fun hc=>absurd (of_decide_eq_true hc) (by exact fun h=>h rfl)) (fun hc=>?_))))))))))
   have hc:=of_decide_eq_false hc
   refine bJ (XF.thenN (aM (aM (aQ (aH rfl rfl (dD rfl rfl rfl (aH rfl rfl (bV (d:=73) rfl (fun hc=>?_) (fun hc=>?_)))))))))
   ·have hg73:=of_decide_eq_true hc;clear hc
    refine aK (d:=73) rfl rfl rfl rfl (aK (d:=73) rfl rfl rfl rfl (bF rfl rfl rfl (aO (XF.thenN (eZ rfl (aM (aQ (aB rfl rfl (aO (XF.thenN (bR (XF.thenR (XF.res (cO Tryz.results5 rfl) ?_)))))))))))))
    exact ⟨rfl,hS.below⟩
   ·have hg73:=of_decide_eq_false hc;clear hc
    refine aI (d:=73) rfl rfl (aH rfl rfl (aI (d:=73) rfl rfl (eO rfl rfl (bU rfl rfl rfl (aO (XF.thenN (bB rfl (fun hc=>?_) (fun hc=>?_))))))))
    ·have hc76:=hc;clear hc
     refine aM (aQ (aB rfl rfl (aO (XF.thenN (bR (XF.thenR (XF.res (cO Tryz.results5 rfl) ?_)))))))
     exact ⟨rfl,hS.below⟩
    ·have hc76:=hc;clear hc
     exact absurd (pE_non hxe) hg73
  ·skip
   refine aQ (aR (vs:=[_,_,_,_,_,_]) Tryz.isAgg44 Tryz.sizeOf44 rfl (aD.own (j:=0) (m:=6) (hS.at_ 1 rfl) rfl) rfl (aR (vs:=[_,_,_,_,_,_]) Tryz.isAgg44 Tryz.sizeOf44 rfl (aD.own (j:=0) (m:=6) (hS.at_ 0 rfl) rfl) rfl (cB (vs:=[_,_]) hS rU rfl (Hz ((fU.agree hx1 (hS.since 1 rfl)).is) ((fU.agree hx2 (hS.since 0 rfl)).is) true ⟨fun _=>rfl,fun _=>rfl⟩) rfl fun W12 hS=>eO rfl rfl (aH rfl rfl (aI (d:=55) rfl rfl (aH rfl rfl (aI (d:=55) rfl rfl (aH rfl rfl (aI (d:=55) rfl rfl ?_)))))))))
   refine cB (vs:=[_,_]) hS Nr rfl (Br a1 c1 a2 c2 _ _ _ (hr1.agree (hS.since 2 rfl)).row (hr2.agree (hS.since 1 rfl)).row rfl (by have h:=xE hr1;simp only [maxLen] at h;omega)) rfl fun W13 hS=>?_
   refine aI (d:=55) rfl rfl (eO rfl rfl (bU rfl rfl rfl (aH rfl rfl (aI (d:=61) rfl rfl (aH rfl rfl (aI (d:=61) rfl rfl (aH rfl rfl (aI (d:=61) rfl rfl (uI Tryz.underlying4 rfl rfl rfl (bU rfl rfl rfl (aH rfl rfl (bV (d:=66) rfl (fun hc=>absurd hc (by simp)) (fun hc=>?_)))))))))))))
   skip
   refine aI (d:=66) rfl rfl (aH rfl rfl (aI (d:=66) rfl rfl (aH rfl rfl (aI (d:=66) rfl rfl (dD rfl rfl rfl (bU rfl rfl rfl (aO (XF.thenN (bB rfl (fun hc=>absurd (of_decide_eq_true hc) (by exact fun h=>h rfl)) (fun hc=>?_))))))))))
   have hc:=of_decide_eq_false hc
   refine bJ (XF.thenN (aM (aM (aQ (aH rfl rfl (dD rfl rfl rfl (aH rfl rfl (bV (d:=73) rfl (fun hc=>?_) (fun hc=>?_)))))))))
   ·have hg73:=of_decide_eq_true hc;clear hc
    refine aK (d:=73) rfl rfl rfl rfl (aK (d:=73) rfl rfl rfl rfl (bF rfl rfl rfl (aO (XF.thenN (eZ rfl (aM (aQ (aB rfl rfl (aO (XF.thenN (bR (XF.thenR (XF.res (cO Tryz.results5 rfl) ?_)))))))))))))
    exact ⟨rfl,hS.below⟩
   ·have hg73:=of_decide_eq_false hc;clear hc
    refine aI (d:=73) rfl rfl (aH rfl rfl (aI (d:=73) rfl rfl (eO rfl rfl (bU rfl rfl rfl (aO (XF.thenN (bB rfl (fun hc=>?_) (fun hc=>?_))))))))
    ·have hc76:=hc;clear hc
     refine aM (aQ (aB rfl rfl (aO (XF.thenN (bR (XF.thenR (XF.res (cO Tryz.results5 rfl) ?_)))))))
     exact ⟨rfl,hS.below⟩
    ·have hc76:=hc;clear hc
     have hb8:(pE S bk py a fr l).b=true:=by simpa using hc76
     obtain ⟨q,x9,u,hask,hpt,hpe⟩:=Vb (Decidable.of_not_not hg73)
     have hA:=hAx hask
     have h9:=(nM hask).2.1 fr (by simp)
     rw [hA.st] at h9
     obtain ⟨p,rfl,hp⟩:=iN h9
     obtain ⟨qn,rfl,hpth,hsyu⟩:∃ qn:Nat,q=(qn:Int)∧Pth S bk (egsX kSym py a.ts) p u qn x9∧∀ y∈u,inQ y a.sy=true:=D9 hA l _ _ ⟨p,rfl,.nil,fun y hy=>by cases hy⟩ hpt
     have hxx:x9=x:=by rw [hpe] at hxe;exact Option.some.inj hxe
     subst hxx
     have hbq:uE a.fs (qn:Int)=true:=by rw [hpe] at hb8;exact hb8
     have hpu:(pE S bk py a (p:Int) l).u=u:=by rw [hpe]
     have hask2:gP a [(p:Int)] (pE S bk py a (p:Int) l).u=0:=by rw [hpu];exact Nk (nM hask).1 (nM hask).2.1 hsyu
     have hul:(pE S bk py a (p:Int) l).u.length≤9223372036854775807:=by have h:=xE hr1;simp only [maxLen] at h;omega
     refine bJ (XF.thenN (aM (aQ (aR (vs:=[_,_,_,_,_,_,_]) Tryz.isAgg29 Tryz.sizeOf29 rfl (aD.own (j:=0) (m:=7) (hS.at_ 2 rfl) rfl) rfl (aH rfl rfl (aH rfl rfl (aH rfl rfl (cK (vs:=[_,_,_,_]) hS Gl rfl (xI ds d a S py n bk p _ (hin.below hS.below) (hA.below hS.below) hp a1 _ c1 (pE S bk py a (p:Int) l).u (hr1.agree (hS.since 3 rfl)).row rfl hul hask2 (ht.below hS.below)) rfl ?_))))))))
     rintro e W14 ⟨f3,z3,rfl,hn3,hl3,hb⟩
     refine ⟨_,rfl,hb,fun hS'=>?_⟩
     clear hS;have hS:=hS';clear hS'
     refine aH rfl rfl (bE rfl rfl rfl (bE rfl rfl rfl (bC (cs:=[_,_,_,_,_,_]) hS Tryz.zeroValue44 rfl rfl fun B15 W15 hS=>aU (i:=0) (vs:=[_,_,_,_,_,_]) (cs':=[_,_,_,_,_,_]) (O':=[_,_,_,_]) hS Tryz.sizeOf44 rfl rfl rfl rfl rfl rfl rfl fun W16 hS=>aB rfl rfl (aO (XF.thenN (aM (aQ (aR (vs:=[_,_,_,_,_,_,_]) Tryz.isAgg29 Tryz.sizeOf29 rfl (aD.own (j:=0) (m:=7) (hS.at_ 3 rfl) rfl) rfl (aH rfl rfl (aH rfl rfl (cK (vs:=[_,_,_]) hS goes_18 rfl (Qd ds d a S py n bk p _ (hin.below hS.below) (hA.below hS.below) hp hask (ht.below hS.below)) rfl ?_)))))))))))
     rintro e W17 ⟨f4,z4,rfl,hn4,hl4,hb⟩
     refine ⟨_,rfl,hb,fun hS'=>?_⟩
     clear hS;have hS:=hS';clear hS'
     refine aH rfl rfl (bE rfl rfl rfl (bE rfl rfl rfl (bC (cs:=[_,_,_,_,_,_]) hS Tryz.zeroValue44 rfl rfl fun B18 W18 hS=>aU (i:=0) (vs:=[_,_,_,_,_,_]) (cs':=[_,_,_,_,_,_]) (O':=[_,_,_,_,_]) hS Tryz.sizeOf44 rfl rfl rfl rfl rfl rfl rfl fun W19 hS=>aB rfl rfl (aO (XF.thenN (aM ?_))))))
     have hE9:=uF (kf:=kSym) hA.py
     have hx3:=(hn3.agree (hS.since 1 rfl)).is
     have hx4:=(hn4.agree (hS.since 0 rfl)).is
     have hx1n:=(fU.agree hx1 (hS.since 5 rfl)).is
     rw [hpu] at hl3
     have hle1:cF S x9 z3=z3:=by rw [pI hA.ok hx1n.ok hx3.ok];exact hl3.top x9 ⟨qn,Vc hbq,hpth⟩
     have hle2:cF S z3 z4=z4:=by
      rw [pI hA.ok hx3.ok hx4.ok]
      exact LubX.le hA.ok (Gf hA.ok (uF (kf:=sP) hA.py)) (fun x ⟨q9,h1,h2⟩=>⟨q9,h1,pth_any h2⟩) hl3 hl4
     refine aQ (aN (o':=0) lZ rfl rfl rfl (aR (vs:=[_,_,_]) Tryz.isAgg25 Tryz.sizeOf25 rfl (aD.own (j:=0) (m:=3) (hS.at_ 4 rfl) rfl) rfl (aR (vs:=[_,_,_,_,_,_]) Tryz.isAgg44 Tryz.sizeOf44 rfl (aD.own (j:=0) (m:=6) (hS.at_ 3 rfl) rfl) rfl (aR (vs:=[_,_,_,_,_,_]) Tryz.isAgg44 Tryz.sizeOf44 rfl (aD.own (j:=0) (m:=6) (hS.at_ 1 rfl) rfl) rfl (cB (vs:=[_,_,_]) hS Lx rfl (Du S a.s.f f1 f3 x9 z3 _ (hA.si.below hS.below) hA.ok hx1n hx3 true ⟨fun _=>hle1,fun _=>rfl⟩) rfl fun W20 hS=>aH rfl rfl (bE rfl rfl rfl (bE rfl rfl rfl (aB rfl rfl (aB rfl rfl (aO (XF.thenN (aM (aQ (aN (o':=0) lZ rfl rfl rfl (aR (vs:=[_,_,_]) Tryz.isAgg25 Tryz.sizeOf25 rfl (aD.own (j:=0) (m:=3) (hS.at_ 4 rfl) rfl) rfl (aR (vs:=[_,_,_,_,_,_]) Tryz.isAgg44 Tryz.sizeOf44 rfl (aD.own (j:=0) (m:=6) (hS.at_ 1 rfl) rfl) rfl (aR (vs:=[_,_,_,_,_,_]) Tryz.isAgg44 Tryz.sizeOf44 rfl (aD.own (j:=0) (m:=6) (hS.at_ 0 rfl) rfl) rfl (cB (vs:=[_,_,_]) hS Lx rfl (Du S a.s.f f3 f4 z3 z4 _ (hA.si.below hS.below) hA.ok ((hn3.agree (hS.since 2 rfl)).is) ((hn4.agree (hS.since 1 rfl)).is) true ⟨fun _=>hle2,fun _=>rfl⟩) rfl fun W21 hS=>aH rfl rfl (bE rfl rfl rfl (bE rfl rfl rfl ?_))))))))))))))))))))
     refine aB rfl rfl (aB rfl rfl (aO (XF.thenN (aM (aQ (aH rfl rfl (cH rfl rfl rfl (aH rfl rfl (bV (d:=110) rfl (fun hc=>?_) (fun hc=>absurd (of_decide_eq_false hc) (by simp)))))))))))
     have hc:=of_decide_eq_true hc
     refine aI (d:=110) rfl rfl (aH rfl rfl (aI (d:=110) rfl rfl (cH rfl rfl rfl (bF rfl rfl rfl (aH rfl rfl (bV (d:=114) rfl (fun hc=>?_) (fun hc=>absurd (of_decide_eq_false hc) (by simp))))))))
     have hc:=of_decide_eq_true hc
     refine aI (d:=114) rfl rfl (aH rfl rfl (aI (d:=114) rfl rfl (cH rfl rfl rfl (bF rfl rfl rfl (aH rfl rfl (bV (d:=118) rfl (fun hc=>?_) (fun hc=>absurd (of_decide_eq_false hc) (by simp))))))))
     have hc:=of_decide_eq_true hc
     refine aI (d:=118) rfl rfl (aH rfl rfl (aI (d:=118) rfl rfl (cH rfl rfl rfl (bF rfl rfl rfl (aH rfl rfl (bV (d:=122) rfl (fun hc=>?_) (fun hc=>absurd (of_decide_eq_false hc) (by simp))))))))
     have hc:=of_decide_eq_true hc
     refine aI (d:=122) rfl rfl (aH rfl rfl (bF rfl rfl rfl (aH rfl rfl (aI (d:=125) rfl rfl (aH rfl rfl (bF rfl rfl rfl (aB rfl rfl (aO (XF.thenN (bR (XF.res (cO Tryz.results5 rfl) ?_)))))))))))
     exact ⟨rfl,hS.below⟩
theorem Ch (n0:Nat) (a:AV) (bk:Bool) (fr:Int) (la:Option Addr) (ll lc:Nat) (l:List Int) (w:World) (hin:AIn w n0 n0 a) (_hfr:(Lit.int .i64 fr).wf=true) (hl:Row w la l∧l.length=ll∧ll≤lc∧ll≤9223372036854775807) (ht:Tabs w):Calls Tryz.prog 5 #[a.val,.bool bk,.int .i64 fr,.slice la ll lc] w (fun e w'=>e = .returned (.bool (true))∧Below w.heap.size w w'):=Bt n0 n0 a bk fr w hin la ll lc l hl.1 hl.2.1 hl.2.2.2 ht
end Go.Proofs.YtmgnkpibpjgncaaGreatDoor
namespace Go.Proofs.YtmgnkpibpjgncaaGreatDoor
open Go.RowKit Go.ChangeShapes Go.WideShapes Go.Deep Go.Joins
theorem Qm {cs:List Value} (h:cs.length=9):∃ a b c d e f g i j,cs=[a,b,c,d,e,f,g,i,j]:=by
 match cs,h with
 | [a,b,c,d,e,f,g,i,j],_=>exact ⟨a,b,c,d,e,f,g,i,j,rfl⟩
theorem Ls {cs:List Value} (h:cs.length=7):∃ a b c d e f g,cs=[a,b,c,d,e,f,g]:=by
 match cs,h with
 | [a,b,c,d,e,f,g],_=>exact ⟨a,b,c,d,e,f,g,rfl⟩
section
variable {H:Type} {enc:TypeId×Value→H} {w:World} {base:Nat} {spare:Nat→Bool} {held:Bool}
theorem Vd {n:Nat} {cs:List Value} {x:DataW H×List MemPlace} (h:DataW.trod enc Tryz.prog w base spare held n 66 cs=some x):∃ r:TV,cs=r.nine∧WIn w n r.x:=by
 obtain ⟨xs,n',hn,_,hl,hlen,hg⟩:=DataW.trod_struct Tryz.underlying66 h
 rw [show Tryz.prog.cellsOf 66=9 by kernel_rfl] at hl
 obtain ⟨a,b,c,e,f,g,i,j,k,rfl⟩:=Qm hl
 have hlen4:xs.length=4:=hlen
 have g0:=hg 0 _ rfl
 have g1:=hg 1 _ rfl
 have g2:=hg 2 _ rfl
 have g4:=hg 3 _ rfl
 rw [show Tryz.prog.cellsOf _=1 by kernel_rfl,List.getElem?_eq_getElem (by omega)] at g0 g1 g2
 rw [show Tryz.prog.cellsOf _=6 by kernel_rfl,List.getElem?_eq_getElem (by omega)] at g4
 obtain ⟨z0,e0,_,w0⟩:=DataW.trod_int (k:=.i64) (by kernel_rfl) g0
 obtain ⟨z1,e1,_,w1⟩:=DataW.trod_int (k:=.i64) (by kernel_rfl) g1
 obtain ⟨z2,e2,_,w2⟩:=DataW.trod_int (k:=.i64) (by kernel_rfl) g2
 simp at e0 e1 e2
 subst e0 e1 e2
 obtain ⟨s,e4,hs⟩:=P0 n' g4
 have e4':[e,f,g,i,j,k]=s.f.six:=by simpa using e4
 simp only [List.cons.injEq,and_true] at e4'
 obtain ⟨rfl,rfl,rfl,rfl,rfl,rfl⟩:=e4'
 exact ⟨⟨z0,z1,z2,s⟩,rfl,hs.more (by omega)⟩
theorem auto_in {n:Nat} {cs:List Value} {x:DataW H×List MemPlace} (h:DataW.trod enc Tryz.prog w base spare held n 29 cs=some x):∃ p:AV,cs=p.seven∧AIn w n n p:=by
 obtain ⟨xs,n',hn,_,hl,hlen,hg⟩:=DataW.trod_struct Tryz.underlying29 h
 rw [show Tryz.prog.cellsOf 29=7 by kernel_rfl] at hl
 obtain ⟨a,b,c,d,e,f,g,rfl⟩:=Ls hl
 have hlen5:xs.length=5:=hlen
 have g0:=hg 0 _ rfl
 have g1:=hg 1 _ rfl
 have g2:=hg 2 _ rfl
 have g3:=hg 3 _ rfl
 have g4:=hg 4 _ rfl
 rw [show Tryz.prog.cellsOf _=3 by kernel_rfl,List.getElem?_eq_getElem (by omega)] at g0
 rw [show Tryz.prog.cellsOf _=1 by kernel_rfl,List.getElem?_eq_getElem (by omega)] at g1 g2 g3 g4
 obtain ⟨s,es,hs⟩:=Uh n' g0
 have es':[a,b,c]=[.int .i64 s.f.tag,.int .i64 s.f.dim,.slice s.f.a s.f.len s.f.cap]:=by simpa using es
 simp only [List.cons.injEq,and_true] at es'
 obtain ⟨rfl,rfl,rfl⟩:=es'
 obtain ⟨z1,e1,_,w1⟩:=DataW.trod_int (k:=.i64) (by kernel_rfl) g1
 obtain ⟨z2,e2,_,w2⟩:=DataW.trod_int (k:=.i64) (by kernel_rfl) g2
 simp at e1 e2
 subst e1 e2
 obtain ⟨fa,fl,fc,fs,rfl,hfrow,hfl,hfc,hfm⟩:=M3 (v:=f) g3
 have hfm9:fl≤9223372036854775807:=by simp only [maxLen] at hfm;omega
 rcases DataW.trod_slice Tryz.underlying27 g4 with ⟨hcs,_⟩ | ⟨ad,len,cap,elems,rest,n2,hn2,hcs,_,hb,hle,hcap,hel,hi,_,_⟩
 ·simp at hcs
  subst hcs
  exact ⟨⟨s,z1,z2,fa,fl,fc,fs,none,0,0,[]⟩,rfl,⟨hs.more (by omega),hfrow,hfl,.inl rfl,rfl,(fun r hr=>by cases hr),hfm9,Nat.zero_le _⟩⟩
 ·simp at hcs
  subst hcs
  rw [show Tryz.prog.cellsOf 66=9 by kernel_rfl] at hi
  obtain ⟨rs,hrl,hrs⟩:=sK len (fun i (r:TV)=>(∀ (j:Nat) u,r.nine[j]?=some u→w.cell? (ad.add (i * 9+j))=some u)∧WIn w n2 r.x) (fun i hil=>by
   have hii:=hi i hil
   rw [List.getElem?_eq_getElem (by omega)] at hii
   obtain ⟨cs',hc,ht⟩:=Option.bind_eq_some_iff.1 hii
   obtain ⟨_,hcl,hat⟩:=World.cells?_some hc
   obtain ⟨r,rfl,hr⟩:=Vd ht
   refine ⟨r,fun j u hj=>?_,hr⟩
   have hj9:j < 9:=(List.getElem?_eq_some_iff.1 hj).1
   have h0:=hat j (by omega)
   rw [Go.Deep.add_add] at h0
   rw [h0];exact hj)
  refine ⟨⟨s,z1,z2,fa,fl,fc,fs,some ad,len,cap,rs⟩,rfl,⟨hs.more (by omega),hfrow,hfl,?_,hrl,fun r hr=>?_,hfm9,by simp only [maxLen] at hcap hle;dsimp only;omega⟩⟩
  ·rcases Nat.eq_zero_or_pos len with h0 | h0
   ·exact .inl (List.length_eq_zero_iff.1 (by dsimp only;omega))
   ·obtain ⟨b,off,spot⟩:=ad
    have h1:=(hrs 0 (rs[0]'(by omega)) (List.getElem?_eq_getElem (by omega))).1 0 _ rfl
    have hspot:spot=none:=by simpa [Addr.add] using World.cell?_spot h1
    subst hspot
    refine .inr ⟨b,off,rfl,fun i r hir=>Bc _ _ fun j u hj=>?_⟩
    have h3:=(hrs i r hir).1 j u hj
    have e:∀ k,({ block:=b,off:=off }:Addr).add k=⟨b,off+k,none⟩:=fun k=>by simp [Addr.add]
    rw [e,← Nat.add_assoc] at h3
    exact h3
  ·obtain ⟨i,hi',hic⟩:=List.mem_iff_getElem.1 hr
   exact (hrs i r (by rw [← hic];exact List.getElem?_eq_getElem hi')).2.more (by omega)
theorem Qn {r:Reach} {b0:Nat} {v:Value} {d:DataW H} {p:List MemPlace} (hv:Value.okWide Tryz.prog w r b0 29 v) (h:DataW.Trod enc Tryz.prog w base spare held 29 v d p) :
  ∃ (n:Nat) (s:AV),v=s.val∧AIn w n n s:=by
 obtain ⟨cs,rfl,_⟩:=okWide_struct Tryz.underlying29 hv
 obtain ⟨n,h⟩:=h
 obtain ⟨s,e,hs⟩:=auto_in (n:=n) h
 have e':cs.toList=_:=e
 exact ⟨n,s,by show Value.agg cs=Value.agg _;congr 1;exact Array.ext' e',hs⟩
end
end Go.Proofs.YtmgnkpibpjgncaaGreatDoor
