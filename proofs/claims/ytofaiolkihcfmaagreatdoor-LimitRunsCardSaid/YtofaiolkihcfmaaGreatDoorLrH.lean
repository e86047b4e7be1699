import Derived.Test.YtofaiolkihcfmaaGreatDoorLrG
set_option maxRecDepth 100000
set_option maxHeartbeats 4000000
set_option linter.unusedVariables false
set_option linter.unusedSimpArgs false
set_option linter.unusedSectionVars false
set_option linter.unnecessarySimpa false
namespace Go.Proofs.YtofaiolkihcfmaaGreatDoor
open Go.Proofs.Tryz
section
open Go.RowKit
theorem goes_20:bW prog 20=true:=by kernel_rfl
theorem Jm:bW prog 7=true:=by kernel_rfl
theorem plusB2 {w:World} {S:PS} {sf:SF} {f0 f g:WF} {x y:PX} {B:Nat} {T:TypeId} (hB:w.heap[B]?=some (.cells (f.six++g.six).toArray T (0,0))) (h1:XIs w S f x) (h2:XIs w S g y) (hs:SIs w S sf) (hok:S.ok) (hx:OkX S x) (ht:Tabs w):Calls prog 22 #[nI sf f0,.slice (some ⟨B,0,none⟩) 2 2] w (gO S (kT S x y) w):=by
 have h9:=Eb S sf f0 w hs hok (some ⟨B,0,none⟩) 2 2 [f,g] [x,y] (.inr ⟨B,0,rfl,fun i u hu=>by
  match i,hu with
  | 0,hu=>cases hu;exact R9 (aE.own (j:=0) (m:=6) hB rfl)
  | 1,hu=>cases hu;exact R9 (aE.own (j:=6) (m:=6) hB rfl)
  | k+2,hu=>simp at hu⟩) ⟨rfl,fun i u v hu hv=>by
  match i,hu,hv with
  | 0,hu,hv=>cases hu;cases hv;exact h1
  | 1,hu,hv=>cases hu;cases hv;exact h2
  | k+2,hu,hv=>simp at hu⟩ rfl (by decide) ht
 rw [comb2 hx] at h9
 exact h9
theorem uU (ds d:Nat) (s:SV) (st sy:Int) (ra:Option Addr) (rl rc:Nat) (rs:List RV) (w:World) (hs:SIn w ds s) (hrow:lD w ra rs) (hlen:rs.length=rl) (hin:∀ r∈rs,RIn w d r) (c e:CV) (n:Int) (hcn:CIn w c) (hen:CIn w e) (hcc:c.wl≤c.wc) (ht:Tabs w):Calls prog 7 #[.agg #[.int .i64 s.f.tag,.int .i64 s.f.dim,.slice s.f.a s.f.len s.f.cap,.int .i64 st,.int .i64 sy,.slice ra rl rc],c.val,e.val,.int .i64 n] w (tV ((runsF (stepE ⟨s,st,sy,ra,rl,rc,rs⟩ c) (stepE ⟨s,st,sy,ra,rl,rc,rs⟩ e) n (nxP rs) (c.p,c.ws) (e.p,e.ws)).1,(runsF (stepE ⟨s,st,sy,ra,rl,rc,rs⟩ c) (stepE ⟨s,st,sy,ra,rl,rc,rs⟩ e) n (nxP rs) (c.p,c.ws) (e.p,e.ws)).2.map (·.1)) w):=by
 rw [← runsE_F]
 exact Nr ds d s st sy ra rl rc rs w hs hrow hlen hin c e n hcn hen hcc ht
theorem runA9 (ds d:Nat) (s:SV) (st sy:Int) (ra:Option Addr) (rl rc:Nat) (rs:List RV) (w:World) (hs:SIn w ds s) (hrow:lD w ra rs) (hlen:rs.length=rl) (hin:∀ r∈rs,RIn w d r) (c:CV) (S:PS) (px:RV→PX) (la:Option Addr) (lc:Nat) (is:List Int) (z:Crs) (hcn:CIn w c) (hcc:c.wl≤c.wc) (hr:Ready w S px ⟨s,st,sy,ra,rl,rc,rs⟩ c) (hrow9:Row w la is) (hl:is.length≤10001) (ht:Tabs w) (hrun:zC S px rs (c.p,c.ws) z) (hz:z.1=is):Calls prog 21 #[.agg #[.int .i64 s.f.tag,.int .i64 s.f.dim,.slice s.f.a s.f.len s.f.cap,.int .i64 st,.int .i64 sy,.slice ra rl rc],c.val,.slice la is.length lc] w (yC S (some (z.2.1,z.2.2,gD S px rs is),0,0) w):=by
 subst hz
 exact runA_is (p:=⟨s,st,sy,ra,rl,rc,rs⟩) ⟨hs,hrow,hlen,hin⟩ hcn hcc hrow9 rfl (by omega) hr ht hrun
theorem G7 (ds d:Nat) (s:SV) (st sy:Int) (ra:Option Addr) (rl rc:Nat) (rs:List RV) (w:World) (hs:SIn w ds s) (hrow:lD w ra rs) (hlen:rs.length=rl) (hin:∀ r∈rs,RIn w d r) (c e:CV) (n:Int) (S:PS) (px:RV→PX) (hcn:CIn w c) (hen:CIn w e) (hcc:c.wl≤c.wc) (hrd:stepE ⟨s,st,sy,ra,rl,rc,rs⟩ c=0→Ready w S px ⟨s,st,sy,ra,rl,rc,rs⟩ c) (ht:Tabs w) :
  Calls prog 9 #[.agg #[.int .i64 s.f.tag,.int .i64 s.f.dim,.slice s.f.a s.f.len s.f.cap,.int .i64 st,.int .i64 sy,.slice ra rl rc],c.val,e.val,.int .i64 n] w (Ea S ((runsF (stepE ⟨s,st,sy,ra,rl,rc,rs⟩ c) (stepE ⟨s,st,sy,ra,rl,rc,rs⟩ e) n (nxP rs) (c.p,c.ws) (e.p,e.ws)).1,qT S px rs ((runsF (stepE ⟨s,st,sy,ra,rl,rc,rs⟩ c) (stepE ⟨s,st,sy,ra,rl,rc,rs⟩ e) n (nxP rs) (c.p,c.ws) (e.p,e.ws)).2.map (·.1))) w):=by
 refine cH (args:=[.agg #[.int .i64 s.f.tag,.int .i64 s.f.dim,.slice s.f.a s.f.len s.f.cap,.int .i64 st,.int .i64 sy,.slice ra rl rc],c.val,e.val,.int .i64 n]) func9 rfl ntmps9 rfl ?_
 have hS:=St.start w
 have hpi:PvIn w ds d ⟨s,st,sy,ra,rl,rc,rs⟩:=⟨hs,hrow,hlen,hin⟩
 refine aL (aR (bK (cs:=[_,_,_,_,_,_]) hS rfl rfl rfl fun B1 W1 hS=>bK (cs:=[_,_]) hS rfl rfl rfl fun B2 W2 hS=>bK (cs:=[_,_]) hS rfl rfl rfl fun B3 W3 hS=>bH (cs:=[_,_,_,_,_,_]) hS zeroValue53 rfl rfl fun B4 W4 hS=>aA rfl rfl (aQ (XF.thenN (aL (aR (aS (vs:=[_,_,_,_,_,_]) isAgg28 sizeOf28 rfl (aE.own (j:=0) (m:=6) (hS.at_ 3 rfl) rfl) rfl (aS (vs:=[_,_]) isAgg36 sizeOf36 rfl (aE.own (j:=0) (m:=2) (hS.at_ 2 rfl) rfl) rfl (aS (vs:=[_,_]) isAgg36 sizeOf36 rfl (aE.own (j:=0) (m:=2) (hS.at_ 1 rfl) rfl) rfl (aG rfl rfl ?_))))))))))
 have hsz1:=hS.below.size
 refine cO (vs:=[_,_,_,_]) hS Jm rfl (uU ds d s st sy ra rl rc rs _ (SIn.below hS.below hs) (hrow.below hS.below) hlen (fun r hr=>(hin r hr).below hS.below) c e n (hcn.below hS.below) (hen.below hS.below) hcc (ht.below hS.below)) rfl ?_
 rintro e W5 ⟨hb,vR,ls,rfl,hpl,hmx,hro,hkn⟩
 refine ⟨_,rfl,hb,fun hS'=>?_⟩
 clear hS;have hS:=hS';clear hS'
 obtain ⟨P9,hP9⟩:∃ P:Nat×World,P=(W4.heap.size,W5):=⟨_,rfl⟩
 obtain ⟨ra9,rc9,rfl,_⟩:=eC hro
 have hro9:∀ W2,dD P9.1 P9.2 W2→W2.ownsRow P9.1 29 1 (.slice ra9 ls.length rc9) ls.length (ls.map LI.val)∧∀ x∈ls,fT P9.1 W2 x.a x.c x.xs:=by subst hP9;exact fun W2 hg=>⟨eG hro hg,fun x hx=>(hkn x hx).agree hg⟩
 clear hro hkn
 refine aG rfl rfl (bL rfl rfl rfl (bL rfl rfl rfl (aA rfl rfl (aA rfl rfl (aQ (XF.thenN (aL (aL (aR (aG rfl rfl (dA rfl rfl rfl (aQ (XF.thenN (aZ rfl (fun hc=>?_) (fun hc=>?_)))))))))))))))
 ·have hc29:=of_decide_eq_true hc;clear hc
  refine aL (aR (cS (us:=[]) rfl (iN) rfl (aG rfl rfl (aV (i:=0) (vs:=[_,_,_,_,_,_]) (cs':=[_,_,_,_,_,_]) (O':=[_,_,_,_]) hS sizeOf53 rfl rfl rfl rfl rfl rfl rfl fun W6 hS=>aA rfl rfl (aQ (XF.thenN (bJ (XF.thenR (XF.res (oK (vs:=[_,_,_,_,_,_]) results9 isAgg53 sizeOf53 rfl (aE.own (j:=0) (m:=6) (hS.at_ 0 rfl) rfl) rfl) ?_)))))))))
  exact ⟨hS.below,.inl ⟨hc29,rfl⟩⟩
 ·have hc29:=of_decide_eq_false hc;clear hc
  have hr0:(runsF (stepE ⟨s,st,sy,ra,rl,rc,rs⟩ c) (stepE ⟨s,st,sy,ra,rl,rc,rs⟩ e) n (nxP rs) (c.p,c.ws) (e.p,e.ws)).1=0:=Decidable.of_not_not hc29
  have hrdy:=hrd (Ls hr0)
  have hn12:=Nv hr0
  refine bG (XF.thenN (aL (aR (aP (o':=0) jE rfl rfl rfl (aS (vs:=[_,_,_]) isAgg25 sizeOf25 rfl (aE.own (j:=0) (m:=3) (hS.at_ 3 rfl) rfl) rfl (cO (vs:=[_]) hS J6 rfl (Al S s.f _ (hrdy.si.below hS.below) hrdy.ok) rfl ?_))))))
  rintro e W7 ⟨f0,rfl,hn0,hb⟩
  refine ⟨_,rfl,hb,fun hS'=>?_⟩
  clear hS;have hS:=hS';clear hS' hb
  refine bH (cs:=[_,_,_,_,_,_,_,_,_]) hS zeroValue81 rfl rfl fun B8 W8 hS=>aV (i:=0) (vs:=[_,_,_,_,_,_,_,_,_]) (cs':=[_,_,_,_,_,_,_,_,_]) (O':=[_,_,_,_,_]) hS sizeOf81 rfl rfl rfl rfl rfl rfl rfl fun W9 hS=>aQ (XF.thenN (aL (aR (aS (vs:=[_,_,_,_,_,_,_,_,_]) isAgg81 sizeOf81 rfl (aE.own (j:=0) (m:=9) (hS.at_ 0 rfl) rfl) rfl ?_))))
  have hsz5:=hS.below.size
  refine cO (vs:=[_]) hS goes_20 rfl (G6 S s.f f0 _ (hrdy.si.below hS.below) hrdy.ok) rfl ?_
  rintro e W10 ⟨f1,rfl,hn1,hb⟩
  refine ⟨_,rfl,hb,fun hS'=>?_⟩
  clear hS;have hS:=hS';clear hS'
  refine bH (cs:=[_,_,_,_,_,_]) hS zeroValue53 rfl rfl fun B11 W11 hS=>aV (i:=0) (vs:=[_,_,_,_,_,_]) (cs':=[_,_,_,_,_,_]) (O':=[_,_,_,_,_,_]) hS sizeOf53 rfl rfl rfl rfl rfl rfl rfl fun W12 hS=>aQ (XF.thenN (aL (aL (aR (aG rfl rfl (bX underlying40 rfl rfl (aG rfl rfl (aQ (XF.thenN (bM ?_))))))))))
  refine dK (fun m l W=>∃ (i:Nat) (f:WF) (Kk:List (Nat×World)),i≤ls.length∧m=ls.length - i∧l=[(4,.pointer (some ⟨B1,0,none⟩)),(5,.pointer (some ⟨B2,0,none⟩)),(8,.pointer (some ⟨B4,0,none⟩)),(12,.pointer (some ⟨B8,0,none⟩)),(13,.pointer (some ⟨B11,0,none⟩)),(37,.slice ra9 ls.length rc9),(38,.int .i64 (ls.length:Int)),(39,.int .i64 (i:Int))]∧jJ w Kk (fun W2=>jM w.heap.size W2 S f (qT S px rs ((ls.map LI.xs).take i)))∧P9∈Kk∧St w [(B11,f.six,53),(B8,[.int .i64 s.f.tag,.int .i64 s.f.dim,.slice s.f.a s.f.len s.f.cap,.bool f0.z,.int .i64 f0.c,.int .u64 (f0.g:Int),.slice f0.ra f0.rl f0.rc,.slice f0.ca f0.cl f0.cc,.slice f0.pa f0.pl f0.pc],81),(B4,[.bool false,.int .i64 0,.int .u64 0,.slice none 0 0,.slice none 0 0,.slice none 0 0],53),(B3,[.int .i64 e.p,.slice e.wa e.wl e.wc],36),(B2,[.int .i64 c.p,.slice c.wa c.wl c.wc],36),(B1,[.int .i64 s.f.tag,.int .i64 s.f.dim,.slice s.f.a s.f.len s.f.cap,.int .i64 st,.int .i64 sy,.slice ra rl rc],28)] [] Kk W) (ls.length - 0) ([(4,_),(5,_),(8,_),(12,_),(13,_),(37,_),(38,_),(39,_)]) ⟨rfl,rfl,rfl,rfl,rfl,rfl,rfl,rfl,trivial⟩ (⟨0,f1,_,Nat.zero_le _,rfl,rfl,(fun h2 hk=>by have h9:=(hn1.agree (h2.kept (_,_) (hk _ List.mem_cons_self)).1).mono hsz5;simpa [qT] using h9),by rw [hP9];simp,hS⟩) ?_
  clear hS
  rintro m l W ⟨i,f,Kk,hi,rfl,rfl,HF,hPK,hS⟩
  refine aL (aR (cN rfl rfl rfl (aQ (XF.thenN (aL (aZ rfl (fun hc=>?_) (fun hc=>?_)))))))
  ·have hc40:=of_decide_eq_true hc;clear hc
   obtain ⟨x,hx⟩:∃ x,ls[i]?=some x:=⟨ls[i]'(by omega),List.getElem?_eq_getElem _⟩
   have hr9:=(hro9 W (hS.kept P9 hPK).1).1
   obtain ⟨g9,q9,e9,_,_⟩:=hr9.form (show 0 < ls.length by omega)
   injection e9 with e91 e92 e93
   subst e91;subst e93
   have k9:W.cell? ⟨g9,0+i * 1,none⟩=some x.val:=by rw [Nat.zero_add,Nat.mul_one];exact dT hr9 (by rw [List.getElem?_map,hx];rfl)
   have hxp:(ls.map LI.xs)[i]?=some x.xs:=by rw [List.getElem?_map,hx];rfl
   obtain ⟨cr,hcr,hcx⟩:∃ cr∈(runsF (stepE ⟨s,st,sy,ra,rl,rc,rs⟩ c) (stepE ⟨s,st,sy,ra,rl,rc,rs⟩ e) n (nxP rs) (c.p,c.ws) (e.p,e.ws)).2,cr.1=x.xs:=by
    have h9:=List.mem_of_getElem? hxp
    rw [hpl] at h9
    exact List.mem_map.1 h9
   obtain ⟨hrun,hend⟩:=Si (S:=S) (px:=px) hcr
   have hsh:=G5 hn12 hcr
   rw [hcx] at hsh
   refine bG (XF.thenN (aL (bM (aL (aR (cK (j:=i) underlying40 sizeOf29 rfl rfl (rfl) (by omega) rfl rfl (aT isAgg29 rfl (k9) rfl (aA rfl rfl (aQ (XF.thenN (aL (aR (aS (vs:=[_,_,_,_,_,_]) isAgg28 sizeOf28 rfl (aE.own (j:=0) (m:=6) (hS.at_ 5 rfl) rfl) rfl (aS (vs:=[_,_]) isAgg36 sizeOf36 rfl (aE.own (j:=0) (m:=2) (hS.at_ 4 rfl) rfl) rfl (aG rfl rfl ?_)))))))))))))))
   have hsz9:=hS.below.size
   refine cO (vs:=[_,_,_]) hS goes_21 rfl (runA9 ds d s st sy ra rl rc rs _ (SIn.below hS.below hs) (hrow.below hS.below) hlen (fun r hr=>(hin r hr).below hS.below) c S px x.a x.c x.xs cr (hcn.below hS.below) hcc (hrdy.below hS.below) ((hro9 _ (hS.kept P9 hPK).1).2 x (List.mem_of_getElem? hx)).row hsh (ht.below hS.below) hrun hcx) rfl ?_
   rintro e W13 ⟨hb,a1,c1,f2,rfl,hn2,hx2⟩
   refine ⟨_,rfl,hb,fun hS'=>?_⟩
   clear hS;have hS:=hS';clear hS'
   refine aG rfl rfl (bL rfl rfl rfl (bL rfl rfl rfl (bL rfl rfl rfl (bL rfl rfl rfl (bH (cs:=[_,_]) hS zeroValue36 rfl rfl fun B14 W14 hS=>bH (cs:=[_,_,_,_,_,_]) hS zeroValue53 rfl rfl fun B15 W15 hS=>aV (i:=1) (vs:=[_,_]) (cs':=[_,_]) (O':=[_,_,_,_,_,_,_,_]) hS sizeOf36 rfl rfl rfl rfl rfl rfl rfl fun W16 hS=>aV (i:=0) (vs:=[_,_,_,_,_,_]) (cs':=[_,_,_,_,_,_]) (O':=[_,_,_,_,_,_,_,_]) hS sizeOf53 rfl rfl rfl rfl rfl rfl rfl fun W17 hS=>aA rfl rfl (aA rfl rfl (aQ (XF.thenN (aR (aS (vs:=[_,_,_,_,_,_,_,_,_]) isAgg81 sizeOf81 rfl (aE.own (j:=0) (m:=9) (hS.at_ 3 rfl) rfl) rfl (aS (vs:=[_,_,_,_,_,_]) isAgg53 sizeOf53 rfl (aE.own (j:=0) (m:=6) (hS.at_ 2 rfl) rfl) rfl (aS (vs:=[_,_,_,_,_,_]) isAgg53 sizeOf53 rfl (aE.own (j:=0) (m:=6) (hS.at_ 0 rfl) rfl) rfl (cU (us:=[(0,.agg (List.toArray [_,_,_,_,_,_])),(1,.agg (List.toArray [_,_,_,_,_,_]))]) hS underlying51 sizeOf53 zeroValue53 rfl rfl rfl (vX _ _ _ _ _ _ _ _ _ _ _ _) rfl fun B18 W18 hS=>?_)))))))))))))
   have hsz10:=hS.below.size
   refine cO (vs:=[_,_]) hS goes_22 rfl (plusB2 (hS.at_ 0 rfl) (HF hS (fun q hq=>by simp [hq])).is ((hx2.agree (hS.kept (_,_) List.mem_cons_self).1).is) (hrdy.si.below hS.below) hrdy.ok (sumX_ok hrdy.ok (fun r hr=>(hrdy.x r hr).ok) _) (ht.below hS.below)) rfl ?_
   rintro e W19 ⟨f3,rfl,hn3,hb⟩
   refine ⟨_,rfl,hb,fun hS'=>?_⟩
   clear hS;have hS:=hS';clear hS'
   refine aV (i:=3) (vs:=[_,_,_,_,_,_]) (cs':=[_,_,_,_,_,_]) (O':=[_,_,_,_,_,_,_,_,_]) hS sizeOf53 rfl rfl rfl rfl rfl rfl rfl fun W20 hS=>aQ (XF.blkN (XF.thenN (aR (cR rfl rfl (IntWalk.i64_in _ (by omega)) rfl (aG rfl rfl (aQ ?_))))))
   exact XF.round (ls.length - (i+1)) [(4,_),(5,_),(8,_),(12,_),(13,_),(37,_),(38,_),(39,_)] (by omega) ⟨rfl,rfl,rfl,rfl,rfl,rfl,rfl,rfl,trivial⟩ ⟨i+1,f3,_,by omega,rfl,rfl,(fun h2 hk=>by rw [A8 hxp];exact (hn3.agree (h2.kept (_,_) (hk _ List.mem_cons_self)).1).mono hsz10),by simp [hPK],hS.tail.tail.tail⟩
  ·have hc40:=of_decide_eq_false hc;clear hc
   have hil:i=ls.length:=by omega
   rw [hil,List.take_of_length_le (by rw [List.length_map];exact Nat.le_refl _),hpl] at HF
   refine dE (XF.thenX (XF.thenX (XF.blkX (XF.thenN (aL (aR (aS (vs:=[_,_,_,_,_,_]) isAgg53 sizeOf53 rfl (aE.own (j:=0) (m:=6) (hS.at_ 0 rfl) rfl) rfl (aV (i:=2) (vs:=[_,_,_,_,_,_]) (cs':=[_,_,_,_,_,_]) (O':=[_,_,_,_,_,_]) hS sizeOf53 rfl rfl rfl rfl rfl rfl rfl fun W21 hS=>aA rfl rfl (aQ (XF.thenN (bJ (XF.res (oK (vs:=[_,_,_,_,_,_]) results9 isAgg53 sizeOf53 rfl (aE.own (j:=0) (m:=6) (hS.at_ 2 rfl) rfl) rfl) ?_))))))))))))
   exact ⟨hS.below,.inr ⟨hr0,f,rfl,(HF hS (fun q hq=>by simp [hq])).far⟩⟩
theorem Jn (v3a:Option Addr) (v3l:Nat) (v3c:Nat) (v40:Value) (v41:Value) (v42:Value) (v43:Value) (v44:Value) (v45:Value):prog.built 62 [(3,.slice v3a v3l v3c),(4,.agg #[v40,v41,v42,v43,v44,v45])]=some #[.int .i64 0,.int .i64 0,.int .i64 0,.slice v3a v3l v3c,v40,v41,v42,v43,v44,v45]:=by kernel_rfl
theorem Sm (v40:Value) (v41:Value) (v42:Value) (v43:Value) (v44:Value) (v45:Value):prog.built 62 [(4,.agg #[v40,v41,v42,v43,v44,v45])]=some #[.int .i64 0,.int .i64 0,.int .i64 0,.slice none 0 0,v40,v41,v42,v43,v44,v45]:=by kernel_rfl
theorem Sn:bW prog 9=true:=by kernel_rfl
def lmW (k:Int):WV:=.mk ⟨false,k,0,none,0,0,[],none,0,0,[],none,0,0⟩ []
abbrev lmR1 (b1:Nat):RV:=⟨0,0,0,some ⟨b1,0,none⟩,2,2,[0,0],lmW 1⟩
abbrev lmR2:RV:=⟨0,0,0,none,0,0,[],lmW 2⟩
abbrev lmP (b1 b2:Nat):PV:=⟨.mk ⟨2,9,none,0,0⟩ [],1,1,some ⟨b2,0,none⟩,2,2,[lmR1 b1,lmR2]⟩
abbrev lmC (b3:Nat):CV:=⟨0,some ⟨b3,0,none⟩,1,1,[0]⟩
abbrev lmE:CV:=⟨0,none,0,0,[]⟩
def lmX:RV→PX:=fun r=>.one (pC (if r.wl=2 then 1 else 2))
theorem Ec (w:World) (k:Int) (h : -9223372036854775808≤k∧k≤9223372036854775807):WIn w 1 (lmW k):=⟨⟨.inl rfl,rfl,by simp,(fun r hr=>by cases hr),.inl rfl,rfl,(fun c hc=>by cases hc),by simp⟩,rfl,.inl rfl,fun p hp=>by cases hp⟩
theorem So {w:World} {b:Nat} {x:Int} {T:TypeId} (h:w.heap[b]?=some (.cells (List.toArray [.int .i64 x]) T (0,0))):Row w (some ⟨b,0,none⟩) [x]:=by
 refine .inr ⟨b,0,rfl,fun i hi=>?_⟩
 have:i=0:=by simp at hi;omega
 subst this
 simp [World.cell?,h]
theorem Sp {w:World} {b1 b2:Nat} {T1 T2:TypeId} (h1:w.heap[b1]?=some (.cells (List.toArray [.int .i64 0,.int .i64 0]) T1 (0,0)))
  (h2:w.heap[b2]?=some (.cells (List.toArray ((lmR1 b1).ten++lmR2.ten)) T2 (0,0))):PvIn w 1 1 (lmP b1 b2):=by
 refine ⟨⟨rfl,.inl rfl,fun p hp=>by cases hp⟩,.inr ⟨b2,0,rfl,fun i r hi=>?_⟩,rfl,fun r hr=>?_⟩
 ·match i,hi with
  | 0,hi =>
   cases hi
   exact aE.own (j:=0) (m:=10) h2 rfl
  | 1,hi =>
   cases hi
   exact aE.own (j:=10) (m:=10) h2 rfl
  | i+2,hi=>exact absurd hi (by simp)
 ·rcases List.mem_cons.1 hr with rfl | hr
  ·exact ⟨C5 h1,rfl,Ec w 1 (by decide)⟩
  ·rcases List.mem_cons.1 hr with rfl | hr
   ·exact ⟨.inl rfl,rfl,Ec w 2 (by decide)⟩
   ·cases hr
theorem lmP_e (b1 b2:Nat):gX (lmP b1 b2)=0:=by
 have e1:eI (lmP b1 b2).s=0:=by show eI (.mk ⟨2,9,none,0,0⟩ [])=0;decide
 have e2:(lmP b1 b2).rs.all (fB 1 1)=true:=by simp [fB,inQ]
 have e3:kQ (lmP b1 b2).s (lmW 1)=0:=by show kQ (.mk ⟨2,9,none,0,0⟩ []) (lmW 1)=0;decide
 have e3':kQ (lmP b1 b2).s (lmW 2)=0:=by show kQ (.mk ⟨2,9,none,0,0⟩ []) (lmW 2)=0;decide
 have e4:wtE (lmP b1 b2).s (lmP b1 b2).rs=0:=wF (by simp;exact ⟨e3,e3'⟩)
 unfold gX
 rw [if_neg (by rw [e1];simp),if_neg (by simp),if_neg (by simp),if_pos (show (lmP b1 b2).rs.all (fB (lmP b1 b2).st (lmP b1 b2).sy)=true from e2),e4]
theorem Sq (b1 b2 b3:Nat):stepE (lmP b1 b2) (lmC b3)=0:=by
 unfold stepE
 rw [if_neg (by rw [lmP_e];simp),if_pos (by simp [gH,inQ])]
theorem lmE_e (b1 b2:Nat):stepE (lmP b1 b2) lmE=0:=by
 unfold stepE
 rw [if_neg (by rw [lmP_e];simp),if_pos (by simp [gH,inQ])]
theorem Sr {w:World} {b1 b2 b3:Nat}:Ready w (.one 2 9) lmX (lmP b1 b2) (lmC b3):=by
 have hx1:XIs w (.one 2 9) (lmW 1).f (.one (pC 1)):=PIs.of (by decide) (Ec w 1 (by decide)).1 (by decide)
 have hx2:XIs w (.one 2 9) (lmW 2).f (.one (pC 2)):=PIs.of (by decide) (Ec w 2 (by decide)).1 (by decide)
 refine ⟨Sq _ _ _,by show cA 2 9 0=true;decide,⟨none,0,rfl⟩,fun r hr=>?_,by show 1≤4096;decide,fun r hr=>?_⟩
 ·rcases List.mem_cons.1 hr with rfl | hr
  ·show 2≤4096;decide
  ·rcases List.mem_cons.1 hr with rfl | hr
   ·show 0≤4096;decide
   ·cases hr
 ·rcases List.mem_cons.1 hr with rfl | hr
  ·exact hx1
  ·rcases List.mem_cons.1 hr with rfl | hr
   ·exact hx2
   ·cases hr
theorem lm_nx (b1 b2:Nat):(nxP (lmP b1 b2).rs)=nxP [⟨0,0,0,none,2,2,[0,0],lmW 1⟩,lmR2]:=by
 funext x
 have e:eS x.1 x.2 (lmP b1 b2).rs 0=eS x.1 x.2 [⟨0,0,0,none,2,2,[0,0],lmW 1⟩,lmR2] 0:=rfl
 unfold nxP
 rw [e]
theorem lm_runs (b1 b2:Nat):runsF 0 0 2 (nxP (lmP b1 b2).rs) (0,[0]) (0,[0])=(0,[([],0,[0]),([0,1],0,[0])]):=by
 rw [lm_nx];kernel_rfl
theorem lm_ends (b1 b2:Nat):runsF 0 0 3 (nxP (lmP b1 b2).rs) (0,[0]) (0,[])=(0,[([1],0,[]),([0,1,1],0,[])]):=by
 rw [lm_nx];kernel_rfl
theorem lm_sum (b1 b2:Nat):qT (.one 2 9) lmX (lmP b1 b2).rs [[1],[0,1,1]] = .one (pC 2):=by rfl
theorem limA_is {w:World} {ds d:Nat} {p:PV} {c e:CV} {n:Int} (hp:PvIn w ds d p) (hcn:CIn w c) (hen:CIn w e) (hcc:c.wl≤c.wc) (ht:Tabs w):Calls prog 7 #[p.val,c.val,e.val,.int .i64 n] w (tV ((runsF (stepE p c) (stepE p e) n (nxP p.rs) (c.p,c.ws) (e.p,e.ws)).1,(runsF (stepE p c) (stepE p e) n (nxP p.rs) (c.p,c.ws) (e.p,e.ws)).2.map (·.1)) w) :=
 uU ds d p.s p.st p.sy p.ra p.rl p.rc p.rs w hp.s hp.row hp.len hp.rin c e n hcn hen hcc ht
theorem wthA_is {w:World} {ds d:Nat} {p:PV} {c e:CV} {n:Int} {S:PS} {px:RV→PX} (hp:PvIn w ds d p) (hcn:CIn w c) (hen:CIn w e) (hcc:c.wl≤c.wc) (hrd:stepE p c=0→Ready w S px p c) (ht:Tabs w):Calls prog 9 #[p.val,c.val,e.val,.int .i64 n] w (Ea S ((runsF (stepE p c) (stepE p e) n (nxP p.rs) (c.p,c.ws) (e.p,e.ws)).1,qT S px p.rs ((runsF (stepE p c) (stepE p e) n (nxP p.rs) (c.p,c.ws) (e.p,e.ws)).2.map (·.1))) w) :=
 G7 ds d p.s p.st p.sy p.ra p.rl p.rc p.rs w hp.s hp.row hp.len hp.rin c e n S px hcn hen hcc hrd ht
theorem lmTwo {α β:Type} {f:α→β} {l:List α} {a b:β} (h:l.map f=[a,b]):∃ x y,l=[x,y]∧f x=a∧f y=b:=by
 match l,h with
 | [x,y],h=>simp at h;exact ⟨x,y,rfl,h.1,h.2⟩
theorem Ss {w:World} {b1 b2 b3:Nat} (hp:PvIn w 1 1 (lmP b1 b2)) (hc:Row w (some ⟨b3,0,none⟩) [0]) (ht:Tabs w):Calls prog 7 #[(lmP b1 b2).val,(lmC b3).val,(lmC b3).val,.int .i64 2] w fun e w'=>∃ (b9 c9 bb cb:Nat),e = .returned (.tuple #[.slice (some ⟨b9,0,none⟩) 2 c9,.int .i64 0])∧(∀ W2,dD w.heap.size w' W2→W2.cell? ⟨b9,1,none⟩=some (.slice (some ⟨bb,0,none⟩) 2 cb)∧W2.cell? ⟨bb,1,none⟩=some (.int .i64 1))∧Below w.heap.size w w':=by
 refine (limA_is (c:=lmC b3) (e:=lmC b3) (n:=2) hp ⟨hc,rfl⟩ ⟨hc,rfl⟩ (Nat.le_refl _) ht).mono ?_
 rw [Sq,show ((lmC b3).p,(lmC b3).ws)=((0:Int),[(0:Int)]) from rfl,lm_runs]
 rintro e w' ⟨hb,v,ls,rfl,hm,_,hro,hrn⟩
 obtain ⟨x,y,rfl,hx,hy⟩:=lmTwo (show ls.map LI.xs=[[],[0,1]] from hm)
 obtain ⟨ya,yc,ys⟩:=y
 have hy':ys=[0,1]:=hy
 subst hy'
 have hN:fT w.heap.size w' ya yc [0,1]:=hrn _ (List.mem_cons_of_mem _ List.mem_cons_self)
 obtain ⟨bb,cb,eb,_⟩:=World.ownsRow.form (show w'.ownsRow w.heap.size 3 1 (.slice ya 2 yc) 2 _ from hN) (by decide)
 injection eb with eb1 eb2 eb3
 subst eb1
 obtain ⟨b9,c9,e9,_⟩:=World.ownsRow.form hro (show 0 < [x,⟨some ⟨bb,0,none⟩,yc,[0,1]⟩].length from Nat.succ_pos _)
 subst e9
 refine ⟨b9,c9,bb,yc,rfl,fun W2 hg=>⟨dT (eG hro hg) rfl,dT (hN.agree hg) rfl⟩,hb⟩
theorem Nw {w:World} {b1 b2 b3:Nat} (hp:PvIn w 1 1 (lmP b1 b2)) (hc:Row w (some ⟨b3,0,none⟩) [0]) (ht:Tabs w):Calls prog 9 #[(lmP b1 b2).val,(lmC b3).val,lmE.val,.int .i64 3] w fun e w'=>∃ (g:Int) (ra:Option Addr) (rl rc:Nat) (ca:Option Addr) (cl cc:Nat) (pa:Option Addr) (pl pc:Nat),e = .returned (.tuple #[.agg #[.bool false,.int .i64 2,.int .u64 g,.slice ra rl rc,.slice ca cl cc,.slice pa pl pc],.int .i64 0])∧Below w.heap.size w w':=by
 refine (wthA_is (c:=lmC b3) (e:=lmE) (n:=3) hp ⟨hc,rfl⟩ ⟨.inl rfl,rfl⟩ (Nat.le_refl _) (fun _=>Sr) ht).mono ?_
 rw [Sq,lmE_e,show ((lmC b3).p,(lmC b3).ws)=((0:Int),[(0:Int)]) from rfl,show (lmE.p,lmE.ws)=((0:Int),([]:List Int)) from rfl,lm_ends]
 rintro e w' ⟨hb,h | ⟨_,f,rfl,hf⟩⟩
 ·exact absurd rfl h.1
 ·have hs:qT (.one 2 9) lmX (lmP b1 b2).rs ([(([1],0,[]):Crs),([0,1,1],0,[])].map (·.1)) = .one (pC 2):=lm_sum b1 b2
  have hx:XIs w' (.one 2 9) f (.one (pC 2)):=hs▸hf.is (dD.refl _ _)
  obtain ⟨hz,hc2,_⟩:=mP (hx.pf)
  obtain ⟨z,c,g,ra,rl,rc,rows,ca,cl,cc,cells,pa,pl,pc⟩:=f
  have hz':z=false:=hz
  have hc':c=2:=hc2
  subst hz';subst hc'
  exact ⟨_,_,_,_,_,_,_,_,_,_,rfl,hb⟩
theorem qQ (w:World) (ht:Tabs w) :
  Calls prog 5 #[] w (fun e w'=>e = .returned (.bool (true))∧Below w.heap.size w w'):=by
 refine cH (args:=[]) func5 rfl ntmps5 rfl ?_
 have hS:=St.start w
 refine aL (aR (aA rfl rfl (aQ (XF.thenN (aL (aR (cS (us:=[(0,.int .i64 _),(1,.int .i64 _)]) rfl (Hz _ _) rfl (cU (us:=[(0,.int .i64 _),(1,.int .i64 _)]) hS underlying29 sizeOf3 zeroValue3 rfl rfl rfl (Ci _ _) rfl fun B1 W1 hS=>cS (us:=[(1,.int .i64 _)]) rfl (Fh _) rfl (cS (us:=[(3,.slice _ _ _),(4,.agg (List.toArray [_,_,_,_,_,_]))]) rfl (Jn _ _ _ _ _ _ _ _ _) rfl (cS (us:=[(1,.int .i64 _)]) rfl (Fh _) rfl (cS (us:=[(4,.agg (List.toArray [_,_,_,_,_,_]))]) rfl (Sm _ _ _ _ _ _) rfl (cU (us:=[(0,.agg (List.toArray [_,_,_,_,_,_,_,_,_,_])),(1,.agg (List.toArray [_,_,_,_,_,_,_,_,_,_]))]) hS underlying26 sizeOf62 zeroValue62 rfl rfl rfl (bs_26_2 _ _ _ _ _ _ _ _ _ _ _ _ _ _ _ _ _ _ _ _) rfl fun B2 W2 hS=>cS (us:=[(0,.agg (List.toArray [_,_,_])),(1,.int .i64 _),(2,.int .i64 _),(3,.slice _ _ _)]) rfl (xL _ _ _ _ _ _ _ _) rfl (bH (cs:=[_,_,_,_,_,_]) hS zeroValue28 rfl rfl fun B3 W3 hS=>aV (i:=0) (vs:=[_,_,_,_,_,_]) (cs':=[_,_,_,_,_,_]) (O':=[_,_,_]) hS sizeOf28 rfl rfl rfl rfl rfl rfl rfl fun W4 hS=>aQ (XF.thenN (aL (aR (cU (us:=[(0,.int .i64 _)]) hS underlying29 sizeOf3 zeroValue3 rfl rfl rfl (qI _) rfl fun B5 W5 hS=>cS (us:=[(1,.slice _ _ _)]) rfl (Pp _ _ _) rfl (bH (cs:=[_,_]) hS zeroValue36 rfl rfl fun B6 W6 hS=>aV (i:=0) (vs:=[_,_]) (cs':=[_,_]) (O':=[_,_,_,_,_]) hS sizeOf36 rfl rfl rfl rfl rfl rfl rfl fun W7 hS=>aQ (XF.thenN ?_)))))))))))))))))))
 refine aL (aR (aS (vs:=[_,_,_,_,_,_]) isAgg28 sizeOf28 rfl (aE.own (j:=0) (m:=6) (hS.at_ 2 rfl) rfl) rfl (aS (vs:=[_,_]) isAgg36 sizeOf36 rfl (aE.own (j:=0) (m:=2) (hS.at_ 0 rfl) rfl) rfl (aS (vs:=[_,_]) isAgg36 sizeOf36 rfl (aE.own (j:=0) (m:=2) (hS.at_ 0 rfl) rfl) rfl ?_))))
 have hal:=Ss (Sp (hS.at_ 4 rfl) (hS.at_ 3 rfl)) (So (hS.at_ 1 rfl)) (ht.below hS.below)
 refine cO (vs:=[_,_,_,_]) hS Jm rfl (hal) rfl ?_
 rintro e W8 ⟨b9,c9,bb,cb,rfl,hk,hb⟩
 refine ⟨_,rfl,hb,fun hS'=>?_⟩
 clear hS;have hS:=hS';clear hS'
 clear hal hb
 have HN:jJ w [(W7.heap.size,W8)] (fun W2=>W2.cell? ⟨b9,1,none⟩=some (.slice (some ⟨bb,0,none⟩) 2 cb)∧W2.cell? ⟨bb,1,none⟩=some (.int .i64 1)):=jJ.one (p:=fun W2=>W2.cell? ⟨b9,1,none⟩=some (.slice (some ⟨bb,0,none⟩) 2 cb)∧W2.cell? ⟨bb,1,none⟩=some (.int .i64 1)) hk
 refine aG rfl rfl (bL rfl rfl rfl (bL rfl rfl rfl (aA rfl rfl (aA rfl rfl (aQ (XF.thenN (aL (aR (aS (vs:=[_,_,_,_,_,_]) isAgg28 sizeOf28 rfl (aE.own (j:=0) (m:=6) (hS.at_ 2 rfl) rfl) rfl (aS (vs:=[_,_]) isAgg36 sizeOf36 rfl (aE.own (j:=0) (m:=2) (hS.at_ 0 rfl) rfl) rfl (cS (us:=[]) rfl (pE) rfl ?_)))))))))))
 have hal:=Nw (Sp (hS.at_ 4 rfl) (hS.at_ 3 rfl)) (So (hS.at_ 1 rfl)) (ht.below hS.below)
 refine cO (vs:=[_,_,_,_]) hS Sn rfl (hal) rfl ?_
 rintro e W9 ⟨g9,ra9,rl9,rc9,ca9,cl9,cc9,pa9,pl9,pc9,rfl,hb⟩
 refine ⟨_,rfl,hb,fun hS'=>?_⟩
 clear hS;have hS:=hS';clear hS' hb
 refine aG rfl rfl (bL rfl rfl rfl (bL rfl rfl rfl (bH (cs:=[_,_,_,_,_,_]) hS zeroValue53 rfl rfl fun B10 W10 hS=>aV (i:=0) (vs:=[_,_,_,_,_,_]) (cs':=[_,_,_,_,_,_]) (O':=[_,_,_,_,_,_]) hS sizeOf53 rfl rfl rfl rfl rfl rfl rfl fun W11 hS=>aA rfl rfl (aQ (XF.thenN (aL ?_))))))
 obtain ⟨k1,k2⟩:=HN hS (fun q hq=>by simp at hq;subst hq;simp)
 refine aR (aG rfl rfl (cM rfl rfl rfl (aG rfl rfl (bS (d:=33) rfl (fun hc=>?_) (fun hc=>absurd (of_decide_eq_false hc) (by exact fun h=>h rfl))))))
 have hc:=of_decide_eq_true hc
 refine aC (d:=33) rfl rfl (aG rfl rfl (aC (d:=33) rfl rfl (cM rfl rfl rfl (bC rfl rfl rfl (aG rfl rfl (bS (d:=37) rfl (fun hc=>?_) (fun hc=>absurd (of_decide_eq_false hc) (by exact fun h=>h rfl))))))))
 have hc:=of_decide_eq_true hc
 refine aC (d:=37) rfl rfl (aG rfl rfl (aC (d:=37) rfl rfl (bX underlying40 rfl rfl (aC (d:=37) rfl rfl (cM rfl rfl rfl (bC rfl rfl rfl (aG rfl rfl (bS (d:=42) rfl (fun hc=>?_) (fun hc=>absurd (of_decide_eq_false hc) (by exact fun h=>h rfl))))))))))
 have hc:=of_decide_eq_true hc
 refine aC (d:=42) rfl rfl (aG rfl rfl (aC (d:=42) rfl rfl (cK (j:=1) underlying40 sizeOf29 rfl rfl rfl (by omega) rfl rfl (aC (d:=42) rfl rfl (aT isAgg29 rfl (k1) rfl (aC (d:=42) rfl rfl (bX underlying29 rfl rfl (aC (d:=42) rfl rfl (cM rfl rfl rfl (bC rfl rfl rfl (aG rfl rfl (bS (d:=49) rfl (fun hc=>?_) (fun hc=>absurd (of_decide_eq_false hc) (by exact fun h=>h rfl))))))))))))))
 have hc:=of_decide_eq_true hc
 refine aC (d:=49) rfl rfl (aG rfl rfl (aC (d:=49) rfl rfl (cK (j:=1) underlying40 sizeOf29 rfl rfl rfl (by omega) rfl rfl (aC (d:=49) rfl rfl (aT isAgg29 rfl (k1) rfl (aC (d:=49) rfl rfl (cK (j:=1) underlying29 sizeOf3 rfl rfl rfl (by omega) rfl rfl (aC (d:=49) rfl rfl (aT isAgg3 rfl (k2) rfl (aC (d:=49) rfl rfl (cM rfl rfl rfl (bC rfl rfl rfl (aG rfl rfl (bS (d:=57) rfl (fun hc=>?_) (fun hc=>absurd (of_decide_eq_false hc) (by exact fun h=>h rfl))))))))))))))))
 have hc:=of_decide_eq_true hc
 refine aC (d:=57) rfl rfl (aP (o':=1) eL rfl rfl rfl (aC (d:=57) rfl rfl (aT isAgg3 rfl (aK (hS.at_ 0 rfl) rfl) rfl (aC (d:=57) rfl rfl (cM rfl rfl rfl (bC rfl rfl rfl (aG rfl rfl (bS (d:=62) rfl (fun hc=>?_) (fun hc=>absurd (of_decide_eq_false hc) (by exact fun h=>h rfl))))))))))
 have hc:=of_decide_eq_true hc
 refine aC (d:=62) rfl rfl (aP (o':=0) dL rfl rfl rfl (aC (d:=62) rfl rfl (aT isAgg4 rfl (aK (hS.at_ 0 rfl) rfl) rfl (aC (d:=62) rfl rfl (eA rfl rfl (bC rfl rfl rfl (aA rfl rfl (aQ (XF.thenN (bJ (XF.res (cJ results5 rfl) ?_)))))))))))
 exact ⟨bY (by rfl),hS.below⟩
theorem Ed:bW prog 13=true:=by kernel_rfl
theorem G8 (fz:Bool) (fc:Int) (fg:Nat) (fra:Option Addr) (frl frc:Nat) (fca:Option Addr) (fcl fcc:Nat) (fpa:Option Addr) (fpl fpc:Nat) (ps:List WV) (dp:Int) (w:World) (hlen:ps.length=fpl) (hrow:Bm w fpa ps) (hd:0≤dp∧dp≤4) (IH:∀ y∈ps,∀ (W:World) (d9:Int),Below w.heap.size w W→0≤d9∧d9≤4→Calls prog 13 #[y.f.val,.int .i64 d9] W fun e w2=>∃ b,e = .returned (.bool b)∧Below W.heap.size W w2) :
  Calls prog 13 #[.agg #[.bool fz,.int .i64 fc,.int .u64 (fg:Int),.slice fra frl frc,.slice fca fcl fcc,.slice fpa fpl fpc],.int .i64 dp] w (fun e w'=>∃ b,e = .returned (.bool b)∧Below w.heap.size w w'):=by
 refine cH (args:=[.agg #[.bool fz,.int .i64 fc,.int .u64 (fg:Int),.slice fra frl frc,.slice fca fcl fcc,.slice fpa fpl fpc],.int .i64 dp]) func13 rfl ntmps13 rfl ?_
 have hS:=St.start w
 refine aL (aR (bK (cs:=[_,_,_,_,_,_]) hS rfl rfl rfl fun B1 W1 hS=>aA rfl rfl (aQ (XF.thenN (aL (aL (aR (aP (o':=2) dY rfl rfl rfl (aP (o':=3) tA rfl rfl rfl (aT isAgg47 rfl (aK (hS.at_ 0 rfl) rfl) rfl (bX underlying47 rfl rfl (dM rfl rfl rfl (aG rfl rfl (bS (d:=11) rfl (fun hc=>?_) (fun hc=>?_)))))))))))))))
 ·have hg11:=of_decide_eq_true hc;clear hc
  refine aF (d:=11) rfl rfl rfl rfl (aF (d:=11) rfl rfl rfl rfl (aF (d:=11) rfl rfl rfl rfl (aF (d:=11) rfl rfl rfl rfl (bC rfl rfl rfl (aG rfl rfl (aF (d:=17) rfl rfl rfl rfl (aF (d:=17) rfl rfl rfl rfl (aF (d:=17) rfl rfl rfl rfl (aF (d:=17) rfl rfl rfl rfl (bC rfl rfl rfl (aG rfl rfl (aF (d:=23) rfl rfl rfl rfl (aF (d:=23) rfl rfl rfl rfl (bC rfl rfl rfl (aQ (XF.thenN (dJ rfl (aL (aR (aA rfl rfl (aQ (XF.thenN (bJ ?_)))))))))))))))))))))))
  refine XF.thenR (XF.res (cJ results13 rfl) ?_)
  exact ⟨_,rfl,hS.below⟩
 ·have hg11:=of_decide_eq_false hc;clear hc
  refine aC (d:=11) rfl rfl (aP (o':=4) cZ rfl rfl rfl (aC (d:=11) rfl rfl (aT isAgg50 rfl (aK (hS.at_ 0 rfl) rfl) rfl (aC (d:=11) rfl rfl (bX underlying50 rfl rfl (aC (d:=11) rfl rfl (dM rfl rfl rfl (bV rfl rfl rfl (aG rfl rfl (bS (d:=17) rfl (fun hc=>?_) (fun hc=>?_)))))))))))
  ·have hg17:=of_decide_eq_true hc;clear hc
   refine aF (d:=17) rfl rfl rfl rfl (aF (d:=17) rfl rfl rfl rfl (aF (d:=17) rfl rfl rfl rfl (aF (d:=17) rfl rfl rfl rfl (bC rfl rfl rfl (aG rfl rfl (aF (d:=23) rfl rfl rfl rfl (aF (d:=23) rfl rfl rfl rfl (bC rfl rfl rfl (aQ (XF.thenN (dJ rfl (aL (aR (aA rfl rfl (aQ (XF.thenN (bJ (XF.thenR (XF.res (cJ results13 rfl) ?_)))))))))))))))))))
   exact ⟨_,rfl,hS.below⟩
  ·have hg17:=of_decide_eq_false hc;clear hc
   refine aC (d:=17) rfl rfl (aP (o':=5) cP rfl rfl rfl (aC (d:=17) rfl rfl (aT isAgg51 rfl (aK (hS.at_ 0 rfl) rfl) rfl (aC (d:=17) rfl rfl (bX underlying51 rfl rfl (aC (d:=17) rfl rfl (dM rfl rfl rfl (bV rfl rfl rfl (aG rfl rfl (bS (d:=23) rfl (fun hc=>?_) (fun hc=>?_)))))))))))
   ·have hg23:=of_decide_eq_true hc;clear hc
    refine aF (d:=23) rfl rfl rfl rfl (aF (d:=23) rfl rfl rfl rfl (bC rfl rfl rfl (aQ (XF.thenN (dJ rfl (aL (aR (aA rfl rfl (aQ (XF.thenN (bJ (XF.thenR (XF.res (cJ results13 rfl) ?_)))))))))))))
    exact ⟨_,rfl,hS.below⟩
   ·have hg23:=of_decide_eq_false hc;clear hc
    refine aC (d:=23) rfl rfl (aG rfl rfl (aC (d:=23) rfl rfl (dM rfl rfl rfl (bV rfl rfl rfl (aQ (XF.thenN (aZ rfl (fun hc=>?_) (fun hc=>?_))))))))
    ·have hc26:=of_decide_eq_true hc;clear hc
     refine aL (aR (aA rfl rfl (aQ (XF.thenN (bJ (XF.thenR (XF.res (cJ results13 rfl) ?_)))))))
     exact ⟨_,rfl,hS.below⟩
    ·have hc26:=of_decide_eq_false hc;clear hc
     refine bG (XF.thenN (aL (aL (aR (aA rfl rfl (aQ (XF.thenN (bM (dK (fun m l W=>∃ i:Nat,i≤fpl∧m=fpl - i∧l=[(1,.int .i64 dp),(2,.pointer (some ⟨B1,0,none⟩)),(5,.int .i64 (i:Int))]∧St w [(B1,[.bool fz,.int .i64 fc,.int .u64 (fg:Int),.slice fra frl frc,.slice fca fcl fcc,.slice fpa fpl fpc],53)] [] [] W) (fpl - 0) ([(1,_),(2,_),(5,_)]) ⟨rfl,rfl,rfl,trivial⟩ (⟨0,Nat.zero_le _,rfl,rfl,hS.clear⟩) ?_)))))))))
     clear hS
     rintro m l W ⟨i,hi,rfl,rfl,hS⟩
     refine aL (aL (aR (aG rfl rfl (aP (o':=5) cP rfl rfl rfl (aT isAgg51 rfl (aK (hS.at_ 0 rfl) rfl) rfl (bX underlying51 rfl rfl (cN rfl rfl rfl (aQ (XF.thenN (aZ rfl (fun hc=>?_) (fun hc=>?_)))))))))))
     ·have hc31:=of_decide_eq_true hc;clear hc
      have hk:i < fpl:=by omega
      obtain ⟨y,hy⟩:∃ y,ps[i]?=some y:=⟨ps[i]'(by omega),by simp [show i < ps.length by omega]⟩
      obtain ⟨b,off,rfl,hcs⟩:∃ b off,fpa=some ⟨b,off,none⟩∧W6 w b (off+i * 6) y.f:=by
       rcases hrow with h | ⟨b,off,ha,hc⟩
       ·rw [h] at hy;simp at hy
       ·exact ⟨b,off,ha,hc i y hy⟩
      have k1:aE W b (off+i * 6) y.f.six:=aE.agree hS.agree (Nat.zero_le _) ⟨hcs.1,hcs.2.1,hcs.2.2.1,hcs.2.2.2.1,hcs.2.2.2.2.1,hcs.2.2.2.2.2,trivial⟩
      refine bG (XF.thenN (aL (bM (aL (aR (aP (o':=5) cP rfl rfl rfl (aT isAgg51 rfl (aK (hS.at_ 0 rfl) rfl) rfl (aG rfl rfl (cK  underlying51 sizeOf53 rfl rfl rfl (by omega) rfl rfl (aS (vs:=[_,_,_,_,_,_]) isAgg53 sizeOf53 rfl (k1) rfl (aG rfl rfl (cR rfl rfl (IntWalk.i64_in _ (by omega)) rfl (cO (vs:=[_,_]) hS Ed rfl (IH y (List.mem_of_getElem? hy) _ (dp+1) hS.below (by omega)) rfl ?_)))))))))))))
      rintro e W2 ⟨b9,rfl,hb⟩
      refine ⟨_,rfl,hb,fun hS'=>?_⟩
      clear hS;have hS:=hS';clear hS' hb
      refine eA rfl rfl (aQ (XF.thenN (aZ rfl (fun hc=>?_) (fun hc=>?_))))
      ·have hc42:=hc;clear hc
       refine aL (aR (aA rfl rfl (aQ (XF.thenN (bJ (XF.blkR (XF.thenR (XF.thenR (XF.blkR (XF.thenR (XF.res (cJ results13 rfl) ?_)))))))))))
       exact ⟨_,rfl,hS.below⟩
      ·have hc42:=hc;clear hc
       refine bG (XF.blkN (XF.thenN (aR (aG rfl rfl (cR rfl rfl (IntWalk.i64_in _ (by omega)) rfl (aA rfl rfl (aQ ?_)))))))
       exact XF.round (fpl - (i+1)) [(1,_),(2,_),(5,_)] (by omega) ⟨rfl,rfl,rfl,trivial⟩ ⟨i+1,by omega,rfl,rfl,hS.clear⟩
     ·have hc31:=of_decide_eq_false hc;clear hc
      refine dE (XF.thenX (XF.thenX (XF.blkX (XF.thenN (aL (aR (aA rfl rfl (aQ (XF.thenN (bJ (XF.res (cJ results13 rfl) ?_)))))))))))
      exact ⟨_,rfl,hS.below⟩
theorem uV:∀ (d:Nat) (x:WV) (dp:Int) (w:World),WIn w d x→0≤dp∧dp≤4→Calls prog 13 #[x.f.val,.int .i64 dp] w fun e w2=>∃ b,e = .returned (.bool b)∧Below w.heap.size w w2
 | 0,_,_,_,h,_=>h.elim
 | d+1,.mk f ps,dp,w,⟨_,h1,h2,h3⟩,hd=>G8 f.z f.c f.g f.ra f.rl f.rc f.ca f.cl f.cc f.pa f.pl f.pc ps dp w h1 h2 hd fun y hy W d9 hb h9=>uV d y d9 W (WIn.below hb (h3 y hy)) h9
theorem Su (st sd:Int) (sa:Option Addr) (sl sc:Nat) (ps:List SV) (w:World) (hlen:ps.length=sl) (hrow:Oe w sa ps) :
  Calls prog 12 #[.agg #[.int .i64 st,.int .i64 sd,.slice sa sl sc]] w (fun e w'=>∃ b,e = .returned (.bool b)∧Below w.heap.size w w'):=by
 refine cH (args:=[.agg #[.int .i64 st,.int .i64 sd,.slice sa sl sc]]) func12 rfl ntmps12 rfl ?_
 have hS:=St.start w
 refine aL (aR (bK (cs:=[_,_,_]) hS rfl rfl rfl fun B1 W1 hS=>aA rfl rfl (aQ (XF.thenN (aL (aL (aR (aP (o':=2) dI rfl rfl rfl (aT isAgg23 rfl (aK (hS.at_ 0 rfl) rfl) rfl (bX underlying23 rfl rfl (dM rfl rfl rfl (aG rfl rfl (bS (d:=8) rfl (fun hc=>?_) (fun hc=>?_))))))))))))))
 ·have hg8:=of_decide_eq_true hc;clear hc
  refine aF (d:=8) rfl rfl rfl rfl (aF (d:=8) rfl rfl rfl rfl (aF (d:=8) rfl rfl rfl rfl (aF (d:=8) rfl rfl rfl rfl (hQ (d:=12) rfl rfl rfl (hQ (d:=12) rfl rfl rfl (hQ (d:=12) rfl rfl rfl (aF (d:=8) rfl rfl rfl rfl (bC rfl rfl rfl (aQ (XF.thenN (dJ rfl (aL (aR (aA rfl rfl (aQ (XF.thenN (bJ (XF.thenR (XF.res (cJ results12 rfl) ?_)))))))))))))))))))
  exact ⟨_,rfl,hS.below⟩
 ·have hg8:=of_decide_eq_false hc;clear hc
  refine aC (d:=8) rfl rfl (aP (o':=0) dW rfl rfl rfl (aC (d:=8) rfl rfl (aT isAgg22 rfl (aK (hS.at_ 0 rfl) rfl) rfl (aC (d:=8) rfl rfl (dA rfl rfl rfl (aC (d:=8) rfl rfl (aG rfl rfl (bS (d:=12) rfl (fun hc=>?_) (fun hc=>?_)))))))))
  ·have hg12:=of_decide_eq_true hc;clear hc
   refine aC (d:=12) rfl rfl (aP (o':=1) dX rfl rfl rfl (aC (d:=12) rfl rfl (aT isAgg3 rfl (aK (hS.at_ 0 rfl) rfl) rfl (aC (d:=12) rfl rfl (dM rfl rfl rfl (aC (d:=8) rfl rfl (bC rfl rfl rfl (bV rfl rfl rfl (aQ (XF.thenN (aZ rfl (fun hc=>?_) (fun hc=>?_))))))))))))
   ·have hc17:=of_decide_eq_true hc;clear hc
    refine aL (aR (aA rfl rfl (aQ (XF.thenN (bJ (XF.thenR (XF.res (cJ results12 rfl) ?_)))))))
    exact ⟨_,rfl,hS.below⟩
   ·have hc17:=of_decide_eq_false hc;clear hc
    refine bG (XF.thenN (aL (aL (aR (aA rfl rfl (aQ (XF.thenN (bM (dK (fun m l W=>∃ i:Nat,i≤sl∧m=sl - i∧l=[(1,.pointer (some ⟨B1,0,none⟩)),(3,.int .i64 (i:Int))]∧St w [(B1,[.int .i64 st,.int .i64 sd,.slice sa sl sc],25)] [] [] W) (sl - 0) ([(1,_),(3,_)]) ⟨rfl,rfl,trivial⟩ (⟨0,Nat.zero_le _,rfl,rfl,hS.clear⟩) ?_)))))))))
    clear hS
    rintro m l W ⟨i,hi,rfl,rfl,hS⟩
    refine aL (aL (aR (aG rfl rfl (aP (o':=2) dI rfl rfl rfl (aT isAgg23 rfl (aK (hS.at_ 0 rfl) rfl) rfl (bX underlying23 rfl rfl (cN rfl rfl rfl (aQ (XF.thenN (aZ rfl (fun hc=>?_) (fun hc=>?_)))))))))))
    ·have hc22:=of_decide_eq_true hc;clear hc
     have hk:i < sl:=by omega
     obtain ⟨y,hy⟩:∃ y,ps[i]?=some y:=⟨ps[i]'(by omega),by simp [show i < ps.length by omega]⟩
     obtain ⟨b,off,rfl,hcs⟩:∃ b off,sa=some ⟨b,off,none⟩∧S3 w b (off+i * 3) y.f:=by
      rcases hrow with h | ⟨b,off,ha,hc⟩
      ·rw [h] at hy;simp at hy
      ·exact ⟨b,off,ha,hc i y hy⟩
     have k1:aE W b (off+i * 3) [.int .i64 y.f.tag,.int .i64 y.f.dim,.slice y.f.a y.f.len y.f.cap]:=aE.agree hS.agree (Nat.zero_le _) ⟨hcs.1,hcs.2.1,hcs.2.2,trivial⟩
     refine bG (XF.thenN (aL (bM (aL (aR (aP (o':=2) dI rfl rfl rfl (aT isAgg23 rfl (aK (hS.at_ 0 rfl) rfl) rfl (aG rfl rfl (cK  underlying23 sizeOf25 rfl rfl rfl (by omega) rfl rfl (aP dI rfl rfl rfl (aT isAgg23 rfl (k1.2.2.1) rfl (bX underlying23 rfl rfl (dM rfl rfl rfl (aG rfl rfl (bS (d:=33) rfl (fun hc=>?_) (fun hc=>?_))))))))))))))))
     ·have hg33:=of_decide_eq_true hc;clear hc
      refine aF (d:=33) rfl rfl rfl rfl (aF (d:=33) rfl rfl rfl rfl (aF (d:=33) rfl rfl rfl rfl (aF (d:=33) rfl rfl rfl rfl (aF (d:=33) rfl rfl rfl rfl (aF (d:=33) rfl rfl rfl rfl (aF (d:=33) rfl rfl rfl rfl (aF (d:=33) rfl rfl rfl rfl (hQ (d:=41) rfl rfl rfl (hQ (d:=41) rfl rfl rfl (hQ (d:=41) rfl rfl rfl (hQ (d:=41) rfl rfl rfl (hQ (d:=41) rfl rfl rfl (hQ (d:=41) rfl rfl rfl (hQ (d:=41) rfl rfl rfl (aF (d:=33) rfl rfl rfl rfl (bC rfl rfl rfl (aQ (XF.thenN (dJ rfl (aL (aR (aA rfl rfl ?_))))))))))))))))))))))
      refine aQ (XF.thenN (bJ (XF.blkR (XF.thenR (XF.thenR (XF.blkR (XF.thenR (XF.res (cJ results12 rfl) ?_))))))))
      exact ⟨_,rfl,hS.below⟩
     ·have hg33:=of_decide_eq_false hc;clear hc
      refine aC (d:=33) rfl rfl (aP (o':=2) dI rfl rfl rfl (aC (d:=33) rfl rfl (aT isAgg23 rfl (aK (hS.at_ 0 rfl) rfl) rfl (aC (d:=33) rfl rfl (aG rfl rfl (aC (d:=33) rfl rfl (cK  underlying23 sizeOf25 rfl rfl rfl (by omega) rfl rfl (aC (d:=33) rfl rfl (aP dW rfl (Nat.add_zero _) rfl (aC (d:=33) rfl rfl (aT isAgg22 rfl (k1.1) rfl (aC (d:=33) rfl rfl (dA rfl rfl rfl (aC (d:=33) rfl rfl (aG rfl rfl (bS (d:=41) rfl (fun hc=>?_) (fun hc=>?_)))))))))))))))))
      ·have hg41:=of_decide_eq_true hc;clear hc
       refine aC (d:=41) rfl rfl (aP (o':=2) dI rfl rfl rfl (aC (d:=41) rfl rfl (aT isAgg23 rfl (aK (hS.at_ 0 rfl) rfl) rfl (aC (d:=41) rfl rfl (aG rfl rfl (aC (d:=41) rfl rfl (cK  underlying23 sizeOf25 rfl rfl rfl (by omega) rfl rfl (aC (d:=41) rfl rfl (aP dX rfl rfl rfl (aC (d:=41) rfl rfl (aT isAgg3 rfl (k1.2.1) rfl (aC (d:=41) rfl rfl (dM rfl rfl rfl (aC (d:=33) rfl rfl (bC rfl rfl rfl (bV rfl rfl rfl (aQ (XF.thenN (aZ rfl (fun hc=>?_) (fun hc=>?_))))))))))))))))))))
       ·have hc50:=of_decide_eq_true hc;clear hc
        refine aL (aR (aA rfl rfl (aQ (XF.thenN (bJ (XF.blkR (XF.thenR (XF.thenR (XF.blkR (XF.thenR (XF.res (cJ results12 rfl) ?_)))))))))))
        exact ⟨_,rfl,hS.below⟩
       ·have hc50:=of_decide_eq_false hc;clear hc
        refine bG (XF.blkN (XF.thenN (aR (aG rfl rfl (cR rfl rfl (IntWalk.i64_in _ (by omega)) rfl (aA rfl rfl (aQ ?_)))))))
        exact XF.round (sl - (i+1)) [(1,_),(3,_)] (by omega) ⟨rfl,rfl,trivial⟩ ⟨i+1,by omega,rfl,rfl,hS.clear⟩
      ·have hg41:=of_decide_eq_false hc;clear hc
       refine aF (d:=41) rfl rfl rfl rfl (aF (d:=41) rfl rfl rfl rfl (aF (d:=41) rfl rfl rfl rfl (aF (d:=41) rfl rfl rfl rfl (aF (d:=41) rfl rfl rfl rfl (aF (d:=41) rfl rfl rfl rfl (aF (d:=41) rfl rfl rfl rfl (aC (d:=33) rfl rfl (bV rfl rfl rfl (bV rfl rfl rfl (aQ (XF.thenN (vA rfl (bG (XF.blkN (XF.thenN (aR (aG rfl rfl (cR rfl rfl (IntWalk.i64_in _ (by omega)) rfl (aA rfl rfl (aQ ?_))))))))))))))))))))
       exact XF.round (sl - (i+1)) [(1,_),(3,_)] (by omega) ⟨rfl,rfl,trivial⟩ ⟨i+1,by omega,rfl,rfl,hS.clear⟩
    ·have hc22:=of_decide_eq_false hc;clear hc
     refine dE (XF.thenX (XF.thenX (XF.blkX (XF.thenN (aL (aR (aA rfl rfl (aQ (XF.thenN (bJ (XF.res (cJ results12 rfl) ?_)))))))))))
     exact ⟨_,rfl,hS.below⟩
  ·have hg12:=of_decide_eq_false hc;clear hc
   refine aF (d:=12) rfl rfl rfl rfl (aF (d:=12) rfl rfl rfl rfl (aF (d:=12) rfl rfl rfl rfl (aC (d:=8) rfl rfl (bV rfl rfl rfl (bV rfl rfl rfl (aQ (XF.thenN (vA rfl (bG (XF.thenN (aL (aL (aR (aA rfl rfl (aQ (XF.thenN (bM (dK (fun m l W=>∃ i:Nat,i≤sl∧m=sl - i∧l=[(1,.pointer (some ⟨B1,0,none⟩)),(3,.int .i64 (i:Int))]∧St w [(B1,[.int .i64 st,.int .i64 sd,.slice sa sl sc],25)] [] [] W) (sl - 0) ([(1,_),(3,_)]) ⟨rfl,rfl,trivial⟩ (⟨0,Nat.zero_le _,rfl,rfl,hS.clear⟩) ?_))))))))))))))))))
   clear hS
   rintro m l W ⟨i,hi,rfl,rfl,hS⟩
   refine aL (aL (aR (aG rfl rfl (aP (o':=2) dI rfl rfl rfl (aT isAgg23 rfl (aK (hS.at_ 0 rfl) rfl) rfl (bX underlying23 rfl rfl (cN rfl rfl rfl (aQ (XF.thenN (aZ rfl (fun hc=>?_) (fun hc=>?_)))))))))))
   ·have hc22:=of_decide_eq_true hc;clear hc
    have hk:i < sl:=by omega
    obtain ⟨y,hy⟩:∃ y,ps[i]?=some y:=⟨ps[i]'(by omega),by simp [show i < ps.length by omega]⟩
    obtain ⟨b,off,rfl,hcs⟩:∃ b off,sa=some ⟨b,off,none⟩∧S3 w b (off+i * 3) y.f:=by
     rcases hrow with h | ⟨b,off,ha,hc⟩
     ·rw [h] at hy;simp at hy
     ·exact ⟨b,off,ha,hc i y hy⟩
    have k1:aE W b (off+i * 3) [.int .i64 y.f.tag,.int .i64 y.f.dim,.slice y.f.a y.f.len y.f.cap]:=aE.agree hS.agree (Nat.zero_le _) ⟨hcs.1,hcs.2.1,hcs.2.2,trivial⟩
    refine bG (XF.thenN (aL (bM (aL (aR (aP (o':=2) dI rfl rfl rfl (aT isAgg23 rfl (aK (hS.at_ 0 rfl) rfl) rfl (aG rfl rfl (cK  underlying23 sizeOf25 rfl rfl rfl (by omega) rfl rfl (aP dI rfl rfl rfl (aT isAgg23 rfl (k1.2.2.1) rfl (bX underlying23 rfl rfl (dM rfl rfl rfl (aG rfl rfl (bS (d:=33) rfl (fun hc=>?_) (fun hc=>?_))))))))))))))))
    ·have hg33:=of_decide_eq_true hc;clear hc
     refine aF (d:=33) rfl rfl rfl rfl (aF (d:=33) rfl rfl rfl rfl (aF (d:=33) rfl rfl rfl rfl (aF (d:=33) rfl rfl rfl rfl (aF (d:=33) rfl rfl rfl rfl (aF (d:=33) rfl rfl rfl rfl (aF (d:=33) rfl rfl rfl rfl (aF (d:=33) rfl rfl rfl rfl (hQ (d:=41) rfl rfl rfl (hQ (d:=41) rfl rfl rfl (hQ (d:=41) rfl rfl rfl (hQ (d:=41) rfl rfl rfl (hQ (d:=41) rfl rfl rfl (hQ (d:=41) rfl rfl rfl (hQ (d:=41) rfl rfl rfl (aF (d:=33) rfl rfl rfl rfl (bC rfl rfl rfl (aQ (XF.thenN (dJ rfl (aL (aR (aA rfl rfl ?_))))))))))))))))))))))
     refine aQ (XF.thenN (bJ (XF.blkR (XF.thenR (XF.thenR (XF.blkR (XF.thenR (XF.res (cJ results12 rfl) ?_))))))))
     exact ⟨_,rfl,hS.below⟩
    ·have hg33:=of_decide_eq_false hc;clear hc
     refine aC (d:=33) rfl rfl (aP (o':=2) dI rfl rfl rfl (aC (d:=33) rfl rfl (aT isAgg23 rfl (aK (hS.at_ 0 rfl) rfl) rfl (aC (d:=33) rfl rfl (aG rfl rfl (aC (d:=33) rfl rfl (cK  underlying23 sizeOf25 rfl rfl rfl (by omega) rfl rfl (aC (d:=33) rfl rfl (aP dW rfl (Nat.add_zero _) rfl (aC (d:=33) rfl rfl (aT isAgg22 rfl (k1.1) rfl (aC (d:=33) rfl rfl (dA rfl rfl rfl (aC (d:=33) rfl rfl (aG rfl rfl (bS (d:=41) rfl (fun hc=>?_) (fun hc=>?_)))))))))))))))))
     ·have hg41:=of_decide_eq_true hc;clear hc
      refine aC (d:=41) rfl rfl (aP (o':=2) dI rfl rfl rfl (aC (d:=41) rfl rfl (aT isAgg23 rfl (aK (hS.at_ 0 rfl) rfl) rfl (aC (d:=41) rfl rfl (aG rfl rfl (aC (d:=41) rfl rfl (cK  underlying23 sizeOf25 rfl rfl rfl (by omega) rfl rfl (aC (d:=41) rfl rfl (aP dX rfl rfl rfl (aC (d:=41) rfl rfl (aT isAgg3 rfl (k1.2.1) rfl (aC (d:=41) rfl rfl (dM rfl rfl rfl (aC (d:=33) rfl rfl (bC rfl rfl rfl (bV rfl rfl rfl (aQ (XF.thenN (aZ rfl (fun hc=>?_) (fun hc=>?_))))))))))))))))))))
      ·have hc50:=of_decide_eq_true hc;clear hc
       refine aL (aR (aA rfl rfl (aQ (XF.thenN (bJ (XF.blkR (XF.thenR (XF.thenR (XF.blkR (XF.thenR (XF.res (cJ results12 rfl) ?_)))))))))))
       exact ⟨_,rfl,hS.below⟩
      ·have hc50:=of_decide_eq_false hc;clear hc
       refine bG (XF.blkN (XF.thenN (aR (aG rfl rfl (cR rfl rfl (IntWalk.i64_in _ (by omega)) rfl (aA rfl rfl (aQ ?_)))))))
       exact XF.round (sl - (i+1)) [(1,_),(3,_)] (by omega) ⟨rfl,rfl,trivial⟩ ⟨i+1,by omega,rfl,rfl,hS.clear⟩
     ·have hg41:=of_decide_eq_false hc;clear hc
      refine aF (d:=41) rfl rfl rfl rfl (aF (d:=41) rfl rfl rfl rfl (aF (d:=41) rfl rfl rfl rfl (aF (d:=41) rfl rfl rfl rfl (aF (d:=41) rfl rfl rfl rfl (aF (d:=41) rfl rfl rfl rfl (aF (d:=41) rfl rfl rfl rfl (aC (d:=33) rfl rfl (bV rfl rfl rfl (bV rfl rfl rfl (aQ (XF.thenN (vA rfl (bG (XF.blkN (XF.thenN (aR (aG rfl rfl (cR rfl rfl (IntWalk.i64_in _ (by omega)) rfl (aA rfl rfl (aQ ?_))))))))))))))))))))
      exact XF.round (sl - (i+1)) [(1,_),(3,_)] (by omega) ⟨rfl,rfl,trivial⟩ ⟨i+1,by omega,rfl,rfl,hS.clear⟩
   ·have hc22:=of_decide_eq_false hc;clear hc
    refine dE (XF.thenX (XF.thenX (XF.blkX (XF.thenN (aL (aR (aA rfl rfl (aQ (XF.thenN (bJ (XF.res (cJ results12 rfl) ?_)))))))))))
    exact ⟨_,rfl,hS.below⟩
theorem Ba (d:Nat) (s:SV) (w:World) (h:SIn w d s):Calls prog 12 #[s.f.val] w (fun e w'=>∃ b,e = .returned (.bool b)∧Below w.heap.size w w'):=by
 match d,s,h with
 | d+1,.mk f ps,h=>exact Su f.tag f.dim f.a f.len f.cap ps w h.1 h.2.1
theorem fa_32_0 (w:World) (b o:Nat):(Instr.fieldAt 32 (.pointer (some ⟨b,o,none⟩)) 0).run prog w = .ok (.pointer (some ⟨b,o+0,none⟩)) w:=by
 simp [Instr.fieldAt,run_underlying underlying32,Instr.sureAddr,go_sem,Addr.add_lit]
theorem fa_32_1 (w:World) (b o:Nat):(Instr.fieldAt 32 (.pointer (some ⟨b,o,none⟩)) 1).run prog w = .ok (.pointer (some ⟨b,o+3,none⟩)) w:=by
 simp [Instr.fieldAt,run_underlying underlying32,Instr.sureAddr,go_sem,Addr.add_lit]
theorem fa_32_3 (w:World) (b o:Nat):(Instr.fieldAt 32 (.pointer (some ⟨b,o,none⟩)) 3).run prog w = .ok (.pointer (some ⟨b,o+5,none⟩)) w:=by
 simp [Instr.fieldAt,run_underlying underlying32,Instr.sureAddr,go_sem,Addr.add_lit]
theorem Ee (w:World) (b o:Nat):(Instr.fieldAt 32 (.pointer (some ⟨b,o,none⟩)) 4).run prog w = .ok (.pointer (some ⟨b,o+6,none⟩)) w:=by
 simp [Instr.fieldAt,run_underlying underlying32,Instr.sureAddr,go_sem,Addr.add_lit]
theorem lI (w:World) (b o:Nat):(Instr.fieldAt 34 (.pointer (some ⟨b,o,none⟩)) 0).run prog w = .ok (.pointer (some ⟨b,o+0,none⟩)) w:=by
 simp [Instr.fieldAt,run_underlying underlying34,Instr.sureAddr,go_sem,Addr.add_lit]
theorem qR (w:World) (b o:Nat):(Instr.fieldAt 34 (.pointer (some ⟨b,o,none⟩)) 1).run prog w = .ok (.pointer (some ⟨b,o+6,none⟩)) w:=by
 simp [Instr.fieldAt,run_underlying underlying34,Instr.sureAddr,go_sem,Addr.add_lit]
theorem fa_65_3 (w:World) (b o:Nat):(Instr.fieldAt 65 (.pointer (some ⟨b,o,none⟩)) 3).run prog w = .ok (.pointer (some ⟨b,o+3,none⟩)) w:=by
 simp [Instr.fieldAt,run_underlying underlying65,Instr.sureAddr,go_sem,Addr.add_lit]
theorem Lu:bW prog 12=true:=by kernel_rfl
theorem Sv (ds d:Nat) (s:SV) (st sy:Int) (ra:Option Addr) (rl rc:Nat) (rs:List RV) (w:World) (hs:SIn w ds s) (hrow:lD w ra rs) (hlen:rs.length=rl) (hin:∀ r∈rs,RIn w d r) (dz dt:Nat) (z:SV) (ast asy:Int) (fa:Option Addr) (fl fc:Nat) (ta:Option Addr) (tl tc:Nat) (ts:List TV) (hz:SIn w dz z) (htr:G4 w ta ts) (htl:ts.length=tl) (hti:∀ t∈ts,WIn w dt t.x) :
  Calls prog 4 #[.agg #[.int .i64 s.f.tag,.int .i64 s.f.dim,.slice s.f.a s.f.len s.f.cap,.int .i64 st,.int .i64 sy,.slice ra rl rc,.int .i64 z.f.tag,.int .i64 z.f.dim,.slice z.f.a z.f.len z.f.cap,.int .i64 ast,.int .i64 asy,.slice fa fl fc,.slice ta tl tc]] w (fun e w'=>∃ b,e = .returned (.bool b)∧Below w.heap.size w w'):=by
 refine cH (args:=[.agg #[.int .i64 s.f.tag,.int .i64 s.f.dim,.slice s.f.a s.f.len s.f.cap,.int .i64 st,.int .i64 sy,.slice ra rl rc,.int .i64 z.f.tag,.int .i64 z.f.dim,.slice z.f.a z.f.len z.f.cap,.int .i64 ast,.int .i64 asy,.slice fa fl fc,.slice ta tl tc]]) func4 rfl ntmps4 rfl ?_
 have hS:=St.start w
 refine aL (aR (bK (cs:=[_,_,_,_,_,_,_,_,_,_,_,_,_]) hS rfl rfl rfl fun B1 W1 hS=>aA rfl rfl (aQ (XF.thenN (aL (aL (aR (aP (o':=0) lI rfl rfl rfl (aP (o':=5) eX rfl rfl rfl (aT isAgg26 rfl (aK (hS.at_ 0 rfl) rfl) rfl (bX underlying26 rfl rfl (dM rfl rfl rfl (aG rfl rfl (bS (d:=10) rfl (fun hc=>?_) (fun hc=>?_)))))))))))))))
 ·have hg10:=of_decide_eq_true hc;clear hc
  refine aF (d:=10) rfl rfl rfl rfl (aF (d:=10) rfl rfl rfl rfl (aF (d:=10) rfl rfl rfl rfl (aF (d:=10) rfl rfl rfl rfl (aF (d:=10) rfl rfl rfl rfl (bC rfl rfl rfl (aG rfl rfl (aF (d:=17) rfl rfl rfl rfl (aF (d:=17) rfl rfl rfl rfl (aF (d:=17) rfl rfl rfl rfl (aF (d:=17) rfl rfl rfl rfl (aF (d:=17) rfl rfl rfl rfl (bC rfl rfl rfl (aG rfl rfl (aF (d:=24) rfl rfl rfl rfl (aF (d:=24) rfl rfl rfl rfl (aF (d:=24) rfl rfl rfl rfl (aF (d:=24) rfl rfl rfl rfl (bC rfl rfl rfl (aG rfl rfl (aF (d:=30) rfl rfl rfl rfl ?_))))))))))))))))))))
  refine aF (d:=30) rfl rfl rfl rfl (aF (d:=30) rfl rfl rfl rfl (aF (d:=30) rfl rfl rfl rfl (aF (d:=30) rfl rfl rfl rfl (bC rfl rfl rfl (aG rfl rfl (aF (d:=37) rfl rfl rfl rfl (aF (d:=37) rfl rfl rfl rfl (aF (d:=37) rfl rfl rfl rfl (aF (d:=37) rfl rfl rfl rfl (aF (d:=37) rfl rfl rfl rfl (bC rfl rfl rfl (aQ (XF.thenN (dJ rfl (aL (aR (aA rfl rfl (aQ (XF.thenN (bJ (XF.thenR (XF.res (cJ results4 rfl) ?_))))))))))))))))))))))
  exact ⟨_,rfl,hS.below⟩
 ·have hg10:=of_decide_eq_false hc;clear hc
  refine aC (d:=10) rfl rfl (aP (o':=6) qR rfl rfl rfl (aC (d:=10) rfl rfl (aP (o':=12) Ee rfl rfl rfl (aC (d:=10) rfl rfl (aT isAgg30 rfl (aK (hS.at_ 0 rfl) rfl) rfl (aC (d:=10) rfl rfl (bX underlying30 rfl rfl (aC (d:=10) rfl rfl (dM rfl rfl rfl (bV rfl rfl rfl (aG rfl rfl (bS (d:=17) rfl (fun hc=>?_) (fun hc=>?_)))))))))))))
  ·have hg17:=of_decide_eq_true hc;clear hc
   refine aF (d:=17) rfl rfl rfl rfl (aF (d:=17) rfl rfl rfl rfl (aF (d:=17) rfl rfl rfl rfl (aF (d:=17) rfl rfl rfl rfl (aF (d:=17) rfl rfl rfl rfl (bC rfl rfl rfl (aG rfl rfl (aF (d:=24) rfl rfl rfl rfl (aF (d:=24) rfl rfl rfl rfl (aF (d:=24) rfl rfl rfl rfl (aF (d:=24) rfl rfl rfl rfl (bC rfl rfl rfl (aG rfl rfl (aF (d:=30) rfl rfl rfl rfl (aF (d:=30) rfl rfl rfl rfl (aF (d:=30) rfl rfl rfl rfl (aF (d:=30) rfl rfl rfl rfl (aF (d:=30) rfl rfl rfl rfl (bC rfl rfl rfl (aG rfl rfl (aF (d:=37) rfl rfl rfl rfl ?_))))))))))))))))))))
   refine aF (d:=37) rfl rfl rfl rfl (aF (d:=37) rfl rfl rfl rfl (aF (d:=37) rfl rfl rfl rfl (aF (d:=37) rfl rfl rfl rfl (bC rfl rfl rfl (aQ (XF.thenN (dJ rfl (aL (aR (aA rfl rfl (aQ (XF.thenN (bJ (XF.thenR (XF.res (cJ results4 rfl) ?_)))))))))))))))
   exact ⟨_,rfl,hS.below⟩
  ·have hg17:=of_decide_eq_false hc;clear hc
   refine aC (d:=17) rfl rfl (aP (o':=6) qR rfl rfl rfl (aC (d:=17) rfl rfl (aP (o':=11) fa_32_3 rfl rfl rfl (aC (d:=17) rfl rfl (aT isAgg29 rfl (aK (hS.at_ 0 rfl) rfl) rfl (aC (d:=17) rfl rfl (bX underlying29 rfl rfl (aC (d:=17) rfl rfl (dM rfl rfl rfl (bV rfl rfl rfl (aG rfl rfl (bS (d:=24) rfl (fun hc=>?_) (fun hc=>?_)))))))))))))
   ·have hg24:=of_decide_eq_true hc;clear hc
    refine aF (d:=24) rfl rfl rfl rfl (aF (d:=24) rfl rfl rfl rfl (aF (d:=24) rfl rfl rfl rfl (aF (d:=24) rfl rfl rfl rfl (bC rfl rfl rfl (aG rfl rfl (aF (d:=30) rfl rfl rfl rfl (aF (d:=30) rfl rfl rfl rfl (aF (d:=30) rfl rfl rfl rfl (aF (d:=30) rfl rfl rfl rfl (aF (d:=30) rfl rfl rfl rfl (bC rfl rfl rfl (aG rfl rfl (aF (d:=37) rfl rfl rfl rfl (aF (d:=37) rfl rfl rfl rfl (aF (d:=37) rfl rfl rfl rfl (aF (d:=37) rfl rfl rfl rfl (aF (d:=37) rfl rfl rfl rfl (bC rfl rfl rfl (aQ (XF.thenN (dJ rfl ?_)))))))))))))))))))))
    refine aL (aR (aA rfl rfl (aQ (XF.thenN (bJ (XF.thenR (XF.res (cJ results4 rfl) ?_)))))))
    exact ⟨_,rfl,hS.below⟩
   ·have hg24:=of_decide_eq_false hc;clear hc
    refine aC (d:=24) rfl rfl (aP (o':=6) qR rfl rfl rfl (aC (d:=24) rfl rfl (aP (o':=9) fa_32_1 rfl rfl rfl (aC (d:=24) rfl rfl (aT isAgg3 rfl (aK (hS.at_ 0 rfl) rfl) rfl (aC (d:=24) rfl rfl (dM rfl rfl rfl (bV rfl rfl rfl (aG rfl rfl (bS (d:=30) rfl (fun hc=>?_) (fun hc=>?_)))))))))))
    ·have hg30:=of_decide_eq_true hc;clear hc
     refine aF (d:=30) rfl rfl rfl rfl (aF (d:=30) rfl rfl rfl rfl (aF (d:=30) rfl rfl rfl rfl (aF (d:=30) rfl rfl rfl rfl (aF (d:=30) rfl rfl rfl rfl (bC rfl rfl rfl (aG rfl rfl (aF (d:=37) rfl rfl rfl rfl (aF (d:=37) rfl rfl rfl rfl (aF (d:=37) rfl rfl rfl rfl (aF (d:=37) rfl rfl rfl rfl (aF (d:=37) rfl rfl rfl rfl (bC rfl rfl rfl (aQ (XF.thenN (dJ rfl (aL (aR (aA rfl rfl (aQ (XF.thenN (bJ (XF.thenR (XF.res (cJ results4 rfl) ?_)))))))))))))))))))))))
     exact ⟨_,rfl,hS.below⟩
    ·have hg30:=of_decide_eq_false hc;clear hc
     refine aC (d:=30) rfl rfl (aP (o':=0) lI rfl rfl rfl (aC (d:=30) rfl rfl (aP (o':=0) jE rfl rfl rfl (aC (d:=30) rfl rfl (aS (vs:=[_,_,_]) isAgg25 sizeOf25 rfl (aE.own (j:=0) (m:=3) (hS.at_ 0 rfl) rfl) rfl (aC (d:=30) rfl rfl (cO (vs:=[_]) hS Lu rfl (Ba ds s _ (SIn.below hS.below hs)) rfl ?_)))))))
     rintro e W2 ⟨b9,rfl,hb⟩
     refine ⟨_,rfl,hb,fun hS'=>?_⟩
     clear hS;have hS:=hS';clear hS' hb
     refine aC (d:=30) rfl rfl (eA rfl rfl (bV rfl rfl rfl (aG rfl rfl (bS (d:=37) rfl (fun hc=>?_) (fun hc=>?_)))))
     ·have hg37:=hc;clear hc
      refine aF (d:=37) rfl rfl rfl rfl (aF (d:=37) rfl rfl rfl rfl (aF (d:=37) rfl rfl rfl rfl (aF (d:=37) rfl rfl rfl rfl (aF (d:=37) rfl rfl rfl rfl (bC rfl rfl rfl (aQ (XF.thenN (dJ rfl (aL (aR (aA rfl rfl (aQ (XF.thenN (bJ (XF.thenR (XF.res (cJ results4 rfl) ?_))))))))))))))))
      exact ⟨_,rfl,hS.below⟩
     ·have hg37:=hc;clear hc
      refine aC (d:=37) rfl rfl (aP (o':=6) qR rfl rfl rfl (aC (d:=37) rfl rfl (aP (o':=6) fa_32_0 rfl rfl rfl (aC (d:=37) rfl rfl (aS (vs:=[_,_,_]) isAgg25 sizeOf25 rfl (aE.own (j:=6) (m:=3) (hS.at_ 0 rfl) rfl) rfl (aC (d:=37) rfl rfl (cO (vs:=[_]) hS Lu rfl (Ba dz z _ (SIn.below hS.below hz)) rfl ?_)))))))
      rintro e W3 ⟨b8,rfl,hb⟩
      refine ⟨_,rfl,hb,fun hS'=>?_⟩
      clear hS;have hS:=hS';clear hS' hb
      refine aC (d:=37) rfl rfl (eA rfl rfl (bV rfl rfl rfl (aQ (XF.thenN (aZ rfl (fun hc=>?_) (fun hc=>?_))))))
      ·have hc43:=hc;clear hc
       refine aL (aR (aA rfl rfl (aQ (XF.thenN (bJ (XF.thenR (XF.res (cJ results4 rfl) ?_)))))))
       exact ⟨_,rfl,hS.below⟩
      ·have hc43:=hc;clear hc
       refine bG (XF.thenN (aL (aL (aR (aA rfl rfl (aQ (XF.thenN (bM (dK (fun m l W=>∃ i:Nat,i≤rl∧m=rl - i∧l=[(1,.pointer (some ⟨B1,0,none⟩)),(3,.int .i64 (i:Int))]∧St w [(B1,[.int .i64 s.f.tag,.int .i64 s.f.dim,.slice s.f.a s.f.len s.f.cap,.int .i64 st,.int .i64 sy,.slice ra rl rc,.int .i64 z.f.tag,.int .i64 z.f.dim,.slice z.f.a z.f.len z.f.cap,.int .i64 ast,.int .i64 asy,.slice fa fl fc,.slice ta tl tc],34)] [] [] W) (rl - 0) ([(1,_),(3,_)]) ⟨rfl,rfl,trivial⟩ (⟨0,Nat.zero_le _,rfl,rfl,hS.clear⟩) ?_)))))))))
       clear hS
       rintro m l W ⟨i,hi,rfl,rfl,hS⟩
       refine aL (aL (aR (aG rfl rfl (aP (o':=0) lI rfl rfl rfl (aP (o':=5) eX rfl rfl rfl (aT isAgg26 rfl (aK (hS.at_ 0 rfl) rfl) rfl (bX underlying26 rfl rfl (cN rfl rfl rfl (aQ (XF.thenN (aZ rfl (fun hc=>?_) (fun hc=>?_))))))))))))
       ·have hc49:=of_decide_eq_true hc;clear hc
        have hk:i < rl:=by omega
        obtain ⟨r,hr⟩:∃ r,rs[i]?=some r:=⟨rs[i]'(by omega),by simp [show i < rs.length by omega]⟩
        obtain ⟨b,off,rfl,hcs⟩:=hrow.at_ hr
        have k1:=aE.agree hS.agree (Nat.zero_le _) hcs
        refine bG (XF.thenN (aL (bM (aL (aR (aP (o':=0) lI rfl rfl rfl (aP (o':=5) eX rfl rfl rfl (aT isAgg26 rfl (aK (hS.at_ 0 rfl) rfl) rfl (aG rfl rfl (cK  underlying26 sizeOf62 rfl rfl rfl (by omega) rfl rfl (aP iC rfl rfl rfl (aT isAgg29 rfl (k1.2.2.2.1) rfl (bX underlying29 rfl rfl (dM rfl rfl rfl (aG rfl rfl (bS (d:=61) rfl (fun hc=>?_) (fun hc=>?_)))))))))))))))))
        ·have hg61:=of_decide_eq_true hc;clear hc
         refine aF (d:=61) rfl rfl rfl rfl (aF (d:=61) rfl rfl rfl rfl (aF (d:=61) rfl rfl rfl rfl (aF (d:=61) rfl rfl rfl rfl (aF (d:=61) rfl rfl rfl rfl (aF (d:=61) rfl rfl rfl rfl (aF (d:=61) rfl rfl rfl rfl (aF (d:=61) rfl rfl rfl rfl (aF (d:=61) rfl rfl rfl rfl (bC rfl rfl rfl (aQ (XF.thenN (dJ rfl (aL (aR (aA rfl rfl (aQ (XF.thenN (bJ (XF.blkR (XF.thenR (XF.thenR (XF.blkR (XF.thenR ?_)))))))))))))))))))))))
         refine XF.res (cJ results4 rfl) ?_
         exact ⟨_,rfl,hS.below⟩
        ·have hg61:=of_decide_eq_false hc;clear hc
         refine aC (d:=61) rfl rfl (aP (o':=0) lI rfl rfl rfl (aC (d:=61) rfl rfl (aP (o':=5) eX rfl rfl rfl (aC (d:=61) rfl rfl (aT isAgg26 rfl (aK (hS.at_ 0 rfl) rfl) rfl (aC (d:=61) rfl rfl (aG rfl rfl (aC (d:=61) rfl rfl (cK  underlying26 sizeOf62 rfl rfl rfl (by omega) rfl rfl (aC (d:=61) rfl rfl (aP tG rfl rfl rfl (aC (d:=61) rfl rfl (aS (vs:=[_,_,_,_,_,_]) isAgg53 sizeOf53 rfl (k1.2.2.2.2) rfl (aC (d:=61) rfl rfl (cO (vs:=[_,_]) hS Ed rfl (uV d r.x 0 _ (WIn.below hS.below (hin r (List.mem_of_getElem? hr)).x) (by decide)) rfl ?_)))))))))))))))
         rintro e W4 ⟨b7,rfl,hb⟩
         refine ⟨_,rfl,hb,fun hS'=>?_⟩
         clear hS;have hS:=hS';clear hS' hb
         refine aC (d:=61) rfl rfl (eA rfl rfl (bV rfl rfl rfl (aQ (XF.thenN (aZ rfl (fun hc=>?_) (fun hc=>?_))))))
         ·have hc71:=hc;clear hc
          refine aL (aR (aA rfl rfl (aQ (XF.thenN (bJ (XF.blkR (XF.thenR (XF.thenR (XF.blkR (XF.thenR (XF.res (cJ results4 rfl) ?_)))))))))))
          exact ⟨_,rfl,hS.below⟩
         ·have hc71:=hc;clear hc
          refine bG (XF.blkN (XF.thenN (aR (aG rfl rfl (cR rfl rfl (IntWalk.i64_in _ (by omega)) rfl (aA rfl rfl (aQ ?_)))))))
          exact XF.round (rl - (i+1)) [(1,_),(3,_)] (by omega) ⟨rfl,rfl,trivial⟩ ⟨i+1,by omega,rfl,rfl,hS.clear⟩
       ·have hc49:=of_decide_eq_false hc;clear hc
        refine dE (XF.thenX (XF.thenX (XF.blkX (XF.thenN (aL (aL (aR (aA rfl rfl (aQ (XF.thenN (bM (dK (fun m l W=>∃ i:Nat,i≤tl∧m=tl - i∧l=[(1,.pointer (some ⟨B1,0,none⟩)),(4,.int .i64 (i:Int))]∧St w [(B1,[.int .i64 s.f.tag,.int .i64 s.f.dim,.slice s.f.a s.f.len s.f.cap,.int .i64 st,.int .i64 sy,.slice ra rl rc,.int .i64 z.f.tag,.int .i64 z.f.dim,.slice z.f.a z.f.len z.f.cap,.int .i64 ast,.int .i64 asy,.slice fa fl fc,.slice ta tl tc],34)] [] [] W) (tl - 0) ([(1,_),(4,_)]) ⟨rfl,rfl,trivial⟩ (⟨0,Nat.zero_le _,rfl,rfl,hS.clear⟩) ?_))))))))))))
        clear hS
        rintro m l W ⟨i,hi,rfl,rfl,hS⟩
        refine aL (aL (aR (aG rfl rfl (aP (o':=6) qR rfl rfl rfl (aP (o':=12) Ee rfl rfl rfl (aT isAgg30 rfl (aK (hS.at_ 0 rfl) rfl) rfl (bX underlying30 rfl rfl (cN rfl rfl rfl (aQ (XF.thenN (aZ rfl (fun hc=>?_) (fun hc=>?_))))))))))))
        ·have hc77:=of_decide_eq_true hc;clear hc
         have hk:i < tl:=by omega
         obtain ⟨t,ht⟩:∃ t,ts[i]?=some t:=⟨ts[i]'(by omega),by simp [show i < ts.length by omega]⟩
         obtain ⟨b,off,rfl,hcs⟩:=htr.at_ ht
         have k1:=aE.agree hS.agree (Nat.zero_le _) hcs
         refine bG (XF.thenN (aL (bM (aL (aR (aP (o':=6) qR rfl rfl rfl (aP (o':=12) Ee rfl rfl rfl (aT isAgg30 rfl (aK (hS.at_ 0 rfl) rfl) rfl (aG rfl rfl (cK  underlying30 sizeOf65 rfl rfl rfl (by omega) rfl rfl (aP fa_65_3 rfl rfl rfl (aS (vs:=[_,_,_,_,_,_]) isAgg53 sizeOf53 rfl (k1.2.2.2) rfl (cO (vs:=[_,_]) hS Ed rfl (uV dt t.x 0 _ (WIn.below hS.below (hti t (List.mem_of_getElem? ht))) (by decide)) rfl ?_)))))))))))))
         rintro e W5 ⟨b6,rfl,hb⟩
         refine ⟨_,rfl,hb,fun hS'=>?_⟩
         clear hS;have hS:=hS';clear hS' hb
         refine eA rfl rfl (aQ (XF.thenN (aZ rfl (fun hc=>?_) (fun hc=>?_))))
         ·have hc88:=hc;clear hc
          refine aL (aR (aA rfl rfl (aQ (XF.thenN (bJ (XF.blkR (XF.thenR (XF.thenR (XF.blkR (XF.thenR (XF.res (cJ results4 rfl) ?_)))))))))))
          exact ⟨_,rfl,hS.below⟩
         ·have hc88:=hc;clear hc
          refine bG (XF.blkN (XF.thenN (aR (aG rfl rfl (cR rfl rfl (IntWalk.i64_in _ (by omega)) rfl (aA rfl rfl (aQ ?_)))))))
          exact XF.round (tl - (i+1)) [(1,_),(4,_)] (by omega) ⟨rfl,rfl,trivial⟩ ⟨i+1,by omega,rfl,rfl,hS.clear⟩
        ·have hc77:=of_decide_eq_false hc;clear hc
         refine dE (XF.thenX (XF.thenX (XF.blkX (XF.thenN (aL (aR (aA rfl rfl (aQ (XF.thenN (bJ (XF.res (cJ results4 rfl) ?_)))))))))))
         exact ⟨_,rfl,hS.below⟩
end
section
open Go.RowKit Go.ChangeShapes Go.WideShapes Go.Deep Go.Joins
theorem Nx {cs:List Value} (h:cs.length=9):∃ a b c d e f g i j,cs=[a,b,c,d,e,f,g,i,j]:=by
 match cs,h with
 | [a,b,c,d,e,f,g,i,j],_=>exact ⟨a,b,c,d,e,f,g,i,j,rfl⟩
theorem Jo {cs:List Value} (h:cs.length=7):∃ a b c d e f g,cs=[a,b,c,d,e,f,g]:=by
 match cs,h with
 | [a,b,c,d,e,f,g],_=>exact ⟨a,b,c,d,e,f,g,rfl⟩
section
variable {H:Type} {enc:TypeId×Value→H} {w:World} {base:Nat} {spare:Nat→Bool} {held:Bool}
theorem Sw {n:Nat} {cs:List Value} {x:DataW H×List MemPlace} (h:DataW.trod enc prog w base spare held n 65 cs=some x):∃ r:TV,cs=r.nine∧WIn w n r.x:=by
 obtain ⟨xs,n',hn,_,hl,hlen,hg⟩:=DataW.trod_struct underlying65 h
 rw [show prog.cellsOf 65=9 by kernel_rfl] at hl
 obtain ⟨a,b,c,e,f,g,i,j,k,rfl⟩:=Nx hl
 have hlen4:xs.length=4:=hlen
 have g0:=hg 0 _ rfl
 have g1:=hg 1 _ rfl
 have g2:=hg 2 _ rfl
 have g4:=hg 3 _ rfl
 rw [show prog.cellsOf _=1 by kernel_rfl,List.getElem?_eq_getElem (by omega)] at g0 g1 g2
 rw [show prog.cellsOf _=6 by kernel_rfl,List.getElem?_eq_getElem (by omega)] at g4
 obtain ⟨z0,e0,_,w0⟩:=DataW.trod_int (k:=.i64) (by kernel_rfl) g0
 obtain ⟨z1,e1,_,w1⟩:=DataW.trod_int (k:=.i64) (by kernel_rfl) g1
 obtain ⟨z2,e2,_,w2⟩:=DataW.trod_int (k:=.i64) (by kernel_rfl) g2
 simp at e0 e1 e2
 subst e0 e1 e2
 obtain ⟨s,e4,hs⟩:=Aw n' g4
 have e4':[e,f,g,i,j,k]=s.f.six:=by simpa using e4
 simp only [List.cons.injEq,and_true] at e4'
 obtain ⟨rfl,rfl,rfl,rfl,rfl,rfl⟩:=e4'
 exact ⟨⟨z0,z1,z2,s⟩,rfl,hs.more (by omega)⟩
theorem auto_in {n:Nat} {cs:List Value} {x:DataW H×List MemPlace} (h:DataW.trod enc prog w base spare held n 32 cs=some x):∃ p:AV,cs=p.seven∧AIn w n n p:=by
 obtain ⟨xs,n',hn,_,hl,hlen,hg⟩:=DataW.trod_struct underlying32 h
 rw [show prog.cellsOf 32=7 by kernel_rfl] at hl
 obtain ⟨a,b,c,d,e,f,g,rfl⟩:=Jo hl
 have hlen5:xs.length=5:=hlen
 have g0:=hg 0 _ rfl
 have g1:=hg 1 _ rfl
 have g2:=hg 2 _ rfl
 have g3:=hg 3 _ rfl
 have g4:=hg 4 _ rfl
 rw [show prog.cellsOf _=3 by kernel_rfl,List.getElem?_eq_getElem (by omega)] at g0
 rw [show prog.cellsOf _=1 by kernel_rfl,List.getElem?_eq_getElem (by omega)] at g1 g2 g3 g4
 obtain ⟨s,es,hs⟩:=Gw n' g0
 have es':[a,b,c]=[.int .i64 s.f.tag,.int .i64 s.f.dim,.slice s.f.a s.f.len s.f.cap]:=by simpa using es
 simp only [List.cons.injEq,and_true] at es'
 obtain ⟨rfl,rfl,rfl⟩:=es'
 obtain ⟨z1,e1,_,w1⟩:=DataW.trod_int (k:=.i64) (by kernel_rfl) g1
 obtain ⟨z2,e2,_,w2⟩:=DataW.trod_int (k:=.i64) (by kernel_rfl) g2
 simp at e1 e2
 subst e1 e2
 obtain ⟨fa,fl,fc,fs,rfl,hfrow,hfl,hfc,hfm⟩:=D5 (v:=f) g3
 have hfm9:fl≤9223372036854775807:=by simp only [maxLen] at hfm;omega
 rcases DataW.trod_slice underlying30 g4 with ⟨hcs,_⟩ | ⟨ad,len,cap,elems,rest,n2,hn2,hcs,_,hb,hle,hcap,hel,hi,_,_⟩
 ·simp at hcs
  subst hcs
  exact ⟨⟨s,z1,z2,fa,fl,fc,fs,none,0,0,[]⟩,rfl,⟨hs.more (by omega),hfrow,hfl,.inl rfl,rfl,(fun r hr=>by cases hr),hfm9,Nat.zero_le _⟩⟩
 ·simp at hcs
  subst hcs
  rw [show prog.cellsOf 65=9 by kernel_rfl] at hi
  obtain ⟨rs,hrl,hrs⟩:=nO len (fun i (r:TV)=>(∀ (j:Nat) u,r.nine[j]?=some u→w.cell? (ad.add (i * 9+j))=some u)∧WIn w n2 r.x) (fun i hil=>by
   have hii:=hi i hil
   rw [List.getElem?_eq_getElem (by omega)] at hii
   obtain ⟨cs',hc,ht⟩:=Option.bind_eq_some_iff.1 hii
   obtain ⟨_,hcl,hat⟩:=World.cells?_some hc
   obtain ⟨r,rfl,hr⟩:=Sw ht
   refine ⟨r,fun j u hj=>?_,hr⟩
   have hj9:j < 9:=(List.getElem?_eq_some_iff.1 hj).1
   have h0:=hat j (by omega)
   rw [Go.Deep.add_add] at h0
   rw [h0];exact hj)
  refine ⟨⟨s,z1,z2,fa,fl,fc,fs,some ad,len,cap,rs⟩,rfl,⟨hs.more (by omega),hfrow,hfl,?_,hrl,fun r hr=>?_,hfm9,by simp only [maxLen] at hcap hle;dsimp only;omega⟩⟩
  ·rcases Nat.eq_zero_or_pos len with h0 | h0
   ·exact .inl (List.length_eq_zero_iff.1 (by dsimp only;omega))
   ·obtain ⟨b,off,spot⟩:=ad
    have h1:=(hrs 0 (rs[0]'(by omega)) (List.getElem?_eq_getElem (by omega))).1 0 _ rfl
    have hspot:spot=none:=by simpa [Addr.add] using World.cell?_spot h1
    subst hspot
    refine .inr ⟨b,off,rfl,fun i r hir=>sD _ _ fun j u hj=>?_⟩
    have h3:=(hrs i r hir).1 j u hj
    have e:∀ k,({ block:=b,off:=off }:Addr).add k=⟨b,off+k,none⟩:=fun k=>by simp [Addr.add]
    rw [e,← Nat.add_assoc] at h3
    exact h3
  ·obtain ⟨i,hi',hic⟩:=List.mem_iff_getElem.1 hr
   exact (hrs i r (by rw [← hic];exact List.getElem?_eq_getElem hi')).2.more (by omega)
end
structure QV where
 p:PV
 a:AV
abbrev QV.val (q:QV):Value:=.agg #[.int .i64 q.p.s.f.tag,.int .i64 q.p.s.f.dim,.slice q.p.s.f.a q.p.s.f.len q.p.s.f.cap,.int .i64 q.p.st,.int .i64 q.p.sy,.slice q.p.ra q.p.rl q.p.rc,.int .i64 q.a.s.f.tag,.int .i64 q.a.s.f.dim,.slice q.a.s.f.a q.a.s.f.len q.a.s.f.cap,.int .i64 q.a.st,.int .i64 q.a.sy,.slice q.a.fa q.a.fl q.a.fc,.slice q.a.ta q.a.tl q.a.tc]
structure QIn (w:World) (n:Nat) (q:QV):Prop where
 p:PvIn w n n q.p
 a:AIn w n n q.a
theorem len13 {cs:List Value} (h:cs.length=13):∃ a b c d e f g i j k l m n,cs=[a,b,c,d,e,f,g,i,j,k,l,m,n]:=by
 match cs,h with
 | [a,b,c,d,e,f,g,i,j,k,l,m,n],_=>exact ⟨a,b,c,d,e,f,g,i,j,k,l,m,n,rfl⟩
section
variable {H:Type} {enc:TypeId×Value→H} {w:World} {base:Nat} {spare:Nat→Bool} {held:Bool}
theorem PvIn.more9 {n m:Nat} {p:PV} (h:PvIn w n n p) (hl:n≤m):PvIn w m m p:=⟨h.s.more hl,h.row,h.len,fun r hr=>⟨(h.rin r hr).row,(h.rin r hr).len,(h.rin r hr).x.more hl⟩⟩
theorem AIn.more9 {n m:Nat} {a:AV} (h:AIn w n n a) (hl:n≤m):AIn w m m a:=⟨h.s.more hl,h.frow,h.flen,h.trow,h.tlen,fun t ht=>(h.tin t ht).more hl,h.fmax,h.tmax⟩
theorem Sx {n:Nat} {cs:List Value} {x:DataW H×List MemPlace} (h:DataW.trod enc prog w base spare held n 34 cs=some x):∃ q:QV,Value.agg cs.toArray=q.val∧QIn w n q:=by
 obtain ⟨xs,n',hn,_,hl,hlen,hg⟩:=DataW.trod_struct underlying34 h
 rw [show prog.cellsOf 34=13 by kernel_rfl] at hl
 obtain ⟨a,b,c,d,e,f,g,i,j,k,l,m,o,rfl⟩:=len13 hl
 have hlen2:xs.length=2:=hlen
 have g0:=hg 0 _ rfl
 have g1:=hg 1 _ rfl
 rw [show prog.cellsOf _=6 by kernel_rfl,List.getElem?_eq_getElem (by omega)] at g0
 rw [show prog.cellsOf _=7 by kernel_rfl,List.getElem?_eq_getElem (by omega)] at g1
 obtain ⟨p,ep,hp⟩:=pds_in g0
 obtain ⟨s,es,hs⟩:=auto_in g1
 have ep':[a,b,c,d,e,f]=p.six:=by simpa using ep
 have es':[g,i,j,k,l,m,o]=s.seven:=by simpa using es
 simp only [List.cons.injEq,and_true] at ep' es'
 obtain ⟨rfl,rfl,rfl,rfl,rfl,rfl⟩:=ep'
 obtain ⟨rfl,rfl,rfl,rfl,rfl,rfl,rfl⟩:=es'
 exact ⟨⟨p,s⟩,rfl,hp.more9 (by omega),hs.more9 (by omega)⟩
theorem Jp {r:Reach} {b0:Nat} {v:Value} {d:DataW H} {p:List MemPlace} (hv:Value.okWide prog w r b0 34 v) (h:DataW.Trod enc prog w base spare held 34 v d p) :
  ∃ (n:Nat) (s:QV),v=s.val∧QIn w n s:=by
 obtain ⟨cs,rfl,_⟩:=okWide_struct underlying34 hv
 obtain ⟨n,h⟩:=h
 obtain ⟨s,e,hs⟩:=Sx (n:=n) h
 have e2:Value.agg cs.toList.toArray=s.val:=e
 rw [show cs.toList.toArray=cs by simp] at e2
 exact ⟨n,s,e2,hs⟩
end
end
section
open Go.RowKit
theorem goes_10:bW prog 10=true:=by kernel_rfl
theorem goes_4:bW prog 4=true:=by kernel_rfl
theorem Ef:bW prog 5=true:=by kernel_rfl
theorem goes_6:bW prog 6=true:=by kernel_rfl
theorem goes_8:bW prog 8=true:=by kernel_rfl
theorem Lv {S:PS} {X:Int×PX} {w w':World} {e:Ending} (h:Ea S X w e w'):∃ f:WF,e = .returned (.tuple #[f.val,.int .i64 X.1])∧(∀ W2,dD w.heap.size w' W2→(X.1≠0∧f.val = .agg #[.bool false,.int .i64 0,.int .u64 0,.slice none 0 0,.slice none 0 0,.slice none 0 0])∨(X.1=0∧XIs W2 S f X.2))∧Below w.heap.size w w':=by
 obtain ⟨hb,⟨h1,rfl⟩ | ⟨h1,f,rfl,hf⟩⟩:=h
 ·exact ⟨⟨false,0,0,none,0,0,[],none,0,0,[],none,0,0⟩,rfl,fun _ _=>.inl ⟨h1,rfl⟩,hb⟩
 ·exact ⟨f,by rw [h1],fun W2 hg=>.inr ⟨h1,hf.is hg⟩,hb⟩
theorem Sz {S:PS} {x:PX} {X:Int} {f1 f2:WF} {W:World} (h1:(X≠0∧f1.val = .agg #[.bool false,.int .i64 0,.int .u64 0,.slice none 0 0,.slice none 0 0,.slice none 0 0])∨(X=0∧XIs W S f1 x)) (h2:(X≠0∧f2.val = .agg #[.bool false,.int .i64 0,.int .u64 0,.slice none 0 0,.slice none 0 0,.slice none 0 0])∨(X=0∧XIs W S f2 x)):Calls prog 11 #[f1.val,f2.val] W fun e w'=>e = .returned (.bool true)∧Below W.heap.size W w':=by
 rcases h1 with ⟨a1,a2⟩ | ⟨a1,a2⟩<;>rcases h2 with ⟨b1,b2⟩ | ⟨b1,b2⟩
 ·rw [a2,b2];exact sameZ W
 ·exact absurd b1 a1
 ·exact absurd a1 b1
 ·exact Qg a2 b2 true (by simp)
theorem Ny {w:World} {ds d:Nat} {p:PV} {c:CV} (hp:PvIn w ds d p):∃ S px,stepE p c=0→Ready w S px p c:=by
 by_cases h:stepE p c=0
 ·obtain ⟨S,px,hr⟩:=ready hp h
  exact ⟨S,px,fun _=>hr⟩
 ·exact ⟨.one 0 0,fun _=>.one (pC 0),fun h2=>absurd h2 h⟩
theorem vS (ds d:Nat) (s:SV) (st sy:Int) (ra:Option Addr) (rl rc:Nat) (rs:List RV) (w:World) (hs:SIn w ds s) (hrow:lD w ra rs) (hlen:rs.length=rl) (hin:∀ r∈rs,RIn w d r) (dz dt:Nat) (z:SV) (ast asy:Int) (fa:Option Addr) (fl fc:Nat) (ta:Option Addr) (tl tc:Nat) (ts:List TV) (hz:SIn w dz z) (htr:G4 w ta ts) (htl:ts.length=tl) (hti:∀ t∈ts,WIn w dt t.x) (c e:CV) (n:Int) (hcn:CIn w c) (hen:CIn w e) (hcc:c.wl≤c.wc) (ht:Tabs w) :
  Calls prog 3 #[.agg #[.int .i64 s.f.tag,.int .i64 s.f.dim,.slice s.f.a s.f.len s.f.cap,.int .i64 st,.int .i64 sy,.slice ra rl rc,.int .i64 z.f.tag,.int .i64 z.f.dim,.slice z.f.a z.f.len z.f.cap,.int .i64 ast,.int .i64 asy,.slice fa fl fc,.slice ta tl tc],c.val,e.val,.int .i64 n] w (fun e w'=>e = .returned (.bool (true))∧Below w.heap.size w w'):=by
 refine cH (args:=[.agg #[.int .i64 s.f.tag,.int .i64 s.f.dim,.slice s.f.a s.f.len s.f.cap,.int .i64 st,.int .i64 sy,.slice ra rl rc,.int .i64 z.f.tag,.int .i64 z.f.dim,.slice z.f.a z.f.len z.f.cap,.int .i64 ast,.int .i64 asy,.slice fa fl fc,.slice ta tl tc],c.val,e.val,.int .i64 n]) func3 rfl ntmps3 rfl ?_
 have hS:=St.start w
 have hpi:PvIn w ds d ⟨s,st,sy,ra,rl,rc,rs⟩:=⟨hs,hrow,hlen,hin⟩
 obtain ⟨S,px,hrd⟩:=Ny (c:=c) hpi
 refine aL (aR (bK (cs:=[_,_,_,_,_,_,_,_,_,_,_,_,_]) hS rfl rfl rfl fun B1 W1 hS=>bK (cs:=[_,_]) hS rfl rfl rfl fun B2 W2 hS=>bK (cs:=[_,_]) hS rfl rfl rfl fun B3 W3 hS=>aA rfl rfl (aQ (XF.thenN (aL (aL (aR (aS (vs:=[_,_,_,_,_,_,_,_,_,_,_,_,_]) isAgg34 sizeOf34 rfl (aE.own (j:=0) (m:=13) (hS.at_ 2 rfl) rfl) rfl (cO (vs:=[_]) hS goes_4 rfl (Sv ds d s st sy ra rl rc rs _ (SIn.below hS.below hs) (hrow.below hS.below) hlen (fun r hr=>(hin r hr).below hS.below) dz dt z ast asy fa fl fc ta tl tc ts (SIn.below hS.below hz) (htr.below hS.below) htl (fun t ht9=>WIn.below hS.below (hti t ht9))) rfl ?_)))))))))
 rintro e W4 ⟨bs,rfl,hb⟩
 refine ⟨_,rfl,hb,fun hS'=>?_⟩
 clear hS;have hS:=hS';clear hS' hb
 refine eA rfl rfl (aG rfl rfl (bS (d:=22) rfl (fun hc=>?_) (fun hc=>?_)))
 ·have hg22:=hc;clear hc
  refine aF (d:=22) rfl rfl rfl rfl (aF (d:=22) rfl rfl rfl rfl (aF (d:=22) rfl rfl rfl rfl (aF (d:=22) rfl rfl rfl rfl (bC rfl rfl rfl (aG rfl rfl (aF (d:=28) rfl rfl rfl rfl (aF (d:=28) rfl rfl rfl rfl (aF (d:=28) rfl rfl rfl rfl (aF (d:=28) rfl rfl rfl rfl (bC rfl rfl rfl (aQ (XF.thenN (dJ rfl (aL (aR (cF (vs:=[]) hS Ef rfl (qQ _ (ht.below hS.below)) rfl fun W5 hS=>aA rfl rfl (aQ (XF.thenN (bJ (XF.thenR (XF.res (cJ results3 rfl) ?_)))))))))))))))))))))
  exact ⟨rfl,hS.below⟩
 ·have hg22:=hc;clear hc
  refine aC (d:=22) rfl rfl (aP (o':=1) dZ rfl rfl rfl (aC (d:=22) rfl rfl (aT isAgg29 rfl (aK (hS.at_ 1 rfl) rfl) rfl (aC (d:=22) rfl rfl (bX underlying29 rfl rfl (aC (d:=22) rfl rfl (dM rfl rfl rfl (bV rfl rfl rfl (aG rfl rfl (bS (d:=28) rfl (fun hc=>?_) (fun hc=>?_)))))))))))
  ·have hg28:=of_decide_eq_true hc;clear hc
   refine aF (d:=28) rfl rfl rfl rfl (aF (d:=28) rfl rfl rfl rfl (aF (d:=28) rfl rfl rfl rfl (aF (d:=28) rfl rfl rfl rfl (bC rfl rfl rfl (aQ (XF.thenN (dJ rfl (aL (aR (cF (vs:=[]) hS Ef rfl (qQ _ (ht.below hS.below)) rfl fun W6 hS=>aA rfl rfl (aQ (XF.thenN (bJ (XF.thenR (XF.res (cJ results3 rfl) ?_)))))))))))))))
   exact ⟨rfl,hS.below⟩
  ·have hg28:=of_decide_eq_false hc;clear hc
   refine aC (d:=28) rfl rfl (aP (o':=1) dZ rfl rfl rfl (aC (d:=28) rfl rfl (aT isAgg29 rfl (aK (hS.at_ 0 rfl) rfl) rfl (aC (d:=28) rfl rfl (bX underlying29 rfl rfl (aC (d:=28) rfl rfl (dM rfl rfl rfl (bV rfl rfl rfl (aQ (XF.thenN (aZ rfl (fun hc=>?_) (fun hc=>?_))))))))))))
   ·have hc33:=of_decide_eq_true hc;clear hc
    refine aL (aR (cF (vs:=[]) hS Ef rfl (qQ _ (ht.below hS.below)) rfl fun W7 hS=>aA rfl rfl (aQ (XF.thenN (bJ (XF.thenR (XF.res (cJ results3 rfl) ?_)))))))
    exact ⟨rfl,hS.below⟩
   ·have hc33:=of_decide_eq_false hc;clear hc
    refine bG (XF.thenN (joinF (fun l W=>∃ n2:Int,l=[(3,.int .i64 n2),(4,.pointer (some ⟨B1,0,none⟩)),(5,.pointer (some ⟨B2,0,none⟩)),(6,.pointer (some ⟨B3,0,none⟩))]∧St w [(B3,[.int .i64 e.p,.slice e.wa e.wl e.wc],36),(B2,[.int .i64 c.p,.slice c.wa c.wl c.wc],36),(B1,[.int .i64 s.f.tag,.int .i64 s.f.dim,.slice s.f.a s.f.len s.f.cap,.int .i64 st,.int .i64 sy,.slice ra rl rc,.int .i64 z.f.tag,.int .i64 z.f.dim,.slice z.f.a z.f.len z.f.cap,.int .i64 ast,.int .i64 asy,.slice fa fl fc,.slice ta tl tc],34)] [] [] W) ?_ ?_))
    ·clear hS
     rintro _ W ⟨n2,rfl,hS⟩
     refine aL (aR (aP (o':=0) lI rfl rfl rfl (aS (vs:=[_,_,_,_,_,_]) isAgg28 sizeOf28 rfl (aE.own (j:=0) (m:=6) (hS.at_ 2 rfl) rfl) rfl (aS (vs:=[_,_]) isAgg36 sizeOf36 rfl (aE.own (j:=0) (m:=2) (hS.at_ 1 rfl) rfl) rfl (aS (vs:=[_,_]) isAgg36 sizeOf36 rfl (aE.own (j:=0) (m:=2) (hS.at_ 0 rfl) rfl) rfl (aG rfl rfl (cO (vs:=[_,_,_,_]) hS Jm rfl (uU ds d s st sy ra rl rc rs _ (SIn.below hS.below hs) (hrow.below hS.below) hlen (fun r hr=>(hin r hr).below hS.below) c e n2 (hcn.below hS.below) (hen.below hS.below) hcc (ht.below hS.below)) rfl ?_)))))))
     rintro e W8 ⟨hb,v1,ls1,rfl,hm1,hx1,hro1,hrn1⟩
     refine ⟨_,rfl,hb,fun hS'=>?_⟩
     clear hS;have hS:=hS';clear hS'
     obtain ⟨P1,hP1⟩:∃ P:Nat×World,P=(W.heap.size,W8):=⟨_,rfl⟩
     obtain ⟨a1,c1,rfl,_⟩:=eC hro1
     have hf1:∀ W2,dD P1.1 P1.2 W2→W2.ownsRow P1.1 29 1 (.slice a1 ls1.length c1) ls1.length (ls1.map LI.val)∧∀ x∈ls1,fT P1.1 W2 x.a x.c x.xs:=by subst hP1;exact fun W2 hg=>⟨eG hro1 hg,fun x hx=>(hrn1 x hx).agree hg⟩
     clear hro1 hrn1 hb
     refine aG rfl rfl (bL rfl rfl rfl (bL rfl rfl rfl (aA rfl rfl (aA rfl rfl (aQ (XF.thenN (aL (aR (aP (o':=0) lI rfl rfl rfl (aS (vs:=[_,_,_,_,_,_]) isAgg28 sizeOf28 rfl (aE.own (j:=0) (m:=6) (hS.at_ 2 rfl) rfl) rfl (aS (vs:=[_,_]) isAgg36 sizeOf36 rfl (aE.own (j:=0) (m:=2) (hS.at_ 1 rfl) rfl) rfl (aS (vs:=[_,_]) isAgg36 sizeOf36 rfl (aE.own (j:=0) (m:=2) (hS.at_ 0 rfl) rfl) rfl (aG rfl rfl (cO (vs:=[_,_,_,_]) hS goes_8 rfl (Sj ds d s st sy ra rl rc rs _ (SIn.below hS.below hs) (hrow.below hS.below) hlen (fun r hr=>(hin r hr).below hS.below) c e n2 S px (hcn.below hS.below) (hen.below hS.below) hcc (fun h=>(hrd h).below hS.below)) rfl ?_))))))))))))))
     rintro e W9 ⟨hb,v2,ls2,rfl,hm2,hx2,hro2,hrn2⟩
     refine ⟨_,rfl,hb,fun hS'=>?_⟩
     clear hS;have hS:=hS';clear hS'
     obtain ⟨P2,hP2⟩:∃ P:Nat×World,P=(W8.heap.size,W9):=⟨_,rfl⟩
     obtain ⟨a2,c2,rfl,_⟩:=eC hro2
     have hf2:∀ W2,dD P2.1 P2.2 W2→W2.ownsRow P2.1 29 1 (.slice a2 ls2.length c2) ls2.length (ls2.map LI.val)∧∀ x∈ls2,fT P2.1 W2 x.a x.c x.xs:=by subst hP2;exact fun W2 hg=>⟨eG hro2 hg,fun x hx=>(hrn2 x hx).agree hg⟩
     clear hro2 hrn2 hb
     refine aG rfl rfl (bL rfl rfl rfl (bL rfl rfl rfl (aA rfl rfl (aA rfl rfl (aQ (XF.thenN (aL (aR (aP (o':=0) lI rfl rfl rfl (aS (vs:=[_,_,_,_,_,_]) isAgg28 sizeOf28 rfl (aE.own (j:=0) (m:=6) (hS.at_ 2 rfl) rfl) rfl (aS (vs:=[_,_]) isAgg36 sizeOf36 rfl (aE.own (j:=0) (m:=2) (hS.at_ 1 rfl) rfl) rfl (aS (vs:=[_,_]) isAgg36 sizeOf36 rfl (aE.own (j:=0) (m:=2) (hS.at_ 0 rfl) rfl) rfl (aG rfl rfl (cO (vs:=[_,_,_,_]) hS Sn rfl ((G7 ds d s st sy ra rl rc rs _ (SIn.below hS.below hs) (hrow.below hS.below) hlen (fun r hr=>(hin r hr).below hS.below) c e n2 S px (hcn.below hS.below) (hen.below hS.below) hcc (fun h=>(hrd h).below hS.below) (ht.below hS.below)).mono fun e9 w9 h=>Lv h) rfl ?_))))))))))))))
     rintro e W10 ⟨f1,rfl,hw1,hb⟩
     refine ⟨_,rfl,hb,fun hS'=>?_⟩
     clear hS;have hS:=hS';clear hS' hb
     refine aG rfl rfl (bL rfl rfl rfl (bL rfl rfl rfl (bH (cs:=[_,_,_,_,_,_]) hS zeroValue53 rfl rfl fun B11 W11 hS=>aV (i:=0) (vs:=[_,_,_,_,_,_]) (cs':=[_,_,_,_,_,_]) (O':=[_,_,_,_]) hS sizeOf53 rfl rfl rfl rfl rfl rfl rfl fun W12 hS=>aA rfl rfl (aQ (XF.thenN (aL (aR (aP (o':=0) lI rfl rfl rfl (aS (vs:=[_,_,_,_,_,_]) isAgg28 sizeOf28 rfl (aE.own (j:=0) (m:=6) (hS.at_ 3 rfl) rfl) rfl (aS (vs:=[_,_]) isAgg36 sizeOf36 rfl (aE.own (j:=0) (m:=2) (hS.at_ 2 rfl) rfl) rfl (aS (vs:=[_,_]) isAgg36 sizeOf36 rfl (aE.own (j:=0) (m:=2) (hS.at_ 1 rfl) rfl) rfl (aG rfl rfl (cO (vs:=[_,_,_,_]) hS goes_10 rfl ((Sl ds d s st sy ra rl rc rs _ (SIn.below hS.below hs) (hrow.below hS.below) hlen (fun r hr=>(hin r hr).below hS.below) c e n2 S px (hcn.below hS.below) (hen.below hS.below) hcc (fun h=>(hrd h).below hS.below)).mono fun e9 w9 h=>Lv h) rfl ?_)))))))))))))
     rintro e W13 ⟨f2,rfl,hw2,hb⟩
     refine ⟨_,rfl,hb,fun hS'=>?_⟩
     clear hS;have hS:=hS';clear hS' hb
     refine aG rfl rfl (bL rfl rfl rfl (bL rfl rfl rfl (bH (cs:=[_,_,_,_,_,_]) hS zeroValue53 rfl rfl fun B14 W14 hS=>aV (i:=0) (vs:=[_,_,_,_,_,_]) (cs':=[_,_,_,_,_,_]) (O':=[_,_,_,_,_]) hS sizeOf53 rfl rfl rfl rfl rfl rfl rfl fun W15 hS=>aA rfl rfl (aQ (XF.thenN (aL (aL ?_)))))))
     have hll:ls1.length=ls2.length:=by have h9:=congrArg List.length (hm1.trans hm2.symm);simpa using h9
     refine aR (aG rfl rfl (bX underlying40 rfl rfl (aG rfl rfl (bX underlying40 rfl rfl (dA rfl rfl rfl (aG rfl rfl (bS (d:=80) rfl (fun hc=>absurd (of_decide_eq_true hc) (by exact fun h=>h (by rw [hll]))) (fun hc=>?_))))))))
     have hc:=of_decide_eq_false hc
     refine aC (d:=80) rfl rfl (aG rfl rfl (aC (d:=80) rfl rfl (aG rfl rfl (aC (d:=80) rfl rfl (dA rfl rfl rfl (bV rfl rfl rfl (aG rfl rfl (bS (d:=85) rfl (fun hc=>absurd (of_decide_eq_true hc) (by exact fun h=>h rfl)) (fun hc=>?_)))))))))
     have hc:=of_decide_eq_false hc
     refine aC (d:=85) rfl rfl (aS (vs:=[_,_,_,_,_,_]) isAgg53 sizeOf53 rfl (aE.own (j:=0) (m:=6) (hS.at_ 1 rfl) rfl) rfl (aC (d:=85) rfl rfl (aS (vs:=[_,_,_,_,_,_]) isAgg53 sizeOf53 rfl (aE.own (j:=0) (m:=6) (hS.at_ 0 rfl) rfl) rfl (aC (d:=85) rfl rfl (cF (vs:=[_,_]) hS vZ rfl (Sz (hw1 _ (hS.since 1 rfl)) (hw2 _ (hS.since 0 rfl))) rfl fun W16 hS=>aC (d:=85) rfl rfl (eA rfl rfl (bV rfl rfl rfl (aG rfl rfl (aC (d:=91) rfl rfl (aG rfl rfl (aC (d:=91) rfl rfl (aG rfl rfl (aC (d:=91) rfl rfl (dA rfl rfl rfl (bV rfl rfl rfl (aQ (XF.thenN (aZ rfl (fun hc=>absurd (of_decide_eq_true hc) (by exact fun h=>h rfl)) (fun hc=>?_)))))))))))))))))))
     have hc:=of_decide_eq_false hc
     refine bG (XF.thenN (aL (aL (aR (aA rfl rfl (aQ (XF.thenN (bM ?_))))))))
     refine dK (fun m l W=>∃ (i:Nat) (Kk:List (Nat×World)),i≤ls1.length∧m=ls1.length - i∧l=[(9,.slice a1 ls1.length c1),(11,.slice a2 ls2.length c2),(17,.int .i64 (i:Int))]∧P1∈Kk∧P2∈Kk∧St w [] [] Kk W) (ls1.length - 0) ([(9,_),(11,_),(17,_)]) ⟨rfl,rfl,rfl,trivial⟩ (⟨0,_,Nat.zero_le _,rfl,rfl,by rw [hP1];simp,by rw [hP2];simp,hS.tail.tail.tail.tail.tail⟩) ?_
     clear hS
     rintro m l W ⟨i,Kk,hi,rfl,rfl,hP1m,hP2m,hS⟩
     refine aL (aL (aR (aG rfl rfl (aG rfl rfl (bX underlying40 rfl rfl (cN rfl rfl rfl (aQ (XF.thenN (aZ rfl (fun hc=>?_) (fun hc=>?_))))))))))
     ·have hc99:=of_decide_eq_true hc;clear hc
      obtain ⟨⟨xa,xc,xs⟩,hx⟩:∃ x,ls1[i]?=some x:=⟨ls1[i]'(by omega),List.getElem?_eq_getElem _⟩
      obtain ⟨⟨ya,yc,ys⟩,hy⟩:∃ x,ls2[i]?=some x:=⟨ls2[i]'(by omega),List.getElem?_eq_getElem _⟩
      have hxy:xs=ys:=by
       have h9:=congrArg (fun l=>l[i]?) (hm1.trans hm2.symm)
       simp only [List.getElem?_map,hx,hy,Option.map_some] at h9
       exact Option.some.inj h9
      subst hxy
      obtain ⟨g1,q1,e1,_,_⟩:=(hf1 _ (hS.kept P1 hP1m).1).1.form (show 0 < ls1.length by omega)
      injection e1 with e11 e12 e13
      subst e11;subst e13
      obtain ⟨g2,q2,e2,_,_⟩:=(hf2 _ (hS.kept P2 hP2m).1).1.form (show 0 < ls2.length by omega)
      injection e2 with e21 e22 e23
      subst e21;subst e23
      have k1:W.cell? ⟨g1,0+i * 1,none⟩=some (.slice xa xs.length xc):=by rw [Nat.zero_add,Nat.mul_one];exact dT (hf1 _ (hS.kept P1 hP1m).1).1 (by rw [List.getElem?_map,hx];rfl)
      have k2:W.cell? ⟨g2,0+i * 1,none⟩=some (.slice ya xs.length yc):=by rw [Nat.zero_add,Nat.mul_one];exact dT (hf2 _ (hS.kept P2 hP2m).1).1 (by rw [List.getElem?_map,hy];rfl)
      refine bG (XF.thenN (aL (bM (aL (aL (iE (m:=11) cE hS (by kernel_rfl) (by kernel_rfl) rfl (cC 1 rfl 9 rfl rfl (fun w hw=>bE rfl) rfl (cC 2 rfl 17 rfl rfl (fun w hw=>bE rfl) rfl (aM 3 rfl (isV _) (aJ _) (rgV (li:=[(102,_),(103,_)]) rfl (aU rfl) ⟨aO 0 (aB rfl rfl rfl),aO 1 (aB rfl rfl rfl),trivial⟩ (fun w hw=>bB (j:=i) underlying40 sizeOf29 rfl rfl (rfl) (by omega) rfl) (aH rfl)) (aX 4 rfl 104 2 rfl rfl rfl (fun w hw=>bA isAgg29 rfl ((aN hw 0).cell (Nat.zero_le _) (k1))) rfl (aX 5 rfl 105 3 rfl rfl rfl (fun w hw=>kP underlying29 rfl) rfl (cC 6 rfl 11 rfl rfl (fun w hw=>bE rfl) rfl (cC 7 rfl 17 rfl rfl (fun w hw=>bE rfl) rfl (aM 8 rfl (isV _) (aJ _) (rgV (li:=[(107,_),(108,_)]) rfl (aU rfl) ⟨aO 5 (aB rfl rfl rfl),aO 6 (aB rfl rfl rfl),trivial⟩ (fun w hw=>bB (j:=i) underlying40 sizeOf29 rfl rfl (rfl) (by omega) rfl) (aH rfl)) (aX 9 rfl 109 7 rfl rfl rfl (fun w hw=>bA isAgg29 rfl ((aN hw 0).cell (Nat.zero_le _) (k2))) rfl (aX 10 rfl 110 8 rfl rfl rfl (fun w hw=>kP underlying29 rfl) rfl (aM 11 rfl (isV (.bool false)) (aJ _) (kH (li:=[(106,_),(111,_)]) rfl (aU rfl) ⟨aO 4 (aB rfl rfl rfl),aO 9 (aB rfl rfl rfl),trivial⟩ (fun w hw=>rL rfl rfl) (by simp) (aH rfl)) (dC ?_))))))))))))))))))
      intro W17 hbR hS'
      clear hS;have hS:=hS';clear hS'
      refine aI (aI (aI (aI (aI (aI (aI (aI (aI (aI (aI (cL (XF.thenN (vA rfl (bG (XF.thenN (aL (aR (aA rfl rfl (aQ (XF.thenN (bM (dK (fun m l W=>∃ (k:Nat) (Kk:List (Nat×World)),k≤xs.length∧m=xs.length - k∧l=[(9,.slice (some ⟨g1,0,none⟩) ls1.length c1),(11,.slice (some ⟨g2,0,none⟩) ls2.length c2),(17,.int .i64 (i:Int)),(18,.int .i64 (k:Int))]∧P1∈Kk∧P2∈Kk∧St w [] [] Kk W) (xs.length - 0) ([(9,_),(11,_),(17,_),(18,_)]) ⟨rfl,rfl,rfl,rfl,trivial⟩ (⟨0,_,Nat.zero_le _,rfl,rfl,by simp [hP1m],by simp [hP2m],hS⟩) ?_))))))))))))))))))))))
      clear hS
      clear k1 k2;rintro m l W ⟨k,Kk2,hk,rfl,rfl,hP1m,hP2m,hS⟩
      have k1:W.cell? ⟨g1,0+i * 1,none⟩=some (.slice xa xs.length xc):=by rw [Nat.zero_add,Nat.mul_one];exact dT (hf1 _ (hS.kept P1 hP1m).1).1 (by rw [List.getElem?_map,hx];rfl)
      have k2:W.cell? ⟨g2,0+i * 1,none⟩=some (.slice ya xs.length yc):=by rw [Nat.zero_add,Nat.mul_one];exact dT (hf2 _ (hS.kept P2 hP2m).1).1 (by rw [List.getElem?_map,hy];rfl)
      refine aL (aL (aR (aG rfl rfl (aG rfl rfl (aG rfl rfl (cK (j:=i) underlying40 sizeOf29 rfl rfl (rfl) (by omega) rfl rfl (aT isAgg29 rfl (k1) rfl (bX underlying29 rfl rfl (cN rfl rfl rfl (aQ (XF.thenN (aZ rfl (fun hc=>?_) (fun hc=>?_)))))))))))))
      ·have hc119:=of_decide_eq_true hc;clear hc
       obtain ⟨bx,qx,ex,_,_⟩:=World.ownsRow.form (show W.ownsRow P1.1 3 1 (.slice xa xs.length xc) xs.length (xs.map (Value.int .i64)) from (hf1 _ (hS.kept P1 hP1m).1).2 _ (List.mem_of_getElem? hx)) (show 0 < xs.length by omega)
       injection ex with ex1 ex2 ex3
       obtain ⟨by9,qy,ey,_,_⟩:=World.ownsRow.form (show W.ownsRow P2.1 3 1 (.slice ya xs.length yc) xs.length (xs.map (Value.int .i64)) from (hf2 _ (hS.kept P2 hP2m).1).2 _ (List.mem_of_getElem? hy)) (show 0 < xs.length by omega)
       injection ey with ey1 ey2 ey3
       have hxl:xs.length≤9223372036854775807:=by have h9:=fT.lim ((hf1 _ (hS.kept P1 hP1m).1).2 _ (List.mem_of_getElem? hx));simp only [maxLen] at h9;omega
       subst ex1;subst ey1
       obtain ⟨u,hu⟩:∃ u,xs[k]?=some u:=⟨xs[k]'(by omega),List.getElem?_eq_getElem _⟩
       have kx:W.cell? ⟨bx,0+k * 1,none⟩=some (.int .i64 u):=by rw [Nat.zero_add,Nat.mul_one];exact dT ((hf1 _ (hS.kept P1 hP1m).1).2 _ (List.mem_of_getElem? hx)) (by rw [List.getElem?_map,hu];rfl)
       have ky:W.cell? ⟨by9,0+k * 1,none⟩=some (.int .i64 u):=by rw [Nat.zero_add,Nat.mul_one];exact dT ((hf2 _ (hS.kept P2 hP2m).1).2 _ (List.mem_of_getElem? hy)) (by rw [List.getElem?_map,hu];rfl)
       refine bG (XF.thenN (aL (bM (aL (iE (m:=15) cE hS (by kernel_rfl) (by kernel_rfl) rfl (cC 1 rfl 9 rfl rfl (fun w hw=>bE rfl) rfl (cC 2 rfl 17 rfl rfl (fun w hw=>bE rfl) rfl (aM 3 rfl (isV _) (aJ _) (rgV (li:=[(122,_),(123,_)]) rfl (aU rfl) ⟨aO 0 (aB rfl rfl rfl),aO 1 (aB rfl rfl rfl),trivial⟩ (fun w hw=>bB (j:=i) underlying40 sizeOf29 rfl rfl (rfl) (by omega) rfl) (aH rfl)) (aX 4 rfl 124 2 rfl rfl rfl (fun w hw=>bA isAgg29 rfl ((aN hw 0).cell (Nat.zero_le _) (k1))) rfl (cC 5 rfl 18 rfl rfl (fun w hw=>bE rfl) rfl (aM 6 rfl (isV _) (aJ _) (rgV (li:=[(125,_),(126,_)]) rfl (aU rfl) ⟨aO 3 (aB rfl rfl rfl),aO 4 (aB rfl rfl rfl),trivial⟩ (fun w hw=>bB (j:=k) underlying29 sizeOf3 rfl rfl (rfl) (by omega) rfl) (aH rfl)) (aX 7 rfl 127 5 rfl rfl rfl (fun w hw=>bA isAgg3 rfl ((aN hw 0).cell (Nat.zero_le _) (kx))) rfl (cC 8 rfl 11 rfl rfl (fun w hw=>bE rfl) rfl (cC 9 rfl 17 rfl rfl (fun w hw=>bE rfl) rfl (aM 10 rfl (isV _) (aJ _) (rgV (li:=[(129,_),(130,_)]) rfl (aU rfl) ⟨aO 7 (aB rfl rfl rfl),aO 8 (aB rfl rfl rfl),trivial⟩ (fun w hw=>bB (j:=i) underlying40 sizeOf29 rfl rfl (rfl) (by omega) rfl) (aH rfl)) (aX 11 rfl 131 9 rfl rfl rfl (fun w hw=>bA isAgg29 rfl ((aN hw 0).cell (Nat.zero_le _) (k2))) rfl (cC 12 rfl 18 rfl rfl (fun w hw=>bE rfl) rfl (aM 13 rfl (isV _) (aJ _) (rgV (li:=[(132,_),(133,_)]) rfl (aU rfl) ⟨aO 10 (aB rfl rfl rfl),aO 11 (aB rfl rfl rfl),trivial⟩ (fun w hw=>bB (j:=k) underlying29 sizeOf3 rfl rfl (rfl) (by omega) rfl) (aH rfl)) (aX 14 rfl 134 12 rfl rfl rfl (fun w hw=>bA isAgg3 rfl ((aN hw 0).cell (Nat.zero_le _) (ky))) rfl (aM 15 rfl (isV (.bool false)) (aJ _) (kH (li:=[(128,_),(135,_)]) rfl (aU rfl) ⟨aO 6 (aB rfl rfl rfl),aO 13 (aB rfl rfl rfl),trivial⟩ (fun w hw=>rL rfl rfl) (by simp) (aH rfl)) ?_))))))))))))))))))))
       refine dC ?_
       intro W18 hbR hS'
       clear hS;have hS:=hS';clear hS'
       refine aI (aI (aI (aI (aI (aI (aI (aI (aI (aI (aI (aI (aI (aI (aI (cL (XF.thenN (vA rfl (bG (XF.blkN (XF.thenN ?_))))))))))))))))))))
       refine aR (aG rfl rfl (cR rfl rfl (IntWalk.i64_in _ (by omega)) rfl (aA rfl rfl (aQ ?_))))
       exact XF.round (xs.length - (k+1)) [(9,_),(11,_),(17,_),(18,_)] (by omega) ⟨rfl,rfl,rfl,rfl,trivial⟩ ⟨k+1,_,by omega,rfl,rfl,by simp [hP1m],by simp [hP2m],hS⟩
      ·have hc119:=of_decide_eq_false hc;clear hc
       refine dE (XF.thenX (XF.thenX (XF.blkX (XF.blkN (XF.thenN (aR (aG rfl rfl (cR rfl rfl (IntWalk.i64_in _ (by omega)) rfl (aA rfl rfl (aQ ?_))))))))))
       exact XF.round (ls1.length - (i+1)) [(9,_),(11,_),(17,_)] (by omega) ⟨rfl,rfl,rfl,trivial⟩ ⟨i+1,_,by omega,rfl,rfl,by simp [hP1m],by simp [hP2m],hS⟩
     ·have hc99:=of_decide_eq_false hc;clear hc
      refine dE (XF.thenX (XF.thenX (XF.blkX (XF.thenN (aL (aR (cF (vs:=[]) hS Ef rfl (qQ _ (ht.below hS.below)) rfl fun W19 hS=>aA rfl rfl (aQ (XF.thenN (bJ (XF.res (cJ results3 rfl) ?_)))))))))))
      exact ⟨rfl,hS.below⟩
    ·skip
     refine aL (aR (aG rfl rfl (Cd rfl rfl rfl (aQ (XF.thenN (aZ rfl (fun hc=>?_) (fun hc=>?_)))))))
     ·have hc36:=of_decide_eq_true hc;clear hc
      refine aR (aG rfl rfl (cF (vs:=[_]) hS goes_6 rfl (Q3 n _) rfl fun W20 hS=>aA rfl rfl (aQ ?_)))
      exact XF.join [(3,_),(4,_),(5,_),(6,_)] ⟨rfl,rfl,rfl,rfl,trivial⟩ ⟨_,rfl,hS.clear⟩
     ·have hc36:=of_decide_eq_false hc;clear hc
      refine bG ?_
      exact XF.join [(3,_),(4,_),(5,_),(6,_)] ⟨rfl,rfl,rfl,rfl,trivial⟩ ⟨_,rfl,hS.clear⟩
theorem zD (n:Nat) (q:QV) (c e:CV) (k:Int) (w:World) (hq:QIn w n q) (hc:CIn w c∧c.wl≤c.wc) (he:CIn w e∧e.wl≤e.wc) (hk:(Lit.int .i64 k).wf=true) (ht:Tabs w):Calls prog 3 #[q.val,c.val,e.val,.int .i64 k] w (fun e w'=>e = .returned (.bool (true))∧Below w.heap.size w w') :=
 vS n n q.p.s q.p.st q.p.sy q.p.ra q.p.rl q.p.rc q.p.rs w hq.p.s hq.p.row hq.p.len hq.p.rin n n q.a.s q.a.st q.a.sy q.a.fa q.a.fl q.a.fc q.a.ta q.a.tl q.a.tc q.a.ts hq.a.s hq.a.trow hq.a.tlen hq.a.tin c e k hc.1 he.1 hc.2 ht
end
end Go.Proofs.YtofaiolkihcfmaaGreatDoor
