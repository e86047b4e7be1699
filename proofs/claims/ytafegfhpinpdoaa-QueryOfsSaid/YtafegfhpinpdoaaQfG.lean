import Derived.Test.YtafegfhpinpdoaaQfF
set_option maxRecDepth 100000
set_option maxHeartbeats 4000000
set_option linter.unusedVariables false
set_option linter.unusedSimpArgs false
set_option linter.unusedSectionVars false
set_option linter.unnecessarySimpa false
namespace Go.Proofs.Ytafegfhpinpdoaa
open Go.Proofs.Try
section
open Go.RowKit
theorem oU (v0:Int) (v1:Int) (v2:Int) (v30:Value) (v31:Value) (v32:Value) (v33:Value) (v34:Value) (v35:Value):prog.built 67 [(0,.int .i64 v0),(1,.int .i64 v1),(2,.int .i64 v2),(3,.agg #[v30,v31,v32,v33,v34,v35])]=some #[.int .i64 v0,.int .i64 v1,.int .i64 v2,v30,v31,v32,v33,v34,v35]:=by kernel_rfl
theorem Hz (v00:Value) (v01:Value) (v02:Value) (v03:Value) (v04:Value) (v05:Value) (v06:Value) (v07:Value) (v08:Value):Instr.fill (fun i=>some (i * 9,9)) ((Array.range (1 * 9)).map ((Value.cells (.agg #[.int .i64 0,.int .i64 0,.int .i64 0,.bool false,.int .i64 0,.int .u64 0,.slice none 0 0,.slice none 0 0,.slice none 0 0]))[· % (Value.cells (.agg #[.int .i64 0,.int .i64 0,.int .i64 0,.bool false,.int .i64 0,.int .u64 0,.slice none 0 0,.slice none 0 0,.slice none 0 0])).size]!)) [(0,.agg #[v00,v01,v02,v03,v04,v05,v06,v07,v08])]=some (List.toArray [v00,v01,v02,v03,v04,v05,v06,v07,v08]):=by kernel_rfl
theorem goes_22:bW prog 22=true:=by kernel_rfl
theorem wR (ds d:Nat) (p:PV) (la:Option Addr) (ll lc:Nat) (ls:List GV) (w:World) (hp:PvIn w ds d p) (hlr:wD w la ls) (hln:ls.length=ll) (hli:∀ r∈ls,DIn w r.d) (hlm:ll≤1000000) (S:PS) (px:RV→PX) (hpx:dX p=0→PdsOk w S px p) :
  Calls prog 6 #[p.val,.slice la ll lc] w (QOf S p ls w):=by
 refine cG (args:=[p.val,.slice la ll lc]) func6 rfl ntmps6 rfl ?_
 have hS:=St.start w
 refine aO (aR (bQ (cs:=[_,_,_,_,_,_]) hS rfl rfl rfl fun B1 W1 hS=>bU (cs:=[_,_,_,_,_,_,_]) hS zeroValue42 rfl rfl fun B2 W2 hS=>aB rfl rfl (aQ (XF.thenN (aO (aR (aU (vs:=[_,_,_,_,_,_]) isAgg28 sizeOf28 rfl (aK.own (j:=0) (m:=6) (hS.at_ 1 rfl) rfl) rfl (bT (vs:=[_]) hS zL rfl (Am ds d p _ (hp.below hS.below)) rfl fun W3 hS=>aB rfl rfl (aQ (XF.thenN (aO (aO (aR (aI rfl rfl (cN rfl rfl rfl (aQ (XF.thenN (bC rfl (fun hc=>?_) (fun hc=>?_)))))))))))))))))))
 ·have hc21:=of_decide_eq_true hc;clear hc
  refine aO (aR (cY (us:=[]) rfl (oQ) rfl (aI rfl rfl ?_)))
  refine bB (i:=0) (vs:=[_,_,_,_,_,_,_]) (cs':=[_,_,_,_,_,_,_]) (O':=[_,_]) hS sizeOf42 rfl rfl (by first | rfl | (have h0:=hS.oneV 0 _ rfl;have h1:=hS.oneV 2 _ rfl;simp only [List.all_cons,List.all_nil,Bool.and_true,Bool.and_eq_true];exact ⟨rfl,rfl,rfl,rfl,rfl,h0,h1⟩)) rfl rfl rfl rfl fun W4 hS=>?_
  refine aB rfl rfl (aQ (XF.thenN (bM (XF.thenR (XF.res (jV (vs:=[_,_,_,_,_,_,_]) results6 isAgg42 sizeOf42 rfl (aK.own (j:=0) (m:=7) (hS.at_ 0 rfl) rfl) rfl) ?_)))))
  exact pP (by unfold lD;rw [if_pos hc21]) hc21 hS.below
 ·have hc21:=of_decide_eq_false hc;clear hc
  have hE:dX p=0:=Decidable.of_not_not hc21
  have hok:=hpx hE
  have hst:0≤p.st∧p.st≤4096:=hok.st
  have hsy:0≤p.sy∧p.sy≤4096:=hok.sy
  obtain ⟨zN,hz⟩:∃ n:Nat,p.st=(n:Int):=⟨p.st.toNat,by omega⟩
  obtain ⟨sN,hs⟩:∃ n:Nat,p.sy=(n:Int):=⟨p.sy.toNat,by omega⟩
  refine bH (XF.thenN (aO (aO (aR (aB rfl rfl (aQ (XF.thenN (bI (cX (fun m l W=>∃ (i:Nat),i≤ll∧m=ll - i∧l=[(1,.slice la ll lc),(2,.pointer (some ⟨B1,0,none⟩)),(4,.pointer (some ⟨B2,0,none⟩)),(7,.int .i64 (i:Int))]∧(ls.take i).all (fun y=>decide (eZ p y=0))=true∧St w ((B2,[.int .i64 0,.int .i64 0,.slice none 0 0,.int .i64 0,.int .i64 0,.slice none 0 0,.slice none 0 0],42)::[(B1,p.six,28)]) [] [] W) (ll - 0) ([(1,_),(2,_),(4,_),(7,_)]) ⟨rfl,rfl,rfl,rfl,trivial⟩ (⟨0,Nat.zero_le _,rfl,rfl,rfl,hS.clear⟩) ?_)))))))))
  clear hS
  rintro m l W ⟨i,hi,rfl,rfl,hall,hS⟩
  refine aO (aO (aR (aI rfl rfl (aI rfl rfl (bX underlying29 rfl rfl (cC rfl rfl rfl (aQ (XF.thenN (bC rfl (fun hc=>?_) (fun hc=>?_))))))))))
  ·have hc27:=of_decide_eq_true hc;clear hc
   have hk:i < ll:=by omega
   obtain ⟨r,hr⟩:∃ r,ls[i]?=some r:=⟨ls[i]'(by omega),by simp [show i < ls.length by omega]⟩
   obtain ⟨b,off,rfl,hcs⟩:=hlr i r hr
   have k1:=aK.agree hS.agree (Nat.zero_le _) hcs
   have hrm:=List.mem_of_getElem? hr
   have hdi:=hli r hrm
   refine bH (XF.thenN (aO (bI (aO (gP (m:=7) bY hS (by kernel_rfl) (by kernel_rfl) rfl (cB 1 rfl 2 rfl rfl (fun w hw=>bL (vs:=[_,_,_,_,_,_]) isAgg28 sizeOf28 rfl (aK.agree (aP hw 0) (Nat.zero_le _) (aK.own (j:=0) (m:=6) (hS.at_ 1 rfl) rfl))) rfl (cB 2 rfl 1 rfl rfl (fun w hw=>aZ rfl) rfl (cB 3 rfl 7 rfl rfl (fun w hw=>aZ rfl) rfl (aM 4 rfl (isV _) (aH _) (rgV (li:=[(31,_),(32,_)]) rfl (aS rfl) ⟨aL 1 (aA rfl rfl rfl),aL 2 (aA rfl rfl rfl),trivial⟩ (fun w hw=>bA  underlying29 sizeOf39 rfl rfl rfl (by omega) rfl) (aD rfl)) (bD 5 rfl 33 3 rfl rfl rfl (fun w hw=>bL (vs:=[_,_,_,_]) isAgg39 sizeOf39 rfl (aK.agree (aP hw 0) (Nat.zero_le _) (k1))) rfl ?_))))))))))
   refine aM 6 rfl (isV (.int .i64 (eZ p r))) (aH _) (cP [isV _,isV _] rfl goes_22 (aS rfl) ⟨cD (aL 0 (aA rfl rfl rfl)),cD (aL 4 (aA rfl rfl rfl)),trivial⟩ (fun vs w' hb hh=>by have e:=bZ (us:=[_,_]) hh;subst e;exact (Mi p r w' (hdi.below (hS.below.trans (hb.mono hS.below.size)))).mono fun e w2 h=>⟨_,h.1,rfl,h.2⟩) (aD rfl)) ?_
   refine bD 7 rfl 35 5 rfl rfl rfl (fun w hw=>fE rfl) rfl (dB ?_)
   intro W5 hbR hS'
   clear hS;have hS:=hS';clear hS'
   refine aG (aG (aG (aG (aG (aG (aG (cH (XF.thenN (aO (aR (aI rfl rfl (cN rfl rfl rfl (aQ (XF.thenN (bC rfl (fun hc=>?_) (fun hc=>?_))))))))))))))))
   ·have hc37:=of_decide_eq_true hc;clear hc
    refine aO (aR (cY (us:=[]) rfl (oQ) rfl (aI rfl rfl ?_)))
    refine bB (i:=0) (vs:=[_,_,_,_,_,_,_]) (cs':=[_,_,_,_,_,_,_]) (O':=[_,_]) hS sizeOf42 rfl rfl (by first | rfl | (have h0:=hS.oneV 0 _ rfl;have h1:=hS.oneV 2 _ rfl;simp only [List.all_cons,List.all_nil,Bool.and_true,Bool.and_eq_true];exact ⟨rfl,rfl,rfl,rfl,rfl,h0,h1⟩)) rfl rfl rfl rfl fun W6 hS=>?_
    refine aB rfl rfl (aQ (XF.thenN (bM (XF.blkR (XF.thenR (XF.thenR (XF.blkR (XF.thenR (XF.res (jV (vs:=[_,_,_,_,_,_,_]) results6 isAgg42 sizeOf42 rfl (aK.own (j:=0) (m:=7) (hS.at_ 0 rfl) rfl) rfl) ?_)))))))))
    have hfe:=kF hr hall hc37
    exact pP (by unfold lD;rw [if_neg hc21];unfold gB;rw [if_pos (by rw [hfe];exact hc37),hfe]) hc37 hS.below
   ·have hc37:=of_decide_eq_false hc;clear hc
    refine bH (XF.blkN (XF.thenN (aR (aI rfl rfl (cE rfl rfl (IntWalk.i64_in _ (by omega)) rfl (aB rfl rfl (aQ ?_)))))))
    exact XF.round (ll - (i+1)) [(1,_),(2,_),(4,_),(7,_)] (by omega) ⟨rfl,rfl,rfl,rfl,trivial⟩ ⟨i+1,by omega,rfl,rfl,cQ hr hall (decide_eq_true (Decidable.of_not_not hc37)),hS.clear⟩
  ·have hc27:=of_decide_eq_false hc;clear hc
   rw [List.take_of_length_le (by omega)] at hall
   have hfe:=qU hall
   have hpe:=oT hfe
   have h4z:zN≤4096:=by omega
   refine cW (XF.thenX (XF.thenX (XF.blkX (XF.thenN (aO (aR (aN (o':=0) iJ rfl rfl rfl (aU (vs:=[_,_,_]) isAgg25 sizeOf25 rfl (aK.own (j:=0) (m:=3) (hS.at_ 1 rfl) rfl) rfl (aN (o':=3) eT rfl rfl rfl (aT isAgg3 rfl (aJ (hS.at_ 1 rfl) rfl) rfl (aN (o':=4) eE rfl rfl rfl (aT isAgg3 rfl (aJ (hS.at_ 1 rfl) rfl) rfl (cY (us:=[(0,.agg (List.toArray [_,_,_])),(1,.int .i64 _),(2,.int .i64 _)]) rfl (A9 _ _ _ _ _) rfl (bU (cs:=[_,_,_,_,_,_,_]) hS zeroValue42 rfl rfl fun B7 W7 hS=>?_))))))))))))))
   refine bB (i:=0) (vs:=[_,_,_,_,_,_,_]) (cs':=[_,_,_,_,_,_,_]) (O':=[_,_,_]) hS sizeOf42 rfl rfl (by first | rfl | (have h0:=hS.oneV 0 _ rfl;have h1:=hS.oneV 2 _ rfl;simp only [List.all_cons,List.all_nil,Bool.and_true,Bool.and_eq_true];exact ⟨rfl,rfl,rfl,rfl,rfl,h0,h1⟩)) rfl rfl rfl rfl fun W8 hS=>?_
   refine aQ (XF.thenN (aO ?_))
   have hS:=hS.newG 67 9
   refine aR (aN (o':=3) eT rfl rfl rfl (aT isAgg3 rfl (aJ (hS.at_ 2 rfl) rfl) rfl ?_))
   refine F6 (m:=zN) (cs:=(List.replicate zN false).map Value.bool) hS underlying35 Mg rfl rfl rfl (hz) (hz) (madeB zN) (by show (1:Int) * _≤_;omega) (by omega) rfl fun B9 W9 hS=>?_
   refine aB rfl rfl (aQ (XF.thenN (aO ?_)))
   have hS:=(hS.castO (O':=(_,(List.replicate zN false).map Value.bool++[],_)::_::_::_::[]) (by rw [List.append_nil])).ownRow (n:=zN) (c:=zN) (sz:=1) (by simp) (by simp) (Nat.le_refl _) (by simp only [maxLen];omega)
   refine aR (aN (o':=0) iJ rfl rfl rfl (aU (vs:=[_,_,_]) isAgg25 sizeOf25 rfl (aK.own (j:=0) (m:=3) (hS.at_ 2 rfl) rfl) rfl (dC (vs:=[_]) hS A7 rfl (wO S p.s.f _ (hok.si.below hS.below) hok.ok) rfl ?_)))
   rintro e W10 ⟨f1,rfl,hn1,hb⟩
   refine ⟨_,rfl,hb,fun hS'=>?_⟩
   clear hS;have hS:=hS';clear hS' hb
   have HN:iT w [(W9.heap.size,W10)] (fun W2=>XIs W2 S f1 (eV S)):=fun h2 hk=>(hn1.agree (h2.kept (W9.heap.size,W10) (hk _ List.mem_cons_self)).1).is
   refine bU (cs:=[_,_,_,_,_,_]) hS zeroValue56 rfl rfl fun B11 W11 hS=>?_
   refine bB (i:=0) (vs:=[_,_,_,_,_,_]) (cs':=[_,_,_,_,_,_]) (O':=[_,_,_,_]) hS sizeOf56 rfl rfl (by first | rfl | (have h0:=hS.oneV 0 _ rfl;have h1:=hS.oneV 2 _ rfl;simp only [List.all_cons,List.all_nil,Bool.and_true,Bool.and_eq_true];exact ⟨rfl,rfl,rfl,rfl,rfl,h0,h1⟩)) rfl rfl rfl rfl fun W12 hS=>?_
   refine aQ (XF.thenN (aO (aO (aR (aB rfl rfl (aQ (XF.thenN (bI ?_))))))))
   refine cX (fun m l W=>∃ (i:Nat) (fv u:Value) (Kk:List (Nat×World)),i≤ll∧m=ll - i∧zN+sumN (ls.take i)≤4096∧iG p.sy (ls.take i)≤65536∧l=[(1,.slice la ll lc),(2,.pointer (some ⟨B1,0,none⟩)),(4,.pointer (some ⟨B2,0,none⟩)),(9,.pointer (some ⟨B7,0,none⟩)),(10,fv),(11,.pointer (some ⟨B11,0,none⟩)),(12,.int .i64 (i:Int))]∧iT w Kk (fun W2=>XIs W2 S f1 (eV S))∧St w ((B11,f1.six,56)::(B7,[.int .i64 p.s.f.tag,.int .i64 p.s.f.dim,.slice p.s.f.a p.s.f.len p.s.f.cap,.int .i64 ((zN+sumN (ls.take i):Nat):Int),.int .i64 p.sy,(.slice none 0 0),u],42)::(B2,[.int .i64 0,.int .i64 0,.slice none 0 0,.int .i64 0,.int .i64 0,.slice none 0 0,.slice none 0 0],42)::[(B1,p.six,28)]) [⟨fv,zN+sumN (ls.take i),(fR zN ls i).map Value.bool,4,1⟩,⟨u,(tk f1 (ofT zN sN ls i)).length,(tk f1 (ofT zN sN ls i)).flatMap T9.nine,67,9⟩] Kk W) (ll - 0) ([(1,_),(2,_),(4,_),(9,_),(10,_),(11,_),(12,_)]) ⟨rfl,rfl,rfl,rfl,rfl,rfl,rfl,trivial⟩ (⟨0,_,.slice none 0 0,_,Nat.zero_le _,rfl,by simp [sumN];omega,by simp [iG],rfl,HN,(hS.castO (by simp [sumN,hz])).castG (by rw [fR_zero h4z];simp [sumN,ofT,tk])⟩) ?_
   clear hS
   rintro m l W ⟨i,fv,u,Kk,hi,rfl,hM1,hM2,rfl,HN,hS⟩
   refine aO (aO (aR (aI rfl rfl (aI rfl rfl (bX underlying29 rfl rfl (cC rfl rfl rfl (aQ (XF.thenN (bC rfl (fun hc=>?_) (fun hc=>?_))))))))))
   ·have hc56:=of_decide_eq_true hc;clear hc
    have hk:i < ll:=by omega
    obtain ⟨r,hr⟩:∃ r,ls[i]?=some r:=⟨ls[i]'(by omega),by simp [show i < ls.length by omega]⟩
    obtain ⟨b,off,rfl,hcs⟩:=hlr i r hr
    have k1:=aK.agree hS.agree (Nat.zero_le _) hcs
    have hrm:=List.mem_of_getElem? hr
    have hdi:=hli r hrm
    obtain ⟨hin,hde,hsr⟩:=rW (hpe r hrm)
    have hle1:=rX hr
    have hle2:=Hq hsy.1 hr
    have htN:=fY hr
    have htT:=kG (sy:=p.sy) hr
    obtain ⟨gp,⟨sy9,na,nl,nc,ns,aa,al,ac,bs⟩⟩:=r
    dsimp only at hdi hin hde hsr hle1 hle2 htN htT
    have hcs9:aK w b (off+i * 4) [.int .i64 gp,.int .i64 sy9,.slice na nl nc,.slice aa al ac]:=hcs
    clear hcs k1
    have hcs:=hcs9
    clear hcs9
    have k1:=aK.agree hS.agree (Nat.zero_le _) hcs
    obtain rfl:sy9=p.sy:=hsr
    have hin9:0≤gp∧gp < p.st:=by simpa [inQ] using hin
    obtain ⟨gN,rfl⟩:∃ n:Nat,gp=(n:Int):=⟨gp.toNat,by omega⟩
    have hpl:((ofT zN sN ls i).length:Int)=iG p.sy (ls.take i):=by rw [rZ (by omega),hs]
    have htl:((tk f1 (ofT zN sN ls i)).length:Int)=iG p.sy (ls.take i):=by rw [Fv];exact hpl
    obtain ⟨hn1,hn2,hsy0,hsy1,hal,hrows⟩:=lA hde
    dsimp only at hn1 hn2 hsy0 hsy1 hal hrows
    have hnr:=hdi.nrow
    have hnl:=hdi.nlen
    have hri:=hdi.rin
    have har:=hdi.arow
    have hbl:=hdi.alen
    dsimp only at hnr hnl hri har hbl
    have hmb:=Hk (n:=nl) (s:=p.sy) hn1 hsy.1 hsy.2
    have hmd:((nl:Int)+1) * p.sy=(nl:Int) * p.sy+p.sy:=by rw [Int.add_mul,Int.one_mul]
    have hrw:∀ r∈ns,(r.l:Int)=p.sy∧∀ y∈r.xs,0≤y∧y < (nl:Int):=fun r hr=>by
     have h9:=List.all_eq_true.1 hrows r hr
     unfold pS at h9
     simp only [Bool.and_eq_true,decide_eq_true_eq,List.all_eq_true,inQ] at h9
     exact h9
    obtain ⟨r0,hr0⟩:∃ r,ns[0]?=some r:=⟨ns[0],List.getElem?_eq_getElem _⟩
    obtain ⟨b0,o0,rfl,hcs0⟩:=hnr 0 r0 hr0
    obtain ⟨hrr0,hrl0,hrm0⟩:=hri r0 (List.mem_of_getElem? hr0)
    obtain ⟨hls0,hys0⟩:=hrw r0 (List.mem_of_getElem? hr0)
    have hx00:=yR hr0
    obtain ⟨ra0,rl0,rc0,xs0⟩:=r0
    dsimp only at hcs0 hrr0 hrl0 hrm0 hls0 hys0 hx00
    obtain rfl:rl0=sN:=by omega
    refine bH (XF.thenN (aO (bI (aO (aR (aI rfl rfl (aI rfl rfl (cJ  underlying29 sizeOf39 rfl rfl rfl (by omega) rfl rfl (aN gF rfl rfl rfl (aU (vs:=[_,_,_]) isAgg37 sizeOf37 rfl (k1.2) rfl (bU (cs:=[_,_,_]) hS zeroValue37 rfl rfl fun B13 W13 hS=>?_)))))))))))
    refine bB (i:=0) (vs:=[_,_,_]) (cs':=[_,_,_]) (O':=[_,_,_,_,_]) hS sizeOf37 rfl rfl (by first | rfl | (have h0:=hS.oneV 0 _ rfl;have h1:=hS.oneV 2 _ rfl;simp only [List.all_cons,List.all_nil,Bool.and_true,Bool.and_eq_true];exact ⟨rfl,rfl,rfl,rfl,rfl,h0,h1⟩)) rfl rfl rfl rfl fun W14 hS=>?_
    refine aQ (XF.thenN (aO (aO ?_)))
    obtain ⟨ua9,uc9,hu9⟩:∃ a c,u = .slice a (tk f1 (ofT zN rl0 ls i)).length c:=by
     obtain ⟨a,c,e,_⟩:=kY (hS.row 1 rfl)
     exact ⟨a,c,e⟩
    subst hu9
    refine aR (aN (o':=3) dO rfl rfl rfl (aT isAgg3 rfl (aJ (hS.at_ 2 rfl) rfl) rfl (aN (o':=1) eA rfl rfl rfl (aT isAgg34 rfl (aJ (hS.at_ 0 rfl) rfl) rfl (bX underlying34 rfl rfl (cE rfl rfl (IntWalk.i64_in _ (by omega)) rfl (dS rfl rfl rfl (aI rfl rfl (bG (d:=71) rfl (fun hc=>?_) (fun hc=>?_))))))))))
    ·have hg71:=of_decide_eq_true hc;clear hc
     refine aF (d:=71) rfl rfl rfl rfl (aF (d:=71) rfl rfl rfl rfl (aF (d:=71) rfl rfl rfl rfl (aF (d:=71) rfl rfl rfl rfl (aF (d:=71) rfl rfl rfl rfl (aF (d:=71) rfl rfl rfl rfl (aF (d:=71) rfl rfl rfl rfl (aF (d:=71) rfl rfl rfl rfl (aF (d:=71) rfl rfl rfl rfl (aF (d:=71) rfl rfl rfl rfl (aF (d:=71) rfl rfl rfl rfl (aF (d:=71) rfl rfl rfl rfl (aY rfl rfl rfl (aQ (XF.thenN (cU rfl (aO (aR (cY (us:=[]) rfl (oQ) rfl ?_))))))))))))))))))
     refine bB (i:=3) (vs:=[_,_,_,_,_,_,_]) (cs':=[_,_,_,_,_,_,_]) (O':=[_,_,_,_,_]) hS sizeOf42 rfl rfl (by first | rfl | (have h0:=hS.oneV 0 _ rfl;have h1:=hS.oneV 2 _ rfl;simp only [List.all_cons,List.all_nil,Bool.and_true,Bool.and_eq_true];exact ⟨rfl,rfl,rfl,rfl,rfl,h0,h1⟩)) rfl rfl rfl rfl fun W15 hS=>?_
     refine aB rfl rfl (aQ (XF.thenN (bM (XF.thenR (XF.blkR (XF.thenR (XF.thenR (XF.blkR (XF.thenR (XF.res (jV (vs:=[_,_,_,_,_,_,_]) results6 isAgg42 sizeOf42 rfl (aK.own (j:=0) (m:=7) (hS.at_ 3 rfl) rfl) rfl) ?_))))))))))
     exact pP (by unfold lD;rw [if_neg hc21];unfold gB;rw [if_neg (fun h=>h hfe),if_pos (by omega)]) (by decide) hS.below
    ·have hg71:=of_decide_eq_false hc;clear hc
     refine aC (d:=71) rfl rfl (aN (o':=6) dA rfl rfl rfl (aC (d:=71) rfl rfl (aT isAgg40 rfl (aJ (hS.at_ 2 rfl) rfl) rfl (aC (d:=71) rfl rfl (bX underlying40 rfl rfl (aC (d:=71) rfl rfl (aN (o':=1) eA rfl rfl rfl (aC (d:=71) rfl rfl (aT isAgg34 rfl (aJ (hS.at_ 0 rfl) rfl) rfl (aC (d:=71) rfl rfl (bX underlying34 rfl rfl (aC (d:=71) rfl rfl (cE rfl rfl (IntWalk.i64_in _ (by omega)) rfl (aC (d:=71) rfl rfl (aN (o':=4) eE rfl rfl rfl (aC (d:=71) rfl rfl (aT isAgg3 rfl (aJ (hS.at_ 4 rfl) rfl) rfl (aC (d:=71) rfl rfl (zB rfl rfl (IntWalk.i64_in _ (by omega)) rfl (aC (d:=71) rfl rfl (cE rfl rfl (IntWalk.i64_in _ (by omega)) rfl (aC (d:=71) rfl rfl (dS rfl rfl rfl (bN rfl rfl rfl (aQ (XF.thenN (bC rfl (fun hc=>?_) (fun hc=>?_))))))))))))))))))))))))))))
     ·have hc84:=of_decide_eq_true hc;clear hc
      refine aO (aR (cY (us:=[]) rfl (oQ) rfl ?_))
      refine bB (i:=3) (vs:=[_,_,_,_,_,_,_]) (cs':=[_,_,_,_,_,_,_]) (O':=[_,_,_,_,_]) hS sizeOf42 rfl rfl (by first | rfl | (have h0:=hS.oneV 0 _ rfl;have h1:=hS.oneV 2 _ rfl;simp only [List.all_cons,List.all_nil,Bool.and_true,Bool.and_eq_true];exact ⟨rfl,rfl,rfl,rfl,rfl,h0,h1⟩)) rfl rfl rfl rfl fun W16 hS=>?_
      refine aB rfl rfl (aQ (XF.thenN (bM (XF.thenR (XF.blkR (XF.thenR (XF.thenR (XF.blkR (XF.thenR (XF.res (jV (vs:=[_,_,_,_,_,_,_]) results6 isAgg42 sizeOf42 rfl (aK.own (j:=0) (m:=7) (hS.at_ 3 rfl) rfl) rfl) ?_))))))))))
      exact pP (by unfold lD;rw [if_neg hc21];unfold gB;rw [if_neg (fun h=>h hfe),if_pos (by omega)]) (by decide) hS.below
     ·have hc84:=of_decide_eq_false hc;clear hc
      refine bH (XF.thenN (aO (aO (aR (aB rfl rfl (aQ (XF.thenN (bI (cX (fun m l W=>∃ (j:Nat) (fv u:Value) (Kk:List (Nat×World)),j≤rl0∧m=rl0 - j∧l=[(1,.slice (some ⟨b,off,none⟩) ll lc),(2,.pointer (some ⟨B1,0,none⟩)),(4,.pointer (some ⟨B2,0,none⟩)),(9,.pointer (some ⟨B7,0,none⟩)),(10,fv),(11,.pointer (some ⟨B11,0,none⟩)),(12,.int .i64 (i:Int)),(13,.pointer (some ⟨B13,0,none⟩)),(14,.int .i64 (j:Int))]∧iT w Kk (fun W2=>XIs W2 S f1 (eV S))∧St w ((B13,[.int .i64 p.sy,.slice (some ⟨b0,o0,none⟩) nl nc,.slice aa al ac],37)::((B11,f1.six,56)::(B7,[.int .i64 p.s.f.tag,.int .i64 p.s.f.dim,.slice p.s.f.a p.s.f.len p.s.f.cap,.int .i64 ((zN+sumN (ls.take i):Nat):Int),.int .i64 p.sy,(.slice none 0 0),u],42)::(B2,[.int .i64 0,.int .i64 0,.slice none 0 0,.int .i64 0,.int .i64 0,.slice none 0 0,.slice none 0 0],42)::[(B1,p.six,28)])) [⟨fv,zN+sumN (ls.take i),(fR zN ls i).map Value.bool,4,1⟩,⟨u,(tk f1 (ofT zN rl0 ls i++iW (gN:Int) ((zN+sumN (ls.take i):Nat):Int) xs0 j)).length,(tk f1 (ofT zN rl0 ls i++iW (gN:Int) ((zN+sumN (ls.take i):Nat):Int) xs0 j)).flatMap T9.nine,67,9⟩] Kk W) (rl0 - 0) ([(1,_),(2,_),(4,_),(9,_),(10,_),(11,_),(12,_),(13,_),(14,_)]) ⟨rfl,rfl,rfl,rfl,rfl,rfl,rfl,rfl,rfl,trivial⟩ (⟨0,_,_,_,Nat.zero_le _,rfl,rfl,HN,hS.castG (by simp [iW])⟩) ?_)))))))))
      clear hS
      rintro m l W ⟨j,fv,u,Kk,hj,rfl,rfl,HN,hS⟩
      refine aO (aO (aR (aI rfl rfl (aN (o':=4) eE rfl rfl rfl (aT isAgg3 rfl (aJ (hS.at_ 4 rfl) rfl) rfl (cC rfl rfl rfl (aQ (XF.thenN (bC rfl (fun hc=>?_) (fun hc=>?_))))))))))
      ·have hc89:=of_decide_eq_true hc;clear hc
       have hk2:j < rl0:=by omega
       obtain ⟨b1,o1,y,rfl,hy,hyc⟩:=hrr0.at1 (show j < xs0.length by omega)
       have k2:=hS.old hyc
       obtain ⟨hy1,hy2⟩:=hys0 y (List.mem_of_getElem? hy)
       have hln2:((tk f1 (ofT zN rl0 ls i++iW (gN:Int) ((zN+sumN (ls.take i):Nat):Int) xs0 j)).length:Int)=iG p.sy (ls.take i)+(j:Int):=by rw [Fv,List.length_append,jP];omega
       refine bH (XF.thenN (aO (bI ?_)))
       refine Bn (p:=21) (k:=23) (gi:=1) (m:=1) bY hS rfl rfl (by kernel_rfl) (by kernel_rfl) (by kernel_rfl) (fun d hd=>by cases hd) rfl rfl underlying40 Fe rfl rfl (by show 0 < 9;decide) rfl rfl rfl (by dsimp only;simp only [maxLen];omega) (by dsimp only;show _ * 120≤_;omega) ?_
       refine cK 1 rfl rfl (by kernel_rfl) (rgV (li:=[(9,_)]) rfl (aS rfl) ⟨bP rfl,trivial⟩ (fun w hw=>aV (o':=6) dA rfl rfl) (aD rfl)) (cK 2 rfl rfl (by kernel_rfl) (rgV (li:=[(92,_)]) rfl (aS rfl) ⟨aL 0 (aA rfl rfl rfl),trivial⟩ (fun w hw=>aX isAgg40 rfl ((aP hw 0).cell (Nat.zero_le _) (aJ (hS.at_ 2 rfl) rfl))) (aD rfl)) (cK 3 rfl rfl (by kernel_rfl) (rgV (li:=[(1,_)]) rfl (aS rfl) ⟨bP rfl,trivial⟩ (fun w hw=>aZ rfl) (aD rfl)) (cK 4 rfl rfl (by kernel_rfl) (rgV (li:=[(12,_)]) rfl (aS rfl) ⟨bP rfl,trivial⟩ (fun w hw=>aZ rfl) (aD rfl)) (cK 5 rfl rfl (by kernel_rfl) (rgV (li:=[(94,_),(95,_)]) rfl (aS rfl) ⟨aL 2 (aA rfl rfl rfl),aL 3 (aA rfl rfl rfl),trivial⟩ (fun w hw=>bA  underlying29 sizeOf39 rfl rfl rfl (by omega) rfl) (aD rfl)) (cK 6 rfl rfl (by kernel_rfl) (rgV (li:=[(96,_)]) rfl (aS rfl) ⟨aL 4 (aA rfl rfl rfl),trivial⟩ (fun w hw=>aV fB rfl (Nat.add_zero _)) (aD rfl)) (cK 7 rfl rfl (by kernel_rfl) (rgV (li:=[(97,_)]) rfl (aS rfl) ⟨aL 5 (aA rfl rfl rfl),trivial⟩ (fun w hw=>aX isAgg3 rfl ((aP hw 0).cell (Nat.zero_le _) (hS.old hcs.1))) (aD rfl)) (cK 8 rfl rfl (by kernel_rfl) (rgV (li:=[(14,_)]) rfl (aS rfl) ⟨bP rfl,trivial⟩ (fun w hw=>aZ rfl) (aD rfl)) (cK 9 rfl rfl (by kernel_rfl) (rgV (li:=[(9,_)]) rfl (aS rfl) ⟨bP rfl,trivial⟩ (fun w hw=>aV (o':=3) dO rfl rfl) (aD rfl)) (cK 10 rfl rfl (by kernel_rfl) (rgV (li:=[(100,_)]) rfl (aS rfl) ⟨aL 8 (aA rfl rfl rfl),trivial⟩ (fun w hw=>aX isAgg3 rfl ((aP hw 0).cell (Nat.zero_le _) (aJ (hS.at_ 2 rfl) rfl))) (aD rfl)) (cK 11 rfl rfl (by kernel_rfl) (rgV (li:=[(13,_)]) rfl (aS rfl) ⟨bP rfl,trivial⟩ (fun w hw=>aV (o':=1) eA rfl rfl) (aD rfl)) (cK 12 rfl rfl (by kernel_rfl) (rgV (li:=[(102,_)]) rfl (aS rfl) ⟨aL 10 (aA rfl rfl rfl),trivial⟩ (fun w hw=>aX isAgg34 rfl ((aP hw 0).cell (Nat.zero_le _) (aJ (hS.at_ 0 rfl) rfl))) (aD rfl)) (cK 13 rfl rfl (by kernel_rfl) (rgV (li:=[(103,_)]) rfl (aS rfl) ⟨aL 11 (aA rfl rfl rfl),trivial⟩ (fun w hw=>bA (j:=0) underlying34 sizeOf30 rfl rfl rfl (by omega) (Nat.add_zero _)) (aD rfl)) (cK 14 rfl rfl (by kernel_rfl) (rgV (li:=[(104,_)]) rfl (aS rfl) ⟨aL 12 (aA rfl rfl rfl),trivial⟩ (fun w hw=>aX isAgg30 rfl ((aP hw 0).cell (Nat.zero_le _) (hS.old hcs0))) (aD rfl)) (cK 15 rfl rfl (by kernel_rfl) (rgV (li:=[(14,_)]) rfl (aS rfl) ⟨bP rfl,trivial⟩ (fun w hw=>aZ rfl) (aD rfl)) (cK 16 rfl rfl (by kernel_rfl) (rgV (li:=[(105,_),(106,_)]) rfl (aS rfl) ⟨aL 13 (aA rfl rfl rfl),aL 14 (aA rfl rfl rfl),trivial⟩ (fun w hw=>bA  underlying30 sizeOf3 rfl rfl rfl (by omega) rfl) (aD rfl)) (cK 17 rfl rfl (by kernel_rfl) (rgV (li:=[(107,_)]) rfl (aS rfl) ⟨aL 15 (aA rfl rfl rfl),trivial⟩ (fun w hw=>aX isAgg3 rfl ((aP hw 0).cell (Nat.zero_le _) (k2))) (aD rfl)) (cK 18 rfl rfl (by kernel_rfl) (rgV (li:=[(101,_),(108,_)]) rfl (aS rfl) ⟨aL 9 (aA rfl rfl rfl),aL 16 (aA rfl rfl rfl),trivial⟩ (fun w hw=>uZ rfl rfl (IntWalk.i64_in _ (by omega))) (aD rfl)) (cK 19 rfl rfl (by kernel_rfl) (rgV (li:=[(11,_)]) rfl (aS rfl) ⟨bP rfl,trivial⟩ (fun w hw=>bL (vs:=[_,_,_,_,_,_]) isAgg56 sizeOf56 rfl (aK.agree (aP hw 0) (Nat.zero_le _) (aK.own (j:=0) (m:=6) (hS.at_ 1 rfl) rfl))) (aD rfl)) (cK 20 rfl rfl (by kernel_rfl) (rgV (li:=[(98,_),(99,_),(109,_),(110,_)]) rfl (aS rfl) ⟨aL 6 (aA rfl rfl rfl),aL 7 (aA rfl rfl rfl),aL 17 (aA rfl rfl rfl),aL 18 (aA rfl rfl rfl),trivial⟩ (fun w hw=>nY (us:=[(0,.int .i64 _),(1,.int .i64 _),(2,.int .i64 _),(3,.agg (List.toArray [_,_,_,_,_,_]))]) rfl (oU _ _ _ _ _ _ _ _ _)) (aD rfl)) (tD 21 rfl rfl (by kernel_rfl) (tC W.heap.size 1 67 _) (kN) (rF (us:=[.agg (List.toArray [_,_,_,_,_,_,_,_,_])]) rfl (aS rfl) underlying40 sizeOf67 zeroValue67 rfl rfl ⟨cD (aL 19 (aA rfl rfl rfl)),trivial⟩ (Hz _ _ _ _ _ _ _ _ _) (aD rfl)) (oX 22 rfl rfl (iK 23 rfl rfl (rgV (li:=[(9,_)]) rfl (aS rfl) ⟨bP rfl,trivial⟩ (fun w hw=>aV (o':=6) dA rfl rfl) (aD rfl)) (lgV (li:=[(9,_)]) rfl (aS rfl) ⟨bP rfl,trivial⟩ (fun w=>aV (o':=6) dA rfl rfl) (aD rfl) rfl) (oW ⟨_,_,aL 1 (aA rfl rfl rfl),aL 20 (aA rfl rfl rfl),jM rfl rfl,?_⟩)))))))))))))))))))))))
       intro A17 v17 news17 W17 hbR hqA17 hS'
       clear hS;have hS:=hS';clear hS'
       cases hqA17
       refine aG (aG (aG (aG (aG (aG (aG (aG (aG (aG (aG (aG (aG (aG (aG (aG (aG (aG (aG (aG ?_)))))))))))))))))))
       refine dR ?_;intro _ _
       refine aG (aG (cH (dK (i:=2) (cs':=[_,_,_,_,_,_,_]) (O':=[_,_,_,_,_]) hS sizeOf40 rfl rfl (by first | rfl | exact (hS.oneV 0 _ rfl :) | exact (hS.oneV 1 _ rfl :) | exact (hS.oneV 2 _ rfl :) | exact (hS.oneV 3 _ rfl :)) rfl rfl rfl rfl fun W18 hS=>aQ (XF.blkN (XF.thenN (aR (aI rfl rfl (cE rfl rfl (IntWalk.i64_in _ (by omega)) rfl (aB rfl rfl (aQ ?_))))))))))
       exact XF.round (rl0 - (j+1)) [(1,_),(2,_),(4,_),(9,_),(10,_),(11,_),(12,_),(13,_),(14,_)] (by omega) ⟨rfl,rfl,rfl,rfl,rfl,rfl,rfl,rfl,rfl,trivial⟩ ⟨j+1,_,_,_,by omega,rfl,rfl,(fun h2 hk=>HN h2 (fun q hq=>hk q (by simp [hq]))),hS.castG (by rw [pN,jK hy,← List.append_assoc,Hx];simp [nR])⟩
      ·have hc89:=of_decide_eq_false hc;clear hc
       obtain rfl:j=rl0:=by omega
       refine cW (XF.thenX (XF.thenX (XF.blkX (XF.thenN (aO (aO (aR (aB rfl rfl (aQ (XF.thenN (bI (cX (fun m l W=>∃ (k:Nat) (fv u:Value) (Kk:List (Nat×World)),k≤nl∧m=nl - k∧l=[(1,.slice (some ⟨b,off,none⟩) ll lc),(2,.pointer (some ⟨B1,0,none⟩)),(4,.pointer (some ⟨B2,0,none⟩)),(9,.pointer (some ⟨B7,0,none⟩)),(10,fv),(11,.pointer (some ⟨B11,0,none⟩)),(12,.int .i64 (i:Int)),(13,.pointer (some ⟨B13,0,none⟩)),(15,.int .i64 (k:Int))]∧iT w Kk (fun W2=>XIs W2 S f1 (eV S))∧St w ((B13,[.int .i64 p.sy,.slice (some ⟨b0,o0,none⟩) nl nc,.slice aa al ac],37)::((B11,f1.six,56)::(B7,[.int .i64 p.s.f.tag,.int .i64 p.s.f.dim,.slice p.s.f.a p.s.f.len p.s.f.cap,.int .i64 ((zN+sumN (ls.take i):Nat):Int),.int .i64 p.sy,(.slice none 0 0),u],42)::(B2,[.int .i64 0,.int .i64 0,.slice none 0 0,.int .i64 0,.int .i64 0,.slice none 0 0,.slice none 0 0],42)::[(B1,p.six,28)])) [⟨fv,zN+sumN (ls.take i)+k,(fR zN ls i++bs.take k).map Value.bool,4,1⟩,⟨u,(tk f1 (ofT zN j ls i++(iW (gN:Int) ((zN+sumN (ls.take i):Nat):Int) xs0 j++jW ((zN+sumN (ls.take i):Nat):Int) ns j k))).length,(tk f1 (ofT zN j ls i++(iW (gN:Int) ((zN+sumN (ls.take i):Nat):Int) xs0 j++jW ((zN+sumN (ls.take i):Nat):Int) ns j k))).flatMap T9.nine,67,9⟩] Kk W) (nl - 0) ([(1,_),(2,_),(4,_),(9,_),(10,_),(11,_),(12,_),(13,_),(15,_)]) ⟨rfl,rfl,rfl,rfl,rfl,rfl,rfl,rfl,rfl,trivial⟩ (⟨0,_,_,_,Nat.zero_le _,rfl,rfl,HN,hS.castG (by simp [jW])⟩) ?_))))))))))))
       clear hS
       rintro m l W ⟨k,fv,u,Kk,hk3,rfl,rfl,HN,hS⟩
       refine aO (aO (aR (aI rfl rfl (aN (o':=1) eA rfl rfl rfl (aT isAgg34 rfl (aJ (hS.at_ 0 rfl) rfl) rfl (bX underlying34 rfl rfl (cC rfl rfl rfl (aQ (XF.thenN (bC rfl (fun hc=>?_) (fun hc=>?_)))))))))))
       ·have hc119:=of_decide_eq_true hc;clear hc
        have hk2:k < nl:=by omega
        obtain ⟨r,hr9⟩:∃ r,ns[k]?=some r:=⟨ns[k],List.getElem?_eq_getElem _⟩
        obtain ⟨b1,o1,hna1,hcs1⟩:=hnr k r hr9
        cases hna1
        obtain ⟨hrr1,hrl1,hrm1⟩:=hri r (List.mem_of_getElem? hr9)
        obtain ⟨hls1,hys1⟩:=hrw r (List.mem_of_getElem? hr9)
        have hx1:=yR hr9
        obtain ⟨ra9,rl9,rc9,xs9⟩:=r
        dsimp only at hcs1 hrr1 hrl1 hrm1 hls1 hys1 hx1
        obtain rfl:rl9=j:=by omega
        have hcn9:=cnt9 (s:=rl9) hk2
        have hcn8:((nl * rl9:Nat):Int)=(nl:Int) * p.sy:=by rw [hs];exact Int.natCast_mul _ _
        refine bH (XF.thenN (aO (bI (aO (aO (aR (aB rfl rfl (aQ (XF.thenN (bI (cX (fun m l W=>∃ (j:Nat) (fv u:Value) (Kk:List (Nat×World)),j≤rl9∧m=rl9 - j∧l=[(1,.slice (some ⟨b,off,none⟩) ll lc),(2,.pointer (some ⟨B1,0,none⟩)),(4,.pointer (some ⟨B2,0,none⟩)),(9,.pointer (some ⟨B7,0,none⟩)),(10,fv),(11,.pointer (some ⟨B11,0,none⟩)),(12,.int .i64 (i:Int)),(13,.pointer (some ⟨B13,0,none⟩)),(15,.int .i64 (k:Int)),(16,.int .i64 (j:Int))]∧iT w Kk (fun W2=>XIs W2 S f1 (eV S))∧St w ((B13,[.int .i64 p.sy,.slice (some ⟨b0,o0,none⟩) nl nc,.slice aa al ac],37)::((B11,f1.six,56)::(B7,[.int .i64 p.s.f.tag,.int .i64 p.s.f.dim,.slice p.s.f.a p.s.f.len p.s.f.cap,.int .i64 ((zN+sumN (ls.take i):Nat):Int),.int .i64 p.sy,(.slice none 0 0),u],42)::(B2,[.int .i64 0,.int .i64 0,.slice none 0 0,.int .i64 0,.int .i64 0,.slice none 0 0,.slice none 0 0],42)::[(B1,p.six,28)])) [⟨fv,zN+sumN (ls.take i)+k,(fR zN ls i++bs.take k).map Value.bool,4,1⟩,⟨u,(tk f1 (ofT zN rl9 ls i++((iW (gN:Int) ((zN+sumN (ls.take i):Nat):Int) xs0 rl9++jW ((zN+sumN (ls.take i):Nat):Int) ns rl9 k)++iW (((zN+sumN (ls.take i):Nat):Int)+(k:Int)) ((zN+sumN (ls.take i):Nat):Int) xs9 j))).length,(tk f1 (ofT zN rl9 ls i++((iW (gN:Int) ((zN+sumN (ls.take i):Nat):Int) xs0 rl9++jW ((zN+sumN (ls.take i):Nat):Int) ns rl9 k)++iW (((zN+sumN (ls.take i):Nat):Int)+(k:Int)) ((zN+sumN (ls.take i):Nat):Int) xs9 j))).flatMap T9.nine,67,9⟩] Kk W) (rl9 - 0) ([(1,_),(2,_),(4,_),(9,_),(10,_),(11,_),(12,_),(13,_),(15,_),(16,_)]) ⟨rfl,rfl,rfl,rfl,rfl,rfl,rfl,rfl,rfl,rfl,trivial⟩ (⟨0,_,_,_,Nat.zero_le _,rfl,rfl,HN,hS.castG (by simp [iW])⟩) ?_)))))))))))
        clear hS
        rintro m l W ⟨j,fv,u,Kk,hj4,rfl,rfl,HN,hS⟩
        refine aO (aO (aR (aI rfl rfl (aN (o':=4) eE rfl rfl rfl (aT isAgg3 rfl (aJ (hS.at_ 4 rfl) rfl) rfl (cC rfl rfl rfl (aQ (XF.thenN (bC rfl (fun hc=>?_) (fun hc=>?_))))))))))
        ·have hc125:=of_decide_eq_true hc;clear hc
         have hk4:j < rl9:=by omega
         obtain ⟨b1,o1,y,rfl,hy,hyc⟩:=hrr1.at1 (show j < xs9.length by omega)
         have k2:=hS.old hyc
         obtain ⟨hy1,hy2⟩:=hys1 y (List.mem_of_getElem? hy)
         have hln4:((tk f1 (ofT zN rl9 ls i++((iW (gN:Int) ((zN+sumN (ls.take i):Nat):Int) xs0 rl9++jW ((zN+sumN (ls.take i):Nat):Int) ns rl9 k)++iW (((zN+sumN (ls.take i):Nat):Int)+(k:Int)) ((zN+sumN (ls.take i):Nat):Int) xs9 j))).length:Int)=iG p.sy (ls.take i)+((rl9+k * rl9+j:Nat):Int):=by rw [Fv,List.length_append,List.length_append,List.length_append,jP,pO,jP];omega
         refine bH (XF.thenN (aO (bI ?_)))
         refine Bn (p:=21) (k:=23) (gi:=1) (m:=1) bY hS rfl rfl (by kernel_rfl) (by kernel_rfl) (by kernel_rfl) (fun d hd=>by cases hd) rfl rfl underlying40 Fe rfl rfl (by show 0 < 9;decide) rfl rfl rfl (by dsimp only;simp only [maxLen];omega) (by dsimp only;show _ * 120≤_;omega) ?_
         refine cK 1 rfl rfl (by kernel_rfl) (rgV (li:=[(9,_)]) rfl (aS rfl) ⟨bP rfl,trivial⟩ (fun w hw=>aV (o':=6) dA rfl rfl) (aD rfl)) (cK 2 rfl rfl (by kernel_rfl) (rgV (li:=[(128,_)]) rfl (aS rfl) ⟨aL 0 (aA rfl rfl rfl),trivial⟩ (fun w hw=>aX isAgg40 rfl ((aP hw 0).cell (Nat.zero_le _) (aJ (hS.at_ 2 rfl) rfl))) (aD rfl)) (cK 3 rfl rfl (by kernel_rfl) (rgV (li:=[(9,_)]) rfl (aS rfl) ⟨bP rfl,trivial⟩ (fun w hw=>aV (o':=3) dO rfl rfl) (aD rfl)) (cK 4 rfl rfl (by kernel_rfl) (rgV (li:=[(130,_)]) rfl (aS rfl) ⟨aL 2 (aA rfl rfl rfl),trivial⟩ (fun w hw=>aX isAgg3 rfl ((aP hw 0).cell (Nat.zero_le _) (aJ (hS.at_ 2 rfl) rfl))) (aD rfl)) (cK 5 rfl rfl (by kernel_rfl) (rgV (li:=[(15,_)]) rfl (aS rfl) ⟨bP rfl,trivial⟩ (fun w hw=>aZ rfl) (aD rfl)) (cK 6 rfl rfl (by kernel_rfl) (rgV (li:=[(131,_),(132,_)]) rfl (aS rfl) ⟨aL 3 (aA rfl rfl rfl),aL 4 (aA rfl rfl rfl),trivial⟩ (fun w hw=>uZ rfl rfl (IntWalk.i64_in _ (by omega))) (aD rfl)) (cK 7 rfl rfl (by kernel_rfl) (rgV (li:=[(16,_)]) rfl (aS rfl) ⟨bP rfl,trivial⟩ (fun w hw=>aZ rfl) (aD rfl)) (cK 8 rfl rfl (by kernel_rfl) (rgV (li:=[(9,_)]) rfl (aS rfl) ⟨bP rfl,trivial⟩ (fun w hw=>aV (o':=3) dO rfl rfl) (aD rfl)) (cK 9 rfl rfl (by kernel_rfl) (rgV (li:=[(135,_)]) rfl (aS rfl) ⟨aL 7 (aA rfl rfl rfl),trivial⟩ (fun w hw=>aX isAgg3 rfl ((aP hw 0).cell (Nat.zero_le _) (aJ (hS.at_ 2 rfl) rfl))) (aD rfl)) (cK 10 rfl rfl (by kernel_rfl) (rgV (li:=[(13,_)]) rfl (aS rfl) ⟨bP rfl,trivial⟩ (fun w hw=>aV (o':=1) eA rfl rfl) (aD rfl)) (cK 11 rfl rfl (by kernel_rfl) (rgV (li:=[(137,_)]) rfl (aS rfl) ⟨aL 9 (aA rfl rfl rfl),trivial⟩ (fun w hw=>aX isAgg34 rfl ((aP hw 0).cell (Nat.zero_le _) (aJ (hS.at_ 0 rfl) rfl))) (aD rfl)) (cK 12 rfl rfl (by kernel_rfl) (rgV (li:=[(15,_)]) rfl (aS rfl) ⟨bP rfl,trivial⟩ (fun w hw=>aZ rfl) (aD rfl)) (cK 13 rfl rfl (by kernel_rfl) (rgV (li:=[(138,_),(139,_)]) rfl (aS rfl) ⟨aL 10 (aA rfl rfl rfl),aL 11 (aA rfl rfl rfl),trivial⟩ (fun w hw=>bA  underlying34 sizeOf30 rfl rfl rfl (by omega) rfl) (aD rfl)) (cK 14 rfl rfl (by kernel_rfl) (rgV (li:=[(140,_)]) rfl (aS rfl) ⟨aL 12 (aA rfl rfl rfl),trivial⟩ (fun w hw=>aX isAgg30 rfl ((aP hw 0).cell (Nat.zero_le _) (hS.old hcs1))) (aD rfl)) (cK 15 rfl rfl (by kernel_rfl) (rgV (li:=[(16,_)]) rfl (aS rfl) ⟨bP rfl,trivial⟩ (fun w hw=>aZ rfl) (aD rfl)) (cK 16 rfl rfl (by kernel_rfl) (rgV (li:=[(141,_),(142,_)]) rfl (aS rfl) ⟨aL 13 (aA rfl rfl rfl),aL 14 (aA rfl rfl rfl),trivial⟩ (fun w hw=>bA  underlying30 sizeOf3 rfl rfl rfl (by omega) rfl) (aD rfl)) (cK 17 rfl rfl (by kernel_rfl) (rgV (li:=[(143,_)]) rfl (aS rfl) ⟨aL 15 (aA rfl rfl rfl),trivial⟩ (fun w hw=>aX isAgg3 rfl ((aP hw 0).cell (Nat.zero_le _) (k2))) (aD rfl)) (cK 18 rfl rfl (by kernel_rfl) (rgV (li:=[(136,_),(144,_)]) rfl (aS rfl) ⟨aL 8 (aA rfl rfl rfl),aL 16 (aA rfl rfl rfl),trivial⟩ (fun w hw=>uZ rfl rfl (IntWalk.i64_in _ (by omega))) (aD rfl)) (cK 19 rfl rfl (by kernel_rfl) (rgV (li:=[(11,_)]) rfl (aS rfl) ⟨bP rfl,trivial⟩ (fun w hw=>bL (vs:=[_,_,_,_,_,_]) isAgg56 sizeOf56 rfl (aK.agree (aP hw 0) (Nat.zero_le _) (aK.own (j:=0) (m:=6) (hS.at_ 1 rfl) rfl))) (aD rfl)) (cK 20 rfl rfl (by kernel_rfl) (rgV (li:=[(133,_),(134,_),(145,_),(146,_)]) rfl (aS rfl) ⟨aL 5 (aA rfl rfl rfl),aL 6 (aA rfl rfl rfl),aL 17 (aA rfl rfl rfl),aL 18 (aA rfl rfl rfl),trivial⟩ (fun w hw=>nY (us:=[(0,.int .i64 _),(1,.int .i64 _),(2,.int .i64 _),(3,.agg (List.toArray [_,_,_,_,_,_]))]) rfl (oU _ _ _ _ _ _ _ _ _)) (aD rfl)) (tD 21 rfl rfl (by kernel_rfl) (tC W.heap.size 1 67 _) (kN) (rF (us:=[.agg (List.toArray [_,_,_,_,_,_,_,_,_])]) rfl (aS rfl) underlying40 sizeOf67 zeroValue67 rfl rfl ⟨cD (aL 19 (aA rfl rfl rfl)),trivial⟩ (Hz _ _ _ _ _ _ _ _ _) (aD rfl)) (oX 22 rfl rfl (iK 23 rfl rfl (rgV (li:=[(9,_)]) rfl (aS rfl) ⟨bP rfl,trivial⟩ (fun w hw=>aV (o':=6) dA rfl rfl) (aD rfl)) (lgV (li:=[(9,_)]) rfl (aS rfl) ⟨bP rfl,trivial⟩ (fun w=>aV (o':=6) dA rfl rfl) (aD rfl) rfl) (oW ⟨_,_,aL 1 (aA rfl rfl rfl),aL 20 (aA rfl rfl rfl),jM rfl rfl,?_⟩)))))))))))))))))))))))
         intro A19 v19 news19 W19 hbR hqA19 hS'
         clear hS;have hS:=hS';clear hS'
         cases hqA19
         refine aG (aG (aG (aG (aG (aG (aG (aG (aG (aG (aG (aG (aG (aG (aG (aG (aG (aG (aG (aG ?_)))))))))))))))))))
         refine dR ?_;intro _ _
         refine aG (aG (cH (dK (i:=2) (cs':=[_,_,_,_,_,_,_]) (O':=[_,_,_,_,_]) hS sizeOf40 rfl rfl (by first | rfl | exact (hS.oneV 0 _ rfl :) | exact (hS.oneV 1 _ rfl :) | exact (hS.oneV 2 _ rfl :) | exact (hS.oneV 3 _ rfl :)) rfl rfl rfl rfl fun W20 hS=>aQ (XF.blkN (XF.thenN (aR (aI rfl rfl (cE rfl rfl (IntWalk.i64_in _ (by omega)) rfl (aB rfl rfl (aQ ?_))))))))))
         exact XF.round (rl9 - (j+1)) [(1,_),(2,_),(4,_),(9,_),(10,_),(11,_),(12,_),(13,_),(15,_),(16,_)] (by omega) ⟨rfl,rfl,rfl,rfl,rfl,rfl,rfl,rfl,rfl,rfl,trivial⟩ ⟨j+1,_,_,_,by omega,rfl,rfl,(fun h2 hk=>HN h2 (fun q hq=>hk q (by simp [hq]))),hS.castG (by rw [pN,jK hy,← List.append_assoc (bs:=iW _ _ _ _),← List.append_assoc (cs:=[_]),Hx];simp [nR])⟩
        ·have hc125:=of_decide_eq_false hc;clear hc
         obtain rfl:j=rl9:=by omega
         obtain ⟨b2,o2,haa,hcb⟩:=har k _ (tS (show k < bs.length by omega))
         subst haa
         have k3:=hS.old hcb
         have hfl:=nJ (z:=zN) (ls:=ls) (i:=i) hM1
         refine cW (XF.thenX (XF.thenX (XF.blkX (XF.thenN (aR (aI rfl rfl (aN (o':=2) nF rfl rfl rfl (aT isAgg35 rfl (aJ (hS.at_ 0 rfl) rfl) rfl (aI rfl rfl (cJ  underlying35 sizeOf4 rfl rfl rfl (by omega) rfl rfl (aT isAgg4 rfl (k3) rfl (dE (us:=[(0,.bool _)]) hS underlying35 sizeOf4 zeroValue4 rfl rfl rfl (bs_35_1 _) rfl fun B21 W21 hS=>?_))))))))))))
         refine iZ (i:=0) (news:=[_]) hS underlying35 Mg rfl rfl (by show 0 < 1;decide) rfl rfl rfl rfl rfl (aK.own (j:=0) (m:=1) (hS.at_ 0 rfl) rfl) rfl rfl (by dsimp only;simp only [maxLen];omega) (by dsimp only;show _ * 1≤_;omega) rfl fun v22 W22 hS=>?_
         refine aB rfl rfl (aQ (XF.blkN (XF.thenN (aR (aI rfl rfl (cE rfl rfl (IntWalk.i64_in _ (by omega)) rfl (aB rfl rfl (aQ ?_))))))))
         exact XF.round (nl - (k+1)) [(1,_),(2,_),(4,_),(9,_),(10,_),(11,_),(12,_),(13,_),(15,_)] (by omega) ⟨rfl,rfl,rfl,rfl,rfl,rfl,rfl,rfl,rfl,trivial⟩ ⟨k+1,_,_,_,by omega,rfl,rfl,(fun h2 hk=>HN h2 (fun q hq=>hk q (by simp [hq]))),hS.tail.castG (by rw [qY,hx1,List.take_add_one,tS (show k < bs.length by omega)];simp [Nat.add_assoc])⟩
       ·have hc119:=of_decide_eq_false hc;clear hc
        obtain rfl:k=nl:=by omega
        obtain ⟨b2,o2,haa,hcb⟩:=har 0 _ (tS (show 0 < bs.length by omega))
        subst haa
        have hcb0:w.cell? ⟨b2,o2,none⟩=some (.bool (bs.getD 0 false)):=hcb
        have hfl:=nJ (z:=zN) (ls:=ls) (i:=i) hM1
        obtain ⟨fa9,fc9,rfl⟩:=hS.headSl
        obtain ⟨Fb,cs9,rfl,hcl9,hfc1,hfc2,hS9⟩:=hS.rowOwnH (by omega)
        clear hS;have hS:=hS9;clear hS9
        obtain ⟨FF,hFF⟩:∃ x,x=fR zN ls i++bs.take k:=⟨_,rfl⟩
        have hFl:FF.length=zN+sumN (ls.take i)+k:=by rw [hFF,List.length_append,List.length_take];omega
        rw [← hFF] at hS hcl9
        refine cW (XF.thenX (XF.thenX (XF.blkX (XF.thenN (aO ?_)))))
        rcases Bool.eq_false_or_eq_true (FF.getD gN false) with h18 | h18
        ·skip
         refine wE (ef:=21) (jy:=19) (ca:=sQ (fun _=>[])) (ta:=fun _=>0) (Os:=osY _ 0 (0+gN * 1) Fb (FF.map Value.bool++cs9) 4) (Gs:=pR _) (al:=[]) (k:=22) (ds:=[]) bY rfl hS rfl (by kernel_rfl) rfl (by decide) rfl rfl rfl rfl (aW 1 rfl rfl (isV _) (fun hNo=>sgV [(10,_)] rfl rfl rfl rfl hNo (aS rfl) ⟨bP rfl,trivial⟩ (fun ev w he hw=>aZ rfl) (aD rfl)) (aW 2 rfl rfl (isV _) (fun hNo=>sgV [(1,_)] rfl rfl rfl rfl hNo (aS rfl) ⟨bP rfl,trivial⟩ (fun ev w he hw=>aZ rfl) (aD rfl)) (aW 3 rfl rfl (isV _) (fun hNo=>sgV [(12,_)] rfl rfl rfl rfl hNo (aS rfl) ⟨bP rfl,trivial⟩ (fun ev w he hw=>aZ rfl) (aD rfl)) (aW 4 rfl rfl (isV _) (fun hNo=>sgV [(160,_),(161,_)] rfl rfl rfl rfl hNo (aS rfl) ⟨aL 1 (aA rfl rfl rfl),aL 2 (aA rfl rfl rfl),trivial⟩ (fun ev w he hw=>bA  underlying29 sizeOf39 rfl rfl rfl (by omega) rfl) (aD rfl)) (aW 5 rfl rfl (isV _) (fun hNo=>sgV [(162,_)] rfl rfl rfl rfl hNo (aS rfl) ⟨aL 3 (aA rfl rfl rfl),trivial⟩ (fun ev w he hw=>aV fB rfl (Nat.add_zero _)) (aD rfl)) (aW 6 rfl rfl (isV _) (fun hNo=>sgV [(163,_)] rfl rfl rfl rfl hNo (aS rfl) ⟨aL 4 (aA rfl rfl rfl),trivial⟩ (fun ev w he hw=>aX isAgg3 rfl (hw.agree.cell (Nat.zero_le _) (hcs.1))) (aD rfl)) (aW 7 rfl rfl (isV _) (fun hNo=>sgV [(10,_)] rfl rfl rfl rfl hNo (aS rfl) ⟨bP rfl,trivial⟩ (fun ev w he hw=>aZ rfl) (aD rfl)) (aW 8 rfl rfl (isV _) (fun hNo=>sgV [(1,_)] rfl rfl rfl rfl hNo (aS rfl) ⟨bP rfl,trivial⟩ (fun ev w he hw=>aZ rfl) (aD rfl)) (aW 9 rfl rfl (isV _) (fun hNo=>sgV [(12,_)] rfl rfl rfl rfl hNo (aS rfl) ⟨bP rfl,trivial⟩ (fun ev w he hw=>aZ rfl) (aD rfl)) (aW 10 rfl rfl (isV _) (fun hNo=>sgV [(166,_),(167,_)] rfl rfl rfl rfl hNo (aS rfl) ⟨aL 7 (aA rfl rfl rfl),aL 8 (aA rfl rfl rfl),trivial⟩ (fun ev w he hw=>bA  underlying29 sizeOf39 rfl rfl rfl (by omega) rfl) (aD rfl)) (aW 11 rfl rfl (isV _) (fun hNo=>sgV [(168,_)] rfl rfl rfl rfl hNo (aS rfl) ⟨aL 9 (aA rfl rfl rfl),trivial⟩ (fun ev w he hw=>aV fB rfl (Nat.add_zero _)) (aD rfl)) (aW 12 rfl rfl (isV _) (fun hNo=>sgV [(169,_)] rfl rfl rfl rfl hNo (aS rfl) ⟨aL 10 (aA rfl rfl rfl),trivial⟩ (fun ev w he hw=>aX isAgg3 rfl (hw.agree.cell (Nat.zero_le _) (hcs.1))) (aD rfl)) (aW 13 rfl rfl (isV _) (fun hNo=>sgV [(165,_),(170,_)] rfl rfl rfl rfl hNo (aS rfl) ⟨aL 6 (aA rfl rfl rfl),aL 11 (aA rfl rfl rfl),trivial⟩ (fun ev w he hw=>bA (j:=gN) underlying35 sizeOf4 rfl rfl (rfl) (by omega) rfl) (aD rfl)) (aW 14 rfl rfl (isV (.bool true)) (fun hNo=>sgVe [(171,_)] rfl rfl rfl rfl hNo (aS rfl) ⟨aL 12 (aA rfl rfl rfl),trivial⟩ (fun ev w he hw=>aX isAgg4 rfl ((aJ (hw.at_ 0 (pM (he rfl) rfl)) (Dq (by omega))))) (congrArg Value.bool h18) (aD rfl)) (aW 15 rfl rfl (isV _) (fun hNo=>sgV [(172,_)] rfl rfl rfl rfl hNo (aS rfl) ⟨aL 13 (aA rfl rfl rfl),trivial⟩ (fun ev w he hw=>aZ rfl) (aD rfl)) (aW 16 rfl rfl (isV undef) (fun hNo=>rS rfl rfl rfl rfl hNo (bK 173 rfl (aA rfl rfl rfl) rfl) (aD rfl)) (aW 17 rfl rfl (isV undef) (fun hNo=>rS rfl rfl rfl rfl hNo (bK 173 rfl (aA rfl rfl rfl) rfl) (aD rfl)) (aW 18 rfl rfl (isV undef) (fun hNo=>rS rfl rfl rfl rfl hNo (bK 173 rfl (aA rfl rfl rfl) rfl) (aD rfl)) (aW 19 rfl rfl (isV undef) (fun hNo=>rS rfl rfl rfl rfl hNo (bK 173 rfl (aA rfl rfl rfl) rfl) (aD rfl)) (aW 20 rfl rfl (isV _) (fun hNo=>sgV [(173,_)] rfl rfl rfl rfl hNo (aS rfl) ⟨aL 14 (aA rfl rfl rfl),trivial⟩ (fun ev w he hw=>dG rfl rfl) (aD rfl)) (aW 21 rfl rfl (isV _) (fun hNo=>sgV [(159,_),(164,_)] rfl rfl rfl rfl hNo (aS rfl) ⟨aL 0 (aA rfl rfl rfl),aL 5 (aA rfl rfl rfl),trivial⟩ (fun ev w he hw=>bA (j:=gN) underlying35 sizeOf4 rfl rfl (rfl) (by omega) rfl) (aD rfl)) ?_)))))))))))))))))))))
         refine jJ 22 rfl (nH (py:=isV _) (m:=1) 0 (0+gN * 1) [(179,_)] rfl rfl rfl rfl (by kernel_rfl) rfl rfl (fun j hj=>by rcases hj with h | rfl<;>first | (cases h<;>rfl) | rfl) ⟨aL 20 (aA rfl rfl rfl),trivial⟩ rfl rfl sizeOf4 (fun v w e=>⟨[v],by rw [show v=_ from e];rfl,rfl,by rw [show v=_ from e];rfl⟩) (Nat.ble_eq_true_of_le (by simp;omega))) ?_
         refine jZ ?_
         intro Bf23 y23 W23 Ks23 hsz23 hKs23 hS' hcov23
         clear hS;have hS:=hS'.castO (O':=[_,_,_,_,_,_]) rfl;clear hS'
         refine qA (L':=[AwS _ _ (isV _),AwS _ _ (isV _),AwS _ _ (isV _),AwS _ _ (isV _),AwS _ _ (isV _),AwS _ _ (isV _),AwS _ _ (isV _),AwS _ _ (isV _),AwS _ _ (isV _),AwS _ _ (isV _),AwS _ _ (isV _),AwS _ _ (isV _),AwS _ _ (isV _),AwS _ _ (isV (.bool true)),AwS _ _ (isV _),AwS _ _ (isV undef),AwS _ _ (isV undef),AwS _ _ (isV undef),AwS _ _ (isV undef),(fun v0_ w0_=>v0_=_∧AwS _ _ (isV _) v0_ w0_),AwS _ _ (isV _),isV _]) rfl (bF (bF (bF (bF (bF (bF (bF (bF (bF (bF (bF (bF (bF (bF (bF (bF (bF (bF (bF ?_)))))))))))))))))))
         refine dR ?_;rintro _ ⟨rfl,hA23⟩;have hA23:=hA23.here;cases hA23
         refine bF (tO (cH (aQ (XF.thenN ?_))))
         have hfs:=Hy (g:=gN) hr (by omega) rfl (show bs.length=k by omega) (show zN+sumN (ls.take i)+k≤4096 by omega)
         rw [← hFF] at hfs
         have hS:=(hS.castO (O':=(Fb,(fR zN ls (i+1)).map Value.bool++cs9,_)::_) (by show ((Fb,eJ _ _ [_],_)::_)=_;rw [sB (by omega),← hfs,h18,Bool.true_or])).ownRow (n:=zN+sumN (ls.take i)+k) (c:=fc9) (sz:=1) (by rw [List.length_map,nJ (by omega)];omega) (by rw [← hcl9,List.length_append,List.length_append,List.length_map,List.length_map,nJ (by omega)];omega) hfc1 hfc2
         refine aR (aN (o':=3) dO rfl rfl rfl (aT isAgg3 rfl (aJ (hS.at_ 2 rfl) rfl) rfl (aN (o':=1) eA rfl rfl rfl (aT isAgg34 rfl (aJ (hS.at_ 0 rfl) rfl) rfl (bX underlying34 rfl rfl (cE rfl rfl (IntWalk.i64_in _ (by omega)) rfl (aN (o':=3) dO rfl rfl rfl (dK (i:=2) (cs':=[_,_,_,_,_,_,_]) (O':=[_,_,_,_,_]) hS sizeOf3 rfl rfl (by first | rfl | exact (hS.oneV 0 _ rfl :) | exact (hS.oneV 1 _ rfl :) | exact (hS.oneV 2 _ rfl :) | exact (hS.oneV 3 _ rfl :)) rfl rfl rfl rfl fun W24 hS=>aQ (XF.blkN (XF.thenN (aR (aI rfl rfl (cE rfl rfl (IntWalk.i64_in _ (by omega)) rfl (aB rfl rfl (aQ ?_)))))))))))))))
         exact XF.round (ll - (i+1)) [(1,_),(2,_),(4,_),(9,_),(10,_),(11,_),(12,_)] (by omega) ⟨rfl,rfl,rfl,rfl,rfl,rfl,rfl,trivial⟩ ⟨i+1,.slice (some ⟨Fb,0,none⟩) (zN+sumN (ls.take i)+k) fc9,u,_,by omega,rfl,by omega,by omega,rfl,HN.more (fun q hq=>by simp [hq]),(hS.tail.castO (by rw [htN];simp [Int.add_assoc])).castG (by rw [htN,rY hr,nT,hx00,← Nat.add_assoc];rfl)⟩
        ·skip
         refine wE (ef:=21) (jy:=19) (ca:=sQ (fun _=>[])) (ta:=fun _=>0) (Os:=osY _ 0 (0+gN * 1) Fb (FF.map Value.bool++cs9) 4) (Gs:=pR _) (al:=[]) (k:=22) (ds:=[]) bY rfl hS rfl (by kernel_rfl) rfl (by decide) rfl rfl rfl rfl (aW 1 rfl rfl (isV _) (fun hNo=>sgV [(10,_)] rfl rfl rfl rfl hNo (aS rfl) ⟨bP rfl,trivial⟩ (fun ev w he hw=>aZ rfl) (aD rfl)) (aW 2 rfl rfl (isV _) (fun hNo=>sgV [(1,_)] rfl rfl rfl rfl hNo (aS rfl) ⟨bP rfl,trivial⟩ (fun ev w he hw=>aZ rfl) (aD rfl)) (aW 3 rfl rfl (isV _) (fun hNo=>sgV [(12,_)] rfl rfl rfl rfl hNo (aS rfl) ⟨bP rfl,trivial⟩ (fun ev w he hw=>aZ rfl) (aD rfl)) (aW 4 rfl rfl (isV _) (fun hNo=>sgV [(160,_),(161,_)] rfl rfl rfl rfl hNo (aS rfl) ⟨aL 1 (aA rfl rfl rfl),aL 2 (aA rfl rfl rfl),trivial⟩ (fun ev w he hw=>bA  underlying29 sizeOf39 rfl rfl rfl (by omega) rfl) (aD rfl)) (aW 5 rfl rfl (isV _) (fun hNo=>sgV [(162,_)] rfl rfl rfl rfl hNo (aS rfl) ⟨aL 3 (aA rfl rfl rfl),trivial⟩ (fun ev w he hw=>aV fB rfl (Nat.add_zero _)) (aD rfl)) (aW 6 rfl rfl (isV _) (fun hNo=>sgV [(163,_)] rfl rfl rfl rfl hNo (aS rfl) ⟨aL 4 (aA rfl rfl rfl),trivial⟩ (fun ev w he hw=>aX isAgg3 rfl (hw.agree.cell (Nat.zero_le _) (hcs.1))) (aD rfl)) (aW 7 rfl rfl (isV _) (fun hNo=>sgV [(10,_)] rfl rfl rfl rfl hNo (aS rfl) ⟨bP rfl,trivial⟩ (fun ev w he hw=>aZ rfl) (aD rfl)) (aW 8 rfl rfl (isV _) (fun hNo=>sgV [(1,_)] rfl rfl rfl rfl hNo (aS rfl) ⟨bP rfl,trivial⟩ (fun ev w he hw=>aZ rfl) (aD rfl)) (aW 9 rfl rfl (isV _) (fun hNo=>sgV [(12,_)] rfl rfl rfl rfl hNo (aS rfl) ⟨bP rfl,trivial⟩ (fun ev w he hw=>aZ rfl) (aD rfl)) (aW 10 rfl rfl (isV _) (fun hNo=>sgV [(166,_),(167,_)] rfl rfl rfl rfl hNo (aS rfl) ⟨aL 7 (aA rfl rfl rfl),aL 8 (aA rfl rfl rfl),trivial⟩ (fun ev w he hw=>bA  underlying29 sizeOf39 rfl rfl rfl (by omega) rfl) (aD rfl)) (aW 11 rfl rfl (isV _) (fun hNo=>sgV [(168,_)] rfl rfl rfl rfl hNo (aS rfl) ⟨aL 9 (aA rfl rfl rfl),trivial⟩ (fun ev w he hw=>aV fB rfl (Nat.add_zero _)) (aD rfl)) (aW 12 rfl rfl (isV _) (fun hNo=>sgV [(169,_)] rfl rfl rfl rfl hNo (aS rfl) ⟨aL 10 (aA rfl rfl rfl),trivial⟩ (fun ev w he hw=>aX isAgg3 rfl (hw.agree.cell (Nat.zero_le _) (hcs.1))) (aD rfl)) (aW 13 rfl rfl (isV _) (fun hNo=>sgV [(165,_),(170,_)] rfl rfl rfl rfl hNo (aS rfl) ⟨aL 6 (aA rfl rfl rfl),aL 11 (aA rfl rfl rfl),trivial⟩ (fun ev w he hw=>bA (j:=gN) underlying35 sizeOf4 rfl rfl (rfl) (by omega) rfl) (aD rfl)) (aW 14 rfl rfl (isV (.bool false)) (fun hNo=>sgVe [(171,_)] rfl rfl rfl rfl hNo (aS rfl) ⟨aL 12 (aA rfl rfl rfl),trivial⟩ (fun ev w he hw=>aX isAgg4 rfl ((aJ (hw.at_ 0 (pM (he rfl) rfl)) (Dq (by omega))))) (congrArg Value.bool h18) (aD rfl)) (aW 15 rfl rfl (isV _) (fun hNo=>sgV [(172,_)] rfl rfl rfl rfl hNo (aS rfl) ⟨aL 13 (aA rfl rfl rfl),trivial⟩ (fun ev w he hw=>aZ rfl) (aD rfl)) (aW 16 rfl rfl (isV _) (fun hNo=>sgV [(13,_)] rfl rfl rfl rfl hNo (bE 173 rfl (aA rfl rfl rfl)) ⟨bP rfl,trivial⟩ (fun ev w he hw=>aV (o':=2) nF rfl rfl) (aD rfl)) (aW 17 rfl rfl (isV _) (fun hNo=>sgV [(174,_)] rfl rfl rfl rfl hNo (bE 173 rfl (aA rfl rfl rfl)) ⟨aL 15 (aA rfl rfl rfl),trivial⟩ (fun ev w he hw=>aX isAgg35 rfl ((aJ (hw.at_ 1 (gX (i:=1) (j:=0) rfl rfl)) rfl))) (aD rfl)) (aW 18 rfl rfl (isV _) (fun hNo=>sgV [(175,_)] rfl rfl rfl rfl hNo (bE 173 rfl (aA rfl rfl rfl)) ⟨aL 16 (aA rfl rfl rfl),trivial⟩ (fun ev w he hw=>bA (j:=0) underlying35 sizeOf4 rfl rfl rfl (by omega) (Nat.add_zero _)) (aD rfl)) (aW 19 rfl rfl (isV _) (fun hNo=>sgV [(176,_)] rfl rfl rfl rfl hNo (bE 173 rfl (aA rfl rfl rfl)) ⟨aL 17 (aA rfl rfl rfl),trivial⟩ (fun ev w he hw=>aX isAgg4 rfl (hw.agree.cell (Nat.zero_le _) (hcb0))) (aD rfl)) (aW 20 rfl rfl (isV _) (fun hNo=>sgV [(173,_),(177,_)] rfl rfl rfl rfl hNo (aS rfl) ⟨aL 14 (aA rfl rfl rfl),aL 18 (aA rfl rfl rfl),trivial⟩ (fun ev w he hw=>dH rfl rfl) (aD rfl)) (aW 21 rfl rfl (isV _) (fun hNo=>sgV [(159,_),(164,_)] rfl rfl rfl rfl hNo (aS rfl) ⟨aL 0 (aA rfl rfl rfl),aL 5 (aA rfl rfl rfl),trivial⟩ (fun ev w he hw=>bA (j:=gN) underlying35 sizeOf4 rfl rfl (rfl) (by omega) rfl) (aD rfl)) ?_)))))))))))))))))))))
         refine jJ 22 rfl (nH (py:=isV _) (m:=1) 0 (0+gN * 1) [(179,_)] rfl rfl rfl rfl (by kernel_rfl) rfl rfl (fun j hj=>by rcases hj with h | rfl<;>first | (cases h<;>rfl) | rfl) ⟨aL 20 (aA rfl rfl rfl),trivial⟩ rfl rfl sizeOf4 (fun v w e=>⟨[v],by rw [show v=_ from e];rfl,rfl,by rw [show v=_ from e];rfl⟩) (Nat.ble_eq_true_of_le (by simp;omega))) ?_
         refine jZ ?_
         intro Bf25 y25 W25 Ks25 hsz25 hKs25 hS' hcov25
         clear hS;have hS:=hS'.castO (O':=[_,_,_,_,_,_]) rfl;clear hS'
         refine qA (L':=[AwS _ _ (isV _),AwS _ _ (isV _),AwS _ _ (isV _),AwS _ _ (isV _),AwS _ _ (isV _),AwS _ _ (isV _),AwS _ _ (isV _),AwS _ _ (isV _),AwS _ _ (isV _),AwS _ _ (isV _),AwS _ _ (isV _),AwS _ _ (isV _),AwS _ _ (isV _),AwS _ _ (isV (.bool false)),AwS _ _ (isV _),AwS _ _ (isV _),AwS _ _ (isV _),AwS _ _ (isV _),AwS _ _ (isV _),(fun v0_ w0_=>v0_=_∧AwS _ _ (isV _) v0_ w0_),AwS _ _ (isV _),isV _]) rfl (bF (bF (bF (bF (bF (bF (bF (bF (bF (bF (bF (bF (bF (bF (bF (bF (bF (bF (bF ?_)))))))))))))))))))
         refine dR ?_;rintro _ ⟨rfl,hA25⟩;have hA25:=hA25.here;cases hA25
         refine bF (tO (cH (aQ (XF.thenN ?_))))
         have hfs:=Hy (g:=gN) hr (by omega) rfl (show bs.length=k by omega) (show zN+sumN (ls.take i)+k≤4096 by omega)
         rw [← hFF] at hfs
         have hS:=(hS.castO (O':=(Fb,(fR zN ls (i+1)).map Value.bool++cs9,_)::_) (by show ((Fb,eJ _ _ [_],_)::_)=_;rw [sB (by omega),← hfs,h18,Bool.false_or])).ownRow (n:=zN+sumN (ls.take i)+k) (c:=fc9) (sz:=1) (by rw [List.length_map,nJ (by omega)];omega) (by rw [← hcl9,List.length_append,List.length_append,List.length_map,List.length_map,nJ (by omega)];omega) hfc1 hfc2
         refine aR (aN (o':=3) dO rfl rfl rfl (aT isAgg3 rfl (aJ (hS.at_ 2 rfl) rfl) rfl (aN (o':=1) eA rfl rfl rfl (aT isAgg34 rfl (aJ (hS.at_ 0 rfl) rfl) rfl (bX underlying34 rfl rfl (cE rfl rfl (IntWalk.i64_in _ (by omega)) rfl (aN (o':=3) dO rfl rfl rfl (dK (i:=2) (cs':=[_,_,_,_,_,_,_]) (O':=[_,_,_,_,_]) hS sizeOf3 rfl rfl (by first | rfl | exact (hS.oneV 0 _ rfl :) | exact (hS.oneV 1 _ rfl :) | exact (hS.oneV 2 _ rfl :) | exact (hS.oneV 3 _ rfl :)) rfl rfl rfl rfl fun W26 hS=>aQ (XF.blkN (XF.thenN (aR (aI rfl rfl (cE rfl rfl (IntWalk.i64_in _ (by omega)) rfl (aB rfl rfl (aQ ?_)))))))))))))))
         exact XF.round (ll - (i+1)) [(1,_),(2,_),(4,_),(9,_),(10,_),(11,_),(12,_)] (by omega) ⟨rfl,rfl,rfl,rfl,rfl,rfl,rfl,trivial⟩ ⟨i+1,.slice (some ⟨Fb,0,none⟩) (zN+sumN (ls.take i)+k) fc9,u,_,by omega,rfl,by omega,by omega,rfl,HN.more (fun q hq=>by simp [hq]),(hS.tail.castO (by rw [htN];simp [Int.add_assoc])).castG (by rw [htN,rY hr,nT,hx00,← Nat.add_assoc];rfl)⟩
   ·have hc56:=of_decide_eq_false hc;clear hc
    obtain rfl:i=ll:=by omega
    have htk:ls.take i=ls:=List.take_of_length_le (by omega)
    obtain rfl:ls.length=i:=hln
    have hoE:lD p ls=0:=by unfold lD;rw [if_neg hc21];unfold gB;rw [if_neg (fun h=>h hfe),if_neg (by rw [htk] at hM1 hM2;omega)]
    have hfl:=nJ (z:=zN) (ls:=ls) (i:=ls.length) hM1
    rw [htk] at hS hM1 hfl
    have hS:=hS.newG 3 1
    refine cW (XF.thenX (XF.thenX (XF.blkX (XF.thenN (aO (aO (aR (aB rfl rfl (aQ (XF.thenN (bI (cX (fun m l W=>∃ (k:Nat) (v:Value),k≤zN+sumN ls∧m=zN+sumN ls - k∧l=[(2,.pointer (some ⟨B1,0,none⟩)),(4,.pointer (some ⟨B2,0,none⟩)),(9,.pointer (some ⟨B7,0,none⟩)),(10,fv),(17,.int .i64 (k:Int))]∧St w ((B11,f1.six,56)::(B7,[.int .i64 p.s.f.tag,.int .i64 p.s.f.dim,.slice p.s.f.a p.s.f.len p.s.f.cap,.int .i64 ((zN+sumN ls:Nat):Int),.int .i64 p.sy,v,u],42)::(B2,[.int .i64 0,.int .i64 0,.slice none 0 0,.int .i64 0,.int .i64 0,.slice none 0 0,.slice none 0 0],42)::[(B1,p.six,28)]) (⟨v,(dP (ofF zN ls ls.length) k).length,(dP (ofF zN ls ls.length) k).map (Value.int .i64),3,1⟩::[⟨fv,zN+sumN ls,(fR zN ls ls.length).map Value.bool,4,1⟩,⟨u,(tk f1 (ofT zN sN ls ls.length)).length,(tk f1 (ofT zN sN ls ls.length)).flatMap T9.nine,67,9⟩]) Kk W) (zN+sumN ls - 0) ([(2,_),(4,_),(9,_),(10,_),(17,_)]) ⟨rfl,rfl,rfl,rfl,rfl,trivial⟩ (⟨0,_,Nat.zero_le _,rfl,rfl,hS⟩) ?_))))))))))))
    clear hS
    rintro m l W ⟨k,v,hk0,rfl,rfl,hS⟩
    refine aO (aO (aR (aI rfl rfl (aN (o':=3) dO rfl rfl rfl (aT isAgg3 rfl (aJ (hS.at_ 1 rfl) rfl) rfl (cC rfl rfl rfl (aQ (XF.thenN (bC rfl (fun hc=>?_) (fun hc=>?_))))))))))
    ·have hc190:=of_decide_eq_true hc;clear hc
     have hk:k < zN+sumN ls:=by omega
     have hel:=mN (fb:=ofF zN ls ls.length) (n:=k)
     obtain ⟨a9,c9,rfl⟩:∃ a9 c9,fv = .slice a9 (zN+sumN ls) c9:=by
      obtain ⟨a9,c9,e,_⟩:=kY (hS.row 1 rfl)
      exact ⟨a9,c9,e⟩
     have h19:(fR zN ls ls.length)[k]?=some ((ofF zN ls ls.length).getD k false):=by rw [tS (by omega)];unfold fR;rw [rA (by rw [htk];exact hk)]
     obtain ⟨g9,rfl,hg9⟩:=Dp (x:=.bool ((ofF zN ls ls.length).getD k false)) (hS.row 1 rfl) (by rw [List.getElem?_map,h19];rfl)
     refine bH (XF.thenN (aO (bI (aO (aR (aI rfl rfl (aI rfl rfl (cJ  underlying35 sizeOf4 rfl rfl rfl (by omega) rfl rfl (aT isAgg4 rfl (hg9) rfl (aQ (XF.thenN (bC rfl (fun hc=>?_) (fun hc=>?_)))))))))))))
     ·have hc196:=hc;clear hc
      refine aR (aN (o':=5) eB rfl rfl rfl (aT isAgg30 rfl (aJ (hS.at_ 1 rfl) rfl) rfl (aI rfl rfl (dE (us:=[(0,.int .i64 _)]) hS underlying30 sizeOf3 zeroValue3 rfl rfl rfl (uG _) rfl fun B27 W27 hS=>?_))))
      refine iZ (i:=0) (news:=[_]) hS underlying30 inf_3 rfl rfl (by show 0 < 1;decide) rfl rfl rfl rfl rfl (aK.own (j:=0) (m:=1) (hS.at_ 0 rfl) rfl) rfl rfl (by dsimp only;simp only [maxLen];omega) (by dsimp only;show _ * 8≤_;omega) rfl fun v28 W28 hS=>?_
      refine aN (o':=5) eB rfl rfl rfl (dK (i:=2) (cs':=[_,_,_,_,_,_,_]) (O':=[_,_,_,_,_]) hS sizeOf30 rfl rfl (by first | rfl | exact (hS.oneV 0 _ rfl :) | exact (hS.oneV 1 _ rfl :) | exact (hS.oneV 2 _ rfl :) | exact (hS.oneV 3 _ rfl :)) rfl rfl rfl rfl fun W29 hS=>aQ (XF.blkN (XF.thenN (aR (aI rfl rfl (cE rfl rfl (IntWalk.i64_in _ (by omega)) rfl (aB rfl rfl (aQ ?_))))))))
      exact XF.round (zN+sumN ls - (k+1)) [(2,_),(4,_),(9,_),(10,_),(17,_)] (by omega) ⟨rfl,rfl,rfl,rfl,rfl,trivial⟩ ⟨k+1,_,by omega,rfl,rfl,hS.tail.castG (by rw [Hr hc196];simp)⟩
     ·have hc196:=hc;clear hc
      refine bH (XF.blkN (XF.thenN (aR (aI rfl rfl (cE rfl rfl (IntWalk.i64_in _ (by omega)) rfl (aB rfl rfl (aQ ?_)))))))
      exact XF.round (zN+sumN ls - (k+1)) [(2,_),(4,_),(9,_),(10,_),(17,_)] (by omega) ⟨rfl,rfl,rfl,rfl,rfl,trivial⟩ ⟨k+1,_,by omega,rfl,rfl,hS.castG (by rw [Hs hc196])⟩
    ·have hc190:=of_decide_eq_false hc;clear hc
     have hke:k=zN+sumN ls:=by omega
     subst hke
     refine cW (XF.thenX (XF.thenX (XF.blkX (XF.thenN (aO (aR (aU (vs:=[_,_,_,_,_,_,_]) isAgg42 sizeOf42 rfl (aK.own (j:=0) (m:=7) (hS.at_ 1 rfl) rfl) rfl ?_)))))))
     refine bB (i:=2) (vs:=[_,_,_,_,_,_,_]) (cs':=[_,_,_,_,_,_,_]) (O':=[_,_,_,_]) hS sizeOf42 rfl rfl (by first | rfl | (have h0:=hS.oneV 0 _ rfl;have h1:=hS.oneV 2 _ rfl;simp only [List.all_cons,List.all_nil,Bool.and_true,Bool.and_eq_true];exact ⟨rfl,rfl,rfl,rfl,rfl,h0,h1⟩)) rfl rfl rfl rfl fun W30 hS=>?_
     refine aB rfl rfl (aQ (XF.thenN (bM (XF.res (jV (vs:=[_,_,_,_,_,_,_]) results6 isAgg42 sizeOf42 rfl (aK.own (j:=0) (m:=7) (hS.at_ 2 rfl) rfl) rfl) ?_))))
     exact ⟨hS.below,.inr ⟨hoE,zN,sN,p.s.f,_,_,tk f1 (ofT zN sN ls ls.length),hz,hs,rfl,hok.si.below hS.below,hS.row 0 rfl,tk_pl,hS.row 2 rfl,fun r hr=>by rw [tk_x r hr];exact HN.now (hS.keep Kk (fun q hq=>by simp [hq]))⟩⟩
theorem wS {p:PV} {c:CV} (h:fA p c=0):dX p=0∧inQ c.p p.st=true∧c.wl≤4096∧c.ws.all (fun y=>inQ y p.sy)=true:=by
 unfold fA at h
 by_cases h1:dX p≠0
 ·rw [if_pos h1] at h;exact absurd h h1
 ·rw [if_neg h1] at h
  by_cases h2:iS p c=true
  ·unfold iS at h2
   simp only [Bool.and_eq_true,decide_eq_true_eq] at h2
   exact ⟨Decidable.of_not_not h1,h2.1,h2.2.1,h2.2.2⟩
  ·rw [if_neg h2] at h;cases h
theorem tB {fb:List Bool} {x:Int}:∀ {n:Nat},x∈dP fb n→0≤x∧x < (n:Int)
 | 0,h=>by cases h
 | n+1,h=>by
  rw [dP,List.mem_append] at h
  rcases h with h | h
  ·have:=tB h;omega
  ·cases hb:fb.getD n false with
   | false=>rw [hb] at h;cases h
   | true =>
    rw [hb] at h
    have:x=(n:Int):=List.mem_singleton.1 h
    omega
theorem Dr {fb:List Bool}:∀ {n:Nat},(dP fb n).Pairwise (fun x y=>x < y)
 | 0=>List.Pairwise.nil
 | n+1=>by
  rw [dP,List.pairwise_append]
  refine ⟨Dr,?_,fun x hx y hy=>?_⟩
  ·cases fb.getD n false
   ·exact List.Pairwise.nil
   ·exact List.pairwise_singleton _ _
  ·have h1:=tB hx
   cases hb:fb.getD n false with
   | false=>rw [hb] at hy;cases hy
   | true =>
    rw [hb] at hy
    have:y=(n:Int):=List.mem_singleton.1 hy
    omega
theorem Jq {fb:List Bool} {n:Nat}:Iz (n:Int) (dP fb n)=true:=Hg fun j hj=>by
 have hm:(dP fb n)[j]∈dP fb n:=List.getElem_mem hj
 have h1:=tB hm
 have hq:inQ (dP fb n)[j] (n:Int)=true:=by simp only [inQ,Bool.and_eq_true,decide_eq_true_eq];omega
 rcases Nat.eq_zero_or_pos j with h0 | h0
 ·exact vY (List.getElem?_eq_getElem hj) hq h0
 ·rw [sR (List.getElem?_eq_getElem hj) (List.getElem?_eq_getElem (show j - 1 < (dP fb n).length by omega)) hq h0]
  exact decide_eq_true (List.pairwise_iff_getElem.1 Dr (j - 1) j (by omega) hj (by omega))
theorem ptOk_of {w:World} {p:PV} {ls:List GV} {zN sN:Nat} (hpe:∀ r∈ls,eZ p r=0) (hli:∀ r∈ls,DIn w r.d) (hz:p.st=(zN:Int)) (hs:p.sy=(sN:Int)):∀ r∈ls,PtOk zN sN r:=fun r hr=>by
 obtain ⟨hin,hde,hsr⟩:=rW (hpe r hr)
 obtain ⟨hn1,hn2,hsy0,hsy1,hal,hrows⟩:=lA hde
 have hdi:=hli r hr
 simp only [inQ,Bool.and_eq_true,decide_eq_true_eq] at hin
 have hrw:∀ q∈r.d.ns,(q.l:Int)=r.d.sy∧∀ y∈q.xs,0≤y∧y < (r.d.nl:Int):=fun q hq=>by
  have h9:=List.all_eq_true.1 hrows q hq
  unfold pS at h9
  simp only [Bool.and_eq_true,decide_eq_true_eq,List.all_eq_true,inQ] at h9
  exact h9
 exact ⟨hin.1,by omega,hn2,fun q hq=>(hrw q hq).2,hdi.nlen,fun q hq=>by have h1:=(hrw q hq).1;have h2:=(hdi.rin q hq).2.1;omega⟩
theorem Ds {z s:Nat} {ls:List GV} (hP:∀ r∈ls,PtOk z s r) {t:Int×Int×Int} (ht:t∈ofT z s ls ls.length):(0≤t.1∧t.1 < ((z+sumN ls:Nat):Int))∧(0≤t.2.1∧t.2.1 < (s:Int))∧(z:Int)≤t.2.2∧t.2.2 < ((z+sumN ls:Nat):Int):=by
 obtain ⟨i,hi,r,hr,hm⟩:=pQ.1 ht
 have ho:=hP r (List.mem_of_getElem? hr)
 have hle:=rX hr
 have h0:=ho.p0
 have h1:=ho.p1
 rcases mP.1 hm with ⟨j,hj,rfl⟩ | ⟨k,hk,j,hj,rfl⟩
 ·obtain ⟨y,hy,hyn⟩:=Bc ho (show 0 < r.d.nl by have:=ho.n1;omega) hj
  dsimp only
  rw [hy]
  omega
 ·obtain ⟨y,hy,hyn⟩:=Bc ho hk hj
  dsimp only
  rw [hy]
  omega
structure QO (W:World) (S:PS) (p:PV) (ls:List GV) (sq:SF) (fa:Option Addr) (fl fc:Nat) (ta:Option Addr) (n tc:Nat) (zN sN:Nat) (s:SV) (ts:List TV):Prop where
 hst:p.st=(zN:Int)
 hsy:p.sy=(sN:Int)
 hsf:s.f=sq
 hpl:ts.map (fun t=>(t.f,t.g,t.t))=ofT zN sN ls ls.length
 hP:∀ r∈ls,PtOk zN sN r
 hx:∀ t∈ts,XIs W S t.x.f (eV S)
 ain:AIn W 2 2 ⟨s,((zN+sumN ls:Nat):Int),p.sy,fa,fl,fc,dP (ofF zN ls ls.length) (zN+sumN ls),ta,n,tc,ts⟩
 aE:fM ⟨s,((zN+sumN ls:Nat):Int),p.sy,fa,fl,fc,dP (ofF zN ls ls.length) (zN+sumN ls),ta,n,tc,ts⟩=0
 n4:zN+sumN ls≤4096
theorem QO.below {W W':World} {S:PS} {p:PV} {ls:List GV} {sq:SF} {fa:Option Addr} {fl fc:Nat} {ta:Option Addr} {n tc zN sN:Nat} {s:SV} {ts:List TV} (h:QO W S p ls sq fa fl fc ta n tc zN sN s ts) (hb:Below W.heap.size W W'):QO W' S p ls sq fa fl fc ta n tc zN sN s ts:=⟨h.hst,h.hsy,h.hsf,h.hpl,h.hP,fun t ht=>(h.hx t ht).below hb,h.ain.below hb,h.aE,h.n4⟩
theorem QO.good {W:World} {S:PS} {p:PV} {ls:List GV} {sq:SF} {fa:Option Addr} {fl fc:Nat} {ta:Option Addr} {n tc zN sN:Nat} {s:SV} {ts:List TV} (h:QO W S p ls sq fa fl fc ta n tc zN sN s ts):∀ t∈ts,(0≤t.f∧t.f < ((zN+sumN ls:Nat):Int))∧(0≤t.g∧t.g < (sN:Int))∧(zN:Int)≤t.t∧t.t < ((zN+sumN ls:Nat):Int):=fun t ht=>by
 have h1:(t.f,t.g,t.t)∈ts.map (fun t=>(t.f,t.g,t.t)):=List.mem_map.2 ⟨t,ht,rfl⟩
 rw [h.hpl] at h1
 exact Ds h.hP h1
theorem qo_of {W:World} {S:PS} {px:RV→PX} {p:PV} {ls:List GV} {sq:SF} {fa ta:Option Addr} {fl fc tc zN sN:Nat} {ns:List T9} (hpk:PdsOk W S px p) (hli:∀ r∈ls,DIn W r.d) (hE:lD p ls=0) (hz:p.st=(zN:Int)) (hs:p.sy=(sN:Int)) (hsi:SIs W S sq) (hA:AuO (some S) (ofT zN sN ls ls.length) (dP (ofF zN ls ls.length) (zN+sumN ls)) W sq fa ta ns) (hfl:(dP (ofF zN ls ls.length) (zN+sumN ls)).length=fl):∃ s ts,QO W S p ls sq fa fl fc ta ns.length tc zN sN s ts:=by
 have hok:=hpk.ok
 have hpE:dX p=0:=hpk.chk
 have hoE:gB p ls=0:=by
  unfold lD at hE
  rw [if_neg (fun h=>h hpE)] at hE;exact hE
 obtain ⟨hpe,hsN,hsT⟩:=sX hoE
 have hP:=ptOk_of hpe hli hz hs
 have h4:zN+sumN ls≤4096:=by omega
 obtain ⟨hsy0,hsy1⟩:=hpk.sy
 obtain ⟨s,ts,hsf,hss,hse,hl,hm,hc,htr⟩:=auto_of hok hsi hA
 have hpl:ts.map (fun t=>(t.f,t.g,t.t))=ofT zN sN ls ls.length:=by
  rw [← hA.pl]
  apply List.ext_getElem
  ·rw [List.length_map,List.length_map,hl]
  ·intro i h1 h2
   rw [List.length_map] at h1 h2
   obtain ⟨e1,e2,e3,_⟩:=hm i ts[i] ns[i] (List.getElem?_eq_getElem h1) (List.getElem?_eq_getElem h2)
   rw [List.getElem_map,List.getElem_map]
   unfold T9.pl
   rw [e1,e2,e3]
 have hgd:∀ t∈ts,(0≤t.f∧t.f < ((zN+sumN ls:Nat):Int))∧(0≤t.g∧t.g < (sN:Int))∧(zN:Int)≤t.t∧t.t < ((zN+sumN ls:Nat):Int):=fun t ht=>by
  have h1:(t.f,t.g,t.t)∈ts.map (fun t=>(t.f,t.g,t.t)):=List.mem_map.2 ⟨t,ht,rfl⟩
  rw [hpl] at h1
  exact Ds hP h1
 have hnl:ns.length≤65536:=by
  have h9:=congrArg List.length hA.pl
  rw [List.length_map] at h9
  have h8:=rZ (z:=zN) (s:=sN) (ls:=ls) (k:=ls.length) (Nat.le_refl _)
  rw [List.take_of_length_le (Nat.le_refl _),← hs] at h8
  omega
 have hel:=mN (fb:=ofF zN ls ls.length) (n:=zN+sumN ls)
 refine ⟨s,ts,hz,hs,hsf,hpl,hP,fun t ht=>(hc t ht).2.2,⟨hss,hA.f,hfl,htr,hl,fun t ht=>(hc t ht).1,?_,?_⟩,?_,h4⟩
 ·dsimp only;omega
 ·dsimp only;omega
 ·unfold fM
  dsimp only
  have hsh:fT ((zN+sumN ls:Nat):Int) p.sy (dP (ofF zN ls ls.length) (zN+sumN ls)) ts=true:=by
   unfold fT
   rw [if_neg (by omega),Jq,Bool.true_and]
   refine List.all_eq_true.2 fun t ht=>?_
   have h9:=hgd t ht
   unfold trB
   simp only [inQ,Bool.and_eq_true,decide_eq_true_eq]
   omega
  rw [if_neg (fun h=>h hse),if_neg (by omega),if_neg (by rw [hsh];decide),if_pos (List.all_eq_true.2 fun t ht=>decide_eq_true (hc t ht).2.1)]
def ofB (ls:List GV) (c:CV):Bool:=ls.any (fun r=>decide (r.p=c.p) && wN r.d.ns r.d.bs c.ws)
theorem Fw {W:World} {S:PS} {p:PV} {ls:List GV} {d:CV} {sq:SF} {fa:Option Addr} {fl fc:Nat} {ta:Option Addr} {n tc zN sN:Nat} {s:SV} {ts:List TV} (hok:S.ok) (hs:SIs W S sq) (hQ:QO W S p ls sq fa fl fc ta n tc zN sN s ts) (hd:CIn W d) (hdm:d.wl≤9223372036854775807) (hdE:fA p d=0) :
  Calls prog 12 #[.agg #[.int .i64 sq.tag,.int .i64 sq.dim,.slice sq.a sq.len sq.cap,.int .i64 ((zN+sumN ls:Nat):Int),.int .i64 p.sy,.slice fa fl fc,.slice ta n tc],.bool true,.int .i64 d.p,.slice d.wa d.wl d.wc] W fun e w'=>∃ f:WF,e = .returned (.tuple #[f.val,.int .i64 0])∧XIs w' S f (wP S (ofB ls d))∧Below W.heap.size W w':=by
 have hsf:=hQ.hsf
 subst hsf
 obtain ⟨_,hdp,_,hdw⟩:=wS hdE
 rw [hQ.hst] at hdp
 obtain ⟨D,hD,hDlt⟩:=uV hdp
 have ha:=hQ.ain
 have hask:A8 ⟨s,((zN+sumN ls:Nat):Int),p.sy,fa,fl,fc,dP (ofF zN ls ls.length) (zN+sumN ls),ta,n,tc,ts⟩ [d.p] d.ws=0:=by
  unfold A8
  rw [if_neg (fun h=>h hQ.aE),if_pos,if_pos hdw]
  simp only [List.all_cons,List.all_nil,Bool.and_true,inQ,Bool.and_eq_true,decide_eq_true_eq]
  omega
 refine (Jm 2 2 s (zN+sumN ls) p.sy fa fl fc _ ta n tc ts W ha.s ha.frow ha.flen ha.trow ha.tlen ha.tin ha.fmax ha.tmax S hs hok hQ.n4 true d.p D hD (by omega) d.wa d.wl d.wc d.ws hd.row hd.len hdm (fun _=>eV S) (fun t ht=>?_) hQ.hx (fun t ht=>(hQ.good t ht).2.1.1) hask).mono ?_
 ·have h9:=hQ.good t ht
  simp only [inQ,Bool.and_eq_true,decide_eq_true_eq]
  omega
 rintro e w' ⟨f,rfl,hx,hb⟩
 refine ⟨f,rfl,?_,hb⟩
 rw [Hv hok (fun t ht=>by
  have h9:=hQ.good t ht
  exact ⟨t.f.toNat,t.t.toNat,by omega,by omega,by omega,by omega⟩) d.ws D (by omega),hQ.hpl,acc_of hQ.hP hQ.n4 hDlt d.ws (fun g hg=>by
  have h9:=List.all_eq_true.1 hdw g hg
  have h8:=hQ.hsy
  simp only [inQ,Bool.and_eq_true,decide_eq_true_eq] at h9
  omega)] at hx
 unfold ofB
 rw [hD]
 exact hx
theorem Fx {W:World} {S:PS} {px:RV→PX} {p:PV} {ls:List GV} {sq:SF} {fa:Option Addr} {fl fc:Nat} {ta:Option Addr} {n tc zN sN ds d:Nat} {s:SV} {ts:List TV} (hp:PvIn W ds d p) (hpk:PdsOk W S px p) (hs:SIs W S sq) (hQ:QO W S p ls sq fa fl fc ta n tc zN sN s ts) :
  Calls prog 14 #[p.val,.agg #[.int .i64 sq.tag,.int .i64 sq.dim,.slice sq.a sq.len sq.cap,.int .i64 ((zN+sumN ls:Nat):Int),.int .i64 p.sy,.slice fa fl fc,.slice ta n tc]] W fun e w'=>e = .returned (.int .i64 0)∧Below W.heap.size W w':=by
 have hsf:=hQ.hsf
 subst hsf
 have h0:jT p ⟨s,((zN+sumN ls:Nat):Int),p.sy,fa,fl,fc,dP (ofF zN ls ls.length) (zN+sumN ls),ta,n,tc,ts⟩ true=0:=by
  unfold jT
  rw [if_neg (fun h=>h hpk.chk),if_neg (fun h=>h hQ.aE),if_neg,if_pos]
  ·refine List.all_eq_true.2 fun t ht=>?_
   have h9:=hQ.good t ht
   have h8:=hQ.hst
   unfold I1
   simp only [Bool.and_eq_true,decide_eq_true_eq]
   omega
  ·rintro (h | h | h)
   ·cases h
   ·exact h rfl
   ·have h1:=hQ.hst
    dsimp only at h;omega
 refine (I4 ds d 2 2 p S S true _ W hp hQ.ain (fun _=>hpk.si) (fun _=>hs) ⟨fun _=>rfl,fun _=>rfl⟩).mono fun e w' h=>⟨?_,h.2⟩
 rw [h.1,h0]
def FBad (p:PV) (ls:List GV) (w:World) (e:Ending) (w':World):Prop:=e = .returned (.tuple #[.agg #[.int .i64 0,.int .i64 0,.slice none 0 0,.int .i64 0,.int .i64 0,.slice none 0 0,.slice none 0 0],.int .i64 (lD p ls)])∧Below w.heap.size w w'
def FGood (S:PS) (p:PV) (ls:List GV) (zN sN:Nat) (w:World) (e:Ending) (w':World):Prop:=∃ (sq:SF) (fa ta:Option Addr) (fc tc:Nat) (ns:List T9),e = .returned (.tuple #[.agg #[.int .i64 sq.tag,.int .i64 sq.dim,.slice sq.a sq.len sq.cap,.int .i64 ((zN+sumN ls:Nat):Int),.int .i64 p.sy,.slice fa (dP (ofF zN ls ls.length) (zN+sumN ls)).length fc,.slice ta (ofT zN sN ls ls.length).length tc],.int .i64 0])∧AuO (some S) (ofT zN sN ls ls.length) (dP (ofF zN ls ls.length) (zN+sumN ls)) w' sq fa ta ns∧ns.length=(ofT zN sN ls ls.length).length∧SIs w' S sq∧Below w.heap.size w w'
theorem H0 {S:PS} {p:PV} {ls:List GV} {w w':World} {e:Ending} (h:QOf S p ls w e w') (hE:lD p ls≠0):FBad p ls w e w':=by
 obtain ⟨hb,⟨_,h1⟩ | ⟨h1,_⟩⟩:=h
 ·exact ⟨h1,hb⟩
 ·exact absurd h1 hE
theorem Dt {S:PS} {p:PV} {ls:List GV} {w w':World} {e:Ending} {zN sN:Nat} (hok:S.ok) (hz:p.st=(zN:Int)) (hs:p.sy=(sN:Int)) (h:QOf S p ls w e w') (hE:lD p ls=0):FGood S p ls zN sN w e w':=by
 obtain ⟨hb,⟨h1,_⟩ | ⟨_,zN2,sN2,sq,fv,tv,ms,hz2,hs2,rfl,hsi,hf,hms,ht,hx⟩⟩:=h
 ·exact absurd hE h1
 ·obtain rfl:zN=zN2:=by omega
  obtain rfl:sN=sN2:=by omega
  obtain ⟨fa,fc,rfl,_⟩:=kY hf
  obtain ⟨ta,tc,rfl,_⟩:=kY ht
  have hl:ms.length=(ofT zN sN ls ls.length).length:=by rw [← hms,List.length_map]
  refine ⟨sq,fa,ta,fc,tc,ms,by rw [hl],⟨⟨hok,hsi⟩,?_,Fu ht,fun S2 e2 r hr=>?_,(fun e2=>by cases e2),hms⟩,hl,hsi,hb⟩
  ·exact RowN.row (show RowN w.heap.size w' fa fc _ from hf)
  ·cases e2;exact hx r hr
theorem goes_14:bW prog 14=true:=by kernel_rfl
theorem goes_4:bW prog 4=true:=by kernel_rfl
theorem goes_15:bW prog 15=true:=by kernel_rfl
theorem ex_one {w:World} {b1 b2:Nat} {a:Option Addr} (hp:PvIn w 1 1 (exP b1 b2)) (hr:Row w a [0,2]):Calls prog 15 #[(exP b1 b2).val,.agg #[.int .i64 1,.slice a 2 2]] w fun e w'=>∃ (sq:SF) (B T tc:Nat),e = .returned (.tuple #[.agg #[.int .i64 sq.tag,.int .i64 sq.dim,.slice sq.a sq.len sq.cap,.int .i64 4,.int .i64 3,.slice (some ⟨B,0,none⟩) 1 1,.slice (some ⟨T,0,none⟩) 2 tc],.int .i64 0])∧w.heap.size≤B∧w.heap.size≤T∧w'.cell? ⟨B,0,none⟩=some (.int .i64 3)∧w'.cell? ⟨T,9,none⟩=some (.int .i64 2)∧w'.cell? ⟨T,10,none⟩=some (.int .i64 2)∧Below w.heap.size w w':=by
 obtain ⟨S,px,hpx⟩:=Da hp
 have hE:dX (exP b1 b2)=0:=by
  have h9:=(M4 (w:=w) (b1:=b1) (b2:=b2) (b3:=0) _ rfl).chk
  by_cases h8:dX (exP b1 b2)=0
  ·exact h8
  ·unfold fA at h9;rw [if_pos h8] at h9;exact h9
 refine (Fi 1 1 (exP b1 b2) 1 a 2 2 [0,2] w hp hr rfl (by decide) S px hpx).mono ?_
 have hs:fA (exP b1 b2) ⟨1,a,2,2,[0,2]⟩=0:=by
  unfold fA
  rw [hE];rfl
 have ho:qD (exP b1 b2) ⟨1,a,2,2,[0,2]⟩=0:=by
  unfold qD
  rw [hs];rfl
 rintro e w' ⟨hb,⟨h1,_⟩ | ⟨_,sq,B,ta,tc,ns,rfl,hB,_,hrow,hns,hown,_⟩⟩
 ·exact absurd ho h1
 ·have hc:chL (2:Int) 1 [0,2] 2=[(1,0,2),(2,2,3)]:=by rfl
  have hns':ns.map T9.pl=[(1,0,2),(2,2,3)]:=hns.trans hc
  match ns,hns' with
  | [⟨f1,g1,t1,x1⟩,⟨f2,g2,t2,x2⟩],hns' =>
   simp only [List.map_cons,List.map_nil,List.cons.injEq,Prod.mk.injEq,and_true] at hns'
   obtain ⟨⟨rfl,rfl,rfl⟩,rfl,rfl,rfl⟩:=hns'
   rcases fX hown with ⟨_,h0⟩ | ⟨T,rfl,hT,hc9⟩
   ·exact absurd h0 (by simp)
   ·refine ⟨sq,B,T,tc,rfl,hB,hT,?_,hc9 9 _ rfl,hc9 10 _ rfl,hb⟩
    obtain ⟨b,off,y,e1,hy,hyc⟩:=hrow.at1 (i:=0) (by simp)
    cases e1
    cases hy
    exact hyc
  | [],h=>simp at h
  | [_],h=>simp at h
  | _::_::_::_,h=>simp at h
theorem Jr (w:World) :
  Calls prog 4 #[] w (fun e w'=>e = .returned (.bool (true))∧Below w.heap.size w w'):=by
 refine cG (args:=[]) func4 rfl ntmps4 rfl ?_
 have hS:=St.start w
 refine aO (aR (aB rfl rfl (aQ (XF.thenN (aO (aR (dC (vs:=[]) hS goes_16 rfl (Ft _) rfl ?_)))))))
 rintro e W1 ⟨b1,b2,rfl,hex,hb⟩
 refine ⟨_,rfl,hb,fun hS'=>?_⟩
 clear hS;have hS:=hS';clear hS' hb
 refine dE (us:=[(0,.int .i64 _),(1,.int .i64 _)]) hS underlying30 sizeOf3 zeroValue3 rfl rfl rfl (F7 _ _) rfl fun B2 W2 hS=>cY (us:=[(0,.int .i64 _),(1,.slice _ _ _)]) rfl (D8 _ _ _ _) rfl ?_
 have hp9:=hex _ (hS.since 0 rfl)
 refine dC (vs:=[_,_]) hS goes_15 rfl (ex_one hp9 (row2 (hS.at_ 0 rfl))) rfl ?_
 rintro e W3 ⟨sq,BF,BT,tc,rfl,hB9,hT9,kB,kT1,kT2,hb⟩
 refine ⟨_,rfl,hb,fun hS'=>?_⟩
 clear hS;have hS:=hS';clear hS'
 refine aI rfl rfl (cI rfl rfl rfl (cI rfl rfl rfl (bU (cs:=[_,_,_,_,_,_,_]) hS zeroValue42 rfl rfl fun B4 W4 hS=>bB (i:=0) (vs:=[_,_,_,_,_,_,_]) (cs':=[_,_,_,_,_,_,_]) (O':=[_,_]) hS sizeOf42 rfl rfl rfl rfl rfl rfl rfl fun W5 hS=>aB rfl rfl (aQ (XF.thenN (aO ?_))))))
 have k1:=(hS.since 0 rfl).cell hB9 kB
 have k2:=(hS.since 0 rfl).cell hT9 kT1
 have k3:=(hS.since 0 rfl).cell hT9 kT2
 refine aR (aI rfl rfl (cM rfl rfl rfl (aI rfl rfl (bG (d:=12) rfl (fun hc=>?_) (fun hc=>absurd (of_decide_eq_false hc) (by decide))))))
 have hc:=of_decide_eq_true hc
 refine aC (d:=12) rfl rfl (aN (o':=3) dO rfl rfl rfl (aC (d:=12) rfl rfl (aT isAgg3 rfl (aJ (hS.at_ 0 rfl) rfl) rfl (aC (d:=12) rfl rfl (cM rfl rfl rfl (aY rfl rfl rfl (aI rfl rfl (bG (d:=17) rfl (fun hc=>?_) (fun hc=>absurd (of_decide_eq_false hc) (by decide))))))))))
 have hc:=of_decide_eq_true hc
 refine aC (d:=17) rfl rfl (aN (o':=6) dA rfl rfl rfl (aC (d:=17) rfl rfl (aT isAgg40 rfl (aJ (hS.at_ 0 rfl) rfl) rfl (aC (d:=17) rfl rfl (bX underlying40 rfl rfl (aC (d:=17) rfl rfl (cM rfl rfl rfl (aY rfl rfl rfl (aI rfl rfl (bG (d:=23) rfl (fun hc=>?_) (fun hc=>absurd (of_decide_eq_false hc) (by decide))))))))))))
 have hc:=of_decide_eq_true hc
 refine aC (d:=23) rfl rfl (aN (o':=6) dA rfl rfl rfl (aC (d:=23) rfl rfl (aT isAgg40 rfl (aJ (hS.at_ 0 rfl) rfl) rfl (aC (d:=23) rfl rfl (cJ (j:=1) underlying40 sizeOf67 rfl rfl rfl (by omega) rfl rfl (aC (d:=23) rfl rfl (aN kA rfl rfl rfl (aC (d:=23) rfl rfl (aT isAgg3 rfl (k3) rfl (aC (d:=23) rfl rfl (cM rfl rfl rfl (aY rfl rfl rfl (aI rfl rfl (bG (d:=31) rfl (fun hc=>?_) (fun hc=>absurd (of_decide_eq_false hc) (by decide))))))))))))))))
 have hc:=of_decide_eq_true hc
 refine aC (d:=31) rfl rfl (aN (o':=6) dA rfl rfl rfl (aC (d:=31) rfl rfl (aT isAgg40 rfl (aJ (hS.at_ 0 rfl) rfl) rfl (aC (d:=31) rfl rfl (cJ (j:=1) underlying40 sizeOf67 rfl rfl rfl (by omega) rfl rfl (aC (d:=31) rfl rfl (aN pK rfl (Nat.add_zero _) rfl (aC (d:=31) rfl rfl (aT isAgg3 rfl (k2) rfl (aC (d:=31) rfl rfl (cM rfl rfl rfl (aY rfl rfl rfl (aI rfl rfl (bG (d:=39) rfl (fun hc=>?_) (fun hc=>absurd (of_decide_eq_false hc) (by decide))))))))))))))))
 have hc:=of_decide_eq_true hc
 refine aC (d:=39) rfl rfl (aN (o':=5) eB rfl rfl rfl (aC (d:=39) rfl rfl (aT isAgg30 rfl (aJ (hS.at_ 0 rfl) rfl) rfl (aC (d:=39) rfl rfl (bX underlying30 rfl rfl (aC (d:=39) rfl rfl (cM rfl rfl rfl (aY rfl rfl rfl (aI rfl rfl (bG (d:=45) rfl (fun hc=>?_) (fun hc=>absurd (of_decide_eq_false hc) (by decide))))))))))))
 have hc:=of_decide_eq_true hc
 refine aC (d:=45) rfl rfl (aN (o':=5) eB rfl rfl rfl (aC (d:=45) rfl rfl (aT isAgg30 rfl (aJ (hS.at_ 0 rfl) rfl) rfl (aC (d:=45) rfl rfl (cJ (j:=0) underlying30 sizeOf3 rfl rfl rfl (by omega) (Nat.add_zero _) rfl (aC (d:=45) rfl rfl (aT isAgg3 rfl (k1) rfl (aC (d:=45) rfl rfl (cM rfl rfl rfl (aY rfl rfl rfl (aB rfl rfl (aQ (XF.thenN (bM (XF.res (bV results4 rfl) ?_)))))))))))))))
 exact ⟨rfl,hS.below⟩
theorem goes_10:bW prog 10=true:=by kernel_rfl
theorem goes_12:bW prog 12=true:=by kernel_rfl
theorem M8:bW prog 5=true:=by kernel_rfl
theorem M9:bW prog 6=true:=by kernel_rfl
theorem Na:bW prog 7=true:=by kernel_rfl
theorem wT (ds d9:Nat) (p:PV) (la:Option Addr) (ll lc:Nat) (ls:List GV) (c:CV) (w:World) (hp:PvIn w ds d9 p) (hlr:wD w la ls) (hln:ls.length=ll) (hli:∀ r∈ls,DIn w r.d) (hlm:ll≤9223372036854775807) (hlc:ll≤lc) (hcc:CIn w c) (hcm:c.wl≤9223372036854775807) :
  Calls prog 3 #[p.val,.slice la ll lc,c.val] w (fun e w'=>e = .returned (.bool (true))∧Below w.heap.size w w'):=by
 refine cG (args:=[p.val,.slice la ll lc,c.val]) func3 rfl ntmps3 rfl ?_
 have hS:=St.start w
 obtain ⟨S,px,hpx⟩:=Da hp
 refine aO (aR (bQ (cs:=[_,_,_,_,_,_]) hS rfl rfl rfl fun B1 W1 hS=>bQ (cs:=[_,_]) hS rfl rfl rfl fun B2 W2 hS=>aB rfl rfl (aQ (XF.thenN (aO (aO (aR (bT (vs:=[]) hS goes_4 rfl (Jr _) rfl fun W3 hS=>dV rfl rfl (aQ (XF.thenN (F3 rfl (bH (XF.thenN (joinF (fun l W=>∃ (kl kc:Nat) (ks:List GV),l=[(1,.slice la kl kc),(3,.pointer (some ⟨B1,0,none⟩)),(5,.pointer (some ⟨B2,0,none⟩))]∧ks.length=kl∧kl≤8∧wD w la ks∧(∀ r∈ks,DIn w r.d)∧St w [(B2,[.int .i64 c.p,.slice c.wa c.wl c.wc],32),(B1,p.six,28)] [] [] W) ?_ ?_))))))))))))))
 ·clear hS
  rintro _ W ⟨kl,kc,ks,rfl,hkl,hk8,hkr,hki,hS⟩
  refine aO (aR (aB rfl rfl (aQ (XF.thenN (aO (aO (aR (aB rfl rfl (aQ (XF.thenN (bI (cX (fun m l W=>∃ (i:Nat) (s7:Int),i≤kl∧m=kl - i∧0≤s7∧s7≤1000 * (i:Int)∧l=[(1,.slice la kl kc),(3,.pointer (some ⟨B1,0,none⟩)),(5,.pointer (some ⟨B2,0,none⟩)),(7,.int .i64 s7),(8,.int .i64 (i:Int))]∧St w [(B2,[.int .i64 c.p,.slice c.wa c.wl c.wc],32),(B1,p.six,28)] [] [] W) (kl - 0) ([(1,_),(3,_),(5,_),(7,_),(8,_)]) ⟨rfl,rfl,rfl,rfl,rfl,trivial⟩ (⟨0,_,Nat.zero_le _,rfl,Int.le_refl _,by omega,rfl,hS.clear⟩) ?_))))))))))))
  clear hS
  rintro m l W ⟨i,s7,hi,rfl,h70,h71,rfl,hS⟩
  refine aO (aO (aR (aI rfl rfl (aI rfl rfl (bX underlying29 rfl rfl (cC rfl rfl rfl (aQ (XF.thenN (bC rfl (fun hc=>?_) (fun hc=>?_))))))))))
  ·have hc27:=of_decide_eq_true hc;clear hc
   have hk:i < kl:=by omega
   obtain ⟨r,hr⟩:∃ r,ks[i]?=some r:=⟨ks[i]'(by omega),by simp [show i < ks.length by omega]⟩
   obtain ⟨b,off,rfl,hcs⟩:=hkr i r hr
   have k1:=aK.agree hS.agree (Nat.zero_le _) hcs
   refine bH (XF.thenN (aO (bI (aR (aI rfl rfl (aI rfl rfl (aI rfl rfl (cJ  underlying29 sizeOf39 rfl rfl rfl (by omega) rfl rfl (aN gF rfl rfl rfl (aN eA rfl rfl rfl (aT isAgg34 rfl (k1.2.2.1) rfl (bX underlying34 rfl rfl (E4 rfl rfl rfl (cE rfl rfl (IntWalk.i64_in _ (by omega)) rfl (aB rfl rfl (aQ (XF.blkN (XF.thenN (aR (aI rfl rfl (cE rfl rfl (IntWalk.i64_in _ (by omega)) rfl (aB rfl rfl (aQ ?_)))))))))))))))))))))))
   exact XF.round (kl - (i+1)) [(1,_),(3,_),(5,_),(7,_),(8,_)] (by omega) ⟨rfl,rfl,rfl,rfl,rfl,trivial⟩ ⟨i+1,_,by omega,rfl,by omega,by omega,rfl,hS.clear⟩
  ·have hc27:=of_decide_eq_false hc;clear hc
   refine cW (XF.thenX (XF.thenX (XF.blkX (XF.thenN (aO (aO (aR (aI rfl rfl (dS rfl rfl rfl (aI rfl rfl (bG (d:=42) rfl (fun hc=>?_) (fun hc=>?_))))))))))))
   ·have hg42:=of_decide_eq_true hc;clear hc
    refine aF (d:=42) rfl rfl rfl rfl (aF (d:=42) rfl rfl rfl rfl (aF (d:=42) rfl rfl rfl rfl (aY rfl rfl rfl (aQ (XF.thenN (cU rfl (aO (aR (aB rfl rfl (aQ (XF.thenN (bM (XF.thenR (XF.res (bV results3 rfl) ?_))))))))))))))
    exact ⟨rfl,hS.below⟩
   ·have hg42:=of_decide_eq_false hc;clear hc
    refine aC (d:=42) rfl rfl (aN (o':=4) eE rfl rfl rfl (aC (d:=42) rfl rfl (aT isAgg3 rfl (aJ (hS.at_ 1 rfl) rfl) rfl (aC (d:=42) rfl rfl (dS rfl rfl rfl (bN rfl rfl rfl (aQ (XF.thenN (bC rfl (fun hc=>?_) (fun hc=>?_))))))))))
    ·have hc46:=of_decide_eq_true hc;clear hc
     refine aO (aR (aB rfl rfl (aQ (XF.thenN (bM (XF.thenR (XF.res (bV results3 rfl) ?_)))))))
     exact ⟨rfl,hS.below⟩
    ·have hc46:=of_decide_eq_false hc;clear hc
     refine bH (XF.thenN (aO ?_))
     by_cases hE:lD p ks=0
     ·have hpE:dX p=0:=by
       unfold lD at hE
       by_cases h:dX p≠0
       ·rw [if_pos h] at hE;exact hE
       ·exact Decidable.of_not_not h
      have hoE:gB p ks=0:=by
       unfold lD at hE
       rw [if_neg (fun h=>h hpE)] at hE;exact hE
      have hpk:=hpx hpE
      obtain ⟨hpe9,hsN9,hsT9⟩:=sX hoE
      have hst9:=hpk.st
      have hsy9:=hpk.sy
      obtain ⟨zN,hz⟩:∃ n:Nat,p.st=(n:Int):=⟨p.st.toNat,by omega⟩
      obtain ⟨sN,hs⟩:∃ n:Nat,p.sy=(n:Int):=⟨p.sy.toNat,by omega⟩
      have hel:=mN (fb:=ofF zN ks ks.length) (n:=zN+sumN ks)
      have hot:(ofT zN sN ks ks.length).length≤65536:=by
       have h8:=rZ (z:=zN) (s:=sN) (ls:=ks) (k:=ks.length) (Nat.le_refl _)
       rw [List.take_of_length_le (Nat.le_refl _),← hs] at h8
       omega
      have hRoot:=hS.below
      have hR12:=hRoot
      have kp12:aK W B1 0 p.six:=aK.own (j:=0) (m:=6) (hS.at_ 1 rfl) rfl
      have kc12:aK W B2 0 [.int .i64 c.p,.slice c.wa c.wl c.wc]:=aK.own (j:=0) (m:=2) (hS.at_ 0 rfl) rfl
      have hp12:=hp.below hRoot
      have hc12:=hcc.below hRoot
      have hk12:=hpk.below hRoot
      have hr12:=hkr.below hRoot
      have hi12:=fun r hr=>(hki r hr).below hRoot
      clear hS;have hS:=St.start W
      refine aR (aU (vs:=[_,_,_,_,_,_]) isAgg28 sizeOf28 rfl (kp12) rfl (aI rfl rfl (dC (vs:=[_,_]) hS M8 rfl ((yT ds d9 p la kl kc ks _ (hp12.below hS.below) (hr12.below hS.below) hkl (fun r hr=>(hi12 r hr).below hS.below) (by omega) S px (fun h=>(hk12).below hS.below)).mono fun e w2 h=>Dt hpk.ok hz hs h hE) rfl ?_)))
      rintro e W4 ⟨sq1,fa1,ta1,fc1,tc1,ns1,rfl,hA1,hn1,hs1,hb⟩
      refine ⟨_,rfl,hb,fun hS'=>?_⟩
      clear hS;have hS:=hS';clear hS'
      have hb1:=hb
      clear hb
      refine aI rfl rfl (cI rfl rfl rfl (cI rfl rfl rfl (bU (cs:=[_,_,_,_,_,_,_]) hS zeroValue42 rfl rfl fun B5 W5 hS=>bB (i:=0) (vs:=[_,_,_,_,_,_,_]) (cs':=[_,_,_,_,_,_,_]) (O':=[_]) hS sizeOf42 rfl rfl rfl rfl rfl rfl rfl fun W6 hS=>aB rfl rfl (aQ (XF.thenN (aO ?_))))))
      have hRoot:=hS.below
      have hR13:=hRoot
      have kp13:=aK.agree hS.agree (Nat.zero_le _) kp12
      have kc13:=aK.agree hS.agree (Nat.zero_le _) kc12
      have hp13:=hp12.below hRoot
      have hc13:=hc12.below hRoot
      have hk13:=hk12.below hRoot
      have hr13:=hr12.below hRoot
      have hi13:=fun r hr=>(hi12 r hr).below hRoot
      have hA13:=hA1.below (nI rfl hb1 hS.below (hS.since 0 rfl))
      have hs13:=hs1.below (nI rfl hb1 hS.below (hS.since 0 rfl))
      have ka13:aK W6 B5 0 [.int .i64 sq1.tag,.int .i64 sq1.dim,.slice sq1.a sq1.len sq1.cap,.int .i64 ((zN+sumN ks:Nat):Int),.int .i64 p.sy,.slice fa1 (dP (ofF zN ks ks.length) (zN+sumN ks)).length fc1,.slice ta1 (ofT zN sN ks ks.length).length tc1]:=aK.own (j:=0) (m:=7) (hS.at_ 0 rfl) rfl
      clear hA1 hs1 hb1
      clear hS;have hS:=St.start W6
      refine aR (aU (vs:=[_,_,_,_,_,_]) isAgg28 sizeOf28 rfl (kp13) rfl (aI rfl rfl (dC (vs:=[_,_]) hS M9 rfl ((wR ds d9 p la kl kc ks _ (hp13.below hS.below) (hr13.below hS.below) hkl (fun r hr=>(hi13 r hr).below hS.below) (by omega) S px (fun h=>(hk13).below hS.below)).mono fun e w2 h=>Dt hpk.ok hz hs h hE) rfl ?_)))
      rintro e W7 ⟨sq2,fa2,ta2,fc2,tc2,ns2,rfl,hA2,hn2,hs2,hb⟩
      refine ⟨_,rfl,hb,fun hS'=>?_⟩
      clear hS;have hS:=hS';clear hS'
      have hb1:=hb
      clear hb
      refine aI rfl rfl (cI rfl rfl rfl (cI rfl rfl rfl (bU (cs:=[_,_,_,_,_,_,_]) hS zeroValue42 rfl rfl fun B8 W8 hS=>bB (i:=0) (vs:=[_,_,_,_,_,_,_]) (cs':=[_,_,_,_,_,_,_]) (O':=[_]) hS sizeOf42 rfl rfl rfl rfl rfl rfl rfl fun W9 hS=>aB rfl rfl (aQ (XF.thenN (aO (aO ?_)))))))
      have hRoot:=hS.below
      have hR14:=hRoot
      have kp14:=aK.agree hS.agree (Nat.zero_le _) kp13
      have kc14:=aK.agree hS.agree (Nat.zero_le _) kc13
      have ka14:=aK.agree hS.agree (Nat.zero_le _) ka13
      have hp14:=hp13.below hRoot
      have hc14:=hc13.below hRoot
      have hk14:=hk13.below hRoot
      have hr14:=hr13.below hRoot
      have hA14:=hA13.below hRoot
      have hs14:=hs13.below hRoot
      have hi14:=fun r hr=>(hi13 r hr).below hRoot
      have hB14:=hA2.below (nI rfl hb1 hS.below (hS.since 0 rfl))
      have kb14:aK W9 B8 0 [.int .i64 sq2.tag,.int .i64 sq2.dim,.slice sq2.a sq2.len sq2.cap,.int .i64 ((zN+sumN ks:Nat):Int),.int .i64 p.sy,.slice fa2 (dP (ofF zN ks ks.length) (zN+sumN ks)).length fc2,.slice ta2 (ofT zN sN ks ks.length).length tc2]:=aK.own (j:=0) (m:=7) (hS.at_ 0 rfl) rfl
      obtain ⟨s9,ts9,hQ14⟩:=qo_of (fc:=fc1) (tc:=tc1) hk14 hi14 hE hz hs hs14 hA14 rfl
      rw [hn1] at hQ14
      clear hA2 hs2 hb1
      clear hS;have hS:=St.start W9
      refine aR (aU (vs:=[_,_,_,_,_,_,_]) isAgg42 sizeOf42 rfl (ka14) rfl (aU (vs:=[_,_,_,_,_,_,_]) isAgg42 sizeOf42 rfl (kb14) rfl (bT (vs:=[_,_]) hS Na rfl (yY (some S) (ofT zN sN ks ks.length) (dP (ofF zN ks ks.length) (zN+sumN ks)) sq1 sq2 ((zN+sumN ks:Nat):Int) p.sy _ _ ta1 ta2 _ _ _ _ tc1 tc2 ns1 ns2 _ (hA14.below hS.below) (hB14.below hS.below) rfl hn1 (by omega) (by omega)) rfl fun W10 hS=>dV rfl rfl (aI rfl rfl (aC (d:=63) rfl rfl (aI rfl rfl (aC (d:=63) rfl rfl (aI rfl rfl (aC (d:=63) rfl rfl (cN rfl rfl rfl (bN rfl rfl rfl (aQ (XF.thenN (bC rfl (fun hc=>absurd (of_decide_eq_true hc) (by exact fun h=>h rfl)) (fun hc=>?_)))))))))))))))
      have hc:=of_decide_eq_false hc
      refine bH (XF.thenN (aO (aO (aR (aI rfl rfl (cN rfl rfl rfl (aI rfl rfl (bG (d:=70) rfl (fun hc=>absurd (of_decide_eq_true hc) (by exact fun h=>h rfl)) (fun hc=>?_)))))))))
      have hc:=of_decide_eq_false hc
      refine aC (d:=70) rfl rfl (aU (vs:=[_,_,_,_,_,_]) isAgg28 sizeOf28 rfl ((aK.agree hS.agree (Nat.zero_le _) kp14)) rfl (aC (d:=70) rfl rfl (aU (vs:=[_,_]) isAgg32 sizeOf32 rfl ((aK.agree hS.agree (Nat.zero_le _) kc14)) rfl (aC (d:=70) rfl rfl (bT (vs:=[_,_]) hS goes_8 rfl (L4 ds d9 p c _ (hp14.below hS.below) (hc14.below hS.below)) rfl fun W11 hS=>aC (d:=70) rfl rfl (cN rfl rfl rfl (bN rfl rfl rfl (aI rfl rfl (bG (d:=76) rfl (fun hc=>?_) (fun hc=>?_))))))))))
      ·have hg76:=of_decide_eq_true hc;clear hc
       refine aF (d:=76) rfl rfl rfl rfl (aF (d:=76) rfl rfl rfl rfl (aF (d:=76) rfl rfl rfl rfl (aF (d:=76) rfl rfl rfl rfl (aY rfl rfl rfl (aQ (XF.thenN (cU rfl (aO (aR (aB rfl rfl (aQ (XF.thenN (bM (XF.thenR (XF.res (bV results3 rfl) ?_)))))))))))))))
       exact ⟨rfl,(((hR12).trans (hR13.mono (hR12.size))).trans (hR14.mono (Nat.le_trans (hR12.size) hR13.size))).trans (hS.below.mono (Nat.le_trans (Nat.le_trans (hR12.size) hR13.size) hR14.size))⟩
      ·have hg76:=of_decide_eq_false hc;clear hc
       have hcE:fA p c=0:=by omega
       refine aC (d:=76) rfl rfl (aN iB rfl rfl rfl (aC (d:=76) rfl rfl (aT isAgg30 rfl ((aK.agree hS.agree (Nat.zero_le _) kc14).2.1) rfl (aC (d:=76) rfl rfl (bX underlying30 rfl rfl (aC (d:=76) rfl rfl (dS rfl rfl rfl (bN rfl rfl rfl (aQ (XF.thenN (bC rfl (fun hc=>?_) (fun hc=>?_))))))))))))
       ·have hc81:=of_decide_eq_true hc;clear hc
        refine aO (aR (aB rfl rfl (aQ (XF.thenN (bM (XF.thenR (XF.res (bV results3 rfl) ?_)))))))
        exact ⟨rfl,(((hR12).trans (hR13.mono (hR12.size))).trans (hR14.mono (Nat.le_trans (hR12.size) hR13.size))).trans (hS.below.mono (Nat.le_trans (Nat.le_trans (hR12.size) hR13.size) hR14.size))⟩
       ·have hc81:=of_decide_eq_false hc;clear hc
        obtain ⟨_,_,_,hcw⟩:=wS hcE
        refine bH (XF.thenN (aO (aR (aN iJ rfl (Nat.add_zero _) rfl (aU (vs:=[_,_,_]) isAgg25 sizeOf25 rfl ((aK.agree hS.agree (Nat.zero_le _) (⟨kp14.1,kp14.2.1,kp14.2.2.1,trivial⟩:aK _ _ 0 [_,_,_]))) rfl (dC (vs:=[_]) hS Fo rfl (sY S p.s.f _ (hk14.si.below hS.below) hpk.ok) rfl ?_))))))
        rintro e W12 ⟨f3,rfl,hn3,hb⟩
        refine ⟨_,rfl,hb,fun hS'=>?_⟩
        clear hS;have hS:=hS';clear hS' hb
        have HN:iT W9 [(W11.heap.size,W12)] (fun W2=>XIs W2 S f3 (eN S)):=fun h2 hk=>(hn3.agree (h2.kept (W11.heap.size,W12) (hk _ List.mem_cons_self)).1).is
        refine bU (cs:=[_,_,_,_,_,_]) hS zeroValue56 rfl rfl fun B13 W13 hS=>bB (i:=0) (vs:=[_,_,_,_,_,_]) (cs':=[_,_,_,_,_,_]) (O':=[_]) hS sizeOf56 rfl rfl rfl rfl rfl rfl rfl fun W14 hS=>aQ (XF.thenN (aO (aO (aR (aB rfl rfl (aQ (XF.thenN (bI ?_))))))))
        refine cX (fun m l W=>∃ (i:Nat) (f:WF) (Kk:List (Nat×World)),i≤kl∧m=kl - i∧l=[(1,.slice la kl kc),(3,.pointer (some ⟨B1,0,none⟩)),(5,.pointer (some ⟨B2,0,none⟩)),(9,.pointer (some ⟨B5,0,none⟩)),(13,.pointer (some ⟨B13,0,none⟩)),(14,.int .i64 (i:Int))]∧iT W9 Kk (fun W2=>XIs W2 S f (wP S ((ks.take i).any (fun r:GV=>decide (r.p=c.p) && wN r.d.ns r.d.bs c.ws))))∧St W9 [(B13,f.six,56)] [] Kk W) (kl - 0) ([(1,_),(3,_),(5,_),(9,_),(13,_),(14,_)]) ⟨rfl,rfl,rfl,rfl,rfl,rfl,trivial⟩ (⟨0,f3,_,Nat.zero_le _,rfl,rfl,HN.more (fun q hq=>by simp at hq;simp [hq]),hS⟩) ?_
        clear hS
        rintro m l W ⟨i,f,Kk,hi,rfl,rfl,HN,hS⟩
        refine aO (aO (aR (aI rfl rfl (aI rfl rfl (bX underlying29 rfl rfl (cC rfl rfl rfl (aQ (XF.thenN (bC rfl (fun hc=>?_) (fun hc=>?_))))))))))
        ·have hc88:=of_decide_eq_true hc;clear hc
         have hk:i < kl:=by omega
         obtain ⟨r,hr⟩:∃ r,ks[i]?=some r:=⟨ks[i]'(by omega),by simp [show i < ks.length by omega]⟩
         obtain ⟨b,off,rfl,hcs⟩:=hr14 i r hr
         have hrm:=List.mem_of_getElem? hr
         obtain ⟨_,hde,hsr⟩:=rW (hpe9 r hrm)
         have hany:(ks.take (i+1)).any (fun r:GV=>decide (r.p=c.p) && wN r.d.ns r.d.bs c.ws)=((ks.take i).any (fun r:GV=>decide (r.p=c.p) && wN r.d.ns r.d.bs c.ws) || (decide (r.p=c.p) && wN r.d.ns r.d.bs c.ws)):=by rw [List.take_add_one,hr,List.any_append];simp
         have hws:∀ y∈c.ws,0≤y∧y < r.d.sy:=fun y hy=>by
          have h9:=List.all_eq_true.1 hcw y hy
          simp only [inQ,Bool.and_eq_true,decide_eq_true_eq] at h9
          omega
         have k1:=aK.agree hS.agree (Nat.zero_le _) hcs
         have k2:=aK.agree hS.agree (Nat.zero_le _) kc14
         refine bH (XF.thenN (aO (bI (aO ?_))))
         rcases Bool.eq_false_or_eq_true (decide (r.p=c.p)) with h22 | h22
         ·skip
          refine gP (m:=18) bY hS (by kernel_rfl) (by kernel_rfl) rfl (cB 1 rfl 1 rfl rfl (fun w hw=>aZ rfl) rfl (cB 2 rfl 14 rfl rfl (fun w hw=>aZ rfl) rfl (aM 3 rfl (isV _) (aH _) (rgV (li:=[(91,_),(92,_)]) rfl (aS rfl) ⟨aL 0 (aA rfl rfl rfl),aL 1 (aA rfl rfl rfl),trivial⟩ (fun w hw=>bA  underlying29 sizeOf39 rfl rfl rfl (by omega) rfl) (aD rfl)) (bD 4 rfl 93 2 rfl rfl rfl (fun w hw=>aV fB rfl (Nat.add_zero _)) rfl (bD 5 rfl 94 3 rfl rfl rfl (fun w hw=>aX isAgg3 rfl ((aP hw 0).cell (Nat.zero_le _) (k1.1))) rfl (cB 6 rfl 5 rfl rfl (fun w hw=>aV lH rfl (Nat.add_zero _)) rfl (bD 7 rfl 96 5 rfl rfl rfl (fun w hw=>aX isAgg3 rfl ((aP hw 0).cell (Nat.zero_le _) (k2.1))) rfl (aM 8 rfl (isV (.bool true)) (aH _) (jR (li:=[(95,_),(97,_)]) rfl (aS rfl) ⟨aL 4 (aA rfl rfl rfl),aL 6 (aA rfl rfl rfl),trivial⟩ (fun w hw=>mS rfl rfl) (congrArg Value.bool h22) (aD rfl)) (bD 9 rfl 98 7 rfl rfl rfl (fun w hw=>aZ rfl) rfl (aM 10 rfl (isV _) (aH _) (rgV (li:=[(1,_)]) rfl (bE 99 rfl (aA rfl rfl rfl)) ⟨bP rfl,trivial⟩ (fun w hw=>aZ rfl) (aD rfl)) (aM 11 rfl (isV _) (aH _) (rgV (li:=[(14,_)]) rfl (bE 99 rfl (aA rfl rfl rfl)) ⟨bP rfl,trivial⟩ (fun w hw=>aZ rfl) (aD rfl)) (aM 12 rfl (isV _) (aH _) (rgV (li:=[(100,_),(101,_)]) rfl (bE 99 rfl (aA rfl rfl rfl)) ⟨aL 9 (aA rfl rfl rfl),aL 10 (aA rfl rfl rfl),trivial⟩ (fun w hw=>bA  underlying29 sizeOf39 rfl rfl rfl (by omega) rfl) (aD rfl)) (aM 13 rfl (isV _) (aH _) (rgV (li:=[(102,_)]) rfl (bE 99 rfl (aA rfl rfl rfl)) ⟨aL 11 (aA rfl rfl rfl),trivial⟩ (fun w hw=>aV gF rfl rfl) (aD rfl)) (aM 14 rfl (isV _) (aH _) (rgV (li:=[(103,_)]) rfl (bE 99 rfl (aA rfl rfl rfl)) ⟨aL 12 (aA rfl rfl rfl),trivial⟩ (fun w hw=>bL (vs:=[_,_,_]) isAgg37 sizeOf37 rfl (aK.agree (aP hw 0) (Nat.zero_le _) (k1.2))) (aD rfl)) (aM 15 rfl (isV _) (aH _) (rgV (li:=[(5,_)]) rfl (bE 99 rfl (aA rfl rfl rfl)) ⟨bP rfl,trivial⟩ (fun w hw=>aV iB rfl rfl) (aD rfl)) (aM 16 rfl (isV _) (aH _) (rgV (li:=[(105,_)]) rfl (bE 99 rfl (aA rfl rfl rfl)) ⟨aL 14 (aA rfl rfl rfl),trivial⟩ (fun w hw=>aX isAgg30 rfl ((aP hw 0).cell (Nat.zero_le _) (k2.2.1))) (aD rfl)) ?_))))))))))))))))
          refine aM 17 rfl (isV (.bool (wN r.d.ns r.d.bs c.ws))) (aH _) (cP [isV _,isV _] rfl goes_10 (bE 99 rfl (aA rfl rfl rfl)) ⟨cD (aL 13 (aA rfl rfl rfl)),cD (aL 15 (aA rfl rfl rfl)),trivial⟩ (fun vs w' hb hh=>by have e:=bZ (us:=[_,_]) hh;subst e;exact (runs_is r.d.sy r.d.na r.d.nl r.d.nc r.d.ns r.d.aa r.d.al r.d.ac r.d.bs c.wa c.wl c.wc c.ws w' ((hi14 r hrm).below (hS.below.trans (hb.mono hS.below.size))) hde (hc14.row.below (hS.below.trans (hb.mono hS.below.size))) hc14.len hcm hws).mono fun e w2 h=>⟨_,h.1,rfl,h.2⟩) (aD rfl)) ?_
          refine aM 18 rfl (isV _) (aH _) (rgV (li:=[(99,_),(107,_)]) rfl (aS rfl) ⟨aL 8 (aA rfl rfl rfl),aL 16 (aA rfl rfl rfl),trivial⟩ (fun w hw=>dG rfl rfl) (aD rfl)) (dB ?_)
          intro W15 hbR hS'
          clear hS;have hS:=hS';clear hS'
          refine aG (aG (aG (aG (aG (aG (aG (aG (aG (aG (aG (aG (aG (aG (aG (aG (aG (aG (cH (XF.thenN (bC rfl (fun hc=>?_) (fun hc=>?_)))))))))))))))))))))
          ·have hc108:=hc;clear hc
           refine aR (aN iJ rfl (Nat.add_zero _) rfl (aU (vs:=[_,_,_]) isAgg25 sizeOf25 rfl ((aK.agree hS.agree (Nat.zero_le _) (⟨kp14.1,kp14.2.1,kp14.2.2.1,trivial⟩:aK _ _ 0 [_,_,_]))) rfl (dC (vs:=[_]) hS A7 rfl (wO S p.s.f _ (hk14.si.below hS.below) hpk.ok) rfl ?_)))
           rintro e W16 ⟨f4,rfl,hn4,hb⟩
           refine ⟨_,rfl,hb,fun hS'=>?_⟩
           clear hS;have hS:=hS';clear hS' hb
           have HN4:iT W9 [(W15.heap.size,W16)] (fun W2=>XIs W2 S f4 (eV S)):=fun h2 hk=>(hn4.agree (h2.kept (W15.heap.size,W16) (hk _ List.mem_cons_self)).1).is
           refine bB (i:=0) (vs:=[_,_,_,_,_,_]) (cs':=[_,_,_,_,_,_]) (O':=[_]) hS sizeOf56 rfl rfl rfl rfl rfl rfl rfl fun W17 hS=>aQ (XF.blkN (XF.thenN (aR (aI rfl rfl (cE rfl rfl (IntWalk.i64_in _ (by omega)) rfl (aB rfl rfl (aQ ?_)))))))
           exact XF.round (kl - (i+1)) [(1,_),(3,_),(5,_),(9,_),(13,_),(14,_)] (by omega) ⟨rfl,rfl,rfl,rfl,rfl,rfl,trivial⟩ ⟨i+1,f4,_,by omega,rfl,rfl,(by rw [hany,h22,hc108,Bool.and_self,Bool.or_true];exact HN4.more (fun q hq=>by simp at hq;simp [hq])),hS⟩
          ·have hc108:=hc;clear hc
           refine bH (XF.blkN (XF.thenN (aR (aI rfl rfl (cE rfl rfl (IntWalk.i64_in _ (by omega)) rfl (aB rfl rfl (aQ ?_)))))))
           exact XF.round (kl - (i+1)) [(1,_),(3,_),(5,_),(9,_),(13,_),(14,_)] (by omega) ⟨rfl,rfl,rfl,rfl,rfl,rfl,trivial⟩ ⟨i+1,f,_,by omega,rfl,rfl,(by rw [hany,h22,hc108,Bool.and_false,Bool.or_false];exact HN.more (fun q hq=>by simp [hq])),hS⟩
         ·skip
          refine gP (m:=18) bY hS (by kernel_rfl) (by kernel_rfl) rfl (cB 1 rfl 1 rfl rfl (fun w hw=>aZ rfl) rfl (cB 2 rfl 14 rfl rfl (fun w hw=>aZ rfl) rfl (aM 3 rfl (isV _) (aH _) (rgV (li:=[(91,_),(92,_)]) rfl (aS rfl) ⟨aL 0 (aA rfl rfl rfl),aL 1 (aA rfl rfl rfl),trivial⟩ (fun w hw=>bA  underlying29 sizeOf39 rfl rfl rfl (by omega) rfl) (aD rfl)) (bD 4 rfl 93 2 rfl rfl rfl (fun w hw=>aV fB rfl (Nat.add_zero _)) rfl (bD 5 rfl 94 3 rfl rfl rfl (fun w hw=>aX isAgg3 rfl ((aP hw 0).cell (Nat.zero_le _) (k1.1))) rfl (cB 6 rfl 5 rfl rfl (fun w hw=>aV lH rfl (Nat.add_zero _)) rfl (bD 7 rfl 96 5 rfl rfl rfl (fun w hw=>aX isAgg3 rfl ((aP hw 0).cell (Nat.zero_le _) (k2.1))) rfl (aM 8 rfl (isV (.bool false)) (aH _) (jR (li:=[(95,_),(97,_)]) rfl (aS rfl) ⟨aL 4 (aA rfl rfl rfl),aL 6 (aA rfl rfl rfl),trivial⟩ (fun w hw=>mS rfl rfl) (congrArg Value.bool h22) (aD rfl)) (bD 9 rfl 98 7 rfl rfl rfl (fun w hw=>aZ rfl) rfl (aM 10 rfl (isV undef) (aH _) (bJ rfl (bK 99 rfl (aA rfl rfl rfl) rfl) (aD rfl)) (aM 11 rfl (isV undef) (aH _) (bJ rfl (bK 99 rfl (aA rfl rfl rfl) rfl) (aD rfl)) (aM 12 rfl (isV undef) (aH _) (bJ rfl (bK 99 rfl (aA rfl rfl rfl) rfl) (aD rfl)) (aM 13 rfl (isV undef) (aH _) (bJ rfl (bK 99 rfl (aA rfl rfl rfl) rfl) (aD rfl)) (aM 14 rfl (isV undef) (aH _) (bJ rfl (bK 99 rfl (aA rfl rfl rfl) rfl) (aD rfl)) (aM 15 rfl (isV undef) (aH _) (bJ rfl (bK 99 rfl (aA rfl rfl rfl) rfl) (aD rfl)) (aM 16 rfl (isV undef) (aH _) (bJ rfl (bK 99 rfl (aA rfl rfl rfl) rfl) (aD rfl)) (aM 17 rfl (isV undef) (aH _) (bJ rfl (bK 99 rfl (aA rfl rfl rfl) rfl) (aD rfl)) (bD 18 rfl 99 8 rfl rfl rfl (fun w hw=>dH rfl rfl) rfl (dB ?_)))))))))))))))))))
          intro W18 hbR hS'
          clear hS;have hS:=hS';clear hS'
          refine aG (aG (aG (aG (aG (aG (aG (aG (aG (aG (aG (aG (aG (aG (aG (aG (aG (aG (cH (XF.thenN (F3 rfl (bH (XF.blkN (XF.thenN (aR (aI rfl rfl (cE rfl rfl (IntWalk.i64_in _ (by omega)) rfl (aB rfl rfl (aQ ?_))))))))))))))))))))))))))))
          exact XF.round (kl - (i+1)) [(1,_),(3,_),(5,_),(9,_),(13,_),(14,_)] (by omega) ⟨rfl,rfl,rfl,rfl,rfl,rfl,trivial⟩ ⟨i+1,f,_,by omega,rfl,rfl,(by rw [hany,h22,Bool.false_and,Bool.or_false];exact HN.more (fun q hq=>by simp [hq])),hS⟩
        ·have hc88:=of_decide_eq_false hc;clear hc
         have htk:ks.take i=ks:=List.take_of_length_le (by omega)
         rw [htk] at HN
         refine cW (XF.thenX (XF.thenX (XF.blkX (XF.thenN (aO ?_)))))
         have hRoot:=hS.below
         have hR24:=hRoot
         have kp24:=aK.agree hS.agree (Nat.zero_le _) kp14
         have kc24:=aK.agree hS.agree (Nat.zero_le _) kc14
         have ka24:=aK.agree hS.agree (Nat.zero_le _) ka14
         have hp24:=hp14.below hRoot
         have hc24:=hc14.below hRoot
         have hk24:=hk14.below hRoot
         have hs24:=hs14.below hRoot
         have hQ24:=hQ14.below hRoot
         have hy24:=HN.now (hS.keep Kk (fun q hq=>by simp [hq]))
         have kg24:aK W B13 0 f.six:=aK.own (j:=0) (m:=6) (hS.at_ 0 rfl) rfl
         clear hS;have hS:=St.start W
         refine aR (aU (vs:=[_,_,_,_,_,_,_]) isAgg42 sizeOf42 rfl (ka24) rfl (aN lH rfl (Nat.add_zero _) rfl (aT isAgg3 rfl (kc24.1) rfl (aN iB rfl rfl rfl (aT isAgg30 rfl (kc24.2.1) rfl (dC (vs:=[_,_,_,_]) hS goes_12 rfl (Fw hpk.ok (hs24.below hS.below) (hQ24.below hS.below) (hc24.below hS.below) hcm hcE) rfl ?_))))))
         rintro e W19 ⟨f5,rfl,hx5,hb⟩
         refine ⟨_,rfl,hb,fun hS'=>?_⟩
         clear hS;have hS:=hS';clear hS'
         have hb1:=hb
         clear hb
         refine aI rfl rfl (cI rfl rfl rfl (cI rfl rfl rfl (bU (cs:=[_,_,_,_,_,_]) hS zeroValue56 rfl rfl fun B20 W20 hS=>bB (i:=0) (vs:=[_,_,_,_,_,_]) (cs':=[_,_,_,_,_,_]) (O':=[_]) hS sizeOf56 rfl rfl rfl rfl rfl rfl rfl fun W21 hS=>aB rfl rfl (aQ (XF.thenN (aO ?_))))))
         have hRoot:=hS.below
         have hR25:=hRoot
         have kp25:=aK.agree hS.agree (Nat.zero_le _) kp24
         have kc25:=aK.agree hS.agree (Nat.zero_le _) kc24
         have ka25:=aK.agree hS.agree (Nat.zero_le _) ka24
         have kg25:=aK.agree hS.agree (Nat.zero_le _) kg24
         have hp25:=hp24.below hRoot
         have hc25:=hc24.below hRoot
         have hk25:=hk24.below hRoot
         have hs25:=hs24.below hRoot
         have hQ25:=hQ24.below hRoot
         have hy25:=hy24.below hRoot
         have hx25:=hx5.below (nI rfl hb1 hS.below (hS.since 0 rfl))
         have kf25:aK W21 B20 0 f5.six:=aK.own (j:=0) (m:=6) (hS.at_ 0 rfl) rfl
         clear hx5 hb1
         clear hS;have hS:=St.start W21
         refine aR (aI rfl rfl (cM rfl rfl rfl (aI rfl rfl (bG (d:=123) rfl (fun hc=>?_) (fun hc=>absurd (of_decide_eq_false hc) (by exact fun h=>h rfl))))))
         have hc:=of_decide_eq_true hc
         refine aC (d:=123) rfl rfl (aU (vs:=[_,_,_,_,_,_]) isAgg56 sizeOf56 rfl ((aK.agree hS.agree (Nat.zero_le _) kf25)) rfl (aC (d:=123) rfl rfl (aU (vs:=[_,_,_,_,_,_]) isAgg56 sizeOf56 rfl ((aK.agree hS.agree (Nat.zero_le _) kg25)) rfl (aC (d:=123) rfl rfl (bT (vs:=[_,_]) hS uC rfl (Cv (hx25.below hS.below) (hy25.below hS.below) true ⟨fun _=>rfl,fun _=>rfl⟩) rfl fun W22 hS=>aY rfl rfl rfl (aI rfl rfl (aC (d:=128) rfl rfl (aU (vs:=[_,_,_,_,_,_]) isAgg28 sizeOf28 rfl ((aK.agree hS.agree (Nat.zero_le _) kp25)) rfl (aC (d:=128) rfl rfl (aU (vs:=[_,_,_,_,_,_,_]) isAgg42 sizeOf42 rfl ((aK.agree hS.agree (Nat.zero_le _) ka25)) rfl (aC (d:=128) rfl rfl (bT (vs:=[_,_]) hS goes_14 rfl (Fx (hp25.below hS.below) (hk25.below hS.below) (hs25.below hS.below) (hQ25.below hS.below)) rfl fun W23 hS=>aC (d:=128) rfl rfl (cM rfl rfl rfl (aY rfl rfl rfl (aB rfl rfl (aQ (XF.thenN (bM (XF.res (bV results3 rfl) ?_)))))))))))))))))))
         exact ⟨rfl,(((((hR12).trans (hR13.mono (hR12.size))).trans (hR14.mono (Nat.le_trans (hR12.size) hR13.size))).trans (hR24.mono (Nat.le_trans (Nat.le_trans (hR12.size) hR13.size) hR14.size))).trans (hR25.mono (Nat.le_trans (Nat.le_trans (Nat.le_trans (hR12.size) hR13.size) hR14.size) hR24.size))).trans (hS.below.mono (Nat.le_trans (Nat.le_trans (Nat.le_trans (Nat.le_trans (hR12.size) hR13.size) hR14.size) hR24.size) hR25.size))⟩
     ·skip
      refine aR (aU (vs:=[_,_,_,_,_,_]) isAgg28 sizeOf28 rfl (aK.own (j:=0) (m:=6) (hS.at_ 1 rfl) rfl) rfl (aI rfl rfl (bT (vs:=[_,_]) hS M8 rfl ((yT ds d9 p la kl kc ks _ (hp.below hS.below) (hkr.below hS.below) hkl (fun r hr=>(hki r hr).below hS.below) (by omega) S px (fun h=>(hpx h).below hS.below)).mono fun e w2 h=>H0 h hE) rfl fun W24 hS=>aI rfl rfl (cI rfl rfl rfl (cI rfl rfl rfl (bU (cs:=[_,_,_,_,_,_,_]) hS zeroValue42 rfl rfl fun B25 W25 hS=>bB (i:=0) (vs:=[_,_,_,_,_,_,_]) (cs':=[_,_,_,_,_,_,_]) (O':=[_,_,_]) hS sizeOf42 rfl rfl rfl rfl rfl rfl rfl fun W26 hS=>aB rfl rfl (aQ (XF.thenN (aO (aR (aU (vs:=[_,_,_,_,_,_]) isAgg28 sizeOf28 rfl (aK.own (j:=0) (m:=6) (hS.at_ 2 rfl) rfl) rfl (aI rfl rfl (bT (vs:=[_,_]) hS M9 rfl ((wR ds d9 p la kl kc ks _ (hp.below hS.below) (hkr.below hS.below) hkl (fun r hr=>(hki r hr).below hS.below) (by omega) S px (fun h=>(hpx h).below hS.below)).mono fun e w2 h=>H0 h hE) rfl fun W27 hS=>aI rfl rfl (cI rfl rfl rfl (cI rfl rfl rfl (bU (cs:=[_,_,_,_,_,_,_]) hS zeroValue42 rfl rfl fun B28 W28 hS=>bB (i:=0) (vs:=[_,_,_,_,_,_,_]) (cs':=[_,_,_,_,_,_,_]) (O':=[_,_,_,_]) hS sizeOf42 rfl rfl rfl rfl rfl rfl rfl fun W29 hS=>aB rfl rfl (aQ (XF.thenN (aO (aO (aR (aU (vs:=[_,_,_,_,_,_,_]) isAgg42 sizeOf42 rfl (aK.own (j:=0) (m:=7) (hS.at_ 1 rfl) rfl) rfl (aU (vs:=[_,_,_,_,_,_,_]) isAgg42 sizeOf42 rfl (aK.own (j:=0) (m:=7) (hS.at_ 0 rfl) rfl) rfl (bT (vs:=[_,_]) hS Na rfl (yY none [] [] ⟨0,0,none,0,0⟩ ⟨0,0,none,0,0⟩ 0 0 none none none none 0 0 0 0 0 0 [] [] _ (Dm _ _ _) (Dm _ _ _) rfl rfl (by decide) (by decide)) rfl fun W30 hS=>dV rfl rfl (aI rfl rfl (aC (d:=63) rfl rfl (aI rfl rfl (aC (d:=63) rfl rfl (aI rfl rfl ?_)))))))))))))))))))))))))))))
      refine aC (d:=63) rfl rfl (cN rfl rfl rfl (bN rfl rfl rfl (aQ (XF.thenN (bC rfl (fun hc=>absurd (of_decide_eq_true hc) (by exact fun h=>h rfl)) (fun hc=>?_))))))
      have hc:=of_decide_eq_false hc
      refine bH (XF.thenN (aO (aO (aR (aI rfl rfl (cN rfl rfl rfl (aI rfl rfl (bG (d:=70) rfl (fun hc=>?_) (fun hc=>absurd (of_decide_eq_false hc) (by exact fun h=>h hE))))))))))
      have hc:=of_decide_eq_true hc
      refine aF (d:=70) rfl rfl rfl rfl (aF (d:=70) rfl rfl rfl rfl (aF (d:=70) rfl rfl rfl rfl (aF (d:=70) rfl rfl rfl rfl (aY rfl rfl rfl (aI rfl rfl (aF (d:=76) rfl rfl rfl rfl (aF (d:=76) rfl rfl rfl rfl (aF (d:=76) rfl rfl rfl rfl (aF (d:=76) rfl rfl rfl rfl (aY rfl rfl rfl (aQ (XF.thenN (cU rfl (aO (aR (aB rfl rfl (aQ (XF.thenN (bM (XF.thenR (XF.res (bV results3 rfl) ?_)))))))))))))))))))))
      exact ⟨rfl,hS.below⟩
 ·skip
  refine aO (aR (aI rfl rfl (bX underlying29 rfl rfl (dS rfl rfl rfl (aQ (XF.thenN (bC rfl (fun hc=>?_) (fun hc=>?_))))))))
  ·have hc21:=of_decide_eq_true hc;clear hc
   have hla:∀ x,la=some x→∃ b o,x=⟨b,o,none⟩:=fun x hx=>by
    obtain ⟨r,hr⟩:∃ r,ls[0]?=some r:=⟨ls[0]'(by omega),List.getElem?_eq_getElem _⟩
    obtain ⟨b,off,e,_⟩:=hlr 0 r hr
    exact ⟨b,off,by rw [e] at hx;exact (Option.some.inj hx).symm⟩
   refine aR (aI rfl rfl (Fa (k:=8) underlying29 sizeOf39 rfl rfl (by decide) (by omega) (by omega) hla rfl (aB rfl rfl (aQ ?_))))
   exact XF.join [(1,_),(3,_),(5,_)] ⟨rfl,rfl,rfl,trivial⟩ ⟨8,lc,ls.take 8,rfl,by rw [List.length_take];omega,Nat.le_refl _,(fun i r h=>hlr i r (by rw [List.getElem?_take] at h;split at h;exact h;cases h)),(fun r hr=>hli r (List.mem_of_mem_take hr)),hS.clear⟩
  ·have hc21:=of_decide_eq_false hc;clear hc
   refine bH ?_
   exact XF.join [(1,_),(3,_),(5,_)] ⟨rfl,rfl,rfl,trivial⟩ ⟨ll,lc,ls,rfl,hln,by omega,hlr,hli,hS.clear⟩
theorem xH (n:Nat) (p:PV) (a:Option Addr) (len cap:Nat) (ls:List GV) (c:CV) (w:World) (hp:PvIn w n n p) (hl:wD w a ls∧ls.length=len∧(∀ r∈ls,DIn w r.d)∧len≤9223372036854775807∧len≤cap) (hc:CIn w c∧c.wl≤9223372036854775807):Calls prog 3 #[p.val,.slice a len cap,c.val] w (fun e w'=>e = .returned (.bool (true))∧Below w.heap.size w w'):=wT n n p a len cap ls c w hp hl.1 hl.2.1 hl.2.2.1 hl.2.2.2.1 hl.2.2.2.2 hc.1 hc.2
end
section
open Go.RowKit Go.ChangeShapes Go.WideShapes Go.Deep Go.Joins
section
variable {H:Type} {enc:TypeId×Value→H} {w:World} {base:Nat} {spare:Nat→Bool} {held:Bool}
theorem Fy {r:Reach} {b0:Nat} {v:Value} {d:DataW H} {p:List MemPlace} (hv:Value.okWide prog w r b0 32 v) (h:DataW.Trod enc prog w base spare held 32 v d p) :
  ∃ (s:CV),v=s.val∧CIn w s∧s.wl≤9223372036854775807:=by
 obtain ⟨cs,rfl,_⟩:=okWide_struct underlying32 hv
 obtain ⟨n,h⟩:=h
 obtain ⟨xs,n',hn,_,hl,hlen,hg⟩:=DataW.trod_struct underlying32 h
 rw [show prog.cellsOf 32=2 by kernel_rfl] at hl
 obtain ⟨a,b,hcs⟩:=two_len hl
 rw [hcs] at hg
 have hlen2:xs.length=2:=hlen
 have g0:=hg 0 _ rfl
 have g1:=hg 1 _ rfl
 rw [show prog.cellsOf _=1 by kernel_rfl,List.getElem?_eq_getElem (by omega)] at g0 g1
 obtain ⟨z0,e0,_,w0⟩:=DataW.trod_int (k:=.i64) (by kernel_rfl) g0
 simp at e0
 subst e0
 obtain ⟨ra,rl,rc,ws,rfl,hrow,hrl,hcap,hmx⟩:=Ay (v:=b) g1
 exact ⟨⟨z0,ra,rl,rc,ws⟩,by show Value.agg cs=Value.agg _;congr 1;exact Array.ext' hcs,⟨hrow,hrl⟩,by simp only [maxLen] at hmx;dsimp only;omega⟩
end
theorem Fz {cs:List Value} (h:cs.length=3):∃ a b c,cs=[a,b,c]:=by
 match cs,h with
 | [a,b,c],_=>exact ⟨a,b,c,rfl⟩
section
variable {H:Type} {enc:TypeId×Value→H} {w:World} {base:Nat} {spare:Nat→Bool} {held:Bool}
theorem Du {α:Type} {val:α→Value} {pr:α→Prop} {t e:TypeId} {n:Nat} {v:Value} {x:DataW H×List MemPlace} (ht:prog.underlying t=some (.slice e)) (hc:prog.cellsOf e=1)
  (one:∀ (n:Nat) (cs:List Value) (x:DataW H×List MemPlace),DataW.trod enc prog w base spare held n e cs=some x→∃ y,cs=[val y]∧pr y) (h:DataW.trod enc prog w base spare held n t [v]=some x) :
  ∃ (a:Option Addr) (len cap:Nat) (xs:List α),v = .slice a len cap∧(∀ (i:Nat) r,xs[i]?=some r→∃ b off,a=some ⟨b,off,none⟩∧w.cell? ⟨b,off+i * 1,none⟩=some (val r))∧(∀ r∈xs,pr r)∧xs.length=len∧len≤cap∧cap≤maxLen:=by
 rcases DataW.trod_slice ht h with ⟨hcs,_⟩ | ⟨ad,len,cap,elems,rest,n2,hn2,hcs,_,hb,hle,hcap,hel,hi,_,_⟩
 ·simp at hcs
  subst hcs
  exact ⟨none,0,0,[],rfl,(fun i r hi=>by simp at hi),(fun r hr=>by cases hr),rfl,Nat.le_refl _,Nat.zero_le _⟩
 ·simp at hcs
  subst hcs
  rw [hc] at hi
  obtain ⟨rs,hrl,hrs⟩:=kH len (fun i (r:α)=>w.cell? (ad.add (i * 1))=some (val r)∧pr r) (fun i hil=>by
   have hii:=hi i hil
   rw [List.getElem?_eq_getElem (by omega)] at hii
   obtain ⟨cs',hc',ht'⟩:=Option.bind_eq_some_iff.1 hii
   obtain ⟨_,hcl,hat⟩:=World.cells?_some hc'
   obtain ⟨r,rfl,hr⟩:=one _ _ _ ht'
   refine ⟨r,?_,hr⟩
   have h0:=hat 0 (by omega)
   rw [Go.Deep.add_add,Nat.add_zero] at h0
   rw [h0];rfl)
  refine ⟨some ad,len,cap,rs,rfl,fun i r hir=>?_,fun r hr=>?_,hrl,hle,hcap⟩
  ·obtain ⟨b,off,spot⟩:=ad
   have h1:=(hrs i r hir).1
   have hl0:0 < rs.length:=Nat.lt_of_le_of_lt (Nat.zero_le _) (List.getElem?_eq_some_iff.1 hir).1
   have h2:=(hrs 0 _ (List.getElem?_eq_getElem hl0)).1
   have hspot:spot=none:=by simpa [Addr.add] using World.cell?_spot h2
   subst hspot
   refine ⟨b,off,rfl,?_⟩
   have e:∀ k,({ block:=b,off:=off }:Addr).add k=⟨b,off+k,none⟩:=fun k=>by simp [Addr.add]
   rw [e] at h1
   exact h1
  ·obtain ⟨i,hi',hic⟩:=List.mem_iff_getElem.1 hr
   exact (hrs i r (by rw [← hic];exact List.getElem?_eq_getElem hi')).2
end
theorem Js {cs:List Value} (h:cs.length=4):∃ a b c d,cs=[a,b,c,d]:=by
 match cs,h with
 | [a,b,c,d],_=>exact ⟨a,b,c,d,rfl⟩
section
variable {H:Type} {enc:TypeId×Value→H} {w:World} {base:Nat} {spare:Nat→Bool} {held:Bool}
theorem dfa_in {n:Nat} {cs:List Value} {x:DataW H×List MemPlace} (h:DataW.trod enc prog w base spare held n 37 cs=some x):∃ s:DV,cs=s.cells∧DIn w s:=by
 obtain ⟨xs,n',hn,_,hl,hlen,hg⟩:=DataW.trod_struct underlying37 h
 rw [show prog.cellsOf 37=3 by kernel_rfl] at hl
 obtain ⟨a,b,c,rfl⟩:=Fz hl
 have hlen3:xs.length=3:=hlen
 have g0:=hg 0 _ rfl
 have g1:=hg 1 _ rfl
 have g2:=hg 2 _ rfl
 rw [show prog.cellsOf _=1 by kernel_rfl,List.getElem?_eq_getElem (by omega)] at g0 g1 g2
 obtain ⟨z0,e0,_,w0⟩:=DataW.trod_int (k:=.i64) (by kernel_rfl) g0
 simp at e0
 subst e0
 obtain ⟨na,nl,nc,ns,rfl,hnr,hni,hnl,hnc,hnm⟩:=Du (val:=IV.val) (pr:=fun r:IV=>Row w r.a r.xs∧r.xs.length=r.l∧r.l≤9223372036854775807) (e:=30) (v:=b) (by kernel_rfl) (by kernel_rfl) (fun n cs x h=>by
  obtain ⟨y,rfl⟩:∃ y,cs=[y]:=by
   obtain ⟨h1,h2⟩:cs.length=1∧True:=⟨by
    rcases DataW.trod_slice underlying30 h with ⟨h9,_⟩ | ⟨ad,len,cap,elems,rest,n2,hn2,h9,_⟩
    ·rw [h9];rfl
    ·rw [h9];rfl,trivial⟩
   match cs,h1 with
   | [y],_=>exact ⟨y,rfl⟩
  obtain ⟨fa,fl,fc,fs,rfl,h1,h2,h3,h4⟩:=Ay h
  exact ⟨⟨fa,fl,fc,fs⟩,rfl,h1,h2,by simp only [maxLen] at h4;dsimp only;omega⟩) g1
 obtain ⟨aa,al,ac,bs,rfl,har,_,hal,hac,ham⟩:=Du (val:=Value.bool) (pr:=fun _=>True) (e:=4) (v:=c) (by kernel_rfl) (by kernel_rfl) (fun n cs x h=>by
  obtain ⟨y,h1,_⟩:=DataW.trod_bool (by kernel_rfl) h
  exact ⟨y,h1,trivial⟩) g2
 refine ⟨⟨z0,na,nl,nc,ns,aa,al,ac,bs⟩,rfl,⟨hnr,hnl,hni,har,hal,?_,?_⟩⟩
 ·simp only [maxLen] at hnm;dsimp only;omega
 ·simp only [maxLen] at ham;dsimp only;omega
theorem part_in {n:Nat} {cs:List Value} {x:DataW H×List MemPlace} (h:DataW.trod enc prog w base spare held n 39 cs=some x):∃ r:GV,cs=r.four∧DIn w r.d:=by
 obtain ⟨xs,n',hn,_,hl,hlen,hg⟩:=DataW.trod_struct underlying39 h
 rw [show prog.cellsOf 39=4 by kernel_rfl] at hl
 obtain ⟨a,b,c,d,rfl⟩:=Js hl
 have hlen2:xs.length=2:=hlen
 have g0:=hg 0 _ rfl
 have g1:=hg 1 _ rfl
 rw [show prog.cellsOf _=1 by kernel_rfl,List.getElem?_eq_getElem (by omega)] at g0
 rw [show prog.cellsOf _=3 by kernel_rfl,List.getElem?_eq_getElem (by omega)] at g1
 obtain ⟨z0,e0,_,w0⟩:=DataW.trod_int (k:=.i64) (by kernel_rfl) g0
 simp at e0
 subst e0
 obtain ⟨s,es,hs⟩:=dfa_in g1
 have es':[b,c,d]=[.int .i64 s.sy,.slice s.na s.nl s.nc,.slice s.aa s.al s.ac]:=by simpa using es
 simp only [List.cons.injEq,and_true] at es'
 obtain ⟨rfl,rfl,rfl⟩:=es'
 exact ⟨⟨z0,s⟩,rfl,hs⟩
theorem F0 {n:Nat} {a:Option Addr} {len cap:Nat} {x:DataW H×List MemPlace} (h:DataW.trod enc prog w base spare held n 29 [.slice a len cap]=some x) :
  ∃ ls:List GV,wD w a ls∧ls.length=len∧(∀ r∈ls,DIn w r.d)∧len≤9223372036854775807∧len≤cap:=by
 rcases DataW.trod_slice underlying29 h with ⟨hcs,_⟩ | ⟨ad,len',cap',elems,rest,n',hn',hcs,_,hb,hle,hcap,hel,hi,_,_⟩
 ·simp at hcs
  obtain ⟨rfl,rfl,rfl⟩:=hcs
  exact ⟨[],(fun i r h=>by simp at h),rfl,fun p hp=>by (cases hp),by omega,Nat.le_refl _⟩
 ·simp at hcs
  obtain ⟨rfl,rfl,rfl⟩:=hcs
  rw [show prog.cellsOf 39=4 by kernel_rfl] at hi
  obtain ⟨rs,hrl,hrs⟩:=kH len (fun i (r:GV)=>(∀ (j:Nat) u,r.four[j]?=some u→w.cell? (ad.add (i * 4+j))=some u)∧DIn w r.d) (fun i hil=>by
   have hii:=hi i hil
   rw [List.getElem?_eq_getElem (by omega)] at hii
   obtain ⟨cs',hc,ht⟩:=Option.bind_eq_some_iff.1 hii
   obtain ⟨_,hcl,hat⟩:=World.cells?_some hc
   obtain ⟨r,rfl,hr⟩:=part_in ht
   refine ⟨r,fun j u hj=>?_,hr⟩
   have hj9:j < 4:=(List.getElem?_eq_some_iff.1 hj).1
   have h0:=hat j (by omega)
   rw [Go.Deep.add_add] at h0
   rw [h0];exact hj)
  refine ⟨rs,fun i r hir=>?_,hrl,fun r hr=>?_,by have h1:cap≤maxLen:=hcap;simp only [maxLen] at h1;omega,hle⟩
  ·obtain ⟨b,off,spot⟩:=ad
   have hl0:0 < rs.length:=Nat.lt_of_le_of_lt (Nat.zero_le _) (List.getElem?_eq_some_iff.1 hir).1
   have h1:=(hrs 0 _ (List.getElem?_eq_getElem hl0)).1 0 _ rfl
   have hspot:spot=none:=by simpa [Addr.add] using World.cell?_spot h1
   subst hspot
   refine ⟨b,off,rfl,qV _ _ fun j u hj=>?_⟩
   have h3:=(hrs i r hir).1 j u hj
   have e:∀ k,({ block:=b,off:=off }:Addr).add k=⟨b,off+k,none⟩:=fun k=>by simp [Addr.add]
   rw [e,← Nat.add_assoc] at h3
   exact h3
  ·obtain ⟨i,hi',hic⟩:=List.mem_iff_getElem.1 hr
   exact (hrs i r (by rw [← hic];exact List.getElem?_eq_getElem hi')).2
end
end
end Go.Proofs.Ytafegfhpinpdoaa
