import Derived.Test.YtmgnkpibpjgncaaGreatDoorMeF
set_option maxRecDepth 100000
set_option maxHeartbeats 4000000
set_option linter.unusedVariables false
set_option linter.unusedVariables false
set_option linter.unusedSimpArgs false
set_option linter.unusedSectionVars false
set_option linter.unnecessarySimpa false
namespace Go.Proofs.YtmgnkpibpjgncaaGreatDoor
open Go.Proofs.Tryz
open Go Go.RowKit
theorem nR:prog.built 29 []=some #[.int .i64 0,.int .i64 0,.slice none 0 0,.int .i64 0,.int .i64 0,.slice none 0 0,.slice none 0 0]:=by kernel_rfl
theorem Fj (v00:Value) (v01:Value) (v02:Value) (v1:Int) (v2:Int):prog.built 29 [(0,.agg #[v00,v01,v02]),(1,.int .i64 v1),(2,.int .i64 v2)]=some #[v00,v01,v02,.int .i64 v1,.int .i64 v2,.slice none 0 0,.slice none 0 0]:=by kernel_rfl
theorem As (v0:Int) (v1:Int) (v2:Int) (v30:Value) (v31:Value) (v32:Value) (v33:Value) (v34:Value) (v35:Value):prog.built 66 [(0,.int .i64 v0),(1,.int .i64 v1),(2,.int .i64 v2),(3,.agg #[v30,v31,v32,v33,v34,v35])]=some #[.int .i64 v0,.int .i64 v1,.int .i64 v2,v30,v31,v32,v33,v34,v35]:=by kernel_rfl
theorem bs_27_1 (v00:Value) (v01:Value) (v02:Value) (v03:Value) (v04:Value) (v05:Value) (v06:Value) (v07:Value) (v08:Value):Instr.fill (fun i=>some (i * 9,9)) ((Array.range (1 * 9)).map ((Value.cells (.agg #[.int .i64 0,.int .i64 0,.int .i64 0,.bool false,.int .i64 0,.int .u64 0,.slice none 0 0,.slice none 0 0,.slice none 0 0]))[· % (Value.cells (.agg #[.int .i64 0,.int .i64 0,.int .i64 0,.bool false,.int .i64 0,.int .u64 0,.slice none 0 0,.slice none 0 0,.slice none 0 0])).size]!)) [(0,.agg #[v00,v01,v02,v03,v04,v05,v06,v07,v08])]=some (List.toArray [v00,v01,v02,v03,v04,v05,v06,v07,v08]):=by kernel_rfl
theorem goes_72:bP prog 72=true:=by kernel_rfl
theorem goes_73:bP prog 73=true:=by kernel_rfl
theorem Uh:prog.info? 66=some Tryz.t66:=by kernel_rfl
theorem sA {a:AV} (h:dD a=0):zX a.st a.fs=true∧0≤a.st∧a.st≤4096:=by
 unfold dD at h
 by_cases h1:dE a.s≠0
 ·rw [if_pos h1] at h;exact absurd h h1
 rw [if_neg h1] at h
 by_cases h2:65536 < a.tl
 ·rw [if_pos h2] at h;cases h
 rw [if_neg h2] at h
 by_cases h3:cZ a.st a.sy a.fs a.ts=false
 ·rw [if_pos h3] at h;cases h
 have h3:cZ a.st a.sy a.fs a.ts=true:=by simpa using h3
 unfold cZ at h3
 by_cases h4:a.st < 0∨4096 < a.st∨a.sy < 0∨4096 < a.sy
 ·rw [if_pos h4] at h3;cases h3
 rw [if_neg h4,Bool.and_eq_true] at h3
 exact ⟨h3.1,by omega,by omega⟩
theorem Ix {W:World} {lo c n:Nat} {a:Option Addr} {Fs:List Int} {T:TypeId} (h:W.ownsRow lo T 1 (.slice a n c) n (Fs.map (Value.int .i64))):Row W a Fs:=by
 rcases lA h with ⟨_,h2⟩ | ⟨b,rfl,_,hc⟩
 ·have h3:=h.1
  subst h2
  exact .inl (List.eq_nil_of_length_eq_zero (by simpa using h3))
 ·exact .inr ⟨b,0,rfl,fun i hi=>by
   rw [Nat.zero_add]
   exact hc i (.int .i64 (Fs.getD i 0)) (by rw [List.getElem?_map,List.getElem?_eq_getElem hi,List.getD_eq_getElem?_getD,List.getElem?_eq_getElem hi];rfl)⟩
theorem Lg (d:DV) (w:World) (hdi:DIn w d) :
  Calls prog 73 #[d.val] w (fun e w'=>∃ c:Nat,e = .returned (.int .i64 (c:Int))∧((c:Int)=0→∀ j,j < d.bs.length→d.bs.getD j false=false)∧Below w.heap.size w w'):=by
 refine cD (args:=[d.val]) func73 rfl ntmps73 rfl ?_
 have hS:=St.start w
 obtain ⟨dsy,na,nl,nc,ns,aa,al,ac,bs⟩:=d
 have har:Hy w aa bs:=hdi.arow
 have hal:bs.length=al:=hdi.alen
 have ham:al≤9223372036854775807:=hdi.amax
 refine aM (aQ (bY (cs:=[_,_,_]) hS rfl rfl rfl fun B1 W1 hS=>aC rfl rfl (aN (XF.thenN (aM (aQ (aC rfl rfl (aN (XF.thenN (aM (aM (aQ (aC rfl rfl (aN (XF.thenN (bK (dQ (fun m l W=>∃ (i c:Nat),i≤al∧m=al - i∧l=[(1,.pointer (some ⟨B1,0,none⟩)),(3,.int .i64 (c:Int)),(4,.int .i64 (i:Int))]∧c≤i∧(c=0→∀ j,j < i→bs.getD j false=false)∧St w [(B1,[.int .i64 dsy,.slice na nl nc,.slice aa al ac],60)] [] [] W) (al - 0) ([(1,_),(3,_),(4,_)]) ⟨rfl,rfl,rfl,trivial⟩ (⟨0,0,Nat.zero_le _,rfl,rfl,Nat.le_refl _,(fun _ j hj=>by omega),hS.clear⟩) ?_)))))))))))))))))
 clear hS
 rintro m l W ⟨i,c,hi,rfl,rfl,hci,hc,hS⟩
 refine aM (aM (aQ (aE rfl rfl (aK (o':=2) pN rfl rfl rfl (aR isAgg58 rfl (aH (hS.at_ 0 rfl) rfl) rfl (cC underlying58 rfl rfl (cK rfl rfl rfl (aN (XF.thenN (bB rfl (fun hc=>?_) (fun hc=>?_)))))))))))
 ·have hc9:=of_decide_eq_true hc;clear hc
  have hk:i < al:=by omega
  obtain ⟨v,hv⟩:∃ v,bs[i]?=some v:=⟨bs[i]'(by omega),List.getElem?_eq_getElem _⟩
  obtain ⟨vb,vo,rfl,hvc⟩:=har i v hv
  have kv:=hS.old hvc
  have hvd:bs.getD i false=v:=by rw [List.getD_eq_getElem?_getD,hv];rfl
  refine bI (XF.thenN (aM (bK (aM (aQ (aK (o':=2) pN rfl rfl rfl (aR isAgg58 rfl (aH (hS.at_ 0 rfl) rfl) rfl (aE rfl rfl (bZ  underlying58 sizeOf4 rfl rfl rfl (by omega) rfl rfl (aR isAgg4 rfl (kv) rfl (aN (XF.thenN (bB rfl (fun hc=>?_) (fun hc=>?_))))))))))))))
  ·have hc16:=hc;clear hc
   refine aQ (aE rfl rfl (cP rfl rfl (IntWalk.i64_in _ (by omega)) rfl (aC rfl rfl (aN (XF.blkN (XF.thenN (aQ (aE rfl rfl (cP rfl rfl (IntWalk.i64_in _ (by omega)) rfl (aC rfl rfl (aN ?_)))))))))))
   exact XF.round (al - (i+1)) [(1,_),(3,_),(4,_)] (by omega) ⟨rfl,rfl,rfl,trivial⟩ ⟨i+1,c+1,by omega,rfl,rfl,by omega,(fun h=>by omega),hS.clear⟩
  ·have hc16:=hc;clear hc
   obtain rfl:v=false:=hc16
   refine bI (XF.blkN (XF.thenN (aQ (aE rfl rfl (cP rfl rfl (IntWalk.i64_in _ (by omega)) rfl (aC rfl rfl (aN ?_)))))))
   exact XF.round (al - (i+1)) [(1,_),(3,_),(4,_)] (by omega) ⟨rfl,rfl,rfl,trivial⟩ ⟨i+1,c,by omega,rfl,rfl,by omega,(fun h j hj=>by rcases Nat.lt_or_ge j i with h1 | h1;exact hc h j h1;rw [show j=i by omega];exact hvd),hS.clear⟩
 ·have hc9:=of_decide_eq_false hc;clear hc
  refine dP (XF.thenX (XF.thenX (XF.blkX (XF.thenN (aM (aQ (aE rfl rfl (aC rfl rfl (aN (XF.thenN (bL (XF.res (cE results73 rfl) ?_))))))))))))
  exact ⟨c,rfl,fun h j hj=>hc (by omega) j (by have h9:j < bs.length:=hj;omega),hS.below⟩
theorem meetR_c (ds d:Nat) (s:SV) (st sy:Int) (fa:Option Addr) (fl fc:Nat) (fs:List Int) (ta:Option Addr) (tl tc:Nat) (ts:List TV) (dsy:Int) (na:Option Addr) (nl nc:Nat) (ns:List IV) (aa:Option Addr) (al ac:Nat) (bs:List Bool) (w:World) (hin:AIn w ds d ⟨s,st,sy,fa,fl,fc,fs,ta,tl,tc,ts⟩) (hdi:DIn w ⟨dsy,na,nl,nc,ns,aa,al,ac,bs⟩) (S:PS) (py:TV→PX) (n:Nat) (hAx:dD ⟨s,st,sy,fa,fl,fc,fs,ta,tl,tc,ts⟩=0→AutoOk w S py n ⟨s,st,sy,fa,fl,fc,fs,ta,tl,tc,ts⟩) :
  Calls prog 26 #[.agg #[.int .i64 s.f.tag,.int .i64 s.f.dim,.slice s.f.a s.f.len s.f.cap,.int .i64 st,.int .i64 sy,.slice fa fl fc,.slice ta tl tc],.agg #[.int .i64 dsy,.slice na nl nc,.slice aa al ac]] w (Ug S py ⟨s,st,sy,fa,fl,fc,fs,ta,tl,tc,ts⟩ ⟨dsy,na,nl,nc,ns,aa,al,ac,bs⟩ w):=by
 refine cD (args:=[.agg #[.int .i64 s.f.tag,.int .i64 s.f.dim,.slice s.f.a s.f.len s.f.cap,.int .i64 st,.int .i64 sy,.slice fa fl fc,.slice ta tl tc],.agg #[.int .i64 dsy,.slice na nl nc,.slice aa al ac]]) func26 rfl ntmps26 rfl ?_
 have hS:=St.start w
 have hfrow:Row w fa fs:=hin.frow
 have hflen:fs.length=fl:=hin.flen
 have htrow:pU w ta ts:=hin.trow
 have htlen:ts.length=tl:=hin.tlen
 have hnr:Fh w na ns:=hdi.nrow
 have hnl:ns.length=nl:=hdi.nlen
 have hri:∀ r∈ns,Row w r.a r.xs∧r.xs.length=r.l∧r.l≤9223372036854775807:=hdi.rin
 have har:Hy w aa bs:=hdi.arow
 have hal:bs.length=al:=hdi.alen
 refine aM (aQ (bY (cs:=[_,_,_,_,_,_,_]) hS rfl rfl rfl fun B1 W1 hS=>bY (cs:=[_,_,_]) hS rfl rfl rfl fun B2 W2 hS=>bE (cs:=[_,_,_,_,_,_,_]) hS zeroValue29 rfl rfl fun B3 W3 hS=>aC rfl rfl (aN (XF.thenN (aM (aQ (aT (vs:=[_,_,_,_,_,_,_]) isAgg29 sizeOf29 rfl (aF.own (j:=0) (m:=7) (hS.at_ 2 rfl) rfl) rfl (cA (vs:=[_]) hS goes_9 rfl (Tl ds d ⟨s,st,sy,fa,fl,fc,fs,ta,tl,tc,ts⟩ _ (hin.below hS.below)) rfl fun W4 hS=>aC rfl rfl (aN (XF.thenN (aM (aM (aQ (aE rfl rfl (dA rfl rfl rfl (aN (XF.thenN (bB rfl (fun hc=>?_) (fun hc=>?_)))))))))))))))))))
 ·have hc18:=of_decide_eq_true hc;clear hc
  refine aM (aQ (cV (us:=[]) rfl (nR) rfl (aE rfl rfl ?_)))
  refine aU (i:=0) (vs:=[_,_,_,_,_,_,_]) (cs':=[_,_,_,_,_,_,_]) (O':=[_,_,_]) hS sizeOf29 rfl rfl (by first | rfl | (have h0:=hS.oneV 0 _ rfl;simp only [List.all_cons,List.all_nil,Bool.and_true,Bool.and_eq_true];exact ⟨rfl,rfl,rfl,rfl,rfl,rfl,h0⟩) | (have h0:=hS.oneV 0 _ rfl;have h1:=hS.oneV 1 _ rfl;simp only [List.all_cons,List.all_nil,Bool.and_true,Bool.and_eq_true];exact ⟨rfl,rfl,rfl,rfl,rfl,h0,h1⟩)) rfl rfl rfl rfl fun W5 hS=>?_
  refine aC rfl rfl (aN (XF.thenN (bL (XF.thenR (XF.res (iO (vs:=[_,_,_,_,_,_,_]) results26 isAgg29 sizeOf29 rfl (aF.own (j:=0) (m:=7) (hS.at_ 0 rfl) rfl) rfl) ?_)))))
  have hme:eO ⟨s,st,sy,fa,fl,fc,fs,ta,tl,tc,ts⟩ ⟨dsy,na,nl,nc,ns,aa,al,ac,bs⟩=dD ⟨s,st,sy,fa,fl,fc,fs,ta,tl,tc,ts⟩:=by unfold eO;rw [if_pos hc18]
  exact ⟨hS.below,.inl ⟨by rw [hme],by rw [hme];exact hc18⟩⟩
 ·have hc18:=of_decide_eq_false hc;clear hc
  have hE:dD ⟨s,st,sy,fa,fl,fc,fs,ta,tl,tc,ts⟩=0:=Decidable.of_not_not hc18
  have hA:=hAx hE
  have hst0:st=(n:Int):=hA.st
  have hn4:=hA.n4
  have htl9:tl≤65536:=hA.tl
  have hfin:=(sA hE).1
  have hfl4:=vD hfin
  have hfl5:fl≤4096:=by have h9:(fs.length:Int)≤max st 0:=hfl4;omega
  refine bI (XF.thenN (aM (aM (aQ (aT (vs:=[_,_,_]) isAgg60 sizeOf60 rfl (aF.own (j:=0) (m:=3) (hS.at_ 1 rfl) rfl) rfl (cA (vs:=[_]) hS goes_72 rfl (dfaR_is ⟨dsy,na,nl,nc,ns,aa,al,ac,bs⟩ _ (hdi.below hS.below)) rfl fun W6 hS=>dA rfl rfl rfl (aE rfl rfl (bH (d:=24) rfl (fun hc=>?_) (fun hc=>?_)))))))))
  ·have hg24:=of_decide_eq_true hc;clear hc
   refine aD (d:=24) rfl rfl rfl rfl (aD (d:=24) rfl rfl rfl rfl (aD (d:=24) rfl rfl rfl rfl (aD (d:=24) rfl rfl rfl rfl (aD (d:=24) rfl rfl rfl rfl (aW rfl rfl rfl (aN (XF.thenN (dT rfl (aM (aQ (cV (us:=[]) rfl (nR) rfl ?_)))))))))))
   refine aU (i:=0) (vs:=[_,_,_,_,_,_,_]) (cs':=[_,_,_,_,_,_,_]) (O':=[_,_,_]) hS sizeOf29 rfl rfl (by first | rfl | (have h0:=hS.oneV 0 _ rfl;simp only [List.all_cons,List.all_nil,Bool.and_true,Bool.and_eq_true];exact ⟨rfl,rfl,rfl,rfl,rfl,rfl,h0⟩) | (have h0:=hS.oneV 0 _ rfl;have h1:=hS.oneV 1 _ rfl;simp only [List.all_cons,List.all_nil,Bool.and_true,Bool.and_eq_true];exact ⟨rfl,rfl,rfl,rfl,rfl,h0,h1⟩)) rfl rfl rfl rfl fun W7 hS=>?_
   refine aC rfl rfl (aN (XF.thenN (bL (XF.thenR (XF.res (iO (vs:=[_,_,_,_,_,_,_]) results26 isAgg29 sizeOf29 rfl (aF.own (j:=0) (m:=7) (hS.at_ 0 rfl) rfl) rfl) ?_)))))
   have hme:eO ⟨s,st,sy,fa,fl,fc,fs,ta,tl,tc,ts⟩ ⟨dsy,na,nl,nc,ns,aa,al,ac,bs⟩=90:=by unfold eO;rw [if_neg (fun h=>h hE),if_pos (.inl hg24)]
   exact ⟨hS.below,.inl ⟨by rw [hme],by rw [hme];decide⟩⟩
  ·have hg24:=of_decide_eq_false hc;clear hc
   refine aB (d:=24) rfl rfl (aK (o':=0) kJ rfl rfl rfl (aB (d:=24) rfl rfl (aR isAgg3 rfl (aH (hS.at_ 1 rfl) rfl) rfl (aB (d:=24) rfl rfl (aK (o':=4) iB rfl rfl rfl (aB (d:=24) rfl rfl (aR isAgg3 rfl (aH (hS.at_ 2 rfl) rfl) rfl (aB (d:=24) rfl rfl (dA rfl rfl rfl (bF rfl rfl rfl (aN (XF.thenN (bB rfl (fun hc=>?_) (fun hc=>?_))))))))))))))
   ·have hc30:=of_decide_eq_true hc;clear hc
    refine aM (aQ (cV (us:=[]) rfl (nR) rfl ?_))
    refine aU (i:=0) (vs:=[_,_,_,_,_,_,_]) (cs':=[_,_,_,_,_,_,_]) (O':=[_,_,_]) hS sizeOf29 rfl rfl (by first | rfl | (have h0:=hS.oneV 0 _ rfl;simp only [List.all_cons,List.all_nil,Bool.and_true,Bool.and_eq_true];exact ⟨rfl,rfl,rfl,rfl,rfl,rfl,h0⟩) | (have h0:=hS.oneV 0 _ rfl;have h1:=hS.oneV 1 _ rfl;simp only [List.all_cons,List.all_nil,Bool.and_true,Bool.and_eq_true];exact ⟨rfl,rfl,rfl,rfl,rfl,h0,h1⟩)) rfl rfl rfl rfl fun W8 hS=>?_
    refine aC rfl rfl (aN (XF.thenN (bL (XF.thenR (XF.res (iO (vs:=[_,_,_,_,_,_,_]) results26 isAgg29 sizeOf29 rfl (aF.own (j:=0) (m:=7) (hS.at_ 0 rfl) rfl) rfl) ?_)))))
    have hme:eO ⟨s,st,sy,fa,fl,fc,fs,ta,tl,tc,ts⟩ ⟨dsy,na,nl,nc,ns,aa,al,ac,bs⟩=90:=by unfold eO;rw [if_neg (fun h=>h hE),if_pos (.inr hc30)]
    exact ⟨hS.below,.inl ⟨by rw [hme],by rw [hme];decide⟩⟩
   ·have hc30:=of_decide_eq_false hc;clear hc
    have hD:iU ⟨dsy,na,nl,nc,ns,aa,al,ac,bs⟩=0:=Decidable.of_not_not hg24
    have hsy:dsy=sy:=Decidable.of_not_not hc30
    have hdk:=Ar hD
    have hnlb:1≤nl∧nl≤1024:=hdk.nl
    have hal2:al=nl:=hdk.al
    have hnd:¬ (iU ⟨dsy,na,nl,nc,ns,aa,al,ac,bs⟩≠0∨dsy≠sy):=by rintro (h | h);exact h hD;exact h hsy
    have hm1:0≤st * (nl:Int)∧st * (nl:Int)≤4194304:=by rw [Int.mul_comm];exact rG (by omega) (by omega) (by omega)
    have hm2:0≤(tl:Int) * (nl:Int)∧(tl:Int) * (nl:Int)≤67108864:=⟨Int.mul_nonneg (by omega) (by omega),Int.le_trans (Int.mul_le_mul (show (tl:Int)≤65536 by omega) (show (nl:Int)≤1024 by omega) (by omega) (by decide)) (by decide)⟩
    refine bI (XF.thenN (aM (aQ (aK (o':=1) iN rfl rfl rfl (aR isAgg57 rfl (aH (hS.at_ 1 rfl) rfl) rfl (cC underlying57 rfl rfl (aC rfl rfl (aN (XF.thenN (aM (aM (aQ (aK (o':=3) fQ rfl rfl rfl (aR isAgg3 rfl (aH (hS.at_ 2 rfl) rfl) rfl (aE rfl rfl (lP rfl rfl (IntWalk.i64_in _ (by omega)) rfl (gI rfl rfl rfl (aE rfl rfl (bH (d:=40) rfl (fun hc=>?_) (fun hc=>?_))))))))))))))))))))
    ·have hg40:=of_decide_eq_true hc;clear hc
     refine aD (d:=40) rfl rfl rfl rfl (aD (d:=40) rfl rfl rfl rfl (aD (d:=40) rfl rfl rfl rfl (aD (d:=40) rfl rfl rfl rfl (aD (d:=40) rfl rfl rfl rfl (aD (d:=40) rfl rfl rfl rfl (aW rfl rfl rfl (aN (XF.thenN (dT rfl (aM (aQ (cV (us:=[]) rfl (nR) rfl ?_))))))))))))
     refine aU (i:=0) (vs:=[_,_,_,_,_,_,_]) (cs':=[_,_,_,_,_,_,_]) (O':=[_,_,_]) hS sizeOf29 rfl rfl (by first | rfl | (have h0:=hS.oneV 0 _ rfl;simp only [List.all_cons,List.all_nil,Bool.and_true,Bool.and_eq_true];exact ⟨rfl,rfl,rfl,rfl,rfl,rfl,h0⟩) | (have h0:=hS.oneV 0 _ rfl;have h1:=hS.oneV 1 _ rfl;simp only [List.all_cons,List.all_nil,Bool.and_true,Bool.and_eq_true];exact ⟨rfl,rfl,rfl,rfl,rfl,h0,h1⟩)) rfl rfl rfl rfl fun W9 hS=>?_
     refine aC rfl rfl (aN (XF.thenN (bL (XF.thenR (XF.res (iO (vs:=[_,_,_,_,_,_,_]) results26 isAgg29 sizeOf29 rfl (aF.own (j:=0) (m:=7) (hS.at_ 0 rfl) rfl) rfl) ?_)))))
     have hme:eO ⟨s,st,sy,fa,fl,fc,fs,ta,tl,tc,ts⟩ ⟨dsy,na,nl,nc,ns,aa,al,ac,bs⟩=3:=by unfold eO;rw [if_neg (fun h=>h hE),if_neg hnd,if_pos (.inl hg40)]
     exact ⟨hS.below,.inl ⟨by rw [hme],by rw [hme];decide⟩⟩
    ·have hg40:=of_decide_eq_false hc;clear hc
     refine aB (d:=40) rfl rfl (aK (o':=6) dR rfl rfl rfl (aB (d:=40) rfl rfl (aR isAgg27 rfl (aH (hS.at_ 2 rfl) rfl) rfl (aB (d:=40) rfl rfl (cC underlying27 rfl rfl (aB (d:=40) rfl rfl (aE rfl rfl (aB (d:=40) rfl rfl (lP rfl rfl (IntWalk.i64_in _ (by omega)) rfl (aB (d:=40) rfl rfl (gI rfl rfl rfl (bF rfl rfl rfl (aN (XF.thenN (bB rfl (fun hc=>?_) (fun hc=>?_))))))))))))))))
     ·have hc47:=of_decide_eq_true hc;clear hc
      refine aM (aQ (cV (us:=[]) rfl (nR) rfl ?_))
      refine aU (i:=0) (vs:=[_,_,_,_,_,_,_]) (cs':=[_,_,_,_,_,_,_]) (O':=[_,_,_]) hS sizeOf29 rfl rfl (by first | rfl | (have h0:=hS.oneV 0 _ rfl;simp only [List.all_cons,List.all_nil,Bool.and_true,Bool.and_eq_true];exact ⟨rfl,rfl,rfl,rfl,rfl,rfl,h0⟩) | (have h0:=hS.oneV 0 _ rfl;have h1:=hS.oneV 1 _ rfl;simp only [List.all_cons,List.all_nil,Bool.and_true,Bool.and_eq_true];exact ⟨rfl,rfl,rfl,rfl,rfl,h0,h1⟩)) rfl rfl rfl rfl fun W10 hS=>?_
      refine aC rfl rfl (aN (XF.thenN (bL (XF.thenR (XF.res (iO (vs:=[_,_,_,_,_,_,_]) results26 isAgg29 sizeOf29 rfl (aF.own (j:=0) (m:=7) (hS.at_ 0 rfl) rfl) rfl) ?_)))))
      have hme:eO ⟨s,st,sy,fa,fl,fc,fs,ta,tl,tc,ts⟩ ⟨dsy,na,nl,nc,ns,aa,al,ac,bs⟩=3:=by unfold eO;rw [if_neg (fun h=>h hE),if_neg hnd,if_pos (.inr hc47)]
      exact ⟨hS.below,.inl ⟨by rw [hme],by rw [hme];decide⟩⟩
     ·have hc47:=of_decide_eq_false hc;clear hc
      have hME:eO ⟨s,st,sy,fa,fl,fc,fs,ta,tl,tc,ts⟩ ⟨dsy,na,nl,nc,ns,aa,al,ac,bs⟩=0:=by unfold eO;rw [if_neg (fun h=>h hE),if_neg hnd,if_neg (by rintro (h | h);exact hg40 h;exact hc47 h)]
      have htn:tl * nl≤65536:=by omega
      refine bI (XF.thenN (aM (aQ (aK (o':=0) kF rfl rfl rfl (aT (vs:=[_,_,_]) isAgg25 sizeOf25 rfl (aF.own (j:=0) (m:=3) (hS.at_ 2 rfl) rfl) rfl (aK (o':=3) fQ rfl rfl rfl (aR isAgg3 rfl (aH (hS.at_ 2 rfl) rfl) rfl (aE rfl rfl (lP rfl rfl (IntWalk.i64_in _ (by omega)) rfl (aK (o':=4) iB rfl rfl rfl (aR isAgg3 rfl (aH (hS.at_ 2 rfl) rfl) rfl (cV (us:=[(0,.agg (List.toArray [_,_,_])),(1,.int .i64 _),(2,.int .i64 _)]) rfl (Fj _ _ _ _ _) rfl (bE (cs:=[_,_,_,_,_,_,_]) hS zeroValue29 rfl rfl fun B11 W11 hS=>?_)))))))))))))
      refine aU (i:=0) (vs:=[_,_,_,_,_,_,_]) (cs':=[_,_,_,_,_,_,_]) (O':=[_,_,_,_]) hS sizeOf29 rfl rfl (by first | rfl | (have h0:=hS.oneV 0 _ rfl;simp only [List.all_cons,List.all_nil,Bool.and_true,Bool.and_eq_true];exact ⟨rfl,rfl,rfl,rfl,rfl,rfl,h0⟩) | (have h0:=hS.oneV 0 _ rfl;have h1:=hS.oneV 1 _ rfl;simp only [List.all_cons,List.all_nil,Bool.and_true,Bool.and_eq_true];exact ⟨rfl,rfl,rfl,rfl,rfl,h0,h1⟩)) rfl rfl rfl rfl fun W12 hS=>?_
      refine aN (XF.thenN (aM (aM ?_)))
      have hS:=hS.newG 66 9
      refine aQ (aC rfl rfl (aN (XF.thenN (bK (dQ (fun m l W=>∃ (i:Nat) (vt:Value) (ms:List M9),i≤tl∧m=tl - i∧l=[(2,.pointer (some ⟨B1,0,none⟩)),(3,.pointer (some ⟨B2,0,none⟩)),(4,.pointer (some ⟨B3,0,none⟩)),(7,.int .i64 (nl:Int)),(8,.pointer (some ⟨B11,0,none⟩)),(9,.int .i64 (i:Int))]∧ms.map M9.pl=mPl ⟨dsy,na,nl,nc,ns,aa,al,ac,bs⟩ (ts.take i)∧XM (fun W2=>Below w.heap.size w W2) S ms (mXs py nl (ts.take i))∧St w [(B11,[.int .i64 s.f.tag,.int .i64 s.f.dim,.slice s.f.a s.f.len s.f.cap,.int .i64 (st * (nl:Int)),.int .i64 sy,.slice none 0 0,vt],29),(B3,[.int .i64 0,.int .i64 0,.slice none 0 0,.int .i64 0,.int .i64 0,.slice none 0 0,.slice none 0 0],29),(B2,[.int .i64 dsy,.slice na nl nc,.slice aa al ac],60),(B1,[.int .i64 s.f.tag,.int .i64 s.f.dim,.slice s.f.a s.f.len s.f.cap,.int .i64 st,.int .i64 sy,.slice fa fl fc,.slice ta tl tc],29)] [⟨vt,ms.length,ms.flatMap M9.nine,66,9⟩] [] W) (tl - 0) ([(2,_),(3,_),(4,_),(7,_),(8,_),(9,_)]) ⟨rfl,rfl,rfl,rfl,rfl,rfl,trivial⟩ (⟨0,_,[],Nat.zero_le _,rfl,rfl,rfl,XM.nil,hS.clear⟩) ?_)))))
      clear hS
      rintro m l W ⟨i,vt,ms,hi,rfl,rfl,hpl,hXM,hS⟩
      refine aM (aM (aQ (aE rfl rfl (aK (o':=6) dR rfl rfl rfl (aR isAgg27 rfl (aH (hS.at_ 3 rfl) rfl) rfl (cC underlying27 rfl rfl (cK rfl rfl rfl (aN (XF.thenN (bB rfl (fun hc=>?_) (fun hc=>?_)))))))))))
      ·have hc62:=of_decide_eq_true hc;clear hc
       have hk:i < tl:=by omega
       obtain ⟨r,hr⟩:∃ r,ts[i]?=some r:=⟨ts[i]'(by omega),by simp [show i < ts.length by omega]⟩
       obtain ⟨b,off,rfl,hcs⟩:=htrow.at_ hr
       have hmr:=List.mem_of_getElem? hr
       have hpr:=hA.px r hmr
       obtain ⟨fN,hfN,hfN2⟩:=dV (hA.tf r hmr)
       obtain ⟨tN,htN,htN2⟩:=dV (hA.tt r hmr)
       have hgm:=hA.tg r hmr
       obtain ⟨rf,rg,rt,rx⟩:=r
       dsimp only at hfN htN hpr hgm
       subst hfN;subst htN
       dsimp only [TV.nine] at hcs
       have k1:=aF.agree hS.agree (Nat.zero_le _) hcs
       have hmf:0≤(fN:Int) * (nl:Int)∧(fN:Int) * (nl:Int)≤4194304:=by rw [Int.mul_comm];exact rG (by omega) (by omega) (by omega)
       have hmt:0≤(tN:Int) * (nl:Int)∧(tN:Int) * (nl:Int)≤4194304:=by rw [Int.mul_comm];exact rG (by omega) (by omega) (by omega)
       have hil:(i+1) * nl≤tl * nl:=Nat.mul_le_mul_right nl hk
       rw [Nat.add_mul,Nat.one_mul] at hil
       refine bI (XF.thenN (aM (bK (aM (aQ (aK (o':=6) dR rfl rfl rfl (aR isAgg27 rfl (aH (hS.at_ 3 rfl) rfl) rfl (aE rfl rfl (bZ  underlying27 sizeOf66 rfl rfl rfl (by omega) rfl rfl (aT (vs:=[_,_,_,_,_,_,_,_,_]) isAgg66 sizeOf66 rfl (k1) rfl (bE (cs:=[_,_,_,_,_,_,_,_,_]) hS zeroValue66 rfl rfl fun B13 W13 hS=>?_)))))))))))
       refine aU (i:=0) (vs:=[_,_,_,_,_,_,_,_,_]) (cs':=[_,_,_,_,_,_,_,_,_]) (O':=[_,_,_,_,_]) hS sizeOf66 rfl rfl (by first | rfl | (have h0:=hS.oneV 0 _ rfl;simp only [List.all_cons,List.all_nil,Bool.and_true,Bool.and_eq_true];exact ⟨rfl,rfl,rfl,rfl,rfl,rfl,h0⟩) | (have h0:=hS.oneV 0 _ rfl;have h1:=hS.oneV 1 _ rfl;simp only [List.all_cons,List.all_nil,Bool.and_true,Bool.and_eq_true];exact ⟨rfl,rfl,rfl,rfl,rfl,h0,h1⟩)) rfl rfl rfl rfl fun W14 hS=>?_
       refine aN (XF.thenN (aM (aQ (aC rfl rfl (aN (XF.thenN (bK ?_)))))))
       refine dQ (fun m l W=>∃ (k:Nat) (vt:Value) (ms:List M9),k≤nl∧m=nl - k∧l=[(2,.pointer (some ⟨B1,0,none⟩)),(3,.pointer (some ⟨B2,0,none⟩)),(4,.pointer (some ⟨B3,0,none⟩)),(7,.int .i64 (nl:Int)),(8,.pointer (some ⟨B11,0,none⟩)),(9,.int .i64 (i:Int)),(10,.pointer (some ⟨B13,0,none⟩)),(11,.int .i64 (k:Int))]∧ms.map M9.pl=mPl ⟨dsy,na,nl,nc,ns,aa,al,ac,bs⟩ (ts.take i)++xB ⟨dsy,na,nl,nc,ns,aa,al,ac,bs⟩ (⟨(fN:Int),rg,(tN:Int),rx⟩:TV) k∧XM (fun W2=>Below w.heap.size w W2) S ms (mXs py nl (ts.take i)++List.replicate k (py (⟨(fN:Int),rg,(tN:Int),rx⟩:TV)))∧St w [(B13,[.int .i64 (fN:Int),.int .i64 rg,.int .i64 (tN:Int),.bool rx.f.z,.int .i64 rx.f.c,.int .u64 (rx.f.g:Int),.slice rx.f.ra rx.f.rl rx.f.rc,.slice rx.f.ca rx.f.cl rx.f.cc,.slice rx.f.pa rx.f.pl rx.f.pc],66),(B11,[.int .i64 s.f.tag,.int .i64 s.f.dim,.slice s.f.a s.f.len s.f.cap,.int .i64 (st * (nl:Int)),.int .i64 sy,.slice none 0 0,vt],29),(B3,[.int .i64 0,.int .i64 0,.slice none 0 0,.int .i64 0,.int .i64 0,.slice none 0 0,.slice none 0 0],29),(B2,[.int .i64 dsy,.slice na nl nc,.slice aa al ac],60),(B1,[.int .i64 s.f.tag,.int .i64 s.f.dim,.slice s.f.a s.f.len s.f.cap,.int .i64 st,.int .i64 sy,.slice fa fl fc,.slice (some ⟨b,off,none⟩) tl tc],29)] [⟨vt,ms.length,ms.flatMap M9.nine,66,9⟩] [] W) (nl - 0) ([(2,_),(3,_),(4,_),(7,_),(8,_),(9,_),(10,_),(11,_)]) ⟨rfl,rfl,rfl,rfl,rfl,rfl,rfl,rfl,trivial⟩ (⟨0,vt,ms,Nat.zero_le _,rfl,rfl,by rw [hpl];simp [xB],by rw [List.replicate_zero,List.append_nil];exact hXM,hS.clear⟩) ?_
       clear hS
       clear hpl hXM hS k1;rintro m l W ⟨k,vt,ms,hk0,rfl,rfl,hpl,hXM,hS⟩
       refine aM (aM (aQ (aE rfl rfl (aE rfl rfl (cK rfl rfl rfl (aN (XF.thenN (bB rfl (fun hc=>?_) (fun hc=>?_)))))))))
       ·have hc72:=of_decide_eq_true hc;clear hc
        have hk2:k < nl:=by omega
        obtain ⟨q,hq⟩:∃ q,ns[k]?=some q:=⟨ns[k]'(by omega),by simp [show k < ns.length by omega]⟩
        obtain ⟨nb,noff,rfl,hnc⟩:=hnr k q hq
        obtain ⟨hqr,hql,hqm⟩:=hri q (List.mem_of_getElem? hq)
        have hqd:=hdk.row k q hq
        obtain ⟨qa,ql,qc,xs⟩:=q
        dsimp only at hqr hql hqm hqd
        have hml:=congrArg List.length hpl
        simp only [List.length_map,List.length_append,xQ,Ap,List.length_take] at hml
        rw [Nat.min_eq_left (by omega)] at hml
        refine bI (XF.thenN (aM (bK (aM (aQ (aE rfl rfl (aC rfl rfl (aN (XF.thenN (joinF (fun l W=>∃ z:Int,z=toK ⟨dsy,some ⟨nb,noff,none⟩,nl,nc,ns,aa,al,ac,bs⟩ rg k∧0≤z∧z < (nl:Int)∧l=[(2,.pointer (some ⟨B1,0,none⟩)),(3,.pointer (some ⟨B2,0,none⟩)),(4,.pointer (some ⟨B3,0,none⟩)),(7,.int .i64 (nl:Int)),(8,.pointer (some ⟨B11,0,none⟩)),(9,.int .i64 (i:Int)),(10,.pointer (some ⟨B13,0,none⟩)),(11,.int .i64 (k:Int)),(12,.int .i64 z)]∧St w [(B13,[.int .i64 (fN:Int),.int .i64 rg,.int .i64 (tN:Int),.bool rx.f.z,.int .i64 rx.f.c,.int .u64 (rx.f.g:Int),.slice rx.f.ra rx.f.rl rx.f.rc,.slice rx.f.ca rx.f.cl rx.f.cc,.slice rx.f.pa rx.f.pl rx.f.pc],66),(B11,[.int .i64 s.f.tag,.int .i64 s.f.dim,.slice s.f.a s.f.len s.f.cap,.int .i64 (st * (nl:Int)),.int .i64 sy,.slice none 0 0,vt],29),(B3,[.int .i64 0,.int .i64 0,.slice none 0 0,.int .i64 0,.int .i64 0,.slice none 0 0,.slice none 0 0],29),(B2,[.int .i64 dsy,.slice (some ⟨nb,noff,none⟩) nl nc,.slice aa al ac],60),(B1,[.int .i64 s.f.tag,.int .i64 s.f.dim,.slice s.f.a s.f.len s.f.cap,.int .i64 st,.int .i64 sy,.slice fa fl fc,.slice (some ⟨b,off,none⟩) tl tc],29)] [⟨vt,ms.length,ms.flatMap M9.nine,66,9⟩] [] W) ?_ ?_))))))))))
        ·clear hS
         rintro l W ⟨z,hz,hz0,hz1,rfl,hS⟩
         refine aQ (aK (o':=6) dR rfl rfl rfl (aR isAgg27 rfl (aH (hS.at_ 1 rfl) rfl) rfl (aK (o':=0) pJ rfl rfl rfl (aR isAgg3 rfl (aH (hS.at_ 0 rfl) rfl) rfl (aE rfl rfl (lP rfl rfl (IntWalk.i64_in _ (by omega)) rfl (aE rfl rfl (cP rfl rfl (IntWalk.i64_in _ (by omega)) rfl (aK (o':=1) iM rfl rfl rfl (aR isAgg3 rfl (aH (hS.at_ 0 rfl) rfl) rfl (aK (o':=2) kE rfl rfl rfl (aR isAgg3 rfl (aH (hS.at_ 0 rfl) rfl) rfl (aE rfl rfl (lP rfl rfl (IntWalk.i64_in _ (by omega)) rfl (aE rfl rfl (cP rfl rfl (IntWalk.i64_in _ (by omega)) rfl (aK (o':=3) nK rfl rfl rfl (aT (vs:=[_,_,_,_,_,_]) isAgg44 sizeOf44 rfl (aF.own (j:=3) (m:=6) (hS.at_ 0 rfl) rfl) rfl (cV (us:=[(0,.int .i64 _),(1,.int .i64 _),(2,.int .i64 _),(3,.agg (List.toArray [_,_,_,_,_,_]))]) rfl (As _ _ _ _ _ _ _ _ _) rfl (cW (us:=[(0,.agg (List.toArray [_,_,_,_,_,_,_,_,_]))]) hS underlying27 sizeOf66 zeroValue66 rfl rfl rfl (bs_27_1 _ _ _ _ _ _ _ _ _) rfl fun B15 W15 hS=>?_))))))))))))))))))))
         refine mB (i:=0) (news:=[_,_,_,_,_,_,_,_,_]) hS underlying27 Uh rfl rfl (by show 0 < 9;decide) rfl rfl rfl rfl rfl (aF.own (j:=0) (m:=9) (hS.at_ 0 rfl) rfl) rfl rfl (by dsimp only;simp only [maxLen];omega) (by dsimp only;show _ * 120≤_;omega) rfl fun v16 W16 hS=>?_
         refine aK (o':=6) dR rfl rfl rfl (dN (i:=2) (cs':=[_,_,_,_,_,_,_]) (O':=[_,_,_,_,_,_]) hS sizeOf27 rfl rfl (by first | rfl | exact (hS.oneV 0 _ rfl :) | exact (hS.oneV 1 _ rfl :) | exact (hS.oneV 2 _ rfl :) | exact (hS.oneV 3 _ rfl :)) rfl rfl rfl rfl fun W17 hS=>aN (XF.blkN (XF.thenN (aQ (aE rfl rfl (cP rfl rfl (IntWalk.i64_in _ (by omega)) rfl (aC rfl rfl (aN ?_))))))))
         exact XF.round (nl - (k+1)) [(2,_),(3,_),(4,_),(7,_),(8,_),(9,_),(10,_),(11,_)] (by omega) ⟨rfl,rfl,rfl,rfl,rfl,rfl,rfl,rfl,trivial⟩ ⟨k+1,_,ms++[⟨(fN:Int) * (nl:Int)+(k:Int),rg,(tN:Int) * (nl:Int)+z,rx.f⟩],by omega,rfl,rfl,by rw [List.map_append,hpl,Da,← List.append_assoc,← hz];rfl,by rw [List.replicate_succ',← List.append_assoc];exact hXM.app hpr.far,(hS.tail.castG (by simp)).clear⟩
        ·skip
         refine aM (aQ (aK (o':=1) iM rfl rfl rfl (aR isAgg3 rfl (aH (hS.at_ 0 rfl) rfl) rfl (lO rfl rfl rfl (aN (XF.thenN (bB rfl (fun hc=>?_) (fun hc=>?_))))))))
         ·have hc78:=of_decide_eq_true hc;clear hc
          obtain ⟨gN,rfl⟩:∃ g:Nat,rg=(g:Int):=⟨rg.toNat,by omega⟩
          obtain ⟨yb,yo,y,rfl,hy,hyc⟩:=hqr.at1 (show gN < xs.length by omega)
          have hyq:=hqd.2 y (List.mem_of_getElem? hy)
          obtain ⟨yN,hyN,hyN2⟩:=dV hyq
          have hz:y=toK ⟨dsy,some ⟨nb,noff,none⟩,nl,nc,ns,aa,al,ac,bs⟩ (gN:Int) k:=by
           unfold toK Fi
           rw [if_pos (by omega),Int.toNat_natCast]
           show y=(((ns[k]?).map (·.xs)).getD []).getD gN 0
           rw [hq];exact (nI hy).symm
          have kn:=hS.old hnc
          have ky:=hS.old hyc
          refine lQ (m:=10) cF hS (by kernel_rfl) (by kernel_rfl) rfl (cL 1 rfl 3 rfl rfl (fun w hw=>aV (o':=1) iN rfl rfl) rfl (bC 2 rfl 79 0 rfl rfl rfl (fun w hw=>aZ isAgg57 rfl ((aP hw 0).cell (Nat.zero_le _) (aH (hS.at_ 3 rfl) rfl))) rfl (cL 3 rfl 11 rfl rfl (fun w hw=>bA rfl) rfl (aL 4 rfl (isV _) (aI _) (rgV (li:=[(80,_),(81,_)]) rfl (aS rfl) ⟨aO 1 (aA rfl rfl rfl),aO 2 (aA rfl rfl rfl),trivial⟩ (fun w hw=>bG  underlying57 sizeOf26 rfl rfl rfl (by omega) rfl) (aG rfl)) (bC 5 rfl 82 3 rfl rfl rfl (fun w hw=>aZ isAgg26 rfl ((aP hw 0).cell (Nat.zero_le _) (kn))) rfl (cL 6 rfl 10 rfl rfl (fun w hw=>aV (o':=1) iM rfl rfl) rfl (bC 7 rfl 84 5 rfl rfl rfl (fun w hw=>aZ isAgg3 rfl ((aP hw 0).cell (Nat.zero_le _) (aH (hS.at_ 0 rfl) rfl))) rfl ?_)))))))
          refine aL 8 rfl (isV _) (aI _) (rgV (li:=[(83,_),(85,_)]) rfl (aS rfl) ⟨aO 4 (aA rfl rfl rfl),aO 6 (aA rfl rfl rfl),trivial⟩ (fun w hw=>bG  underlying26 sizeOf3 rfl rfl rfl (by dsimp only;omega) rfl) (aG rfl)) ?_
          refine bC 9 rfl 86 7 rfl rfl rfl (fun w hw=>aZ isAgg3 rfl ((aP hw 0).cell (Nat.zero_le _) (ky))) rfl (bC 10 rfl 87 8 rfl rfl rfl (fun w hw=>fW rfl) rfl (dW ?_))
          intro W18 hbR hS'
          clear hS;have hS:=hS';clear hS'
          refine aJ (aJ (aJ (aJ (aJ (aJ (aJ (aJ (aJ (aJ (cQ ?_))))))))))
          exact XF.join [(2,_),(3,_),(4,_),(7,_),(8,_),(9,_),(10,_),(11,_),(12,_)] ⟨rfl,rfl,rfl,rfl,rfl,rfl,rfl,rfl,rfl,trivial⟩ ⟨y,hz,by omega,by omega,rfl,hS.clear⟩
         ·have hc78:=of_decide_eq_false hc;clear hc
          refine bI ?_
          exact XF.join [(2,_),(3,_),(4,_),(7,_),(8,_),(9,_),(10,_),(11,_),(12,_)] ⟨rfl,rfl,rfl,rfl,rfl,rfl,rfl,rfl,rfl,trivial⟩ ⟨(k:Int),by unfold toK;rw [if_neg hc78],by omega,by omega,rfl,hS.clear⟩
       ·have hc72:=of_decide_eq_false hc;clear hc
        have hkn:k=nl:=by omega
        rw [hkn] at hpl hXM
        refine dP (XF.thenX (XF.thenX (XF.blkX (XF.blkN (XF.thenN (aQ (aE rfl rfl (cP rfl rfl (IntWalk.i64_in _ (by omega)) rfl (aC rfl rfl (aN ?_))))))))))
        exact XF.round (tl - (i+1)) [(2,_),(3,_),(4,_),(7,_),(8,_),(9,_)] (by omega) ⟨rfl,rfl,rfl,rfl,rfl,rfl,trivial⟩ ⟨i+1,vt,ms,by omega,rfl,rfl,by rw [Iu hr];exact hpl,by rw [Iv hr];exact hXM,hS.tail.clear⟩
      ·have hc62:=of_decide_eq_false hc;clear hc
       rw [List.take_of_length_le (by omega)] at hpl hXM
       refine dP (XF.thenX (XF.thenX (XF.blkX (XF.thenN (aM (aM (aQ (aT (vs:=[_,_,_]) isAgg60 sizeOf60 rfl (aF.own (j:=0) (m:=3) (hS.at_ 2 rfl) rfl) rfl (cN (vs:=[_]) hS goes_73 rfl (Lg ⟨dsy,na,nl,nc,ns,aa,al,ac,bs⟩ _ (hdi.below hS.below)) rfl ?_)))))))))
       rintro e W19 ⟨c0,rfl,hc0,hb⟩
       refine ⟨_,rfl,hb,fun hS'=>?_⟩
       clear hS;have hS:=hS';clear hS' hb
       refine cY rfl rfl rfl (aN (XF.thenN (bB rfl (fun hc=>?_) (fun hc=>?_))))
       ·have hc112:=of_decide_eq_true hc;clear hc
        refine aM (aQ (aT (vs:=[_,_,_,_,_,_,_]) isAgg29 sizeOf29 rfl (aF.own (j:=0) (m:=7) (hS.at_ 0 rfl) rfl) rfl ?_))
        refine aU (i:=1) (vs:=[_,_,_,_,_,_,_]) (cs':=[_,_,_,_,_,_,_]) (O':=[_,_,_,_]) hS sizeOf29 rfl rfl (by first | rfl | (have h0:=hS.oneV 0 _ rfl;simp only [List.all_cons,List.all_nil,Bool.and_true,Bool.and_eq_true];exact ⟨rfl,rfl,rfl,rfl,rfl,rfl,h0⟩) | (have h0:=hS.oneV 0 _ rfl;have h1:=hS.oneV 1 _ rfl;simp only [List.all_cons,List.all_nil,Bool.and_true,Bool.and_eq_true];exact ⟨rfl,rfl,rfl,rfl,rfl,h0,h1⟩)) rfl rfl rfl rfl fun W20 hS=>?_
        refine aC rfl rfl (aN (XF.thenN (bL (XF.thenR (XF.res (iO (vs:=[_,_,_,_,_,_,_]) results26 isAgg29 sizeOf29 rfl (aF.own (j:=0) (m:=7) (hS.at_ 1 rfl) rfl) rfl) ?_)))))
        obtain ⟨a8,c8,rfl⟩:=hS.headSl
        have hF0:mFs ⟨dsy,na,nl,nc,ns,aa,al,ac,bs⟩ fs=[]:=Uf fun j hj=>hc0 (by omega) j (by rw [hal,show al=nl from hdk.al];exact hj)
        exact ⟨hS.below,.inr ⟨hME,s.f,none,a8,0,c8,ms,by rw [hF0];rfl,fun W2 hb hg=>⟨⟨hA.ok,hA.si.below hb⟩,by rw [hF0];exact .inl rfl,tJ (fS (hS.row 0 rfl) hg),(fun S9 e9=>by cases e9;exact hXM.mono fun W3 h=>hb.trans (h.mono hb.size)),(fun h=>by cases h),hpl⟩⟩⟩
       ·have hc112:=of_decide_eq_false hc;clear hc
        refine bI (XF.thenN (aM (aM ?_)))
        have hS:=hS.newG 3 1
        refine aQ (aC rfl rfl (aN (XF.thenN (bK (dQ (fun m l W=>∃ (j:Nat) (vf:Value) (Fs:List Int),j≤fl∧m=fl - j∧l=[(2,.pointer (some ⟨B1,0,none⟩)),(3,.pointer (some ⟨B2,0,none⟩)),(4,.pointer (some ⟨B3,0,none⟩)),(7,.int .i64 (nl:Int)),(8,.pointer (some ⟨B11,0,none⟩)),(13,.int .i64 (j:Int))]∧Fs=mFs ⟨dsy,na,nl,nc,ns,aa,al,ac,bs⟩ (fs.take j)∧St w [(B11,[.int .i64 s.f.tag,.int .i64 s.f.dim,.slice s.f.a s.f.len s.f.cap,.int .i64 (st * (nl:Int)),.int .i64 sy,vf,vt],29),(B3,[.int .i64 0,.int .i64 0,.slice none 0 0,.int .i64 0,.int .i64 0,.slice none 0 0,.slice none 0 0],29),(B2,[.int .i64 dsy,.slice na nl nc,.slice aa al ac],60),(B1,[.int .i64 s.f.tag,.int .i64 s.f.dim,.slice s.f.a s.f.len s.f.cap,.int .i64 st,.int .i64 sy,.slice fa fl fc,.slice ta tl tc],29)] [⟨vf,Fs.length,Fs.map (Value.int .i64),3,1⟩,⟨vt,ms.length,ms.flatMap M9.nine,66,9⟩] [] W) (fl - 0) ([(2,_),(3,_),(4,_),(7,_),(8,_),(13,_)]) ⟨rfl,rfl,rfl,rfl,rfl,rfl,trivial⟩ (⟨0,_,[],Nat.zero_le _,rfl,rfl,rfl,hS.clear⟩) ?_)))))
        clear hS
        clear hS;rintro m l W ⟨j,vf,Fs,hj,rfl,rfl,hFs,hS⟩
        refine aM (aM (aQ (aE rfl rfl (aK (o':=5) eE rfl rfl rfl (aR isAgg26 rfl (aH (hS.at_ 3 rfl) rfl) rfl (cC underlying26 rfl rfl (cK rfl rfl rfl (aN (XF.thenN (bB rfl (fun hc=>?_) (fun hc=>?_)))))))))))
        ·have hc118:=of_decide_eq_true hc;clear hc
         have hk:j < fl:=by omega
         obtain ⟨b,off,y,rfl,hy,hyc⟩:=hfrow.at1 (show j < fs.length by omega)
         obtain ⟨yN,rfl,hyN2⟩:=dV (hA.fq y (List.mem_of_getElem? hy))
         have hmy:0≤(yN:Int) * (nl:Int)∧(yN:Int) * (nl:Int)≤4194304:=by rw [Int.mul_comm];exact rG (by omega) (by omega) (by omega)
         refine bI (XF.thenN (aM (bK (aM (aQ (aC rfl rfl (aN (XF.thenN (bK ?_)))))))))
         refine dQ (fun m l W=>∃ (k:Nat) (vf:Value) (Fs:List Int),k≤nl∧m=nl - k∧l=[(2,.pointer (some ⟨B1,0,none⟩)),(3,.pointer (some ⟨B2,0,none⟩)),(4,.pointer (some ⟨B3,0,none⟩)),(7,.int .i64 (nl:Int)),(8,.pointer (some ⟨B11,0,none⟩)),(13,.int .i64 (j:Int)),(14,.int .i64 (k:Int))]∧Fs=mFs ⟨dsy,na,nl,nc,ns,aa,al,ac,bs⟩ (fs.take j)++sD ⟨dsy,na,nl,nc,ns,aa,al,ac,bs⟩ (yN:Int) k∧St w [(B11,[.int .i64 s.f.tag,.int .i64 s.f.dim,.slice s.f.a s.f.len s.f.cap,.int .i64 (st * (nl:Int)),.int .i64 sy,vf,vt],29),(B3,[.int .i64 0,.int .i64 0,.slice none 0 0,.int .i64 0,.int .i64 0,.slice none 0 0,.slice none 0 0],29),(B2,[.int .i64 dsy,.slice na nl nc,.slice aa al ac],60),(B1,[.int .i64 s.f.tag,.int .i64 s.f.dim,.slice s.f.a s.f.len s.f.cap,.int .i64 st,.int .i64 sy,.slice (some ⟨b,off,none⟩) fl fc,.slice ta tl tc],29)] [⟨vf,Fs.length,Fs.map (Value.int .i64),3,1⟩,⟨vt,ms.length,ms.flatMap M9.nine,66,9⟩] [] W) (nl - 0) ([(2,_),(3,_),(4,_),(7,_),(8,_),(13,_),(14,_)]) ⟨rfl,rfl,rfl,rfl,rfl,rfl,rfl,trivial⟩ (⟨0,vf,Fs,Nat.zero_le _,rfl,rfl,by rw [hFs];simp [sD],hS.clear⟩) ?_
         clear hS
         clear hFs hS;rintro m l W ⟨k,vf,Fs,hk0,rfl,rfl,hFs,hS⟩
         refine aM (aM (aQ (aE rfl rfl (aE rfl rfl (cK rfl rfl rfl (aN (XF.thenN (bB rfl (fun hc=>?_) (fun hc=>?_)))))))))
         ·have hc123:=of_decide_eq_true hc;clear hc
          have hk2:k < nl:=by omega
          have hFl:Fs.length≤8388608:=by
           rw [hFs,List.length_append]
           have h1:=Aq ⟨dsy,na,nl,nc,ns,aa,al,ac,bs⟩ (yN:Int) k
           have h2:=xR ⟨dsy,na,nl,nc,ns,aa,al,ac,bs⟩ (fs.take j)
           have h3:(fs.take j).length * nl≤4096 * 1024:=Nat.mul_le_mul (by rw [List.length_take];have:(fs.length:Int)≤max st 0:=hfl4;omega) hnlb.2
           have h4:(mFs ⟨dsy,na,nl,nc,ns,aa,al,ac,bs⟩ (fs.take j)).length≤(fs.take j).length * nl:=h2
           omega
          obtain ⟨v,hv⟩:∃ v,bs[k]?=some v:=⟨bs[k]'(by have:al=nl:=hdk.al;omega),List.getElem?_eq_getElem _⟩
          obtain ⟨vb,vo,rfl,hvc⟩:=har k v hv
          have kv:=hS.old hvc
          have hvd:bs.getD k false=v:=by rw [List.getD_eq_getElem?_getD,hv];rfl
          refine bI (XF.thenN (aM (bK (aM (aQ (aK (o':=2) pN rfl rfl rfl (aR isAgg58 rfl (aH (hS.at_ 2 rfl) rfl) rfl (aE rfl rfl (bZ  underlying58 sizeOf4 rfl rfl rfl (by omega) rfl rfl (aR isAgg4 rfl (kv) rfl (aN (XF.thenN (bB rfl (fun hc=>?_) (fun hc=>?_))))))))))))))
          ·have hc130:=hc;clear hc
           obtain rfl:v=true:=hc130
           have kf:=hS.old hyc
           refine regBP (p:=12) (k:=14) (gi:=0) (m:=1) cF hS rfl rfl (by kernel_rfl) (by kernel_rfl) (by kernel_rfl) (fun d hd=>by cases hd) rfl rfl underlying26 Bg rfl rfl (by show 0 < 1;decide) rfl rfl rfl (by dsimp only;simp only [maxLen];omega) (by dsimp only;show _ * 8≤_;omega) ?_
           refine fI 1 rfl rfl (by kernel_rfl) (rgV (li:=[(8,_)]) rfl (aS rfl) ⟨cG rfl,trivial⟩ (fun w hw=>aV (o':=5) eE rfl rfl) (aG rfl)) (fI 2 rfl rfl (by kernel_rfl) (rgV (li:=[(131,_)]) rfl (aS rfl) ⟨aO 0 (aA rfl rfl rfl),trivial⟩ (fun w hw=>aZ isAgg26 rfl ((aP hw 0).cell (Nat.zero_le _) (aH (hS.at_ 0 rfl) rfl))) (aG rfl)) (fI 3 rfl rfl (by kernel_rfl) (rgV (li:=[(2,_)]) rfl (aS rfl) ⟨cG rfl,trivial⟩ (fun w hw=>aV (o':=5) eE rfl rfl) (aG rfl)) (fI 4 rfl rfl (by kernel_rfl) (rgV (li:=[(133,_)]) rfl (aS rfl) ⟨aO 2 (aA rfl rfl rfl),trivial⟩ (fun w hw=>aZ isAgg26 rfl ((aP hw 0).cell (Nat.zero_le _) (aH (hS.at_ 3 rfl) rfl))) (aG rfl)) (fI 5 rfl rfl (by kernel_rfl) (rgV (li:=[(13,_)]) rfl (aS rfl) ⟨cG rfl,trivial⟩ (fun w hw=>bA rfl) (aG rfl)) (fI 6 rfl rfl (by kernel_rfl) (rgV (li:=[(134,_),(135,_)]) rfl (aS rfl) ⟨aO 3 (aA rfl rfl rfl),aO 4 (aA rfl rfl rfl),trivial⟩ (fun w hw=>bG  underlying26 sizeOf3 rfl rfl rfl (by omega) rfl) (aG rfl)) (fI 7 rfl rfl (by kernel_rfl) (rgV (li:=[(136,_)]) rfl (aS rfl) ⟨aO 5 (aA rfl rfl rfl),trivial⟩ (fun w hw=>aZ isAgg3 rfl ((aP hw 0).cell (Nat.zero_le _) (kf))) (aG rfl)) (fI 8 rfl rfl (by kernel_rfl) (rgV (li:=[(7,_)]) rfl (aS rfl) ⟨cG rfl,trivial⟩ (fun w hw=>bA rfl) (aG rfl)) (fI 9 rfl rfl (by kernel_rfl) (rgV (li:=[(137,_),(138,_)]) rfl (aS rfl) ⟨aO 6 (aA rfl rfl rfl),aO 7 (aA rfl rfl rfl),trivial⟩ (fun w hw=>De rfl rfl (IntWalk.i64_in _ (by omega))) (aG rfl)) (fI 10 rfl rfl (by kernel_rfl) (rgV (li:=[(14,_)]) rfl (aS rfl) ⟨cG rfl,trivial⟩ (fun w hw=>bA rfl) (aG rfl)) (fI 11 rfl rfl (by kernel_rfl) (rgV (li:=[(139,_),(140,_)]) rfl (aS rfl) ⟨aO 8 (aA rfl rfl rfl),aO 9 (aA rfl rfl rfl),trivial⟩ (fun w hw=>Dd rfl rfl (IntWalk.i64_in _ (by omega))) (aG rfl)) (L8 12 rfl rfl (by kernel_rfl) (tP W.heap.size 1 3 _) (I7) (rg_rowV (us:=[.int .i64 _]) rfl (aS rfl) underlying26 sizeOf3 zeroValue3 rfl rfl ⟨cH (aO 10 (aA rfl rfl rfl)),trivial⟩ (kV _) (aG rfl)) (L9 13 rfl rfl (Fz 14 rfl rfl (rgV (li:=[(8,_)]) rfl (aS rfl) ⟨cG rfl,trivial⟩ (fun w hw=>aV (o':=5) eE rfl rfl) (aG rfl)) (lgV (li:=[(8,_)]) rfl (aS rfl) ⟨cG rfl,trivial⟩ (fun w=>aV (o':=5) eE rfl rfl) (aG rfl) rfl) (L7 ⟨_,_,aO 1 (aA rfl rfl rfl),aO 11 (aA rfl rfl rfl),F3 rfl rfl,?_⟩))))))))))))))
           intro A21 v21 news21 W21 hbR hqA21 hS'
           clear hS;have hS:=hS';clear hS'
           cases hqA21
           refine aJ (aJ (aJ (aJ (aJ (aJ (aJ (aJ (aJ (aJ (aJ ?_))))))))))
           refine dH ?_;intro _ _
           refine aJ (aJ (cQ (dN (i:=0) (cs':=[_,_,_,_,_,_,_]) (O':=[_,_,_,_]) hS sizeOf26 rfl rfl (by first | rfl | exact (hS.oneV 0 _ rfl :) | exact (hS.oneV 1 _ rfl :) | exact (hS.oneV 2 _ rfl :) | exact (hS.oneV 3 _ rfl :)) rfl rfl rfl rfl fun W22 hS=>aN (XF.blkN (XF.thenN (aQ (aE rfl rfl (cP rfl rfl (IntWalk.i64_in _ (by omega)) rfl (aC rfl rfl (aN ?_))))))))))
           exact XF.round (nl - (k+1)) [(2,_),(3,_),(4,_),(7,_),(8,_),(13,_),(14,_)] (by omega) ⟨rfl,rfl,rfl,rfl,rfl,rfl,rfl,trivial⟩ ⟨k+1,_,Fs++[(yN:Int) * (nl:Int)+(k:Int)],by omega,rfl,rfl,by rw [rZ,if_pos hvd,← List.append_assoc,← hFs],(hS.castG (by simp)).clear⟩
          ·have hc130:=hc;clear hc
           obtain rfl:v=false:=hc130
           refine bI (XF.blkN (XF.thenN (aQ (aE rfl rfl (cP rfl rfl (IntWalk.i64_in _ (by omega)) rfl (aC rfl rfl (aN ?_)))))))
           exact XF.round (nl - (k+1)) [(2,_),(3,_),(4,_),(7,_),(8,_),(13,_),(14,_)] (by omega) ⟨rfl,rfl,rfl,rfl,rfl,rfl,rfl,trivial⟩ ⟨k+1,vf,Fs,by omega,rfl,rfl,by rw [rZ,if_neg (by rw [hvd];decide),List.append_nil];exact hFs,hS.clear⟩
         ·have hc123:=of_decide_eq_false hc;clear hc
          have hkn:k=nl:=by omega
          rw [hkn] at hFs
          refine dP (XF.thenX (XF.thenX (XF.blkX (XF.blkN (XF.thenN (aQ (aE rfl rfl (cP rfl rfl (IntWalk.i64_in _ (by omega)) rfl (aC rfl rfl (aN ?_))))))))))
          exact XF.round (fl - (j+1)) [(2,_),(3,_),(4,_),(7,_),(8,_),(13,_)] (by omega) ⟨rfl,rfl,rfl,rfl,rfl,rfl,trivial⟩ ⟨j+1,vf,Fs,by omega,rfl,rfl,by rw [Iw hy];exact hFs,hS.clear⟩
        ·have hc118:=of_decide_eq_false hc;clear hc
         rw [List.take_of_length_le (by omega)] at hFs
         refine dP (XF.thenX (XF.thenX (XF.blkX (XF.thenN (aM (aQ (aT (vs:=[_,_,_,_,_,_,_]) isAgg29 sizeOf29 rfl (aF.own (j:=0) (m:=7) (hS.at_ 0 rfl) rfl) rfl ?_)))))))
         refine aU (i:=1) (vs:=[_,_,_,_,_,_,_]) (cs':=[_,_,_,_,_,_,_]) (O':=[_,_,_,_]) hS sizeOf29 rfl rfl (by first | rfl | (have h0:=hS.oneV 0 _ rfl;simp only [List.all_cons,List.all_nil,Bool.and_true,Bool.and_eq_true];exact ⟨rfl,rfl,rfl,rfl,rfl,rfl,h0⟩) | (have h0:=hS.oneV 0 _ rfl;have h1:=hS.oneV 1 _ rfl;simp only [List.all_cons,List.all_nil,Bool.and_true,Bool.and_eq_true];exact ⟨rfl,rfl,rfl,rfl,rfl,h0,h1⟩)) rfl rfl rfl rfl fun W23 hS=>?_
         refine aC rfl rfl (aN (XF.thenN (bL (XF.res (iO (vs:=[_,_,_,_,_,_,_]) results26 isAgg29 sizeOf29 rfl (aF.own (j:=0) (m:=7) (hS.at_ 1 rfl) rfl) rfl) ?_))))
         obtain ⟨a9,c9,rfl⟩:=hS.headSl
         obtain ⟨a8,c8,rfl⟩:=hS.restG.headSl
         exact ⟨hS.below,.inr ⟨hME,s.f,a9,a8,c9,c8,ms,by rw [← hFs],fun W2 hb hg=>⟨⟨hA.ok,hA.si.below hb⟩,by rw [← hFs];exact Ix (fS (hS.row 0 rfl) hg),tJ (fS (hS.row 1 rfl) hg),(fun S9 e9=>by cases e9;exact hXM.mono fun W3 h=>hb.trans (h.mono hb.size)),(fun h=>by cases h),hpl⟩⟩⟩
def xS:Asr:=fun v w=>∃ (a:Option Addr) (l c:Nat),v = .slice a l c
theorem Fk:iD xS:=fun v w w' h _=>h
def Ui (lo:Nat) (S:PS) (st sy:Int):Asr:=fun v w=>∃ (sq:SF) (fa:Option Addr) (fl fc:Nat),v = .agg #[.int .i64 sq.tag,.int .i64 sq.dim,.slice sq.a sq.len sq.cap,.int .i64 st,.int .i64 sy,.slice fa fl fc,.slice none 0 0]∧∀ W2,dG lo w W2→SIs W2 S sq
theorem Lh {lo:Nat} {S:PS} {st sy:Int}:iD (Ui lo S st sy):=fun v w w' ⟨s2,a,l,c,h1,h2⟩ hb=>⟨s2,a,l,c,h1,fun W2 hg=>h2 W2 ((aP hb _).trans hg)⟩
theorem Li {lo:Nat} {S:PS}:iD (Hx lo S):=fun v w w' ⟨s2,h1,h2⟩ hb=>⟨s2,h1,fun W2 hg=>h2 W2 ((aP hb _).trans hg)⟩
theorem bldAk (sq:SF) (st sy:Int) (fa:Option Addr) (fl fc:Nat):prog.built 29 [(0,sq.val),(1,.int .i64 st),(2,.int .i64 sy),(3,.slice fa fl fc)]=some #[.int .i64 sq.tag,.int .i64 sq.dim,.slice sq.a sq.len sq.cap,.int .i64 st,.int .i64 sy,.slice fa fl fc,.slice none 0 0]:=by kernel_rfl
theorem bld_alk {d j1 j2 j3 j4 t1 t2 t3 t4 lo:Nat} {W:World} {ty:TypeId} {pos:String} {S:PS} {st sy:Int}:∀ (ev:Operand→Value) (w:World),Below W.heap.size W w→zR [(j1,t1,Hx lo S),(j2,t2,isV (.int .i64 st)),(j3,t3,isV (.int .i64 sy)),(j4,t4,xS)] ev w →
  ∃ v,(execOp ev ⟨some d,.build 29 #[(0,.tmp t1),(1,.tmp t2),(2,.tmp t3),(3,.tmp t4)],ty,pos,#[],none⟩).run prog w = .ok (.value v) w∧Ui lo S st sy v w:=fun ev w _ ⟨⟨sq,h1,h5⟩,h2,h3,⟨fa,fl,fc,h4⟩,_⟩=>by
 have e1:ev (.tmp t1)=_:=h1
 have e2:ev (.tmp t2)=_:=h2
 have e3:ev (.tmp t3)=_:=h3
 have e4:ev (.tmp t4)=_:=h4
 refine ⟨_,?_,sq,fa,fl,fc,rfl,h5⟩
 have hr:=run_build w 29 #[(0,sq.val),(1,.int .i64 st),(2,.int .i64 sy),(3,.slice fa fl fc)] _ (P:=prog) (bldAk sq st sy fa fl fc)
 unfold execOp
 simp only [List.map_toArray,List.map_cons,List.map_nil,e1,e2,e3,e4]
 simp [hr]
theorem Uj (S:PS) (a:AV) (w:World) (hsi:SIs w S a.s.f) (hok:S.ok) (hf:Row w a.fa a.fs) (hfl:a.fs.length=a.fl) (hfm:a.fl≤8192) :
  Calls prog 37 #[a.val] w (fun e w'=>∃ (sq:SF) (fa:Option Addr) (fl fc:Nat),e = .returned (.agg #[.int .i64 sq.tag,.int .i64 sq.dim,.slice sq.a sq.len sq.cap,.int .i64 a.st,.int .i64 a.sy,.slice fa fl fc,.slice none 0 0])∧(∀ W2,dG w.heap.size w' W2→SIs W2 S sq)∧Below w.heap.size w w'):=by
 refine cD (args:=[a.val]) func37 rfl ntmps37 rfl ?_
 have hS:=St.start w
 refine aM (aQ (bY (cs:=[_,_,_,_,_,_,_]) hS rfl rfl rfl fun B1 W1 hS=>bE (cs:=[_,_,_,_,_,_,_]) hS zeroValue29 rfl rfl fun B2 W2 hS=>aN (XF.thenN (aM ?_))))
 have hsz1:=hS.below.size
 refine xV cF 11 hS rfl rfl (by kernel_rfl) (by kernel_rfl) (by kernel_rfl) (fun d hd=>by cases hd) (cL 1 rfl 1 rfl rfl (fun w hw=>aV (o':=0) kF rfl rfl) rfl (bC 2 rfl 3 0 rfl rfl rfl (fun w hw=>bD (vs:=[_,_,_]) isAgg25 sizeOf25 rfl (aF.agree (aP hw 0) (Nat.zero_le _) (aF.own (j:=0) (m:=3) (hS.at_ 1 rfl) rfl))) rfl ?_))
 refine aL 3 rfl (Hx W2.heap.size S) (Li) (dB [isV _] rfl M3 (aS rfl) ⟨cH (aO 1 (aA rfl rfl rfl)),trivial⟩ (fun vs w' hb hh=>by
  have e:=cI (us:=[_]) hh
  subst e
  exact (Px S a.s.f w' (hsi.below (hS.below.trans (hb.mono hS.below.size))) hb.size).mono fun e w2 ⟨v,h1,h2,h3⟩=>⟨v,h1,h2 _ (dG.refl _ _),h3⟩) (aG rfl)) ?_
 refine cL 4 rfl 1 rfl rfl (fun w hw=>aV (o':=3) fQ rfl rfl) rfl (bC 5 rfl 6 3 rfl rfl rfl (fun w hw=>aZ isAgg3 rfl ((aP hw 0).cell (Nat.zero_le _) (aH (hS.at_ 1 rfl) rfl))) rfl (cL 6 rfl 1 rfl rfl (fun w hw=>aV (o':=4) iB rfl rfl) rfl (bC 7 rfl 8 5 rfl rfl rfl (fun w hw=>aZ isAgg3 rfl ((aP hw 0).cell (Nat.zero_le _) (aH (hS.at_ 1 rfl) rfl))) rfl (cL 8 rfl 1 rfl rfl (fun w hw=>aV (o':=5) eE rfl rfl) rfl (bC 9 rfl 10 7 rfl rfl rfl (fun w hw=>aZ isAgg26 rfl ((aP hw 0).cell (Nat.zero_le _) (aH (hS.at_ 1 rfl) rfl))) rfl ?_)))))
 refine aL 10 rfl (xS) (Fk) (dB [isV _] rfl goes_81 (aS rfl) ⟨cH (aO 8 (aA rfl rfl rfl)),trivial⟩ (fun vs w' hb hh=>by
  have e:=cI (us:=[_]) hh
  subst e
  exact (Kg (hf.below (hS.below.trans (hb.mono hS.below.size))) hfl hfm).mono fun e w2 ⟨v,h1,h2,h3⟩=>by
   obtain ⟨a9,c9,e9⟩:=own_sl9 h3
   exact ⟨v,h1,⟨a9,_,c9,e9⟩,h2⟩) (aG rfl)) ?_
 refine aL 11 rfl (Ui W2.heap.size S a.st a.sy) (Lh) (rgPs [(2,5,Hx W2.heap.size S),(4,7,isV _),(6,9,isV _),(9,12,xS)] rfl ⟨⟨by kernel_rfl,aA rfl rfl rfl⟩,⟨by kernel_rfl,aA rfl rfl rfl⟩,⟨by kernel_rfl,aA rfl rfl rfl⟩,⟨by kernel_rfl,aA rfl rfl rfl⟩,trivial⟩ bld_alk (aG rfl)) (dW ?_)
 intro W3 hbR hS'
 clear hS;have hS:=hS';clear hS'
 refine aJ (aJ ?_)
 refine dH ?_;intro _ _
 refine aJ (aJ (aJ (aJ (aJ (aJ ?_)))))
 refine dH ?_;intro _ _
 refine dH ?_;rintro _ ⟨sq,fa9,fl9,fc9,rfl,hsq⟩
 refine cQ (aU (i:=0) (vs:=[_,_,_,_,_,_,_]) (cs':=[_,_,_,_,_,_,_]) (O':=[_,_]) hS sizeOf29 rfl rfl rfl rfl rfl rfl rfl fun W4 hS=>aN (XF.thenN (bL (XF.res (eM (vs:=[_,_,_,_,_,_,_]) results37 isAgg29 sizeOf29 rfl (aF.own (j:=0) (m:=7) (hS.at_ 0 rfl) rfl)) ?_))))
 exact ⟨sq,fa9,fl9,fc9,rfl,fun W2 hg=>hsq W2 ((hS.since 0 rfl).trans (hg.mono hsz1)),hS.below⟩
theorem Lj {w:World} {S:PS} {f g:WF} {x y:PX} (hx:XIs w S f x) (hy:XIs w S g y) (r:Bool) (hr:r=true↔x=y):Calls prog 20 #[f.val,g.val] w fun e w'=>e = .returned (.bool r)∧Below w.heap.size w w':=by
 cases S<;>cases x<;>cases y<;>first | exact hx.elim | exact hy.elim | skip
 ·refine (vW 2 4 (.mk f []) (.mk g []) w (uP hx 1) (uP hy 1) (nJ hx 3) (nJ hy 3)).mono fun e w' h=>⟨h.1.trans (bT (zI hr ?_)),h.2⟩
  rw [mA]
  have h1:=(wA hx hy).symm
  rw [mA] at h1
  simp only [PX.one.injEq]
  exact h1
 ·obtain ⟨ra,ca,rc,cc,pc,fb,fo,f1,f2,rfl,h6,h7,h8,h9⟩:=hx.two
  obtain ⟨ra',ca',rc',cc',pc',gb,go,g1,g2,rfl,h6',h7',h8',h9'⟩:=hy.two
  have sm:∀ {t n u m:Int} {a b:PF} {f1 f2:WF} {ra ca:Option Addr} {rc cc pc fb fo:Nat},PIs w t n f1 a→PIs w u m f2 b→smN 4 (.mk ⟨false,0,0,ra,0,rc,[],ca,0,cc,[],some ⟨fb,fo,none⟩,2,pc⟩ [.mk f1 [],.mk f2 []])=true:=by
   intro t n u m a b f1 f2 ra ca rc cc pc fb fo ha hb
   have e1:=nJ ha 2
   have e2:=nJ hb 2
   show (decide _ && (decide _ && (decide _ && [WV.mk f1 [],WV.mk f2 []].all (smN 3))))=true
   simp [e1,e2]
  refine (vW 2 4 _ _ w (rR h6 h7 h8 h9) (rR h6' h7' h8' h9') (sm h8 h9) (sm h8' h9')).mono fun e w' h=>⟨h.1.trans (bT (zI hr ?_)),h.2⟩
  rw [mA]
  have e1:=wA h8 h8'
  have e2:=wA h9 h9'
  simp [e1,e2]
theorem Uk {w W W2:World} {O:Own} {G:cU} {K:List (Nat×World)} (hS:St w O G K W) (h1:Below w.heap.size w W2) (h2:dG w.heap.size W W2):MB w K W2:=⟨h1,fun q hq=>by
 obtain ⟨hk,_⟩:=hS.kept q hq
 refine ⟨Nat.le_trans hk.1 h2.1,fun k hk1 hk2=>?_⟩
 rcases Nat.lt_or_ge k w.heap.size with h | h
 ·exact (h1.block k h).trans ((hS.below.block k h).symm.trans (hk.2 k hk1 hk2))
 ·exact (h2.2 k h (Nat.lt_of_lt_of_le hk2 hk.1)).trans (hk.2 k hk1 hk2)⟩
theorem goes_37:bP prog 37=true:=by kernel_rfl
theorem goes_71:bP prog 71=true:=by kernel_rfl
theorem meetA_c (ds d:Nat) (s:SV) (st sy:Int) (fa:Option Addr) (fl fc:Nat) (fs:List Int) (ta:Option Addr) (tl tc:Nat) (ts:List TV) (dsy:Int) (na:Option Addr) (nl nc:Nat) (ns:List IV) (aa:Option Addr) (al ac:Nat) (bs:List Bool) (w:World) (hin:AIn w ds d ⟨s,st,sy,fa,fl,fc,fs,ta,tl,tc,ts⟩) (hdi:DIn w ⟨dsy,na,nl,nc,ns,aa,al,ac,bs⟩) (S:PS) (py:TV→PX) (n:Nat) (hAx:dD ⟨s,st,sy,fa,fl,fc,fs,ta,tl,tc,ts⟩=0→AutoOk w S py n ⟨s,st,sy,fa,fl,fc,fs,ta,tl,tc,ts⟩) (ht:Tabs w) :
  Calls prog 25 #[.agg #[.int .i64 s.f.tag,.int .i64 s.f.dim,.slice s.f.a s.f.len s.f.cap,.int .i64 st,.int .i64 sy,.slice fa fl fc,.slice ta tl tc],.agg #[.int .i64 dsy,.slice na nl nc,.slice aa al ac]] w (Ug S py ⟨s,st,sy,fa,fl,fc,fs,ta,tl,tc,ts⟩ ⟨dsy,na,nl,nc,ns,aa,al,ac,bs⟩ w):=by
 refine cD (args:=[.agg #[.int .i64 s.f.tag,.int .i64 s.f.dim,.slice s.f.a s.f.len s.f.cap,.int .i64 st,.int .i64 sy,.slice fa fl fc,.slice ta tl tc],.agg #[.int .i64 dsy,.slice na nl nc,.slice aa al ac]]) func25 rfl ntmps25 rfl ?_
 have hS:=St.start w
 have hfrow:Row w fa fs:=hin.frow
 have hflen:fs.length=fl:=hin.flen
 have htrow:pU w ta ts:=hin.trow
 have htlen:ts.length=tl:=hin.tlen
 have hnr:Fh w na ns:=hdi.nrow
 have hnl:ns.length=nl:=hdi.nlen
 have hri:∀ r∈ns,Row w r.a r.xs∧r.xs.length=r.l∧r.l≤9223372036854775807:=hdi.rin
 have har:Hy w aa bs:=hdi.arow
 have hal:bs.length=al:=hdi.alen
 refine aM (aQ (bY (cs:=[_,_,_,_,_,_,_]) hS rfl rfl rfl fun B1 W1 hS=>bY (cs:=[_,_,_]) hS rfl rfl rfl fun B2 W2 hS=>bE (cs:=[_,_,_,_,_,_,_]) hS zeroValue29 rfl rfl fun B3 W3 hS=>aC rfl rfl (aN (XF.thenN (aM (aM (aQ (aT (vs:=[_,_,_,_,_,_,_]) isAgg29 sizeOf29 rfl (aF.own (j:=0) (m:=7) (hS.at_ 2 rfl) rfl) rfl (cA (vs:=[_]) hS Tm rfl (H5 ds d ⟨s,st,sy,fa,fl,fc,fs,ta,tl,tc,ts⟩ _ (hin.below hS.below)) rfl fun W4 hS=>aC rfl rfl (aN (XF.thenN (aM (aQ (aE rfl rfl (dA rfl rfl rfl (aN (XF.thenN (bB rfl (fun hc=>?_) (fun hc=>?_)))))))))))))))))))
 ·have hc21:=of_decide_eq_true hc;clear hc
  refine aM (aQ (cV (us:=[]) rfl (nR) rfl (aE rfl rfl ?_)))
  refine aU (i:=0) (vs:=[_,_,_,_,_,_,_]) (cs':=[_,_,_,_,_,_,_]) (O':=[_,_,_]) hS sizeOf29 rfl rfl (by first | rfl | (have h0:=hS.oneV 0 _ rfl;simp only [List.all_cons,List.all_nil,Bool.and_true,Bool.and_eq_true];exact ⟨rfl,rfl,rfl,rfl,rfl,rfl,h0⟩) | (have h0:=hS.oneV 0 _ rfl;have h1:=hS.oneV 1 _ rfl;simp only [List.all_cons,List.all_nil,Bool.and_true,Bool.and_eq_true];exact ⟨rfl,rfl,rfl,rfl,rfl,h1,h0⟩)) rfl rfl rfl rfl fun W5 hS=>?_
  refine aC rfl rfl (aN (XF.thenN (bL (XF.thenR (XF.res (iO (vs:=[_,_,_,_,_,_,_]) results25 isAgg29 sizeOf29 rfl (aF.own (j:=0) (m:=7) (hS.at_ 0 rfl) rfl) rfl) ?_)))))
  have hme:eO ⟨s,st,sy,fa,fl,fc,fs,ta,tl,tc,ts⟩ ⟨dsy,na,nl,nc,ns,aa,al,ac,bs⟩=dD ⟨s,st,sy,fa,fl,fc,fs,ta,tl,tc,ts⟩:=by unfold eO;rw [if_pos hc21]
  exact ⟨hS.below,.inl ⟨by rw [hme],by rw [hme];exact hc21⟩⟩
 ·have hc21:=of_decide_eq_false hc;clear hc
  have hE:dD ⟨s,st,sy,fa,fl,fc,fs,ta,tl,tc,ts⟩=0:=Decidable.of_not_not hc21
  have hA:=hAx hE
  have hst0:st=(n:Int):=hA.st
  have hn4:=hA.n4
  have htl9:tl≤65536:=hA.tl
  have hfin:=(sA hE).1
  have hfl4:=vD hfin
  have hfl5:fl≤4096:=by have h9:(fs.length:Int)≤max st 0:=hfl4;omega
  refine bI (XF.thenN (aM (aM (aQ (aT (vs:=[_,_,_]) isAgg60 sizeOf60 rfl (aF.own (j:=0) (m:=3) (hS.at_ 1 rfl) rfl) rfl (cA (vs:=[_]) hS goes_71 rfl (dfaA_is ⟨dsy,na,nl,nc,ns,aa,al,ac,bs⟩ _ (hdi.below hS.below)) rfl fun W6 hS=>dA rfl rfl rfl (aE rfl rfl (bH (d:=27) rfl (fun hc=>?_) (fun hc=>?_)))))))))
  ·have hg27:=of_decide_eq_true hc;clear hc
   refine aD (d:=27) rfl rfl rfl rfl (aD (d:=27) rfl rfl rfl rfl (aD (d:=27) rfl rfl rfl rfl (aD (d:=27) rfl rfl rfl rfl (aD (d:=27) rfl rfl rfl rfl (aW rfl rfl rfl (aN (XF.thenN (dT rfl (aM (aQ (cV (us:=[]) rfl (nR) rfl ?_)))))))))))
   refine aU (i:=0) (vs:=[_,_,_,_,_,_,_]) (cs':=[_,_,_,_,_,_,_]) (O':=[_,_,_]) hS sizeOf29 rfl rfl (by first | rfl | (have h0:=hS.oneV 0 _ rfl;simp only [List.all_cons,List.all_nil,Bool.and_true,Bool.and_eq_true];exact ⟨rfl,rfl,rfl,rfl,rfl,rfl,h0⟩) | (have h0:=hS.oneV 0 _ rfl;have h1:=hS.oneV 1 _ rfl;simp only [List.all_cons,List.all_nil,Bool.and_true,Bool.and_eq_true];exact ⟨rfl,rfl,rfl,rfl,rfl,h1,h0⟩)) rfl rfl rfl rfl fun W7 hS=>?_
   refine aC rfl rfl (aN (XF.thenN (bL (XF.thenR (XF.res (iO (vs:=[_,_,_,_,_,_,_]) results25 isAgg29 sizeOf29 rfl (aF.own (j:=0) (m:=7) (hS.at_ 0 rfl) rfl) rfl) ?_)))))
   have hme:eO ⟨s,st,sy,fa,fl,fc,fs,ta,tl,tc,ts⟩ ⟨dsy,na,nl,nc,ns,aa,al,ac,bs⟩=90:=by unfold eO;rw [if_neg (fun h=>h hE),if_pos (.inl hg27)]
   exact ⟨hS.below,.inl ⟨by rw [hme],by rw [hme];decide⟩⟩
  ·have hg27:=of_decide_eq_false hc;clear hc
   refine aB (d:=27) rfl rfl (aK (o':=0) kJ rfl rfl rfl (aB (d:=27) rfl rfl (aR isAgg3 rfl (aH (hS.at_ 1 rfl) rfl) rfl (aB (d:=27) rfl rfl (aK (o':=4) iB rfl rfl rfl (aB (d:=27) rfl rfl (aR isAgg3 rfl (aH (hS.at_ 2 rfl) rfl) rfl (aB (d:=27) rfl rfl (dA rfl rfl rfl (bF rfl rfl rfl (aN (XF.thenN (bB rfl (fun hc=>?_) (fun hc=>?_))))))))))))))
   ·have hc33:=of_decide_eq_true hc;clear hc
    refine aM (aQ (cV (us:=[]) rfl (nR) rfl ?_))
    refine aU (i:=0) (vs:=[_,_,_,_,_,_,_]) (cs':=[_,_,_,_,_,_,_]) (O':=[_,_,_]) hS sizeOf29 rfl rfl (by first | rfl | (have h0:=hS.oneV 0 _ rfl;simp only [List.all_cons,List.all_nil,Bool.and_true,Bool.and_eq_true];exact ⟨rfl,rfl,rfl,rfl,rfl,rfl,h0⟩) | (have h0:=hS.oneV 0 _ rfl;have h1:=hS.oneV 1 _ rfl;simp only [List.all_cons,List.all_nil,Bool.and_true,Bool.and_eq_true];exact ⟨rfl,rfl,rfl,rfl,rfl,h1,h0⟩)) rfl rfl rfl rfl fun W8 hS=>?_
    refine aC rfl rfl (aN (XF.thenN (bL (XF.thenR (XF.res (iO (vs:=[_,_,_,_,_,_,_]) results25 isAgg29 sizeOf29 rfl (aF.own (j:=0) (m:=7) (hS.at_ 0 rfl) rfl) rfl) ?_)))))
    have hme:eO ⟨s,st,sy,fa,fl,fc,fs,ta,tl,tc,ts⟩ ⟨dsy,na,nl,nc,ns,aa,al,ac,bs⟩=90:=by unfold eO;rw [if_neg (fun h=>h hE),if_pos (.inr hc33)]
    exact ⟨hS.below,.inl ⟨by rw [hme],by rw [hme];decide⟩⟩
   ·have hc33:=of_decide_eq_false hc;clear hc
    have hD:iU ⟨dsy,na,nl,nc,ns,aa,al,ac,bs⟩=0:=Decidable.of_not_not hg27
    have hsy:dsy=sy:=Decidable.of_not_not hc33
    have hdk:=Ar hD
    have hnlb:1≤nl∧nl≤1024:=hdk.nl
    have hal2:al=nl:=hdk.al
    have hnd:¬ (iU ⟨dsy,na,nl,nc,ns,aa,al,ac,bs⟩≠0∨dsy≠sy):=by rintro (h | h);exact h hD;exact h hsy
    have hm1:0≤st * (nl:Int)∧st * (nl:Int)≤4194304:=by rw [Int.mul_comm];exact rG (by omega) (by omega) (by omega)
    have hm2:0≤(tl:Int) * (nl:Int)∧(tl:Int) * (nl:Int)≤67108864:=⟨Int.mul_nonneg (by omega) (by omega),Int.le_trans (Int.mul_le_mul (show (tl:Int)≤65536 by omega) (show (nl:Int)≤1024 by omega) (by omega) (by decide)) (by decide)⟩
    refine bI (XF.thenN (aM (aQ (aK (o':=1) iN rfl rfl rfl (aR isAgg57 rfl (aH (hS.at_ 1 rfl) rfl) rfl (cC underlying57 rfl rfl (aC rfl rfl (aN (XF.thenN (aM (aM (aQ (aK (o':=3) fQ rfl rfl rfl (aR isAgg3 rfl (aH (hS.at_ 2 rfl) rfl) rfl (aE rfl rfl (lP rfl rfl (IntWalk.i64_in _ (by omega)) rfl (gI rfl rfl rfl (aE rfl rfl (bH (d:=43) rfl (fun hc=>?_) (fun hc=>?_))))))))))))))))))))
    ·have hg43:=of_decide_eq_true hc;clear hc
     refine aD (d:=43) rfl rfl rfl rfl (aD (d:=43) rfl rfl rfl rfl (aD (d:=43) rfl rfl rfl rfl (aD (d:=43) rfl rfl rfl rfl (aD (d:=43) rfl rfl rfl rfl (aD (d:=43) rfl rfl rfl rfl (aW rfl rfl rfl (aN (XF.thenN (dT rfl (aM (aQ (cV (us:=[]) rfl (nR) rfl ?_))))))))))))
     refine aU (i:=0) (vs:=[_,_,_,_,_,_,_]) (cs':=[_,_,_,_,_,_,_]) (O':=[_,_,_]) hS sizeOf29 rfl rfl (by first | rfl | (have h0:=hS.oneV 0 _ rfl;simp only [List.all_cons,List.all_nil,Bool.and_true,Bool.and_eq_true];exact ⟨rfl,rfl,rfl,rfl,rfl,rfl,h0⟩) | (have h0:=hS.oneV 0 _ rfl;have h1:=hS.oneV 1 _ rfl;simp only [List.all_cons,List.all_nil,Bool.and_true,Bool.and_eq_true];exact ⟨rfl,rfl,rfl,rfl,rfl,h1,h0⟩)) rfl rfl rfl rfl fun W9 hS=>?_
     refine aC rfl rfl (aN (XF.thenN (bL (XF.thenR (XF.res (iO (vs:=[_,_,_,_,_,_,_]) results25 isAgg29 sizeOf29 rfl (aF.own (j:=0) (m:=7) (hS.at_ 0 rfl) rfl) rfl) ?_)))))
     have hme:eO ⟨s,st,sy,fa,fl,fc,fs,ta,tl,tc,ts⟩ ⟨dsy,na,nl,nc,ns,aa,al,ac,bs⟩=3:=by unfold eO;rw [if_neg (fun h=>h hE),if_neg hnd,if_pos (.inl hg43)]
     exact ⟨hS.below,.inl ⟨by rw [hme],by rw [hme];decide⟩⟩
    ·have hg43:=of_decide_eq_false hc;clear hc
     refine aB (d:=43) rfl rfl (aK (o':=6) dR rfl rfl rfl (aB (d:=43) rfl rfl (aR isAgg27 rfl (aH (hS.at_ 2 rfl) rfl) rfl (aB (d:=43) rfl rfl (cC underlying27 rfl rfl (aB (d:=43) rfl rfl (aE rfl rfl (aB (d:=43) rfl rfl (lP rfl rfl (IntWalk.i64_in _ (by omega)) rfl (aB (d:=43) rfl rfl (gI rfl rfl rfl (bF rfl rfl rfl (aN (XF.thenN (bB rfl (fun hc=>?_) (fun hc=>?_))))))))))))))))
     ·have hc50:=of_decide_eq_true hc;clear hc
      refine aM (aQ (cV (us:=[]) rfl (nR) rfl ?_))
      refine aU (i:=0) (vs:=[_,_,_,_,_,_,_]) (cs':=[_,_,_,_,_,_,_]) (O':=[_,_,_]) hS sizeOf29 rfl rfl (by first | rfl | (have h0:=hS.oneV 0 _ rfl;simp only [List.all_cons,List.all_nil,Bool.and_true,Bool.and_eq_true];exact ⟨rfl,rfl,rfl,rfl,rfl,rfl,h0⟩) | (have h0:=hS.oneV 0 _ rfl;have h1:=hS.oneV 1 _ rfl;simp only [List.all_cons,List.all_nil,Bool.and_true,Bool.and_eq_true];exact ⟨rfl,rfl,rfl,rfl,rfl,h1,h0⟩)) rfl rfl rfl rfl fun W10 hS=>?_
      refine aC rfl rfl (aN (XF.thenN (bL (XF.thenR (XF.res (iO (vs:=[_,_,_,_,_,_,_]) results25 isAgg29 sizeOf29 rfl (aF.own (j:=0) (m:=7) (hS.at_ 0 rfl) rfl) rfl) ?_)))))
      have hme:eO ⟨s,st,sy,fa,fl,fc,fs,ta,tl,tc,ts⟩ ⟨dsy,na,nl,nc,ns,aa,al,ac,bs⟩=3:=by unfold eO;rw [if_neg (fun h=>h hE),if_neg hnd,if_pos (.inr hc50)]
      exact ⟨hS.below,.inl ⟨by rw [hme],by rw [hme];decide⟩⟩
     ·have hc50:=of_decide_eq_false hc;clear hc
      have hME:eO ⟨s,st,sy,fa,fl,fc,fs,ta,tl,tc,ts⟩ ⟨dsy,na,nl,nc,ns,aa,al,ac,bs⟩=0:=by unfold eO;rw [if_neg (fun h=>h hE),if_neg hnd,if_neg (by rintro (h | h);exact hg43 h;exact hc50 h)]
      have htn:tl * nl≤65536:=by omega
      refine bI (XF.thenN (aM (aQ (aK (o':=0) kF rfl rfl rfl (aT (vs:=[_,_,_]) isAgg25 sizeOf25 rfl (aF.own (j:=0) (m:=3) (hS.at_ 2 rfl) rfl) rfl (cN (vs:=[_]) hS Lz rfl (C0 S s.f _ (hA.si.below hS.below) hA.ok) rfl ?_))))))
      rintro e W11 ⟨f0,rfl,hf0,hb⟩
      refine ⟨_,rfl,hb,fun hS'=>?_⟩
      clear hS;have hS:=hS';clear hS' hb
      refine bE (cs:=[_,_,_,_,_,_,_,_,_]) hS zeroValue76 rfl rfl fun B12 W12 hS=>?_
      refine aU (i:=0) (vs:=[_,_,_,_,_,_,_,_,_]) (cs':=[_,_,_,_,_,_,_,_,_]) (O':=[_,_,_,_]) hS sizeOf76 rfl rfl (by first | rfl | (have h0:=hS.oneV 0 _ rfl;simp only [List.all_cons,List.all_nil,Bool.and_true,Bool.and_eq_true];exact ⟨rfl,rfl,rfl,rfl,rfl,rfl,h0⟩) | (have h0:=hS.oneV 0 _ rfl;have h1:=hS.oneV 1 _ rfl;simp only [List.all_cons,List.all_nil,Bool.and_true,Bool.and_eq_true];exact ⟨rfl,rfl,rfl,rfl,rfl,h1,h0⟩)) rfl rfl rfl rfl fun W13 hS=>?_
      refine aN (XF.thenN (aM (aQ (aT (vs:=[_,_,_,_,_,_,_]) isAgg29 sizeOf29 rfl (aF.own (j:=0) (m:=7) (hS.at_ 3 rfl) rfl) rfl ?_))))
      refine cN (vs:=[_]) hS goes_37 rfl (Uj S ⟨s,st,sy,fa,fl,fc,fs,ta,tl,tc,ts⟩ _ (hA.si.below hS.below) hA.ok (hfrow.below hS.below) hflen (by show fl≤8192;omega)) rfl ?_
      rintro e W14 ⟨sq,fa9,fl9,fc9,rfl,hsq,hb⟩
      refine ⟨_,rfl,hb,fun hS'=>?_⟩
      clear hS;have hS:=hS';clear hS'
      have HQ:jF w [(W13.heap.size,W14)] (fun W2=>SIs W2 S sq):=jF.one (p:=fun W2=>SIs W2 S sq) hsq
      refine bE (cs:=[_,_,_,_,_,_,_]) hS zeroValue29 rfl rfl fun B15 W15 hS=>?_
      refine aU (i:=0) (vs:=[_,_,_,_,_,_,_]) (cs':=[_,_,_,_,_,_,_]) (O':=[_,_,_,_,_]) hS sizeOf29 rfl rfl (by first | rfl | (have h0:=hS.oneV 0 _ rfl;simp only [List.all_cons,List.all_nil,Bool.and_true,Bool.and_eq_true];exact ⟨rfl,rfl,rfl,rfl,rfl,rfl,h0⟩) | (have h0:=hS.oneV 0 _ rfl;have h1:=hS.oneV 1 _ rfl;simp only [List.all_cons,List.all_nil,Bool.and_true,Bool.and_eq_true];exact ⟨rfl,rfl,rfl,rfl,rfl,h1,h0⟩)) rfl rfl rfl rfl fun W16 hS=>?_
      refine aN (XF.thenN (aM (aQ (aK (o':=3) fQ rfl rfl rfl (aR isAgg3 rfl (aH (hS.at_ 4 rfl) rfl) rfl (aE rfl rfl (lP rfl rfl (IntWalk.i64_in _ (by omega)) rfl (aK (o':=3) fQ rfl rfl rfl (dN (i:=0) (cs':=[_,_,_,_,_,_,_]) (O':=[_,_,_,_,_]) hS sizeOf3 rfl rfl (by first | rfl | exact (hS.oneV 0 _ rfl :) | exact (hS.oneV 1 _ rfl :) | exact (hS.oneV 2 _ rfl :) | exact (hS.oneV 3 _ rfl :)) rfl rfl rfl rfl fun W17 hS=>aK (o':=5) eE rfl rfl rfl (dN (i:=0) (cs':=[_,_,_,_,_,_,_]) (O':=[_,_,_,_,_]) hS sizeOf26 rfl rfl (by first | rfl | exact (hS.oneV 0 _ rfl :) | exact (hS.oneV 1 _ rfl :) | exact (hS.oneV 2 _ rfl :) | exact (hS.oneV 3 _ rfl :)) rfl rfl rfl rfl fun W18 hS=>aN (XF.thenN (aM (aM ?_)))))))))))))
      have hS:=hS.newG 3 1
      refine aQ (aK (o':=5) eE rfl rfl rfl (aR isAgg26 rfl (aH (hS.at_ 4 rfl) rfl) rfl (cC underlying26 rfl rfl (aE rfl rfl (aN (XF.thenN (bK ?_)))))))
      refine dQ (fun m l W=>∃ (j:Nat) (vf:Value) (Fs:List Int) (K9:List (Nat×World)),j≤fl∧m=fl - j∧l=[(2,.pointer (some ⟨B1,0,none⟩)),(3,.pointer (some ⟨B2,0,none⟩)),(4,.pointer (some ⟨B3,0,none⟩)),(7,.int .i64 (nl:Int)),(8,.pointer (some ⟨B12,0,none⟩)),(9,.pointer (some ⟨B15,0,none⟩)),(64,.slice fa fl fc),(65,.int .i64 (fl:Int)),(66,.int .i64 (j:Int))]∧jF w K9 (fun W2=>SIs W2 S sq)∧Fs=mFs ⟨dsy,na,nl,nc,ns,aa,al,ac,bs⟩ (fs.take j)∧St w [(B15,[.int .i64 sq.tag,.int .i64 sq.dim,.slice sq.a sq.len sq.cap,.int .i64 (st * (nl:Int)),.int .i64 sy,vf,.slice none 0 0],29),(B12,[.int .i64 s.f.tag,.int .i64 s.f.dim,.slice s.f.a s.f.len s.f.cap,.bool f0.z,.int .i64 f0.c,.int .u64 (f0.g:Int),.slice f0.ra f0.rl f0.rc,.slice f0.ca f0.cl f0.cc,.slice f0.pa f0.pl f0.pc],76),(B3,[.int .i64 0,.int .i64 0,.slice none 0 0,.int .i64 0,.int .i64 0,.slice none 0 0,.slice none 0 0],29),(B2,[.int .i64 dsy,.slice na nl nc,.slice aa al ac],60),(B1,[.int .i64 s.f.tag,.int .i64 s.f.dim,.slice s.f.a s.f.len s.f.cap,.int .i64 st,.int .i64 sy,.slice fa fl fc,.slice ta tl tc],29)] [⟨vf,Fs.length,Fs.map (Value.int .i64),3,1⟩] K9 W) (fl - 0) ([(2,_),(3,_),(4,_),(7,_),(8,_),(9,_),(64,_),(65,_),(66,_)]) ⟨rfl,rfl,rfl,rfl,rfl,rfl,rfl,rfl,rfl,trivial⟩ (⟨0,_,[],_,Nat.zero_le _,rfl,rfl,HQ,rfl,hS.keep _ (fun q hq=>by rw [List.mem_singleton.1 hq];exact List.mem_cons_self)⟩) ?_
      clear hS
      clear HQ;rintro m l W ⟨j,vf,Fs,K9,hj,rfl,rfl,HQ,hFs,hS⟩
      refine aM (aQ (cK rfl rfl rfl (aN (XF.thenN (aM (bB rfl (fun hc=>?_) (fun hc=>?_)))))))
      ·have hc67:=of_decide_eq_true hc;clear hc
       have hk:j < fl:=by omega
       obtain ⟨b,off,y,rfl,hy,hyc⟩:=hfrow.at1 (show j < fs.length by omega)
       obtain ⟨yN,rfl,hyN2⟩:=dV (hA.fq y (List.mem_of_getElem? hy))
       have hmy:0≤(yN:Int) * (nl:Int)∧(yN:Int) * (nl:Int)≤4194304:=by rw [Int.mul_comm];exact rG (by omega) (by omega) (by omega)
       have kf:=hS.old hyc
       refine bI (XF.thenN (aM (bK (aM (aQ (bZ  underlying26 sizeOf3 rfl rfl rfl (by omega) rfl rfl (aR isAgg3 rfl (kf) rfl (aC rfl rfl (aN (XF.thenN (aM (aQ (aK (o':=2) pN rfl rfl rfl (aR isAgg58 rfl (aH (hS.at_ 3 rfl) rfl) rfl (cC underlying58 rfl rfl (aE rfl rfl (aN (XF.thenN (bK ?_)))))))))))))))))))
       refine dQ (fun m l W=>∃ (k:Nat) (vf:Value) (Fs:List Int),k≤nl∧m=nl - k∧l=[(2,.pointer (some ⟨B1,0,none⟩)),(3,.pointer (some ⟨B2,0,none⟩)),(4,.pointer (some ⟨B3,0,none⟩)),(7,.int .i64 (nl:Int)),(8,.pointer (some ⟨B12,0,none⟩)),(9,.pointer (some ⟨B15,0,none⟩)),(64,.slice (some ⟨b,off,none⟩) fl fc),(65,.int .i64 (fl:Int)),(66,.int .i64 (j:Int)),(11,.int .i64 (yN:Int)),(71,.slice aa al ac),(72,.int .i64 (al:Int)),(73,.int .i64 (k:Int))]∧Fs=mFs ⟨dsy,na,nl,nc,ns,aa,al,ac,bs⟩ (fs.take j)++sD ⟨dsy,na,nl,nc,ns,aa,al,ac,bs⟩ (yN:Int) k∧St w [(B15,[.int .i64 sq.tag,.int .i64 sq.dim,.slice sq.a sq.len sq.cap,.int .i64 (st * (nl:Int)),.int .i64 sy,vf,.slice none 0 0],29),(B12,[.int .i64 s.f.tag,.int .i64 s.f.dim,.slice s.f.a s.f.len s.f.cap,.bool f0.z,.int .i64 f0.c,.int .u64 (f0.g:Int),.slice f0.ra f0.rl f0.rc,.slice f0.ca f0.cl f0.cc,.slice f0.pa f0.pl f0.pc],76),(B3,[.int .i64 0,.int .i64 0,.slice none 0 0,.int .i64 0,.int .i64 0,.slice none 0 0,.slice none 0 0],29),(B2,[.int .i64 dsy,.slice na nl nc,.slice aa al ac],60),(B1,[.int .i64 s.f.tag,.int .i64 s.f.dim,.slice s.f.a s.f.len s.f.cap,.int .i64 st,.int .i64 sy,.slice (some ⟨b,off,none⟩) fl fc,.slice ta tl tc],29)] [⟨vf,Fs.length,Fs.map (Value.int .i64),3,1⟩] K9 W) (nl - 0) ([(2,_),(3,_),(4,_),(7,_),(8,_),(9,_),(64,_),(65,_),(66,_),(11,_),(71,_),(72,_),(73,_)]) ⟨rfl,rfl,rfl,rfl,rfl,rfl,rfl,rfl,rfl,rfl,rfl,rfl,rfl,trivial⟩ (⟨0,vf,Fs,Nat.zero_le _,rfl,rfl,by rw [hFs];simp [sD],hS⟩) ?_
       clear hS
       clear hFs hS kf;rintro m l W ⟨k,vf,Fs,hk0,rfl,rfl,hFs,hS⟩
       refine aM (aQ (cK rfl rfl rfl (aN (XF.thenN (aM (bB rfl (fun hc=>?_) (fun hc=>?_)))))))
       ·have hc74:=of_decide_eq_true hc;clear hc
        have hk2:k < nl:=by omega
        have hFl:Fs.length≤8388608:=by
         rw [hFs,List.length_append]
         have h1:=Aq ⟨dsy,na,nl,nc,ns,aa,al,ac,bs⟩ (yN:Int) k
         have h2:=xR ⟨dsy,na,nl,nc,ns,aa,al,ac,bs⟩ (fs.take j)
         have h3:(fs.take j).length * nl≤4096 * 1024:=Nat.mul_le_mul (by rw [List.length_take];have:(fs.length:Int)≤max st 0:=hfl4;omega) hnlb.2
         have h4:(mFs ⟨dsy,na,nl,nc,ns,aa,al,ac,bs⟩ (fs.take j)).length≤(fs.take j).length * nl:=h2
         omega
        obtain ⟨v,hv⟩:∃ v,bs[k]?=some v:=⟨bs[k]'(by have:al=nl:=hdk.al;omega),List.getElem?_eq_getElem _⟩
        obtain ⟨vb,vo,rfl,hvc⟩:=har k v hv
        have kv:=hS.old hvc
        have hvd:bs.getD k false=v:=by rw [List.getD_eq_getElem?_getD,hv];rfl
        refine bI (XF.thenN (aM (bK (aM (aQ (aE rfl rfl (bZ  underlying58 sizeOf4 rfl rfl rfl (by omega) rfl rfl (aR isAgg4 rfl (kv) rfl (aC rfl rfl (aC rfl rfl (aN (XF.thenN (aM (aQ (aE rfl rfl (aN (XF.thenN (bB rfl (fun hc=>?_) (fun hc=>?_)))))))))))))))))))
        ·have hc78:=hc;clear hc
         obtain rfl:v=true:=hc78
         refine aQ (aK (o':=5) eE rfl rfl rfl (aR isAgg26 rfl (aH (hS.at_ 0 rfl) rfl) rfl (aE rfl rfl (aE rfl rfl (lP rfl rfl (IntWalk.i64_in _ (by omega)) rfl (aE rfl rfl (cP rfl rfl (IntWalk.i64_in _ (by omega)) rfl (cW (us:=[(0,.int .i64 _)]) hS underlying26 sizeOf3 zeroValue3 rfl rfl rfl (kV _) rfl fun B19 W19 hS=>?_))))))))
         refine mB (i:=0) (news:=[_]) hS underlying26 Bg rfl rfl (by show 0 < 1;decide) rfl rfl rfl rfl rfl (aF.own (j:=0) (m:=1) (hS.at_ 0 rfl) rfl) rfl rfl (by dsimp only;simp only [maxLen];omega) (by dsimp only;show _ * 8≤_;omega) rfl fun v20 W20 hS=>?_
         refine aK (o':=5) eE rfl rfl rfl (dN (i:=1) (cs':=[_,_,_,_,_,_,_]) (O':=[_,_,_,_,_,_]) hS sizeOf26 rfl rfl (by first | rfl | exact (hS.oneV 0 _ rfl :) | exact (hS.oneV 1 _ rfl :) | exact (hS.oneV 2 _ rfl :) | exact (hS.oneV 3 _ rfl :)) rfl rfl rfl rfl fun W21 hS=>aN (XF.blkN (XF.thenN (aQ (cP rfl rfl (IntWalk.i64_in _ (by omega)) rfl (aE rfl rfl (aN ?_)))))))
         exact XF.round (nl - (k+1)) [(2,_),(3,_),(4,_),(7,_),(8,_),(9,_),(64,_),(65,_),(66,_),(11,_),(71,_),(72,_),(73,_)] (by omega) ⟨rfl,rfl,rfl,rfl,rfl,rfl,rfl,rfl,rfl,rfl,rfl,rfl,rfl,trivial⟩ ⟨k+1,_,Fs++[(yN:Int) * (nl:Int)+(k:Int)],by omega,rfl,rfl,by rw [rZ,if_pos hvd,← List.append_assoc,← hFs],hS.tail.castG (by simp)⟩
        ·have hc78:=hc;clear hc
         obtain rfl:v=false:=hc78
         refine bI (XF.blkN (XF.thenN (aQ (cP rfl rfl (IntWalk.i64_in _ (by omega)) rfl (aE rfl rfl (aN ?_))))))
         exact XF.round (nl - (k+1)) [(2,_),(3,_),(4,_),(7,_),(8,_),(9,_),(64,_),(65,_),(66,_),(11,_),(71,_),(72,_),(73,_)] (by omega) ⟨rfl,rfl,rfl,rfl,rfl,rfl,rfl,rfl,rfl,rfl,rfl,rfl,rfl,trivial⟩ ⟨k+1,vf,Fs,by omega,rfl,rfl,by rw [rZ,if_neg (by rw [hvd];decide),List.append_nil];exact hFs,hS⟩
       ·have hc74:=of_decide_eq_false hc;clear hc
        have hkn:k=nl:=by omega
        rw [hkn] at hFs
        refine dP (XF.thenX (XF.thenX (XF.blkX (XF.blkN (XF.thenN (aQ (cP rfl rfl (IntWalk.i64_in _ (by omega)) rfl (aE rfl rfl (aN ?_)))))))))
        exact XF.round (fl - (j+1)) [(2,_),(3,_),(4,_),(7,_),(8,_),(9,_),(64,_),(65,_),(66,_)] (by omega) ⟨rfl,rfl,rfl,rfl,rfl,rfl,rfl,rfl,rfl,trivial⟩ ⟨j+1,vf,Fs,K9,by omega,rfl,rfl,HQ,by rw [Iw hy];exact hFs,hS⟩
      ·have hc67:=of_decide_eq_false hc;clear hc
       rw [List.take_of_length_le (by omega)] at hFs
       refine dP (XF.thenX (XF.thenX (XF.blkX (XF.thenN (aM (aM ?_))))))
       have hS:=hS.newG 66 9
       refine aQ (aK (o':=6) dR rfl rfl rfl (aR isAgg27 rfl (aH (hS.at_ 4 rfl) rfl) rfl (cC underlying27 rfl rfl (aE rfl rfl (aN (XF.thenN (bK (dQ (fun m l W=>∃ (i:Nat) (vt:Value) (ms:List M9) (K9:List (Nat×World)),i≤tl∧m=tl - i∧l=[(2,.pointer (some ⟨B1,0,none⟩)),(3,.pointer (some ⟨B2,0,none⟩)),(4,.pointer (some ⟨B3,0,none⟩)),(7,.int .i64 (nl:Int)),(8,.pointer (some ⟨B12,0,none⟩)),(9,.pointer (some ⟨B15,0,none⟩)),(92,.slice ta tl tc),(93,.int .i64 (tl:Int)),(94,.int .i64 (i:Int))]∧jF w K9 (fun W2=>SIs W2 S sq)∧ms.map M9.pl=mPl ⟨dsy,na,nl,nc,ns,aa,al,ac,bs⟩ (ts.take i)∧XM (MB w K9) S ms (mXs py nl (ts.take i))∧St w [(B15,[.int .i64 sq.tag,.int .i64 sq.dim,.slice sq.a sq.len sq.cap,.int .i64 (st * (nl:Int)),.int .i64 sy,vf,vt],29),(B12,[.int .i64 s.f.tag,.int .i64 s.f.dim,.slice s.f.a s.f.len s.f.cap,.bool f0.z,.int .i64 f0.c,.int .u64 (f0.g:Int),.slice f0.ra f0.rl f0.rc,.slice f0.ca f0.cl f0.cc,.slice f0.pa f0.pl f0.pc],76),(B3,[.int .i64 0,.int .i64 0,.slice none 0 0,.int .i64 0,.int .i64 0,.slice none 0 0,.slice none 0 0],29),(B2,[.int .i64 dsy,.slice na nl nc,.slice aa al ac],60),(B1,[.int .i64 s.f.tag,.int .i64 s.f.dim,.slice s.f.a s.f.len s.f.cap,.int .i64 st,.int .i64 sy,.slice fa fl fc,.slice ta tl tc],29)] [⟨vt,ms.length,ms.flatMap M9.nine,66,9⟩,⟨vf,Fs.length,Fs.map (Value.int .i64),3,1⟩] K9 W) (tl - 0) ([(2,_),(3,_),(4,_),(7,_),(8,_),(9,_),(92,_),(93,_),(94,_)]) ⟨rfl,rfl,rfl,rfl,rfl,rfl,rfl,rfl,rfl,trivial⟩ (⟨0,_,[],_,Nat.zero_le _,rfl,rfl,HQ,rfl,XM.nil,hS⟩) ?_))))))))
       clear hS
       clear HQ;rintro m l W ⟨i,vt,ms,K9,hi,rfl,rfl,HQ,hpl,hXM,hS⟩
       refine aM (aQ (cK rfl rfl rfl (aN (XF.thenN (aM (bB rfl (fun hc=>?_) (fun hc=>?_)))))))
       ·have hc95:=of_decide_eq_true hc;clear hc
        have hk:i < tl:=by omega
        obtain ⟨r,hr⟩:∃ r,ts[i]?=some r:=⟨ts[i]'(by omega),by simp [show i < ts.length by omega]⟩
        obtain ⟨b,off,rfl,hcs⟩:=htrow.at_ hr
        have hmr:=List.mem_of_getElem? hr
        have hpr:=hA.px r hmr
        obtain ⟨fN,hfN,hfN2⟩:=dV (hA.tf r hmr)
        obtain ⟨tN,htN,htN2⟩:=dV (hA.tt r hmr)
        have hgm:=hA.tg r hmr
        obtain ⟨rf,rg,rt,rx⟩:=r
        dsimp only at hfN htN hpr hgm
        subst hfN;subst htN
        dsimp only [TV.nine] at hcs
        have k1:=aF.agree hS.agree (Nat.zero_le _) hcs
        have hmf:0≤(fN:Int) * (nl:Int)∧(fN:Int) * (nl:Int)≤4194304:=by rw [Int.mul_comm];exact rG (by omega) (by omega) (by omega)
        have hmt:0≤(tN:Int) * (nl:Int)∧(tN:Int) * (nl:Int)≤4194304:=by rw [Int.mul_comm];exact rG (by omega) (by omega) (by omega)
        have hil:(i+1) * nl≤tl * nl:=Nat.mul_le_mul_right nl hk
        rw [Nat.add_mul,Nat.one_mul] at hil
        refine bI (XF.thenN (aM (bK (aM (aQ (bZ  underlying27 sizeOf66 rfl rfl rfl (by omega) rfl rfl (aT (vs:=[_,_,_,_,_,_,_,_,_]) isAgg66 sizeOf66 rfl (k1) rfl (bE (cs:=[_,_,_,_,_,_,_,_,_]) hS zeroValue66 rfl rfl fun B22 W22 hS=>?_))))))))
        refine aU (i:=0) (vs:=[_,_,_,_,_,_,_,_,_]) (cs':=[_,_,_,_,_,_,_,_,_]) (O':=[_,_,_,_,_,_]) hS sizeOf66 rfl rfl (by first | rfl | (have h0:=hS.oneV 0 _ rfl;simp only [List.all_cons,List.all_nil,Bool.and_true,Bool.and_eq_true];exact ⟨rfl,rfl,rfl,rfl,rfl,rfl,h0⟩) | (have h0:=hS.oneV 0 _ rfl;have h1:=hS.oneV 1 _ rfl;simp only [List.all_cons,List.all_nil,Bool.and_true,Bool.and_eq_true];exact ⟨rfl,rfl,rfl,rfl,rfl,h1,h0⟩)) rfl rfl rfl rfl fun W23 hS=>?_
        refine aN (XF.thenN (aM (aQ (aE rfl rfl (aE rfl rfl (aN (XF.thenN (bK ?_))))))))
        refine dQ (fun m l W=>∃ (k:Nat) (vt:Value) (ms:List M9) (K9:List (Nat×World)),k≤nl∧m=nl - k∧l=[(2,.pointer (some ⟨B1,0,none⟩)),(3,.pointer (some ⟨B2,0,none⟩)),(4,.pointer (some ⟨B3,0,none⟩)),(7,.int .i64 (nl:Int)),(8,.pointer (some ⟨B12,0,none⟩)),(9,.pointer (some ⟨B15,0,none⟩)),(92,.slice (some ⟨b,off,none⟩) tl tc),(93,.int .i64 (tl:Int)),(94,.int .i64 (i:Int)),(15,.pointer (some ⟨B22,0,none⟩)),(98,.int .i64 (nl:Int)),(99,.int .i64 (k:Int))]∧jF w K9 (fun W2=>SIs W2 S sq)∧ms.map M9.pl=mPl ⟨dsy,na,nl,nc,ns,aa,al,ac,bs⟩ (ts.take i)++xB ⟨dsy,na,nl,nc,ns,aa,al,ac,bs⟩ (⟨(fN:Int),rg,(tN:Int),rx⟩:TV) k∧XM (MB w K9) S ms (mXs py nl (ts.take i)++List.replicate k (py (⟨(fN:Int),rg,(tN:Int),rx⟩:TV)))∧St w [(B22,[.int .i64 (fN:Int),.int .i64 rg,.int .i64 (tN:Int),.bool rx.f.z,.int .i64 rx.f.c,.int .u64 (rx.f.g:Int),.slice rx.f.ra rx.f.rl rx.f.rc,.slice rx.f.ca rx.f.cl rx.f.cc,.slice rx.f.pa rx.f.pl rx.f.pc],66),(B15,[.int .i64 sq.tag,.int .i64 sq.dim,.slice sq.a sq.len sq.cap,.int .i64 (st * (nl:Int)),.int .i64 sy,vf,vt],29),(B12,[.int .i64 s.f.tag,.int .i64 s.f.dim,.slice s.f.a s.f.len s.f.cap,.bool f0.z,.int .i64 f0.c,.int .u64 (f0.g:Int),.slice f0.ra f0.rl f0.rc,.slice f0.ca f0.cl f0.cc,.slice f0.pa f0.pl f0.pc],76),(B3,[.int .i64 0,.int .i64 0,.slice none 0 0,.int .i64 0,.int .i64 0,.slice none 0 0,.slice none 0 0],29),(B2,[.int .i64 dsy,.slice na nl nc,.slice aa al ac],60),(B1,[.int .i64 s.f.tag,.int .i64 s.f.dim,.slice s.f.a s.f.len s.f.cap,.int .i64 st,.int .i64 sy,.slice fa fl fc,.slice (some ⟨b,off,none⟩) tl tc],29)] [⟨vt,ms.length,ms.flatMap M9.nine,66,9⟩,⟨vf,Fs.length,Fs.map (Value.int .i64),3,1⟩] K9 W) (nl - 0) ([(2,_),(3,_),(4,_),(7,_),(8,_),(9,_),(92,_),(93,_),(94,_),(15,_),(98,_),(99,_)]) ⟨rfl,rfl,rfl,rfl,rfl,rfl,rfl,rfl,rfl,rfl,rfl,rfl,trivial⟩ (⟨0,vt,ms,K9,Nat.zero_le _,rfl,rfl,HQ,by rw [hpl];simp [xB],by rw [List.replicate_zero,List.append_nil];exact hXM,hS⟩) ?_
        clear hS
        clear hpl hXM k1 HQ hS;rintro m l W ⟨k,vt,ms,K9,hk0,rfl,rfl,HQ,hpl,hXM,hS⟩
        refine aM (aQ (cK rfl rfl rfl (aN (XF.thenN (aM (bB rfl (fun hc=>?_) (fun hc=>?_)))))))
        ·have hc100:=of_decide_eq_true hc;clear hc
         have hk2:k < nl:=by omega
         obtain ⟨q,hq⟩:∃ q,ns[k]?=some q:=⟨ns[k]'(by omega),by simp [show k < ns.length by omega]⟩
         obtain ⟨nb,noff,rfl,hnc⟩:=hnr k q hq
         obtain ⟨hqr,hql,hqm⟩:=hri q (List.mem_of_getElem? hq)
         have hqd:=hdk.row k q hq
         obtain ⟨qa,ql,qc,xs⟩:=q
         dsimp only at hqr hql hqm hqd
         have hml:=congrArg List.length hpl
         simp only [List.length_map,List.length_append,xQ,Ap,List.length_take] at hml
         rw [Nat.min_eq_left (by omega)] at hml
         refine bI (XF.thenN (aM (bK (aM (aQ (aE rfl rfl (aC rfl rfl (aN (XF.thenN (aM (aQ (aE rfl rfl (aC rfl rfl (aN (XF.thenN (joinF (fun l W=>∃ z:Int,z=toK ⟨dsy,some ⟨nb,noff,none⟩,nl,nc,ns,aa,al,ac,bs⟩ rg k∧0≤z∧z < (nl:Int)∧l=[(2,.pointer (some ⟨B1,0,none⟩)),(3,.pointer (some ⟨B2,0,none⟩)),(4,.pointer (some ⟨B3,0,none⟩)),(7,.int .i64 (nl:Int)),(8,.pointer (some ⟨B12,0,none⟩)),(9,.pointer (some ⟨B15,0,none⟩)),(92,.slice (some ⟨b,off,none⟩) tl tc),(93,.int .i64 (tl:Int)),(94,.int .i64 (i:Int)),(15,.pointer (some ⟨B22,0,none⟩)),(98,.int .i64 (nl:Int)),(99,.int .i64 (k:Int)),(16,.int .i64 (k:Int)),(17,.int .i64 z)]∧St w [(B22,[.int .i64 (fN:Int),.int .i64 rg,.int .i64 (tN:Int),.bool rx.f.z,.int .i64 rx.f.c,.int .u64 (rx.f.g:Int),.slice rx.f.ra rx.f.rl rx.f.rc,.slice rx.f.ca rx.f.cl rx.f.cc,.slice rx.f.pa rx.f.pl rx.f.pc],66),(B15,[.int .i64 sq.tag,.int .i64 sq.dim,.slice sq.a sq.len sq.cap,.int .i64 (st * (nl:Int)),.int .i64 sy,vf,vt],29),(B12,[.int .i64 s.f.tag,.int .i64 s.f.dim,.slice s.f.a s.f.len s.f.cap,.bool f0.z,.int .i64 f0.c,.int .u64 (f0.g:Int),.slice f0.ra f0.rl f0.rc,.slice f0.ca f0.cl f0.cc,.slice f0.pa f0.pl f0.pc],76),(B3,[.int .i64 0,.int .i64 0,.slice none 0 0,.int .i64 0,.int .i64 0,.slice none 0 0,.slice none 0 0],29),(B2,[.int .i64 dsy,.slice (some ⟨nb,noff,none⟩) nl nc,.slice aa al ac],60),(B1,[.int .i64 s.f.tag,.int .i64 s.f.dim,.slice s.f.a s.f.len s.f.cap,.int .i64 st,.int .i64 sy,.slice fa fl fc,.slice (some ⟨b,off,none⟩) tl tc],29)] [⟨vt,ms.length,ms.flatMap M9.nine,66,9⟩,⟨vf,Fs.length,Fs.map (Value.int .i64),3,1⟩] K9 W) ?_ ?_))))))))))))))))
         ·clear hS
          rintro l W ⟨z,hz,hz0,hz1,rfl,hS⟩
          refine regBP (p:=22) (k:=24) (gi:=0) (m:=1) cF hS rfl rfl (by kernel_rfl) (by kernel_rfl) (by kernel_rfl) (fun d hd=>by cases hd) rfl rfl underlying27 Uh rfl rfl (by show 0 < 9;decide) rfl rfl rfl (by dsimp only;simp only [maxLen];omega) (by dsimp only;show _ * 120≤_;omega) ?_
          refine fI 1 rfl rfl (by kernel_rfl) (rgV (li:=[(9,_)]) rfl (aS rfl) ⟨cG rfl,trivial⟩ (fun w hw=>aV (o':=6) dR rfl rfl) (aG rfl)) (fI 2 rfl rfl (by kernel_rfl) (rgV (li:=[(115,_)]) rfl (aS rfl) ⟨aO 0 (aA rfl rfl rfl),trivial⟩ (fun w hw=>aZ isAgg27 rfl ((aP hw 0).cell (Nat.zero_le _) (aH (hS.at_ 1 rfl) rfl))) (aG rfl)) (fI 3 rfl rfl (by kernel_rfl) (rgV (li:=[(15,_)]) rfl (aS rfl) ⟨cG rfl,trivial⟩ (fun w hw=>aV (o':=0) pJ rfl rfl) (aG rfl)) (fI 4 rfl rfl (by kernel_rfl) (rgV (li:=[(117,_)]) rfl (aS rfl) ⟨aO 2 (aA rfl rfl rfl),trivial⟩ (fun w hw=>aZ isAgg3 rfl ((aP hw 0).cell (Nat.zero_le _) (aH (hS.at_ 0 rfl) rfl))) (aG rfl)) (fI 5 rfl rfl (by kernel_rfl) (rgV (li:=[(7,_)]) rfl (aS rfl) ⟨cG rfl,trivial⟩ (fun w hw=>bA rfl) (aG rfl)) (fI 6 rfl rfl (by kernel_rfl) (rgV (li:=[(118,_),(119,_)]) rfl (aS rfl) ⟨aO 3 (aA rfl rfl rfl),aO 4 (aA rfl rfl rfl),trivial⟩ (fun w hw=>De rfl rfl (IntWalk.i64_in _ (by omega))) (aG rfl)) (fI 7 rfl rfl (by kernel_rfl) (rgV (li:=[(16,_)]) rfl (aS rfl) ⟨cG rfl,trivial⟩ (fun w hw=>bA rfl) (aG rfl)) (fI 8 rfl rfl (by kernel_rfl) (rgV (li:=[(120,_),(121,_)]) rfl (aS rfl) ⟨aO 5 (aA rfl rfl rfl),aO 6 (aA rfl rfl rfl),trivial⟩ (fun w hw=>Dd rfl rfl (IntWalk.i64_in _ (by omega))) (aG rfl)) (fI 9 rfl rfl (by kernel_rfl) (rgV (li:=[(15,_)]) rfl (aS rfl) ⟨cG rfl,trivial⟩ (fun w hw=>aV (o':=1) iM rfl rfl) (aG rfl)) (fI 10 rfl rfl (by kernel_rfl) (rgV (li:=[(123,_)]) rfl (aS rfl) ⟨aO 8 (aA rfl rfl rfl),trivial⟩ (fun w hw=>aZ isAgg3 rfl ((aP hw 0).cell (Nat.zero_le _) (aH (hS.at_ 0 rfl) rfl))) (aG rfl)) (fI 11 rfl rfl (by kernel_rfl) (rgV (li:=[(15,_)]) rfl (aS rfl) ⟨cG rfl,trivial⟩ (fun w hw=>aV (o':=2) kE rfl rfl) (aG rfl)) (fI 12 rfl rfl (by kernel_rfl) (rgV (li:=[(125,_)]) rfl (aS rfl) ⟨aO 10 (aA rfl rfl rfl),trivial⟩ (fun w hw=>aZ isAgg3 rfl ((aP hw 0).cell (Nat.zero_le _) (aH (hS.at_ 0 rfl) rfl))) (aG rfl)) (fI 13 rfl rfl (by kernel_rfl) (rgV (li:=[(7,_)]) rfl (aS rfl) ⟨cG rfl,trivial⟩ (fun w hw=>bA rfl) (aG rfl)) (fI 14 rfl rfl (by kernel_rfl) (rgV (li:=[(126,_),(127,_)]) rfl (aS rfl) ⟨aO 11 (aA rfl rfl rfl),aO 12 (aA rfl rfl rfl),trivial⟩ (fun w hw=>De rfl rfl (IntWalk.i64_in _ (by omega))) (aG rfl)) (fI 15 rfl rfl (by kernel_rfl) (rgV (li:=[(17,_)]) rfl (aS rfl) ⟨cG rfl,trivial⟩ (fun w hw=>bA rfl) (aG rfl)) (fI 16 rfl rfl (by kernel_rfl) (rgV (li:=[(128,_),(129,_)]) rfl (aS rfl) ⟨aO 13 (aA rfl rfl rfl),aO 14 (aA rfl rfl rfl),trivial⟩ (fun w hw=>Dd rfl rfl (IntWalk.i64_in _ (by omega))) (aG rfl)) (fI 17 rfl rfl (by kernel_rfl) (rgV (li:=[(8,_)]) rfl (aS rfl) ⟨cG rfl,trivial⟩ (fun w hw=>bD (vs:=[_,_,_,_,_,_,_,_,_]) isAgg76 sizeOf76 rfl (aF.agree (aP hw 0) (Nat.zero_le _) (aF.own (j:=0) (m:=9) (hS.at_ 2 rfl) rfl))) (aG rfl)) (fI 18 rfl rfl (by kernel_rfl) (rgV (li:=[(15,_)]) rfl (aS rfl) ⟨cG rfl,trivial⟩ (fun w hw=>aV (o':=3) nK rfl rfl) (aG rfl)) (fI 19 rfl rfl (by kernel_rfl) (rgV (li:=[(132,_)]) rfl (aS rfl) ⟨aO 17 (aA rfl rfl rfl),trivial⟩ (fun w hw=>bD (vs:=[_,_,_,_,_,_]) isAgg44 sizeOf44 rfl (aF.agree (aP hw 0) (Nat.zero_le _) (aF.own (j:=3) (m:=6) (hS.at_ 0 rfl) rfl))) (aG rfl)) ?_))))))))))))))))))
          refine L8 20 rfl rfl (by kernel_rfl) (dL W.heap.size S (py (⟨(fN:Int),rg,(tN:Int),rx⟩:TV))) (dS) (dB [isV _,isV _] rfl goes_40 (aS rfl) ⟨cH (aO 16 (aA rfl rfl rfl)),cH (aO 18 (aA rfl rfl rfl)),trivial⟩ (fun vs w' hb hh=>by have e:=cI (us:=[_,_]) hh;subst e;exact gO hb.size (Hw S s.f f0 rx.f (py (⟨(fN:Int),rg,(tN:Int),rx⟩:TV)) w' (hA.si.below (hS.below.trans (hb.mono hS.below.size))) hA.ok (hpr.below (hS.below.trans (hb.mono hS.below.size))) (ht.below (hS.below.trans (hb.mono hS.below.size))))) (aG rfl)) ?_
          refine L8 21 rfl rfl (by kernel_rfl) (Hz W.heap.size ((fN:Int) * (nl:Int)+(k:Int)) rg ((tN:Int) * (nl:Int)+z) S (py (⟨(fN:Int),rg,(tN:Int),rx⟩:TV))) (Ti) (rgPs [(7,122,isV _),(9,124,isV _),(15,130,isV _),(19,134,dL W.heap.size S (py (⟨(fN:Int),rg,(tN:Int),rx⟩:TV)))] rfl ⟨⟨by kernel_rfl,aA rfl rfl rfl⟩,⟨by kernel_rfl,aA rfl rfl rfl⟩,⟨by kernel_rfl,aA rfl rfl rfl⟩,⟨by kernel_rfl,aA rfl rfl rfl⟩,trivial⟩ bld_trP (aG rfl)) ?_
          refine L8 22 rfl rfl (by kernel_rfl) (xO W.heap.size ((fN:Int) * (nl:Int)+(k:Int)) rg ((tN:Int) * (nl:Int)+z) S (py (⟨(fN:Int),rg,(tN:Int),rx⟩:TV))) (Ko) (Tj rfl (aO 20 (aA rfl rfl rfl)) (aG rfl)) (L9 23 rfl rfl (Fz 24 rfl rfl (rgV (li:=[(9,_)]) rfl (aS rfl) ⟨cG rfl,trivial⟩ (fun w hw=>aV (o':=6) dR rfl rfl) (aG rfl)) (lgV (li:=[(9,_)]) rfl (aS rfl) ⟨cG rfl,trivial⟩ (fun w=>aV (o':=6) dR rfl rfl) (aG rfl) rfl) (L7 ⟨_,_,aO 1 (aA rfl rfl rfl),aO 21 (aA rfl rfl rfl),Py,?_⟩)))
          intro A24 v24 news24 W24 hbR hqA24 hS'
          clear hS;have hS:=hS';clear hS'
          have hqN:=hqA24
          refine aJ (aJ (aJ (aJ (aJ (aJ (aJ (aJ (aJ (aJ (aJ (aJ (aJ (aJ (aJ (aJ (aJ (aJ (aJ ?_))))))))))))))))))
          refine dH ?_;intro _ _
          refine dH ?_;intro _ _
          refine dH ?_;intro _ _
          refine aJ (aJ ?_)
          obtain ⟨wf,rfl,hxn⟩:=hqN
          have HX9:Aa (MB w ((W.heap.size,A24)::K9)) S wf (py (⟨(fN:Int),rg,(tN:Int),rx⟩:TV)):=hxn.far.mono fun W2 hW=>hW.2 _ List.mem_cons_self
          refine cQ (dN (i:=1) (cs':=[_,_,_,_,_,_,_]) (O':=[_,_,_,_,_,_]) hS sizeOf27 rfl rfl (by first | rfl | exact (hS.oneV 0 _ rfl :) | exact (hS.oneV 1 _ rfl :) | exact (hS.oneV 2 _ rfl :) | exact (hS.oneV 3 _ rfl :)) rfl rfl rfl rfl fun W25 hS=>aN (XF.blkN (XF.thenN (aQ (cP rfl rfl (IntWalk.i64_in _ (by omega)) rfl (aE rfl rfl (aN ?_)))))))
          exact XF.round (nl - (k+1)) [(2,_),(3,_),(4,_),(7,_),(8,_),(9,_),(92,_),(93,_),(94,_),(15,_),(98,_),(99,_)] (by omega) ⟨rfl,rfl,rfl,rfl,rfl,rfl,rfl,rfl,rfl,rfl,rfl,rfl,trivial⟩ ⟨k+1,_,ms++[(⟨(fN:Int) * (nl:Int)+(k:Int),rg,(tN:Int) * (nl:Int)+z,wf⟩:M9)],_,by omega,rfl,rfl,HQ.more (fun q hq=>by simp [hq]),by rw [List.map_append,hpl,Da,← List.append_assoc,← hz];rfl,by rw [List.replicate_succ',← List.append_assoc];exact (hXM.mono fun W2 hW=>⟨hW.1,fun q hq=>hW.2 q (by simp [hq])⟩).app (HX9.mono fun W2 hW=>⟨hW.1,fun q hq=>hW.2 q (by rcases List.mem_cons.1 hq with rfl | hq<;>simp [*])⟩),hS.castG (by simp)⟩
         ·skip
          refine aM (aQ (aK (o':=1) iM rfl rfl rfl (aR isAgg3 rfl (aH (hS.at_ 0 rfl) rfl) rfl (lO rfl rfl rfl (aN (XF.thenN (bB rfl (fun hc=>?_) (fun hc=>?_))))))))
          ·have hc105:=of_decide_eq_true hc;clear hc
           obtain ⟨gN,rfl⟩:∃ g:Nat,rg=(g:Int):=⟨rg.toNat,by omega⟩
           obtain ⟨yb,yo,y,rfl,hy,hyc⟩:=hqr.at1 (show gN < xs.length by omega)
           have hyq:=hqd.2 y (List.mem_of_getElem? hy)
           obtain ⟨yN,hyN,hyN2⟩:=dV hyq
           have hz:y=toK ⟨dsy,some ⟨nb,noff,none⟩,nl,nc,ns,aa,al,ac,bs⟩ (gN:Int) k:=by
            unfold toK Fi
            rw [if_pos (by omega),Int.toNat_natCast]
            show y=(((ns[k]?).map (·.xs)).getD []).getD gN 0
            rw [hq];exact (nI hy).symm
           have kn:=hS.old hnc
           have ky:=hS.old hyc
           refine lQ (m:=10) cF hS (by kernel_rfl) (by kernel_rfl) rfl (cL 1 rfl 3 rfl rfl (fun w hw=>aV (o':=1) iN rfl rfl) rfl (bC 2 rfl 106 0 rfl rfl rfl (fun w hw=>aZ isAgg57 rfl ((aP hw 0).cell (Nat.zero_le _) (aH (hS.at_ 4 rfl) rfl))) rfl (cL 3 rfl 16 rfl rfl (fun w hw=>bA rfl) rfl (aL 4 rfl (isV _) (aI _) (rgV (li:=[(107,_),(108,_)]) rfl (aS rfl) ⟨aO 1 (aA rfl rfl rfl),aO 2 (aA rfl rfl rfl),trivial⟩ (fun w hw=>bG  underlying57 sizeOf26 rfl rfl rfl (by omega) rfl) (aG rfl)) (bC 5 rfl 109 3 rfl rfl rfl (fun w hw=>aZ isAgg26 rfl ((aP hw 0).cell (Nat.zero_le _) (kn))) rfl (cL 6 rfl 15 rfl rfl (fun w hw=>aV (o':=1) iM rfl rfl) rfl (bC 7 rfl 111 5 rfl rfl rfl (fun w hw=>aZ isAgg3 rfl ((aP hw 0).cell (Nat.zero_le _) (aH (hS.at_ 0 rfl) rfl))) rfl ?_)))))))
           refine aL 8 rfl (isV _) (aI _) (rgV (li:=[(110,_),(112,_)]) rfl (aS rfl) ⟨aO 4 (aA rfl rfl rfl),aO 6 (aA rfl rfl rfl),trivial⟩ (fun w hw=>bG  underlying26 sizeOf3 rfl rfl rfl (by dsimp only;omega) rfl) (aG rfl)) ?_
           refine bC 9 rfl 113 7 rfl rfl rfl (fun w hw=>aZ isAgg3 rfl ((aP hw 0).cell (Nat.zero_le _) (ky))) rfl (bC 10 rfl 114 8 rfl rfl rfl (fun w hw=>fW rfl) rfl (dW ?_))
           intro W26 hbR hS'
           clear hS;have hS:=hS';clear hS'
           refine aJ (aJ (aJ (aJ (aJ (aJ (aJ (aJ (aJ (aJ (cQ ?_))))))))))
           exact XF.join [(2,_),(3,_),(4,_),(7,_),(8,_),(9,_),(92,_),(93,_),(94,_),(15,_),(98,_),(99,_),(16,_),(17,_)] ⟨rfl,rfl,rfl,rfl,rfl,rfl,rfl,rfl,rfl,rfl,rfl,rfl,rfl,rfl,trivial⟩ ⟨y,hz,by omega,by omega,rfl,hS.keep K9 (fun q hq=>by simp [hq])⟩
          ·have hc105:=of_decide_eq_false hc;clear hc
           refine bI ?_
           exact XF.join [(2,_),(3,_),(4,_),(7,_),(8,_),(9,_),(92,_),(93,_),(94,_),(15,_),(98,_),(99,_),(16,_),(17,_)] ⟨rfl,rfl,rfl,rfl,rfl,rfl,rfl,rfl,rfl,rfl,rfl,rfl,rfl,rfl,trivial⟩ ⟨(k:Int),by unfold toK;rw [if_neg hc105],by omega,by omega,rfl,hS⟩
        ·have hc100:=of_decide_eq_false hc;clear hc
         have hkn:k=nl:=by omega
         rw [hkn] at hpl hXM
         refine dP (XF.thenX (XF.thenX (XF.blkX (XF.blkN (XF.thenN (aQ (cP rfl rfl (IntWalk.i64_in _ (by omega)) rfl (aE rfl rfl (aN ?_)))))))))
         exact XF.round (tl - (i+1)) [(2,_),(3,_),(4,_),(7,_),(8,_),(9,_),(92,_),(93,_),(94,_)] (by omega) ⟨rfl,rfl,rfl,rfl,rfl,rfl,rfl,rfl,rfl,trivial⟩ ⟨i+1,vt,ms,K9,by omega,rfl,rfl,HQ,by rw [Iu hr];exact hpl,by rw [Iv hr];exact hXM,hS.tail⟩
       ·have hc95:=of_decide_eq_false hc;clear hc
        rw [List.take_of_length_le (by omega)] at hpl hXM
        refine dP (XF.thenX (XF.thenX (XF.blkX (XF.thenN (aM (aQ (aT (vs:=[_,_,_,_,_,_,_]) isAgg29 sizeOf29 rfl (aF.own (j:=0) (m:=7) (hS.at_ 0 rfl) rfl) rfl ?_)))))))
        refine aU (i:=2) (vs:=[_,_,_,_,_,_,_]) (cs':=[_,_,_,_,_,_,_]) (O':=[_,_,_,_,_]) hS sizeOf29 rfl rfl (by first | rfl | (have h0:=hS.oneV 0 _ rfl;simp only [List.all_cons,List.all_nil,Bool.and_true,Bool.and_eq_true];exact ⟨rfl,rfl,rfl,rfl,rfl,rfl,h0⟩) | (have h0:=hS.oneV 0 _ rfl;have h1:=hS.oneV 1 _ rfl;simp only [List.all_cons,List.all_nil,Bool.and_true,Bool.and_eq_true];exact ⟨rfl,rfl,rfl,rfl,rfl,h1,h0⟩)) rfl rfl rfl rfl fun W27 hS=>?_
        refine aC rfl rfl (aN (XF.thenN (bL (XF.res (iO (vs:=[_,_,_,_,_,_,_]) results25 isAgg29 sizeOf29 rfl (aF.own (j:=0) (m:=7) (hS.at_ 2 rfl) rfl) rfl) ?_))))
        obtain ⟨a8,c8,rfl⟩:=hS.headSl
        obtain ⟨a9,c9,rfl⟩:=hS.restG.headSl
        exact ⟨hS.below,.inr ⟨hME,sq,a9,a8,c9,c8,ms,by rw [← hFs],fun W2 hb hg=>⟨⟨hA.ok,HQ (MB.st (Uk hS hb hg)) (fun q hq=>hq)⟩,by rw [← hFs];exact Ix (fS (hS.row 1 rfl) hg),tJ (fS (hS.row 0 rfl) hg),(fun S9 e9=>by cases e9;exact hXM.mono fun W3 h=>Uk hS (hb.trans (h.mono hb.size)) (hg.trans (aP h _))),(fun h=>by cases h),hpl⟩⟩⟩
theorem Ul {W:World} {b o:Nat} {f g:WF} (h:W6 W b o f) (k:W6 W b o g):f.six=g.six:=by
 obtain ⟨h1,h2,h3,h4,h5,h6⟩:=h
 obtain ⟨k1,k2,k3,k4,k5,k6⟩:=k
 have e1:=Option.some.inj (h1.symm.trans k1)
 have e2:=Option.some.inj (h2.symm.trans k2)
 have e3:=Option.some.inj (h3.symm.trans k3)
 have e4:=Option.some.inj (h4.symm.trans k4)
 have e5:=Option.some.inj (h5.symm.trans k5)
 have e6:=Option.some.inj (h6.symm.trans k6)
 simp only [WF.six,e1,e2,e3,e4,e5,e6]
theorem at_pf {W:World} {f g:WF} (hf:f.At W) (hg:g.At W) (h6:f.six=g.six):f.pf=g.pf:=by
 simp only [WF.six,List.cons.injEq,Value.bool.injEq,Value.int.injEq,Value.slice.injEq,true_and,and_true] at h6
 obtain ⟨ez,ec,eg,⟨era,erl,_⟩,⟨eca,ecl,_⟩,_⟩:=h6
 have eg:f.g=g.g:=by omega
 have hrow:f.rows=g.rows:=by
  refine List.ext_getElem? fun i=>?_
  rcases Nat.lt_or_ge i f.rows.length with hi | hi
  ·obtain ⟨b1,o1,r1,e1,hr1,_,c1⟩:=qJ.at_ (show qJ W f.ra f.rows from hf.rows) hi
   obtain ⟨b2,o2,r2,e2,hr2,_,c2⟩:=qJ.at_ (show qJ W g.ra g.rows from hg.rows) (i:=i) (by rw [hg.rl,← erl,← hf.rl];exact hi)
   rw [era,e2] at e1
   cases e1
   rw [c2] at c1
   have h9:=Option.some.inj c1
   simp only [Value.int.injEq,true_and] at h9
   rw [hr1,hr2]
   congr 1
   omega
  ·rw [List.getElem?_eq_none hi,List.getElem?_eq_none (by rw [hg.rl,← erl,← hf.rl];exact hi)]
 have hcell:f.cells=g.cells:=by
  have hl:f.cells.length=g.cells.length:=by rw [hf.cl,hg.cl,ecl]
  refine List.ext_getElem? fun i=>?_
  rcases Nat.lt_or_ge i f.cells.length with hi | hi
  ·rcases hf.cells with h1 | ⟨b1,o1,e1,c1⟩
   ·rw [h1] at hi;simp at hi
   rcases hg.cells with h2 | ⟨b2,o2,e2,c2⟩
   ·rw [h2] at hl;rw [hl] at hi;simp at hi
   rw [eca,e2] at e1
   cases e1
   have g1:=List.getElem?_eq_getElem hi
   have g2:=List.getElem?_eq_getElem (show i < g.cells.length by omega)
   obtain ⟨p1,p2,p3⟩:=c1 i _ g1
   obtain ⟨q1,q2,q3⟩:=c2 i _ g2
   have d1:=Option.some.inj (p1.symm.trans q1)
   have d2:=Option.some.inj (p2.symm.trans q2)
   have d3:=Option.some.inj (p3.symm.trans q3)
   simp only [Value.int.injEq,true_and] at d1 d2 d3
   rw [g1,g2]
   congr 1
   cases hc:f.cells[i]
   cases hd:g.cells[i]'(show i < g.cells.length by omega)
   rw [hc] at d1 d2 d3
   rw [hd] at d1 d2 d3
   dsimp only at d1 d2 d3
   simp only [Cl.mk.injEq]
   exact ⟨by omega,d2,d3⟩
  ·rw [List.getElem?_eq_none hi,List.getElem?_eq_none (by omega)]
 simp only [WF.pf,ez,ec,eg,hrow,hcell]
theorem xis_inj {W:World} {S:PS} {f:WF} {x y:PX} (hx:XIs W S f x) (hy:XIs W S f y):x=y:=by
 cases S with
 | one t n =>
  cases x with
  | two a b=>exact hx.elim
  | one a =>
   cases y with
   | two a b=>exact hy.elim
   | one c=>rw [show a=c from (PIs.pf hx).symm.trans (PIs.pf hy)]
 | two t n u m =>
  cases x with
  | one a=>exact hx.elim
  | two a b =>
   cases y with
   | one a=>exact hy.elim
   | two c d =>
    obtain ⟨_,_,_,_,blk,off,g,h,e1,g1,h1,pa,pb⟩:=hx
    obtain ⟨_,_,_,_,blk2,off2,g',h',e2,g2,h2,pc,pd⟩:=hy
    rw [e1] at e2
    cases e2
    have k1:=at_pf pa.at_ pc.at_ (Ul g1 g2)
    have k2:=at_pf pb.at_ pd.at_ (Ul h1 h2)
    rw [← pa.pf,← pb.pf,← pc.pf,← pd.pf,k1,k2]
theorem Au {d:DV} {s:Int} {k:Nat} {y:Int}:y∈sD d s k↔∃ j,j < k∧d.bs.getD j false=true∧y=s * (d.nl:Int)+(j:Int):=by
 unfold sD
 simp only [List.mem_map,List.mem_filter,List.mem_range]
 constructor
 ·rintro ⟨j,⟨h1,h2⟩,rfl⟩;exact ⟨j,h1,h2,rfl⟩
 ·rintro ⟨j,h1,h2,rfl⟩;exact ⟨j,⟨h1,h2⟩,rfl⟩
theorem Fl {d:DV} {fs:List Int} {y:Int}:y∈mFs d fs↔∃ s∈fs,∃ j,j < d.nl∧d.bs.getD j false=true∧y=s * (d.nl:Int)+(j:Int):=by
 unfold mFs
 simp only [List.mem_flatMap,Au]
theorem Qh {st:Int} {fs:List Int} (h:zX st fs=true):fs.Pairwise (· < ·):=by
 rw [List.pairwise_iff_getElem]
 intro i j hi hj hij
 have key:∀ k,i+k+1 < fs.length→fs.getD i 0 < fs.getD (i+k+1) 0:=by
  intro k
  induction k with
  | zero =>
   intro hk
   have h1:=List.all_eq_true.1 h (i+1) (List.mem_range.2 hk)
   unfold jL at h1
   simp only [Bool.and_eq_true,Bool.or_eq_true,decide_eq_true_eq,Nat.add_sub_cancel] at h1
   exact h1.2.resolve_left (by omega)
  | succ k ih =>
   intro hk
   have h0:=ih (by omega)
   have h1:=List.all_eq_true.1 h (i+(k+1)+1) (List.mem_range.2 hk)
   unfold jL at h1
   simp only [Bool.and_eq_true,Bool.or_eq_true,decide_eq_true_eq,Nat.add_sub_cancel] at h1
   have h2:=h1.2.resolve_left (by omega)
   rw [show i+(k+1)=i+k+1 by omega] at h2 ⊢
   omega
 have h9:=key (j - i - 1) (by omega)
 rw [show i+(j - i - 1)+1=j by omega] at h9
 rw [List.getD_eq_getElem?_getD,List.getD_eq_getElem?_getD,List.getElem?_eq_getElem hi,List.getElem?_eq_getElem hj] at h9
 exact h9
theorem Lk {st:Int} {fs:List Int} (h:fs.Pairwise (· < ·)) (hq:∀ s∈fs,inQ s st=true):zX st fs=true:=E0 fun j hj=>by
 unfold jL
 rw [List.getD_eq_getElem?_getD,List.getElem?_eq_getElem hj]
 rw [Bool.and_eq_true]
 refine ⟨hq _ (List.getElem_mem hj),?_⟩
 rcases Nat.eq_zero_or_pos j with rfl | h0
 ·simp
 ·rw [Bool.or_eq_true]
  right
  rw [decide_eq_true_eq,List.getD_eq_getElem?_getD,List.getElem?_eq_getElem (show j - 1 < fs.length by omega)]
  exact List.pairwise_iff_getElem.1 h (j - 1) j (by omega) hj (by omega)
theorem Iy {s s2 n k k2:Int} (h:s < s2) (hk:k < n) (h2:0≤k2) (hn:0≤n):s * n+k < s2 * n+k2:=by
 have h9:(s+1) * n≤s2 * n:=Int.mul_le_mul_of_nonneg_right (by omega) hn
 rw [Int.add_mul,Int.one_mul] at h9
 omega
theorem Um {d:DV} {fs:List Int} (h:fs.Pairwise (· < ·)):(mFs d fs).Pairwise (· < ·):=by
 unfold mFs
 rw [List.pairwise_flatMap]
 refine ⟨fun s _=>?_,h.imp fun {a b} hab x hx y hy=>?_⟩
 ·unfold sD
  rw [List.pairwise_map]
  exact (List.pairwise_lt_range.filter _).imp fun {a b} hab=>by omega
 ·obtain ⟨j,h1,_,rfl⟩:=Au.1 hx
  obtain ⟨k,h2,_,rfl⟩:=Au.1 hy
  exact Iy hab (by omega) (by omega) (by omega)
theorem Fm {s:Int} {n m k:Nat} (h0:0≤s) (h1:s < (n:Int)) (hk:k < m):0≤s * (m:Int)+(k:Int)∧s * (m:Int)+(k:Int) < (n:Int) * (m:Int):=by
 have h2:0≤s * (m:Int):=Int.mul_nonneg h0 (by omega)
 have h3:=Iy (s:=s) (s2:=(n:Int)) (n:=(m:Int)) (k:=(k:Int)) (k2:=0) h1 (by omega) (by omega) (by omega)
 omega
theorem Un {d:DV} {n:Nat} {g:Int} {k:Nat} (hd:DOk d) (hk:k < d.nl) (hl:d.ns.length=d.nl) (hr:∀ r∈d.ns,r.xs.length=r.l) (hg:g < d.sy):∃ j:Nat,toK d g k=(j:Int)∧j < d.nl:=by
 unfold toK
 by_cases h0:0≤g
 ·rw [if_pos h0]
  unfold Fi
  have hq:=List.getElem?_eq_getElem (show k < d.ns.length by omega)
  obtain ⟨h1,h2⟩:=hd.row k _ hq
  have h3:=hr _ (List.getElem_mem (show k < d.ns.length by omega))
  rw [hq]
  show ∃ j:Nat,((d.ns[k]'(show k < d.ns.length by omega)).xs.getD g.toNat 0)=(j:Int)∧j < d.nl
  have hlt:g.toNat < (d.ns[k]'(show k < d.ns.length by omega)).xs.length:=by omega
  rw [List.getD_eq_getElem?_getD,List.getElem?_eq_getElem hlt]
  exact dV (h2 _ (List.getElem_mem hlt))
 ·rw [if_neg h0];exact ⟨k,rfl,hk⟩
theorem Ll {W:World} {S:PS} {sq:SF} (hs:SIs W S sq) (hok:S.ok):∃ s:SV,s.f=sq∧SIn W 2 s∧dE s=0∧∀ f x,XIs W S f x→∃ y:WV,y.f=f∧WIn W 2 y∧okW s y=true:=by
 cases S with
 | one t n =>
  obtain ⟨a,c,rfl⟩:=hs
  have hp:bJ t n 0=true:=hok
  refine ⟨.mk ⟨t,n,a,0,c⟩ [],rfl,⟨rfl,.inl rfl,by simp⟩,?_,fun f x hx=>?_⟩
  ·simp only [dE];rw [if_pos hp]
  ·cases x with
   | one x=>exact ⟨.mk f [],rfl,uP hx 1,by unfold okW;exact (if_pos (c:=bJ t n 0=true) hp).trans (PIs.pw hx)⟩
   | two a b=>exact hx.elim
 | two t n u m =>
  obtain ⟨b,off,c,a1,c1,a2,c2,rfl,h1,h2⟩:=hs
  refine ⟨.mk ⟨5,0,some ⟨b,off,none⟩,2,c⟩ [.mk ⟨t,n,a1,0,c1⟩ [],.mk ⟨u,m,a2,0,c2⟩ []],rfl,Eo h1 h2,?_,fun f x hx=>?_⟩
  ·have e1:bJ t n 0=true:=hok.1
   have e2:bJ u m 0=true:=hok.2
   unfold dE
   exact (if_neg (c:=bJ 5 0 2=true) (by decide)).trans (if_pos (by refine ⟨rfl,rfl,rfl,?_⟩;simp [SV.pl,SV.f,e1,e2]))
  ·cases x with
   | one x=>exact hx.elim
   | two a b =>
    obtain ⟨ra,ca,rc,cc,pc,fb,fo,f1,f2,rfl,h6,h7,h8,h9⟩:=hx.two
    exact ⟨_,rfl,rR h6 h7 h8 h9,by unfold okW;exact (if_neg (c:=bJ 5 0 2=true) (by decide)).trans (zG h8 h9)⟩
def gY (d:DV) (u:List Int):Nat:=u.foldl (fun k y=>(Fi d k y).toNat) 0
theorem Av (d:DV) (u:List Int) (g:Int):gY d (u++[g])=(Fi d (gY d u) g).toNat:=by unfold gY;rw [List.foldl_append];rfl
theorem wF {q f k j n:Nat} (hk:k < n) (hj:j < n) (h:q * n+k=f * n+j):q=f∧k=j:=by
 have hn:0 < n:=by omega
 have h1:(q * n+k) / n=q:=by rw [Nat.mul_comm,Nat.mul_add_div hn,Nat.div_eq_of_lt hk,Nat.add_zero]
 have h2:(f * n+j) / n=f:=by rw [Nat.mul_comm,Nat.mul_add_div hn,Nat.div_eq_of_lt hj,Nat.add_zero]
 have h3:q=f:=by rw [← h1,← h2,h]
 subst h3
 exact ⟨rfl,by omega⟩
def mEg (py:TV→PX) (d:DV) (t:TV) (k:Nat):Eg:=⟨t.f.toNat * d.nl+k,t.g,t.t.toNat * d.nl+(toK d t.g k).toNat,py t⟩
section
variable {S:PS} {b:Bool} {py:TV→PX} {ts:List TV} {d:DV} {E:List Eg} {p:Nat}
theorem pth_fwd (hn:0 < d.nl) (hE:∀ t∈ts,∀ k,k < d.nl→mEg py d t k∈E) (hg:∀ t∈ts,-1≤t.g) (hk:∀ t∈ts,∀ k,k < d.nl→∃ j:Nat,toK d t.g k=(j:Int)∧j < d.nl) {u:List Int} {q:Nat} {x:PX} (h:Pth S b (egsX kSym py ts) p u q x):gY d u < d.nl∧Pth S b E (p * d.nl) u (q * d.nl+gY d u) x:=by
 induction h with
 | nil=>exact ⟨hn,.nil⟩
 | @eps u q x e h0 h1 h2 h3 ih =>
  obtain ⟨hr,hp⟩:=ih
  obtain ⟨t,ht,rfl⟩:=List.mem_map.1 h1
  have hg1:t.g = -1:=h3
  have h2:t.f.toNat=q:=h2
  refine ⟨hr,?_⟩
  have h9:=Pth.eps hp (hE t ht _ hr) (by show t.f.toNat * d.nl+_=_;rw [h2]) h3
  have e9:(mEg py d t (gY d u)).t=t.t.toNat * d.nl+gY d u:=by
   show t.t.toNat * d.nl+(toK d t.g (gY d u)).toNat=_
   unfold toK
   rw [if_neg (by omega),Int.toNat_natCast]
  rw [e9] at h9
  exact h9
 | @sym u q x e h0 h1 h2 h3 ih =>
  obtain ⟨hr,hp⟩:=ih
  obtain ⟨t,ht,rfl⟩:=List.mem_map.1 h1
  have h2:t.f.toNat=q:=h2
  have hg1:t.g ≠ -1:=h3
  have hg0:0≤t.g:=by have:=hg t ht;omega
  obtain ⟨j,hj,hjn⟩:=hk t ht _ hr
  have e8:toK d t.g (gY d u)=Fi d (gY d u) t.g:=by unfold toK;rw [if_pos hg0]
  have e7:gY d (u++[t.g])=(toK d t.g (gY d u)).toNat:=by rw [Av,e8]
  refine ⟨?_,?_⟩
  ·show gY d (u++[t.g]) < d.nl
   rw [e7,hj,Int.toNat_natCast];exact hjn
  ·have h9:=Pth.sym hp (hE t ht _ hr) (by show t.f.toNat * d.nl+_=_;rw [h2]) h3
   have e9:(mEg py d t (gY d u)).t=t.t.toNat * d.nl+gY d (u++[t.g]):=by rw [e7];rfl
   rw [e9] at h9
   exact h9
theorem Uo (hn:0 < d.nl) (hE:∀ e∈E,∃ t∈ts,∃ k,k < d.nl∧e=mEg py d t k) (hg:∀ t∈ts,-1≤t.g) (hk:∀ t∈ts,∀ k,k < d.nl→∃ j:Nat,toK d t.g k=(j:Int)∧j < d.nl) {u:List Int} {Q:Nat} {x:PX} (h:Pth S b E (p * d.nl) u Q x):∃ q,Q=q * d.nl+gY d u∧gY d u < d.nl∧Pth S b (egsX kSym py ts) p u q x:=by
 induction h with
 | nil=>exact ⟨p,rfl,hn,.nil⟩
 | @eps u Q x e h0 h1 h2 h3 ih =>
  obtain ⟨q,rfl,hr,hp⟩:=ih
  obtain ⟨t,ht,k,hkn,rfl⟩:=hE e h1
  have hg1:t.g = -1:=h3
  obtain ⟨e1,e2⟩:=wF hkn hr (show t.f.toNat * d.nl+k=q * d.nl+gY d u from h2)
  subst e2
  refine ⟨t.t.toNat,?_,hr,?_⟩
  ·show t.t.toNat * d.nl+(toK d t.g (gY d u)).toNat=_
   unfold toK
   rw [if_neg (by omega),Int.toNat_natCast]
  ·exact Pth.eps (e:=egX kSym py t) hp (List.mem_map_of_mem ht) e1 h3
 | @sym u Q x e h0 h1 h2 h3 ih =>
  obtain ⟨q,rfl,hr,hp⟩:=ih
  obtain ⟨t,ht,k,hkn,rfl⟩:=hE e h1
  have hg1:t.g ≠ -1:=h3
  have hg0:0≤t.g:=by have:=hg t ht;omega
  obtain ⟨e1,e2⟩:=wF hkn hr (show t.f.toNat * d.nl+k=q * d.nl+gY d u from h2)
  subst e2
  obtain ⟨j,hj,hjn⟩:=hk t ht _ hr
  have e8:toK d t.g (gY d u)=Fi d (gY d u) t.g:=by unfold toK;rw [if_pos hg0]
  have e7:gY d (u++[t.g])=(toK d t.g (gY d u)).toNat:=by rw [Av,e8]
  refine ⟨t.t.toNat,?_,?_,?_⟩
  ·show t.t.toNat * d.nl+(toK d t.g (gY d u)).toNat=t.t.toNat * d.nl+gY d (u++[t.g])
   rw [e7]
  ·show gY d (u++[t.g]) < d.nl
   rw [e7,hj,Int.toNat_natCast];exact hjn
  ·exact Pth.sym (e:=egX kSym py t) hp (List.mem_map_of_mem ht) e1 h3
theorem Up {F F':List Nat} (hn:0 < d.nl) (hE1:∀ t∈ts,∀ k,k < d.nl→mEg py d t k∈E) (hE2:∀ e∈E,∃ t∈ts,∃ k,k < d.nl∧e=mEg py d t k) (hg:∀ t∈ts,-1≤t.g) (hk:∀ t∈ts,∀ k,k < d.nl→∃ j:Nat,toK d t.g k=(j:Int)∧j < d.nl)
  (hF:∀ Q,Q∈F'↔∃ s∈F,∃ j,j < d.nl∧d.bs.getD j false=true∧Q=s * d.nl+j) {u:List Int} {x:PX}:tI S b E F' (p * d.nl) u x↔d.bs.getD (gY d u) false=true∧tI S b (egsX kSym py ts) F p u x:=by
 constructor
 ·rintro ⟨Q,hQ,hp⟩
  obtain ⟨q,e1,hr,hp⟩:=Uo hn hE2 hg hk hp
  obtain ⟨s,hs,j,hj,hb,e2⟩:=(hF Q).1 hQ
  obtain ⟨e3,e4⟩:=wF hr hj (e1.symm.trans e2)
  subst e3;subst e4
  exact ⟨hb,q,hs,hp⟩
 ·rintro ⟨hb,q,hq,hp⟩
  obtain ⟨hr,hp⟩:=pth_fwd hn hE1 hg hk hp
  exact ⟨_,(hF _).2 ⟨q,hq,_,hr,hb,rfl⟩,hp⟩
end
def mZ (py:TV→PX) (d:DV) (ts:List TV):List ((Int×Int×Int)×PX):=ts.flatMap (fun t=>(List.range d.nl).map (fun (k:Nat)=>((t.f * (d.nl:Int)+(k:Int),t.g,t.t * (d.nl:Int)+toK d t.g k),py t)))
theorem Uq (py:TV→PX) (d:DV) (ts:List TV):(mZ py d ts).map (·.1)=mPl d ts:=by
 unfold mZ mPl xB
 rw [List.map_flatMap]
 simp only [List.map_map,Function.comp_def]
theorem mZ_snd (py:TV→PX) (d:DV) (ts:List TV):(mZ py d ts).map (·.2)=mXs py d.nl ts:=by
 unfold mZ mXs
 rw [List.map_flatMap]
 simp only [List.map_map,Function.comp_def,List.map_const',List.length_range]
theorem mZ_mem {py:TV→PX} {d:DV} {ts:List TV} {z:(Int×Int×Int)×PX}:z∈mZ py d ts↔∃ t∈ts,∃ k,k < d.nl∧z=((t.f * (d.nl:Int)+(k:Int),t.g,t.t * (d.nl:Int)+toK d t.g k),py t):=by
 unfold mZ
 simp only [List.mem_flatMap,List.mem_map,List.mem_range]
 constructor
 ·rintro ⟨t,ht,k,hk,rfl⟩;exact ⟨t,ht,k,hk,rfl⟩
 ·rintro ⟨t,ht,k,hk,rfl⟩;exact ⟨t,ht,k,hk,rfl⟩
noncomputable def pyW (W:World) (S:PS) (t:TV):PX:=@dite _ (∃ x,XIs W S t.x.f x) (Classical.propDecidable _) (fun h=>h.choose) (fun _=>.one dC)
theorem Ur {W:World} {S:PS} {t:TV} {x:PX} (h:XIs W S t.x.f x):pyW W S t=x:=by
 have h9:∃ x,XIs W S t.x.f x:=⟨x,h⟩
 unfold pyW
 rw [dif_pos h9]
 exact xis_inj h9.choose_spec h
theorem Us {W:World} {S:PS} {s:SV} (hse:dE s=0) (hy:∀ f x,XIs W S f x→∃ y:WV,y.f=f∧WIn W 2 y∧okW s y=true):∀ ms:List M9,(∀ r∈ms,∃ x,XIs W S r.x x)→∃ ts:List TV,ts.length=ms.length∧(∀ (i:Nat) t r,ts[i]?=some t→ms[i]?=some r→t.f=r.f∧t.g=r.g∧t.t=r.t∧t.x.f=r.x)∧∀ t∈ts,WIn W 2 t.x∧kM s t.x=0∧∃ x,XIs W S t.x.f x
 | [],_=>⟨[],rfl,fun i t r ht=>by simp at ht,fun t ht=>by cases ht⟩
 | r::ms,hx=>by
  obtain ⟨ts,hl,hm,hc⟩:=Us hse hy ms fun q hq=>hx q (List.mem_cons_of_mem _ hq)
  obtain ⟨x,hxr⟩:=hx r List.mem_cons_self
  obtain ⟨y,hyf,hyi,hyo⟩:=hy r.x x hxr
  refine ⟨⟨r.f,r.g,r.t,y⟩::ts,by simp [hl],fun i t q ht hq=>?_,fun t ht=>?_⟩
  ·cases i with
   | zero=>cases ht;cases hq;exact ⟨rfl,rfl,rfl,hyf⟩
   | succ i=>exact hm i t q (by simpa using ht) (by simpa using hq)
  ·rcases List.mem_cons.1 ht with rfl | ht
   ·exact ⟨hyi,by unfold kM;rw [if_pos hse,if_pos hyo],x,by rw [hyf];exact hxr⟩
   ·exact hc t ht
structure MeetX (W:World) (S:PS) (py:TV→PX) (n:Nat) (a:AV) (d:DV) (sq:SF) (fa2 ta2:Option Addr) (fc2 tc2 m:Nat) (x:AV) (py':TV→PX):Prop where
 val:x.val = .agg #[.int .i64 sq.tag,.int .i64 sq.dim,.slice sq.a sq.len sq.cap,.int .i64 (a.st * (d.nl:Int)),.int .i64 a.sy,.slice fa2 (mFs d a.fs).length fc2,.slice ta2 m tc2]
 ain:AIn W 2 2 x
 e:dD x=0
 ok:AutoOk W S py' (n * d.nl) x
 fs:x.fs=mFs d a.fs
 sy:x.sy=a.sy
 e1:∀ t∈a.ts,∀ k,k < d.nl→mEg py d t k∈egsX kSym py' x.ts
 e2:∀ e∈egsX kSym py' x.ts,∃ t∈a.ts,∃ k,k < d.nl∧e=mEg py d t k
theorem Ut {W:World} {S:PS} {py:TV→PX} {n:Nat} {a:AV} {d:DV} {sq:SF} {fa2 ta2:Option Addr} {fc2 tc2:Nat} {ms:List M9} (hA:AutoOk W S py n a) (hdi:DIn W d) (hE:eO a d=0) (hG:AuG (some S) (mPl d a.ts) (mXs py d.nl a.ts) (mFs d a.fs) W sq fa2 ta2 ms):∃ x py',MeetX W S py n a d sq fa2 ta2 fc2 tc2 ms.length x py':=by
 obtain ⟨hEa,hEd,hsy,hlim1,hlim2⟩:=tK hE
 have hd:=Ar hEd
 obtain ⟨hok,hsi⟩:S.ok∧SIs W S sq:=hG.sp
 obtain ⟨s,hsf,hss,hse,hy⟩:=Ll hsi hok
 have hxm:=hG.x S rfl
 have hml:ms.length=(mPl d a.ts).length:=by rw [← hG.pl,List.length_map]
 have hzl:(mZ py d a.ts).length=ms.length:=by rw [hml,← Uq py d a.ts,List.length_map]
 have hat:∀ (i:Nat) r,ms[i]?=some r→∃ z,(mZ py d a.ts)[i]?=some z∧r.f=z.1.1∧r.g=z.1.2.1∧r.t=z.1.2.2∧XIs W S r.x z.2:=by
  intro i r hr
  have hi:i < (mZ py d a.ts).length:=by rw [hzl];exact (List.getElem?_eq_some_iff.1 hr).1
  refine ⟨_,List.getElem?_eq_getElem hi,?_⟩
  have h1:(ms.map M9.pl)[i]?=some r.pl:=by rw [List.getElem?_map,hr];rfl
  rw [hG.pl,← Uq py d a.ts,List.getElem?_map,List.getElem?_eq_getElem hi] at h1
  have h1:=Option.some.inj h1
  have h2:(mXs py d.nl a.ts)[i]?=some ((mZ py d a.ts)[i]'hi).2:=by rw [← mZ_snd py d a.ts,List.getElem?_map,List.getElem?_eq_getElem hi];rfl
  have h3:=(hxm.2 i r _ hr h2).is (Below.refl _ _)
  simp only [M9.pl,Prod.ext_iff] at h1
  exact ⟨h1.1.symm,h1.2.1.symm,h1.2.2.symm,h3⟩
 obtain ⟨ts',htl,htm,htc⟩:=Us (W:=W) (S:=S) hse hy ms fun r hr=>by
  obtain ⟨i,hi⟩:=List.getElem?_of_mem hr
  obtain ⟨z,_,_,_,_,h⟩:=hat i r hi
  exact ⟨_,h⟩
 have htz:∀ (i:Nat) t,ts'[i]?=some t→∃ z,(mZ py d a.ts)[i]?=some z∧t.f=z.1.1∧t.g=z.1.2.1∧t.t=z.1.2.2∧pyW W S t=z.2:=by
  intro i t ht
  have hi:i < ms.length:=by rw [← htl];exact (List.getElem?_eq_some_iff.1 ht).1
  have hr:=List.getElem?_eq_getElem hi
  obtain ⟨e1,e2,e3,e4⟩:=htm i t _ ht hr
  obtain ⟨z,hz,z1,z2,z3,z4⟩:=hat i _ hr
  exact ⟨z,hz,e1.trans z1,e2.trans z2,e3.trans z3,Ur (by rw [e4];exact z4)⟩
 have hlen:∀ r∈d.ns,r.xs.length=r.l:=fun r hr=>(hdi.rin r hr).2.1
 have hkk:∀ t∈a.ts,∀ k,k < d.nl→∃ j:Nat,toK d t.g k=(j:Int)∧j < d.nl:=fun t ht k hk=>Un (n:=n) hd hk hdi.nlen hlen (by rw [hsy];exact (hA.tg t ht).2)
 have hin9:∀ t∈ts',∃ u∈a.ts,∃ k,k < d.nl∧t.f=u.f * (d.nl:Int)+(k:Int)∧t.g=u.g∧t.t=u.t * (d.nl:Int)+toK d u.g k∧pyW W S t=py u:=by
  intro t ht
  obtain ⟨i,hi⟩:=List.getElem?_of_mem ht
  obtain ⟨z,hz,z1,z2,z3,z4⟩:=htz i t hi
  obtain ⟨u,hu,k,hk,rfl⟩:=mZ_mem.1 (List.mem_of_getElem? hz)
  exact ⟨u,hu,k,hk,z1,z2,z3,z4⟩
 have hedge:∀ {t u:TV} {k:Nat},u∈a.ts→k < d.nl→t.f=u.f * (d.nl:Int)+(k:Int)→t.g=u.g→t.t=u.t * (d.nl:Int)+toK d u.g k→pyW W S t=py u→egX kSym (pyW W S) t=mEg py d u k:=by
  intro t u k hu hk h1 h2 h3 h4
  obtain ⟨fN,hf,_⟩:=dV (hA.tf u hu)
  obtain ⟨tN,ht,_⟩:=dV (hA.tt u hu)
  obtain ⟨j,hj,_⟩:=hkk u hu k hk
  unfold egX mEg
  simp only [Eg.mk.injEq]
  refine ⟨?_,h2,?_,h4⟩
  ·rw [h1,hf,Int.toNat_natCast,← Int.natCast_mul,← Int.natCast_add,Int.toNat_natCast]
  ·rw [h3,ht,hj,Int.toNat_natCast,Int.toNat_natCast,← Int.natCast_mul,← Int.natCast_add,Int.toNat_natCast]
 have hfin:=sA hEa
 have hstn:(((n * d.nl:Nat):Int))=a.st * (d.nl:Int):=by rw [Int.natCast_mul,hA.st]
 have hFq:∀ y∈mFs d a.fs,inQ y (a.st * (d.nl:Int))=true:=fun y hy=>by
  obtain ⟨s,hs,j,hj,_,rfl⟩:=Fl.1 hy
  obtain ⟨k,rfl,hk⟩:=dV (hA.fq s hs)
  have h9:=Fm (n:=n) (m:=d.nl) (k:=j) (s:=(k:Int)) (by omega) (by omega) hj
  rw [hA.st]
  simp only [inQ,Bool.and_eq_true,decide_eq_true_eq]
  exact h9
 have htf:∀ t∈ts',inQ t.f (a.st * (d.nl:Int))=true:=fun t ht=>by
  obtain ⟨u,hu,k,hk,h1,_⟩:=hin9 t ht
  obtain ⟨fN,hf,hfn⟩:=dV (hA.tf u hu)
  have h9:=Fm (n:=n) (m:=d.nl) (k:=k) (s:=(fN:Int)) (by omega) (by omega) hk
  rw [h1,hf,hA.st]
  simp only [inQ,Bool.and_eq_true,decide_eq_true_eq]
  exact h9
 have htt:∀ t∈ts',inQ t.t (a.st * (d.nl:Int))=true:=fun t ht=>by
  obtain ⟨u,hu,k,hk,_,_,h1,_⟩:=hin9 t ht
  obtain ⟨fN,hf,hfn⟩:=dV (hA.tt u hu)
  obtain ⟨j,hj,hjn⟩:=hkk u hu k hk
  have h9:=Fm (n:=n) (m:=d.nl) (k:=j) (s:=(fN:Int)) (by omega) (by omega) hjn
  rw [h1,hf,hj,hA.st]
  simp only [inQ,Bool.and_eq_true,decide_eq_true_eq]
  exact h9
 have htg:∀ t∈ts',-1≤t.g∧t.g < a.sy:=fun t ht=>by
  obtain ⟨u,hu,k,hk,_,h1,_⟩:=hin9 t ht
  rw [h1];exact hA.tg u hu
 have hmsl:ms.length≤65536:=by
  rw [hml,xQ,hA.tlen]
  omega
 have hFl:(mFs d a.fs).length≤9223372036854775807:=by
  have h1:=xR d a.fs
  have h2:=vD hfin.1
  have h3:a.fs.length * d.nl≤4096 * 1024:=Nat.mul_le_mul (by omega) hd.nl.2
  omega
 have htrow:pU W ta2 ts':=by
  cases hns:ms with
  | nil=>rw [hns] at htl;exact .inl (List.eq_nil_of_length_eq_zero htl)
  | cons r0 rest =>
   obtain ⟨b,off,hta,_⟩:=hG.t 0 r0 (by rw [hns];rfl)
   refine .inr ⟨b,off,hta,fun i t ht=>?_⟩
   obtain ⟨r,hr⟩:∃ r,ms[i]?=some r:=⟨ms[i]'(by rw [← htl];exact (List.getElem?_eq_some_iff.1 ht).1),List.getElem?_eq_getElem _⟩
   obtain ⟨b2,off2,e,hcs⟩:=hG.t i r hr
   rw [hta] at e
   injection e with e
   injection e with e1 e2
   subst e1;subst e2
   obtain ⟨h1,h2,h3,h4⟩:=htm i t r ht hr
   have e9:t.nine=r.nine:=by
    obtain ⟨tf,tg,tt,tx⟩:=t
    obtain ⟨rf,rg,rt,rx⟩:=r
    dsimp only at h1 h2 h3 h4
    subst h1;subst h2;subst h3;subst h4;rfl
   rw [e9];exact hcs
 have hn49:n * d.nl≤4096:=by
  have h9:((n * d.nl:Nat):Int)≤4096:=by rw [hstn];exact hlim1
  omega
 refine ⟨⟨s,a.st * (d.nl:Int),a.sy,fa2,(mFs d a.fs).length,fc2,mFs d a.fs,ta2,ms.length,tc2,ts'⟩,pyW W S,?_,⟨hss,hG.f,rfl,htrow,htl,fun t ht=>(htc t ht).1,hFl,by show ms.length≤_;omega⟩,?_,⟨hok,by show SIs W S s.f;rw [hsf];exact hsi,hstn.symm,hn49,hG.f,rfl,hFl,htrow,htl,hmsl,fun y hy=>by rw [hstn];exact hFq y hy,fun t ht=>by rw [hstn];exact htf t ht,fun t ht=>by rw [hstn];exact htt t ht,htg,hA.sy,fun t ht=>?_⟩,rfl,rfl,fun t ht k hk=>?_,fun e he=>?_⟩
 ·show Value.agg #[.int .i64 s.f.tag,.int .i64 s.f.dim,.slice s.f.a s.f.len s.f.cap,_,_,_,_]=_
  rw [hsf]
 ·have h0:=hfin.2
  have hm0:0≤a.st * (d.nl:Int):=Int.mul_nonneg h0.1 (by omega)
  unfold dD
  rw [if_neg (fun h=>h hse),if_neg (by show ¬ 65536 < ms.length;omega),if_neg,if_pos]
  ·refine List.all_eq_true.2 fun t ht=>decide_eq_true (htc t ht).2.1
  ·have h8:cZ (a.st * (d.nl:Int)) a.sy (mFs d a.fs) ts'=true:=by
    unfold cZ
    rw [if_neg (by have:=hA.sy;omega),Bool.and_eq_true]
    refine ⟨Lk (Um (Qh hfin.1)) hFq,List.all_eq_true.2 fun t ht=>?_⟩
    unfold trB
    simp only [Bool.and_eq_true,decide_eq_true_eq]
    exact ⟨htf t ht,htt t ht,htg t ht⟩
   show ¬ cZ (a.st * (d.nl:Int)) a.sy (mFs d a.fs) ts'=false
   rw [h8];decide
 ·obtain ⟨x,hx⟩:=(htc t ht).2.2
  rw [Ur hx];exact hx
 ·obtain ⟨m,hm⟩:=List.getElem?_of_mem (mZ_mem.2 ⟨t,ht,k,hk,rfl⟩:_∈mZ py d a.ts)
  have hmt:m < ts'.length:=by rw [htl,← hzl];exact (List.getElem?_eq_some_iff.1 hm).1
  have h9:=List.getElem?_eq_getElem hmt
  obtain ⟨z,hz,z1,z2,z3,z4⟩:=htz m _ h9
  rw [hm] at hz
  cases hz
  rw [← hedge ht hk z1 z2 z3 z4]
  exact List.mem_map_of_mem (List.getElem_mem hmt)
 ·obtain ⟨t,ht,rfl⟩:=List.mem_map.1 he
  obtain ⟨u,hu,k,hk,h1,h2,h3,h4⟩:=hin9 t ht
  exact ⟨u,hu,k,hk,hedge hu hk h1 h2 h3 h4⟩
theorem pl_atM {ns ms:List M9} (h:ns.map M9.pl=ms.map M9.pl) {i:Nat} {r:M9} (hi:ns[i]?=some r):∃ q,ms[i]?=some q∧q.f=r.f∧q.g=r.g∧q.t=r.t:=by
 have h1:(ms.map M9.pl)[i]?=some r.pl:=by rw [← h,List.getElem?_map,hi];rfl
 rw [List.getElem?_map] at h1
 obtain ⟨q,hq,e⟩:=Option.map_eq_some_iff.1 h1
 simp only [M9.pl,Prod.mk.injEq] at e
 exact ⟨q,hq,e.1,e.2.1,e.2.2⟩
theorem Ax (o:Option PS) (pl:List (Int×Int×Int)) (xs:List PX) (fs:List Int) (s1 s2:SF) (st sy:Int) (fa1 fa2 ta1 ta2:Option Addr) (fl fc1 fc2 n tc1 tc2:Nat) (ns ms:List M9) (w:World) (h1:AuG o pl xs fs w s1 fa1 ta1 ns) (h2:AuG o pl xs fs w s2 fa2 ta2 ms) (hfl:fs.length=fl) (hn:ns.length=n) (hfm:fl≤8388608) (hnm:n≤8388608) :
  Calls prog 14 #[.agg #[.int .i64 s1.tag,.int .i64 s1.dim,.slice s1.a s1.len s1.cap,.int .i64 st,.int .i64 sy,.slice fa1 fl fc1,.slice ta1 n tc1],.agg #[.int .i64 s2.tag,.int .i64 s2.dim,.slice s2.a s2.len s2.cap,.int .i64 st,.int .i64 sy,.slice fa2 fl fc2,.slice ta2 n tc2]] w (fun e w'=>e = .returned (.bool (true))∧Below w.heap.size w w'):=by
 refine cD (args:=[.agg #[.int .i64 s1.tag,.int .i64 s1.dim,.slice s1.a s1.len s1.cap,.int .i64 st,.int .i64 sy,.slice fa1 fl fc1,.slice ta1 n tc1],.agg #[.int .i64 s2.tag,.int .i64 s2.dim,.slice s2.a s2.len s2.cap,.int .i64 st,.int .i64 sy,.slice fa2 fl fc2,.slice ta2 n tc2]]) func14 rfl ntmps14 rfl ?_
 have hS:=St.start w
 have hpl:ns.map M9.pl=ms.map M9.pl:=h1.pl.trans h2.pl.symm
 have hf1:=h1.f
 have hf2:=h2.f
 have ht1:=h1.t
 have ht2:=h2.t
 have hx1:=h1.x
 have hx2:=h2.x
 have hno:=h1.no
 have hs1:=h1.sp
 have hs2:=h2.sp
 clear h1 h2
 refine aM (aQ (bY (cs:=[_,_,_,_,_,_,_]) hS rfl rfl rfl fun B1 W1 hS=>bY (cs:=[_,_,_,_,_,_,_]) hS rfl rfl rfl fun B2 W2 hS=>aC rfl rfl (aN (XF.thenN (aM (aM (aQ (aK (o':=0) kF rfl rfl rfl (aT (vs:=[_,_,_]) isAgg25 sizeOf25 rfl (aF.own (j:=0) (m:=3) (hS.at_ 1 rfl) rfl) rfl (aK (o':=0) kF rfl rfl rfl (aT (vs:=[_,_,_]) isAgg25 sizeOf25 rfl (aF.own (j:=0) (m:=3) (hS.at_ 0 rfl) rfl) rfl (cA (vs:=[_,_]) hS Lx rfl (sameSpc (hs1.below hS.below) (hs2.below hS.below)) rfl fun W3 hS=>eS rfl rfl (aE rfl rfl (aB (d:=15) rfl rfl (aK (o':=3) fQ rfl rfl rfl (aB (d:=15) rfl rfl (aR isAgg3 rfl (aH (hS.at_ 1 rfl) rfl) rfl (aB (d:=15) rfl rfl (aK (o':=3) fQ rfl rfl rfl (aB (d:=15) rfl rfl ?_))))))))))))))))))))
 refine aR isAgg3 rfl (aH (hS.at_ 0 rfl) rfl) rfl (aB (d:=15) rfl rfl (dA rfl rfl rfl (bF rfl rfl rfl (aE rfl rfl (bH (d:=22) rfl (fun hc=>absurd (of_decide_eq_true hc) (by exact fun h=>h rfl)) (fun hc=>?_))))))
 have hc:=of_decide_eq_false hc
 refine aB (d:=22) rfl rfl (aK (o':=4) iB rfl rfl rfl (aB (d:=22) rfl rfl (aR isAgg3 rfl (aH (hS.at_ 1 rfl) rfl) rfl (aB (d:=22) rfl rfl (aK (o':=4) iB rfl rfl rfl (aB (d:=22) rfl rfl (aR isAgg3 rfl (aH (hS.at_ 0 rfl) rfl) rfl (aB (d:=22) rfl rfl (dA rfl rfl rfl (bF rfl rfl rfl (aE rfl rfl (bH (d:=29) rfl (fun hc=>absurd (of_decide_eq_true hc) (by exact fun h=>h rfl)) (fun hc=>?_)))))))))))))
 have hc:=of_decide_eq_false hc
 refine aB (d:=29) rfl rfl (aK (o':=5) eE rfl rfl rfl (aB (d:=29) rfl rfl (aR isAgg26 rfl (aH (hS.at_ 1 rfl) rfl) rfl (aB (d:=29) rfl rfl (cC underlying26 rfl rfl (aB (d:=29) rfl rfl (aK (o':=5) eE rfl rfl rfl (aB (d:=29) rfl rfl (aR isAgg26 rfl (aH (hS.at_ 0 rfl) rfl) rfl (aB (d:=29) rfl rfl (cC underlying26 rfl rfl (aB (d:=29) rfl rfl (dA rfl rfl rfl (bF rfl rfl rfl (aE rfl rfl (bH (d:=38) rfl (fun hc=>absurd (of_decide_eq_true hc) (by exact fun h=>h rfl)) (fun hc=>?_)))))))))))))))))
 have hc:=of_decide_eq_false hc
 refine aB (d:=38) rfl rfl (aK (o':=6) dR rfl rfl rfl (aB (d:=38) rfl rfl (aR isAgg27 rfl (aH (hS.at_ 1 rfl) rfl) rfl (aB (d:=38) rfl rfl (cC underlying27 rfl rfl (aB (d:=38) rfl rfl (aK (o':=6) dR rfl rfl rfl (aB (d:=38) rfl rfl (aR isAgg27 rfl (aH (hS.at_ 0 rfl) rfl) rfl (aB (d:=38) rfl rfl (cC underlying27 rfl rfl (aB (d:=38) rfl rfl (dA rfl rfl rfl (bF rfl rfl rfl (aN (XF.thenN (bB rfl (fun hc=>absurd (of_decide_eq_true hc) (by exact fun h=>h rfl)) (fun hc=>?_))))))))))))))))))
 have hc:=of_decide_eq_false hc
 refine bI (XF.thenN (aM (aM (aQ (aC rfl rfl (aN (XF.thenN (bK (dQ (fun m l W=>∃ i:Nat,i≤fl∧m=fl - i∧l=[(2,.pointer (some ⟨B1,0,none⟩)),(3,.pointer (some ⟨B2,0,none⟩)),(5,.int .i64 (i:Int))]∧St w [(B2,[.int .i64 s2.tag,.int .i64 s2.dim,.slice s2.a s2.len s2.cap,.int .i64 st,.int .i64 sy,.slice fa2 fl fc2,.slice ta2 n tc2],29),(B1,[.int .i64 s1.tag,.int .i64 s1.dim,.slice s1.a s1.len s1.cap,.int .i64 st,.int .i64 sy,.slice fa1 fl fc1,.slice ta1 n tc1],29)] [] [] W) (fl - 0) ([(2,_),(3,_),(5,_)]) ⟨rfl,rfl,rfl,trivial⟩ (⟨0,Nat.zero_le _,rfl,rfl,hS.clear⟩) ?_)))))))))
 clear hS
 rintro m l W ⟨i,hi,rfl,rfl,hS⟩
 refine aM (aM (aQ (aE rfl rfl (aK (o':=5) eE rfl rfl rfl (aR isAgg26 rfl (aH (hS.at_ 1 rfl) rfl) rfl (cC underlying26 rfl rfl (cK rfl rfl rfl (aN (XF.thenN (bB rfl (fun hc=>?_) (fun hc=>?_)))))))))))
 ·have hc51:=of_decide_eq_true hc;clear hc
  have hk:i < fl:=by omega
  obtain ⟨b1,o1,y,rfl,hy,hyc⟩:=hf1.at1 (show i < fs.length by omega)
  obtain ⟨b2,o2,z,rfl,hz,hzc⟩:=hf2.at1 (show i < fs.length by omega)
  obtain rfl:y=z:=Option.some.inj (hy.symm.trans hz)
  have k1:=hS.old hyc
  have k2:=hS.old hzc
  refine bI (XF.thenN (aM (bK (aM (lQ (m:=11) cF hS (by kernel_rfl) (by kernel_rfl) rfl (cL 1 rfl 2 rfl rfl (fun w hw=>aV (o':=5) eE rfl rfl) rfl (bC 2 rfl 54 0 rfl rfl rfl (fun w hw=>aZ isAgg26 rfl ((aP hw 0).cell (Nat.zero_le _) (aH (hS.at_ 1 rfl) rfl))) rfl (cL 3 rfl 5 rfl rfl (fun w hw=>bA rfl) rfl (aL 4 rfl (isV _) (aI _) (rgV (li:=[(55,_),(56,_)]) rfl (aS rfl) ⟨aO 1 (aA rfl rfl rfl),aO 2 (aA rfl rfl rfl),trivial⟩ (fun w hw=>bG  underlying26 sizeOf3 rfl rfl rfl (by omega) rfl) (aG rfl)) (bC 5 rfl 57 3 rfl rfl rfl (fun w hw=>aZ isAgg3 rfl ((aP hw 0).cell (Nat.zero_le _) (k1))) rfl (cL 6 rfl 3 rfl rfl (fun w hw=>aV (o':=5) eE rfl rfl) rfl (bC 7 rfl 59 5 rfl rfl rfl (fun w hw=>aZ isAgg26 rfl ((aP hw 0).cell (Nat.zero_le _) (aH (hS.at_ 0 rfl) rfl))) rfl (cL 8 rfl 5 rfl rfl (fun w hw=>bA rfl) rfl (aL 9 rfl (isV _) (aI _) (rgV (li:=[(60,_),(61,_)]) rfl (aS rfl) ⟨aO 6 (aA rfl rfl rfl),aO 7 (aA rfl rfl rfl),trivial⟩ (fun w hw=>bG  underlying26 sizeOf3 rfl rfl rfl (by omega) rfl) (aG rfl)) (bC 10 rfl 62 8 rfl rfl rfl (fun w hw=>aZ isAgg3 rfl ((aP hw 0).cell (Nat.zero_le _) (k2))) rfl (aL 11 rfl (isV _) (aI _) (rgV (li:=[(58,_),(63,_)]) rfl (aS rfl) ⟨aO 4 (aA rfl rfl rfl),aO 9 (aA rfl rfl rfl),trivial⟩ (fun w hw=>Dc rfl rfl) (aG rfl)) (dW ?_)))))))))))))))))
  intro W4 hbR hS'
  clear hS;have hS:=hS';clear hS'
  refine aJ (aJ (aJ (aJ (aJ (aJ (aJ (aJ (aJ (aJ (aJ (cQ (XF.thenN (bB rfl (fun hc=>absurd hc (by simp)) (fun hc=>?_))))))))))))))
  skip
  refine bI (XF.blkN (XF.thenN (aQ (aE rfl rfl (cP rfl rfl (IntWalk.i64_in _ (by omega)) rfl (aC rfl rfl (aN ?_)))))))
  exact XF.round (fl - (i+1)) [(2,_),(3,_),(5,_)] (by omega) ⟨rfl,rfl,rfl,trivial⟩ ⟨i+1,by omega,rfl,rfl,hS.clear⟩
 ·have hc51:=of_decide_eq_false hc;clear hc
  refine dP (XF.thenX (XF.thenX (XF.blkX (XF.thenN (aM (aM (aQ (aC rfl rfl (aN (XF.thenN (bK (dQ (fun m l W=>∃ i:Nat,i≤n∧m=n - i∧l=[(2,.pointer (some ⟨B1,0,none⟩)),(3,.pointer (some ⟨B2,0,none⟩)),(6,.int .i64 (i:Int))]∧St w [(B2,[.int .i64 s2.tag,.int .i64 s2.dim,.slice s2.a s2.len s2.cap,.int .i64 st,.int .i64 sy,.slice fa2 fl fc2,.slice ta2 n tc2],29),(B1,[.int .i64 s1.tag,.int .i64 s1.dim,.slice s1.a s1.len s1.cap,.int .i64 st,.int .i64 sy,.slice fa1 fl fc1,.slice ta1 n tc1],29)] [] [] W) (n - 0) ([(2,_),(3,_),(6,_)]) ⟨rfl,rfl,rfl,trivial⟩ (⟨0,Nat.zero_le _,rfl,rfl,hS.clear⟩) ?_))))))))))))
  clear hS
  rintro m l W ⟨i,hi,rfl,rfl,hS⟩
  refine aM (aM (aQ (aE rfl rfl (aK (o':=6) dR rfl rfl rfl (aR isAgg27 rfl (aH (hS.at_ 1 rfl) rfl) rfl (cC underlying27 rfl rfl (cK rfl rfl rfl (aN (XF.thenN (bB rfl (fun hc=>?_) (fun hc=>?_)))))))))))
  ·have hc69:=of_decide_eq_true hc;clear hc
   have hk:i < n:=by omega
   obtain ⟨r,hr⟩:∃ r,ns[i]?=some r:=⟨ns[i]'(by omega),by simp [show i < ns.length by omega]⟩
   obtain ⟨q,hq,e1,e2,e3⟩:=pl_atM hpl hr
   obtain ⟨S,hS9⟩:∃ S,o=some S:=by
    cases o with
    | none=>rw [hno rfl] at hr;simp at hr
    | some S=>exact ⟨S,rfl⟩
   obtain ⟨x9,hx9⟩:∃ x,xs[i]?=some x:=⟨xs[i]'(by have:=(hx1 S hS9).1;omega),List.getElem?_eq_getElem _⟩
   have hxr:=((hx1 S hS9).2 i r x9 hr hx9).is (Below.refl _ _)
   have hxq:=((hx2 S hS9).2 i q x9 hq hx9).is (Below.refl _ _)
   obtain ⟨rb,ro,rfl,hcr⟩:=ht1 i r hr
   obtain ⟨qb,qo,rfl,hcq⟩:=ht2 i q hq
   obtain ⟨f1,g1,t1,x1⟩:=r
   obtain ⟨f2,g2,t2,x2⟩:=q
   dsimp only at e1 e2 e3 hxr hxq
   subst e1 e2 e3
   dsimp only [M9.nine] at hcr hcq
   refine bI (XF.thenN (aM (bK (aM (Tb (ef:=12) (jy:=4) (ca:=zO (fun a=>bif Nat.beq a 10 then [.int .i64 0,.int .i64 0,.int .i64 0,.bool false,.int .i64 0,.int .u64 0,.slice none 0 0,.slice none 0 0,.slice none 0 0] else [.int .i64 0,.int .i64 0,.int .i64 0,.bool false,.int .i64 0,.int .u64 0,.slice none 0 0,.slice none 0 0,.slice none 0 0]) 10) (ta:=fun a=>bif Nat.beq a 10 then 66 else 66) (Os:=Ew _) (Gs:=uJ _) (al:=[10,11]) (k:=13) (ds:=[]) cF rfl hS rfl (by kernel_rfl) (by kernel_rfl) rfl (by decide) rfl (some) (.inl ⟨rfl,rfl⟩) rfl rfl (aX 1 rfl rfl (isV _) (fun hNo=>sgV [(2,_)] rfl rfl rfl rfl hNo (aS rfl) ⟨cG rfl,trivial⟩ (fun ev w he hw=>aV (o':=6) dR rfl rfl) (aG rfl)) (aX 2 rfl rfl (isV _) (fun hNo=>sgV [(72,_)] rfl rfl rfl rfl hNo (aS rfl) ⟨aO 0 (aA rfl rfl rfl),trivial⟩ (fun ev w he hw=>aZ isAgg27 rfl ((aH (hw.at_ 1 rfl) rfl))) (aG rfl)) (aX 3 rfl rfl (isV _) (fun hNo=>sgV [(6,_)] rfl rfl rfl rfl hNo (aS rfl) ⟨cG rfl,trivial⟩ (fun ev w he hw=>bA rfl) (aG rfl)) (aX 4 rfl rfl (isV _) (fun hNo=>sgV [(73,_),(74,_)] rfl rfl rfl rfl hNo (aS rfl) ⟨aO 1 (aA rfl rfl rfl),aO 2 (aA rfl rfl rfl),trivial⟩ (fun ev w he hw=>bG  underlying27 sizeOf66 rfl rfl rfl (by omega) rfl) (aG rfl)) (aX 5 rfl rfl (isV _) (fun hNo=>sgV [(75,_)] rfl rfl rfl rfl hNo (aS rfl) ⟨aO 3 (aA rfl rfl rfl),trivial⟩ (fun ev w he hw=>bD (vs:=[_,_,_,_,_,_,_,_,_]) isAgg66 sizeOf66 rfl (aF.agree hw.agree (Nat.zero_le _) (hcr))) (aG rfl)) (aX 6 rfl rfl (isV _) (fun hNo=>sgV [(3,_)] rfl rfl rfl rfl hNo (aS rfl) ⟨cG rfl,trivial⟩ (fun ev w he hw=>aV (o':=6) dR rfl rfl) (aG rfl)) (aX 7 rfl rfl (isV _) (fun hNo=>sgV [(77,_)] rfl rfl rfl rfl hNo (aS rfl) ⟨aO 5 (aA rfl rfl rfl),trivial⟩ (fun ev w he hw=>aZ isAgg27 rfl ((aH (hw.at_ 0 rfl) rfl))) (aG rfl)) (aX 8 rfl rfl (isV _) (fun hNo=>sgV [(6,_)] rfl rfl rfl rfl hNo (aS rfl) ⟨cG rfl,trivial⟩ (fun ev w he hw=>bA rfl) (aG rfl)) (aX 9 rfl rfl (isV _) (fun hNo=>sgV [(78,_),(79,_)] rfl rfl rfl rfl hNo (aS rfl) ⟨aO 6 (aA rfl rfl rfl),aO 7 (aA rfl rfl rfl),trivial⟩ (fun ev w he hw=>bG  underlying27 sizeOf66 rfl rfl rfl (by omega) rfl) (aG rfl)) (aX 10 rfl rfl (isV _) (fun hNo=>sgV [(80,_)] rfl rfl rfl rfl hNo (aS rfl) ⟨aO 8 (aA rfl rfl rfl),trivial⟩ (fun ev w he hw=>bD (vs:=[_,_,_,_,_,_,_,_,_]) isAgg66 sizeOf66 rfl (aF.agree hw.agree (Nat.zero_le _) (hcq))) (aG rfl)) ?_)))))))))))))))
   refine pG 11 rfl (Hq rfl rfl rfl rfl rfl zeroValue66 (fun ev he=>by rw [he rfl];rfl)) ?_
   refine pG 12 rfl (Hq rfl rfl rfl rfl rfl zeroValue66 (fun ev he=>by cases ev<;>rfl)) ?_
   refine pG 13 rfl (eff_stA (py:=isV _) (m:=9) 10 rfl rfl rfl rfl (by kernel_rfl) rfl (by kernel_rfl) rfl rfl sizeOf66 rfl (fun v w e=>⟨[.int .i64 f2,.int .i64 g2,.int .i64 t2,.bool x1.z,.int .i64 x1.c,.int .u64 (x1.g:Int),.slice x1.ra x1.rl x1.rc,.slice x1.ca x1.cl x1.cc,.slice x1.pa x1.pl x1.pc],by rw [show v=_ from e];rfl,rfl,rfl⟩)) ?_
   refine nH ?_
   intro Bf5 y5 W5 Ks5 hsz5 hKs5 hS' hcov5
   clear hS;have hS:=hS'.castO (O':=[_,_,_,_]) rfl;clear hS'
   refine uL (L':=[AwS _ _ (isV _),AwS _ _ (isV _),AwS _ _ (isV _),AwS _ _ (isV _),(fun v0_ w0_=>v0_=_∧AwS _ _ (isV _) v0_ w0_),AwS _ _ (isV _),AwS _ _ (isV _),AwS _ _ (isV _),AwS _ _ (isV _),AwS _ _ (isV _),isV _,isV _,isV _]) rfl (bM (bM (bM (bM ?_))))
   refine dH ?_;rintro _ ⟨rfl,hA5⟩;have hA5:=hA5.here;cases hA5
   refine bM (bM (bM (bM (bM (aJ (aJ (Hr (cQ (aU (i:=1) (vs:=[_,_,_,_,_,_,_,_,_]) (cs':=[_,_,_,_,_,_,_,_,_]) (O':=[_,_,_,_]) hS sizeOf66 rfl rfl rfl rfl rfl rfl rfl fun W6 hS=>aN (XF.thenN (aM (aQ (aK (o':=0) pJ rfl rfl rfl (aR isAgg3 rfl (aH (hS.at_ 0 rfl) rfl) rfl (aK (o':=0) pJ rfl rfl rfl (aR isAgg3 rfl (aH (hS.at_ 1 rfl) rfl) rfl (dA rfl rfl rfl (aE rfl rfl (bH (d:=87) rfl (fun hc=>absurd (of_decide_eq_true hc) (by exact fun h=>h rfl)) (fun hc=>?_))))))))))))))))))))
   have hc:=of_decide_eq_false hc
   refine aB (d:=87) rfl rfl (aK (o':=1) iM rfl rfl rfl (aB (d:=87) rfl rfl (aR isAgg3 rfl (aH (hS.at_ 0 rfl) rfl) rfl (aB (d:=87) rfl rfl (aK (o':=1) iM rfl rfl rfl (aB (d:=87) rfl rfl (aR isAgg3 rfl (aH (hS.at_ 1 rfl) rfl) rfl (aB (d:=87) rfl rfl (dA rfl rfl rfl (bF rfl rfl rfl (aE rfl rfl (bH (d:=94) rfl (fun hc=>absurd (of_decide_eq_true hc) (by exact fun h=>h rfl)) (fun hc=>?_)))))))))))))
   have hc:=of_decide_eq_false hc
   refine aB (d:=94) rfl rfl (aK (o':=2) kE rfl rfl rfl (aB (d:=94) rfl rfl (aR isAgg3 rfl (aH (hS.at_ 0 rfl) rfl) rfl (aB (d:=94) rfl rfl (aK (o':=2) kE rfl rfl rfl (aB (d:=94) rfl rfl (aR isAgg3 rfl (aH (hS.at_ 1 rfl) rfl) rfl (aB (d:=94) rfl rfl (dA rfl rfl rfl (bF rfl rfl rfl (aE rfl rfl (bH (d:=101) rfl (fun hc=>absurd (of_decide_eq_true hc) (by exact fun h=>h rfl)) (fun hc=>?_)))))))))))))
   have hc:=of_decide_eq_false hc
   refine aB (d:=101) rfl rfl (aK (o':=3) nK rfl rfl rfl (aB (d:=101) rfl rfl (aT (vs:=[_,_,_,_,_,_]) isAgg44 sizeOf44 rfl (aF.own (j:=3) (m:=6) (hS.at_ 0 rfl) rfl) rfl (aB (d:=101) rfl rfl (aK (o':=3) nK rfl rfl rfl (aB (d:=101) rfl rfl (aT (vs:=[_,_,_,_,_,_]) isAgg44 sizeOf44 rfl (aF.own (j:=3) (m:=6) (hS.at_ 1 rfl) rfl) rfl (aB (d:=101) rfl rfl (cA (vs:=[_,_]) hS xF rfl (Lj (hxr.below hS.below) (hxq.below hS.below) true (by simp)) rfl fun W7 hS=>aB (d:=101) rfl rfl (eS rfl rfl (bF rfl rfl rfl (aN (XF.thenN (Fu rfl (bI (XF.blkN (XF.thenN (aQ (aE rfl rfl (cP rfl rfl (IntWalk.i64_in _ (by omega)) rfl ?_))))))))))))))))))))
   refine aC rfl rfl (aN ?_)
   exact XF.round (n - (i+1)) [(2,_),(3,_),(6,_)] (by omega) ⟨rfl,rfl,rfl,trivial⟩ ⟨i+1,by omega,rfl,rfl,hS.tail.tail.clear⟩
  ·have hc69:=of_decide_eq_false hc;clear hc
   refine dP (XF.thenX (XF.thenX (XF.blkX (XF.thenN (aM (aQ (aC rfl rfl (aN (XF.thenN (bL (XF.res (cE results14 rfl) ?_)))))))))))
   exact ⟨rfl,hS.below⟩
theorem Lm (d:DV) (w:World) (hdi:DIn w d) (hdk:DOk d) (wa:Option Addr) (wl wc:Nat) (ws:List Int) (hwa:Row w wa ws) (hwl:ws.length=wl) (hwm:wl≤9223372036854775807) (hq:∀ y∈ws,inQ y d.sy=true) :
  Calls prog 27 #[d.val,.slice wa wl wc] w (fun e w'=>e = .returned (.bool (d.bs.getD (gY d ws) false))∧Below w.heap.size w w'):=by
 refine cD (args:=[d.val,.slice wa wl wc]) func27 rfl ntmps27 rfl ?_
 have hS:=St.start w
 obtain ⟨dsy,na,nl,nc,ns,aa,al,ac,bs⟩:=d
 have hnr:Fh w na ns:=hdi.nrow
 have hnl:ns.length=nl:=hdi.nlen
 have hri:∀ r∈ns,Row w r.a r.xs∧r.xs.length=r.l∧r.l≤9223372036854775807:=hdi.rin
 have har:Hy w aa bs:=hdi.arow
 have hal:bs.length=al:=hdi.alen
 have hal2:al=nl:=hdk.al
 have hnlb:1≤nl∧nl≤1024:=hdk.nl
 refine aM (aQ (bY (cs:=[_,_,_]) hS rfl rfl rfl fun B1 W1 hS=>aC rfl rfl (aN (XF.thenN (aM (aQ (aC rfl rfl (aN (XF.thenN (aM (aM (aQ (aC rfl rfl (aN (XF.thenN (bK (dQ (fun m l W=>∃ (i k:Nat),i≤wl∧m=wl - i∧l=[(1,.slice wa wl wc),(2,.pointer (some ⟨B1,0,none⟩)),(5,.int .i64 (k:Int)),(6,.int .i64 (i:Int))]∧k < nl∧k=gY ⟨dsy,na,nl,nc,ns,aa,al,ac,bs⟩ (ws.take i)∧St w [(B1,[.int .i64 dsy,.slice na nl nc,.slice aa al ac],60)] [] [] W) (wl - 0) ([(1,_),(2,_),(5,_),(6,_)]) ⟨rfl,rfl,rfl,rfl,trivial⟩ (⟨0,0,Nat.zero_le _,rfl,rfl,by omega,rfl,hS.clear⟩) ?_)))))))))))))))))
 clear hS
 rintro m l W ⟨i,k,hi,rfl,rfl,hk0,hk,hS⟩
 refine aM (aM (aQ (aE rfl rfl (aE rfl rfl (cC underlying26 rfl rfl (cK rfl rfl rfl (aN (XF.thenN (bB rfl (fun hc=>?_) (fun hc=>?_))))))))))
 ·have hc10:=of_decide_eq_true hc;clear hc
  have hki:i < wl:=by omega
  obtain ⟨q,hq9⟩:∃ q,ns[k]?=some q:=⟨ns[k]'(by omega),by simp [show k < ns.length by omega]⟩
  obtain ⟨hqr,hql,hqm⟩:=hri q (List.mem_of_getElem? hq9)
  have hqd:=hdk.row k q hq9
  obtain ⟨nb,noff,rfl,hnc⟩:=hnr k q hq9
  obtain ⟨qa,ql,qc,xs⟩:=q
  dsimp only at hqr hql hqm hqd
  obtain ⟨b,off,y,rfl,hy,hyc⟩:=hwa.at1 (show i < ws.length by omega)
  have hyq:=hq y (List.mem_of_getElem? hy)
  obtain ⟨gN,rfl,hgN⟩:∃ g:Nat,y=(g:Int)∧(g:Int) < dsy:=by
   simp only [inQ,Bool.and_eq_true,decide_eq_true_eq] at hyq
   exact ⟨y.toNat,by omega,by omega⟩
  obtain ⟨zb,zo,z,rfl,hz,hzc⟩:=hqr.at1 (show gN < xs.length by omega)
  obtain ⟨zN,rfl,hzN⟩:=dV (hqd.2 z (List.mem_of_getElem? hz))
  have kn:=hS.old hnc
  have ky:=hS.old hyc
  have kz:=hS.old hzc
  have hrun:zN=gY ⟨dsy,some ⟨nb,noff,none⟩,nl,nc,ns,aa,al,ac,bs⟩ (ws.take (i+1)):=by
   rw [List.take_add_one,hy]
   show _=gY _ (ws.take i++[(gN:Int)])
   rw [Av,← hk]
   unfold Fi
   rw [Int.toNat_natCast]
   show zN=((((ns[k]?).map (fun (r:IV)=>r.xs)).getD []).getD gN 0).toNat
   rw [hq9]
   show zN=(xs.getD gN 0).toNat
   rw [nI hz,Int.toNat_natCast]
  refine bI (XF.thenN (aM (bK (regY (al:=[]) (G:=fun _=>[]) (E:=[]) (k:=9) (ds:=[5,22,23]) cF rfl hS rfl rfl (by kernel_rfl) (by kernel_rfl) rfl (by decide) rfl (kD 1 rfl (isV _) (syV kC [(2,_)] rfl rfl (fun _=>(aS rfl)) (fun _=>⟨cG rfl,trivial⟩) (fun s w hw=>aV (o':=1) iN rfl rfl) (aG rfl)) (kD 2 rfl (isV _) (syV kC [(13,_)] rfl rfl (fun _=>(aS rfl)) (fun _=>⟨aO 0 (Ke rfl rfl (aA rfl rfl rfl)),trivial⟩) (fun s w hw=>aZ isAgg57 rfl ((aH (hw.at_ 0 rfl) rfl))) (aG rfl)) (kD 3 rfl (isV _) (syV kC [(5,_)] rfl rfl (fun _=>(aS rfl)) (fun _=>⟨cG rfl,trivial⟩) (fun s w hw=>bA rfl) (aG rfl)) (kD 4 rfl (isV _) (syV kC [(14,_),(15,_)] rfl rfl (fun _=>(aS rfl)) (fun _=>⟨aO 1 (Ke rfl rfl (aA rfl rfl rfl)),aO 2 (Ke rfl rfl (aA rfl rfl rfl)),trivial⟩) (fun s w hw=>bG  underlying57 sizeOf26 rfl rfl rfl (by omega) rfl) (aG rfl)) (kD 5 rfl (isV _) (syV kC [(16,_)] rfl rfl (fun _=>(aS rfl)) (fun _=>⟨aO 3 (Ke rfl rfl (aA rfl rfl rfl)),trivial⟩) (fun s w hw=>aZ isAgg26 rfl (hw.agree.cell (Nat.zero_le _) (hnc))) (aG rfl)) (kD 6 rfl (isV _) (syV kC [(1,_)] rfl rfl (fun _=>(aS rfl)) (fun _=>⟨cG rfl,trivial⟩) (fun s w hw=>bA rfl) (aG rfl)) (kD 7 rfl (isV _) (syV kC [(6,_)] rfl rfl (fun _=>(aS rfl)) (fun _=>⟨cG rfl,trivial⟩) (fun s w hw=>bA rfl) (aG rfl)) (kD 8 rfl (isV _) (syV kC [(18,_),(19,_)] rfl rfl (fun _=>(aS rfl)) (fun _=>⟨aO 5 (Ke rfl rfl (aA rfl rfl rfl)),aO 6 (Ke rfl rfl (aA rfl rfl rfl)),trivial⟩) (fun s w hw=>bG  underlying26 sizeOf3 rfl rfl rfl (by omega) rfl) (aG rfl)) (kD 9 rfl (isV _) (syV kC [(20,_)] rfl rfl (fun _=>(aS rfl)) (fun _=>⟨aO 7 (Ke rfl rfl (aA rfl rfl rfl)),trivial⟩) (fun s w hw=>aZ isAgg3 rfl (hw.agree.cell (Nat.zero_le _) (hyc))) (aG rfl)) (bly_nil ?_))))))))))))))
  intro s2 W2 Ks2 hall2 hsz2 hKs2 hS' hcov2 hfx2 hno2
  clear hS;have hS:=hS'.castO (O':=[_]) rfl;clear hS'
  refine uL (L':=[AwS _ _ (isV _),AwS _ _ (isV _),AwS _ _ (isV _),AwS _ _ (isV _),AwS _ _ (isV _),AwS _ _ (isV _),AwS _ _ (isV _),AwS _ _ (isV _),AwS _ _ (isV _)]) rfl (bM (bM (bM (bM (bM (bM (bM (bM (bM (cQ ?_))))))))))
  refine bZ  underlying26 sizeOf3 rfl rfl rfl (by dsimp only;omega) rfl rfl ?_
  refine aR isAgg3 rfl (by first | assumption | exact hS.old (by assumption)) rfl (aC rfl rfl (aN (XF.blkN (XF.thenN (aQ (aE rfl rfl (cP rfl rfl (IntWalk.i64_in _ (by omega)) rfl (aC rfl rfl (aN ?_)))))))))
  exact XF.round (wl - (i+1)) [(1,_),(2,_),(5,_),(6,_)] (by omega) ⟨rfl,rfl,rfl,rfl,trivial⟩ ⟨i+1,zN,by omega,rfl,rfl,hzN,hrun,hS.clear⟩
 ·have hc10:=of_decide_eq_false hc;clear hc
  rw [List.take_of_length_le (by omega)] at hk
  obtain ⟨v,hv⟩:∃ v,bs[k]?=some v:=⟨bs[k]'(by omega),List.getElem?_eq_getElem _⟩
  obtain ⟨vb,vo,rfl,hvc⟩:=har k v hv
  have kv:=hS.old hvc
  have hvd:bs.getD k false=v:=by rw [List.getD_eq_getElem?_getD,hv];rfl
  refine dP (XF.thenX (XF.thenX (XF.blkX (XF.thenN (aM (aQ (aK (o':=2) pN rfl rfl rfl (aR isAgg58 rfl (aH (hS.at_ 0 rfl) rfl) rfl (aE rfl rfl (bZ  underlying58 sizeOf4 rfl rfl rfl (by omega) rfl rfl (aR isAgg4 rfl (kv) rfl (aC rfl rfl (aN (XF.thenN (bL (XF.res (cE results27 rfl) ?_))))))))))))))))
  exact ⟨bT (by rw [← hk];exact hvd.symm),hS.below⟩
theorem auto_ex {w:World} {ds d:Nat} {a:AV} (hin:AIn w ds d a):∃ S py n,dD a=0→AutoOk w S py n a:=by
 by_cases h1:dD a=0
 ·obtain ⟨S,py,n,h⟩:=Qe hin h1
  exact ⟨S,py,n,fun _=>h⟩
 ·exact ⟨.one 1 0,fun _=>.one dC,0,fun h=>absurd h h1⟩
def wG (S:PS) (py:TV→PX) (a:AV) (d:DV) (M:World→Prop) (sq:SF) (st9 sy9:Int) (fa2:Option Addr) (fl2 fc2:Nat) (ta2:Option Addr) (tl2 tc2:Nat) (ms:List M9):Prop :=
 (eO a d=0→st9=a.st * (d.nl:Int)∧sy9=a.sy∧fl2=(mFs d a.fs).length∧tl2=ms.length∧∀ W2,M W2→AuG (some S) (mPl d a.ts) (mXs py d.nl a.ts) (mFs d a.fs) W2 sq fa2 ta2 ms) ∧
  (eO a d≠0→sq=⟨0,0,none,0,0⟩∧st9=0∧sy9=0∧fa2=none∧fl2=0∧fc2=0∧ta2=none∧tl2=0∧tc2=0∧ms=[])
theorem wG.mono {S:PS} {py:TV→PX} {a:AV} {d:DV} {M M':World→Prop} {sq:SF} {st9 sy9:Int} {fa2:Option Addr} {fl2 fc2:Nat} {ta2:Option Addr} {tl2 tc2:Nat} {ms:List M9} (h:wG S py a d M sq st9 sy9 fa2 fl2 fc2 ta2 tl2 tc2 ms) (hm:∀ W,M' W→M W):wG S py a d M' sq st9 sy9 fa2 fl2 fc2 ta2 tl2 tc2 ms :=
 ⟨fun h0=>⟨(h.1 h0).1,(h.1 h0).2.1,(h.1 h0).2.2.1,(h.1 h0).2.2.2.1,fun W2 h2=>(h.1 h0).2.2.2.2 W2 (hm W2 h2)⟩,h.2⟩
theorem Uu {S:PS} {py:TV→PX} {a:AV} {d:DV} {w w':World} {e:Ending} (h:Ug S py a d w e w'):∃ (sq:SF) (st9 sy9:Int) (fa2:Option Addr) (fl2 fc2:Nat) (ta2:Option Addr) (tl2 tc2:Nat) (ms:List M9),e = .returned (.tuple #[.agg #[.int .i64 sq.tag,.int .i64 sq.dim,.slice sq.a sq.len sq.cap,.int .i64 st9,.int .i64 sy9,.slice fa2 fl2 fc2,.slice ta2 tl2 tc2],.int .i64 (eO a d)])∧wG S py a d (fun W2=>Below w.heap.size w W2∧dG w.heap.size w' W2) sq st9 sy9 fa2 fl2 fc2 ta2 tl2 tc2 ms∧Below w.heap.size w w':=by
 obtain ⟨hb,⟨rfl,hne⟩ | ⟨h0,sq,fa2,ta2,fc2,tc2,ms,rfl,hG⟩⟩:=h
 ·exact ⟨⟨0,0,none,0,0⟩,0,0,none,0,0,none,0,0,[],rfl,⟨fun h=>absurd h hne,fun _=>⟨rfl,rfl,rfl,rfl,rfl,rfl,rfl,rfl,rfl,rfl⟩⟩,hb⟩
 ·exact ⟨sq,_,_,fa2,_,fc2,ta2,_,tc2,ms,by rw [h0],⟨fun _=>⟨rfl,rfl,rfl,rfl,fun W2 hW=>hG W2 hW.1 hW.2⟩,fun h=>absurd h0 h⟩,hb⟩
theorem sameMt {S:PS} {py:TV→PX} {a:AV} {d:DV} {M1 M2:World→Prop} {q1 q2:SF} {u1 u2 y1 y2:Int} {f1 f2:Option Addr} {l1 l2 c1 c2:Nat} {t1 t2:Option Addr} {m1 m2 k1 k2:Nat} {ns ms:List M9} {w w0:World} {n:Nat} (h1:wG S py a d M1 q1 u1 y1 f1 l1 c1 t1 m1 k1 ns) (h2:wG S py a d M2 q2 u2 y2 f2 l2 c2 t2 m2 k2 ms) (hA:dD a=0→AutoOk w0 S py n a) (hw1:M1 w) (hw2:M2 w) :
  Calls prog 14 #[.agg #[.int .i64 q1.tag,.int .i64 q1.dim,.slice q1.a q1.len q1.cap,.int .i64 u1,.int .i64 y1,.slice f1 l1 c1,.slice t1 m1 k1],.agg #[.int .i64 q2.tag,.int .i64 q2.dim,.slice q2.a q2.len q2.cap,.int .i64 u2,.int .i64 y2,.slice f2 l2 c2,.slice t2 m2 k2]] w fun e w'=>e = .returned (.bool true)∧Below w.heap.size w w':=by
 by_cases h0:eO a d=0
 ·obtain ⟨rfl,rfl,rfl,rfl,g1⟩:=h1.1 h0
  obtain ⟨rfl,rfl,rfl,e4,g2⟩:=h2.1 h0
  have k1:=g1 w hw1
  have k2:=g2 w hw2
  obtain ⟨hEa,hEd,_,hl1,hl2⟩:=tK h0
  have hd:=Ar hEd
  have hA9:=hA hEa
  have hfin:=sA hEa
  have e5:ns.length=ms.length:=by
   have h8:=congrArg List.length (k1.pl.trans k2.pl.symm)
   rw [List.length_map,List.length_map] at h8
   exact h8
  have e6:ns.length=(mPl d a.ts).length:=by rw [← k1.pl,List.length_map]
  subst e4
  rw [← e5]
  refine Ax (some S) _ _ _ q1 q2 _ _ f1 f2 t1 t2 _ c1 c2 _ _ _ ns ms w k1 k2 rfl rfl ?_ ?_
  ·have g3:=xR d a.fs
   have g4:=vD hfin.1
   have g5:a.fs.length * d.nl≤4096 * 1024:=Nat.mul_le_mul (by omega) hd.nl.2
   omega
  ·rw [e6,xQ,hA9.tlen]
   omega
 ·obtain ⟨rfl,rfl,rfl,rfl,rfl,rfl,rfl,rfl,rfl,rfl⟩:=h1.2 h0
  obtain ⟨rfl,rfl,rfl,rfl,rfl,rfl,rfl,rfl,rfl,rfl⟩:=h2.2 h0
  exact Ax none [] [] [] ⟨0,0,none,0,0⟩ ⟨0,0,none,0,0⟩ 0 0 none none none none 0 0 0 0 0 0 [] [] w (It w _ _) (It w _ _) rfl rfl (by decide) (by decide)
theorem mFs_nat {d:DV} {fs:List Int} (hf:∀ s∈fs,0≤s) (Q:Nat):Q∈(mFs d fs).map Int.toNat↔∃ s∈fs.map Int.toNat,∃ j,j < d.nl∧d.bs.getD j false=true∧Q=s * d.nl+j:=by
 constructor
 ·intro h
  obtain ⟨y,hy,rfl⟩:=List.mem_map.1 h
  obtain ⟨s,hs,j,hj,hb,rfl⟩:=Fl.1 hy
  obtain ⟨k,rfl⟩:∃ k:Nat,s=(k:Int):=⟨s.toNat,by have:=hf s hs;omega⟩
  exact ⟨k,List.mem_map.2 ⟨_,hs,by simp⟩,j,hj,hb,by rw [← Int.natCast_mul,← Int.natCast_add,Int.toNat_natCast]⟩
 ·rintro ⟨s,hs,j,hj,hb,rfl⟩
  obtain ⟨y,hy,rfl⟩:=List.mem_map.1 hs
  obtain ⟨k,rfl⟩:∃ k:Nat,y=(k:Int):=⟨y.toNat,by have:=hf y hy;omega⟩
  refine List.mem_map.2 ⟨(k:Int) * (d.nl:Int)+(j:Int),Fl.2 ⟨_,hy,j,hj,hb,rfl⟩,?_⟩
  rw [← Int.natCast_mul,← Int.natCast_add,Int.toNat_natCast,Int.toNat_natCast]
theorem Uv {W:World} {S:PS} {py py':TV→PX} {n:Nat} {a x:AV} {d:DV} {sq:SF} {fa2 ta2:Option Addr} {fc2 tc2 m:Nat} (hA:AutoOk W S py n a) (hdi:DIn W d) (hd:DOk d) (hsy:d.sy=a.sy) (hX:MeetX W S py n a d sq fa2 ta2 fc2 tc2 m x py') {bk:Bool} {p:Nat} {ws:List Int} {z z2:PX} (h1:LubX S (tI S bk (egsX kSym py a.ts) (a.fs.map Int.toNat) p ws) z) (h2:LubX S (tI S bk (egsX kSym py' x.ts) (x.fs.map Int.toNat) (p * d.nl) ws) z2):z2=if d.bs.getD (gY d ws) false=true then z else bW S:=by
 have hlen:∀ r∈d.ns,r.xs.length=r.l:=fun r hr=>(hdi.rin r hr).2.1
 have hkk:∀ t∈a.ts,∀ k,k < d.nl→∃ j:Nat,toK d t.g k=(j:Int)∧j < d.nl:=fun t ht k hk=>Un (n:=n) hd hk hdi.nlen hlen (by rw [hsy];exact (hA.tg t ht).2)
 have hacc:∀ y,tI S bk (egsX kSym py' x.ts) (x.fs.map Int.toNat) (p * d.nl) ws y↔d.bs.getD (gY d ws) false=true∧tI S bk (egsX kSym py a.ts) (a.fs.map Int.toNat) p ws y:=fun y=>by
  rw [hX.fs]
  exact Up (by have:=hd.nl;omega) hX.e1 hX.e2 (fun t ht=>(hA.tg t ht).1) hkk (mFs_nat fun s hs=>by obtain ⟨k,hk,_⟩:=dV (hA.fq s hs);omega)
 have hAE:=Fc (b:=bk) (F:=a.fs.map Int.toNat) (p:=p) (u:=ws) hA.ok (Ff (kf:=kSym) hA.py)
 by_cases hb:d.bs.getD (gY d ws) false=true
 ·rw [if_pos hb]
  exact LubX.uniq hA.ok hAE (h2.of fun y=>(hacc y).trans ⟨fun h=>h.2,fun h=>⟨hb,h⟩⟩) h1
 ·rw [if_neg hb]
  have h9:∀ y,¬ tI S bk (egsX kSym py' x.ts) (x.fs.map Int.toNat) (p * d.nl) ws y:=fun y hy=>hb ((hacc y).1 hy).1
  exact LubX.uniq hA.ok (fun y hy=>absurd hy (h9 y)) h2 (LubX.none h9)
theorem Nm:bP prog 57=true:=by kernel_rfl
theorem Ln (S:PS) (a:AV) (f0:WF) (bk:Bool) (bm VA VX RB IA WA n:Nat) (va:Value) (fs:List WF) (p:Nat) (Ot:Own) (Gt:cU) (K:List (Nat×World)) (w0:World) (lo:Nat) (py:TV→PX) (kf:TV→Int×Int) (w:World) (hS0:St w0 ((RB,rdC f0 a bk bm VA VX,109)::(VA,gT va n IA WA,139)::(IA,inC S (List.replicate n (bW S)),4)::(WA,wC fs,44)::Ot) (⟨va,([]:List Nat).length,atC ([]:List Nat),3,1⟩::Gt) K w) (hV:VecOk S w0 K n fs (List.replicate n (bW S)) []) (hn:n≤4096) (hp:p < n) (hM:pL w0 K kf lo a.ts bm) (htrow:pU w0 a.ta a.ts) (htlen:a.ts.length=a.tl) (htm:a.tl≤65536) (htq:∀ t∈a.ts,inQ t.t (n:Int)=true) (hpy:∀ t∈a.ts,XIs w0 S t.x.f (py t)) (hkf:∀ t∈a.ts,∃ s:Nat,(kf t).1=(s:Int)∧s < n) (hht:Hi S≤4194304) (hsi:SIs w0 S a.s.f) (hok:S.ok) (ht:Tabs w0) (H0:jF w0 K (fun W=>XIs W S f0 (bW S))) :
  Calls prog 55 #[.pointer (some ⟨RB,0,none⟩),.int .i64 (p:Int)] w (fun e w'=>∃ (u:Value) (l':List Nat) (fs':List WF) (xs':List PX) (Kn:List (Nat×World)),e = .returned (.tuple #[])∧(∀ q∈K,q∈Kn)∧VecOk S w0 Kn n fs' xs' l'∧Eps S bk (egsX kf py a.ts) ((List.replicate n (bW S)).set p (oE S)) xs'∧wD S bk (egsX kf py a.ts) xs'∧St w0 ((RB,rdC f0 a bk bm VA VX,109)::(VA,gT u n IA WA,139)::(IA,inC S xs',4)::(WA,wC fs',44)::Ot) (⟨u,l'.length,atC l',3,1⟩::Gt) Kn w'):=by
 refine cD (args:=[.pointer (some ⟨RB,0,none⟩),.int .i64 (p:Int)]) func55 rfl ntmps55 rfl ?_
 have hS:=hS0
 refine aM (Tb (ef:=12) (jy:=12) (ca:=qY (fun _=>[])) (ta:=fun _=>0) (Os:=Ew _) (Gs:=uJ _) (al:=[]) (k:=11) (ds:=[15]) cF rfl hS rfl (by kernel_rfl) (by kernel_rfl) rfl (by decide) rfl (fun _=>none) (.inr ⟨rfl,rfl,rfl⟩) rfl rfl (aX 1 rfl rfl (isV _) (fun hNo=>sgV [(0,_)] rfl rfl rfl rfl hNo (aS rfl) ⟨cG rfl,trivial⟩ (fun ev w he hw=>bA rfl) (aG rfl)) (aX 2 rfl rfl (isV _) (fun hNo=>sgV [(0,_)] rfl rfl rfl rfl hNo (aS rfl) ⟨cG rfl,trivial⟩ (fun ev w he hw=>bA rfl) (aG rfl)) (aX 3 rfl rfl (isV _) (fun hNo=>sgV [(5,_)] rfl rfl rfl rfl hNo (aS rfl) ⟨aO 1 (aA rfl rfl rfl),trivial⟩ (fun ev w he hw=>cT rfl) (aG rfl)) (aX 4 rfl rfl (isV _) (fun hNo=>sgV [(6,_)] rfl rfl rfl rfl hNo (aS rfl) ⟨aO 2 (aA rfl rfl rfl),trivial⟩ (fun ev w he hw=>aV (o':=18) kH rfl rfl) (aG rfl)) (aX 5 rfl rfl (isV _) (fun hNo=>sgV [(7,_)] rfl rfl rfl rfl hNo (aS rfl) ⟨aO 3 (aA rfl rfl rfl),trivial⟩ (fun ev w he hw=>aZ isAgg107 rfl ((aH (hw.at_ 0 rfl) rfl))) (aG rfl)) (aX 6 rfl rfl (isV _) (fun hNo=>sgV [(1,_)] rfl rfl rfl rfl hNo (aS rfl) ⟨cG rfl,trivial⟩ (fun ev w he hw=>bA rfl) (aG rfl)) (aX 7 rfl rfl (isV _) (fun hNo=>sgV [(0,_)] rfl rfl rfl rfl hNo (aS rfl) ⟨cG rfl,trivial⟩ (fun ev w he hw=>bA rfl) (aG rfl)) (aX 8 rfl rfl (isV _) (fun hNo=>sgV [(10,_)] rfl rfl rfl rfl hNo (aS rfl) ⟨aO 6 (aA rfl rfl rfl),trivial⟩ (fun ev w he hw=>cT rfl) (aG rfl)) (aX 9 rfl rfl (isV _) (fun hNo=>sgV [(11,_)] rfl rfl rfl rfl hNo (aS rfl) ⟨aO 7 (aA rfl rfl rfl),trivial⟩ (fun ev w he hw=>aV (o':=0) mS rfl rfl) (aG rfl)) (aX 10 rfl rfl (isV _) (fun hNo=>sgV [(12,_)] rfl rfl rfl rfl hNo (aS rfl) ⟨aO 8 (aA rfl rfl rfl),trivial⟩ (fun ev w he hw=>bD (vs:=[_,_,_,_,_,_,_,_,_]) isAgg76 sizeOf76 rfl ((aF.own (j:=0) (m:=9) (hw.at_ 0 rfl) rfl))) (aG rfl)) ?_)))))))))))
 refine aX 11 rfl rfl (dL w.heap.size S (oE S)) (fun hNo=>xM [isV _] rfl rfl rfl rfl hNo goes_65 (aS rfl) ⟨cH (aO 9 (aA rfl rfl rfl)),trivial⟩ (fun vs ev w' he hSt hlo hh=>by have e:=cI (us:=[_]) hh;subst e;exact mR hlo (Kf S a.s.f f0 w' (hsi.below hSt.below) hok)) (aG rfl)) ?_
 refine nH ?_
 intro Bf1 y1 W1 Ks1 hsz1 hKs1 hS' hcov1
 clear hS;have hS:=hS'.castO (O':=(_::_::_::_::Ot)) rfl;clear hS'
 refine uL (L':=[AwS _ _ (isV _),AwS _ _ (isV _),AwS _ _ (isV _),AwS _ _ (isV _),AwS _ _ (isV _),AwS _ _ (isV _),AwS _ _ (isV _),AwS _ _ (isV _),AwS _ _ (isV _),AwS _ _ (isV _),AwS _ _ (dL w.heap.size S (oE S))]) rfl (bM (bM (bM (bM (bM (bM (bM (bM (bM (bM ?_))))))))))
 refine dH ?_;rintro vP h8p;obtain ⟨f9,rfl,hn9⟩:=h8p.here
 have HX9:jF w0 (Ks1++K) (fun W2=>XIs W2 S f9 (oE S)):=fun h2 hk=>(newS hn9 h8p (hcov1 h2 (fun q hq=>hk q (List.mem_append_left _ hq))) (Nat.le_refl _)).is
 obtain ⟨K8,hK8⟩:∃ x,x=Ks1++K:=⟨_,rfl⟩
 have hK98:∀ q∈K,q∈K8:=fun q hq=>by rw [hK8];exact List.mem_append_right _ hq
 rw [← hK8] at HX9 hS
 refine cQ (jA (vs:=[_,_,_,_]) Fb rfl (Af S a f0 bk bm VA VX RB VA IA WA n va fs (List.replicate n (bW S)) [] Ot Gt K8 K8 w0 p f9 (oE S) (bW S) _ hS (fun q hq=>hq) (hV.more hK98) hn hp (by rw [List.getElem?_replicate,if_pos hp]) hsi hok ht (H0.more hK98) HX9 (pA hok)) rfl ?_)
 rintro e W9 ⟨u8,l8,fs8,Kw8,rfl,_,hV8,hl8,hS8⟩
 rw [mM (pA hok)] at hV8 hS8
 obtain ⟨Kn8,hKn8⟩:∃ x,x=Kw8++K8:=⟨_,rfl⟩
 rw [← hKn8] at hV8 hS8
 have hsub8:∀ q∈K,q∈Kn8:=fun q hq=>by rw [hKn8];exact List.mem_append_right _ (hK98 q hq)
 refine ⟨_,rfl,?_⟩
 clear hS;have hS:=hS8;clear hS8
 refine aN (XF.thenN (aQ (aE rfl rfl (jA (vs:=[_]) Nm rfl (wT S a f0 bk bm VA VX RB IA WA n u8 fs8 ((List.replicate n (bW S)).set p (oE S)) l8 Ot Gt Kn8 w0 lo py kf _ hS hV8 hn (hM.more hsub8) htrow htlen htm htq hpy hkf hht hsi hok ht (H0.more hsub8)) rfl ?_))))
 rintro e W10 ⟨u9,l9,fs9,xs9,Kn9,rfl,hsub9,hV9,hE9,hC9,hS9⟩
 refine ⟨_,rfl,?_⟩
 clear hS;have hS:=hS9;clear hS9
 refine aN (XF.resN (Nq results55) ?_)
 exact ⟨u9,l9,fs9,xs9,Kn9,rfl,(fun q hq=>hsub9 q (hsub8 q hq)),hV9,hE9,hC9,hS⟩
theorem Iz (ds d:Nat) (s:SV) (st sy:Int) (fa:Option Addr) (fl fc:Nat) (fs:List Int) (ta:Option Addr) (tl tc:Nat) (ts:List TV) (w:World) (hs:SIn w ds s) (hfrow:Row w fa fs) (hflen:fs.length=fl) (htrow:pU w ta ts) (htlen:ts.length=tl) (htin:∀ t∈ts,WIn w d t.x) (hfm:fl≤9223372036854775807) (htm:tl≤9223372036854775807) (ra:Option Addr) (rl rc:Nat) (fr:List Int) (hra:Row w ra fr) (hrl:fr.length=rl) (hrm:rl≤9223372036854775807) :
  Calls prog 52 #[.agg #[.int .i64 s.f.tag,.int .i64 s.f.dim,.slice s.f.a s.f.len s.f.cap,.int .i64 st,.int .i64 sy,.slice fa fl fc,.slice ta tl tc],.slice ra rl rc] w (fun e w'=>e = .returned (.int .i64 (jG ⟨s,st,sy,fa,fl,fc,fs,ta,tl,tc,ts⟩ fr []))∧Below w.heap.size w w'):=by
 refine cD (args:=[.agg #[.int .i64 s.f.tag,.int .i64 s.f.dim,.slice s.f.a s.f.len s.f.cap,.int .i64 st,.int .i64 sy,.slice fa fl fc,.slice ta tl tc],.slice ra rl rc]) func52 rfl ntmps52 rfl ?_
 have hS:=St.start w
 refine aM (aQ (bY (cs:=[_,_,_,_,_,_,_]) hS rfl rfl rfl fun B1 W1 hS=>aC rfl rfl (aN (XF.thenN (aM (aM (aQ (aT (vs:=[_,_,_,_,_,_,_]) isAgg29 sizeOf29 rfl (aF.own (j:=0) (m:=7) (hS.at_ 0 rfl) rfl) rfl (cA (vs:=[_]) hS Tm rfl (H5 ds d ⟨s,st,sy,fa,fl,fc,fs,ta,tl,tc,ts⟩ _ (AIn.below ⟨hs,hfrow,hflen,htrow,htlen,htin,hfm,htm⟩ hS.below)) rfl fun W2 hS=>aC rfl rfl (aN (XF.thenN (aM (aQ (aE rfl rfl (dA rfl rfl rfl (aN (XF.thenN (bB rfl (fun hc=>?_) (fun hc=>?_)))))))))))))))))))
 ·have hc11:=of_decide_eq_true hc;clear hc
  refine aM (aQ (aE rfl rfl (aC rfl rfl (aN (XF.thenN (bL (XF.thenR (XF.res (cE results52 rfl) ?_))))))))
  exact ⟨dM (by unfold jG;rw [if_pos hc11]),hS.below⟩
 ·have hc11:=of_decide_eq_false hc;clear hc
  have h0:¬ dD ⟨s,st,sy,fa,fl,fc,fs,ta,tl,tc,ts⟩≠0:=hc11
  refine bI (XF.thenN (aM (aM (aQ (aE rfl rfl (cC underlying26 rfl rfl (aE rfl rfl (aN (XF.thenN (bK (dQ (fun m l W=>∃ i:Nat,i≤rl∧m=rl - i∧l=[(2,.pointer (some ⟨B1,0,none⟩)),(13,.slice ra rl rc),(14,.int .i64 (rl:Int)),(15,.int .i64 (i:Int))]∧(fr.take i).all (fun y=>inQ y st)=true∧St w [(B1,[.int .i64 s.f.tag,.int .i64 s.f.dim,.slice s.f.a s.f.len s.f.cap,.int .i64 st,.int .i64 sy,.slice fa fl fc,.slice ta tl tc],29)] [] [] W) (rl - 0) ([(2,_),(13,_),(14,_),(15,_)]) ⟨rfl,rfl,rfl,rfl,trivial⟩ (⟨0,Nat.zero_le _,rfl,rfl,rfl,hS.clear⟩) ?_)))))))))))
  clear hS
  rintro m l W ⟨i,hi,rfl,rfl,hall,hS⟩
  refine aM (aQ (cK rfl rfl rfl (aN (XF.thenN (aM (bB rfl (fun hc=>?_) (fun hc=>?_)))))))
  ·have hc16:=of_decide_eq_true hc;clear hc
   have hk:i < rl:=by omega
   obtain ⟨b,off,y,rfl,hy,hyc⟩:=hra.at1 (show i < fr.length by omega)
   have k1:=hS.old hyc
   refine bI (XF.thenN (aM (bK (aM (aQ (bZ  underlying26 sizeOf3 rfl rfl rfl (by omega) rfl rfl (aR isAgg3 rfl (k1) rfl (aC rfl rfl (aN (XF.thenN (aM (aQ (aT (vs:=[_,_,_,_,_,_,_]) isAgg29 sizeOf29 rfl (aF.own (j:=0) (m:=7) (hS.at_ 0 rfl) rfl) rfl (aE rfl rfl (cA (vs:=[_,_]) hS xP rfl (uS ⟨s,st,sy,fa,fl,fc,fs,ta,tl,tc,ts⟩ y _) rfl fun W3 hS=>eS rfl rfl (aN (XF.thenN (bB rfl (fun hc=>?_) (fun hc=>?_)))))))))))))))))))
   ·have hc22:=hc;clear hc
    refine aM (aQ (aC rfl rfl (aN (XF.thenN (bL (XF.blkR (XF.thenR (XF.thenR (XF.blkR (XF.thenR (XF.res (cE results52 rfl) ?_)))))))))))
    exact ⟨dM (by unfold jG;rw [if_neg h0,if_neg (by rw [cJ hy (by have h9:=hc22;simpa using h9)];decide)]),hS.below⟩
   ·have hc22:=hc;clear hc
    refine bI (XF.blkN (XF.thenN (aQ (cP rfl rfl (IntWalk.i64_in _ (by omega)) rfl (aE rfl rfl (aN ?_))))))
    exact XF.round (rl - (i+1)) [(2,_),(13,_),(14,_),(15,_)] (by omega) ⟨rfl,rfl,rfl,rfl,trivial⟩ ⟨i+1,by omega,rfl,rfl,eC hy hall (by have h9:=hc22;simpa using h9),hS.clear⟩
  ·have hc16:=of_decide_eq_false hc;clear hc
   rw [List.take_of_length_le (by omega)] at hall
   refine dP (XF.thenX (XF.thenX (XF.blkX (XF.thenN (aM (aQ (aC rfl rfl (aN (XF.thenN (bL (XF.res (cE results52 rfl) ?_)))))))))))
   exact ⟨dM (by unfold jG;rw [if_neg h0,if_pos hall,if_pos (show ([]:List Int).all _=true from rfl)]),hS.below⟩
theorem vE (ds d:Nat) (a:AV) (w:World) (h:AIn w ds d a) (ra:Option Addr) (rl rc:Nat) (fr:List Int) (hra:Row w ra fr) (hrl:fr.length=rl) (hrm:rl≤9223372036854775807):Calls prog 52 #[a.val,.slice ra rl rc] w (fun e w'=>e = .returned (.int .i64 (jG a fr []))∧Below w.heap.size w w'):=Iz ds d _ _ _ _ _ _ _ _ _ _ _ w h.s h.frow h.flen h.trow h.tlen h.tin h.fmax h.tmax ra rl rc fr hra hrl hrm
theorem Nn:bP prog 52=true:=by kernel_rfl
theorem goes_53:bP prog 53=true:=by kernel_rfl
theorem goes_54:bP prog 54=true:=by kernel_rfl
theorem goes_55:bP prog 55=true:=by kernel_rfl
theorem goes_56:bP prog 56=true:=by kernel_rfl
theorem goes_58:bP prog 58=true:=by kernel_rfl
theorem Uw {S:PS} {n:Nat}:inC S (List.replicate n (bW S))=List.replicate n (Value.bool false):=by simp [inC,kU.2 rfl]
theorem wH (ds d:Nat) (a:AV) (S:PS) (py:TV→PX) (n:Nat) (bk:Bool) (p:Nat) (w:World) (hin:AIn w ds d a) (hA:AutoOk w S py n a) (hp:p < n) (wa:Option Addr) (wl wc:Nat) (ws:List Int) (hwa:Row w wa ws) (hwl:ws.length=wl) (hwm:wl≤9223372036854775807) (hask:jG a [(p:Int)] ws=0) (ht:Tabs w) :
  Calls prog 16 #[a.val,.bool bk,.int .i64 (p:Int),.slice wa wl wc] w (fun e w'=>∃ (f:WF) (z:PX),e = .returned (.tuple #[f.val,.int .i64 0])∧gA w.heap.size w' S f z∧LubX S (tI S bk (egsX kSym py a.ts) (a.fs.map Int.toNat) p ws) z∧Below w.heap.size w w'):=by
 refine cD (args:=[a.val,.bool bk,.int .i64 (p:Int),.slice wa wl wc]) func16 rfl ntmps16 rfl ?_
 have hS:=St.start w
 have hsy:=(nL hask).2.2
 have hsyy:=hA.sy
 refine aM (aQ (bY (cs:=[_,_,_,_,_,_,_]) hS rfl rfl rfl fun B1 W1 hS=>bE (cs:=[_,_,_,_,_,_]) hS zeroValue44 rfl rfl fun B2 W2 hS=>aC rfl rfl (aN (XF.thenN (aM (aM (aQ (aT (vs:=[_,_,_,_,_,_,_]) isAgg29 sizeOf29 rfl (aF.own (j:=0) (m:=7) (hS.at_ 1 rfl) rfl) rfl (aE rfl rfl (cW (us:=[(0,.int .i64 _)]) hS underlying26 sizeOf3 zeroValue3 rfl rfl rfl (kV _) rfl fun B3 W3 hS=>cA (vs:=[_,_]) hS Nn rfl (vE ds d a _ (hin.below hS.below) _ 1 1 [(p:Int)] (Ue (hS.at_ 0 rfl)) rfl (by decide)) rfl fun W4 hS=>aC rfl rfl (aN (XF.thenN (aM (aQ (aE rfl rfl (dA rfl rfl rfl (aN (XF.thenN (bB rfl (fun hc=>absurd (of_decide_eq_true hc) (by exact fun h=>h (Ud hask))) (fun hc=>?_))))))))))))))))))))
 have hc:=of_decide_eq_false hc
 refine bI (XF.thenN (aM (aM (aQ (aE rfl rfl (cC underlying26 rfl rfl (aE rfl rfl (aN (XF.thenN (bK (dQ (fun m l W=>∃ i:Nat,i≤wl∧m=wl - i∧l=[(1,.bool bk),(2,.int .i64 (p:Int)),(3,.slice wa wl wc),(4,.pointer (some ⟨B1,0,none⟩)),(8,.pointer (some ⟨B2,0,none⟩)),(24,.slice wa wl wc),(25,.int .i64 (wl:Int)),(26,.int .i64 (i:Int))]∧St w [(B2,[.bool false,.int .i64 0,.int .u64 0,.slice none 0 0,.slice none 0 0,.slice none 0 0],44),(B1,a.seven,29)] [] [] W) (wl - 0) ([(1,_),(2,_),(3,_),(4,_),(8,_),(24,_),(25,_),(26,_)]) ⟨rfl,rfl,rfl,rfl,rfl,rfl,rfl,rfl,trivial⟩ (⟨0,Nat.zero_le _,rfl,rfl,hS.tail.clear⟩) ?_)))))))))))
 clear hS
 rintro m l W ⟨i,hi,rfl,rfl,hS⟩
 refine aM (aQ (cK rfl rfl rfl (aN (XF.thenN (aM (bB rfl (fun hc=>?_) (fun hc=>?_)))))))
 ·have hc27:=of_decide_eq_true hc;clear hc
  have hk:i < wl:=by omega
  obtain ⟨b,off,y,rfl,hy,hyc⟩:=hwa.at1 (show i < ws.length by omega)
  have k1:=hS.old hyc
  have hyq:=hsy y (List.mem_of_getElem? hy)
  simp only [inQ,Bool.and_eq_true,decide_eq_true_eq] at hyq
  refine bI (XF.thenN (aM (bK (aM (aQ (bZ  underlying26 sizeOf3 rfl rfl rfl (by omega) rfl rfl (aR isAgg3 rfl (k1) rfl (aC rfl rfl (aN (XF.thenN (aM (aQ (aE rfl rfl (cK rfl rfl rfl (aE rfl rfl (bH (d:=32) rfl (fun hc=>absurd (of_decide_eq_true hc) (by omega)) (fun hc=>?_)))))))))))))))))
  have hc:=of_decide_eq_false hc
  refine aB (d:=32) rfl rfl (aE rfl rfl (aB (d:=32) rfl rfl (aK (o':=4) iB rfl rfl rfl (aB (d:=32) rfl rfl (aR isAgg3 rfl (aH (hS.at_ 1 rfl) rfl) rfl (aB (d:=32) rfl rfl (lO rfl rfl rfl (bF rfl rfl rfl (aN (XF.thenN (bB rfl (fun hc=>absurd (of_decide_eq_true hc) (by omega)) (fun hc=>?_))))))))))))
  have hc:=of_decide_eq_false hc
  refine bI (XF.blkN (XF.thenN (aQ (cP rfl rfl (IntWalk.i64_in _ (by omega)) rfl (aE rfl rfl (aN ?_))))))
  exact XF.round (wl - (i+1)) [(1,_),(2,_),(3,_),(4,_),(8,_),(24,_),(25,_),(26,_)] (by omega) ⟨rfl,rfl,rfl,rfl,rfl,rfl,rfl,rfl,trivial⟩ ⟨i+1,by omega,rfl,rfl,hS⟩
 ·have hc27:=of_decide_eq_false hc;clear hc
  refine dP (XF.thenX (XF.thenX (XF.blkX (XF.thenN (aM (aQ (aT (vs:=[_,_,_,_,_,_,_]) isAgg29 sizeOf29 rfl (aF.own (j:=0) (m:=7) (hS.at_ 1 rfl) rfl) rfl (aE rfl rfl (jA (vs:=[_,_]) goes_53 rfl (Fa S a bk n _ _ w _ hS hA.si hA.ok hA.st hA.n4) rfl ?_)))))))))
  rintro e W9 ⟨RB,VA,IA,WA,VX,IX,WX,bm,f0,Kr,rfl,hKr,H0,hwb,hmap,hKb,hS9⟩
  refine ⟨_,rfl,?_⟩
  clear hS;have hS:=hS9.perm (perm71 _ _ _ _ _ _ _ _);clear hS9
  refine aC rfl rfl (aN (XF.thenN (aM (aQ (aE rfl rfl (jA (vs:=[_]) goes_54 rfl (T6 S a f0 bk bm VA VX RB _ Kr w _ hS hmap hwb hKb hA.trow hA.tlen hA.tl hA.ky) rfl ?_))))))
  rintro e W10 ⟨lo,Kb,rfl,hKb2,hlo,hM,hS9⟩
  refine ⟨_,rfl,?_⟩
  clear hS;have hS:=(((hS9.newG 3 1).newG 3 1).castO (O':=(RB,rdC f0 a bk bm VA VX,109)::(VA,gT (.slice none 0 0) n IA WA,139)::(IA,inC S (List.replicate n (bW S)),4)::(WA,wC (List.replicate n (⟨false,0,0,none,0,0,[],none,0,0,[],none,0,0⟩:WF)),44)::(VX,gT (.slice none 0 0) n IX WX,139)::(IX,inC S (List.replicate n (bW S)),4)::(WX,wC (List.replicate n (⟨false,0,0,none,0,0,[],none,0,0,[],none,0,0⟩:WF)),44)::_) (by rw [Uw])).castG (G':=[⟨(.slice none 0 0),([]:List Nat).length,atC ([]:List Nat),3,1⟩,⟨(.slice none 0 0),([]:List Nat).length,atC ([]:List Nat),3,1⟩]) rfl;clear hS9
  replace H0:jF w Kb (fun W=>XIs W S f0 (bW S)):=H0.more hKb2
  refine aN (XF.thenN (aM (aQ (aE rfl rfl (aE rfl rfl (jA (vs:=[_,_]) goes_55 rfl (Ln S a f0 bk bm VA VX RB IA WA n _ (List.replicate n (⟨false,0,0,none,0,0,[],none,0,0,[],none,0,0⟩:WF)) p _ _ Kb w lo py kSym _ hS (VecOk.emptied (by simp)) hA.n4 hp hM hA.trow hA.tlen hA.tl hA.tt hA.px (hA.kf kSym (fun _=>rfl)) (Is hA.ok) hA.si hA.ok ht H0) rfl ?_))))))
  rintro e W11 ⟨u9,l9,fs9,xs9,Kn9,rfl,hsub9,hV9,hE9,hC9,hS9⟩
  refine ⟨_,rfl,?_⟩
  clear hS;have hS:=hS9;clear hS9
  have hF9:=Ir hA.ok (Ff hA.py) (hA.eb kSym (fun _=>rfl)) hp hE9 hV9.ok hC9
  refine aN (XF.thenN (aM (aM (aQ (aE rfl rfl (cC underlying26 rfl rfl (aE rfl rfl (aN (XF.thenN (bK (dQ (fun m lf W=>∃ (i VA VX IA WA IX WX:Nat) (va vx:Value) (fs fx:List WF) (xs xx:List PX) (l lx:List Nat) (Kk:List (Nat×World)),i≤wl∧m=wl - i∧lf=[(8,.pointer (some ⟨B2,0,none⟩)),(13,.pointer (some ⟨RB,0,none⟩)),(48,.slice wa wl wc),(49,.int .i64 (wl:Int)),(50,.int .i64 (i:Int))]∧(∀ q∈Kb,q∈Kk)∧VecOk S w Kk n fs xs l∧VecOk S w Kk n fx xx lx∧Full S bk (egsX kSym py a.ts) p (ws.take i) xs∧St w ((RB,rdC f0 a bk bm VA VX,109)::(VA,gT va n IA WA,139)::(IA,inC S xs,4)::(WA,wC fs,44)::(VX,gT vx n IX WX,139)::(IX,inC S xx,4)::(WX,wC fx,44)::[(B2,[.bool false,.int .i64 0,.int .u64 0,.slice none 0 0,.slice none 0 0,.slice none 0 0],44),(B1,a.seven,29)]) [⟨va,l.length,atC l,3,1⟩,⟨vx,lx.length,atC lx,3,1⟩] Kk W) (wl - 0) ([(8,_),(13,_),(48,_),(49,_),(50,_)]) ⟨rfl,rfl,rfl,rfl,rfl,trivial⟩ (⟨0,VA,VX,IA,WA,IX,WX,u9,_,fs9,(List.replicate n (⟨false,0,0,none,0,0,[],none,0,0,[],none,0,0⟩:WF)),xs9,(List.replicate n (bW S)),l9,[],Kn9,Nat.zero_le _,rfl,rfl,hsub9,hV9,VecOk.emptied (by simp),hF9,hS⟩) ?_)))))))))))
  clear hS
  clear hV9 hE9 hC9 hF9 hsub9;rintro m lf W ⟨i,VA,VX,IA,WA,IX,WX,va,vx,fs,fx,xs,xx,l,lx,Kk,hi,rfl,rfl,hKk,hVA,hVX,hF,hS⟩
  refine aM (aQ (cK rfl rfl rfl (aN (XF.thenN (aM (bB rfl (fun hc=>?_) (fun hc=>?_)))))))
  ·have hc51:=of_decide_eq_true hc;clear hc
   have hk:i < wl:=by omega
   obtain ⟨b,off,y,rfl,hy,hyc⟩:=hwa.at1 (show i < ws.length by omega)
   have k1:=hS.old hyc
   have hyq:=hsy y (List.mem_of_getElem? hy)
   simp only [inQ,Bool.and_eq_true,decide_eq_true_eq] at hyq
   refine bI (XF.thenN (aM (bK (aM (aQ (bZ  underlying26 sizeOf3 rfl rfl rfl (by omega) rfl rfl (aR isAgg3 rfl (k1) rfl (aC rfl rfl (aN (XF.thenN (aM (aQ (aE rfl rfl (aE rfl rfl ?_))))))))))))))
   have hS1:=(hS.perm (perm33 _ _ _ _ _ _ _ _)).permG (List.Perm.swap _ _ _)
   refine jA (vs:=[_,_]) goes_56 rfl (Qd S a f0 bk bm VA VX RB IA WA IX WX n vx va fx fs xx xs lx l _ _ Kk w lo py y _ hS1 hVX hVA hA.n4 (hM.more hKk) hA.trow hA.tlen hA.tl hA.tt hA.px (by omega) hA.si hA.ok ht (H0.more hKk)) rfl ?_
   rintro e W12 ⟨u9,v9,l9,fs9,Kn9,rfl,hsub9,hV9,hS9⟩
   refine ⟨_,rfl,?_⟩
   clear hS hS1;have hS:=hS9;clear hS9
   refine aN (XF.thenN (aQ (aE rfl rfl (jA (vs:=[_]) Nm rfl (wT S a f0 bk bm VX VA RB IX WX n u9 fs9 (kI S bk py a.ts xs y l (List.replicate n (bW S))) l9 _ _ Kn9 w lo py kSym _ hS hV9 hA.n4 (hM.more (fun q hq=>hsub9 q (hKk q hq))) hA.trow hA.tlen hA.tl hA.tt hA.px (hA.kf kSym (fun _=>rfl)) (Is hA.ok) hA.si hA.ok ht (H0.more (fun q hq=>hsub9 q (hKk q hq)))) rfl ?_))))
   rintro e W13 ⟨u7,l7,fs7,xs7,Kn7,rfl,hsub7,hV7,hE7,hC7,hS7⟩
   refine ⟨_,rfl,?_⟩
   clear hS;have hS:=hS7;clear hS7
   have hF7:=Lf hA.ok hA.py hA.inN hF hVA.ok hVA.xl hVA.ats (show y ≠ -1 by omega) hE7 hV7.ok hC7
   refine aN (XF.blkN (XF.thenN (aQ (cP rfl rfl (IntWalk.i64_in _ (by omega)) rfl (aE rfl rfl (aN ?_))))))
   exact XF.round (wl - (i+1)) [(8,_),(13,_),(48,_),(49,_),(50,_)] (by omega) ⟨rfl,rfl,rfl,rfl,rfl,trivial⟩ ⟨i+1,VX,VA,IX,WX,IA,WA,u7,v9,fs7,fs,xs7,xs,l7,l,Kn7,by omega,rfl,rfl,(fun q hq=>hsub7 q (hsub9 q (hKk q hq))),hV7,hVA.more (fun q hq=>hsub7 q (hsub9 q hq)),(by rw [List.take_add_one,hy];exact hF7),hS⟩
  ·have hc51:=of_decide_eq_false hc;clear hc
   rw [List.take_of_length_le (by omega)] at hF
   refine dP (XF.thenX (XF.thenX (XF.blkX (XF.thenN (aM (aQ (aE rfl rfl ?_)))))))
   have hszE:=hS.below.size
   refine cN (vs:=[_]) hS goes_58 rfl (T7 S a f0 bk bm VA VX RB IA WA n va fs xs _ (hS.at_ 0 rfl) (hS.at_ 1 rfl) (hS.at_ 2 rfl) (hS.at_ 3 rfl) hVA.fl hVA.xl (fun i f x h1 h2 h3=>(hVA.held i f x h1 h2 h3) hS (fun q hq=>hq)) hVA.ok hA.n4 (hA.frow.below hS.below) hA.flen hA.fmax hA.fq (hA.si.below hS.below) hA.ok (ht.below hS.below)) rfl ?_
   rintro e W5 ⟨f9,rfl,hn9,hb⟩
   refine ⟨_,rfl,hb,fun hS'=>?_⟩
   clear hS;have hS:=hS';clear hS'
   refine aU (i:=7) (vs:=[_,_,_,_,_,_]) (cs':=[_,_,_,_,_,_]) (O':=[_,_,_,_,_,_,_,_,_]) hS sizeOf44 rfl rfl rfl rfl rfl rfl rfl fun W6 hS=>aC rfl rfl (aN (XF.thenN (bL (XF.res (iO (vs:=[_,_,_,_,_,_]) results16 isAgg44 sizeOf44 rfl (aF.own (j:=0) (m:=6) (hS.at_ 7 rfl) rfl) rfl) ?_))))
   have hlub:=end_lub hA.ok (Ff hA.py) hF hVA.ok a.fs (fun s hs=>by obtain ⟨i9,h1,h2⟩:=dV (hA.fq s hs);rw [h1,Int.toNat_natCast,hVA.xl];exact h2)
   exact ⟨f9,_,rfl,(hn9.agree (hS.since 0 rfl)).mono hszE,hlub,hS.below⟩
theorem Lo (ds d:Nat) (a:AV) (bk:Bool) (fr:Int) (w:World) (hin:AIn w ds d a) (wa:Option Addr) (wl wc:Nat) (ws:List Int) (hwa:Row w wa ws) (hwl:ws.length=wl) (hwm:wl≤9223372036854775807) (hask:jG a [fr] ws≠0) :
  Calls prog 16 #[a.val,.bool bk,.int .i64 fr,.slice wa wl wc] w (fun e w'=>e = .returned (.tuple #[.agg #[.bool false,.int .i64 0,.int .u64 0,.slice none 0 0,.slice none 0 0,.slice none 0 0],.int .i64 (jG a [fr] ws)])∧Below w.heap.size w w'):=by
 refine cD (args:=[a.val,.bool bk,.int .i64 fr,.slice wa wl wc]) func16 rfl ntmps16 rfl ?_
 have hS:=St.start w
 refine aM (aQ (bY (cs:=[_,_,_,_,_,_,_]) hS rfl rfl rfl fun B1 W1 hS=>bE (cs:=[_,_,_,_,_,_]) hS zeroValue44 rfl rfl fun B2 W2 hS=>aC rfl rfl (aN (XF.thenN (aM (aM (aQ (aT (vs:=[_,_,_,_,_,_,_]) isAgg29 sizeOf29 rfl (aF.own (j:=0) (m:=7) (hS.at_ 1 rfl) rfl) rfl (aE rfl rfl (cW (us:=[(0,.int .i64 _)]) hS underlying26 sizeOf3 zeroValue3 rfl rfl rfl (kV _) rfl fun B3 W3 hS=>cA (vs:=[_,_]) hS Nn rfl (vE ds d a _ (hin.below hS.below) _ 1 1 [fr] (Ue (hS.at_ 0 rfl)) rfl (by decide)) rfl fun W4 hS=>aC rfl rfl (aN (XF.thenN (aM (aQ (aE rfl rfl (dA rfl rfl rfl (aN (XF.thenN (bB rfl (fun hc=>?_) (fun hc=>?_))))))))))))))))))))
 ·have hc21:=of_decide_eq_true hc;clear hc
  refine aM (aQ (cV (us:=[]) rfl (Ja) rfl (aE rfl rfl (aU (i:=1) (vs:=[_,_,_,_,_,_]) (cs':=[_,_,_,_,_,_]) (O':=[_,_,_]) hS sizeOf44 rfl rfl rfl rfl rfl rfl rfl fun W5 hS=>aC rfl rfl (aN (XF.thenN (bL (XF.thenR (XF.res (iO (vs:=[_,_,_,_,_,_]) results16 isAgg44 sizeOf44 rfl (aF.own (j:=0) (m:=6) (hS.at_ 1 rfl) rfl) rfl) ?_)))))))))
  exact ⟨by rw [Qf (ws:=ws) hc21],hS.below⟩
 ·have hc21:=of_decide_eq_false hc;clear hc
  have h0:jG a [fr] []=0:=Decidable.of_not_not hc21
  refine bI (XF.thenN (aM (aM (aQ (aE rfl rfl (cC underlying26 rfl rfl (aE rfl rfl (aN (XF.thenN (bK (dQ (fun m l W=>∃ i:Nat,i≤wl∧m=wl - i∧l=[(1,.bool bk),(2,.int .i64 fr),(3,.slice wa wl wc),(4,.pointer (some ⟨B1,0,none⟩)),(8,.pointer (some ⟨B2,0,none⟩)),(24,.slice wa wl wc),(25,.int .i64 (wl:Int)),(26,.int .i64 (i:Int))]∧(ws.take i).all (fun y=>inQ y a.sy)=true∧St w [(B2,[.bool false,.int .i64 0,.int .u64 0,.slice none 0 0,.slice none 0 0,.slice none 0 0],44),(B1,a.seven,29)] [] [] W) (wl - 0) ([(1,_),(2,_),(3,_),(4,_),(8,_),(24,_),(25,_),(26,_)]) ⟨rfl,rfl,rfl,rfl,rfl,rfl,rfl,rfl,trivial⟩ (⟨0,Nat.zero_le _,rfl,rfl,rfl,hS.tail.clear⟩) ?_)))))))))))
  clear hS
  rintro m l W ⟨i,hi,rfl,rfl,hall,hS⟩
  refine aM (aQ (cK rfl rfl rfl (aN (XF.thenN (aM (bB rfl (fun hc=>?_) (fun hc=>?_)))))))
  ·have hc27:=of_decide_eq_true hc;clear hc
   have hk:i < wl:=by omega
   obtain ⟨b,off,y,rfl,hy,hyc⟩:=hwa.at1 (show i < ws.length by omega)
   have k1:=hS.old hyc
   refine bI (XF.thenN (aM (bK (aM (aQ (bZ  underlying26 sizeOf3 rfl rfl rfl (by omega) rfl rfl (aR isAgg3 rfl (k1) rfl (aC rfl rfl (aN (XF.thenN (aM (aQ (aE rfl rfl (cK rfl rfl rfl (aE rfl rfl (bH (d:=32) rfl (fun hc=>?_) (fun hc=>?_)))))))))))))))))
   ·have hg32:=of_decide_eq_true hc;clear hc
    have e5:inQ y a.sy=false:=by simp [inQ];omega
    refine aD (d:=32) rfl rfl rfl rfl (aD (d:=32) rfl rfl rfl rfl (aD (d:=32) rfl rfl rfl rfl (aD (d:=32) rfl rfl rfl rfl (aW rfl rfl rfl (aN (XF.thenN (dT rfl (aM (aQ (cV (us:=[]) rfl (Ja) rfl (aU (i:=0) (vs:=[_,_,_,_,_,_]) (cs':=[_,_,_,_,_,_]) (O':=[_,_]) hS sizeOf44 rfl rfl rfl rfl rfl rfl rfl fun W6 hS=>aC rfl rfl (aN (XF.thenN (bL (XF.blkR (XF.thenR (XF.thenR (XF.blkR (XF.thenR (XF.res (iO (vs:=[_,_,_,_,_,_]) results16 isAgg44 sizeOf44 rfl (aF.own (j:=0) (m:=6) (hS.at_ 0 rfl) rfl) rfl) ?_))))))))))))))))))))
    exact ⟨by rw [C9 h0 (cJ hy e5)],hS.below⟩
   ·have hg32:=of_decide_eq_false hc;clear hc
    refine aB (d:=32) rfl rfl (aE rfl rfl (aB (d:=32) rfl rfl (aK (o':=4) iB rfl rfl rfl (aB (d:=32) rfl rfl (aR isAgg3 rfl (aH (hS.at_ 1 rfl) rfl) rfl (aB (d:=32) rfl rfl (lO rfl rfl rfl (bF rfl rfl rfl (aN (XF.thenN (bB rfl (fun hc=>?_) (fun hc=>?_))))))))))))
    ·have hc37:=of_decide_eq_true hc;clear hc
     have e5:inQ y a.sy=false:=by simp [inQ];omega
     refine aM (aQ (cV (us:=[]) rfl (Ja) rfl (aU (i:=0) (vs:=[_,_,_,_,_,_]) (cs':=[_,_,_,_,_,_]) (O':=[_,_]) hS sizeOf44 rfl rfl rfl rfl rfl rfl rfl fun W7 hS=>aC rfl rfl (aN (XF.thenN (bL (XF.blkR (XF.thenR (XF.thenR (XF.blkR (XF.thenR (XF.res (iO (vs:=[_,_,_,_,_,_]) results16 isAgg44 sizeOf44 rfl (aF.own (j:=0) (m:=6) (hS.at_ 0 rfl) rfl) rfl) ?_))))))))))))
     exact ⟨by rw [C9 h0 (cJ hy e5)],hS.below⟩
    ·have hc37:=of_decide_eq_false hc;clear hc
     have e5:inQ y a.sy=true:=by simp [inQ];omega
     refine bI (XF.blkN (XF.thenN (aQ (cP rfl rfl (IntWalk.i64_in _ (by omega)) rfl (aE rfl rfl (aN ?_))))))
     exact XF.round (wl - (i+1)) [(1,_),(2,_),(3,_),(4,_),(8,_),(24,_),(25,_),(26,_)] (by omega) ⟨rfl,rfl,rfl,rfl,rfl,rfl,rfl,rfl,trivial⟩ ⟨i+1,by omega,rfl,rfl,eC hy hall e5,hS⟩
  ·have hc27:=of_decide_eq_false hc;clear hc
   exact absurd (by rw [List.take_of_length_le (by omega)] at hall;obtain ⟨h1,h2,_⟩:=nL h0;exact Fg h1 h2 (fun y hy=>List.all_eq_true.1 hall y hy)) hask
abbrev S9:PS:=.one 2 9
abbrev exE:List Eg:=[⟨0,0,1,.one (pC 3)⟩,⟨0,-1,0,.one (pC 1)⟩,⟨0,0,1,.one (pC 5)⟩]
theorem lW:S9.ok:=by show bJ 2 9 0=true;decide
theorem I0 {c:Int} (h0:0≤c) (h1:c≤9):OkX S9 (.one (pC c)):=OkP.cost c rfl h0 h1
theorem Lp:∀ e∈exE,OkX S9 e.y:=fun e he=>by
 simp only [List.mem_cons,List.not_mem_nil,or_false] at he
 rcases he with rfl | rfl | rfl
 ·exact I0 (by decide) (by decide)
 ·exact I0 (by decide) (by decide)
 ·exact I0 (by decide) (by decide)
theorem I1 {x:PX} (hx:OkX S9 x):LeX S9 x (oE S9):=by
 cases x with
 | two a b=>exact hx.elim
 | one a =>
  rcases iI hx with rfl | ⟨c,rfl,h0,h1⟩
  ·exact vA (pA lW)
  ·show PX.one (dU 2 9 (pC 0) (pC c))=PX.one (pC 0)
   rw [mK,Int.min_eq_left h0]
theorem ex_lub {z:PX} (h:LubX S9 (tI S9 false exE [1] 0 [0]) z):z = .one (pC 3):=by
 have hA:=Fc (b:=false) (F:=[1]) (p:=0) (u:=[0]) lW Lp
 have h3:OkX S9 (.one (pC 3)):=I0 (by decide) (by decide)
 refine h.uniq lW hA ⟨Fs.one ?_ h3,?_⟩
 ·refine ⟨1,by simp,?_⟩
  have h9:=Pth.sym (S:=S9) (b:=false) (E:=exE) (p:=0) (e:=⟨0,0,1,.one (pC 3)⟩) .nil (by simp) rfl (by decide)
  rw [show iE S9 false (oE S9) (PX.one (pC 3))=PX.one (pC 3) from oneD lW h3] at h9
  exact h9
 ·rintro x ⟨q,_,hp⟩
  have key:∀ {u q x},Pth S9 false exE 0 u q x→(u=[]→q=0)∧(u=[0]→q=1∧LeX S9 x (.one (pC 3))):=by
   intro u q x hp
   induction hp with
   | nil=>exact ⟨fun _=>rfl,fun h=>by cases h⟩
   | @eps u q x e h0 he hf hg ih =>
    simp only [List.mem_cons,List.not_mem_nil,or_false] at he
    rcases he with rfl | rfl | rfl
    ·exact absurd hg (by decide)
    ·refine ⟨fun _=>rfl,fun hu=>?_⟩
     have h1:=(ih.2 hu).1
     rw [← hf] at h1
     exact absurd h1 (by decide)
    ·exact absurd hg (by decide)
   | @sym u q x e h0 he hf hg ih =>
    refine ⟨fun h=>by simp at h,fun hu=>?_⟩
    have hxo:=h0.ok lW Lp
    have h1:OkX S9 (PX.one (pC 3)):=h3
    simp only [List.mem_cons,List.not_mem_nil,or_false] at he
    rcases he with rfl | rfl | rfl
    ·refine ⟨rfl,?_⟩
     have h9:=pM (b:=false) lW hxo (pA lW) h3 (I1 hxo)
     rw [oneD lW h3] at h9
     exact h9
    ·exact absurd rfl hg
    ·refine ⟨rfl,?_⟩
     have h5:OkX S9 (PX.one (pC 5)):=I0 (by decide) (by decide)
     have h9:=pM (b:=false) lW hxo (pA lW) h5 (I1 hxo)
     rw [oneD lW h5] at h9
     refine gB lW (iC lW hxo h5) h5 h3 h9 ?_
     show PX.one (dU 2 9 (pC 3) (pC 5))=PX.one (pC 3)
     rw [mK];rfl
  exact ((key hp).2 rfl).2
theorem ex_none {z:PX} (h:LubX S9 (tI S9 false exE [1] 1 [0]) z):z=bW S9:=by
 have hA:=Fc (b:=false) (F:=[1]) (p:=1) (u:=[0]) lW Lp
 refine h.uniq lW hA (LubX.none ?_)
 rintro x ⟨q,_,hp⟩
 have key:∀ {u q x},Pth S9 false exE 1 u q x→u=[]∧q=1:=by
  intro u q x hp
  induction hp with
  | nil=>exact ⟨rfl,rfl⟩
  | @eps u q x e h0 he hf hg ih =>
   have h1:=ih.2
   rw [← hf] at h1
   simp only [List.mem_cons,List.not_mem_nil,or_false] at he
   rcases he with rfl | rfl | rfl<;>exact absurd h1 (by decide)
  | @sym u q x e h0 he hf hg ih =>
   have h1:=ih.2
   rw [← hf] at h1
   simp only [List.mem_cons,List.not_mem_nil,or_false] at he
   rcases he with rfl | rfl | rfl<;>exact absurd h1 (by decide)
 exact absurd (key hp).1 (by simp)
theorem wI (v00:Value) (v01:Value) (v02:Value) (v1:Int) (v2:Int) (v3a:Option Addr) (v3l:Nat) (v3c:Nat) (v4a:Option Addr) (v4l:Nat) (v4c:Nat):prog.built 29 [(0,.agg #[v00,v01,v02]),(1,.int .i64 v1),(2,.int .i64 v2),(3,.slice v3a v3l v3c),(4,.slice v4a v4l v4c)]=some #[v00,v01,v02,.int .i64 v1,.int .i64 v2,.slice v3a v3l v3c,.slice v4a v4l v4c]:=by kernel_rfl
theorem vF (v1:Int) (v2:Int) (v30:Value) (v31:Value) (v32:Value) (v33:Value) (v34:Value) (v35:Value):prog.built 66 [(1,.int .i64 v1),(2,.int .i64 v2),(3,.agg #[v30,v31,v32,v33,v34,v35])]=some #[.int .i64 0,.int .i64 v1,.int .i64 v2,v30,v31,v32,v33,v34,v35]:=by kernel_rfl
theorem Lq (v1:Int) (v30:Value) (v31:Value) (v32:Value) (v33:Value) (v34:Value) (v35:Value):prog.built 66 [(1,.int .i64 v1),(3,.agg #[v30,v31,v32,v33,v34,v35])]=some #[.int .i64 0,.int .i64 v1,.int .i64 0,v30,v31,v32,v33,v34,v35]:=by kernel_rfl
theorem bs_27_3 (v00:Value) (v01:Value) (v02:Value) (v03:Value) (v04:Value) (v05:Value) (v06:Value) (v07:Value) (v08:Value) (v10:Value) (v11:Value) (v12:Value) (v13:Value) (v14:Value) (v15:Value) (v16:Value) (v17:Value) (v18:Value) (v20:Value) (v21:Value) (v22:Value) (v23:Value) (v24:Value) (v25:Value) (v26:Value) (v27:Value) (v28:Value):Instr.fill (fun i=>some (i * 9,9)) ((Array.range (3 * 9)).map ((Value.cells (.agg #[.int .i64 0,.int .i64 0,.int .i64 0,.bool false,.int .i64 0,.int .u64 0,.slice none 0 0,.slice none 0 0,.slice none 0 0]))[· % (Value.cells (.agg #[.int .i64 0,.int .i64 0,.int .i64 0,.bool false,.int .i64 0,.int .u64 0,.slice none 0 0,.slice none 0 0,.slice none 0 0])).size]!)) [(0,.agg #[v00,v01,v02,v03,v04,v05,v06,v07,v08]),(1,.agg #[v10,v11,v12,v13,v14,v15,v16,v17,v18]),(2,.agg #[v20,v21,v22,v23,v24,v25,v26,v27,v28])]=some (List.toArray [v00,v01,v02,v03,v04,v05,v06,v07,v08,v10,v11,v12,v13,v14,v15,v16,v17,v18,v20,v21,v22,v23,v24,v25,v26,v27,v28]):=by kernel_rfl
def wC9 (c:Int):WV:=.mk ⟨false,c,0,none,0,0,[],none,0,0,[],none,0,0⟩ []
abbrev exA (b1 b2:Nat):AV:=⟨.mk ⟨2,9,none,0,0⟩ [],2,1,some ⟨b1,0,none⟩,1,1,[1],some ⟨b2,0,none⟩,3,3,[⟨0,0,1,wC9 3⟩,⟨0,-1,0,wC9 1⟩,⟨0,0,1,wC9 5⟩]⟩
def pyC (t:TV):PX:=.one t.x.f.pf
theorem Ux (w:World) (c:Int):WIn w 1 (wC9 c):=⟨⟨.inl rfl,rfl,by show 0 < 18446744073709551616;decide,(fun r hr=>by cases hr),.inl rfl,rfl,(fun c hc=>by cases hc),Nat.zero_le _⟩,rfl,.inl rfl,fun p hp=>by cases hp⟩
theorem Uy {w:World} {c:Int} (h0:0≤c) (h1:c≤9):XIs w S9 (wC9 c).f (.one (wC9 c).f.pf):=PIs.of (t:=2) (n:=9) (by decide) (Ux w c).1 (by simp [fE,wC9,WV.f,iQ,iP,h0,h1])
theorem exA_in {w:World} {b1 b2:Nat} {T1 T2:TypeId} (h1:w.heap[b1]?=some (.cells (List.toArray [.int .i64 1]) T1 (0,0)))
  (h2:w.heap[b2]?=some (.cells (List.toArray ((⟨0,0,1,wC9 3⟩:TV).nine++(⟨0,-1,0,wC9 1⟩:TV).nine++(⟨0,0,1,wC9 5⟩:TV).nine)) T2 (0,0))):AIn w 1 1 (exA b1 b2):=by
 refine ⟨⟨rfl,.inl rfl,fun p hp=>by cases hp⟩,Ue h1,rfl,.inr ⟨b2,0,rfl,fun i r hi=>?_⟩,rfl,fun r hr=>?_,by show 1≤9223372036854775807;decide,by show 3≤9223372036854775807;decide⟩
 ·match i,hi with
  | 0,hi=>cases hi;exact aF.own (j:=0) (m:=9) h2 rfl
  | 1,hi=>cases hi;exact aF.own (j:=9) (m:=9) h2 rfl
  | 2,hi=>cases hi;exact aF.own (j:=18) (m:=9) h2 rfl
  | i+3,hi=>exact absurd hi (by simp)
 ·simp only [List.mem_cons,List.not_mem_nil,or_false] at hr
  rcases hr with rfl | rfl | rfl<;>exact Ux w _
theorem Uz {w:World} {b1 b2:Nat} (h:AIn w 1 1 (exA b1 b2)):AutoOk w S9 pyC 2 (exA b1 b2):=by
 refine ⟨lW,⟨none,0,rfl⟩,rfl,by decide,h.frow,h.flen,h.fmax,h.trow,h.tlen,by show 3≤65536;decide,?_,?_,?_,?_,by show (0:Int)≤1∧(1:Int)≤4096;decide,?_⟩
 ·intro s hs;simp at hs;subst hs;decide
 ·intro t ht;simp only [List.mem_cons,List.not_mem_nil,or_false] at ht;rcases ht with rfl | rfl | rfl<;>decide
 ·intro t ht;simp only [List.mem_cons,List.not_mem_nil,or_false] at ht;rcases ht with rfl | rfl | rfl<;>decide
 ·intro t ht
  show -1≤t.g∧t.g < 1
  simp only [List.mem_cons,List.not_mem_nil,or_false] at ht
  rcases ht with rfl | rfl | rfl<;>(dsimp only;omega)
 ·intro t ht;simp only [List.mem_cons,List.not_mem_nil,or_false] at ht;rcases ht with rfl | rfl | rfl
  ·exact Uy (by decide) (by decide)
  ·exact Uy (by decide) (by decide)
  ·exact Uy (by decide) (by decide)
theorem exA_E {b1 b2:Nat}:dD (exA b1 b2)=0:=by
 have e1:dE (exA b1 b2).s=0:=by show dE (.mk ⟨2,9,none,0,0⟩ [])=0;decide
 have e2:cZ (exA b1 b2).st (exA b1 b2).sy (exA b1 b2).fs (exA b1 b2).ts=true:=by show cZ 2 1 [1] [⟨0,0,1,wC9 3⟩,⟨0,-1,0,wC9 1⟩,⟨0,0,1,wC9 5⟩]=true;decide
 have e3:∀ c:Int,c=3∨c=1∨c=5→kM (exA b1 b2).s (wC9 c)=0:=fun c hc=>by rcases hc with rfl | rfl | rfl<;>(show kM (.mk ⟨2,9,none,0,0⟩ []) _=0;decide)
 unfold dD
 rw [if_neg (fun h=>h e1),if_neg (by show ¬ 65536 < 3;decide),if_neg (by rw [e2];decide),if_pos]
 refine List.all_eq_true.2 fun t ht=>decide_eq_true ?_
 simp only [List.mem_cons,List.not_mem_nil,or_false] at ht
 rcases ht with rfl | rfl | rfl
 ·exact e3 3 (.inl rfl)
 ·exact e3 1 (.inr (.inl rfl))
 ·exact e3 5 (.inr (.inr rfl))
theorem No {b1 b2:Nat} (p:Int) (hp:p=0∨p=1):jG (exA b1 b2) [p] [0]=0:=Fg exA_E (fun y hy=>by simp at hy;subst hy;show inQ y 2=true;rcases hp with rfl | rfl<;>decide) (fun y hy=>by simp at hy;subst hy;show inQ 0 1=true;decide)
theorem wU (w:World) :
  Calls prog 35 #[] w (fun e w'=>∃ b1 b2,e = .returned (exA b1 b2).val∧(∀ w2,dG w.heap.size w' w2→AIn w2 1 1 (exA b1 b2))∧Below w.heap.size w w'):=by
 refine cD (args:=[]) func35 rfl ntmps35 rfl ?_
 have hS:=St.start w
 refine aM (aQ (bE (cs:=[_,_,_,_,_,_,_]) hS zeroValue29 rfl rfl fun B1 W1 hS=>aN (XF.thenN (aM (aQ (cV (us:=[(0,.int .i64 _),(1,.int .i64 _)]) rfl (I9 _ _) rfl (cW (us:=[(0,.int .i64 _)]) hS underlying26 sizeOf3 zeroValue3 rfl rfl rfl (kV _) rfl fun B2 W2 hS=>cV (us:=[(1,.int .i64 _)]) rfl (xX _) rfl (cV (us:=[(1,.int .i64 _),(2,.int .i64 _),(3,.agg (List.toArray [_,_,_,_,_,_]))]) rfl (vF _ _ _ _ _ _ _ _) rfl (cV (us:=[(1,.int .i64 _)]) rfl (xX _) rfl (cV (us:=[(1,.int .i64 _),(3,.agg (List.toArray [_,_,_,_,_,_]))]) rfl (Lq _ _ _ _ _ _ _) rfl (cV (us:=[(1,.int .i64 _)]) rfl (xX _) rfl (cV (us:=[(1,.int .i64 _),(2,.int .i64 _),(3,.agg (List.toArray [_,_,_,_,_,_]))]) rfl (vF _ _ _ _ _ _ _ _) rfl (cW (us:=[(0,.agg (List.toArray [_,_,_,_,_,_,_,_,_])),(1,.agg (List.toArray [_,_,_,_,_,_,_,_,_])),(2,.agg (List.toArray [_,_,_,_,_,_,_,_,_]))]) hS underlying27 sizeOf66 zeroValue66 rfl rfl rfl (bs_27_3 _ _ _ _ _ _ _ _ _ _ _ _ _ _ _ _ _ _ _ _ _ _ _ _ _ _ _) rfl fun B3 W3 hS=>cV (us:=[(0,.agg (List.toArray [_,_,_])),(1,.int .i64 _),(2,.int .i64 _),(3,.slice _ _ _),(4,.slice _ _ _)]) rfl (wI _ _ _ _ _ _ _ _ _ _ _) rfl (aU (i:=2) (vs:=[_,_,_,_,_,_,_]) (cs':=[_,_,_,_,_,_,_]) (O':=[_,_,_]) hS sizeOf29 rfl rfl rfl rfl rfl rfl rfl fun W4 hS=>aN (XF.thenN (bL (XF.res (eM (vs:=[_,_,_,_,_,_,_]) results35 isAgg29 sizeOf29 rfl (aF.own (j:=0) (m:=7) (hS.at_ 2 rfl) rfl)) ?_)))))))))))))))))
 exact ⟨B2,B3,rfl,fun w2 hg=>exA_in ((hg.2 _ (hS.ge 1 rfl) (bV (hS.at_ 1 rfl))).trans (hS.at_ 1 rfl)) ((hg.2 _ (hS.ge 0 rfl) (bV (hS.at_ 0 rfl))).trans (hS.at_ 0 rfl)),hS.below⟩
theorem Qi (a:AV) (wa:Option Addr) (wl wc:Nat) (w:World) :
  Calls prog 11 #[a.val,.slice wa wl wc] w (fun e w'=>∃ b:Bool,e = .returned (.bool b)∧(b=true→(a.tl:Int)≤300∧a.st≤300∧(wl:Int)≤40)∧Below w.heap.size w w'):=by
 refine cD (args:=[a.val,.slice wa wl wc]) func11 rfl ntmps11 rfl ?_
 have hS:=St.start w
 refine aM (aQ (bY (cs:=[_,_,_,_,_,_,_]) hS rfl rfl rfl fun B1 W1 hS=>aC rfl rfl (aN (XF.thenN (aM (aQ (aK (o':=6) dR rfl rfl rfl (aR isAgg27 rfl (aH (hS.at_ 0 rfl) rfl) rfl (cC underlying27 rfl rfl (vG rfl rfl rfl (aE rfl rfl (bH (d:=9) rfl (fun hc=>?_) (fun hc=>?_)))))))))))))
 ·have hg9:=of_decide_eq_true hc;clear hc
  refine aB (d:=9) rfl rfl (aK (o':=3) fQ rfl rfl rfl (aB (d:=9) rfl rfl (aR isAgg3 rfl (aH (hS.at_ 0 rfl) rfl) rfl (aB (d:=9) rfl rfl (vG rfl rfl rfl (aW rfl rfl rfl (aE rfl rfl (bH (d:=14) rfl (fun hc=>?_) (fun hc=>?_)))))))))
  ·have hg14:=of_decide_eq_true hc;clear hc
   refine aB (d:=14) rfl rfl (aE rfl rfl (aB (d:=14) rfl rfl (cC underlying26 rfl rfl (aB (d:=14) rfl rfl (vG rfl rfl rfl (aW rfl rfl rfl (aC rfl rfl (aN (XF.thenN (bL (XF.res (cE results11 rfl) ?_)))))))))))
   exact ⟨_,rfl,fun h=>⟨hg9,hg14,of_decide_eq_true h⟩,hS.below⟩
  ·have hg14:=of_decide_eq_false hc;clear hc
   refine aD (d:=14) rfl rfl rfl rfl (aD (d:=14) rfl rfl rfl rfl (aD (d:=14) rfl rfl rfl rfl (bF rfl rfl rfl (aC rfl rfl (aN (XF.thenN (bL (XF.res (cE results11 rfl) ?_))))))))
   exact ⟨false,rfl,fun h=>by (cases h),hS.below⟩
 ·have hg9:=of_decide_eq_false hc;clear hc
  refine aD (d:=9) rfl rfl rfl rfl (aD (d:=9) rfl rfl rfl rfl (aD (d:=9) rfl rfl rfl rfl (bF rfl rfl rfl (aE rfl rfl (aD (d:=14) rfl rfl rfl rfl (aD (d:=14) rfl rfl rfl rfl (aD (d:=14) rfl rfl rfl rfl (bF rfl rfl rfl (aC rfl rfl (aN (XF.thenN (bL (XF.res (cE results11 rfl) ?_)))))))))))))
  exact ⟨false,rfl,fun h=>by (cases h),hS.below⟩
theorem xT:bP prog 16=true:=by kernel_rfl
theorem Np:bP prog 35=true:=by kernel_rfl
theorem Qj (w:World) (ht:Tabs w) :
  Calls prog 10 #[] w (fun e w'=>e = .returned (.bool (true))∧Below w.heap.size w w'):=by
 refine cD (args:=[]) func10 rfl ntmps10 rfl ?_
 have hS:=St.start w
 refine aM (aQ (aC rfl rfl (aN (XF.thenN (aM (aQ (cN (vs:=[]) hS Np rfl (wU _) rfl ?_)))))))
 rintro e W1 ⟨b1,b2,rfl,hex,hb⟩
 refine ⟨_,rfl,hb,fun hS'=>?_⟩
 clear hS;have hS:=hS';clear hS'
 refine cW (us:=[(0,.int .i64 _)]) hS underlying26 sizeOf3 zeroValue3 rfl rfl rfl (kV _) rfl fun B2 W2 hS=>?_
 have hx0:=hex _ (hS.since 0 rfl)
 refine cN (vs:=[_,_,_,_]) hS xT rfl (wH 1 1 (exA b1 b2) S9 pyC 2 false 0 _ hx0 (Uz hx0) (by decide) _ 1 1 [0] (Ue (hS.at_ 0 rfl)) rfl (by decide) (No _ (.inl rfl)) (ht.below hS.below)) rfl ?_
 rintro e W3 ⟨f1,z1,rfl,hn1,hl1,hb⟩
 refine ⟨_,rfl,hb,fun hS'=>?_⟩
 clear hS;have hS:=hS';clear hS'
 have hz1:z1 = .one (pC 3):=ex_lub hl1
 subst hz1
 have hc1:f1.c=3:=(lU hn1.is.pf).2.1
 have hz1:f1.z=false:=(lU hn1.is.pf).1
 refine aE rfl rfl (bU rfl rfl rfl (bU rfl rfl rfl (bE (cs:=[_,_,_,_,_,_]) hS zeroValue44 rfl rfl fun B4 W4 hS=>aU (i:=0) (vs:=[_,_,_,_,_,_]) (cs':=[_,_,_,_,_,_]) (O':=[_,_]) hS sizeOf44 rfl rfl rfl rfl rfl rfl rfl fun W5 hS=>aC rfl rfl (aN (XF.thenN (aM (aQ (cN (vs:=[]) hS Np rfl (wU _) rfl ?_))))))))
 rintro e W6 ⟨b3,b4,rfl,hex2,hb⟩
 refine ⟨_,rfl,hb,fun hS'=>?_⟩
 clear hS;have hS:=hS';clear hS'
 refine cW (us:=[(0,.int .i64 _)]) hS underlying26 sizeOf3 zeroValue3 rfl rfl rfl (kV _) rfl fun B7 W7 hS=>?_
 have hx1:=hex2 _ (hS.since 0 rfl)
 refine cN (vs:=[_,_,_,_]) hS xT rfl (wH 1 1 (exA b3 b4) S9 pyC 2 false 1 _ hx1 (Uz hx1) (by decide) _ 1 1 [0] (Ue (hS.at_ 0 rfl)) rfl (by decide) (No _ (.inr rfl)) (ht.below hS.below)) rfl ?_
 rintro e W8 ⟨f2,z2,rfl,hn2,hl2,hb⟩
 refine ⟨_,rfl,hb,fun hS'=>?_⟩
 clear hS;have hS:=hS';clear hS'
 have hz2:z2=bW S9:=ex_none hl2
 subst hz2
 have hz2:f2.z=true:=(lU hn2.is.pf).1
 refine aE rfl rfl (bU rfl rfl rfl (bU rfl rfl rfl (bE (cs:=[_,_,_,_,_,_]) hS zeroValue44 rfl rfl fun B9 W9 hS=>aU (i:=0) (vs:=[_,_,_,_,_,_]) (cs':=[_,_,_,_,_,_]) (O':=[_,_,_,_]) hS sizeOf44 rfl rfl rfl rfl rfl rfl rfl fun W10 hS=>aC rfl rfl (aN (XF.thenN (aM (aQ (aE rfl rfl (cY rfl rfl rfl (aE rfl rfl (bH (d:=19) rfl (fun hc=>?_) (fun hc=>absurd (of_decide_eq_false hc) (by simp)))))))))))))
 have hc:=of_decide_eq_true hc
 refine aB (d:=19) rfl rfl (aE rfl rfl (aB (d:=19) rfl rfl (cY rfl rfl rfl (aW rfl rfl rfl (aE rfl rfl (bH (d:=23) rfl (fun hc=>?_) (fun hc=>absurd (of_decide_eq_false hc) (by simp))))))))
 have hc:=of_decide_eq_true hc
 refine aB (d:=23) rfl rfl (aK (o':=1) gJ rfl rfl rfl (aB (d:=23) rfl rfl (aR isAgg3 rfl (aH (hS.at_ 2 rfl) rfl) rfl (aB (d:=23) rfl rfl (cY rfl rfl rfl (aW rfl rfl rfl (aE rfl rfl (bH (d:=28) rfl (fun hc=>?_) (fun hc=>absurd (of_decide_eq_false hc) (by exact fun h=>h hc1))))))))))
 have hc:=of_decide_eq_true hc
 refine aB (d:=28) rfl rfl (aK (o':=0) eQ rfl rfl rfl (aB (d:=28) rfl rfl (aR isAgg4 rfl (aH (hS.at_ 2 rfl) rfl) rfl (aB (d:=28) rfl rfl (eS rfl rfl (aW rfl rfl rfl (aE rfl rfl ?_)))))))
 refine bH (d:=33) rfl (fun hc=>?_) (fun hc=>absurd hc (by rw [hz1];decide))
 skip
 refine aB (d:=33) rfl rfl (aK (o':=0) eQ rfl rfl rfl (aB (d:=33) rfl rfl (aR isAgg4 rfl (aH (hS.at_ 0 rfl) rfl) rfl (aW rfl rfl rfl (aC rfl rfl (aN (XF.thenN (bL (XF.res (cE results10 rfl) ?_)))))))))
 exact ⟨bT hz2,hS.below⟩
def VCon (S:PS) (bk:Bool) (kf:TV→Int×Int) (py:TV→PX) (a:AV) (fr:Int) (ws:List Int) (M:World→Prop) (f:WF):Prop:=(jG a [fr] ws=0→∃ (p:Nat) (z:PX),fr=(p:Int)∧Aa M S f z∧LubX S (tI S bk (egsX kf py a.ts) (a.fs.map Int.toNat) p ws) z)∧(jG a [fr] ws≠0→f=(wC9 0).f)
theorem Ay (ds d:Nat) (a:AV) (S:PS) (py:TV→PX) (n:Nat) (bk:Bool) (fr:Int) (w:World) (hin:AIn w ds d a) (wa:Option Addr) (wl wc:Nat) (ws:List Int) (hwa:Row w wa ws) (hwl:ws.length=wl) (hwm:wl≤9223372036854775807) (hA:jG a [fr] ws=0→AutoOk w S py n a) (ht:Tabs w) :
  Calls prog 16 #[a.val,.bool bk,.int .i64 fr,.slice wa wl wc] w (fun e w'=>∃ f:WF,e = .returned (.tuple #[f.val,.int .i64 (jG a [fr] ws)])∧VCon S bk kSym py a fr ws (fun W2=>dG w.heap.size w' W2) f∧Below w.heap.size w w'):=by
 by_cases h0:jG a [fr] ws=0
 ·have hA9:=hA h0
  have h1:=(nL h0).2.1 fr (by simp)
  rw [hA9.st] at h1
  obtain ⟨p,rfl,hp⟩:=dV h1
  refine (wH ds d a S py n bk p w hin hA9 hp wa wl wc ws hwa hwl hwm h0 ht).mono ?_
  rintro e w' ⟨f,z,rfl,hn,hl,hb⟩
  exact ⟨f,by rw [h0],⟨fun _=>⟨p,z,rfl,hn.far,hl⟩,fun h=>absurd h0 h⟩,hb⟩
 ·refine (Lo ds d a bk fr w hin wa wl wc ws hwa hwl hwm h0).mono ?_
  rintro e w' ⟨rfl,hb⟩
  exact ⟨(wC9 0).f,rfl,⟨fun h=>absurd h h0,fun _=>rfl⟩,hb⟩
end Go.Proofs.YtmgnkpibpjgncaaGreatDoor
