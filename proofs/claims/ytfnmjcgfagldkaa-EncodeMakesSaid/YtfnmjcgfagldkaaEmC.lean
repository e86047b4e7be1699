import Derived.Test.YtfnmjcgfagldkaaEmB
set_option maxRecDepth 100000
set_option maxHeartbeats 4000000
set_option linter.unusedVariables false
set_option linter.unusedSimpArgs false
set_option linter.unusedSectionVars false
set_option linter.unnecessarySimpa false
namespace Go.Proofs.Ytfnmjcgfagldkaa
open Go.Proofs.Try
open Go.RowKit
theorem pN:prog.built 38 []=some #[.int .i64 0,.int .i64 0,.slice none 0 0,.int .i64 0,.int .i64 0,.slice none 0 0]:=by kernel_rfl
theorem qT (v00:Value) (v01:Value) (v02:Value) (v1:Int) (v2:Int):prog.built 38 [(0,.agg #[v00,v01,v02]),(1,.int .i64 v1),(2,.int .i64 v2)]=some #[v00,v01,v02,.int .i64 v1,.int .i64 v2,.slice none 0 0]:=by kernel_rfl
theorem lT (v1:Int) (v3a:Option Addr) (v3l:Nat) (v3c:Nat) (v40:Value) (v41:Value) (v42:Value) (v43:Value) (v44:Value) (v45:Value):prog.built 74 [(1,.int .i64 v1),(3,.slice v3a v3l v3c),(4,.agg #[v40,v41,v42,v43,v44,v45])]=some #[.int .i64 0,.int .i64 v1,.int .i64 0,.slice v3a v3l v3c,v40,v41,v42,v43,v44,v45]:=by kernel_rfl
theorem sZ (v1:Int) (v40:Value) (v41:Value) (v42:Value) (v43:Value) (v44:Value) (v45:Value):prog.built 74 [(1,.int .i64 v1),(4,.agg #[v40,v41,v42,v43,v44,v45])]=some #[.int .i64 0,.int .i64 v1,.int .i64 0,.slice none 0 0,v40,v41,v42,v43,v44,v45]:=by kernel_rfl
theorem hY (v2:Int):prog.built 79 [(2,.int .i64 v2)]=some #[.int .i64 0,.int .i64 0,.int .i64 v2,.int .i64 0,.int .i64 0,.int .i64 0,.int .i64 0]:=by kernel_rfl
theorem jT (v00:Value) (v01:Value) (v02:Value) (v03:Value) (v04:Value) (v05:Value) (v06:Value) (v07:Value) (v08:Value) (v09:Value):Instr.fill (fun i=>some (i * 10,10)) ((Array.range (1 * 10)).map ((Value.cells (.agg #[.int .i64 0,.int .i64 0,.int .i64 0,.slice none 0 0,.bool false,.int .i64 0,.int .u64 0,.slice none 0 0,.slice none 0 0,.slice none 0 0]))[· % (Value.cells (.agg #[.int .i64 0,.int .i64 0,.int .i64 0,.slice none 0 0,.bool false,.int .i64 0,.int .u64 0,.slice none 0 0,.slice none 0 0,.slice none 0 0])).size]!)) [(0,.agg #[v00,v01,v02,v03,v04,v05,v06,v07,v08,v09])]=some (List.toArray [v00,v01,v02,v03,v04,v05,v06,v07,v08,v09]):=by kernel_rfl
theorem cM (w:World) (b o:Nat):(Instr.fieldAt 38 (.pointer (some ⟨b,o,none⟩)) 3).run prog w = .ok (.pointer (some ⟨b,o+5,none⟩)) w:=by
 simp [Instr.fieldAt,run_underlying underlying38,Instr.sureAddr,go_sem,Addr.add_lit]
theorem lM:cL prog 17=true:=by kernel_rfl
theorem jU:cL prog 18=true:=by kernel_rfl
theorem fI:cL prog 19=true:=by kernel_rfl
theorem gN:prog.info? 74=some Try.t74:=by kernel_rfl
theorem pds_c (va:Option Addr) (vl:Nat) (vc:Nat) (pa:Option Addr) (pl:Nat) (pc:Nat) (ea:Option Addr) (el:Nat) (ec:Nat) (es:List Int) (xa:Option Addr) (xl:Nat) (xc:Nat) (xs:List Int) (mn:Int) (oa:Option Addr) (ol:Nat) (oc:Nat) (os:List Int) (sa:Option Addr) (sl:Nat) (sc:Nat) (ss:List gr_TV) (ta:Option Addr) (tl:Nat) (tc:Nat) (ts:List UV) (na:Option Addr) (nl:Nat) (nc:Nat) (ns:List NV) (ka:Option Addr) (kl:Nat) (kc:Nat) (ks:List KV) (w:World) (he:dS w ea es) (hel:es.length=el) (hx:dS w xa xs) (hxl:xs.length=xl) (ho:dS w oa os) (hol:os.length=ol) (hs:dB gr_TV.sev 7 w sa ss) (hsl:ss.length=sl) (ht:dB UV.four 4 w ta ts) (htl:ts.length=tl) (hn:dB NV.two 2 w na ns) (hnl:ns.length=nl) (hk:dB KV.two 2 w ka ks) (hkl:ks.length=kl) (b1:vl≤5000) (b2:pl≤5000) (b3:el≤5000) (b4:xl≤5000) (b5:ol≤5000) (b6:sl≤5000) (b7:tl≤5000) (b8:nl≤5000) (b9:kl≤5000) (hco:kP ⟨va,vl,vc,pa,pl,pc,ea,el,ec,es,xa,xl,xc,xs,mn,oa,ol,oc,os,sa,sl,sc,ss,ta,tl,tc,ts,na,nl,nc,ns,ka,kl,kc,ks⟩) :
  Calls prog 6 #[.agg #[.slice va vl vc,.slice pa pl pc,.slice ea el ec,.slice xa xl xc,.int .i64 mn,.slice oa ol oc,.slice sa sl sc,.slice ta tl tc,.slice na nl nc,.slice ka kl kc],.int .i64 1] w (xQ ⟨va,vl,vc,pa,pl,pc,ea,el,ec,es,xa,xl,xc,xs,mn,oa,ol,oc,os,sa,sl,sc,ss,ta,tl,tc,ts,na,nl,nc,ns,ka,kl,kc,ks⟩ w):=by
 refine cS (args:=[.agg #[.slice va vl vc,.slice pa pl pc,.slice ea el ec,.slice xa xl xc,.int .i64 mn,.slice oa ol oc,.slice sa sl sc,.slice ta tl tc,.slice na nl nc,.slice ka kl kc],.int .i64 1]) func6 rfl ntmps6 rfl ?_
 have hS:=St.start w
 refine aR (aU (cR (cs:=[_,_,_,_,_,_,_,_,_,_]) hS rfl rfl rfl fun B1 W1 hS=>bY (cs:=[_,_,_,_,_,_]) hS zeroValue38 rfl rfl fun B2 W2 hS=>aK rfl rfl (aT (XF.thenN (aR (aR (aU (bF (vs:=[_,_,_,_,_,_,_,_,_,_]) isAgg29 sizeOf29 rfl (aM.own (j:=0) (m:=10) (hS.at_ 1 rfl) rfl) rfl (aL rfl rfl (cD (vs:=[_,_]) hS lM rfl (C6 _ vl vc _ pl pc _ el ec es _ xl xc xs mn _ ol oc os _ sl sc ss _ tl tc ts _ nl nc ns _ kl kc ks  _ (he.below hS.below) hel (hx.below hS.below) hxl (ho.below hS.below) hol (hs.below hS.below) hsl (ht.below hS.below) htl (hn.below hS.below) hnl (hk.below hS.below) hkl b1 b2 b3 b4 b5 b6 b7 b8 b9) rfl fun W3 hS=>aK rfl rfl (aT (XF.thenN (aR (aU (aL rfl rfl (cW rfl rfl rfl (aT (XF.thenN (bJ rfl (fun hc=>?_) (fun hc=>?_))))))))))))))))))))
 ·have hc18:=of_decide_eq_true hc;clear hc
  refine aR (aU (bL (us:=[]) rfl (pN) rfl (aL rfl rfl (bA (i:=0) (vs:=[_,_,_,_,_,_]) (cs':=[_,_,_,_,_,_]) (O':=[_,_]) hS sizeOf38 rfl rfl rfl rfl rfl rfl rfl fun W4 hS=>aK rfl rfl (aT (XF.thenN (bP (XF.thenR (XF.res (fE (vs:=[_,_,_,_,_,_]) results6 isAgg38 sizeOf38 rfl (aM.own (j:=0) (m:=6) (hS.at_ 0 rfl) rfl) rfl) ?_)))))))))
  exact ⟨hS.below,.inl ⟨hc18,rfl⟩⟩
 ·have hc18:=of_decide_eq_false hc;clear hc
  have hce:gr_checkE ⟨va,vl,vc,pa,pl,pc,ea,el,ec,es,xa,xl,xc,xs,mn,oa,ol,oc,os,sa,sl,sc,ss,ta,tl,tc,ts,na,nl,nc,ns,ka,kl,kc,ks⟩=0:=Decidable.of_not_not hc18
  refine bQ (XF.thenN (aR (aU (aQ (o':=0) eE rfl rfl rfl (aV isAgg22 rfl (aI (hS.at_ 1 rfl) rfl) rfl (bU underlying22 rfl rfl (aK rfl rfl (aT (XF.thenN (aR (zO (cs:=[_,_,_,_,_,_]) bG 8 7 hS rfl rfl rfl rfl zeroValue38 rfl (by kernel_rfl) (by kernel_rfl) (by kernel_rfl) (fun d hd=>by cases hd) (dC 1 rfl rfl (isV _) (aB _) (agV (li:=[(1,_)]) rfl (aP rfl) ⟨bB rfl,trivial⟩ (fun w hw=>aW rfl) (aC rfl)) (dC 2 rfl rfl (isV _) (aB _) (agV (li:=[(7,_)]) rfl (aP rfl) ⟨bB rfl,trivial⟩ (fun w hw=>aW rfl) (aC rfl)) ?_)))))))))))))
  refine dC 3 rfl rfl (isV (.agg #[.int .i64 1,.int .i64 0,.slice none 0 0])) (aB _) (ag_call [isV _,isV _] rfl jU (aP rfl) ⟨bO (aG 0 (aA rfl rfl rfl)),bO (aG 1 (aA rfl rfl rfl)),trivial⟩ (fun vs w' hb hh=>by have e:=bN (us:=[_,_]) hh;subst e;exact (C7 _ _).mono fun e w2 h=>⟨_,h.1,fun _ _=>rfl,h.2⟩) (aC rfl)) ?_
  refine dC 4 rfl rfl (isV _) (aB _) (agV (li:=[(2,_)]) rfl (aP rfl) ⟨bB rfl,trivial⟩ (fun w hw=>aO (o':=5) cA rfl rfl) (aC rfl)) (dC 5 rfl rfl (isV _) (aB _) (agV (li:=[(27,_)]) rfl (aP rfl) ⟨aG 3 (aA rfl rfl rfl),trivial⟩ (fun w hw=>aS isAgg23 rfl ((aJ hw 0).cell (Nat.zero_le _) (aI (hS.at_ 1 rfl) rfl))) (aC rfl)) (dC 6 rfl rfl (isV _) (aB _) (agV (li:=[(28,_)]) rfl (aP rfl) ⟨aG 4 (aA rfl rfl rfl),trivial⟩ (fun w hw=>eY underlying23 rfl) (aC rfl)) (dC 7 rfl rfl (isV _) (aB _) (agV (li:=[(26,_),(29,_)]) rfl (aP rfl) ⟨aG 2 (aA rfl rfl rfl),aG 5 (aA rfl rfl rfl),trivial⟩ (fun w hw=>eN (us:=[(0,.agg (List.toArray [_,_,_])),(1,.int .i64 _),(2,.int .i64 _)]) rfl (qT _ _ _ _ _)) (aC rfl)) (nB 8 rfl rfl (qW ?_)))))
  intro B5 AB5 W5 hbR hA1 hA2 hBlo hBhi hS'
  clear hS;have hS:=hS';clear hS'
  refine dY (dY (dY (dY (dY (dY (dY (aE (bV (bA (i:=0) (vs:=[_,_,_,_,_,_]) (cs':=[_,_,_,_,_,_]) (O':=[_,_,_]) hS sizeOf38 rfl rfl rfl rfl rfl rfl rfl fun W6 hS=>aT (XF.thenN (aR (aR ?_))))))))))))
  have hS:=hS.newG 74 10
  refine aU (aQ (o':=6) eF rfl rfl rfl (aV isAgg24 rfl (aI (hS.at_ 2 rfl) rfl) rfl (bU underlying24 rfl rfl (aL rfl rfl (aT (XF.thenN (bR (eI (fun m l W=>∃ (i:Nat) (qs:List QV) (v:Value) (Kk:List (Nat×World)),i≤sl∧m=sl - i∧l=[(1,.int .i64 1),(2,.pointer (some ⟨B1,0,none⟩)),(4,.pointer (some ⟨B2,0,none⟩)),(7,.int .i64 (vl:Int)),(8,.pointer (some ⟨B5,0,none⟩)),(32,.slice sa sl sc),(33,.int .i64 (sl:Int)),(34,.int .i64 (i:Int))]∧qs.length=i∧qs.map QV.pl=(ss.take i).map (mJ ⟨va,vl,vc,pa,pl,pc,ea,el,ec,es,xa,xl,xc,xs,mn,oa,ol,oc,os,sa,sl,sc,ss,ta,tl,tc,ts,na,nl,nc,ns,ka,kl,kc,ks⟩)∧eS w Kk (fun W2=>∀ q∈qs,QN w.heap.size W2 q)∧St w [(B5,[.int .i64 1,.int .i64 0,.slice none 0 0,.int .i64 1,.int .i64 (ol:Int),v],38),(B2,[.int .i64 0,.int .i64 0,.slice none 0 0,.int .i64 0,.int .i64 0,.slice none 0 0],38),(B1,[.slice va vl vc,.slice pa pl pc,.slice ea el ec,.slice xa xl xc,.int .i64 mn,.slice oa ol oc,.slice sa sl sc,.slice ta tl tc,.slice na nl nc,.slice ka kl kc],29)] [⟨v,i,qs.flatMap QV.ten,74,10⟩] Kk W) (sl - 0) ([(1,_),(2,_),(4,_),(7,_),(8,_),(32,_),(33,_),(34,_)]) ⟨rfl,rfl,rfl,rfl,rfl,rfl,rfl,rfl,trivial⟩ (⟨0,[],_,[],Nat.zero_le _,rfl,rfl,rfl,rfl,(fun _ _ q hq=>by cases hq),hS.clear⟩) ?_))))))))
  clear hS
  rintro m l W ⟨i,qs,v,Kk,hi,rfl,rfl,hql,hqm,HQ,hS⟩
  refine aR (aU (dA rfl rfl rfl (aT (XF.thenN (aR (bJ rfl (fun hc=>?_) (fun hc=>?_)))))))
  ·have hc35:=of_decide_eq_true hc;clear hc
   have hk1:i < sl:=by omega
   obtain ⟨b,off,s,rfl,hy,hyc⟩:=hs.get (i:=i) (by omega)
   have k1:=aM.agree hS.agree (Nat.zero_le _) hyc
   refine bQ (XF.thenN (aR (bR (aR (aU (cP  underlying24 sizeOf79 rfl rfl rfl (by omega) rfl rfl (bF (vs:=[_,_,_,_,_,_,_]) isAgg79 sizeOf79 rfl (k1) rfl (bY (cs:=[_,_,_,_,_,_,_]) hS zeroValue79 rfl rfl fun B7 W7 hS=>bA (i:=0) (vs:=[_,_,_,_,_,_,_]) (cs':=[_,_,_,_,_,_,_]) (O':=[_,_,_,_]) hS sizeOf79 rfl rfl rfl rfl rfl rfl rfl fun W8 hS=>aT (XF.thenN (aR ?_))))))))))
   have hsz9:=hS.below.size
   refine aU (aQ (o':=1) cU rfl rfl rfl (aV isAgg3 rfl (aI (hS.at_ 0 rfl) rfl) rfl (Aa (us:=[(0,.int .i64 s.t)]) hS underlying23 sizeOf3 zeroValue3 rfl rfl rfl (fC _) rfl ?_)))
   intro B90 W90 hB90 hlo90 hS9
   clear hS;have hS:=hS9;clear hS9
   have H90:eS w [(_,W90)] (fun W2=>W2.heap[B90]?=some (.cells #[.int .i64 s.t] 3 (0,0))):=eS.one (fun W2 hg=>(hg.2 _ hlo90 (cT hB90)).trans hB90)
   refine aK rfl rfl (aT (XF.thenN (aR (aR (aU (aQ (o':=2) dQ rfl rfl rfl (aV isAgg77 rfl (aI (hS.at_ 0 rfl) rfl) rfl (bW rfl rfl rfl (aT (XF.thenN (bJ rfl (fun hc=>?_) (fun hc=>?_))))))))))))
   ·have hc43:=of_decide_eq_true hc;clear hc
    have h8:s.k=8:=hc43
    obtain ⟨n8,k8,u8,hn8,hnt8,hu8,hk8,hke8⟩:=hco s (List.mem_of_getElem? hy) h8
    have hnt9:n8 < tl:=hnt8
    have hke9:k8 < el:=hke8
    obtain ⟨tb,to_,u9,rfl,hu9,huc9⟩:=ht.get (i:=n8) (by omega)
    obtain rfl:u8=u9:=Option.some.inj (hu8.symm.trans hu9)
    obtain ⟨eb,eo,e8,rfl,he8,hec8⟩:=he.get (i:=k8) (by omega)
    have k2:=(aM.agree hS.agree (Nat.zero_le _) huc9).2.1
    have k3:=(aM.agree hS.agree (Nat.zero_le _) hec8).1
    have hsz11:=hS.below.size
    refine fK (m:=15) bG hS (by kernel_rfl) (by kernel_rfl) rfl (bZ 1 rfl 2 rfl rfl (fun w hw=>aO (o':=2) dP rfl rfl) rfl (aZ 2 rfl 44 0 rfl rfl rfl (fun w hw=>aS isAgg23 rfl ((aJ hw 0).cell (Nat.zero_le _) (aI (hS.at_ 3 rfl) rfl))) rfl (bZ 3 rfl 2 rfl rfl (fun w hw=>aO (o':=7) cX rfl rfl) rfl (aZ 4 rfl 46 2 rfl rfl rfl (fun w hw=>aS isAgg25 rfl ((aJ hw 0).cell (Nat.zero_le _) (aI (hS.at_ 3 rfl) rfl))) rfl (bZ 5 rfl 10 rfl rfl (fun w hw=>aO (o':=6) dI rfl rfl) rfl (aZ 6 rfl 48 4 rfl rfl rfl (fun w hw=>aS isAgg3 rfl ((aJ hw 0).cell (Nat.zero_le _) (aI (hS.at_ 0 rfl) rfl))) rfl (aD 7 rfl (isV _) (aB _) (rgV (li:=[(47,_),(49,_)]) rfl (aP rfl) ⟨aG 3 (aA rfl rfl rfl),aG 5 (aA rfl rfl rfl),trivial⟩ (fun w hw=>bH (j:=n8) underlying25 sizeOf81 rfl rfl (hn8) (hnt8) rfl) (aC rfl)) (aZ 8 rfl 50 6 rfl rfl rfl (fun w hw=>aO jS rfl rfl) rfl (aZ 9 rfl 51 7 rfl rfl rfl (fun w hw=>aS isAgg3 rfl ((aJ hw 0).cell (Nat.zero_le _) (k2))) rfl (aD 10 rfl (isV _) (aB _) (rgV (li:=[(45,_),(52,_)]) rfl (aP rfl) ⟨aG 1 (aA rfl rfl rfl),aG 8 (aA rfl rfl rfl),trivial⟩ (fun w hw=>bH (j:=k8) underlying23 sizeOf3 rfl rfl (hk8) (hke8) rfl) (aC rfl)) (aZ 11 rfl 53 9 rfl rfl rfl (fun w hw=>aS isAgg3 rfl ((aJ hw 0).cell (Nat.zero_le _) (k3))) rfl (bZ 12 rfl 10 rfl rfl (fun w hw=>aO (o':=1) cU rfl rfl) rfl (aZ 13 rfl 55 11 rfl rfl rfl (fun w hw=>aS isAgg3 rfl ((aJ hw 0).cell (Nat.zero_le _) (aI (hS.at_ 0 rfl) rfl))) rfl (aD 14 rfl (dV W90.heap.size 2 3 _) (eJ) (iD (us:=[.int .i64 _,.int .i64 _]) rfl (aP rfl) underlying23 sizeOf3 zeroValue3 rfl rfl ⟨bO (aG 10 (aA rfl rfl rfl)),bO (aG 12 (aA rfl rfl rfl)),trivial⟩ (iU _ _) (aC rfl)) (aD 15 rfl (dV W90.heap.size 2 3 _) (eJ) (zZ rfl (aG 13 (aA rfl rfl rfl)) (aC rfl)) (dF ?_))))))))))))))))
    intro W9 hbR hS'
    clear hS;have hS:=hS';clear hS'
    refine aE (aE (aE (aE (aE (aE (aE (aE (aE (aE (aE (aE (aE ?_))))))))))))
    refine dO ?_;rintro _ ⟨B11_13,rfl,hlo11_13,hrow11_13⟩
    refine dO ?_;rintro _ ⟨B11_14,rfl,hlo11_14,hrow11_14⟩
    have H11:eS w [(_,W9)] (fun W2=>W2.heap[B11_14]?=some (.cells #[.int .i64 e8,.int .i64 s.t] 3 (0,0))):=eS.one (fun W2 hg=>(hg.2 _ hlo11_14 (cT hrow11_14)).trans hrow11_14)
    refine bV (XF.thenN ?_)
    refine mE (p:=11) (k:=13) (gi:=0) (m:=1) bG hS rfl rfl (by kernel_rfl) (by kernel_rfl) (by kernel_rfl) (fun d hd=>by cases hd) rfl rfl underlying36 gN rfl rfl (by show 0 < 10;decide) rfl rfl rfl (by simp only [maxLen];omega) (by show (i+1) * 144≤_;omega) ?_
    refine cN 1 rfl rfl (by kernel_rfl) (rgV (li:=[(8,_)]) rfl (aP rfl) ⟨bB rfl,trivial⟩ (fun w hw=>aO (o':=5) cM rfl rfl) (aC rfl)) (cN 2 rfl rfl (by kernel_rfl) (rgV (li:=[(58,_)]) rfl (aP rfl) ⟨aG 0 (aA rfl rfl rfl),trivial⟩ (fun w hw=>aS isAgg36 rfl ((aJ hw 0).cell (Nat.zero_le _) (aI (hS.at_ 1 rfl) rfl))) (aC rfl)) (cN 3 rfl rfl (by kernel_rfl) (rgV (li:=[(10,_)]) rfl (aP rfl) ⟨bB rfl,trivial⟩ (fun w hw=>aO (o':=0) cO rfl rfl) (aC rfl)) (cN 4 rfl rfl (by kernel_rfl) (rgV (li:=[(60,_)]) rfl (aP rfl) ⟨aG 2 (aA rfl rfl rfl),trivial⟩ (fun w hw=>aS isAgg3 rfl ((aJ hw 0).cell (Nat.zero_le _) (aI (hS.at_ 0 rfl) rfl))) (aC rfl)) (cN 5 rfl rfl (by kernel_rfl) (rgV (li:=[(11,_)]) rfl (aP rfl) ⟨bB rfl,trivial⟩ (fun w hw=>aW rfl) (aC rfl)) (cN 6 rfl rfl (by kernel_rfl) (rgV (li:=[(1,_)]) rfl (aP rfl) ⟨bB rfl,trivial⟩ (fun w hw=>aW rfl) (aC rfl)) (cN 7 rfl rfl (by kernel_rfl) (rgV (li:=[(7,_)]) rfl (aP rfl) ⟨bB rfl,trivial⟩ (fun w hw=>aW rfl) (aC rfl)) (cN 8 rfl rfl (by kernel_rfl) (rgV (li:=[(10,_)]) rfl (aP rfl) ⟨bB rfl,trivial⟩ (fun w hw=>cJ (vs:=[_,_,_,_,_,_,_]) isAgg79 sizeOf79 rfl (aM.agree (aJ hw 0) (Nat.zero_le _) (aM.own (j:=0) (m:=7) (hS.at_ 0 rfl) rfl))) (aC rfl)) ?_)))))))
    refine cN 9 rfl rfl (by kernel_rfl) (cH [isV _,isV _,isV _] rfl fI (aP rfl) ⟨bO (aG 5 (aA rfl rfl rfl)),bO (aG 6 (aA rfl rfl rfl)),bO (aG 7 (aA rfl rfl rfl)),trivial⟩ (fun vs w' hb hh=>by have e:=bN (us:=[_,_,_]) hh;subst e;exact (rS _ ⟨_,_,_,_,_,_,_⟩ _).mono fun e w2 h=>⟨_,h.1,rfl,h.2⟩) (aC rfl)) ?_
    refine cN 10 rfl rfl (by kernel_rfl) (rgV (li:=[(61,_),(62,_),(66,_)]) rfl (aP rfl) ⟨aG 3 (aA rfl rfl rfl),aG 4 (aA rfl rfl rfl),aG 8 (aA rfl rfl rfl),trivial⟩ (fun w hw=>eN (us:=[(1,.int .i64 _),(3,.slice _ _ _),(4,.agg (List.toArray [_,_,_,_,_,_]))]) rfl (lT _ _ _ _ _ _ _ _ _ _)) (aC rfl)) (iF 11 rfl rfl (by kernel_rfl) (dV W9.heap.size 1 74 _) (eJ) (iD (us:=[.agg (List.toArray [_,_,_,_,_,_,_,_,_,_])]) rfl (aP rfl) underlying36 sizeOf74 zeroValue74 rfl rfl ⟨bO (aG 9 (aA rfl rfl rfl)),trivial⟩ (jT _ _ _ _ _ _ _ _ _ _) (aC rfl)) (iG 12 rfl rfl (gF 13 rfl rfl (rgV (li:=[(8,_)]) rfl (aP rfl) ⟨bB rfl,trivial⟩ (fun w hw=>aO (o':=5) cM rfl rfl) (aC rfl)) (lgV (li:=[(8,_)]) rfl (aP rfl) ⟨bB rfl,trivial⟩ (fun w=>aO (o':=5) cM rfl rfl) (aC rfl) rfl) (iE ⟨_,_,aG 1 (aA rfl rfl rfl),aG 10 (aA rfl rfl rfl),gG rfl rfl,?_⟩))))
    intro A10 v10 news10 W10 hbR hqA10 hS'
    clear hS;have hS:=hS';clear hS'
    cases hqA10
    refine aE (aE (aE (aE (aE (aE (aE (aE (aE (aE ?_)))))))))
    refine dO ?_;intro _ _
    refine aE (aE ?_)
    obtain ⟨a2,c2,e2,hac2⟩:=dZ (hS.row 0 rfl)
    dsimp only at e2
    subst e2
    refine bV (eV (i:=1) (cs':=[_,_,_,_,_,_]) (O':=[_,_,_,_]) hS sizeOf36 rfl rfl rfl rfl rfl rfl rfl fun W11 hS=>aT (XF.blkN (XF.thenN (aU (dH rfl rfl (IntWalk.i64_in _ (by omega)) rfl (aL rfl rfl (aT ?_)))))))
    have hS9:=hS.tail
    refine XF.round (sl - (i+1)) [(1,_),(2,_),(4,_),(7,_),(8,_),(32,_),(33,_),(34,_)] (by omega) ⟨rfl,rfl,rfl,rfl,rfl,rfl,rfl,rfl,trivial⟩ ⟨i+1,qs++[⟨s.f,some ⟨B11_14,0,none⟩,2,2,[e8,s.t]⟩],_,_,by omega,rfl,rfl,by simp [hql];try omega,by rw [List.map_append,hqm,List.take_add_one,List.map_append,hy,List.map_cons,List.map_nil];show _=_++[_];rw [tI h8 hn8 hu8 hk8 he8];rfl,?_,hS9.castG (by simp [Nat.add_assoc])⟩
    exact fun h2 hk q hq=>by
     rcases List.mem_append.1 hq with hq | hq
     ·exact HQ h2 (fun r hr=>hk r (by simp [hr])) q hq
     ·rw [List.mem_singleton] at hq;subst hq
      exact ⟨rfl,.inr ⟨B11_14,rfl,Nat.le_trans hsz11 hlo11_14,H11 h2 (fun r hr=>hk r (by simp at hr;subst hr;simp))⟩⟩
   ·have hc43:=of_decide_eq_false hc;clear hc
    have n8:¬ s.k=8:=hc43
    refine bQ (XF.thenN ?_)
    refine mE (p:=11) (k:=13) (gi:=0) (m:=1) bG hS rfl rfl (by kernel_rfl) (by kernel_rfl) (by kernel_rfl) (fun d hd=>by cases hd) rfl rfl underlying36 gN rfl rfl (by show 0 < 10;decide) rfl rfl rfl (by simp only [maxLen];omega) (by show (i+1) * 144≤_;omega) ?_
    refine cN 1 rfl rfl (by kernel_rfl) (rgV (li:=[(8,_)]) rfl (aP rfl) ⟨bB rfl,trivial⟩ (fun w hw=>aO (o':=5) cM rfl rfl) (aC rfl)) (cN 2 rfl rfl (by kernel_rfl) (rgV (li:=[(58,_)]) rfl (aP rfl) ⟨aG 0 (aA rfl rfl rfl),trivial⟩ (fun w hw=>aS isAgg36 rfl ((aJ hw 0).cell (Nat.zero_le _) (aI (hS.at_ 1 rfl) rfl))) (aC rfl)) (cN 3 rfl rfl (by kernel_rfl) (rgV (li:=[(10,_)]) rfl (aP rfl) ⟨bB rfl,trivial⟩ (fun w hw=>aO (o':=0) cO rfl rfl) (aC rfl)) (cN 4 rfl rfl (by kernel_rfl) (rgV (li:=[(60,_)]) rfl (aP rfl) ⟨aG 2 (aA rfl rfl rfl),trivial⟩ (fun w hw=>aS isAgg3 rfl ((aJ hw 0).cell (Nat.zero_le _) (aI (hS.at_ 0 rfl) rfl))) (aC rfl)) (cN 5 rfl rfl (by kernel_rfl) (rgV (li:=[(11,_)]) rfl (aP rfl) ⟨bB rfl,trivial⟩ (fun w hw=>aW rfl) (aC rfl)) (cN 6 rfl rfl (by kernel_rfl) (rgV (li:=[(1,_)]) rfl (aP rfl) ⟨bB rfl,trivial⟩ (fun w hw=>aW rfl) (aC rfl)) (cN 7 rfl rfl (by kernel_rfl) (rgV (li:=[(7,_)]) rfl (aP rfl) ⟨bB rfl,trivial⟩ (fun w hw=>aW rfl) (aC rfl)) (cN 8 rfl rfl (by kernel_rfl) (rgV (li:=[(10,_)]) rfl (aP rfl) ⟨bB rfl,trivial⟩ (fun w hw=>cJ (vs:=[_,_,_,_,_,_,_]) isAgg79 sizeOf79 rfl (aM.agree (aJ hw 0) (Nat.zero_le _) (aM.own (j:=0) (m:=7) (hS.at_ 0 rfl) rfl))) (aC rfl)) ?_)))))))
    refine cN 9 rfl rfl (by kernel_rfl) (cH [isV _,isV _,isV _] rfl fI (aP rfl) ⟨bO (aG 5 (aA rfl rfl rfl)),bO (aG 6 (aA rfl rfl rfl)),bO (aG 7 (aA rfl rfl rfl)),trivial⟩ (fun vs w' hb hh=>by have e:=bN (us:=[_,_,_]) hh;subst e;exact (rS _ ⟨_,_,_,_,_,_,_⟩ _).mono fun e w2 h=>⟨_,h.1,rfl,h.2⟩) (aC rfl)) ?_
    refine cN 10 rfl rfl (by kernel_rfl) (rgV (li:=[(61,_),(62,_),(66,_)]) rfl (aP rfl) ⟨aG 3 (aA rfl rfl rfl),aG 4 (aA rfl rfl rfl),aG 8 (aA rfl rfl rfl),trivial⟩ (fun w hw=>eN (us:=[(1,.int .i64 _),(3,.slice _ _ _),(4,.agg (List.toArray [_,_,_,_,_,_]))]) rfl (lT _ _ _ _ _ _ _ _ _ _)) (aC rfl)) (iF 11 rfl rfl (by kernel_rfl) (dV W90.heap.size 1 74 _) (eJ) (iD (us:=[.agg (List.toArray [_,_,_,_,_,_,_,_,_,_])]) rfl (aP rfl) underlying36 sizeOf74 zeroValue74 rfl rfl ⟨bO (aG 9 (aA rfl rfl rfl)),trivial⟩ (jT _ _ _ _ _ _ _ _ _ _) (aC rfl)) (iG 12 rfl rfl (gF 13 rfl rfl (rgV (li:=[(8,_)]) rfl (aP rfl) ⟨bB rfl,trivial⟩ (fun w hw=>aO (o':=5) cM rfl rfl) (aC rfl)) (lgV (li:=[(8,_)]) rfl (aP rfl) ⟨bB rfl,trivial⟩ (fun w=>aO (o':=5) cM rfl rfl) (aC rfl) rfl) (iE ⟨_,_,aG 1 (aA rfl rfl rfl),aG 10 (aA rfl rfl rfl),gG rfl rfl,?_⟩))))
    intro A12 v12 news12 W12 hbR hqA12 hS'
    clear hS;have hS:=hS';clear hS'
    cases hqA12
    refine aE (aE (aE (aE (aE (aE (aE (aE (aE (aE ?_)))))))))
    refine dO ?_;intro _ _
    refine aE (aE ?_)
    obtain ⟨a2,c2,e2,hac2⟩:=dZ (hS.row 0 rfl)
    dsimp only at e2
    subst e2
    refine bV (eV (i:=1) (cs':=[_,_,_,_,_,_]) (O':=[_,_,_,_]) hS sizeOf36 rfl rfl rfl rfl rfl rfl rfl fun W13 hS=>aT (XF.blkN (XF.thenN (aU (dH rfl rfl (IntWalk.i64_in _ (by omega)) rfl (aL rfl rfl (aT ?_)))))))
    have hS9:=hS.tail
    refine XF.round (sl - (i+1)) [(1,_),(2,_),(4,_),(7,_),(8,_),(32,_),(33,_),(34,_)] (by omega) ⟨rfl,rfl,rfl,rfl,rfl,rfl,rfl,rfl,trivial⟩ ⟨i+1,qs++[⟨s.f,some ⟨B90,0,none⟩,1,1,[s.t]⟩],_,_,by omega,rfl,rfl,by simp [hql];try omega,by rw [List.map_append,hqm,List.take_add_one,List.map_append,hy,List.map_cons,List.map_nil];show _=_++[_];rw [tH n8];rfl,?_,hS9.castG (by simp [Nat.add_assoc])⟩
    exact fun h2 hk q hq=>by
     rcases List.mem_append.1 hq with hq | hq
     ·exact HQ h2 (fun r hr=>hk r (by simp [hr])) q hq
     ·rw [List.mem_singleton] at hq;subst hq
      exact ⟨rfl,.inr ⟨B90,rfl,Nat.le_trans hsz9 hlo90,H90 h2 (fun r hr=>hk r (by simp at hr;subst hr;simp))⟩⟩
  ·have hc35:=of_decide_eq_false hc;clear hc
   rw [List.take_of_length_le (by omega)] at hqm
   refine cZ (XF.thenX (XF.thenX (XF.blkX (XF.thenN (aR (aR (aU (aQ (o':=3) eT rfl rfl rfl (aV isAgg23 rfl (aI (hS.at_ 2 rfl) rfl) rfl (bU underlying23 rfl rfl (aL rfl rfl (aT (XF.thenN (bR ?_))))))))))))))
   refine eI (fun m l W=>∃ (i:Nat) (qs:List QV) (v:Value) (Kk:List (Nat×World)),i≤xl∧m=xl - i∧l=[(1,.int .i64 1),(2,.pointer (some ⟨B1,0,none⟩)),(4,.pointer (some ⟨B2,0,none⟩)),(7,.int .i64 (vl:Int)),(8,.pointer (some ⟨B5,0,none⟩)),(73,.slice xa xl xc),(74,.int .i64 (xl:Int)),(75,.int .i64 (i:Int))]∧qs.length=sl+i∧qs.map QV.pl=ss.map (mJ ⟨va,vl,vc,pa,pl,pc,ea,el,ec,es,xa,xl,xc,xs,mn,oa,ol,oc,os,sa,sl,sc,ss,ta,tl,tc,ts,na,nl,nc,ns,ka,kl,kc,ks⟩)++(xs.take i).map uO∧eS w Kk (fun W2=>∀ q∈qs,QN w.heap.size W2 q)∧St w [(B5,[.int .i64 1,.int .i64 0,.slice none 0 0,.int .i64 1,.int .i64 (ol:Int),v],38),(B2,[.int .i64 0,.int .i64 0,.slice none 0 0,.int .i64 0,.int .i64 0,.slice none 0 0],38),(B1,[.slice va vl vc,.slice pa pl pc,.slice ea el ec,.slice xa xl xc,.int .i64 mn,.slice oa ol oc,.slice sa sl sc,.slice ta tl tc,.slice na nl nc,.slice ka kl kc],29)] [⟨v,sl+i,qs.flatMap QV.ten,74,10⟩] Kk W) (xl - 0) ([(1,_),(2,_),(4,_),(7,_),(8,_),(73,_),(74,_),(75,_)]) ⟨rfl,rfl,rfl,rfl,rfl,rfl,rfl,rfl,trivial⟩ (⟨0,qs,_,Kk,Nat.zero_le _,rfl,rfl,by omega,by rw [hqm];simp,HQ,hS.castG (by rw [show i=sl+0 by omega])⟩) ?_
   clear hS
   rintro m l W ⟨i,qs,v,Kk,hi,rfl,rfl,hql,hqm,HQ,hS⟩
   refine aR (aU (dA rfl rfl rfl (aT (XF.thenN (aR (bJ rfl (fun hc=>?_) (fun hc=>?_)))))))
   ·have hc76:=of_decide_eq_true hc;clear hc
    have hk1:i < xl:=by omega
    obtain ⟨b,off,y,rfl,hy,hyc⟩:=hx.get (i:=i) (by omega)
    have k1:=(aM.agree hS.agree (Nat.zero_le _) hyc).1
    refine bQ (XF.thenN (aR (bR (aR (aU (cP  underlying23 sizeOf3 rfl rfl rfl (by omega) rfl rfl (aV isAgg3 rfl (k1) rfl (aK rfl rfl (aT (XF.thenN ?_))))))))))
    refine mE (p:=9) (k:=11) (gi:=0) (m:=1) bG hS rfl rfl (by kernel_rfl) (by kernel_rfl) (by kernel_rfl) (fun d hd=>by cases hd) rfl rfl underlying36 gN rfl rfl (by show 0 < 10;decide) rfl rfl rfl (by simp only [maxLen];omega) (by show (sl+i+1) * 144≤_;omega) ?_
    refine cN 1 rfl rfl (by kernel_rfl) (rgV (li:=[(8,_)]) rfl (aP rfl) ⟨bB rfl,trivial⟩ (fun w hw=>aO (o':=5) cM rfl rfl) (aC rfl)) (cN 2 rfl rfl (by kernel_rfl) (rgV (li:=[(79,_)]) rfl (aP rfl) ⟨aG 0 (aA rfl rfl rfl),trivial⟩ (fun w hw=>aS isAgg36 rfl ((aJ hw 0).cell (Nat.zero_le _) (aI (hS.at_ 0 rfl) rfl))) (aC rfl)) (cN 3 rfl rfl (by kernel_rfl) (rgV (li:=[(13,_)]) rfl (aP rfl) ⟨bB rfl,trivial⟩ (fun w hw=>aW rfl) (aC rfl)) (cN 4 rfl rfl (by kernel_rfl) (rgV (li:=[(1,_)]) rfl (aP rfl) ⟨bB rfl,trivial⟩ (fun w hw=>aW rfl) (aC rfl)) (cN 5 rfl rfl (by kernel_rfl) (rgV (li:=[(7,_)]) rfl (aP rfl) ⟨bB rfl,trivial⟩ (fun w hw=>aW rfl) (aC rfl)) (cN 6 rfl rfl (by kernel_rfl) (rgV (li:=[]) rfl (aP rfl) trivial (fun w hw=>eN (us:=[(2,.int .i64 _)]) rfl (hY _)) (aC rfl)) ?_)))))
    refine cN 7 rfl rfl (by kernel_rfl) (cH [isV _,isV _,isV _] rfl fI (aP rfl) ⟨bO (aG 3 (aA rfl rfl rfl)),bO (aG 4 (aA rfl rfl rfl)),bO (aG 5 (aA rfl rfl rfl)),trivial⟩ (fun vs w' hb hh=>by have e:=bN (us:=[_,_,_]) hh;subst e;exact (rS _ ⟨_,_,_,_,_,_,_⟩ _).mono fun e w2 h=>⟨_,h.1,rfl,h.2⟩) (aC rfl)) ?_
    refine cN 8 rfl rfl (by kernel_rfl) (rgV (li:=[(81,_),(85,_)]) rfl (aP rfl) ⟨aG 2 (aA rfl rfl rfl),aG 6 (aA rfl rfl rfl),trivial⟩ (fun w hw=>eN (us:=[(1,.int .i64 _),(4,.agg (List.toArray [_,_,_,_,_,_]))]) rfl (sZ _ _ _ _ _ _ _)) (aC rfl)) (iF 9 rfl rfl (by kernel_rfl) (dV W.heap.size 1 74 _) (eJ) (iD (us:=[.agg (List.toArray [_,_,_,_,_,_,_,_,_,_])]) rfl (aP rfl) underlying36 sizeOf74 zeroValue74 rfl rfl ⟨bO (aG 7 (aA rfl rfl rfl)),trivial⟩ (jT _ _ _ _ _ _ _ _ _ _) (aC rfl)) (iG 10 rfl rfl (gF 11 rfl rfl (rgV (li:=[(8,_)]) rfl (aP rfl) ⟨bB rfl,trivial⟩ (fun w hw=>aO (o':=5) cM rfl rfl) (aC rfl)) (lgV (li:=[(8,_)]) rfl (aP rfl) ⟨bB rfl,trivial⟩ (fun w=>aO (o':=5) cM rfl rfl) (aC rfl) rfl) (iE ⟨_,_,aG 1 (aA rfl rfl rfl),aG 8 (aA rfl rfl rfl),gG rfl rfl,?_⟩))))
    intro A14 v14 news14 W14 hbR hqA14 hS'
    clear hS;have hS:=hS';clear hS'
    cases hqA14
    refine aE (aE (aE (aE (aE (aE (aE (aE ?_)))))))
    refine dO ?_;intro _ _
    refine aE (aE ?_)
    obtain ⟨a2,c2,e2,hac2⟩:=dZ (hS.row 0 rfl)
    dsimp only at e2
    subst e2
    refine bV (eV (i:=0) (cs':=[_,_,_,_,_,_]) (O':=[_,_,_]) hS sizeOf36 rfl rfl rfl rfl rfl rfl rfl fun W15 hS=>aT (XF.blkN (XF.thenN (aU (dH rfl rfl (IntWalk.i64_in _ (by omega)) rfl (aL rfl rfl (aT ?_)))))))
    have hS9:=hS
    refine XF.round (xl - (i+1)) [(1,_),(2,_),(4,_),(7,_),(8,_),(73,_),(74,_),(75,_)] (by omega) ⟨rfl,rfl,rfl,rfl,rfl,rfl,rfl,rfl,trivial⟩ ⟨i+1,qs++[⟨y,none,0,0,[]⟩],_,_,by omega,rfl,rfl,by simp [hql];try omega,by rw [List.map_append,hqm,List.take_add_one,List.map_append,hy,List.append_assoc];rfl,?_,hS9.castG (by simp [Nat.add_assoc])⟩
    exact fun h2 hk q hq=>by
     rcases List.mem_append.1 hq with hq | hq
     ·exact HQ h2 (fun r hr=>hk r (by simp [hr])) q hq
     ·rw [List.mem_singleton] at hq;subst hq
      exact ⟨rfl,.inl rfl⟩
   ·have hc76:=of_decide_eq_false hc;clear hc
    rw [List.take_of_length_le (by omega)] at hqm
    obtain ⟨a9,c9,rfl,hac⟩:=dZ (v:=v) (n:=sl+i) (hS.row 0 rfl)
    refine cZ (XF.thenX (XF.thenX (XF.blkX (XF.thenN (aR (aU (bF (vs:=[_,_,_,_,_,_]) isAgg38 sizeOf38 rfl (aM.own (j:=0) (m:=6) (hS.at_ 0 rfl) rfl) rfl (bA (i:=1) (vs:=[_,_,_,_,_,_]) (cs':=[_,_,_,_,_,_]) (O':=[_,_,_]) hS sizeOf38 rfl rfl rfl rfl rfl rfl rfl fun W16 hS=>aK rfl rfl (aT (XF.thenN (bP (XF.res (fE (vs:=[_,_,_,_,_,_]) results6 isAgg38 sizeOf38 rfl (aM.own (j:=0) (m:=6) (hS.at_ 1 rfl) rfl) rfl) ?_))))))))))))
    exact ⟨hS.below,.inr ⟨hce,a9,c9,qs,by rw [hql],by rw [hql];exact hS.row 0 rfl,hqm,HQ hS (fun r hr=>by simp [hr])⟩⟩
theorem rT {α:Type} {f:α→List Value} {sz:Nat} (hf:∀ x,(f x).length=sz):∀ {xs:List α} {i:Nat} {x:α},xs[i]?=some x→((xs.flatMap f).drop (i * sz)).take sz=f x
 | [],i,x,h=>by simp at h
 | y::xs,0,x,h=>by
  simp at h;subst h
  rw [Nat.zero_mul,List.drop_zero,List.flatMap_cons,List.take_append_of_le_length (by rw [hf];exact Nat.le_refl _),List.take_of_length_le (by rw [hf];exact Nat.le_refl _)]
 | y::xs,i+1,x,h=>by
  have h2:(i+1) * sz=(f y).length+i * sz:=by rw [hf,Nat.succ_mul,Nat.add_comm]
  rw [List.flatMap_cons,h2,← List.drop_drop,List.drop_left]
  exact rT hf (by simpa using h)
theorem mL {α:Type} {f:α→List Value} {sz:Nat} {W:World} {B:Nat} {xs:List α} {T:TypeId} (hf:∀ x,(f x).length=sz) (h:W.heap[B]?=some (.cells (xs.flatMap f).toArray T (0,0))):dB f sz W (some ⟨B,0,none⟩) xs :=
 .inr ⟨B,0,rfl,fun i x hx=>by rw [Nat.zero_add];exact aM.own h (rT hf hx)⟩
structure KnownG (g:GV):Prop where
 v:g.vl=0
 p:g.pl=2
 el:g.el=2
 es:g.es=[0,3]
 xl:g.xl=2
 xs:g.xs=[1,4]
 mn:g.mn=0
 ol:g.ol=5
 os:g.os=[0,0,0,1,1]
 sl:g.sl=3
 ss:g.ss=[⟨0,2,8,0,0,0,0⟩,⟨2,1,1,0,0,0,0⟩,⟨3,4,1,0,0,0,0⟩]
 tl:g.tl=1
 ts:∃ nm,g.ts=[⟨nm,1,0,2⟩]
 nl:g.nl=0
 ns:g.ns=[]
 kl:g.kl=0
 ks:g.ks=[]
theorem KnownG.few {g:GV} (h:KnownG g):GFew g:=⟨by rw [h.v];decide,by rw [h.p];decide,by rw [h.el];decide,by rw [h.xl];decide,by rw [h.ol];decide,by rw [h.sl];decide,by rw [h.tl];decide,by rw [h.nl];decide,by rw [h.kl];decide⟩
theorem KnownG.facts {g:GV} (h:KnownG g):gr_checkE g=0∧kP g∧g.ss.map (mJ g)++g.xs.map uO=[(0,[3,2]),(2,[1]),(3,[4]),(1,[]),(4,[])]∧mI g 3 [0]=(0,[3,2]):=by
 obtain ⟨va,vl,vc,pa,pl,pc,ea,el,ec,es,xa,xl,xc,xs,mn,oa,ol,oc,os,sa,sl,sc,ss,ta,tl,tc,ts,na,nl,nc,ns,ka,kl,kc,ks⟩:=g
 obtain ⟨h1,h2,h3,h4,h5,h6,h7,h8,h9,h10,h11,h12,⟨nm,h13⟩,h14,h15,h16,h17⟩:=h
 dsimp only at h1 h2 h3 h4 h5 h6 h7 h8 h9 h10 h11 h12 h13 h14 h15 h16 h17
 subst h1 h2 h3 h4 h5 h6 h7 h8 h9 h10 h11 h12 h13 h14 h15 h16 h17
 refine ⟨rfl,fun s hs h8=>?_,rfl,rfl⟩
 simp only [List.mem_cons,List.not_mem_nil,or_false] at hs
 rcases hs with rfl | rfl | rfl
 ·exact ⟨0,1,⟨nm,1,0,2⟩,rfl,by show (0:Nat) < 1;decide,rfl,rfl,by show (1:Nat) < 2;decide⟩
 ·exact absurd h8 (by decide)
 ·exact absurd h8 (by decide)
theorem Bk {g:GV} {w:World} {e:Ending} {w':World} (h:xQ g w e w') (hc:gr_checkE g=0):∃ a c,∃ qs:List QV,e = .returned (.tuple #[.agg #[.int .i64 1,.int .i64 0,.slice none 0 0,.int .i64 1,.int .i64 (g.ol:Int),.slice a qs.length c],.int .i64 0]) ∧
  w'.ownsRow w.heap.size 74 10 (.slice a qs.length c) qs.length (qs.flatMap QV.ten)∧qs.map QV.pl=g.ss.map (mJ g)++g.xs.map uO∧(∀ q∈qs,QN w.heap.size w' q)∧Below w.heap.size w w':=by
 obtain ⟨hb,⟨h1,_⟩ | ⟨_,a,c,qs,h2,h3,h4,h5⟩⟩:=h
 ·exact absurd hc h1
 ·exact ⟨a,c,qs,h2,h3,h4,h5,hb⟩
theorem xR {R:Int×List Int} {w:World} {e:Ending} {w':World} {l:List Int} (h:qY R w e w') (hR:R=(0,l)):∃ a c,e = .returned (.tuple #[.agg #[.int .i64 0,.slice a l.length c],.int .i64 0])∧kO w.heap.size w' a c l∧Below w.heap.size w w':=by
 subst hR
 obtain ⟨hb,⟨h1,_⟩ | ⟨_,a,c,h2,h3⟩⟩:=h
 ·exact absurd rfl h1
 ·exact ⟨a,c,h2,h3,hb⟩
theorem xS {qs:List QV} (h:qs.map QV.pl=[(0,[3,2]),(2,[1]),(3,[4]),(1,[]),(4,[])]):∃ a0 l0 c0 q1 q2 q3 a4 l4 c4,qs=[⟨0,a0,l0,c0,[3,2]⟩,q1,q2,q3,⟨4,a4,l4,c4,[]⟩]:=by
 have hl:qs.length=5:=by simpa using congrArg List.length h
 match qs,hl,h with
 | [⟨g0,a0,l0,c0,w0⟩,q1,q2,q3,⟨g4,a4,l4,c4,w4⟩],_,h =>
  simp only [List.map_cons,List.map_nil,List.cons.injEq,QV.pl,Prod.mk.injEq] at h
  obtain ⟨⟨rfl,rfl⟩,_,_,_,⟨rfl,rfl⟩,_⟩:=h
  exact ⟨a0,l0,c0,q1,q2,q3,a4,l4,c4,rfl⟩
theorem mM {lo:Nat} {A W:World} {B:Nat} {o:Obj} (hg:dN lo A W) (hB:lo≤B) (h:A.heap[B]?=some o):W.heap[B]?=some o:=(hg.2 B hB (cT h)).trans h
theorem lW (v1a:Option Addr) (v1l:Nat) (v1c:Nat) (v2a:Option Addr) (v2l:Nat) (v2c:Nat) (v3a:Option Addr) (v3l:Nat) (v3c:Nat) (v5a:Option Addr) (v5l:Nat) (v5c:Nat) (v6a:Option Addr) (v6l:Nat) (v6c:Nat) (v7a:Option Addr) (v7l:Nat) (v7c:Nat):prog.built 29 [(1,.slice v1a v1l v1c),(2,.slice v2a v2l v2c),(3,.slice v3a v3l v3c),(5,.slice v5a v5l v5c),(6,.slice v6a v6l v6c),(7,.slice v7a v7l v7c)]=some #[.slice none 0 0,.slice v1a v1l v1c,.slice v2a v2l v2c,.slice v3a v3l v3c,.int .i64 0,.slice v5a v5l v5c,.slice v6a v6l v6c,.slice v7a v7l v7c,.slice none 0 0,.slice none 0 0]:=by kernel_rfl
theorem qU (v0:ByteArray) (v1:Int) (v3:Int):prog.built 81 [(0,.string v0),(1,.int .i64 v1),(3,.int .i64 v3)]=some #[.string v0,.int .i64 v1,.int .i64 0,.int .i64 v3]:=by kernel_rfl
theorem lU (v0:Int) (v1:Int) (v2:Int):prog.built 79 [(0,.int .i64 v0),(1,.int .i64 v1),(2,.int .i64 v2)]=some #[.int .i64 v0,.int .i64 v1,.int .i64 v2,.int .i64 0,.int .i64 0,.int .i64 0,.int .i64 0]:=by kernel_rfl
theorem tA (v1:Int) (v2:Int):prog.built 79 [(1,.int .i64 v1),(2,.int .i64 v2)]=some #[.int .i64 0,.int .i64 v1,.int .i64 v2,.int .i64 0,.int .i64 0,.int .i64 0,.int .i64 0]:=by kernel_rfl
theorem xT (v0:ByteArray) (v1:ByteArray):Instr.fill (fun i=>some (i * 1,1)) ((Array.range (2 * 1)).map ((Value.cells (.string ByteArray.empty))[· % (Value.cells (.string ByteArray.empty)).size]!)) [(0,.string v0),(1,.string v1)]=some (List.toArray [.string v0,.string v1]):=by kernel_rfl
theorem xU (v0:Int) (v1:Int) (v2:Int) (v3:Int) (v4:Int):Instr.fill (fun i=>some (i * 1,1)) ((Array.range (5 * 1)).map ((Value.cells (.int .i64 0))[· % (Value.cells (.int .i64 0)).size]!)) [(0,.int .i64 v0),(1,.int .i64 v1),(2,.int .i64 v2),(3,.int .i64 v3),(4,.int .i64 v4)]=some (List.toArray [.int .i64 v0,.int .i64 v1,.int .i64 v2,.int .i64 v3,.int .i64 v4]):=by kernel_rfl
theorem xV (v00:Value) (v01:Value) (v02:Value) (v03:Value) (v04:Value) (v05:Value) (v06:Value) (v10:Value) (v11:Value) (v12:Value) (v13:Value) (v14:Value) (v15:Value) (v16:Value) (v20:Value) (v21:Value) (v22:Value) (v23:Value) (v24:Value) (v25:Value) (v26:Value):Instr.fill (fun i=>some (i * 7,7)) ((Array.range (3 * 7)).map ((Value.cells (.agg #[.int .i64 0,.int .i64 0,.int .i64 0,.int .i64 0,.int .i64 0,.int .i64 0,.int .i64 0]))[· % (Value.cells (.agg #[.int .i64 0,.int .i64 0,.int .i64 0,.int .i64 0,.int .i64 0,.int .i64 0,.int .i64 0])).size]!)) [(0,.agg #[v00,v01,v02,v03,v04,v05,v06]),(1,.agg #[v10,v11,v12,v13,v14,v15,v16]),(2,.agg #[v20,v21,v22,v23,v24,v25,v26])]=some (List.toArray [v00,v01,v02,v03,v04,v05,v06,v10,v11,v12,v13,v14,v15,v16,v20,v21,v22,v23,v24,v25,v26]):=by kernel_rfl
theorem xW (v00:Value) (v01:Value) (v02:Value) (v03:Value):Instr.fill (fun i=>some (i * 4,4)) ((Array.range (1 * 4)).map ((Value.cells (.agg #[.string ByteArray.empty,.int .i64 0,.int .i64 0,.int .i64 0]))[· % (Value.cells (.agg #[.string ByteArray.empty,.int .i64 0,.int .i64 0,.int .i64 0])).size]!)) [(0,.agg #[v00,v01,v02,v03])]=some (List.toArray [v00,v01,v02,v03]):=by kernel_rfl
theorem xX (w:World) (b o:Nat):(Instr.fieldAt 74 (.pointer (some ⟨b,o,none⟩)) 1).run prog w = .ok (.pointer (some ⟨b,o+1,none⟩)) w:=by
 simp [Instr.fieldAt,run_underlying underlying74,Instr.sureAddr,go_sem,Addr.add_lit]
theorem jV (w:World) (b o:Nat):(Instr.fieldAt 74 (.pointer (some ⟨b,o,none⟩)) 3).run prog w = .ok (.pointer (some ⟨b,o+3,none⟩)) w:=by
 simp [Instr.fieldAt,run_underlying underlying74,Instr.sureAddr,go_sem,Addr.add_lit]
theorem xY:cL prog 15=true:=by kernel_rfl
theorem tJ:cL prog 6=true:=by kernel_rfl
theorem xZ:cL prog 16=true:=by kernel_rfl
theorem C8 (w:World) :
  Calls prog 15 #[] w (fun e w'=>∃ g:GV,e = .returned g.val∧KnownG g∧(∀ W2,dN w.heap.size w' W2→GIn W2 g)∧Below w.heap.size w w'):=by
 refine cS (args:=[]) func15 rfl ntmps15 rfl ?_
 have hS:=St.start w
 refine aR (aU (bY (cs:=[_,_,_,_,_,_,_,_,_,_]) hS zeroValue29 rfl rfl fun B1 W1 hS=>aT (XF.thenN (aR (aU (cQ (us:=[(0,.string _),(1,.string _)]) hS underlying22 sizeOf9 zeroValue9 rfl rfl rfl (xT _ _) rfl fun B2 W2 hS=>cQ (us:=[(0,.int .i64 _),(1,.int .i64 _)]) hS underlying23 sizeOf3 zeroValue3 rfl rfl rfl (iU _ _) rfl fun B3 W3 hS=>cQ (us:=[(0,.int .i64 _),(1,.int .i64 _)]) hS underlying23 sizeOf3 zeroValue3 rfl rfl rfl (iU _ _) rfl fun B4 W4 hS=>cQ (us:=[(0,.int .i64 _),(1,.int .i64 _),(2,.int .i64 _),(3,.int .i64 _),(4,.int .i64 _)]) hS underlying23 sizeOf3 zeroValue3 rfl rfl rfl (xU _ _ _ _ _) rfl fun B5 W5 hS=>bL (us:=[(1,.int .i64 _),(2,.int .i64 _)]) rfl (tA _ _) rfl (bL (us:=[(0,.int .i64 _),(1,.int .i64 _),(2,.int .i64 _)]) rfl (lU _ _ _) rfl (bL (us:=[(0,.int .i64 _),(1,.int .i64 _),(2,.int .i64 _)]) rfl (lU _ _ _) rfl (cQ (us:=[(0,.agg (List.toArray [_,_,_,_,_,_,_])),(1,.agg (List.toArray [_,_,_,_,_,_,_])),(2,.agg (List.toArray [_,_,_,_,_,_,_]))]) hS underlying24 sizeOf79 zeroValue79 rfl rfl rfl (xV _ _ _ _ _ _ _ _ _ _ _ _ _ _ _ _ _ _ _ _ _) rfl fun B6 W6 hS=>bL (us:=[(0,.string _),(1,.int .i64 _),(3,.int .i64 _)]) rfl (qU _ _ _) rfl (cQ (us:=[(0,.agg (List.toArray [_,_,_,_]))]) hS underlying25 sizeOf81 zeroValue81 rfl rfl rfl (xW _ _ _ _) rfl fun B7 W7 hS=>bL (us:=[(1,.slice _ _ _),(2,.slice _ _ _),(3,.slice _ _ _),(5,.slice _ _ _),(6,.slice _ _ _),(7,.slice _ _ _)]) rfl (lW _ _ _ _ _ _ _ _ _ _ _ _ _ _ _ _ _ _) rfl (bA (i:=6) (vs:=[_,_,_,_,_,_,_,_,_,_]) (cs':=[_,_,_,_,_,_,_,_,_,_]) (O':=[_,_,_,_,_,_,_]) hS sizeOf29 rfl rfl rfl rfl rfl rfl rfl fun W8 hS=>aT (XF.thenN (bP (XF.res (eC (vs:=[_,_,_,_,_,_,_,_,_,_]) results15 isAgg29 sizeOf29 rfl (aM.own (j:=0) (m:=10) (hS.at_ 6 rfl) rfl)) ?_))))))))))))))
 obtain ⟨nm,hnm⟩:∃ nm,W8.heap[B7]?=some (.cells #[.string nm,.int .i64 1,.int .i64 0,.int .i64 2] 81 (0,0)):=⟨_,hS.at_ 0 rfl⟩
 refine ⟨⟨none,0,0,some ⟨B2,0,none⟩,2,2,some ⟨B3,0,none⟩,2,2,[0,3],some ⟨B4,0,none⟩,2,2,[1,4],0,some ⟨B5,0,none⟩,5,5,[0,0,0,1,1],some ⟨B6,0,none⟩,3,3,[⟨0,2,8,0,0,0,0⟩,⟨2,1,1,0,0,0,0⟩,⟨3,4,1,0,0,0,0⟩],some ⟨B7,0,none⟩,1,1,[⟨nm,1,0,2⟩],none,0,0,[],none,0,0,[]⟩,rfl,⟨rfl,rfl,rfl,rfl,rfl,rfl,rfl,rfl,rfl,rfl,rfl,rfl,⟨_,rfl⟩,rfl,rfl,rfl,rfl⟩,fun W2 hg=>?_,hS.below⟩
 exact ⟨mL (fun _=>rfl) (mM hg (hS.ge 4 rfl) (hS.at_ 4 rfl)),rfl,mL (fun _=>rfl) (mM hg (hS.ge 3 rfl) (hS.at_ 3 rfl)),rfl,mL (fun _=>rfl) (mM hg (hS.ge 2 rfl) (hS.at_ 2 rfl)),rfl,mL (fun _=>rfl) (mM hg (hS.ge 1 rfl) (hS.at_ 1 rfl)),rfl,mL (fun _=>rfl) (mM hg (hS.ge 0 rfl) hnm),rfl,.inl rfl,rfl,.inl rfl,rfl⟩
theorem pds_is (g:GV) (w:World) (hg:GIn w g) (hf:GFew g) (hco:kP g):Calls prog 6 #[g.val,.int .i64 1] w (xQ g w) :=
 pds_c g.va g.vl g.vc g.pa g.pl g.pc g.ea g.el g.ec g.es g.xa g.xl g.xc g.xs g.mn g.oa g.ol g.oc g.os g.sa g.sl g.sc g.ss g.ta g.tl g.tc g.ts g.na g.nl g.nc g.ns g.ka g.kl g.kc g.ks w hg.e hg.el hg.x hg.xl hg.o hg.ol hg.s hg.sl hg.t hg.tl hg.n hg.nl hg.k hg.kl hf.v hf.p hf.e hf.x hf.o hf.s hf.t hf.n hf.k hco
theorem conf_is (g:GV) (node:Int) (la:Option Addr) (ll lc:Nat) (is:List Int) (w:World) (hg:GIn w g) (hf:GFew g) (hrla:dS w la is) (hll:is.length=ll) (hlm:ll≤5000):Calls prog 16 #[g.val,.int .i64 node,.slice la ll lc] w (qY (mI g node is) w) :=
 conf_c g.va g.vl g.vc g.pa g.pl g.pc g.ea g.el g.ec g.es g.xa g.xl g.xc g.xs g.mn g.oa g.ol g.oc g.os g.sa g.sl g.sc g.ss g.ta g.tl g.tc g.ts g.na g.nl g.nc g.ns g.ka g.kl g.kc g.ks node la ll lc is w hg.e hg.el hg.x hg.xl hg.o hg.ol hg.s hg.sl hg.t hg.tl hg.n hg.nl hg.k hg.kl hf.v hf.p hf.e hf.x hf.o hf.s hf.t hf.n hf.k hrla hll hlm
theorem vX (w:World) :
  Calls prog 5 #[] w (fun e w'=>e = .returned (.bool (true))∧Below w.heap.size w w'):=by
 refine cS (args:=[]) func5 rfl ntmps5 rfl ?_
 have hS:=St.start w
 refine aR (aU (aK rfl rfl (aT (XF.thenN (aR (aU (cV (vs:=[]) hS xY rfl (C8 _) rfl ?_)))))))
 rintro e W1 ⟨g,rfl,hkn,hgin,hb⟩
 refine ⟨_,rfl,hb,fun hS'=>?_⟩
 clear hS;have hS:=hS';clear hS'
 obtain ⟨hce,hco,hrules,hcf⟩:=hkn.facts
 refine bY (cs:=[_,_,_,_,_,_,_,_,_,_]) hS zeroValue29 rfl rfl fun B2 W2 hS=>bA (i:=0) (vs:=[_,_,_,_,_,_,_,_,_,_]) (cs':=[_,_,_,_,_,_,_,_,_,_]) (O':=[_]) hS sizeOf29 rfl rfl rfl rfl rfl rfl rfl fun W3 hS=>aT (XF.thenN (aR (aU (bF (vs:=[_,_,_,_,_,_,_,_,_,_]) isAgg29 sizeOf29 rfl (aM.own (j:=0) (m:=10) (hS.at_ 0 rfl) rfl) rfl ?_))))
 have hgi2:=hgin _ (hS.since 0 rfl)
 refine cV (vs:=[_,_]) hS tJ rfl ((pds_is g _ hgi2 hkn.few hco).mono fun e w2 h=>Bk h hce) rfl ?_
 rintro e W4 ⟨ap,cp,qs,rfl,hrow,hqm,hqn,hb⟩
 refine ⟨_,rfl,hb,fun hS'=>?_⟩
 clear hS;have hS:=hS';clear hS'
 rw [hrules] at hqm
 obtain ⟨a0,l0,c0,q1,q2,q3,a4,l4,c4,rfl⟩:=xS hqm
 refine aL rfl rfl (bM rfl rfl rfl (bM rfl rfl rfl (bY (cs:=[_,_,_,_,_,_]) hS zeroValue38 rfl rfl fun B5 W5 hS=>bA (i:=0) (vs:=[_,_,_,_,_,_]) (cs':=[_,_,_,_,_,_]) (O':=[_,_]) hS sizeOf38 rfl rfl rfl rfl rfl rfl rfl fun W6 hS=>aK rfl rfl (aT (XF.thenN (aR (aU (bF (vs:=[_,_,_,_,_,_,_,_,_,_]) isAgg29 sizeOf29 rfl (aM.own (j:=0) (m:=10) (hS.at_ 1 rfl) rfl) rfl (cQ (us:=[(0,.int .i64 _)]) hS underlying23 sizeOf3 zeroValue3 rfl rfl rfl (fC _) rfl fun B7 W7 hS=>?_)))))))))
 have hgi3:=hgin _ (hS.since 1 rfl)
 refine cV (vs:=[_,_,_]) hS xZ rfl ((conf_is g 3 _ 1 1 [0] _ hgi3 hkn.few (C5 (hS.at_ 0 rfl)) rfl (by decide)).mono fun e w2 h=>xR h hcf) rfl ?_
 rintro e W8 ⟨ac,cc,rfl,hcn,hb⟩
 refine ⟨_,rfl,hb,fun hS'=>?_⟩
 clear hS;have hS:=hS';clear hS'
 refine aL rfl rfl (bM rfl rfl rfl (bM rfl rfl rfl (bY (cs:=[_,_]) hS zeroValue70 rfl rfl fun B9 W9 hS=>bA (i:=0) (vs:=[_,_]) (cs':=[_,_]) (O':=[_,_,_,_]) hS sizeOf70 rfl rfl rfl rfl rfl rfl rfl fun W10 hS=>aK rfl rfl (aT (XF.thenN (aR ?_))))))
 have hg4:=hS.since 1 rfl
 have hrow4:=fW hrow hg4
 obtain ⟨hne,h0⟩ | ⟨br,rfl,_,hcell⟩:=kR hrow4
 ·simp at h0
 have hq0:=(hqn _ List.mem_cons_self).agree hg4
 have hq4:=(hqn ⟨4,a4,l4,c4,[]⟩ (by simp)).agree hg4
 have hl0:2=l0:=hq0.1
 have hl4:0=l4:=hq4.1
 subst hl0;subst hl4
 obtain ⟨B0,ha0,_,hB0⟩:=hq0.2.resolve_left (by simp)
 have ha0':a0=some ⟨B0,0,none⟩:=ha0
 subst ha0'
 have k1:=hcell 3 _ rfl
 have k2:W10.cell? ⟨B0,0,none⟩=some (.int .i64 3):=aI (cs:=[_,_]) (j:=0) hB0 rfl
 have k3:W10.cell? ⟨B0,1,none⟩=some (.int .i64 2):=aI (cs:=[_,_]) (j:=1) hB0 rfl
 have k4:=hcell 43 _ rfl
 have k5:=hcell 41 _ rfl
 obtain ⟨bc,oc_,y,rfl,hy,hyc⟩:=(hcn.agree (hS.since 0 rfl)).row.get (i:=1) (by decide)
 obtain rfl:(2:Int)=y:=Option.some.inj hy
 have k6:=hyc.1
 refine aU (aL rfl rfl (bW rfl rfl rfl (aL rfl rfl (bK (d:=20) rfl (fun hc=>?_) (fun hc=>absurd (of_decide_eq_false hc) (by exact fun h=>h rfl))))))
 have hc:=of_decide_eq_true hc
 refine aF (d:=20) rfl rfl (aL rfl rfl (aF (d:=20) rfl rfl (bW rfl rfl rfl (bC rfl rfl rfl (aL rfl rfl (bK (d:=24) rfl (fun hc=>?_) (fun hc=>absurd (of_decide_eq_false hc) (by exact fun h=>h rfl))))))))
 have hc:=of_decide_eq_true hc
 refine aF (d:=24) rfl rfl (aQ (o':=5) cM rfl rfl rfl (aF (d:=24) rfl rfl (aV isAgg36 rfl (aI (hS.at_ 2 rfl) rfl) rfl (aF (d:=24) rfl rfl (bU underlying36 rfl rfl (aF (d:=24) rfl rfl (bW rfl rfl rfl (bC rfl rfl rfl (aL rfl rfl (bK (d:=30) rfl (fun hc=>?_) (fun hc=>absurd (of_decide_eq_false hc) (by exact fun h=>h rfl))))))))))))
 have hc:=of_decide_eq_true hc
 refine aF (d:=30) rfl rfl (aQ (o':=5) cM rfl rfl rfl (aF (d:=30) rfl rfl (aV isAgg36 rfl (aI (hS.at_ 2 rfl) rfl) rfl (aF (d:=30) rfl rfl (cP (j:=0) underlying36 sizeOf74 rfl rfl rfl (by omega) (Nat.add_zero _) rfl (aF (d:=30) rfl rfl (aQ jV rfl rfl rfl (aF (d:=30) rfl rfl (aV isAgg23 rfl (k1) rfl (aF (d:=30) rfl rfl (bU underlying23 rfl rfl (aF (d:=30) rfl rfl (bW rfl rfl rfl (bC rfl rfl rfl (aL rfl rfl (bK (d:=39) rfl (fun hc=>?_) (fun hc=>absurd (of_decide_eq_false hc) (by exact fun h=>h rfl))))))))))))))))))
 have hc:=of_decide_eq_true hc
 refine aF (d:=39) rfl rfl (aQ (o':=5) cM rfl rfl rfl (aF (d:=39) rfl rfl (aV isAgg36 rfl (aI (hS.at_ 2 rfl) rfl) rfl (aF (d:=39) rfl rfl (cP (j:=0) underlying36 sizeOf74 rfl rfl rfl (by omega) (Nat.add_zero _) rfl (aF (d:=39) rfl rfl (aQ jV rfl rfl rfl (aF (d:=39) rfl rfl (aV isAgg23 rfl (k1) rfl (aF (d:=39) rfl rfl (cP (j:=0) underlying23 sizeOf3 rfl rfl rfl (by omega) (Nat.add_zero _) rfl (aF (d:=39) rfl rfl (aV isAgg3 rfl (k2) rfl (aF (d:=39) rfl rfl (bW rfl rfl rfl (bC rfl rfl rfl (aL rfl rfl (bK (d:=49) rfl (fun hc=>?_) (fun hc=>absurd (of_decide_eq_false hc) (by exact fun h=>h rfl))))))))))))))))))))
 have hc:=of_decide_eq_true hc
 refine aF (d:=49) rfl rfl (aQ (o':=5) cM rfl rfl rfl (aF (d:=49) rfl rfl (aV isAgg36 rfl (aI (hS.at_ 2 rfl) rfl) rfl (aF (d:=49) rfl rfl (cP (j:=0) underlying36 sizeOf74 rfl rfl rfl (by omega) (Nat.add_zero _) rfl (aF (d:=49) rfl rfl (aQ jV rfl rfl rfl (aF (d:=49) rfl rfl (aV isAgg23 rfl (k1) rfl (aF (d:=49) rfl rfl (cP (j:=1) underlying23 sizeOf3 rfl rfl rfl (by omega) rfl rfl (aF (d:=49) rfl rfl (aV isAgg3 rfl (k3) rfl (aF (d:=49) rfl rfl (bW rfl rfl rfl (bC rfl rfl rfl (aL rfl rfl (bK (d:=59) rfl (fun hc=>?_) (fun hc=>absurd (of_decide_eq_false hc) (by exact fun h=>h rfl))))))))))))))))))))
 have hc:=of_decide_eq_true hc
 refine aF (d:=59) rfl rfl (aQ (o':=5) cM rfl rfl rfl (aF (d:=59) rfl rfl (aV isAgg36 rfl (aI (hS.at_ 2 rfl) rfl) rfl (aF (d:=59) rfl rfl (cP (j:=4) underlying36 sizeOf74 rfl rfl rfl (by omega) rfl rfl (aF (d:=59) rfl rfl (aQ jV rfl rfl rfl (aF (d:=59) rfl rfl (aV isAgg23 rfl (k4) rfl (aF (d:=59) rfl rfl (bU underlying23 rfl rfl (aF (d:=59) rfl rfl (bW rfl rfl rfl (bC rfl rfl rfl (aL rfl rfl (bK (d:=68) rfl (fun hc=>?_) (fun hc=>absurd (of_decide_eq_false hc) (by exact fun h=>h rfl))))))))))))))))))
 have hc:=of_decide_eq_true hc
 refine aF (d:=68) rfl rfl (aQ (o':=5) cM rfl rfl rfl (aF (d:=68) rfl rfl (aV isAgg36 rfl (aI (hS.at_ 2 rfl) rfl) rfl (aF (d:=68) rfl rfl (cP (j:=4) underlying36 sizeOf74 rfl rfl rfl (by omega) rfl rfl (aF (d:=68) rfl rfl (aQ xX rfl rfl rfl (aF (d:=68) rfl rfl (aV isAgg3 rfl (k5) rfl (aF (d:=68) rfl rfl (bW rfl rfl rfl (bC rfl rfl rfl (aL rfl rfl (bK (d:=76) rfl (fun hc=>?_) (fun hc=>absurd (of_decide_eq_false hc) (by exact fun h=>h rfl))))))))))))))))
 have hc:=of_decide_eq_true hc
 refine aF (d:=76) rfl rfl (aQ (o':=1) iW rfl rfl rfl (aF (d:=76) rfl rfl (aV isAgg23 rfl (aI (hS.at_ 0 rfl) rfl) rfl (aF (d:=76) rfl rfl (bU underlying23 rfl rfl (aF (d:=76) rfl rfl (bW rfl rfl rfl (bC rfl rfl rfl (aL rfl rfl (bK (d:=82) rfl (fun hc=>?_) (fun hc=>absurd (of_decide_eq_false hc) (by exact fun h=>h rfl))))))))))))
 have hc:=of_decide_eq_true hc
 refine aF (d:=82) rfl rfl (aQ (o':=1) iW rfl rfl rfl (aF (d:=82) rfl rfl (aV isAgg23 rfl (aI (hS.at_ 0 rfl) rfl) rfl (aF (d:=82) rfl rfl (cP (j:=1) underlying23 sizeOf3 rfl rfl rfl (by omega) rfl rfl (aF (d:=82) rfl rfl (aV isAgg3 rfl (k6) rfl (aF (d:=82) rfl rfl (bW rfl rfl rfl (bC rfl rfl rfl (aK rfl rfl (aT (XF.thenN (bP (XF.res (cG results5 rfl) ?_)))))))))))))))
 exact ⟨bI rfl,hS.below⟩
theorem Bl:cL prog 4=true:=by kernel_rfl
theorem tK:cL prog 5=true:=by kernel_rfl
def fJ (g:GV):Bool :=
 if 64 < g.vl then false else if g.pl < 1 then false else if 1024 < g.pl then false else if g.el≠g.pl then false else if g.xl≠g.pl then false else if 4096 < g.ol then false else if gr_inQ g.mn g.pl=false then false else if 1024 < g.tl then false else
 if g.os.all (fun y=>gr_inQ y g.pl)=false then false else if (List.range g.pl).all (tG g)=false then false else g.ts.all (fun u=>gr_inQ u.pr g.pl)
theorem vY (g:GV):fJ g=(eG g && g.ts.all (fun u=>gr_inQ u.pr g.pl)):=by
 unfold fJ eG
 by_cases h1:64 < g.vl
 ·rw [if_pos h1,if_pos h1];rfl
 rw [if_neg h1,if_neg h1]
 by_cases h2:g.pl < 1
 ·rw [if_pos h2,if_pos h2];rfl
 rw [if_neg h2,if_neg h2]
 by_cases h3:1024 < g.pl
 ·rw [if_pos h3,if_pos h3];rfl
 rw [if_neg h3,if_neg h3]
 by_cases h4:g.el≠g.pl
 ·rw [if_pos h4,if_pos h4];rfl
 rw [if_neg h4,if_neg h4]
 by_cases h5:g.xl≠g.pl
 ·rw [if_pos h5,if_pos h5];rfl
 rw [if_neg h5,if_neg h5]
 by_cases h6:4096 < g.ol
 ·rw [if_pos h6,if_pos h6];rfl
 rw [if_neg h6,if_neg h6]
 by_cases h7:gr_inQ g.mn g.pl=false
 ·rw [if_pos h7]
  by_cases h8:1024 < g.tl
  ·rw [if_pos h8];rfl
  ·rw [if_neg h8,if_pos h7];rfl
 rw [if_neg h7]
 by_cases h8:1024 < g.tl
 ·rw [if_pos h8,if_pos h8];rfl
 rw [if_neg h8,if_neg h8,if_neg h7]
 by_cases h9:g.os.all (fun y=>gr_inQ y g.pl)=false
 ·rw [if_pos h9,if_pos h9];rfl
 rw [if_neg h9,if_neg h9]
 cases (List.range g.pl).all (tG g)<;>simp
theorem C9 {g:GV} (h:fJ g=false):gr_checkE g=213:=by
 rw [vY,Bool.and_eq_false_iff] at h
 unfold gr_checkE
 rcases h with h | h
 ·rw [if_pos h]
 ·split
  ·rfl
  ·split
   ·rfl
   ·rw [if_pos (by unfold fS;rw [if_pos h])]
theorem rU {g:GV} (h:stepsB g=false):gr_checkE g=213:=by
 unfold gr_checkE
 rw [h,if_pos rfl,ite_self]
theorem tL {g:GV} (h:fS g=false):gr_checkE g=213:=by
 unfold gr_checkE
 rw [h,if_pos rfl,ite_self,ite_self]
theorem Bm {g:GV} (h1:fJ g=true) (h2:stepsB g=true) (h3:g.ns.all (fun u=>gr_inQ u.nd g.ol)=true) (h4:g.ks.all (fun u=>gr_inQ u.nd g.ol && gr_inQ u.x g.vl)=true):gr_checkE g=0:=by
 rw [vY,Bool.and_eq_true] at h1
 unfold gr_checkE
 rw [if_neg (by rw [h1.1];simp),if_neg (by rw [h2];simp),if_neg (by unfold fS;rw [if_neg (by rw [h1.2];simp),if_neg (by rw [h3];simp),h4];simp)]
theorem Bn {g:GV} (h:g.ns.all (fun u=>gr_inQ u.nd g.ol)=false):gr_checkE g=213:=tL (by
 unfold fS
 rw [h,if_pos rfl,ite_self])
theorem vZ {g:GV} (h:g.ks.all (fun u=>gr_inQ u.nd g.ol && gr_inQ u.x g.vl)=false):gr_checkE g=213:=tL (by
 unfold fS
 rw [h,ite_self,ite_self])
def rV (ts:List UV) (s:gr_TV):Bool:=gr_inQ s.s ts.length && (match ts[s.s.toNat]? with | some u=>decide (u.fr=s.f) && decide (u.bk=s.t) | none=>false)
def kS (g:GV) (s:gr_TV):Bool :=
 if s.k=1 then decide (s.x=0) && decide (s.y=0)
 else if s.k=2∨s.k=4∨s.k=5∨s.k=6 then gr_inQ s.x g.vl && decide (s.y=0)
 else if s.k=3 then gr_inQ s.x g.vl && gr_inQ s.y g.vl
 else if s.k=8 then decide (s.x=0) && (decide (s.y=0) && rV g.ts s)
 else false
def jH (g:GV) (s:gr_TV):Bool :=
 if gr_inQ s.f g.ol=false then false else if gr_inQ s.t g.ol=false then false else if Bg g.os s.f s.t=false then false else if s.kk≠0∧s.k≠2 then false else if s.s≠0∧s.k≠8 then false else kS g s
theorem Da (ts:List UV) (s:gr_TV) (n:Nat):lS ts s n=(rV ts s && decide (s.s=(n:Int))):=by
 by_cases h:s.s=(n:Int)
 ·unfold lS rV
  rw [h,decide_eq_true rfl,Bool.true_and,Bool.and_true,Int.toNat_natCast]
  cases hn:ts[n]? with
  | none=>rw [Bool.and_false]
  | some u=>rw [rQ (List.getElem?_eq_some_iff.1 hn).1,Bool.true_and]
 ·unfold lS
  rw [decide_eq_false h,Bool.false_and,Bool.and_false]
theorem step_eq (g:GV) (s:gr_TV) (n:Nat):kY g s n=(jH g s && (decide (s.k≠8) || decide (s.s=(n:Int)))):=by
 unfold kY jH
 by_cases h1:gr_inQ s.f g.ol=false
 ·rw [if_pos h1,if_pos h1];rfl
 rw [if_neg h1,if_neg h1]
 by_cases h2:gr_inQ s.t g.ol=false
 ·rw [if_pos h2,if_pos h2];rfl
 rw [if_neg h2,if_neg h2]
 by_cases h3:Bg g.os s.f s.t=false
 ·rw [if_pos h3,if_pos h3];rfl
 rw [if_neg h3,if_neg h3]
 unfold iQ kS
 by_cases k1:s.k=1
 ·by_cases hk:s.kk=0<;>by_cases hz:s.s=0<;>simp [k1,hk,hz]
 by_cases k8:s.k=8
 ·rw [Da]
  by_cases hk:s.kk=0<;>simp [k8,hk,Bool.and_assoc]
 by_cases k2:s.k=2
 ·by_cases hz:s.s=0<;>simp [k2,hz]
 by_cases k3:s.k=3
 ·by_cases hk:s.kk=0<;>by_cases hz:s.s=0<;>simp [k3,hk,hz]
 by_cases k4:s.k=4
 ·by_cases hk:s.kk=0<;>by_cases hz:s.s=0<;>simp [k4,hk,hz]
 by_cases k5:s.k=5
 ·by_cases hk:s.kk=0<;>by_cases hz:s.s=0<;>simp [k5,hk,hz]
 by_cases k6:s.k=6
 ·by_cases hk:s.kk=0<;>by_cases hz:s.s=0<;>simp [k6,hk,hz]
 simp [k1,k2,k3,k4,k5,k6,k8]
theorem yA {os:List Int} {ol:Nat} (hol:os.length=ol) (s:gr_TV) :
  gr_inQ s.f ol=false∨(gr_inQ s.f ol=true∧gr_inQ s.t ol=false)∨(gr_inQ s.f ol=true∧gr_inQ s.t ol=true∧∃ kf kt:Nat,∃ y1 y2:Int,s.f=(kf:Int)∧s.t=(kt:Int)∧kf < ol∧kt < ol∧os[kf]?=some y1∧os[kt]?=some y2 ∧
   (y1≠y2∨(y1=y2∧s.kk≠0∧s.k≠2)∨(y1=y2∧s.kk=0∧s.s≠0∧s.k≠8)∨(y1=y2∧s.kk≠0∧s.k=2∧s.s≠0∧s.k≠8)∨(y1=y2∧s.kk=0∧s.s=0)∨(y1=y2∧s.kk=0∧s.s≠0∧s.k=8)∨(y1=y2∧s.kk≠0∧s.k=2∧s.s=0))):=by
 cases h1:gr_inQ s.f ol with
 | false=>exact .inl rfl
 | true =>
  refine .inr ?_
  cases h2:gr_inQ s.t ol with
  | false=>exact .inl ⟨rfl,rfl⟩
  | true =>
   refine .inr ⟨rfl,rfl,?_⟩
   obtain ⟨kf,ef,hf⟩:=hC h1
   obtain ⟨kt,et,ht⟩:=hC h2
   refine ⟨kf,kt,os[kf],os[kt],ef,et,hf,ht,List.getElem?_eq_getElem (by omega),List.getElem?_eq_getElem (by omega),?_⟩
   omega
theorem yB {os:List Int} {ol:Nat} (hol:os.length=ol) (n1 n2:Int) (p:Nat) :
  gr_inQ n1 ol=false∨(gr_inQ n1 ol=true∧gr_inQ n2 ol=false)∨(gr_inQ n1 ol=true∧gr_inQ n2 ol=true∧∃ k1 k2:Nat,∃ y1 y2:Int,n1=(k1:Int)∧n2=(k2:Int)∧k1 < ol∧k2 < ol∧os[k1]?=some y1∧os[k2]?=some y2∧(y1≠(p:Int)∨y1=(p:Int))):=by
 cases h1:gr_inQ n1 ol with
 | false=>exact .inl rfl
 | true =>
  refine .inr ?_
  cases h2:gr_inQ n2 ol with
  | false=>exact .inl ⟨rfl,rfl⟩
  | true =>
   refine .inr ⟨rfl,rfl,?_⟩
   obtain ⟨kf,ef,hf⟩:=hC h1
   obtain ⟨kt,et,ht⟩:=hC h2
   exact ⟨kf,kt,os[kf],os[kt],ef,et,hf,ht,List.getElem?_eq_getElem (by omega),List.getElem?_eq_getElem (by omega),by omega⟩
theorem wA {ts:List UV} {tl:Nat} (htl:ts.length=tl) (s:gr_TV) :
  s.x≠0∨(s.x=0∧s.y≠0)∨(s.x=0∧s.y=0∧gr_inQ s.s tl=false)∨(s.x=0∧s.y=0∧gr_inQ s.s tl=true∧∃ k:Nat,∃ u,s.s=(k:Int)∧k < tl∧ts[k]?=some u∧(u.fr≠s.f∨u.fr=s.f)):=by
 by_cases h1:s.x=0
 ·by_cases h2:s.y=0
  ·cases h3:gr_inQ s.s tl with
   | false=>exact .inr (.inr (.inl ⟨h1,h2,rfl⟩))
   | true =>
    obtain ⟨k,e,hk⟩:=hC h3
    exact .inr (.inr (.inr ⟨h1,h2,rfl,k,ts[k],e,hk,List.getElem?_eq_getElem (by omega),by omega⟩))
  ·exact .inr (.inl ⟨h1,h2⟩)
 ·exact .inl h1
theorem Bo {ts:List UV} {tl:Nat} {s:gr_TV} (htl:ts.length=tl) (h:gr_inQ s.s tl=false):rV ts s=false:=by
 unfold rV;rw [htl,h];rfl
theorem wB {ts:List UV} {tl k:Nat} {s:gr_TV} {u:UV} (htl:ts.length=tl) (e:s.s=(k:Int)) (hk:k < tl) (hu:ts[k]?=some u):rV ts s=(decide (u.fr=s.f) && decide (u.bk=s.t)):=by
 unfold rV;rw [htl,e,rQ hk,Int.toNat_natCast,hu];rfl
theorem cB:cL prog 46=true:=by kernel_rfl
theorem eB (x:Int) (n:Nat) (w:World) :
  Calls prog 46 #[.int .i64 x,.int .i64 (n:Int)] w (fun e w'=>e = .returned (.bool (gr_inQ x n))∧Below w.heap.size w w'):=by
 refine cS (args:=[.int .i64 x,.int .i64 (n:Int)]) func46 rfl ntmps46 rfl ?_
 have hS:=St.start w
 refine aR (aU (aK rfl rfl (aT (XF.thenN (aR (aU (aL rfl rfl (mC rfl rfl rfl (aL rfl rfl (bK (d:=7) rfl (fun hc=>?_) (fun hc=>?_)))))))))))
 ·have hg7:=of_decide_eq_true hc;clear hc
  refine aF (d:=7) rfl rfl (aL rfl rfl (aF (d:=7) rfl rfl (aL rfl rfl (aF (d:=7) rfl rfl (dA rfl rfl rfl (bC rfl rfl rfl (aK rfl rfl (aT (XF.thenN (bP (XF.res (cG results46 rfl) ?_)))))))))))
  exact ⟨bI (by simp [gr_inQ,show 0≤x from hg7]),hS.below⟩
 ·have hg7:=of_decide_eq_false hc;clear hc
  refine aH (d:=7) rfl rfl rfl rfl (aH (d:=7) rfl rfl rfl rfl (aH (d:=7) rfl rfl rfl rfl (bE rfl rfl rfl (aK rfl rfl (aT (XF.thenN (bP (XF.res (cG results46 rfl) ?_))))))))
  exact ⟨bI (by simp [gr_inQ];omega),hS.below⟩
theorem Db (va:Option Addr) (vl:Nat) (vc:Nat) (pa:Option Addr) (pl:Nat) (pc:Nat) (ea:Option Addr) (el:Nat) (ec:Nat) (es:List Int) (xa:Option Addr) (xl:Nat) (xc:Nat) (xs:List Int) (mn:Int) (oa:Option Addr) (ol:Nat) (oc:Nat) (os:List Int) (sa:Option Addr) (sl:Nat) (sc:Nat) (ss:List gr_TV) (ta:Option Addr) (tl:Nat) (tc:Nat) (ts:List UV) (na:Option Addr) (nl:Nat) (nc:Nat) (ns:List NV) (ka:Option Addr) (kl:Nat) (kc:Nat) (ks:List KV) (w:World) (he:dS w ea es) (hel:es.length=el) (hx:dS w xa xs) (hxl:xs.length=xl) (ho:dS w oa os) (hol:os.length=ol) (hs:dB gr_TV.sev 7 w sa ss) (hsl:ss.length=sl) (ht:dB UV.four 4 w ta ts) (htl:ts.length=tl) (hn:dB NV.two 2 w na ns) (hnl:ns.length=nl) (hk:dB KV.two 2 w ka ks) (hkl:ks.length=kl) (b1:vl≤5000) (b2:pl≤5000) (b3:el≤5000) (b4:xl≤5000) (b5:ol≤5000) (b6:sl≤5000) (b7:tl≤5000) (b8:nl≤5000) (b9:kl≤5000) :
  Calls prog 44 #[.agg #[.slice va vl vc,.slice pa pl pc,.slice ea el ec,.slice xa xl xc,.int .i64 mn,.slice oa ol oc,.slice sa sl sc,.slice ta tl tc,.slice na nl nc,.slice ka kl kc]] w (fun e w'=>e = .returned (.bool (fJ ⟨va,vl,vc,pa,pl,pc,ea,el,ec,es,xa,xl,xc,xs,mn,oa,ol,oc,os,sa,sl,sc,ss,ta,tl,tc,ts,na,nl,nc,ns,ka,kl,kc,ks⟩))∧Below w.heap.size w w'):=by
 refine cS (args:=[.agg #[.slice va vl vc,.slice pa pl pc,.slice ea el ec,.slice xa xl xc,.int .i64 mn,.slice oa ol oc,.slice sa sl sc,.slice ta tl tc,.slice na nl nc,.slice ka kl kc]]) func44 rfl ntmps44 rfl ?_
 have hS:=St.start w
 refine aR (aU (cR (cs:=[_,_,_,_,_,_,_,_,_,_]) hS rfl rfl rfl fun B1 W1 hS=>aK rfl rfl (aT (XF.thenN (aR (fK (m:=8) bG hS (by kernel_rfl) (by kernel_rfl) rfl (bZ 1 rfl 1 rfl rfl (fun w hw=>aO (o':=1) lJ rfl rfl) rfl (aZ 2 rfl 8 0 rfl rfl rfl (fun w hw=>aS isAgg22 rfl ((aJ hw 0).cell (Nat.zero_le _) (aI (hS.at_ 0 rfl) rfl))) rfl (aZ 3 rfl 9 1 rfl rfl rfl (fun w hw=>eY underlying22 rfl) rfl (bZ 4 rfl 1 rfl rfl (fun w hw=>aO (o':=5) cA rfl rfl) rfl (aZ 5 rfl 11 3 rfl rfl rfl (fun w hw=>aS isAgg23 rfl ((aJ hw 0).cell (Nat.zero_le _) (aI (hS.at_ 0 rfl) rfl))) rfl (aZ 6 rfl 12 4 rfl rfl rfl (fun w hw=>eY underlying23 rfl) rfl (aZ 7 rfl 10 2 rfl rfl rfl (fun w hw=>dW rfl) rfl (aZ 8 rfl 13 5 rfl rfl rfl (fun w hw=>dW rfl) rfl (dF ?_)))))))))))))))
 intro W2 hbR hS'
 clear hS;have hS:=hS';clear hS'
 refine aE (aE (aE (aE (aE (aE (aE (aE (bV (XF.thenN (aR (aR (aU (aQ (o':=0) eE rfl rfl rfl (aV isAgg22 rfl (aI (hS.at_ 0 rfl) rfl) rfl (bU underlying22 rfl rfl (lF rfl rfl rfl (aL rfl rfl (bK (d:=18) rfl (fun hc=>?_) (fun hc=>?_)))))))))))))))))))
 ·have hg18:=of_decide_eq_true hc;clear hc
  refine aH (d:=18) rfl rfl rfl rfl (aH (d:=18) rfl rfl rfl rfl (bC rfl rfl rfl (aL rfl rfl (aH (d:=22) rfl rfl rfl rfl (aH (d:=22) rfl rfl rfl rfl (bC rfl rfl rfl (aL rfl rfl (aH (d:=26) rfl rfl rfl rfl (aH (d:=26) rfl rfl rfl rfl (aH (d:=26) rfl rfl rfl rfl (aH (d:=26) rfl rfl rfl rfl (aH (d:=26) rfl rfl rfl rfl (bC rfl rfl rfl (aL rfl rfl (aH (d:=33) rfl rfl rfl rfl (aH (d:=33) rfl rfl rfl rfl (aH (d:=33) rfl rfl rfl rfl (aH (d:=33) rfl rfl rfl rfl (aH (d:=33) rfl rfl rfl rfl (bC rfl rfl rfl (aL rfl rfl (aH (d:=40) rfl rfl rfl rfl (aH (d:=40) rfl rfl rfl rfl (bC rfl rfl rfl (aL rfl rfl (aH (d:=44) rfl rfl rfl rfl (aH (d:=44) rfl rfl rfl rfl (aH (d:=44) rfl rfl rfl rfl (aH (d:=44) rfl rfl rfl rfl (aH (d:=44) rfl rfl rfl rfl (bC rfl rfl rfl (aL rfl rfl ?_))))))))))))))))))))))))))))))))
  refine aH (d:=51) rfl rfl rfl rfl (aH (d:=51) rfl rfl rfl rfl (aH (d:=51) rfl rfl rfl rfl (aH (d:=51) rfl rfl rfl rfl (bC rfl rfl rfl (aT (XF.thenN (eA rfl (aR (aU (aK rfl rfl (aT (XF.thenN (bP (XF.thenR (XF.res (cG results44 rfl) ?_)))))))))))))))
  exact ⟨bI (by unfold fJ;dsimp only;rw [if_pos (by omega)]),hS.below⟩
 ·have hg18:=of_decide_eq_false hc;clear hc
  refine aF (d:=18) rfl rfl (aL rfl rfl (aF (d:=18) rfl rfl (dA rfl rfl rfl (bE rfl rfl rfl (aL rfl rfl (bK (d:=22) rfl (fun hc=>?_) (fun hc=>?_)))))))
  ·have hg22:=of_decide_eq_true hc;clear hc
   refine aH (d:=22) rfl rfl rfl rfl (aH (d:=22) rfl rfl rfl rfl (bC rfl rfl rfl (aL rfl rfl (aH (d:=26) rfl rfl rfl rfl (aH (d:=26) rfl rfl rfl rfl (aH (d:=26) rfl rfl rfl rfl (aH (d:=26) rfl rfl rfl rfl (aH (d:=26) rfl rfl rfl rfl (bC rfl rfl rfl (aL rfl rfl (aH (d:=33) rfl rfl rfl rfl (aH (d:=33) rfl rfl rfl rfl (aH (d:=33) rfl rfl rfl rfl (aH (d:=33) rfl rfl rfl rfl (aH (d:=33) rfl rfl rfl rfl (bC rfl rfl rfl (aL rfl rfl (aH (d:=40) rfl rfl rfl rfl (aH (d:=40) rfl rfl rfl rfl (bC rfl rfl rfl (aL rfl rfl (aH (d:=44) rfl rfl rfl rfl (aH (d:=44) rfl rfl rfl rfl (aH (d:=44) rfl rfl rfl rfl (aH (d:=44) rfl rfl rfl rfl (aH (d:=44) rfl rfl rfl rfl (bC rfl rfl rfl (aL rfl rfl (aH (d:=51) rfl rfl rfl rfl (aH (d:=51) rfl rfl rfl rfl (aH (d:=51) rfl rfl rfl rfl (aH (d:=51) rfl rfl rfl rfl ?_))))))))))))))))))))))))))))))))
   refine bC rfl rfl rfl (aT (XF.thenN (eA rfl (aR (aU (aK rfl rfl (aT (XF.thenN (bP (XF.thenR (XF.res (cG results44 rfl) ?_)))))))))))
   exact ⟨bI (by unfold fJ;dsimp only;rw [if_neg (by omega),if_pos (by omega)]),hS.below⟩
  ·have hg22:=of_decide_eq_false hc;clear hc
   refine aF (d:=22) rfl rfl (aL rfl rfl (aF (d:=22) rfl rfl (lF rfl rfl rfl (bE rfl rfl rfl (aL rfl rfl (bK (d:=26) rfl (fun hc=>?_) (fun hc=>?_)))))))
   ·have hg26:=of_decide_eq_true hc;clear hc
    refine aH (d:=26) rfl rfl rfl rfl (aH (d:=26) rfl rfl rfl rfl (aH (d:=26) rfl rfl rfl rfl (aH (d:=26) rfl rfl rfl rfl (aH (d:=26) rfl rfl rfl rfl (bC rfl rfl rfl (aL rfl rfl (aH (d:=33) rfl rfl rfl rfl (aH (d:=33) rfl rfl rfl rfl (aH (d:=33) rfl rfl rfl rfl (aH (d:=33) rfl rfl rfl rfl (aH (d:=33) rfl rfl rfl rfl (bC rfl rfl rfl (aL rfl rfl (aH (d:=40) rfl rfl rfl rfl (aH (d:=40) rfl rfl rfl rfl (bC rfl rfl rfl (aL rfl rfl (aH (d:=44) rfl rfl rfl rfl (aH (d:=44) rfl rfl rfl rfl (aH (d:=44) rfl rfl rfl rfl (aH (d:=44) rfl rfl rfl rfl (aH (d:=44) rfl rfl rfl rfl (bC rfl rfl rfl (aL rfl rfl (aH (d:=51) rfl rfl rfl rfl (aH (d:=51) rfl rfl rfl rfl (aH (d:=51) rfl rfl rfl rfl (aH (d:=51) rfl rfl rfl rfl (bC rfl rfl rfl (aT (XF.thenN (eA rfl (aR (aU ?_))))))))))))))))))))))))))))))))))
    refine aK rfl rfl (aT (XF.thenN (bP (XF.thenR (XF.res (cG results44 rfl) ?_)))))
    exact ⟨bI (by unfold fJ;dsimp only;rw [if_neg (by omega),if_neg (by omega),if_pos (by omega)]),hS.below⟩
   ·have hg26:=of_decide_eq_false hc;clear hc
    refine aF (d:=26) rfl rfl (aQ (o':=2) dP rfl rfl rfl (aF (d:=26) rfl rfl (aV isAgg23 rfl (aI (hS.at_ 0 rfl) rfl) rfl (aF (d:=26) rfl rfl (bU underlying23 rfl rfl (aF (d:=26) rfl rfl (aL rfl rfl (aF (d:=26) rfl rfl (cW rfl rfl rfl (bE rfl rfl rfl (aL rfl rfl (bK (d:=33) rfl (fun hc=>?_) (fun hc=>?_)))))))))))))
    ·have hg33:=of_decide_eq_true hc;clear hc
     refine aH (d:=33) rfl rfl rfl rfl (aH (d:=33) rfl rfl rfl rfl (aH (d:=33) rfl rfl rfl rfl (aH (d:=33) rfl rfl rfl rfl (aH (d:=33) rfl rfl rfl rfl (bC rfl rfl rfl (aL rfl rfl (aH (d:=40) rfl rfl rfl rfl (aH (d:=40) rfl rfl rfl rfl (bC rfl rfl rfl (aL rfl rfl (aH (d:=44) rfl rfl rfl rfl (aH (d:=44) rfl rfl rfl rfl (aH (d:=44) rfl rfl rfl rfl (aH (d:=44) rfl rfl rfl rfl (aH (d:=44) rfl rfl rfl rfl (bC rfl rfl rfl (aL rfl rfl (aH (d:=51) rfl rfl rfl rfl (aH (d:=51) rfl rfl rfl rfl (aH (d:=51) rfl rfl rfl rfl (aH (d:=51) rfl rfl rfl rfl (bC rfl rfl rfl (aT (XF.thenN (eA rfl (aR (aU (aK rfl rfl (aT (XF.thenN (bP (XF.thenR (XF.res (cG results44 rfl) ?_)))))))))))))))))))))))))))))))))
     exact ⟨bI (by unfold fJ;dsimp only;rw [if_neg (by omega),if_neg (by omega),if_neg (by omega),if_pos (by omega)]),hS.below⟩
    ·have hg33:=of_decide_eq_false hc;clear hc
     refine aF (d:=33) rfl rfl (aQ (o':=3) eT rfl rfl rfl (aF (d:=33) rfl rfl (aV isAgg23 rfl (aI (hS.at_ 0 rfl) rfl) rfl (aF (d:=33) rfl rfl (bU underlying23 rfl rfl (aF (d:=33) rfl rfl (aL rfl rfl (aF (d:=33) rfl rfl (cW rfl rfl rfl (bE rfl rfl rfl (aL rfl rfl (bK (d:=40) rfl (fun hc=>?_) (fun hc=>?_)))))))))))))
     ·have hg40:=of_decide_eq_true hc;clear hc
      refine aH (d:=40) rfl rfl rfl rfl (aH (d:=40) rfl rfl rfl rfl (bC rfl rfl rfl (aL rfl rfl (aH (d:=44) rfl rfl rfl rfl (aH (d:=44) rfl rfl rfl rfl (aH (d:=44) rfl rfl rfl rfl (aH (d:=44) rfl rfl rfl rfl (aH (d:=44) rfl rfl rfl rfl (bC rfl rfl rfl (aL rfl rfl (aH (d:=51) rfl rfl rfl rfl (aH (d:=51) rfl rfl rfl rfl (aH (d:=51) rfl rfl rfl rfl (aH (d:=51) rfl rfl rfl rfl (bC rfl rfl rfl (aT (XF.thenN (eA rfl (aR (aU (aK rfl rfl (aT (XF.thenN (bP (XF.thenR (XF.res (cG results44 rfl) ?_))))))))))))))))))))))))))
      exact ⟨bI (by unfold fJ;dsimp only;rw [if_neg (by omega),if_neg (by omega),if_neg (by omega),if_neg (by omega),if_pos (by omega)]),hS.below⟩
     ·have hg40:=of_decide_eq_false hc;clear hc
      refine aF (d:=40) rfl rfl (aL rfl rfl (aF (d:=40) rfl rfl (lF rfl rfl rfl (bE rfl rfl rfl (aL rfl rfl (bK (d:=44) rfl (fun hc=>?_) (fun hc=>?_)))))))
      ·have hg44:=of_decide_eq_true hc;clear hc
       refine aH (d:=44) rfl rfl rfl rfl (aH (d:=44) rfl rfl rfl rfl (aH (d:=44) rfl rfl rfl rfl (aH (d:=44) rfl rfl rfl rfl (aH (d:=44) rfl rfl rfl rfl (bC rfl rfl rfl (aL rfl rfl (aH (d:=51) rfl rfl rfl rfl (aH (d:=51) rfl rfl rfl rfl (aH (d:=51) rfl rfl rfl rfl (aH (d:=51) rfl rfl rfl rfl (bC rfl rfl rfl (aT (XF.thenN (eA rfl (aR (aU (aK rfl rfl (aT (XF.thenN (bP (XF.thenR (XF.res (cG results44 rfl) ?_))))))))))))))))))))))
       exact ⟨bI (by unfold fJ;dsimp only;rw [if_neg (by omega),if_neg (by omega),if_neg (by omega),if_neg (by omega),if_neg (by omega),if_pos (by omega)]),hS.below⟩
      ·have hg44:=of_decide_eq_false hc;clear hc
       refine aF (d:=44) rfl rfl (aQ (o':=4) hH rfl rfl rfl (aF (d:=44) rfl rfl (aV isAgg3 rfl (aI (hS.at_ 0 rfl) rfl) rfl (aF (d:=44) rfl rfl (aL rfl rfl (aF (d:=44) rfl rfl (cD (vs:=[_,_]) hS cB rfl (eB mn pl _) rfl fun W3 hS=>aF (d:=44) rfl rfl (eX rfl rfl (bE rfl rfl rfl (aL rfl rfl (bK (d:=51) rfl (fun hc=>?_) (fun hc=>?_))))))))))))
       ·have hg51:=hc;clear hc
        refine aH (d:=51) rfl rfl rfl rfl (aH (d:=51) rfl rfl rfl rfl (aH (d:=51) rfl rfl rfl rfl (aH (d:=51) rfl rfl rfl rfl (bC rfl rfl rfl (aT (XF.thenN (eA rfl (aR (aU (aK rfl rfl (aT (XF.thenN (bP (XF.thenR (XF.res (cG results44 rfl) ?_)))))))))))))))
        exact ⟨bI (by unfold fJ;dsimp only;rw [if_neg (by omega),if_neg (by omega),if_neg (by omega),if_neg (by omega),if_neg (by omega),if_neg (by omega),if_pos (by simpa using hg51)]),hS.below⟩
       ·have hg51:=hc;clear hc
        have hmn:gr_inQ mn pl=true:=by simpa using hg51
        refine aF (d:=51) rfl rfl (aQ (o':=7) cX rfl rfl rfl (aF (d:=51) rfl rfl (aV isAgg25 rfl (aI (hS.at_ 0 rfl) rfl) rfl (aF (d:=51) rfl rfl (bU underlying25 rfl rfl (aF (d:=51) rfl rfl (lF rfl rfl rfl (bE rfl rfl rfl (aT (XF.thenN (bJ rfl (fun hc=>?_) (fun hc=>?_))))))))))))
        ·have hc56:=of_decide_eq_true hc;clear hc
         refine aR (aU (aK rfl rfl (aT (XF.thenN (bP (XF.thenR (XF.res (cG results44 rfl) ?_)))))))
         exact ⟨bI (by unfold fJ;dsimp only;rw [if_neg (by omega),if_neg (by omega),if_neg (by omega),if_neg (by omega),if_neg (by omega),if_neg (by omega),if_neg (by rw [hmn];simp),if_pos (by omega)]),hS.below⟩
        ·have hc56:=of_decide_eq_false hc;clear hc
         refine bQ (XF.thenN (aR (aR (aU (aK rfl rfl (aT (XF.thenN (bR (eI (fun m l W=>∃ i:Nat,i≤ol∧m=ol - i∧l=[(1,.pointer (some ⟨B1,0,none⟩)),(3,.int .i64 (pl:Int)),(4,.int .i64 (ol:Int)),(5,.int .i64 (i:Int))]∧(os.take i).all (fun y=>gr_inQ y pl)=true∧St w [(B1,[.slice va vl vc,.slice pa pl pc,.slice ea el ec,.slice xa xl xc,.int .i64 mn,.slice oa ol oc,.slice sa sl sc,.slice ta tl tc,.slice na nl nc,.slice ka kl kc],29)] [] [] W) (ol - 0) ([(1,_),(3,_),(4,_),(5,_)]) ⟨rfl,rfl,rfl,rfl,trivial⟩ (⟨0,Nat.zero_le _,rfl,rfl,rfl,hS.clear⟩) ?_)))))))))
         clear hS
         rintro m l W ⟨i,hi,rfl,rfl,hall,hS⟩
         refine aR (aR (aU (aL rfl rfl (aL rfl rfl (dA rfl rfl rfl (aT (XF.thenN (bJ rfl (fun hc=>?_) (fun hc=>?_)))))))))
         ·have hc59:=of_decide_eq_true hc;clear hc
          have hk1:i < ol:=by omega
          obtain ⟨b,off,y,rfl,hy,hyc⟩:=ho.get (i:=i) (by omega)
          have k1:=(aM.agree hS.agree (Nat.zero_le _) hyc).1
          refine bQ (XF.thenN (aR (bR (aR (aU (aQ (o':=5) cA rfl rfl rfl (aV isAgg23 rfl (aI (hS.at_ 0 rfl) rfl) rfl (aL rfl rfl (cP  underlying23 sizeOf3 rfl rfl rfl (by omega) rfl rfl (aV isAgg3 rfl (k1) rfl (aL rfl rfl (cD (vs:=[_,_]) hS cB rfl (eB y pl _) rfl fun W4 hS=>eX rfl rfl (aT (XF.thenN (bJ rfl (fun hc=>?_) (fun hc=>?_))))))))))))))))
          ·have hc69:=hc;clear hc
           refine aR (aU (aK rfl rfl (aT (XF.thenN (bP (XF.blkR (XF.thenR (XF.thenR (XF.blkR (XF.thenR (XF.res (cG results44 rfl) ?_)))))))))))
           exact ⟨bI (by unfold fJ;dsimp only;rw [if_neg (by omega),if_neg (by omega),if_neg (by omega),if_neg (by omega),if_neg (by omega),if_neg (by omega),if_neg (by rw [hmn];simp),if_neg (by omega),if_pos (dR hy (by simpa using hc69))]),hS.below⟩
          ·have hc69:=hc;clear hc
           refine bQ (XF.blkN (XF.thenN (aU (aL rfl rfl (dH rfl rfl (IntWalk.i64_in _ (by omega)) rfl (aK rfl rfl (aT ?_)))))))
           exact XF.round (ol - (i+1)) [(1,_),(3,_),(4,_),(5,_)] (by omega) ⟨rfl,rfl,rfl,rfl,trivial⟩ ⟨i+1,by omega,rfl,rfl,eO hy hall (by simpa using hc69),hS.clear⟩
         ·have hc59:=of_decide_eq_false hc;clear hc
          rw [List.take_of_length_le (by omega)] at hall
          refine cZ (XF.thenX (XF.thenX (XF.blkX (XF.thenN (aR (aR (aU (aK rfl rfl (aT (XF.thenN (bR (eI (fun m l W=>∃ i:Nat,i≤pl∧m=pl - i∧l=[(1,.pointer (some ⟨B1,0,none⟩)),(3,.int .i64 (pl:Int)),(4,.int .i64 (ol:Int)),(6,.int .i64 (i:Int))]∧(List.range i).all (tG ⟨va,vl,vc,pa,pl,pc,ea,el,ec,es,xa,xl,xc,xs,mn,oa,ol,oc,os,sa,sl,sc,ss,ta,tl,tc,ts,na,nl,nc,ns,ka,kl,kc,ks⟩)=true∧St w [(B1,[.slice va vl vc,.slice pa pl pc,.slice ea el ec,.slice xa xl xc,.int .i64 mn,.slice oa ol oc,.slice sa sl sc,.slice ta tl tc,.slice na nl nc,.slice ka kl kc],29)] [] [] W) (pl - 0) ([(1,_),(3,_),(4,_),(6,_)]) ⟨rfl,rfl,rfl,rfl,trivial⟩ (⟨0,Nat.zero_le _,rfl,rfl,rfl,hS.clear⟩) ?_))))))))))))
          clear hS
          rintro m l W ⟨i,hi,rfl,rfl,hpr,hS⟩
          refine aR (aR (aU (aL rfl rfl (aL rfl rfl (dA rfl rfl rfl (aT (XF.thenN (bJ rfl (fun hc=>?_) (fun hc=>?_)))))))))
          ·have hc72:=of_decide_eq_true hc;clear hc
           have hi1:i < pl:=by omega
           obtain ⟨eb,eo,n1,rfl,hn1,hnc1⟩:=he.get (i:=i) (by omega)
           obtain ⟨xb,xo,n2,rfl,hn2,hnc2⟩:=hx.get (i:=i) (by omega)
           have k1:=(aM.agree hS.agree (Nat.zero_le _) hnc1).1
           have k2:=(aM.agree hS.agree (Nat.zero_le _) hnc2).1
           refine bQ (XF.thenN (aR (bR (aR ?_))))
           rcases (yB hol n1 n2 i) with h1 | ⟨h1,h2⟩ | ⟨h1,h2,q1,q2,y1,y2,rfl,rfl,hq1,hq2,hy1,hy2,hne | hee⟩
           ·skip
            refine fK (m:=44) bG hS (by kernel_rfl) (by kernel_rfl) rfl (bZ 1 rfl 1 rfl rfl (fun w hw=>aO (o':=2) dP rfl rfl) rfl (aZ 2 rfl 75 0 rfl rfl rfl (fun w hw=>aS isAgg23 rfl ((aJ hw 0).cell (Nat.zero_le _) (aI (hS.at_ 0 rfl) rfl))) rfl (bZ 3 rfl 6 rfl rfl (fun w hw=>aW rfl) rfl (aD 4 rfl (isV _) (aB _) (rgV (li:=[(76,_),(77,_)]) rfl (aP rfl) ⟨aG 1 (aA rfl rfl rfl),aG 2 (aA rfl rfl rfl),trivial⟩ (fun w hw=>bH  underlying23 sizeOf3 rfl rfl rfl (by omega) rfl) (aC rfl)) (aZ 5 rfl 78 3 rfl rfl rfl (fun w hw=>aS isAgg3 rfl ((aJ hw 0).cell (Nat.zero_le _) (k1))) rfl (bZ 6 rfl 4 rfl rfl (fun w hw=>aW rfl) rfl ?_))))))
            refine aD 7 rfl (isV (.bool false)) (aB _) (cH [isV _,isV _] rfl cB (aP rfl) ⟨bO (aG 4 (aA rfl rfl rfl)),bO (aG 5 (aA rfl rfl rfl)),trivial⟩ (fun vs w' hb hh=>by have e:=bN (us:=[_,_]) hh;subst e;exact (eB n1 _ _).mono fun e w2 h=>⟨_,by rw [h.1,h1],rfl,h.2⟩) (aC rfl)) ?_
            refine aZ 8 rfl 81 6 rfl rfl rfl (fun w hw=>dM rfl) rfl (aZ 9 rfl 82 7 rfl rfl rfl (fun w hw=>aW rfl) rfl (aD 10 rfl (isV undef) (aB _) (aX rfl (aY 83 rfl (aA rfl rfl rfl) rfl) (aC rfl)) (aD 11 rfl (isV undef) (aB _) (aX rfl (aY 83 rfl (aA rfl rfl rfl) rfl) (aC rfl)) (aD 12 rfl (isV undef) (aB _) (aX rfl (aY 83 rfl (aA rfl rfl rfl) rfl) (aC rfl)) (aD 13 rfl (isV undef) (aB _) (aX rfl (aY 83 rfl (aA rfl rfl rfl) rfl) (aC rfl)) (aD 14 rfl (isV undef) (aB _) (aX rfl (aY 83 rfl (aA rfl rfl rfl) rfl) (aC rfl)) (aD 15 rfl (isV undef) (aB _) (aX rfl (aY 83 rfl (aA rfl rfl rfl) rfl) (aC rfl)) (aD 16 rfl (isV undef) (aB _) (aX rfl (aY 83 rfl (aA rfl rfl rfl) rfl) (aC rfl)) (aD 17 rfl (isV undef) (aB _) (aX rfl (aY 83 rfl (aA rfl rfl rfl) rfl) (aC rfl)) (aZ 18 rfl 83 8 rfl rfl rfl (fun w hw=>cI rfl rfl) rfl (aZ 19 rfl 92 17 rfl rfl rfl (fun w hw=>aW rfl) rfl (aD 20 rfl (isV undef) (aB _) (aX rfl (aY 93 rfl (aA rfl rfl rfl) rfl) (aC rfl)) (aD 21 rfl (isV undef) (aB _) (aX rfl (aY 93 rfl (aA rfl rfl rfl) rfl) (aC rfl)) (aD 22 rfl (isV undef) (aB _) (aX rfl (aY 93 rfl (aA rfl rfl rfl) rfl) (aC rfl)) (aD 23 rfl (isV undef) (aB _) (aX rfl (aY 93 rfl (aA rfl rfl rfl) rfl) (aC rfl)) (aD 24 rfl (isV undef) (aB _) (aX rfl (aY 93 rfl (aA rfl rfl rfl) rfl) (aC rfl)) (aD 25 rfl (isV undef) (aB _) (aX rfl (aY 93 rfl (aA rfl rfl rfl) rfl) (aC rfl)) (aD 26 rfl (isV undef) (aB _) (aX rfl (aY 93 rfl (aA rfl rfl rfl) rfl) (aC rfl)) (aD 27 rfl (isV undef) (aB _) (aX rfl (aY 93 rfl (aA rfl rfl rfl) rfl) (aC rfl)) (aD 28 rfl (isV undef) (aB _) (aX rfl (aY 93 rfl (aA rfl rfl rfl) rfl) (aC rfl)) (aD 29 rfl (isV undef) (aB _) (aX rfl (aY 93 rfl (aA rfl rfl rfl) rfl) (aC rfl)) (aD 30 rfl (isV undef) (aB _) (aX rfl (aY 93 rfl (aA rfl rfl rfl) rfl) (aC rfl)) (aZ 31 rfl 93 18 rfl rfl rfl (fun w hw=>cI rfl rfl) rfl (aZ 32 rfl 105 30 rfl rfl rfl (fun w hw=>aW rfl) rfl (aD 33 rfl (isV undef) (aB _) (aX rfl (aY 106 rfl (aA rfl rfl rfl) rfl) (aC rfl)) (aD 34 rfl (isV undef) (aB _) (aX rfl (aY 106 rfl (aA rfl rfl rfl) rfl) (aC rfl)) (aD 35 rfl (isV undef) (aB _) (aX rfl (aY 106 rfl (aA rfl rfl rfl) rfl) (aC rfl)) (aD 36 rfl (isV undef) (aB _) (aX rfl (aY 106 rfl (aA rfl rfl rfl) rfl) (aC rfl)) (aD 37 rfl (isV undef) (aB _) (aX rfl (aY 106 rfl (aA rfl rfl rfl) rfl) (aC rfl)) (aD 38 rfl (isV undef) (aB _) (aX rfl (aY 106 rfl (aA rfl rfl rfl) rfl) (aC rfl)) (aD 39 rfl (isV undef) (aB _) (aX rfl (aY 106 rfl (aA rfl rfl rfl) rfl) (aC rfl)) (aD 40 rfl (isV undef) (aB _) (aX rfl (aY 106 rfl (aA rfl rfl rfl) rfl) (aC rfl)) ?_))))))))))))))))))))))))))))))))
            refine aD 41 rfl (isV undef) (aB _) (aX rfl (aY 106 rfl (aA rfl rfl rfl) rfl) (aC rfl)) (aD 42 rfl (isV undef) (aB _) (aX rfl (aY 106 rfl (aA rfl rfl rfl) rfl) (aC rfl)) (aD 43 rfl (isV undef) (aB _) (aX rfl (aY 106 rfl (aA rfl rfl rfl) rfl) (aC rfl)) (aZ 44 rfl 106 31 rfl rfl rfl (fun w hw=>cI rfl rfl) rfl (dF ?_))))
            intro W5 hbR hS'
            clear hS;have hS:=hS';clear hS'
            refine aE (aE (aE (aE (aE (aE (aE (aE (aE (aE (aE (aE (aE (aE (aE (aE (aE (aE (aE (aE (aE (aE (aE (aE (aE (aE (aE (aE (aE (aE (aE (aE (aE ?_))))))))))))))))))))))))))))))))
            refine aE (aE (aE (aE (aE (aE (aE (aE (aE (aE (aE (bV (XF.thenN (eA rfl (aR (aU (aK rfl rfl (aT (XF.thenN (bP (XF.blkR (XF.thenR (XF.thenR (XF.blkR (XF.thenR (XF.res (cG results44 rfl) ?_)))))))))))))))))))))))))
            exact ⟨bI (by unfold fJ;dsimp only;rw [if_neg (by omega),if_neg (by omega),if_neg (by omega),if_neg (by omega),if_neg (by omega),if_neg (by omega),if_neg (by rw [hmn];simp),if_neg (by omega),if_neg (by rw [hall];simp),if_pos (fM hi1 (by show (fA os ol es i && fA os ol xs i)=false;rw [nD hn1 h1];rfl))]),hS.below⟩
           ·skip
            refine fK (m:=44) bG hS (by kernel_rfl) (by kernel_rfl) rfl (bZ 1 rfl 1 rfl rfl (fun w hw=>aO (o':=2) dP rfl rfl) rfl (aZ 2 rfl 75 0 rfl rfl rfl (fun w hw=>aS isAgg23 rfl ((aJ hw 0).cell (Nat.zero_le _) (aI (hS.at_ 0 rfl) rfl))) rfl (bZ 3 rfl 6 rfl rfl (fun w hw=>aW rfl) rfl (aD 4 rfl (isV _) (aB _) (rgV (li:=[(76,_),(77,_)]) rfl (aP rfl) ⟨aG 1 (aA rfl rfl rfl),aG 2 (aA rfl rfl rfl),trivial⟩ (fun w hw=>bH  underlying23 sizeOf3 rfl rfl rfl (by omega) rfl) (aC rfl)) (aZ 5 rfl 78 3 rfl rfl rfl (fun w hw=>aS isAgg3 rfl ((aJ hw 0).cell (Nat.zero_le _) (k1))) rfl (bZ 6 rfl 4 rfl rfl (fun w hw=>aW rfl) rfl ?_))))))
            refine aD 7 rfl (isV (.bool true)) (aB _) (cH [isV _,isV _] rfl cB (aP rfl) ⟨bO (aG 4 (aA rfl rfl rfl)),bO (aG 5 (aA rfl rfl rfl)),trivial⟩ (fun vs w' hb hh=>by have e:=bN (us:=[_,_]) hh;subst e;exact (eB n1 _ _).mono fun e w2 h=>⟨_,by rw [h.1,h1],rfl,h.2⟩) (aC rfl)) ?_
            refine aZ 8 rfl 81 6 rfl rfl rfl (fun w hw=>dM rfl) rfl (aZ 9 rfl 82 7 rfl rfl rfl (fun w hw=>aW rfl) rfl (aD 10 rfl (isV _) (aB _) (rgV (li:=[(1,_)]) rfl (aN 83 rfl (aA rfl rfl rfl)) ⟨bB rfl,trivial⟩ (fun w hw=>aO (o':=3) eT rfl rfl) (aC rfl)) (aD 11 rfl (isV _) (aB _) (rgV (li:=[(84,_)]) rfl (aN 83 rfl (aA rfl rfl rfl)) ⟨aG 9 (aA rfl rfl rfl),trivial⟩ (fun w hw=>aS isAgg23 rfl ((aJ hw 0).cell (Nat.zero_le _) (aI (hS.at_ 0 rfl) rfl))) (aC rfl)) (aD 12 rfl (isV _) (aB _) (rgV (li:=[(6,_)]) rfl (aN 83 rfl (aA rfl rfl rfl)) ⟨bB rfl,trivial⟩ (fun w hw=>aW rfl) (aC rfl)) (aD 13 rfl (isV _) (aB _) (rgV (li:=[(85,_),(86,_)]) rfl (aN 83 rfl (aA rfl rfl rfl)) ⟨aG 10 (aA rfl rfl rfl),aG 11 (aA rfl rfl rfl),trivial⟩ (fun w hw=>bH  underlying23 sizeOf3 rfl rfl rfl (by omega) rfl) (aC rfl)) (aD 14 rfl (isV _) (aB _) (rgV (li:=[(87,_)]) rfl (aN 83 rfl (aA rfl rfl rfl)) ⟨aG 12 (aA rfl rfl rfl),trivial⟩ (fun w hw=>aS isAgg3 rfl ((aJ hw 0).cell (Nat.zero_le _) (k2))) (aC rfl)) (aD 15 rfl (isV _) (aB _) (rgV (li:=[(4,_)]) rfl (aN 83 rfl (aA rfl rfl rfl)) ⟨bB rfl,trivial⟩ (fun w hw=>aW rfl) (aC rfl)) ?_)))))))
            refine aD 16 rfl (isV (.bool false)) (aB _) (cH [isV _,isV _] rfl cB (aN 83 rfl (aA rfl rfl rfl)) ⟨bO (aG 13 (aA rfl rfl rfl)),bO (aG 14 (aA rfl rfl rfl)),trivial⟩ (fun vs w' hb hh=>by have e:=bN (us:=[_,_]) hh;subst e;exact (eB n2 _ _).mono fun e w2 h=>⟨_,by rw [h.1,h2],rfl,h.2⟩) (aC rfl)) ?_
            refine aD 17 rfl (isV _) (aB _) (rgV (li:=[(90,_)]) rfl (aN 83 rfl (aA rfl rfl rfl)) ⟨aG 15 (aA rfl rfl rfl),trivial⟩ (fun w hw=>dM rfl) (aC rfl)) (aD 18 rfl (isV _) (aB _) (rgV (li:=[(83,_),(91,_)]) rfl (aP rfl) ⟨aG 8 (aA rfl rfl rfl),aG 16 (aA rfl rfl rfl),trivial⟩ (fun w hw=>bX rfl rfl) (aC rfl)) (aZ 19 rfl 92 17 rfl rfl rfl (fun w hw=>aW rfl) rfl (aD 20 rfl (isV undef) (aB _) (aX rfl (aY 93 rfl (aA rfl rfl rfl) rfl) (aC rfl)) (aD 21 rfl (isV undef) (aB _) (aX rfl (aY 93 rfl (aA rfl rfl rfl) rfl) (aC rfl)) (aD 22 rfl (isV undef) (aB _) (aX rfl (aY 93 rfl (aA rfl rfl rfl) rfl) (aC rfl)) (aD 23 rfl (isV undef) (aB _) (aX rfl (aY 93 rfl (aA rfl rfl rfl) rfl) (aC rfl)) (aD 24 rfl (isV undef) (aB _) (aX rfl (aY 93 rfl (aA rfl rfl rfl) rfl) (aC rfl)) (aD 25 rfl (isV undef) (aB _) (aX rfl (aY 93 rfl (aA rfl rfl rfl) rfl) (aC rfl)) (aD 26 rfl (isV undef) (aB _) (aX rfl (aY 93 rfl (aA rfl rfl rfl) rfl) (aC rfl)) (aD 27 rfl (isV undef) (aB _) (aX rfl (aY 93 rfl (aA rfl rfl rfl) rfl) (aC rfl)) (aD 28 rfl (isV undef) (aB _) (aX rfl (aY 93 rfl (aA rfl rfl rfl) rfl) (aC rfl)) (aD 29 rfl (isV undef) (aB _) (aX rfl (aY 93 rfl (aA rfl rfl rfl) rfl) (aC rfl)) (aD 30 rfl (isV undef) (aB _) (aX rfl (aY 93 rfl (aA rfl rfl rfl) rfl) (aC rfl)) (aZ 31 rfl 93 18 rfl rfl rfl (fun w hw=>cI rfl rfl) rfl (aZ 32 rfl 105 30 rfl rfl rfl (fun w hw=>aW rfl) rfl (aD 33 rfl (isV undef) (aB _) (aX rfl (aY 106 rfl (aA rfl rfl rfl) rfl) (aC rfl)) (aD 34 rfl (isV undef) (aB _) (aX rfl (aY 106 rfl (aA rfl rfl rfl) rfl) (aC rfl)) (aD 35 rfl (isV undef) (aB _) (aX rfl (aY 106 rfl (aA rfl rfl rfl) rfl) (aC rfl)) (aD 36 rfl (isV undef) (aB _) (aX rfl (aY 106 rfl (aA rfl rfl rfl) rfl) (aC rfl)) (aD 37 rfl (isV undef) (aB _) (aX rfl (aY 106 rfl (aA rfl rfl rfl) rfl) (aC rfl)) (aD 38 rfl (isV undef) (aB _) (aX rfl (aY 106 rfl (aA rfl rfl rfl) rfl) (aC rfl)) (aD 39 rfl (isV undef) (aB _) (aX rfl (aY 106 rfl (aA rfl rfl rfl) rfl) (aC rfl)) (aD 40 rfl (isV undef) (aB _) (aX rfl (aY 106 rfl (aA rfl rfl rfl) rfl) (aC rfl)) (aD 41 rfl (isV undef) (aB _) (aX rfl (aY 106 rfl (aA rfl rfl rfl) rfl) (aC rfl)) (aD 42 rfl (isV undef) (aB _) (aX rfl (aY 106 rfl (aA rfl rfl rfl) rfl) (aC rfl)) (aD 43 rfl (isV undef) (aB _) (aX rfl (aY 106 rfl (aA rfl rfl rfl) rfl) (aC rfl)) (aZ 44 rfl 106 31 rfl rfl rfl (fun w hw=>cI rfl rfl) rfl (dF ?_))))))))))))))))))))))))))))
            intro W6 hbR hS'
            clear hS;have hS:=hS';clear hS'
            refine aE (aE (aE (aE (aE (aE (aE (aE (aE (aE (aE (aE (aE (aE (aE (aE (aE (aE (aE (aE (aE (aE (aE (aE (aE (aE (aE (aE (aE (aE (aE (aE (aE ?_))))))))))))))))))))))))))))))))
            refine aE (aE (aE (aE (aE (aE (aE (aE (aE (aE (aE (bV (XF.thenN (eA rfl (aR (aU (aK rfl rfl (aT (XF.thenN (bP (XF.blkR (XF.thenR (XF.thenR (XF.blkR (XF.thenR (XF.res (cG results44 rfl) ?_)))))))))))))))))))))))))
            exact ⟨bI (by unfold fJ;dsimp only;rw [if_neg (by omega),if_neg (by omega),if_neg (by omega),if_neg (by omega),if_neg (by omega),if_neg (by omega),if_neg (by rw [hmn];simp),if_neg (by omega),if_neg (by rw [hall];simp),if_pos (fM hi1 (by show (fA os ol es i && fA os ol xs i)=false;rw [nD hn2 h2,Bool.and_false]))]),hS.below⟩
           ·obtain ⟨ob,oo,z1,rfl,hz1,hzc1⟩:=ho.get (i:=q1) (by omega)
            obtain ⟨ob2,oo2,z2,e2,hz2,hzc2⟩:=ho.get (i:=q2) (by omega)
            cases e2
            obtain rfl:y1=z1:=Option.some.inj (hy1.symm.trans hz1)
            obtain rfl:y2=z2:=Option.some.inj (hy2.symm.trans hz2)
            have k3:=(aM.agree hS.agree (Nat.zero_le _) hzc1).1
            have k4:=(aM.agree hS.agree (Nat.zero_le _) hzc2).1
            refine fK (m:=44) bG hS (by kernel_rfl) (by kernel_rfl) rfl (bZ 1 rfl 1 rfl rfl (fun w hw=>aO (o':=2) dP rfl rfl) rfl (aZ 2 rfl 75 0 rfl rfl rfl (fun w hw=>aS isAgg23 rfl ((aJ hw 0).cell (Nat.zero_le _) (aI (hS.at_ 0 rfl) rfl))) rfl (bZ 3 rfl 6 rfl rfl (fun w hw=>aW rfl) rfl (aD 4 rfl (isV _) (aB _) (rgV (li:=[(76,_),(77,_)]) rfl (aP rfl) ⟨aG 1 (aA rfl rfl rfl),aG 2 (aA rfl rfl rfl),trivial⟩ (fun w hw=>bH  underlying23 sizeOf3 rfl rfl rfl (by omega) rfl) (aC rfl)) (aZ 5 rfl 78 3 rfl rfl rfl (fun w hw=>aS isAgg3 rfl ((aJ hw 0).cell (Nat.zero_le _) (k1))) rfl (bZ 6 rfl 4 rfl rfl (fun w hw=>aW rfl) rfl ?_))))))
            refine aD 7 rfl (isV (.bool true)) (aB _) (cH [isV _,isV _] rfl cB (aP rfl) ⟨bO (aG 4 (aA rfl rfl rfl)),bO (aG 5 (aA rfl rfl rfl)),trivial⟩ (fun vs w' hb hh=>by have e:=bN (us:=[_,_]) hh;subst e;exact (eB _ _ _).mono fun e w2 h=>⟨_,by rw [h.1,h1],rfl,h.2⟩) (aC rfl)) ?_
            refine aZ 8 rfl 81 6 rfl rfl rfl (fun w hw=>dM rfl) rfl (aZ 9 rfl 82 7 rfl rfl rfl (fun w hw=>aW rfl) rfl (aD 10 rfl (isV _) (aB _) (rgV (li:=[(1,_)]) rfl (aN 83 rfl (aA rfl rfl rfl)) ⟨bB rfl,trivial⟩ (fun w hw=>aO (o':=3) eT rfl rfl) (aC rfl)) (aD 11 rfl (isV _) (aB _) (rgV (li:=[(84,_)]) rfl (aN 83 rfl (aA rfl rfl rfl)) ⟨aG 9 (aA rfl rfl rfl),trivial⟩ (fun w hw=>aS isAgg23 rfl ((aJ hw 0).cell (Nat.zero_le _) (aI (hS.at_ 0 rfl) rfl))) (aC rfl)) (aD 12 rfl (isV _) (aB _) (rgV (li:=[(6,_)]) rfl (aN 83 rfl (aA rfl rfl rfl)) ⟨bB rfl,trivial⟩ (fun w hw=>aW rfl) (aC rfl)) (aD 13 rfl (isV _) (aB _) (rgV (li:=[(85,_),(86,_)]) rfl (aN 83 rfl (aA rfl rfl rfl)) ⟨aG 10 (aA rfl rfl rfl),aG 11 (aA rfl rfl rfl),trivial⟩ (fun w hw=>bH  underlying23 sizeOf3 rfl rfl rfl (by omega) rfl) (aC rfl)) (aD 14 rfl (isV _) (aB _) (rgV (li:=[(87,_)]) rfl (aN 83 rfl (aA rfl rfl rfl)) ⟨aG 12 (aA rfl rfl rfl),trivial⟩ (fun w hw=>aS isAgg3 rfl ((aJ hw 0).cell (Nat.zero_le _) (k2))) (aC rfl)) (aD 15 rfl (isV _) (aB _) (rgV (li:=[(4,_)]) rfl (aN 83 rfl (aA rfl rfl rfl)) ⟨bB rfl,trivial⟩ (fun w hw=>aW rfl) (aC rfl)) ?_)))))))
            refine aD 16 rfl (isV (.bool true)) (aB _) (cH [isV _,isV _] rfl cB (aN 83 rfl (aA rfl rfl rfl)) ⟨bO (aG 13 (aA rfl rfl rfl)),bO (aG 14 (aA rfl rfl rfl)),trivial⟩ (fun vs w' hb hh=>by have e:=bN (us:=[_,_]) hh;subst e;exact (eB _ _ _).mono fun e w2 h=>⟨_,by rw [h.1,h2],rfl,h.2⟩) (aC rfl)) ?_
            refine aD 17 rfl (isV _) (aB _) (rgV (li:=[(90,_)]) rfl (aN 83 rfl (aA rfl rfl rfl)) ⟨aG 15 (aA rfl rfl rfl),trivial⟩ (fun w hw=>dM rfl) (aC rfl)) (aD 18 rfl (isV _) (aB _) (rgV (li:=[(83,_),(91,_)]) rfl (aP rfl) ⟨aG 8 (aA rfl rfl rfl),aG 16 (aA rfl rfl rfl),trivial⟩ (fun w hw=>bX rfl rfl) (aC rfl)) (aZ 19 rfl 92 17 rfl rfl rfl (fun w hw=>aW rfl) rfl (aD 20 rfl (isV _) (aB _) (rgV (li:=[(1,_)]) rfl (aN 93 rfl (aA rfl rfl rfl)) ⟨bB rfl,trivial⟩ (fun w hw=>aO (o':=5) cA rfl rfl) (aC rfl)) (aD 21 rfl (isV _) (aB _) (rgV (li:=[(94,_)]) rfl (aN 93 rfl (aA rfl rfl rfl)) ⟨aG 19 (aA rfl rfl rfl),trivial⟩ (fun w hw=>aS isAgg23 rfl ((aJ hw 0).cell (Nat.zero_le _) (aI (hS.at_ 0 rfl) rfl))) (aC rfl)) (aD 22 rfl (isV _) (aB _) (rgV (li:=[(1,_)]) rfl (aN 93 rfl (aA rfl rfl rfl)) ⟨bB rfl,trivial⟩ (fun w hw=>aO (o':=2) dP rfl rfl) (aC rfl)) (aD 23 rfl (isV _) (aB _) (rgV (li:=[(96,_)]) rfl (aN 93 rfl (aA rfl rfl rfl)) ⟨aG 21 (aA rfl rfl rfl),trivial⟩ (fun w hw=>aS isAgg23 rfl ((aJ hw 0).cell (Nat.zero_le _) (aI (hS.at_ 0 rfl) rfl))) (aC rfl)) (aD 24 rfl (isV _) (aB _) (rgV (li:=[(6,_)]) rfl (aN 93 rfl (aA rfl rfl rfl)) ⟨bB rfl,trivial⟩ (fun w hw=>aW rfl) (aC rfl)) (aD 25 rfl (isV _) (aB _) (rgV (li:=[(97,_),(98,_)]) rfl (aN 93 rfl (aA rfl rfl rfl)) ⟨aG 22 (aA rfl rfl rfl),aG 23 (aA rfl rfl rfl),trivial⟩ (fun w hw=>bH  underlying23 sizeOf3 rfl rfl rfl (by omega) rfl) (aC rfl)) (aD 26 rfl (isV _) (aB _) (rgV (li:=[(99,_)]) rfl (aN 93 rfl (aA rfl rfl rfl)) ⟨aG 24 (aA rfl rfl rfl),trivial⟩ (fun w hw=>aS isAgg3 rfl ((aJ hw 0).cell (Nat.zero_le _) (k1))) (aC rfl)) (aD 27 rfl (isV _) (aB _) (rgV (li:=[(95,_),(100,_)]) rfl (aN 93 rfl (aA rfl rfl rfl)) ⟨aG 20 (aA rfl rfl rfl),aG 25 (aA rfl rfl rfl),trivial⟩ (fun w hw=>bH (j:=q1) underlying23 sizeOf3 rfl rfl (by omega) (by omega) rfl) (aC rfl)) (aD 28 rfl (isV _) (aB _) (rgV (li:=[(101,_)]) rfl (aN 93 rfl (aA rfl rfl rfl)) ⟨aG 26 (aA rfl rfl rfl),trivial⟩ (fun w hw=>aS isAgg3 rfl ((aJ hw 0).cell (Nat.zero_le _) (k3))) (aC rfl)) (aD 29 rfl (isV _) (aB _) (rgV (li:=[(6,_)]) rfl (aN 93 rfl (aA rfl rfl rfl)) ⟨bB rfl,trivial⟩ (fun w hw=>aW rfl) (aC rfl)) (aD 30 rfl (isV (.bool true)) (aB _) (fD (li:=[(102,_),(103,_)]) rfl (aN 93 rfl (aA rfl rfl rfl)) ⟨aG 27 (aA rfl rfl rfl),aG 28 (aA rfl rfl rfl),trivial⟩ (fun w hw=>dX rfl rfl) (by rw [decide_eq_true hne]) (aC rfl)) (aD 31 rfl (isV _) (aB _) (rgV (li:=[(93,_),(104,_)]) rfl (aP rfl) ⟨aG 18 (aA rfl rfl rfl),aG 29 (aA rfl rfl rfl),trivial⟩ (fun w hw=>bX rfl rfl) (aC rfl)) (aZ 32 rfl 105 30 rfl rfl rfl (fun w hw=>aW rfl) rfl (aD 33 rfl (isV undef) (aB _) (aX rfl (aY 106 rfl (aA rfl rfl rfl) rfl) (aC rfl)) (aD 34 rfl (isV undef) (aB _) (aX rfl (aY 106 rfl (aA rfl rfl rfl) rfl) (aC rfl)) (aD 35 rfl (isV undef) (aB _) (aX rfl (aY 106 rfl (aA rfl rfl rfl) rfl) (aC rfl)) (aD 36 rfl (isV undef) (aB _) (aX rfl (aY 106 rfl (aA rfl rfl rfl) rfl) (aC rfl)) (aD 37 rfl (isV undef) (aB _) (aX rfl (aY 106 rfl (aA rfl rfl rfl) rfl) (aC rfl)) (aD 38 rfl (isV undef) (aB _) (aX rfl (aY 106 rfl (aA rfl rfl rfl) rfl) (aC rfl)) (aD 39 rfl (isV undef) (aB _) (aX rfl (aY 106 rfl (aA rfl rfl rfl) rfl) (aC rfl)) (aD 40 rfl (isV undef) (aB _) (aX rfl (aY 106 rfl (aA rfl rfl rfl) rfl) (aC rfl)) (aD 41 rfl (isV undef) (aB _) (aX rfl (aY 106 rfl (aA rfl rfl rfl) rfl) (aC rfl)) (aD 42 rfl (isV undef) (aB _) (aX rfl (aY 106 rfl (aA rfl rfl rfl) rfl) (aC rfl)) (aD 43 rfl (isV undef) (aB _) (aX rfl (aY 106 rfl (aA rfl rfl rfl) rfl) (aC rfl)) (aZ 44 rfl 106 31 rfl rfl rfl (fun w hw=>cI rfl rfl) rfl (dF ?_))))))))))))))))))))))))))))
            intro W7 hbR hS'
            clear hS;have hS:=hS';clear hS'
            refine aE (aE (aE (aE (aE (aE (aE (aE (aE (aE (aE (aE (aE (aE (aE (aE (aE (aE (aE (aE (aE (aE (aE (aE (aE (aE (aE (aE (aE (aE (aE (aE (aE ?_))))))))))))))))))))))))))))))))
            refine aE (aE (aE (aE (aE (aE (aE (aE (aE (aE (aE (bV (XF.thenN (eA rfl (aR (aU (aK rfl rfl (aT (XF.thenN (bP (XF.blkR (XF.thenR (XF.thenR (XF.blkR (XF.thenR (XF.res (cG results44 rfl) ?_)))))))))))))))))))))))))
            exact ⟨bI (by unfold fJ;dsimp only;rw [if_neg (by omega),if_neg (by omega),if_neg (by omega),if_neg (by omega),if_neg (by omega),if_neg (by omega),if_neg (by rw [hmn];simp),if_neg (by omega),if_neg (by rw [hall];simp),if_pos (fM hi1 (by show (fA os ol es i && fA os ol xs i)=false;rw [kZ hn1 h1 (by rw [Int.toNat_natCast];exact hy1),decide_eq_false hne];rfl))]),hS.below⟩
           ·obtain ⟨ob,oo,z1,rfl,hz1,hzc1⟩:=ho.get (i:=q1) (by omega)
            obtain ⟨ob2,oo2,z2,e2,hz2,hzc2⟩:=ho.get (i:=q2) (by omega)
            cases e2
            obtain rfl:y1=z1:=Option.some.inj (hy1.symm.trans hz1)
            obtain rfl:y2=z2:=Option.some.inj (hy2.symm.trans hz2)
            have k3:=(aM.agree hS.agree (Nat.zero_le _) hzc1).1
            have k4:=(aM.agree hS.agree (Nat.zero_le _) hzc2).1
            refine fK (m:=44) bG hS (by kernel_rfl) (by kernel_rfl) rfl (bZ 1 rfl 1 rfl rfl (fun w hw=>aO (o':=2) dP rfl rfl) rfl (aZ 2 rfl 75 0 rfl rfl rfl (fun w hw=>aS isAgg23 rfl ((aJ hw 0).cell (Nat.zero_le _) (aI (hS.at_ 0 rfl) rfl))) rfl (bZ 3 rfl 6 rfl rfl (fun w hw=>aW rfl) rfl (aD 4 rfl (isV _) (aB _) (rgV (li:=[(76,_),(77,_)]) rfl (aP rfl) ⟨aG 1 (aA rfl rfl rfl),aG 2 (aA rfl rfl rfl),trivial⟩ (fun w hw=>bH  underlying23 sizeOf3 rfl rfl rfl (by omega) rfl) (aC rfl)) (aZ 5 rfl 78 3 rfl rfl rfl (fun w hw=>aS isAgg3 rfl ((aJ hw 0).cell (Nat.zero_le _) (k1))) rfl (bZ 6 rfl 4 rfl rfl (fun w hw=>aW rfl) rfl ?_))))))
            refine aD 7 rfl (isV (.bool true)) (aB _) (cH [isV _,isV _] rfl cB (aP rfl) ⟨bO (aG 4 (aA rfl rfl rfl)),bO (aG 5 (aA rfl rfl rfl)),trivial⟩ (fun vs w' hb hh=>by have e:=bN (us:=[_,_]) hh;subst e;exact (eB _ _ _).mono fun e w2 h=>⟨_,by rw [h.1,h1],rfl,h.2⟩) (aC rfl)) ?_
            refine aZ 8 rfl 81 6 rfl rfl rfl (fun w hw=>dM rfl) rfl (aZ 9 rfl 82 7 rfl rfl rfl (fun w hw=>aW rfl) rfl (aD 10 rfl (isV _) (aB _) (rgV (li:=[(1,_)]) rfl (aN 83 rfl (aA rfl rfl rfl)) ⟨bB rfl,trivial⟩ (fun w hw=>aO (o':=3) eT rfl rfl) (aC rfl)) (aD 11 rfl (isV _) (aB _) (rgV (li:=[(84,_)]) rfl (aN 83 rfl (aA rfl rfl rfl)) ⟨aG 9 (aA rfl rfl rfl),trivial⟩ (fun w hw=>aS isAgg23 rfl ((aJ hw 0).cell (Nat.zero_le _) (aI (hS.at_ 0 rfl) rfl))) (aC rfl)) (aD 12 rfl (isV _) (aB _) (rgV (li:=[(6,_)]) rfl (aN 83 rfl (aA rfl rfl rfl)) ⟨bB rfl,trivial⟩ (fun w hw=>aW rfl) (aC rfl)) (aD 13 rfl (isV _) (aB _) (rgV (li:=[(85,_),(86,_)]) rfl (aN 83 rfl (aA rfl rfl rfl)) ⟨aG 10 (aA rfl rfl rfl),aG 11 (aA rfl rfl rfl),trivial⟩ (fun w hw=>bH  underlying23 sizeOf3 rfl rfl rfl (by omega) rfl) (aC rfl)) (aD 14 rfl (isV _) (aB _) (rgV (li:=[(87,_)]) rfl (aN 83 rfl (aA rfl rfl rfl)) ⟨aG 12 (aA rfl rfl rfl),trivial⟩ (fun w hw=>aS isAgg3 rfl ((aJ hw 0).cell (Nat.zero_le _) (k2))) (aC rfl)) (aD 15 rfl (isV _) (aB _) (rgV (li:=[(4,_)]) rfl (aN 83 rfl (aA rfl rfl rfl)) ⟨bB rfl,trivial⟩ (fun w hw=>aW rfl) (aC rfl)) ?_)))))))
            refine aD 16 rfl (isV (.bool true)) (aB _) (cH [isV _,isV _] rfl cB (aN 83 rfl (aA rfl rfl rfl)) ⟨bO (aG 13 (aA rfl rfl rfl)),bO (aG 14 (aA rfl rfl rfl)),trivial⟩ (fun vs w' hb hh=>by have e:=bN (us:=[_,_]) hh;subst e;exact (eB _ _ _).mono fun e w2 h=>⟨_,by rw [h.1,h2],rfl,h.2⟩) (aC rfl)) ?_
            refine aD 17 rfl (isV _) (aB _) (rgV (li:=[(90,_)]) rfl (aN 83 rfl (aA rfl rfl rfl)) ⟨aG 15 (aA rfl rfl rfl),trivial⟩ (fun w hw=>dM rfl) (aC rfl)) (aD 18 rfl (isV _) (aB _) (rgV (li:=[(83,_),(91,_)]) rfl (aP rfl) ⟨aG 8 (aA rfl rfl rfl),aG 16 (aA rfl rfl rfl),trivial⟩ (fun w hw=>bX rfl rfl) (aC rfl)) (aZ 19 rfl 92 17 rfl rfl rfl (fun w hw=>aW rfl) rfl (aD 20 rfl (isV _) (aB _) (rgV (li:=[(1,_)]) rfl (aN 93 rfl (aA rfl rfl rfl)) ⟨bB rfl,trivial⟩ (fun w hw=>aO (o':=5) cA rfl rfl) (aC rfl)) (aD 21 rfl (isV _) (aB _) (rgV (li:=[(94,_)]) rfl (aN 93 rfl (aA rfl rfl rfl)) ⟨aG 19 (aA rfl rfl rfl),trivial⟩ (fun w hw=>aS isAgg23 rfl ((aJ hw 0).cell (Nat.zero_le _) (aI (hS.at_ 0 rfl) rfl))) (aC rfl)) (aD 22 rfl (isV _) (aB _) (rgV (li:=[(1,_)]) rfl (aN 93 rfl (aA rfl rfl rfl)) ⟨bB rfl,trivial⟩ (fun w hw=>aO (o':=2) dP rfl rfl) (aC rfl)) (aD 23 rfl (isV _) (aB _) (rgV (li:=[(96,_)]) rfl (aN 93 rfl (aA rfl rfl rfl)) ⟨aG 21 (aA rfl rfl rfl),trivial⟩ (fun w hw=>aS isAgg23 rfl ((aJ hw 0).cell (Nat.zero_le _) (aI (hS.at_ 0 rfl) rfl))) (aC rfl)) (aD 24 rfl (isV _) (aB _) (rgV (li:=[(6,_)]) rfl (aN 93 rfl (aA rfl rfl rfl)) ⟨bB rfl,trivial⟩ (fun w hw=>aW rfl) (aC rfl)) (aD 25 rfl (isV _) (aB _) (rgV (li:=[(97,_),(98,_)]) rfl (aN 93 rfl (aA rfl rfl rfl)) ⟨aG 22 (aA rfl rfl rfl),aG 23 (aA rfl rfl rfl),trivial⟩ (fun w hw=>bH  underlying23 sizeOf3 rfl rfl rfl (by omega) rfl) (aC rfl)) (aD 26 rfl (isV _) (aB _) (rgV (li:=[(99,_)]) rfl (aN 93 rfl (aA rfl rfl rfl)) ⟨aG 24 (aA rfl rfl rfl),trivial⟩ (fun w hw=>aS isAgg3 rfl ((aJ hw 0).cell (Nat.zero_le _) (k1))) (aC rfl)) (aD 27 rfl (isV _) (aB _) (rgV (li:=[(95,_),(100,_)]) rfl (aN 93 rfl (aA rfl rfl rfl)) ⟨aG 20 (aA rfl rfl rfl),aG 25 (aA rfl rfl rfl),trivial⟩ (fun w hw=>bH (j:=q1) underlying23 sizeOf3 rfl rfl (by omega) (by omega) rfl) (aC rfl)) (aD 28 rfl (isV _) (aB _) (rgV (li:=[(101,_)]) rfl (aN 93 rfl (aA rfl rfl rfl)) ⟨aG 26 (aA rfl rfl rfl),trivial⟩ (fun w hw=>aS isAgg3 rfl ((aJ hw 0).cell (Nat.zero_le _) (k3))) (aC rfl)) (aD 29 rfl (isV _) (aB _) (rgV (li:=[(6,_)]) rfl (aN 93 rfl (aA rfl rfl rfl)) ⟨bB rfl,trivial⟩ (fun w hw=>aW rfl) (aC rfl)) (aD 30 rfl (isV (.bool false)) (aB _) (fD (li:=[(102,_),(103,_)]) rfl (aN 93 rfl (aA rfl rfl rfl)) ⟨aG 27 (aA rfl rfl rfl),aG 28 (aA rfl rfl rfl),trivial⟩ (fun w hw=>dX rfl rfl) (by rw [decide_eq_false (not_not_intro hee)]) (aC rfl)) (aD 31 rfl (isV _) (aB _) (rgV (li:=[(93,_),(104,_)]) rfl (aP rfl) ⟨aG 18 (aA rfl rfl rfl),aG 29 (aA rfl rfl rfl),trivial⟩ (fun w hw=>bX rfl rfl) (aC rfl)) (aZ 32 rfl 105 30 rfl rfl rfl (fun w hw=>aW rfl) rfl (aD 33 rfl (isV _) (aB _) (rgV (li:=[(1,_)]) rfl (aN 106 rfl (aA rfl rfl rfl)) ⟨bB rfl,trivial⟩ (fun w hw=>aO (o':=5) cA rfl rfl) (aC rfl)) (aD 34 rfl (isV _) (aB _) (rgV (li:=[(107,_)]) rfl (aN 106 rfl (aA rfl rfl rfl)) ⟨aG 32 (aA rfl rfl rfl),trivial⟩ (fun w hw=>aS isAgg23 rfl ((aJ hw 0).cell (Nat.zero_le _) (aI (hS.at_ 0 rfl) rfl))) (aC rfl)) (aD 35 rfl (isV _) (aB _) (rgV (li:=[(1,_)]) rfl (aN 106 rfl (aA rfl rfl rfl)) ⟨bB rfl,trivial⟩ (fun w hw=>aO (o':=3) eT rfl rfl) (aC rfl)) (aD 36 rfl (isV _) (aB _) (rgV (li:=[(109,_)]) rfl (aN 106 rfl (aA rfl rfl rfl)) ⟨aG 34 (aA rfl rfl rfl),trivial⟩ (fun w hw=>aS isAgg23 rfl ((aJ hw 0).cell (Nat.zero_le _) (aI (hS.at_ 0 rfl) rfl))) (aC rfl)) (aD 37 rfl (isV _) (aB _) (rgV (li:=[(6,_)]) rfl (aN 106 rfl (aA rfl rfl rfl)) ⟨bB rfl,trivial⟩ (fun w hw=>aW rfl) (aC rfl)) (aD 38 rfl (isV _) (aB _) (rgV (li:=[(110,_),(111,_)]) rfl (aN 106 rfl (aA rfl rfl rfl)) ⟨aG 35 (aA rfl rfl rfl),aG 36 (aA rfl rfl rfl),trivial⟩ (fun w hw=>bH  underlying23 sizeOf3 rfl rfl rfl (by omega) rfl) (aC rfl)) (aD 39 rfl (isV _) (aB _) (rgV (li:=[(112,_)]) rfl (aN 106 rfl (aA rfl rfl rfl)) ⟨aG 37 (aA rfl rfl rfl),trivial⟩ (fun w hw=>aS isAgg3 rfl ((aJ hw 0).cell (Nat.zero_le _) (k2))) (aC rfl)) (aD 40 rfl (isV _) (aB _) (rgV (li:=[(108,_),(113,_)]) rfl (aN 106 rfl (aA rfl rfl rfl)) ⟨aG 33 (aA rfl rfl rfl),aG 38 (aA rfl rfl rfl),trivial⟩ (fun w hw=>bH (j:=q2) underlying23 sizeOf3 rfl rfl (by omega) (by omega) rfl) (aC rfl)) (aD 41 rfl (isV _) (aB _) (rgV (li:=[(114,_)]) rfl (aN 106 rfl (aA rfl rfl rfl)) ⟨aG 39 (aA rfl rfl rfl),trivial⟩ (fun w hw=>aS isAgg3 rfl ((aJ hw 0).cell (Nat.zero_le _) (k4))) (aC rfl)) (aD 42 rfl (isV _) (aB _) (rgV (li:=[(6,_)]) rfl (aN 106 rfl (aA rfl rfl rfl)) ⟨bB rfl,trivial⟩ (fun w hw=>aW rfl) (aC rfl)) (aD 43 rfl (isV _) (aB _) (rgV (li:=[(115,_),(116,_)]) rfl (aN 106 rfl (aA rfl rfl rfl)) ⟨aG 40 (aA rfl rfl rfl),aG 41 (aA rfl rfl rfl),trivial⟩ (fun w hw=>dX rfl rfl) (aC rfl)) (aD 44 rfl (isV _) (aB _) (rgV (li:=[(106,_),(117,_)]) rfl (aP rfl) ⟨aG 31 (aA rfl rfl rfl),aG 42 (aA rfl rfl rfl),trivial⟩ (fun w hw=>bX rfl rfl) (aC rfl)) (dF ?_))))))))))))))))))))))))))))
            intro W8 hbR hS'
            clear hS;have hS:=hS';clear hS'
            refine aE (aE (aE (aE (aE (aE (aE (aE (aE (aE (aE (aE (aE (aE (aE (aE (aE (aE (aE (aE (aE (aE (aE (aE (aE (aE (aE (aE (aE (aE (aE (aE (aE ?_))))))))))))))))))))))))))))))))
            refine aE (aE (aE (aE (aE (aE (aE (aE (aE (aE (aE (bV (XF.thenN (bJ rfl (fun hc=>?_) (fun hc=>?_))))))))))))))
            ·have hc118:=hc;clear hc
             have hne:¬ y2=(i:Int):=of_decide_eq_true hc118
             refine aR (aU (aK rfl rfl (aT (XF.thenN (bP (XF.blkR (XF.thenR (XF.thenR (XF.blkR (XF.thenR (XF.res (cG results44 rfl) ?_)))))))))))
             exact ⟨bI (by unfold fJ;dsimp only;rw [if_neg (by omega),if_neg (by omega),if_neg (by omega),if_neg (by omega),if_neg (by omega),if_neg (by omega),if_neg (by rw [hmn];simp),if_neg (by omega),if_neg (by rw [hall];simp),if_pos (fM hi1 (by show (fA os ol es i && fA os ol xs i)=false;rw [kZ hn2 h2 (by rw [Int.toNat_natCast];exact hy2),decide_eq_false hne,Bool.and_false]))]),hS.below⟩
            ·have hc118:=hc;clear hc
             have hff:y2=(i:Int):=Decidable.of_not_not (of_decide_eq_false hc118)
             refine bQ (XF.blkN (XF.thenN (aU (aL rfl rfl (dH rfl rfl (IntWalk.i64_in _ (by omega)) rfl (aK rfl rfl (aT ?_)))))))
             exact XF.round (pl - (i+1)) [(1,_),(3,_),(4,_),(6,_)] (by omega) ⟨rfl,rfl,rfl,rfl,trivial⟩ ⟨i+1,by omega,rfl,rfl,rR hi1 hpr (by show (fA os ol es i && fA os ol xs i)=true;rw [kZ hn1 h1 (by rw [Int.toNat_natCast];exact hy1),kZ hn2 h2 (by rw [Int.toNat_natCast];exact hy2),decide_eq_true hee,decide_eq_true hff];rfl),hS.clear⟩
          ·have hc72:=of_decide_eq_false hc;clear hc
           have hpp:i=pl:=by omega
           rw [hpp] at hpr
           refine cZ (XF.thenX (XF.thenX (XF.blkX (XF.thenN (aR (aR (aU (aK rfl rfl (aT (XF.thenN (bR (eI (fun m l W=>∃ i:Nat,i≤tl∧m=tl - i∧l=[(1,.pointer (some ⟨B1,0,none⟩)),(3,.int .i64 (pl:Int)),(7,.int .i64 (i:Int))]∧(ts.take i).all (fun u=>gr_inQ u.pr pl)=true∧St w [(B1,[.slice va vl vc,.slice pa pl pc,.slice ea el ec,.slice xa xl xc,.int .i64 mn,.slice oa ol oc,.slice sa sl sc,.slice ta tl tc,.slice na nl nc,.slice ka kl kc],29)] [] [] W) (tl - 0) ([(1,_),(3,_),(7,_)]) ⟨rfl,rfl,rfl,trivial⟩ (⟨0,Nat.zero_le _,rfl,rfl,rfl,hS.clear⟩) ?_))))))))))))
           clear hS
           rintro m l W ⟨i,hi,rfl,rfl,hts,hS⟩
           refine aR (aR (aU (aL rfl rfl (aQ (o':=7) cX rfl rfl rfl (aV isAgg25 rfl (aI (hS.at_ 0 rfl) rfl) rfl (bU underlying25 rfl rfl (dA rfl rfl rfl (aT (XF.thenN (bJ rfl (fun hc=>?_) (fun hc=>?_)))))))))))
           ·have hc123:=of_decide_eq_true hc;clear hc
            have hk1:i < tl:=by omega
            obtain ⟨b,off,u,rfl,hy,hyc⟩:=ht.get (i:=i) (by omega)
            have k1:=(aM.agree hS.agree (Nat.zero_le _) hyc).2.1
            refine bQ (XF.thenN (aR (bR (aR (aU (aQ (o':=7) cX rfl rfl rfl (aV isAgg25 rfl (aI (hS.at_ 0 rfl) rfl) rfl (aL rfl rfl (cP  underlying25 sizeOf81 rfl rfl rfl (by omega) rfl rfl (aQ jS rfl rfl rfl (aV isAgg3 rfl (k1) rfl (aL rfl rfl (cD (vs:=[_,_]) hS cB rfl (eB u.pr pl _) rfl fun W9 hS=>eX rfl rfl (aT (XF.thenN (bJ rfl (fun hc=>?_) (fun hc=>?_)))))))))))))))))
            ·have hc134:=hc;clear hc
             refine aR (aU (aK rfl rfl (aT (XF.thenN (bP (XF.blkR (XF.thenR (XF.thenR (XF.blkR (XF.thenR (XF.res (cG results44 rfl) ?_)))))))))))
             exact ⟨bI (by unfold fJ;dsimp only;rw [if_neg (by omega),if_neg (by omega),if_neg (by omega),if_neg (by omega),if_neg (by omega),if_neg (by omega),if_neg (by rw [hmn];simp),if_neg (by omega),if_neg (by rw [hall];simp),if_neg (by rw [hpr];simp),dR hy (by simpa using hc134)]),hS.below⟩
            ·have hc134:=hc;clear hc
             refine bQ (XF.blkN (XF.thenN (aU (aL rfl rfl (dH rfl rfl (IntWalk.i64_in _ (by omega)) rfl (aK rfl rfl (aT ?_)))))))
             exact XF.round (tl - (i+1)) [(1,_),(3,_),(7,_)] (by omega) ⟨rfl,rfl,rfl,trivial⟩ ⟨i+1,by omega,rfl,rfl,eO hy hts (by simpa using hc134),hS.clear⟩
           ·have hc123:=of_decide_eq_false hc;clear hc
            rw [List.take_of_length_le (by omega)] at hts
            refine cZ (XF.thenX (XF.thenX (XF.blkX (XF.thenN (aR (aU (aK rfl rfl (aT (XF.thenN (bP (XF.res (cG results44 rfl) ?_)))))))))))
            exact ⟨bI (by unfold fJ;dsimp only;rw [if_neg (by omega),if_neg (by omega),if_neg (by omega),if_neg (by omega),if_neg (by omega),if_neg (by omega),if_neg (by rw [hmn];simp),if_neg (by omega),if_neg (by rw [hall];simp),if_neg (by rw [hpr];simp),hts]),hS.below⟩
end Go.Proofs.Ytfnmjcgfagldkaa
