import Derived.Test.YtpgmnbgkejiomaaNrB
set_option maxRecDepth 100000
set_option maxHeartbeats 4000000
set_option linter.unusedVariables false
set_option linter.unusedSimpArgs false
set_option linter.unusedSectionVars false
set_option linter.unnecessarySimpa false
namespace Go.Proofs.Ytpgmnbgkejiomaa
open Go.Proofs.Try
section
open Go.RowKit
theorem goes_43:bA prog 43=true:=by kernel_rfl
def InI (M:List ArV) (K:Int) (p:Nat) (gs az bs:List Int) (z:Nat):Prop:=(∀ y∈bs,y∈az∨∃ t∈(outs M p).take z,t.s ≠ -1∧0 < K∧y=t.q)∧(∀ y∈az,y∈bs)∧∀ t∈(outs M p).take z,t.s ≠ -1→0 < K→t.q∈bs∨0≤gs.getD t.q.toNat 0
section
variable {M L:List ArV} {K:Int} {p z:Nat} {gs az bs:List Int} {t:ArV}
theorem InI.start:InI M K p gs az az 0:=⟨fun y hy=>.inl hy,fun y hy=>hy,fun t ht=>by cases ht⟩
theorem InI.yes (h:InI M K p gs az bs z) (ht:(outs M p)[z]?=some t) (h1:t.s ≠ -1) (h2:0 < K):InI M K p gs az (bs++[t.q]) (z+1):=by
 refine ⟨fun y hy=>?_,fun y hy=>List.mem_append_left _ (h.2.1 y hy),fun t2 ht2 e1 e2=>?_⟩
 ·rw [List.take_add_one,ht]
  rcases List.mem_append.1 hy with hy | hy
  ·rcases h.1 y hy with h3 | ⟨t2,h3,h4⟩
   ·exact .inl h3
   ·exact .inr ⟨t2,List.mem_append_left _ h3,h4⟩
  ·exact .inr ⟨t,List.mem_append_right _ (by simp),h1,h2,by simpa using hy⟩
 ·rw [List.take_add_one,ht] at ht2
  rcases List.mem_append.1 ht2 with h3 | h3
  ·exact (h.2.2 t2 h3 e1 e2).imp (fun h=>List.mem_append_left _ h) id
  ·obtain rfl:t2=t:=by simpa using h3
   exact .inl (List.mem_append_right _ (by simp))
theorem InI.no (h:InI M K p gs az bs z) (ht:(outs M p)[z]?=some t) (h1:t.s ≠ -1→0 < K→0≤gs.getD t.q.toNat 0):InI M K p gs az bs (z+1):=by
 refine ⟨fun y hy=>?_,h.2.1,fun t2 ht2 e1 e2=>?_⟩
 ·rw [List.take_add_one,ht]
  rcases h.1 y hy with h3 | ⟨t2,h3,h4⟩
  ·exact .inl h3
  ·exact .inr ⟨t2,List.mem_append_left _ h3,h4⟩
 ·rw [List.take_add_one,ht] at ht2
  rcases List.mem_append.1 ht2 with h3 | h3
  ·exact h.2.2 t2 h3 e1 e2
  ·obtain rfl:t2=t:=by simpa using h3
   exact .inr (h1 e1 e2)
theorem InI.done {N n i:Nat} {fs gs az bs:List Int} {lv:List Nat} (h:InI (L.map ArV.flip) K p (gs.set p (n:Int)) az bs (outs (L.map ArV.flip) p).length) (hm:MdI L K N fs gs n lv i az) (hO:dX N K L) (hs:lv[i]?=some p) (hN:p < N) (h0:gs.getD p 0 < 0):MdI L K N fs (gs.set p (n:Int)) n lv (i+1) bs:=by
 unfold InI at h
 rw [List.take_of_length_le (Nat.le_refl _)] at h
 refine hm.new hO hs hN h0 (fun y hy=>?_) h.2.1 (fun t ht e1 e2 e3=>?_)
 ·rcases h.1 y hy with h1 | ⟨t,h1,h2,h3,h4⟩
  ·exact .inl h1
  ·obtain ⟨h5,h6⟩:=List.mem_filter.1 h1
   obtain ⟨s,hs2,rfl⟩:=List.mem_map.1 h5
   exact .inr ⟨s,hs2,of_decide_eq_true h6,h2,h3,h4⟩
 ·exact h.2.2 t.flip (List.mem_filter.2 ⟨List.mem_map_of_mem ht,decide_eq_true (show t.flip.f=_ from e1)⟩) e2 e3
end
def eO (n i:Nat):List Int:=List.replicate i (-1)++List.replicate (n - i) 0
theorem kW {n i:Nat} (h:i≤n):(eO n i).length=n:=by unfold eO;simp;omega
theorem kX {n i:Nat} (h:i < n):(eO n i).set i (-1)=eO n (i+1):=by
 unfold eO
 rw [List.set_append_right _ _ (by simp),List.length_replicate,Nat.sub_self,show n - i=(n - (i+1))+1 by omega,List.replicate_succ,List.set_cons_zero,List.replicate_succ' (n:=i),List.append_assoc]
 rfl
theorem kY {n:Nat}:eO n n=List.replicate n (-1):=by unfold eO;simp
theorem kB {n:Nat}:eO n 0=List.replicate n 0:=by unfold eO;simp
theorem nA (n s0 e0:Nat) (sy:Int) (aa:Option Addr) (al ac:Nat) (L:List ArV) (Kt:List (Nat×World)) (Ot:Own) (G:aU) (K:List (Nat×World)) (w0 w:World) (hS0:St w0 Ot G K w) (hKt:∀ q∈Kt,q∈K) (hA:bV w0 Kt (fun W=>iW W aa L)) (hl:L.length=al) (hal:al≤65536) (hn1:1≤n) (hn4:n≤4096) (hs0:s0 < n) (he0:e0 < n) (hO:dX n sy L) :
  Calls prog 37 #[.agg #[.int .i64 (n:Int),.int .i64 sy,.int .i64 (s0:Int),.int .i64 (e0:Int),.slice aa al ac]] w (fun e w'=>∃ (FB:Nat) (fs:List Int) (Kn:List (Nat×World)),e = .returned (.slice (some ⟨FB,0,none⟩) n n)∧FarOk L sy e0 n fs∧(∀ p,p < n→fs.getD p 0≤8193)∧(∀ q∈K,q∈Kn)∧St w0 ((FB,zI fs,3)::Ot) G Kn w'):=by
 refine bH (args:=[.agg #[.int .i64 (n:Int),.int .i64 sy,.int .i64 (s0:Int),.int .i64 (e0:Int),.slice aa al ac]]) func37 rfl ntmps37 rfl ?_
 have hS:=hS0
 have hflO:=flip_ok hO
 have hfll:(L.map ArV.flip).length≤65536:=by rw [List.length_map];omega
 refine aF (aH (bZ (cs:=[_,_,_,_,_]) hS rfl rfl rfl fun B1 W1 hS=>aB rfl rfl (aG (XF.thenN (aF (aH (aQ (vs:=[_,_,_,_,_]) isAgg24 sizeOf24 rfl (aK.own (j:=0) (m:=5) (hS.at_ 0 rfl) rfl) rfl (aX (vs:=[_]) goes_43 rfl (oF (n:Int) sy (s0:Int) (e0:Int) aa al ac L Kt _ G K w0 _ (hS.keep K (fun q hq=>by simp [hq])) hKt hA hl hal) rfl ?_))))))))
 rintro e W8 ⟨wa,wc,rfl,hS9⟩
 refine ⟨_,rfl,?_⟩
 obtain ⟨K1,k1,g1,hS1⟩:=St.rowKeepN (o:=⟨.slice wa al wc,al,(L.map ArV.flip).flatMap ArV.three⟩) hS9
 clear hS hS9;have hS:=hS1;clear hS1
 refine aX (vs:=[_]) lO rfl (lN ⟨(n:Int),sy,(e0:Int),(s0:Int),wa,al,wc,L.map ArV.flip⟩ n sy K1 _ G K1 w0 _ hS (fun q hq=>hq) (fun h9 hk9=>⟨mW (g1 h9 hk9),by show (L.map ArV.flip).length=al;rw [List.length_map];exact hl,by show al≤_;omega⟩) rfl hn1 hn4 hal hflO) rfl ?_
 rintro e W9 ⟨RB,SB,OB,va,vc,K2,rfl,hk2,hOut,hS9⟩
 change bV w0 K2 (fun W=>iK W OB n (L.map ArV.flip) va vc) at hOut
 refine ⟨_,rfl,?_⟩
 clear hS;have hS:=hS9;clear hS9
 refine aB rfl rfl (aG (XF.thenN (aF (aH (aI (o':=0) cR rfl rfl rfl (aJ isAgg3 rfl (aD (hS.at_ 2 rfl) rfl) rfl ?_))))))
 refine jE (m:=n) (cs:=zI (eO n 0)) hS underlying25 iF rfl rfl rfl (by omega) (by omega) (by rw [kB];exact sV n) (by show (8:Int) * _≤_;omega) (by omega) rfl fun B2 W2 hS=>?_
 refine aB rfl rfl (aG (XF.thenN (aF (aF ?_))))
 obtain ⟨FB,hFB⟩:∃ FB,FB=B2:=⟨_,rfl⟩
 rw [← hFB] at hS ⊢
 refine aH (aA rfl rfl (bN underlying25 rfl rfl (aA rfl rfl (aG (XF.thenN (aM (cB (fun m l W=>∃ (i:Nat),i≤n∧m=n - i∧l=[(1,.pointer (some ⟨B1,0,none⟩)),(3,.pointer (some ⟨RB,0,none⟩)),(4,.slice (some ⟨FB,0,none⟩) n n),(20,.int .i64 (n:Int)),(21,.int .i64 (i:Int))]∧St w0 ((FB,zI (eO n i),3)::(RB,[.slice (some ⟨OB,0,none⟩) n n,.slice (some ⟨SB,0,none⟩) n n,.int .i64 0],73)::(SB,zI (List.replicate n 0),3)::(B1,[.int .i64 (n:Int),.int .i64 sy,.int .i64 (s0:Int),.int .i64 (e0:Int),.slice aa al ac],24)::Ot) G K2 W) (n - 0) ([(1,_),(3,_),(4,_),(20,_),(21,_)]) ⟨rfl,rfl,rfl,rfl,rfl,trivial⟩ (⟨0,Nat.zero_le _,rfl,rfl,hS.keep K2 (fun q hq=>by simp [hq])⟩) ?_)))))))
 clear hS
 rintro m l W ⟨i,hi,rfl,rfl,hS⟩
 refine aF (aH (bB rfl rfl rfl (aG (XF.thenN (aF (aV rfl (fun hc=>?_) (fun hc=>?_)))))))
 ·have hc22:=of_decide_eq_true hc;clear hc
  refine aP (XF.thenN (aF (aM (aF (aH (aA rfl rfl (aB rfl rfl (aG (XF.thenN (aH (aA rfl rfl (aA rfl rfl (aL (j:=i) underlying25 sizeOf3 rfl rfl (rfl) (by omega) rfl rfl ?_)))))))))))))
  refine bD (i:=0) (cs':=zI (eO n (i+1))) (O':=((FB,_,_)::_::_::_::Ot)) hS sizeOf3 rfl rfl rfl rfl (Nat.ble_eq_true_of_le (by rw [dJ,kW (by omega)];omega)) (by rw [dZ,kX (by omega)]) rfl fun W94 hS=>?_
  refine aG (XF.blkN (XF.thenN (aH (aS rfl rfl (IntWalk.i64_in _ (by omega)) rfl (aA rfl rfl (aG ?_))))))
  exact XF.round (n - (i+1)) [(1,_),(3,_),(4,_),(20,_),(21,_)] (by omega) ⟨rfl,rfl,rfl,rfl,rfl,trivial⟩ ⟨i+1,by omega,rfl,rfl,hS.keep K2 (fun q hq=>by simp [hq])⟩
 ·have hc22:=of_decide_eq_false hc;clear hc
  obtain rfl:n=i:=by omega
  rw [kY] at hS
  refine bS (XF.thenX (XF.thenX (XF.blkX (XF.thenN (aF (aH (aA rfl rfl (aI (o':=3) eA rfl rfl rfl (aJ isAgg3 rfl (aD (hS.at_ 3 rfl) rfl) rfl (bL (us:=[(0,.int .i64 _)]) hS underlying25 sizeOf3 zeroValue3 rfl rfl rfl (dP _) rfl fun B3 W3 hS=>?_))))))))))
  obtain ⟨K3,k3,g3,hS2⟩:=(hS.keep K2 (fun q hq=>by simp [hq])).ownKeepN
  clear hS;have hS:=(hS2.perm (by first | exact (List.Perm.swap _ _ _).trans ((List.Perm.swap _ _ _).cons _)));clear hS2
  refine aX (vs:=[_,_]) iL rfl (gK n (L.map ArV.flip) OB va vc RB SB 0 1 (List.replicate n 0) (some ⟨B3,0,none⟩) 1 1 [(e0:Int)] K3 _ G K3 w0 _ hS (fun q hq=>hq) (hOut.moreN k3) (fun h9 hk9=>.inr ⟨_,0,rfl,fun j hj=>by obtain rfl:j=0:=(by simpa using hj);exact aD (g3 h9 hk9) rfl⟩) rfl (by decide) (fun y hy=>(by obtain rfl:y=(e0:Int):=(by simpa using hy);omega)) (oD hflO) hfll (by simp) (by decide) (oC (by decide)) hn4) rfl ?_
  rintro e W9 ⟨lv1,wa1,wc1,ss1,K4,hH1,rfl,hle1,hsl1,hsf1,hk4,hR1,hS9⟩
  refine ⟨_,rfl,?_⟩
  clear hS;have hS:=hS9.perm (by first | exact ((List.Perm.swap _ _ _).cons _).trans (List.Perm.swap _ _ _));clear hS9
  refine aB rfl rfl (aG (XF.thenN (aF (aF (aH (aB rfl rfl (aG (XF.thenN (aM ?_)))))))))
  refine cB (fun m l W=>∃ (c:Nat) (fs:List Int) (lv:List Nat) (la:Option Addr) (lc:Nat) (ss:List Int) (Kk:List (Nat×World)),m=lvM fs lv∧l=[(1,.pointer (some ⟨B1,0,none⟩)),(3,.pointer (some ⟨RB,0,none⟩)),(4,.slice (some ⟨FB,0,none⟩) n n),(6,.slice la lv.length lc),(7,.int .i64 (c:Int))]∧LvI L sy e0 n fs c lv∧c+lvM fs lv≤2 * n+1∧lv.length≤n∧ss.length=n∧(∀ y∈ss,0≤y∧y≤(c:Int)+1)∧(∀ q∈K2,q∈Kk)∧bV w0 Kk (fun W=>Row W la (nI lv))∧St w0 ((FB,zI fs,3)::(RB,[.slice (some ⟨OB,0,none⟩) n n,.slice (some ⟨SB,0,none⟩) n n,.int .i64 ((c:Int)+1)],73)::(SB,zI ss,3)::(B1,[.int .i64 (n:Int),.int .i64 sy,.int .i64 (s0:Int),.int .i64 (e0:Int),.slice aa al ac],24)::Ot) G Kk W) (_) ([(1,_),(3,_),(4,_),(6,_),(7,_)]) ⟨rfl,rfl,rfl,rfl,rfl,trivial⟩ (⟨0,List.replicate n (-1),lv1,wa1,wc1,ss1,K4,rfl,rfl,LvI.start he0 hO (fun q=>by rw [hH1.at_];exact fE (fun q=>by simp) q),by have:=uN_le (fs:=List.replicate n (-1));rw [List.length_replicate] at this;unfold lvM;split<;>omega,hle1,hsl1,fun y hy=>(hsf1 y hy).elim (fun h=>by rw [List.eq_of_mem_replicate h];decide) (fun h=>by rw [h];decide),fun q hq=>hk4 q (k3 q hq),hR1,hS.keep K4 (fun q hq=>by simp [hq])⟩) ?_
  clear hS
  rintro m l W ⟨c,fs,lv,la,lc,ss,Kk,rfl,rfl,hLv,hcm,hll,hsl,hss,hkk,hRl,hS⟩
  refine aF (aF (aH (aA rfl rfl (bN underlying25 rfl rfl (dA rfl rfl rfl (aG (XF.thenN (aV rfl (fun hc=>?_) (fun hc=>?_)))))))))
  ·have hc35:=of_decide_eq_true hc;clear hc
   refine aP (XF.thenN (aF (aM (aF (aH (aB rfl rfl (aG (XF.thenN (aF (aF ?_))))))))))
   have hlv:=LvI.neg hLv
   have hS':=hS.newG 3 1;clear hS;have hS:=hS';clear hS'
   refine aH (aA rfl rfl (bN underlying25 rfl rfl (aA rfl rfl (aG (XF.thenN (aM (cB (fun m l W=>∃ (i ml:Nat) (wa9:Option Addr) (wc9:Nat) (az gs:List Int),i≤lv.length∧m=lv.length - i∧l=[(1,.pointer (some ⟨B1,0,none⟩)),(3,.pointer (some ⟨RB,0,none⟩)),(4,.slice (some ⟨FB,0,none⟩) n n),(7,.int .i64 (c:Int)),(8,.slice wa9 ml wc9),(38,.slice la lv.length lc),(39,.int .i64 (lv.length:Int)),(40,.int .i64 (i:Int))]∧az.length=ml∧ml≤i * 65536∧MdI L sy n fs gs c lv i az∧St w0 ((FB,zI gs,3)::(RB,[.slice (some ⟨OB,0,none⟩) n n,.slice (some ⟨SB,0,none⟩) n n,.int .i64 ((c:Int)+1)],73)::(SB,zI ss,3)::(B1,[.int .i64 (n:Int),.int .i64 sy,.int .i64 (s0:Int),.int .i64 (e0:Int),.slice aa al ac],24)::Ot) (⟨.slice wa9 ml wc9,ml,zI (az),3,1⟩::G) Kk W) (lv.length - 0) ([(1,_),(3,_),(4,_),(7,_),(8,_),(38,_),(39,_),(40,_)]) ⟨rfl,rfl,rfl,rfl,rfl,rfl,rfl,rfl,trivial⟩ (⟨0,0,none,0,[],fs,Nat.zero_le _,rfl,rfl,rfl,by omega,MdI.start hLv.len hlv,hS.keep Kk (fun q hq=>by simp [hq])⟩) ?_)))))))
   clear hS
   rintro m l W ⟨i,ml,wa9,wc9,az,gs,hi,rfl,rfl,hal9,hml,hmd,hS⟩
   refine aF (aH (bB rfl rfl rfl (aG (XF.thenN (aF (aV rfl (fun hc=>?_) (fun hc=>?_)))))))
   ·have hc41:=of_decide_eq_true hc;clear hc
    obtain ⟨p,hp⟩:∃ p,lv[i]?=some p:=⟨_,List.getElem?_eq_getElem (by omega)⟩
    have hpn:=(hLv.lev p (List.mem_of_getElem? hp)).1
    obtain ⟨b,off,y,hla,hy,hyc⟩:=(hRl (hS.keep Kk (fun q hq=>by simp [hq])) (fun q hq=>hq)).at1 (show i < (nI lv).length by rw [gD];omega)
    obtain rfl:y=(p:Int):=by unfold nI at hy;rw [List.getElem?_map,hp] at hy;exact (Option.some.inj hy).symm
    obtain ⟨hoc,_⟩:=hOut (hS.keep Kk (fun q hq=>by simp [hq])) hkk p hpn
    have hol9:(outs (L.map ArV.flip) p).length≤65536:=Nat.le_trans (List.length_filter_le _ _) hfll
    have hgl:=hmd.len
    refine aP (XF.thenN (aF (aM (aF (aH ?_)))))
    refine aL (j:=i) (b:=b) (o:=off) (m:=lv.length) (c:=lc) underlying25 sizeOf3 (by show some (Value.slice _ _ _)=_;rw [hla]) rfl rfl (by omega) rfl rfl ?_
    refine aJ isAgg3 rfl (hyc) rfl (aB rfl rfl (aG (XF.thenN (aF (aF (aH (aA rfl rfl (aA rfl rfl (aL (j:=p) underlying25 sizeOf3 rfl rfl (rfl) (by omega) rfl rfl (aJ isAgg3 rfl (aD (hS.at_ 0 rfl) (dN (by omega))) rfl (eI rfl rfl rfl (aG (XF.thenN (aV rfl (fun hc=>?_) (fun hc=>?_)))))))))))))))
    ·have hc48:=of_decide_eq_true hc;clear hc
     refine bS (XF.thenX (XF.blkX (XF.thenN (aH (aS rfl rfl (IntWalk.i64_in _ (by omega)) rfl (aA rfl rfl (aG ?_)))))))
     have h0:0≤gs.getD p 0:=by simpa using hc48
     exact XF.round (lv.length - (i+1)) [(1,_),(3,_),(4,_),(7,_),(8,_),(38,_),(39,_),(40,_)] (by omega) ⟨rfl,rfl,rfl,rfl,rfl,rfl,rfl,rfl,trivial⟩ ⟨i+1,ml,wa9,wc9,az,gs,by omega,rfl,rfl,hal9,Nat.le_trans hml (Nat.mul_le_mul_right _ (Nat.le_succ _)),hmd.old hp hpn h0,hS.keep Kk (fun q hq=>by simp [hq])⟩
    ·have hc48:=of_decide_eq_false hc;clear hc
     have h0:gs.getD p 0 < 0:=Int.not_le.1 (by simpa using hc48)
     refine aP (XF.thenN (aF (aH (aA rfl rfl (aA rfl rfl (aA rfl rfl (aL (j:=p) underlying25 sizeOf3 rfl rfl (rfl) (by omega) rfl rfl ?_)))))))
     refine bD (i:=0) (cs':=zI (gs.set p (c:Int))) (O':=((FB,_,_)::_::_::_::Ot)) hS sizeOf3 rfl rfl rfl rfl (Nat.ble_eq_true_of_le (by rw [dJ];omega)) dZ rfl fun W94 hS=>?_
     have hoc2:=(hOut (hS.keep Kk (fun q hq=>by simp [hq])) hkk p hpn).1
     refine aG (XF.thenN (aF (aH (aA rfl rfl (bM rfl rfl (aI (o':=0) gI rfl rfl rfl (aJ isAgg71 rfl (aD (hS.at_ 1 rfl) rfl) rfl (aA rfl rfl (aL (j:=p) (b:=OB) (o:=0) (m:=n) (c:=n) underlying71 sizeOf22 rfl rfl rfl (by omega) rfl rfl (aJ isAgg22 rfl (hoc2) rfl (bN underlying22 rfl rfl (aA rfl rfl (aG (XF.thenN (aM (cB (fun m l W=>∃ (z ml:Nat) (wa9:Option Addr) (wc9:Nat) (bs:List Int),z≤(outs (L.map ArV.flip) p).length∧m=(outs (L.map ArV.flip) p).length - z∧l=[(1,.pointer (some ⟨B1,0,none⟩)),(3,.pointer (some ⟨RB,0,none⟩)),(4,.slice (some ⟨FB,0,none⟩) n n),(7,.int .i64 (c:Int)),(8,.slice wa9 ml wc9),(38,.slice la lv.length lc),(39,.int .i64 (lv.length:Int)),(40,.int .i64 (i:Int)),(59,.slice (va p) (outs (L.map ArV.flip) p).length (vc p)),(60,.int .i64 ((outs (L.map ArV.flip) p).length:Int)),(61,.int .i64 (z:Int))]∧bs.length=ml∧ml≤i * 65536+z∧InI (L.map ArV.flip) sy p (gs.set p (c:Int)) az bs z∧St w0 ((FB,zI (gs.set p (c:Int)),3)::(RB,[.slice (some ⟨OB,0,none⟩) n n,.slice (some ⟨SB,0,none⟩) n n,.int .i64 ((c:Int)+1)],73)::(SB,zI ss,3)::(B1,[.int .i64 (n:Int),.int .i64 sy,.int .i64 (s0:Int),.int .i64 (e0:Int),.slice aa al ac],24)::Ot) (⟨.slice wa9 ml wc9,ml,zI (bs),3,1⟩::G) Kk W) ((outs (L.map ArV.flip) p).length - 0) ([(1,_),(3,_),(4,_),(7,_),(8,_),(38,_),(39,_),(40,_),(59,_),(60,_),(61,_)]) ⟨rfl,rfl,rfl,rfl,rfl,rfl,rfl,rfl,rfl,rfl,rfl,trivial⟩ (⟨0,ml,wa9,wc9,az,Nat.zero_le _,rfl,rfl,hal9,Nat.le_trans hml (Nat.le_add_right _ _),InI.start,hS.keep Kk (fun q hq=>by simp [hq])⟩) ?_))))))))))))))))
     clear hS
     clear hml hal9 hoc hoc2 hyc hy
     rintro m l W ⟨z,ml,wa9,wc9,bs,hz,rfl,rfl,hbl,hml,hin,hS⟩
     have hib:i * 65536≤4096 * 65536:=Nat.mul_le_mul_right _ (by omega)
     refine aF (aH (bB rfl rfl rfl (aG (XF.thenN (aF (aV rfl (fun hc=>?_) (fun hc=>?_)))))))
     ·have hc62:=of_decide_eq_true hc;clear hc
      obtain ⟨t,ht⟩:∃ t,(outs (L.map ArV.flip) p)[z]?=some t:=⟨_,List.getElem?_eq_getElem (by omega)⟩
      obtain ⟨b,off,haa,hcs⟩:=(hOut (hS.keep Kk (fun q hq=>by simp [hq])) hkk p hpn).2 z t ht
      have k1:=hcs
      have htm:=(List.mem_filter.1 (List.mem_of_getElem? ht)).1
      obtain ⟨hq0,hq1⟩:=(hflO t htm).2.1
      obtain ⟨qn,hqn⟩:∃ k:Nat,t.q=(k:Int):=⟨t.q.toNat,by omega⟩
      have hqn2:t.q.toNat=qn:=by omega
      have hsl9:(gs.set p (c:Int)).length=n:=by rw [List.length_set];exact hgl
      refine aP (XF.thenN (aF (aM (aF (aH ?_)))))
      refine aL (j:=z) (b:=b) (o:=off) (m:=(outs (L.map ArV.flip) p).length) (c:=vc p) underlying22 sizeOf57 (by show some (Value.slice _ _ _)=_;rw [haa]) rfl rfl (by omega) rfl rfl ?_
      refine aQ (vs:=[_,_,_]) isAgg57 sizeOf57 rfl k1 rfl (bP (cs:=[_,_,_]) hS zeroValue57 rfl rfl fun B4 W4 hS=>bO (i:=0) (vs:=[_,_,_]) (cs':=[_,_,_]) (O':=(_::_::_::_::_::Ot)) hS sizeOf57 rfl rfl rfl rfl rfl rfl rfl fun W5 hS=>aG (XF.thenN (aF (aH (aI (o':=1) cS rfl rfl rfl (aJ isAgg3 rfl (aD (hS.at_ 0 rfl) rfl) rfl (eW rfl rfl rfl (aA rfl rfl (aZ (d:=68) rfl (fun hc=>?_) (fun hc=>?_))))))))))
      ·have hg68:=of_decide_eq_true hc;clear hc
       refine aC (d:=68) rfl rfl (aI (o':=1) dQ rfl rfl rfl (aC (d:=68) rfl rfl (aJ isAgg3 rfl (aD (hS.at_ 4 rfl) rfl) rfl (aC (d:=68) rfl rfl (dA rfl rfl rfl (aN rfl rfl rfl (aA rfl rfl (aZ (d:=73) rfl (fun hc=>?_) (fun hc=>?_)))))))))
       ·have hg73:=of_decide_eq_true hc;clear hc
        refine aC (d:=73) rfl rfl (aA rfl rfl (aC (d:=73) rfl rfl (aI (o':=2) cU rfl rfl rfl (aC (d:=73) rfl rfl (aJ isAgg3 rfl (aD (hS.at_ 0 rfl) rfl) rfl (aC (d:=73) rfl rfl (aL (j:=qn) underlying25 sizeOf3 rfl rfl (hqn) (by omega) rfl rfl (aC (d:=73) rfl rfl (aJ isAgg3 rfl (aD (hS.at_ 1 rfl) (dN (by omega))) rfl (aC (d:=73) rfl rfl (bB rfl rfl rfl (aN rfl rfl rfl (aG (XF.thenN (aV rfl (fun hc=>?_) (fun hc=>?_))))))))))))))))
        ·have hc80:=of_decide_eq_true hc;clear hc
         refine aH (aA rfl rfl (aI (o':=2) cU rfl rfl rfl (aJ isAgg3 rfl (aD (hS.at_ 0 rfl) rfl) rfl (bL (us:=[(0,.int .i64 _)]) hS underlying25 sizeOf3 zeroValue3 rfl rfl rfl (dP _) rfl fun B6 W6 hS=>?_))))
         refine dY (i:=0) (news:=[_]) hS underlying25 iF rfl rfl (by show 0 < 1;decide) rfl rfl rfl rfl rfl (aK.own (j:=0) (m:=1) (hS.at_ 0 rfl) rfl) rfl rfl (by dsimp only;simp only [maxLen];omega) (by dsimp only;show _ * 8≤_;omega) rfl fun v7 W7 hS=>?_
         obtain ⟨wa8,wc8,e9,_⟩:=cM (hS.row 0 rfl)
         dsimp only at e9
         subst e9
         refine aB rfl rfl (aG (XF.blkN (XF.thenN (aH (aS rfl rfl (IntWalk.i64_in _ (by omega)) rfl (aA rfl rfl (aG ?_)))))))
         have hS9:=hS.tail.tail.castG (G':=(⟨.slice wa8 (ml+1) wc8,(ml+1),zI (bs++[t.q]),3,1⟩::G)) (by show GR.mk _ _ (zI bs++[Value.int .i64 _]) _ _::_=_;rw [jY])
         exact XF.round ((outs (L.map ArV.flip) p).length - (z+1)) [(1,_),(3,_),(4,_),(7,_),(8,_),(38,_),(39,_),(40,_),(59,_),(60,_),(61,_)] (by omega) ⟨rfl,rfl,rfl,rfl,rfl,rfl,rfl,rfl,rfl,rfl,rfl,trivial⟩ ⟨z+1,ml+1,wa8,wc8,bs++[t.q],by omega,rfl,rfl,by simp [hbl],by omega,hin.yes ht (by simpa using hg68) (by simpa using hg73),hS9.keep Kk (fun q hq=>by simp [hq])⟩
        ·have hc80:=of_decide_eq_false hc;clear hc
         refine aP (XF.blkN (XF.thenN (aH (aS rfl rfl (IntWalk.i64_in _ (by omega)) rfl (aA rfl rfl (aG ?_))))))
         exact XF.round ((outs (L.map ArV.flip) p).length - (z+1)) [(1,_),(3,_),(4,_),(7,_),(8,_),(38,_),(39,_),(40,_),(59,_),(60,_),(61,_)] (by omega) ⟨rfl,rfl,rfl,rfl,rfl,rfl,rfl,rfl,rfl,rfl,rfl,trivial⟩ ⟨z+1,ml,wa9,wc9,bs,by omega,rfl,rfl,hbl,by omega,hin.no ht (fun _ _=>by rw [hqn2];exact Int.not_lt.1 (by simpa using hc80)),hS.tail.keep Kk (fun q hq=>by simp [hq])⟩
       ·have hg73:=of_decide_eq_false hc;clear hc
        refine aE (d:=73) rfl rfl rfl rfl (aE (d:=73) rfl rfl rfl rfl (aE (d:=73) rfl rfl rfl rfl (aE (d:=73) rfl rfl rfl rfl (aE (d:=73) rfl rfl rfl rfl (aE (d:=73) rfl rfl rfl rfl (aR rfl rfl rfl (aG (XF.thenN (bX rfl (aP (XF.blkN (XF.thenN (aH (aS rfl rfl (IntWalk.i64_in _ (by omega)) rfl (aA rfl rfl (aG ?_))))))))))))))))
        exact XF.round ((outs (L.map ArV.flip) p).length - (z+1)) [(1,_),(3,_),(4,_),(7,_),(8,_),(38,_),(39,_),(40,_),(59,_),(60,_),(61,_)] (by omega) ⟨rfl,rfl,rfl,rfl,rfl,rfl,rfl,rfl,rfl,rfl,rfl,trivial⟩ ⟨z+1,ml,wa9,wc9,bs,by omega,rfl,rfl,hbl,by omega,hin.no ht (fun _ h9=>absurd h9 (by simpa using hg73)),hS.tail.keep Kk (fun q hq=>by simp [hq])⟩
      ·have hg68:=of_decide_eq_false hc;clear hc
       refine aE (d:=68) rfl rfl rfl rfl (aE (d:=68) rfl rfl rfl rfl (aE (d:=68) rfl rfl rfl rfl (aR rfl rfl rfl (aA rfl rfl (aE (d:=73) rfl rfl rfl rfl (aE (d:=73) rfl rfl rfl rfl (aE (d:=73) rfl rfl rfl rfl (aE (d:=73) rfl rfl rfl rfl (aE (d:=73) rfl rfl rfl rfl (aE (d:=73) rfl rfl rfl rfl (aR rfl rfl rfl (aG (XF.thenN (bX rfl (aP (XF.blkN (XF.thenN (aH (aS rfl rfl (IntWalk.i64_in _ (by omega)) rfl (aA rfl rfl (aG ?_)))))))))))))))))))))
       exact XF.round ((outs (L.map ArV.flip) p).length - (z+1)) [(1,_),(3,_),(4,_),(7,_),(8,_),(38,_),(39,_),(40,_),(59,_),(60,_),(61,_)] (by omega) ⟨rfl,rfl,rfl,rfl,rfl,rfl,rfl,rfl,rfl,rfl,rfl,trivial⟩ ⟨z+1,ml,wa9,wc9,bs,by omega,rfl,rfl,hbl,by omega,hin.no ht (fun h9 _=>absurd (by simpa using hg68) h9),hS.tail.keep Kk (fun q hq=>by simp [hq])⟩
     ·have hc62:=of_decide_eq_false hc;clear hc
      obtain rfl:z=(outs (L.map ArV.flip) p).length:=by omega
      have hmd2:=hin.done hmd hO hp hpn h0
      refine bS (XF.thenX (XF.thenX (XF.blkX (XF.blkN (XF.thenN (aH (aS rfl rfl (IntWalk.i64_in _ (by omega)) rfl (aA rfl rfl (aG ?_)))))))))
      exact XF.round (lv.length - (i+1)) [(1,_),(3,_),(4,_),(7,_),(8,_),(38,_),(39,_),(40,_)] (by omega) ⟨rfl,rfl,rfl,rfl,rfl,rfl,rfl,rfl,trivial⟩ ⟨i+1,ml,wa9,wc9,bs,gs.set p (c:Int),by omega,rfl,rfl,hbl,by omega,hmd2,hS.keep Kk (fun q hq=>by simp [hq])⟩
   ·have hc41:=of_decide_eq_false hc;clear hc
    obtain rfl:i=lv.length:=by omega
    have hib:lv.length * 65536≤4096 * 65536:=Nat.mul_le_mul_right _ (by omega)
    have hc9:c≤8193:=by omega
    obtain ⟨K5,k5,g5,hS1⟩:=St.rowKeepN (o:=⟨.slice wa9 ml wc9,ml,zI az⟩) (hS.keep Kk (fun q hq=>by simp [hq]))
    clear hS;have hS:=hS1;clear hS1
    refine bS (XF.thenX (XF.thenX (XF.blkX (XF.thenN (aH (aA rfl rfl (aA rfl rfl ?_)))))))
    have hS2:=(hS.keep K5 (fun q hq=>by simp [hq])).perm ((List.Perm.swap _ _ _).trans ((List.Perm.swap _ _ _).cons _))
    clear hS;have hS:=hS2;clear hS2
    refine aX (vs:=[_,_]) iL rfl (gK n (L.map ArV.flip) OB va vc RB SB ((c:Int)+1) ((c:Int)+2) ss wa9 ml wc9 az K5 _ G K5 w0 _ hS (fun q hq=>hq) (hOut.moreN (fun q hq=>k5 q (hkk q hq))) (fun h9 hk9=>fL (g5 h9 hk9)) hal9 (by omega) (fun y hy=>(by obtain ⟨p,rfl,h8,_⟩:=hmd.inn y hy;omega)) (oD hflO) hfll hsl (by rw [IntWalk.i64_in _ (by omega)];omega) (fun y hy=>(by have:=hss y hy;omega)) hn4) rfl ?_
    rintro e W9 ⟨lw,wa8,wc8,ss2,K6,hH,rfl,hle2,hsl2,hsf2,hk6,hR2,hS9⟩
    refine ⟨_,rfl,?_⟩
    clear hS;have hS:=hS9.perm (((List.Perm.swap _ _ _).cons _).trans (List.Perm.swap _ _ _));clear hS9
    refine aB rfl rfl (aG (XF.blkN (XF.thenN (aH (aA rfl rfl (aS rfl rfl (IntWalk.i64_in _ (by omega)) rfl (aB rfl rfl (aG ?_))))))))
    have hlv9:lv≠[]:=by rintro rfl;simp at hc35
    have hless:=hmd.less hlv9 hH.at_
    exact XF.round (lvM gs lw) [(1,_),(3,_),(4,_),(6,_),(7,_)] hless ⟨rfl,rfl,rfl,rfl,rfl,trivial⟩ ⟨c+1,gs,lw,wa8,wc8,ss2,K6,rfl,rfl,hmd.done hLv hO hH.at_,by omega,hle2,hsl2,fun y hy=>(hsf2 y hy).elim (fun h=>by have:=hss y h;omega) (fun h=>by omega),fun q hq=>hk6 q (k5 q (hkk q hq)),hR2,hS.keep K6 (fun q hq=>by simp [hq])⟩
  ·have hc35:=of_decide_eq_false hc;clear hc
   have hl0:lv=[]:=List.eq_nil_of_length_eq_zero (by have h7:=Int.not_lt.1 (show ¬ (0:Int) < (lv.length:Int) from (by simpa using hc35));omega)
   subst hl0
   refine bS (XF.thenX (XF.thenX (XF.blkX (XF.thenN (aF (aH (aA rfl rfl (aB rfl rfl (aG (XF.thenN (bK (XF.res (bT results37 rfl) ?_))))))))))))
   have hS9:=hS.keep Kk (fun q hq=>by simp [hq])
   exact ⟨FB,fs,Kk,rfl,hLv.end_ hO,fun p hp=>(hLv.val p hp).elim (fun h=>by omega) (fun ⟨m,h1,h2,_⟩=>by omega),fun q hq=>hkk q (hk2 q (k1 q hq)),(hS9.perm (((List.Perm.swap _ _ _).trans ((List.Perm.swap _ _ _).cons _)).trans (((List.Perm.swap _ _ _).cons _).cons _))).tail.tail.tail⟩
theorem pY:bA prog 40=true:=by kernel_rfl
theorem goes_51:bA prog 51=true:=by kernel_rfl
def kpN (fs:List Int) (n:Nat) (l:List Nat):List Nat:=l.filter (fun q=>decide (fs.getD q 0=(n:Int)))
section
variable {fs:List Int} {n:Nat} {l xs:List Nat} {i j q:Nat}
theorem pZ (h:∀ q∈l,fs.getD q 0=(n:Int)):kpN fs n l=l:=List.filter_eq_self.2 fun q hq=>decide_eq_true (h q hq)
theorem iO:q∈kpN fs n l↔q∈l∧fs.getD q 0=(n:Int):=by unfold kpN;rw [List.mem_filter];simp
theorem kC (h:l[j]?=some q):kpN fs n (l.take (j+1))=kpN fs n (l.take j)++(if fs.getD q 0=(n:Int) then [q] else []):=by
 unfold kpN
 rw [List.take_add_one,h,List.filter_append]
 congr 1
 show List.filter _ [q]=_
 by_cases h1:fs.getD q 0=(n:Int)
 ·rw [if_pos h1,List.filter_cons_of_pos (by simpa using h1)];rfl
 ·rw [if_neg h1,List.filter_cons_of_neg (by simpa using h1)];rfl
structure DlI (fs:List Int) (n:Nat) (l xs:List Nat) (i j:Nat):Prop where
 len:xs.length=l.length
 lt:i < j
 le:j≤l.length
 kept:xs.take i=kpN fs n (l.take j)
 rest:xs.drop j=l.drop j
theorem DlI.start (h:l[i]?=some q) (hq:¬ fs.getD q 0=(n:Int)) (hp:∀ q∈l.take i,fs.getD q 0=(n:Int)):DlI fs n l l i (i+1) where
 len:=rfl
 lt:=Nat.lt_succ_self _
 le:=(List.getElem?_eq_some_iff.1 h).1
 kept:=by rw [kC h,if_neg hq,pZ hp,List.append_nil]
 rest:=rfl
theorem DlI.at_ (h:DlI fs n l xs i j) (hj:l[j]?=some q):xs[j]?=some q:=by
 have:=congrArg (fun z=>z[0]?) h.rest
 simp only [List.getElem?_drop,Nat.add_zero] at this
 rw [this];exact hj
theorem DlI.no (h:DlI fs n l xs i j) (hj:l[j]?=some q) (hq:¬ fs.getD q 0=(n:Int)):DlI fs n l xs i (j+1) where
 len:=h.len
 lt:=Nat.lt_succ_of_lt h.lt
 le:=(List.getElem?_eq_some_iff.1 hj).1
 kept:=by rw [kC hj,if_neg hq,List.append_nil];exact h.kept
 rest:=by rw [← List.drop_drop,← List.drop_drop,h.rest]
theorem DlI.yes (h:DlI fs n l xs i j) (hj:l[j]?=some q) (hq:fs.getD q 0=(n:Int)):DlI fs n l (xs.set i q) (i+1) (j+1) where
 len:=by rw [List.length_set];exact h.len
 lt:=Nat.succ_lt_succ h.lt
 le:=(List.getElem?_eq_some_iff.1 hj).1
 kept:=by
  have:=h.lt
  have:=h.le
  have:=h.len
  rw [kC hj,if_pos hq,← h.kept,List.take_add_one,List.take_set_of_le (Nat.le_refl _),List.getElem?_set_self (by omega)]
  rfl
 rest:=by
  have:=h.lt
  rw [List.drop_set_of_lt (by omega),← List.drop_drop,← List.drop_drop,h.rest]
theorem nI_set {i q:Nat}:(zI (nI xs)).set i (.int .i64 (q:Int))=zI (nI (xs.set i q)):=by unfold zI nI;rw [List.map_map,List.map_map,List.map_set];rfl
theorem nI_at {i q:Nat} (h:xs[i]?=some q):(zI (nI xs))[i]?=some (.int .i64 (q:Int)):=by unfold zI nI;rw [List.map_map,List.getElem?_map,h];rfl
theorem lQ:∀ (new cs:List Value) (j:Nat),j≤cs.length→(cA cs j new).take j=cs.take j
 | [],cs,j,_=>rfl
 | v::new,cs,j,h=>by
  simp only [cA]
  have h1:∀ (k:Nat) (cs2:List Value) (nw:List Value),j≤k→(cA cs2 k nw).take j=cs2.take j:=by
   intro k cs2 nw
   induction nw generalizing k cs2 with
   | nil=>intro _;rfl
   | cons u nw ih=>intro hk;simp only [cA];rw [ih _ _ (by omega),List.take_set_of_le hk]
  rw [h1 _ _ _ (Nat.le_succ _),List.take_set_of_le (Nat.le_refl _)]
end
theorem qA (FX LX:Nat) (fa:Option Addr) (fn fc:Nat) (fs:List Int) (left:Nat) (q:Nat) (Kt:List (Nat×World)) (Ot:Own) (G:aU) (K:List (Nat×World)) (w0 w:World) (hS0:St w0 ((FX,[.slice fa fn fc],25)::(LX,[.int .i64 ((left:Int)+1)],3)::Ot) G K w) (hKt:∀ q∈Kt,q∈K) (hFs:bV w0 Kt (fun W=>Row W fa fs)) (hfn:fs.length=fn) (hl9:left≤1000000) (hq:q < fn) :
  Calls prog 40 #[.int .i64 (q:Int),.pointer (some ⟨FX,0,none⟩),.pointer (some ⟨LX,0,none⟩)] w (fun e w'=>e = .returned (.bool (decide (¬ fs.getD q 0=(left:Int))))∧St w0 ((FX,[.slice fa fn fc],25)::(LX,[.int .i64 ((left:Int)+1)],3)::Ot) G K w'):=by
 refine bH (args:=[.int .i64 (q:Int),.pointer (some ⟨FX,0,none⟩),.pointer (some ⟨LX,0,none⟩)]) func40 rfl ntmps40 rfl ?_
 have hS:=hS0
 obtain ⟨b2,off2,y2,hfa,hy2,hyc2⟩:=(hFs hS0 hKt).at1 (show q < fs.length by omega)
 have hy3:fs.getD q 0=y2:=by rw [List.getD_eq_getElem?_getD,hy2];rfl
 subst hfa
 refine aF (aH (aB rfl rfl (aG (XF.thenN (aF (mJ (m:=8) cX hS (by kernel_rfl) (by kernel_rfl) rfl (dM 1 rfl 1 rfl rfl (fun w hw=>bQ isAgg25 rfl ((aW hw 0).cell (Nat.zero_le _) (aD (hS.at_ 0 rfl) rfl))) rfl (dM 2 rfl 0 rfl rfl (fun w hw=>bY rfl) rfl (bR 3 rfl (isV _) (bF _) (rgV (li:=[(5,_),(6,_)]) rfl (bU rfl) ⟨bE 0 (aT rfl rfl rfl),bE 1 (aT rfl rfl rfl),trivial⟩ (fun w hw=>cG (j:=q) underlying25 sizeOf3 rfl rfl (rfl) (by omega) rfl) (bC rfl)) (cI 4 rfl 7 2 rfl rfl rfl (fun w hw=>bQ isAgg3 rfl ((aW hw 0).cell (Nat.zero_le _) (hyc2))) rfl (dM 5 rfl 2 rfl rfl (fun w hw=>bQ isAgg3 rfl ((aW hw 0).cell (Nat.zero_le _) (aD (hS.at_ 1 rfl) rfl))) rfl (cI 6 rfl 9 4 rfl rfl rfl (fun w hw=>sE rfl rfl (IntWalk.i64_in _ (by omega))) rfl (bR 7 rfl (isV _) (bF _) (rgV (li:=[(8,_),(10,_)]) rfl (bU rfl) ⟨bE 3 (aT rfl rfl rfl),bE 5 (aT rfl rfl rfl),trivial⟩ (fun w hw=>jP rfl rfl) (bC rfl)) (cI 8 rfl 11 6 rfl rfl rfl (fun w hw=>gE rfl) rfl (fV ?_)))))))))))))))
 intro W1 hbR hS'
 clear hS;have hS:=hS';clear hS'
 refine aY (aY (aY (aY (aY (aY (aY (aY (dV (XF.thenN (bK (XF.res (bT results40 rfl) ?_)))))))))))
 have e9:(left:Int)+1 - 1=(left:Int):=by omega
 refine ⟨?_,hS.keep K (fun q hq=>by simp [hq])⟩
 rw [hy3,e9]
theorem nIxf_is (FX LX:Nat) (fa:Option Addr) (fn fc:Nat) (fs:List Int) (left:Nat) (wa:Option Addr) (m wc:Nat) (l:List Nat) (Kt:List (Nat×World)) (Ot:Own) (G:aU) (K:List (Nat×World)) (w0 w:World) (hS0:St w0 ((FX,[.slice fa fn fc],25)::(LX,[.int .i64 ((left:Int)+1)],3)::Ot) (⟨.slice wa m wc,m,zI (nI l),3,1⟩::G) K w) (hKt:∀ q∈Kt,q∈K) (hFs:bV w0 Kt (fun W=>Row W fa fs)) (hfn:fs.length=fn) (hl9:left≤1000000) (hm:l.length=m) (hlt:∀ q∈l,q < fn) (hm4:m≤4096) :
  Calls prog 51 #[.slice wa m wc,.func (.func 40) #[] #[.pointer (some ⟨FX,0,none⟩),.pointer (some ⟨LX,0,none⟩)]] w (fun e w'=>(∃ j:Int,e = .returned (.int .i64 j)∧((j = -1∧∀ q∈l,fs.getD q 0=(left:Int))∨∃ (i q:Nat),j=(i:Int)∧l[i]?=some q∧(¬ fs.getD q 0=(left:Int))∧∀ q∈l.take i,fs.getD q 0=(left:Int)))∧St w0 ((FX,[.slice fa fn fc],25)::(LX,[.int .i64 ((left:Int)+1)],3)::Ot) (⟨.slice wa m wc,m,zI (nI l),3,1⟩::G) K w'):=by
 refine bH (args:=[.slice wa m wc,.func (.func 40) #[] #[.pointer (some ⟨FX,0,none⟩),.pointer (some ⟨LX,0,none⟩)]]) func51 rfl ntmps51 rfl ?_
 have hS:=hS0
 refine aF (aH (aB rfl rfl (aG (XF.thenN (aF (aF (aH (aA rfl rfl (bN underlying25 rfl rfl (aA rfl rfl (aG (XF.thenN (aM (cB (fun m2 l2 W=>∃ (i:Nat),i≤m∧m2=m - i∧l2=[(0,.slice wa m wc),(1,.func (.func 40) #[] #[.pointer (some ⟨FX,0,none⟩),.pointer (some ⟨LX,0,none⟩)]),(7,.int .i64 (m:Int)),(8,.int .i64 (i:Int))]∧(∀ q∈l.take i,fs.getD q 0=(left:Int))∧St w0 ((FX,[.slice fa fn fc],25)::(LX,[.int .i64 ((left:Int)+1)],3)::Ot) (⟨.slice wa m wc,m,zI (nI l),3,1⟩::G) K W) (m - 0) ([(0,_),(1,_),(7,_),(8,_)]) ⟨rfl,rfl,rfl,rfl,trivial⟩ (⟨0,Nat.zero_le _,rfl,rfl,fun q hq=>(by cases hq),hS.keep K (fun q hq=>by simp [hq])⟩) ?_))))))))))))))
 clear hS
 rintro m2 l2 W ⟨i,hi,rfl,rfl,hall,hS⟩
 refine aF (aH (bB rfl rfl rfl (aG (XF.thenN (aF (aV rfl (fun hc=>?_) (fun hc=>?_)))))))
 ·have hc9:=of_decide_eq_true hc;clear hc
  obtain ⟨q,hq⟩:∃ q,l[i]?=some q:=⟨_,List.getElem?_eq_getElem (by omega)⟩
  have hqn:=hlt q (List.mem_of_getElem? hq)
  obtain ⟨sb,rfl⟩:=iG (hS.row 0 rfl) (by omega)
  have hmc:W.cell? ⟨sb,0+i * 1,none⟩=some (.int .i64 (q:Int)):=by
   rw [Nat.zero_add,Nat.mul_one]
   exact eT (hS.row 0 rfl) (nI_at hq)
  refine aP (XF.thenN (aF (aM (aF (aH (aA rfl rfl (aB rfl rfl (aG (XF.thenN (aF (aH (aA rfl rfl (aA rfl rfl (aA rfl rfl (aL (j:=i) (b:=sb) (o:=0) (m:=m) (c:=wc) underlying25 sizeOf3 rfl rfl rfl (by omega) rfl rfl (aJ isAgg3 rfl (hmc) rfl (iI (vs:=[_]) (caps:=[_,_]) rfl pY rfl (qA FX LX fa fn fc fs left q Kt Ot _ K w0 _ (hS.keep K (fun q hq=>by simp [hq])) hKt hFs hfn hl9 hqn) rfl ?_)))))))))))))))))
  rintro e W9 ⟨rfl,hS9⟩
  refine ⟨_,rfl,?_⟩
  clear hS;have hS:=hS9;clear hS9
  refine aG (XF.thenN (aV rfl (fun hc=>?_) (fun hc=>?_)))
  ·have hc16:=hc;clear hc
   refine aF (aH (aA rfl rfl (aB rfl rfl (aG (XF.thenN (bK (XF.blkR (XF.thenR (XF.thenR (XF.blkR (XF.thenR (XF.res (bT results51 rfl) ?_))))))))))))
   have hq9:¬ fs.getD q 0=(left:Int):=by simpa using hc16
   exact ⟨⟨(i:Int),rfl,.inr ⟨i,q,rfl,hq,hq9,hall⟩⟩,hS.keep K (fun q hq=>by simp [hq])⟩
  ·have hc16:=hc;clear hc
   refine aP (XF.blkN (XF.thenN (aH (aS rfl rfl (IntWalk.i64_in _ (by omega)) rfl (aA rfl rfl (aG ?_))))))
   have hq9:fs.getD q 0=(left:Int):=by simpa using hc16
   exact XF.round (m - (i+1)) [(0,_),(1,_),(7,_),(8,_)] (by omega) ⟨rfl,rfl,rfl,rfl,trivial⟩ ⟨i+1,by omega,rfl,rfl,fun q2 hq2=>(by
    rw [List.take_add_one,hq] at hq2
    rcases List.mem_append.1 hq2 with h9 | h9
    ·exact hall q2 h9
    ·obtain rfl:q2=q:=by simpa using h9
     exact hq9),hS.keep K (fun q hq=>by simp [hq])⟩
 ·have hc9:=of_decide_eq_false hc;clear hc
  rw [List.take_of_length_le (by omega)] at hall
  refine bS (XF.thenX (XF.thenX (XF.blkX (XF.thenN (aF (aH (aB rfl rfl (aG (XF.thenN (bK (XF.res (bT results51 rfl) ?_)))))))))))
  exact ⟨⟨-1,rfl,.inl ⟨rfl,hall⟩⟩,hS.keep K (fun q hq=>by simp [hq])⟩
theorem nDel_is (FX LX:Nat) (fa:Option Addr) (fn fc:Nat) (fs:List Int) (left:Nat) (wa:Option Addr) (m wc:Nat) (l:List Nat) (Kt:List (Nat×World)) (Ot:Own) (G:aU) (K:List (Nat×World)) (w0 w:World) (hS0:St w0 ((FX,[.slice fa fn fc],25)::(LX,[.int .i64 ((left:Int)+1)],3)::Ot) (⟨.slice wa m wc,m,zI (nI l),3,1⟩::G) K w) (hKt:∀ q∈Kt,q∈K) (hFs:bV w0 Kt (fun W=>Row W fa fs)) (hfn:fs.length=fn) (hl9:left≤1000000) (hm:l.length=m) (hlt:∀ q∈l,q < fn) (hm4:m≤4096) :
  Calls prog 39 #[.slice wa m wc,.func (.func 40) #[] #[.pointer (some ⟨FX,0,none⟩),.pointer (some ⟨LX,0,none⟩)]] w (fun e w'=>∃ (wa2:Option Addr) (wc2:Nat),e = .returned (.slice wa2 (kpN fs left l).length wc2)∧St w0 ((FX,[.slice fa fn fc],25)::(LX,[.int .i64 ((left:Int)+1)],3)::Ot) (⟨.slice wa2 (kpN fs left l).length wc2,(kpN fs left l).length,zI (nI (kpN fs left l)),3,1⟩::G) K w'):=by
 refine bH (args:=[.slice wa m wc,.func (.func 40) #[] #[.pointer (some ⟨FX,0,none⟩),.pointer (some ⟨LX,0,none⟩)]]) func39 rfl ntmps39 rfl ?_
 have hS:=hS0
 refine aF (aH (aB rfl rfl (aG (XF.thenN (aF (aH (aA rfl rfl (aA rfl rfl (aX (vs:=[_,_]) goes_51 rfl (nIxf_is FX LX fa fn fc fs left wa m wc l Kt Ot _ K w0 _ (hS.keep K (fun q hq=>by simp [hq])) hKt hFs hfn hl9 hm hlt hm4) rfl ?_)))))))))
 rintro e W9 ⟨⟨j0,rfl,hj0⟩,hS9⟩
 refine ⟨_,rfl,?_⟩
 clear hS;have hS:=hS9;clear hS9
 refine aB rfl rfl (aG (XF.thenN (aF (aF (aH (aA rfl rfl (dB rfl rfl rfl (aG (XF.thenN (aV rfl (fun hc=>?_) (fun hc=>?_)))))))))))
 ·have hc12:=of_decide_eq_true hc;clear hc
  have hk:kpN fs left l=l:=by
   rcases hj0 with ⟨_,h⟩ | ⟨i,q,h,_⟩
   ·exact pZ h
   ·have h7:j0 = -1:=by simpa using hc12
    omega
  refine aF (aH (aA rfl rfl (aB rfl rfl (aG (XF.thenN (bK (XF.thenR (XF.res (bT results39 rfl) ?_))))))))
  rw [hk,hm]
  exact ⟨wa,wc,rfl,hS.keep K (fun q hq=>by simp [hq])⟩
 ·have hc12:=of_decide_eq_false hc;clear hc
  obtain ⟨i,q,rfl,hiq,hnq,hpre⟩:∃ (i q:Nat),j0=(i:Int)∧l[i]?=some q∧(¬ fs.getD q 0=(left:Int))∧∀ q∈l.take i,fs.getD q 0=(left:Int):=by
   rcases hj0 with ⟨h,_⟩ | h
   ·have h7:¬ j0 = -1:=by simpa using hc12
    exact absurd h h7
   ·exact h
  have hil:=(List.getElem?_eq_some_iff.1 hiq).1
  obtain ⟨sb,rfl⟩:=iG (hS.row 0 rfl) (by omega)
  have hdl:=DlI.start hiq hnq hpre
  refine aP (XF.thenN (aF (aF (aH (aA rfl rfl (aS rfl rfl (IntWalk.i64_in _ (by omega)) rfl (aB rfl rfl (aG (XF.thenN (aM (cB (fun m2 l2 W=>∃ (i j:Nat) (xs:List Nat),m2=m - j∧l2=[(0,.slice (some ⟨sb,0,none⟩) m wc),(1,.func (.func 40) #[] #[.pointer (some ⟨FX,0,none⟩),.pointer (some ⟨LX,0,none⟩)]),(5,.int .i64 (i:Int)),(6,.int .i64 (j:Int))]∧DlI fs left l xs i j∧St w0 ((FX,[.slice fa fn fc],25)::(LX,[.int .i64 ((left:Int)+1)],3)::Ot) (⟨.slice (some ⟨sb,0,none⟩) m wc,m,zI (nI xs),3,1⟩::G) K W) (m - (i+1)) ([(0,_),(1,_),(5,_),(6,_)]) ⟨rfl,rfl,rfl,rfl,trivial⟩ (⟨i,i+1,l,rfl,rfl,hdl,hS.keep K (fun q hq=>by simp [hq])⟩) ?_)))))))))))
  clear hS
  clear hdl hpre hnq hiq hil hj0
  rintro m2 l2 W ⟨i,j,xs,rfl,rfl,hdl,hS⟩
  have hxl:=hdl.len
  have hij:=hdl.lt
  have hjl:=hdl.le
  refine aF (aF (aH (aA rfl rfl (aA rfl rfl (bN underlying25 rfl rfl (bB rfl rfl rfl (aG (XF.thenN (aV rfl (fun hc=>?_) (fun hc=>?_))))))))))
  ·have hc19:=of_decide_eq_true hc;clear hc
   obtain ⟨q,hq⟩:∃ q,l[j]?=some q:=⟨_,List.getElem?_eq_getElem (by omega)⟩
   have hqn:=hlt q (List.mem_of_getElem? hq)
   have hmc:W.cell? ⟨sb,0+j * 1,none⟩=some (.int .i64 (q:Int)):=by
    rw [Nat.zero_add,Nat.mul_one]
    exact eT (hS.row 0 rfl) (nI_at (hdl.at_ hq))
   refine aP (XF.thenN (aF (aM (aF (aH (aA rfl rfl (aA rfl rfl (aL (j:=j) (b:=sb) (o:=0) (m:=m) (c:=wc) underlying25 sizeOf3 rfl rfl rfl (by omega) rfl rfl (aJ isAgg3 rfl (hmc) rfl (aB rfl rfl (aG (XF.thenN (aF (aH (aA rfl rfl (aA rfl rfl (iI (vs:=[_]) (caps:=[_,_]) rfl pY rfl (qA FX LX fa fn fc fs left q Kt Ot _ K w0 _ (hS.keep K (fun q hq=>by simp [hq])) hKt hFs hfn hl9 hqn) rfl ?_)))))))))))))))))
   rintro e W9 ⟨rfl,hS9⟩
   refine ⟨_,rfl,?_⟩
   clear hS;have hS:=hS9;clear hS9
   refine cW rfl rfl (aG (XF.thenN (aV rfl (fun hc=>?_) (fun hc=>?_))))
   ·have hc29:=hc;clear hc
    refine aF (aH (aA rfl rfl (aA rfl rfl (aA rfl rfl (aL (j:=i) (b:=sb) (o:=0) (m:=m) (c:=wc) underlying25 sizeOf3 rfl rfl rfl (by omega) (by rw [Nat.zero_add,Nat.mul_one]) rfl ?_)))))
    refine nX (xs':=zI (nI (xs.set i q))) hS sizeOf3 rfl rfl rfl (by omega) (by rw [dJ,gD];omega) nI_set fun W94 hS=>?_
    refine aG (XF.thenN (aH (aA rfl rfl (aS rfl rfl (IntWalk.i64_in _ (by omega)) rfl (aB rfl rfl (aG (XF.blkN (XF.thenN (aH (aA rfl rfl (aS rfl rfl (IntWalk.i64_in _ (by omega)) rfl (aB rfl rfl (aG ?_)))))))))))))
    have hq9:fs.getD q 0=(left:Int):=by simpa using hc29
    exact XF.round (m - (j+1)) [(0,_),(1,_),(5,_),(6,_)] (by omega) ⟨rfl,rfl,rfl,rfl,trivial⟩ ⟨i+1,j+1,xs.set i q,rfl,rfl,hdl.yes hq hq9,hS.keep K (fun q hq=>by simp [hq])⟩
   ·have hc29:=hc;clear hc
    refine aP (XF.blkN (XF.thenN (aH (aA rfl rfl (aS rfl rfl (IntWalk.i64_in _ (by omega)) rfl (aB rfl rfl (aG ?_)))))))
    have hq9:¬ fs.getD q 0=(left:Int):=by simpa using hc29
    exact XF.round (m - (j+1)) [(0,_),(1,_),(5,_),(6,_)] (by omega) ⟨rfl,rfl,rfl,rfl,trivial⟩ ⟨i,j+1,xs,rfl,rfl,hdl.no hq hq9,hS.keep K (fun q hq=>by simp [hq])⟩
  ·have hc19:=of_decide_eq_false hc;clear hc
   obtain rfl:j=m:=by omega
   have hkp:xs.take i=kpN fs left l:=by rw [hdl.kept,List.take_of_length_le (by omega)]
   have hrowc:i < wc:=by
    obtain ⟨a8,c8,e8,hc8⟩:=cM (hS.row 0 rfl)
    dsimp only at e8 hc8
    injection e8 with _ _ e8
    omega
   refine bS (XF.thenX (XF.thenX (XF.blkX (XF.thenN (aF (aH (aA rfl rfl (aA rfl rfl (opV (lC (j:=i) underlying25 sizeOf3 rfl rfl rfl (by omega)) rfl ?_)))))))))
   rw [if_neg (show ¬ wc=i by omega)]
   refine nY (j:=i) (nn:=j - i) (xs':=cA (zI (nI xs)) i (List.replicate (j - i) (.int .i64 0))) hS underlying25 zeroValue3 rfl rfl (by show some (Value.slice _ _ _)=some (Value.slice _ _ _);congr 2;simp [Addr.add];try (intro h9;omega)) (by omega) (by omega) rfl fun W95 hS=>?_
   refine aG (XF.thenN (aF (aH (aA rfl rfl (aA rfl rfl (op_cut (k:=i) hS 0 underlying25 sizeOf3 rfl rfl rfl (rfl) (by omega) rfl ?_))))))
   intro hS';clear hS;have hS:=hS';clear hS'
   refine aB rfl rfl (aG (XF.thenN (bK (XF.res (bT results39 rfl) ?_))))
   have hlen9:(kpN fs left l).length=i:=by rw [← hkp,List.length_take];omega
   rw [hlen9]
   have hcs9:(cA (zI (nI xs)) i (List.replicate (j - i) (.int .i64 0))).take (i * 1)=zI (nI (kpN fs left l)):=by
    rw [Nat.mul_one,lQ _ _ _ (by rw [dJ,gD];omega),← hkp]
    unfold zI nI
    rw [List.map_map,List.map_map,List.map_take]
   have hS9:=hS.castG (G':=(⟨.slice (some ⟨sb,0,none⟩) i wc,i,zI (nI (kpN fs left l)),3,1⟩::G)) (by show GR.mk _ _ _ _ _::_=_;rw [hcs9])
   exact ⟨_,_,rfl,hS9.keep K (fun q hq=>by simp [hq])⟩
def LmI (S:ArV→Prop) (x:Int):Prop:=(x = -1∧∀ t,¬ S t)∨(0≤x∧(∃ t,S t∧x=max t.s 0)∧∀ t,S t→x≤max t.s 0)
theorem LmI.congr {S R:ArV→Prop} {x:Int} (h:LmI S x) (e:∀ t,S t↔R t):LmI R x:=by
 have:S=R:=funext fun t=>propext (e t)
 rw [← this];exact h
theorem LmI.add {S:ArV→Prop} {x:Int} {t:ArV} (h:LmI S x) (hx:x < 0∨max t.s 0 < x):LmI (fun u=>S u∨u=t) (max t.s 0):=by
 refine .inr ⟨by omega,⟨t,.inr rfl,rfl⟩,fun u hu=>?_⟩
 rcases hu with hu | rfl
 ·rcases h with ⟨h1,h2⟩ | ⟨h1,h2,h3⟩
  ·exact absurd hu (h2 u)
  ·have:=h3 u hu;omega
 ·exact Int.le_refl _
theorem LmI.stay {S:ArV→Prop} {x:Int} {t:ArV} (h:LmI S x) (h0:¬ x < 0) (h1:¬ max t.s 0 < x):LmI (fun u=>S u∨u=t) x:=by
 rcases h with ⟨h2,h3⟩ | ⟨h2,⟨u,h3,h4⟩,h5⟩
 ·omega
 ·refine .inr ⟨h2,⟨u,.inl h3,h4⟩,fun v hv=>?_⟩
  rcases hv with hv | rfl
  ·exact h5 v hv
  ·omega
def LkS (L:List ArV) (fs:List Int) (n:Nat) (lp:List Nat) (i p z:Nat) (t:ArV):Prop:=((∃ p2∈lp.take i,t∈outs L p2)∨t∈(outs L p).take z)∧t.s ≠ -1∧fs.getD t.q.toNat 0=(n:Int)
section
variable {L:List ArV} {fs:List Int} {n i p z:Nat} {lp:List Nat} {t:ArV} {x:Int}
theorem rJ:LmI (LkS L fs n lp 0 p 0) (-1):=.inl ⟨rfl,fun t h=>by rcases h.1 with ⟨q,h1,_⟩ | h1<;>cases h1⟩
theorem lks_any {p2:Nat} (h:LmI (LkS L fs n lp i p 0) x):LmI (LkS L fs n lp i p2 0) x:=h.congr fun t=>by unfold LkS;simp
theorem tI (h:LmI (LkS L fs n lp i p z) x) (ht:(outs L p)[z]?=some t) (h1:t.s = -1∨fs.getD t.q.toNat 0≠(n:Int)):LmI (LkS L fs n lp i p (z+1)) x:=h.congr fun u=>by
 unfold LkS
 rw [List.take_add_one,ht]
 constructor
 ·rintro ⟨h2,h3⟩
  exact ⟨h2.imp id (List.mem_append_left _),h3⟩
 ·rintro ⟨h2 | h2,h3⟩
  ·exact ⟨.inl h2,h3⟩
  ·rcases List.mem_append.1 h2 with h2 | h2
   ·exact ⟨.inr h2,h3⟩
   ·obtain rfl:u=t:=by simpa using h2
    exact h1.elim (fun h=>absurd h h3.1) (fun h=>absurd h3.2 h)
theorem lR (h:LmI (fun u=>LkS L fs n lp i p z u∨u=t) x) (ht:(outs L p)[z]?=some t) (h1:t.s ≠ -1) (h2:fs.getD t.q.toNat 0=(n:Int)):LmI (LkS L fs n lp i p (z+1)) x:=h.congr fun u=>by
 unfold LkS
 rw [List.take_add_one,ht]
 constructor
 ·rintro (⟨h2,h3⟩ | rfl)
  ·exact ⟨h2.imp id (List.mem_append_left _),h3⟩
  ·exact ⟨.inr (List.mem_append_right _ (by simp)),h1,h2⟩
 ·rintro ⟨h2 | h2,h3⟩
  ·exact .inl ⟨.inl h2,h3⟩
  ·rcases List.mem_append.1 h2 with h2 | h2
   ·exact .inl ⟨.inr h2,h3⟩
   ·exact .inr (by simpa using h2)
theorem tJ (h:LmI (LkS L fs n lp i p (outs L p).length) x) (hp:lp[i]?=some p):LmI (LkS L fs n lp (i+1) 0 0) x:=h.congr fun u=>by
 unfold LkS
 rw [List.take_of_length_le (Nat.le_refl _),List.take_add_one,hp]
 constructor
 ·rintro ⟨⟨p2,h1,h2⟩ | h2,h3⟩
  ·exact ⟨.inl ⟨p2,List.mem_append_left _ h1,h2⟩,h3⟩
  ·exact ⟨.inl ⟨p,List.mem_append_right _ (by simp),h2⟩,h3⟩
 ·rintro ⟨⟨p2,h1,h2⟩ | h2,h3⟩
  ·rcases List.mem_append.1 h1 with h1 | h1
   ·exact ⟨.inl ⟨p2,h1,h2⟩,h3⟩
   ·obtain rfl:p2=p:=by simpa using h1
    exact ⟨.inr h2,h3⟩
  ·cases h2
theorem lks_end (h:LmI (LkS L fs n lp lp.length 0 0) x):LmI (fun t=>(∃ p∈lp,t∈outs L p)∧t.s ≠ -1∧fs.getD t.q.toNat 0=(n:Int)) x:=h.congr fun u=>by
 unfold LkS
 rw [List.take_of_length_le (Nat.le_refl _)]
 constructor
 ·rintro ⟨h2 | h2,h3⟩
  ·exact ⟨h2,h3⟩
  ·cases h2
 ·rintro ⟨h2,h3⟩
  exact ⟨.inl h2,h3⟩
end
theorem lS (n:Nat) (L:List ArV) (OB:Nat) (va:Nat→Option Addr) (vc:Nat→Nat) (RB SB:Nat) (r0:Int) (la:Option Addr) (ll lc:Nat) (lp:List Nat) (fa:Option Addr) (fc:Nat) (fs:List Int) (left:Nat) (Kt:List (Nat×World)) (Ot:Own) (G:aU) (K:List (Nat×World)) (w0 w:World) (hS0:St w0 ((RB,[.slice (some ⟨OB,0,none⟩) n n,.slice (some ⟨SB,0,none⟩) n n,.int .i64 r0],73)::Ot) G K w) (hKt:∀ q∈Kt,q∈K) (hOut:bV w0 Kt (fun W=>iK W OB n L va vc)) (hLs:bV w0 Kt (fun W=>Row W la (nI lp))) (hFs:bV w0 Kt (fun W=>Row W fa fs)) (hll:lp.length=ll) (hln:ll≤n) (hlt:∀ p∈lp,p < n) (hq:∀ t∈L,0≤t.q∧t.q < (n:Int)) (hLl:L.length≤65536) (hfl:fs.length=n) (hn4:n≤4096) (hl9:left≤1000000) :
  Calls prog 38 #[.pointer (some ⟨RB,0,none⟩),.slice la ll lc,.slice fa n fc,.int .i64 ((left:Int)+1)] w (fun e w'=>∃ x:Int,e = .returned (.int .i64 x)∧LmI (fun t=>(∃ p∈lp,t∈outs L p)∧t.s ≠ -1∧fs.getD t.q.toNat 0=(left:Int)) x∧St w0 ((RB,[.slice (some ⟨OB,0,none⟩) n n,.slice (some ⟨SB,0,none⟩) n n,.int .i64 r0],73)::Ot) G K w'):=by
 refine bH (args:=[.pointer (some ⟨RB,0,none⟩),.slice la ll lc,.slice fa n fc,.int .i64 ((left:Int)+1)]) func38 rfl ntmps38 rfl ?_
 have hS:=hS0
 refine aF (aH (aB rfl rfl (aG (XF.thenN (aF (aH (aB rfl rfl (aG (XF.thenN (aF (aF (aH (aA rfl rfl (bN underlying25 rfl rfl (aA rfl rfl (aG (XF.thenN (aM (cB (fun m l W=>∃ (i:Nat) (x:Int),i≤ll∧m=ll - i∧l=[(0,.pointer (some ⟨RB,0,none⟩)),(2,.slice fa n fc),(3,.int .i64 ((left:Int)+1)),(9,.int .i64 x),(15,.slice la ll lc),(16,.int .i64 (ll:Int)),(17,.int .i64 (i:Int))]∧LmI (LkS L fs left lp i 0 0) x∧St w0 ((RB,[.slice (some ⟨OB,0,none⟩) n n,.slice (some ⟨SB,0,none⟩) n n,.int .i64 r0],73)::Ot) G K W) (ll - 0) ([(0,_),(2,_),(3,_),(9,_),(15,_),(16,_),(17,_)]) ⟨rfl,rfl,rfl,rfl,rfl,rfl,rfl,trivial⟩ (⟨0,-1,Nat.zero_le _,rfl,rfl,rJ,hS.keep K (fun q hq=>by simp [hq])⟩) ?_)))))))))))))))))))
 clear hS
 rintro m l W ⟨i,x,hi,rfl,rfl,hlm,hS⟩
 refine aF (aH (bB rfl rfl rfl (aG (XF.thenN (aF (aV rfl (fun hc=>?_) (fun hc=>?_)))))))
 ·have hc18:=of_decide_eq_true hc;clear hc
  obtain ⟨p,hp⟩:∃ p,lp[i]?=some p:=⟨_,List.getElem?_eq_getElem (by omega)⟩
  have hpn:=hlt p (List.mem_of_getElem? hp)
  obtain ⟨b,off,y,hla,hy,hyc⟩:=(hLs (hS.keep K (fun q hq=>by simp [hq])) hKt).at1 (show i < (nI lp).length by rw [gD];omega)
  obtain rfl:y=(p:Int):=by unfold nI at hy;rw [List.getElem?_map,hp] at hy;exact (Option.some.inj hy).symm
  obtain ⟨hoc,_⟩:=hOut (hS.keep K (fun q hq=>by simp [hq])) hKt p hpn
  have hol9:(outs L p).length≤65536:=Nat.le_trans (List.length_filter_le _ _) hLl
  have hlm2:=lks_any (p2:=p) hlm
  refine aP (XF.thenN (aF (aM (aF (aH ?_)))))
  refine aL (j:=i) (b:=b) (o:=off) (m:=ll) (c:=lc) underlying25 sizeOf3 (by show some (Value.slice _ _ _)=_;rw [hla]) rfl rfl (by omega) rfl rfl ?_
  refine aJ isAgg3 rfl (hyc) rfl (aB rfl rfl (aG (XF.thenN (aF (aH (aA rfl rfl (bM rfl rfl (aI (o':=0) gI rfl rfl rfl (aJ isAgg71 rfl (aD (hS.at_ 0 rfl) rfl) rfl (aA rfl rfl (aL (j:=p) (b:=OB) (o:=0) (m:=n) (c:=n) underlying71 sizeOf22 rfl rfl rfl (by omega) rfl rfl (aJ isAgg22 rfl (hoc) rfl (bN underlying22 rfl rfl (aA rfl rfl (aG (XF.thenN (aM (cB (fun m l W=>∃ (z:Nat) (x:Int),z≤(outs L p).length∧m=(outs L p).length - z∧l=[(0,.pointer (some ⟨RB,0,none⟩)),(2,.slice fa n fc),(3,.int .i64 ((left:Int)+1)),(9,.int .i64 x),(15,.slice la ll lc),(16,.int .i64 (ll:Int)),(17,.int .i64 (i:Int)),(27,.slice (va p) (outs L p).length (vc p)),(28,.int .i64 ((outs L p).length:Int)),(29,.int .i64 (z:Int))]∧LmI (LkS L fs left lp i p z) x∧St w0 ((RB,[.slice (some ⟨OB,0,none⟩) n n,.slice (some ⟨SB,0,none⟩) n n,.int .i64 r0],73)::Ot) G K W) ((outs L p).length - 0) ([(0,_),(2,_),(3,_),(9,_),(15,_),(16,_),(17,_),(27,_),(28,_),(29,_)]) ⟨rfl,rfl,rfl,rfl,rfl,rfl,rfl,rfl,rfl,rfl,trivial⟩ (⟨0,x,Nat.zero_le _,rfl,rfl,hlm2,hS.keep K (fun q hq=>by simp [hq])⟩) ?_))))))))))))))))))
  clear hS
  have hil:i < ll:=by omega
  clear hlm hlm2 hi hoc hyc hy
  rintro m l W ⟨z,x,hz,rfl,rfl,hlm,hS⟩
  refine aF (aH (bB rfl rfl rfl (aG (XF.thenN (aF (aV rfl (fun hc=>?_) (fun hc=>?_)))))))
  ·have hc30:=of_decide_eq_true hc;clear hc
   obtain ⟨t,ht⟩:∃ t,(outs L p)[z]?=some t:=⟨_,List.getElem?_eq_getElem (by omega)⟩
   obtain ⟨b,off,haa,hcs⟩:=(hOut (hS.keep K (fun q hq=>by simp [hq])) hKt p hpn).2 z t ht
   have k1:=hcs
   obtain ⟨hq0,hq1⟩:=hq t (List.mem_filter.1 (List.mem_of_getElem? ht)).1
   obtain ⟨qn,hqn⟩:∃ k:Nat,t.q=(k:Int):=⟨t.q.toNat,by omega⟩
   have hqn2:t.q.toNat=qn:=by omega
   refine aP (XF.thenN (aF (aM (aF (aH ?_)))))
   refine aL (j:=z) (b:=b) (o:=off) (m:=(outs L p).length) (c:=vc p) underlying22 sizeOf57 (by show some (Value.slice _ _ _)=_;rw [haa]) rfl rfl (by omega) rfl rfl ?_
   refine aQ (vs:=[_,_,_]) isAgg57 sizeOf57 rfl k1 rfl (bP (cs:=[_,_,_]) hS zeroValue57 rfl rfl fun B1 W1 hS=>bO (i:=0) (vs:=[_,_,_]) (cs':=[_,_,_]) (O':=(_::_::Ot)) hS sizeOf57 rfl rfl rfl rfl rfl rfl rfl fun W2 hS=>aG (XF.thenN (aF (aF ?_))))
   obtain ⟨b2,off2,y2,hfa,hy2,hyc2⟩:=(hFs (hS.keep K (fun q hq=>by simp [hq])) hKt).at1 (show qn < fs.length by omega)
   have hy3:fs.getD qn 0=y2:=by rw [List.getD_eq_getElem?_getD,hy2];rfl
   refine aH (aI (o':=1) cS rfl rfl rfl (aJ isAgg3 rfl (aD (hS.at_ 0 rfl) rfl) rfl (dB rfl rfl rfl (aA rfl rfl (aZ (d:=36) rfl (fun hc=>?_) (fun hc=>?_))))))
   ·have hg36:=of_decide_eq_true hc;clear hc
    refine aE (d:=36) rfl rfl rfl rfl (aE (d:=36) rfl rfl rfl rfl (aE (d:=36) rfl rfl rfl rfl (aE (d:=36) rfl rfl rfl rfl (aE (d:=36) rfl rfl rfl rfl (aE (d:=36) rfl rfl rfl rfl (aE (d:=36) rfl rfl rfl rfl (aE (d:=36) rfl rfl rfl rfl (aN rfl rfl rfl (aG (XF.thenN (cF rfl (bS (XF.thenX (XF.blkX (XF.thenN (aH (aS rfl rfl (IntWalk.i64_in _ (by omega)) rfl (aA rfl rfl (aG ?_)))))))))))))))))))
    exact XF.round ((outs L p).length - (z+1)) [(0,_),(2,_),(3,_),(9,_),(15,_),(16,_),(17,_),(27,_),(28,_),(29,_)] (by omega) ⟨rfl,rfl,rfl,rfl,rfl,rfl,rfl,rfl,rfl,rfl,trivial⟩ ⟨z+1,x,by omega,rfl,rfl,tI hlm ht (.inl (by simpa using hg36)),hS.tail.keep K (fun q hq=>by simp [hq])⟩
   ·have hg36:=of_decide_eq_false hc;clear hc
    refine aC (d:=36) rfl rfl (aA rfl rfl (aC (d:=36) rfl rfl (aI (o':=2) cU rfl rfl rfl (aC (d:=36) rfl rfl (aJ isAgg3 rfl (aD (hS.at_ 0 rfl) rfl) rfl (aC (d:=36) rfl rfl ?_))))))
    refine aL (j:=qn) (b:=b2) (o:=off2) (m:=n) (c:=fc) underlying25 sizeOf3 (by show some (Value.slice _ _ _)=_;rw [hfa]) rfl hqn (by omega) rfl rfl ?_
    refine aC (d:=36) rfl rfl (aJ isAgg3 rfl (hyc2) rfl (aC (d:=36) rfl rfl (aA rfl rfl (aC (d:=36) rfl rfl (gU rfl rfl (IntWalk.i64_in _ (by omega)) rfl (aC (d:=36) rfl rfl (eW rfl rfl rfl (aR rfl rfl rfl (aG (XF.thenN (aV rfl (fun hc=>?_) (fun hc=>?_))))))))))))
    ·have hc45:=of_decide_eq_true hc;clear hc
     refine bS (XF.thenX (XF.blkX (XF.thenN (aH (aS rfl rfl (IntWalk.i64_in _ (by omega)) rfl (aA rfl rfl (aG ?_)))))))
     exact XF.round ((outs L p).length - (z+1)) [(0,_),(2,_),(3,_),(9,_),(15,_),(16,_),(17,_),(27,_),(28,_),(29,_)] (by omega) ⟨rfl,rfl,rfl,rfl,rfl,rfl,rfl,rfl,rfl,rfl,trivial⟩ ⟨z+1,x,by omega,rfl,rfl,tI hlm ht (.inr (by rw [hqn2,hy3];simpa using hc45)),hS.tail.keep K (fun q hq=>by simp [hq])⟩
    ·have hc45:=of_decide_eq_false hc;clear hc
     have hs1:t.s ≠ -1:=by simpa using hg36
     have hs2:fs.getD t.q.toNat 0=(left:Int):=by rw [hqn2,hy3];simpa using hc45
     refine aP (XF.thenN (aF (aH (aI (o':=1) cS rfl rfl rfl (aJ isAgg3 rfl (aD (hS.at_ 0 rfl) rfl) rfl (op_max rfl rfl rfl (aB rfl rfl (aG (XF.thenN (aF (aH (aA rfl rfl (bB rfl rfl rfl (aA rfl rfl (aZ (d:=51) rfl (fun hc=>?_) (fun hc=>?_))))))))))))))))
     ·have hg51:=of_decide_eq_true hc;clear hc
      refine aE (d:=51) rfl rfl rfl rfl (aE (d:=51) rfl rfl rfl rfl (aE (d:=51) rfl rfl rfl rfl (aN rfl rfl rfl (aG (XF.thenN (cF rfl (aH (aA rfl rfl (aB rfl rfl (aG (XF.blkN (XF.thenN (aH (aS rfl rfl (IntWalk.i64_in _ (by omega)) rfl (aA rfl rfl (aG ?_))))))))))))))))
      exact XF.round ((outs L p).length - (z+1)) [(0,_),(2,_),(3,_),(9,_),(15,_),(16,_),(17,_),(27,_),(28,_),(29,_)] (by omega) ⟨rfl,rfl,rfl,rfl,rfl,rfl,rfl,rfl,rfl,rfl,trivial⟩ ⟨z+1,max t.s 0,by omega,rfl,rfl,lR (hlm.add (.inl (by simpa using hg51))) ht hs1 hs2,hS.tail.keep K (fun q hq=>by simp [hq])⟩
     ·have hg51:=of_decide_eq_false hc;clear hc
      refine aC (d:=51) rfl rfl (aA rfl rfl (aC (d:=51) rfl rfl (aA rfl rfl (aC (d:=51) rfl rfl (bB rfl rfl rfl (aR rfl rfl rfl (aG (XF.thenN (aV rfl (fun hc=>?_) (fun hc=>?_))))))))))
      ·have hc55:=of_decide_eq_true hc;clear hc
       refine aH (aA rfl rfl (aB rfl rfl (aG (XF.blkN (XF.thenN (aH (aS rfl rfl (IntWalk.i64_in _ (by omega)) rfl (aA rfl rfl (aG ?_)))))))))
       exact XF.round ((outs L p).length - (z+1)) [(0,_),(2,_),(3,_),(9,_),(15,_),(16,_),(17,_),(27,_),(28,_),(29,_)] (by omega) ⟨rfl,rfl,rfl,rfl,rfl,rfl,rfl,rfl,rfl,rfl,trivial⟩ ⟨z+1,max t.s 0,by omega,rfl,rfl,lR (hlm.add (.inr (by simpa using hc55))) ht hs1 hs2,hS.tail.keep K (fun q hq=>by simp [hq])⟩
      ·have hc55:=of_decide_eq_false hc;clear hc
       refine aP (XF.blkN (XF.thenN (aH (aS rfl rfl (IntWalk.i64_in _ (by omega)) rfl (aA rfl rfl (aG ?_))))))
       exact XF.round ((outs L p).length - (z+1)) [(0,_),(2,_),(3,_),(9,_),(15,_),(16,_),(17,_),(27,_),(28,_),(29,_)] (by omega) ⟨rfl,rfl,rfl,rfl,rfl,rfl,rfl,rfl,rfl,rfl,trivial⟩ ⟨z+1,x,by omega,rfl,rfl,lR (hlm.stay (by simpa using hg51) (by simpa using hc55)) ht hs1 hs2,hS.tail.keep K (fun q hq=>by simp [hq])⟩
  ·have hc30:=of_decide_eq_false hc;clear hc
   obtain rfl:z=(outs L p).length:=by omega
   refine bS (XF.thenX (XF.thenX (XF.blkX (XF.blkN (XF.thenN (aH (aS rfl rfl (IntWalk.i64_in _ (by omega)) rfl (aA rfl rfl (aG ?_)))))))))
   exact XF.round (ll - (i+1)) [(0,_),(2,_),(3,_),(9,_),(15,_),(16,_),(17,_)] (by omega) ⟨rfl,rfl,rfl,rfl,rfl,rfl,rfl,trivial⟩ ⟨i+1,x,by omega,rfl,rfl,tJ hlm hp,hS.keep K (fun q hq=>by simp [hq])⟩
 ·have hc18:=of_decide_eq_false hc;clear hc
  obtain rfl:i=ll:=by omega
  have hlm9:LmI (LkS L fs left lp lp.length 0 0) x:=by rw [hll];exact hlm
  refine bS (XF.thenX (XF.thenX (XF.blkX (XF.thenN (aF (aH (aA rfl rfl (aB rfl rfl (aG (XF.thenN (bK (XF.res (bT results38 rfl) ?_))))))))))))
  exact ⟨x,rfl,lks_end hlm9,hS.keep K (fun q hq=>by simp [hq])⟩
theorem goes_36:bA prog 36=true:=by kernel_rfl
theorem nB {n:Nat} {k:Int} {L:List ArV} (ho:dX n k L):∀ (w:List Int) {P:Nat→Prop},(∀ q,P q→q < n)→∀ q,dH L P w q→q < n
 | [],_,h,q,hq=>h q hq
 | x::w,P,h,q,hq=>nB ho w (fun q h1=>mF ho (fun q h2=>rZ ho h2) h1) q hq
theorem kD (a:NfV) (wa:Option Addr) (wl wc:Nat) (ws:List Int) (w:World) (hA0:NIn w a) (hW:Row w wa ws) (hwl:ws.length=wl) (hwm:wl≤9223372036854775807) :
  Calls prog 16 #[a.val,.slice wa wl wc] w (fun e w'=>∃ b:Bool,e = .returned (.tuple #[.bool b,.int .i64 (dS a ws)])∧(dS a ws=0→(b=true↔rH a ws))∧(dS a ws≠0→b=false)∧Below w.heap.size w w'):=by
 refine bH (args:=[a.val,.slice wa wl wc]) func16 rfl ntmps16 rfl ?_
 have hS:=St.start w
 have hA:bV w [] (fun W=>NIn W a):=iN hA0
 refine aF (aH (bZ (cs:=[_,_,_,_,_]) hS rfl rfl rfl fun B1 W1 hS=>aB rfl rfl (aB rfl rfl (aG (XF.thenN (aF (aF (aH (aQ (vs:=[_,_,_,_,_]) isAgg24 sizeOf24 rfl (aK.own (j:=0) (m:=5) (hS.at_ 0 rfl) rfl) rfl (bW (vs:=[_]) hS pK rfl (pL a _ (hA0.below hS.below)) rfl fun W2 hS=>aB rfl rfl (aG (XF.thenN (aF (aH (aA rfl rfl (eW rfl rfl rfl (aG (XF.thenN (aV rfl (fun hc=>?_) (fun hc=>?_))))))))))))))))))))
 ·have hc16:=of_decide_eq_true hc;clear hc
  refine aF (aH (aA rfl rfl (aB rfl rfl (aB rfl rfl (aG (XF.thenN (bK (XF.thenR (XF.res (nK results16 rfl rfl) ?_)))))))))
  have h9:dS a ws=cO a:=by unfold dS;rw [if_pos hc16]
  exact ⟨false,by rw [h9],fun h=>absurd (h9▸h) hc16,fun _=>rfl,hS.below⟩
 ·have hc16:=of_decide_eq_false hc;clear hc
  refine aP (XF.thenN (aF (aF (aH (aA rfl rfl (bN underlying25 rfl rfl (aA rfl rfl (aG (XF.thenN (aM (cB (fun m l W=>∃ i:Nat,i≤wl∧m=wl - i∧l=[(1,.slice wa wl wc),(2,.pointer (some ⟨B1,0,none⟩)),(18,.slice wa wl wc),(19,.int .i64 (wl:Int)),(20,.int .i64 (i:Int))]∧(ws.take i).all (fun s=>inQ s a.sy)=true∧St w [(B1,a.cells,24)] [] [] W) (wl - 0) ([(1,_),(2,_),(18,_),(19,_),(20,_)]) ⟨rfl,rfl,rfl,rfl,rfl,trivial⟩ (⟨0,Nat.zero_le _,rfl,rfl,rfl,hS.clear⟩) ?_)))))))))))
  clear hS
  rintro m l W ⟨i,hi,rfl,rfl,hall,hS⟩
  refine aF (aH (bB rfl rfl rfl (aG (XF.thenN (aF (aV rfl (fun hc=>?_) (fun hc=>?_)))))))
  ·have hc21:=of_decide_eq_true hc;clear hc
   obtain ⟨b,off,y,hwa,hy,hyc⟩:=hW.at1 (show i < ws.length by omega)
   have k2:=hS.old hyc
   refine aP (XF.thenN (aF (aM (aF (aH ?_)))))
   refine aL (j:=i) (b:=b) (o:=off) (m:=wl) (c:=wc) underlying25 sizeOf3 (by show some (Value.slice _ _ _)=_;rw [hwa]) rfl rfl (by omega) rfl rfl ?_
   refine aJ isAgg3 rfl (k2) rfl (aB rfl rfl (aG (XF.thenN (aF (aH (aQ (vs:=[_,_,_,_,_]) isAgg24 sizeOf24 rfl (aK.own (j:=0) (m:=5) (hS.at_ 0 rfl) rfl) rfl (aA rfl rfl (bW (vs:=[_,_]) hS goes_29 rfl (qV a y _) rfl fun W3 hS=>cW rfl rfl (aG (XF.thenN (aV rfl (fun hc=>?_) (fun hc=>?_))))))))))))
   ·have hc27:=hc;clear hc
    refine aF (aH (aB rfl rfl (aB rfl rfl (aG (XF.thenN (bK (XF.blkR (XF.thenR (XF.thenR (XF.blkR (XF.thenR (XF.res (nK results16 rfl rfl) ?_))))))))))))
    have h9:dS a ws=102:=by unfold dS;rw [if_neg hc16,if_neg (by rw [cC hy (by simpa using hc27)];decide)]
    exact ⟨false,by rw [h9],fun h=>absurd (h9▸h) (by decide),fun _=>rfl,hS.below⟩
   ·have hc27:=hc;clear hc
    refine aP (XF.blkN (XF.thenN (aH (aS rfl rfl (IntWalk.i64_in _ (by omega)) rfl (aA rfl rfl (aG ?_))))))
    exact XF.round (wl - (i+1)) [(1,_),(2,_),(18,_),(19,_),(20,_)] (by omega) ⟨rfl,rfl,rfl,rfl,rfl,trivial⟩ ⟨i+1,by omega,rfl,rfl,eH hy hall (by simpa using hc27),hS.clear⟩
  ·have hc21:=of_decide_eq_false hc;clear hc
   rw [List.take_of_length_le (by omega)] at hall
   have h0:cO a=0:=Decidable.of_not_not hc16
   have hE:dS a ws=0:=by unfold dS;rw [if_neg hc16,if_pos hall]
   obtain ⟨n,k,s,e9,hn,hk,hs0,he0,hn1,hn4,hk4,hsn,hen,hal,hO⟩:=jG h0
   have hlen:=hA0.alen
   have hw1:IntKind.i64.wrap (0+1)=1:=by decide
   have hKt:∀ q∈([]:List (Nat×World)),q∈([]:List (Nat×World)):=fun q hq=>hq
   refine bS (XF.thenX (XF.thenX (XF.blkX (XF.thenN (aF (aH (aQ (vs:=[_,_,_,_,_]) isAgg24 sizeOf24 rfl (aK.own (j:=0) (m:=5) (hS.at_ 0 rfl) rfl) rfl (aX (vs:=[_]) lO rfl (lN a n (k:Int) [] _ [] [] w _ (hS.keep [] (fun q hq=>by cases hq)) hKt hA hn hn1 hn4 hal hO) rfl ?_))))))))
   rintro e W9 ⟨RB,SB,OB,va,vc,K1,rfl,hk1,hOut,hS9⟩
   refine ⟨_,rfl,?_⟩
   clear hS;have hS:=hS9;clear hS9
   refine aB rfl rfl (aG (XF.thenN (aF (aH (aA rfl rfl (aI (o':=2) dG rfl rfl rfl (aJ isAgg3 rfl (aD (hS.at_ 2 rfl) rfl) rfl (bL (us:=[(0,.int .i64 _)]) hS underlying25 sizeOf3 zeroValue3 rfl rfl rfl (dP _) rfl fun B4 W4 hS=>?_))))))))
   obtain ⟨K2,k2,g2,hS2⟩:=(hS.keep K1 (fun q hq=>by simp [hq])).ownKeepN
   clear hS;have hS:=hS2;clear hS2
   refine aX (vs:=[_,_]) iL rfl (gK n a.ar OB va vc RB SB 0 1 (List.replicate n 0) (some ⟨B4,0,none⟩) 1 1 [a.s0] K2 _ [] K2 w _ hS (fun q hq=>hq) (hOut.moreN k2) (fun h9 hk9=>.inr ⟨_,0,rfl,fun i hi=>by obtain rfl:i=0:=(by simpa using hi);exact aD (g2 h9 hk9) rfl⟩) rfl (by decide) (fun y hy=>(by obtain rfl:y=a.s0:=(by simpa using hy);omega)) (oD hO) (by omega) (by simp) hw1 (oC (by decide)) hn4) rfl ?_
   rintro e W9 ⟨l1,wa1,wc1,ss1,K3,hH1,rfl,hle1,hsl1,hsf1,hk3,hR1,hS9⟩
   refine ⟨_,rfl,?_⟩
   clear hS;have hS:=hS9;clear hS9
   refine aB rfl rfl (aG (XF.thenN (aF (aF (aH (aA rfl rfl (bN underlying25 rfl rfl (aA rfl rfl (aG (XF.thenN (aM ?_)))))))))))
   refine cB (fun m l W=>∃ (i:Nat) (l9:List Nat) (la:Option Addr) (lc:Nat) (r0:Int) (ss:List Int) (Kk:List (Nat×World)),i≤wl∧m=wl - i∧l=[(2,.pointer (some ⟨B1,0,none⟩)),(9,.pointer (some ⟨RB,0,none⟩)),(10,.slice la l9.length lc),(36,.slice wa wl wc),(37,.int .i64 (wl:Int)),(38,.int .i64 (i:Int))]∧(∀ q:Nat,q∈l9↔dH a.ar (Hd a.ar (fun q:Nat=>(q:Int)=a.s0)) (ws.take i) q)∧l9.length≤n∧ss.length=n∧(i < wl→r0=(i:Int)+1∧∀ y∈ss,0≤y∧y≤(i:Int)+1)∧(∀ q∈K1,q∈Kk)∧bV w Kk (fun W=>Row W la (nI l9))∧St w ((RB,[.slice (some ⟨OB,0,none⟩) n n,.slice (some ⟨SB,0,none⟩) n n,.int .i64 r0],73)::(SB,zI ss,3)::(B1,a.cells,24)::[]) [] Kk W) (wl - 0) ([(2,_),(9,_),(10,_),(36,_),(37,_),(38,_)]) ⟨rfl,rfl,rfl,rfl,rfl,rfl,trivial⟩ (⟨0,l1,wa1,wc1,1,ss1,K3,Nat.zero_le _,rfl,rfl,fun q=>(by rw [hH1.at_];exact fE (fun q=>by simp) q),hle1,hsl1,fun _=>⟨rfl,fun y hy=>(hsf1 y hy).elim (fun h=>by rw [List.eq_of_mem_replicate h];decide) (fun h=>by rw [h];decide)⟩,fun q hq=>hk3 q (k2 q hq),hR1,hS.keep K3 (fun q hq=>by simp [hq])⟩) ?_
   clear hS
   rintro m l W ⟨i,l9,la,lc,r0,ss,Kk,hi,rfl,rfl,hmem,hl9,hsl,hrr,hkk,hRl,hS⟩
   refine aF (aH (bB rfl rfl rfl (aG (XF.thenN (aF (aV rfl (fun hc=>?_) (fun hc=>?_)))))))
   ·have hc39:=of_decide_eq_true hc;clear hc
    have hrn:∀ q,dH a.ar (Hd a.ar (fun q:Nat=>(q:Int)=a.s0)) (ws.take i) q→q < n:=nB hO _ (fun q h=>mF hO (fun q h2=>by omega) h)
    obtain ⟨b,off,y,hwa,hy,hyc⟩:=hW.at1 (show i < ws.length by omega)
    have k9:=hS.old hyc
    obtain ⟨hr0,hss⟩:=hrr (by omega)
    have hwn:=tH (k:=(i:Int)+2) (by omega) (by omega)
    obtain ⟨r,hr⟩:∃ r,IntKind.i64.wrap (r0+1)=r:=⟨_,rfl⟩
    have hr2:IntKind.i64.wrap ((i:Int)+2)=r:=by rw [← hr,hr0];congr 1
    rw [hr2] at hwn
    refine aP (XF.thenN (aF (aM (aF (aH ?_)))))
    refine aL (j:=i) (b:=b) (o:=off) (m:=wl) (c:=wc) underlying25 sizeOf3 (by show some (Value.slice _ _ _)=_;rw [hwa]) rfl rfl (by omega) rfl rfl ?_
    refine aJ isAgg3 rfl (k9) rfl (aB rfl rfl (aG (XF.thenN (aH (aA rfl rfl (aA rfl rfl (aA rfl rfl ?_)))))))
    refine aX (vs:=[_,_,_]) pS rfl (tC n a.ar OB va vc RB SB r0 r ss la l9.length lc l9 y Kk _ [] Kk w _ (hS.keep Kk (fun q hq=>by simp [hq])) (fun q hq=>hq) (hOut.moreN hkk) hRl rfl hl9 (fun p hp=>(by
     have h7:=(hmem p).1 hp
     exact hrn p h7)) (oD hO) (by omega) hsl hr (fun z hz=>(by have:=hss z hz;omega)) hn4) rfl ?_
    rintro e W9 ⟨l2,wa2,wc2,ss2,K4,hH2,rfl,hle2,hsl2,hsf2,hk4,hR2,hS9⟩
    refine ⟨_,rfl,?_⟩
    clear hS;have hS:=hS9;clear hS9
    refine aB rfl rfl (aG (XF.blkN (XF.thenN (aH (aS rfl rfl (IntWalk.i64_in _ (by omega)) rfl (aA rfl rfl (aG ?_)))))))
    exact XF.round (wl - (i+1)) [(2,_),(9,_),(10,_),(36,_),(37,_),(38,_)] (by omega) ⟨rfl,rfl,rfl,rfl,rfl,rfl,trivial⟩ ⟨i+1,l2,wa2,wc2,r,ss2,K4,by omega,rfl,rfl,fun q=>(by
     rw [hH2.at_,List.take_add_one,hy]
     show _↔dH a.ar _ (ws.take i++[y]) q
     rw [runNP_snoc]
     exact fE (tD hmem) q),hle2,hsl2,fun h9=>⟨by have:=hwn;have h7:=IntWalk.i64_in ((i:Int)+2) (by omega);rw [hr2] at h7;omega,fun z hz=>(by
     have h7:=IntWalk.i64_in ((i:Int)+2) (by omega)
     rw [hr2] at h7
     rcases hsf2 z hz with h8 | h8
     ·have:=hss z h8;omega
     ·omega)⟩,fun z hz=>hk4 z (hkk z hz),hR2,hS.keep K4 (fun q hq=>by simp [hq])⟩
   ·have hc39:=of_decide_eq_false hc;clear hc
    rw [List.take_of_length_le (by omega)] at hmem
    refine bS (XF.thenX (XF.thenX (XF.blkX (XF.thenN (aF (aH (aA rfl rfl (aI (o':=3) eA rfl rfl rfl (aJ isAgg3 rfl (aD (hS.at_ 2 rfl) rfl) rfl (bW (vs:=[_,_]) hS goes_36 rfl (lP la l9.length lc (nI l9) a.e0 _ (hRl (hS.keep Kk (fun q hq=>by simp [hq])) (fun q hq=>hq)) gD (by omega)) rfl fun W5 hS=>aB rfl rfl (aB rfl rfl (aG (XF.thenN (bK (XF.res (nK results16 rfl rfl) ?_)))))))))))))))
    exact ⟨_,by rw [hE],fun _=>(by
     rw [decide_eq_true_eq]
     unfold rH
     rw [← hmem]
     unfold nI
     rw [List.mem_map]
     constructor
     ·rintro ⟨q,hq,e⟩
      rw [show a.e0.toNat=q by omega];exact hq
     ·intro h
      exact ⟨_,h,by omega⟩),fun h=>absurd hE h,hS.below⟩
theorem goes_37:bA prog 37=true:=by kernel_rfl
theorem goes_38:bA prog 38=true:=by kernel_rfl
theorem goes_39:bA prog 39=true:=by kernel_rfl
theorem kE {L:List ArV} {p:Nat} {t:ArV}:t∈outs L p↔t∈L∧t.f=(p:Int):=by unfold outs;rw [List.mem_filter];simp
theorem lm_next {L:List ArV} {K:Int} {E N n:Nat} {P:Nat→Prop} {fs:List Int} {lp:List Nat} {x:Int} (hF:FarOk L K E N fs) (hO:dX N K L) (hI:LsI L K E P (n+1)) (hA:Nrs L K E P (fun q=>q∈lp) (n+1))
  (h:LmI (fun t=>(∃ p∈lp,t∈outs L p)∧t.s ≠ -1∧fs.getD t.q.toNat 0=(n:Int)) x):0 < K∧(0≤x∧x < K)∧Nx L K E P x n∧∀ y,0≤y→Nx L K E P y n→x≤y:=by
 obtain ⟨p,r,hp,hK,⟨t,ht,e1,e2,e3⟩,hd⟩:=hI.any hA
 have hfs:∀ {t:ArV} {r:Nat},t∈L→t.q=(r:Int)→(fs.getD t.q.toNat 0=(n:Int)↔Ds L K E r n):=fun {t r} ht e=>by
  have hr:=(hO t ht).2.1.2
  rw [show t.q.toNat=r by omega]
  exact hF.ds (by omega)
 rcases h with ⟨_,h⟩ | ⟨h0,⟨t2,⟨⟨p2,hp2,ho2⟩,hs2,hf2⟩,hx⟩,hmin⟩
 ·exact absurd ⟨⟨p,hp,kE.2 ⟨ht,e1⟩⟩,e2,(hfs ht e3).2 hd⟩ (h t)
 ·obtain ⟨ht2,e4⟩:=kE.1 ho2
  have hb:=hO t2 ht2
  have hq2:t2.q=((t2.q.toNat:Nat):Int):=by omega
  refine ⟨hK,⟨h0,by omega⟩,nx_of hA.1 ⟨ht2,⟨p2,hp2,e4⟩,hs2,t2.q.toNat,hq2,(hfs ht2 hq2).1 hf2⟩ (by omega),fun y hy hn=>?_⟩
  obtain ⟨t3,⟨ht3,⟨p3,hp3,e5⟩,hs3,r3,e6,hd3⟩,hy3⟩:=hI.arc hA hK hy hn
  have:=hmin t3 ⟨⟨p3,hp3,kE.2 ⟨ht3,e5⟩⟩,hs3,(hfs ht3 e6).2 hd3⟩
  omega
def rK (a:NfV) (ok:Bool) (l:List Int):Prop:=(cO a≠0→ok=false∧l=[])∧(cO a=0→(ok=false∧l=[]∧∀ m,¬ Rz a.ar a.sy a.e0.toNat m a.s0.toNat)∨(ok=true∧∃ m,Ds a.ar a.sy a.e0.toNat a.s0.toNat m∧LsW a.ar a.sy a.e0.toNat m (Hd a.ar (fun q=>q=a.s0.toNat)) l))
theorem rK.one {a:NfV} {b c:Bool} {l m:List Int} (h:rK a b l) (g:rK a c m):b=c∧l=m:=by
 by_cases h0:cO a=0
 ·rcases h.2 h0 with ⟨rfl,rfl,h1⟩ | ⟨rfl,k,h1,h2⟩
  ·rcases g.2 h0 with ⟨rfl,rfl,_⟩ | ⟨rfl,k,h3,h4⟩
   ·exact ⟨rfl,rfl⟩
   ·exact absurd h3.1 (h1 k)
  ·rcases g.2 h0 with ⟨rfl,rfl,h3⟩ | ⟨rfl,k2,h3,h4⟩
   ·exact absurd h1.1 (h3 k)
   ·obtain rfl:=h1.one h3
    exact ⟨rfl,h2.one h4⟩
 ·obtain ⟨rfl,rfl⟩:=h.1 h0
  obtain ⟨rfl,rfl⟩:=g.1 h0
  exact ⟨rfl,rfl⟩
theorem tK {α:Type} {a b c d:α} {l:List α}:(a::b::c::d::l).Perm (c::d::a::b::l):=(List.perm_middle (l₁:=[a,b]) (a:=c) (l₂:=d::l)).trans ((List.perm_middle (l₁:=[a,b]) (a:=d) (l₂:=l)).cons c)
theorem perm15 {α:Type} {a b c d e:α} {l:List α}:(a::b::c::d::e::l).Perm (e::b::c::d::a::l):=(List.perm_middle (l₁:=[a,b,c,d]) (a:=e) (l₂:=l)).trans ((List.perm_middle (l₁:=[b,c,d]) (a:=a) (l₂:=l)).symm.cons e)
theorem perm31 {α:Type} {a b c d:α} {l:List α}:(a::b::c::d::l).Perm (b::c::d::a::l):=(List.perm_middle (l₁:=[b,c,d]) (a:=a) (l₂:=l)).symm
theorem lT (a:NfV) (n k s e9:Nat) (hst:a.st=(n:Int)) (hsy:a.sy=(k:Int)) (hs0:a.s0=(s:Int)) (he0:a.e0=(e9:Int)) (Kt:List (Nat×World)) (Ot:Own) (G:aU) (K:List (Nat×World)) (w0 w:World) (hS0:St w0 Ot G K w) (hKt:∀ q∈Kt,q∈K) (hA:bV w0 Kt (fun W=>NIn W a)) (hal:a.al≤65536) (hl:a.ar.length=a.al) (hn1:1≤n) (hn4:n≤4096) (hs:s < n) (he:e9 < n) (hO:dX n (k:Int) a.ar) :
  Calls prog 37 #[a.val] w (fun e w'=>∃ (FB:Nat) (fs:List Int) (Kn:List (Nat×World)),e = .returned (.slice (some ⟨FB,0,none⟩) n n)∧FarOk a.ar (k:Int) e9 n fs∧(∀ p,p < n→fs.getD p 0≤8193)∧(∀ q∈K,q∈Kn)∧St w0 ((FB,zI fs,3)::Ot) G Kn w'):=by
 obtain ⟨st,sy,s0,e0,aa,al,ac,ar⟩:=a
 dsimp only at hst hsy hs0 he0 hal hl hO
 subst hst hsy hs0 he0
 exact nA n s e9 (k:Int) aa al ac ar Kt Ot G K w0 w hS0 hKt (fun h9 hk9=>(hA h9 hk9).arow) hl hal hn1 hn4 hs he hO
theorem kF (a:NfV) (w:World) (hA0:NIn w a) :
  Calls prog 18 #[a.val] w (fun e w'=>∃ (ok:Bool) (l:List Int) (wa:Option Addr) (wc:Nat),e = .returned (.tuple #[.slice wa l.length wc,.bool ok,.int .i64 (cO a)])∧rK a ok l∧l.length≤8193∧Row w' wa l∧Below w.heap.size w w'):=by
 refine bH (args:=[a.val]) func18 rfl ntmps18 rfl ?_
 have hS:=St.start w
 have hA:bV w [] (fun W=>NIn W a):=iN hA0
 have hlen:=hA0.alen
 refine aF (aH (bZ (cs:=[_,_,_,_,_]) hS rfl rfl rfl fun B1 W1 hS=>aB rfl rfl (aB rfl rfl (aB rfl rfl (aG (XF.thenN (aF (aF (aH (aQ (vs:=[_,_,_,_,_]) isAgg24 sizeOf24 rfl (aK.own (j:=0) (m:=5) (hS.at_ 0 rfl) rfl) rfl (bW (vs:=[_]) hS pK rfl (pL a _ (hA0.below hS.below)) rfl fun W2 hS=>aB rfl rfl (aG (XF.thenN (aF (aH (aA rfl rfl (eW rfl rfl rfl (aG (XF.thenN (aV rfl (fun hc=>?_) (fun hc=>?_)))))))))))))))))))))
 ·have hc15:=of_decide_eq_true hc;clear hc
  refine aF (aH (aA rfl rfl (aB rfl rfl (aB rfl rfl (aB rfl rfl (aG (XF.thenN (bK (XF.thenR (XF.res (qS results18 rfl rfl rfl) ?_))))))))))
  exact ⟨false,[],none,0,rfl,⟨fun _=>⟨rfl,rfl⟩,fun h=>absurd h hc15⟩,Nat.zero_le _,.inl rfl,hS.below⟩
 ·have hc15:=of_decide_eq_false hc;clear hc
  have h0:cO a=0:=Decidable.of_not_not hc15
  obtain ⟨n,k,s,e9,hn,hk,hs0,he0,hn1,hn4,hk4,hsn,hen,hal,hO⟩:=jG h0
  have hw1:IntKind.i64.wrap (0+1)=1:=by decide
  have hKt:∀ q∈([]:List (Nat×World)),q∈([]:List (Nat×World)):=fun q hq=>hq
  have hs9:a.s0.toNat=s:=by omega
  have he9:a.e0.toNat=e9:=by omega
  refine aP (XF.thenN (aF (aH (aQ (vs:=[_,_,_,_,_]) isAgg24 sizeOf24 rfl (aK.own (j:=0) (m:=5) (hS.at_ 0 rfl) rfl) rfl (aX (vs:=[_]) goes_37 rfl (lT a n k s e9 hn hk hs0 he0 [] _ [] [] w _ (hS.keep [] (fun q hq=>by cases hq)) hKt hA hal hlen hn1 hn4 hsn hen hO) rfl ?_)))))
  rintro e W9 ⟨FB,fs,K1,rfl,hF,hFb,hk1,hS9⟩
  refine ⟨_,rfl,?_⟩
  obtain ⟨K2,k2,gF,hS2⟩:=hS9.ownKeepN
  clear hS hS9;have hS:=hS2;clear hS2
  have hfl:=hF.len
  refine bP (cs:=[_]) hS zeroValue25 rfl rfl fun B3 W3 hS=>bD (i:=0) (cs':=[_]) (O':=[_,_]) hS sizeOf25 rfl rfl rfl rfl rfl rfl rfl fun W4 hS=>aG (XF.thenN (aF (aF ?_)))
  have hcF:=aD (gF (hS.keep K2 (fun q hq=>by simp [hq])) (fun q hq=>hq)) (dN (l:=fs) (i:=s) (by omega))
  refine aH (aJ isAgg25 rfl (aD (hS.at_ 0 rfl) rfl) rfl (aI (o':=2) dG rfl rfl rfl (aJ isAgg3 rfl (aD (hS.at_ 1 rfl) rfl) rfl (aL (j:=s) (b:=FB) (o:=0) (m:=n) (c:=n) underlying25 sizeOf3 rfl rfl (by exact hs0) (by omega) rfl rfl (aJ isAgg3 rfl (hcF) rfl (bB rfl rfl rfl (aG (XF.thenN (aV rfl (fun hc=>?_) (fun hc=>?_))))))))))
  ·have hc24:=of_decide_eq_true hc;clear hc
   have hneg:fs.getD s 0 < 0:=by simpa using hc24
   refine aF (aH (aB rfl rfl (aB rfl rfl (aB rfl rfl (aG (XF.thenN (bK (XF.thenR (XF.res (qS results18 rfl rfl rfl) ?_)))))))))
   exact ⟨false,[],none,0,by rw [h0];rfl,⟨fun h=>absurd h0 h,fun _=>.inl ⟨rfl,rfl,by rw [hs9,he9,hk];exact (hF.neg hsn).1 hneg⟩⟩,Nat.zero_le _,.inl rfl,hS.below⟩
  ·have hc24:=of_decide_eq_false hc;clear hc
   have hpos:0≤fs.getD s 0:=Int.not_lt.1 (by simpa using hc24)
   obtain ⟨m0,hm0⟩:∃ m0:Nat,fs.getD s 0=(m0:Int):=⟨(fs.getD s 0).toNat,by omega⟩
   have hmb:=hFb s hsn
   have hstart:=hF.start hsn hm0
   refine aP (XF.thenN (aF (aH (aQ (vs:=[_,_,_,_,_]) isAgg24 sizeOf24 rfl (aK.own (j:=0) (m:=5) (hS.at_ 1 rfl) rfl) rfl (aX (vs:=[_]) lO rfl (lN a n (k:Int) [] _ [] K2 w _ (hS.keep K2 (fun q hq=>by simp [hq])) (fun q hq=>by cases hq) hA hn hn1 hn4 hal hO) rfl ?_)))))
   rintro e W9 ⟨RB,SB,OB,va,vc,K3,rfl,hk3,hOut,hS9⟩
   refine ⟨_,rfl,?_⟩
   clear hS;have hS:=hS9;clear hS9
   refine aB rfl rfl (aG (XF.thenN (aF (aH (aA rfl rfl (aI (o':=2) dG rfl rfl rfl (aJ isAgg3 rfl (aD (hS.at_ 3 rfl) rfl) rfl (bL (us:=[(0,.int .i64 _)]) hS underlying25 sizeOf3 zeroValue3 rfl rfl rfl (dP _) rfl fun B5 W5 hS=>?_))))))))
   have hcF2:=aD (gF (hS.keep K3 (fun q hq=>by simp [hq])) (fun q hq=>hk3 q hq)) (dN (l:=fs) (i:=s) (by omega))
   obtain ⟨K4,k4,g4,hS2⟩:=(hS.keep K3 (fun q hq=>by simp [hq])).ownKeepN
   clear hS;have hS:=hS2;clear hS2
   refine aX (vs:=[_,_]) iL rfl (gK n a.ar OB va vc RB SB 0 1 (List.replicate n 0) (some ⟨B5,0,none⟩) 1 1 [a.s0] K4 _ [] K4 w _ hS (fun q hq=>hq) (hOut.moreN k4) (fun h9 hk9=>.inr ⟨_,0,rfl,fun j hj=>by obtain rfl:j=0:=(by simpa using hj);exact aD (g4 h9 hk9) rfl⟩) rfl (by decide) (fun y hy=>(by obtain rfl:y=a.s0:=(by simpa using hy);omega)) (oD hO) (by omega) (by simp) hw1 (oC (by decide)) hn4) rfl ?_
   rintro e W9 ⟨l1,wa1,wc1,ss1,K5,hH1,rfl,hle1,hsl1,hsf1,hk5,hR1,hS9⟩
   refine ⟨_,rfl,?_⟩
   clear hS;have hS:=hS9;clear hS9
   have hmem1:∀ q,q∈l1↔Hd a.ar (fun q=>q=a.s0.toNat) q:=fun q=>(by rw [hH1.at_];exact fE (fun q=>by simp;omega) q)
   refine aB rfl rfl (aG (XF.thenN (aF (aH (aB rfl rfl (aG (XF.thenN (aF (aF ?_)))))))))
   have hS':=hS.newG 3 1;clear hS;have hS:=hS';clear hS'
   have hcF3:=aD (gF (hS.keep K5 (fun q hq=>by simp [hq])) (fun q hq=>hk5 q (k4 q (hk3 q hq)))) (dN (l:=fs) (i:=s) (by omega))
   rw [hm0] at hcF3
   refine aH (aJ isAgg25 rfl (aD (hS.at_ 2 rfl) rfl) rfl (aI (o':=2) dG rfl rfl rfl (aJ isAgg3 rfl (aD (hS.at_ 3 rfl) rfl) rfl (aL (j:=s) (b:=FB) (o:=0) (m:=n) (c:=n) underlying25 sizeOf3 rfl rfl (by exact hs0) (by omega) rfl rfl (aJ isAgg3 rfl (hcF3) rfl (bP (cs:=[_]) hS zeroValue3 rfl rfl fun B6 W6 hS=>bD (i:=0) (cs':=[_]) (O':=[_,_,_,_,_]) hS sizeOf3 rfl rfl rfl rfl rfl rfl rfl fun W7 hS=>aG (XF.thenN (aM ?_))))))))
   refine cB (fun m l W=>∃ (left:Nat) (u:List Int) (lp:List Nat) (la:Option Addr) (lc:Nat) (wa:Option Addr) (wc LB:Nat) (ss:List Int) (Kk:List (Nat×World)),m=left+1∧l=[(1,.pointer (some ⟨B1,0,none⟩)),(6,.pointer (some ⟨B3,0,none⟩)),(7,.pointer (some ⟨RB,0,none⟩)),(8,.slice la lp.length lc),(9,.slice wa u.length wc),(10,.pointer (some ⟨LB,0,none⟩))]∧LsI a.ar (k:Int) e9 (dH a.ar (Hd a.ar (fun q=>q=a.s0.toNat)) u) left∧Nrs a.ar (k:Int) e9 (dH a.ar (Hd a.ar (fun q=>q=a.s0.toNat)) u) (fun q=>q∈lp) left∧(∀ w9,LsW a.ar (k:Int) e9 left (dH a.ar (Hd a.ar (fun q=>q=a.s0.toNat)) u) w9→LsW a.ar (k:Int) e9 m0 (Hd a.ar (fun q=>q=a.s0.toNat)) (u++w9))∧u.length+left=m0∧lp.length≤n∧(∀ p∈lp,p < n)∧ss.length=n∧(∀ y∈ss,0≤y∧y≤(u.length:Int)+1)∧(∀ q∈K3,q∈Kk)∧bV w Kk (fun W=>Row W la (nI lp))∧St w ((RB,[.slice (some ⟨OB,0,none⟩) n n,.slice (some ⟨SB,0,none⟩) n n,.int .i64 ((u.length:Int)+1)],73)::(SB,zI ss,3)::(B3,[.slice (some ⟨FB,0,none⟩) n n],25)::(LB,[.int .i64 (left:Int)],3)::(B1,a.cells,24)::[]) [⟨.slice wa u.length wc,u.length,zI u,3,1⟩] Kk W) (m0+1) ([(1,_),(6,_),(7,_),(8,_),(9,_),(10,_)]) ⟨rfl,rfl,rfl,rfl,rfl,rfl,trivial⟩ (⟨m0,[],l1,wa1,wc1,none,0,_,ss1,K5,rfl,rfl,by rw [hs9];exact hstart,⟨fun q hq=>(hmem1 q).1 hq,fun q hq _=>(hmem1 q).2 hq⟩,fun w9 h=>h,by simp,hle1,fun p hp=>(mF hO (fun q hq=>by omega) ((hmem1 p).1 hp)),hsl1,fun y hy=>(hsf1 y hy).elim (fun h=>by rw [List.eq_of_mem_replicate h];decide) (fun h=>by rw [h];decide),fun q hq=>hk5 q (k4 q hq),hR1,(hS.keep K5 (fun q hq=>by simp [hq])).perm perm31⟩) ?_
   clear hS
   rintro m l W ⟨left,u,lp,la,lc,wa,wc,LB,ss,Kk,rfl,rfl,hI,hN,hcont,hlen9,hlpl,hlt,hsl,hss,hkk,hRl,hS⟩
   refine aF (aF (aH (aJ isAgg3 rfl (aD (hS.at_ 3 rfl) rfl) rfl (dA rfl rfl rfl (aG (XF.thenN (aV rfl (fun hc=>?_) (fun hc=>?_))))))))
   ·have hc38:=of_decide_eq_true hc;clear hc
    obtain ⟨lf,rfl⟩:∃ lf,left=lf+1:=⟨left - 1,by omega⟩
    refine aP (XF.thenN (aF (aM (aF (aH (aA rfl rfl (aA rfl rfl (aJ isAgg25 rfl (aD (hS.at_ 2 rfl) rfl) rfl (aJ isAgg3 rfl (aD (hS.at_ 3 rfl) rfl) rfl ?_)))))))))
    refine aX (vs:=[_,_,_,_]) goes_38 rfl (lS n a.ar OB va vc RB SB ((u.length:Int)+1) la lp.length lc lp (some ⟨FB,0,none⟩) n fs lf Kk _ _ Kk w _ (hS.keep Kk (fun q hq=>by simp [hq])) (fun q hq=>hq) (hOut.moreN hkk) hRl (fun h9 hk9=>.inr ⟨_,0,rfl,fun j hj=>aD (gF h9 (fun q hq=>hk9 q (hkk q (hk3 q hq)))) (by have h7:=dN (l:=fs) hj;rw [Nat.mul_one] at h7;exact h7)⟩) rfl hlpl hlt (oD hO) (by omega) hfl hn4 (by omega)) rfl ?_
    rintro e W9 ⟨x,rfl,hlm,hS9⟩
    refine ⟨_,rfl,?_⟩
    clear hS;have hS:=hS9;clear hS9
    obtain ⟨hK0,hx,hnx,hmin⟩:=lm_next hF hO hI hN hlm
    have hul:(u++[x]).length=u.length+1:=by simp
    refine aB rfl rfl (aG (XF.thenN (aF (aH (aA rfl rfl (aA rfl rfl (bL (us:=[(0,.int .i64 _)]) hS underlying25 sizeOf3 zeroValue3 rfl rfl rfl (dP _) rfl fun B8 W8 hS=>?_)))))))
    refine dY (i:=0) (news:=[_]) hS underlying25 iF rfl rfl (by show 0 < 1;decide) rfl rfl rfl rfl rfl (aK.own (j:=0) (m:=1) (hS.at_ 0 rfl) rfl) rfl rfl (by dsimp only;simp only [maxLen];omega) (by dsimp only;show _ * 8≤_;omega) rfl fun v9 W9 hS=>?_
    obtain ⟨wa8,wc8,e9x,_⟩:=cM (hS.row 0 rfl)
    dsimp only at e9x
    subst e9x
    have hS9:=hS.castG (G':=[⟨.slice wa8 (u.length+1) wc8,u.length+1,zI (u++[x]),3,1⟩]) (by show GR.mk _ _ (zI u++[Value.int .i64 _]) _ _::_=_;rw [jY])
    clear hS;have hS:=hS9.tail;clear hS9
    refine aB rfl rfl (aG (XF.thenN (aH (aA rfl rfl (aA rfl rfl (aA rfl rfl ?_))))))
    refine aX (vs:=[_,_,_]) pS rfl (kU n a.ar OB va vc RB SB ((u.length:Int)+1) (((u++[x]).length:Int)+1) ss la lp.length lc lp x Kk _ _ Kk w _ (hS.keep Kk (fun q hq=>by simp [hq])) (fun q hq=>hq) (hOut.moreN hkk) hRl rfl hlpl hlt (oD hO) (by omega) hsl (by rw [IntWalk.i64_in _ (by omega),hul];omega) (fun y hy=>(by have:=hss y hy;omega)) hn4) rfl ?_
    rintro e W9 ⟨l2,wa2,wc2,ss2,K6,hH2,rfl,hle2,hsl2,hsf2,hk6,hS9⟩
    refine ⟨_,rfl,?_⟩
    clear hS;have hS:=hS9;clear hS9
    have hl2n:∀ q∈l2,q < n:=fun q hq=>mF hO (fun q hq=>rZ hO hq) ((hH2.at_ q).1 hq)
    refine opV (mV rfl rfl) rfl ?_
    refine aX (vs:=[_,_]) goes_39 rfl (nDel_is B3 LB (some ⟨FB,0,none⟩) n n fs lf wa2 l2.length wc2 l2 K6 _ _ K6 w _ ((hS.keep K6 (fun q hq=>by simp [hq])).perm tK) (fun q hq=>hq) (fun h9 hk9=>.inr ⟨_,0,rfl,fun j hj=>aD (gF h9 (fun q hq=>hk9 q (hk6 q (hkk q (hk3 q hq))))) (by have h7:=dN (l:=fs) hj;rw [Nat.mul_one] at h7;exact h7)⟩) hfl (by omega) rfl hl2n (by omega)) rfl ?_
    rintro e W9 ⟨wa3,wc3,rfl,hS9⟩
    refine ⟨_,rfl,?_⟩
    obtain ⟨K7,k7,g7,hS7⟩:=St.rowKeepN (o:=⟨.slice wa3 (kpN fs lf l2).length wc3,(kpN fs lf l2).length,zI (nI (kpN fs lf l2))⟩) hS9
    clear hS hS9;have hS:=hS7.perm tK;clear hS7
    refine aB rfl rfl (aG (XF.blkN (XF.thenN (aF (aF (aH (aJ isAgg3 rfl (aD (hS.at_ 3 rfl) rfl) rfl (aG (XF.thenN (aH (bP (cs:=[_]) hS zeroValue3 rfl rfl fun B10 W10 hS=>bD (i:=0) (cs':=[_]) (O':=[_,_,_,_,_,_]) hS sizeOf3 rfl rfl rfl rfl rfl rfl rfl fun W11 hS=>aG (XF.thenN (aH (aJ isAgg3 rfl (aD (hS.at_ 0 rfl) rfl) rfl (gU rfl rfl (IntWalk.i64_in _ (by omega)) rfl (bD (i:=0) (cs':=[_]) (O':=[_,_,_,_,_,_]) hS sizeOf3 rfl rfl rfl rfl rfl rfl rfl fun W12 hS=>aG ?_))))))))))))))))
    have e9v:(lf:Int)+1 - 1=(lf:Int):=by omega
    rw [e9v] at hS
    have hS9:=((hS.perm perm15).tail).castG (G':=[⟨.slice wa8 (u++[x]).length wc8,(u++[x]).length,zI (u++[x]),3,1⟩]) (by rw [hul])
    exact XF.round (lf+1) [(1,_),(6,_),(7,_),(8,_),(9,_),(10,_)] (by omega) ⟨rfl,rfl,rfl,rfl,rfl,rfl,trivial⟩ ⟨lf,u++[x],kpN fs lf l2,wa3,wc3,wa8,wc8,_,ss2,K7,rfl,by rw [hul],by rw [runNP_snoc];exact hI.next hK0 hx.1 hnx,by rw [runNP_snoc];exact hI.filt hN hK0 hx.1 (fun q=>⟨fun h=>⟨(hH2.at_ q).1 (iO.1 h).1,(hF.ds (hl2n q (iO.1 h).1)).1 (iO.1 h).2⟩,fun h=>iO.2 ⟨(hH2.at_ q).2 h.1,(hF.ds (hl2n q ((hH2.at_ q).2 h.1))).2 h.2⟩⟩),fun w9 h9=>(by rw [runNP_snoc] at h9;have h7:=hcont (x::w9) ⟨x,w9,rfl,hx,hnx,hmin,h9⟩;rw [List.append_assoc];exact h7),by rw [hul];omega,Nat.le_trans (List.length_filter_le _ _) hle2,fun p hp=>hl2n p (iO.1 hp).1,hsl2,fun y hy=>(by
     rw [hul]
     rcases hsf2 y hy with h | h
     ·have:=hss y h;omega
     ·rw [hul] at h;omega),fun q hq=>k7 q (hk6 q (hkk q hq)),fun h9 hk9=>fL (g7 h9 hk9),hS9.keep K7 (fun q hq=>by simp [hq])⟩
   ·have hc38:=of_decide_eq_false hc;clear hc
    obtain rfl:left=0:=by omega
    have hfin:=hcont [] rfl
    rw [List.append_nil] at hfin
    obtain ⟨K8,k8,g8,hS8⟩:=St.rowKeepN (o:=⟨.slice wa u.length wc,u.length,zI u⟩) (hS.keep Kk (fun q hq=>by simp [hq]))
    refine bS (XF.thenX (XF.thenX (XF.blkX (XF.thenN (aF (aH (aA rfl rfl (aB rfl rfl (aB rfl rfl (aB rfl rfl (aG (XF.thenN (bK (XF.res (qS results18 rfl rfl rfl) ?_))))))))))))))
    exact ⟨true,u,wa,wc,by rw [h0],⟨fun h=>absurd h0 h,fun _=>.inr ⟨rfl,m0,by rw [hs9,he9,hk];exact (hF.ds hsn).1 hm0,by rw [he9,hk];exact hfin⟩⟩,by omega,fL (g8 hS8 (fun q hq=>hq)),hS.below⟩
end
section
open Go.RowKit
open Go.Maps
open Go.ChangeMaps (setBlock)
section
variable {P:Program} {n:Nat} {Q:Exit→Act→World→Prop} {l:Fr} {W w0:World} {ops:Array Oper} {os:List Oper} {d:Nat} {ty:TypeId} {pos:String} {aft:Array Edge} {x y:Operand} {O:Own} {G:aU} {K:List (Nat×World)}
theorem rn_eqlT {t u:TypeId} {p q:ByteArray} {b:Bool} (hx:evL l x=some (.string p)) (hy:evL l y=some (.string q)) (hb:(p.toList == q.toList)=b):cN P l ⟨some d,.binOp .eql t x y u,ty,pos,aft,none⟩ W (.bool b) W:=fun ev he=>cP (he x _ hx) (he y _ hy) rfl (by subst hb;simp [binOp,Op.stringOp])
theorem lU {t u:TypeId} {p q:ByteArray} {b:Bool} (hx:evL l x=some (.string p)) (hy:evL l y=some (.string q)) (hb:(!(p.toList == q.toList))=b):cN P l ⟨some d,.binOp .neq t x y u,ty,pos,aft,none⟩ W (.bool b) W:=fun ev he=>cP (he x _ hx) (he y _ hy) rfl (by subst hb;simp [binOp,Op.stringOp])
theorem kZ {T:TypeId} {s:ByteArray} {c:UInt8} {k:IntKind} {i:Int} {j:Nat} (hU:P.underlying T=some .string) (hx:evL l x=some (.string s)) (hy:evL l y=some (.int k i)) (hi:i=(j:Int)) (hs:s[j]?=some c):cN P l ⟨some d,.index T x y,ty,pos,aft,none⟩ W (.int .u8 (c.toNat:Int)) W:=fun ev he=>by
 subst hi
 unfold execOp;simp only [];rw [he x _ hx,he y _ hy]
 simp [Instr.index,asIntOf,run_underlying hU,hs]
end
theorem St.setMapT {w0 W W':World} {O:Own} {G:aU} {K:List (Nat×World)} {b:Nat} (h:St w0 O G K W) (hm:W.mapTurned W' b) (hwb:w0.heap.size≤b) (hK:∀ q∈K,b < q.1∨q.2.heap.size≤b):St w0 O G K W':=by
 have hg:=hm.grown
 obtain ⟨es,clock,_,_,hb,_⟩:=hm
 have ne:∀ (k:Nat) (cs:Array Value) (T:TypeId),W.heap[k]?=some (.cells cs T (0,0))→k≠b:=fun k cs T hk e=>by
  subst e
  rw [hb] at hk;cases hk
 have blk:∀ k,k < W.heap.size→k≠b→W'.heap[k]?=W.heap[k]?:=fun k hk hne=>hg.block _ hk (fun e=>hne (Option.some.inj e))
 refine ⟨h.below.grown hg h.below.size (fun k hk=>by cases hk;exact hwb),fun p hp=>?_,h.dist,fun q hq=>⟨⟨Nat.le_trans (h.kept q hq).1.1 hg.size,fun k h1 h2=>?_⟩,(h.kept q hq).2⟩,fun g hg'=>⟨dT (h.rows g hg').1 fun k hk=>?_,(h.rows g hg').2⟩,h.gdist⟩
 ·obtain ⟨h1,h2⟩:=h.own p hp
  exact ⟨h1,(blk _ (cT h2) (ne _ _ _ h2)).trans h2⟩
 ·refine (blk k (Nat.lt_of_lt_of_le h2 (h.kept q hq).1.1) ?_).trans ((h.kept q hq).1.2 k h1 h2)
  rcases hK q hq with h3 | h3<;>omega
 ·exact blk k (((h.rows g hg').1.lt k hk).2) (mN (h.rows g hg').1 hb hk)
theorem iP:Go.Maps.Keyed prog 9:=string_keyed underlying9
def MsI (b:Nat) (es:List (List UInt8×Int)) (W:World):Prop:=∃ D:DataW Unit,W.ownsMap prog 9 (plainElem prog 3) b es.length D∧Tidy D∧Maps.size D=es.length∧(∀ l,Maps.has D (.string l)=es.any (fun p=>decide (p.1=l)))∧∀ l z,D.atKey (.string l) z=(match es.find? (fun p=>decide (p.1=l)) with | some p=>.lit (.int .i64 p.2) | none=>z)
theorem MsI.same {b:Nat} {es:List (List UInt8×Int)} {W W':World} (h:MsI b es W) (he:b < W.heap.size→W'.heap[b]?=W.heap[b]?):MsI b es W':=by
 obtain ⟨D,⟨es,clock,h1,h2⟩,h3⟩:=h
 exact ⟨D,⟨es,clock,(he (cT h1)).trans h1,h2⟩,h3⟩
theorem MsI.below {b:Nat} {es:List (List UInt8×Int)} {W W':World} (h:MsI b es W) (hb:Below W.heap.size W W'):MsI b es W':=h.same (fun h1=>hb.block _ h1)
theorem MsI.fresh (W:World):MsI W.heap.size [] (W.alloc (.map #[] 0)):=by
 refine ⟨.map [],World.ownsMap_made W _ _ _,(World.ownsMap_made W prog 9 (plainElem prog 3)).tidy iP,rfl,fun l=>?_,fun l z=>?_⟩
 ·simp [Maps.has]
 ·simp [DataW.atKey]
theorem MsI.made {W:World} {b:Nat} (hb:W.heap[b]?=some (.map #[] 0)):MsI b [] W:=by
 obtain ⟨D,⟨es,clock,h1,h2⟩,h3⟩:=MsI.fresh W
 have h4:=(heap_alloc_new W (.map #[] 0)).symm.trans h1
 injection h4 with h4
 injection h4 with h5 h6
 subst h5;subst h6
 exact ⟨D,⟨_,_,hb,h2⟩,h3⟩
theorem oG {s:ByteArray} (h:s.size≤maxLen):keyOf prog 9 (.string s)=some (.string s.data.toList):=WideMaps.keyOf_string_mk underlying9 h
theorem MsI.look {b:Nat} {es:List (List UInt8×Int)} {W:World} (h:MsI b es W) {s:ByteArray} {x:Int} (hs:s.size≤maxLen) (hf:es.find? (fun p=>decide (p.1=s.data.toList))=some (s.data.toList,x)) (hz:∀ w,(zeroValue 3).run prog w = .ok (.int .i64 0) w):(Instr.lookup 79 (.map (some b)) (.string s) true).run prog W = .ok (.tuple #[.int .i64 x,.bool true]) W:=by
 obtain ⟨D,h1,h2,h3,h4,h5⟩:=h
 obtain ⟨v,ps,h6,h7⟩:=h1.look_ok iP underlying79 (hz W) (plainElem_int underlying3 (a:=0) (by decide)) (oG hs)
 rw [h5,hf] at h7
 obtain ⟨a,rfl,h8,_⟩:=plainElem_int_inv underlying3 h7
 simp only [Prod.mk.injEq] at h8
 obtain ⟨h8,_⟩:=h8
 simp only [DataW.lit.injEq,Lit.int.injEq,true_and] at h8
 subst h8
 rw [h6,h4,List.any_eq_true.2 ⟨_,List.mem_of_find?_eq_some hf,by simp⟩]
theorem MsI.put {b:Nat} {es:List (List UInt8×Int)} {W:World} (h:MsI b es W) {s:ByteArray} {x:Int} (hs:s.size≤maxLen) (hx:(Lit.int .i64 x).wf=true) (hf:es.any (fun p=>decide (p.1=s.data.toList))=false) (hn:es.length < maxLen):∃ w',(Instr.mapUpdate 79 (.map (some b)) (.string s) (.int .i64 x)).run prog W = .ok () w'∧MsI b ((s.data.toList,x)::es) w'∧W.mapTurned w' b:=by
 obtain ⟨D,h1,h2,h3,h4,h5⟩:=h
 obtain ⟨w',h6,h7,h8⟩:=h1.store iP underlying79 hn (oG hs) (plainElem_int underlying3 hx)
 have hk:=iP.key (oG hs)
 have h9:w'.ownsMap prog 9 (plainElem prog 3) b ((s.data.toList,x)::es).length (D.put (.string s.data.toList) (.lit (.int .i64 x))):=h7
 refine ⟨w',h6,⟨D.put (.string s.data.toList) (.lit (.int .i64 x)),h9,h2.put hk _,?_,fun l=>?_,fun l z=>?_⟩,h8⟩
 ·rw [size_put h2,h4,hf,h3];rfl
 ·by_cases e:l=s.data.toList
  ·subst e
   rw [has_put_same h1.isMap hk];simp
  ·rw [has_put_other (fun e2=>e (by injection e2)),h4,List.any_cons,decide_eq_false (fun e2=>e e2.symm),Bool.false_or]
 ·by_cases e:l=s.data.toList
  ·subst e
   rw [atKey_put_same h1.isMap hk,List.find?_cons_of_pos (by simp)]
  ·rw [atKey_put_other (fun e2=>e (by injection e2)),h5,List.find?_cons_of_neg (by simpa using fun e2=>e e2.symm)]
section
variable {n:Nat} {ops:Array Oper} {Q:Exit→Act→World→Prop} {l:Fr} {w0 W:World} {O:Own} {G:aU} {K:List (Nat×World)} {os:List Oper} {d b:Nat} {ty:TypeId} {pos:String} {aft:Array Edge} {x y z:Operand} {es:List (List UInt8×Int)} {s:ByteArray} {v:Int}
theorem tM (hM:MsI b es W) (hs:s.size≤maxLen) (hf:es.find? (fun p=>decide (p.1=s.data.toList))=some (s.data.toList,v)) (hz:∀ w,(zeroValue 3).run prog w = .ok (.int .i64 0) w) (hx:evL l x=some (.map (some b))) (hy:evL l y=some (.string s)):cN prog l ⟨some d,.lookup 79 x y true,ty,pos,aft,none⟩ W (.tuple #[.int .i64 v,.bool true]) W:=fun ev he=>by
 unfold execOp;simp only [];rw [he x _ hx,he y _ hy]
 simp [hM.look hs hf hz,Result.andThen]
theorem oH (hS:St w0 O G K W) (hM:MsI b es W) (hs:s.size≤maxLen) (hv:(Lit.int .i64 v).wf=true) (hf:es.any (fun p=>decide (p.1=s.data.toList))=false) (hn:es.length < maxLen) (hwb:w0.heap.size≤b) (hK:∀ q∈K,b < q.1∨q.2.heap.size≤b) (hx:evL l x=some (.map (some b))) (hy:evL l y=some (.string s)) (hz:evL l z=some (.int .i64 v))
  (h:∀ W',St w0 O G K W'→MsI b ((s.data.toList,v)::es) W'→bG prog n ops Q os l W'):bG prog n ops Q (⟨none,.mapUpdate 79 x y z,ty,pos,aft,none⟩::os) l W:=fun a ha=>by
 obtain ⟨W',h1,h2,h3⟩:=hM.put hs hv hf hn
 refine wpList_plain rfl fun K' hK'=>?_
 unfold Oper.wp execOp
 simp only []
 rw [ha.ev x _ hx,ha.ev y _ hy,ha.ev z _ hz]
 simp only [Sem.run_bind,h1,Result.andThen_ok,Sem.run_pure,Oper.upon_skip]
 exact hK' _ _ (h W' (hS.setMapT h3 hwb hK) h2 a ha)
theorem nC (hM:MsI b es W) (hx:evL l x=some (.map (some b))):cN prog l ⟨some d,.call { callee:=.builtin .len,args:=#[x],argTypes:=#[79] },ty,pos,aft,none⟩ W (.int .i64 (es.length:Int)) W:=fun ev he=>by
 obtain ⟨D,h1,h2,h3,h4,h5⟩:=hM
 have h6:=h1.len underlying79 ty
 rw [h3] at h6
 unfold execOp
 simp only [resolve,invoke,builtin,Sem.run_bind,Sem.run_pure,Result.andThen_ok,List.map_toArray,List.map_cons,List.map_nil,he x _ hx,h6]
end
inductive ReV where
 | mk (op:Int) (nm:ByteArray) (ka:Option Addr) (kl kc:Nat) (kids:List ReV)
def ReV.op:ReV→Int | .mk op _ _ _ _ _=>op
def ReV.nm:ReV→ByteArray | .mk _ nm _ _ _ _=>nm
def ReV.kids:ReV→List ReV | .mk _ _ _ _ _ kids=>kids
def ReV.cells:ReV→List Value | .mk op nm ka kl kc _=>[.int .i64 op,.string nm,.slice ka kl kc]
def ReV.val:ReV→Value | .mk op nm ka kl kc _=>.agg #[.int .i64 op,.string nm,.slice ka kl kc]
inductive ReIn (W:World):ReV→Prop
 | mk {op:Int} {nm:ByteArray} {ka:Option Addr} {kl kc:Nat} {kids:List ReV}:kids.length=kl→kl≤500→kl≤kc→(∀ (i:Nat) k,kids[i]?=some k→∃ b off,ka=some ⟨b,off,none⟩∧aK W b (off+i * 3) k.cells)→(∀ k∈kids,ReIn W k)→ReIn W (.mk op nm ka kl kc kids)
theorem ReIn.keep {W W':World} (hb:Below W.heap.size W W') {x:ReV} (h:ReIn W x):ReIn W' x:=by
 induction h with
 | mk h1 h2 h2c h3 _ ih =>
  refine .mk h1 h2 h2c (fun i k hi=>?_) ih
  obtain ⟨b,off,e,hc⟩:=h3 i k hi
  exact ⟨b,off,e,aK.agree (aW hb 0) (Nat.zero_le _) hc⟩
def oI (p:ByteArray):Prop:=p=⟨#[97]⟩∨p=⟨#[98]⟩
theorem oI.facts {p:ByteArray} (h:oI p):p.size=1∧((p.toList == (⟨#[]⟩:ByteArray).toList)=false)∧∃ c:UInt8,p[0]?=some c∧(97≤(c.toNat:Int)∧(c.toNat:Int)≤122):=by
 rcases h with rfl | rfl
 ·exact ⟨rfl,by rw [ByteArray.toList_eq,ByteArray.toList_eq];rfl,97,rfl,by decide⟩
 ·exact ⟨rfl,by rw [ByteArray.toList_eq,ByteArray.toList_eq];rfl,98,rfl,by decide⟩
inductive FitsR:ReV→Nat→Nat→Nat→Prop
 | mk {x:ReV} {d n:Nat} {f:Nat→Nat}:n+1≤500→d≤50→f 0=n+1→(∀ (i:Nat) k,x.kids[i]?=some k→FitsR k (d+1) (f i) (f (i+1)))→FitsR x d n (f x.kids.length)
def Shp (x:ReV):Prop:=(x.op=1∧oI x.nm∧x.kids=[])∨(x.nm=⟨#[]⟩∧((x.op=3∧x.kids=[])∨((x.op=5∨x.op=6)∧(∀ k∈x.kids,k.op≠x.op)∧2≤x.kids.length)))
inductive WellM:ReV→Prop
 | mk {x:ReV}:(∀ k∈x.kids,WellM k)→Shp x→WellM x
def tN (W:World) (a:Option Addr) (ns:List ByteArray):Prop:=∀ (i:Nat) s,ns[i]?=some s→∃ b off,a=some ⟨b,off,none⟩∧W.cell? ⟨b,off+i * 1,none⟩=some (.string s)
end
section
open Go.RowKit
theorem cV (w:World) (b o:Nat):(Instr.fieldAt 62 (.pointer (some ⟨b,o,none⟩)) 0).run prog w = .ok (.pointer (some ⟨b,o+0,none⟩)) w:=by
 simp [Instr.fieldAt,run_underlying underlying62,Instr.sureAddr,go_sem,Addr.add_lit]
theorem iQ (w:World) (b o:Nat):(Instr.fieldAt 62 (.pointer (some ⟨b,o,none⟩)) 1).run prog w = .ok (.pointer (some ⟨b,o+1,none⟩)) w:=by
 simp [Instr.fieldAt,run_underlying underlying62,Instr.sureAddr,go_sem,Addr.add_lit]
theorem eC (w:World) (b o:Nat):(Instr.fieldAt 62 (.pointer (some ⟨b,o,none⟩)) 2).run prog w = .ok (.pointer (some ⟨b,o+2,none⟩)) w:=by
 simp [Instr.fieldAt,run_underlying underlying62,Instr.sureAddr,go_sem,Addr.add_lit]
theorem goes_81:bA prog 81=true:=by kernel_rfl
theorem qB:bA prog 84=true:=by kernel_rfl
section
variable {P:Program} {n:Nat} {l:Fr} {W:World} {d:Nat} {ty t u:TypeId} {pos:String} {aft:Array Edge} {x y:Operand} {k:IntKind} {a b:Int} {c:Bool}
theorem bJ (hx:evL l x=some (.int k a)) (hy:evL l y=some (.int k b)) (hb:decide (a=b)=c):cN P l ⟨some d,.binOp .eql t x y u,ty,pos,aft,none⟩ W (.bool c) W:=by subst hb;exact sD hx hy
theorem gL (hx:evL l x=some (.int k a)) (hy:evL l y=some (.int k b)) (hb:decide (a≠b)=c):cN P l ⟨some d,.binOp .neq t x y u,ty,pos,aft,none⟩ W (.bool c) W:=by subst hb;exact jP hx hy
end
theorem iR (c:Int) (h1:97≤c) (h2:c≤122) (w:World) :
  Calls prog 84 #[.int .u8 c] w (fun e w'=>e = .returned (.bool true)∧Below w.heap.size w w'):=by
 refine bH (args:=[.int .u8 c]) func84 rfl ntmps84 rfl ?_
 have hS:=St.start w
 refine aF (aH (aB rfl rfl (aG (XF.thenN (aF (aH (aA rfl rfl (eI rfl rfl rfl (aA rfl rfl (aZ (d:=5) rfl (fun hc=>?_) (fun hc=>?_)))))))))))
 ·have hg5:=of_decide_eq_true hc;clear hc
  refine aC (d:=5) rfl rfl (aA rfl rfl (aC (d:=5) rfl rfl (nN rfl rfl rfl (aN rfl rfl rfl (aA rfl rfl (aZ (d:=9) rfl (fun hc=>?_) (fun hc=>?_)))))))
  ·have hg9:=of_decide_eq_true hc;clear hc
   refine aE (d:=9) rfl rfl rfl rfl (aE (d:=9) rfl rfl rfl rfl (aE (d:=9) rfl rfl rfl rfl (jX (d:=12) rfl rfl rfl (jX (d:=12) rfl rfl rfl (aE (d:=9) rfl rfl rfl rfl (aN rfl rfl rfl (aA rfl rfl (aE (d:=17) rfl rfl rfl rfl (aE (d:=17) rfl rfl rfl rfl (aN rfl rfl rfl (aB rfl rfl (aG (XF.thenN (bK (XF.res (bT results84 rfl) ?_)))))))))))))))
   first | exact ⟨eJ (decide_eq_true (by omega)),hS.below⟩ | exact ⟨rfl,hS.below⟩ | (exfalso;simp at *;omega)
  ·have hg9:=of_decide_eq_false hc;clear hc
   refine aC (d:=9) rfl rfl (aA rfl rfl (aC (d:=9) rfl rfl (eI rfl rfl rfl (aC (d:=9) rfl rfl (aA rfl rfl (aZ (d:=12) rfl (fun hc=>?_) (fun hc=>?_)))))))
   ·have hg12:=of_decide_eq_true hc;clear hc
    refine aC (d:=12) rfl rfl (aA rfl rfl (aC (d:=12) rfl rfl (nN rfl rfl rfl (aC (d:=9) rfl rfl (aN rfl rfl rfl (aR rfl rfl rfl (aA rfl rfl (aZ (d:=17) rfl (fun hc=>?_) (fun hc=>?_)))))))))
    ·have hg17:=of_decide_eq_true hc;clear hc
     refine aE (d:=17) rfl rfl rfl rfl (aE (d:=17) rfl rfl rfl rfl (aN rfl rfl rfl (aB rfl rfl (aG (XF.thenN (bK (XF.res (bT results84 rfl) ?_)))))))
     first | exact ⟨eJ (decide_eq_true (by omega)),hS.below⟩ | exact ⟨rfl,hS.below⟩ | (exfalso;simp at *;omega)
    ·have hg17:=of_decide_eq_false hc;clear hc
     refine aC (d:=17) rfl rfl (aA rfl rfl (aC (d:=17) rfl rfl (dB rfl rfl rfl (aR rfl rfl rfl (aB rfl rfl (aG (XF.thenN (bK (XF.res (bT results84 rfl) ?_)))))))))
     first | exact ⟨eJ (decide_eq_true (by omega)),hS.below⟩ | exact ⟨rfl,hS.below⟩ | (exfalso;simp at *;omega)
   ·have hg12:=of_decide_eq_false hc;clear hc
    refine aE (d:=12) rfl rfl rfl rfl (aE (d:=12) rfl rfl rfl rfl (aC (d:=9) rfl rfl (aR rfl rfl rfl (aR rfl rfl rfl (aA rfl rfl (aC (d:=17) rfl rfl (aA rfl rfl (aC (d:=17) rfl rfl (dB rfl rfl rfl (aR rfl rfl rfl (aB rfl rfl (aG (XF.thenN (bK (XF.res (bT results84 rfl) ?_)))))))))))))))
    first | exact ⟨eJ (decide_eq_true (by omega)),hS.below⟩ | exact ⟨rfl,hS.below⟩ | (exfalso;simp at *;omega)
 ·have hg5:=of_decide_eq_false hc;clear hc
  refine aE (d:=5) rfl rfl rfl rfl (aE (d:=5) rfl rfl rfl rfl (aR rfl rfl rfl (aA rfl rfl (aC (d:=9) rfl rfl (aA rfl rfl (aC (d:=9) rfl rfl (eI rfl rfl rfl (aC (d:=9) rfl rfl (aA rfl rfl (aZ (d:=12) rfl (fun hc=>?_) (fun hc=>?_)))))))))))
  ·have hg12:=of_decide_eq_true hc;clear hc
   refine aC (d:=12) rfl rfl (aA rfl rfl (aC (d:=12) rfl rfl (nN rfl rfl rfl (aC (d:=9) rfl rfl (aN rfl rfl rfl (aR rfl rfl rfl (aA rfl rfl (aZ (d:=17) rfl (fun hc=>?_) (fun hc=>?_)))))))))
   ·have hg17:=of_decide_eq_true hc;clear hc
    refine aE (d:=17) rfl rfl rfl rfl (aE (d:=17) rfl rfl rfl rfl (aN rfl rfl rfl (aB rfl rfl (aG (XF.thenN (bK (XF.res (bT results84 rfl) ?_)))))))
    first | exact ⟨eJ (decide_eq_true (by omega)),hS.below⟩ | exact ⟨rfl,hS.below⟩ | (exfalso;simp at *;omega)
   ·have hg17:=of_decide_eq_false hc;clear hc
    refine aC (d:=17) rfl rfl (aA rfl rfl (aC (d:=17) rfl rfl (dB rfl rfl rfl (aR rfl rfl rfl (aB rfl rfl (aG (XF.thenN (bK (XF.res (bT results84 rfl) ?_)))))))))
    first | exact ⟨eJ (decide_eq_true (by omega)),hS.below⟩ | exact ⟨rfl,hS.below⟩ | (exfalso;simp at *;omega)
  ·have hg12:=of_decide_eq_false hc;clear hc
   refine aE (d:=12) rfl rfl rfl rfl (aE (d:=12) rfl rfl rfl rfl (aC (d:=9) rfl rfl (aR rfl rfl rfl (aR rfl rfl rfl (aA rfl rfl (aC (d:=17) rfl rfl (aA rfl rfl (aC (d:=17) rfl rfl (dB rfl rfl rfl (aR rfl rfl rfl (aB rfl rfl (aG (XF.thenN (bK (XF.res (bT results84 rfl) ?_)))))))))))))))
   first | exact ⟨eJ (decide_eq_true (by omega)),hS.below⟩ | exact ⟨rfl,hS.below⟩ | (exfalso;simp at *;omega)
theorem rL (p:ByteArray) (hp:oI p) (w:World) :
  Calls prog 81 #[.string p] w (fun e w'=>e = .returned (.bool true)∧Below w.heap.size w w'):=by
 refine bH (args:=[.string p]) func81 rfl ntmps81 rfl ?_
 have hS:=St.start w
 obtain ⟨hsz,hne,c,hc0,hc1,hc2⟩:=hp.facts
 refine aF (aH (aB rfl rfl (aG (XF.thenN (aF (aF (aH (aA rfl rfl (opV (rn_eqlT (b:=false) rfl rfl hne) rfl (aA rfl rfl (aC (d:=6) rfl rfl (aA rfl rfl (aC (d:=6) rfl rfl (oW underlying9 rfl rfl (aC (d:=6) rfl rfl (dA rfl rfl rfl (aR rfl rfl rfl (aA rfl rfl (aZ (d:=11) rfl (fun hc=>?_) (fun hc=>?_))))))))))))))))))))
 ·have hg11:=of_decide_eq_true hc;clear hc
  refine aE (d:=11) rfl rfl rfl rfl (aE (d:=11) rfl rfl rfl rfl (aE (d:=11) rfl rfl rfl rfl (aE (d:=11) rfl rfl rfl rfl (aN rfl rfl rfl (aG (XF.thenN (cF rfl (aF (aH (aB rfl rfl (aG (XF.thenN (bK (XF.thenR (XF.res (bT results81 rfl) ?_)))))))))))))))
  exfalso;omega
 ·have hg11:=of_decide_eq_false hc;clear hc
  refine aC (d:=11) rfl rfl (aA rfl rfl (aC (d:=11) rfl rfl (opV (kZ (j:=0) (c:=c) underlying9 rfl rfl rfl hc0) rfl (aC (d:=11) rfl rfl (bW (vs:=[_]) hS qB rfl (iR _ hc1 hc2 _) rfl fun W1 hS=>aC (d:=11) rfl rfl (cW rfl rfl (aR rfl rfl rfl (aG (XF.thenN (bX rfl (aP (XF.thenN (aF (aF (aH (aA rfl rfl (oW underlying9 rfl rfl (aA rfl rfl (aG (XF.thenN (aM (cB (fun m l W=>∃ (i:Nat),i≤1∧m=1 - i∧l=[(0,.string p),(18,.int .i64 (p.size:Int)),(19,.int .i64 (i:Int))]∧St w [] [] [] W) (1 - 0) ([(0,_),(18,_),(19,_)]) ⟨rfl,rfl,rfl,trivial⟩ (⟨0,Nat.zero_le _,rfl,rfl,hS.clear⟩) ?_))))))))))))))))))))))
  clear hS
  rintro m l W ⟨i,hi,rfl,rfl,hS⟩
  refine aF (aH (bB rfl rfl rfl (aG (XF.thenN (aF (aV rfl (fun hc=>?_) (fun hc=>?_)))))))
  ·have hc20:=of_decide_eq_true hc;clear hc
   obtain rfl:i=0:=by omega
   refine aP (XF.thenN (aF (aM (aF (aH (aA rfl rfl (aB rfl rfl (aG (XF.thenN (aF (aH (aA rfl rfl (aA rfl rfl (opV (kZ (j:=0) (c:=c) underlying9 rfl rfl rfl hc0) rfl (bW (vs:=[_]) hS qB rfl (iR _ hc1 hc2 _) rfl fun W2 hS=>cW rfl rfl (aA rfl rfl (aE (d:=27) rfl rfl rfl rfl (aE (d:=27) rfl rfl rfl rfl (aE (d:=27) rfl rfl rfl rfl (aE (d:=27) rfl rfl rfl rfl (aE (d:=27) rfl rfl rfl rfl (aR rfl rfl rfl (aG (XF.thenN (bX rfl (aP (XF.blkN (XF.thenN (aH (aS rfl rfl (IntWalk.i64_in _ (by omega)) rfl (aA rfl rfl (aG ?_))))))))))))))))))))))))))))))))
   exact XF.round 0 [(0,_),(18,_),(19,_)] (by omega) ⟨rfl,rfl,rfl,trivial⟩ ⟨1,by omega,rfl,rfl,hS.clear⟩
  ·have hc20:=of_decide_eq_false hc;clear hc
   refine bS (XF.thenX (XF.thenX (XF.blkX (XF.thenN (aF (aH (aB rfl rfl (aG (XF.thenN (bK (XF.res (bT results81 rfl) ?_)))))))))))
   exact ⟨rfl,hS.below⟩
theorem oJ (nm:ByteArray) (ka:Option Addr) (kc:Nat) (hnm:oI nm) (w:World) :
  Calls prog 70 #[.agg #[.int .i64 1,.string nm,.slice ka 0 kc]] w (fun e w'=>e = .returned (.bool true)∧Below w.heap.size w w'):=by
 refine bH (args:=[.agg #[.int .i64 1,.string nm,.slice ka 0 kc]]) func70 rfl ntmps70 rfl ?_
 have hS:=St.start w
 refine aF (aH (bZ (cs:=[_,_,_]) hS rfl rfl rfl fun B1 W1 hS=>aB rfl rfl (aG (XF.thenN (aF (aF (aH (aI (o':=0) cV rfl rfl rfl (aJ isAgg59 rfl (aD (hS.at_ 0 rfl) rfl) rfl (opV (gL (c:=false) rfl rfl (by decide)) rfl (aA rfl rfl (aE (d:=8) rfl rfl rfl rfl (aE (d:=8) rfl rfl rfl rfl (aE (d:=8) rfl rfl rfl rfl (aR rfl rfl rfl (aG (XF.thenN (bX rfl (aP (XF.thenN (aF (aF (aH (aI (o':=0) cV rfl rfl rfl (aJ isAgg59 rfl (aD (hS.at_ 0 rfl) rfl) rfl (aG (XF.thenN (aM (aF (aH (opV (bJ (c:=true) rfl rfl (by decide)) rfl (aB rfl rfl (aG (XF.thenN (cF rfl (aF (aH (aI (o':=1) iQ rfl rfl rfl (aJ isAgg9 rfl (aD (hS.at_ 0 rfl) rfl) rfl (bW (vs:=[_]) hS goes_81 rfl (rL nm hnm _) rfl fun W2 hS=>?_))))))))))))))))))))))))))))))))))))))))
 refine aA rfl rfl (aC (d:=20) rfl rfl (aI (o':=2) eC rfl rfl rfl (aC (d:=20) rfl rfl (aJ isAgg60 rfl (aD (hS.at_ 0 rfl) rfl) rfl (aC (d:=20) rfl rfl (bN underlying60 rfl rfl (aC (d:=20) rfl rfl (opV (bJ (c:=true) rfl rfl (by decide)) rfl (aN rfl rfl rfl (aB rfl rfl (aG (XF.thenN (bK (XF.blkR (XF.thenR (XF.res (bT results70 rfl) ?_))))))))))))))))
 exact ⟨rfl,hS.below⟩
theorem oK (ka:Option Addr) (kc:Nat) (w:World) :
  Calls prog 70 #[.agg #[.int .i64 3,.string ⟨#[]⟩,.slice ka 0 kc]] w (fun e w'=>e = .returned (.bool true)∧Below w.heap.size w w'):=by
 refine bH (args:=[.agg #[.int .i64 3,.string ⟨#[]⟩,.slice ka 0 kc]]) func70 rfl ntmps70 rfl ?_
 have hS:=St.start w
 refine aF (aH (bZ (cs:=[_,_,_]) hS rfl rfl rfl fun B1 W1 hS=>aB rfl rfl (aG (XF.thenN (aF (aF (aH (aI (o':=0) cV rfl rfl rfl (aJ isAgg59 rfl (aD (hS.at_ 0 rfl) rfl) rfl (opV (gL (c:=true) rfl rfl (by decide)) rfl (aA rfl rfl (aC (d:=8) rfl rfl (aI (o':=1) iQ rfl rfl rfl (aC (d:=8) rfl rfl (aJ isAgg9 rfl (aD (hS.at_ 0 rfl) rfl) rfl (aC (d:=8) rfl rfl ?_))))))))))))))))
 refine opV (lU (b:=false) rfl rfl (by rw [beq_self_eq_true];rfl)) rfl ?_
 refine aN rfl rfl rfl (aG (XF.thenN (bX rfl (aP (XF.thenN (aF (aF (aH (aI (o':=0) cV rfl rfl rfl (aJ isAgg59 rfl (aD (hS.at_ 0 rfl) rfl) rfl (aG (XF.thenN (aM (aF (aH (opV (bJ (c:=false) rfl rfl (by decide)) rfl (aB rfl rfl (aG (XF.thenN (bX rfl (aF (aF (aH (opV (bJ (c:=false) rfl rfl (by decide)) rfl (aB rfl rfl (aG (XF.thenN (bX rfl (aF (aH (opV (bJ (c:=true) rfl rfl (by decide)) rfl (aB rfl rfl (aG (XF.thenN (cF rfl (aP (XF.thenN (cF rfl (aF (aH (aI (o':=2) eC rfl rfl rfl (aJ isAgg60 rfl (aD (hS.at_ 0 rfl) rfl) rfl ?_))))))))))))))))))))))))))))))))))))))))))
 refine bN underlying60 rfl rfl (opV (bJ (c:=true) rfl rfl (by decide)) rfl (aB rfl rfl (aG (XF.thenN (bK (XF.blkR (XF.thenR (XF.res (bT results70 rfl) ?_))))))))
 exact ⟨rfl,hS.below⟩
theorem oL (ka:Option Addr) (kl kc:Nat) (kids:List ReV) (w:World) (hkl:kids.length=kl) (hk5:kl≤500) (hk:∀ (i:Nat) k,kids[i]?=some k→∃ b off,ka=some ⟨b,off,none⟩∧aK w b (off+i * 3) k.cells) (hop:∀ k∈kids,k.op≠5) (h2:2≤kl) :
  Calls prog 70 #[.agg #[.int .i64 5,.string ⟨#[]⟩,.slice ka kl kc]] w (fun e w'=>e = .returned (.bool true)∧Below w.heap.size w w'):=by
 refine bH (args:=[.agg #[.int .i64 5,.string ⟨#[]⟩,.slice ka kl kc]]) func70 rfl ntmps70 rfl ?_
 have hS:=St.start w
 refine aF (aH (bZ (cs:=[_,_,_]) hS rfl rfl rfl fun B1 W1 hS=>aB rfl rfl (aG (XF.thenN (aF (aF (aH (aI (o':=0) cV rfl rfl rfl (aJ isAgg59 rfl (aD (hS.at_ 0 rfl) rfl) rfl (opV (gL (c:=true) rfl rfl (by decide)) rfl (aA rfl rfl (aC (d:=8) rfl rfl (aI (o':=1) iQ rfl rfl rfl (aC (d:=8) rfl rfl (aJ isAgg9 rfl (aD (hS.at_ 0 rfl) rfl) rfl (aC (d:=8) rfl rfl ?_))))))))))))))))
 refine opV (lU (b:=false) rfl rfl (by rw [beq_self_eq_true];rfl)) rfl ?_
 refine aN rfl rfl rfl (aG (XF.thenN (bX rfl (aP (XF.thenN (aF (aF (aH (aI (o':=0) cV rfl rfl rfl (aJ isAgg59 rfl (aD (hS.at_ 0 rfl) rfl) rfl (aG (XF.thenN (aM (aF (aH (opV (bJ (c:=false) rfl rfl (by decide)) rfl (aB rfl rfl (aG (XF.thenN (bX rfl (aF (aF (aH (opV (bJ (c:=false) rfl rfl (by decide)) rfl (aB rfl rfl (aG (XF.thenN (bX rfl (aF (aH (opV (bJ (c:=false) rfl rfl (by decide)) rfl (aB rfl rfl (aG (XF.thenN (bX rfl (aH (opV (bJ (c:=false) rfl rfl (by decide)) rfl (aB rfl rfl (aG (XF.thenN (bX rfl (aF ?_))))))))))))))))))))))))))))))))))))))))))
 refine aF (aH (opV (bJ (c:=true) rfl rfl (by decide)) rfl (aB rfl rfl (aG (XF.thenN (cF rfl (aP (XF.thenN (cF rfl (aF (aF (aH (aI (o':=2) eC rfl rfl rfl (aJ isAgg60 rfl (aD (hS.at_ 0 rfl) rfl) rfl (bN underlying60 rfl rfl (aA rfl rfl (aG (XF.thenN (aM (cB (fun m l W=>∃ (i:Nat),i≤kl∧m=kl - i∧l=[(1,.pointer (some ⟨B1,0,none⟩)),(38,.slice ka kl kc),(39,.int .i64 (kl:Int)),(40,.int .i64 (i:Int))]∧St w [(B1,[.int .i64 5,.string ⟨#[]⟩,.slice ka kl kc],62)] [] [] W) (kl - 0) ([(1,_),(38,_),(39,_),(40,_)]) ⟨rfl,rfl,rfl,rfl,trivial⟩ (⟨0,Nat.zero_le _,rfl,rfl,hS.clear⟩) ?_))))))))))))))))))))
 clear hS
 rintro m l W ⟨i,hi,rfl,rfl,hS⟩
 refine aF (aH (bB rfl rfl rfl (aG (XF.thenN (aF (aV rfl (fun hc=>?_) (fun hc=>?_)))))))
 ·have hc41:=of_decide_eq_true hc;clear hc
  obtain ⟨k,hki⟩:∃ k,kids[i]?=some k:=⟨_,List.getElem?_eq_getElem (by omega)⟩
  have hkop:=hop k (List.mem_of_getElem? hki)
  obtain ⟨b,off,hka,hcs⟩:=hk i k hki
  obtain ⟨ko,kn,kka,kkl,kkc,kks⟩:=k
  have k1:aK W b (off+i * 3) [.int .i64 ko,.string kn,.slice kka kkl kkc]:=aK.agree (aW hS.below 0) (Nat.zero_le _) hcs
  replace hkop:ko≠5:=hkop
  refine aP (XF.thenN (aF (aM (aF (aH ?_)))))
  refine aL (j:=i) (b:=b) (o:=off) (m:=kl) (c:=kc) underlying60 sizeOf62 (by show some (Value.slice _ _ _)=_;rw [hka]) rfl rfl (by omega) rfl rfl ?_
  refine aQ (vs:=[_,_,_]) isAgg62 sizeOf62 rfl k1 rfl (bP (cs:=[_,_,_]) hS zeroValue62 rfl rfl fun B2 W2 hS=>bO (i:=0) (vs:=[_,_,_]) (cs':=[_,_,_]) (O':=[_,_]) hS sizeOf62 rfl rfl rfl rfl rfl rfl rfl fun W3 hS=>aG (XF.thenN (aF (aH (aI (o':=0) cV rfl rfl rfl (aJ isAgg59 rfl (aD (hS.at_ 0 rfl) rfl) rfl (aI (o':=0) cV rfl rfl rfl (aJ isAgg59 rfl (aD (hS.at_ 1 rfl) rfl) rfl (opV (bJ (c:=false) rfl rfl (decide_eq_false hkop)) rfl (aG (XF.thenN (bX rfl (aP (XF.blkN (XF.thenN (aH (aS rfl rfl (IntWalk.i64_in _ (by omega)) rfl (aA rfl rfl (aG ?_)))))))))))))))))))
  exact XF.round (kl - (i+1)) [(1,_),(38,_),(39,_),(40,_)] (by omega) ⟨rfl,rfl,rfl,rfl,trivial⟩ ⟨i+1,by omega,rfl,rfl,hS.tail.clear⟩
 ·have hc41:=of_decide_eq_false hc;clear hc
  refine bS (XF.thenX (XF.thenX (XF.blkX (XF.thenN (aF (aH (aI (o':=2) eC rfl rfl rfl (aJ isAgg60 rfl (aD (hS.at_ 0 rfl) rfl) rfl (bN underlying60 rfl rfl (eI rfl rfl rfl (aB rfl rfl (aG (XF.thenN (bK (XF.blkR (XF.thenR (XF.res (bT results70 rfl) ?_)))))))))))))))))
  exact ⟨eJ (decide_eq_true (by omega)),hS.below⟩
theorem oM (ka:Option Addr) (kl kc:Nat) (kids:List ReV) (w:World) (hkl:kids.length=kl) (hk5:kl≤500) (hk:∀ (i:Nat) k,kids[i]?=some k→∃ b off,ka=some ⟨b,off,none⟩∧aK w b (off+i * 3) k.cells) (hop:∀ k∈kids,k.op≠6) (h2:2≤kl) :
  Calls prog 70 #[.agg #[.int .i64 6,.string ⟨#[]⟩,.slice ka kl kc]] w (fun e w'=>e = .returned (.bool true)∧Below w.heap.size w w'):=by
 refine bH (args:=[.agg #[.int .i64 6,.string ⟨#[]⟩,.slice ka kl kc]]) func70 rfl ntmps70 rfl ?_
 have hS:=St.start w
 refine aF (aH (bZ (cs:=[_,_,_]) hS rfl rfl rfl fun B1 W1 hS=>aB rfl rfl (aG (XF.thenN (aF (aF (aH (aI (o':=0) cV rfl rfl rfl (aJ isAgg59 rfl (aD (hS.at_ 0 rfl) rfl) rfl (opV (gL (c:=true) rfl rfl (by decide)) rfl (aA rfl rfl (aC (d:=8) rfl rfl (aI (o':=1) iQ rfl rfl rfl (aC (d:=8) rfl rfl (aJ isAgg9 rfl (aD (hS.at_ 0 rfl) rfl) rfl (aC (d:=8) rfl rfl ?_))))))))))))))))
 refine opV (lU (b:=false) rfl rfl (by rw [beq_self_eq_true];rfl)) rfl ?_
 refine aN rfl rfl rfl (aG (XF.thenN (bX rfl (aP (XF.thenN (aF (aF (aH (aI (o':=0) cV rfl rfl rfl (aJ isAgg59 rfl (aD (hS.at_ 0 rfl) rfl) rfl (aG (XF.thenN (aM (aF (aH (opV (bJ (c:=false) rfl rfl (by decide)) rfl (aB rfl rfl (aG (XF.thenN (bX rfl (aF (aF (aH (opV (bJ (c:=false) rfl rfl (by decide)) rfl (aB rfl rfl (aG (XF.thenN (bX rfl (aF (aH (opV (bJ (c:=false) rfl rfl (by decide)) rfl (aB rfl rfl (aG (XF.thenN (bX rfl (aH (opV (bJ (c:=false) rfl rfl (by decide)) rfl (aB rfl rfl (aG (XF.thenN (bX rfl (aF ?_))))))))))))))))))))))))))))))))))))))))))
 refine aF (aH (opV (bJ (c:=false) rfl rfl (by decide)) rfl (aB rfl rfl (aG (XF.thenN (bX rfl (aH (opV (bJ (c:=true) rfl rfl (by decide)) rfl (aB rfl rfl (aG (XF.thenN (cF rfl (aF (aF (aH (aI (o':=2) eC rfl rfl rfl (aJ isAgg60 rfl (aD (hS.at_ 0 rfl) rfl) rfl (bN underlying60 rfl rfl (aA rfl rfl (aG (XF.thenN (aM (cB (fun m l W=>∃ (i:Nat),i≤kl∧m=kl - i∧l=[(1,.pointer (some ⟨B1,0,none⟩)),(38,.slice ka kl kc),(39,.int .i64 (kl:Int)),(40,.int .i64 (i:Int))]∧St w [(B1,[.int .i64 6,.string ⟨#[]⟩,.slice ka kl kc],62)] [] [] W) (kl - 0) ([(1,_),(38,_),(39,_),(40,_)]) ⟨rfl,rfl,rfl,rfl,trivial⟩ (⟨0,Nat.zero_le _,rfl,rfl,hS.clear⟩) ?_)))))))))))))))))))))))
 clear hS
 rintro m l W ⟨i,hi,rfl,rfl,hS⟩
 refine aF (aH (bB rfl rfl rfl (aG (XF.thenN (aF (aV rfl (fun hc=>?_) (fun hc=>?_)))))))
 ·have hc41:=of_decide_eq_true hc;clear hc
  obtain ⟨k,hki⟩:∃ k,kids[i]?=some k:=⟨_,List.getElem?_eq_getElem (by omega)⟩
  have hkop:=hop k (List.mem_of_getElem? hki)
  obtain ⟨b,off,hka,hcs⟩:=hk i k hki
  obtain ⟨ko,kn,kka,kkl,kkc,kks⟩:=k
  have k1:aK W b (off+i * 3) [.int .i64 ko,.string kn,.slice kka kkl kkc]:=aK.agree (aW hS.below 0) (Nat.zero_le _) hcs
  replace hkop:ko≠6:=hkop
  refine aP (XF.thenN (aF (aM (aF (aH ?_)))))
  refine aL (j:=i) (b:=b) (o:=off) (m:=kl) (c:=kc) underlying60 sizeOf62 (by show some (Value.slice _ _ _)=_;rw [hka]) rfl rfl (by omega) rfl rfl ?_
  refine aQ (vs:=[_,_,_]) isAgg62 sizeOf62 rfl k1 rfl (bP (cs:=[_,_,_]) hS zeroValue62 rfl rfl fun B2 W2 hS=>bO (i:=0) (vs:=[_,_,_]) (cs':=[_,_,_]) (O':=[_,_]) hS sizeOf62 rfl rfl rfl rfl rfl rfl rfl fun W3 hS=>aG (XF.thenN (aF (aH (aI (o':=0) cV rfl rfl rfl (aJ isAgg59 rfl (aD (hS.at_ 0 rfl) rfl) rfl (aI (o':=0) cV rfl rfl rfl (aJ isAgg59 rfl (aD (hS.at_ 1 rfl) rfl) rfl (opV (bJ (c:=false) rfl rfl (decide_eq_false hkop)) rfl (aG (XF.thenN (bX rfl (aP (XF.blkN (XF.thenN (aH (aS rfl rfl (IntWalk.i64_in _ (by omega)) rfl (aA rfl rfl (aG ?_)))))))))))))))))))
  exact XF.round (kl - (i+1)) [(1,_),(38,_),(39,_),(40,_)] (by omega) ⟨rfl,rfl,rfl,rfl,trivial⟩ ⟨i+1,by omega,rfl,rfl,hS.tail.clear⟩
 ·have hc41:=of_decide_eq_false hc;clear hc
  refine bS (XF.thenX (XF.thenX (XF.blkX (XF.thenN (aF (aH (aI (o':=2) eC rfl rfl rfl (aJ isAgg60 rfl (aD (hS.at_ 0 rfl) rfl) rfl (bN underlying60 rfl rfl (eI rfl rfl rfl (aB rfl rfl (aG (XF.thenN (bK (XF.blkR (XF.thenR (XF.res (bT results70 rfl) ?_)))))))))))))))))
  exact ⟨eJ (decide_eq_true (by omega)),hS.below⟩
theorem rM (x:ReV) (w:World) (hx:ReIn w x) (hs:Shp x):Calls prog 70 #[x.val] w (fun e w'=>e = .returned (.bool true)∧Below w.heap.size w w'):=by
 cases hx with
 | @mk op nm ka kl kc kids h1 h2 h2c h3 h4 =>
  rcases hs with ⟨e1,e2,e3⟩ | ⟨e1,⟨e2,e3⟩ | ⟨e2,e3,e4⟩⟩
  ·change op=1 at e1
   change kids=[] at e3
   subst e1 e3
   obtain rfl:0=kl:=h1
   exact oJ nm ka kc e2 w
  ·change nm=_ at e1
   change op=3 at e2
   change kids=[] at e3
   subst e1 e2 e3
   obtain rfl:0=kl:=h1
   exact oK ka kc w
  ·change nm=_ at e1
   change op=5∨op=6 at e2
   subst e1
   rcases e2 with rfl | rfl
   ·exact oL ka kl kc kids w h1 h2 h3 e3 (by rw [← h1];exact e4)
   ·exact oM ka kl kc kids w h1 h2 h3 e3 (by rw [← h1];exact e4)
theorem qC:bA prog 55=true:=by kernel_rfl
theorem qD:bA prog 56=true:=by kernel_rfl
theorem goes_70:bA prog 70=true:=by kernel_rfl
theorem iX {α:Type} {a b c:α} {l:List α}:(a::b::c::l).Perm (c::a::b::l):=List.perm_middle (l₁:=[a,b]) (a:=c) (l₂:=l)
theorem oN (op:Int) (nm:ByteArray) (ka:Option Addr) (kl kc:Nat) (kids:List ReV) (w:World) (hX:ReIn w (.mk op nm ka kl kc kids)) (hs:Shp (.mk op nm ka kl kc kids)) (hih:∀ k∈kids,∀ w,ReIn w k→Calls prog 56 #[k.val] w (fun e w'=>e = .returned (.bool true)∧Below w.heap.size w w')) :
  Calls prog 56 #[.agg #[.int .i64 op,.string nm,.slice ka kl kc]] w (fun e w'=>e = .returned (.bool true)∧Below w.heap.size w w'):=by
 refine bH (args:=[.agg #[.int .i64 op,.string nm,.slice ka kl kc]]) func56 rfl ntmps56 rfl ?_
 have hS:=St.start w
 obtain ⟨hkl,hk5,hk,hk4⟩:kids.length=kl∧kl≤500∧(∀ (i:Nat) k,kids[i]?=some k→∃ b off,ka=some ⟨b,off,none⟩∧aK w b (off+i * 3) k.cells)∧∀ k∈kids,ReIn w k:=(by cases hX with | mk h1 h2 h2c h3 h4=>exact ⟨h1,h2,h3,h4⟩)
 refine aF (aH (bZ (cs:=[_,_,_]) hS rfl rfl rfl fun B1 W1 hS=>aB rfl rfl (aG (XF.thenN (aF (aF (aH (aI (o':=2) eC rfl rfl rfl (aJ isAgg60 rfl (aD (hS.at_ 0 rfl) rfl) rfl (bN underlying60 rfl rfl (aA rfl rfl (aG (XF.thenN (aM (cB (fun m l W=>∃ (i:Nat),i≤kl∧m=kl - i∧l=[(1,.pointer (some ⟨B1,0,none⟩)),(6,.slice ka kl kc),(7,.int .i64 (kl:Int)),(8,.int .i64 (i:Int))]∧St w [(B1,[.int .i64 op,.string nm,.slice ka kl kc],62)] [] [] W) (kl - 0) ([(1,_),(6,_),(7,_),(8,_)]) ⟨rfl,rfl,rfl,rfl,trivial⟩ (⟨0,Nat.zero_le _,rfl,rfl,hS.clear⟩) ?_)))))))))))))))
 clear hS
 rintro m l W ⟨i,hi,rfl,rfl,hS⟩
 refine aF (aH (bB rfl rfl rfl (aG (XF.thenN (aF (aV rfl (fun hc=>?_) (fun hc=>?_)))))))
 ·have hc9:=of_decide_eq_true hc;clear hc
  obtain ⟨k,hki⟩:∃ k,kids[i]?=some k:=⟨_,List.getElem?_eq_getElem (by omega)⟩
  have hkm:=List.mem_of_getElem? hki
  obtain ⟨b,off,hka,hcs0⟩:=hk i k hki
  have hcs:aK W b (off+i * 3) k.cells:=aK.agree (aW hS.below 0) (Nat.zero_le _) hcs0
  have hkx:=hk4 k hkm
  have hkc:=hih k hkm
  obtain ⟨ko,kn,kka,kkl,kkc,kks⟩:=k
  have k1:aK _ b (off+i * 3) [.int .i64 ko,.string kn,.slice kka kkl kkc]:=hcs
  refine aP (XF.thenN (aF (aM (aF (aH ?_)))))
  refine aL (j:=i) (b:=b) (o:=off) (m:=kl) (c:=kc) underlying60 sizeOf62 (by show some (Value.slice _ _ _)=_;rw [hka]) rfl rfl (by omega) rfl rfl ?_
  refine aQ (vs:=[_,_,_]) isAgg62 sizeOf62 rfl k1 rfl (bP (cs:=[_,_,_]) hS zeroValue62 rfl rfl fun B2 W2 hS=>bO (i:=0) (vs:=[_,_,_]) (cs':=[_,_,_]) (O':=[_,_]) hS sizeOf62 rfl rfl rfl rfl rfl rfl rfl fun W3 hS=>aG (XF.thenN (aF (aH (aQ (vs:=[_,_,_]) isAgg62 sizeOf62 rfl (aK.own (j:=0) (m:=3) (hS.at_ 0 rfl) rfl) rfl (bW (vs:=[_]) hS qD rfl (hkc _ (hkx.keep hS.below)) rfl fun W4 hS=>cW rfl rfl (aG (XF.thenN (bX rfl (aP (XF.blkN (XF.thenN (aH (aS rfl rfl (IntWalk.i64_in _ (by omega)) rfl (aA rfl rfl (aG ?_))))))))))))))))
  exact XF.round (kl - (i+1)) [(1,_),(6,_),(7,_),(8,_)] (by omega) ⟨rfl,rfl,rfl,rfl,trivial⟩ ⟨i+1,by omega,rfl,rfl,hS.tail.clear⟩
 ·have hc9:=of_decide_eq_false hc;clear hc
  refine bS (XF.thenX (XF.thenX (XF.blkX (XF.thenN (aF (aH (aQ (vs:=[_,_,_]) isAgg62 sizeOf62 rfl (aK.own (j:=0) (m:=3) (hS.at_ 0 rfl) rfl) rfl (bW (vs:=[_]) hS goes_70 rfl (rM (.mk op nm ka kl kc kids) _ (hX.keep hS.below) hs) rfl fun W5 hS=>aB rfl rfl (aG (XF.thenN (bK (XF.res (bT results56 rfl) ?_))))))))))))
  exact ⟨rfl,hS.below⟩
theorem tO (x:ReV) (hw:WellM x):∀ w,ReIn w x→Calls prog 56 #[x.val] w (fun e w'=>e = .returned (.bool true)∧Below w.heap.size w w'):=by
 induction hw with
 | @mk x h1 h2 ih =>
  intro w hx
  cases x with
  | mk op nm ka kl kc kids=>exact oN op nm ka kl kc kids w hx h2 ih
theorem oO (op:Int) (nm:ByteArray) (ka:Option Addr) (kl kc:Nat) (kids:List ReV) (d n NB:Nat) (f:Nat→Nat) (Kt:List (Nat×World)) (Ot:Own) (G:aU) (K:List (Nat×World)) (w0 w:World) (hS0:St w0 ((NB,[.int .i64 (n:Int)],3)::Ot) G K w) (hKt:∀ q∈Kt,q∈K) (hX:bV w0 Kt (fun W=>ReIn W (.mk op nm ka kl kc kids))) (hn:n+1≤500) (hd:d≤50) (hf0:f 0=n+1) (hih:∀ (i:Nat) k,kids[i]?=some k→∀ (NB:Nat) (Kt:List (Nat×World)) (Ot:Own) (G:aU) (K:List (Nat×World)) (w0 w:World),St w0 ((NB,[.int .i64 (f i:Int)],3)::Ot) G K w→(∀ q∈Kt,q∈K)→bV w0 Kt (fun W=>ReIn W k)→Calls prog 55 #[k.val,.int .i64 ((d+1:Nat):Int),.pointer (some ⟨NB,0,none⟩)] w (fun e w'=>e = .returned (.bool true)∧St w0 ((NB,[.int .i64 (f (i+1):Int)],3)::Ot) G K w')) :
  Calls prog 55 #[.agg #[.int .i64 op,.string nm,.slice ka kl kc],.int .i64 (d:Int),.pointer (some ⟨NB,0,none⟩)] w (fun e w'=>e = .returned (.bool true)∧St w0 ((NB,[.int .i64 (f kids.length:Int)],3)::Ot) G K w'):=by
 refine bH (args:=[.agg #[.int .i64 op,.string nm,.slice ka kl kc],.int .i64 (d:Int),.pointer (some ⟨NB,0,none⟩)]) func55 rfl ntmps55 rfl ?_
 have hS:=hS0
 obtain ⟨hkl,hk5⟩:kids.length=kl∧kl≤500:=(by cases hX hS0 hKt with | mk h1 h2 h2c h3 h4=>exact ⟨h1,h2⟩)
 have hk:bV w0 Kt (fun W=>∀ (i:Nat) k,kids[i]?=some k→∃ b off,ka=some ⟨b,off,none⟩∧aK W b (off+i * 3) k.cells):=fun h9 hk9=>(by cases hX h9 hk9 with | mk h1 h2 h2c h3 h4=>exact h3)
 have hk4:∀ k∈kids,bV w0 Kt (fun W=>ReIn W k):=fun k hk=>(show bV w0 Kt (fun W=>ReIn W k) from fun h9 hk9=>(by cases hX h9 hk9 with | mk h1 h2 h2c h3 h4=>exact h4 k hk))
 refine aF (aH (bZ (cs:=[_,_,_]) hS rfl rfl rfl fun B1 W1 hS=>aB rfl rfl (aG (XF.thenN (aF (aH (aA rfl rfl (bM rfl rfl (aJ isAgg3 rfl (aD (hS.at_ 1 rfl) rfl) rfl (aS rfl rfl (IntWalk.i64_in _ (by omega)) rfl (bM rfl rfl (bD (i:=1) (cs':=[_]) (O':=(_::_::Ot)) hS sizeOf3 rfl rfl rfl rfl rfl rfl rfl fun W2 hS=>aG (XF.thenN (aF (aF (aH (aA rfl rfl (bM rfl rfl (aJ isAgg3 rfl (aD (hS.at_ 1 rfl) rfl) rfl (dA rfl rfl rfl (aA rfl rfl (aZ (d:=18) rfl (fun hc=>?_) (fun hc=>?_)))))))))))))))))))))))
 ·have hg18:=of_decide_eq_true hc;clear hc
  refine aE (d:=18) rfl rfl rfl rfl (aE (d:=18) rfl rfl rfl rfl (aN rfl rfl rfl (aG (XF.thenN (cF rfl (aF (aH (aB rfl rfl (aG (XF.thenN (bK (XF.thenR (XF.res (bT results55 rfl) ?_)))))))))))))
  exfalso;omega
 ·have hg18:=of_decide_eq_false hc;clear hc
  refine aC (d:=18) rfl rfl (aA rfl rfl (aC (d:=18) rfl rfl (dA rfl rfl rfl (aR rfl rfl rfl (aG (XF.thenN (aV rfl (fun hc=>?_) (fun hc=>?_))))))))
  ·have hc21:=of_decide_eq_true hc;clear hc
   refine aF (aH (aB rfl rfl (aG (XF.thenN (bK (XF.thenR (XF.res (bT results55 rfl) ?_)))))))
   exfalso;omega
  ·have hc21:=of_decide_eq_false hc;clear hc
   refine aP (XF.thenN (aF (aF ?_)))
   have e0:(n:Int)+1=(f 0:Int):=by omega
   rw [e0] at hS
   refine aH (aI (o':=2) eC rfl rfl rfl (aJ isAgg60 rfl (aD (hS.at_ 0 rfl) rfl) rfl (bN underlying60 rfl rfl (aA rfl rfl (aG (XF.thenN (aM (cB (fun m l W=>∃ (i:Nat),i≤kl∧m=kl - i∧l=[(1,.int .i64 (d:Int)),(2,.pointer (some ⟨NB,0,none⟩)),(23,.slice ka kl kc),(24,.int .i64 (kl:Int)),(25,.int .i64 (i:Int))]∧St w0 ((B1,[.int .i64 op,.string nm,.slice ka kl kc],62)::(NB,[.int .i64 (f i:Int)],3)::Ot) G K W) (kl - 0) ([(1,_),(2,_),(23,_),(24,_),(25,_)]) ⟨rfl,rfl,rfl,rfl,rfl,trivial⟩ (⟨0,Nat.zero_le _,rfl,rfl,hS.keep K (fun q hq=>by simp [hq])⟩) ?_))))))))
   clear hS
   rintro m l W ⟨i,hi,rfl,rfl,hS⟩
   refine aF (aH (bB rfl rfl rfl (aG (XF.thenN (aF (aV rfl (fun hc=>?_) (fun hc=>?_)))))))
   ·have hc26:=of_decide_eq_true hc;clear hc
    obtain ⟨k,hki⟩:∃ k,kids[i]?=some k:=⟨_,List.getElem?_eq_getElem (by omega)⟩
    have hkm:=List.mem_of_getElem? hki
    obtain ⟨b,off,hka,hcs⟩:=hk (hS.keep K (fun q hq=>by simp [hq])) hKt i k hki
    have hkx:bV w0 Kt (fun W=>ReIn W k):=hk4 k hkm
    have hkc:=hih i k hki
    obtain ⟨ko,kn,kka,kkl,kkc,kks⟩:=k
    have k1:aK _ b (off+i * 3) [.int .i64 ko,.string kn,.slice kka kkl kkc]:=hcs
    refine aP (XF.thenN (aF (aM (aF (aH ?_)))))
    refine aL (j:=i) (b:=b) (o:=off) (m:=kl) (c:=kc) underlying60 sizeOf62 (by show some (Value.slice _ _ _)=_;rw [hka]) rfl rfl (by omega) rfl rfl ?_
    refine aQ (vs:=[_,_,_]) isAgg62 sizeOf62 rfl k1 rfl (bP (cs:=[_,_,_]) hS zeroValue62 rfl rfl fun B3 W3 hS=>bO (i:=0) (vs:=[_,_,_]) (cs':=[_,_,_]) (O':=(_::_::_::Ot)) hS sizeOf62 rfl rfl rfl rfl rfl rfl rfl fun W4 hS=>aG (XF.thenN (aF (aH (aQ (vs:=[_,_,_]) isAgg62 sizeOf62 rfl (aK.own (j:=0) (m:=3) (hS.at_ 0 rfl) rfl) rfl (aA rfl rfl (aS rfl rfl (IntWalk.i64_in _ (by omega)) rfl (aA rfl rfl (aX (vs:=[_,_,_]) qC rfl (hkc NB Kt _ G K w0 _ ((hS.keep K (fun q hq=>by simp [hq])).perm iX) hKt hkx) rfl ?_)))))))))
    rintro e W9 ⟨rfl,hS9⟩
    refine ⟨_,rfl,?_⟩
    clear hS;have hS:=hS9.perm iX.symm;clear hS9
    refine cW rfl rfl (aG (XF.thenN (bX rfl (aP (XF.blkN (XF.thenN (aH (aS rfl rfl (IntWalk.i64_in _ (by omega)) rfl (aA rfl rfl (aG ?_))))))))))
    exact XF.round (kl - (i+1)) [(1,_),(2,_),(23,_),(24,_),(25,_)] (by omega) ⟨rfl,rfl,rfl,rfl,rfl,trivial⟩ ⟨i+1,by omega,rfl,rfl,hS.tail.keep K (fun q hq=>by simp [hq])⟩
   ·have hc26:=of_decide_eq_false hc;clear hc
    obtain rfl:i=kl:=by omega
    refine bS (XF.thenX (XF.thenX (XF.blkX (XF.thenN (aF (aH (aB rfl rfl (aG (XF.thenN (bK (XF.res (bT results55 rfl) ?_)))))))))))
    rw [hkl]
    exact ⟨rfl,(hS.keep K (fun q hq=>by simp [hq])).tail⟩
theorem tP {x:ReV} {d n n2:Nat} (hF:FitsR x d n n2):∀ (NB:Nat) (Kt:List (Nat×World)) (Ot:Own) (G:aU) (K:List (Nat×World)) (w0 w:World),St w0 ((NB,[.int .i64 (n:Int)],3)::Ot) G K w→(∀ q∈Kt,q∈K)→bV w0 Kt (fun W=>ReIn W x)→Calls prog 55 #[x.val,.int .i64 (d:Int),.pointer (some ⟨NB,0,none⟩)] w (fun e w'=>e = .returned (.bool true)∧St w0 ((NB,[.int .i64 (n2:Int)],3)::Ot) G K w'):=by
 induction hF with
 | @mk x d n f h1 h2 h3 h4 ih =>
  intro NB Kt Ot G K w0 w hS0 hKt hX
  cases x with
  | mk op nm ka kl kc kids=>exact oO op nm ka kl kc kids d n NB f Kt Ot G K w0 w hS0 hKt hX h1 h2 h3 ih
theorem kG (op:Int) (nm:ByteArray) (ka:Option Addr) (kl kc:Nat) (kids:List ReV) (n2:Nat) (w:World) (hX:ReIn w (.mk op nm ka kl kc kids)) (hF:FitsR (.mk op nm ka kl kc kids) 1 0 n2) (hw:WellM (.mk op nm ka kl kc kids)) :
  Calls prog 47 #[.agg #[.int .i64 op,.string nm,.slice ka kl kc]] w (fun e w'=>e = .returned (.int .i64 0)∧Below w.heap.size w w'):=by
 refine bH (args:=[.agg #[.int .i64 op,.string nm,.slice ka kl kc]]) func47 rfl ntmps47 rfl ?_
 have hS:=St.start w
 refine aF (aH (bZ (cs:=[_,_,_]) hS rfl rfl rfl fun B1 W1 hS=>aB rfl rfl (aG (XF.thenN (aF (aH (bP (cs:=[_]) hS zeroValue3 rfl rfl fun B2 W2 hS=>bD (i:=0) (cs':=[_]) (O':=[_,_]) hS sizeOf3 rfl rfl rfl rfl rfl rfl rfl fun W3 hS=>aG (XF.thenN (aF (aF (aH (aQ (vs:=[_,_,_]) isAgg62 sizeOf62 rfl (aK.own (j:=0) (m:=3) (hS.at_ 1 rfl) rfl) rfl (aX (vs:=[_,_,_]) qC rfl (tP hF B2 [] _ [] [] w _ (hS.keep [] (fun q hq=>by cases hq)) (fun q hq=>hq) (fun h9 hk9=>hX.keep h9.below)) rfl ?_)))))))))))))
 rintro e W9 ⟨rfl,hS9⟩
 refine ⟨_,rfl,?_⟩
 clear hS;have hS:=hS9;clear hS9
 refine cW rfl rfl (aG (XF.thenN (bX rfl (aP (XF.thenN (aF (aF (aH (aQ (vs:=[_,_,_]) isAgg62 sizeOf62 rfl (aK.own (j:=0) (m:=3) (hS.at_ 1 rfl) rfl) rfl (bW (vs:=[_]) hS qD rfl (tO (.mk op nm ka kl kc kids) hw _ (hX.keep hS.below)) rfl fun W4 hS=>cW rfl rfl (aG (XF.thenN (bX rfl (aP (XF.thenN (aF (aH (aB rfl rfl (aG (XF.thenN (bK (XF.res (bT results47 rfl) ?_))))))))))))))))))))))
 exact ⟨rfl,hS.below⟩
theorem hQ (v0:Int) (v1:ByteArray):prog.built 62 [(0,.int .i64 v0),(1,.string v1)]=some #[.int .i64 v0,.string v1,.slice none 0 0]:=by kernel_rfl
theorem qE:bA prog 47=true:=by kernel_rfl
def lV:List ByteArray:=[⟨#[97]⟩,⟨#[98]⟩]
def kO:Nat→List (List UInt8×Int)
 | 0=>[]
 | 1=>[([97],0)]
 | _=>[([98],1),([97],0)]
theorem tQ {i:Nat} (h:i≤2):(kO i).length=i:=by
 match i,h with
 | 0,_=>rfl
 | 1,_=>rfl
 | 2,_=>rfl
theorem nsAB_at {i:Nat} {s:ByteArray} (h:lV[i]?=some s):oI s∧s.size≤maxLen∧(kO i).any (fun p=>decide (p.1=s.data.toList))=false∧(s.data.toList,(i:Int))::kO i=kO (i+1):=by
 match i,h with
 | 0,h =>
  obtain rfl:(⟨#[97]⟩:ByteArray)=s:=by simpa [lV] using h
  exact ⟨.inl rfl,by decide,rfl,rfl⟩
 | 1,h =>
  obtain rfl:(⟨#[98]⟩:ByteArray)=s:=by simpa [lV] using h
  exact ⟨.inr rfl,by decide,by decide,rfl⟩
 | i+2,h=>simp [lV] at h
theorem lW {W:World} {s:ByteArray} (h:oI s):ReIn W (.mk 1 s none 0 0 [])∧FitsR (.mk 1 s none 0 0 []) 1 0 1∧WellM (.mk 1 s none 0 0 []) :=
 ⟨.mk rfl (by omega) (Nat.le_refl _) (fun i k hi=>by simp at hi) (fun k hk=>by cases hk),FitsR.mk (x:=.mk 1 s none 0 0 []) (f:=fun _=>1) (by omega) (by omega) rfl (fun i k hi=>by simp [ReV.kids] at hi),.mk (fun k hk=>by cases hk) (.inl ⟨rfl,h,rfl⟩)⟩
theorem rN (na:Option Addr) (nc:Nat) (w:World) (hN:tN w na lV) :
  Calls prog 48 #[.slice na 2 nc] w (fun e w'=>∃ MB:Nat,e = .returned (.tuple #[.map (some MB),.bool true])∧MsI MB (kO 2) w'∧w.heap.size≤MB∧Below w.heap.size w w'):=by
 refine bH (args:=[.slice na 2 nc]) func48 rfl ntmps48 rfl ?_
 have hS:=St.start w
 refine aF (aH (aB rfl rfl (aB rfl rfl (aG (XF.thenN (aF (aH ?_)))))))
 have hsz0:=hS.below.size
 refine nT hS rfl ?_
 intro MB W9 hMB0 hlo hS9
 have hM0:=MsI.made hMB0
 clear hS;have hS:=hS9.clear;clear hS9
 refine aB rfl rfl (aG (XF.thenN (aF (aF (aH (aA rfl rfl (bN underlying77 rfl rfl (aA rfl rfl (aG (XF.thenN (aM (cB (fun m l W=>∃ (i:Nat),i≤2∧m=2 - i∧l=[(0,.slice na 2 nc),(4,.map (some MB)),(8,.slice na 2 nc),(9,.int .i64 ((2:Nat):Int)),(10,.int .i64 (i:Int))]∧MsI MB (kO i) W∧St w [] [] [] W) (2 - 0) ([(0,_),(4,_),(8,_),(9,_),(10,_)]) ⟨rfl,rfl,rfl,rfl,rfl,trivial⟩ (⟨0,Nat.zero_le _,rfl,rfl,hM0,hS.clear⟩) ?_))))))))))))
 clear hS
 have hlo9:w.heap.size≤MB:=Nat.le_trans hsz0 hlo
 rintro m l W ⟨i,hi,rfl,rfl,hM,hS⟩
 refine aF (aH (bB rfl rfl rfl (aG (XF.thenN (aF (aV rfl (fun hc=>?_) (fun hc=>?_)))))))
 ·have hc11:=of_decide_eq_true hc;clear hc
  obtain ⟨s,hs⟩:∃ s,lV[i]?=some s:=⟨_,List.getElem?_eq_getElem (show i < 2 by omega)⟩
  obtain ⟨hs1,hs2,hs3,hs4⟩:=nsAB_at hs
  obtain ⟨b,off,hna,hcs⟩:=hN i s hs
  have k1:=hS.old hcs
  have hlen9:=tQ hi
  refine aP (XF.thenN (aF (aM (aF (aH (aA rfl rfl ?_))))))
  refine aL (j:=i) (b:=b) (o:=off) (m:=2) (c:=nc) underlying77 sizeOf9 (by show some (Value.slice _ _ _)=_;rw [hna]) rfl rfl (by omega) rfl rfl ?_
  refine aJ isAgg9 rfl (k1) rfl (aB rfl rfl (aB rfl rfl (aG (XF.thenN (aF (aF (aH (aA rfl rfl (dI (us:=[(0,.int .i64 _),(1,.string _)]) rfl (hQ _ _) rfl (dU (vs:=[_]) hS qE rfl (kG 1 s none 0 0 [] 1 _ (lW (W:=W) hs1).1 (lW (W:=W) hs1).2.1 (lW (W:=W) hs1).2.2) rfl ?_))))))))))
  rintro e W1 ⟨rfl,hb⟩
  refine ⟨_,rfl,hb,fun hS'=>?_⟩
  clear hS;have hS:=hS';clear hS'
  have hM2:=hM.below hb
  clear hb
  refine opV (gL (c:=false) rfl rfl (by decide)) rfl (aG (XF.thenN (bX rfl (aP (XF.thenN (aH (aA rfl rfl (aA rfl rfl (aA rfl rfl ?_)))))))))
  refine oH hS.clear hM2 hs2 (by rcases (by omega:i=0∨i=1) with rfl | rfl<;>rfl) hs3 (by rw [hlen9];simp only [maxLen];omega) hlo9 (fun q hq=>by cases hq) rfl rfl rfl ?_
  intro W95 hS9 hM3
  rw [hs4] at hM3
  clear hS;have hS:=hS9;clear hS9
  refine aG (XF.blkN (XF.thenN (aH (aS rfl rfl (IntWalk.i64_in _ (by omega)) rfl (aA rfl rfl (aG ?_))))))
  exact XF.round (2 - (i+1)) [(0,_),(4,_),(8,_),(9,_),(10,_)] (by omega) ⟨rfl,rfl,rfl,rfl,rfl,trivial⟩ ⟨i+1,by omega,rfl,rfl,hM3,hS.clear⟩
 ·have hc11:=of_decide_eq_false hc;clear hc
  obtain rfl:i=2:=by omega
  refine bS (XF.thenX (XF.thenX (XF.blkX (XF.thenN (aF (aH (aA rfl rfl (aA rfl rfl (opV (nC hM rfl) rfl (aA rfl rfl (bN underlying77 rfl rfl (opV (bJ (c:=true) rfl rfl (by decide)) rfl (aB rfl rfl (aB rfl rfl (aG (XF.thenN (bK (XF.res (nK results48 rfl rfl) ?_))))))))))))))))))
  exact ⟨MB,rfl,hM,hlo9,hS.below⟩
theorem dL (w:World) (b o:Nat):(Instr.fieldAt 94 (.pointer (some ⟨b,o,none⟩)) 0).run prog w = .ok (.pointer (some ⟨b,o+0,none⟩)) w:=by
 simp [Instr.fieldAt,run_underlying underlying94,Instr.sureAddr,go_sem,Addr.add_lit]
theorem fM (w:World) (b o:Nat):(Instr.fieldAt 94 (.pointer (some ⟨b,o,none⟩)) 2).run prog w = .ok (.pointer (some ⟨b,o+6,none⟩)) w:=by
 simp [Instr.fieldAt,run_underlying underlying94,Instr.sureAddr,go_sem,Addr.add_lit]
inductive Lay (es:List (List UInt8×Int)):ReV→Int→Int→Nat→List ArV→Nat→List ArV→Prop
 | name {x:ReV} {f t v:Int} {n:Nat} {L:List ArV}:x.op=1→x.nm.size≤maxLen→es.find? (fun p=>decide (p.1=x.nm.data.toList))=some (x.nm.data.toList,v)→L.length < 65536→Lay es x f t n L n (L++[⟨f,v,t⟩])
 | emp {x:ReV} {f t:Int} {n:Nat} {L:List ArV}:x.op=3→L.length < 65536→Lay es x f t n L n (L++[⟨f,-1,t⟩])
 | seq {x:ReV} {f t:Int} {k n2:Nat} {L2:List ArV} (fr:Nat→Int) (sn:Nat→Nat) (sL:Nat→List ArV):x.op=5→x.kids.length=k+1→fr 0=f→(∀ i,i < k→sn i < 4096∧fr (i+1)=(sn i:Int)) →
   (∀ (i:Nat) c,i < k→x.kids[i]?=some c→Lay es c (fr i) (fr (i+1)) (sn i+1) (sL i) (sn (i+1)) (sL (i+1)))→(∀ c,x.kids[k]?=some c→Lay es c (fr k) t (sn k) (sL k) n2 L2)→Lay es x f t (sn 0) (sL 0) n2 L2
 | alt {x:ReV} {f t:Int} (sn:Nat→Nat) (sL tL:Nat→List ArV):x.op=6→(∀ i,i < x.kids.length→sn i+2≤4096∧(sL i).length < 65536∧(tL i).length < 65536∧sL (i+1)=tL i++[⟨(sn i:Int)+1,-1,t⟩]) →
   (∀ (i:Nat) c,x.kids[i]?=some c→Lay es c (sn i:Int) ((sn i:Int)+1) (sn i+2) (sL i++[⟨f,-1,(sn i:Int)⟩]) (sn (i+1)) (tL i))→Lay es x f t (sn 0) (sL 0) (sn x.kids.length) (sL x.kids.length)
theorem eP (BB MB n:Nat) (sy s0 e0:Int) (v4:Value) (Ot:Own) (G:aU) (K:List (Nat×World)) (w0 w:World) (hS0:St w0 ((BB,[.int .i64 (n:Int),.int .i64 sy,.int .i64 s0,.int .i64 e0,v4,.map (some MB),.bool false],94)::Ot) G K w) (hn:n < 4096) :
  Calls prog 57 #[.pointer (some ⟨BB,0,none⟩)] w (fun e w'=>e = .returned (.int .i64 (n:Int))∧St w0 ((BB,[.int .i64 ((n+1:Nat):Int),.int .i64 sy,.int .i64 s0,.int .i64 e0,v4,.map (some MB),.bool false],94)::Ot) G K w'):=by
 refine bH (args:=[.pointer (some ⟨BB,0,none⟩)]) func57 rfl ntmps57 rfl ?_
 have hS:=hS0
 refine aF (aH (aB rfl rfl (aG (XF.thenN (aF (aF (aH (aA rfl rfl (bM rfl rfl (aI (o':=0) dL rfl rfl rfl (aI (o':=0) cR rfl rfl rfl (aJ isAgg3 rfl (aD (hS.at_ 0 rfl) rfl) rfl (dB rfl rfl rfl (aG (XF.thenN (aV rfl (fun hc=>?_) (fun hc=>?_)))))))))))))))))
 ·have hc8:=of_decide_eq_true hc;clear hc
  refine aF (aH (aA rfl rfl (bM rfl rfl (aI (o':=6) fM rfl rfl rfl (bD (i:=0) (cs':=[_,_,_,_,_,_,_]) (O':=(_::Ot)) hS sizeOf4 rfl rfl rfl rfl rfl rfl rfl fun W1 hS=>aG (XF.thenN (aF (aH (aB rfl rfl (aG (XF.thenN (bK (XF.thenR (XF.res (bT results57 rfl) ?_))))))))))))))
  exfalso;omega
 ·have hc8:=of_decide_eq_false hc;clear hc
  refine aP (XF.thenN (aF (aH (aA rfl rfl (bM rfl rfl (aI (o':=0) dL rfl rfl rfl (aI (o':=0) cR rfl rfl rfl (aJ isAgg3 rfl (aD (hS.at_ 0 rfl) rfl) rfl (aS rfl rfl (IntWalk.i64_in _ (by omega)) rfl (bM rfl rfl (aI (o':=0) dL rfl rfl rfl (aI (o':=0) cR rfl rfl rfl (bD (i:=0) (cs':=[_,_,_,_,_,_,_]) (O':=(_::Ot)) hS sizeOf3 rfl rfl rfl rfl rfl rfl rfl fun W2 hS=>aG (XF.thenN (aF (aH (aA rfl rfl (bM rfl rfl (aI (o':=0) dL rfl rfl rfl (aI (o':=0) cR rfl rfl rfl (aJ isAgg3 rfl (aD (hS.at_ 0 rfl) rfl) rfl (gU rfl rfl (IntWalk.i64_in _ (by omega)) rfl (aB rfl rfl (aG (XF.thenN (bK (XF.res (bT results57 rfl) ?_)))))))))))))))))))))))))))
  have e9:(n:Int)+1 - 1=(n:Int):=by omega
  have e8:(n:Int)+1=((n+1:Nat):Int):=by omega
  refine ⟨?_,?_⟩
  ·rw [e9]
  ·rw [← e8];exact hS.keep K (fun q hq=>by simp [hq])
theorem jI (BB MB n:Nat) (sy s0 e0:Int) (f x t:Int) (L:List ArV) (wa:Option Addr) (wc:Nat) (Ot:Own) (G:aU) (K:List (Nat×World)) (w0 w:World) (hS0:St w0 ((BB,[.int .i64 (n:Int),.int .i64 sy,.int .i64 s0,.int .i64 e0,.slice wa L.length wc,.map (some MB),.bool false],94)::Ot) (⟨.slice wa (L).length wc,(L).length,(L).flatMap ArV.three,57,3⟩::G) K w) (hL:L.length < 65536) :
  Calls prog 71 #[.pointer (some ⟨BB,0,none⟩),.int .i64 f,.int .i64 x,.int .i64 t] w (fun e w'=>e = .returned (.tuple #[])∧∃ (wa:Option Addr) (wc:Nat),St w0 ((BB,[.int .i64 ((n:Nat):Int),.int .i64 sy,.int .i64 s0,.int .i64 e0,.slice wa (L++[ArV.mk f x t]).length wc,.map (some MB),.bool false],94)::Ot) (⟨.slice wa (L++[ArV.mk f x t]).length wc,(L++[ArV.mk f x t]).length,(L++[ArV.mk f x t]).flatMap ArV.three,57,3⟩::G) K w'):=by
 refine bH (args:=[.pointer (some ⟨BB,0,none⟩),.int .i64 f,.int .i64 x,.int .i64 t]) func71 rfl ntmps71 rfl ?_
 have hS:=hS0
 refine aF (aF (aH (aA rfl rfl (bM rfl rfl (aI (o':=0) dL rfl rfl rfl (aI (o':=4) cJ rfl rfl rfl (aJ isAgg22 rfl (aD (hS.at_ 0 rfl) rfl) rfl (bN underlying22 rfl rfl (dB rfl rfl rfl (aG (XF.thenN (aV rfl (fun hc=>?_) (fun hc=>?_)))))))))))))
 ·have hc14:=of_decide_eq_true hc;clear hc
  refine aF (aH (aA rfl rfl (bM rfl rfl (aI (o':=6) fM rfl rfl rfl (bD (i:=0) (cs':=[_,_,_,_,_,_,_]) (O':=(_::Ot)) hS sizeOf4 rfl rfl rfl rfl rfl rfl rfl fun W1 hS=>aG (XF.thenN (bK (XF.thenR (XF.res (lB results71) ?_)))))))))
  exfalso;omega
 ·have hc14:=of_decide_eq_false hc;clear hc
  refine aP (XF.thenN (aH (aA rfl rfl (aA rfl rfl (bM rfl rfl (aI (o':=0) dL rfl rfl rfl (aI (o':=4) cJ rfl rfl rfl (aJ isAgg22 rfl (aD (hS.at_ 0 rfl) rfl) rfl (aA rfl rfl (aA rfl rfl (aA rfl rfl (dI (us:=[(0,.int .i64 _),(1,.int .i64 _),(2,.int .i64 _)]) rfl (iM _ _ _) rfl (bL (us:=[(0,.agg (List.toArray [_,_,_]))]) hS underlying22 sizeOf57 zeroValue57 rfl rfl rfl (pN _ _ _) rfl fun B2 W2 hS=>?_)))))))))))))
  refine dY (i:=0) (news:=[_,_,_]) hS underlying22 oB rfl rfl (by show 0 < 3;decide) rfl rfl rfl rfl rfl (aK.own (j:=0) (m:=3) (hS.at_ 0 rfl) rfl) rfl rfl (by dsimp only;simp only [maxLen];omega) (by dsimp only;show _ * 24≤_;omega) rfl fun v3 W3 hS=>?_
  obtain ⟨wa8,wc8,e9,_⟩:=cM (hS.row 0 rfl)
  dsimp only at e9
  subst e9
  have hS9:=hS.castG (G':=(⟨.slice wa8 (L++[ArV.mk f x t]).length wc8,(L++[ArV.mk f x t]).length,(L++[ArV.mk f x t]).flatMap ArV.three,57,3⟩::G)) (by show GR.mk _ _ (L.flatMap ArV.three++[Value.int .i64 _,_,_]) _ _::_=_;simp)
  clear hS;have hS:=hS9;clear hS9
  refine bM rfl rfl (aI (o':=0) dL rfl rfl rfl (aI (o':=4) cJ rfl rfl rfl (bD (i:=1) (cs':=[_,_,_,_,_,_,_]) (O':=(_::_::Ot)) hS sizeOf22 rfl rfl rfl rfl rfl rfl rfl fun W4 hS=>aG (XF.resN (lB results71) (⟨rfl,wa8,wc8,?_⟩)))))
  have e8:(L++[ArV.mk f x t]).length=L.length+1:=by simp
  have hS9:=hS.tail.castO (O':=((BB,[.int .i64 (n:Int),.int .i64 sy,.int .i64 s0,.int .i64 e0,.slice wa8 (L++[ArV.mk f x t]).length wc8,.map (some MB),.bool false],94)::Ot)) (by rw [e8])
  exact hS9.keep K (fun q hq=>by simp [hq])
theorem iS:bA prog 57=true:=by kernel_rfl
theorem jJ:bA prog 58=true:=by kernel_rfl
theorem jK:bA prog 71=true:=by kernel_rfl
def oP (es:List (List UInt8×Int)) (x:ReV) (f t:Int) (n:Nat) (L:List ArV) (n2:Nat) (L2:List ArV):Prop:=∀ (BB MB:Nat) (sy s0 e0:Int) (wa:Option Addr) (wc:Nat) (Kt:List (Nat×World)) (Ot:Own) (G:aU) (K:List (Nat×World)) (w0 w:World),St w0 ((BB,[.int .i64 ((n:Nat):Int),.int .i64 sy,.int .i64 s0,.int .i64 e0,.slice wa (L).length wc,.map (some MB),.bool false],94)::Ot) (⟨.slice wa (L).length wc,(L).length,(L).flatMap ArV.three,57,3⟩::G) K w→(∀ q∈Kt,q∈K)→bV w0 Kt (fun W=>ReIn W x)→bV w0 Kt (fun W=>MsI MB es W)→Calls prog 58 #[.pointer (some ⟨BB,0,none⟩),x.val,.int .i64 f,.int .i64 t] w (fun e w'=>e = .returned (.tuple #[])∧∃ (wa:Option Addr) (wc:Nat),St w0 ((BB,[.int .i64 ((n2:Nat):Int),.int .i64 sy,.int .i64 s0,.int .i64 e0,.slice wa (L2).length wc,.map (some MB),.bool false],94)::Ot) (⟨.slice wa (L2).length wc,(L2).length,(L2).flatMap ArV.three,57,3⟩::G) K w')
theorem rO (BB MB n:Nat) (sy s0 e0:Int) (L L2:List ArV) (n2:Nat) (wa:Option Addr) (wc:Nat) (op:Int) (nm:ByteArray) (ka:Option Addr) (kl kc:Nat) (kids:List ReV) (f:Int) (es:List (List UInt8×Int)) (Kt:List (Nat×World)) (Ot:Own) (G:aU) (K:List (Nat×World)) (w0 w:World) (hS0:St w0 ((BB,[.int .i64 ((n:Nat):Int),.int .i64 sy,.int .i64 s0,.int .i64 e0,.slice wa (L).length wc,.map (some MB),.bool false],94)::Ot) (⟨.slice wa (L).length wc,(L).length,(L).flatMap ArV.three,57,3⟩::G) K w) (hKt:∀ q∈Kt,q∈K) (hM:bV w0 Kt (fun W=>MsI MB es W)) (hX:bV w0 Kt (fun W=>ReIn W (.mk op nm ka kl kc kids))) (hn:n+2≤4096) (hL:L.length < 65536) (hc:oP es (.mk op nm ka kl kc kids) (n:Int) ((n:Int)+1) (n+2) (L++[⟨f,-1,(n:Int)⟩]) n2 L2) :
  Calls prog 73 #[.pointer (some ⟨BB,0,none⟩),.agg #[.int .i64 op,.string nm,.slice ka kl kc],.int .i64 f] w (fun e w'=>e = .returned (.tuple #[.int .i64 (n:Int),.int .i64 ((n:Int)+1)])∧∃ (wa:Option Addr) (wc:Nat),St w0 ((BB,[.int .i64 ((n2:Nat):Int),.int .i64 sy,.int .i64 s0,.int .i64 e0,.slice wa (L2).length wc,.map (some MB),.bool false],94)::Ot) (⟨.slice wa (L2).length wc,(L2).length,(L2).flatMap ArV.three,57,3⟩::G) K w'):=by
 refine bH (args:=[.pointer (some ⟨BB,0,none⟩),.agg #[.int .i64 op,.string nm,.slice ka kl kc],.int .i64 f]) func73 rfl ntmps73 rfl ?_
 have hS:=hS0
 refine aF (aH (bZ (cs:=[_,_,_]) hS rfl rfl rfl fun B1 W1 hS=>aB rfl rfl (aB rfl rfl (aG (XF.thenN (aF (aH (aA rfl rfl (aX (vs:=[_]) iS rfl (eP BB MB (n) sy s0 e0 (.slice wa L.length wc) _ _ K w0 _ ((hS.keep K (fun q hq=>by simp [hq])).perm (List.Perm.swap _ _ _)) (by omega)) rfl ?_)))))))))
 rintro e W9 ⟨rfl,hS9⟩
 refine ⟨_,rfl,?_⟩
 clear hS;have hS:=hS9.perm (List.Perm.swap _ _ _);clear hS9
 refine aA rfl rfl (aX (vs:=[_]) iS rfl (eP BB MB (n+1) sy s0 e0 (.slice wa L.length wc) _ _ K w0 _ ((hS.keep K (fun q hq=>by simp [hq])).perm (List.Perm.swap _ _ _)) (by omega)) rfl ?_)
 rintro e W9 ⟨rfl,hS9⟩
 refine ⟨_,rfl,?_⟩
 clear hS;have hS:=hS9.perm (List.Perm.swap _ _ _);clear hS9
 refine aB rfl rfl (aB rfl rfl (aG (XF.thenN (aF (aH (aA rfl rfl (aA rfl rfl (aA rfl rfl (aX (vs:=[_,_,_,_]) jK rfl (jI BB MB (n+2) sy s0 e0 (f) (-1) ((n:Int)) (L) _ _ _ _ K w0 _ ((hS.keep K (fun q hq=>by simp [hq])).perm (List.Perm.swap _ _ _)) (by omega)) rfl ?_)))))))))
 rintro e W9 ⟨rfl,wa1,wc1,hS9⟩
 refine ⟨_,rfl,?_⟩
 clear hS;have hS:=hS9.perm (List.Perm.swap _ _ _);clear hS9
 refine aG (XF.thenN (aF (aH (aA rfl rfl (aQ (vs:=[_,_,_]) isAgg62 sizeOf62 rfl (aK.own (j:=0) (m:=3) (hS.at_ 0 rfl) rfl) rfl (aA rfl rfl (aA rfl rfl (aX (vs:=[_,_,_,_]) jJ rfl (hc BB MB sy s0 e0 _ _ Kt _ _ K w0 _ ((hS.keep K (fun q hq=>by simp [hq])).perm (List.Perm.swap _ _ _)) hKt hX hM) rfl ?_))))))))
 rintro e W9 ⟨rfl,wa2,wc2,hS9⟩
 refine ⟨_,rfl,?_⟩
 clear hS;have hS:=hS9.perm (List.Perm.swap _ _ _);clear hS9
 refine aG (XF.thenN (aF (aH (aA rfl rfl (aA rfl rfl (aB rfl rfl (aB rfl rfl (aG (XF.thenN (bK (XF.res (nK results73 rfl rfl) ?_)))))))))))
 exact ⟨rfl,wa2,wc2,(hS.keep K (fun q hq=>by simp [hq])).tail⟩
theorem rP (BB MB n2 k:Nat) (sy s0 e0:Int) (L2:List ArV) (wa:Option Addr) (wc:Nat) (ka:Option Addr) (kl kc:Nat) (kids:List ReV) (f t:Int) (fr:Nat→Int) (sn:Nat→Nat) (sL:Nat→List ArV) (es:List (List UInt8×Int)) (Kt:List (Nat×World)) (Ot:Own) (G:aU) (K:List (Nat×World)) (w0 w:World) (hS0:St w0 ((BB,[.int .i64 ((sn 0:Nat):Int),.int .i64 sy,.int .i64 s0,.int .i64 e0,.slice wa (sL 0).length wc,.map (some MB),.bool false],94)::Ot) (⟨.slice wa (sL 0).length wc,(sL 0).length,(sL 0).flatMap ArV.three,57,3⟩::G) K w) (hKt:∀ q∈Kt,q∈K) (hM:bV w0 Kt (fun W=>MsI MB es W)) (hk3:bV w0 Kt (fun W=>∀ (i:Nat) k,kids[i]?=some k→∃ b off,ka=some ⟨b,off,none⟩∧aK W b (off+i * 3) k.cells)) (hk4:∀ k∈kids,bV w0 Kt (fun W=>ReIn W k)) (hkl:kids.length=kl) (hk5:kl≤500) (hkc:kl≤kc) (hkk:kl=k+1) (hf0:fr 0=f) (h1:∀ i,i < k→sn i < 4096∧fr (i+1)=(sn i:Int)) (h2:∀ (i:Nat) c,i < k→kids[i]?=some c→oP es c (fr i) (fr (i+1)) (sn i+1) (sL i) (sn (i+1)) (sL (i+1))) (h3:∀ c,kids[k]?=some c→oP es c (fr k) t (sn k) (sL k) n2 L2) :
  Calls prog 72 #[.pointer (some ⟨BB,0,none⟩),.slice ka kl kc,.int .i64 f,.int .i64 t] w (fun e w'=>e = .returned (.tuple #[])∧∃ (wa:Option Addr) (wc:Nat),St w0 ((BB,[.int .i64 ((n2:Nat):Int),.int .i64 sy,.int .i64 s0,.int .i64 e0,.slice wa (L2).length wc,.map (some MB),.bool false],94)::Ot) (⟨.slice wa (L2).length wc,(L2).length,(L2).flatMap ArV.three,57,3⟩::G) K w'):=by
 refine bH (args:=[.pointer (some ⟨BB,0,none⟩),.slice ka kl kc,.int .i64 f,.int .i64 t]) func72 rfl ntmps72 rfl ?_
 have hS:=hS0
 subst hf0
 refine aF (aH (aA rfl rfl (bN underlying60 rfl rfl (gU rfl rfl (IntWalk.i64_in _ (by omega)) rfl (aB rfl rfl (aG (XF.thenN (aF (aF ?_)))))))))
 obtain ⟨k0,hki⟩:∃ c,kids[0]?=some c:=⟨_,List.getElem?_eq_getElem (by omega)⟩
 have hkm:=List.mem_of_getElem? hki
 obtain ⟨b,off,hka,hcs⟩:=hk3 (hS.keep K (fun q hq=>by simp [hq])) hKt 0 k0 hki
 have hkx:bV w0 Kt (fun W=>ReIn W k0):=hk4 k0 hkm
 clear hcs hkx
 refine aH (aA rfl rfl (aA rfl rfl (nV (k:=k) underlying60 sizeOf62 rfl rfl (by omega) (by omega) (by omega) (fun p hp=>⟨b,off,Option.some.inj (hp.symm.trans hka)⟩) rfl (bN underlying60 rfl rfl (aA rfl rfl (aG (XF.thenN (aM (cB (fun m l W=>∃ (i:Nat) (wa:Option Addr) (wc:Nat),i≤k∧m=k - i∧l=[(0,.pointer (some ⟨BB,0,none⟩)),(1,.slice ka kl kc),(2,.int .i64 (fr i)),(3,.int .i64 t),(8,.int .i64 ((kl:Int) - 1)),(17,.slice ka k kc),(18,.int .i64 (k:Int)),(19,.int .i64 (i:Int))]∧St w0 ((BB,[.int .i64 ((sn i:Nat):Int),.int .i64 sy,.int .i64 s0,.int .i64 e0,.slice wa (sL i).length wc,.map (some MB),.bool false],94)::Ot) (⟨.slice wa (sL i).length wc,(sL i).length,(sL i).flatMap ArV.three,57,3⟩::G) K W) (k - 0) ([(0,_),(1,_),(2,_),(3,_),(8,_),(17,_),(18,_),(19,_)]) ⟨rfl,rfl,rfl,rfl,rfl,rfl,rfl,rfl,trivial⟩ (⟨0,wa,wc,Nat.zero_le _,rfl,rfl,hS.keep K (fun q hq=>by simp [hq])⟩) ?_)))))))))
 clear hS
 clear hka hki hkm
 rintro m l W ⟨i,wa,wc,hi,rfl,rfl,hS⟩
 refine aF (aH (bB rfl rfl rfl (aG (XF.thenN (aF (aV rfl (fun hc=>?_) (fun hc=>?_)))))))
 ·have hc20:=of_decide_eq_true hc;clear hc
  obtain ⟨k9,hki⟩:∃ c,kids[i]?=some c:=⟨_,List.getElem?_eq_getElem (by omega)⟩
  have hkm:=List.mem_of_getElem? hki
  obtain ⟨b,off,hka,hcs⟩:=hk3 (hS.keep K (fun q hq=>by simp [hq])) hKt i k9 hki
  have hkx:bV w0 Kt (fun W=>ReIn W k9):=hk4 k9 hkm
  obtain ⟨hsn,hfr⟩:=h1 i (by omega)
  have hkl9:=h2 i k9 (by omega) hki
  rw [hfr] at hkl9
  obtain ⟨ko,kn,kka,kkl,kkc,kks⟩:=k9
  have k1:aK _ b (off+i * 3) [.int .i64 ko,.string kn,.slice kka kkl kkc]:=hcs
  refine aP (XF.thenN (aF (aM (aF (aH ?_)))))
  refine aL (j:=i) (b:=b) (o:=off) (m:=k) (c:=kc) underlying60 sizeOf62 (by show some (Value.slice _ _ _)=_;rw [hka]) rfl rfl (by omega) rfl rfl ?_
  refine aQ (vs:=[_,_,_]) isAgg62 sizeOf62 rfl k1 rfl (bP (cs:=[_,_,_]) hS zeroValue62 rfl rfl fun B1 W1 hS=>bO (i:=0) (vs:=[_,_,_]) (cs':=[_,_,_]) (O':=(_::_::Ot)) hS sizeOf62 rfl rfl rfl rfl rfl rfl rfl fun W2 hS=>aG (XF.thenN (aF (aH (aA rfl rfl (aX (vs:=[_]) iS rfl (eP BB MB (sn i) sy s0 e0 (.slice wa (sL i).length wc) _ _ K w0 _ ((hS.keep K (fun q hq=>by simp [hq])).perm (List.Perm.swap _ _ _)) (by omega)) rfl ?_))))))
  rintro e W9 ⟨rfl,hS9⟩
  refine ⟨_,rfl,?_⟩
  clear hS;have hS:=hS9.perm (List.Perm.swap _ _ _);clear hS9
  refine aB rfl rfl (aG (XF.thenN (aF (aH (aA rfl rfl (aQ (vs:=[_,_,_]) isAgg62 sizeOf62 rfl (aK.own (j:=0) (m:=3) (hS.at_ 0 rfl) rfl) rfl (aA rfl rfl (aA rfl rfl (aX (vs:=[_,_,_,_]) jJ rfl (hkl9 BB MB sy s0 e0 _ _ Kt _ _ K w0 _ ((hS.keep K (fun q hq=>by simp [hq])).perm (List.Perm.swap _ _ _)) hKt hkx hM) rfl ?_)))))))))
  rintro e W9 ⟨rfl,wa2,wc2,hS9⟩
  refine ⟨_,rfl,?_⟩
  clear hS;have hS:=hS9.perm (List.Perm.swap _ _ _);clear hS9
  refine aG (XF.thenN (aH (aA rfl rfl (aB rfl rfl (aG (XF.blkN (XF.thenN (aH (aS rfl rfl (IntWalk.i64_in _ (by omega)) rfl (aA rfl rfl (aG ?_)))))))))))
  exact XF.round (k - (i+1)) [(0,_),(1,_),(2,_),(3,_),(8,_),(17,_),(18,_),(19,_)] (by omega) ⟨rfl,rfl,rfl,rfl,rfl,rfl,rfl,rfl,trivial⟩ ⟨i+1,wa2,wc2,by omega,rfl,by rw [hfr];rfl,hS.tail.keep K (fun q hq=>by simp [hq])⟩
 ·have hc20:=of_decide_eq_false hc;clear hc
  obtain rfl:i=k:=by omega
  obtain ⟨k9,hki⟩:∃ c,kids[i]?=some c:=⟨_,List.getElem?_eq_getElem (by omega)⟩
  have hkm:=List.mem_of_getElem? hki
  obtain ⟨b,off,hka,hcs⟩:=hk3 (hS.keep K (fun q hq=>by simp [hq])) hKt i k9 hki
  have hkx:bV w0 Kt (fun W=>ReIn W k9):=hk4 k9 hkm
  have hkl9:=h3 k9 hki
  obtain ⟨ko,kn,kka,kkl,kkc,kks⟩:=k9
  have k1:aK _ b (off+i * 3) [.int .i64 ko,.string kn,.slice kka kkl kkc]:=hcs
  refine bS (XF.thenX (XF.thenX (XF.blkX (XF.thenN (aH (aA rfl rfl (aA rfl rfl (aA rfl rfl ?_))))))))
  refine aL (j:=i) (b:=b) (o:=off) (m:=kl) (c:=kc) underlying60 sizeOf62 (by show some (Value.slice _ _ _)=_;rw [hka]) rfl (by omega) (by omega) rfl rfl ?_
  refine aQ (vs:=[_,_,_]) isAgg62 sizeOf62 rfl k1 rfl (aA rfl rfl (aA rfl rfl (aX (vs:=[_,_,_,_]) jJ rfl (hkl9 BB MB sy s0 e0 _ _ Kt _ _ K w0 _ ((hS.keep K (fun q hq=>by simp [hq])).perm (List.Perm.refl _)) hKt hkx hM) rfl ?_)))
  rintro e W9 ⟨rfl,wa2,wc2,hS9⟩
  refine ⟨_,rfl,?_⟩
  clear hS;have hS:=hS9.perm (List.Perm.refl _);clear hS9
  refine aG (XF.resN (lB results72) ?_)
  exact ⟨rfl,wa2,wc2,hS.keep K (fun q hq=>by simp [hq])⟩
theorem fa_94_1 (w:World) (b o:Nat):(Instr.fieldAt 94 (.pointer (some ⟨b,o,none⟩)) 1).run prog w = .ok (.pointer (some ⟨b,o+5,none⟩)) w:=by
 simp [Instr.fieldAt,run_underlying underlying94,Instr.sureAddr,go_sem,Addr.add_lit]
theorem goes_72:bA prog 72=true:=by kernel_rfl
theorem goes_73:bA prog 73=true:=by kernel_rfl
theorem rQ (BB MB n:Nat) (sy s0 e0:Int) (L:List ArV) (wa:Option Addr) (wc:Nat) (nm:ByteArray) (ka:Option Addr) (kl kc:Nat) (f t:Int) (v:Int) (es:List (List UInt8×Int)) (Kt:List (Nat×World)) (Ot:Own) (G:aU) (K:List (Nat×World)) (w0 w:World) (hS0:St w0 ((BB,[.int .i64 ((n:Nat):Int),.int .i64 sy,.int .i64 s0,.int .i64 e0,.slice wa (L).length wc,.map (some MB),.bool false],94)::Ot) (⟨.slice wa (L).length wc,(L).length,(L).flatMap ArV.three,57,3⟩::G) K w) (hKt:∀ q∈Kt,q∈K) (hM:bV w0 Kt (fun W=>MsI MB es W)) (hL:L.length < 65536) (hsz:nm.size≤maxLen) (hf:es.find? (fun p=>decide (p.1=nm.data.toList))=some (nm.data.toList,v)) :
  Calls prog 58 #[.pointer (some ⟨BB,0,none⟩),.agg #[.int .i64 1,.string nm,.slice ka kl kc],.int .i64 f,.int .i64 t] w (fun e w'=>e = .returned (.tuple #[])∧∃ (wa:Option Addr) (wc:Nat),St w0 ((BB,[.int .i64 ((n:Nat):Int),.int .i64 sy,.int .i64 s0,.int .i64 e0,.slice wa (L++[ArV.mk f v t]).length wc,.map (some MB),.bool false],94)::Ot) (⟨.slice wa (L++[ArV.mk f v t]).length wc,(L++[ArV.mk f v t]).length,(L++[ArV.mk f v t]).flatMap ArV.three,57,3⟩::G) K w'):=by
 refine bH (args:=[.pointer (some ⟨BB,0,none⟩),.agg #[.int .i64 1,.string nm,.slice ka kl kc],.int .i64 f,.int .i64 t]) func58 rfl ntmps58 rfl ?_
 have hS:=hS0
 refine aF (aH (bZ (cs:=[_,_,_]) hS rfl rfl rfl fun B1 W1 hS=>aG (XF.thenN (aF (aF (aH (aA rfl rfl (bM rfl rfl (aI (o':=6) fM rfl rfl rfl (aJ isAgg4 rfl (aD (hS.at_ 1 rfl) rfl) rfl (aG (XF.thenN (bX rfl (aP (XF.thenN (aF (aH (aB rfl rfl (aG (XF.thenN (aF (aH (aI (o':=0) cV rfl rfl rfl (aJ isAgg59 rfl (aD (hS.at_ 0 rfl) rfl) rfl (aG (XF.thenN (aM (aF (aM (aF (aM (aF (aM (aF (aM (aF (aM (aF (aM ?_)))))))))))))))))))))))))))))))))))))))
 refine aF (aM (aF (aF (aF (aH (opV (bJ (c:=true) rfl rfl (by decide)) rfl (aB rfl rfl (aG (XF.thenN (cF rfl (bS (XF.thenX (XF.thenX (XF.blkX (XF.thenN (aF (aF ?_)))))))))))))))))
 have hM9:=hM (hS.keep K (fun q hq=>by simp [hq])) hKt
 refine mJ (m:=12) cX hS (by kernel_rfl) (by kernel_rfl) rfl (dM 1 rfl 0 rfl rfl (fun w hw=>bY rfl) rfl (cI 2 rfl 38 0 rfl rfl rfl (fun w hw=>cQ rfl) rfl (cI 3 rfl 39 1 rfl rfl rfl (fun w hw=>cH (o':=5) fa_94_1 rfl rfl) rfl (cI 4 rfl 40 2 rfl rfl rfl (fun w hw=>bQ isAgg79 rfl ((aW hw 0).cell (Nat.zero_le _) (aD (hS.at_ 1 rfl) rfl))) rfl (dM 5 rfl 5 rfl rfl (fun w hw=>cH (o':=1) iQ rfl rfl) rfl (cI 6 rfl 42 4 rfl rfl rfl (fun w hw=>bQ isAgg9 rfl ((aW hw 0).cell (Nat.zero_le _) (aD (hS.at_ 0 rfl) rfl))) rfl (bR 7 rfl (isV _) (bF _) (rgV (li:=[(41,_),(43,_)]) rfl (bU rfl) ⟨bE 3 (aT rfl rfl rfl),bE 5 (aT rfl rfl rfl),trivial⟩ (fun w hw=>tM (hM9.below hw) hsz hf zeroValue3 rfl rfl) (bC rfl)) (cI 8 rfl 44 6 rfl rfl rfl (fun w hw=>bY rfl) rfl (cI 9 rfl 37 7 rfl rfl rfl (fun w hw=>gT rfl rfl) rfl (bR 10 rfl (isV (.bool true)) (bF _) (rgVe (li:=[(37,_)]) rfl (bU rfl) ⟨bE 7 (aT rfl rfl rfl),trivial⟩ (fun w hw=>gT rfl rfl) (rfl) (bC rfl)) (cI 11 rfl 45 8 rfl rfl rfl (fun w hw=>gE rfl) rfl (cI 12 rfl 46 9 rfl rfl rfl (fun w hw=>gE rfl) rfl (fV ?_)))))))))))))
 intro W2 hbR hS'
 clear hS;have hS:=hS';clear hS'
 refine aY (aY (aY (aY (aY (aY (aY (aY (aY (aY (aY (aY (dV (XF.thenN (aF (aH (aA rfl rfl (aG (XF.thenN (cF rfl (aH (aA rfl rfl (aA rfl rfl (aA rfl rfl (aA rfl rfl (aX (vs:=[_,_,_,_]) jK rfl (jI BB MB (n) sy s0 e0 (f) (v) (t) (L) _ _ _ _ K w0 _ ((hS.keep K (fun q hq=>by simp [hq])).perm (List.Perm.swap _ _ _)) (by omega)) rfl ?_)))))))))))))))))))))))))
 rintro e W9 ⟨rfl,wa1,wc1,hS9⟩
 refine ⟨_,rfl,?_⟩
 clear hS;have hS:=hS9.perm (List.Perm.swap _ _ _);clear hS9
 refine aG (XF.thenN (bS (XF.blkO rfl (XF.thenX (XF.blkO rfl (XF.thenX (XF.blkO rfl (XF.thenX (XF.blkO rfl (XF.thenX (XF.blkO rfl (XF.thenX (XF.blkO rfl (XF.thenX (XF.blkX (XF.resN (lB results58) ?_))))))))))))))))
 exact ⟨rfl,wa1,wc1,(hS.keep K (fun q hq=>by simp [hq])).tail⟩
theorem tR (BB MB n:Nat) (sy s0 e0:Int) (L:List ArV) (wa:Option Addr) (wc:Nat) (nm:ByteArray) (ka:Option Addr) (kl kc:Nat) (f t:Int) (Ot:Own) (G:aU) (K:List (Nat×World)) (w0 w:World) (hS0:St w0 ((BB,[.int .i64 ((n:Nat):Int),.int .i64 sy,.int .i64 s0,.int .i64 e0,.slice wa (L).length wc,.map (some MB),.bool false],94)::Ot) (⟨.slice wa (L).length wc,(L).length,(L).flatMap ArV.three,57,3⟩::G) K w) (hL:L.length < 65536) :
  Calls prog 58 #[.pointer (some ⟨BB,0,none⟩),.agg #[.int .i64 3,.string nm,.slice ka kl kc],.int .i64 f,.int .i64 t] w (fun e w'=>e = .returned (.tuple #[])∧∃ (wa:Option Addr) (wc:Nat),St w0 ((BB,[.int .i64 ((n:Nat):Int),.int .i64 sy,.int .i64 s0,.int .i64 e0,.slice wa (L++[ArV.mk f (-1) t]).length wc,.map (some MB),.bool false],94)::Ot) (⟨.slice wa (L++[ArV.mk f (-1) t]).length wc,(L++[ArV.mk f (-1) t]).length,(L++[ArV.mk f (-1) t]).flatMap ArV.three,57,3⟩::G) K w'):=by
 refine bH (args:=[.pointer (some ⟨BB,0,none⟩),.agg #[.int .i64 3,.string nm,.slice ka kl kc],.int .i64 f,.int .i64 t]) func58 rfl ntmps58 rfl ?_
 have hS:=hS0
 refine aF (aH (bZ (cs:=[_,_,_]) hS rfl rfl rfl fun B1 W1 hS=>aG (XF.thenN (aF (aF (aH (aA rfl rfl (bM rfl rfl (aI (o':=6) fM rfl rfl rfl (aJ isAgg4 rfl (aD (hS.at_ 1 rfl) rfl) rfl (aG (XF.thenN (bX rfl (aP (XF.thenN (aF (aH (aB rfl rfl (aG (XF.thenN (aF (aH (aI (o':=0) cV rfl rfl rfl (aJ isAgg59 rfl (aD (hS.at_ 0 rfl) rfl) rfl (aG (XF.thenN (aM (aF (aM (aF (aM (aF (aM (aF (aM (aF (aM (aF (aM ?_)))))))))))))))))))))))))))))))))))))))
 refine aF (aM (aF (aF (aF (aH (opV (bJ (c:=false) rfl rfl (by decide)) rfl (aB rfl rfl (aG (XF.thenN (bX rfl (aP (XF.thenN (aF (aF (aH (opV (bJ (c:=false) rfl rfl (by decide)) rfl (aB rfl rfl (aG (XF.thenN (bX rfl (aP (XF.thenN (aF (aF (aH (opV (bJ (c:=true) rfl rfl (by decide)) rfl (aB rfl rfl (aG (XF.thenN (cF rfl (bS (XF.thenX (XF.thenX (XF.blkO rfl (XF.thenX (XF.blkO rfl (XF.thenX (XF.blkX ?_))))))))))))))))))))))))))))))))))))))
 refine XF.thenN (aF (aH (aA rfl rfl (aA rfl rfl (aA rfl rfl (aA rfl rfl (aX (vs:=[_,_,_,_]) jK rfl (jI BB MB (n) sy s0 e0 (f) (-1) (t) (L) _ _ _ _ K w0 _ ((hS.keep K (fun q hq=>by simp [hq])).perm (List.Perm.swap _ _ _)) (by omega)) rfl ?_)))))))
 rintro e W9 ⟨rfl,wa1,wc1,hS9⟩
 refine ⟨_,rfl,?_⟩
 clear hS;have hS:=hS9.perm (List.Perm.swap _ _ _);clear hS9
 refine aG (XF.thenN (bS (XF.blkO rfl (XF.thenX (XF.blkO rfl (XF.thenX (XF.blkO rfl (XF.thenX (XF.blkO rfl (XF.thenX (XF.blkX (XF.resN (lB results58) ?_))))))))))))
 exact ⟨rfl,wa1,wc1,(hS.keep K (fun q hq=>by simp [hq])).tail⟩
theorem tS (BB MB n2 k:Nat) (sy s0 e0:Int) (L2:List ArV) (wa:Option Addr) (wc:Nat) (nm:ByteArray) (ka:Option Addr) (kl kc:Nat) (f t:Int) (kids:List ReV) (fr:Nat→Int) (sn:Nat→Nat) (sL:Nat→List ArV) (es:List (List UInt8×Int)) (Kt:List (Nat×World)) (Ot:Own) (G:aU) (K:List (Nat×World)) (w0 w:World) (hS0:St w0 ((BB,[.int .i64 ((sn 0:Nat):Int),.int .i64 sy,.int .i64 s0,.int .i64 e0,.slice wa (sL 0).length wc,.map (some MB),.bool false],94)::Ot) (⟨.slice wa (sL 0).length wc,(sL 0).length,(sL 0).flatMap ArV.three,57,3⟩::G) K w) (hKt:∀ q∈Kt,q∈K) (hM:bV w0 Kt (fun W=>MsI MB es W)) (hX:bV w0 Kt (fun W=>ReIn W (.mk 5 nm ka kl kc kids))) (hkk:kids.length=k+1) (hf0:fr 0=f) (h1:∀ i,i < k→sn i < 4096∧fr (i+1)=(sn i:Int)) (h2:∀ (i:Nat) c,i < k→kids[i]?=some c→oP es c (fr i) (fr (i+1)) (sn i+1) (sL i) (sn (i+1)) (sL (i+1))) (h3:∀ c,kids[k]?=some c→oP es c (fr k) t (sn k) (sL k) n2 L2) :
  Calls prog 58 #[.pointer (some ⟨BB,0,none⟩),.agg #[.int .i64 5,.string nm,.slice ka kl kc],.int .i64 f,.int .i64 t] w (fun e w'=>e = .returned (.tuple #[])∧∃ (wa:Option Addr) (wc:Nat),St w0 ((BB,[.int .i64 ((n2:Nat):Int),.int .i64 sy,.int .i64 s0,.int .i64 e0,.slice wa (L2).length wc,.map (some MB),.bool false],94)::Ot) (⟨.slice wa (L2).length wc,(L2).length,(L2).flatMap ArV.three,57,3⟩::G) K w'):=by
 refine bH (args:=[.pointer (some ⟨BB,0,none⟩),.agg #[.int .i64 5,.string nm,.slice ka kl kc],.int .i64 f,.int .i64 t]) func58 rfl ntmps58 rfl ?_
 have hS:=hS0
 obtain ⟨hkl,hk5,hkc⟩:kids.length=kl∧kl≤500∧kl≤kc:=(by cases hX hS0 hKt with | mk h1 h2 h2c h3 h4=>exact ⟨h1,h2,h2c⟩)
 have hk3:bV w0 Kt (fun W=>∀ (i:Nat) k,kids[i]?=some k→∃ b off,ka=some ⟨b,off,none⟩∧aK W b (off+i * 3) k.cells):=fun h9 hk9=>(by cases hX h9 hk9 with | mk h1 h2 h2c h3 h4=>exact h3)
 have hk4:∀ k∈kids,bV w0 Kt (fun W=>ReIn W k):=fun k hk=>(show bV w0 Kt (fun W=>ReIn W k) from fun h9 hk9=>(by cases hX h9 hk9 with | mk h1 h2 h2c h3 h4=>exact h4 k hk))
 refine aF (aH (bZ (cs:=[_,_,_]) hS rfl rfl rfl fun B1 W1 hS=>aG (XF.thenN (aF (aF (aH (aA rfl rfl (bM rfl rfl (aI (o':=6) fM rfl rfl rfl (aJ isAgg4 rfl (aD (hS.at_ 1 rfl) rfl) rfl (aG (XF.thenN (bX rfl (aP (XF.thenN (aF (aH (aB rfl rfl (aG (XF.thenN (aF (aH (aI (o':=0) cV rfl rfl rfl (aJ isAgg59 rfl (aD (hS.at_ 0 rfl) rfl) rfl (aG (XF.thenN (aM (aF (aM (aF (aM (aF (aM (aF (aM (aF (aM (aF (aM ?_)))))))))))))))))))))))))))))))))))))))
 refine aF (aM (aF (aF (aF (aH (opV (bJ (c:=false) rfl rfl (by decide)) rfl (aB rfl rfl (aG (XF.thenN (bX rfl (aP (XF.thenN (aF (aF (aH (opV (bJ (c:=false) rfl rfl (by decide)) rfl (aB rfl rfl (aG (XF.thenN (bX rfl (aP (XF.thenN (aF (aF (aH (opV (bJ (c:=false) rfl rfl (by decide)) rfl (aB rfl rfl (aG (XF.thenN (bX rfl (aP (XF.thenN (aF (aF (aH (opV (bJ (c:=true) rfl rfl (by decide)) rfl (aB rfl rfl (aG (XF.thenN (cF rfl ?_))))))))))))))))))))))))))))))))))))))))
 refine bS (XF.thenX (XF.thenX (XF.blkO rfl (XF.thenX (XF.blkO rfl (XF.thenX (XF.blkO rfl (XF.thenX (XF.blkX (XF.thenN (aF (aH (aA rfl rfl (aI (o':=2) eC rfl rfl rfl (aJ isAgg60 rfl (aD (hS.at_ 0 rfl) rfl) rfl (aA rfl rfl (aA rfl rfl (aX (vs:=[_,_,_,_]) goes_72 rfl (rP BB MB n2 k sy s0 e0 L2 _ _ ka kl kc kids f t fr sn sL es Kt _ _ K w0 _ ((hS.keep K (fun q hq=>by simp [hq])).perm (List.Perm.swap _ _ _)) hKt hM hk3 hk4 hkl hk5 hkc (by omega) hf0 h1 h2 h3) rfl ?_))))))))))))))))))
 rintro e W9 ⟨rfl,wa1,wc1,hS9⟩
 refine ⟨_,rfl,?_⟩
 clear hS;have hS:=hS9.perm (List.Perm.swap _ _ _);clear hS9
 refine aG (XF.thenN (bS (XF.blkO rfl (XF.thenX (XF.blkO rfl (XF.thenX (XF.blkO rfl (XF.thenX (XF.blkX (XF.resN (lB results58) ?_))))))))))
 exact ⟨rfl,wa1,wc1,(hS.keep K (fun q hq=>by simp [hq])).tail⟩
theorem tT (BB MB:Nat) (sy s0 e0:Int) (wa:Option Addr) (wc:Nat) (nm:ByteArray) (ka:Option Addr) (kl kc:Nat) (f t:Int) (kids:List ReV) (sn:Nat→Nat) (sL tL:Nat→List ArV) (es:List (List UInt8×Int)) (Kt:List (Nat×World)) (Ot:Own) (G:aU) (K:List (Nat×World)) (w0 w:World) (hS0:St w0 ((BB,[.int .i64 ((sn 0:Nat):Int),.int .i64 sy,.int .i64 s0,.int .i64 e0,.slice wa (sL 0).length wc,.map (some MB),.bool false],94)::Ot) (⟨.slice wa (sL 0).length wc,(sL 0).length,(sL 0).flatMap ArV.three,57,3⟩::G) K w) (hKt:∀ q∈Kt,q∈K) (hM:bV w0 Kt (fun W=>MsI MB es W)) (hX:bV w0 Kt (fun W=>ReIn W (.mk 6 nm ka kl kc kids))) (h1:∀ i,i < kids.length→sn i+2≤4096∧(sL i).length < 65536∧(tL i).length < 65536∧sL (i+1)=tL i++[⟨(sn i:Int)+1,-1,t⟩]) (h2:∀ (i:Nat) c,kids[i]?=some c→oP es c (sn i:Int) ((sn i:Int)+1) (sn i+2) (sL i++[⟨f,-1,(sn i:Int)⟩]) (sn (i+1)) (tL i)) :
  Calls prog 58 #[.pointer (some ⟨BB,0,none⟩),.agg #[.int .i64 6,.string nm,.slice ka kl kc],.int .i64 f,.int .i64 t] w (fun e w'=>e = .returned (.tuple #[])∧∃ (wa:Option Addr) (wc:Nat),St w0 ((BB,[.int .i64 ((sn kids.length:Nat):Int),.int .i64 sy,.int .i64 s0,.int .i64 e0,.slice wa (sL kids.length).length wc,.map (some MB),.bool false],94)::Ot) (⟨.slice wa (sL kids.length).length wc,(sL kids.length).length,(sL kids.length).flatMap ArV.three,57,3⟩::G) K w'):=by
 refine bH (args:=[.pointer (some ⟨BB,0,none⟩),.agg #[.int .i64 6,.string nm,.slice ka kl kc],.int .i64 f,.int .i64 t]) func58 rfl ntmps58 rfl ?_
 have hS:=hS0
 obtain ⟨hkl,hk5,hkc⟩:kids.length=kl∧kl≤500∧kl≤kc:=(by cases hX hS0 hKt with | mk h1 h2 h2c h3 h4=>exact ⟨h1,h2,h2c⟩)
 have hk3:bV w0 Kt (fun W=>∀ (i:Nat) k,kids[i]?=some k→∃ b off,ka=some ⟨b,off,none⟩∧aK W b (off+i * 3) k.cells):=fun h9 hk9=>(by cases hX h9 hk9 with | mk h1 h2 h2c h3 h4=>exact h3)
 have hk4:∀ k∈kids,bV w0 Kt (fun W=>ReIn W k):=fun k hk=>(show bV w0 Kt (fun W=>ReIn W k) from fun h9 hk9=>(by cases hX h9 hk9 with | mk h1 h2 h2c h3 h4=>exact h4 k hk))
 refine aF (aH (bZ (cs:=[_,_,_]) hS rfl rfl rfl fun B1 W1 hS=>aG (XF.thenN (aF (aF (aH (aA rfl rfl (bM rfl rfl (aI (o':=6) fM rfl rfl rfl (aJ isAgg4 rfl (aD (hS.at_ 1 rfl) rfl) rfl (aG (XF.thenN (bX rfl (aP (XF.thenN (aF (aH (aB rfl rfl (aG (XF.thenN (aF (aH (aI (o':=0) cV rfl rfl rfl (aJ isAgg59 rfl (aD (hS.at_ 0 rfl) rfl) rfl (aG (XF.thenN (aM (aF (aM (aF (aM (aF (aM (aF (aM (aF (aM (aF (aM ?_)))))))))))))))))))))))))))))))))))))))
 refine aF (aM (aF (aF (aF (aH (opV (bJ (c:=false) rfl rfl (by decide)) rfl (aB rfl rfl (aG (XF.thenN (bX rfl (aP (XF.thenN (aF (aF (aH (opV (bJ (c:=false) rfl rfl (by decide)) rfl (aB rfl rfl (aG (XF.thenN (bX rfl (aP (XF.thenN (aF (aF (aH (opV (bJ (c:=false) rfl rfl (by decide)) rfl (aB rfl rfl (aG (XF.thenN (bX rfl (aP (XF.thenN (aF (aF (aH (opV (bJ (c:=false) rfl rfl (by decide)) rfl (aB rfl rfl (aG (XF.thenN (bX rfl ?_))))))))))))))))))))))))))))))))))))))))
 refine aP (XF.thenN (aF (aF (aH (opV (bJ (c:=true) rfl rfl (by decide)) rfl (aB rfl rfl (aG (XF.thenN (cF rfl (bS (XF.thenX (XF.thenX (XF.blkO rfl (XF.thenX (XF.blkO rfl (XF.thenX (XF.blkO rfl (XF.thenX (XF.blkO rfl (XF.thenX (XF.blkX (XF.thenN (aF (aF (aH (aI (o':=2) eC rfl rfl rfl (aJ isAgg60 rfl (aD (hS.at_ 0 rfl) rfl) rfl (bN underlying60 rfl rfl (aA rfl rfl (aG (XF.thenN (aM (cB (fun m l W=>∃ (i:Nat) (wa:Option Addr) (wc:Nat),i≤kl∧m=kl - i∧l=[(0,.pointer (some ⟨BB,0,none⟩)),(2,.int .i64 f),(3,.int .i64 t),(65,.slice ka kl kc),(66,.int .i64 (kl:Int)),(67,.int .i64 (i:Int))]∧St w0 ((B1,[.int .i64 6,.string nm,.slice ka kl kc],62)::(BB,[.int .i64 ((sn i:Nat):Int),.int .i64 sy,.int .i64 s0,.int .i64 e0,.slice wa (sL i).length wc,.map (some MB),.bool false],94)::Ot) (⟨.slice wa (sL i).length wc,(sL i).length,(sL i).flatMap ArV.three,57,3⟩::G) K W) (kl - 0) ([(0,_),(2,_),(3,_),(65,_),(66,_),(67,_)]) ⟨rfl,rfl,rfl,rfl,rfl,rfl,trivial⟩ (⟨0,wa,wc,Nat.zero_le _,rfl,rfl,hS.keep K (fun q hq=>by simp [hq])⟩) ?_)))))))))))))))))))))))))))))))))
 clear hS
 rintro m l W ⟨i,wa,wc,hi,rfl,rfl,hS⟩
 refine aF (aH (bB rfl rfl rfl (aG (XF.thenN (aF (aV rfl (fun hc=>?_) (fun hc=>?_)))))))
 ·have hc68:=of_decide_eq_true hc;clear hc
  obtain ⟨k9,hki⟩:∃ c,kids[i]?=some c:=⟨_,List.getElem?_eq_getElem (by omega)⟩
  have hkm:=List.mem_of_getElem? hki
  obtain ⟨b,off,hka,hcs⟩:=hk3 (hS.keep K (fun q hq=>by simp [hq])) hKt i k9 hki
  have hkx:bV w0 Kt (fun W=>ReIn W k9):=hk4 k9 hkm
  obtain ⟨hsn,hsl,htl,hsl2⟩:=h1 i (by omega)
  have hkl9:=h2 i k9 hki
  obtain ⟨ko,kn,kka,kkl,kkc,kks⟩:=k9
  have k1:aK _ b (off+i * 3) [.int .i64 ko,.string kn,.slice kka kkl kkc]:=hcs
  refine aP (XF.thenN (aF (aM (aF (aH ?_)))))
  refine aL (j:=i) (b:=b) (o:=off) (m:=kl) (c:=kc) underlying60 sizeOf62 (by show some (Value.slice _ _ _)=_;rw [hka]) rfl rfl (by omega) rfl rfl ?_
  refine aQ (vs:=[_,_,_]) isAgg62 sizeOf62 rfl k1 rfl (bP (cs:=[_,_,_]) hS zeroValue62 rfl rfl fun B2 W2 hS=>bO (i:=0) (vs:=[_,_,_]) (cs':=[_,_,_]) (O':=(_::_::_::Ot)) hS sizeOf62 rfl rfl rfl rfl rfl rfl rfl fun W3 hS=>aG (XF.thenN (aF (aH (aA rfl rfl (aQ (vs:=[_,_,_]) isAgg62 sizeOf62 rfl (aK.own (j:=0) (m:=3) (hS.at_ 0 rfl) rfl) rfl (aA rfl rfl (aX (vs:=[_,_,_]) goes_73 rfl (rO BB MB (sn i) sy s0 e0 (sL i) (tL i) (sn (i+1)) _ _ ko kn kka kkl kkc kks f es Kt _ _ K w0 _ ((hS.keep K (fun q hq=>by simp [hq])).perm iX) hKt hM hkx hsn hsl hkl9) rfl ?_))))))))
  rintro e W9 ⟨rfl,wa1,wc1,hS9⟩
  refine ⟨_,rfl,?_⟩
  clear hS;have hS:=hS9.perm iX.symm;clear hS9
  refine aA rfl rfl (bI rfl rfl rfl (bI rfl rfl rfl (aB rfl rfl (aB rfl rfl (aG (XF.thenN (aH (aA rfl rfl (aA rfl rfl (aA rfl rfl (aX (vs:=[_,_,_,_]) jK rfl (jI BB MB (sn (i+1)) sy s0 e0 ((sn i:Int)+1) (-1) (t) (tL i) _ _ _ _ K w0 _ ((hS.keep K (fun q hq=>by simp [hq])).perm iX) (by omega)) rfl ?_)))))))))))
  rintro e W9 ⟨rfl,wa3,wc3,hS9⟩
  refine ⟨_,rfl,?_⟩
  clear hS;have hS:=hS9.perm iX.symm;clear hS9
  refine aG (XF.blkN (XF.thenN (aH (aS rfl rfl (IntWalk.i64_in _ (by omega)) rfl (aA rfl rfl (aG ?_))))))
  rw [← hsl2] at hS
  exact XF.round (kl - (i+1)) [(0,_),(2,_),(3,_),(65,_),(66,_),(67,_)] (by omega) ⟨rfl,rfl,rfl,rfl,rfl,rfl,trivial⟩ ⟨i+1,wa3,wc3,by omega,rfl,rfl,hS.tail.keep K (fun q hq=>by simp [hq])⟩
 ·have hc68:=of_decide_eq_false hc;clear hc
  obtain rfl:i=kl:=by omega
  refine bS (XF.thenX (XF.thenX (XF.blkX (XF.thenN (bS (XF.blkO rfl (XF.thenX (XF.blkO rfl (XF.thenX (XF.blkX (XF.resN (lB results58) ?_)))))))))))
  rw [hkl]
  exact ⟨rfl,wa,wc,(hS.keep K (fun q hq=>by simp [hq])).tail⟩
theorem lay_is {es:List (List UInt8×Int)} {x:ReV} {f t:Int} {n n2:Nat} {L L2:List ArV} (h:Lay es x f t n L n2 L2):oP es x f t n L n2 L2:=by
 induction h with
 | @name x f t v n L h1 h2 h3 h4 =>
  intro BB MB sy s0 e0 wa wc Kt Ot G K w0 w hS0 hKt hX hM
  cases x with
  | mk op nm ka kl kc kids =>
   change op=1 at h1
   subst h1
   exact rQ BB MB n sy s0 e0 L wa wc nm ka kl kc f t v es Kt Ot G K w0 w hS0 hKt hM h4 h2 h3
 | @emp x f t n L h1 h2 =>
  intro BB MB sy s0 e0 wa wc Kt Ot G K w0 w hS0 hKt hX hM
  cases x with
  | mk op nm ka kl kc kids =>
   change op=3 at h1
   subst h1
   exact tR BB MB n sy s0 e0 L wa wc nm ka kl kc f t Ot G K w0 w hS0 h2
 | @seq x f t k n2 L2 fr sn sL h1 h2 h3 h4 h5 h6 ih1 ih2 =>
  intro BB MB sy s0 e0 wa wc Kt Ot G K w0 w hS0 hKt hX hM
  cases x with
  | mk op nm ka kl kc kids =>
   change op=5 at h1
   subst h1
   exact tS BB MB n2 k sy s0 e0 L2 wa wc nm ka kl kc f t kids fr sn sL es Kt Ot G K w0 w hS0 hKt hM hX h2 h3 h4 ih1 ih2
 | @alt x f t sn sL tL h1 h2 h3 ih =>
  intro BB MB sy s0 e0 wa wc Kt Ot G K w0 w hS0 hKt hX hM
  cases x with
  | mk op nm ka kl kc kids =>
   change op=6 at h1
   subst h1
   exact tT BB MB sy s0 e0 wa wc nm ka kl kc f t kids sn sL tL es Kt Ot G K w0 w hS0 hKt hM hX h2 ih
theorem tU (v1:Option Nat):prog.built 94 [(1,.map v1)]=some #[.int .i64 0,.int .i64 0,.int .i64 0,.int .i64 0,.slice none 0 0,.map v1,.bool false]:=by kernel_rfl
def exV (B1 B2:Nat):ReV:=.mk 5 ⟨#[]⟩ (some ⟨B2,0,none⟩) 2 2 [.mk 1 ⟨#[97]⟩ none 0 0 [],.mk 6 ⟨#[]⟩ (some ⟨B1,0,none⟩) 2 2 [.mk 1 ⟨#[98]⟩ none 0 0 [],.mk 3 ⟨#[]⟩ none 0 0 []]]
def exL:List ArV:=[⟨0,0,2⟩,⟨2,-1,3⟩,⟨3,1,4⟩,⟨4,-1,1⟩,⟨2,-1,5⟩,⟨5,-1,6⟩,⟨6,-1,1⟩]
theorem tV {op:Int} {nm:ByteArray} {n d:Nat} (hn:n+1≤500) (hd:d≤50):FitsR (.mk op nm none 0 0 []) d n (n+1):=FitsR.mk (x:=.mk op nm none 0 0 []) (f:=fun _=>n+1) hn hd rfl (fun i k hi=>by simp [ReV.kids] at hi)
theorem tW (B1 B2:Nat):FitsR (exV B1 B2) 1 0 5:=by
 refine FitsR.mk (x:=exV B1 B2) (f:=fun i=>match i with | 0=>1 | 1=>2 | _=>5) (by omega) (by omega) rfl fun i k hi=>?_
 match i,hi with
 | 0,hi =>
  obtain rfl:ReV.mk 1 ⟨#[97]⟩ none 0 0 []=k:=by simpa [exV,ReV.kids] using hi
  exact tV (n:=1) (by omega) (by omega)
 | 1,hi =>
  obtain rfl:ReV.mk 6 ⟨#[]⟩ (some ⟨B1,0,none⟩) 2 2 [.mk 1 ⟨#[98]⟩ none 0 0 [],.mk 3 ⟨#[]⟩ none 0 0 []]=k:=by simpa [exV,ReV.kids] using hi
  refine FitsR.mk (n:=2) (f:=fun i=>match i with | 0=>3 | 1=>4 | _=>5) (by omega) (by omega) rfl fun i k hi=>?_
  match i,hi with
  | 0,hi =>
   obtain rfl:ReV.mk 1 ⟨#[98]⟩ none 0 0 []=k:=by simpa [ReV.kids] using hi
   exact tV (n:=3) (by omega) (by omega)
  | 1,hi =>
   obtain rfl:ReV.mk 3 ⟨#[]⟩ none 0 0 []=k:=by simpa [ReV.kids] using hi
   exact tV (n:=4) (by omega) (by omega)
  | i+2,hi=>simp [ReV.kids] at hi
 | i+2,hi=>simp [exV,ReV.kids] at hi
theorem tX (B1 B2:Nat):WellM (exV B1 B2):=by
 have hb:WellM (.mk 1 ⟨#[98]⟩ none 0 0 []):=.mk (fun k hk=>by cases hk) (.inl ⟨rfl,.inr rfl,rfl⟩)
 have ha:WellM (.mk 1 ⟨#[97]⟩ none 0 0 []):=.mk (fun k hk=>by cases hk) (.inl ⟨rfl,.inl rfl,rfl⟩)
 have he:WellM (.mk 3 ⟨#[]⟩ none 0 0 []):=.mk (fun k hk=>by cases hk) (.inr ⟨rfl,.inl ⟨rfl,rfl⟩⟩)
 refine .mk (fun k hk=>?_) (.inr ⟨rfl,.inr ⟨.inl rfl,fun k hk=>?_,Nat.le_refl _⟩⟩)
 ·simp only [exV,ReV.kids,List.mem_cons,List.not_mem_nil,or_false] at hk
  rcases hk with rfl | rfl
  ·exact ha
  ·refine .mk (fun k hk=>?_) (.inr ⟨rfl,.inr ⟨.inr rfl,fun k hk=>?_,Nat.le_refl _⟩⟩)
   ·simp only [ReV.kids,List.mem_cons,List.not_mem_nil,or_false] at hk
    rcases hk with rfl | rfl
    ·exact hb
    ·exact he
   ·simp only [ReV.kids,List.mem_cons,List.not_mem_nil,or_false] at hk
    rcases hk with rfl | rfl
    ·show (1:Int)≠6;decide
    ·show (3:Int)≠6;decide
 ·simp only [exV,ReV.kids,List.mem_cons,List.not_mem_nil,or_false] at hk
  rcases hk with rfl | rfl
  ·show (1:Int)≠5;decide
  ·show (6:Int)≠5;decide
theorem exV_lay (B1 B2:Nat):Lay (kO 2) (exV B1 B2) 0 1 2 [] 7 exL:=by
 refine Lay.seq (x:=exV B1 B2) (k:=1) (fun i=>match i with | 0=>0 | _=>2) (fun i=>match i with | 0=>2 | _=>3) (fun i=>match i with | 0=>[] | _=>[⟨0,0,2⟩]) rfl rfl rfl (fun i hi=>?_) (fun i c hi hc=>?_) (fun c hc=>?_)
 ·obtain rfl:i=0:=by omega
  exact ⟨by decide,rfl⟩
 ·obtain rfl:i=0:=by omega
  obtain rfl:ReV.mk 1 ⟨#[97]⟩ none 0 0 []=c:=by simpa [exV,ReV.kids] using hc
  exact Lay.name (v:=0) (L:=[]) rfl (by decide) (by decide) (by decide)
 ·obtain rfl:ReV.mk 6 ⟨#[]⟩ (some ⟨B1,0,none⟩) 2 2 [.mk 1 ⟨#[98]⟩ none 0 0 [],.mk 3 ⟨#[]⟩ none 0 0 []]=c:=by simpa [exV,ReV.kids] using hc
  refine Lay.alt (x:=.mk 6 ⟨#[]⟩ (some ⟨B1,0,none⟩) 2 2 [.mk 1 ⟨#[98]⟩ none 0 0 [],.mk 3 ⟨#[]⟩ none 0 0 []]) (t:=1) (f:=2) (fun i=>match i with | 0=>3 | 1=>5 | _=>7) (fun i=>match i with | 0=>[⟨0,0,2⟩] | 1=>[⟨0,0,2⟩,⟨2,-1,3⟩,⟨3,1,4⟩,⟨4,-1,1⟩] | _=>exL) (fun i=>match i with | 0=>[⟨0,0,2⟩,⟨2,-1,3⟩,⟨3,1,4⟩] | _=>[⟨0,0,2⟩,⟨2,-1,3⟩,⟨3,1,4⟩,⟨4,-1,1⟩,⟨2,-1,5⟩,⟨5,-1,6⟩]) rfl (fun i hi=>?_) (fun i c hc=>?_)
  ·match i,hi with
   | 0,_=>exact ⟨by decide,by decide,by decide,rfl⟩
   | 1,_=>exact ⟨by decide,by decide,by decide,rfl⟩
   | i+2,hi=>simp [ReV.kids] at hi;omega
  ·match i,hc with
   | 0,hc =>
    obtain rfl:ReV.mk 1 ⟨#[98]⟩ none 0 0 []=c:=by simpa [ReV.kids] using hc
    exact Lay.name (v:=1) (L:=[⟨0,0,2⟩,⟨2,-1,3⟩]) rfl (by decide) (by decide) (by decide)
   | 1,hc =>
    obtain rfl:ReV.mk 3 ⟨#[]⟩ none 0 0 []=c:=by simpa [ReV.kids] using hc
    exact Lay.emp (L:=[⟨0,0,2⟩,⟨2,-1,3⟩,⟨3,1,4⟩,⟨4,-1,1⟩,⟨2,-1,5⟩]) rfl (by decide)
   | i+2,hc=>simp [ReV.kids] at hc
theorem tY (MB n2:Nat) (L2:List ArV) (op:Int) (nm:ByteArray) (ka:Option Addr) (kl kc:Nat) (kids:List ReV) (es:List (List UInt8×Int)) (Kt:List (Nat×World)) (Ot:Own) (G:aU) (K:List (Nat×World)) (w0 w:World) (hS0:St w0 Ot G K w) (hKt:∀ q∈Kt,q∈K) (hM:bV w0 Kt (fun W=>MsI MB es W)) (hX:bV w0 Kt (fun W=>ReIn W (.mk op nm ka kl kc kids))) (hl:Lay es (.mk op nm ka kl kc kids) 0 1 2 [] n2 L2) :
  Calls prog 49 #[.agg #[.int .i64 op,.string nm,.slice ka kl kc],.map (some MB)] w (fun e w'=>∃ (wa:Option Addr) (wc:Nat),e = .returned (.tuple #[NfV.val ⟨(n2:Int),(es.length:Int),0,1,wa,L2.length,wc,L2⟩,.bool true])∧St w0 Ot (⟨.slice wa (L2).length wc,(L2).length,(L2).flatMap ArV.three,57,3⟩::G) K w'):=by
 refine bH (args:=[.agg #[.int .i64 op,.string nm,.slice ka kl kc],.map (some MB)]) func49 rfl ntmps49 rfl ?_
 have hS:=hS0
 refine aF (aH (bZ (cs:=[_,_,_]) hS rfl rfl rfl fun B1 W1 hS=>bP (cs:=[_,_,_,_,_]) hS zeroValue24 rfl rfl fun B2 W2 hS=>aB rfl rfl (aG (XF.thenN (aF (aH (aA rfl rfl (dI (us:=[(1,.map _)]) rfl (tU _) rfl (bP (cs:=[_,_,_,_,_,_,_]) hS zeroValue94 rfl rfl fun B3 W3 hS=>bO (i:=0) (vs:=[_,_,_,_,_,_,_]) (cs':=[_,_,_,_,_,_,_]) (O':=(_::_::_::Ot)) hS sizeOf94 rfl rfl rfl rfl rfl rfl rfl fun W4 hS=>aG (XF.thenN (aF (aH (aA rfl rfl (opV (nC (hM (hS.keep K (fun q hq=>by simp [hq])) hKt) rfl) rfl (aI (o':=0) dL rfl rfl rfl (aI (o':=1) dQ rfl rfl rfl (bD (i:=0) (cs':=[_,_,_,_,_,_,_]) (O':=(_::_::_::Ot)) hS sizeOf3 rfl rfl rfl rfl rfl rfl rfl fun W5 hS=>aG (XF.thenN (aF ?_)))))))))))))))))))
 have hS':=hS.newG 57 3;clear hS;have hS:=hS';clear hS'
 refine aH (aX (vs:=[_]) iS rfl (eP B3 MB 0 (es.length:Int) 0 0 (.slice none 0 0) _ _ K w0 _ (hS.keep K (fun q hq=>by simp [hq])) (by omega)) rfl ?_)
 rintro e W8 ⟨rfl,hS9⟩
 refine ⟨_,rfl,?_⟩
 clear hS;have hS:=hS9;clear hS9
 refine aX (vs:=[_]) iS rfl (eP B3 MB 1 (es.length:Int) 0 0 (.slice none 0 0) _ _ K w0 _ (hS.keep K (fun q hq=>by simp [hq])) (by omega)) rfl ?_
 rintro e W9 ⟨rfl,hS9⟩
 refine ⟨_,rfl,?_⟩
 clear hS;have hS:=hS9;clear hS9
 refine aI (o':=0) dL rfl rfl rfl (aI (o':=2) dG rfl rfl rfl (bD (i:=0) (cs':=[_,_,_,_,_,_,_]) (O':=(_::_::_::Ot)) hS sizeOf3 rfl rfl rfl rfl rfl rfl rfl fun W6 hS=>aI (o':=0) dL rfl rfl rfl (aI (o':=3) eA rfl rfl rfl (bD (i:=0) (cs':=[_,_,_,_,_,_,_]) (O':=(_::_::_::Ot)) hS sizeOf3 rfl rfl rfl rfl rfl rfl rfl fun W7 hS=>aG (XF.thenN (aF (aH (aQ (vs:=[_,_,_]) isAgg62 sizeOf62 rfl (aK.own (j:=0) (m:=3) (hS.at_ 2 rfl) rfl) rfl (aI (o':=0) dL rfl rfl rfl (aI (o':=2) dG rfl rfl rfl (aJ isAgg3 rfl (aD (hS.at_ 0 rfl) rfl) rfl (aI (o':=0) dL rfl rfl rfl (aI (o':=3) eA rfl rfl rfl (aJ isAgg3 rfl (aD (hS.at_ 0 rfl) rfl) rfl (aX (vs:=[_,_,_,_]) jJ rfl (lay_is hl B3 MB (es.length:Int) 0 1 none 0 Kt _ _ K w0 _ (hS.keep K (fun q hq=>by simp [hq])) hKt hX hM) rfl ?_)))))))))))))))
 rintro e W9 ⟨rfl,wa2,wc2,hS9⟩
 refine ⟨_,rfl,?_⟩
 clear hS;have hS:=hS9;clear hS9
 refine aG (XF.thenN (aF (regS (ef:=5) (jy:=7) (ca:=jB (fun _=>[])) (ta:=fun _=>0) (Os:=lH _ 1 0 B2 ([.int .i64 0,.int .i64 0,.int .i64 0,.int .i64 0,.slice none 0 0]) ([.int .i64 (n2:Int),.int .i64 (es.length:Int),.int .i64 0,.int .i64 1,.slice wa2 L2.length wc2]) 24) (Gs:=qQ _) (al:=[]) (k:=6) (ds:=[5]) cX rfl hS rfl (by kernel_rfl) (by kernel_rfl) rfl (by decide) rfl (some) (.inl ⟨rfl,rfl⟩) rfl rfl (cL 1 rfl rfl (isV _) (fun hNo=>sgV [(6,_)] rfl rfl rfl rfl hNo (bU rfl) ⟨fT rfl,trivial⟩ (fun ev w he hw=>cH (o':=0) dL rfl rfl) (bC rfl)) (cL 2 rfl rfl (isV _) (fun hNo=>sgV [(27,_)] rfl rfl rfl rfl hNo (bU rfl) ⟨bE 0 (aT rfl rfl rfl),trivial⟩ (fun ev w he hw=>fS (vs:=[_,_,_,_,_]) isAgg24 sizeOf24 rfl ((aK.own (j:=0) (m:=5) (hw.at_ 0 (pE (i:=0) (j:=1) rfl rfl)) rfl))) (bC rfl)) (cL 3 rfl rfl (isV _) (fun hNo=>sgV [(6,_)] rfl rfl rfl rfl hNo (bU rfl) ⟨fT rfl,trivial⟩ (fun ev w he hw=>cH (o':=6) fM rfl rfl) (bC rfl)) (cL 4 rfl rfl (isV _) (fun hNo=>sgV [(29,_)] rfl rfl rfl rfl hNo (bU rfl) ⟨bE 2 (aT rfl rfl rfl),trivial⟩ (fun ev w he hw=>bQ isAgg4 rfl ((aD (hw.at_ 0 (pE (i:=0) (j:=1) rfl rfl)) rfl))) (bC rfl)) (cL 5 rfl rfl (isV _) (fun hNo=>sgV [(30,_)] rfl rfl rfl rfl hNo (bU rfl) ⟨bE 3 (aT rfl rfl rfl),trivial⟩ (fun ev w he hw=>nL rfl) (bC rfl)) ?_))))))))
 refine pD 6 rfl (eff_stO (m:=5) 1 0 [(4,_),(28,_)] rfl rfl rfl rfl (fun j hj=>by rcases hj with h | rfl<;>first | (cases h<;>rfl) | rfl) ⟨fT rfl,bE 1 (aT rfl rfl rfl),trivial⟩ rfl rfl rfl sizeOf24 rfl rfl rfl rfl) ?_
 refine pC ?_
 intro Bf8 y8 W8 Ks8 hsz8 hKs8 hS' hcov8
 clear hS;have hS:=hS'.castO (O':=(_::_::_::Ot)) rfl;clear hS'
 refine sN (L':=[AwS _ _ (isV _),AwS _ _ (isV _),AwS _ _ (isV _),AwS _ _ (isV _),AwS _ _ (isV _),isV _]) rfl (dC (dC (dC (dC (dC (fin_0 (dV (aB rfl rfl (aG (XF.thenN (bK (XF.res (sG (vs:=[_,_,_,_,_]) results49 isAgg24 sizeOf24 rfl (aK.own (j:=0) (m:=5) (hS.at_ 1 rfl) rfl) rfl) ?_))))))))))))
 exact ⟨wa2,wc2,rfl,((hS.keep K (fun q hq=>by simp [hq])).tail.tail.tail)⟩
theorem bld_24:prog.built 24 []=some #[.int .i64 0,.int .i64 0,.int .i64 0,.int .i64 0,.slice none 0 0]:=by kernel_rfl
theorem kH (v0:Int) (v2a:Option Addr) (v2l:Nat) (v2c:Nat):prog.built 62 [(0,.int .i64 v0),(2,.slice v2a v2l v2c)]=some #[.int .i64 v0,.string ByteArray.empty,.slice v2a v2l v2c]:=by kernel_rfl
theorem tZ (v0:Int):prog.built 62 [(0,.int .i64 v0)]=some #[.int .i64 v0,.string ByteArray.empty,.slice none 0 0]:=by kernel_rfl
theorem qF (v00:Value) (v01:Value) (v02:Value) (v10:Value) (v11:Value) (v12:Value):Instr.fill (fun i=>some (i * 3,3)) ((Array.range (2 * 3)).map ((Value.cells (.agg #[.int .i64 0,.string ByteArray.empty,.slice none 0 0]))[· % (Value.cells (.agg #[.int .i64 0,.string ByteArray.empty,.slice none 0 0])).size]!)) [(0,.agg #[v00,v01,v02]),(1,.agg #[v10,v11,v12])]=some (List.toArray [v00,v01,v02,v10,v11,v12]):=by kernel_rfl
theorem goes_48:bA prog 48=true:=by kernel_rfl
theorem goes_49:bA prog 49=true:=by kernel_rfl
theorem nD {n:Nat} {w A W:World} (hn:n=w.heap.size) (h1:Below n w A) (h2:Below n w W) (h3:dD n A W):Below A.heap.size A W where
 os:=h2.os.trans h1.os.symm
 tape:=h2.tape.trans h1.tape.symm
 output:=h2.output.trans h1.output.symm
 size:=h3.1
 block:=fun k hk=>by
  rcases Nat.lt_or_ge k n with h | h
  ·exact (h2.block k h).trans (h1.block k h).symm
  ·exact h3.2 k h hk
theorem NIn.agree {A W:World} {a:NfV} (h:NIn A a) (hg:dD 0 A W):NIn W a:=⟨fun i r hi=>by
 obtain ⟨b,off,e,hc⟩:=h.arow i r hi
 exact ⟨b,off,e,aK.agree hg (Nat.zero_le _) hc⟩,h.alen,h.amax⟩
theorem uA {w0 W4:World} {lo MB:Nat} {es:List (List UInt8×Int)} (h:MsI MB es W4) (hlo:lo≤MB):bV w0 [(lo,W4)] (fun W=>MsI MB es W):=fun h9 hk9=>h.same (fun hlt=>(h9.kept _ (hk9 _ (List.mem_singleton.2 rfl))).1.2 MB hlo hlt)
theorem exV_in {W:World} {B1 B2:Nat} {T:TypeId} (h1:W.heap[B1]?=some (.cells #[.int .i64 1,.string ⟨#[98]⟩,.slice none 0 0,.int .i64 3,.string ⟨#[]⟩,.slice none 0 0] T (0,0))) (h2:W.heap[B2]?=some (.cells #[.int .i64 1,.string ⟨#[97]⟩,.slice none 0 0,.int .i64 6,.string ⟨#[]⟩,.slice (some ⟨B1,0,none⟩) 2 2] T (0,0))):ReIn W (exV B1 B2):=by
 have leaf:∀ (op:Int) (nm:ByteArray),ReIn W (.mk op nm none 0 0 []):=fun op nm=>.mk rfl (by omega) (Nat.le_refl _) (fun i k hi=>by simp at hi) (fun k hk=>by cases hk)
 refine .mk rfl (by omega) (Nat.le_refl _) (fun i k hi=>⟨B2,0,rfl,?_⟩) (fun k hk=>?_)
 ·match i,hi with
  | 0,hi =>
   obtain rfl:=Option.some.inj hi
   exact aK.own (j:=0) (m:=3) (cs:=[_,_,_,_,_,_]) h2 rfl
  | 1,hi =>
   obtain rfl:=Option.some.inj hi
   exact aK.own (j:=3) (m:=3) (cs:=[_,_,_,_,_,_]) h2 rfl
  | i+2,hi=>simp at hi
 ·simp only [List.mem_cons,List.not_mem_nil,or_false] at hk
  rcases hk with rfl | rfl
  ·exact leaf _ _
  ·refine .mk rfl (by omega) (Nat.le_refl _) (fun i k hi=>⟨B1,0,rfl,?_⟩) (fun k hk=>?_)
   ·match i,hi with
    | 0,hi =>
     obtain rfl:=Option.some.inj hi
     exact aK.own (j:=0) (m:=3) (cs:=[_,_,_,_,_,_]) h1 rfl
    | 1,hi =>
     obtain rfl:=Option.some.inj hi
     exact aK.own (j:=3) (m:=3) (cs:=[_,_,_,_,_,_]) h1 rfl
    | i+2,hi=>simp at hi
   ·simp only [List.mem_cons,List.not_mem_nil,or_false] at hk
    rcases hk with rfl | rfl<;>exact leaf _ _
theorem nmAB_in {W:World} {B:Nat} {T:TypeId} (h:W.heap[B]?=some (.cells #[.string ⟨#[97]⟩,.string ⟨#[98]⟩] T (0,0))):tN W (some ⟨B,0,none⟩) lV:=fun i s hs=>by
 match i,hs with
 | 0,hs =>
  obtain rfl:=Option.some.inj hs
  exact ⟨B,0,rfl,aD (cs:=[_,_]) h rfl⟩
 | 1,hs =>
  obtain rfl:=Option.some.inj hs
  exact ⟨B,0,rfl,aD (cs:=[_,_]) h rfl⟩
 | i+2,hs=>simp [lV] at hs
def exA (wa:Option Addr) (wc:Nat):NfV:=⟨7,2,0,1,wa,7,wc,exL⟩
theorem oQ {wa:Option Addr} {wc:Nat}:cO (exA wa wc)=0:=by
 have e:cO (exA wa wc)=cO (exA none 0):=rfl
 rw [e];decide
theorem uB {q:Nat} (h:E1 exL 0 q):False:=by
 obtain ⟨t,ht,e1,e2,_⟩:=h
 simp only [exL,List.mem_cons,List.not_mem_nil,or_false] at ht
 rcases ht with rfl | rfl | rfl | rfl | rfl | rfl | rfl<;>simp at e1 e2
theorem exL_hd0 {q:Nat} (h:Hd exL (fun q=>(q:Int)=0) q):q=0:=Hd.sub (R:=fun q=>q=0) (fun q h=>by omega) (fun p q hp e=>by subst hp;exact (uB e).elim) h
theorem iT {t:ArV} (h:t∈exL) {p q:Nat} (h1:t.f=(p:Int)) (h2:t.s = -1) (h3:t.q=(q:Int)):E1 exL p q:=⟨t,h,h1,h2,h3⟩
theorem uC {wa:Option Addr} {wc:Nat}:rH (exA wa wc) [0,1]:=by
 show Hd exL (By9 exL 1 (Hd exL (By9 exL 0 (Hd exL (fun q=>(q:Int)=0))))) 1
 have h2:Hd exL (By9 exL 0 (Hd exL (fun q=>(q:Int)=0))) 2:=.base ⟨0,.base rfl,⟨0,0,2⟩,by simp [exL],rfl,.inl rfl,rfl⟩
 have h3:Hd exL (By9 exL 0 (Hd exL (fun q=>(q:Int)=0))) 3:=.arc h2 (iT (t:=⟨2,-1,3⟩) (by simp [exL]) rfl rfl rfl)
 have h4:Hd exL (By9 exL 1 (Hd exL (By9 exL 0 (Hd exL (fun q=>(q:Int)=0))))) 4:=.base ⟨3,h3,⟨3,1,4⟩,by simp [exL],rfl,.inl rfl,rfl⟩
 exact .arc h4 (iT (t:=⟨4,-1,1⟩) (by simp [exL]) rfl rfl rfl)
theorem uD {wa:Option Addr} {wc:Nat}:¬ rH (exA wa wc) [1]:=by
 intro h
 have h1:Hd exL (By9 exL 1 (Hd exL (fun q=>(q:Int)=0))) 1:=h
 refine Hd.sub (R:=fun _=>False) (fun q hq=>?_) (fun _ _ h _=>h) h1
 obtain ⟨p,hp,t,ht,e1,e2,_⟩:=hq
 obtain rfl:=exL_hd0 hp
 simp only [exL,List.mem_cons,List.not_mem_nil,or_false] at ht
 rcases ht with rfl | rfl | rfl | rfl | rfl | rfl | rfl<;>simp at e1 e2
theorem exL_rz0 {n p:Nat} (h:Rz exL 2 1 n p):n=0→p≠0:=by
 induction h with
 | end_=>exact fun _=>by decide
 | eps _ e ih=>intro _ hp;subst hp;exact uB e
 | sym _ _ _=>exact fun h=>absurd h (by omega)
theorem qG:Rz exL 2 1 1 0:=by
 have h6:Rz exL 2 1 0 6:=.eps .end_ (iT (t:=⟨6,-1,1⟩) (by simp [exL]) rfl rfl rfl)
 have h5:Rz exL 2 1 0 5:=.eps h6 (iT (t:=⟨5,-1,6⟩) (by simp [exL]) rfl rfl rfl)
 have h2:Rz exL 2 1 0 2:=.eps h5 (iT (t:=⟨2,-1,5⟩) (by simp [exL]) rfl rfl rfl)
 exact .sym h2 ⟨by decide,⟨0,0,2⟩,by simp [exL],rfl,by decide,rfl⟩
theorem rR {wa:Option Addr} {wc:Nat} {ok:Bool} {l:List Int} (h:rK (exA wa wc) ok l):ok=true∧l.length=1:=by
 rcases h.2 oQ with ⟨_,_,h1⟩ | ⟨h1,m,h2,h3⟩
 ·exact absurd qG (h1 1)
 ·refine ⟨h1,?_⟩
  rw [h3.len]
  have h4:m≤1:=h2.2 1 qG
  have h5:m≠0:=fun e=>exL_rz0 h2.1 e rfl
  omega
theorem gM {wa:Option Addr} {wc:Nat}:dS (exA wa wc) [0,1]=0∧dS (exA wa wc) [1]=0:=by
 unfold dS
 rw [oQ]
 exact ⟨rfl,rfl⟩
theorem uE (wa:Option Addr) (wc B:Nat) (T:TypeId) (w:World) (hA:NIn w (exA wa wc)) (h:w.heap[B]?=some (.cells #[.int .i64 0,.int .i64 1] T (0,0))):Calls prog 16 #[(exA wa wc).val,.slice (some ⟨B,0,none⟩) 2 2] w (fun e w'=>e = .returned (.tuple #[.bool true,.int .i64 0])∧Below w.heap.size w w'):=by
 refine (kD (exA wa wc) (some ⟨B,0,none⟩) 2 2 [0,1] w hA (.inr ⟨B,0,rfl,fun j hj=>?_⟩) rfl (by decide)).mono ?_
 ·match j,hj with
  | 0,_=>exact aD (cs:=[_,_]) h rfl
  | 1,_=>exact aD (cs:=[_,_]) h rfl
  | j+2,hj=>simp at hj;omega
 ·rintro e w1 ⟨b,rfl,h1,_,hb⟩
  have:=(h1 gM.1).2 uC
  subst this
  rw [gM.1]
  exact ⟨rfl,hb⟩
theorem run1_is (wa:Option Addr) (wc B:Nat) (T:TypeId) (w:World) (hA:NIn w (exA wa wc)) (h:w.heap[B]?=some (.cells #[.int .i64 1] T (0,0))):Calls prog 16 #[(exA wa wc).val,.slice (some ⟨B,0,none⟩) 1 1] w (fun e w'=>e = .returned (.tuple #[.bool false,.int .i64 0])∧Below w.heap.size w w'):=by
 refine (kD (exA wa wc) (some ⟨B,0,none⟩) 1 1 [1] w hA (.inr ⟨B,0,rfl,fun j hj=>?_⟩) rfl (by decide)).mono ?_
 ·match j,hj with
  | 0,_=>exact aD (cs:=[_]) h rfl
  | j+1,hj=>simp at hj
 ·rintro e w1 ⟨b,rfl,h1,_,hb⟩
  have h2:b=false:=by
   cases b with
   | false=>rfl
   | true=>exact absurd ((h1 gM.2).1 rfl) uD
  subst h2
  rw [gM.2]
  exact ⟨rfl,hb⟩
theorem oR (wa:Option Addr) (wc:Nat) (w:World) (hA:NIn w (exA wa wc)):Calls prog 18 #[(exA wa wc).val] w (fun e w'=>∃ (la:Option Addr) (lc:Nat),e = .returned (.tuple #[.slice la 1 lc,.bool true,.int .i64 0])∧Below w.heap.size w w'):=by
 refine (kF (exA wa wc) w hA).mono ?_
 rintro e w1 ⟨ok,l,la,lc,rfl,h1,_,_,hb⟩
 obtain ⟨rfl,h2⟩:=rR h1
 rw [oQ,h2]
 exact ⟨la,lc,rfl,hb⟩
theorem rS (L2:List ArV) (n2 n3:Nat) (op:Int) (nm:ByteArray) (ka:Option Addr) (kl kc:Nat) (kids:List ReV) (na:Option Addr) (nc:Nat) (w:World) (hX:ReIn w (.mk op nm ka kl kc kids)) (hF:FitsR (.mk op nm ka kl kc kids) 1 0 n3) (hW:WellM (.mk op nm ka kl kc kids)) (hl:Lay (kO 2) (.mk op nm ka kl kc kids) 0 1 2 [] n2 L2) (hN:tN w na lV) :
  Calls prog 34 #[.agg #[.int .i64 op,.string nm,.slice ka kl kc],.slice na 2 nc] w (fun e w'=>∃ (wa:Option Addr) (wc:Nat),e = .returned (.tuple #[NfV.val ⟨(n2:Int),2,0,1,wa,L2.length,wc,L2⟩,.int .i64 0])∧iW w' wa L2∧Below w.heap.size w w'):=by
 refine bH (args:=[.agg #[.int .i64 op,.string nm,.slice ka kl kc],.slice na 2 nc]) func34 rfl ntmps34 rfl ?_
 have hS:=St.start w
 refine aF (aH (bZ (cs:=[_,_,_]) hS rfl rfl rfl fun B1 W1 hS=>bP (cs:=[_,_,_,_,_]) hS zeroValue24 rfl rfl fun B2 W2 hS=>aB rfl rfl (aG (XF.thenN (aF (aF (aH (aQ (vs:=[_,_,_]) isAgg62 sizeOf62 rfl (aK.own (j:=0) (m:=3) (hS.at_ 1 rfl) rfl) rfl (bW (vs:=[_]) hS qE rfl (kG op nm ka kl kc kids n3 _ (hX.keep hS.below) hF hW) rfl fun W3 hS=>aB rfl rfl (aG (XF.thenN (aF (aH (aA rfl rfl (opV (gL (c:=false) rfl rfl (by decide)) rfl (aG (XF.thenN (bX rfl (aP (XF.thenN (aF (aH (aA rfl rfl ?_)))))))))))))))))))))))
 refine dU (vs:=[_]) hS goes_48 rfl (rN na nc _ (fun i s hs=>by obtain ⟨b,off,e,hc⟩:=hN i s hs;exact ⟨b,off,e,hS.old hc⟩)) rfl ?_
 rintro e W4 ⟨MB,rfl,hMs,hlo,hb⟩
 refine ⟨_,rfl,hb,fun hS'=>?_⟩
 clear hS;have hS:=hS';clear hS' hb
 obtain ⟨Km,hM,hS9⟩:∃ Km,bV w Km (fun W=>MsI MB (kO 2) W)∧St w _ _ Km _:=⟨[(_,_)],uA hMs hlo,hS.keep _ (fun q hq=>by simp at hq;simp [hq])⟩
 clear hS;have hS:=hS9;clear hS9
 refine aA rfl rfl (bI rfl rfl rfl (bI rfl rfl rfl (aB rfl rfl (aB rfl rfl (aG (XF.thenN (aF (aF (aH (aA rfl rfl (cW rfl rfl (aA rfl rfl (aC (d:=23) rfl rfl (aA rfl rfl (aC (d:=23) rfl rfl (bN underlying77 rfl rfl (aC (d:=23) rfl rfl (dA rfl rfl rfl (aR rfl rfl rfl (aG (XF.thenN (aV rfl (fun hc=>?_) (fun hc=>?_)))))))))))))))))))))))
 ·have hc27:=of_decide_eq_true hc;clear hc
  refine aF (aH (dI (us:=[]) rfl (bld_24) rfl (bO (i:=0) (vs:=[_,_,_,_,_]) (cs':=[_,_,_,_,_]) (O':=[_,_]) hS sizeOf24 rfl rfl rfl rfl rfl rfl rfl fun W5 hS=>aB rfl rfl (aG (XF.thenN (bK (XF.thenR (XF.res (sG (vs:=[_,_,_,_,_]) results34 isAgg24 sizeOf24 rfl (aK.own (j:=0) (m:=5) (hS.at_ 0 rfl) rfl) rfl) ?_))))))))
  exfalso;simp at hc27
 ·have hc27:=of_decide_eq_false hc;clear hc
  refine aP (XF.thenN (aF (aH (aQ (vs:=[_,_,_]) isAgg62 sizeOf62 rfl (aK.own (j:=0) (m:=3) (hS.at_ 1 rfl) rfl) rfl (aA rfl rfl (aX (vs:=[_,_]) goes_49 rfl (tY MB n2 L2 op nm ka kl kc kids (kO 2) Km _ _ Km w _ (hS.keep Km (fun q hq=>by simp [hq])) (fun q hq=>hq) hM (fun h9 hk9=>hX.keep h9.below) hl) rfl ?_))))))
  rintro e W9 ⟨wa2,wc2,rfl,hS9⟩
  refine ⟨_,rfl,?_⟩
  clear hS;have hS:=hS9;clear hS9
  refine aA rfl rfl (bI rfl rfl rfl (bI rfl rfl rfl (bP (cs:=[_,_,_,_,_]) hS zeroValue24 rfl rfl fun B6 W6 hS=>bO (i:=0) (vs:=[_,_,_,_,_]) (cs':=[_,_,_,_,_]) (O':=[_,_,_]) hS sizeOf24 rfl rfl rfl rfl rfl rfl rfl fun W7 hS=>aB rfl rfl (aG (XF.thenN (aF (aF (aH (aA rfl rfl (cW rfl rfl (aG (XF.thenN (bX rfl (aP (XF.thenN (aF (aH (aQ (vs:=[_,_,_,_,_]) isAgg24 sizeOf24 rfl (aK.own (j:=0) (m:=5) (hS.at_ 0 rfl) rfl) rfl (bO (i:=1) (vs:=[_,_,_,_,_]) (cs':=[_,_,_,_,_]) (O':=[_,_,_]) hS sizeOf24 rfl rfl rfl rfl rfl rfl rfl fun W8 hS=>aB rfl rfl (aG (XF.thenN (bK (XF.res (sG (vs:=[_,_,_,_,_]) results34 isAgg24 sizeOf24 rfl (aK.own (j:=0) (m:=5) (hS.at_ 1 rfl) rfl) rfl) ?_)))))))))))))))))))))))
  obtain ⟨K8,k8,g8,hS8⟩:=St.rowKeepN (o:=⟨.slice wa2 L2.length wc2,L2.length,L2.flatMap ArV.three⟩) hS
  exact ⟨wa2,wc2,rfl,mW (g8 hS8 (fun q hq=>hq)),hS.below⟩
theorem oS (w:World) :
  Calls prog 35 #[] w (fun e w'=>∃ B1 B2:Nat,e = .returned (exV B1 B2).val∧ReIn w' (exV B1 B2)∧Below w.heap.size w w'):=by
 refine bH (args:=[]) func35 rfl ntmps35 rfl ?_
 have hS:=St.start w
 refine aF (aH (bP (cs:=[_,_,_]) hS zeroValue62 rfl rfl fun B1 W1 hS=>aG (XF.thenN (aF (aH (dI (us:=[(0,.int .i64 _),(1,.string _)]) rfl (hQ _ _) rfl (dI (us:=[(0,.int .i64 _)]) rfl (tZ _) rfl (bL (us:=[(0,.agg (List.toArray [_,_,_])),(1,.agg (List.toArray [_,_,_]))]) hS underlying60 sizeOf62 zeroValue62 rfl rfl rfl (qF _ _ _ _ _ _) rfl fun B2 W2 hS=>dI (us:=[(0,.int .i64 _),(2,.slice _ _ _)]) rfl (kH _ _ _ _) rfl (bP (cs:=[_,_,_]) hS zeroValue62 rfl rfl fun B3 W3 hS=>bO (i:=0) (vs:=[_,_,_]) (cs':=[_,_,_]) (O':=[_,_,_]) hS sizeOf62 rfl rfl rfl rfl rfl rfl rfl fun W4 hS=>aG (XF.thenN (aF (aH (dI (us:=[(0,.int .i64 _),(1,.string _)]) rfl (hQ _ _) rfl (aQ (vs:=[_,_,_]) isAgg62 sizeOf62 rfl (aK.own (j:=0) (m:=3) (hS.at_ 0 rfl) rfl) rfl (bL (us:=[(0,.agg (List.toArray [_,_,_])),(1,.agg (List.toArray [_,_,_]))]) hS underlying60 sizeOf62 zeroValue62 rfl rfl rfl (qF _ _ _ _ _ _) rfl fun B5 W5 hS=>dI (us:=[(0,.int .i64 _),(2,.slice _ _ _)]) rfl (kH _ _ _ _) rfl (bO (i:=3) (vs:=[_,_,_]) (cs':=[_,_,_]) (O':=[_,_,_,_]) hS sizeOf62 rfl rfl rfl rfl rfl rfl rfl fun W6 hS=>aG (XF.thenN (bK (XF.res (resC1 (vs:=[_,_,_]) results35 isAgg62 sizeOf62 rfl (aK.own (j:=0) (m:=3) (hS.at_ 3 rfl) rfl)) ?_)))))))))))))))))))
 exact ⟨B2,B5,rfl,exV_in (hS.at_ 2 rfl) (hS.at_ 0 rfl),hS.below⟩
theorem bs_77_2 (v0:ByteArray) (v1:ByteArray):Instr.fill (fun i=>some (i * 1,1)) ((Array.range (2 * 1)).map ((Value.cells (.string ByteArray.empty))[· % (Value.cells (.string ByteArray.empty)).size]!)) [(0,.string v0),(1,.string v1)]=some (List.toArray [.string v0,.string v1]):=by kernel_rfl
theorem lX:bA prog 16=true:=by kernel_rfl
theorem qH:bA prog 18=true:=by kernel_rfl
theorem goes_34:bA prog 34=true:=by kernel_rfl
theorem goes_35:bA prog 35=true:=by kernel_rfl
theorem rT (w:World) :
  Calls prog 15 #[] w (fun e w'=>e = .returned (.bool true)∧Below w.heap.size w w'):=by
 refine bH (args:=[]) func15 rfl ntmps15 rfl ?_
 have hS:=St.start w
 refine aF (aH (aB rfl rfl (aG (XF.thenN (aF (aH (dU (vs:=[]) hS goes_35 rfl (oS _) rfl ?_)))))))
 rintro e W1 ⟨E1,E2,rfl,hEx,hb⟩
 refine ⟨_,rfl,hb,fun hS'=>?_⟩
 clear hS;have hS:=hS';clear hS'
 have hbE:=hb
 clear hb
 refine bL (us:=[(0,.string _),(1,.string _)]) hS underlying77 sizeOf9 zeroValue9 rfl rfl rfl (bs_77_2 _ _) rfl fun B2 W2 hS=>dU (vs:=[_,_]) hS goes_34 rfl (rS exL 7 5 _ _ _ _ _ _ _ _ _ (hEx.keep (nD rfl hbE hS.below (hS.since 0 rfl))) (tW E1 E2) (tX E1 E2) (exV_lay E1 E2) (nmAB_in (hS.at_ 0 rfl))) rfl ?_
 rintro e W8 ⟨wa,wc,rfl,hAr,hb⟩
 refine ⟨_,rfl,hb,fun hS'=>?_⟩
 clear hS;have hS:=(hS'.tail).mark 0 (fun p hp=>by cases hp) rfl;clear hS' hb
 have hNin:NIn W8 (exA wa wc):=⟨hAr,rfl,by show 7≤_;decide⟩
 refine aA rfl rfl (bI rfl rfl rfl (bI rfl rfl rfl (bP (cs:=[_,_,_,_,_]) hS zeroValue24 rfl rfl fun B3 W3 hS=>bO (i:=0) (vs:=[_,_,_,_,_]) (cs':=[_,_,_,_,_]) (O':=[_]) hS sizeOf24 rfl rfl rfl rfl rfl rfl rfl fun W4 hS=>aB rfl rfl (aG (XF.thenN (aF (aH (aQ (vs:=[_,_,_,_,_]) isAgg24 sizeOf24 rfl (aK.own (j:=0) (m:=5) (hS.at_ 0 rfl) rfl) rfl (bL (us:=[(0,.int .i64 _),(1,.int .i64 _)]) hS underlying25 sizeOf3 zeroValue3 rfl rfl rfl (bs_25_2 _ _) rfl fun B5 W5 hS=>bW (vs:=[_,_]) hS lX rfl (uE wa wc _ _ _ (hNin.agree (hS.since 0 rfl)) (hS.at_ 0 rfl)) rfl fun W6 hS=>aA rfl rfl (bI rfl rfl rfl (bI rfl rfl rfl (aB rfl rfl (aB rfl rfl (aG (XF.thenN (aF (aH (aQ (vs:=[_,_,_,_,_]) isAgg24 sizeOf24 rfl (aK.own (j:=0) (m:=5) (hS.at_ 1 rfl) rfl) rfl (bL (us:=[(0,.int .i64 _)]) hS underlying25 sizeOf3 zeroValue3 rfl rfl rfl (dP _) rfl fun B7 W7 hS=>bW (vs:=[_,_]) hS lX rfl (run1_is wa wc _ _ _ (hNin.agree (hS.since 1 rfl)) (hS.at_ 0 rfl)) rfl fun W8 hS=>aA rfl rfl (bI rfl rfl rfl (bI rfl rfl rfl (aB rfl rfl (aB rfl rfl (aG (XF.thenN (aF (aH (aQ (vs:=[_,_,_,_,_]) isAgg24 sizeOf24 rfl (aK.own (j:=0) (m:=5) (hS.at_ 2 rfl) rfl) rfl (dU (vs:=[_]) hS qH rfl (oR wa wc _ (hNin.agree (hS.since 2 rfl))) rfl ?_)))))))))))))))))))))))))))))
 rintro e W9 ⟨la,lc,rfl,hb⟩
 refine ⟨_,rfl,hb,fun hS'=>?_⟩
 clear hS;have hS:=hS';clear hS' hb
 refine aA rfl rfl (bI rfl rfl rfl (bI rfl rfl rfl (bI rfl rfl rfl (aB rfl rfl (aB rfl rfl (aB rfl rfl (aG (XF.thenN (aF (aH (aA rfl rfl (opV (bJ (c:=true) rfl rfl (by decide)) rfl (aA rfl rfl (aC (d:=36) rfl rfl (aA rfl rfl (aC (d:=36) rfl rfl (opV (bJ (c:=true) rfl rfl (by decide)) rfl (aN rfl rfl rfl (aA rfl rfl (aC (d:=40) rfl rfl (aA rfl rfl (aC (d:=40) rfl rfl (opV (bJ (c:=true) rfl rfl (by decide)) rfl (aN rfl rfl rfl (aA rfl rfl (aC (d:=44) rfl rfl (aA rfl rfl (aC (d:=44) rfl rfl (opV (bJ (c:=true) rfl rfl (by decide)) rfl (aN rfl rfl rfl (aA rfl rfl (aC (d:=48) rfl rfl (aA rfl rfl (aN rfl rfl rfl ?_))))))))))))))))))))))))))))))))))
 refine aA rfl rfl (aC (d:=51) rfl rfl (aA rfl rfl (aC (d:=51) rfl rfl (cW rfl rfl (aN rfl rfl rfl (aA rfl rfl (aC (d:=55) rfl rfl (aA rfl rfl (aN rfl rfl rfl (aA rfl rfl (aC (d:=58) rfl rfl (aA rfl rfl (aC (d:=58) rfl rfl (bN underlying25 rfl rfl (aC (d:=58) rfl rfl (opV (bJ (c:=true) rfl rfl (by decide)) rfl (aN rfl rfl rfl (aB rfl rfl (aG (XF.thenN (bK (XF.res (bT results15 rfl) ?_))))))))))))))))))))))
 exact ⟨rfl,hS.below⟩
end
end Go.Proofs.Ytpgmnbgkejiomaa
