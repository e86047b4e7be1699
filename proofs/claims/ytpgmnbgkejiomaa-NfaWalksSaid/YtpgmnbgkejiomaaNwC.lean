import Derived.OrdersHeld
import Derived.Lib.SmallJoins
import Derived.Deep.Slices
import Derived.Deep.Fields
import Derived.ChangeSlices
import Derived.ChangeSame
import Derived.ProofKit
import Derived.Test.YtpgmnbgkejiomaaNwB
set_option maxRecDepth 100000
set_option maxHeartbeats 4000000
set_option linter.unusedVariables false
set_option linter.unusedSimpArgs false
set_option linter.unusedSectionVars false
set_option linter.unnecessarySimpa false
namespace Go.Proofs.Ytpgmnbgkejiomaa
open Go.Proofs.Try
section
open Go.RowKit
theorem goes_37:aZ prog 37=true:=by kernel_rfl
theorem goes_38:aZ prog 38=true:=by kernel_rfl
theorem goes_39:aZ prog 39=true:=by kernel_rfl
theorem kH {L:List ArV} {p:Nat} {t:ArV}:t∈outs L p↔t∈L∧t.f=(p:Int):=by unfold outs;rw [List.mem_filter];simp
theorem lm_next {L:List ArV} {K:Int} {E N n:Nat} {P:Nat→Prop} {fs:List Int} {lp:List Nat} {x:Int} (hF:FarOk L K E N fs) (hO:fK N K L) (hI:LsI L K E P (n+1)) (hA:Nrs L K E P (fun q=>q∈lp) (n+1))
  (h:LmI (fun t=>(∃ p∈lp,t∈outs L p)∧t.s ≠ -1∧fs.getD t.q.toNat 0=(n:Int)) x):0 < K∧(0≤x∧x < K)∧Nx L K E P x n∧∀ y,0≤y→Nx L K E P y n→x≤y:=by
 obtain ⟨p,r,hp,hK,⟨t,ht,e1,e2,e3⟩,hd⟩:=hI.any hA
 have hfs:∀ {t:ArV} {r:Nat},t∈L→t.q=(r:Int)→(fs.getD t.q.toNat 0=(n:Int)↔Ds L K E r n):=fun {t r} ht e=>by
  have hr:=(hO t ht).2.1.2
  rw [show t.q.toNat=r by omega]
  exact hF.ds (by omega)
 rcases h with ⟨_,h⟩ | ⟨h0,⟨t2,⟨⟨p2,hp2,ho2⟩,hs2,hf2⟩,hx⟩,hmin⟩
 ·exact absurd ⟨⟨p,hp,kH.2 ⟨ht,e1⟩⟩,e2,(hfs ht e3).2 hd⟩ (h t)
 ·obtain ⟨ht2,e4⟩:=kH.1 ho2
  have hb:=hO t2 ht2
  have hq2:t2.q=((t2.q.toNat:Nat):Int):=by omega
  refine ⟨hK,⟨h0,by omega⟩,nx_of hA.1 ⟨ht2,⟨p2,hp2,e4⟩,hs2,t2.q.toNat,hq2,(hfs ht2 hq2).1 hf2⟩ (by omega),fun y hy hn=>?_⟩
  obtain ⟨t3,⟨ht3,⟨p3,hp3,e5⟩,hs3,r3,e6,hd3⟩,hy3⟩:=hI.arc hA hK hy hn
  have:=hmin t3 ⟨⟨p3,hp3,kH.2 ⟨ht3,e5⟩⟩,hs3,(hfs ht3 e6).2 hd3⟩
  omega
def LstE (a:NfV) (ok:Bool) (l:List Int):Prop:=(dH a≠0→ok=false∧l=[])∧(dH a=0→(ok=false∧l=[]∧∀ m,¬ Rz a.ar a.sy a.e0.toNat m a.s0.toNat)∨(ok=true∧∃ m,Ds a.ar a.sy a.e0.toNat a.s0.toNat m∧LsW a.ar a.sy a.e0.toNat m (Hd a.ar (fun q=>q=a.s0.toNat)) l))
theorem sP {α:Type} {a b c d:α} {l:List α}:(a::b::c::d::l).Perm (c::d::a::b::l):=(List.perm_middle (l₁:=[a,b]) (a:=c) (l₂:=d::l)).trans ((List.perm_middle (l₁:=[a,b]) (a:=d) (l₂:=l)).cons c)
theorem perm15 {α:Type} {a b c d e:α} {l:List α}:(a::b::c::d::e::l).Perm (e::b::c::d::a::l):=(List.perm_middle (l₁:=[a,b,c,d]) (a:=e) (l₂:=l)).trans ((List.perm_middle (l₁:=[b,c,d]) (a:=a) (l₂:=l)).symm.cons e)
theorem perm31 {α:Type} {a b c d:α} {l:List α}:(a::b::c::d::l).Perm (b::c::d::a::l):=(List.perm_middle (l₁:=[b,c,d]) (a:=a) (l₂:=l)).symm
theorem lZ (a:NfV) (n k s e9:Nat) (hst:a.st=(n:Int)) (hsy:a.sy=(k:Int)) (hs0:a.s0=(s:Int)) (he0:a.e0=(e9:Int)) (Kt:List (Nat×World)) (Ot:Own) (G:aQ) (K:List (Nat×World)) (w0 w:World) (hS0:St w0 Ot G K w) (hKt:∀ q∈Kt,q∈K) (hA:bJ w0 Kt (fun W=>NIn W a)) (hal:a.al≤65536) (hl:a.ar.length=a.al) (hn1:1≤n) (hn4:n≤4096) (hs:s < n) (he:e9 < n) (hO:fK n (k:Int) a.ar) :
  Calls prog 37 #[a.val] w (fun e w'=>∃ (FB:Nat) (fs:List Int) (Kn:List (Nat×World)),e = .returned (.slice (some ⟨FB,0,none⟩) n n)∧FarOk a.ar (k:Int) e9 n fs∧(∀ p,p < n→fs.getD p 0≤8193)∧(∀ q∈K,q∈Kn)∧St w0 ((FB,zI fs,3)::Ot) G Kn w'):=by
 obtain ⟨st,sy,s0,e0,aa,al,ac,ar⟩:=a
 dsimp only at hst hsy hs0 he0 hal hl hO
 subst hst hsy hs0 he0
 exact mX n s e9 (k:Int) aa al ac ar Kt Ot G K w0 w hS0 hKt (fun h9 hk9=>(hA h9 hk9).arow) hl hal hn1 hn4 hs he hO
theorem nW (a:NfV) (w:World) (hA0:NIn w a) :
  Calls prog 18 #[a.val] w (fun e w'=>∃ (ok:Bool) (l:List Int) (wa:Option Addr) (wc:Nat),e = .returned (.tuple #[.slice wa l.length wc,.bool ok,.int .i64 (dH a)])∧LstE a ok l∧l.length≤8193∧Row w' wa l∧Below w.heap.size w w'):=by
 refine bD (args:=[a.val]) func18 rfl ntmps18 rfl ?_
 have hS:=St.start w
 have hA:bJ w [] (fun W=>NIn W a):=kF hA0
 have hlen:=hA0.alen
 refine aC (aG (bZ (cs:=[_,_,_,_,_]) hS rfl rfl rfl fun B1 W1 hS=>aB rfl rfl (aB rfl rfl (aB rfl rfl (aF (XF.thenN (aC (aC (aG (aM (vs:=[_,_,_,_,_]) isAgg24 sizeOf24 rfl (aK.own (j:=0) (m:=5) (hS.at_ 0 rfl) rfl) rfl (bV (vs:=[_]) hS lR rfl (lS a _ (hA0.below hS.below)) rfl fun W2 hS=>aB rfl rfl (aF (XF.thenN (aC (aG (aA rfl rfl (fB rfl rfl rfl (aF (XF.thenN (bA rfl (fun hc=>?_) (fun hc=>?_)))))))))))))))))))))
 ·have hc15:=of_decide_eq_true hc;clear hc
  refine aC (aG (aA rfl rfl (aB rfl rfl (aB rfl rfl (aB rfl rfl (aF (XF.thenN (bK (XF.thenR (XF.res (res3 results18 rfl rfl rfl) ?_))))))))))
  exact ⟨false,[],none,0,rfl,⟨fun _=>⟨rfl,rfl⟩,fun h=>absurd h hc15⟩,Nat.zero_le _,.inl rfl,hS.below⟩
 ·have hc15:=of_decide_eq_false hc;clear hc
  have h0:dH a=0:=Decidable.of_not_not hc15
  obtain ⟨n,k,s,e9,hn,hk,hs0,he0,hn1,hn4,hk4,hsn,hen,hal,hO⟩:=gG h0
  have hw1:IntKind.i64.wrap (0+1)=1:=by decide
  have hKt:∀ q∈([]:List (Nat×World)),q∈([]:List (Nat×World)):=fun q hq=>hq
  have hs9:a.s0.toNat=s:=by omega
  have he9:a.e0.toNat=e9:=by omega
  refine aO (XF.thenN (aC (aG (aM (vs:=[_,_,_,_,_]) isAgg24 sizeOf24 rfl (aK.own (j:=0) (m:=5) (hS.at_ 0 rfl) rfl) rfl (aP (vs:=[_]) goes_37 rfl (lZ a n k s e9 hn hk hs0 he0 [] _ [] [] w _ (hS.keep [] (fun q hq=>by cases hq)) hKt hA hal hlen hn1 hn4 hsn hen hO) rfl ?_)))))
  rintro e W9 ⟨FB,fs,K1,rfl,hF,hFb,hk1,hS9⟩
  refine ⟨_,rfl,?_⟩
  obtain ⟨K2,k2,gF,hS2⟩:=hS9.ownKeepN
  clear hS hS9;have hS:=hS2;clear hS2
  have hfl:=hF.len
  refine bH (cs:=[_]) hS zeroValue25 rfl rfl fun B3 W3 hS=>bO (i:=0) (cs':=[_]) (O':=[_,_]) hS sizeOf25 rfl rfl rfl rfl rfl rfl rfl fun W4 hS=>aF (XF.thenN (aC (aC ?_)))
  have hcF:=aE (gF (hS.keep K2 (fun q hq=>by simp [hq])) (fun q hq=>hq)) (iE (l:=fs) (i:=s) (by omega))
  refine aG (aI isAgg25 rfl (aE (hS.at_ 0 rfl) rfl) rfl (aH (o':=2) dN rfl rfl rfl (aI isAgg3 rfl (aE (hS.at_ 1 rfl) rfl) rfl (aS (j:=s) (b:=FB) (o:=0) (m:=n) (c:=n) underlying25 sizeOf3 rfl rfl (by exact hs0) (by omega) rfl rfl (aI isAgg3 rfl (hcF) rfl (bG rfl rfl rfl (aF (XF.thenN (bA rfl (fun hc=>?_) (fun hc=>?_))))))))))
  ·have hc24:=of_decide_eq_true hc;clear hc
   have hneg:fs.getD s 0 < 0:=by simpa using hc24
   refine aC (aG (aB rfl rfl (aB rfl rfl (aB rfl rfl (aF (XF.thenN (bK (XF.thenR (XF.res (res3 results18 rfl rfl rfl) ?_)))))))))
   exact ⟨false,[],none,0,by rw [h0];rfl,⟨fun h=>absurd h0 h,fun _=>.inl ⟨rfl,rfl,by rw [hs9,he9,hk];exact (hF.neg hsn).1 hneg⟩⟩,Nat.zero_le _,.inl rfl,hS.below⟩
  ·have hc24:=of_decide_eq_false hc;clear hc
   have hpos:0≤fs.getD s 0:=Int.not_lt.1 (by simpa using hc24)
   obtain ⟨m0,hm0⟩:∃ m0:Nat,fs.getD s 0=(m0:Int):=⟨(fs.getD s 0).toNat,by omega⟩
   have hmb:=hFb s hsn
   have hstart:=hF.start hsn hm0
   refine aO (XF.thenN (aC (aG (aM (vs:=[_,_,_,_,_]) isAgg24 sizeOf24 rfl (aK.own (j:=0) (m:=5) (hS.at_ 1 rfl) rfl) rfl (aP (vs:=[_]) iH rfl (iG a n (k:Int) [] _ [] K2 w _ (hS.keep K2 (fun q hq=>by simp [hq])) (fun q hq=>by cases hq) hA hn hn1 hn4 hal hO) rfl ?_)))))
   rintro e W9 ⟨RB,SB,OB,va,vc,K3,rfl,hk3,hOut,hS9⟩
   refine ⟨_,rfl,?_⟩
   clear hS;have hS:=hS9;clear hS9
   refine aB rfl rfl (aF (XF.thenN (aC (aG (aA rfl rfl (aH (o':=2) dN rfl rfl rfl (aI isAgg3 rfl (aE (hS.at_ 3 rfl) rfl) rfl (bC (us:=[(0,.int .i64 _)]) hS underlying25 sizeOf3 zeroValue3 rfl rfl rfl (dM _) rfl fun B5 W5 hS=>?_))))))))
   have hcF2:=aE (gF (hS.keep K3 (fun q hq=>by simp [hq])) (fun q hq=>hk3 q hq)) (iE (l:=fs) (i:=s) (by omega))
   obtain ⟨K4,k4,g4,hS2⟩:=(hS.keep K3 (fun q hq=>by simp [hq])).ownKeepN
   clear hS;have hS:=hS2;clear hS2
   refine aP (vs:=[_,_]) fG rfl (eE n a.ar OB va vc RB SB 0 1 (List.replicate n 0) (some ⟨B5,0,none⟩) 1 1 [a.s0] K4 _ [] K4 w _ hS (fun q hq=>hq) (hOut.moreN k4) (fun h9 hk9=>.inr ⟨_,0,rfl,fun j hj=>by obtain rfl:j=0:=(by simpa using hj);exact aE (g4 h9 hk9) rfl⟩) rfl (by decide) (fun y hy=>(by obtain rfl:y=a.s0:=(by simpa using hy);omega)) (kR hO) (by omega) (by simp) hw1 (iU (by decide)) hn4) rfl ?_
   rintro e W9 ⟨l1,wa1,wc1,ss1,K5,hH1,rfl,hle1,hsl1,hsf1,hk5,hR1,hS9⟩
   refine ⟨_,rfl,?_⟩
   clear hS;have hS:=hS9;clear hS9
   have hmem1:∀ q,q∈l1↔Hd a.ar (fun q=>q=a.s0.toNat) q:=fun q=>(by rw [hH1.at_];exact dC (fun q=>by simp;omega) q)
   refine aB rfl rfl (aF (XF.thenN (aC (aG (aB rfl rfl (aF (XF.thenN (aC (aC ?_)))))))))
   have hS':=hS.newG 3 1;clear hS;have hS:=hS';clear hS'
   have hcF3:=aE (gF (hS.keep K5 (fun q hq=>by simp [hq])) (fun q hq=>hk5 q (k4 q (hk3 q hq)))) (iE (l:=fs) (i:=s) (by omega))
   rw [hm0] at hcF3
   refine aG (aI isAgg25 rfl (aE (hS.at_ 2 rfl) rfl) rfl (aH (o':=2) dN rfl rfl rfl (aI isAgg3 rfl (aE (hS.at_ 3 rfl) rfl) rfl (aS (j:=s) (b:=FB) (o:=0) (m:=n) (c:=n) underlying25 sizeOf3 rfl rfl (by exact hs0) (by omega) rfl rfl (aI isAgg3 rfl (hcF3) rfl (bH (cs:=[_]) hS zeroValue3 rfl rfl fun B6 W6 hS=>bO (i:=0) (cs':=[_]) (O':=[_,_,_,_,_]) hS sizeOf3 rfl rfl rfl rfl rfl rfl rfl fun W7 hS=>aF (XF.thenN (aL ?_))))))))
   refine cD (fun m l W=>∃ (left:Nat) (u:List Int) (lp:List Nat) (la:Option Addr) (lc:Nat) (wa:Option Addr) (wc LB:Nat) (ss:List Int) (Kk:List (Nat×World)),m=left+1∧l=[(1,.pointer (some ⟨B1,0,none⟩)),(6,.pointer (some ⟨B3,0,none⟩)),(7,.pointer (some ⟨RB,0,none⟩)),(8,.slice la lp.length lc),(9,.slice wa u.length wc),(10,.pointer (some ⟨LB,0,none⟩))]∧LsI a.ar (k:Int) e9 (dV a.ar (Hd a.ar (fun q=>q=a.s0.toNat)) u) left∧Nrs a.ar (k:Int) e9 (dV a.ar (Hd a.ar (fun q=>q=a.s0.toNat)) u) (fun q=>q∈lp) left∧(∀ w9,LsW a.ar (k:Int) e9 left (dV a.ar (Hd a.ar (fun q=>q=a.s0.toNat)) u) w9→LsW a.ar (k:Int) e9 m0 (Hd a.ar (fun q=>q=a.s0.toNat)) (u++w9))∧u.length+left=m0∧lp.length≤n∧(∀ p∈lp,p < n)∧ss.length=n∧(∀ y∈ss,0≤y∧y≤(u.length:Int)+1)∧(∀ q∈K3,q∈Kk)∧bJ w Kk (fun W=>Row W la (nI lp))∧St w ((RB,[.slice (some ⟨OB,0,none⟩) n n,.slice (some ⟨SB,0,none⟩) n n,.int .i64 ((u.length:Int)+1)],73)::(SB,zI ss,3)::(B3,[.slice (some ⟨FB,0,none⟩) n n],25)::(LB,[.int .i64 (left:Int)],3)::(B1,a.cells,24)::[]) [⟨.slice wa u.length wc,u.length,zI u,3,1⟩] Kk W) (m0+1) ([(1,_),(6,_),(7,_),(8,_),(9,_),(10,_)]) ⟨rfl,rfl,rfl,rfl,rfl,rfl,trivial⟩ (⟨m0,[],l1,wa1,wc1,none,0,_,ss1,K5,rfl,rfl,by rw [hs9];exact hstart,⟨fun q hq=>(hmem1 q).1 hq,fun q hq _=>(hmem1 q).2 hq⟩,fun w9 h=>h,by simp,hle1,fun p hp=>(jT hO (fun q hq=>by omega) ((hmem1 p).1 hp)),hsl1,fun y hy=>(hsf1 y hy).elim (fun h=>by rw [List.eq_of_mem_replicate h];decide) (fun h=>by rw [h];decide),fun q hq=>hk5 q (k4 q hq),hR1,(hS.keep K5 (fun q hq=>by simp [hq])).perm perm31⟩) ?_
   clear hS
   rintro m l W ⟨left,u,lp,la,lc,wa,wc,LB,ss,Kk,rfl,rfl,hI,hN,hcont,hlen9,hlpl,hlt,hsl,hss,hkk,hRl,hS⟩
   refine aC (aC (aG (aI isAgg3 rfl (aE (hS.at_ 3 rfl) rfl) rfl (eG rfl rfl rfl (aF (XF.thenN (bA rfl (fun hc=>?_) (fun hc=>?_))))))))
   ·have hc38:=of_decide_eq_true hc;clear hc
    obtain ⟨lf,rfl⟩:∃ lf,left=lf+1:=⟨left - 1,by omega⟩
    refine aO (XF.thenN (aC (aL (aC (aG (aA rfl rfl (aA rfl rfl (aI isAgg25 rfl (aE (hS.at_ 2 rfl) rfl) rfl (aI isAgg3 rfl (aE (hS.at_ 3 rfl) rfl) rfl ?_)))))))))
    refine aP (vs:=[_,_,_,_]) goes_38 rfl (lY n a.ar OB va vc RB SB ((u.length:Int)+1) la lp.length lc lp (some ⟨FB,0,none⟩) n fs lf Kk _ _ Kk w _ (hS.keep Kk (fun q hq=>by simp [hq])) (fun q hq=>hq) (hOut.moreN hkk) hRl (fun h9 hk9=>.inr ⟨_,0,rfl,fun j hj=>aE (gF h9 (fun q hq=>hk9 q (hkk q (hk3 q hq)))) (by have h7:=iE (l:=fs) hj;rw [Nat.mul_one] at h7;exact h7)⟩) rfl hlpl hlt (kR hO) (by omega) hfl hn4 (by omega)) rfl ?_
    rintro e W9 ⟨x,rfl,hlm,hS9⟩
    refine ⟨_,rfl,?_⟩
    clear hS;have hS:=hS9;clear hS9
    obtain ⟨hK0,hx,hnx,hmin⟩:=lm_next hF hO hI hN hlm
    have hul:(u++[x]).length=u.length+1:=by simp
    refine aB rfl rfl (aF (XF.thenN (aC (aG (aA rfl rfl (aA rfl rfl (bC (us:=[(0,.int .i64 _)]) hS underlying25 sizeOf3 zeroValue3 rfl rfl rfl (dM _) rfl fun B8 W8 hS=>?_)))))))
    refine eD (i:=0) (news:=[_]) hS underlying25 kA rfl rfl (by show 0 < 1;decide) rfl rfl rfl rfl rfl (aK.own (j:=0) (m:=1) (hS.at_ 0 rfl) rfl) rfl rfl (by dsimp only;simp only [maxLen];omega) (by dsimp only;show _ * 8≤_;omega) rfl fun v9 W9 hS=>?_
    obtain ⟨wa8,wc8,e9x,_⟩:=cN (hS.row 0 rfl)
    dsimp only at e9x
    subst e9x
    have hS9:=hS.castG (G':=[⟨.slice wa8 (u.length+1) wc8,u.length+1,zI (u++[x]),3,1⟩]) (by show GR.mk _ _ (zI u++[Value.int .i64 _]) _ _::_=_;rw [lT])
    clear hS;have hS:=hS9.tail;clear hS9
    refine aB rfl rfl (aF (XF.thenN (aG (aA rfl rfl (aA rfl rfl (aA rfl rfl ?_))))))
    refine aP (vs:=[_,_,_]) lU rfl (iT n a.ar OB va vc RB SB ((u.length:Int)+1) (((u++[x]).length:Int)+1) ss la lp.length lc lp x Kk _ _ Kk w _ (hS.keep Kk (fun q hq=>by simp [hq])) (fun q hq=>hq) (hOut.moreN hkk) hRl rfl hlpl hlt (kR hO) (by omega) hsl (by rw [IntWalk.i64_in _ (by omega),hul];omega) (fun y hy=>(by have:=hss y hy;omega)) hn4) rfl ?_
    rintro e W9 ⟨l2,wa2,wc2,ss2,K6,hH2,rfl,hle2,hsl2,hsf2,hk6,hS9⟩
    refine ⟨_,rfl,?_⟩
    clear hS;have hS:=hS9;clear hS9
    have hl2n:∀ q∈l2,q < n:=fun q hq=>jT hO (fun q hq=>by_lt hO hq) ((hH2.at_ q).1 hq)
    refine opV (mV rfl rfl) rfl ?_
    refine aP (vs:=[_,_]) goes_39 rfl (nDel_is B3 LB (some ⟨FB,0,none⟩) n n fs lf wa2 l2.length wc2 l2 K6 _ _ K6 w _ ((hS.keep K6 (fun q hq=>by simp [hq])).perm sP) (fun q hq=>hq) (fun h9 hk9=>.inr ⟨_,0,rfl,fun j hj=>aE (gF h9 (fun q hq=>hk9 q (hk6 q (hkk q (hk3 q hq))))) (by have h7:=iE (l:=fs) hj;rw [Nat.mul_one] at h7;exact h7)⟩) hfl (by omega) rfl hl2n (by omega)) rfl ?_
    rintro e W9 ⟨wa3,wc3,rfl,hS9⟩
    refine ⟨_,rfl,?_⟩
    obtain ⟨K7,k7,g7,hS7⟩:=St.rowKeepN (o:=⟨.slice wa3 (kpN fs lf l2).length wc3,(kpN fs lf l2).length,zI (nI (kpN fs lf l2))⟩) hS9
    clear hS hS9;have hS:=hS7.perm sP;clear hS7
    refine aB rfl rfl (aF (XF.blkN (XF.thenN (aC (aC (aG (aI isAgg3 rfl (aE (hS.at_ 3 rfl) rfl) rfl (aF (XF.thenN (aG (bH (cs:=[_]) hS zeroValue3 rfl rfl fun B10 W10 hS=>bO (i:=0) (cs':=[_]) (O':=[_,_,_,_,_,_]) hS sizeOf3 rfl rfl rfl rfl rfl rfl rfl fun W11 hS=>aF (XF.thenN (aG (aI isAgg3 rfl (aE (hS.at_ 0 rfl) rfl) rfl (lG rfl rfl (IntWalk.i64_in _ (by omega)) rfl (bO (i:=0) (cs':=[_]) (O':=[_,_,_,_,_,_]) hS sizeOf3 rfl rfl rfl rfl rfl rfl rfl fun W12 hS=>aF ?_))))))))))))))))
    have e9v:(lf:Int)+1 - 1=(lf:Int):=by omega
    rw [e9v] at hS
    have hS9:=((hS.perm perm15).tail).castG (G':=[⟨.slice wa8 (u++[x]).length wc8,(u++[x]).length,zI (u++[x]),3,1⟩]) (by rw [hul])
    exact XF.round (lf+1) [(1,_),(6,_),(7,_),(8,_),(9,_),(10,_)] (by omega) ⟨rfl,rfl,rfl,rfl,rfl,rfl,trivial⟩ ⟨lf,u++[x],kpN fs lf l2,wa3,wc3,wa8,wc8,_,ss2,K7,rfl,by rw [hul],by rw [runNP_snoc];exact hI.next hK0 hx.1 hnx,by rw [runNP_snoc];exact hI.filt hN hK0 hx.1 (fun q=>⟨fun h=>⟨(hH2.at_ q).1 (iJ.1 h).1,(hF.ds (hl2n q (iJ.1 h).1)).1 (iJ.1 h).2⟩,fun h=>iJ.2 ⟨(hH2.at_ q).2 h.1,(hF.ds (hl2n q ((hH2.at_ q).2 h.1))).2 h.2⟩⟩),fun w9 h9=>(by rw [runNP_snoc] at h9;have h7:=hcont (x::w9) ⟨x,w9,rfl,hx,hnx,hmin,h9⟩;rw [List.append_assoc];exact h7),by rw [hul];omega,Nat.le_trans (List.length_filter_le _ _) hle2,fun p hp=>hl2n p (iJ.1 hp).1,hsl2,fun y hy=>(by
     rw [hul]
     rcases hsf2 y hy with h | h
     ·have:=hss y h;omega
     ·rw [hul] at h;omega),fun q hq=>k7 q (hk6 q (hkk q hq)),fun h9 hk9=>gJ (g7 h9 hk9),hS9.keep K7 (fun q hq=>by simp [hq])⟩
   ·have hc38:=of_decide_eq_false hc;clear hc
    obtain rfl:left=0:=by omega
    have hfin:=hcont [] rfl
    rw [List.append_nil] at hfin
    obtain ⟨K8,k8,g8,hS8⟩:=St.rowKeepN (o:=⟨.slice wa u.length wc,u.length,zI u⟩) (hS.keep Kk (fun q hq=>by simp [hq]))
    refine bS (XF.thenX (XF.thenX (XF.blkX (XF.thenN (aC (aG (aA rfl rfl (aB rfl rfl (aB rfl rfl (aB rfl rfl (aF (XF.thenN (bK (XF.res (res3 results18 rfl rfl rfl) ?_))))))))))))))
    exact ⟨true,u,wa,wc,by rw [h0],⟨fun h=>absurd h0 h,fun _=>.inr ⟨rfl,m0,by rw [hs9,he9,hk];exact (hF.ds hsn).1 hm0,by rw [he9,hk];exact hfin⟩⟩,by omega,gJ (g8 hS8 (fun q hq=>hq)),hS.below⟩
end
section
open Go.RowKit
open Go.Maps
open Go.ChangeMaps (setBlock)
section
variable {P:Program} {n:Nat} {Q:Exit→Act→World→Prop} {l:Fr} {W w0:World} {ops:Array Oper} {os:List Oper} {d:Nat} {ty:TypeId} {pos:String} {aft:Array Edge} {x y:Operand} {O:Own} {G:aQ} {K:List (Nat×World)}
theorem rn_eqlT {t u:TypeId} {p q:ByteArray} {b:Bool} (hx:evL l x=some (.string p)) (hy:evL l y=some (.string q)) (hb:(p.toList == q.toList)=b):cE P l ⟨some d,.binOp .eql t x y u,ty,pos,aft,none⟩ W (.bool b) W:=fun ev he=>cJ (he x _ hx) (he y _ hy) rfl (by subst hb;simp [binOp,Op.stringOp])
theorem mA {t u:TypeId} {p q:ByteArray} {b:Bool} (hx:evL l x=some (.string p)) (hy:evL l y=some (.string q)) (hb:(!(p.toList == q.toList))=b):cE P l ⟨some d,.binOp .neq t x y u,ty,pos,aft,none⟩ W (.bool b) W:=fun ev he=>cJ (he x _ hx) (he y _ hy) rfl (by subst hb;simp [binOp,Op.stringOp])
theorem kZ {T:TypeId} {s:ByteArray} {c:UInt8} {k:IntKind} {i:Int} {j:Nat} (hU:P.underlying T=some .string) (hx:evL l x=some (.string s)) (hy:evL l y=some (.int k i)) (hi:i=(j:Int)) (hs:s[j]?=some c):cE P l ⟨some d,.index T x y,ty,pos,aft,none⟩ W (.int .u8 (c.toNat:Int)) W:=fun ev he=>by
 subst hi
 unfold execOp;simp only [];rw [he x _ hx,he y _ hy]
 simp [Instr.index,asIntOf,run_underlying hU,hs]
end
theorem St.setMapT {w0 W W':World} {O:Own} {G:aQ} {K:List (Nat×World)} {b:Nat} (h:St w0 O G K W) (hm:W.mapTurned W' b) (hwb:w0.heap.size≤b) (hK:∀ q∈K,b < q.1∨q.2.heap.size≤b):St w0 O G K W':=by
 have hg:=hm.grown
 obtain ⟨es,clock,_,_,hb,_⟩:=hm
 have ne:∀ (k:Nat) (cs:Array Value) (T:TypeId),W.heap[k]?=some (.cells cs T (0,0))→k≠b:=fun k cs T hk e=>by
  subst e
  rw [hb] at hk;cases hk
 have blk:∀ k,k < W.heap.size→k≠b→W'.heap[k]?=W.heap[k]?:=fun k hk hne=>hg.block _ hk (fun e=>hne (Option.some.inj e))
 refine ⟨h.below.grown hg h.below.size (fun k hk=>by cases hk;exact hwb),fun p hp=>?_,h.dist,fun q hq=>⟨⟨Nat.le_trans (h.kept q hq).1.1 hg.size,fun k h1 h2=>?_⟩,(h.kept q hq).2⟩,fun g hg'=>⟨dK (h.rows g hg').1 fun k hk=>?_,(h.rows g hg').2⟩,h.gdist⟩
 ·obtain ⟨h1,h2⟩:=h.own p hp
  exact ⟨h1,(blk _ (cC h2) (ne _ _ _ h2)).trans h2⟩
 ·refine (blk k (Nat.lt_of_lt_of_le h2 (h.kept q hq).1.1) ?_).trans ((h.kept q hq).1.2 k h1 h2)
  rcases hK q hq with h3 | h3<;>omega
 ·exact blk k (((h.rows g hg').1.lt k hk).2) (mN (h.rows g hg').1 hb hk)
theorem iM:Go.Maps.Keyed prog 9:=string_keyed underlying9
def MsI (b:Nat) (es:List (List UInt8×Int)) (W:World):Prop:=∃ D:DataW Unit,W.ownsMap prog 9 (plainElem prog 3) b es.length D∧Tidy D∧Maps.size D=es.length∧(∀ l,Maps.has D (.string l)=es.any (fun p=>decide (p.1=l)))∧∀ l z,D.atKey (.string l) z=(match es.find? (fun p=>decide (p.1=l)) with | some p=>.lit (.int .i64 p.2) | none=>z)
theorem MsI.same {b:Nat} {es:List (List UInt8×Int)} {W W':World} (h:MsI b es W) (he:b < W.heap.size→W'.heap[b]?=W.heap[b]?):MsI b es W':=by
 obtain ⟨D,⟨es,clock,h1,h2⟩,h3⟩:=h
 exact ⟨D,⟨es,clock,(he (cC h1)).trans h1,h2⟩,h3⟩
theorem MsI.below {b:Nat} {es:List (List UInt8×Int)} {W W':World} (h:MsI b es W) (hb:Below W.heap.size W W'):MsI b es W':=h.same (fun h1=>hb.block _ h1)
theorem MsI.fresh (W:World):MsI W.heap.size [] (W.alloc (.map #[] 0)):=by
 refine ⟨.map [],World.ownsMap_made W _ _ _,(World.ownsMap_made W prog 9 (plainElem prog 3)).tidy iM,rfl,fun l=>?_,fun l z=>?_⟩
 ·simp [Maps.has]
 ·simp [DataW.atKey]
theorem MsI.made {W:World} {b:Nat} (hb:W.heap[b]?=some (.map #[] 0)):MsI b [] W:=by
 obtain ⟨D,⟨es,clock,h1,h2⟩,h3⟩:=MsI.fresh W
 have h4:=(heap_alloc_new W (.map #[] 0)).symm.trans h1
 injection h4 with h4
 injection h4 with h5 h6
 subst h5;subst h6
 exact ⟨D,⟨_,_,hb,h2⟩,h3⟩
theorem nX {s:ByteArray} (h:s.size≤maxLen):keyOf prog 9 (.string s)=some (.string s.data.toList):=WideMaps.keyOf_string_mk underlying9 h
theorem MsI.look {b:Nat} {es:List (List UInt8×Int)} {W:World} (h:MsI b es W) {s:ByteArray} {x:Int} (hs:s.size≤maxLen) (hf:es.find? (fun p=>decide (p.1=s.data.toList))=some (s.data.toList,x)) (hz:∀ w,(zeroValue 3).run prog w = .ok (.int .i64 0) w):(Instr.lookup 79 (.map (some b)) (.string s) true).run prog W = .ok (.tuple #[.int .i64 x,.bool true]) W:=by
 obtain ⟨D,h1,h2,h3,h4,h5⟩:=h
 obtain ⟨v,ps,h6,h7⟩:=h1.look_ok iM underlying79 (hz W) (plainElem_int underlying3 (a:=0) (by decide)) (nX hs)
 rw [h5,hf] at h7
 obtain ⟨a,rfl,h8,_⟩:=plainElem_int_inv underlying3 h7
 simp only [Prod.mk.injEq] at h8
 obtain ⟨h8,_⟩:=h8
 simp only [DataW.lit.injEq,Lit.int.injEq,true_and] at h8
 subst h8
 rw [h6,h4,List.any_eq_true.2 ⟨_,List.mem_of_find?_eq_some hf,by simp⟩]
theorem MsI.put {b:Nat} {es:List (List UInt8×Int)} {W:World} (h:MsI b es W) {s:ByteArray} {x:Int} (hs:s.size≤maxLen) (hx:(Lit.int .i64 x).wf=true) (hf:es.any (fun p=>decide (p.1=s.data.toList))=false) (hn:es.length < maxLen):∃ w',(Instr.mapUpdate 79 (.map (some b)) (.string s) (.int .i64 x)).run prog W = .ok () w'∧MsI b ((s.data.toList,x)::es) w'∧W.mapTurned w' b:=by
 obtain ⟨D,h1,h2,h3,h4,h5⟩:=h
 obtain ⟨w',h6,h7,h8⟩:=h1.store iM underlying79 hn (nX hs) (plainElem_int underlying3 hx)
 have hk:=iM.key (nX hs)
 have h9:w'.ownsMap prog 9 (plainElem prog 3) b ((s.data.toList,x)::es).length (D.put (.string s.data.toList) (.lit (.int .i64 x))):=h7
 refine ⟨w',h6,⟨D.put (.string s.data.toList) (.lit (.int .i64 x)),h9,h2.put hk _,?_,fun l=>?_,fun l z=>?_⟩,h8⟩
 ·rw [size_put h2,h4,hf,h3];rfl
 ·by_cases e:l=s.data.toList
  ·subst e
   rw [has_put_same h1.isMap hk];simp
  ·rw [has_put_other (fun e2=>e (by injection e2)),h4,List.any_cons,decide_eq_false (fun e2=>e e2.symm),Bool.false_or]
 ·by_cases e:l=s.data.toList
  ·subst e
   rw [atKey_put_same h1.isMap hk,List.find?_cons_of_pos (by simp)]
  ·rw [atKey_put_other (fun e2=>e (by injection e2)),h5,List.find?_cons_of_neg (by simpa using fun e2=>e e2.symm)]
section
variable {n:Nat} {ops:Array Oper} {Q:Exit→Act→World→Prop} {l:Fr} {w0 W:World} {O:Own} {G:aQ} {K:List (Nat×World)} {os:List Oper} {d b:Nat} {ty:TypeId} {pos:String} {aft:Array Edge} {x y z:Operand} {es:List (List UInt8×Int)} {s:ByteArray} {v:Int}
theorem sQ (hM:MsI b es W) (hs:s.size≤maxLen) (hf:es.find? (fun p=>decide (p.1=s.data.toList))=some (s.data.toList,v)) (hz:∀ w,(zeroValue 3).run prog w = .ok (.int .i64 0) w) (hx:evL l x=some (.map (some b))) (hy:evL l y=some (.string s)):cE prog l ⟨some d,.lookup 79 x y true,ty,pos,aft,none⟩ W (.tuple #[.int .i64 v,.bool true]) W:=fun ev he=>by
 unfold execOp;simp only [];rw [he x _ hx,he y _ hy]
 simp [hM.look hs hf hz,Result.andThen]
theorem nY (hS:St w0 O G K W) (hM:MsI b es W) (hs:s.size≤maxLen) (hv:(Lit.int .i64 v).wf=true) (hf:es.any (fun p=>decide (p.1=s.data.toList))=false) (hn:es.length < maxLen) (hwb:w0.heap.size≤b) (hK:∀ q∈K,b < q.1∨q.2.heap.size≤b) (hx:evL l x=some (.map (some b))) (hy:evL l y=some (.string s)) (hz:evL l z=some (.int .i64 v))
  (h:∀ W',St w0 O G K W'→MsI b ((s.data.toList,v)::es) W'→aT prog n ops Q os l W'):aT prog n ops Q (⟨none,.mapUpdate 79 x y z,ty,pos,aft,none⟩::os) l W:=fun a ha=>by
 obtain ⟨W',h1,h2,h3⟩:=hM.put hs hv hf hn
 refine wpList_plain rfl fun K' hK'=>?_
 unfold Oper.wp execOp
 simp only []
 rw [ha.ev x _ hx,ha.ev y _ hy,ha.ev z _ hz]
 simp only [Sem.run_bind,h1,Result.andThen_ok,Sem.run_pure,Oper.upon_skip]
 exact hK' _ _ (h W' (hS.setMapT h3 hwb hK) h2 a ha)
theorem mY (hM:MsI b es W) (hx:evL l x=some (.map (some b))):cE prog l ⟨some d,.call { callee:=.builtin .len,args:=#[x],argTypes:=#[79] },ty,pos,aft,none⟩ W (.int .i64 (es.length:Int)) W:=fun ev he=>by
 obtain ⟨D,h1,h2,h3,h4,h5⟩:=hM
 have h6:=h1.len underlying79 ty
 rw [h3] at h6
 unfold execOp
 simp only [resolve,invoke,builtin,Sem.run_bind,Sem.run_pure,Result.andThen_ok,List.map_toArray,List.map_cons,List.map_nil,he x _ hx,h6]
end
inductive ReV where
 | mk (op:Int) (nm:ByteArray) (ka:Option Addr) (kl kc:Nat) (kids:List ReV)
def ReV.op:ReV→Int | .mk op _ _ _ _ _=>op
def ReV.nm:ReV→ByteArray | .mk _ nm _ _ _ _=>nm
def ReV.kids:ReV→List ReV | .mk _ _ _ _ _ kids=>kids
def ReV.cells:ReV→List Value | .mk op nm ka kl kc _=>[.int .i64 op,.string nm,.slice ka kl kc]
def ReV.val:ReV→Value | .mk op nm ka kl kc _=>.agg #[.int .i64 op,.string nm,.slice ka kl kc]
inductive ReIn (W:World):ReV→Prop
 | mk {op:Int} {nm:ByteArray} {ka:Option Addr} {kl kc:Nat} {kids:List ReV}:kids.length=kl→kl≤500→kl≤kc→(∀ (i:Nat) k,kids[i]?=some k→∃ b off,ka=some ⟨b,off,none⟩∧aK W b (off+i * 3) k.cells)→(∀ k∈kids,ReIn W k)→ReIn W (.mk op nm ka kl kc kids)
theorem ReIn.keep {W W':World} (hb:Below W.heap.size W W') {x:ReV} (h:ReIn W x):ReIn W' x:=by
 induction h with
 | mk h1 h2 h2c h3 _ ih =>
  refine .mk h1 h2 h2c (fun i k hi=>?_) ih
  obtain ⟨b,off,e,hc⟩:=h3 i k hi
  exact ⟨b,off,e,aK.agree (aX hb 0) (Nat.zero_le _) hc⟩
def nZ (p:ByteArray):Prop:=p=⟨#[97]⟩∨p=⟨#[98]⟩
theorem nZ.facts {p:ByteArray} (h:nZ p):p.size=1∧((p.toList == (⟨#[]⟩:ByteArray).toList)=false)∧∃ c:UInt8,p[0]?=some c∧(97≤(c.toNat:Int)∧(c.toNat:Int)≤122):=by
 rcases h with rfl | rfl
 ·exact ⟨rfl,by rw [ByteArray.toList_eq,ByteArray.toList_eq];rfl,97,rfl,by decide⟩
 ·exact ⟨rfl,by rw [ByteArray.toList_eq,ByteArray.toList_eq];rfl,98,rfl,by decide⟩
inductive FitsR:ReV→Nat→Nat→Nat→Prop
 | mk {x:ReV} {d n:Nat} {f:Nat→Nat}:n+1≤500→d≤50→f 0=n+1→(∀ (i:Nat) k,x.kids[i]?=some k→FitsR k (d+1) (f i) (f (i+1)))→FitsR x d n (f x.kids.length)
def Shp (x:ReV):Prop:=(x.op=1∧nZ x.nm∧x.kids=[])∨(x.nm=⟨#[]⟩∧((x.op=3∧x.kids=[])∨((x.op=5∨x.op=6)∧(∀ k∈x.kids,k.op≠x.op)∧2≤x.kids.length)))
inductive WellM:ReV→Prop
 | mk {x:ReV}:(∀ k∈x.kids,WellM k)→Shp x→WellM x
def sR (W:World) (a:Option Addr) (ns:List ByteArray):Prop:=∀ (i:Nat) s,ns[i]?=some s→∃ b off,a=some ⟨b,off,none⟩∧W.cell? ⟨b,off+i * 1,none⟩=some (.string s)
end
section
open Go.RowKit
theorem cO (w:World) (b o:Nat):(Instr.fieldAt 62 (.pointer (some ⟨b,o,none⟩)) 0).run prog w = .ok (.pointer (some ⟨b,o+0,none⟩)) w:=by
 simp [Instr.fieldAt,run_underlying underlying62,Instr.sureAddr,go_sem,Addr.add_lit]
theorem iN (w:World) (b o:Nat):(Instr.fieldAt 62 (.pointer (some ⟨b,o,none⟩)) 1).run prog w = .ok (.pointer (some ⟨b,o+1,none⟩)) w:=by
 simp [Instr.fieldAt,run_underlying underlying62,Instr.sureAddr,go_sem,Addr.add_lit]
theorem dS (w:World) (b o:Nat):(Instr.fieldAt 62 (.pointer (some ⟨b,o,none⟩)) 2).run prog w = .ok (.pointer (some ⟨b,o+2,none⟩)) w:=by
 simp [Instr.fieldAt,run_underlying underlying62,Instr.sureAddr,go_sem,Addr.add_lit]
theorem goes_81:aZ prog 81=true:=by kernel_rfl
theorem pL:aZ prog 84=true:=by kernel_rfl
section
variable {P:Program} {n:Nat} {l:Fr} {W:World} {d:Nat} {ty t u:TypeId} {pos:String} {aft:Array Edge} {x y:Operand} {k:IntKind} {a b:Int} {c:Bool}
theorem aU (hx:evL l x=some (.int k a)) (hy:evL l y=some (.int k b)) (hb:decide (a=b)=c):cE P l ⟨some d,.binOp .eql t x y u,ty,pos,aft,none⟩ W (.bool c) W:=by subst hb;exact lE hx hy
theorem gK (hx:evL l x=some (.int k a)) (hy:evL l y=some (.int k b)) (hb:decide (a≠b)=c):cE P l ⟨some d,.binOp .neq t x y u,ty,pos,aft,none⟩ W (.bool c) W:=by subst hb;exact lF hx hy
end
theorem iO (c:Int) (h1:97≤c) (h2:c≤122) (w:World) :
  Calls prog 84 #[.int .u8 c] w (fun e w'=>e = .returned (.bool true)∧Below w.heap.size w w'):=by
 refine bD (args:=[.int .u8 c]) func84 rfl ntmps84 rfl ?_
 have hS:=St.start w
 refine aC (aG (aB rfl rfl (aF (XF.thenN (aC (aG (aA rfl rfl (eQ rfl rfl rfl (aA rfl rfl (bM (d:=5) rfl (fun hc=>?_) (fun hc=>?_)))))))))))
 ·have hg5:=of_decide_eq_true hc;clear hc
  refine aD (d:=5) rfl rfl (aA rfl rfl (aD (d:=5) rfl rfl (nE rfl rfl rfl (aR rfl rfl rfl (aA rfl rfl (bM (d:=9) rfl (fun hc=>?_) (fun hc=>?_)))))))
  ·have hg9:=of_decide_eq_true hc;clear hc
   refine aJ (d:=9) rfl rfl rfl rfl (aJ (d:=9) rfl rfl rfl rfl (aJ (d:=9) rfl rfl rfl rfl (sD (d:=12) rfl rfl rfl (sD (d:=12) rfl rfl rfl (aJ (d:=9) rfl rfl rfl rfl (aR rfl rfl rfl (aA rfl rfl (aJ (d:=17) rfl rfl rfl rfl (aJ (d:=17) rfl rfl rfl rfl (aR rfl rfl rfl (aB rfl rfl (aF (XF.thenN (bK (XF.res (bY results84 rfl) ?_)))))))))))))))
   first | exact ⟨eN (decide_eq_true (by omega)),hS.below⟩ | exact ⟨rfl,hS.below⟩ | (exfalso;simp at *;omega)
  ·have hg9:=of_decide_eq_false hc;clear hc
   refine aD (d:=9) rfl rfl (aA rfl rfl (aD (d:=9) rfl rfl (eQ rfl rfl rfl (aD (d:=9) rfl rfl (aA rfl rfl (bM (d:=12) rfl (fun hc=>?_) (fun hc=>?_)))))))
   ·have hg12:=of_decide_eq_true hc;clear hc
    refine aD (d:=12) rfl rfl (aA rfl rfl (aD (d:=12) rfl rfl (nE rfl rfl rfl (aD (d:=9) rfl rfl (aR rfl rfl rfl (aW rfl rfl rfl (aA rfl rfl (bM (d:=17) rfl (fun hc=>?_) (fun hc=>?_)))))))))
    ·have hg17:=of_decide_eq_true hc;clear hc
     refine aJ (d:=17) rfl rfl rfl rfl (aJ (d:=17) rfl rfl rfl rfl (aR rfl rfl rfl (aB rfl rfl (aF (XF.thenN (bK (XF.res (bY results84 rfl) ?_)))))))
     first | exact ⟨eN (decide_eq_true (by omega)),hS.below⟩ | exact ⟨rfl,hS.below⟩ | (exfalso;simp at *;omega)
    ·have hg17:=of_decide_eq_false hc;clear hc
     refine aD (d:=17) rfl rfl (aA rfl rfl (aD (d:=17) rfl rfl (dZ rfl rfl rfl (aW rfl rfl rfl (aB rfl rfl (aF (XF.thenN (bK (XF.res (bY results84 rfl) ?_)))))))))
     first | exact ⟨eN (decide_eq_true (by omega)),hS.below⟩ | exact ⟨rfl,hS.below⟩ | (exfalso;simp at *;omega)
   ·have hg12:=of_decide_eq_false hc;clear hc
    refine aJ (d:=12) rfl rfl rfl rfl (aJ (d:=12) rfl rfl rfl rfl (aD (d:=9) rfl rfl (aW rfl rfl rfl (aW rfl rfl rfl (aA rfl rfl (aD (d:=17) rfl rfl (aA rfl rfl (aD (d:=17) rfl rfl (dZ rfl rfl rfl (aW rfl rfl rfl (aB rfl rfl (aF (XF.thenN (bK (XF.res (bY results84 rfl) ?_)))))))))))))))
    first | exact ⟨eN (decide_eq_true (by omega)),hS.below⟩ | exact ⟨rfl,hS.below⟩ | (exfalso;simp at *;omega)
 ·have hg5:=of_decide_eq_false hc;clear hc
  refine aJ (d:=5) rfl rfl rfl rfl (aJ (d:=5) rfl rfl rfl rfl (aW rfl rfl rfl (aA rfl rfl (aD (d:=9) rfl rfl (aA rfl rfl (aD (d:=9) rfl rfl (eQ rfl rfl rfl (aD (d:=9) rfl rfl (aA rfl rfl (bM (d:=12) rfl (fun hc=>?_) (fun hc=>?_)))))))))))
  ·have hg12:=of_decide_eq_true hc;clear hc
   refine aD (d:=12) rfl rfl (aA rfl rfl (aD (d:=12) rfl rfl (nE rfl rfl rfl (aD (d:=9) rfl rfl (aR rfl rfl rfl (aW rfl rfl rfl (aA rfl rfl (bM (d:=17) rfl (fun hc=>?_) (fun hc=>?_)))))))))
   ·have hg17:=of_decide_eq_true hc;clear hc
    refine aJ (d:=17) rfl rfl rfl rfl (aJ (d:=17) rfl rfl rfl rfl (aR rfl rfl rfl (aB rfl rfl (aF (XF.thenN (bK (XF.res (bY results84 rfl) ?_)))))))
    first | exact ⟨eN (decide_eq_true (by omega)),hS.below⟩ | exact ⟨rfl,hS.below⟩ | (exfalso;simp at *;omega)
   ·have hg17:=of_decide_eq_false hc;clear hc
    refine aD (d:=17) rfl rfl (aA rfl rfl (aD (d:=17) rfl rfl (dZ rfl rfl rfl (aW rfl rfl rfl (aB rfl rfl (aF (XF.thenN (bK (XF.res (bY results84 rfl) ?_)))))))))
    first | exact ⟨eN (decide_eq_true (by omega)),hS.below⟩ | exact ⟨rfl,hS.below⟩ | (exfalso;simp at *;omega)
  ·have hg12:=of_decide_eq_false hc;clear hc
   refine aJ (d:=12) rfl rfl rfl rfl (aJ (d:=12) rfl rfl rfl rfl (aD (d:=9) rfl rfl (aW rfl rfl rfl (aW rfl rfl rfl (aA rfl rfl (aD (d:=17) rfl rfl (aA rfl rfl (aD (d:=17) rfl rfl (dZ rfl rfl rfl (aW rfl rfl rfl (aB rfl rfl (aF (XF.thenN (bK (XF.res (bY results84 rfl) ?_)))))))))))))))
   first | exact ⟨eN (decide_eq_true (by omega)),hS.below⟩ | exact ⟨rfl,hS.below⟩ | (exfalso;simp at *;omega)
theorem qU (p:ByteArray) (hp:nZ p) (w:World) :
  Calls prog 81 #[.string p] w (fun e w'=>e = .returned (.bool true)∧Below w.heap.size w w'):=by
 refine bD (args:=[.string p]) func81 rfl ntmps81 rfl ?_
 have hS:=St.start w
 obtain ⟨hsz,hne,c,hc0,hc1,hc2⟩:=hp.facts
 refine aC (aG (aB rfl rfl (aF (XF.thenN (aC (aC (aG (aA rfl rfl (opV (rn_eqlT (b:=false) rfl rfl hne) rfl (aA rfl rfl (aD (d:=6) rfl rfl (aA rfl rfl (aD (d:=6) rfl rfl (oM underlying9 rfl rfl (aD (d:=6) rfl rfl (eG rfl rfl rfl (aW rfl rfl rfl (aA rfl rfl (bM (d:=11) rfl (fun hc=>?_) (fun hc=>?_))))))))))))))))))))
 ·have hg11:=of_decide_eq_true hc;clear hc
  refine aJ (d:=11) rfl rfl rfl rfl (aJ (d:=11) rfl rfl rfl rfl (aJ (d:=11) rfl rfl rfl rfl (aJ (d:=11) rfl rfl rfl rfl (aR rfl rfl rfl (aF (XF.thenN (cT rfl (aC (aG (aB rfl rfl (aF (XF.thenN (bK (XF.thenR (XF.res (bY results81 rfl) ?_)))))))))))))))
  exfalso;omega
 ·have hg11:=of_decide_eq_false hc;clear hc
  refine aD (d:=11) rfl rfl (aA rfl rfl (aD (d:=11) rfl rfl (opV (kZ (j:=0) (c:=c) underlying9 rfl rfl rfl hc0) rfl (aD (d:=11) rfl rfl (bV (vs:=[_]) hS pL rfl (iO _ hc1 hc2 _) rfl fun W1 hS=>aD (d:=11) rfl rfl (cP rfl rfl (aW rfl rfl rfl (aF (XF.thenN (bT rfl (aO (XF.thenN (aC (aC (aG (aA rfl rfl (oM underlying9 rfl rfl (aA rfl rfl (aF (XF.thenN (aL (cD (fun m l W=>∃ (i:Nat),i≤1∧m=1 - i∧l=[(0,.string p),(18,.int .i64 (p.size:Int)),(19,.int .i64 (i:Int))]∧St w [] [] [] W) (1 - 0) ([(0,_),(18,_),(19,_)]) ⟨rfl,rfl,rfl,trivial⟩ (⟨0,Nat.zero_le _,rfl,rfl,hS.clear⟩) ?_))))))))))))))))))))))
  clear hS
  rintro m l W ⟨i,hi,rfl,rfl,hS⟩
  refine aC (aG (bG rfl rfl rfl (aF (XF.thenN (aC (bA rfl (fun hc=>?_) (fun hc=>?_)))))))
  ·have hc20:=of_decide_eq_true hc;clear hc
   obtain rfl:i=0:=by omega
   refine aO (XF.thenN (aC (aL (aC (aG (aA rfl rfl (aB rfl rfl (aF (XF.thenN (aC (aG (aA rfl rfl (aA rfl rfl (opV (kZ (j:=0) (c:=c) underlying9 rfl rfl rfl hc0) rfl (bV (vs:=[_]) hS pL rfl (iO _ hc1 hc2 _) rfl fun W2 hS=>cP rfl rfl (aA rfl rfl (aJ (d:=27) rfl rfl rfl rfl (aJ (d:=27) rfl rfl rfl rfl (aJ (d:=27) rfl rfl rfl rfl (aJ (d:=27) rfl rfl rfl rfl (aJ (d:=27) rfl rfl rfl rfl (aW rfl rfl rfl ?_))))))))))))))))))))))
   refine aF (XF.thenN (bT rfl (aO (XF.blkN (XF.thenN (aG (aV rfl rfl (IntWalk.i64_in _ (by omega)) rfl (aA rfl rfl (aF ?_)))))))))
   exact XF.round 0 [(0,_),(18,_),(19,_)] (by omega) ⟨rfl,rfl,rfl,trivial⟩ ⟨1,by omega,rfl,rfl,hS.clear⟩
  ·have hc20:=of_decide_eq_false hc;clear hc
   refine bS (XF.thenX (XF.thenX (XF.blkX (XF.thenN (aC (aG (aB rfl rfl (aF (XF.thenN (bK (XF.res (bY results81 rfl) ?_)))))))))))
   exact ⟨rfl,hS.below⟩
theorem oA (nm:ByteArray) (ka:Option Addr) (kc:Nat) (hnm:nZ nm) (w:World) :
  Calls prog 70 #[.agg #[.int .i64 1,.string nm,.slice ka 0 kc]] w (fun e w'=>e = .returned (.bool true)∧Below w.heap.size w w'):=by
 refine bD (args:=[.agg #[.int .i64 1,.string nm,.slice ka 0 kc]]) func70 rfl ntmps70 rfl ?_
 have hS:=St.start w
 refine aC (aG (bZ (cs:=[_,_,_]) hS rfl rfl rfl fun B1 W1 hS=>aB rfl rfl (aF (XF.thenN (aC (aC (aG (aH (o':=0) cO rfl rfl rfl (aI isAgg59 rfl (aE (hS.at_ 0 rfl) rfl) rfl (opV (gK (c:=false) rfl rfl (by decide)) rfl (aA rfl rfl (aJ (d:=8) rfl rfl rfl rfl (aJ (d:=8) rfl rfl rfl rfl (aJ (d:=8) rfl rfl rfl rfl (aW rfl rfl rfl (aF (XF.thenN (bT rfl (aO (XF.thenN (aC (aC (aG (aH (o':=0) cO rfl rfl rfl ?_))))))))))))))))))))))))
 refine aI isAgg59 rfl (aE (hS.at_ 0 rfl) rfl) rfl (aF (XF.thenN (aL (aC (aG (opV (aU (c:=true) rfl rfl (by decide)) rfl (aB rfl rfl (aF (XF.thenN (cT rfl (aC (aG (aH (o':=1) iN rfl rfl rfl (aI isAgg9 rfl (aE (hS.at_ 0 rfl) rfl) rfl (bV (vs:=[_]) hS goes_81 rfl (qU nm hnm _) rfl fun W2 hS=>aA rfl rfl (aD (d:=20) rfl rfl (aH (o':=2) dS rfl rfl rfl (aD (d:=20) rfl rfl (aI isAgg60 rfl (aE (hS.at_ 0 rfl) rfl) rfl (aD (d:=20) rfl rfl (bF underlying60 rfl rfl (aD (d:=20) rfl rfl (opV (aU (c:=true) rfl rfl (by decide)) rfl ?_)))))))))))))))))))))))
 refine aR rfl rfl rfl (aB rfl rfl (aF (XF.thenN (bK (XF.blkR (XF.thenR (XF.res (bY results70 rfl) ?_)))))))
 exact ⟨rfl,hS.below⟩
theorem oB (ka:Option Addr) (kc:Nat) (w:World) :
  Calls prog 70 #[.agg #[.int .i64 3,.string ⟨#[]⟩,.slice ka 0 kc]] w (fun e w'=>e = .returned (.bool true)∧Below w.heap.size w w'):=by
 refine bD (args:=[.agg #[.int .i64 3,.string ⟨#[]⟩,.slice ka 0 kc]]) func70 rfl ntmps70 rfl ?_
 have hS:=St.start w
 refine aC (aG (bZ (cs:=[_,_,_]) hS rfl rfl rfl fun B1 W1 hS=>aB rfl rfl (aF (XF.thenN (aC (aC (aG (aH (o':=0) cO rfl rfl rfl (aI isAgg59 rfl (aE (hS.at_ 0 rfl) rfl) rfl (opV (gK (c:=true) rfl rfl (by decide)) rfl (aA rfl rfl (aD (d:=8) rfl rfl (aH (o':=1) iN rfl rfl rfl (aD (d:=8) rfl rfl (aI isAgg9 rfl (aE (hS.at_ 0 rfl) rfl) rfl (aD (d:=8) rfl rfl ?_))))))))))))))))
 refine opV (mA (b:=false) rfl rfl (by rw [beq_self_eq_true];rfl)) rfl ?_
 refine aR rfl rfl rfl (aF (XF.thenN (bT rfl (aO (XF.thenN (aC (aC (aG (aH (o':=0) cO rfl rfl rfl (aI isAgg59 rfl (aE (hS.at_ 0 rfl) rfl) rfl (aF (XF.thenN (aL (aC (aG (opV (aU (c:=false) rfl rfl (by decide)) rfl (aB rfl rfl (aF (XF.thenN (bT rfl (aC (aC (aG (opV (aU (c:=false) rfl rfl (by decide)) rfl (aB rfl rfl (aF (XF.thenN ?_)))))))))))))))))))))))))))
 refine bT rfl (aC (aG (opV (aU (c:=true) rfl rfl (by decide)) rfl (aB rfl rfl (aF (XF.thenN (cT rfl (aO (XF.thenN (cT rfl (aC (aG (aH (o':=2) dS rfl rfl rfl (aI isAgg60 rfl (aE (hS.at_ 0 rfl) rfl) rfl (bF underlying60 rfl rfl (opV (aU (c:=true) rfl rfl (by decide)) rfl (aB rfl rfl (aF (XF.thenN (bK (XF.blkR (XF.thenR (XF.res (bY results70 rfl) ?_)))))))))))))))))))))))
 exact ⟨rfl,hS.below⟩
theorem oC (ka:Option Addr) (kl kc:Nat) (kids:List ReV) (w:World) (hkl:kids.length=kl) (hk5:kl≤500) (hk:∀ (i:Nat) k,kids[i]?=some k→∃ b off,ka=some ⟨b,off,none⟩∧aK w b (off+i * 3) k.cells) (hop:∀ k∈kids,k.op≠5) (h2:2≤kl) :
  Calls prog 70 #[.agg #[.int .i64 5,.string ⟨#[]⟩,.slice ka kl kc]] w (fun e w'=>e = .returned (.bool true)∧Below w.heap.size w w'):=by
 refine bD (args:=[.agg #[.int .i64 5,.string ⟨#[]⟩,.slice ka kl kc]]) func70 rfl ntmps70 rfl ?_
 have hS:=St.start w
 refine aC (aG (bZ (cs:=[_,_,_]) hS rfl rfl rfl fun B1 W1 hS=>aB rfl rfl (aF (XF.thenN (aC (aC (aG (aH (o':=0) cO rfl rfl rfl (aI isAgg59 rfl (aE (hS.at_ 0 rfl) rfl) rfl (opV (gK (c:=true) rfl rfl (by decide)) rfl (aA rfl rfl (aD (d:=8) rfl rfl (aH (o':=1) iN rfl rfl rfl (aD (d:=8) rfl rfl (aI isAgg9 rfl (aE (hS.at_ 0 rfl) rfl) rfl (aD (d:=8) rfl rfl ?_))))))))))))))))
 refine opV (mA (b:=false) rfl rfl (by rw [beq_self_eq_true];rfl)) rfl ?_
 refine aR rfl rfl rfl (aF (XF.thenN (bT rfl (aO (XF.thenN (aC (aC (aG (aH (o':=0) cO rfl rfl rfl (aI isAgg59 rfl (aE (hS.at_ 0 rfl) rfl) rfl (aF (XF.thenN (aL (aC (aG (opV (aU (c:=false) rfl rfl (by decide)) rfl (aB rfl rfl (aF (XF.thenN (bT rfl (aC (aC (aG (opV (aU (c:=false) rfl rfl (by decide)) rfl (aB rfl rfl (aF (XF.thenN ?_)))))))))))))))))))))))))))
 refine bT rfl (aC (aG (opV (aU (c:=false) rfl rfl (by decide)) rfl (aB rfl rfl (aF (XF.thenN (bT rfl (aG (opV (aU (c:=false) rfl rfl (by decide)) rfl (aB rfl rfl (aF (XF.thenN (bT rfl (aC (aC (aG (opV (aU (c:=true) rfl rfl (by decide)) rfl (aB rfl rfl (aF (XF.thenN (cT rfl (aO (XF.thenN (cT rfl (aC ?_)))))))))))))))))))))))))
 refine aC (aG (aH (o':=2) dS rfl rfl rfl (aI isAgg60 rfl (aE (hS.at_ 0 rfl) rfl) rfl (bF underlying60 rfl rfl (aA rfl rfl (aF (XF.thenN (aL (cD (fun m l W=>∃ (i:Nat),i≤kl∧m=kl - i∧l=[(1,.pointer (some ⟨B1,0,none⟩)),(38,.slice ka kl kc),(39,.int .i64 (kl:Int)),(40,.int .i64 (i:Int))]∧St w [(B1,[.int .i64 5,.string ⟨#[]⟩,.slice ka kl kc],62)] [] [] W) (kl - 0) ([(1,_),(38,_),(39,_),(40,_)]) ⟨rfl,rfl,rfl,rfl,trivial⟩ (⟨0,Nat.zero_le _,rfl,rfl,hS.clear⟩) ?_)))))))))
 clear hS
 rintro m l W ⟨i,hi,rfl,rfl,hS⟩
 refine aC (aG (bG rfl rfl rfl (aF (XF.thenN (aC (bA rfl (fun hc=>?_) (fun hc=>?_)))))))
 ·have hc41:=of_decide_eq_true hc;clear hc
  obtain ⟨k,hki⟩:∃ k,kids[i]?=some k:=⟨_,List.getElem?_eq_getElem (by omega)⟩
  have hkop:=hop k (List.mem_of_getElem? hki)
  obtain ⟨b,off,hka,hcs⟩:=hk i k hki
  obtain ⟨ko,kn,kka,kkl,kkc,kks⟩:=k
  have k1:aK W b (off+i * 3) [.int .i64 ko,.string kn,.slice kka kkl kkc]:=aK.agree (aX hS.below 0) (Nat.zero_le _) hcs
  replace hkop:ko≠5:=hkop
  refine aO (XF.thenN (aC (aL (aC (aG ?_)))))
  refine aS (j:=i) (b:=b) (o:=off) (m:=kl) (c:=kc) underlying60 sizeOf62 (by show some (Value.slice _ _ _)=_;rw [hka]) rfl rfl (by omega) rfl rfl ?_
  refine aM (vs:=[_,_,_]) isAgg62 sizeOf62 rfl k1 rfl (bH (cs:=[_,_,_]) hS zeroValue62 rfl rfl fun B2 W2 hS=>bI (i:=0) (vs:=[_,_,_]) (cs':=[_,_,_]) (O':=[_,_]) hS sizeOf62 rfl rfl rfl rfl rfl rfl rfl fun W3 hS=>aF (XF.thenN (aC (aG (aH (o':=0) cO rfl rfl rfl (aI isAgg59 rfl (aE (hS.at_ 0 rfl) rfl) rfl (aH (o':=0) cO rfl rfl rfl (aI isAgg59 rfl (aE (hS.at_ 1 rfl) rfl) rfl (opV (aU (c:=false) rfl rfl (decide_eq_false hkop)) rfl (aF (XF.thenN (bT rfl (aO (XF.blkN (XF.thenN (aG (aV rfl rfl (IntWalk.i64_in _ (by omega)) rfl (aA rfl rfl (aF ?_)))))))))))))))))))
  exact XF.round (kl - (i+1)) [(1,_),(38,_),(39,_),(40,_)] (by omega) ⟨rfl,rfl,rfl,rfl,trivial⟩ ⟨i+1,by omega,rfl,rfl,hS.tail.clear⟩
 ·have hc41:=of_decide_eq_false hc;clear hc
  refine bS (XF.thenX (XF.thenX (XF.blkX (XF.thenN (aC (aG (aH (o':=2) dS rfl rfl rfl (aI isAgg60 rfl (aE (hS.at_ 0 rfl) rfl) rfl (bF underlying60 rfl rfl (eQ rfl rfl rfl (aB rfl rfl (aF (XF.thenN (bK (XF.blkR (XF.thenR (XF.res (bY results70 rfl) ?_)))))))))))))))))
  exact ⟨eN (decide_eq_true (by omega)),hS.below⟩
theorem oD (ka:Option Addr) (kl kc:Nat) (kids:List ReV) (w:World) (hkl:kids.length=kl) (hk5:kl≤500) (hk:∀ (i:Nat) k,kids[i]?=some k→∃ b off,ka=some ⟨b,off,none⟩∧aK w b (off+i * 3) k.cells) (hop:∀ k∈kids,k.op≠6) (h2:2≤kl) :
  Calls prog 70 #[.agg #[.int .i64 6,.string ⟨#[]⟩,.slice ka kl kc]] w (fun e w'=>e = .returned (.bool true)∧Below w.heap.size w w'):=by
 refine bD (args:=[.agg #[.int .i64 6,.string ⟨#[]⟩,.slice ka kl kc]]) func70 rfl ntmps70 rfl ?_
 have hS:=St.start w
 refine aC (aG (bZ (cs:=[_,_,_]) hS rfl rfl rfl fun B1 W1 hS=>aB rfl rfl (aF (XF.thenN (aC (aC (aG (aH (o':=0) cO rfl rfl rfl (aI isAgg59 rfl (aE (hS.at_ 0 rfl) rfl) rfl (opV (gK (c:=true) rfl rfl (by decide)) rfl (aA rfl rfl (aD (d:=8) rfl rfl (aH (o':=1) iN rfl rfl rfl (aD (d:=8) rfl rfl (aI isAgg9 rfl (aE (hS.at_ 0 rfl) rfl) rfl (aD (d:=8) rfl rfl ?_))))))))))))))))
 refine opV (mA (b:=false) rfl rfl (by rw [beq_self_eq_true];rfl)) rfl ?_
 refine aR rfl rfl rfl (aF (XF.thenN (bT rfl (aO (XF.thenN (aC (aC (aG (aH (o':=0) cO rfl rfl rfl (aI isAgg59 rfl (aE (hS.at_ 0 rfl) rfl) rfl (aF (XF.thenN (aL (aC (aG (opV (aU (c:=false) rfl rfl (by decide)) rfl (aB rfl rfl (aF (XF.thenN (bT rfl (aC (aC (aG (opV (aU (c:=false) rfl rfl (by decide)) rfl (aB rfl rfl (aF (XF.thenN ?_)))))))))))))))))))))))))))
 refine bT rfl (aC (aG (opV (aU (c:=false) rfl rfl (by decide)) rfl (aB rfl rfl (aF (XF.thenN (bT rfl (aG (opV (aU (c:=false) rfl rfl (by decide)) rfl (aB rfl rfl (aF (XF.thenN (bT rfl (aC (aC (aG (opV (aU (c:=false) rfl rfl (by decide)) rfl (aB rfl rfl (aF (XF.thenN (bT rfl (aG (opV (aU (c:=true) rfl rfl (by decide)) rfl (aB rfl rfl (aF (XF.thenN ?_))))))))))))))))))))))))))
 refine cT rfl (aC (aC (aG (aH (o':=2) dS rfl rfl rfl (aI isAgg60 rfl (aE (hS.at_ 0 rfl) rfl) rfl (bF underlying60 rfl rfl (aA rfl rfl (aF (XF.thenN (aL (cD (fun m l W=>∃ (i:Nat),i≤kl∧m=kl - i∧l=[(1,.pointer (some ⟨B1,0,none⟩)),(38,.slice ka kl kc),(39,.int .i64 (kl:Int)),(40,.int .i64 (i:Int))]∧St w [(B1,[.int .i64 6,.string ⟨#[]⟩,.slice ka kl kc],62)] [] [] W) (kl - 0) ([(1,_),(38,_),(39,_),(40,_)]) ⟨rfl,rfl,rfl,rfl,trivial⟩ (⟨0,Nat.zero_le _,rfl,rfl,hS.clear⟩) ?_)))))))))))
 clear hS
 rintro m l W ⟨i,hi,rfl,rfl,hS⟩
 refine aC (aG (bG rfl rfl rfl (aF (XF.thenN (aC (bA rfl (fun hc=>?_) (fun hc=>?_)))))))
 ·have hc41:=of_decide_eq_true hc;clear hc
  obtain ⟨k,hki⟩:∃ k,kids[i]?=some k:=⟨_,List.getElem?_eq_getElem (by omega)⟩
  have hkop:=hop k (List.mem_of_getElem? hki)
  obtain ⟨b,off,hka,hcs⟩:=hk i k hki
  obtain ⟨ko,kn,kka,kkl,kkc,kks⟩:=k
  have k1:aK W b (off+i * 3) [.int .i64 ko,.string kn,.slice kka kkl kkc]:=aK.agree (aX hS.below 0) (Nat.zero_le _) hcs
  replace hkop:ko≠6:=hkop
  refine aO (XF.thenN (aC (aL (aC (aG ?_)))))
  refine aS (j:=i) (b:=b) (o:=off) (m:=kl) (c:=kc) underlying60 sizeOf62 (by show some (Value.slice _ _ _)=_;rw [hka]) rfl rfl (by omega) rfl rfl ?_
  refine aM (vs:=[_,_,_]) isAgg62 sizeOf62 rfl k1 rfl (bH (cs:=[_,_,_]) hS zeroValue62 rfl rfl fun B2 W2 hS=>bI (i:=0) (vs:=[_,_,_]) (cs':=[_,_,_]) (O':=[_,_]) hS sizeOf62 rfl rfl rfl rfl rfl rfl rfl fun W3 hS=>aF (XF.thenN (aC (aG (aH (o':=0) cO rfl rfl rfl (aI isAgg59 rfl (aE (hS.at_ 0 rfl) rfl) rfl (aH (o':=0) cO rfl rfl rfl (aI isAgg59 rfl (aE (hS.at_ 1 rfl) rfl) rfl (opV (aU (c:=false) rfl rfl (decide_eq_false hkop)) rfl (aF (XF.thenN (bT rfl (aO (XF.blkN (XF.thenN (aG (aV rfl rfl (IntWalk.i64_in _ (by omega)) rfl (aA rfl rfl (aF ?_)))))))))))))))))))
  exact XF.round (kl - (i+1)) [(1,_),(38,_),(39,_),(40,_)] (by omega) ⟨rfl,rfl,rfl,rfl,trivial⟩ ⟨i+1,by omega,rfl,rfl,hS.tail.clear⟩
 ·have hc41:=of_decide_eq_false hc;clear hc
  refine bS (XF.thenX (XF.thenX (XF.blkX (XF.thenN (aC (aG (aH (o':=2) dS rfl rfl rfl (aI isAgg60 rfl (aE (hS.at_ 0 rfl) rfl) rfl (bF underlying60 rfl rfl (eQ rfl rfl rfl (aB rfl rfl (aF (XF.thenN (bK (XF.blkR (XF.thenR (XF.res (bY results70 rfl) ?_)))))))))))))))))
  exact ⟨eN (decide_eq_true (by omega)),hS.below⟩
theorem qV (x:ReV) (w:World) (hx:ReIn w x) (hs:Shp x):Calls prog 70 #[x.val] w (fun e w'=>e = .returned (.bool true)∧Below w.heap.size w w'):=by
 cases hx with
 | @mk op nm ka kl kc kids h1 h2 h2c h3 h4 =>
  rcases hs with ⟨e1,e2,e3⟩ | ⟨e1,⟨e2,e3⟩ | ⟨e2,e3,e4⟩⟩
  ·change op=1 at e1
   change kids=[] at e3
   subst e1 e3
   obtain rfl:0=kl:=h1
   exact oA nm ka kc e2 w
  ·change nm=_ at e1
   change op=3 at e2
   change kids=[] at e3
   subst e1 e2 e3
   obtain rfl:0=kl:=h1
   exact oB ka kc w
  ·change nm=_ at e1
   change op=5∨op=6 at e2
   subst e1
   rcases e2 with rfl | rfl
   ·exact oC ka kl kc kids w h1 h2 h3 e3 (by rw [← h1];exact e4)
   ·exact oD ka kl kc kids w h1 h2 h3 e3 (by rw [← h1];exact e4)
theorem pM:aZ prog 55=true:=by kernel_rfl
theorem pN:aZ prog 56=true:=by kernel_rfl
theorem goes_70:aZ prog 70=true:=by kernel_rfl
theorem iV {α:Type} {a b c:α} {l:List α}:(a::b::c::l).Perm (c::a::b::l):=List.perm_middle (l₁:=[a,b]) (a:=c) (l₂:=l)
theorem oE (op:Int) (nm:ByteArray) (ka:Option Addr) (kl kc:Nat) (kids:List ReV) (w:World) (hX:ReIn w (.mk op nm ka kl kc kids)) (hs:Shp (.mk op nm ka kl kc kids)) (hih:∀ k∈kids,∀ w,ReIn w k→Calls prog 56 #[k.val] w (fun e w'=>e = .returned (.bool true)∧Below w.heap.size w w')) :
  Calls prog 56 #[.agg #[.int .i64 op,.string nm,.slice ka kl kc]] w (fun e w'=>e = .returned (.bool true)∧Below w.heap.size w w'):=by
 refine bD (args:=[.agg #[.int .i64 op,.string nm,.slice ka kl kc]]) func56 rfl ntmps56 rfl ?_
 have hS:=St.start w
 obtain ⟨hkl,hk5,hk,hk4⟩:kids.length=kl∧kl≤500∧(∀ (i:Nat) k,kids[i]?=some k→∃ b off,ka=some ⟨b,off,none⟩∧aK w b (off+i * 3) k.cells)∧∀ k∈kids,ReIn w k:=(by cases hX with | mk h1 h2 h2c h3 h4=>exact ⟨h1,h2,h3,h4⟩)
 refine aC (aG (bZ (cs:=[_,_,_]) hS rfl rfl rfl fun B1 W1 hS=>aB rfl rfl (aF (XF.thenN (aC (aC (aG (aH (o':=2) dS rfl rfl rfl (aI isAgg60 rfl (aE (hS.at_ 0 rfl) rfl) rfl (bF underlying60 rfl rfl (aA rfl rfl (aF (XF.thenN (aL (cD (fun m l W=>∃ (i:Nat),i≤kl∧m=kl - i∧l=[(1,.pointer (some ⟨B1,0,none⟩)),(6,.slice ka kl kc),(7,.int .i64 (kl:Int)),(8,.int .i64 (i:Int))]∧St w [(B1,[.int .i64 op,.string nm,.slice ka kl kc],62)] [] [] W) (kl - 0) ([(1,_),(6,_),(7,_),(8,_)]) ⟨rfl,rfl,rfl,rfl,trivial⟩ (⟨0,Nat.zero_le _,rfl,rfl,hS.clear⟩) ?_)))))))))))))))
 clear hS
 rintro m l W ⟨i,hi,rfl,rfl,hS⟩
 refine aC (aG (bG rfl rfl rfl (aF (XF.thenN (aC (bA rfl (fun hc=>?_) (fun hc=>?_)))))))
 ·have hc9:=of_decide_eq_true hc;clear hc
  obtain ⟨k,hki⟩:∃ k,kids[i]?=some k:=⟨_,List.getElem?_eq_getElem (by omega)⟩
  have hkm:=List.mem_of_getElem? hki
  obtain ⟨b,off,hka,hcs0⟩:=hk i k hki
  have hcs:aK W b (off+i * 3) k.cells:=aK.agree (aX hS.below 0) (Nat.zero_le _) hcs0
  have hkx:=hk4 k hkm
  have hkc:=hih k hkm
  obtain ⟨ko,kn,kka,kkl,kkc,kks⟩:=k
  have k1:aK _ b (off+i * 3) [.int .i64 ko,.string kn,.slice kka kkl kkc]:=hcs
  refine aO (XF.thenN (aC (aL (aC (aG ?_)))))
  refine aS (j:=i) (b:=b) (o:=off) (m:=kl) (c:=kc) underlying60 sizeOf62 (by show some (Value.slice _ _ _)=_;rw [hka]) rfl rfl (by omega) rfl rfl ?_
  refine aM (vs:=[_,_,_]) isAgg62 sizeOf62 rfl k1 rfl (bH (cs:=[_,_,_]) hS zeroValue62 rfl rfl fun B2 W2 hS=>bI (i:=0) (vs:=[_,_,_]) (cs':=[_,_,_]) (O':=[_,_]) hS sizeOf62 rfl rfl rfl rfl rfl rfl rfl fun W3 hS=>aF (XF.thenN (aC (aG (aM (vs:=[_,_,_]) isAgg62 sizeOf62 rfl (aK.own (j:=0) (m:=3) (hS.at_ 0 rfl) rfl) rfl (bV (vs:=[_]) hS pN rfl (hkc _ (hkx.keep hS.below)) rfl fun W4 hS=>cP rfl rfl (aF (XF.thenN (bT rfl (aO (XF.blkN (XF.thenN (aG (aV rfl rfl (IntWalk.i64_in _ (by omega)) rfl (aA rfl rfl (aF ?_))))))))))))))))
  exact XF.round (kl - (i+1)) [(1,_),(6,_),(7,_),(8,_)] (by omega) ⟨rfl,rfl,rfl,rfl,trivial⟩ ⟨i+1,by omega,rfl,rfl,hS.tail.clear⟩
 ·have hc9:=of_decide_eq_false hc;clear hc
  refine bS (XF.thenX (XF.thenX (XF.blkX (XF.thenN (aC (aG (aM (vs:=[_,_,_]) isAgg62 sizeOf62 rfl (aK.own (j:=0) (m:=3) (hS.at_ 0 rfl) rfl) rfl (bV (vs:=[_]) hS goes_70 rfl (qV (.mk op nm ka kl kc kids) _ (hX.keep hS.below) hs) rfl fun W5 hS=>aB rfl rfl (aF (XF.thenN (bK (XF.res (bY results56 rfl) ?_))))))))))))
  exact ⟨rfl,hS.below⟩
theorem sS (x:ReV) (hw:WellM x):∀ w,ReIn w x→Calls prog 56 #[x.val] w (fun e w'=>e = .returned (.bool true)∧Below w.heap.size w w'):=by
 induction hw with
 | @mk x h1 h2 ih =>
  intro w hx
  cases x with
  | mk op nm ka kl kc kids=>exact oE op nm ka kl kc kids w hx h2 ih
theorem oF (op:Int) (nm:ByteArray) (ka:Option Addr) (kl kc:Nat) (kids:List ReV) (d n NB:Nat) (f:Nat→Nat) (Kt:List (Nat×World)) (Ot:Own) (G:aQ) (K:List (Nat×World)) (w0 w:World) (hS0:St w0 ((NB,[.int .i64 (n:Int)],3)::Ot) G K w) (hKt:∀ q∈Kt,q∈K) (hX:bJ w0 Kt (fun W=>ReIn W (.mk op nm ka kl kc kids))) (hn:n+1≤500) (hd:d≤50) (hf0:f 0=n+1) (hih:∀ (i:Nat) k,kids[i]?=some k→∀ (NB:Nat) (Kt:List (Nat×World)) (Ot:Own) (G:aQ) (K:List (Nat×World)) (w0 w:World),St w0 ((NB,[.int .i64 (f i:Int)],3)::Ot) G K w→(∀ q∈Kt,q∈K)→bJ w0 Kt (fun W=>ReIn W k)→Calls prog 55 #[k.val,.int .i64 ((d+1:Nat):Int),.pointer (some ⟨NB,0,none⟩)] w (fun e w'=>e = .returned (.bool true)∧St w0 ((NB,[.int .i64 (f (i+1):Int)],3)::Ot) G K w')) :
  Calls prog 55 #[.agg #[.int .i64 op,.string nm,.slice ka kl kc],.int .i64 (d:Int),.pointer (some ⟨NB,0,none⟩)] w (fun e w'=>e = .returned (.bool true)∧St w0 ((NB,[.int .i64 (f kids.length:Int)],3)::Ot) G K w'):=by
 refine bD (args:=[.agg #[.int .i64 op,.string nm,.slice ka kl kc],.int .i64 (d:Int),.pointer (some ⟨NB,0,none⟩)]) func55 rfl ntmps55 rfl ?_
 have hS:=hS0
 obtain ⟨hkl,hk5⟩:kids.length=kl∧kl≤500:=(by cases hX hS0 hKt with | mk h1 h2 h2c h3 h4=>exact ⟨h1,h2⟩)
 have hk:bJ w0 Kt (fun W=>∀ (i:Nat) k,kids[i]?=some k→∃ b off,ka=some ⟨b,off,none⟩∧aK W b (off+i * 3) k.cells):=fun h9 hk9=>(by cases hX h9 hk9 with | mk h1 h2 h2c h3 h4=>exact h3)
 have hk4:∀ k∈kids,bJ w0 Kt (fun W=>ReIn W k):=fun k hk=>(show bJ w0 Kt (fun W=>ReIn W k) from fun h9 hk9=>(by cases hX h9 hk9 with | mk h1 h2 h2c h3 h4=>exact h4 k hk))
 refine aC (aG (bZ (cs:=[_,_,_]) hS rfl rfl rfl fun B1 W1 hS=>aB rfl rfl (aF (XF.thenN (aC (aG (aA rfl rfl (aY rfl rfl (aI isAgg3 rfl (aE (hS.at_ 1 rfl) rfl) rfl (aV rfl rfl (IntWalk.i64_in _ (by omega)) rfl (aY rfl rfl (bO (i:=1) (cs':=[_]) (O':=(_::_::Ot)) hS sizeOf3 rfl rfl rfl rfl rfl rfl rfl fun W2 hS=>aF (XF.thenN (aC (aC (aG (aA rfl rfl (aY rfl rfl (aI isAgg3 rfl (aE (hS.at_ 1 rfl) rfl) rfl (eG rfl rfl rfl (aA rfl rfl (bM (d:=18) rfl (fun hc=>?_) (fun hc=>?_)))))))))))))))))))))))
 ·have hg18:=of_decide_eq_true hc;clear hc
  refine aJ (d:=18) rfl rfl rfl rfl (aJ (d:=18) rfl rfl rfl rfl (aR rfl rfl rfl (aF (XF.thenN (cT rfl (aC (aG (aB rfl rfl (aF (XF.thenN (bK (XF.thenR (XF.res (bY results55 rfl) ?_)))))))))))))
  exfalso;omega
 ·have hg18:=of_decide_eq_false hc;clear hc
  refine aD (d:=18) rfl rfl (aA rfl rfl (aD (d:=18) rfl rfl (eG rfl rfl rfl (aW rfl rfl rfl (aF (XF.thenN (bA rfl (fun hc=>?_) (fun hc=>?_))))))))
  ·have hc21:=of_decide_eq_true hc;clear hc
   refine aC (aG (aB rfl rfl (aF (XF.thenN (bK (XF.thenR (XF.res (bY results55 rfl) ?_)))))))
   exfalso;omega
  ·have hc21:=of_decide_eq_false hc;clear hc
   refine aO (XF.thenN (aC (aC ?_)))
   have e0:(n:Int)+1=(f 0:Int):=by omega
   rw [e0] at hS
   refine aG (aH (o':=2) dS rfl rfl rfl (aI isAgg60 rfl (aE (hS.at_ 0 rfl) rfl) rfl (bF underlying60 rfl rfl (aA rfl rfl (aF (XF.thenN (aL (cD (fun m l W=>∃ (i:Nat),i≤kl∧m=kl - i∧l=[(1,.int .i64 (d:Int)),(2,.pointer (some ⟨NB,0,none⟩)),(23,.slice ka kl kc),(24,.int .i64 (kl:Int)),(25,.int .i64 (i:Int))]∧St w0 ((B1,[.int .i64 op,.string nm,.slice ka kl kc],62)::(NB,[.int .i64 (f i:Int)],3)::Ot) G K W) (kl - 0) ([(1,_),(2,_),(23,_),(24,_),(25,_)]) ⟨rfl,rfl,rfl,rfl,rfl,trivial⟩ (⟨0,Nat.zero_le _,rfl,rfl,hS.keep K (fun q hq=>by simp [hq])⟩) ?_))))))))
   clear hS
   rintro m l W ⟨i,hi,rfl,rfl,hS⟩
   refine aC (aG (bG rfl rfl rfl (aF (XF.thenN (aC (bA rfl (fun hc=>?_) (fun hc=>?_)))))))
   ·have hc26:=of_decide_eq_true hc;clear hc
    obtain ⟨k,hki⟩:∃ k,kids[i]?=some k:=⟨_,List.getElem?_eq_getElem (by omega)⟩
    have hkm:=List.mem_of_getElem? hki
    obtain ⟨b,off,hka,hcs⟩:=hk (hS.keep K (fun q hq=>by simp [hq])) hKt i k hki
    have hkx:bJ w0 Kt (fun W=>ReIn W k):=hk4 k hkm
    have hkc:=hih i k hki
    obtain ⟨ko,kn,kka,kkl,kkc,kks⟩:=k
    have k1:aK _ b (off+i * 3) [.int .i64 ko,.string kn,.slice kka kkl kkc]:=hcs
    refine aO (XF.thenN (aC (aL (aC (aG ?_)))))
    refine aS (j:=i) (b:=b) (o:=off) (m:=kl) (c:=kc) underlying60 sizeOf62 (by show some (Value.slice _ _ _)=_;rw [hka]) rfl rfl (by omega) rfl rfl ?_
    refine aM (vs:=[_,_,_]) isAgg62 sizeOf62 rfl k1 rfl (bH (cs:=[_,_,_]) hS zeroValue62 rfl rfl fun B3 W3 hS=>bI (i:=0) (vs:=[_,_,_]) (cs':=[_,_,_]) (O':=(_::_::_::Ot)) hS sizeOf62 rfl rfl rfl rfl rfl rfl rfl fun W4 hS=>aF (XF.thenN (aC (aG (aM (vs:=[_,_,_]) isAgg62 sizeOf62 rfl (aK.own (j:=0) (m:=3) (hS.at_ 0 rfl) rfl) rfl (aA rfl rfl (aV rfl rfl (IntWalk.i64_in _ (by omega)) rfl (aA rfl rfl (aP (vs:=[_,_,_]) pM rfl (hkc NB Kt _ G K w0 _ ((hS.keep K (fun q hq=>by simp [hq])).perm iV) hKt hkx) rfl ?_)))))))))
    rintro e W9 ⟨rfl,hS9⟩
    refine ⟨_,rfl,?_⟩
    clear hS;have hS:=hS9.perm iV.symm;clear hS9
    refine cP rfl rfl (aF (XF.thenN (bT rfl (aO (XF.blkN (XF.thenN (aG (aV rfl rfl (IntWalk.i64_in _ (by omega)) rfl (aA rfl rfl (aF ?_))))))))))
    exact XF.round (kl - (i+1)) [(1,_),(2,_),(23,_),(24,_),(25,_)] (by omega) ⟨rfl,rfl,rfl,rfl,rfl,trivial⟩ ⟨i+1,by omega,rfl,rfl,hS.tail.keep K (fun q hq=>by simp [hq])⟩
   ·have hc26:=of_decide_eq_false hc;clear hc
    obtain rfl:i=kl:=by omega
    refine bS (XF.thenX (XF.thenX (XF.blkX (XF.thenN (aC (aG (aB rfl rfl (aF (XF.thenN (bK (XF.res (bY results55 rfl) ?_)))))))))))
    rw [hkl]
    exact ⟨rfl,(hS.keep K (fun q hq=>by simp [hq])).tail⟩
theorem sT {x:ReV} {d n n2:Nat} (hF:FitsR x d n n2):∀ (NB:Nat) (Kt:List (Nat×World)) (Ot:Own) (G:aQ) (K:List (Nat×World)) (w0 w:World),St w0 ((NB,[.int .i64 (n:Int)],3)::Ot) G K w→(∀ q∈Kt,q∈K)→bJ w0 Kt (fun W=>ReIn W x)→Calls prog 55 #[x.val,.int .i64 (d:Int),.pointer (some ⟨NB,0,none⟩)] w (fun e w'=>e = .returned (.bool true)∧St w0 ((NB,[.int .i64 (n2:Int)],3)::Ot) G K w'):=by
 induction hF with
 | @mk x d n f h1 h2 h3 h4 ih =>
  intro NB Kt Ot G K w0 w hS0 hKt hX
  cases x with
  | mk op nm ka kl kc kids=>exact oF op nm ka kl kc kids d n NB f Kt Ot G K w0 w hS0 hKt hX h1 h2 h3 ih
theorem kI (op:Int) (nm:ByteArray) (ka:Option Addr) (kl kc:Nat) (kids:List ReV) (n2:Nat) (w:World) (hX:ReIn w (.mk op nm ka kl kc kids)) (hF:FitsR (.mk op nm ka kl kc kids) 1 0 n2) (hw:WellM (.mk op nm ka kl kc kids)) :
  Calls prog 47 #[.agg #[.int .i64 op,.string nm,.slice ka kl kc]] w (fun e w'=>e = .returned (.int .i64 0)∧Below w.heap.size w w'):=by
 refine bD (args:=[.agg #[.int .i64 op,.string nm,.slice ka kl kc]]) func47 rfl ntmps47 rfl ?_
 have hS:=St.start w
 refine aC (aG (bZ (cs:=[_,_,_]) hS rfl rfl rfl fun B1 W1 hS=>aB rfl rfl (aF (XF.thenN (aC (aG (bH (cs:=[_]) hS zeroValue3 rfl rfl fun B2 W2 hS=>bO (i:=0) (cs':=[_]) (O':=[_,_]) hS sizeOf3 rfl rfl rfl rfl rfl rfl rfl fun W3 hS=>aF (XF.thenN (aC (aC (aG (aM (vs:=[_,_,_]) isAgg62 sizeOf62 rfl (aK.own (j:=0) (m:=3) (hS.at_ 1 rfl) rfl) rfl (aP (vs:=[_,_,_]) pM rfl (sT hF B2 [] _ [] [] w _ (hS.keep [] (fun q hq=>by cases hq)) (fun q hq=>hq) (fun h9 hk9=>hX.keep h9.below)) rfl ?_)))))))))))))
 rintro e W9 ⟨rfl,hS9⟩
 refine ⟨_,rfl,?_⟩
 clear hS;have hS:=hS9;clear hS9
 refine cP rfl rfl (aF (XF.thenN (bT rfl (aO (XF.thenN (aC (aC (aG (aM (vs:=[_,_,_]) isAgg62 sizeOf62 rfl (aK.own (j:=0) (m:=3) (hS.at_ 1 rfl) rfl) rfl (bV (vs:=[_]) hS pN rfl (sS (.mk op nm ka kl kc kids) hw _ (hX.keep hS.below)) rfl fun W4 hS=>cP rfl rfl (aF (XF.thenN (bT rfl (aO (XF.thenN (aC (aG (aB rfl rfl (aF (XF.thenN (bK (XF.res (bY results47 rfl) ?_))))))))))))))))))))))
 exact ⟨rfl,hS.below⟩
theorem gY (v0:Int) (v1:ByteArray):prog.built 62 [(0,.int .i64 v0),(1,.string v1)]=some #[.int .i64 v0,.string v1,.slice none 0 0]:=by kernel_rfl
theorem pO:aZ prog 47=true:=by kernel_rfl
def mB:List ByteArray:=[⟨#[97]⟩,⟨#[98]⟩]
def kS:Nat→List (List UInt8×Int)
 | 0=>[]
 | 1=>[([97],0)]
 | _=>[([98],1),([97],0)]
theorem sU {i:Nat} (h:i≤2):(kS i).length=i:=by
 match i,h with
 | 0,_=>rfl
 | 1,_=>rfl
 | 2,_=>rfl
theorem nsAB_at {i:Nat} {s:ByteArray} (h:mB[i]?=some s):nZ s∧s.size≤maxLen∧(kS i).any (fun p=>decide (p.1=s.data.toList))=false∧(s.data.toList,(i:Int))::kS i=kS (i+1):=by
 match i,h with
 | 0,h =>
  obtain rfl:(⟨#[97]⟩:ByteArray)=s:=by simpa [mB] using h
  exact ⟨.inl rfl,by decide,rfl,rfl⟩
 | 1,h =>
  obtain rfl:(⟨#[98]⟩:ByteArray)=s:=by simpa [mB] using h
  exact ⟨.inr rfl,by decide,by decide,rfl⟩
 | i+2,h=>simp [mB] at h
theorem mC {W:World} {s:ByteArray} (h:nZ s):ReIn W (.mk 1 s none 0 0 [])∧FitsR (.mk 1 s none 0 0 []) 1 0 1∧WellM (.mk 1 s none 0 0 []) :=
 ⟨.mk rfl (by omega) (Nat.le_refl _) (fun i k hi=>by simp at hi) (fun k hk=>by cases hk),FitsR.mk (x:=.mk 1 s none 0 0 []) (f:=fun _=>1) (by omega) (by omega) rfl (fun i k hi=>by simp [ReV.kids] at hi),.mk (fun k hk=>by cases hk) (.inl ⟨rfl,h,rfl⟩)⟩
theorem qW (na:Option Addr) (nc:Nat) (w:World) (hN:sR w na mB) :
  Calls prog 48 #[.slice na 2 nc] w (fun e w'=>∃ MB:Nat,e = .returned (.tuple #[.map (some MB),.bool true])∧MsI MB (kS 2) w'∧w.heap.size≤MB∧Below w.heap.size w w'):=by
 refine bD (args:=[.slice na 2 nc]) func48 rfl ntmps48 rfl ?_
 have hS:=St.start w
 refine aC (aG (aB rfl rfl (aB rfl rfl (aF (XF.thenN (aC (aG ?_)))))))
 have hsz0:=hS.below.size
 refine nL hS rfl ?_
 intro MB W9 hMB0 hlo hS9
 have hM0:=MsI.made hMB0
 clear hS;have hS:=hS9.clear;clear hS9
 refine aB rfl rfl (aF (XF.thenN (aC (aC (aG (aA rfl rfl (bF underlying77 rfl rfl (aA rfl rfl (aF (XF.thenN (aL (cD (fun m l W=>∃ (i:Nat),i≤2∧m=2 - i∧l=[(0,.slice na 2 nc),(4,.map (some MB)),(8,.slice na 2 nc),(9,.int .i64 ((2:Nat):Int)),(10,.int .i64 (i:Int))]∧MsI MB (kS i) W∧St w [] [] [] W) (2 - 0) ([(0,_),(4,_),(8,_),(9,_),(10,_)]) ⟨rfl,rfl,rfl,rfl,rfl,trivial⟩ (⟨0,Nat.zero_le _,rfl,rfl,hM0,hS.clear⟩) ?_))))))))))))
 clear hS
 have hlo9:w.heap.size≤MB:=Nat.le_trans hsz0 hlo
 rintro m l W ⟨i,hi,rfl,rfl,hM,hS⟩
 refine aC (aG (bG rfl rfl rfl (aF (XF.thenN (aC (bA rfl (fun hc=>?_) (fun hc=>?_)))))))
 ·have hc11:=of_decide_eq_true hc;clear hc
  obtain ⟨s,hs⟩:∃ s,mB[i]?=some s:=⟨_,List.getElem?_eq_getElem (show i < 2 by omega)⟩
  obtain ⟨hs1,hs2,hs3,hs4⟩:=nsAB_at hs
  obtain ⟨b,off,hna,hcs⟩:=hN i s hs
  have k1:=hS.old hcs
  have hlen9:=sU hi
  refine aO (XF.thenN (aC (aL (aC (aG (aA rfl rfl ?_))))))
  refine aS (j:=i) (b:=b) (o:=off) (m:=2) (c:=nc) underlying77 sizeOf9 (by show some (Value.slice _ _ _)=_;rw [hna]) rfl rfl (by omega) rfl rfl ?_
  refine aI isAgg9 rfl (k1) rfl (aB rfl rfl (aB rfl rfl (aF (XF.thenN (aC (aC (aG (aA rfl rfl (dB (us:=[(0,.int .i64 _),(1,.string _)]) rfl (gY _ _) rfl (eK (vs:=[_]) hS pO rfl (kI 1 s none 0 0 [] 1 _ (mC (W:=W) hs1).1 (mC (W:=W) hs1).2.1 (mC (W:=W) hs1).2.2) rfl ?_))))))))))
  rintro e W1 ⟨rfl,hb⟩
  refine ⟨_,rfl,hb,fun hS'=>?_⟩
  clear hS;have hS:=hS';clear hS'
  have hM2:=hM.below hb
  clear hb
  refine opV (gK (c:=false) rfl rfl (by decide)) rfl (aF (XF.thenN (bT rfl (aO (XF.thenN (aG (aA rfl rfl (aA rfl rfl (aA rfl rfl ?_)))))))))
  refine nY hS.clear hM2 hs2 (by rcases (by omega:i=0∨i=1) with rfl | rfl<;>rfl) hs3 (by rw [hlen9];simp only [maxLen];omega) hlo9 (fun q hq=>by cases hq) rfl rfl rfl ?_
  intro W95 hS9 hM3
  rw [hs4] at hM3
  clear hS;have hS:=hS9;clear hS9
  refine aF (XF.blkN (XF.thenN (aG (aV rfl rfl (IntWalk.i64_in _ (by omega)) rfl (aA rfl rfl (aF ?_))))))
  exact XF.round (2 - (i+1)) [(0,_),(4,_),(8,_),(9,_),(10,_)] (by omega) ⟨rfl,rfl,rfl,rfl,rfl,trivial⟩ ⟨i+1,by omega,rfl,rfl,hM3,hS.clear⟩
 ·have hc11:=of_decide_eq_false hc;clear hc
  obtain rfl:i=2:=by omega
  refine bS (XF.thenX (XF.thenX (XF.blkX (XF.thenN (aC (aG (aA rfl rfl (aA rfl rfl (opV (mY hM rfl) rfl (aA rfl rfl (bF underlying77 rfl rfl (opV (aU (c:=true) rfl rfl (by decide)) rfl (aB rfl rfl (aB rfl rfl (aF (XF.thenN (bK (XF.res (kM results48 rfl rfl) ?_))))))))))))))))))
  exact ⟨MB,rfl,hM,hlo9,hS.below⟩
theorem dF (w:World) (b o:Nat):(Instr.fieldAt 94 (.pointer (some ⟨b,o,none⟩)) 0).run prog w = .ok (.pointer (some ⟨b,o+0,none⟩)) w:=by
 simp [Instr.fieldAt,run_underlying underlying94,Instr.sureAddr,go_sem,Addr.add_lit]
theorem fH (w:World) (b o:Nat):(Instr.fieldAt 94 (.pointer (some ⟨b,o,none⟩)) 2).run prog w = .ok (.pointer (some ⟨b,o+6,none⟩)) w:=by
 simp [Instr.fieldAt,run_underlying underlying94,Instr.sureAddr,go_sem,Addr.add_lit]
inductive Lay (es:List (List UInt8×Int)):ReV→Int→Int→Nat→List ArV→Nat→List ArV→Prop
 | name {x:ReV} {f t v:Int} {n:Nat} {L:List ArV}:x.op=1→x.nm.size≤maxLen→es.find? (fun p=>decide (p.1=x.nm.data.toList))=some (x.nm.data.toList,v)→L.length < 65536→Lay es x f t n L n (L++[⟨f,v,t⟩])
 | emp {x:ReV} {f t:Int} {n:Nat} {L:List ArV}:x.op=3→L.length < 65536→Lay es x f t n L n (L++[⟨f,-1,t⟩])
 | seq {x:ReV} {f t:Int} {k n2:Nat} {L2:List ArV} (fr:Nat→Int) (sn:Nat→Nat) (sL:Nat→List ArV):x.op=5→x.kids.length=k+1→fr 0=f→(∀ i,i < k→sn i < 4096∧fr (i+1)=(sn i:Int)) →
   (∀ (i:Nat) c,i < k→x.kids[i]?=some c→Lay es c (fr i) (fr (i+1)) (sn i+1) (sL i) (sn (i+1)) (sL (i+1)))→(∀ c,x.kids[k]?=some c→Lay es c (fr k) t (sn k) (sL k) n2 L2)→Lay es x f t (sn 0) (sL 0) n2 L2
 | alt {x:ReV} {f t:Int} (sn:Nat→Nat) (sL tL:Nat→List ArV):x.op=6→(∀ i,i < x.kids.length→sn i+2≤4096∧(sL i).length < 65536∧(tL i).length < 65536∧sL (i+1)=tL i++[⟨(sn i:Int)+1,-1,t⟩]) →
   (∀ (i:Nat) c,x.kids[i]?=some c→Lay es c (sn i:Int) ((sn i:Int)+1) (sn i+2) (sL i++[⟨f,-1,(sn i:Int)⟩]) (sn (i+1)) (tL i))→Lay es x f t (sn 0) (sL 0) (sn x.kids.length) (sL x.kids.length)
theorem eI (BB MB n:Nat) (sy s0 e0:Int) (v4:Value) (Ot:Own) (G:aQ) (K:List (Nat×World)) (w0 w:World) (hS0:St w0 ((BB,[.int .i64 (n:Int),.int .i64 sy,.int .i64 s0,.int .i64 e0,v4,.map (some MB),.bool false],94)::Ot) G K w) (hn:n < 4096) :
  Calls prog 57 #[.pointer (some ⟨BB,0,none⟩)] w (fun e w'=>e = .returned (.int .i64 (n:Int))∧St w0 ((BB,[.int .i64 ((n+1:Nat):Int),.int .i64 sy,.int .i64 s0,.int .i64 e0,v4,.map (some MB),.bool false],94)::Ot) G K w'):=by
 refine bD (args:=[.pointer (some ⟨BB,0,none⟩)]) func57 rfl ntmps57 rfl ?_
 have hS:=hS0
 refine aC (aG (aB rfl rfl (aF (XF.thenN (aC (aC (aG (aA rfl rfl (aY rfl rfl (aH (o':=0) dF rfl rfl rfl (aH (o':=0) dQ rfl rfl rfl (aI isAgg3 rfl (aE (hS.at_ 0 rfl) rfl) rfl (dZ rfl rfl rfl (aF (XF.thenN (bA rfl (fun hc=>?_) (fun hc=>?_)))))))))))))))))
 ·have hc8:=of_decide_eq_true hc;clear hc
  refine aC (aG (aA rfl rfl (aY rfl rfl (aH (o':=6) fH rfl rfl rfl (bO (i:=0) (cs':=[_,_,_,_,_,_,_]) (O':=(_::Ot)) hS sizeOf4 rfl rfl rfl rfl rfl rfl rfl fun W1 hS=>aF (XF.thenN (aC (aG (aB rfl rfl (aF (XF.thenN (bK (XF.thenR (XF.res (bY results57 rfl) ?_))))))))))))))
  exfalso;omega
 ·have hc8:=of_decide_eq_false hc;clear hc
  refine aO (XF.thenN (aC (aG (aA rfl rfl (aY rfl rfl (aH (o':=0) dF rfl rfl rfl (aH (o':=0) dQ rfl rfl rfl (aI isAgg3 rfl (aE (hS.at_ 0 rfl) rfl) rfl (aV rfl rfl (IntWalk.i64_in _ (by omega)) rfl (aY rfl rfl (aH (o':=0) dF rfl rfl rfl (aH (o':=0) dQ rfl rfl rfl (bO (i:=0) (cs':=[_,_,_,_,_,_,_]) (O':=(_::Ot)) hS sizeOf3 rfl rfl rfl rfl rfl rfl rfl fun W2 hS=>aF (XF.thenN (aC (aG (aA rfl rfl (aY rfl rfl (aH (o':=0) dF rfl rfl rfl (aH (o':=0) dQ rfl rfl rfl (aI isAgg3 rfl (aE (hS.at_ 0 rfl) rfl) rfl (lG rfl rfl (IntWalk.i64_in _ (by omega)) rfl ?_))))))))))))))))))))))
  refine aB rfl rfl (aF (XF.thenN (bK (XF.res (bY results57 rfl) ?_))))
  have e9:(n:Int)+1 - 1=(n:Int):=by omega
  have e8:(n:Int)+1=((n+1:Nat):Int):=by omega
  refine ⟨?_,?_⟩
  ·rw [e9]
  ·rw [← e8];exact hS.keep K (fun q hq=>by simp [hq])
theorem jK (BB MB n:Nat) (sy s0 e0:Int) (f x t:Int) (L:List ArV) (wa:Option Addr) (wc:Nat) (Ot:Own) (G:aQ) (K:List (Nat×World)) (w0 w:World) (hS0:St w0 ((BB,[.int .i64 (n:Int),.int .i64 sy,.int .i64 s0,.int .i64 e0,.slice wa L.length wc,.map (some MB),.bool false],94)::Ot) (⟨.slice wa (L).length wc,(L).length,(L).flatMap ArV.three,57,3⟩::G) K w) (hL:L.length < 65536) :
  Calls prog 71 #[.pointer (some ⟨BB,0,none⟩),.int .i64 f,.int .i64 x,.int .i64 t] w (fun e w'=>e = .returned (.tuple #[])∧∃ (wa:Option Addr) (wc:Nat),St w0 ((BB,[.int .i64 ((n:Nat):Int),.int .i64 sy,.int .i64 s0,.int .i64 e0,.slice wa (L++[ArV.mk f x t]).length wc,.map (some MB),.bool false],94)::Ot) (⟨.slice wa (L++[ArV.mk f x t]).length wc,(L++[ArV.mk f x t]).length,(L++[ArV.mk f x t]).flatMap ArV.three,57,3⟩::G) K w'):=by
 refine bD (args:=[.pointer (some ⟨BB,0,none⟩),.int .i64 f,.int .i64 x,.int .i64 t]) func71 rfl ntmps71 rfl ?_
 have hS:=hS0
 refine aC (aC (aG (aA rfl rfl (aY rfl rfl (aH (o':=0) dF rfl rfl rfl (aH (o':=4) dR rfl rfl rfl (aI isAgg22 rfl (aE (hS.at_ 0 rfl) rfl) rfl (bF underlying22 rfl rfl (dZ rfl rfl rfl (aF (XF.thenN (bA rfl (fun hc=>?_) (fun hc=>?_)))))))))))))
 ·have hc14:=of_decide_eq_true hc;clear hc
  refine aC (aG (aA rfl rfl (aY rfl rfl (aH (o':=6) fH rfl rfl rfl (bO (i:=0) (cs':=[_,_,_,_,_,_,_]) (O':=(_::Ot)) hS sizeOf4 rfl rfl rfl rfl rfl rfl rfl fun W1 hS=>aF (XF.thenN (bK (XF.thenR (XF.res (lD results71) ?_)))))))))
  exfalso;omega
 ·have hc14:=of_decide_eq_false hc;clear hc
  refine aO (XF.thenN (aG (aA rfl rfl (aA rfl rfl (aY rfl rfl (aH (o':=0) dF rfl rfl rfl (aH (o':=4) dR rfl rfl rfl (aI isAgg22 rfl (aE (hS.at_ 0 rfl) rfl) rfl (aA rfl rfl (aA rfl rfl (aA rfl rfl (dB (us:=[(0,.int .i64 _),(1,.int .i64 _),(2,.int .i64 _)]) rfl (iI _ _ _) rfl (bC (us:=[(0,.agg (List.toArray [_,_,_]))]) hS underlying22 sizeOf57 zeroValue57 rfl rfl rfl (pB _ _ _) rfl fun B2 W2 hS=>?_)))))))))))))
  refine eD (i:=0) (news:=[_,_,_]) hS underlying22 nS rfl rfl (by show 0 < 3;decide) rfl rfl rfl rfl rfl (aK.own (j:=0) (m:=3) (hS.at_ 0 rfl) rfl) rfl rfl (by dsimp only;simp only [maxLen];omega) (by dsimp only;show _ * 24≤_;omega) rfl fun v3 W3 hS=>?_
  obtain ⟨wa8,wc8,e9,_⟩:=cN (hS.row 0 rfl)
  dsimp only at e9
  subst e9
  have hS9:=hS.castG (G':=(⟨.slice wa8 (L++[ArV.mk f x t]).length wc8,(L++[ArV.mk f x t]).length,(L++[ArV.mk f x t]).flatMap ArV.three,57,3⟩::G)) (by show GR.mk _ _ (L.flatMap ArV.three++[Value.int .i64 _,_,_]) _ _::_=_;simp)
  clear hS;have hS:=hS9;clear hS9
  refine aY rfl rfl (aH (o':=0) dF rfl rfl rfl (aH (o':=4) dR rfl rfl rfl (bO (i:=1) (cs':=[_,_,_,_,_,_,_]) (O':=(_::_::Ot)) hS sizeOf22 rfl rfl rfl rfl rfl rfl rfl fun W4 hS=>aF (XF.resN (lD results71) (⟨rfl,wa8,wc8,?_⟩)))))
  have e8:(L++[ArV.mk f x t]).length=L.length+1:=by simp
  have hS9:=hS.tail.castO (O':=((BB,[.int .i64 (n:Int),.int .i64 sy,.int .i64 s0,.int .i64 e0,.slice wa8 (L++[ArV.mk f x t]).length wc8,.map (some MB),.bool false],94)::Ot)) (by rw [e8])
  exact hS9.keep K (fun q hq=>by simp [hq])
theorem iP:aZ prog 57=true:=by kernel_rfl
theorem jL:aZ prog 58=true:=by kernel_rfl
theorem jM:aZ prog 71=true:=by kernel_rfl
def oG (es:List (List UInt8×Int)) (x:ReV) (f t:Int) (n:Nat) (L:List ArV) (n2:Nat) (L2:List ArV):Prop:=∀ (BB MB:Nat) (sy s0 e0:Int) (wa:Option Addr) (wc:Nat) (Kt:List (Nat×World)) (Ot:Own) (G:aQ) (K:List (Nat×World)) (w0 w:World),St w0 ((BB,[.int .i64 ((n:Nat):Int),.int .i64 sy,.int .i64 s0,.int .i64 e0,.slice wa (L).length wc,.map (some MB),.bool false],94)::Ot) (⟨.slice wa (L).length wc,(L).length,(L).flatMap ArV.three,57,3⟩::G) K w→(∀ q∈Kt,q∈K)→bJ w0 Kt (fun W=>ReIn W x)→bJ w0 Kt (fun W=>MsI MB es W)→Calls prog 58 #[.pointer (some ⟨BB,0,none⟩),x.val,.int .i64 f,.int .i64 t] w (fun e w'=>e = .returned (.tuple #[])∧∃ (wa:Option Addr) (wc:Nat),St w0 ((BB,[.int .i64 ((n2:Nat):Int),.int .i64 sy,.int .i64 s0,.int .i64 e0,.slice wa (L2).length wc,.map (some MB),.bool false],94)::Ot) (⟨.slice wa (L2).length wc,(L2).length,(L2).flatMap ArV.three,57,3⟩::G) K w')
theorem qX (BB MB n:Nat) (sy s0 e0:Int) (L L2:List ArV) (n2:Nat) (wa:Option Addr) (wc:Nat) (op:Int) (nm:ByteArray) (ka:Option Addr) (kl kc:Nat) (kids:List ReV) (f:Int) (es:List (List UInt8×Int)) (Kt:List (Nat×World)) (Ot:Own) (G:aQ) (K:List (Nat×World)) (w0 w:World) (hS0:St w0 ((BB,[.int .i64 ((n:Nat):Int),.int .i64 sy,.int .i64 s0,.int .i64 e0,.slice wa (L).length wc,.map (some MB),.bool false],94)::Ot) (⟨.slice wa (L).length wc,(L).length,(L).flatMap ArV.three,57,3⟩::G) K w) (hKt:∀ q∈Kt,q∈K) (hM:bJ w0 Kt (fun W=>MsI MB es W)) (hX:bJ w0 Kt (fun W=>ReIn W (.mk op nm ka kl kc kids))) (hn:n+2≤4096) (hL:L.length < 65536) (hc:oG es (.mk op nm ka kl kc kids) (n:Int) ((n:Int)+1) (n+2) (L++[⟨f,-1,(n:Int)⟩]) n2 L2) :
  Calls prog 73 #[.pointer (some ⟨BB,0,none⟩),.agg #[.int .i64 op,.string nm,.slice ka kl kc],.int .i64 f] w (fun e w'=>e = .returned (.tuple #[.int .i64 (n:Int),.int .i64 ((n:Int)+1)])∧∃ (wa:Option Addr) (wc:Nat),St w0 ((BB,[.int .i64 ((n2:Nat):Int),.int .i64 sy,.int .i64 s0,.int .i64 e0,.slice wa (L2).length wc,.map (some MB),.bool false],94)::Ot) (⟨.slice wa (L2).length wc,(L2).length,(L2).flatMap ArV.three,57,3⟩::G) K w'):=by
 refine bD (args:=[.pointer (some ⟨BB,0,none⟩),.agg #[.int .i64 op,.string nm,.slice ka kl kc],.int .i64 f]) func73 rfl ntmps73 rfl ?_
 have hS:=hS0
 refine aC (aG (bZ (cs:=[_,_,_]) hS rfl rfl rfl fun B1 W1 hS=>aB rfl rfl (aB rfl rfl (aF (XF.thenN (aC (aG (aA rfl rfl (aP (vs:=[_]) iP rfl (eI BB MB (n) sy s0 e0 (.slice wa L.length wc) _ _ K w0 _ ((hS.keep K (fun q hq=>by simp [hq])).perm (List.Perm.swap _ _ _)) (by omega)) rfl ?_)))))))))
 rintro e W9 ⟨rfl,hS9⟩
 refine ⟨_,rfl,?_⟩
 clear hS;have hS:=hS9.perm (List.Perm.swap _ _ _);clear hS9
 refine aA rfl rfl (aP (vs:=[_]) iP rfl (eI BB MB (n+1) sy s0 e0 (.slice wa L.length wc) _ _ K w0 _ ((hS.keep K (fun q hq=>by simp [hq])).perm (List.Perm.swap _ _ _)) (by omega)) rfl ?_)
 rintro e W9 ⟨rfl,hS9⟩
 refine ⟨_,rfl,?_⟩
 clear hS;have hS:=hS9.perm (List.Perm.swap _ _ _);clear hS9
 refine aB rfl rfl (aB rfl rfl (aF (XF.thenN (aC (aG (aA rfl rfl (aA rfl rfl (aA rfl rfl (aP (vs:=[_,_,_,_]) jM rfl (jK BB MB (n+2) sy s0 e0 (f) (-1) ((n:Int)) (L) _ _ _ _ K w0 _ ((hS.keep K (fun q hq=>by simp [hq])).perm (List.Perm.swap _ _ _)) (by omega)) rfl ?_)))))))))
 rintro e W9 ⟨rfl,wa1,wc1,hS9⟩
 refine ⟨_,rfl,?_⟩
 clear hS;have hS:=hS9.perm (List.Perm.swap _ _ _);clear hS9
 refine aF (XF.thenN (aC (aG (aA rfl rfl (aM (vs:=[_,_,_]) isAgg62 sizeOf62 rfl (aK.own (j:=0) (m:=3) (hS.at_ 0 rfl) rfl) rfl (aA rfl rfl (aA rfl rfl (aP (vs:=[_,_,_,_]) jL rfl (hc BB MB sy s0 e0 _ _ Kt _ _ K w0 _ ((hS.keep K (fun q hq=>by simp [hq])).perm (List.Perm.swap _ _ _)) hKt hX hM) rfl ?_))))))))
 rintro e W9 ⟨rfl,wa2,wc2,hS9⟩
 refine ⟨_,rfl,?_⟩
 clear hS;have hS:=hS9.perm (List.Perm.swap _ _ _);clear hS9
 refine aF (XF.thenN (aC (aG (aA rfl rfl (aA rfl rfl (aB rfl rfl (aB rfl rfl (aF (XF.thenN (bK (XF.res (kM results73 rfl rfl) ?_)))))))))))
 exact ⟨rfl,wa2,wc2,(hS.keep K (fun q hq=>by simp [hq])).tail⟩
theorem qY (BB MB n2 k:Nat) (sy s0 e0:Int) (L2:List ArV) (wa:Option Addr) (wc:Nat) (ka:Option Addr) (kl kc:Nat) (kids:List ReV) (f t:Int) (fr:Nat→Int) (sn:Nat→Nat) (sL:Nat→List ArV) (es:List (List UInt8×Int)) (Kt:List (Nat×World)) (Ot:Own) (G:aQ) (K:List (Nat×World)) (w0 w:World) (hS0:St w0 ((BB,[.int .i64 ((sn 0:Nat):Int),.int .i64 sy,.int .i64 s0,.int .i64 e0,.slice wa (sL 0).length wc,.map (some MB),.bool false],94)::Ot) (⟨.slice wa (sL 0).length wc,(sL 0).length,(sL 0).flatMap ArV.three,57,3⟩::G) K w) (hKt:∀ q∈Kt,q∈K) (hM:bJ w0 Kt (fun W=>MsI MB es W)) (hk3:bJ w0 Kt (fun W=>∀ (i:Nat) k,kids[i]?=some k→∃ b off,ka=some ⟨b,off,none⟩∧aK W b (off+i * 3) k.cells)) (hk4:∀ k∈kids,bJ w0 Kt (fun W=>ReIn W k)) (hkl:kids.length=kl) (hk5:kl≤500) (hkc:kl≤kc) (hkk:kl=k+1) (hf0:fr 0=f) (h1:∀ i,i < k→sn i < 4096∧fr (i+1)=(sn i:Int)) (h2:∀ (i:Nat) c,i < k→kids[i]?=some c→oG es c (fr i) (fr (i+1)) (sn i+1) (sL i) (sn (i+1)) (sL (i+1))) (h3:∀ c,kids[k]?=some c→oG es c (fr k) t (sn k) (sL k) n2 L2) :
  Calls prog 72 #[.pointer (some ⟨BB,0,none⟩),.slice ka kl kc,.int .i64 f,.int .i64 t] w (fun e w'=>e = .returned (.tuple #[])∧∃ (wa:Option Addr) (wc:Nat),St w0 ((BB,[.int .i64 ((n2:Nat):Int),.int .i64 sy,.int .i64 s0,.int .i64 e0,.slice wa (L2).length wc,.map (some MB),.bool false],94)::Ot) (⟨.slice wa (L2).length wc,(L2).length,(L2).flatMap ArV.three,57,3⟩::G) K w'):=by
 refine bD (args:=[.pointer (some ⟨BB,0,none⟩),.slice ka kl kc,.int .i64 f,.int .i64 t]) func72 rfl ntmps72 rfl ?_
 have hS:=hS0
 subst hf0
 refine aC (aG (aA rfl rfl (bF underlying60 rfl rfl (lG rfl rfl (IntWalk.i64_in _ (by omega)) rfl (aB rfl rfl (aF (XF.thenN (aC (aC ?_)))))))))
 obtain ⟨k0,hki⟩:∃ c,kids[0]?=some c:=⟨_,List.getElem?_eq_getElem (by omega)⟩
 have hkm:=List.mem_of_getElem? hki
 obtain ⟨b,off,hka,hcs⟩:=hk3 (hS.keep K (fun q hq=>by simp [hq])) hKt 0 k0 hki
 have hkx:bJ w0 Kt (fun W=>ReIn W k0):=hk4 k0 hkm
 clear hcs hkx
 refine aG (aA rfl rfl (aA rfl rfl (jZ (k:=k) underlying60 sizeOf62 rfl rfl (by omega) (by omega) (by omega) (fun p hp=>⟨b,off,Option.some.inj (hp.symm.trans hka)⟩) rfl (bF underlying60 rfl rfl (aA rfl rfl (aF (XF.thenN (aL (cD (fun m l W=>∃ (i:Nat) (wa:Option Addr) (wc:Nat),i≤k∧m=k - i∧l=[(0,.pointer (some ⟨BB,0,none⟩)),(1,.slice ka kl kc),(2,.int .i64 (fr i)),(3,.int .i64 t),(8,.int .i64 ((kl:Int) - 1)),(17,.slice ka k kc),(18,.int .i64 (k:Int)),(19,.int .i64 (i:Int))]∧St w0 ((BB,[.int .i64 ((sn i:Nat):Int),.int .i64 sy,.int .i64 s0,.int .i64 e0,.slice wa (sL i).length wc,.map (some MB),.bool false],94)::Ot) (⟨.slice wa (sL i).length wc,(sL i).length,(sL i).flatMap ArV.three,57,3⟩::G) K W) (k - 0) ([(0,_),(1,_),(2,_),(3,_),(8,_),(17,_),(18,_),(19,_)]) ⟨rfl,rfl,rfl,rfl,rfl,rfl,rfl,rfl,trivial⟩ (⟨0,wa,wc,Nat.zero_le _,rfl,rfl,hS.keep K (fun q hq=>by simp [hq])⟩) ?_)))))))))
 clear hS
 clear hka hki hkm
 rintro m l W ⟨i,wa,wc,hi,rfl,rfl,hS⟩
 refine aC (aG (bG rfl rfl rfl (aF (XF.thenN (aC (bA rfl (fun hc=>?_) (fun hc=>?_)))))))
 ·have hc20:=of_decide_eq_true hc;clear hc
  obtain ⟨k9,hki⟩:∃ c,kids[i]?=some c:=⟨_,List.getElem?_eq_getElem (by omega)⟩
  have hkm:=List.mem_of_getElem? hki
  obtain ⟨b,off,hka,hcs⟩:=hk3 (hS.keep K (fun q hq=>by simp [hq])) hKt i k9 hki
  have hkx:bJ w0 Kt (fun W=>ReIn W k9):=hk4 k9 hkm
  obtain ⟨hsn,hfr⟩:=h1 i (by omega)
  have hkl9:=h2 i k9 (by omega) hki
  rw [hfr] at hkl9
  obtain ⟨ko,kn,kka,kkl,kkc,kks⟩:=k9
  have k1:aK _ b (off+i * 3) [.int .i64 ko,.string kn,.slice kka kkl kkc]:=hcs
  refine aO (XF.thenN (aC (aL (aC (aG ?_)))))
  refine aS (j:=i) (b:=b) (o:=off) (m:=k) (c:=kc) underlying60 sizeOf62 (by show some (Value.slice _ _ _)=_;rw [hka]) rfl rfl (by omega) rfl rfl ?_
  refine aM (vs:=[_,_,_]) isAgg62 sizeOf62 rfl k1 rfl (bH (cs:=[_,_,_]) hS zeroValue62 rfl rfl fun B1 W1 hS=>bI (i:=0) (vs:=[_,_,_]) (cs':=[_,_,_]) (O':=(_::_::Ot)) hS sizeOf62 rfl rfl rfl rfl rfl rfl rfl fun W2 hS=>aF (XF.thenN (aC (aG (aA rfl rfl (aP (vs:=[_]) iP rfl (eI BB MB (sn i) sy s0 e0 (.slice wa (sL i).length wc) _ _ K w0 _ ((hS.keep K (fun q hq=>by simp [hq])).perm (List.Perm.swap _ _ _)) (by omega)) rfl ?_))))))
  rintro e W9 ⟨rfl,hS9⟩
  refine ⟨_,rfl,?_⟩
  clear hS;have hS:=hS9.perm (List.Perm.swap _ _ _);clear hS9
  refine aB rfl rfl (aF (XF.thenN (aC (aG (aA rfl rfl (aM (vs:=[_,_,_]) isAgg62 sizeOf62 rfl (aK.own (j:=0) (m:=3) (hS.at_ 0 rfl) rfl) rfl (aA rfl rfl (aA rfl rfl (aP (vs:=[_,_,_,_]) jL rfl (hkl9 BB MB sy s0 e0 _ _ Kt _ _ K w0 _ ((hS.keep K (fun q hq=>by simp [hq])).perm (List.Perm.swap _ _ _)) hKt hkx hM) rfl ?_)))))))))
  rintro e W9 ⟨rfl,wa2,wc2,hS9⟩
  refine ⟨_,rfl,?_⟩
  clear hS;have hS:=hS9.perm (List.Perm.swap _ _ _);clear hS9
  refine aF (XF.thenN (aG (aA rfl rfl (aB rfl rfl (aF (XF.blkN (XF.thenN (aG (aV rfl rfl (IntWalk.i64_in _ (by omega)) rfl (aA rfl rfl (aF ?_)))))))))))
  exact XF.round (k - (i+1)) [(0,_),(1,_),(2,_),(3,_),(8,_),(17,_),(18,_),(19,_)] (by omega) ⟨rfl,rfl,rfl,rfl,rfl,rfl,rfl,rfl,trivial⟩ ⟨i+1,wa2,wc2,by omega,rfl,by rw [hfr];rfl,hS.tail.keep K (fun q hq=>by simp [hq])⟩
 ·have hc20:=of_decide_eq_false hc;clear hc
  obtain rfl:i=k:=by omega
  obtain ⟨k9,hki⟩:∃ c,kids[i]?=some c:=⟨_,List.getElem?_eq_getElem (by omega)⟩
  have hkm:=List.mem_of_getElem? hki
  obtain ⟨b,off,hka,hcs⟩:=hk3 (hS.keep K (fun q hq=>by simp [hq])) hKt i k9 hki
  have hkx:bJ w0 Kt (fun W=>ReIn W k9):=hk4 k9 hkm
  have hkl9:=h3 k9 hki
  obtain ⟨ko,kn,kka,kkl,kkc,kks⟩:=k9
  have k1:aK _ b (off+i * 3) [.int .i64 ko,.string kn,.slice kka kkl kkc]:=hcs
  refine bS (XF.thenX (XF.thenX (XF.blkX (XF.thenN (aG (aA rfl rfl (aA rfl rfl (aA rfl rfl ?_))))))))
  refine aS (j:=i) (b:=b) (o:=off) (m:=kl) (c:=kc) underlying60 sizeOf62 (by show some (Value.slice _ _ _)=_;rw [hka]) rfl (by omega) (by omega) rfl rfl ?_
  refine aM (vs:=[_,_,_]) isAgg62 sizeOf62 rfl k1 rfl (aA rfl rfl (aA rfl rfl (aP (vs:=[_,_,_,_]) jL rfl (hkl9 BB MB sy s0 e0 _ _ Kt _ _ K w0 _ ((hS.keep K (fun q hq=>by simp [hq])).perm (List.Perm.refl _)) hKt hkx hM) rfl ?_)))
  rintro e W9 ⟨rfl,wa2,wc2,hS9⟩
  refine ⟨_,rfl,?_⟩
  clear hS;have hS:=hS9.perm (List.Perm.refl _);clear hS9
  refine aF (XF.resN (lD results72) ?_)
  exact ⟨rfl,wa2,wc2,hS.keep K (fun q hq=>by simp [hq])⟩
theorem fa_94_1 (w:World) (b o:Nat):(Instr.fieldAt 94 (.pointer (some ⟨b,o,none⟩)) 1).run prog w = .ok (.pointer (some ⟨b,o+5,none⟩)) w:=by
 simp [Instr.fieldAt,run_underlying underlying94,Instr.sureAddr,go_sem,Addr.add_lit]
theorem goes_72:aZ prog 72=true:=by kernel_rfl
theorem goes_73:aZ prog 73=true:=by kernel_rfl
theorem qZ (BB MB n:Nat) (sy s0 e0:Int) (L:List ArV) (wa:Option Addr) (wc:Nat) (nm:ByteArray) (ka:Option Addr) (kl kc:Nat) (f t:Int) (v:Int) (es:List (List UInt8×Int)) (Kt:List (Nat×World)) (Ot:Own) (G:aQ) (K:List (Nat×World)) (w0 w:World) (hS0:St w0 ((BB,[.int .i64 ((n:Nat):Int),.int .i64 sy,.int .i64 s0,.int .i64 e0,.slice wa (L).length wc,.map (some MB),.bool false],94)::Ot) (⟨.slice wa (L).length wc,(L).length,(L).flatMap ArV.three,57,3⟩::G) K w) (hKt:∀ q∈Kt,q∈K) (hM:bJ w0 Kt (fun W=>MsI MB es W)) (hL:L.length < 65536) (hsz:nm.size≤maxLen) (hf:es.find? (fun p=>decide (p.1=nm.data.toList))=some (nm.data.toList,v)) :
  Calls prog 58 #[.pointer (some ⟨BB,0,none⟩),.agg #[.int .i64 1,.string nm,.slice ka kl kc],.int .i64 f,.int .i64 t] w (fun e w'=>e = .returned (.tuple #[])∧∃ (wa:Option Addr) (wc:Nat),St w0 ((BB,[.int .i64 ((n:Nat):Int),.int .i64 sy,.int .i64 s0,.int .i64 e0,.slice wa (L++[ArV.mk f v t]).length wc,.map (some MB),.bool false],94)::Ot) (⟨.slice wa (L++[ArV.mk f v t]).length wc,(L++[ArV.mk f v t]).length,(L++[ArV.mk f v t]).flatMap ArV.three,57,3⟩::G) K w'):=by
 refine bD (args:=[.pointer (some ⟨BB,0,none⟩),.agg #[.int .i64 1,.string nm,.slice ka kl kc],.int .i64 f,.int .i64 t]) func58 rfl ntmps58 rfl ?_
 have hS:=hS0
 refine aC (aG (bZ (cs:=[_,_,_]) hS rfl rfl rfl fun B1 W1 hS=>aF (XF.thenN (aC (aC (aG (aA rfl rfl (aY rfl rfl (aH (o':=6) fH rfl rfl rfl (aI isAgg4 rfl (aE (hS.at_ 1 rfl) rfl) rfl (aF (XF.thenN (bT rfl (aO (XF.thenN (aC (aG (aB rfl rfl (aF (XF.thenN (aC (aG (aH (o':=0) cO rfl rfl rfl (aI isAgg59 rfl (aE (hS.at_ 0 rfl) rfl) rfl (aF (XF.thenN (aL ?_)))))))))))))))))))))))))))
 refine aC (aL (aC (aL (aC (aL (aC (aL (aC (aL (aC (aL (aC (aL (aC (aC (aC (aG (opV (aU (c:=true) rfl rfl (by decide)) rfl (aB rfl rfl (aF (XF.thenN (cT rfl ?_))))))))))))))))))))))
 refine bS (XF.thenX (XF.thenX (XF.blkX (XF.thenN (aC (aC ?_))))))
 have hM9:=hM (hS.keep K (fun q hq=>by simp [hq])) hKt
 refine regB (m:=12) cL hS (by kernel_rfl) (by kernel_rfl) rfl (fR 1 rfl 0 rfl rfl (fun w hw=>bL rfl) rfl (cW 2 rfl 38 0 rfl rfl rfl (fun w hw=>cK rfl) rfl (cW 3 rfl 39 1 rfl rfl rfl (fun w hw=>cA (o':=5) fa_94_1 rfl rfl) rfl (cW 4 rfl 40 2 rfl rfl rfl (fun w hw=>bE isAgg79 rfl ((aX hw 0).cell (Nat.zero_le _) (aE (hS.at_ 1 rfl) rfl))) rfl (fR 5 rfl 5 rfl rfl (fun w hw=>cA (o':=1) iN rfl rfl) rfl (cW 6 rfl 42 4 rfl rfl rfl (fun w hw=>bE isAgg9 rfl ((aX hw 0).cell (Nat.zero_le _) (aE (hS.at_ 0 rfl) rfl))) rfl (dL 7 rfl (isV _) (dA _) (rgV (li:=[(41,_),(43,_)]) rfl (bX rfl) ⟨bW 3 (bR rfl rfl rfl),bW 5 (bR rfl rfl rfl),trivial⟩ (fun w hw=>sQ (hM9.below hw) hsz hf zeroValue3 rfl rfl) (bQ rfl)) (cW 8 rfl 44 6 rfl rfl rfl (fun w hw=>bL rfl) rfl (cW 9 rfl 37 7 rfl rfl rfl (fun w hw=>dI rfl rfl) rfl (dL 10 rfl (isV (.bool true)) (dA _) (rgVe (li:=[(37,_)]) rfl (bX rfl) ⟨bW 7 (bR rfl rfl rfl),trivial⟩ (fun w hw=>dI rfl rfl) (rfl) (bQ rfl)) (cW 11 rfl 45 8 rfl rfl rfl (fun w hw=>cH rfl) rfl (cW 12 rfl 46 9 rfl rfl rfl (fun w hw=>cH rfl) rfl (lJ ?_)))))))))))))
 intro W2 hbR hS'
 clear hS;have hS:=hS';clear hS'
 refine bU (bU (bU (bU (bU (bU (bU (bU (bU (bU (bU (bU (fE (XF.thenN (aC (aG (aA rfl rfl (aF (XF.thenN (cT rfl (aG (aA rfl rfl (aA rfl rfl ?_))))))))))))))))))))))
 refine aA rfl rfl (aA rfl rfl (aP (vs:=[_,_,_,_]) jM rfl (jK BB MB (n) sy s0 e0 (f) (v) (t) (L) _ _ _ _ K w0 _ ((hS.keep K (fun q hq=>by simp [hq])).perm (List.Perm.swap _ _ _)) (by omega)) rfl ?_))
 rintro e W9 ⟨rfl,wa1,wc1,hS9⟩
 refine ⟨_,rfl,?_⟩
 clear hS;have hS:=hS9.perm (List.Perm.swap _ _ _);clear hS9
 refine aF (XF.thenN (bS (XF.blkO rfl (XF.thenX (XF.blkO rfl (XF.thenX (XF.blkO rfl (XF.thenX (XF.blkO rfl (XF.thenX (XF.blkO rfl (XF.thenX (XF.blkO rfl (XF.thenX (XF.blkX (XF.resN (lD results58) ?_))))))))))))))))
 exact ⟨rfl,wa1,wc1,(hS.keep K (fun q hq=>by simp [hq])).tail⟩
theorem sV (BB MB n:Nat) (sy s0 e0:Int) (L:List ArV) (wa:Option Addr) (wc:Nat) (nm:ByteArray) (ka:Option Addr) (kl kc:Nat) (f t:Int) (Ot:Own) (G:aQ) (K:List (Nat×World)) (w0 w:World) (hS0:St w0 ((BB,[.int .i64 ((n:Nat):Int),.int .i64 sy,.int .i64 s0,.int .i64 e0,.slice wa (L).length wc,.map (some MB),.bool false],94)::Ot) (⟨.slice wa (L).length wc,(L).length,(L).flatMap ArV.three,57,3⟩::G) K w) (hL:L.length < 65536) :
  Calls prog 58 #[.pointer (some ⟨BB,0,none⟩),.agg #[.int .i64 3,.string nm,.slice ka kl kc],.int .i64 f,.int .i64 t] w (fun e w'=>e = .returned (.tuple #[])∧∃ (wa:Option Addr) (wc:Nat),St w0 ((BB,[.int .i64 ((n:Nat):Int),.int .i64 sy,.int .i64 s0,.int .i64 e0,.slice wa (L++[ArV.mk f (-1) t]).length wc,.map (some MB),.bool false],94)::Ot) (⟨.slice wa (L++[ArV.mk f (-1) t]).length wc,(L++[ArV.mk f (-1) t]).length,(L++[ArV.mk f (-1) t]).flatMap ArV.three,57,3⟩::G) K w'):=by
 refine bD (args:=[.pointer (some ⟨BB,0,none⟩),.agg #[.int .i64 3,.string nm,.slice ka kl kc],.int .i64 f,.int .i64 t]) func58 rfl ntmps58 rfl ?_
 have hS:=hS0
 refine aC (aG (bZ (cs:=[_,_,_]) hS rfl rfl rfl fun B1 W1 hS=>aF (XF.thenN (aC (aC (aG (aA rfl rfl (aY rfl rfl (aH (o':=6) fH rfl rfl rfl (aI isAgg4 rfl (aE (hS.at_ 1 rfl) rfl) rfl (aF (XF.thenN (bT rfl (aO (XF.thenN (aC (aG (aB rfl rfl (aF (XF.thenN (aC (aG (aH (o':=0) cO rfl rfl rfl (aI isAgg59 rfl (aE (hS.at_ 0 rfl) rfl) rfl (aF (XF.thenN (aL ?_)))))))))))))))))))))))))))
 refine aC (aL (aC (aL (aC (aL (aC (aL (aC (aL (aC (aL (aC (aL (aC (aC (aC (aG (opV (aU (c:=false) rfl rfl (by decide)) rfl (aB rfl rfl (aF (XF.thenN (bT rfl ?_))))))))))))))))))))))
 refine aO (XF.thenN (aC (aC (aG (opV (aU (c:=false) rfl rfl (by decide)) rfl (aB rfl rfl (aF (XF.thenN (bT rfl (aO (XF.thenN (aC (aC (aG (opV (aU (c:=true) rfl rfl (by decide)) rfl (aB rfl rfl (aF (XF.thenN (cT rfl (bS (XF.thenX (XF.thenX (XF.blkO rfl (XF.thenX ?_))))))))))))))))))))))))
 refine XF.blkO rfl (XF.thenX (XF.blkX (XF.thenN (aC (aG (aA rfl rfl (aA rfl rfl (aA rfl rfl (aA rfl rfl (aP (vs:=[_,_,_,_]) jM rfl (jK BB MB (n) sy s0 e0 (f) (-1) (t) (L) _ _ _ _ K w0 _ ((hS.keep K (fun q hq=>by simp [hq])).perm (List.Perm.swap _ _ _)) (by omega)) rfl ?_))))))))))
 rintro e W9 ⟨rfl,wa1,wc1,hS9⟩
 refine ⟨_,rfl,?_⟩
 clear hS;have hS:=hS9.perm (List.Perm.swap _ _ _);clear hS9
 refine aF (XF.thenN (bS (XF.blkO rfl (XF.thenX (XF.blkO rfl (XF.thenX (XF.blkO rfl (XF.thenX (XF.blkO rfl (XF.thenX (XF.blkX (XF.resN (lD results58) ?_))))))))))))
 exact ⟨rfl,wa1,wc1,(hS.keep K (fun q hq=>by simp [hq])).tail⟩
theorem sW (BB MB n2 k:Nat) (sy s0 e0:Int) (L2:List ArV) (wa:Option Addr) (wc:Nat) (nm:ByteArray) (ka:Option Addr) (kl kc:Nat) (f t:Int) (kids:List ReV) (fr:Nat→Int) (sn:Nat→Nat) (sL:Nat→List ArV) (es:List (List UInt8×Int)) (Kt:List (Nat×World)) (Ot:Own) (G:aQ) (K:List (Nat×World)) (w0 w:World) (hS0:St w0 ((BB,[.int .i64 ((sn 0:Nat):Int),.int .i64 sy,.int .i64 s0,.int .i64 e0,.slice wa (sL 0).length wc,.map (some MB),.bool false],94)::Ot) (⟨.slice wa (sL 0).length wc,(sL 0).length,(sL 0).flatMap ArV.three,57,3⟩::G) K w) (hKt:∀ q∈Kt,q∈K) (hM:bJ w0 Kt (fun W=>MsI MB es W)) (hX:bJ w0 Kt (fun W=>ReIn W (.mk 5 nm ka kl kc kids))) (hkk:kids.length=k+1) (hf0:fr 0=f) (h1:∀ i,i < k→sn i < 4096∧fr (i+1)=(sn i:Int)) (h2:∀ (i:Nat) c,i < k→kids[i]?=some c→oG es c (fr i) (fr (i+1)) (sn i+1) (sL i) (sn (i+1)) (sL (i+1))) (h3:∀ c,kids[k]?=some c→oG es c (fr k) t (sn k) (sL k) n2 L2) :
  Calls prog 58 #[.pointer (some ⟨BB,0,none⟩),.agg #[.int .i64 5,.string nm,.slice ka kl kc],.int .i64 f,.int .i64 t] w (fun e w'=>e = .returned (.tuple #[])∧∃ (wa:Option Addr) (wc:Nat),St w0 ((BB,[.int .i64 ((n2:Nat):Int),.int .i64 sy,.int .i64 s0,.int .i64 e0,.slice wa (L2).length wc,.map (some MB),.bool false],94)::Ot) (⟨.slice wa (L2).length wc,(L2).length,(L2).flatMap ArV.three,57,3⟩::G) K w'):=by
 refine bD (args:=[.pointer (some ⟨BB,0,none⟩),.agg #[.int .i64 5,.string nm,.slice ka kl kc],.int .i64 f,.int .i64 t]) func58 rfl ntmps58 rfl ?_
 have hS:=hS0
 obtain ⟨hkl,hk5,hkc⟩:kids.length=kl∧kl≤500∧kl≤kc:=(by cases hX hS0 hKt with | mk h1 h2 h2c h3 h4=>exact ⟨h1,h2,h2c⟩)
 have hk3:bJ w0 Kt (fun W=>∀ (i:Nat) k,kids[i]?=some k→∃ b off,ka=some ⟨b,off,none⟩∧aK W b (off+i * 3) k.cells):=fun h9 hk9=>(by cases hX h9 hk9 with | mk h1 h2 h2c h3 h4=>exact h3)
 have hk4:∀ k∈kids,bJ w0 Kt (fun W=>ReIn W k):=fun k hk=>(show bJ w0 Kt (fun W=>ReIn W k) from fun h9 hk9=>(by cases hX h9 hk9 with | mk h1 h2 h2c h3 h4=>exact h4 k hk))
 refine aC (aG (bZ (cs:=[_,_,_]) hS rfl rfl rfl fun B1 W1 hS=>aF (XF.thenN (aC (aC (aG (aA rfl rfl (aY rfl rfl (aH (o':=6) fH rfl rfl rfl (aI isAgg4 rfl (aE (hS.at_ 1 rfl) rfl) rfl (aF (XF.thenN (bT rfl (aO (XF.thenN (aC (aG (aB rfl rfl (aF (XF.thenN (aC (aG (aH (o':=0) cO rfl rfl rfl (aI isAgg59 rfl (aE (hS.at_ 0 rfl) rfl) rfl (aF (XF.thenN (aL ?_)))))))))))))))))))))))))))
 refine aC (aL (aC (aL (aC (aL (aC (aL (aC (aL (aC (aL (aC (aL (aC (aC (aC (aG (opV (aU (c:=false) rfl rfl (by decide)) rfl (aB rfl rfl (aF (XF.thenN (bT rfl ?_))))))))))))))))))))))
 refine aO (XF.thenN (aC (aC (aG (opV (aU (c:=false) rfl rfl (by decide)) rfl (aB rfl rfl (aF (XF.thenN (bT rfl (aO (XF.thenN (aC (aC (aG (opV (aU (c:=false) rfl rfl (by decide)) rfl (aB rfl rfl (aF (XF.thenN (bT rfl (aO (XF.thenN (aC (aC (aG (opV (aU (c:=true) rfl rfl (by decide)) rfl ?_)))))))))))))))))))))))))
 refine aB rfl rfl (aF (XF.thenN (cT rfl (bS (XF.thenX (XF.thenX (XF.blkO rfl (XF.thenX (XF.blkO rfl (XF.thenX (XF.blkO rfl (XF.thenX (XF.blkX (XF.thenN (aC (aG (aA rfl rfl (aH (o':=2) dS rfl rfl rfl (aI isAgg60 rfl (aE (hS.at_ 0 rfl) rfl) rfl (aA rfl rfl (aA rfl rfl (aP (vs:=[_,_,_,_]) goes_72 rfl (qY BB MB n2 k sy s0 e0 L2 _ _ ka kl kc kids f t fr sn sL es Kt _ _ K w0 _ ((hS.keep K (fun q hq=>by simp [hq])).perm (List.Perm.swap _ _ _)) hKt hM hk3 hk4 hkl hk5 hkc (by omega) hf0 h1 h2 h3) rfl ?_))))))))))))))))))))))
 rintro e W9 ⟨rfl,wa1,wc1,hS9⟩
 refine ⟨_,rfl,?_⟩
 clear hS;have hS:=hS9.perm (List.Perm.swap _ _ _);clear hS9
 refine aF (XF.thenN (bS (XF.blkO rfl (XF.thenX (XF.blkO rfl (XF.thenX (XF.blkO rfl (XF.thenX (XF.blkX (XF.resN (lD results58) ?_))))))))))
 exact ⟨rfl,wa1,wc1,(hS.keep K (fun q hq=>by simp [hq])).tail⟩
theorem sX (BB MB:Nat) (sy s0 e0:Int) (wa:Option Addr) (wc:Nat) (nm:ByteArray) (ka:Option Addr) (kl kc:Nat) (f t:Int) (kids:List ReV) (sn:Nat→Nat) (sL tL:Nat→List ArV) (es:List (List UInt8×Int)) (Kt:List (Nat×World)) (Ot:Own) (G:aQ) (K:List (Nat×World)) (w0 w:World) (hS0:St w0 ((BB,[.int .i64 ((sn 0:Nat):Int),.int .i64 sy,.int .i64 s0,.int .i64 e0,.slice wa (sL 0).length wc,.map (some MB),.bool false],94)::Ot) (⟨.slice wa (sL 0).length wc,(sL 0).length,(sL 0).flatMap ArV.three,57,3⟩::G) K w) (hKt:∀ q∈Kt,q∈K) (hM:bJ w0 Kt (fun W=>MsI MB es W)) (hX:bJ w0 Kt (fun W=>ReIn W (.mk 6 nm ka kl kc kids))) (h1:∀ i,i < kids.length→sn i+2≤4096∧(sL i).length < 65536∧(tL i).length < 65536∧sL (i+1)=tL i++[⟨(sn i:Int)+1,-1,t⟩]) (h2:∀ (i:Nat) c,kids[i]?=some c→oG es c (sn i:Int) ((sn i:Int)+1) (sn i+2) (sL i++[⟨f,-1,(sn i:Int)⟩]) (sn (i+1)) (tL i)) :
  Calls prog 58 #[.pointer (some ⟨BB,0,none⟩),.agg #[.int .i64 6,.string nm,.slice ka kl kc],.int .i64 f,.int .i64 t] w (fun e w'=>e = .returned (.tuple #[])∧∃ (wa:Option Addr) (wc:Nat),St w0 ((BB,[.int .i64 ((sn kids.length:Nat):Int),.int .i64 sy,.int .i64 s0,.int .i64 e0,.slice wa (sL kids.length).length wc,.map (some MB),.bool false],94)::Ot) (⟨.slice wa (sL kids.length).length wc,(sL kids.length).length,(sL kids.length).flatMap ArV.three,57,3⟩::G) K w'):=by
 refine bD (args:=[.pointer (some ⟨BB,0,none⟩),.agg #[.int .i64 6,.string nm,.slice ka kl kc],.int .i64 f,.int .i64 t]) func58 rfl ntmps58 rfl ?_
 have hS:=hS0
 obtain ⟨hkl,hk5,hkc⟩:kids.length=kl∧kl≤500∧kl≤kc:=(by cases hX hS0 hKt with | mk h1 h2 h2c h3 h4=>exact ⟨h1,h2,h2c⟩)
 have hk3:bJ w0 Kt (fun W=>∀ (i:Nat) k,kids[i]?=some k→∃ b off,ka=some ⟨b,off,none⟩∧aK W b (off+i * 3) k.cells):=fun h9 hk9=>(by cases hX h9 hk9 with | mk h1 h2 h2c h3 h4=>exact h3)
 have hk4:∀ k∈kids,bJ w0 Kt (fun W=>ReIn W k):=fun k hk=>(show bJ w0 Kt (fun W=>ReIn W k) from fun h9 hk9=>(by cases hX h9 hk9 with | mk h1 h2 h2c h3 h4=>exact h4 k hk))
 refine aC (aG (bZ (cs:=[_,_,_]) hS rfl rfl rfl fun B1 W1 hS=>aF (XF.thenN (aC (aC (aG (aA rfl rfl (aY rfl rfl (aH (o':=6) fH rfl rfl rfl (aI isAgg4 rfl (aE (hS.at_ 1 rfl) rfl) rfl (aF (XF.thenN (bT rfl (aO (XF.thenN (aC (aG (aB rfl rfl (aF (XF.thenN (aC (aG (aH (o':=0) cO rfl rfl rfl (aI isAgg59 rfl (aE (hS.at_ 0 rfl) rfl) rfl (aF (XF.thenN (aL ?_)))))))))))))))))))))))))))
 refine aC (aL (aC (aL (aC (aL (aC (aL (aC (aL (aC (aL (aC (aL (aC (aC (aC (aG (opV (aU (c:=false) rfl rfl (by decide)) rfl (aB rfl rfl (aF (XF.thenN (bT rfl ?_))))))))))))))))))))))
 refine aO (XF.thenN (aC (aC (aG (opV (aU (c:=false) rfl rfl (by decide)) rfl (aB rfl rfl (aF (XF.thenN (bT rfl (aO (XF.thenN (aC (aC (aG (opV (aU (c:=false) rfl rfl (by decide)) rfl (aB rfl rfl (aF (XF.thenN (bT rfl (aO (XF.thenN (aC (aC (aG (opV (aU (c:=false) rfl rfl (by decide)) rfl ?_)))))))))))))))))))))))))
 refine aB rfl rfl (aF (XF.thenN (bT rfl (aO (XF.thenN (aC (aC (aG (opV (aU (c:=true) rfl rfl (by decide)) rfl (aB rfl rfl (aF (XF.thenN (cT rfl (bS (XF.thenX (XF.thenX (XF.blkO rfl (XF.thenX (XF.blkO rfl (XF.thenX (XF.blkO rfl (XF.thenX (XF.blkO rfl ?_)))))))))))))))))))))))
 refine XF.thenX (XF.blkX (XF.thenN (aC (aC (aG (aH (o':=2) dS rfl rfl rfl (aI isAgg60 rfl (aE (hS.at_ 0 rfl) rfl) rfl (bF underlying60 rfl rfl (aA rfl rfl (aF (XF.thenN (aL (cD (fun m l W=>∃ (i:Nat) (wa:Option Addr) (wc:Nat),i≤kl∧m=kl - i∧l=[(0,.pointer (some ⟨BB,0,none⟩)),(2,.int .i64 f),(3,.int .i64 t),(65,.slice ka kl kc),(66,.int .i64 (kl:Int)),(67,.int .i64 (i:Int))]∧St w0 ((B1,[.int .i64 6,.string nm,.slice ka kl kc],62)::(BB,[.int .i64 ((sn i:Nat):Int),.int .i64 sy,.int .i64 s0,.int .i64 e0,.slice wa (sL i).length wc,.map (some MB),.bool false],94)::Ot) (⟨.slice wa (sL i).length wc,(sL i).length,(sL i).flatMap ArV.three,57,3⟩::G) K W) (kl - 0) ([(0,_),(2,_),(3,_),(65,_),(66,_),(67,_)]) ⟨rfl,rfl,rfl,rfl,rfl,rfl,trivial⟩ (⟨0,wa,wc,Nat.zero_le _,rfl,rfl,hS.keep K (fun q hq=>by simp [hq])⟩) ?_)))))))))))))
 clear hS
 rintro m l W ⟨i,wa,wc,hi,rfl,rfl,hS⟩
 refine aC (aG (bG rfl rfl rfl (aF (XF.thenN (aC (bA rfl (fun hc=>?_) (fun hc=>?_)))))))
 ·have hc68:=of_decide_eq_true hc;clear hc
  obtain ⟨k9,hki⟩:∃ c,kids[i]?=some c:=⟨_,List.getElem?_eq_getElem (by omega)⟩
  have hkm:=List.mem_of_getElem? hki
  obtain ⟨b,off,hka,hcs⟩:=hk3 (hS.keep K (fun q hq=>by simp [hq])) hKt i k9 hki
  have hkx:bJ w0 Kt (fun W=>ReIn W k9):=hk4 k9 hkm
  obtain ⟨hsn,hsl,htl,hsl2⟩:=h1 i (by omega)
  have hkl9:=h2 i k9 hki
  obtain ⟨ko,kn,kka,kkl,kkc,kks⟩:=k9
  have k1:aK _ b (off+i * 3) [.int .i64 ko,.string kn,.slice kka kkl kkc]:=hcs
  refine aO (XF.thenN (aC (aL (aC (aG ?_)))))
  refine aS (j:=i) (b:=b) (o:=off) (m:=kl) (c:=kc) underlying60 sizeOf62 (by show some (Value.slice _ _ _)=_;rw [hka]) rfl rfl (by omega) rfl rfl ?_
  refine aM (vs:=[_,_,_]) isAgg62 sizeOf62 rfl k1 rfl (bH (cs:=[_,_,_]) hS zeroValue62 rfl rfl fun B2 W2 hS=>bI (i:=0) (vs:=[_,_,_]) (cs':=[_,_,_]) (O':=(_::_::_::Ot)) hS sizeOf62 rfl rfl rfl rfl rfl rfl rfl fun W3 hS=>aF (XF.thenN (aC (aG (aA rfl rfl (aM (vs:=[_,_,_]) isAgg62 sizeOf62 rfl (aK.own (j:=0) (m:=3) (hS.at_ 0 rfl) rfl) rfl (aA rfl rfl (aP (vs:=[_,_,_]) goes_73 rfl (qX BB MB (sn i) sy s0 e0 (sL i) (tL i) (sn (i+1)) _ _ ko kn kka kkl kkc kks f es Kt _ _ K w0 _ ((hS.keep K (fun q hq=>by simp [hq])).perm iV) hKt hM hkx hsn hsl hkl9) rfl ?_))))))))
  rintro e W9 ⟨rfl,wa1,wc1,hS9⟩
  refine ⟨_,rfl,?_⟩
  clear hS;have hS:=hS9.perm iV.symm;clear hS9
  refine aA rfl rfl (bB rfl rfl rfl (bB rfl rfl rfl (aB rfl rfl (aB rfl rfl (aF (XF.thenN (aG (aA rfl rfl (aA rfl rfl (aA rfl rfl (aP (vs:=[_,_,_,_]) jM rfl (jK BB MB (sn (i+1)) sy s0 e0 ((sn i:Int)+1) (-1) (t) (tL i) _ _ _ _ K w0 _ ((hS.keep K (fun q hq=>by simp [hq])).perm iV) (by omega)) rfl ?_)))))))))))
  rintro e W9 ⟨rfl,wa3,wc3,hS9⟩
  refine ⟨_,rfl,?_⟩
  clear hS;have hS:=hS9.perm iV.symm;clear hS9
  refine aF (XF.blkN (XF.thenN (aG (aV rfl rfl (IntWalk.i64_in _ (by omega)) rfl (aA rfl rfl (aF ?_))))))
  rw [← hsl2] at hS
  exact XF.round (kl - (i+1)) [(0,_),(2,_),(3,_),(65,_),(66,_),(67,_)] (by omega) ⟨rfl,rfl,rfl,rfl,rfl,rfl,trivial⟩ ⟨i+1,wa3,wc3,by omega,rfl,rfl,hS.tail.keep K (fun q hq=>by simp [hq])⟩
 ·have hc68:=of_decide_eq_false hc;clear hc
  obtain rfl:i=kl:=by omega
  refine bS (XF.thenX (XF.thenX (XF.blkX (XF.thenN (bS (XF.blkO rfl (XF.thenX (XF.blkO rfl (XF.thenX (XF.blkX (XF.resN (lD results58) ?_)))))))))))
  rw [hkl]
  exact ⟨rfl,wa,wc,(hS.keep K (fun q hq=>by simp [hq])).tail⟩
theorem lay_is {es:List (List UInt8×Int)} {x:ReV} {f t:Int} {n n2:Nat} {L L2:List ArV} (h:Lay es x f t n L n2 L2):oG es x f t n L n2 L2:=by
 induction h with
 | @name x f t v n L h1 h2 h3 h4 =>
  intro BB MB sy s0 e0 wa wc Kt Ot G K w0 w hS0 hKt hX hM
  cases x with
  | mk op nm ka kl kc kids =>
   change op=1 at h1
   subst h1
   exact qZ BB MB n sy s0 e0 L wa wc nm ka kl kc f t v es Kt Ot G K w0 w hS0 hKt hM h4 h2 h3
 | @emp x f t n L h1 h2 =>
  intro BB MB sy s0 e0 wa wc Kt Ot G K w0 w hS0 hKt hX hM
  cases x with
  | mk op nm ka kl kc kids =>
   change op=3 at h1
   subst h1
   exact sV BB MB n sy s0 e0 L wa wc nm ka kl kc f t Ot G K w0 w hS0 h2
 | @seq x f t k n2 L2 fr sn sL h1 h2 h3 h4 h5 h6 ih1 ih2 =>
  intro BB MB sy s0 e0 wa wc Kt Ot G K w0 w hS0 hKt hX hM
  cases x with
  | mk op nm ka kl kc kids =>
   change op=5 at h1
   subst h1
   exact sW BB MB n2 k sy s0 e0 L2 wa wc nm ka kl kc f t kids fr sn sL es Kt Ot G K w0 w hS0 hKt hM hX h2 h3 h4 ih1 ih2
 | @alt x f t sn sL tL h1 h2 h3 ih =>
  intro BB MB sy s0 e0 wa wc Kt Ot G K w0 w hS0 hKt hX hM
  cases x with
  | mk op nm ka kl kc kids =>
   change op=6 at h1
   subst h1
   exact sX BB MB sy s0 e0 wa wc nm ka kl kc f t kids sn sL tL es Kt Ot G K w0 w hS0 hKt hM hX h2 ih
theorem sY (v1:Option Nat):prog.built 94 [(1,.map v1)]=some #[.int .i64 0,.int .i64 0,.int .i64 0,.int .i64 0,.slice none 0 0,.map v1,.bool false]:=by kernel_rfl
def exV (B1 B2:Nat):ReV:=.mk 5 ⟨#[]⟩ (some ⟨B2,0,none⟩) 2 2 [.mk 1 ⟨#[97]⟩ none 0 0 [],.mk 6 ⟨#[]⟩ (some ⟨B1,0,none⟩) 2 2 [.mk 1 ⟨#[98]⟩ none 0 0 [],.mk 3 ⟨#[]⟩ none 0 0 []]]
def exL:List ArV:=[⟨0,0,2⟩,⟨2,-1,3⟩,⟨3,1,4⟩,⟨4,-1,1⟩,⟨2,-1,5⟩,⟨5,-1,6⟩,⟨6,-1,1⟩]
theorem sZ {op:Int} {nm:ByteArray} {n d:Nat} (hn:n+1≤500) (hd:d≤50):FitsR (.mk op nm none 0 0 []) d n (n+1):=FitsR.mk (x:=.mk op nm none 0 0 []) (f:=fun _=>n+1) hn hd rfl (fun i k hi=>by simp [ReV.kids] at hi)
theorem tA (B1 B2:Nat):FitsR (exV B1 B2) 1 0 5:=by
 refine FitsR.mk (x:=exV B1 B2) (f:=fun i=>match i with | 0=>1 | 1=>2 | _=>5) (by omega) (by omega) rfl fun i k hi=>?_
 match i,hi with
 | 0,hi =>
  obtain rfl:ReV.mk 1 ⟨#[97]⟩ none 0 0 []=k:=by simpa [exV,ReV.kids] using hi
  exact sZ (n:=1) (by omega) (by omega)
 | 1,hi =>
  obtain rfl:ReV.mk 6 ⟨#[]⟩ (some ⟨B1,0,none⟩) 2 2 [.mk 1 ⟨#[98]⟩ none 0 0 [],.mk 3 ⟨#[]⟩ none 0 0 []]=k:=by simpa [exV,ReV.kids] using hi
  refine FitsR.mk (n:=2) (f:=fun i=>match i with | 0=>3 | 1=>4 | _=>5) (by omega) (by omega) rfl fun i k hi=>?_
  match i,hi with
  | 0,hi =>
   obtain rfl:ReV.mk 1 ⟨#[98]⟩ none 0 0 []=k:=by simpa [ReV.kids] using hi
   exact sZ (n:=3) (by omega) (by omega)
  | 1,hi =>
   obtain rfl:ReV.mk 3 ⟨#[]⟩ none 0 0 []=k:=by simpa [ReV.kids] using hi
   exact sZ (n:=4) (by omega) (by omega)
  | i+2,hi=>simp [ReV.kids] at hi
 | i+2,hi=>simp [exV,ReV.kids] at hi
theorem tB (B1 B2:Nat):WellM (exV B1 B2):=by
 have hb:WellM (.mk 1 ⟨#[98]⟩ none 0 0 []):=.mk (fun k hk=>by cases hk) (.inl ⟨rfl,.inr rfl,rfl⟩)
 have ha:WellM (.mk 1 ⟨#[97]⟩ none 0 0 []):=.mk (fun k hk=>by cases hk) (.inl ⟨rfl,.inl rfl,rfl⟩)
 have he:WellM (.mk 3 ⟨#[]⟩ none 0 0 []):=.mk (fun k hk=>by cases hk) (.inr ⟨rfl,.inl ⟨rfl,rfl⟩⟩)
 refine .mk (fun k hk=>?_) (.inr ⟨rfl,.inr ⟨.inl rfl,fun k hk=>?_,Nat.le_refl _⟩⟩)
 ·simp only [exV,ReV.kids,List.mem_cons,List.not_mem_nil,or_false] at hk
  rcases hk with rfl | rfl
  ·exact ha
  ·refine .mk (fun k hk=>?_) (.inr ⟨rfl,.inr ⟨.inr rfl,fun k hk=>?_,Nat.le_refl _⟩⟩)
   ·simp only [ReV.kids,List.mem_cons,List.not_mem_nil,or_false] at hk
    rcases hk with rfl | rfl
    ·exact hb
    ·exact he
   ·simp only [ReV.kids,List.mem_cons,List.not_mem_nil,or_false] at hk
    rcases hk with rfl | rfl
    ·show (1:Int)≠6;decide
    ·show (3:Int)≠6;decide
 ·simp only [exV,ReV.kids,List.mem_cons,List.not_mem_nil,or_false] at hk
  rcases hk with rfl | rfl
  ·show (1:Int)≠5;decide
  ·show (6:Int)≠5;decide
theorem exV_lay (B1 B2:Nat):Lay (kS 2) (exV B1 B2) 0 1 2 [] 7 exL:=by
 refine Lay.seq (x:=exV B1 B2) (k:=1) (fun i=>match i with | 0=>0 | _=>2) (fun i=>match i with | 0=>2 | _=>3) (fun i=>match i with | 0=>[] | _=>[⟨0,0,2⟩]) rfl rfl rfl (fun i hi=>?_) (fun i c hi hc=>?_) (fun c hc=>?_)
 ·obtain rfl:i=0:=by omega
  exact ⟨by decide,rfl⟩
 ·obtain rfl:i=0:=by omega
  obtain rfl:ReV.mk 1 ⟨#[97]⟩ none 0 0 []=c:=by simpa [exV,ReV.kids] using hc
  exact Lay.name (v:=0) (L:=[]) rfl (by decide) (by decide) (by decide)
 ·obtain rfl:ReV.mk 6 ⟨#[]⟩ (some ⟨B1,0,none⟩) 2 2 [.mk 1 ⟨#[98]⟩ none 0 0 [],.mk 3 ⟨#[]⟩ none 0 0 []]=c:=by simpa [exV,ReV.kids] using hc
  refine Lay.alt (x:=.mk 6 ⟨#[]⟩ (some ⟨B1,0,none⟩) 2 2 [.mk 1 ⟨#[98]⟩ none 0 0 [],.mk 3 ⟨#[]⟩ none 0 0 []]) (t:=1) (f:=2) (fun i=>match i with | 0=>3 | 1=>5 | _=>7) (fun i=>match i with | 0=>[⟨0,0,2⟩] | 1=>[⟨0,0,2⟩,⟨2,-1,3⟩,⟨3,1,4⟩,⟨4,-1,1⟩] | _=>exL) (fun i=>match i with | 0=>[⟨0,0,2⟩,⟨2,-1,3⟩,⟨3,1,4⟩] | _=>[⟨0,0,2⟩,⟨2,-1,3⟩,⟨3,1,4⟩,⟨4,-1,1⟩,⟨2,-1,5⟩,⟨5,-1,6⟩]) rfl (fun i hi=>?_) (fun i c hc=>?_)
  ·match i,hi with
   | 0,_=>exact ⟨by decide,by decide,by decide,rfl⟩
   | 1,_=>exact ⟨by decide,by decide,by decide,rfl⟩
   | i+2,hi=>simp [ReV.kids] at hi;omega
  ·match i,hc with
   | 0,hc =>
    obtain rfl:ReV.mk 1 ⟨#[98]⟩ none 0 0 []=c:=by simpa [ReV.kids] using hc
    exact Lay.name (v:=1) (L:=[⟨0,0,2⟩,⟨2,-1,3⟩]) rfl (by decide) (by decide) (by decide)
   | 1,hc =>
    obtain rfl:ReV.mk 3 ⟨#[]⟩ none 0 0 []=c:=by simpa [ReV.kids] using hc
    exact Lay.emp (L:=[⟨0,0,2⟩,⟨2,-1,3⟩,⟨3,1,4⟩,⟨4,-1,1⟩,⟨2,-1,5⟩]) rfl (by decide)
   | i+2,hc=>simp [ReV.kids] at hc
theorem tC (MB n2:Nat) (L2:List ArV) (op:Int) (nm:ByteArray) (ka:Option Addr) (kl kc:Nat) (kids:List ReV) (es:List (List UInt8×Int)) (Kt:List (Nat×World)) (Ot:Own) (G:aQ) (K:List (Nat×World)) (w0 w:World) (hS0:St w0 Ot G K w) (hKt:∀ q∈Kt,q∈K) (hM:bJ w0 Kt (fun W=>MsI MB es W)) (hX:bJ w0 Kt (fun W=>ReIn W (.mk op nm ka kl kc kids))) (hl:Lay es (.mk op nm ka kl kc kids) 0 1 2 [] n2 L2) :
  Calls prog 49 #[.agg #[.int .i64 op,.string nm,.slice ka kl kc],.map (some MB)] w (fun e w'=>∃ (wa:Option Addr) (wc:Nat),e = .returned (.tuple #[NfV.val ⟨(n2:Int),(es.length:Int),0,1,wa,L2.length,wc,L2⟩,.bool true])∧St w0 Ot (⟨.slice wa (L2).length wc,(L2).length,(L2).flatMap ArV.three,57,3⟩::G) K w'):=by
 refine bD (args:=[.agg #[.int .i64 op,.string nm,.slice ka kl kc],.map (some MB)]) func49 rfl ntmps49 rfl ?_
 have hS:=hS0
 refine aC (aG (bZ (cs:=[_,_,_]) hS rfl rfl rfl fun B1 W1 hS=>bH (cs:=[_,_,_,_,_]) hS zeroValue24 rfl rfl fun B2 W2 hS=>aB rfl rfl (aF (XF.thenN (aC (aG (aA rfl rfl (dB (us:=[(1,.map _)]) rfl (sY _) rfl (bH (cs:=[_,_,_,_,_,_,_]) hS zeroValue94 rfl rfl fun B3 W3 hS=>bI (i:=0) (vs:=[_,_,_,_,_,_,_]) (cs':=[_,_,_,_,_,_,_]) (O':=(_::_::_::Ot)) hS sizeOf94 rfl rfl rfl rfl rfl rfl rfl fun W4 hS=>aF (XF.thenN (aC (aG (aA rfl rfl (opV (mY (hM (hS.keep K (fun q hq=>by simp [hq])) hKt) rfl) rfl (aH (o':=0) dF rfl rfl rfl (aH (o':=1) gE rfl rfl rfl (bO (i:=0) (cs':=[_,_,_,_,_,_,_]) (O':=(_::_::_::Ot)) hS sizeOf3 rfl rfl rfl rfl rfl rfl rfl fun W5 hS=>aF (XF.thenN (aC ?_)))))))))))))))))))
 have hS':=hS.newG 57 3;clear hS;have hS:=hS';clear hS'
 refine aG (aP (vs:=[_]) iP rfl (eI B3 MB 0 (es.length:Int) 0 0 (.slice none 0 0) _ _ K w0 _ (hS.keep K (fun q hq=>by simp [hq])) (by omega)) rfl ?_)
 rintro e W8 ⟨rfl,hS9⟩
 refine ⟨_,rfl,?_⟩
 clear hS;have hS:=hS9;clear hS9
 refine aP (vs:=[_]) iP rfl (eI B3 MB 1 (es.length:Int) 0 0 (.slice none 0 0) _ _ K w0 _ (hS.keep K (fun q hq=>by simp [hq])) (by omega)) rfl ?_
 rintro e W9 ⟨rfl,hS9⟩
 refine ⟨_,rfl,?_⟩
 clear hS;have hS:=hS9;clear hS9
 refine aH (o':=0) dF rfl rfl rfl (aH (o':=2) dN rfl rfl rfl (bO (i:=0) (cs':=[_,_,_,_,_,_,_]) (O':=(_::_::_::Ot)) hS sizeOf3 rfl rfl rfl rfl rfl rfl rfl fun W6 hS=>aH (o':=0) dF rfl rfl rfl (aH (o':=3) eA rfl rfl rfl (bO (i:=0) (cs':=[_,_,_,_,_,_,_]) (O':=(_::_::_::Ot)) hS sizeOf3 rfl rfl rfl rfl rfl rfl rfl fun W7 hS=>aF (XF.thenN (aC (aG (aM (vs:=[_,_,_]) isAgg62 sizeOf62 rfl (aK.own (j:=0) (m:=3) (hS.at_ 2 rfl) rfl) rfl (aH (o':=0) dF rfl rfl rfl (aH (o':=2) dN rfl rfl rfl (aI isAgg3 rfl (aE (hS.at_ 0 rfl) rfl) rfl (aH (o':=0) dF rfl rfl rfl (aH (o':=3) eA rfl rfl rfl (aI isAgg3 rfl (aE (hS.at_ 0 rfl) rfl) rfl (aP (vs:=[_,_,_,_]) jL rfl (lay_is hl B3 MB (es.length:Int) 0 1 none 0 Kt _ _ K w0 _ (hS.keep K (fun q hq=>by simp [hq])) hKt hX hM) rfl ?_)))))))))))))))
 rintro e W9 ⟨rfl,wa2,wc2,hS9⟩
 refine ⟨_,rfl,?_⟩
 clear hS;have hS:=hS9;clear hS9
 refine aF (XF.thenN (aC (regS (ef:=5) (jy:=7) (ca:=jE (fun _=>[])) (ta:=fun _=>0) (Os:=lN _ 1 0 B2 ([.int .i64 0,.int .i64 0,.int .i64 0,.int .i64 0,.slice none 0 0]) ([.int .i64 (n2:Int),.int .i64 (es.length:Int),.int .i64 0,.int .i64 1,.slice wa2 L2.length wc2]) 24) (Gs:=qC _) (al:=[]) (k:=6) (ds:=[5]) cL rfl hS rfl (by kernel_rfl) (by kernel_rfl) rfl (by decide) rfl (some) (.inl ⟨rfl,rfl⟩) rfl rfl (cG 1 rfl rfl (isV _) (fun hNo=>sgV [(6,_)] rfl rfl rfl rfl hNo (bX rfl) ⟨iZ rfl,trivial⟩ (fun ev w he hw=>cA (o':=0) dF rfl rfl) (bQ rfl)) (cG 2 rfl rfl (isV _) (fun hNo=>sgV [(27,_)] rfl rfl rfl rfl hNo (bX rfl) ⟨bW 0 (bR rfl rfl rfl),trivial⟩ (fun ev w he hw=>fP (vs:=[_,_,_,_,_]) isAgg24 sizeOf24 rfl ((aK.own (j:=0) (m:=5) (hw.at_ 0 (oV (i:=0) (j:=1) rfl rfl)) rfl))) (bQ rfl)) (cG 3 rfl rfl (isV _) (fun hNo=>sgV [(6,_)] rfl rfl rfl rfl hNo (bX rfl) ⟨iZ rfl,trivial⟩ (fun ev w he hw=>cA (o':=6) fH rfl rfl) (bQ rfl)) (cG 4 rfl rfl (isV _) (fun hNo=>sgV [(29,_)] rfl rfl rfl rfl hNo (bX rfl) ⟨bW 2 (bR rfl rfl rfl),trivial⟩ (fun ev w he hw=>bE isAgg4 rfl ((aE (hw.at_ 0 (oV (i:=0) (j:=1) rfl rfl)) rfl))) (bQ rfl)) (cG 5 rfl rfl (isV _) (fun hNo=>sgV [(30,_)] rfl rfl rfl rfl hNo (bX rfl) ⟨bW 3 (bR rfl rfl rfl),trivial⟩ (fun ev w he hw=>rJ rfl) (bQ rfl)) ?_))))))))
 refine oU 6 rfl (eff_stO (m:=5) 1 0 [(4,_),(28,_)] rfl rfl rfl rfl (fun j hj=>by rcases hj with h | rfl<;>first | (cases h<;>rfl) | rfl) ⟨iZ rfl,bW 1 (bR rfl rfl rfl),trivial⟩ rfl rfl rfl sizeOf24 rfl rfl rfl rfl) ?_
 refine oT ?_
 intro Bf8 y8 W8 Ks8 hsz8 hKs8 hS' hcov8
 clear hS;have hS:=hS'.castO (O':=(_::_::_::Ot)) rfl;clear hS'
 refine rV (L':=[AwS _ _ (isV _),AwS _ _ (isV _),AwS _ _ (isV _),AwS _ _ (isV _),AwS _ _ (isV _),isV _]) rfl (cV (cV (cV (cV (cV (fin_0 (fE (aB rfl rfl (aF (XF.thenN (bK (XF.res (rP (vs:=[_,_,_,_,_]) results49 isAgg24 sizeOf24 rfl (aK.own (j:=0) (m:=5) (hS.at_ 1 rfl) rfl) rfl) ?_))))))))))))
 exact ⟨wa2,wc2,rfl,((hS.keep K (fun q hq=>by simp [hq])).tail.tail.tail)⟩
theorem bld_24:prog.built 24 []=some #[.int .i64 0,.int .i64 0,.int .i64 0,.int .i64 0,.slice none 0 0]:=by kernel_rfl
theorem kJ (v0:Int) (v2a:Option Addr) (v2l:Nat) (v2c:Nat):prog.built 62 [(0,.int .i64 v0),(2,.slice v2a v2l v2c)]=some #[.int .i64 v0,.string ByteArray.empty,.slice v2a v2l v2c]:=by kernel_rfl
theorem tD (v0:Int):prog.built 62 [(0,.int .i64 v0)]=some #[.int .i64 v0,.string ByteArray.empty,.slice none 0 0]:=by kernel_rfl
theorem pP (v00:Value) (v01:Value) (v02:Value) (v10:Value) (v11:Value) (v12:Value):Instr.fill (fun i=>some (i * 3,3)) ((Array.range (2 * 3)).map ((Value.cells (.agg #[.int .i64 0,.string ByteArray.empty,.slice none 0 0]))[· % (Value.cells (.agg #[.int .i64 0,.string ByteArray.empty,.slice none 0 0])).size]!)) [(0,.agg #[v00,v01,v02]),(1,.agg #[v10,v11,v12])]=some (List.toArray [v00,v01,v02,v10,v11,v12]):=by kernel_rfl
theorem goes_48:aZ prog 48=true:=by kernel_rfl
theorem goes_49:aZ prog 49=true:=by kernel_rfl
theorem mZ {n:Nat} {w A W:World} (hn:n=w.heap.size) (h1:Below n w A) (h2:Below n w W) (h3:cU n A W):Below A.heap.size A W where
 os:=h2.os.trans h1.os.symm
 tape:=h2.tape.trans h1.tape.symm
 output:=h2.output.trans h1.output.symm
 size:=h3.1
 block:=fun k hk=>by
  rcases Nat.lt_or_ge k n with h | h
  ·exact (h2.block k h).trans (h1.block k h).symm
  ·exact h3.2 k h hk
theorem NIn.agree {A W:World} {a:NfV} (h:NIn A a) (hg:cU 0 A W):NIn W a:=⟨fun i r hi=>by
 obtain ⟨b,off,e,hc⟩:=h.arow i r hi
 exact ⟨b,off,e,aK.agree hg (Nat.zero_le _) hc⟩,h.alen,h.amax⟩
theorem tE {w0 W4:World} {lo MB:Nat} {es:List (List UInt8×Int)} (h:MsI MB es W4) (hlo:lo≤MB):bJ w0 [(lo,W4)] (fun W=>MsI MB es W):=fun h9 hk9=>h.same (fun hlt=>(h9.kept _ (hk9 _ (List.mem_singleton.2 rfl))).1.2 MB hlo hlt)
theorem exV_in {W:World} {B1 B2:Nat} {T:TypeId} (h1:W.heap[B1]?=some (.cells #[.int .i64 1,.string ⟨#[98]⟩,.slice none 0 0,.int .i64 3,.string ⟨#[]⟩,.slice none 0 0] T (0,0))) (h2:W.heap[B2]?=some (.cells #[.int .i64 1,.string ⟨#[97]⟩,.slice none 0 0,.int .i64 6,.string ⟨#[]⟩,.slice (some ⟨B1,0,none⟩) 2 2] T (0,0))):ReIn W (exV B1 B2):=by
 have leaf:∀ (op:Int) (nm:ByteArray),ReIn W (.mk op nm none 0 0 []):=fun op nm=>.mk rfl (by omega) (Nat.le_refl _) (fun i k hi=>by simp at hi) (fun k hk=>by cases hk)
 refine .mk rfl (by omega) (Nat.le_refl _) (fun i k hi=>⟨B2,0,rfl,?_⟩) (fun k hk=>?_)
 ·match i,hi with
  | 0,hi =>
   obtain rfl:=Option.some.inj hi
   exact aK.own (j:=0) (m:=3) (cs:=[_,_,_,_,_,_]) h2 rfl
  | 1,hi =>
   obtain rfl:=Option.some.inj hi
   exact aK.own (j:=3) (m:=3) (cs:=[_,_,_,_,_,_]) h2 rfl
  | i+2,hi=>simp at hi
 ·simp only [List.mem_cons,List.not_mem_nil,or_false] at hk
  rcases hk with rfl | rfl
  ·exact leaf _ _
  ·refine .mk rfl (by omega) (Nat.le_refl _) (fun i k hi=>⟨B1,0,rfl,?_⟩) (fun k hk=>?_)
   ·match i,hi with
    | 0,hi =>
     obtain rfl:=Option.some.inj hi
     exact aK.own (j:=0) (m:=3) (cs:=[_,_,_,_,_,_]) h1 rfl
    | 1,hi =>
     obtain rfl:=Option.some.inj hi
     exact aK.own (j:=3) (m:=3) (cs:=[_,_,_,_,_,_]) h1 rfl
    | i+2,hi=>simp at hi
   ·simp only [List.mem_cons,List.not_mem_nil,or_false] at hk
    rcases hk with rfl | rfl<;>exact leaf _ _
theorem nmAB_in {W:World} {B:Nat} {T:TypeId} (h:W.heap[B]?=some (.cells #[.string ⟨#[97]⟩,.string ⟨#[98]⟩] T (0,0))):sR W (some ⟨B,0,none⟩) mB:=fun i s hs=>by
 match i,hs with
 | 0,hs =>
  obtain rfl:=Option.some.inj hs
  exact ⟨B,0,rfl,aE (cs:=[_,_]) h rfl⟩
 | 1,hs =>
  obtain rfl:=Option.some.inj hs
  exact ⟨B,0,rfl,aE (cs:=[_,_]) h rfl⟩
 | i+2,hs=>simp [mB] at hs
def exA (wa:Option Addr) (wc:Nat):NfV:=⟨7,2,0,1,wa,7,wc,exL⟩
theorem oH {wa:Option Addr} {wc:Nat}:dH (exA wa wc)=0:=by
 have e:dH (exA wa wc)=dH (exA none 0):=rfl
 rw [e];decide
theorem tF {q:Nat} (h:E1 exL 0 q):False:=by
 obtain ⟨t,ht,e1,e2,_⟩:=h
 simp only [exL,List.mem_cons,List.not_mem_nil,or_false] at ht
 rcases ht with rfl | rfl | rfl | rfl | rfl | rfl | rfl<;>simp at e1 e2
theorem exL_hd0 {q:Nat} (h:Hd exL (fun q=>(q:Int)=0) q):q=0:=Hd.sub (R:=fun q=>q=0) (fun q h=>by omega) (fun p q hp e=>by subst hp;exact (tF e).elim) h
theorem iQ {t:ArV} (h:t∈exL) {p q:Nat} (h1:t.f=(p:Int)) (h2:t.s = -1) (h3:t.q=(q:Int)):E1 exL p q:=⟨t,h,h1,h2,h3⟩
theorem tG {wa:Option Addr} {wc:Nat}:AccN (exA wa wc) [0,1]:=by
 show Hd exL (By9 exL 1 (Hd exL (By9 exL 0 (Hd exL (fun q=>(q:Int)=0))))) 1
 have h2:Hd exL (By9 exL 0 (Hd exL (fun q=>(q:Int)=0))) 2:=.base ⟨0,.base rfl,⟨0,0,2⟩,by simp [exL],rfl,.inl rfl,rfl⟩
 have h3:Hd exL (By9 exL 0 (Hd exL (fun q=>(q:Int)=0))) 3:=.arc h2 (iQ (t:=⟨2,-1,3⟩) (by simp [exL]) rfl rfl rfl)
 have h4:Hd exL (By9 exL 1 (Hd exL (By9 exL 0 (Hd exL (fun q=>(q:Int)=0))))) 4:=.base ⟨3,h3,⟨3,1,4⟩,by simp [exL],rfl,.inl rfl,rfl⟩
 exact .arc h4 (iQ (t:=⟨4,-1,1⟩) (by simp [exL]) rfl rfl rfl)
theorem tH {wa:Option Addr} {wc:Nat}:¬ AccN (exA wa wc) [1]:=by
 intro h
 have h1:Hd exL (By9 exL 1 (Hd exL (fun q=>(q:Int)=0))) 1:=h
 refine Hd.sub (R:=fun _=>False) (fun q hq=>?_) (fun _ _ h _=>h) h1
 obtain ⟨p,hp,t,ht,e1,e2,_⟩:=hq
 obtain rfl:=exL_hd0 hp
 simp only [exL,List.mem_cons,List.not_mem_nil,or_false] at ht
 rcases ht with rfl | rfl | rfl | rfl | rfl | rfl | rfl<;>simp at e1 e2
theorem exL_rz0 {n p:Nat} (h:Rz exL 2 1 n p):n=0→p≠0:=by
 induction h with
 | end_=>exact fun _=>by decide
 | eps _ e ih=>intro _ hp;subst hp;exact tF e
 | sym _ _ _=>exact fun h=>absurd h (by omega)
theorem pQ:Rz exL 2 1 1 0:=by
 have h6:Rz exL 2 1 0 6:=.eps .end_ (iQ (t:=⟨6,-1,1⟩) (by simp [exL]) rfl rfl rfl)
 have h5:Rz exL 2 1 0 5:=.eps h6 (iQ (t:=⟨5,-1,6⟩) (by simp [exL]) rfl rfl rfl)
 have h2:Rz exL 2 1 0 2:=.eps h5 (iQ (t:=⟨2,-1,5⟩) (by simp [exL]) rfl rfl rfl)
 exact .sym h2 ⟨by decide,⟨0,0,2⟩,by simp [exL],rfl,by decide,rfl⟩
theorem rA {wa:Option Addr} {wc:Nat} {ok:Bool} {l:List Int} (h:LstE (exA wa wc) ok l):ok=true∧l.length=1:=by
 rcases h.2 oH with ⟨_,_,h1⟩ | ⟨h1,m,h2,h3⟩
 ·exact absurd pQ (h1 1)
 ·refine ⟨h1,?_⟩
  rw [h3.len]
  have h4:m≤1:=h2.2 1 pQ
  have h5:m≠0:=fun e=>exL_rz0 h2.1 e rfl
  omega
theorem gL {wa:Option Addr} {wc:Nat}:dO (exA wa wc) [0,1]=0∧dO (exA wa wc) [1]=0:=by
 unfold dO
 rw [oH]
 exact ⟨rfl,rfl⟩
theorem tI (wa:Option Addr) (wc B:Nat) (T:TypeId) (w:World) (hA:NIn w (exA wa wc)) (h:w.heap[B]?=some (.cells #[.int .i64 0,.int .i64 1] T (0,0))):Calls prog 16 #[(exA wa wc).val,.slice (some ⟨B,0,none⟩) 2 2] w (fun e w'=>e = .returned (.tuple #[.bool true,.int .i64 0])∧Below w.heap.size w w'):=by
 refine (iL (exA wa wc) (some ⟨B,0,none⟩) 2 2 [0,1] w hA (.inr ⟨B,0,rfl,fun j hj=>?_⟩) rfl (by decide)).mono ?_
 ·match j,hj with
  | 0,_=>exact aE (cs:=[_,_]) h rfl
  | 1,_=>exact aE (cs:=[_,_]) h rfl
  | j+2,hj=>simp at hj;omega
 ·rintro e w1 ⟨b,rfl,h1,_,hb⟩
  have:=(h1 gL.1).2 tG
  subst this
  rw [gL.1]
  exact ⟨rfl,hb⟩
theorem run1_is (wa:Option Addr) (wc B:Nat) (T:TypeId) (w:World) (hA:NIn w (exA wa wc)) (h:w.heap[B]?=some (.cells #[.int .i64 1] T (0,0))):Calls prog 16 #[(exA wa wc).val,.slice (some ⟨B,0,none⟩) 1 1] w (fun e w'=>e = .returned (.tuple #[.bool false,.int .i64 0])∧Below w.heap.size w w'):=by
 refine (iL (exA wa wc) (some ⟨B,0,none⟩) 1 1 [1] w hA (.inr ⟨B,0,rfl,fun j hj=>?_⟩) rfl (by decide)).mono ?_
 ·match j,hj with
  | 0,_=>exact aE (cs:=[_]) h rfl
  | j+1,hj=>simp at hj
 ·rintro e w1 ⟨b,rfl,h1,_,hb⟩
  have h2:b=false:=by
   cases b with
   | false=>rfl
   | true=>exact absurd ((h1 gL.2).1 rfl) tH
  subst h2
  rw [gL.2]
  exact ⟨rfl,hb⟩
theorem oI (wa:Option Addr) (wc:Nat) (w:World) (hA:NIn w (exA wa wc)):Calls prog 18 #[(exA wa wc).val] w (fun e w'=>∃ (la:Option Addr) (lc:Nat),e = .returned (.tuple #[.slice la 1 lc,.bool true,.int .i64 0])∧Below w.heap.size w w'):=by
 refine (nW (exA wa wc) w hA).mono ?_
 rintro e w1 ⟨ok,l,la,lc,rfl,h1,_,_,hb⟩
 obtain ⟨rfl,h2⟩:=rA h1
 rw [oH,h2]
 exact ⟨la,lc,rfl,hb⟩
theorem rC (L2:List ArV) (n2 n3:Nat) (op:Int) (nm:ByteArray) (ka:Option Addr) (kl kc:Nat) (kids:List ReV) (na:Option Addr) (nc:Nat) (w:World) (hX:ReIn w (.mk op nm ka kl kc kids)) (hF:FitsR (.mk op nm ka kl kc kids) 1 0 n3) (hW:WellM (.mk op nm ka kl kc kids)) (hl:Lay (kS 2) (.mk op nm ka kl kc kids) 0 1 2 [] n2 L2) (hN:sR w na mB) :
  Calls prog 34 #[.agg #[.int .i64 op,.string nm,.slice ka kl kc],.slice na 2 nc] w (fun e w'=>∃ (wa:Option Addr) (wc:Nat),e = .returned (.tuple #[NfV.val ⟨(n2:Int),2,0,1,wa,L2.length,wc,L2⟩,.int .i64 0])∧jF w' wa L2∧Below w.heap.size w w'):=by
 refine bD (args:=[.agg #[.int .i64 op,.string nm,.slice ka kl kc],.slice na 2 nc]) func34 rfl ntmps34 rfl ?_
 have hS:=St.start w
 refine aC (aG (bZ (cs:=[_,_,_]) hS rfl rfl rfl fun B1 W1 hS=>bH (cs:=[_,_,_,_,_]) hS zeroValue24 rfl rfl fun B2 W2 hS=>aB rfl rfl (aF (XF.thenN (aC (aC (aG (aM (vs:=[_,_,_]) isAgg62 sizeOf62 rfl (aK.own (j:=0) (m:=3) (hS.at_ 1 rfl) rfl) rfl (bV (vs:=[_]) hS pO rfl (kI op nm ka kl kc kids n3 _ (hX.keep hS.below) hF hW) rfl fun W3 hS=>aB rfl rfl (aF (XF.thenN (aC (aG (aA rfl rfl (opV (gK (c:=false) rfl rfl (by decide)) rfl (aF (XF.thenN (bT rfl (aO (XF.thenN (aC (aG (aA rfl rfl ?_)))))))))))))))))))))))
 refine eK (vs:=[_]) hS goes_48 rfl (qW na nc _ (fun i s hs=>by obtain ⟨b,off,e,hc⟩:=hN i s hs;exact ⟨b,off,e,hS.old hc⟩)) rfl ?_
 rintro e W4 ⟨MB,rfl,hMs,hlo,hb⟩
 refine ⟨_,rfl,hb,fun hS'=>?_⟩
 clear hS;have hS:=hS';clear hS' hb
 obtain ⟨Km,hM,hS9⟩:∃ Km,bJ w Km (fun W=>MsI MB (kS 2) W)∧St w _ _ Km _:=⟨[(_,_)],tE hMs hlo,hS.keep _ (fun q hq=>by simp at hq;simp [hq])⟩
 clear hS;have hS:=hS9;clear hS9
 refine aA rfl rfl (bB rfl rfl rfl (bB rfl rfl rfl (aB rfl rfl (aB rfl rfl (aF (XF.thenN (aC (aC (aG (aA rfl rfl (cP rfl rfl (aA rfl rfl (aD (d:=23) rfl rfl (aA rfl rfl (aD (d:=23) rfl rfl (bF underlying77 rfl rfl (aD (d:=23) rfl rfl (eG rfl rfl rfl (aW rfl rfl rfl (aF (XF.thenN (bA rfl (fun hc=>?_) (fun hc=>?_)))))))))))))))))))))))
 ·have hc27:=of_decide_eq_true hc;clear hc
  refine aC (aG (dB (us:=[]) rfl (bld_24) rfl (bI (i:=0) (vs:=[_,_,_,_,_]) (cs':=[_,_,_,_,_]) (O':=[_,_]) hS sizeOf24 rfl rfl rfl rfl rfl rfl rfl fun W5 hS=>aB rfl rfl (aF (XF.thenN (bK (XF.thenR (XF.res (rP (vs:=[_,_,_,_,_]) results34 isAgg24 sizeOf24 rfl (aK.own (j:=0) (m:=5) (hS.at_ 0 rfl) rfl) rfl) ?_))))))))
  exfalso;simp at hc27
 ·have hc27:=of_decide_eq_false hc;clear hc
  refine aO (XF.thenN (aC (aG (aM (vs:=[_,_,_]) isAgg62 sizeOf62 rfl (aK.own (j:=0) (m:=3) (hS.at_ 1 rfl) rfl) rfl (aA rfl rfl (aP (vs:=[_,_]) goes_49 rfl (tC MB n2 L2 op nm ka kl kc kids (kS 2) Km _ _ Km w _ (hS.keep Km (fun q hq=>by simp [hq])) (fun q hq=>hq) hM (fun h9 hk9=>hX.keep h9.below) hl) rfl ?_))))))
  rintro e W9 ⟨wa2,wc2,rfl,hS9⟩
  refine ⟨_,rfl,?_⟩
  clear hS;have hS:=hS9;clear hS9
  refine aA rfl rfl (bB rfl rfl rfl (bB rfl rfl rfl (bH (cs:=[_,_,_,_,_]) hS zeroValue24 rfl rfl fun B6 W6 hS=>bI (i:=0) (vs:=[_,_,_,_,_]) (cs':=[_,_,_,_,_]) (O':=[_,_,_]) hS sizeOf24 rfl rfl rfl rfl rfl rfl rfl fun W7 hS=>aB rfl rfl (aF (XF.thenN (aC (aC (aG (aA rfl rfl (cP rfl rfl (aF (XF.thenN (bT rfl (aO (XF.thenN (aC (aG (aM (vs:=[_,_,_,_,_]) isAgg24 sizeOf24 rfl (aK.own (j:=0) (m:=5) (hS.at_ 0 rfl) rfl) rfl (bI (i:=1) (vs:=[_,_,_,_,_]) (cs':=[_,_,_,_,_]) (O':=[_,_,_]) hS sizeOf24 rfl rfl rfl rfl rfl rfl rfl fun W8 hS=>aB rfl rfl (aF (XF.thenN (bK ?_))))))))))))))))))))))
  refine XF.res (rP (vs:=[_,_,_,_,_]) results34 isAgg24 sizeOf24 rfl (aK.own (j:=0) (m:=5) (hS.at_ 1 rfl) rfl) rfl) ?_
  obtain ⟨K8,k8,g8,hS8⟩:=St.rowKeepN (o:=⟨.slice wa2 L2.length wc2,L2.length,L2.flatMap ArV.three⟩) hS
  exact ⟨wa2,wc2,rfl,mW (g8 hS8 (fun q hq=>hq)),hS.below⟩
theorem oJ (w:World) :
  Calls prog 35 #[] w (fun e w'=>∃ B1 B2:Nat,e = .returned (exV B1 B2).val∧ReIn w' (exV B1 B2)∧Below w.heap.size w w'):=by
 refine bD (args:=[]) func35 rfl ntmps35 rfl ?_
 have hS:=St.start w
 refine aC (aG (bH (cs:=[_,_,_]) hS zeroValue62 rfl rfl fun B1 W1 hS=>aF (XF.thenN (aC (aG (dB (us:=[(0,.int .i64 _),(1,.string _)]) rfl (gY _ _) rfl (dB (us:=[(0,.int .i64 _)]) rfl (tD _) rfl (bC (us:=[(0,.agg (List.toArray [_,_,_])),(1,.agg (List.toArray [_,_,_]))]) hS underlying60 sizeOf62 zeroValue62 rfl rfl rfl (pP _ _ _ _ _ _) rfl fun B2 W2 hS=>dB (us:=[(0,.int .i64 _),(2,.slice _ _ _)]) rfl (kJ _ _ _ _) rfl (bH (cs:=[_,_,_]) hS zeroValue62 rfl rfl fun B3 W3 hS=>bI (i:=0) (vs:=[_,_,_]) (cs':=[_,_,_]) (O':=[_,_,_]) hS sizeOf62 rfl rfl rfl rfl rfl rfl rfl fun W4 hS=>aF (XF.thenN (aC (aG (dB (us:=[(0,.int .i64 _),(1,.string _)]) rfl (gY _ _) rfl (aM (vs:=[_,_,_]) isAgg62 sizeOf62 rfl (aK.own (j:=0) (m:=3) (hS.at_ 0 rfl) rfl) rfl (bC (us:=[(0,.agg (List.toArray [_,_,_])),(1,.agg (List.toArray [_,_,_]))]) hS underlying60 sizeOf62 zeroValue62 rfl rfl rfl (pP _ _ _ _ _ _) rfl fun B5 W5 hS=>dB (us:=[(0,.int .i64 _),(2,.slice _ _ _)]) rfl (kJ _ _ _ _) rfl (bI (i:=3) (vs:=[_,_,_]) (cs':=[_,_,_]) (O':=[_,_,_,_]) hS sizeOf62 rfl rfl rfl rfl rfl rfl rfl fun W6 hS=>aF (XF.thenN (bK (XF.res (resC1 (vs:=[_,_,_]) results35 isAgg62 sizeOf62 rfl (aK.own (j:=0) (m:=3) (hS.at_ 3 rfl) rfl)) ?_)))))))))))))))))))
 exact ⟨B2,B5,rfl,exV_in (hS.at_ 2 rfl) (hS.at_ 0 rfl),hS.below⟩
theorem bs_77_2 (v0:ByteArray) (v1:ByteArray):Instr.fill (fun i=>some (i * 1,1)) ((Array.range (2 * 1)).map ((Value.cells (.string ByteArray.empty))[· % (Value.cells (.string ByteArray.empty)).size]!)) [(0,.string v0),(1,.string v1)]=some (List.toArray [.string v0,.string v1]):=by kernel_rfl
theorem jN:aZ prog 16=true:=by kernel_rfl
theorem goes_18:aZ prog 18=true:=by kernel_rfl
theorem goes_34:aZ prog 34=true:=by kernel_rfl
theorem goes_35:aZ prog 35=true:=by kernel_rfl
theorem rD (w:World) :
  Calls prog 15 #[] w (fun e w'=>e = .returned (.bool true)∧Below w.heap.size w w'):=by
 refine bD (args:=[]) func15 rfl ntmps15 rfl ?_
 have hS:=St.start w
 refine aC (aG (aB rfl rfl (aF (XF.thenN (aC (aG (eK (vs:=[]) hS goes_35 rfl (oJ _) rfl ?_)))))))
 rintro e W1 ⟨E1,E2,rfl,hEx,hb⟩
 refine ⟨_,rfl,hb,fun hS'=>?_⟩
 clear hS;have hS:=hS';clear hS'
 have hbE:=hb
 clear hb
 refine bC (us:=[(0,.string _),(1,.string _)]) hS underlying77 sizeOf9 zeroValue9 rfl rfl rfl (bs_77_2 _ _) rfl fun B2 W2 hS=>eK (vs:=[_,_]) hS goes_34 rfl (rC exL 7 5 _ _ _ _ _ _ _ _ _ (hEx.keep (mZ rfl hbE hS.below (hS.since 0 rfl))) (tA E1 E2) (tB E1 E2) (exV_lay E1 E2) (nmAB_in (hS.at_ 0 rfl))) rfl ?_
 rintro e W8 ⟨wa,wc,rfl,hAr,hb⟩
 refine ⟨_,rfl,hb,fun hS'=>?_⟩
 clear hS;have hS:=(hS'.tail).mark 0 (fun p hp=>by cases hp) rfl;clear hS' hb
 have hNin:NIn W8 (exA wa wc):=⟨hAr,rfl,by show 7≤_;decide⟩
 refine aA rfl rfl (bB rfl rfl rfl (bB rfl rfl rfl (bH (cs:=[_,_,_,_,_]) hS zeroValue24 rfl rfl fun B3 W3 hS=>bI (i:=0) (vs:=[_,_,_,_,_]) (cs':=[_,_,_,_,_]) (O':=[_]) hS sizeOf24 rfl rfl rfl rfl rfl rfl rfl fun W4 hS=>aB rfl rfl (aF (XF.thenN (aC (aG (aM (vs:=[_,_,_,_,_]) isAgg24 sizeOf24 rfl (aK.own (j:=0) (m:=5) (hS.at_ 0 rfl) rfl) rfl (bC (us:=[(0,.int .i64 _),(1,.int .i64 _)]) hS underlying25 sizeOf3 zeroValue3 rfl rfl rfl (bs_25_2 _ _) rfl fun B5 W5 hS=>bV (vs:=[_,_]) hS jN rfl (tI wa wc _ _ _ (hNin.agree (hS.since 0 rfl)) (hS.at_ 0 rfl)) rfl fun W6 hS=>aA rfl rfl (bB rfl rfl rfl (bB rfl rfl rfl (aB rfl rfl (aB rfl rfl (aF (XF.thenN (aC (aG (aM (vs:=[_,_,_,_,_]) isAgg24 sizeOf24 rfl (aK.own (j:=0) (m:=5) (hS.at_ 1 rfl) rfl) rfl (bC (us:=[(0,.int .i64 _)]) hS underlying25 sizeOf3 zeroValue3 rfl rfl rfl (dM _) rfl fun B7 W7 hS=>bV (vs:=[_,_]) hS jN rfl (run1_is wa wc _ _ _ (hNin.agree (hS.since 1 rfl)) (hS.at_ 0 rfl)) rfl fun W8 hS=>?_)))))))))))))))))))
 refine aA rfl rfl (bB rfl rfl rfl (bB rfl rfl rfl (aB rfl rfl (aB rfl rfl (aF (XF.thenN (aC (aG (aM (vs:=[_,_,_,_,_]) isAgg24 sizeOf24 rfl (aK.own (j:=0) (m:=5) (hS.at_ 2 rfl) rfl) rfl (eK (vs:=[_]) hS goes_18 rfl (oI wa wc _ (hNin.agree (hS.since 2 rfl))) rfl ?_))))))))))
 rintro e W9 ⟨la,lc,rfl,hb⟩
 refine ⟨_,rfl,hb,fun hS'=>?_⟩
 clear hS;have hS:=hS';clear hS' hb
 refine aA rfl rfl (bB rfl rfl rfl (bB rfl rfl rfl (bB rfl rfl rfl (aB rfl rfl (aB rfl rfl (aB rfl rfl (aF (XF.thenN (aC (aG (aA rfl rfl (opV (aU (c:=true) rfl rfl (by decide)) rfl (aA rfl rfl (aD (d:=36) rfl rfl (aA rfl rfl (aD (d:=36) rfl rfl (opV (aU (c:=true) rfl rfl (by decide)) rfl (aR rfl rfl rfl (aA rfl rfl (aD (d:=40) rfl rfl (aA rfl rfl (aD (d:=40) rfl rfl ?_))))))))))))))))))))))
 refine opV (aU (c:=true) rfl rfl (by decide)) rfl (aR rfl rfl rfl (aA rfl rfl (aD (d:=44) rfl rfl (aA rfl rfl (aD (d:=44) rfl rfl (opV (aU (c:=true) rfl rfl (by decide)) rfl (aR rfl rfl rfl (aA rfl rfl (aD (d:=48) rfl rfl (aA rfl rfl (aR rfl rfl rfl (aA rfl rfl (aD (d:=51) rfl rfl (aA rfl rfl (aD (d:=51) rfl rfl (cP rfl rfl (aR rfl rfl rfl (aA rfl rfl (aD (d:=55) rfl rfl (aA rfl rfl ?_))))))))))))))))))))
 refine aR rfl rfl rfl (aA rfl rfl (aD (d:=58) rfl rfl (aA rfl rfl (aD (d:=58) rfl rfl (bF underlying25 rfl rfl (aD (d:=58) rfl rfl (opV (aU (c:=true) rfl rfl (by decide)) rfl (aR rfl rfl rfl (aB rfl rfl (aF (XF.thenN (bK (XF.res (bY results15 rfl) ?_)))))))))))))
 exact ⟨rfl,hS.below⟩
section
variable {P:Program} {n:Nat} {ops:Array Oper} {Q:Exit→Act→World→Prop} {S:World→Prop} {l:Fr} {W:World} {d:Nat} {op:Op} {ty:TypeId} {pos:String} {aft:Array Edge} {v:Value}
def fL (P:Program) (n:Nat) (ops:Array Oper) (Q:Exit→Act→World→Prop) (S:World→Prop) (fuel:Nat) (L:Array Bool) (l:Fr) (W:World):Prop:=∀ a,Has n l a→wpAnyH P .any ops Q S fuel L a W
theorem lA {id:Nat} (S:World→Prop) (hm:P.follows .mixedOrders=true) (h:fL P n ops Q S ops.size (Array.replicate ops.size false) l W.drew):cQ P n (.region id ops true) Q l W:=fun a ha=>wp_region_held hm (h a ha)
theorem bN {fuel:Nat} {L:Array Bool} (i:Nat) (hi:ops[i]?=some ⟨some d,op,ty,pos,aft,none⟩) (hs:Region.noSelect ops=true) (hf:Region.free .any ops L i=true) (hr:(Region.ready .any ops L).contains i=true)
  (hQ:∀ c (a:Act) w (v:Value),Q (.panic c) (a.put (some d) v) w→Q (.panic c) a w) (hW:S W) (hrun:∀ W',S W'→cE P l ⟨some d,op,ty,pos,aft,none⟩ W' v W') (hd:Nat.blt d n=true)
  (h:fL P n ops Q S fuel (L.setIfInBounds i true) ((d,v)::l) W):fL P n ops Q S (fuel+1) L l W:=fun a ha =>
 wpAnyH_take hi hs hf hr (fun c a w=>hQ c a w v) (.inl ⟨rfl,fun w hw=>hrun w hw a.eval ha.ev⟩) hW (h _ (ha.put hd))
theorem cM {fuel g dg:Nat} {b:Bool} {L:Array Bool} (i:Nat) (hi:ops[i]?=some ⟨some d,op,ty,pos,aft,some (g,b)⟩) (hg:(ops[g]?).bind (·.dst)=some dg) (hv:look l dg=some (.bool b)) (hs:Region.noSelect ops=true) (hf:Region.free .any ops L i=true) (hr:(Region.ready .any ops L).contains i=true)
  (hQ:∀ c (a:Act) w (v:Value),Q (.panic c) (a.put (some d) v) w→Q (.panic c) a w) (hW:S W) (hrun:∀ W',S W'→cE P l ⟨some d,op,ty,pos,aft,none⟩ W' v W') (hd:Nat.blt d n=true)
  (h:fL P n ops Q S fuel (L.setIfInBounds i true) ((d,v)::l) W):fL P n ops Q S (fuel+1) L l W:=fun a ha =>
 wpAnyH_take hi hs hf hr (fun c a w=>hQ c a w v) (.inl ⟨by rw [dU (ops:=ops) rfl hg (ha.at_ dg _ hv)];simp,fun w hw=>hrun w hw a.eval ha.ev⟩) hW (h _ (ha.put hd))
theorem cZ {fuel g dg:Nat} {b c:Bool} {L:Array Bool} (i:Nat) (hi:ops[i]?=some ⟨some d,op,ty,pos,aft,some (g,b)⟩) (hg:(ops[g]?).bind (·.dst)=some dg) (hv:look l dg=some (.bool c)) (hc:(c == b)=false) (hs:Region.noSelect ops=true) (hf:Region.free .any ops L i=true) (hr:(Region.ready .any ops L).contains i=true)
  (hQ:∀ c (a:Act) w (v:Value),Q (.panic c) (a.put (some d) v) w→Q (.panic c) a w) (hW:S W) (hd:Nat.blt d n=true)
  (h:fL P n ops Q S fuel (L.setIfInBounds i true) ((d,undef)::l) W):fL P n ops Q S (fuel+1) L l W:=fun a ha =>
 wpAnyH_take hi hs hf hr (fun c a w=>hQ c a w undef) (.inr ⟨by rw [dU (ops:=ops) rfl hg (ha.at_ dg _ hv)];exact hc,rfl⟩) hW (h _ (ha.put hd))
theorem eS {fuel:Nat} {L:Array Bool} {W':World} (i:Nat) (hi:ops[i]?=some ⟨some d,op,ty,pos,aft,none⟩) (hr:Region.ready .any ops L=[i]) (hrun:cE P l ⟨some d,op,ty,pos,aft,none⟩ W v W') (hW:S W') (hd:Nat.blt d n=true)
  (h:fL P n ops Q S fuel (L.setIfInBounds i true) ((d,v)::l) W'):fL P n ops Q S (fuel+1) L l W:=fun a ha =>
 wpAnyH_all hr (by simp) fun j hj=>by
  obtain rfl:j=i:=by simpa using hj
  unfold wpOp
  rw [hi]
  refine .inl ?_
  unfold Oper.wp
  rw [hrun a.eval ha.ev]
  exact ⟨hW,h _ (ha.put hd)⟩
theorem pR {fuel:Nat} {L:Array Bool} {f:FuncId} {args:Array Operand} {ts:Array TypeId} {vs:List Value} {R:Ending→World→Prop} (i:Nat) (hi:ops[i]?=some ⟨some d,.call { callee:=.value (.func f),args:=args,argTypes:=ts },ty,pos,aft,none⟩) (hr:Region.ready .any ops L=[i])
  (hgo:aZ P f=true) (ha:args.toList.map (evL l)=vs.map some) (hc:Calls P f vs.toArray W R) (hd:Nat.blt d n=true)
  (h:∀ e W',R e W'→∃ v,e = .returned v∧S W'∧fL P n ops Q S fuel (L.setIfInBounds i true) ((d,v)::l) W'):fL P n ops Q S (fuel+1) L l W:=fun a hl =>
 wpAnyH_all hr (by simp) fun j hj=>by
  obtain rfl:j=i:=by simpa using hj
  unfold wpOp
  rw [hi]
  refine .inl ?_
  unfold Oper.wp
  rw [jQ P a.eval W f args ts _ rfl rfl hgo,Oper.upon_enter]
  have hargs:args.map a.eval=vs.toArray:=by
   have key:∀ (xs:List Operand) (us:List Value),xs.map (evL l)=us.map some→xs.map a.eval=us:=by
    intro xs
    induction xs with
    | nil=>intro us h;cases us<;>simp at h ⊢
    | cons x xs ih =>
     intro us h
     cases us with
     | nil=>simp at h
     | cons u us =>
      simp only [List.map_cons,List.cons.injEq] at h
      simp only [List.map_cons,hl.ev x u h.1,ih us h.2]
   apply Array.ext'
   rw [Array.toList_map,key _ _ ha]
  rw [hargs]
  refine hc.mono ?_
  intro e W' hRe
  obtain ⟨v,rfl,hW,hn⟩:=h e W' hRe
  exact ⟨hW,hn _ (hl.put hd)⟩
theorem iW {fuel:Nat} {L:Array Bool} (hr:Region.ready .any ops L=[]) (h:XF Q .normal n l W):fL P n ops Q S fuel L l W:=fun a ha=>wpAnyH_done hr (h a ha) fuel
end
def iX (W:World):World→Prop:=fun w=>Below W.heap.size W w
theorem pS:aZ prog 10=true:=by kernel_rfl
theorem goes_15:aZ prog 15=true:=by kernel_rfl
theorem tJ:aZ prog 8=true:=by kernel_rfl
theorem lB {w:World} {lo n c:Nat} {e:TypeId} {a:Option Addr} {zs:List Int} (h:w.ownsRow lo e 1 (.slice a n c) n (zI zs)):Row w a zs:=by
 rcases eR h with ⟨h1,h0⟩ | ⟨b,h1,_,h3⟩
 ·left
  have h5:=h.1
  rw [fY] at h5
  exact List.eq_nil_of_length_eq_zero (by omega)
 ·obtain rfl:a=some ⟨b,0,none⟩:=h1
  refine .inr ⟨b,0,rfl,fun j hj=>?_⟩
  rw [Nat.zero_add]
  exact h3 j _ (by have:=iE (l:=zs) hj;rwa [Nat.zero_add,Nat.mul_one] at this)
section
variable {L:List ArV} {R:Nat→Prop} {d t lo:Nat} {ty:TypeId} {pos:String}
end
theorem rE (a:NfV) (la:Option Addr) (ll lc:Nat) (ls:List Int) (x:Int) (h9:qK a x ls=0) (Kt:List (Nat×World)) (Ot:Own) (G:aQ) (K:List (Nat×World)) (w0 w:World) (hS0:St w0 Ot G K w) (hKt:∀ q∈Kt,q∈K) (hA:bJ w0 Kt (fun W=>NIn W a)) (hLs:bJ w0 Kt (fun W=>Row W la ls)) (hll:ls.length=ll) (hlm:ll≤9223372036854775807) :
  Calls prog 10 #[a.val,.int .i64 x,.slice la ll lc] w (fun e w'=>∃ (l:List Nat) (wa:Option Addr) (wc:Nat) (Kn:List (Nat×World)),IsH a.ar (By9 a.ar x (Hd a.ar (fun q:Nat=>(q:Int)∈ls))) l∧l.length≤4096∧e = .returned (.tuple #[.slice wa l.length wc,.int .i64 0])∧St w0 Ot (⟨.slice wa l.length wc,l.length,zI (nI l),3,1⟩::G) Kn w'):=by
 refine bD (args:=[a.val,.int .i64 x,.slice la ll lc]) func10 rfl ntmps10 rfl ?_
 have hS:=hS0
 refine aC (aG (bZ (cs:=[_,_,_,_,_]) hS rfl rfl rfl fun B1 W1 hS=>aB rfl rfl (aB rfl rfl (aF (XF.thenN (aC (aC (aG (aM (vs:=[_,_,_,_,_]) isAgg24 sizeOf24 rfl (aK.own (j:=0) (m:=5) (hS.at_ 0 rfl) rfl) rfl (aA rfl rfl (aP (vs:=[_,_]) pG rfl (kB a la ll lc ls _ (hA (hS.keep K (fun q hq=>by simp [hq])) hKt) (hLs (hS.keep K (fun q hq=>by simp [hq])) hKt) hll hlm) rfl ?_)))))))))))
 rintro e W9 ⟨rfl,hb9⟩
 refine ⟨_,rfl,?_⟩
 have hS':=hS.grow hb9;clear hS;have hS:=hS';clear hS'
 refine aB rfl rfl (aF (XF.thenN (aC (aG (aA rfl rfl (fB rfl rfl rfl (aF (XF.thenN (bA rfl (fun hc=>?_) (fun hc=>?_))))))))))
 ·have hc14:=of_decide_eq_true hc;clear hc
  refine aC (aG (aA rfl rfl (aB rfl rfl (aB rfl rfl (aF (XF.thenN (bK (XF.thenR (XF.res (kM results10 rfl rfl) ?_)))))))))
  exact absurd (by unfold qK at h9;rw [if_pos hc14] at h9;exact h9) hc14
 ·have hc14:=of_decide_eq_false hc;clear hc
  refine aO (XF.thenN (aC (aC (aG (aM (vs:=[_,_,_,_,_]) isAgg24 sizeOf24 rfl (aK.own (j:=0) (m:=5) (hS.at_ 0 rfl) rfl) rfl (aA rfl rfl (bV (vs:=[_,_]) hS pH rfl (kY a x _) rfl fun W2 hS=>cP rfl rfl (aF (XF.thenN (bA rfl (fun hc=>?_) (fun hc=>?_)))))))))))
  ·have hc19:=hc;clear hc
   refine aC (aG (aB rfl rfl (aB rfl rfl (aF (XF.thenN (bK (XF.thenR (XF.res (kM results10 rfl rfl) ?_))))))))
   exact absurd h9 (by unfold qK;rw [if_neg hc14,if_neg (by simpa using hc19)];decide)
  ·have hc19:=hc;clear hc
   have h0:cR a ls=0:=Decidable.of_not_not hc14
   obtain ⟨n,k,s,e9,hn,hk,hs0,he0,hn1,hn4,hk4,hsn,hen,hal,hO⟩:=gG (eY h0).1
   have hlen:=(hA (hS.keep K (fun q hq=>by simp [hq])) hKt).alen
   have hw1:IntKind.i64.wrap (0+1)=1:=by decide
   refine aO (XF.thenN (aC (aG (aM (vs:=[_,_,_,_,_]) isAgg24 sizeOf24 rfl (aK.own (j:=0) (m:=5) (hS.at_ 0 rfl) rfl) rfl (aP (vs:=[_]) iH rfl (iG a n (k:Int) Kt _ _ K w0 _ (hS.keep K (fun q hq=>by simp [hq])) hKt hA hn hn1 hn4 hal hO) rfl ?_)))))
   rintro e W9 ⟨RB,SB,OB,va,vc,K1,rfl,hk1,hOut,hS9⟩
   refine ⟨_,rfl,?_⟩
   clear hS;have hS:=hS9;clear hS9
   refine aB rfl rfl (aF (XF.thenN (aC (aG (aA rfl rfl (aA rfl rfl (aA rfl rfl (aA rfl rfl ?_))))))))
   refine aP (vs:=[_,_]) fG rfl (eE n a.ar OB va vc RB SB 0 1 (List.replicate n 0) la ll lc ls K1 _ G K1 w0 _ (hS.keep K1 (fun q hq=>by simp [hq])) (fun q hq=>hq) hOut (hLs.moreN (fun q hq=>hk1 q (hKt q hq))) hll hlm (fun y hy=>(by have:=(eY h0).2 y hy;omega)) (kR hO) (by omega) (by simp) hw1 (iU (by decide)) hn4) rfl ?_
   rintro e W9 ⟨l1,wa1,wc1,ss1,K2,hH1,rfl,hle1,hsl1,hsf1,hk2,hR1,hS9⟩
   refine ⟨_,rfl,?_⟩
   clear hS;have hS:=hS9;clear hS9
   refine aP (vs:=[_,_,_]) lU rfl (iT n a.ar OB va vc RB SB 1 2 ss1 wa1 l1.length wc1 l1 x K2 _ G K2 w0 _ (hS.keep K2 (fun q hq=>by simp [hq])) (fun q hq=>hq) (hOut.moreN hk2) hR1 rfl hle1 (fun p hp=>(jT hO (fun q hq=>(by have:=(eY h0).2 _ hq;omega)) ((hH1.at_ p).1 hp))) (kR hO) (by omega) hsl1 (by decide) (fun y hy=>(hsf1 y hy).elim (fun h=>iU (by decide) y h) (fun h=>by rw [h];decide)) hn4) rfl ?_
   rintro e W9 ⟨l2,wa2,wc2,ss2,K3,hH2,rfl,hle2,hsl2,hsf2,hk3,hS9⟩
   refine ⟨_,rfl,?_⟩
   clear hS;have hS:=hS9;clear hS9
   refine aB rfl rfl (aB rfl rfl (aF (XF.thenN (bK (XF.res (kM results10 rfl rfl) ?_)))))
   exact ⟨l2,wa2,wc2,K3,hH2.congr (gB hH1.at_),by omega,rfl,(hS.keep K3 (fun q hq=>by simp [hq])).tail.tail.tail⟩
theorem rF {w:World} {a:Option Addr} {zs:List Int} {k:Nat} (h:Row w a zs):Row w a (zs.take k):=by
 rcases h with rfl | ⟨b,off,rfl,h⟩
 ·left;simp
 ·refine .inr ⟨b,off,rfl,fun i hi=>?_⟩
  have hi2:i < zs.length∧i < k:=by rw [List.length_take] at hi;omega
  rw [h i hi2.1]
  simp [hi2.1,hi2.2,List.getElem?_take]
theorem lC (a:NfV) (la:Option Addr) (lc:Nat) (lp:List Nat) (x:Int) (w:World) (hA:NIn w a) (hL:Row w la (nI lp)) (hl:lp.length≤4096) (he:qK a x (nI lp)=0) :
  Calls prog 10 #[a.val,.int .i64 x,.slice la lp.length lc] w (fun e w'=>∃ (l:List Nat) (wa:Option Addr) (wc:Nat),e = .returned (.tuple #[.slice wa l.length wc,.int .i64 0])∧IsH a.ar (By9 a.ar x (Hd a.ar (fun q=>q∈lp))) l∧l.length≤4096∧w'.ownsRow w.heap.size 3 1 (.slice wa l.length wc) l.length (zI (nI l))∧Below w.heap.size w w'):=by
 refine (rE a la lp.length lc (nI lp) x he [] [] [] [] w w (St.start w) (fun q hq=>hq) (kF hA) (fun h9 _=>hL.below h9.below) dP (by omega)).mono ?_
 rintro e w1 ⟨l,wa,wc,Kn,h1,h2,rfl,hS⟩
 have hm:∀ q:Nat,(q:Int)∈nI lp↔q∈lp:=fun q=>by
  unfold nI
  rw [List.mem_map]
  constructor
  ·rintro ⟨z,hz,e⟩
   obtain rfl:z=q:=Int.ofNat.inj e
   exact hz
  ·exact fun h=>⟨q,h,rfl⟩
 exact ⟨l,wa,wc,rfl,h1.congr (gB (dC hm)),h2,hS.row 0 rfl,hS.below⟩
theorem pT {L:List ArV} {P:Nat→Prop} {ws:List Int} (q:Nat):Hd L (dV L (Hd L P) ws) q↔dV L (Hd L P) ws q:=by
 refine ⟨fun h=>?_,.base⟩
 rcases List.eq_nil_or_concat ws with rfl | ⟨u,x,rfl⟩
 ·exact Hd.idem h
 ·rw [List.concat_eq_append,runNP_snoc] at h ⊢
  exact Hd.idem h
theorem pU {a:NfV} {lp:List Nat} {x:Int} {n:Nat} (h0:dH a=0) (hn:a.st=(n:Int)) (hlt:∀ q∈lp,q < n) (hx:inQ x a.sy=true):qK a x (nI lp)=0:=by
 have h1:cR a (nI lp)=0:=by
  unfold cR
  rw [if_neg (fun h=>h h0),if_pos (List.all_eq_true.2 fun y hy=>by
   obtain ⟨q,hq,rfl⟩:=List.mem_map.1 hy
   have:=hlt q hq
   unfold inQ
   simp;omega)]
 unfold qK
 rw [if_neg (fun h=>h h1),if_pos hx]
theorem pV {a:NfV} {ws:List Int} (hr:dO a ws=0) (h0:dH a=0) {i:Nat} {y:Int} (hy:ws[i]?=some y):inQ y a.sy=true:=by
 unfold dO at hr
 rw [if_neg (fun h=>h h0)] at hr
 split at hr
 ·rename_i h1
  exact List.all_eq_true.1 h1 y (List.mem_of_getElem? hy)
 ·cases hr
theorem pW {a:NfV} {ws:List Int} (hr:dO a ws=0):dH a=0:=by
 unfold dO at hr
 split at hr
 ·rename_i h;exact absurd hr h
 ·rename_i h;exact Decidable.of_not_not h
theorem tK {lp:List Nat} {j:Nat} {z:Int} (h:(nI lp)[j]?=some z):∃ q,lp[j]?=some q∧z=(q:Int):=by
 unfold nI at h
 rw [List.getElem?_map] at h
 cases hq:lp[j]? with
 | none=>rw [hq] at h;cases h
 | some q=>rw [hq] at h;exact ⟨q,rfl,(Option.some.inj h).symm⟩
theorem kT (a:NfV) (wa:Option Addr) (wl wc:Nat) (ws:List Int) (w:World) (hA0:NIn w a) (hW0:Row w wa ws∧ws.length=wl∧wl≤wc∧wl≤9223372036854775807) :
  Calls prog 6 #[a.val,.slice wa wl wc] w (fun e w'=>e = .returned (.bool true)∧Below w.heap.size w w'):=by
 refine bD (args:=[a.val,.slice wa wl wc]) func6 rfl ntmps6 rfl ?_
 have hS:=St.start w
 obtain ⟨hW,hwl,hwc,hwm⟩:=hW0
 refine aC (aG (bZ (cs:=[_,_,_,_,_]) hS rfl rfl rfl fun B1 W1 hS=>aB rfl rfl (aF (XF.thenN (aC (aC (aG (bV (vs:=[]) hS goes_15 rfl (rD _) rfl fun W2 hS=>cP rfl rfl (aF (XF.thenN (bT rfl (aO (XF.thenN (aC (aC (aG (aA rfl rfl (bF underlying25 rfl rfl (eG rfl rfl rfl (aF (XF.thenN (bA rfl (fun hc=>?_) (fun hc=>?_)))))))))))))))))))))))
 ·have hc16:=of_decide_eq_true hc;clear hc
  obtain ⟨bw,ow,yw,hwa,_,_⟩:=hW.at1 (show 0 < ws.length by omega)
  have hU:Row w wa (ws.take 60):=rF hW
  have hUl:(ws.take 60).length=60:=by rw [List.length_take];omega
  refine aG (aA rfl rfl (jZ (k:=60) underlying25 sizeOf3 rfl rfl rfl (by omega) (by omega) (fun p hp=>⟨bw,ow,Option.some.inj (hp.symm.trans hwa)⟩) rfl (aB rfl rfl (aF (XF.thenN (aC (aG (aM (vs:=[_,_,_,_,_]) isAgg24 sizeOf24 rfl (aK.own (j:=0) (m:=5) (hS.at_ 0 rfl) rfl) rfl (aA rfl rfl (eK (vs:=[_,_]) hS jN rfl (iL a wa 60 wc (ws.take 60) _ (hA0.below hS.below) (hU.below hS.below) hUl (by omega)) rfl ?_))))))))))
  rintro e W3 ⟨b,rfl,hb1,hb2,hb⟩
  refine ⟨_,rfl,hb,fun hS'=>?_⟩
  clear hS;have hS:=hS';clear hS' hb
  refine aA rfl rfl (bB rfl rfl rfl (bB rfl rfl rfl (aB rfl rfl (aB rfl rfl (aF (XF.thenN (aC (aC (aG (aA rfl rfl (fB rfl rfl rfl (aF (XF.thenN (bA rfl (fun hc=>?_) (fun hc=>?_)))))))))))))))
  ·have hc26:=of_decide_eq_true hc;clear hc
   refine aC (aG (aA rfl rfl (cP rfl rfl (aB rfl rfl (aF (XF.thenN (bK (XF.thenR (XF.res (bY results6 rfl) ?_)))))))))
   obtain rfl:=hb2 (by simpa using hc26)
   exact ⟨rfl,hS.below⟩
  ·have hc26:=of_decide_eq_false hc;clear hc
   have hr0:dO a (ws.take 60)=0:=by simpa using hc26
   have h0:=pW hr0
   obtain ⟨n,k,s,e9,hn,hk,hs0,he0,hn1,hn4,hk4,hsn,hen,hal,hO⟩:=gG h0
   have hse:cR a [a.s0]=0:=by
    unfold cR
    rw [if_neg (fun h=>h h0),if_pos (List.all_eq_true.2 fun y hy=>by
     obtain rfl:y=a.s0:=by simpa using hy
     unfold inQ
     simp;omega)]
   refine aO (XF.thenN (aC (aG (aM (vs:=[_,_,_,_,_]) isAgg24 sizeOf24 rfl (aK.own (j:=0) (m:=5) (hS.at_ 0 rfl) rfl) rfl (aH (o':=2) dN rfl rfl rfl (aI isAgg3 rfl (aE (hS.at_ 0 rfl) rfl) rfl (bC (us:=[(0,.int .i64 _)]) hS underlying25 sizeOf3 zeroValue3 rfl rfl rfl (dM _) rfl fun B4 W4 hS=>?_)))))))
   obtain ⟨K2,k2,g2,hS2⟩:=(hS.keep [] (fun q hq=>by cases hq)).ownKeepN
   clear hS;have hS:=hS2;clear hS2
   refine aP (vs:=[_,_]) tJ rfl (kE a (some ⟨B4,0,none⟩) 1 1 [a.s0] K2 _ [] K2 w _ hS (fun q hq=>hq) (fun h9 hk9=>hA0.below h9.below) (fun h9 hk9=>.inr ⟨_,0,rfl,fun j hj=>by obtain rfl:j=0:=(by simpa using hj);exact aE (g2 h9 hk9) rfl⟩) rfl (by decide)) rfl ?_
   rintro e W9 ⟨l1,wa1,wc1,K1,hx1,hy1,rfl,hk1,hR1,hS9⟩
   refine ⟨_,rfl,?_⟩
   clear hS;have hS:=hS9;clear hS9
   refine aA rfl rfl (bB rfl rfl rfl (bB rfl rfl rfl (aB rfl rfl (aB rfl rfl (aF (XF.thenN (aC (aC (aG (aB rfl rfl (aF (XF.thenN (aL ?_)))))))))))))
   refine cD (fun m l W=>∃ (i:Nat) (lp:List Nat) (la:Option Addr) (lc:Nat) (Kk:List (Nat×World)),i≤60∧m=60 - i∧l=[(1,.slice wa 60 wc),(2,.pointer (some ⟨B1,0,none⟩)),(5,.bool b),(7,.slice la lp.length lc),(8,.int .i64 0),(9,.int .i64 (i:Int))]∧(∀ q:Nat,q∈lp↔dV a.ar (Hd a.ar (fun q:Nat=>(q:Int)=a.s0)) ((ws.take 60).take i) q)∧lp.length≤4096∧bJ w Kk (fun W=>Row W la (nI lp))∧St w [(B1,a.cells,24)] [] Kk W) (60 - 0) ([(1,_),(2,_),(5,_),(7,_),(8,_),(9,_)]) ⟨rfl,rfl,rfl,rfl,rfl,rfl,trivial⟩ (⟨0,l1,wa1,wc1,K1,Nat.zero_le _,rfl,by rw [hse];rfl,fun q=>by rw [(hx1 hse).1.at_];exact dC (fun q=>by simp) q,(hx1 hse).2,hR1,hS.keep K1 (fun q hq=>by simp [hq])⟩) ?_
   clear hS
   clear hx1 hR1 hk1 hy1
   rintro m l W ⟨i,lp,la,lc,Kk,hi,rfl,rfl,hmem,hlpl,hRl,hS⟩
   refine aC (aC (aG (aA rfl rfl (aA rfl rfl (bF underlying25 rfl rfl (bG rfl rfl rfl (aA rfl rfl (bM (d:=41) rfl (fun hc=>?_) (fun hc=>?_)))))))))
   ·have hg41:=of_decide_eq_true hc;clear hc
    have hi9:(i:Int) < (60:Int):=by simpa using hg41
    refine aD (d:=41) rfl rfl (aA rfl rfl (aD (d:=41) rfl rfl (opV (aU (c:=true) rfl rfl (by decide)) rfl (aR rfl rfl rfl (aF (XF.thenN (cT rfl (aO (XF.thenN (aC (aL ?_)))))))))))
    obtain ⟨b8,off,y,hwa9,hy,hyc⟩:=hU.at1 (show i < (ws.take 60).length by omega)
    have k9:=hS.old hyc
    have hlt:∀ q∈lp,q < n:=fun q hq=>iK hO _ (fun q h=>jT hO (fun q h2=>by omega) h) q ((hmem q).1 hq)
    have hnst:=pU h0 hn hlt (pV hr0 h0 hy)
    have hS9:=hS.keep Kk (fun q hq=>by simp [hq])
    clear hS;have hS:=hS9;clear hS9
    have hSd:=hS.drew
    refine lA (iX W.drew) cL ?_
    show fL _ _ _ _ _ 12 _ _ _
    refine bN 0 rfl (by kernel_rfl) (by kernel_rfl) (by kernel_rfl) (fun _ _ _ _ h=>h) (Below.refl _ _) (fun W9 h9=>fP (vs:=[_,_,_,_,_]) isAgg24 sizeOf24 rfl (aK.own (j:=0) (m:=5) ((hSd.grow h9).at_ 0 rfl) rfl)) rfl (bN 1 rfl (by kernel_rfl) (by kernel_rfl) (by kernel_rfl) (fun _ _ _ _ h=>h) (Below.refl _ _) (fun W9 h9=>bL rfl) rfl (bN 2 rfl (by kernel_rfl) (by kernel_rfl) (by kernel_rfl) (fun _ _ _ _ h=>h) (Below.refl _ _) (fun W9 h9=>bL rfl) rfl ?_))
    refine bN 3 rfl (by kernel_rfl) (by kernel_rfl) (by kernel_rfl) (fun _ _ _ _ h=>h) (Below.refl _ _) (fun W9 h9=>cI (j:=i) (b:=b8) (o:=off) (m:=_) (c:=wc) underlying25 sizeOf3 (by show some (Value.slice _ _ _)=_;rw [hwa9]) rfl rfl (by omega) rfl) rfl ?_
    refine bN 4 rfl (by kernel_rfl) (by kernel_rfl) (by kernel_rfl) (fun _ _ _ _ h=>h) (Below.refl _ _) (fun W9 h9=>bE isAgg3 rfl ((hSd.grow h9).old hyc)) rfl (eS 5 rfl (by kernel_rfl) (bL rfl) (Below.refl _ _) rfl (pR (vs:=[_,_,_]) 6 rfl (by kernel_rfl) pS rfl (lC a la lc lp y W.drew (hA0.below hSd.below) (hRl hSd (fun q hq=>hq)) hlpl hnst) rfl ?_))
    rintro e W9 ⟨l2,wa2,wc2,rfl,hH2,hle2,hrow2,hb9⟩
    refine ⟨_,rfl,hb9,?_⟩
    refine eS 7 rfl (by kernel_rfl) (bL rfl) hb9 rfl (bN 8 rfl (by kernel_rfl) (by kernel_rfl) (by kernel_rfl) (fun _ _ _ _ h=>h) hb9 (fun W9 h9=>dI rfl rfl) rfl (bN 9 rfl (by kernel_rfl) (by kernel_rfl) (by kernel_rfl) (fun _ _ _ _ h=>h) hb9 (fun W9 h9=>dI rfl rfl) rfl (bN 10 rfl (by kernel_rfl) (by kernel_rfl) (by kernel_rfl) (fun _ _ _ _ h=>h) hb9 (fun W9 h9=>cH rfl) rfl (eS 11 rfl (by kernel_rfl) (cH rfl) hb9 rfl (iW (by kernel_rfl) ?_)))))
    have hS9:=(hSd.grow hb9).mark W.drew.heap.size hSd.own_lt rfl
    have hR2:bJ w ((W.drew.heap.size,W9)::Kk) (fun W=>Row W wa2 (nI l2)):=fun h9 hk9=>lB (gP hrow2 (h9.kept _ (hk9 _ List.mem_cons_self)).1)
    obtain ⟨Kz,hKz⟩:∃ Kz,Kz=(W.drew.heap.size,W9)::Kk:=⟨_,rfl⟩
    rw [← hKz] at hR2 hS9
    clear hS;have hS:=hS9;clear hS9
    refine XF.blkN (XF.thenN (aG (aA rfl rfl (aV rfl rfl (IntWalk.i64_in _ (by omega)) rfl (aB rfl rfl (aF ?_))))))
    exact XF.round (60 - (i+1)) [(1,_),(2,_),(5,_),(7,_),(8,_),(9,_)] (by omega) ⟨rfl,rfl,rfl,rfl,rfl,rfl,trivial⟩ ⟨i+1,l2,wa2,wc2,Kz,by omega,rfl,rfl,fun q=>(by
     rw [hH2.at_,List.take_add_one,hy]
     show _↔dV a.ar _ ((ws.take 60).take i++[y]) q
     rw [runNP_snoc]
     exact dC (gB (fun q=>(dC hmem q).trans (pT q))) q),hle2,hR2,hS.keep Kz (fun q hq=>by simp [hq])⟩
   ·have hg41:=of_decide_eq_false hc;clear hc
    have hi9:i=60:=by
     have h9:=Int.not_lt.1 (show ¬ (i:Int) < (60:Int) from (by simpa using hg41))
     omega
    subst hi9
    rw [List.take_of_length_le (by omega)] at hmem
    refine aJ (d:=41) rfl rfl rfl rfl (aJ (d:=41) rfl rfl rfl rfl (aW rfl rfl rfl (aF (XF.thenN (bT rfl (bS (XF.thenX (XF.thenX (XF.blkX (XF.thenN (aC (aG (aB rfl rfl (aF (XF.thenN (aC (aC (aG (aB rfl rfl (aF (XF.thenN (aL (cD (fun m l W=>∃ (j:Nat) (at9:Bool),j≤lp.length∧m=lp.length - j∧l=[(2,.pointer (some ⟨B1,0,none⟩)),(5,.bool b),(7,.slice la lp.length lc),(8,.int .i64 0),(10,.bool at9),(11,.int .i64 (j:Int))]∧(at9=true↔∃ q∈lp.take j,(q:Int)=a.e0)∧St w [(B1,a.cells,24)] [] Kk W) (lp.length - 0) ([(2,_),(5,_),(7,_),(8,_),(10,_),(11,_)]) ⟨rfl,rfl,rfl,rfl,rfl,rfl,trivial⟩ (⟨0,false,Nat.zero_le _,rfl,rfl,by simp,hS.keep Kk (fun q hq=>hq)⟩) ?_)))))))))))))))))))))))
    clear hS
    rintro m l W ⟨j,at9,hj,rfl,rfl,hat,hS⟩
    refine aC (aC (aG (aA rfl rfl (aA rfl rfl (bF underlying25 rfl rfl (bG rfl rfl rfl (aF (XF.thenN (bA rfl (fun hc=>?_) (fun hc=>?_))))))))))
    ·have hc60:=of_decide_eq_true hc;clear hc
     have hj9:j < lp.length:=by omega
     obtain ⟨b8,off,z,hla9,hz,_⟩:=(hRl hS (fun q hq=>hq)).at1 (show j < (nI lp).length by rw [dP];exact hj9)
     obtain ⟨q9,hq9,hq9z⟩:∃ q,lp[j]?=some q∧z=(q:Int):=tK hz
     refine aO (XF.thenN (aC (aL ?_)))
     rcases Bool.eq_false_or_eq_true at9 with rfl | rfl
     ·skip
      have hSd:=hS.drew
      refine lA (iX W.drew) cL ?_
      show fL _ _ _ _ _ 11 _ _ _
      refine eS 0 rfl (by kernel_rfl) (bL rfl) (Below.refl _ _) rfl (bN 1 rfl (by kernel_rfl) (by kernel_rfl) (by kernel_rfl) (fun _ _ _ _ h=>h) (Below.refl _ _) (fun W9 h9=>bL rfl) rfl (cZ 2 rfl rfl rfl rfl (by kernel_rfl) (by kernel_rfl) (by kernel_rfl) (fun _ _ _ _ h=>h) (Below.refl _ _) rfl (cZ 3 rfl rfl rfl rfl (by kernel_rfl) (by kernel_rfl) (by kernel_rfl) (fun _ _ _ _ h=>h) (Below.refl _ _) rfl (cZ 4 rfl rfl rfl rfl (by kernel_rfl) (by kernel_rfl) (by kernel_rfl) (fun _ _ _ _ h=>h) (Below.refl _ _) rfl (cZ 5 rfl rfl rfl rfl (by kernel_rfl) (by kernel_rfl) (by kernel_rfl) (fun _ _ _ _ h=>h) (Below.refl _ _) rfl (cZ 6 rfl rfl rfl rfl (by kernel_rfl) (by kernel_rfl) (by kernel_rfl) (fun _ _ _ _ h=>h) (Below.refl _ _) rfl (cZ 7 rfl rfl rfl rfl (by kernel_rfl) (by kernel_rfl) (by kernel_rfl) (fun _ _ _ _ h=>h) (Below.refl _ _) rfl (cZ 8 rfl rfl rfl rfl (by kernel_rfl) (by kernel_rfl) (by kernel_rfl) (fun _ _ _ _ h=>h) (Below.refl _ _) rfl (bN 9 rfl (by kernel_rfl) (by kernel_rfl) (by kernel_rfl) (fun _ _ _ _ h=>h) (Below.refl _ _) (fun W9 h9=>jR rfl rfl) rfl (bN 10 rfl (by kernel_rfl) (by kernel_rfl) (by kernel_rfl) (fun _ _ _ _ h=>h) (Below.refl _ _) (fun W9 h9=>cH rfl) rfl (iW (by kernel_rfl) ?_)))))))))))
      clear hS;have hS:=hSd;clear hSd
      refine XF.blkN (XF.thenN (aG (aA rfl rfl (aV rfl rfl (IntWalk.i64_in _ (by omega)) rfl (aB rfl rfl (aF ?_))))))
      exact XF.round (lp.length - (j+1)) [(2,_),(5,_),(7,_),(8,_),(10,_),(11,_)] (by omega) ⟨rfl,rfl,rfl,rfl,rfl,rfl,trivial⟩ ⟨j+1,true,by omega,rfl,rfl,⟨fun _=>(by obtain ⟨q,h1,h2⟩:=hat.1 rfl;exact ⟨q,(List.take_subset_take_left lp (Nat.le_succ j)) h1,h2⟩),fun _=>rfl⟩,hS.keep Kk (fun q hq=>hq)⟩
     ·skip
      have hSd:=hS.drew
      have hcell:∀ W9,Below W.drew.heap.size W.drew W9→W9.cell? ⟨b8,off+j * 1,none⟩=some (.int .i64 z):=fun W9 h9=>by
       obtain ⟨b',off',z',e',hz',hc'⟩:=(hRl (hSd.grow h9) (fun q hq=>hq)).at1 (show j < (nI lp).length by rw [dP];exact hj9)
       rw [hla9] at e';cases e'
       rw [hz] at hz';cases hz'
       exact hc'
      refine lA (iX W.drew) cL ?_
      show fL _ _ _ _ _ 11 _ _ _
      refine eS 0 rfl (by kernel_rfl) (bL rfl) (Below.refl _ _) rfl (bN 1 rfl (by kernel_rfl) (by kernel_rfl) (by kernel_rfl) (fun _ _ _ _ h=>h) (Below.refl _ _) (fun W9 h9=>bL rfl) rfl (cM 2 rfl rfl rfl (by kernel_rfl) (by kernel_rfl) (by kernel_rfl) (fun _ _ _ _ h=>h) (Below.refl _ _) (fun W9 h9=>bL rfl) rfl (cM 3 rfl rfl rfl (by kernel_rfl) (by kernel_rfl) (by kernel_rfl) (fun _ _ _ _ h=>h) (Below.refl _ _) (fun W9 h9=>bL rfl) rfl ?_)))
      refine cM 4 rfl rfl rfl (by kernel_rfl) (by kernel_rfl) (by kernel_rfl) (fun _ _ _ _ h=>h) (Below.refl _ _) (fun W9 h9=>cI (j:=j) (b:=b8) (o:=off) (m:=_) (c:=lc) underlying25 sizeOf3 (by show some (Value.slice _ _ _)=_;rw [hla9]) rfl rfl hj9 rfl) rfl ?_
      refine cM 5 rfl rfl rfl (by kernel_rfl) (by kernel_rfl) (by kernel_rfl) (fun _ _ _ _ h=>h) (Below.refl _ _) (fun W9 h9=>bE isAgg3 rfl (hcell _ h9)) rfl (cM 6 rfl rfl rfl (by kernel_rfl) (by kernel_rfl) (by kernel_rfl) (fun _ _ _ _ h=>h) (Below.refl _ _) (fun W9 h9=>cA (o':=3) eA rfl rfl) rfl (cM 7 rfl rfl rfl (by kernel_rfl) (by kernel_rfl) (by kernel_rfl) (fun _ _ _ _ h=>h) (Below.refl _ _) (fun W9 h9=>bE isAgg3 rfl (aE ((hSd.grow h9).at_ 0 rfl) rfl)) rfl (cM 8 rfl rfl rfl (by kernel_rfl) (by kernel_rfl) (by kernel_rfl) (fun _ _ _ _ h=>h) (Below.refl _ _) (fun W9 h9=>lE rfl rfl) rfl (bN 9 rfl (by kernel_rfl) (by kernel_rfl) (by kernel_rfl) (fun _ _ _ _ h=>h) (Below.refl _ _) (fun W9 h9=>jS rfl rfl) rfl (bN 10 rfl (by kernel_rfl) (by kernel_rfl) (by kernel_rfl) (fun _ _ _ _ h=>h) (Below.refl _ _) (fun W9 h9=>cH rfl) rfl (iW (by kernel_rfl) ?_))))))
      clear hS;have hS:=hSd;clear hSd
      refine XF.blkN (XF.thenN (aG (aA rfl rfl (aV rfl rfl (IntWalk.i64_in _ (by omega)) rfl (aB rfl rfl (aF ?_))))))
      exact XF.round (lp.length - (j+1)) [(2,_),(5,_),(7,_),(8,_),(10,_),(11,_)] (by omega) ⟨rfl,rfl,rfl,rfl,rfl,rfl,trivial⟩ ⟨j+1,_,by omega,rfl,rfl,(by
       have hno:¬ ∃ q∈lp.take j,(q:Int)=a.e0:=fun h=>absurd (hat.2 h) (by decide)
       rw [decide_eq_true_iff,List.take_add_one,hq9,hq9z]
       constructor
       ·exact fun h=>⟨q9,by simp,h⟩
       ·rintro ⟨q,h1,h2⟩
        rcases List.mem_append.1 h1 with h1 | h1
        ·exact absurd ⟨q,h1,h2⟩ hno
        ·obtain rfl:q=q9:=by simpa using h1
         exact h2),hS.keep Kk (fun q hq=>hq)⟩
    ·have hc60:=of_decide_eq_false hc;clear hc
     have hj9:j=lp.length:=by omega
     subst hj9
     rw [List.take_length] at hat
     obtain rfl:at9=b:=Bool.eq_iff_iff.2 (hat.trans (Iff.trans (by
      unfold AccN
      rw [he0,Int.toNat_natCast]
      constructor
      ·rintro ⟨q,h1,h2⟩
       obtain rfl:q=e9:=by omega
       exact (hmem q).1 h1
      ·exact fun h=>⟨e9,(hmem e9).2 h,rfl⟩) (hb1 hr0).symm))
     refine bS (XF.thenX (XF.thenX (XF.blkX (XF.thenN (aC (aG (aA rfl rfl (opV (aU (c:=true) rfl rfl (by decide)) rfl (aA rfl rfl (aD (d:=75) rfl rfl (aA rfl rfl (aD (d:=75) rfl rfl (aA rfl rfl (aD (d:=75) rfl rfl (oO underlying4 rfl rfl rfl (aR rfl rfl rfl (aB rfl rfl (aF (XF.thenN (bK (XF.res (bY results6 rfl) ?_)))))))))))))))))))))
     exact ⟨by cases at9<;>rfl,hS.below⟩
 ·have hc16:=of_decide_eq_false hc;clear hc
  refine aO (XF.thenN (aC (aG (aM (vs:=[_,_,_,_,_]) isAgg24 sizeOf24 rfl (aK.own (j:=0) (m:=5) (hS.at_ 0 rfl) rfl) rfl (aA rfl rfl (eK (vs:=[_,_]) hS jN rfl (iL a wa wl wc ws _ (hA0.below hS.below) (hW.below hS.below) hwl (by omega)) rfl ?_))))))
  rintro e W5 ⟨b,rfl,hb1,hb2,hb⟩
  refine ⟨_,rfl,hb,fun hS'=>?_⟩
  clear hS;have hS:=hS';clear hS' hb
  refine aA rfl rfl (bB rfl rfl rfl (bB rfl rfl rfl (aB rfl rfl (aB rfl rfl (aF (XF.thenN (aC (aC (aG (aA rfl rfl (fB rfl rfl rfl (aF (XF.thenN (bA rfl (fun hc=>?_) (fun hc=>?_)))))))))))))))
  ·have hc26:=of_decide_eq_true hc;clear hc
   refine aC (aG (aA rfl rfl (cP rfl rfl (aB rfl rfl (aF (XF.thenN (bK (XF.thenR (XF.res (bY results6 rfl) ?_)))))))))
   obtain rfl:=hb2 (by simpa using hc26)
   exact ⟨rfl,hS.below⟩
  ·have hc26:=of_decide_eq_false hc;clear hc
   have hr0:dO a ws=0:=by simpa using hc26
   have h0:=pW hr0
   obtain ⟨n,k,s,e9,hn,hk,hs0,he0,hn1,hn4,hk4,hsn,hen,hal,hO⟩:=gG h0
   have hse:cR a [a.s0]=0:=by
    unfold cR
    rw [if_neg (fun h=>h h0),if_pos (List.all_eq_true.2 fun y hy=>by
     obtain rfl:y=a.s0:=by simpa using hy
     unfold inQ
     simp;omega)]
   refine aO (XF.thenN (aC (aG (aM (vs:=[_,_,_,_,_]) isAgg24 sizeOf24 rfl (aK.own (j:=0) (m:=5) (hS.at_ 0 rfl) rfl) rfl (aH (o':=2) dN rfl rfl rfl (aI isAgg3 rfl (aE (hS.at_ 0 rfl) rfl) rfl (bC (us:=[(0,.int .i64 _)]) hS underlying25 sizeOf3 zeroValue3 rfl rfl rfl (dM _) rfl fun B6 W6 hS=>?_)))))))
   obtain ⟨K2,k2,g2,hS2⟩:=(hS.keep [] (fun q hq=>by cases hq)).ownKeepN
   clear hS;have hS:=hS2;clear hS2
   refine aP (vs:=[_,_]) tJ rfl (kE a (some ⟨B6,0,none⟩) 1 1 [a.s0] K2 _ [] K2 w _ hS (fun q hq=>hq) (fun h9 hk9=>hA0.below h9.below) (fun h9 hk9=>.inr ⟨_,0,rfl,fun j hj=>by obtain rfl:j=0:=(by simpa using hj);exact aE (g2 h9 hk9) rfl⟩) rfl (by decide)) rfl ?_
   rintro e W9 ⟨l1,wa1,wc1,K1,hx1,hy1,rfl,hk1,hR1,hS9⟩
   refine ⟨_,rfl,?_⟩
   clear hS;have hS:=hS9;clear hS9
   refine aA rfl rfl (bB rfl rfl rfl (bB rfl rfl rfl (aB rfl rfl (aB rfl rfl (aF (XF.thenN (aC (aC (aG (aB rfl rfl (aF (XF.thenN (aL ?_)))))))))))))
   refine cD (fun m l W=>∃ (i:Nat) (lp:List Nat) (la:Option Addr) (lc:Nat) (Kk:List (Nat×World)),i≤wl∧m=wl - i∧l=[(1,.slice wa wl wc),(2,.pointer (some ⟨B1,0,none⟩)),(5,.bool b),(7,.slice la lp.length lc),(8,.int .i64 0),(9,.int .i64 (i:Int))]∧(∀ q:Nat,q∈lp↔dV a.ar (Hd a.ar (fun q:Nat=>(q:Int)=a.s0)) (ws.take i) q)∧lp.length≤4096∧bJ w Kk (fun W=>Row W la (nI lp))∧St w [(B1,a.cells,24)] [] Kk W) (wl - 0) ([(1,_),(2,_),(5,_),(7,_),(8,_),(9,_)]) ⟨rfl,rfl,rfl,rfl,rfl,rfl,trivial⟩ (⟨0,l1,wa1,wc1,K1,Nat.zero_le _,rfl,by rw [hse];rfl,fun q=>by rw [(hx1 hse).1.at_];exact dC (fun q=>by simp) q,(hx1 hse).2,hR1,hS.keep K1 (fun q hq=>by simp [hq])⟩) ?_
   clear hS
   clear hx1 hR1 hk1 hy1
   rintro m l W ⟨i,lp,la,lc,Kk,hi,rfl,rfl,hmem,hlpl,hRl,hS⟩
   refine aC (aC (aG (aA rfl rfl (aA rfl rfl (bF underlying25 rfl rfl (bG rfl rfl rfl (aA rfl rfl (bM (d:=41) rfl (fun hc=>?_) (fun hc=>?_)))))))))
   ·have hg41:=of_decide_eq_true hc;clear hc
    have hi9:(i:Int) < (wl:Int):=by simpa using hg41
    refine aD (d:=41) rfl rfl (aA rfl rfl (aD (d:=41) rfl rfl (opV (aU (c:=true) rfl rfl (by decide)) rfl (aR rfl rfl rfl (aF (XF.thenN (cT rfl (aO (XF.thenN (aC (aL ?_)))))))))))
    obtain ⟨b8,off,y,hwa9,hy,hyc⟩:=hW.at1 (show i < ws.length by omega)
    have k9:=hS.old hyc
    have hlt:∀ q∈lp,q < n:=fun q hq=>iK hO _ (fun q h=>jT hO (fun q h2=>by omega) h) q ((hmem q).1 hq)
    have hnst:=pU h0 hn hlt (pV hr0 h0 hy)
    have hS9:=hS.keep Kk (fun q hq=>by simp [hq])
    clear hS;have hS:=hS9;clear hS9
    have hSd:=hS.drew
    refine lA (iX W.drew) cL ?_
    show fL _ _ _ _ _ 12 _ _ _
    refine bN 0 rfl (by kernel_rfl) (by kernel_rfl) (by kernel_rfl) (fun _ _ _ _ h=>h) (Below.refl _ _) (fun W9 h9=>fP (vs:=[_,_,_,_,_]) isAgg24 sizeOf24 rfl (aK.own (j:=0) (m:=5) ((hSd.grow h9).at_ 0 rfl) rfl)) rfl (bN 1 rfl (by kernel_rfl) (by kernel_rfl) (by kernel_rfl) (fun _ _ _ _ h=>h) (Below.refl _ _) (fun W9 h9=>bL rfl) rfl (bN 2 rfl (by kernel_rfl) (by kernel_rfl) (by kernel_rfl) (fun _ _ _ _ h=>h) (Below.refl _ _) (fun W9 h9=>bL rfl) rfl ?_))
    refine bN 3 rfl (by kernel_rfl) (by kernel_rfl) (by kernel_rfl) (fun _ _ _ _ h=>h) (Below.refl _ _) (fun W9 h9=>cI (j:=i) (b:=b8) (o:=off) (m:=_) (c:=wc) underlying25 sizeOf3 (by show some (Value.slice _ _ _)=_;rw [hwa9]) rfl rfl (by omega) rfl) rfl ?_
    refine bN 4 rfl (by kernel_rfl) (by kernel_rfl) (by kernel_rfl) (fun _ _ _ _ h=>h) (Below.refl _ _) (fun W9 h9=>bE isAgg3 rfl ((hSd.grow h9).old hyc)) rfl (eS 5 rfl (by kernel_rfl) (bL rfl) (Below.refl _ _) rfl (pR (vs:=[_,_,_]) 6 rfl (by kernel_rfl) pS rfl (lC a la lc lp y W.drew (hA0.below hSd.below) (hRl hSd (fun q hq=>hq)) hlpl hnst) rfl ?_))
    rintro e W9 ⟨l2,wa2,wc2,rfl,hH2,hle2,hrow2,hb9⟩
    refine ⟨_,rfl,hb9,?_⟩
    refine eS 7 rfl (by kernel_rfl) (bL rfl) hb9 rfl (bN 8 rfl (by kernel_rfl) (by kernel_rfl) (by kernel_rfl) (fun _ _ _ _ h=>h) hb9 (fun W9 h9=>dI rfl rfl) rfl (bN 9 rfl (by kernel_rfl) (by kernel_rfl) (by kernel_rfl) (fun _ _ _ _ h=>h) hb9 (fun W9 h9=>dI rfl rfl) rfl (bN 10 rfl (by kernel_rfl) (by kernel_rfl) (by kernel_rfl) (fun _ _ _ _ h=>h) hb9 (fun W9 h9=>cH rfl) rfl (eS 11 rfl (by kernel_rfl) (cH rfl) hb9 rfl (iW (by kernel_rfl) ?_)))))
    have hS9:=(hSd.grow hb9).mark W.drew.heap.size hSd.own_lt rfl
    have hR2:bJ w ((W.drew.heap.size,W9)::Kk) (fun W=>Row W wa2 (nI l2)):=fun h9 hk9=>lB (gP hrow2 (h9.kept _ (hk9 _ List.mem_cons_self)).1)
    obtain ⟨Kz,hKz⟩:∃ Kz,Kz=(W.drew.heap.size,W9)::Kk:=⟨_,rfl⟩
    rw [← hKz] at hR2 hS9
    clear hS;have hS:=hS9;clear hS9
    refine XF.blkN (XF.thenN (aG (aA rfl rfl (aV rfl rfl (IntWalk.i64_in _ (by omega)) rfl (aB rfl rfl (aF ?_))))))
    exact XF.round (wl - (i+1)) [(1,_),(2,_),(5,_),(7,_),(8,_),(9,_)] (by omega) ⟨rfl,rfl,rfl,rfl,rfl,rfl,trivial⟩ ⟨i+1,l2,wa2,wc2,Kz,by omega,rfl,rfl,fun q=>(by
     rw [hH2.at_,List.take_add_one,hy]
     show _↔dV a.ar _ (ws.take i++[y]) q
     rw [runNP_snoc]
     exact dC (gB (fun q=>(dC hmem q).trans (pT q))) q),hle2,hR2,hS.keep Kz (fun q hq=>by simp [hq])⟩
   ·have hg41:=of_decide_eq_false hc;clear hc
    have hi9:i=wl:=by
     have h9:=Int.not_lt.1 (show ¬ (i:Int) < (wl:Int) from (by simpa using hg41))
     omega
    subst hi9
    rw [List.take_of_length_le (by omega)] at hmem
    refine aJ (d:=41) rfl rfl rfl rfl (aJ (d:=41) rfl rfl rfl rfl (aW rfl rfl rfl (aF (XF.thenN (bT rfl (bS (XF.thenX (XF.thenX (XF.blkX (XF.thenN (aC (aG (aB rfl rfl (aF (XF.thenN (aC (aC (aG (aB rfl rfl (aF (XF.thenN (aL (cD (fun m l W=>∃ (j:Nat) (at9:Bool),j≤lp.length∧m=lp.length - j∧l=[(2,.pointer (some ⟨B1,0,none⟩)),(5,.bool b),(7,.slice la lp.length lc),(8,.int .i64 0),(10,.bool at9),(11,.int .i64 (j:Int))]∧(at9=true↔∃ q∈lp.take j,(q:Int)=a.e0)∧St w [(B1,a.cells,24)] [] Kk W) (lp.length - 0) ([(2,_),(5,_),(7,_),(8,_),(10,_),(11,_)]) ⟨rfl,rfl,rfl,rfl,rfl,rfl,trivial⟩ (⟨0,false,Nat.zero_le _,rfl,rfl,by simp,hS.keep Kk (fun q hq=>hq)⟩) ?_)))))))))))))))))))))))
    clear hS
    rintro m l W ⟨j,at9,hj,rfl,rfl,hat,hS⟩
    refine aC (aC (aG (aA rfl rfl (aA rfl rfl (bF underlying25 rfl rfl (bG rfl rfl rfl (aF (XF.thenN (bA rfl (fun hc=>?_) (fun hc=>?_))))))))))
    ·have hc60:=of_decide_eq_true hc;clear hc
     have hj9:j < lp.length:=by omega
     obtain ⟨b8,off,z,hla9,hz,_⟩:=(hRl hS (fun q hq=>hq)).at1 (show j < (nI lp).length by rw [dP];exact hj9)
     obtain ⟨q9,hq9,hq9z⟩:∃ q,lp[j]?=some q∧z=(q:Int):=tK hz
     refine aO (XF.thenN (aC (aL ?_)))
     rcases Bool.eq_false_or_eq_true at9 with rfl | rfl
     ·skip
      have hSd:=hS.drew
      refine lA (iX W.drew) cL ?_
      show fL _ _ _ _ _ 11 _ _ _
      refine eS 0 rfl (by kernel_rfl) (bL rfl) (Below.refl _ _) rfl (bN 1 rfl (by kernel_rfl) (by kernel_rfl) (by kernel_rfl) (fun _ _ _ _ h=>h) (Below.refl _ _) (fun W9 h9=>bL rfl) rfl (cZ 2 rfl rfl rfl rfl (by kernel_rfl) (by kernel_rfl) (by kernel_rfl) (fun _ _ _ _ h=>h) (Below.refl _ _) rfl (cZ 3 rfl rfl rfl rfl (by kernel_rfl) (by kernel_rfl) (by kernel_rfl) (fun _ _ _ _ h=>h) (Below.refl _ _) rfl (cZ 4 rfl rfl rfl rfl (by kernel_rfl) (by kernel_rfl) (by kernel_rfl) (fun _ _ _ _ h=>h) (Below.refl _ _) rfl (cZ 5 rfl rfl rfl rfl (by kernel_rfl) (by kernel_rfl) (by kernel_rfl) (fun _ _ _ _ h=>h) (Below.refl _ _) rfl (cZ 6 rfl rfl rfl rfl (by kernel_rfl) (by kernel_rfl) (by kernel_rfl) (fun _ _ _ _ h=>h) (Below.refl _ _) rfl (cZ 7 rfl rfl rfl rfl (by kernel_rfl) (by kernel_rfl) (by kernel_rfl) (fun _ _ _ _ h=>h) (Below.refl _ _) rfl (cZ 8 rfl rfl rfl rfl (by kernel_rfl) (by kernel_rfl) (by kernel_rfl) (fun _ _ _ _ h=>h) (Below.refl _ _) rfl (bN 9 rfl (by kernel_rfl) (by kernel_rfl) (by kernel_rfl) (fun _ _ _ _ h=>h) (Below.refl _ _) (fun W9 h9=>jR rfl rfl) rfl (bN 10 rfl (by kernel_rfl) (by kernel_rfl) (by kernel_rfl) (fun _ _ _ _ h=>h) (Below.refl _ _) (fun W9 h9=>cH rfl) rfl (iW (by kernel_rfl) ?_)))))))))))
      clear hS;have hS:=hSd;clear hSd
      refine XF.blkN (XF.thenN (aG (aA rfl rfl (aV rfl rfl (IntWalk.i64_in _ (by omega)) rfl (aB rfl rfl (aF ?_))))))
      exact XF.round (lp.length - (j+1)) [(2,_),(5,_),(7,_),(8,_),(10,_),(11,_)] (by omega) ⟨rfl,rfl,rfl,rfl,rfl,rfl,trivial⟩ ⟨j+1,true,by omega,rfl,rfl,⟨fun _=>(by obtain ⟨q,h1,h2⟩:=hat.1 rfl;exact ⟨q,(List.take_subset_take_left lp (Nat.le_succ j)) h1,h2⟩),fun _=>rfl⟩,hS.keep Kk (fun q hq=>hq)⟩
     ·skip
      have hSd:=hS.drew
      have hcell:∀ W9,Below W.drew.heap.size W.drew W9→W9.cell? ⟨b8,off+j * 1,none⟩=some (.int .i64 z):=fun W9 h9=>by
       obtain ⟨b',off',z',e',hz',hc'⟩:=(hRl (hSd.grow h9) (fun q hq=>hq)).at1 (show j < (nI lp).length by rw [dP];exact hj9)
       rw [hla9] at e';cases e'
       rw [hz] at hz';cases hz'
       exact hc'
      refine lA (iX W.drew) cL ?_
      show fL _ _ _ _ _ 11 _ _ _
      refine eS 0 rfl (by kernel_rfl) (bL rfl) (Below.refl _ _) rfl (bN 1 rfl (by kernel_rfl) (by kernel_rfl) (by kernel_rfl) (fun _ _ _ _ h=>h) (Below.refl _ _) (fun W9 h9=>bL rfl) rfl (cM 2 rfl rfl rfl (by kernel_rfl) (by kernel_rfl) (by kernel_rfl) (fun _ _ _ _ h=>h) (Below.refl _ _) (fun W9 h9=>bL rfl) rfl (cM 3 rfl rfl rfl (by kernel_rfl) (by kernel_rfl) (by kernel_rfl) (fun _ _ _ _ h=>h) (Below.refl _ _) (fun W9 h9=>bL rfl) rfl ?_)))
      refine cM 4 rfl rfl rfl (by kernel_rfl) (by kernel_rfl) (by kernel_rfl) (fun _ _ _ _ h=>h) (Below.refl _ _) (fun W9 h9=>cI (j:=j) (b:=b8) (o:=off) (m:=_) (c:=lc) underlying25 sizeOf3 (by show some (Value.slice _ _ _)=_;rw [hla9]) rfl rfl hj9 rfl) rfl ?_
      refine cM 5 rfl rfl rfl (by kernel_rfl) (by kernel_rfl) (by kernel_rfl) (fun _ _ _ _ h=>h) (Below.refl _ _) (fun W9 h9=>bE isAgg3 rfl (hcell _ h9)) rfl (cM 6 rfl rfl rfl (by kernel_rfl) (by kernel_rfl) (by kernel_rfl) (fun _ _ _ _ h=>h) (Below.refl _ _) (fun W9 h9=>cA (o':=3) eA rfl rfl) rfl (cM 7 rfl rfl rfl (by kernel_rfl) (by kernel_rfl) (by kernel_rfl) (fun _ _ _ _ h=>h) (Below.refl _ _) (fun W9 h9=>bE isAgg3 rfl (aE ((hSd.grow h9).at_ 0 rfl) rfl)) rfl (cM 8 rfl rfl rfl (by kernel_rfl) (by kernel_rfl) (by kernel_rfl) (fun _ _ _ _ h=>h) (Below.refl _ _) (fun W9 h9=>lE rfl rfl) rfl (bN 9 rfl (by kernel_rfl) (by kernel_rfl) (by kernel_rfl) (fun _ _ _ _ h=>h) (Below.refl _ _) (fun W9 h9=>jS rfl rfl) rfl (bN 10 rfl (by kernel_rfl) (by kernel_rfl) (by kernel_rfl) (fun _ _ _ _ h=>h) (Below.refl _ _) (fun W9 h9=>cH rfl) rfl (iW (by kernel_rfl) ?_))))))
      clear hS;have hS:=hSd;clear hSd
      refine XF.blkN (XF.thenN (aG (aA rfl rfl (aV rfl rfl (IntWalk.i64_in _ (by omega)) rfl (aB rfl rfl (aF ?_))))))
      exact XF.round (lp.length - (j+1)) [(2,_),(5,_),(7,_),(8,_),(10,_),(11,_)] (by omega) ⟨rfl,rfl,rfl,rfl,rfl,rfl,trivial⟩ ⟨j+1,_,by omega,rfl,rfl,(by
       have hno:¬ ∃ q∈lp.take j,(q:Int)=a.e0:=fun h=>absurd (hat.2 h) (by decide)
       rw [decide_eq_true_iff,List.take_add_one,hq9,hq9z]
       constructor
       ·exact fun h=>⟨q9,by simp,h⟩
       ·rintro ⟨q,h1,h2⟩
        rcases List.mem_append.1 h1 with h1 | h1
        ·exact absurd ⟨q,h1,h2⟩ hno
        ·obtain rfl:q=q9:=by simpa using h1
         exact h2),hS.keep Kk (fun q hq=>hq)⟩
    ·have hc60:=of_decide_eq_false hc;clear hc
     have hj9:j=lp.length:=by omega
     subst hj9
     rw [List.take_length] at hat
     obtain rfl:at9=b:=Bool.eq_iff_iff.2 (hat.trans (Iff.trans (by
      unfold AccN
      rw [he0,Int.toNat_natCast]
      constructor
      ·rintro ⟨q,h1,h2⟩
       obtain rfl:q=e9:=by omega
       exact (hmem q).1 h1
      ·exact fun h=>⟨e9,(hmem e9).2 h,rfl⟩) (hb1 hr0).symm))
     refine bS (XF.thenX (XF.thenX (XF.blkX (XF.thenN (aC (aG (aA rfl rfl (opV (aU (c:=true) rfl rfl (by decide)) rfl (aA rfl rfl (aD (d:=75) rfl rfl (aA rfl rfl (aD (d:=75) rfl rfl (aA rfl rfl (aD (d:=75) rfl rfl (oO underlying4 rfl rfl rfl (aR rfl rfl rfl (aB rfl rfl (aF (XF.thenN (bK (XF.res (bY results6 rfl) ?_)))))))))))))))))))))
     exact ⟨by cases at9<;>rfl,hS.below⟩
end
section
open Go.RowKit Go.ChangeShapes Go.WideShapes Go.Deep Go.Joins
theorem kK {α:Type}:∀ (n:Nat) (p:Nat→α→Prop),(∀ i,i < n→∃ c,p i c)→∃ xs:List α,xs.length=n∧∀ i c,xs[i]?=some c→p i c
 | 0,p,h=>⟨[],rfl,fun i c hi=>by simp at hi⟩
 | n+1,p,h=>by
  obtain ⟨xs,hl,hp⟩:=kK n p (fun i hi=>h i (by omega))
  obtain ⟨c,hc⟩:=h n (by omega)
  refine ⟨xs++[c],by simp [hl],fun i d hi=>?_⟩
  rcases Nat.lt_or_ge i n with h1 | h1
  ·rw [List.getElem?_append_left (by omega)] at hi
   exact hp i d hi
  ·obtain ⟨h2,_⟩:=List.getElem?_eq_some_iff.1 hi
   simp [hl] at h2
   obtain rfl:i=n:=by omega
   rw [List.getElem?_append_right (by omega),hl,Nat.sub_self] at hi
   simp at hi
   subst hi
   exact hc
theorem oK {cs:List Value} (h:cs.length=3):∃ a b c,cs=[a,b,c]:=by
 match cs,h with
 | [a,b,c],_=>exact ⟨a,b,c,rfl⟩
theorem rG {cs:List Value} (h:cs.length=5):∃ a b c d e,cs=[a,b,c,d,e]:=by
 match cs,h with
 | [a,b,c,d,e],_=>exact ⟨a,b,c,d,e,rfl⟩
section
variable {H:Type} {enc:TypeId×Value→H} {w:World} {base:Nat} {spare:Nat→Bool} {held:Bool}
theorem nA {α:Type} {f:α→List Value} {sz:Nat} {t e:TypeId} {n:Nat} {v:Value} {x:DataW H×List MemPlace} (ht:prog.underlying t=some (.slice e)) (hc:prog.cellsOf e=sz) (hp:0 < sz) (hf:∀ y,(f y).length=sz)
  (one:∀ (n:Nat) (cs:List Value) (x:DataW H×List MemPlace),DataW.trod enc prog w base spare held n e cs=some x→∃ y,cs=f y) (h:DataW.trod enc prog w base spare held n t [v]=some x) :
  ∃ (a:Option Addr) (len cap:Nat) (xs:List α),v = .slice a len cap∧(xs=[]∨∃ b off,a=some ⟨b,off,none⟩∧∀ (i:Nat) x,xs[i]?=some x→aK w b (off+i * sz) (f x))∧xs.length=len∧len≤cap∧cap≤maxLen:=by
 rcases DataW.trod_slice ht h with ⟨hcs,_⟩ | ⟨ad,len,cap,elems,rest,n2,hn2,hcs,_,hb,hle,hcap,hel,hi,_,_⟩
 ·simp at hcs
  subst hcs
  exact ⟨none,0,0,[],rfl,.inl rfl,rfl,Nat.le_refl _,Nat.zero_le _⟩
 ·simp at hcs
  subst hcs
  rw [hc] at hi
  obtain ⟨rs,hrl,hrs⟩:=kK len (fun i (r:α)=>∀ (j:Nat) u,(f r)[j]?=some u→w.cell? (ad.add (i * sz+j))=some u) (fun i hil=>by
   have hii:=hi i hil
   rw [List.getElem?_eq_getElem (by omega)] at hii
   obtain ⟨cs',hc',ht'⟩:=Option.bind_eq_some_iff.1 hii
   obtain ⟨_,hcl,hat⟩:=World.cells?_some hc'
   obtain ⟨r,rfl⟩:=one _ _ _ ht'
   refine ⟨r,fun j u hj=>?_⟩
   have hjs:j < sz:=by have:=(List.getElem?_eq_some_iff.1 hj).1;rw [hf] at this;exact this
   have h0:=hat j hjs
   rw [Go.Deep.add_add] at h0
   rw [h0];exact hj)
  refine ⟨some ad,len,cap,rs,rfl,?_,hrl,hle,hcap⟩
  rcases Nat.eq_zero_or_pos len with h0 | h0
  ·exact .inl (List.length_eq_zero_iff.1 (by omega))
  ·obtain ⟨b,off,spot⟩:=ad
   have h1:=hrs 0 (rs[0]'(by omega)) (List.getElem?_eq_getElem (by omega)) 0 _ (List.getElem?_eq_getElem (by rw [hf];exact hp))
   have hspot:spot=none:=by simpa [Addr.add] using World.cell?_spot h1
   subst hspot
   refine .inr ⟨b,off,rfl,fun i r hir=>aK.of fun j u hj=>?_⟩
   have h3:=hrs i r hir j u hj
   have e:∀ k,({ block:=b,off:=off }:Addr).add k=⟨b,off+k,none⟩:=fun k=>by simp [Addr.add]
   rw [e,← Nat.add_assoc] at h3
   exact h3
theorem oL {n:Nat} {a:Option Addr} {len cap:Nat} {x:DataW H×List MemPlace} (h:DataW.trod enc prog w base spare held n 25 [.slice a len cap]=some x):∃ zs:List Int,Row w a zs∧zs.length=len∧len≤cap∧len≤9223372036854775807:=by
 obtain ⟨a',len',cap',zs,e,h1,h2,h3,h4⟩:=nA (f:=fun x:Int=>[Value.int .i64 x]) (e:=3) (sz:=1) (by kernel_rfl) (by kernel_rfl) (by omega) (fun _=>rfl) (fun n cs x h=>by
  obtain ⟨z0,e0,_,_⟩:=DataW.trod_int (k:=.i64) (by kernel_rfl) h
  exact ⟨z0,e0⟩) h
 cases e
 refine ⟨zs,?_,h2,h3,by simp only [maxLen] at h4;omega⟩
 rcases h1 with rfl | ⟨b,off,rfl,h1⟩
 ·exact .inl rfl
 ·refine .inr ⟨b,off,rfl,fun j hj=>?_⟩
  have h5:=(h1 j _ (List.getElem?_eq_getElem hj)).1
  rw [Nat.mul_one] at h5
  rw [h5];simp [hj]
theorem tM {r:Reach} {b0:Nat} {v:Value} {d:DataW H} {p:List MemPlace} (hv:Value.okWide prog w r b0 24 v) (h:DataW.Trod enc prog w base spare held 24 v d p) :
  ∃ (s:NfV),v=s.val∧NIn w s:=by
 obtain ⟨cs,rfl,_⟩:=okWide_struct underlying24 hv
 obtain ⟨n,h⟩:=h
 obtain ⟨xs,n',hn,_,hl,hlen,hg⟩:=DataW.trod_struct underlying24 h
 rw [show prog.cellsOf 24=5 by kernel_rfl] at hl
 obtain ⟨a,b,c,d9,e9,hcs⟩:=rG hl
 rw [hcs] at hg
 have hlen5:xs.length=5:=hlen
 have g0:=hg 0 _ rfl
 have g1:=hg 1 _ rfl
 have g2:=hg 2 _ rfl
 have g3:=hg 3 _ rfl
 have g4:=hg 4 _ rfl
 rw [show prog.cellsOf _=1 by kernel_rfl,List.getElem?_eq_getElem (by omega)] at g0 g1 g2 g3 g4
 obtain ⟨z0,e0,_,_⟩:=DataW.trod_int (k:=.i64) (by kernel_rfl) g0
 simp at e0
 subst e0
 obtain ⟨z1,e1,_,_⟩:=DataW.trod_int (k:=.i64) (by kernel_rfl) g1
 simp at e1
 subst e1
 obtain ⟨z2,e2,_,_⟩:=DataW.trod_int (k:=.i64) (by kernel_rfl) g2
 simp at e2
 subst e2
 obtain ⟨z3,e3,_,_⟩:=DataW.trod_int (k:=.i64) (by kernel_rfl) g3
 simp at e3
 subst e3
 obtain ⟨aa,al,ac,ar,rfl,har,hal,hac,ham⟩:=nA (f:=ArV.three) (sz:=3) (e:=57) (v:=e9) (by kernel_rfl) (by kernel_rfl) (by omega) (fun _=>rfl) (fun n cs x h=>by
  obtain ⟨ys,n2,hn2,_,hl2,hlen2,hg2⟩:=DataW.trod_struct underlying57 h
  rw [show prog.cellsOf 57=3 by kernel_rfl] at hl2
  obtain ⟨u0,u1,u2,rfl⟩:=oK hl2
  have hlen3:ys.length=3:=hlen2
  have k0:=hg2 0 _ rfl
  have k1:=hg2 1 _ rfl
  have k2:=hg2 2 _ rfl
  rw [show prog.cellsOf _=1 by kernel_rfl,List.getElem?_eq_getElem (by omega)] at k0 k1 k2
  obtain ⟨x0,e0,_,_⟩:=DataW.trod_int (k:=.i64) (by kernel_rfl) k0
  obtain ⟨x1,e1,_,_⟩:=DataW.trod_int (k:=.i64) (by kernel_rfl) k1
  obtain ⟨x2,e2,_,_⟩:=DataW.trod_int (k:=.i64) (by kernel_rfl) k2
  simp at e0 e1 e2
  subst e0 e1 e2
  exact ⟨⟨x0,x1,x2⟩,rfl⟩) g4
 refine ⟨⟨z0,z1,z2,z3,aa,al,ac,ar⟩,?_,⟨fun i r hi=>?_,hal,?_⟩⟩
 ·show Value.agg cs=Value.agg _
  congr 1
  exact Array.ext' hcs
 ·rcases har with rfl | ⟨b,off,rfl,h1⟩
  ·simp at hi
  ·exact ⟨b,off,rfl,h1 i r hi⟩
 ·simp only [maxLen] at ham;dsimp only;omega
end
end
end Go.Proofs.Ytpgmnbgkejiomaa
