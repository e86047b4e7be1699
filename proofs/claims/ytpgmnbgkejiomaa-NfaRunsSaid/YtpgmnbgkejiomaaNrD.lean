import Derived.Lib.SmallJoins
import Derived.Deep.Slices
import Derived.Deep.Fields
import Derived.ChangeSlices
import Derived.ChangeSame
import Derived.ProofKit
import Derived.Test.YtpgmnbgkejiomaaNrC
set_option maxRecDepth 100000
set_option maxHeartbeats 4000000
set_option linter.unusedVariables false
set_option linter.unusedSimpArgs false
set_option linter.unusedSectionVars false
set_option linter.unnecessarySimpa false
namespace Go.Proofs.Ytpgmnbgkejiomaa
open Go.Proofs.Try
section
open Go.RowKit
def cPN (ls:List Int):Nat:=(ls.filter (fun x=>decide (0≤x))).length
def gMu (N:Nat) (x:Int):Nat:=if x < 0 then N else x.toNat
def muN (N:Nat) (ls:List Int):Nat:=(ls.map (gMu N)).sum
theorem uF {ls:List Int}:cPN ls≤ls.length:=List.length_filter_le _ _
theorem jL:∀ {ls:List Int} {i:Nat} {x:Int},i < ls.length→ls.getD i 0 < 0→0≤x→cPN (ls.set i x)=cPN ls+1
 | y::ls,0,x,_,h,hx=>by
  have hy:y < 0:=by simpa using h
  unfold cPN
  rw [List.set_cons_zero,List.filter_cons_of_pos (by simpa using hx),List.filter_cons_of_neg (by simpa using hy),List.length_cons]
 | y::ls,i+1,x,hi,h,hx=>by
  have ih:=jL (ls:=ls) (i:=i) (x:=x) (by simpa using hi) (by simpa using h) hx
  unfold cPN at ih ⊢
  rw [List.set_cons_succ,List.filter_cons,List.filter_cons]
  split
  ·rw [List.length_cons,List.length_cons,ih]
  ·exact ih
theorem qI:∀ {ls:List Int} {i:Nat} {x:Int},i < ls.length→0≤ls.getD i 0→0≤x→cPN (ls.set i x)=cPN ls
 | y::ls,0,x,_,h,hx=>by
  have hy:0≤y:=by simpa using h
  unfold cPN
  rw [List.set_cons_zero,List.filter_cons_of_pos (by simpa using hx),List.filter_cons_of_pos (by simpa using hy),List.length_cons,List.length_cons]
 | y::ls,i+1,x,hi,h,hx=>by
  have ih:=qI (ls:=ls) (i:=i) (x:=x) (by simpa using hi) (by simpa using h) hx
  unfold cPN at ih ⊢
  rw [List.set_cons_succ,List.filter_cons,List.filter_cons]
  split
  ·rw [List.length_cons,List.length_cons,ih]
  ·exact ih
theorem cPN_lt {ls:List Int} {i:Nat} (hi:i < ls.length) (h:ls.getD i 0 < 0):cPN ls < ls.length:=by
 have h1:=jL (x:=0) hi h (Int.le_refl _)
 have h2:=uF (ls:=ls.set i 0)
 rw [List.length_set] at h2
 omega
theorem qJ {N:Nat}:∀ {ls:List Int} {i:Nat} {x:Int},i < ls.length→muN N (ls.set i x)+gMu N (ls.getD i 0)=muN N ls+gMu N x
 | y::ls,0,x,_=>by
  unfold muN
  simp only [List.set_cons_zero,List.map_cons,List.sum_cons,List.getD_cons_zero]
  omega
 | y::ls,i+1,x,hi=>by
  have ih:=qJ (N:=N) (ls:=ls) (i:=i) (x:=x) (by simpa using hi)
  unfold muN at ih ⊢
  simp only [List.set_cons_succ,List.map_cons,List.sum_cons,List.getD_cons_succ]
  omega
structure RfI (L:List ArV) (K:Int) (E N:Nat) (ls:List Int):Prop where
 len:ls.length=N
 e0:ls.getD E 0=0
 val:∀ p,p < N→ls.getD p 0 = -1∨∃ m:Nat,ls.getD p 0=(m:Int)∧Rz L K E m p
 bnd:∀ p,p < N→ls.getD p 0 < (cPN ls:Int)
def kI (K:Int) (ls:List Int) (t:ArV):Prop:=(ls.getD t.q.toNat 0 < 0∨(t.s = -2∧K=0))∨(0≤ls.getD t.f.toNat 0∧ls.getD t.f.toNat 0≤ls.getD t.q.toNat 0+(if t.s = -1 then 0 else 1))
section
variable {L:List ArV} {K:Int} {E N:Nat} {ls:List Int}
theorem eL {i p:Nat} {x:Int} (hi:i < ls.length):(ls.set i x).getD p 0=if p=i then x else ls.getD p 0:=by
 by_cases e:p=i
 ·subst e
  rw [if_pos rfl,List.getD_eq_getElem?_getD,List.getElem?_set_self hi];rfl
 ·rw [if_neg e,List.getD_eq_getElem?_getD,List.getElem?_set_ne (fun h=>e h.symm),← List.getD_eq_getElem?_getD]
theorem RfI.set (h:RfI L K E N ls) (hO:dX N K L) (hK:0≤K) {t:ArV} (ht:t∈L) {f q:Nat} (hf:t.f=(f:Int)) (hq:t.q=(q:Int)) (h0:0≤ls.getD q 0) (hs:¬ (t.s = -2∧K=0)) {n:Int} (hn:n=ls.getD q 0+(if t.s = -1 then 0 else 1)) (hlt:ls.getD f 0 < 0∨n < ls.getD f 0):RfI L K E N (ls.set f n)∧muN N (ls.set f n) < muN N ls:=by
 have hb:=hO t ht
 have hfN:f < N:=by omega
 have hqN:q < N:=by omega
 have hl:=h.len
 have hn0:0≤n:=by split at hn<;>omega
 have hnle:n≤ls.getD q 0+1:=by split at hn<;>omega
 have hqb:=h.bnd q hqN
 have hfE:f≠E:=by
  rintro rfl
  have:=h.e0
  omega
 have hrz:∃ m:Nat,n=(m:Int)∧Rz L K E m f:=by
  rcases h.val q hqN with h1 | ⟨m,h1,h2⟩
  ·omega
  ·by_cases e:t.s = -1
   ·rw [if_pos e] at hn
    exact ⟨m,by omega,.eps h2 ⟨t,ht,hf,e,hq⟩⟩
   ·rw [if_neg e] at hn
    exact ⟨m+1,by omega,.sym h2 ⟨by omega,t,ht,hf,e,hq⟩⟩
 have hmu:=qJ (N:=N) (x:=n) (show f < ls.length by omega)
 refine ⟨⟨by rw [List.length_set];exact hl,?_,fun p hp=>?_,fun p hp=>?_⟩,?_⟩
 ·rw [eL (by omega),if_neg (fun e=>hfE e.symm)];exact h.e0
 ·rw [eL (by omega)]
  split
  ·rename_i e
   subst e
   exact .inr hrz
  ·exact h.val p hp
 ·rw [eL (by omega)]
  have hpb:=h.bnd p hp
  by_cases hneg:ls.getD f 0 < 0
  ·rw [jL (by omega) hneg hn0]
   split<;>omega
  ·rw [qI (by omega) (by omega) hn0]
   split
   ·have:=h.bnd f hfN;omega
   ·exact hpb
 ·by_cases hneg:ls.getD f 0 < 0
  ·have hc:=cPN_lt (show f < ls.length by omega) hneg
   have e1:gMu N (ls.getD f 0)=N:=by unfold gMu;rw [if_pos hneg]
   have e2:gMu N n=n.toNat:=by unfold gMu;rw [if_neg (by omega)]
   omega
  ·have e1:gMu N (ls.getD f 0)=(ls.getD f 0).toNat:=by unfold gMu;rw [if_neg hneg]
   have e2:gMu N n=n.toNat:=by unfold gMu;rw [if_neg (by omega)]
   omega
theorem RfI.done (h:RfI L K E N ls) (hO:dX N K L) (hE:E < N) (hr:∀ t∈L,kI K ls t):FarOk L K E N ls:=by
 have key:∀ {m p:Nat},Rz L K E m p→0≤ls.getD p 0∧ls.getD p 0≤(m:Int):=by
  intro m p hz
  induction hz with
  | end_=>rw [h.e0];exact ⟨Int.le_refl _,by omega⟩
  | eps _ e ih =>
   obtain ⟨t,ht,e1,e2,e3⟩:=e
   have h1:=hr t ht
   unfold kI at h1
   rw [e1,e3,Int.toNat_natCast,Int.toNat_natCast,if_pos e2] at h1
   omega
  | sym _ e ih =>
   obtain ⟨hK,t,ht,e1,e2,e3⟩:=e
   have h1:=hr t ht
   unfold kI at h1
   rw [e1,e3,Int.toNat_natCast,Int.toNat_natCast,if_neg e2] at h1
   omega
 refine ⟨h.len,fun p hp=>?_⟩
 rcases h.val p hp with h1 | ⟨m,h1,h2⟩
 ·exact .inl ⟨h1,fun m hm=>by have:=(key hm).1;omega⟩
 ·exact .inr ⟨m,h1,h2,fun k hk=>by have:=(key hk).2;omega⟩
theorem RfI.start (hE:E < N):RfI L K E N ((List.replicate N (-1)).set E 0) where
 len:=by simp
 e0:=by rw [eL (by simpa using hE),if_pos rfl]
 val:=fun p hp=>by
  rw [eL (by simpa using hE)]
  split
  ·rename_i e;subst e;exact .inr ⟨0,rfl,.end_⟩
  ·exact .inl (by simp [hp])
 bnd:=fun p hp=>by
  have h1:cPN ((List.replicate N (-1:Int)).set E 0)=cPN (List.replicate N (-1:Int))+1:=jL (by simpa using hE) (by simp [hE]) (Int.le_refl _)
  rw [eL (by simpa using hE),h1]
  split
  ·omega
  ·have:(List.replicate N (-1:Int)).getD p 0 = -1:=by simp [hp]
   omega
theorem uG (h:RfI L K E N ls):cPN ls≤N:=by
 have:=uF (ls:=ls)
 rw [h.len] at this
 exact this
end
theorem uH (n s0 e0:Nat) (sy:Int) (aa:Option Addr) (al ac:Nat) (L:List ArV) (Kt:List (Nat×World)) (Ot:Own) (G:aU) (K:List (Nat×World)) (w0 w:World) (hS0:St w0 Ot G K w) (hKt:∀ q∈Kt,q∈K) (hA:bV w0 Kt (fun W=>iW W aa L)) (hl:L.length=al) (hal:al≤65536) (hn4:n≤4096) (he0:e0 < n) (hsy0:0≤sy) (hO:dX n sy L) :
  Calls prog 41 #[.agg #[.int .i64 (n:Int),.int .i64 sy,.int .i64 (s0:Int),.int .i64 (e0:Int),.slice aa al ac]] w (fun e w'=>∃ (FB:Nat) (fs:List Int),e = .returned (.slice (some ⟨FB,0,none⟩) n n)∧FarOk L sy e0 n fs∧(∀ p,p < n→fs.getD p 0≤8193)∧St w0 ((FB,zI fs,3)::Ot) G K w'):=by
 refine bH (args:=[.agg #[.int .i64 (n:Int),.int .i64 sy,.int .i64 (s0:Int),.int .i64 (e0:Int),.slice aa al ac]]) func41 rfl ntmps41 rfl ?_
 have hS:=hS0
 have hal9:al≤65536:=hal
 refine aF (aH (bZ (cs:=[_,_,_,_,_]) hS rfl rfl rfl fun B1 W1 hS=>aB rfl rfl (aG (XF.thenN (aF (aH (aI (o':=0) cR rfl rfl rfl (aJ isAgg3 rfl (aD (hS.at_ 0 rfl) rfl) rfl ?_))))))))
 refine jE (m:=n) (cs:=zI (eO n 0)) hS underlying25 iF rfl rfl rfl (by omega) (by omega) (by rw [kB];exact sV n) (by show (8:Int) * _≤_;omega) (by omega) rfl fun B2 W2 hS=>?_
 refine aB rfl rfl (aG (XF.thenN (aF (aF ?_))))
 obtain ⟨FB,hFB⟩:∃ FB,FB=B2:=⟨_,rfl⟩
 rw [← hFB] at hS ⊢
 refine aH (aB rfl rfl (aG (XF.thenN (aM (cB (fun m l W=>∃ (i:Nat),i≤n∧m=n - i∧l=[(1,.pointer (some ⟨B1,0,none⟩)),(3,.slice (some ⟨FB,0,none⟩) n n),(4,.int .i64 (i:Int))]∧St w0 ((FB,zI (eO n i),3)::(B1,[.int .i64 (n:Int),.int .i64 sy,.int .i64 (s0:Int),.int .i64 (e0:Int),.slice aa al ac],24)::Ot) G K W) (n - 0) ([(1,_),(3,_),(4,_)]) ⟨rfl,rfl,rfl,trivial⟩ (⟨0,Nat.zero_le _,rfl,rfl,hS.keep K (fun q hq=>by simp [hq])⟩) ?_)))))
 clear hS
 rintro m l W ⟨i,hi,rfl,rfl,hS⟩
 refine aF (aF (aH (aA rfl rfl (aI (o':=0) cR rfl rfl rfl (aJ isAgg3 rfl (aD (hS.at_ 1 rfl) rfl) rfl (bB rfl rfl rfl (aG (XF.thenN (aV rfl (fun hc=>?_) (fun hc=>?_))))))))))
 ·have hc15:=of_decide_eq_true hc;clear hc
  refine aP (XF.thenN (aF (aM (aH (aA rfl rfl (aA rfl rfl (aL (j:=i) underlying25 sizeOf3 rfl rfl (rfl) (by omega) rfl rfl ?_)))))))
  refine bD (i:=0) (cs':=zI (eO n (i+1))) (O':=((FB,_,_)::_::Ot)) hS sizeOf3 rfl rfl rfl rfl (Nat.ble_eq_true_of_le (by rw [dJ,kW (by omega)];omega)) (by rw [dZ,kX (by omega)]) rfl fun W94 hS=>?_
  refine aG (XF.blkN (XF.thenN (aH (aA rfl rfl (aS rfl rfl (IntWalk.i64_in _ (by omega)) rfl (aB rfl rfl (aG ?_)))))))
  exact XF.round (n - (i+1)) [(1,_),(3,_),(4,_)] (by omega) ⟨rfl,rfl,rfl,trivial⟩ ⟨i+1,by omega,rfl,rfl,hS.keep K (fun q hq=>by simp [hq])⟩
 ·have hc15:=of_decide_eq_false hc;clear hc
  obtain rfl:n=i:=by omega
  rw [kY] at hS
  refine bS (XF.thenX (XF.thenX (XF.blkX (XF.thenN (aF (aH (aA rfl rfl (aI (o':=3) eA rfl rfl rfl (aJ isAgg3 rfl (aD (hS.at_ 1 rfl) rfl) rfl (aL (j:=e0) underlying25 sizeOf3 rfl rfl (rfl) (by omega) rfl rfl ?_))))))))))
  refine bD (i:=0) (cs':=zI ((List.replicate n (-1)).set e0 0)) (O':=((FB,_,_)::_::Ot)) hS sizeOf3 rfl rfl rfl rfl (Nat.ble_eq_true_of_le (by rw [dJ,List.length_replicate];omega)) dZ rfl fun W94 hS=>?_
  refine aG (XF.thenN (aF (aF (aH (aB rfl rfl (aG (XF.thenN (aM (cB (fun m l W=>∃ (ls:List Int) (ch:Bool),m=2 * muN n ls+(if ch=true then 1 else 0)∧l=[(1,.pointer (some ⟨B1,0,none⟩)),(3,.slice (some ⟨FB,0,none⟩) n n),(5,.bool ch)]∧RfI L sy e0 n ls∧(ch=false→∀ t∈L,kI sy ls t)∧St w0 ((FB,zI ls,3)::(B1,[.int .i64 (n:Int),.int .i64 sy,.int .i64 (s0:Int),.int .i64 (e0:Int),.slice aa al ac],24)::Ot) G K W) (_) ([(1,_),(3,_),(5,_)]) ⟨rfl,rfl,rfl,trivial⟩ (⟨_,true,rfl,rfl,RfI.start he0,fun h=>(by cases h),hS.keep K (fun q hq=>by simp [hq])⟩) ?_)))))))))
  clear hS
  rintro m l W ⟨ls,ch,rfl,rfl,hrf,hrl,hS⟩
  refine aF (aF (aH (aA rfl rfl (aG (XF.thenN (aV rfl (fun hc=>?_) (fun hc=>?_)))))))
  ·have hc25:=hc;clear hc
   have hch1:ch=true:=by simpa using hc25
   subst hch1
   obtain ⟨ls1,hls1⟩:∃ ls1,ls1=ls:=⟨_,rfl⟩
   subst hls1
   refine aP (XF.thenN (aM (aF (aH (aB rfl rfl (aG (XF.thenN (aF (aH (aB rfl rfl (aG (XF.thenN (aM (cB (fun m l W=>∃ (i:Nat) (ls:List Int) (ch:Bool),i≤al∧m=al - i∧l=[(1,.pointer (some ⟨B1,0,none⟩)),(3,.slice (some ⟨FB,0,none⟩) n n),(5,.bool ch),(6,.int .i64 (i:Int))]∧RfI L sy e0 n ls∧muN n ls≤muN n ls1∧(ch=true→muN n ls < muN n ls1)∧(ch=false→ls=ls1∧∀ t∈L.take i,kI sy ls t)∧St w0 ((FB,zI ls,3)::(B1,[.int .i64 (n:Int),.int .i64 sy,.int .i64 (s0:Int),.int .i64 (e0:Int),.slice aa al ac],24)::Ot) G K W) (al - 0) ([(1,_),(3,_),(5,_),(6,_)]) ⟨rfl,rfl,rfl,rfl,trivial⟩ (⟨0,ls1,false,Nat.zero_le _,rfl,rfl,hrf,Nat.le_refl _,fun h=>(by cases h),fun _=>⟨rfl,fun t ht=>(by cases ht)⟩,hS.keep K (fun q hq=>by simp [hq])⟩) ?_))))))))))))))
   clear hS
   clear hrf hrl
   rintro m l W ⟨i,ls,ch,hi,rfl,rfl,hrf,hmu,hch,hcf,hS⟩
   have hlsl:=hrf.len
   refine aF (aF (aH (aA rfl rfl (aI (o':=4) cJ rfl rfl rfl (aJ isAgg22 rfl (aD (hS.at_ 1 rfl) rfl) rfl (bN underlying22 rfl rfl (bB rfl rfl rfl (aG (XF.thenN (aV rfl (fun hc=>?_) (fun hc=>?_)))))))))))
   ·have hc30:=of_decide_eq_true hc;clear hc
    obtain ⟨t,ht⟩:∃ t,L[i]?=some t:=⟨_,List.getElem?_eq_getElem (by omega)⟩
    obtain ⟨b,off,haa,hcs⟩:=(hA (hS.keep K (fun q hq=>by simp [hq])) hKt) i t ht
    have k1:=hcs
    obtain ⟨⟨hf0,hf1⟩,⟨hq0,hq1⟩,hs2,_⟩:=hO t (List.mem_of_getElem? ht)
    obtain ⟨fn,hfn⟩:∃ k:Nat,t.f=(k:Int):=⟨t.f.toNat,by omega⟩
    obtain ⟨qn,hqn⟩:∃ k:Nat,t.q=(k:Int):=⟨t.q.toNat,by omega⟩
    have hfn2:t.f.toNat=fn:=by omega
    have hqn2:t.q.toNat=qn:=by omega
    have hqb:=hrf.bnd qn (by omega)
    have hcp:=uG hrf
    refine aP (XF.thenN (aF (aM (aF (aH (aI (o':=4) cJ rfl rfl rfl (aJ isAgg22 rfl (aD (hS.at_ 1 rfl) rfl) rfl (aA rfl rfl ?_))))))))
    refine aL (j:=i) (b:=b) (o:=off) (m:=al) (c:=ac) underlying22 sizeOf57 (by show some (Value.slice _ _ _)=_;rw [haa]) rfl rfl (by omega) rfl rfl ?_
    refine aQ (vs:=[_,_,_]) isAgg57 sizeOf57 rfl k1 rfl (bP (cs:=[_,_,_]) hS zeroValue57 rfl rfl fun B3 W3 hS=>bO (i:=0) (vs:=[_,_,_]) (cs':=[_,_,_]) (O':=(_::_::_::Ot)) hS sizeOf57 rfl rfl rfl rfl rfl rfl rfl fun W4 hS=>aG (XF.thenN (aF (aF (aH (aA rfl rfl (aI (o':=2) cU rfl rfl rfl (aJ isAgg3 rfl (aD (hS.at_ 0 rfl) rfl) rfl (aL (j:=qn) underlying25 sizeOf3 rfl rfl (hqn) (by omega) rfl rfl (aJ isAgg3 rfl (aD (hS.at_ 1 rfl) (dN (by omega))) rfl (bB rfl rfl rfl (aA rfl rfl (aZ (d:=44) rfl (fun hc=>?_) (fun hc=>?_))))))))))))))
    ·have hg44:=of_decide_eq_true hc;clear hc
     refine aE (d:=44) rfl rfl rfl rfl (aE (d:=44) rfl rfl rfl rfl (aE (d:=44) rfl rfl rfl rfl (aE (d:=44) rfl rfl rfl rfl (jX (d:=48) rfl rfl rfl (jX (d:=48) rfl rfl rfl (jX (d:=48) rfl rfl rfl (aE (d:=44) rfl rfl rfl rfl (aN rfl rfl rfl (aG (XF.thenN (cF rfl (bS (XF.thenX (XF.blkX (XF.thenN (aH (aA rfl rfl (aS rfl rfl (IntWalk.i64_in _ (by omega)) rfl (aB rfl rfl (aG ?_))))))))))))))))))))
     have hrx:kI sy ls t:=.inl (.inl (by rw [hqn2];simpa using hg44))
     exact XF.round (al - (i+1)) [(1,_),(3,_),(5,_),(6,_)] (by omega) ⟨rfl,rfl,rfl,rfl,trivial⟩ ⟨i+1,ls,ch,by omega,rfl,rfl,hrf,hmu,hch,fun e9=>⟨(hcf e9).1,fun t2 ht2=>(by
      rw [List.take_add_one,ht] at ht2
      rcases List.mem_append.1 ht2 with h9 | h9
      ·exact (hcf e9).2 t2 h9
      ·obtain rfl:t2=t:=by simpa using h9
       exact hrx)⟩,hS.tail.keep K (fun q hq=>by simp [hq])⟩
    ·have hg44:=of_decide_eq_false hc;clear hc
     refine aC (d:=44) rfl rfl (aI (o':=1) cS rfl rfl rfl (aC (d:=44) rfl rfl (aJ isAgg3 rfl (aD (hS.at_ 0 rfl) rfl) rfl (aC (d:=44) rfl rfl (dB rfl rfl rfl (aC (d:=44) rfl rfl (aA rfl rfl (aZ (d:=48) rfl (fun hc=>?_) (fun hc=>?_)))))))))
     ·have hg48:=of_decide_eq_true hc;clear hc
      refine aC (d:=48) rfl rfl (aI (o':=1) dQ rfl rfl rfl (aC (d:=48) rfl rfl (aJ isAgg3 rfl (aD (hS.at_ 2 rfl) rfl) rfl (aC (d:=48) rfl rfl (dB rfl rfl rfl (aC (d:=44) rfl rfl (aN rfl rfl rfl (aR rfl rfl rfl (aG (XF.thenN (aV rfl (fun hc=>?_) (fun hc=>?_))))))))))))
      ·have hc53:=of_decide_eq_true hc;clear hc
       refine bS (XF.thenX (XF.blkX (XF.thenN (aH (aA rfl rfl (aS rfl rfl (IntWalk.i64_in _ (by omega)) rfl (aB rfl rfl (aG ?_))))))))
       have hrx:kI sy ls t:=.inl (.inr ⟨by simpa using hg48,by simpa using hc53⟩)
       exact XF.round (al - (i+1)) [(1,_),(3,_),(5,_),(6,_)] (by omega) ⟨rfl,rfl,rfl,rfl,trivial⟩ ⟨i+1,ls,ch,by omega,rfl,rfl,hrf,hmu,hch,fun e9=>⟨(hcf e9).1,fun t2 ht2=>(by
        rw [List.take_add_one,ht] at ht2
        rcases List.mem_append.1 ht2 with h9 | h9
        ·exact (hcf e9).2 t2 h9
        ·obtain rfl:t2=t:=by simpa using h9
         exact hrx)⟩,hS.tail.keep K (fun q hq=>by simp [hq])⟩
      ·have hc53:=of_decide_eq_false hc;clear hc
       have h0q:0≤ls.getD qn 0:=Int.not_lt.1 (by simpa using hg44)
       have hs9:¬ (t.s = -2∧sy=0):=fun h9=>absurd h9.2 (by simpa using hc53)
       refine aP (XF.thenN (aF (aH (aA rfl rfl (aI (o':=2) cU rfl rfl rfl (aJ isAgg3 rfl (aD (hS.at_ 0 rfl) rfl) rfl (aL (j:=qn) underlying25 sizeOf3 rfl rfl (hqn) (by omega) rfl rfl (aJ isAgg3 rfl (aD (hS.at_ 1 rfl) (dN (by omega))) rfl (aB rfl rfl (aG (XF.thenN (aF (aF (aH (aI (o':=1) cS rfl rfl rfl (aJ isAgg3 rfl (aD (hS.at_ 0 rfl) rfl) rfl (eW rfl rfl rfl (aG (XF.thenN (aV rfl (fun hc=>?_) (fun hc=>?_)))))))))))))))))))))
       ·have hc61:=of_decide_eq_true hc;clear hc
        refine aH (aA rfl rfl (aS rfl rfl (IntWalk.i64_in _ (by omega)) rfl (aB rfl rfl (aG (XF.thenN (aF (aH (aA rfl rfl (aI (o':=0) cD rfl rfl rfl (aJ isAgg3 rfl (aD (hS.at_ 0 rfl) rfl) rfl (aL (j:=fn) underlying25 sizeOf3 rfl rfl (hfn) (by omega) rfl rfl (aJ isAgg3 rfl (aD (hS.at_ 1 rfl) (dN (by omega))) rfl (bB rfl rfl rfl (aA rfl rfl (aZ (d:=70) rfl (fun hc=>?_) (fun hc=>?_))))))))))))))))
        ·have hg70:=of_decide_eq_true hc;clear hc
         refine aE (d:=70) rfl rfl rfl rfl (aE (d:=70) rfl rfl rfl rfl (aE (d:=70) rfl rfl rfl rfl (aE (d:=70) rfl rfl rfl rfl (aE (d:=70) rfl rfl rfl rfl (aE (d:=70) rfl rfl rfl rfl (aE (d:=70) rfl rfl rfl rfl (aN rfl rfl rfl (aG (XF.thenN (cF rfl (aF (aH (aA rfl rfl (aI (o':=0) cD rfl rfl rfl (aJ isAgg3 rfl (aD (hS.at_ 0 rfl) rfl) rfl (aA rfl rfl (aL (j:=fn) underlying25 sizeOf3 rfl rfl (hfn) (by omega) rfl rfl ?_)))))))))))))))))
         refine bD (i:=0) (cs':=zI (ls.set fn (ls.getD qn 0+1))) (O':=((FB,_,_)::_::_::Ot)) (hS.perm (List.Perm.swap _ _ _)) sizeOf3 rfl rfl rfl rfl (Nat.ble_eq_true_of_le (by rw [dJ];omega)) dZ rfl ?_
         clear hS;intro W94 hS9
         have hS:=hS9.perm (List.Perm.swap _ _ _);clear hS9
         refine aG (XF.thenN (aH (aB rfl rfl (aG (XF.blkN (XF.thenN (aH (aA rfl rfl (aS rfl rfl (IntWalk.i64_in _ (by omega)) rfl (aB rfl rfl (aG ?_)))))))))))
         have hup:=hrf.set hO hsy0 (List.mem_of_getElem? ht) hfn hqn h0q hs9 (n:=ls.getD qn 0+1) (by rw [if_neg (by simpa using hc61)]) (.inl (by simpa using hg70))
         exact XF.round (al - (i+1)) [(1,_),(3,_),(5,_),(6,_)] (by omega) ⟨rfl,rfl,rfl,rfl,trivial⟩ ⟨i+1,ls.set fn (ls.getD qn 0+1),true,by omega,rfl,rfl,hup.1,by have:=hup.2;omega,fun _=>by have:=hup.2;omega,fun h=>(by cases h),hS.tail.keep K (fun q hq=>by simp [hq])⟩
        ·have hg70:=of_decide_eq_false hc;clear hc
         refine aC (d:=70) rfl rfl (aA rfl rfl (aC (d:=70) rfl rfl (aI (o':=0) cD rfl rfl rfl (aC (d:=70) rfl rfl (aJ isAgg3 rfl (aD (hS.at_ 0 rfl) rfl) rfl (aC (d:=70) rfl rfl (aL (j:=fn) underlying25 sizeOf3 rfl rfl (hfn) (by omega) rfl rfl (aC (d:=70) rfl rfl (aJ isAgg3 rfl (aD (hS.at_ 1 rfl) (dN (by omega))) rfl (aC (d:=70) rfl rfl (aA rfl rfl (aC (d:=70) rfl rfl (dA rfl rfl rfl (aR rfl rfl rfl (aG (XF.thenN (aV rfl (fun hc=>?_) (fun hc=>?_))))))))))))))))))
         ·have hc78:=of_decide_eq_true hc;clear hc
          refine aF (aH (aA rfl rfl (aI (o':=0) cD rfl rfl rfl (aJ isAgg3 rfl (aD (hS.at_ 0 rfl) rfl) rfl (aA rfl rfl (aL (j:=fn) underlying25 sizeOf3 rfl rfl (hfn) (by omega) rfl rfl ?_))))))
          refine bD (i:=0) (cs':=zI (ls.set fn (ls.getD qn 0+1))) (O':=((FB,_,_)::_::_::Ot)) (hS.perm (List.Perm.swap _ _ _)) sizeOf3 rfl rfl rfl rfl (Nat.ble_eq_true_of_le (by rw [dJ];omega)) dZ rfl ?_
          clear hS;intro W94 hS9
          have hS:=hS9.perm (List.Perm.swap _ _ _);clear hS9
          refine aG (XF.thenN (aH (aB rfl rfl (aG (XF.blkN (XF.thenN (aH (aA rfl rfl (aS rfl rfl (IntWalk.i64_in _ (by omega)) rfl (aB rfl rfl (aG ?_)))))))))))
          have hup:=hrf.set hO hsy0 (List.mem_of_getElem? ht) hfn hqn h0q hs9 (n:=ls.getD qn 0+1) (by rw [if_neg (by simpa using hc61)]) (.inr (by simpa using hc78))
          exact XF.round (al - (i+1)) [(1,_),(3,_),(5,_),(6,_)] (by omega) ⟨rfl,rfl,rfl,rfl,trivial⟩ ⟨i+1,ls.set fn (ls.getD qn 0+1),true,by omega,rfl,rfl,hup.1,by have:=hup.2;omega,fun _=>by have:=hup.2;omega,fun h=>(by cases h),hS.tail.keep K (fun q hq=>by simp [hq])⟩
         ·have hc78:=of_decide_eq_false hc;clear hc
          refine aP (XF.blkN (XF.thenN (aH (aA rfl rfl (aS rfl rfl (IntWalk.i64_in _ (by omega)) rfl (aB rfl rfl (aG ?_)))))))
          have hrx:kI sy ls t:=.inr (by
           have h7:0≤ls.getD fn 0:=Int.not_lt.1 (by simpa using hg70)
           have h8:ls.getD fn 0≤ls.getD qn 0+1:=Int.not_lt.1 (by simpa using hc78)
           rw [hqn2,hfn2]
           rw [if_neg (by simpa using hc61)]
           omega)
          exact XF.round (al - (i+1)) [(1,_),(3,_),(5,_),(6,_)] (by omega) ⟨rfl,rfl,rfl,rfl,trivial⟩ ⟨i+1,ls,ch,by omega,rfl,rfl,hrf,hmu,hch,fun e9=>⟨(hcf e9).1,fun t2 ht2=>(by
           rw [List.take_add_one,ht] at ht2
           rcases List.mem_append.1 ht2 with h9 | h9
           ·exact (hcf e9).2 t2 h9
           ·obtain rfl:t2=t:=by simpa using h9
            exact hrx)⟩,hS.tail.keep K (fun q hq=>by simp [hq])⟩
       ·have hc61:=of_decide_eq_false hc;clear hc
        refine aP (XF.thenN (aF (aH (aA rfl rfl (aI (o':=0) cD rfl rfl rfl (aJ isAgg3 rfl (aD (hS.at_ 0 rfl) rfl) rfl (aL (j:=fn) underlying25 sizeOf3 rfl rfl (hfn) (by omega) rfl rfl (aJ isAgg3 rfl (aD (hS.at_ 1 rfl) (dN (by omega))) rfl (bB rfl rfl rfl (aA rfl rfl (aZ (d:=70) rfl (fun hc=>?_) (fun hc=>?_))))))))))))
        ·have hg70:=of_decide_eq_true hc;clear hc
         refine aE (d:=70) rfl rfl rfl rfl (aE (d:=70) rfl rfl rfl rfl (aE (d:=70) rfl rfl rfl rfl (aE (d:=70) rfl rfl rfl rfl (aE (d:=70) rfl rfl rfl rfl (aE (d:=70) rfl rfl rfl rfl (aE (d:=70) rfl rfl rfl rfl (aN rfl rfl rfl (aG (XF.thenN (cF rfl (aF (aH (aA rfl rfl (aI (o':=0) cD rfl rfl rfl (aJ isAgg3 rfl (aD (hS.at_ 0 rfl) rfl) rfl (aA rfl rfl (aL (j:=fn) underlying25 sizeOf3 rfl rfl (hfn) (by omega) rfl rfl ?_)))))))))))))))))
         refine bD (i:=0) (cs':=zI (ls.set fn (ls.getD qn 0))) (O':=((FB,_,_)::_::_::Ot)) (hS.perm (List.Perm.swap _ _ _)) sizeOf3 rfl rfl rfl rfl (Nat.ble_eq_true_of_le (by rw [dJ];omega)) dZ rfl ?_
         clear hS;intro W94 hS9
         have hS:=hS9.perm (List.Perm.swap _ _ _);clear hS9
         refine aG (XF.thenN (aH (aB rfl rfl (aG (XF.blkN (XF.thenN (aH (aA rfl rfl (aS rfl rfl (IntWalk.i64_in _ (by omega)) rfl (aB rfl rfl (aG ?_)))))))))))
         have hup:=hrf.set hO hsy0 (List.mem_of_getElem? ht) hfn hqn h0q hs9 (n:=ls.getD qn 0) (by rw [if_pos (by simpa using hc61)];omega) (.inl (by simpa using hg70))
         exact XF.round (al - (i+1)) [(1,_),(3,_),(5,_),(6,_)] (by omega) ⟨rfl,rfl,rfl,rfl,trivial⟩ ⟨i+1,ls.set fn (ls.getD qn 0),true,by omega,rfl,rfl,hup.1,by have:=hup.2;omega,fun _=>by have:=hup.2;omega,fun h=>(by cases h),hS.tail.keep K (fun q hq=>by simp [hq])⟩
        ·have hg70:=of_decide_eq_false hc;clear hc
         refine aC (d:=70) rfl rfl (aA rfl rfl (aC (d:=70) rfl rfl (aI (o':=0) cD rfl rfl rfl (aC (d:=70) rfl rfl (aJ isAgg3 rfl (aD (hS.at_ 0 rfl) rfl) rfl (aC (d:=70) rfl rfl (aL (j:=fn) underlying25 sizeOf3 rfl rfl (hfn) (by omega) rfl rfl (aC (d:=70) rfl rfl (aJ isAgg3 rfl (aD (hS.at_ 1 rfl) (dN (by omega))) rfl (aC (d:=70) rfl rfl (aA rfl rfl (aC (d:=70) rfl rfl (dA rfl rfl rfl (aR rfl rfl rfl (aG (XF.thenN (aV rfl (fun hc=>?_) (fun hc=>?_))))))))))))))))))
         ·have hc78:=of_decide_eq_true hc;clear hc
          refine aF (aH (aA rfl rfl (aI (o':=0) cD rfl rfl rfl (aJ isAgg3 rfl (aD (hS.at_ 0 rfl) rfl) rfl (aA rfl rfl (aL (j:=fn) underlying25 sizeOf3 rfl rfl (hfn) (by omega) rfl rfl ?_))))))
          refine bD (i:=0) (cs':=zI (ls.set fn (ls.getD qn 0))) (O':=((FB,_,_)::_::_::Ot)) (hS.perm (List.Perm.swap _ _ _)) sizeOf3 rfl rfl rfl rfl (Nat.ble_eq_true_of_le (by rw [dJ];omega)) dZ rfl ?_
          clear hS;intro W94 hS9
          have hS:=hS9.perm (List.Perm.swap _ _ _);clear hS9
          refine aG (XF.thenN (aH (aB rfl rfl (aG (XF.blkN (XF.thenN (aH (aA rfl rfl (aS rfl rfl (IntWalk.i64_in _ (by omega)) rfl (aB rfl rfl (aG ?_)))))))))))
          have hup:=hrf.set hO hsy0 (List.mem_of_getElem? ht) hfn hqn h0q hs9 (n:=ls.getD qn 0) (by rw [if_pos (by simpa using hc61)];omega) (.inr (by simpa using hc78))
          exact XF.round (al - (i+1)) [(1,_),(3,_),(5,_),(6,_)] (by omega) ⟨rfl,rfl,rfl,rfl,trivial⟩ ⟨i+1,ls.set fn (ls.getD qn 0),true,by omega,rfl,rfl,hup.1,by have:=hup.2;omega,fun _=>by have:=hup.2;omega,fun h=>(by cases h),hS.tail.keep K (fun q hq=>by simp [hq])⟩
         ·have hc78:=of_decide_eq_false hc;clear hc
          refine aP (XF.blkN (XF.thenN (aH (aA rfl rfl (aS rfl rfl (IntWalk.i64_in _ (by omega)) rfl (aB rfl rfl (aG ?_)))))))
          have hrx:kI sy ls t:=.inr (by
           have h7:0≤ls.getD fn 0:=Int.not_lt.1 (by simpa using hg70)
           have h8:ls.getD fn 0≤ls.getD qn 0:=Int.not_lt.1 (by simpa using hc78)
           rw [hqn2,hfn2]
           rw [if_pos (by simpa using hc61)]
           omega)
          exact XF.round (al - (i+1)) [(1,_),(3,_),(5,_),(6,_)] (by omega) ⟨rfl,rfl,rfl,rfl,trivial⟩ ⟨i+1,ls,ch,by omega,rfl,rfl,hrf,hmu,hch,fun e9=>⟨(hcf e9).1,fun t2 ht2=>(by
           rw [List.take_add_one,ht] at ht2
           rcases List.mem_append.1 ht2 with h9 | h9
           ·exact (hcf e9).2 t2 h9
           ·obtain rfl:t2=t:=by simpa using h9
            exact hrx)⟩,hS.tail.keep K (fun q hq=>by simp [hq])⟩
     ·have hg48:=of_decide_eq_false hc;clear hc
      refine aE (d:=48) rfl rfl rfl rfl (aE (d:=48) rfl rfl rfl rfl (aE (d:=48) rfl rfl rfl rfl (aC (d:=44) rfl rfl (aR rfl rfl rfl (aR rfl rfl rfl (aG (XF.thenN (bX rfl (aP (XF.thenN (aF ?_)))))))))))
      have h0q:0≤ls.getD qn 0:=Int.not_lt.1 (by simpa using hg44)
      have hs9:¬ (t.s = -2∧sy=0):=fun h9=>absurd h9.1 (by simpa using hg48)
      refine aH (aA rfl rfl (aI (o':=2) cU rfl rfl rfl (aJ isAgg3 rfl (aD (hS.at_ 0 rfl) rfl) rfl (aL (j:=qn) underlying25 sizeOf3 rfl rfl (hqn) (by omega) rfl rfl (aJ isAgg3 rfl (aD (hS.at_ 1 rfl) (dN (by omega))) rfl (aB rfl rfl (aG (XF.thenN (aF (aF (aH (aI (o':=1) cS rfl rfl rfl (aJ isAgg3 rfl (aD (hS.at_ 0 rfl) rfl) rfl (eW rfl rfl rfl (aG (XF.thenN (aV rfl (fun hc=>?_) (fun hc=>?_))))))))))))))))))
      ·have hc61:=of_decide_eq_true hc;clear hc
       refine aH (aA rfl rfl (aS rfl rfl (IntWalk.i64_in _ (by omega)) rfl (aB rfl rfl (aG (XF.thenN (aF (aH (aA rfl rfl (aI (o':=0) cD rfl rfl rfl (aJ isAgg3 rfl (aD (hS.at_ 0 rfl) rfl) rfl (aL (j:=fn) underlying25 sizeOf3 rfl rfl (hfn) (by omega) rfl rfl (aJ isAgg3 rfl (aD (hS.at_ 1 rfl) (dN (by omega))) rfl (bB rfl rfl rfl (aA rfl rfl (aZ (d:=70) rfl (fun hc=>?_) (fun hc=>?_))))))))))))))))
       ·have hg70:=of_decide_eq_true hc;clear hc
        refine aE (d:=70) rfl rfl rfl rfl (aE (d:=70) rfl rfl rfl rfl (aE (d:=70) rfl rfl rfl rfl (aE (d:=70) rfl rfl rfl rfl (aE (d:=70) rfl rfl rfl rfl (aE (d:=70) rfl rfl rfl rfl (aE (d:=70) rfl rfl rfl rfl (aN rfl rfl rfl (aG (XF.thenN (cF rfl (aF (aH (aA rfl rfl (aI (o':=0) cD rfl rfl rfl (aJ isAgg3 rfl (aD (hS.at_ 0 rfl) rfl) rfl (aA rfl rfl (aL (j:=fn) underlying25 sizeOf3 rfl rfl (hfn) (by omega) rfl rfl ?_)))))))))))))))))
        refine bD (i:=0) (cs':=zI (ls.set fn (ls.getD qn 0+1))) (O':=((FB,_,_)::_::_::Ot)) (hS.perm (List.Perm.swap _ _ _)) sizeOf3 rfl rfl rfl rfl (Nat.ble_eq_true_of_le (by rw [dJ];omega)) dZ rfl ?_
        clear hS;intro W94 hS9
        have hS:=hS9.perm (List.Perm.swap _ _ _);clear hS9
        refine aG (XF.thenN (aH (aB rfl rfl (aG (XF.blkN (XF.thenN (aH (aA rfl rfl (aS rfl rfl (IntWalk.i64_in _ (by omega)) rfl (aB rfl rfl (aG ?_)))))))))))
        have hup:=hrf.set hO hsy0 (List.mem_of_getElem? ht) hfn hqn h0q hs9 (n:=ls.getD qn 0+1) (by rw [if_neg (by simpa using hc61)]) (.inl (by simpa using hg70))
        exact XF.round (al - (i+1)) [(1,_),(3,_),(5,_),(6,_)] (by omega) ⟨rfl,rfl,rfl,rfl,trivial⟩ ⟨i+1,ls.set fn (ls.getD qn 0+1),true,by omega,rfl,rfl,hup.1,by have:=hup.2;omega,fun _=>by have:=hup.2;omega,fun h=>(by cases h),hS.tail.keep K (fun q hq=>by simp [hq])⟩
       ·have hg70:=of_decide_eq_false hc;clear hc
        refine aC (d:=70) rfl rfl (aA rfl rfl (aC (d:=70) rfl rfl (aI (o':=0) cD rfl rfl rfl (aC (d:=70) rfl rfl (aJ isAgg3 rfl (aD (hS.at_ 0 rfl) rfl) rfl (aC (d:=70) rfl rfl (aL (j:=fn) underlying25 sizeOf3 rfl rfl (hfn) (by omega) rfl rfl (aC (d:=70) rfl rfl (aJ isAgg3 rfl (aD (hS.at_ 1 rfl) (dN (by omega))) rfl (aC (d:=70) rfl rfl (aA rfl rfl (aC (d:=70) rfl rfl (dA rfl rfl rfl (aR rfl rfl rfl (aG (XF.thenN (aV rfl (fun hc=>?_) (fun hc=>?_))))))))))))))))))
        ·have hc78:=of_decide_eq_true hc;clear hc
         refine aF (aH (aA rfl rfl (aI (o':=0) cD rfl rfl rfl (aJ isAgg3 rfl (aD (hS.at_ 0 rfl) rfl) rfl (aA rfl rfl (aL (j:=fn) underlying25 sizeOf3 rfl rfl (hfn) (by omega) rfl rfl ?_))))))
         refine bD (i:=0) (cs':=zI (ls.set fn (ls.getD qn 0+1))) (O':=((FB,_,_)::_::_::Ot)) (hS.perm (List.Perm.swap _ _ _)) sizeOf3 rfl rfl rfl rfl (Nat.ble_eq_true_of_le (by rw [dJ];omega)) dZ rfl ?_
         clear hS;intro W94 hS9
         have hS:=hS9.perm (List.Perm.swap _ _ _);clear hS9
         refine aG (XF.thenN (aH (aB rfl rfl (aG (XF.blkN (XF.thenN (aH (aA rfl rfl (aS rfl rfl (IntWalk.i64_in _ (by omega)) rfl (aB rfl rfl (aG ?_)))))))))))
         have hup:=hrf.set hO hsy0 (List.mem_of_getElem? ht) hfn hqn h0q hs9 (n:=ls.getD qn 0+1) (by rw [if_neg (by simpa using hc61)]) (.inr (by simpa using hc78))
         exact XF.round (al - (i+1)) [(1,_),(3,_),(5,_),(6,_)] (by omega) ⟨rfl,rfl,rfl,rfl,trivial⟩ ⟨i+1,ls.set fn (ls.getD qn 0+1),true,by omega,rfl,rfl,hup.1,by have:=hup.2;omega,fun _=>by have:=hup.2;omega,fun h=>(by cases h),hS.tail.keep K (fun q hq=>by simp [hq])⟩
        ·have hc78:=of_decide_eq_false hc;clear hc
         refine aP (XF.blkN (XF.thenN (aH (aA rfl rfl (aS rfl rfl (IntWalk.i64_in _ (by omega)) rfl (aB rfl rfl (aG ?_)))))))
         have hrx:kI sy ls t:=.inr (by
          have h7:0≤ls.getD fn 0:=Int.not_lt.1 (by simpa using hg70)
          have h8:ls.getD fn 0≤ls.getD qn 0+1:=Int.not_lt.1 (by simpa using hc78)
          rw [hqn2,hfn2]
          rw [if_neg (by simpa using hc61)]
          omega)
         exact XF.round (al - (i+1)) [(1,_),(3,_),(5,_),(6,_)] (by omega) ⟨rfl,rfl,rfl,rfl,trivial⟩ ⟨i+1,ls,ch,by omega,rfl,rfl,hrf,hmu,hch,fun e9=>⟨(hcf e9).1,fun t2 ht2=>(by
          rw [List.take_add_one,ht] at ht2
          rcases List.mem_append.1 ht2 with h9 | h9
          ·exact (hcf e9).2 t2 h9
          ·obtain rfl:t2=t:=by simpa using h9
           exact hrx)⟩,hS.tail.keep K (fun q hq=>by simp [hq])⟩
      ·have hc61:=of_decide_eq_false hc;clear hc
       refine aP (XF.thenN (aF (aH (aA rfl rfl (aI (o':=0) cD rfl rfl rfl (aJ isAgg3 rfl (aD (hS.at_ 0 rfl) rfl) rfl (aL (j:=fn) underlying25 sizeOf3 rfl rfl (hfn) (by omega) rfl rfl (aJ isAgg3 rfl (aD (hS.at_ 1 rfl) (dN (by omega))) rfl (bB rfl rfl rfl (aA rfl rfl (aZ (d:=70) rfl (fun hc=>?_) (fun hc=>?_))))))))))))
       ·have hg70:=of_decide_eq_true hc;clear hc
        refine aE (d:=70) rfl rfl rfl rfl (aE (d:=70) rfl rfl rfl rfl (aE (d:=70) rfl rfl rfl rfl (aE (d:=70) rfl rfl rfl rfl (aE (d:=70) rfl rfl rfl rfl (aE (d:=70) rfl rfl rfl rfl (aE (d:=70) rfl rfl rfl rfl (aN rfl rfl rfl (aG (XF.thenN (cF rfl (aF (aH (aA rfl rfl (aI (o':=0) cD rfl rfl rfl (aJ isAgg3 rfl (aD (hS.at_ 0 rfl) rfl) rfl (aA rfl rfl (aL (j:=fn) underlying25 sizeOf3 rfl rfl (hfn) (by omega) rfl rfl ?_)))))))))))))))))
        refine bD (i:=0) (cs':=zI (ls.set fn (ls.getD qn 0))) (O':=((FB,_,_)::_::_::Ot)) (hS.perm (List.Perm.swap _ _ _)) sizeOf3 rfl rfl rfl rfl (Nat.ble_eq_true_of_le (by rw [dJ];omega)) dZ rfl ?_
        clear hS;intro W94 hS9
        have hS:=hS9.perm (List.Perm.swap _ _ _);clear hS9
        refine aG (XF.thenN (aH (aB rfl rfl (aG (XF.blkN (XF.thenN (aH (aA rfl rfl (aS rfl rfl (IntWalk.i64_in _ (by omega)) rfl (aB rfl rfl (aG ?_)))))))))))
        have hup:=hrf.set hO hsy0 (List.mem_of_getElem? ht) hfn hqn h0q hs9 (n:=ls.getD qn 0) (by rw [if_pos (by simpa using hc61)];omega) (.inl (by simpa using hg70))
        exact XF.round (al - (i+1)) [(1,_),(3,_),(5,_),(6,_)] (by omega) ⟨rfl,rfl,rfl,rfl,trivial⟩ ⟨i+1,ls.set fn (ls.getD qn 0),true,by omega,rfl,rfl,hup.1,by have:=hup.2;omega,fun _=>by have:=hup.2;omega,fun h=>(by cases h),hS.tail.keep K (fun q hq=>by simp [hq])⟩
       ·have hg70:=of_decide_eq_false hc;clear hc
        refine aC (d:=70) rfl rfl (aA rfl rfl (aC (d:=70) rfl rfl (aI (o':=0) cD rfl rfl rfl (aC (d:=70) rfl rfl (aJ isAgg3 rfl (aD (hS.at_ 0 rfl) rfl) rfl (aC (d:=70) rfl rfl (aL (j:=fn) underlying25 sizeOf3 rfl rfl (hfn) (by omega) rfl rfl (aC (d:=70) rfl rfl (aJ isAgg3 rfl (aD (hS.at_ 1 rfl) (dN (by omega))) rfl (aC (d:=70) rfl rfl (aA rfl rfl (aC (d:=70) rfl rfl (dA rfl rfl rfl (aR rfl rfl rfl (aG (XF.thenN (aV rfl (fun hc=>?_) (fun hc=>?_))))))))))))))))))
        ·have hc78:=of_decide_eq_true hc;clear hc
         refine aF (aH (aA rfl rfl (aI (o':=0) cD rfl rfl rfl (aJ isAgg3 rfl (aD (hS.at_ 0 rfl) rfl) rfl (aA rfl rfl (aL (j:=fn) underlying25 sizeOf3 rfl rfl (hfn) (by omega) rfl rfl ?_))))))
         refine bD (i:=0) (cs':=zI (ls.set fn (ls.getD qn 0))) (O':=((FB,_,_)::_::_::Ot)) (hS.perm (List.Perm.swap _ _ _)) sizeOf3 rfl rfl rfl rfl (Nat.ble_eq_true_of_le (by rw [dJ];omega)) dZ rfl ?_
         clear hS;intro W94 hS9
         have hS:=hS9.perm (List.Perm.swap _ _ _);clear hS9
         refine aG (XF.thenN (aH (aB rfl rfl (aG (XF.blkN (XF.thenN (aH (aA rfl rfl (aS rfl rfl (IntWalk.i64_in _ (by omega)) rfl (aB rfl rfl (aG ?_)))))))))))
         have hup:=hrf.set hO hsy0 (List.mem_of_getElem? ht) hfn hqn h0q hs9 (n:=ls.getD qn 0) (by rw [if_pos (by simpa using hc61)];omega) (.inr (by simpa using hc78))
         exact XF.round (al - (i+1)) [(1,_),(3,_),(5,_),(6,_)] (by omega) ⟨rfl,rfl,rfl,rfl,trivial⟩ ⟨i+1,ls.set fn (ls.getD qn 0),true,by omega,rfl,rfl,hup.1,by have:=hup.2;omega,fun _=>by have:=hup.2;omega,fun h=>(by cases h),hS.tail.keep K (fun q hq=>by simp [hq])⟩
        ·have hc78:=of_decide_eq_false hc;clear hc
         refine aP (XF.blkN (XF.thenN (aH (aA rfl rfl (aS rfl rfl (IntWalk.i64_in _ (by omega)) rfl (aB rfl rfl (aG ?_)))))))
         have hrx:kI sy ls t:=.inr (by
          have h7:0≤ls.getD fn 0:=Int.not_lt.1 (by simpa using hg70)
          have h8:ls.getD fn 0≤ls.getD qn 0:=Int.not_lt.1 (by simpa using hc78)
          rw [hqn2,hfn2]
          rw [if_pos (by simpa using hc61)]
          omega)
         exact XF.round (al - (i+1)) [(1,_),(3,_),(5,_),(6,_)] (by omega) ⟨rfl,rfl,rfl,rfl,trivial⟩ ⟨i+1,ls,ch,by omega,rfl,rfl,hrf,hmu,hch,fun e9=>⟨(hcf e9).1,fun t2 ht2=>(by
          rw [List.take_add_one,ht] at ht2
          rcases List.mem_append.1 ht2 with h9 | h9
          ·exact (hcf e9).2 t2 h9
          ·obtain rfl:t2=t:=by simpa using h9
           exact hrx)⟩,hS.tail.keep K (fun q hq=>by simp [hq])⟩
   ·have hc30:=of_decide_eq_false hc;clear hc
    refine bS (XF.thenX (XF.thenX (XF.blkX (XF.blkN ?_))))
    rw [List.take_of_length_le (by omega)] at hcf
    have hm9:2 * muN n ls+(if ch=true then 1 else 0) < 2 * muN n ls1+1:=by
     cases ch with
     | false=>obtain ⟨e,_⟩:=hcf rfl;subst e;simp
     | true=>have h6:=hch rfl;simp;omega
    exact XF.round (2 * muN n ls+(if ch=true then 1 else 0)) [(1,_),(3,_),(5,_)] hm9 ⟨rfl,rfl,rfl,trivial⟩ ⟨ls,ch,rfl,rfl,hrf,fun h=>(hcf h).2,hS.keep K (fun q hq=>by simp [hq])⟩
  ·have hc25:=hc;clear hc
   refine bS (XF.thenX (XF.thenX (XF.blkX (XF.thenN (aF (aH (aA rfl rfl (aB rfl rfl (aG (XF.thenN (bK (XF.res (bT results41 rfl) ?_))))))))))))
   have hcp:=uG hrf
   exact ⟨FB,ls,rfl,hrf.done hO he0 (hrl (by simpa using hc25)),fun p hp=>(by have:=hrf.bnd p hp;omega),((hS.keep K (fun q hq=>by simp [hq])).perm (List.Perm.swap _ _ _)).tail⟩
section
variable {P:Program} {n:Nat} {Q:Exit→Act→World→Prop} {l:Fr} {w0 W:World} {O:Own} {G:aU} {K:List (Nat×World)}
theorem regMkF {fr:Nat→Bool} {id k:Nat} {ops:Array Oper} {mk:List Nat} {vals:Nat→Value} {Pm:Nat→Value→Own→Prop} (Gp:Mks→World→Prop) (hfr9:∀ i d,i < k→(ops[i]?).bind (·.dst)=some d→fr d=false) (hm:P.follows .mixedOrders=true) (hS:Gp [] W.drew) (hk:k < ops.size) (hl:hZ ops k=true) (ht:cY ops n=true)
  (hpure:∀ i,i < k→i∉mk→∀ (s:Mks) (a0 a:Act) (w:World),Has n l a0→(∀ t,fr t=true→a.eval (.tmp t)=a0.tmps.getD t undef)→Gp s w→(∀ j d,aO ops i j d=true→MkI mk vals Pm s j (a.eval (.tmp d)) w)→∃ o,ops[i]?=some o∧o.guard=none∧(execOp a.eval o).run P w = .ok (.value (vals i)) w)
  (hmake:∀ i,i∈mk→∀ (s:Mks) (a0 a:Act) (w:World),Has n l a0→(∀ t,fr t=true→a.eval (.tmp t)=a0.tmps.getD t undef)→Gp s w→(∀ ON,(i,ON)∉s)→(∀ j d,aO ops i j d=true→MkI mk vals Pm s j (a.eval (.tmp d)) w)→wpOp P ops Q i (fun a' w'=>∃ v ON,a'=a.put ((ops[i]?).bind (·.dst)) v∧Pm i v ON∧Gp ((i,ON)::s) w') a w)
  (hmk:∀ i∈mk,i < k)
  (h:∀ (s:Mks) (a:Act) (w:World),Gp s w→a.tmps.size=n→a.defers=[]→(∀ t v,fr t=true→look l t=some v→a.tmps.getD t undef=v)→(∀ i d,i < k→i∉mk→(ops[i]?).bind (·.dst)=some d→a.tmps.getD d undef=vals i)→(∀ i∈mk,∃ ON,(i,ON)∈s)→(∀ i d,i∈mk→(ops[i]?).bind (·.dst)=some d→∃ ON,(i,ON)∈s∧Pm i (a.tmps.getD d undef) ON)→(∀ q∈s,q.1∈mk)→s.Pairwise (fun p q=>p.1≠q.1)→wpList P ops Q (ops.toList.drop k) a w):cZ P n (.region id ops true) Q l W:=fun a0 ha0=>by
 refine wp_region_any hm (gR (fr:=fr) (G:=fun s w=>Gp s w) (I:=MkI mk vals Pm) (V:=MkV mk) (t0:=a0.tmps) (d0:=a0.defers) hfr9 hk hl (by rw [ha0.size];exact ht) (fun i hi=>?_) (fun s L a w hR hall hnot=>?_) _ [] _ _ _ (by simp) (eK _) ?_ ?_ ⟨rfl,rfl,fun _ _=>rfl,?_,?_,?_⟩)
 ·intro s L a w hF hG hV hs hcl hr hD
  by_cases him:i∈mk
  ·have hnew:∀ ON',(i,ON')∉s:=fun ON' h9=>by
    have:=(hV.1 i him).2 ⟨ON',h9⟩
    rw [hr.1] at this;cases this
   refine wpOp_mono ?_ (hmake i him s a0 a w ha0 hF hG hnew hD)
   rintro a' w' ⟨v,ON,rfl,hP,hS'⟩
   have hsz:i < ops.size:=Nat.lt_trans (hmk i him) hk
   refine ⟨(i,ON)::s,v,rfl,⟨fun j hj=>?_,fun q hq=>?_,List.Pairwise.cons (fun q hq e=>hnew q.2 (by rw [show i=q.1 from e];exact hq)) hV.2.2⟩,hS',fun d hd=>⟨fun h9=>absurd him h9,fun _=>⟨ON,List.mem_cons_self,hP⟩⟩,fun j d hd _ hj=>⟨hj.1,fun hjm=>?_⟩⟩
   ·by_cases hji:j=i
    ·subst hji
     rw [mQ (by rw [hs];exact hsz)]
     exact ⟨fun _=>⟨ON,List.mem_cons_self⟩,fun _=>rfl⟩
    ·rw [iH (Ne.symm hji),hV.1 j hj]
     exact ⟨fun ⟨N',h9⟩=>⟨N',List.mem_cons_of_mem _ h9⟩,fun ⟨N',h9⟩=>by
      rcases List.mem_cons.1 h9 with h9 | h9
      ·exact absurd (congrArg Prod.fst h9) hji
      ·exact ⟨N',h9⟩⟩
   ·rcases List.mem_cons.1 hq with rfl | hq
    ·exact him
    ·exact hV.2.1 q hq
   ·obtain ⟨N',h1,h2⟩:=hj.2 hjm
    exact ⟨N',List.mem_cons_of_mem _ h1,h2⟩
  ·obtain ⟨o,ho,hgd,hrun⟩:=hpure i hi him s a0 a w ha0 hF hG hD
   unfold wpOp
   simp only [ho,eE hgd,if_true]
   refine .inl ?_
   unfold Oper.wp
   rw [hrun]
   refine ⟨s,_,rfl,⟨fun j hj=>?_,hV.2⟩,hG,fun d hd=>⟨fun _=>rfl,fun h9=>absurd h9 him⟩,fun j d hd _ hj=>hj⟩
   rw [iH (fun e=>him (by rw [e];exact hj))]
   exact hV.1 j hj
 ·have hd:∀ i d,i < k→(ops[i]?).bind (·.dst)=some d→MkI mk vals Pm s i (a.tmps.getD d undef) w:=fun i d hi hd=>hR.done i d hd (hall i hi)
  exact h s a w hR.glob (by rw [hR.size,ha0.size]) (by rw [hR.defers,ha0.defers]) (fun t v ht' hv=>by rw [hR.frame t ht'];exact ha0.at_ t v hv) (fun i d hi him hd'=>(hd i d hi hd').1 him) (fun i him=>(hR.cons.1 i him).1 (hall i (hmk i him))) (fun i d him hd'=>(hd i d (hmk i him) hd').2 him) hR.cons.2.1 hR.cons.2.2
 ·intro j hj
  rw [Array.getD_eq_getD_getElem?,Array.getElem?_replicate] at hj
  split at hj<;>simp at hj
 ·intro i _
  rw [Array.getD_eq_getD_getElem?,Array.getElem?_replicate]
  split<;>rfl
 ·exact hS
 ·refine ⟨fun i _=>?_,fun q hq=>(by cases hq),List.Pairwise.nil⟩
  rw [Array.getD_eq_getD_getElem?,Array.getElem?_replicate]
  constructor
  ·intro h9;split at h9<;>simp at h9
  ·rintro ⟨_,h9⟩;cases h9
 ·intro i d hd h9
  rw [Array.getD_eq_getD_getElem?,Array.getElem?_replicate] at h9
  split at h9<;>simp at h9
end
theorem uI {a:NfV} {ws:List Int}:mZ a [] ws=dS a ws:=by
 unfold mZ dS
 split
 ·rfl
 ·rfl
theorem uJ (a:NfV) (wa:Option Addr) (wl wc:Nat) (ws:List Int) (w:World) (hA0:NIn w a) (hW:Row w wa ws) (hwl:ws.length=wl) (hwm:wl≤9223372036854775807) :
  Calls prog 17 #[a.val,.slice wa wl wc] w (fun e w'=>∃ b:Bool,e = .returned (.tuple #[.bool b,.int .i64 (dS a ws)])∧(dS a ws=0→(b=true↔rH a ws))∧(dS a ws≠0→b=false)∧Below w.heap.size w w'):=by
 refine bH (args:=[a.val,.slice wa wl wc]) func17 rfl ntmps17 rfl ?_
 have hS:=St.start w
 have hA:bV w [] (fun W=>NIn W a):=iN hA0
 refine aF (aH (bZ (cs:=[_,_,_,_,_]) hS rfl rfl rfl fun B1 W1 hS=>aB rfl rfl (aB rfl rfl (aG (XF.thenN (aF (aH (aQ (vs:=[_,_,_,_,_]) isAgg24 sizeOf24 rfl (aK.own (j:=0) (m:=5) (hS.at_ 0 rfl) rfl) rfl (aA rfl rfl (aX (vs:=[_,_,_]) goes_26 rfl (rF a none 0 0 [] wa wl wc ws _ (hA0.below hS.below) (.inl rfl) rfl (by decide) (hW.below hS.below) hwl hwm) rfl ?_))))))))))
 rintro e W9 ⟨rfl,hb9⟩
 rw [uI]
 refine ⟨_,rfl,?_⟩
 have hS':=hS.grow hb9;clear hS;have hS:=hS';clear hS'
 refine aB rfl rfl (aG (XF.thenN (aF (aF (aH (aA rfl rfl (eW rfl rfl rfl (aG (XF.thenN (aV rfl (fun hc=>?_) (fun hc=>?_)))))))))))
 ·have hc13:=of_decide_eq_true hc;clear hc
  refine aF (aH (aA rfl rfl (aB rfl rfl (aB rfl rfl (aG (XF.thenN (bK (XF.thenR (XF.res (nK results17 rfl rfl) ?_)))))))))
  exact ⟨false,rfl,fun h=>absurd h hc13,fun _=>rfl,hS.below⟩
 ·have hc13:=of_decide_eq_false hc;clear hc
  have hE:dS a ws=0:=Decidable.of_not_not hc13
  have h0:cO a=0:=by
   unfold dS at hE
   split at hE
   ·rename_i h1;exact absurd hE h1
   ·rename_i h1;exact Decidable.of_not_not h1
  obtain ⟨n,k,s,e9,hn,hk,hs0,he0,hn1,hn4,hk4,hsn,hen,hal,hO⟩:=jG h0
  refine aP (XF.thenN (aF (aH (aQ (vs:=[_,_,_,_,_]) isAgg24 sizeOf24 rfl (aK.own (j:=0) (m:=5) (hS.at_ 0 rfl) rfl) rfl (aI (o':=2) dG rfl rfl rfl (aJ isAgg3 rfl (aD (hS.at_ 0 rfl) rfl) rfl (bL (us:=[(0,.int .i64 _)]) hS underlying25 sizeOf3 zeroValue3 rfl rfl rfl (dP _) rfl fun B2 W2 hS=>?_)))))))
  obtain ⟨K2,k2,g2,hS2⟩:=(hS.keep [] (fun q hq=>by cases hq)).ownKeepN
  clear hS;have hS:=hS2;clear hS2
  refine aX (vs:=[_,_]) pW rfl (kV a n (k:Int) (some ⟨B2,0,none⟩) 1 1 [a.s0] K2 _ [] K2 w _ hS (fun q hq=>hq) (hA.moreN (fun q hq=>by cases hq)) (fun h9 hk9=>.inr ⟨_,0,rfl,fun i hi=>by obtain rfl:i=0:=(by simpa using hi);exact aD (g2 h9 hk9) rfl⟩) rfl (by decide) (fun y hy=>(by obtain rfl:y=a.s0:=(by simpa using hy);omega)) hn hn1 hn4 hO) rfl ?_
  rintro e W9 ⟨IB,bs,hb1,hH1,rfl,hS9⟩
  refine ⟨_,rfl,?_⟩
  clear hS;have hS:=hS9;clear hS9
  refine aB rfl rfl (aG (XF.thenN (aF (aF (aH (aB rfl rfl (aG (XF.thenN (aM ?_)))))))))
  refine cB (fun m l W=>∃ (i IB:Nat) (bs:List Bool),i≤wl∧m=wl - i∧l=[(1,.slice wa wl wc),(2,.pointer (some ⟨B1,0,none⟩)),(7,.slice (some ⟨IB,0,none⟩) n n),(8,.int .i64 (i:Int))]∧bs.length=n∧(∀ q:Nat,bs.getD q false=true↔(dH a.ar (Hd a.ar (fun q:Nat=>(q:Int)=a.s0)) (ws.take i)) q)∧St w ((IB,zB bs,4)::(B1,a.cells,24)::[]) [] K2 W) (wl - 0) ([(1,_),(2,_),(7,_),(8,_)]) ⟨rfl,rfl,rfl,rfl,trivial⟩ (⟨0,IB,bs,Nat.zero_le _,rfl,rfl,hb1,fun q=>(by rw [hH1 q];exact fE (fun q=>by simp) q),hS.keep K2 (fun q hq=>by simp [hq])⟩) ?_
  clear hS
  clear hb1 hH1
  rintro m l W ⟨i,IB,bs,hi,rfl,rfl,hb1,hmem,hS⟩
  refine aF (aF (aH (aA rfl rfl (aA rfl rfl (bN underlying25 rfl rfl (bB rfl rfl rfl (aG (XF.thenN (aV rfl (fun hc=>?_) (fun hc=>?_))))))))))
  ·have hc23:=of_decide_eq_true hc;clear hc
   obtain ⟨b,off,y,hwa,hy,hyc⟩:=hW.at1 (show i < ws.length by omega)
   refine aP (XF.thenN (aF (aM ?_)))
   have hS9:=hS.keep K2 (fun q hq=>by simp [hq])
   clear hS;have hS:=hS9;clear hS9
   refine regMkF (fr:=fun d => !([26,27,28,29,30,31,32].contains d)) (mk:=[6]) (k:=7) (vals:=(fun i8=>match i8 with | 0=>a.val | 1=>.slice wa wl wc | 2=>.int .i64 (i:Int) | 3=>.pointer (some ⟨b,off+i * 1,none⟩) | 4=>.int .i64 y | _=>.slice (some ⟨IB,0,none⟩) n n)) (Pm:=fun i v ON=>ON=[(0,[v],0)]) (fun s w9=>(s=[]∧St w ((IB,zB bs,4)::(B1,a.cells,24)::[]) [] K2 w9)∨(∃ OB b2,s=[(6,[(0,[.slice (some ⟨OB,0,none⟩) n n],0)])]∧b2.length=n∧HdB a.ar (By9 a.ar y (dH a.ar (Hd a.ar (fun q:Nat=>(q:Int)=a.s0)) (ws.take i))) b2∧St w ((OB,zB b2,4)::((IB,zB bs,4)::(B1,a.cells,24)::[])) [] K2 w9)) (by intro i d hi hd;match i,hi with | 0,_=>cases hd;rfl | 1,_=>cases hd;rfl | 2,_=>cases hd;rfl | 3,_=>cases hd;rfl | 4,_=>cases hd;rfl | 5,_=>cases hd;rfl | 6,_=>cases hd;rfl | i+7,h=>omega) cX (.inl ⟨rfl,hS.drew⟩) (Nat.le_of_ble_eq_true (by kernel_rfl)) (by kernel_rfl) (by kernel_rfl) ?_ ?_ (by decide) ?_
   ·intro i9 hi9 hin s a0 c9 w9 ha0 hF9 hG hD
    have hfr:∀ t v,(!([26,27,28,29,30,31,32].contains t))=true→look _ t=some v→c9.eval (.tmp t)=v:=fun t v h1 h2=>(hF9 t h1).trans (ha0.at_ t v h2)
    have hb2:w9.heap[B1]?=some (.cells a.cells.toArray 24 (0,0))∧w9.cell? ⟨b,off+i * 1,none⟩=some (.int .i64 y):=by
     rcases hG with ⟨_,h9⟩ | ⟨OB,b2,_,_,_,h9⟩
     ·exact ⟨h9.at_ 1 rfl,h9.old hyc⟩
     ·exact ⟨h9.at_ 2 rfl,h9.old hyc⟩
    match i9,hi9,hin with
    | 0,_,_=>exact ⟨_,rfl,rfl,by
     exact fS (l:=[(2,.pointer (some ⟨B1,0,none⟩))]) (vs:=[_,_,_,_,_]) isAgg24 sizeOf24 rfl (aK.own (j:=0) (m:=5) hb2.1 rfl) c9.eval (fK (hfr 2 _ (by kernel_rfl) rfl))⟩
    | 1,_,_=>exact ⟨_,rfl,rfl,by
     exact bY (l:=[(1,.slice wa wl wc)]) rfl c9.eval (fK (hfr 1 _ (by kernel_rfl) rfl))⟩
    | 2,_,_=>exact ⟨_,rfl,rfl,by
     exact bY (l:=[(8,.int .i64 (i:Int))]) rfl c9.eval (fK (hfr 8 _ (by kernel_rfl) rfl))⟩
    | 3,_,_=>exact ⟨_,rfl,rfl,by
     have h9:=(hD 1 27 (by kernel_rfl)).1 (by decide)
     have h8:=(hD 2 28 (by kernel_rfl)).1 (by decide)
     exact cG (l:=[(27,.slice wa wl wc),(28,.int .i64 (i:Int))]) (j:=i) (b:=b) (o:=off) (m:=wl) (c:=wc) underlying25 sizeOf3 (by show some (Value.slice _ _ _)=_;rw [hwa]) rfl rfl (by omega) rfl c9.eval (sZ h9 h8)⟩
    | 4,_,_=>exact ⟨_,rfl,rfl,by
     have h9:=(hD 3 29 (by kernel_rfl)).1 (by decide)
     exact bQ (l:=[(29,.pointer (some ⟨b,off+i * 1,none⟩))]) isAgg3 rfl hb2.2 c9.eval (fK h9)⟩
    | 5,_,_=>exact ⟨_,rfl,rfl,by
     exact bY (l:=[(7,.slice (some ⟨IB,0,none⟩) n n)]) rfl c9.eval (fK (hfr 7 _ (by kernel_rfl) rfl))⟩
    | 6,_,h9=>exact absurd (by decide) h9
    | i+7,h9,_=>omega
   ·intro i9 him s a0 c9 w9 ha0 hF9 hG hnew hD
    obtain rfl:i9=6:=by simpa using him
    have h0x:=(hD 0 26 (by kernel_rfl)).1 (by decide)
    have h1x:=(hD 4 30 (by kernel_rfl)).1 (by decide)
    have h2x:=(hD 5 31 (by kernel_rfl)).1 (by decide)
    rcases hG with ⟨rfl,h9⟩ | ⟨OB,b2,rfl,_⟩
    ·refine mk_call (vs:=[a.val,.int .i64 y,.slice (some ⟨IB,0,none⟩) n n]) rfl pX (by simp only [List.map_cons,List.map_nil,h0x,h1x,h2x]) ((tF a n (k:Int) y (dH a.ar (Hd a.ar (fun q:Nat=>(q:Int)=a.s0)) (ws.take i)) IB bs [] _ [] K2 w _ h9 (fun q hq=>by cases hq) hA hn hn1 hn4 hO hb1 hmem).mono ?_)
     rintro e w2 ⟨OB,b2,hb2,hH2,rfl,h8⟩
     exact ⟨_,[(0,[_],0)],rfl,rfl,.inr ⟨OB,b2,rfl,hb2,hH2,h8⟩⟩
    ·exact absurd List.mem_cons_self (hnew _)
   ·intro s c9 w9 hG hsz hdf hfr hval hin hmk hkeys hdist
    obtain ⟨O6,h6,hP6⟩:=hmk 6 32 (by decide) rfl
    rcases hG with ⟨rfl,h9⟩ | ⟨OB,b2,rfl,hb2,hH2,hS2⟩
    ·cases h6
    have e6:c9.tmps.getD 32 undef = .slice (some ⟨OB,0,none⟩) n n:=by
     rw [show O6=_ from hP6] at h6
     simpa using h6
    clear hS;have hS:=hS2;clear hS2
    refine (show bG _ _ _ _ (List.drop 7 _) [(1,.slice wa wl wc),(2,.pointer (some ⟨B1,0,none⟩)),(8,.int .i64 (i:Int)),(32,.slice (some ⟨OB,0,none⟩) n n)] w9 from ?_) c9 (sU.has hsz hdf ⟨hfr 1 _ (by kernel_rfl) rfl,hfr 2 _ (by kernel_rfl) rfl,hfr 8 _ (by kernel_rfl) rfl,e6,trivial⟩)
    refine aB rfl rfl (aG (XF.blkN (XF.thenN (aH (aA rfl rfl (aS rfl rfl (IntWalk.i64_in _ (by omega)) rfl (aB rfl rfl (aG ?_))))))))
    exact XF.round (wl - (i+1)) [(1,_),(2,_),(7,_),(8,_)] (by omega) ⟨rfl,rfl,rfl,rfl,trivial⟩ ⟨i+1,OB,b2,by omega,rfl,rfl,hb2,fun q=>(by
     rw [hH2 q,List.take_add_one,hy]
     show _↔dH a.ar _ (ws.take i++[y]) q
     rw [runNP_snoc]),((hS.keep K2 (fun q hq=>by simp [hq])).perm (List.Perm.swap _ _ _)).tail⟩
  ·have hc23:=of_decide_eq_false hc;clear hc
   rw [List.take_of_length_le (by omega)] at hmem
   refine bS (XF.thenX (XF.thenX (XF.blkX (XF.thenN (aF (aH (aA rfl rfl (aI (o':=3) eA rfl rfl rfl (aJ isAgg3 rfl (aD (hS.at_ 1 rfl) rfl) rfl (aL (j:=e9) underlying51 sizeOf4 rfl rfl (he0) (by omega) rfl rfl (aJ isAgg4 rfl (aD (hS.at_ 0 rfl) (kT (by omega))) rfl (aB rfl rfl (aB rfl rfl (aG (XF.thenN (bK (XF.res (nK results17 rfl rfl) ?_)))))))))))))))))
   exact ⟨_,by rw [hE],fun _=>(by rw [hmem];unfold rH;rw [show a.e0.toNat=e9 by omega]),fun h=>absurd hE h,hS.below⟩
def qK (bs:List Bool) (ls:List Int) (x:Int) (n:Nat):Prop:=∃ i,i < n∧bs.getD i false=true∧ls.getD i 0=x
theorem BRow.getN {W:World} {aa:Option Addr} {bs:List Bool} {i:Nat} (h:BRow W aa bs) (hi:i < bs.length):∃ b off,aa=some ⟨b,off,none⟩∧W.cell? ⟨b,off+i * 1,none⟩=some (.bool (bs.getD i false)):=by
 obtain ⟨b,off,e,hc⟩:=h i _ (List.getElem?_eq_getElem hi)
 exact ⟨b,off,e,by rw [hc];simp [hi]⟩
theorem uK (ba:Option Addr) (n bc:Nat) (bs:List Bool) (la:Option Addr) (ll lc:Nat) (ls:List Int) (x:Int) (w:World) (hB:BRow w ba bs) (hL:Row w la ls) (hbn:bs.length=n) (hln:ls.length=ll) (hnl:n=ll) (hn4:n≤4096) :
  Calls prog 42 #[.slice ba n bc,.slice la ll lc,.int .i64 x] w (fun e w'=>∃ b:Bool,e = .returned (.bool b)∧(b=true↔qK bs ls x n)∧Below w.heap.size w w'):=by
 refine bH (args:=[.slice ba n bc,.slice la ll lc,.int .i64 x]) func42 rfl ntmps42 rfl ?_
 have hS:=St.start w
 refine aF (aH (aB rfl rfl (aG (XF.thenN (aF (aF (aH (aB rfl rfl (aG (XF.thenN (aM (cB (fun m l W=>∃ i:Nat,i≤n∧m=n - i∧l=[(0,.slice ba n bc),(1,.slice la ll lc),(2,.int .i64 x),(7,.int .i64 (i:Int))]∧¬ qK bs ls x i∧St w [] [] [] W) (n - 0) ([(0,_),(1,_),(2,_),(7,_)]) ⟨rfl,rfl,rfl,rfl,trivial⟩ (⟨0,Nat.zero_le _,rfl,rfl,fun ⟨j,hj,_⟩=>absurd hj (Nat.not_lt_zero _),hS.clear⟩) ?_))))))))))))
 clear hS
 rintro m l W ⟨i,hi,rfl,rfl,hno,hS⟩
 refine aF (aF (aH (aA rfl rfl (aA rfl rfl (bN underlying51 rfl rfl (bB rfl rfl rfl (aG (XF.thenN (aV rfl (fun hc=>?_) (fun hc=>?_))))))))))
 ·have hc11:=of_decide_eq_true hc;clear hc
  obtain ⟨b,off,hba,hbc⟩:=hB.getN (i:=i) (by omega)
  have k1:=hS.old hbc
  obtain ⟨b2,off2,y,hla,hy,hyc⟩:=hL.at1 (show i < ls.length by omega)
  have k2:=hS.old hyc
  have hyl:ls.getD i 0=y:=by rw [List.getD_eq_getElem?_getD,hy];rfl
  refine aP (XF.thenN (aF (aM (aF (aH (aA rfl rfl (aA rfl rfl ?_)))))))
  refine aL (j:=i) (b:=b) (o:=off) (m:=n) (c:=bc) underlying51 sizeOf4 (by show some (Value.slice _ _ _)=_;rw [hba]) rfl rfl (by omega) rfl rfl ?_
  refine aJ isAgg4 rfl (k1) rfl (aA rfl rfl (aZ (d:=18) rfl (fun hc=>?_) (fun hc=>?_)))
  ·have hg18:=hc;clear hc
   refine aC (d:=18) rfl rfl (aA rfl rfl (aC (d:=18) rfl rfl (aA rfl rfl (aC (d:=18) rfl rfl ?_))))
   refine aL (j:=i) (b:=b2) (o:=off2) (m:=ll) (c:=lc) underlying25 sizeOf3 (by show some (Value.slice _ _ _)=_;rw [hla]) rfl rfl (by omega) rfl rfl ?_
   refine aC (d:=18) rfl rfl (aJ isAgg3 rfl (k2) rfl (aC (d:=18) rfl rfl (aA rfl rfl (aC (d:=18) rfl rfl (dB rfl rfl rfl (aN rfl rfl rfl (aG (XF.thenN (aV rfl (fun hc=>?_) (fun hc=>?_))))))))))
   ·have hc25:=of_decide_eq_true hc;clear hc
    refine aF (aH (aB rfl rfl (aG (XF.thenN (bK (XF.blkR (XF.thenR (XF.thenR (XF.blkR (XF.thenR (XF.res (bT results42 rfl) ?_)))))))))))
    have h1:bs.getD i false=true:=by simpa using hg18
    have h2:y=x:=by simpa using hc25
    exact ⟨true,rfl,⟨fun _=>⟨i,by omega,h1,hyl.trans h2⟩,fun _=>rfl⟩,hS.below⟩
   ·have hc25:=of_decide_eq_false hc;clear hc
    refine aP (XF.blkN (XF.thenN (aH (aA rfl rfl (aS rfl rfl (IntWalk.i64_in _ (by omega)) rfl (aB rfl rfl (aG ?_)))))))
    have h2:¬ y=x:=by simpa using hc25
    exact XF.round (n - (i+1)) [(0,_),(1,_),(2,_),(7,_)] (by omega) ⟨rfl,rfl,rfl,rfl,trivial⟩ ⟨i+1,by omega,rfl,rfl,fun ⟨j,hj,j1,j2⟩=>(by
     rcases Nat.lt_or_ge j i with h9 | h9
     ·exact hno ⟨j,h9,j1,j2⟩
     ·obtain rfl:j=i:=by omega
      exact h2 (hyl.symm.trans j2)),hS.clear⟩
  ·have hg18:=hc;clear hc
   refine aE (d:=18) rfl rfl rfl rfl (aE (d:=18) rfl rfl rfl rfl (aE (d:=18) rfl rfl rfl rfl (aE (d:=18) rfl rfl rfl rfl (aE (d:=18) rfl rfl rfl rfl (aE (d:=18) rfl rfl rfl rfl (aR rfl rfl rfl (aG (XF.thenN (bX rfl (aP (XF.blkN (XF.thenN (aH (aA rfl rfl (aS rfl rfl (IntWalk.i64_in _ (by omega)) rfl (aB rfl rfl (aG ?_)))))))))))))))))
   have h1:¬ bs.getD i false=true:=by simpa using hg18
   exact XF.round (n - (i+1)) [(0,_),(1,_),(2,_),(7,_)] (by omega) ⟨rfl,rfl,rfl,rfl,trivial⟩ ⟨i+1,by omega,rfl,rfl,fun ⟨j,hj,j1,j2⟩=>(by
    rcases Nat.lt_or_ge j i with h9 | h9
    ·exact hno ⟨j,h9,j1,j2⟩
    ·obtain rfl:j=i:=by omega
     exact h1 j1),hS.clear⟩
 ·have hc11:=of_decide_eq_false hc;clear hc
  obtain rfl:i=n:=by omega
  refine bS (XF.thenX (XF.thenX (XF.blkX (XF.thenN (aF (aH (aB rfl rfl (aG (XF.thenN (bK (XF.res (bT results42 rfl) ?_)))))))))))
  exact ⟨false,rfl,⟨fun h=>(by cases h),fun h=>absurd h hno⟩,hS.below⟩
theorem goes_41:bA prog 41=true:=by kernel_rfl
theorem goes_42:bA prog 42=true:=by kernel_rfl
theorem rU {W:World} {B:Nat} {bs:List Bool} {T:TypeId} (h:W.heap[B]?=some (.cells (zB bs).toArray T (0,0))):BRow W (some ⟨B,0,none⟩) bs:=fun i v hi=>by
 have hl:=(List.getElem?_eq_some_iff.1 hi).1
 refine ⟨B,0,rfl,aD h ?_⟩
 rw [kT hl,List.getD_eq_getElem?_getD,hi];rfl
section
variable {L:List ArV} {K:Int} {E N n:Nat} {P:Nat→Prop} {fs:List Int} {bs:List Bool} {x:Int}
theorem near_nx (hF:FarOk L K E N fs) (hH:HdB L (By9 L x P) bs) (h:qK bs fs (n:Int) N):Nx L K E P x n:=by
 obtain ⟨i,hi,h1,h2⟩:=h
 exact ⟨i,(hH i).1 h1,(hF.ds hi).1 h2⟩
theorem nx_near (hF:FarOk L K E N fs) (hO:dX N K L) (hH:HdB L (By9 L x P) bs) (h:Nx L K E P x n):qK bs fs (n:Int) N:=by
 obtain ⟨q,h1,h2⟩:=h
 have hq:q < N:=mF hO (fun q hq=>rZ hO hq) h1
 exact ⟨q,hq,(hH q).2 h1,(hF.ds hq).2 h2⟩
theorem LsI.some_nx (hO:dX N K L) (hI:LsI L K E P (n+1)):0 < K∧∃ y:Nat,(y:Int) < K∧Nx L K E P (y:Int) n:=by
 obtain ⟨p,r,hp,hK,⟨t,ht,e1,e2,e3⟩,hd⟩:=hI.any (A:=P) ⟨fun q h=>h,fun q h _=>h⟩
 have hb:=hO t ht
 refine ⟨hK,(max t.s 0).toNat,by omega,nx_of (A:=P) (fun q h=>h) ⟨ht,⟨p,hp,e1⟩,e2,r,e3,hd⟩ (by omega)⟩
end
theorem uL (a:NfV) (n k s e9:Nat) (hst:a.st=(n:Int)) (hsy:a.sy=(k:Int)) (hs0:a.s0=(s:Int)) (he0:a.e0=(e9:Int)) (Kt:List (Nat×World)) (Ot:Own) (G:aU) (K:List (Nat×World)) (w0 w:World) (hS0:St w0 Ot G K w) (hKt:∀ q∈Kt,q∈K) (hA:bV w0 Kt (fun W=>NIn W a)) (hal:a.al≤65536) (hl:a.ar.length=a.al) (hn4:n≤4096) (he:e9 < n) (hO:dX n (k:Int) a.ar) :
  Calls prog 41 #[a.val] w (fun e w'=>∃ (FB:Nat) (fs:List Int),e = .returned (.slice (some ⟨FB,0,none⟩) n n)∧FarOk a.ar (k:Int) e9 n fs∧(∀ p,p < n→fs.getD p 0≤8193)∧St w0 ((FB,zI fs,3)::Ot) G K w'):=by
 obtain ⟨st,sy,s0,e0,aa,al,ac,ar⟩:=a
 dsimp only at hst hsy hs0 he0 hal hl hO
 subst hst hsy hs0 he0
 exact uH n s e9 (k:Int) aa al ac ar Kt Ot G K w0 w hS0 hKt (fun h9 hk9=>(hA h9 hk9).arow) hl hal hn4 he (by omega) hO
theorem oT (a:NfV) (w:World) (hA0:NIn w a) :
  Calls prog 19 #[a.val] w (fun e w'=>∃ (ok:Bool) (l:List Int) (wa:Option Addr) (wc:Nat),e = .returned (.tuple #[.slice wa l.length wc,.bool ok,.int .i64 (cO a)])∧rK a ok l∧l.length≤8193∧Row w' wa l∧Below w.heap.size w w'):=by
 refine bH (args:=[a.val]) func19 rfl ntmps19 rfl ?_
 have hS:=St.start w
 have hA:bV w [] (fun W=>NIn W a):=iN hA0
 have hlen:=hA0.alen
 refine aF (aH (bZ (cs:=[_,_,_,_,_]) hS rfl rfl rfl fun B1 W1 hS=>aB rfl rfl (aB rfl rfl (aB rfl rfl (aG (XF.thenN (aF (aH (aQ (vs:=[_,_,_,_,_]) isAgg24 sizeOf24 rfl (aK.own (j:=0) (m:=5) (hS.at_ 0 rfl) rfl) rfl (bW (vs:=[_]) hS pV rfl (pM a _ (hA0.below hS.below)) rfl fun W2 hS=>aB rfl rfl (aG (XF.thenN (aF (aF (aH (aA rfl rfl (eW rfl rfl rfl (aG (XF.thenN (aV rfl (fun hc=>?_) (fun hc=>?_)))))))))))))))))))))
 ·have hc15:=of_decide_eq_true hc;clear hc
  refine aF (aH (aA rfl rfl (aB rfl rfl (aB rfl rfl (aB rfl rfl (aG (XF.thenN (bK (XF.thenR (XF.res (qS results19 rfl rfl rfl) ?_))))))))))
  exact ⟨false,[],none,0,rfl,⟨fun _=>⟨rfl,rfl⟩,fun h=>absurd h hc15⟩,Nat.zero_le _,.inl rfl,hS.below⟩
 ·have hc15:=of_decide_eq_false hc;clear hc
  have h0:cO a=0:=Decidable.of_not_not hc15
  obtain ⟨n,k,s,e9,hn,hk,hs0,he0,hn1,hn4,hk4x,hsn,hen,hal,hO⟩:=jG h0
  have hKt:∀ q∈([]:List (Nat×World)),q∈([]:List (Nat×World)):=fun q hq=>hq
  have hs9:a.s0.toNat=s:=by omega
  have he9:a.e0.toNat=e9:=by omega
  refine aP (XF.thenN (aF (aH (aQ (vs:=[_,_,_,_,_]) isAgg24 sizeOf24 rfl (aK.own (j:=0) (m:=5) (hS.at_ 0 rfl) rfl) rfl (aX (vs:=[_]) goes_41 rfl (uL a n k s e9 hn hk hs0 he0 [] _ [] [] w _ (hS.keep [] (fun q hq=>by cases hq)) hKt hA hal hlen hn4 hen hO) rfl ?_)))))
  rintro e W9 ⟨FB,fs,rfl,hF,hFb,hS9⟩
  refine ⟨_,rfl,?_⟩
  obtain ⟨K2,k2,gF,hS2⟩:=hS9.ownKeepN
  clear hS hS9;have hS:=hS2;clear hS2
  have hfl:=hF.len
  refine aB rfl rfl (aG (XF.thenN (aF (aF ?_))))
  have hcF:=aD (gF (hS.keep K2 (fun q hq=>by simp [hq])) (fun q hq=>hq)) (dN (l:=fs) (i:=s) (by omega))
  refine aH (aA rfl rfl (aI (o':=2) dG rfl rfl rfl (aJ isAgg3 rfl (aD (hS.at_ 0 rfl) rfl) rfl (aL (j:=s) (b:=FB) (o:=0) (m:=n) (c:=n) underlying25 sizeOf3 rfl rfl (by exact hs0) (by omega) rfl rfl (aJ isAgg3 rfl (hcF) rfl (bB rfl rfl rfl (aG (XF.thenN (aV rfl (fun hc=>?_) (fun hc=>?_))))))))))
  ·have hc24:=of_decide_eq_true hc;clear hc
   have hneg:fs.getD s 0 < 0:=by simpa using hc24
   refine aF (aH (aB rfl rfl (aB rfl rfl (aB rfl rfl (aG (XF.thenN (bK (XF.thenR (XF.res (qS results19 rfl rfl rfl) ?_)))))))))
   exact ⟨false,[],none,0,by rw [h0];rfl,⟨fun h=>absurd h0 h,fun _=>.inl ⟨rfl,rfl,by rw [hs9,he9,hk];exact (hF.neg hsn).1 hneg⟩⟩,Nat.zero_le _,.inl rfl,hS.below⟩
  ·have hc24:=of_decide_eq_false hc;clear hc
   have hpos:0≤fs.getD s 0:=Int.not_lt.1 (by simpa using hc24)
   obtain ⟨m0,hm0⟩:∃ m0:Nat,fs.getD s 0=(m0:Int):=⟨(fs.getD s 0).toNat,by omega⟩
   have hmb:=hFb s hsn
   have hstart:=hF.start hsn hm0
   refine aP (XF.thenN (aF (aH (aB rfl rfl (aG (XF.thenN (aF (aH (aQ (vs:=[_,_,_,_,_]) isAgg24 sizeOf24 rfl (aK.own (j:=0) (m:=5) (hS.at_ 0 rfl) rfl) rfl (aI (o':=2) dG rfl rfl rfl (aJ isAgg3 rfl (aD (hS.at_ 0 rfl) rfl) rfl (bL (us:=[(0,.int .i64 _)]) hS underlying25 sizeOf3 zeroValue3 rfl rfl rfl (dP _) rfl fun B3 W3 hS=>?_))))))))))))
   obtain ⟨K4,hk4,g4,hS2⟩:=(hS.keep K2 (fun q hq=>by simp [hq])).ownKeepN
   clear hS;have hS:=hS2.newG 3 1;clear hS2
   refine aX (vs:=[_,_]) pW rfl (kV a n (k:Int) (some ⟨B3,0,none⟩) 1 1 [a.s0] K4 _ _ K4 w _ hS (fun q hq=>hq) (hA.moreN (fun q hq=>by cases hq)) (fun h9 hk9=>.inr ⟨_,0,rfl,fun j hj=>by obtain rfl:j=0:=(by simpa using hj);exact aD (g4 h9 hk9) rfl⟩) rfl (by decide) (fun y hy=>(by obtain rfl:y=a.s0:=(by simpa using hy);omega)) hn hn1 hn4 hO) rfl ?_
   rintro e W9 ⟨IB,bs1,hb1,hH1,rfl,hS9⟩
   refine ⟨_,rfl,?_⟩
   clear hS;have hS:=hS9;clear hS9
   refine aB rfl rfl (aG (XF.thenN (aF (aF ?_))))
   have hcF3:=aD (gF (hS.keep K4 (fun q hq=>by simp [hq])) (fun q hq=>hk4 q hq)) (dN (l:=fs) (i:=s) (by omega))
   rw [hm0] at hcF3
   refine aH (aA rfl rfl (aI (o':=2) dG rfl rfl rfl (aJ isAgg3 rfl (aD (hS.at_ 1 rfl) rfl) rfl (aL (j:=s) (b:=FB) (o:=0) (m:=n) (c:=n) underlying25 sizeOf3 rfl rfl (by exact hs0) (by omega) rfl rfl (aJ isAgg3 rfl (hcF3) rfl (aB rfl rfl (aG (XF.thenN (aM ?_)))))))))
   refine cB (fun m l W=>∃ (left:Nat) (u:List Int) (IB:Nat) (bs:List Bool) (wa:Option Addr) (wc:Nat),m=left+1∧l=[(1,.pointer (some ⟨B1,0,none⟩)),(6,.slice (some ⟨FB,0,none⟩) n n),(7,.slice wa u.length wc),(8,.slice (some ⟨IB,0,none⟩) n n),(9,.int .i64 (left:Int))]∧LsI a.ar (k:Int) e9 (dH a.ar (Hd a.ar (fun q=>q=a.s0.toNat)) u) left∧(∀ q:Nat,bs.getD q false=true↔(dH a.ar (Hd a.ar (fun q=>q=a.s0.toNat)) u) q)∧(∀ w9,LsW a.ar (k:Int) e9 left (dH a.ar (Hd a.ar (fun q=>q=a.s0.toNat)) u) w9→LsW a.ar (k:Int) e9 m0 (Hd a.ar (fun q=>q=a.s0.toNat)) (u++w9))∧u.length+left=m0∧bs.length=n∧St w ((IB,zB bs,4)::(B1,a.cells,24)::[]) [⟨.slice wa u.length wc,u.length,zI u,3,1⟩] K4 W) (m0+1) ([(1,_),(6,_),(7,_),(8,_),(9,_)]) ⟨rfl,rfl,rfl,rfl,rfl,trivial⟩ (⟨m0,[],IB,bs1,none,0,rfl,rfl,by rw [hs9];exact hstart,fun q=>(by rw [hH1 q];exact fE (fun q=>by simp;omega) q),fun w9 h=>h,by simp,hb1,(hS.keep K4 (fun q hq=>by simp [hq]))⟩) ?_
   clear hS
   clear hb1 hH1
   rintro m l W ⟨left,u,IB,bs,wa,wc,rfl,rfl,hI,hmem,hcont,hlen9,hbl,hS⟩
   refine aF (aF (aH (aA rfl rfl (dA rfl rfl rfl (aG (XF.thenN (aV rfl (fun hc=>?_) (fun hc=>?_))))))))
   ·have hc36:=of_decide_eq_true hc;clear hc
    obtain ⟨lf,rfl⟩:∃ lf,left=lf+1:=⟨left - 1,by omega⟩
    obtain ⟨hK0,y0,hy0,hny0⟩:=hI.some_nx hO
    have e9v:((lf+1:Nat):Int) - 1=(lf:Int):=by omega
    refine aP (XF.thenN (aF (aM (aF (aH (aB rfl rfl (aG (XF.thenN (aM (cB (fun m l W=>∃ (x:Nat),x≤k∧m=k - x∧l=[(1,.pointer (some ⟨B1,0,none⟩)),(6,.slice (some ⟨FB,0,none⟩) n n),(7,.slice wa u.length wc),(8,.slice (some ⟨IB,0,none⟩) n n),(9,.int .i64 ((lf+1:Nat):Int)),(10,.int .i64 (x:Int))]∧(∀ y:Nat,y < x→¬ Nx a.ar (k:Int) e9 (dH a.ar (Hd a.ar (fun q=>q=a.s0.toNat)) u) (y:Int) lf)∧St w ((IB,zB bs,4)::(B1,a.cells,24)::[]) [⟨.slice wa u.length wc,u.length,zI u,3,1⟩] K4 W) (k - 0) ([(1,_),(6,_),(7,_),(8,_),(9,_),(10,_)]) ⟨rfl,rfl,rfl,rfl,rfl,rfl,trivial⟩ (⟨0,Nat.zero_le _,rfl,rfl,fun y hy=>absurd hy (Nat.not_lt_zero _),(hS.keep K4 (fun q hq=>by simp [hq]))⟩) ?_))))))))))
    clear hS
    rintro m l W ⟨x,hx,rfl,rfl,hno,hS⟩
    refine aF (aF (aH (aA rfl rfl (aI (o':=1) dQ rfl rfl rfl (aJ isAgg3 rfl (aD (hS.at_ 1 rfl) rfl) rfl (bB rfl rfl rfl (aG (XF.thenN (aV rfl (fun hc=>?_) (fun hc=>?_))))))))))
    ·have hc42:=of_decide_eq_true hc;clear hc
     refine aP (XF.thenN (aF (aM (aF (aH (aQ (vs:=[_,_,_,_,_]) isAgg24 sizeOf24 rfl (aK.own (j:=0) (m:=5) (hS.at_ 1 rfl) rfl) rfl (aA rfl rfl (aA rfl rfl (aX (vs:=[_,_,_]) pX rfl (tF a n (k:Int) (x:Int) (dH a.ar (Hd a.ar (fun q=>q=a.s0.toNat)) u) IB bs [] _ _ K4 w _ (hS.keep K4 (fun q hq=>by simp [hq])) (fun q hq=>by cases hq) hA hn hn1 hn4 hO hbl hmem) rfl ?_)))))))))
     rintro e W9 ⟨OB,b2,hb2,hH2,rfl,hS9⟩
     refine ⟨_,rfl,?_⟩
     clear hS;have hS:=hS9;clear hS9
     refine aB rfl rfl (aG (XF.thenN (aF (aH (aA rfl rfl (aA rfl rfl (aA rfl rfl (gU rfl rfl (IntWalk.i64_in _ (by omega)) rfl ?_))))))))
     refine dU (vs:=[_,_,_]) hS goes_42 rfl (uK (some ⟨OB,0,none⟩) n n b2 (some ⟨FB,0,none⟩) n n fs _ _ (rU (hS.at_ 0 rfl)) (show Row _ (some ⟨FB,0,none⟩) fs from .inr ⟨_,0,rfl,fun j hj=>aD (gF (hS.keep K4 (fun q hq=>by simp [hq])) (fun q hq=>hk4 q hq)) (by have h7:=dN (l:=fs) hj;rw [Nat.mul_one] at h7;exact h7)⟩) hb2 hfl rfl hn4) rfl ?_
     rintro e W4 ⟨b9,rfl,hnr,hb⟩
     refine ⟨_,rfl,hb,fun hS'=>?_⟩
     clear hS;have hS:=hS';clear hS' hb
     refine aG (XF.thenN (aV rfl (fun hc=>?_) (fun hc=>?_)))
     ·have hc53:=hc;clear hc
      have hnx:Nx a.ar (k:Int) e9 (dH a.ar (Hd a.ar (fun q=>q=a.s0.toNat)) u) (x:Int) lf:=near_nx hF hH2 (by rw [← e9v];exact hnr.1 (by simpa using hc53))
      have hxk:(x:Int) < (k:Int):=by omega
      have hmin:∀ y,0≤y→Nx a.ar (k:Int) e9 (dH a.ar (Hd a.ar (fun q=>q=a.s0.toNat)) u) y lf→(x:Int)≤y:=fun y hy h=>(by
       rcases Int.lt_or_le y (x:Int) with h9 | h9
       ·exact absurd (show Nx a.ar (k:Int) e9 (dH a.ar (Hd a.ar (fun q=>q=a.s0.toNat)) u) ((y.toNat:Nat):Int) lf by rw [Int.toNat_of_nonneg hy];exact h) (hno y.toNat (by omega))
       ·exact h9)
      have hul:(u++[(x:Int)]).length=u.length+1:=by simp
      refine aF (aH (aA rfl rfl (aA rfl rfl (bL (us:=[(0,.int .i64 _)]) hS underlying25 sizeOf3 zeroValue3 rfl rfl rfl (dP _) rfl fun B5 W5 hS=>?_))))
      refine dY (i:=0) (news:=[_]) hS underlying25 iF rfl rfl (by show 0 < 1;decide) rfl rfl rfl rfl rfl (aK.own (j:=0) (m:=1) (hS.at_ 0 rfl) rfl) rfl rfl (by dsimp only;simp only [maxLen];omega) (by dsimp only;show _ * 8≤_;omega) rfl fun v6 W6 hS=>?_
      obtain ⟨wa8,wc8,e9x,_⟩:=cM (hS.row 0 rfl)
      dsimp only at e9x
      subst e9x
      have hS9:=hS.castG (G':=[⟨.slice wa8 (u.length+1) wc8,u.length+1,zI (u++[(x:Int)]),3,1⟩]) (by show GR.mk _ _ (zI u++[Value.int .i64 _]) _ _::_=_;rw [jY])
      clear hS;have hS:=hS9;clear hS9
      refine aB rfl rfl (aG (XF.thenN (aF (aH (aA rfl rfl (aB rfl rfl (aG (XF.thenN (bS (XF.blkO rfl (XF.thenX (XF.thenX (XF.blkX (XF.blkN (XF.thenN (aH (aA rfl rfl (gU rfl rfl (IntWalk.i64_in _ (by omega)) rfl (aB rfl rfl (aG ?_))))))))))))))))))))
      have hS9:=(((hS.tail).perm (List.Perm.swap _ _ _)).tail).castG (G':=[⟨.slice wa8 (u++[(x:Int)]).length wc8,(u++[(x:Int)]).length,zI (u++[(x:Int)]),3,1⟩]) (by rw [hul])
      exact XF.round (lf+1) [(1,_),(6,_),(7,_),(8,_),(9,_)] (by omega) ⟨rfl,rfl,rfl,rfl,rfl,trivial⟩ ⟨lf,u++[(x:Int)],OB,b2,wa8,wc8,rfl,by rw [hul,← e9v],by rw [runNP_snoc];exact hI.next hK0 (by omega) hnx,fun q=>(by rw [runNP_snoc];exact hH2 q),fun w9 h9=>(by rw [runNP_snoc] at h9;have h7:=hcont ((x:Int)::w9) ⟨(x:Int),w9,rfl,⟨by omega,hxk⟩,hnx,hmin,h9⟩;rw [List.append_assoc];exact h7),by rw [hul];omega,hb2,hS9.keep K4 (fun q hq=>by simp [hq])⟩
     ·have hc53:=hc;clear hc
      refine aP (XF.blkN (XF.thenN (aH (aA rfl rfl (aS rfl rfl (IntWalk.i64_in _ (by omega)) rfl (aB rfl rfl (aG ?_)))))))
      exact XF.round (k - (x+1)) [(1,_),(6,_),(7,_),(8,_),(9,_),(10,_)] (by omega) ⟨rfl,rfl,rfl,rfl,rfl,rfl,trivial⟩ ⟨x+1,by omega,rfl,rfl,fun y hy=>(by
       rcases Nat.lt_or_ge y x with h9 | h9
       ·exact hno y h9
       ·obtain rfl:y=x:=by omega
        intro h8
        have h7:=nx_near hF hO hH2 h8
        rw [← e9v] at h7
        have h6:=hnr.2 h7
        rw [h6] at hc53;simp at hc53),hS.tail.keep K4 (fun q hq=>by simp [hq])⟩
    ·have hc42:=of_decide_eq_false hc;clear hc
     refine bS (XF.thenX (XF.thenX (XF.blkX (XF.blkN (XF.thenN (aH (aA rfl rfl (gU rfl rfl (IntWalk.i64_in _ (by omega)) rfl (aB rfl rfl (aG ?_))))))))))
     exact absurd hny0 (hno y0 (by omega))
   ·have hc36:=of_decide_eq_false hc;clear hc
    obtain rfl:left=0:=by omega
    have hfin:=hcont [] rfl
    rw [List.append_nil] at hfin
    obtain ⟨K8,k8,g8,hS8⟩:=St.rowKeepN (o:=⟨.slice wa u.length wc,u.length,zI u⟩) (hS.keep K4 (fun q hq=>by simp [hq]))
    refine bS (XF.thenX (XF.thenX (XF.blkX (XF.thenN (aF (aH (aA rfl rfl (aB rfl rfl (aB rfl rfl (aB rfl rfl (aG (XF.thenN (bK (XF.res (qS results19 rfl rfl rfl) ?_))))))))))))))
    exact ⟨true,u,wa,wc,by rw [h0],⟨fun h=>absurd h0 h,fun _=>.inr ⟨rfl,m0,by rw [hs9,he9,hk];exact (hF.ds hsn).1 hm0,by rw [he9,hk];exact hfin⟩⟩,by omega,fL (g8 hS8 (fun q hq=>hq)),hS.below⟩
theorem goes_12:bA prog 12=true:=by kernel_rfl
theorem goes_15:bA prog 15=true:=by kernel_rfl
theorem goes_17:bA prog 17=true:=by kernel_rfl
theorem goes_19:bA prog 19=true:=by kernel_rfl
theorem nE {P:Program} {l:Fr} {W:World} {d:Nat} {ty t u:TypeId} {pos:String} {aft:Array Edge} {x y:Operand} {p:Bool} (hB:P.underlying t=some .bool) (hx:evL l x=some (.bool p)) (hy:evL l y=some (.bool p)):cN P l ⟨some d,.binOp .eql t x y u,ty,pos,aft,none⟩ W (.bool true) W:=by
 have h:=rn_eqlB (P:=P) (W:=W) (d:=d) (ty:=ty) (u:=u) (pos:=pos) (aft:=aft) hB hx hy
 rw [beq_self_eq_true] at h
 exact h
theorem uM (a b:Option Addr) (n ca cb:Nat) (xs:List Int) (w:World) (hA:Row w a xs) (hB:Row w b xs) (hn:xs.length=n) (hmx:n≤9223372036854775807):Calls prog 12 #[.slice a n ca,.slice b n cb] w (fun e w'=>e = .returned (.bool true)∧Below w.heap.size w w'):=by
 refine (nNum_is a b n n ca cb xs xs w hA hB hn hn hmx).mono ?_
 rintro e w1 ⟨rfl,h⟩
 exact ⟨by rw [decide_eq_true rfl],h⟩
theorem lY (a:NfV) (wa:Option Addr) (wl wc:Nat) (ws:List Int) (w:World) (hA0:NIn w a) (hW0:Row w wa ws∧ws.length=wl∧wl≤wc∧wl≤9223372036854775807) :
  Calls prog 4 #[a.val,.slice wa wl wc] w (fun e w'=>e = .returned (.bool true)∧Below w.heap.size w w'):=by
 refine bH (args:=[a.val,.slice wa wl wc]) func4 rfl ntmps4 rfl ?_
 have hS:=St.start w
 obtain ⟨hW,hwl,hwc,hwm⟩:=hW0
 refine aF (aH (bZ (cs:=[_,_,_,_,_]) hS rfl rfl rfl fun B1 W1 hS=>aB rfl rfl (aG (XF.thenN (aF (aH (aQ (vs:=[_,_,_,_,_]) isAgg24 sizeOf24 rfl (aK.own (j:=0) (m:=5) (hS.at_ 0 rfl) rfl) rfl (aA rfl rfl (dU (vs:=[_,_]) hS lX rfl (kD a wa wl wc ws _ (hA0.below hS.below) (hW.below hS.below) hwl hwm) rfl ?_)))))))))
 rintro e W2 ⟨b1,rfl,ha1,ha2,hb⟩
 refine ⟨_,rfl,hb,fun hS'=>?_⟩
 clear hS;have hS:=hS';clear hS' hb
 refine aA rfl rfl (bI rfl rfl rfl (bI rfl rfl rfl (aB rfl rfl (aB rfl rfl (aG (XF.thenN (aF (aH (aQ (vs:=[_,_,_,_,_]) isAgg24 sizeOf24 rfl (aK.own (j:=0) (m:=5) (hS.at_ 0 rfl) rfl) rfl (aA rfl rfl (dU (vs:=[_,_]) hS goes_17 rfl (uJ a wa wl wc ws _ (hA0.below hS.below) (hW.below hS.below) hwl hwm) rfl ?_)))))))))))
 rintro e W3 ⟨b2,rfl,hc1,hc2,hb⟩
 refine ⟨_,rfl,hb,fun hS'=>?_⟩
 clear hS;have hS:=hS';clear hS' hb
 refine aA rfl rfl (bI rfl rfl rfl (bI rfl rfl rfl (aB rfl rfl (aB rfl rfl (aG (XF.thenN (aF (aH (aQ (vs:=[_,_,_,_,_]) isAgg24 sizeOf24 rfl (aK.own (j:=0) (m:=5) (hS.at_ 0 rfl) rfl) rfl (dU (vs:=[_]) hS qH rfl (kF a _ (hA0.below hS.below)) rfl ?_))))))))))
 rintro e W4 ⟨ok1,l1,la1,lc1,rfl,hL1,hlb1,hR1,hb⟩
 refine ⟨_,rfl,hb,fun hS'=>?_⟩
 clear hS;have hS:=hS';clear hS' hb
 refine aA rfl rfl (bI rfl rfl rfl (bI rfl rfl rfl (bI rfl rfl rfl (aB rfl rfl (aB rfl rfl (aB rfl rfl (aG (XF.thenN (aF ?_)))))))))
 have hRoot:=hS.below
 have hRoot2:=hRoot
 have hA:=hA0.below hRoot
 have kb2:aK W4 B1 0 a.cells:=aK.own (j:=0) (m:=5) (hS.at_ 0 rfl) rfl
 clear hS;have hS:=St.start W4
 refine aH (aQ (vs:=[.int .i64 a.st,.int .i64 a.sy,.int .i64 a.s0,.int .i64 a.e0,.slice a.aa a.al a.ac]) isAgg24 sizeOf24 rfl (aK.agree hS.agree (Nat.zero_le _) kb2) rfl (dU (vs:=[_]) hS goes_19 rfl (oT a _ (hA.below hS.below)) rfl ?_))
 rintro e W5 ⟨ok2,l2,la2,lc2,rfl,hL2,hlb2,hR2,hb⟩
 refine ⟨_,rfl,hb,fun hS'=>?_⟩
 clear hS;have hS:=hS';clear hS' hb
 refine aA rfl rfl (bI rfl rfl rfl (bI rfl rfl rfl (bI rfl rfl rfl (aB rfl rfl (aB rfl rfl (aB rfl rfl (aG (XF.thenN (aF ?_)))))))))
 have hbb:b1=b2:=by
  by_cases h0:dS a ws=0
  ·have h1:=ha1 h0
   have h2:=hc1 h0
   cases b1<;>cases b2<;>simp_all
  ·rw [ha2 h0,hc2 h0]
 obtain ⟨hok,hll⟩:=hL1.one hL2
 subst hbb hok hll
 have hr1:=hR1.below hS.below
 refine aH (aA rfl rfl (aA rfl rfl (opV (nE underlying4 rfl rfl) rfl (aA rfl rfl (aC (d:=42) rfl rfl (aA rfl rfl (aC (d:=42) rfl rfl (aA rfl rfl (aC (d:=42) rfl rfl (opV (bJ (c:=true) rfl rfl (by rw [decide_eq_true rfl])) rfl (aN rfl rfl rfl (aA rfl rfl (aC (d:=47) rfl rfl (aA rfl rfl (aC (d:=47) rfl rfl (aA rfl rfl (aC (d:=47) rfl rfl (bW (vs:=[_,_]) hS goes_12 rfl (uM la1 la2 l1.length lc1 lc2 l1 _ (hR1.below hS.below) hR2 rfl (by omega)) rfl fun W6 hS=>aN rfl rfl rfl (aA rfl rfl (aC (d:=52) rfl rfl (aA rfl rfl (aC (d:=52) rfl rfl (aA rfl rfl (aC (d:=52) rfl rfl (opV (nE underlying4 rfl rfl) rfl (aN rfl rfl rfl (aA rfl rfl (aC (d:=57) rfl rfl (aA rfl rfl (aC (d:=57) rfl rfl (aA rfl rfl ?_)))))))))))))))))))))))))))))))
 refine aC (d:=57) rfl rfl (opV (bJ (c:=true) rfl rfl (by rw [decide_eq_true rfl])) rfl (aN rfl rfl rfl (aA rfl rfl (aC (d:=62) rfl rfl (bW (vs:=[]) hS goes_15 rfl (rT _) rfl fun W7 hS=>aN rfl rfl rfl (aB rfl rfl (aG (XF.thenN (bK (XF.res (bT results4 rfl) ?_))))))))))
 exact ⟨rfl,hRoot2.trans (hS.below.mono hRoot2.size)⟩
end
section
open Go.RowKit Go.ChangeShapes Go.WideShapes Go.Deep Go.Joins
theorem kJ {α:Type}:∀ (n:Nat) (p:Nat→α→Prop),(∀ i,i < n→∃ c,p i c)→∃ xs:List α,xs.length=n∧∀ i c,xs[i]?=some c→p i c
 | 0,p,h=>⟨[],rfl,fun i c hi=>by simp at hi⟩
 | n+1,p,h=>by
  obtain ⟨xs,hl,hp⟩:=kJ n p (fun i hi=>h i (by omega))
  obtain ⟨c,hc⟩:=h n (by omega)
  refine ⟨xs++[c],by simp [hl],fun i d hi=>?_⟩
  rcases Nat.lt_or_ge i n with h1 | h1
  ·rw [List.getElem?_append_left (by omega)] at hi
   exact hp i d hi
  ·obtain ⟨h2,_⟩:=List.getElem?_eq_some_iff.1 hi
   simp [hl] at h2
   obtain rfl:i=n:=by omega
   rw [List.getElem?_append_right (by omega),hl,Nat.sub_self] at hi
   simp at hi
   subst hi
   exact hc
theorem oU {cs:List Value} (h:cs.length=3):∃ a b c,cs=[a,b,c]:=by
 match cs,h with
 | [a,b,c],_=>exact ⟨a,b,c,rfl⟩
theorem rV {cs:List Value} (h:cs.length=5):∃ a b c d e,cs=[a,b,c,d,e]:=by
 match cs,h with
 | [a,b,c,d,e],_=>exact ⟨a,b,c,d,e,rfl⟩
section
variable {H:Type} {enc:TypeId×Value→H} {w:World} {base:Nat} {spare:Nat→Bool} {held:Bool}
theorem nF {α:Type} {f:α→List Value} {sz:Nat} {t e:TypeId} {n:Nat} {v:Value} {x:DataW H×List MemPlace} (ht:prog.underlying t=some (.slice e)) (hc:prog.cellsOf e=sz) (hp:0 < sz) (hf:∀ y,(f y).length=sz)
  (one:∀ (n:Nat) (cs:List Value) (x:DataW H×List MemPlace),DataW.trod enc prog w base spare held n e cs=some x→∃ y,cs=f y) (h:DataW.trod enc prog w base spare held n t [v]=some x) :
  ∃ (a:Option Addr) (len cap:Nat) (xs:List α),v = .slice a len cap∧(xs=[]∨∃ b off,a=some ⟨b,off,none⟩∧∀ (i:Nat) x,xs[i]?=some x→aK w b (off+i * sz) (f x))∧xs.length=len∧len≤cap∧cap≤maxLen:=by
 rcases DataW.trod_slice ht h with ⟨hcs,_⟩ | ⟨ad,len,cap,elems,rest,n2,hn2,hcs,_,hb,hle,hcap,hel,hi,_,_⟩
 ·simp at hcs
  subst hcs
  exact ⟨none,0,0,[],rfl,.inl rfl,rfl,Nat.le_refl _,Nat.zero_le _⟩
 ·simp at hcs
  subst hcs
  rw [hc] at hi
  obtain ⟨rs,hrl,hrs⟩:=kJ len (fun i (r:α)=>∀ (j:Nat) u,(f r)[j]?=some u→w.cell? (ad.add (i * sz+j))=some u) (fun i hil=>by
   have hii:=hi i hil
   rw [List.getElem?_eq_getElem (by omega)] at hii
   obtain ⟨cs',hc',ht'⟩:=Option.bind_eq_some_iff.1 hii
   obtain ⟨_,hcl,hat⟩:=World.cells?_some hc'
   obtain ⟨r,rfl⟩:=one _ _ _ ht'
   refine ⟨r,fun j u hj=>?_⟩
   have hjs:j < sz:=by have:=(List.getElem?_eq_some_iff.1 hj).1;rw [hf] at this;exact this
   have h0:=hat j hjs
   rw [Go.Deep.add_add] at h0
   rw [h0];exact hj)
  refine ⟨some ad,len,cap,rs,rfl,?_,hrl,hle,hcap⟩
  rcases Nat.eq_zero_or_pos len with h0 | h0
  ·exact .inl (List.length_eq_zero_iff.1 (by omega))
  ·obtain ⟨b,off,spot⟩:=ad
   have h1:=hrs 0 (rs[0]'(by omega)) (List.getElem?_eq_getElem (by omega)) 0 _ (List.getElem?_eq_getElem (by rw [hf];exact hp))
   have hspot:spot=none:=by simpa [Addr.add] using World.cell?_spot h1
   subst hspot
   refine .inr ⟨b,off,rfl,fun i r hir=>aK.of fun j u hj=>?_⟩
   have h3:=hrs i r hir j u hj
   have e:∀ k,({ block:=b,off:=off }:Addr).add k=⟨b,off+k,none⟩:=fun k=>by simp [Addr.add]
   rw [e,← Nat.add_assoc] at h3
   exact h3
theorem oV {n:Nat} {a:Option Addr} {len cap:Nat} {x:DataW H×List MemPlace} (h:DataW.trod enc prog w base spare held n 25 [.slice a len cap]=some x):∃ zs:List Int,Row w a zs∧zs.length=len∧len≤cap∧len≤9223372036854775807:=by
 obtain ⟨a',len',cap',zs,e,h1,h2,h3,h4⟩:=nF (f:=fun x:Int=>[Value.int .i64 x]) (e:=3) (sz:=1) (by kernel_rfl) (by kernel_rfl) (by omega) (fun _=>rfl) (fun n cs x h=>by
  obtain ⟨z0,e0,_,_⟩:=DataW.trod_int (k:=.i64) (by kernel_rfl) h
  exact ⟨z0,e0⟩) h
 cases e
 refine ⟨zs,?_,h2,h3,by simp only [maxLen] at h4;omega⟩
 rcases h1 with rfl | ⟨b,off,rfl,h1⟩
 ·exact .inl rfl
 ·refine .inr ⟨b,off,rfl,fun j hj=>?_⟩
  have h5:=(h1 j _ (List.getElem?_eq_getElem hj)).1
  rw [Nat.mul_one] at h5
  rw [h5];simp [hj]
theorem uO {r:Reach} {b0:Nat} {v:Value} {d:DataW H} {p:List MemPlace} (hv:Value.okWide prog w r b0 24 v) (h:DataW.Trod enc prog w base spare held 24 v d p) :
  ∃ (s:NfV),v=s.val∧NIn w s:=by
 obtain ⟨cs,rfl,_⟩:=okWide_struct underlying24 hv
 obtain ⟨n,h⟩:=h
 obtain ⟨xs,n',hn,_,hl,hlen,hg⟩:=DataW.trod_struct underlying24 h
 rw [show prog.cellsOf 24=5 by kernel_rfl] at hl
 obtain ⟨a,b,c,d9,e9,hcs⟩:=rV hl
 rw [hcs] at hg
 have hlen5:xs.length=5:=hlen
 have g0:=hg 0 _ rfl
 have g1:=hg 1 _ rfl
 have g2:=hg 2 _ rfl
 have g3:=hg 3 _ rfl
 have g4:=hg 4 _ rfl
 rw [show prog.cellsOf _=1 by kernel_rfl,List.getElem?_eq_getElem (by omega)] at g0 g1 g2 g3 g4
 obtain ⟨z0,e0,_,_⟩:=DataW.trod_int (k:=.i64) (by kernel_rfl) g0
 simp at e0
 subst e0
 obtain ⟨z1,e1,_,_⟩:=DataW.trod_int (k:=.i64) (by kernel_rfl) g1
 simp at e1
 subst e1
 obtain ⟨z2,e2,_,_⟩:=DataW.trod_int (k:=.i64) (by kernel_rfl) g2
 simp at e2
 subst e2
 obtain ⟨z3,e3,_,_⟩:=DataW.trod_int (k:=.i64) (by kernel_rfl) g3
 simp at e3
 subst e3
 obtain ⟨aa,al,ac,ar,rfl,har,hal,hac,ham⟩:=nF (f:=ArV.three) (sz:=3) (e:=57) (v:=e9) (by kernel_rfl) (by kernel_rfl) (by omega) (fun _=>rfl) (fun n cs x h=>by
  obtain ⟨ys,n2,hn2,_,hl2,hlen2,hg2⟩:=DataW.trod_struct underlying57 h
  rw [show prog.cellsOf 57=3 by kernel_rfl] at hl2
  obtain ⟨u0,u1,u2,rfl⟩:=oU hl2
  have hlen3:ys.length=3:=hlen2
  have k0:=hg2 0 _ rfl
  have k1:=hg2 1 _ rfl
  have k2:=hg2 2 _ rfl
  rw [show prog.cellsOf _=1 by kernel_rfl,List.getElem?_eq_getElem (by omega)] at k0 k1 k2
  obtain ⟨x0,e0,_,_⟩:=DataW.trod_int (k:=.i64) (by kernel_rfl) k0
  obtain ⟨x1,e1,_,_⟩:=DataW.trod_int (k:=.i64) (by kernel_rfl) k1
  obtain ⟨x2,e2,_,_⟩:=DataW.trod_int (k:=.i64) (by kernel_rfl) k2
  simp at e0 e1 e2
  subst e0 e1 e2
  exact ⟨⟨x0,x1,x2⟩,rfl⟩) g4
 refine ⟨⟨z0,z1,z2,z3,aa,al,ac,ar⟩,?_,⟨fun i r hi=>?_,hal,?_⟩⟩
 ·show Value.agg cs=Value.agg _
  congr 1
  exact Array.ext' hcs
 ·rcases har with rfl | ⟨b,off,rfl,h1⟩
  ·simp at hi
  ·exact ⟨b,off,rfl,h1 i r hi⟩
 ·simp only [maxLen] at ham;dsimp only;omega
end
end
end Go.Proofs.Ytpgmnbgkejiomaa
