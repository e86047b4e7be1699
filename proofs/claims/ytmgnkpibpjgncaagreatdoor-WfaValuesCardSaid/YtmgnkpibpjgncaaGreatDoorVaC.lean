import Derived.Test.YtmgnkpibpjgncaaGreatDoorVaB
set_option maxRecDepth 100000
set_option maxHeartbeats 4000000
set_option linter.unusedVariables false
set_option linter.unusedVariables false
set_option linter.unusedSimpArgs false
set_option linter.unusedSectionVars false
set_option linter.unnecessarySimpa false
namespace Go.Proofs.YtmgnkpibpjgncaaGreatDoor
open Go.Proofs.Tryz
open Go.RowKit
set_option linter.unusedSimpArgs false
theorem iG {n:Nat} {c:Cl}:jV n c=true↔c.f < 2 ^ n∧eC c.f c.k c.v=true:=by
 unfold jV lY kB
 rw [Bool.and_eq_true,beq_iff_eq,Nat.div_eq_zero_iff]
 constructor
 ·rintro ⟨h | h,h2⟩
  ·have:=Nat.two_pow_pos n;omega
  ·exact ⟨h,h2⟩
 ·rintro ⟨h,h2⟩;exact ⟨.inr h,h2⟩
theorem lR {n f:Nat} (hn:n≤64) (h:f < 2 ^ n):f < 18446744073709551616 :=
 Nat.lt_of_lt_of_le h (Nat.le_trans (Nat.pow_le_pow_right (by decide) hn) (by decide))
structure Val (n:Nat) (xs:List Cl):Prop where
 le:n≤64
 len:xs.length=n
 ok:∀ (i:Nat) c,xs[i]?=some c→jV n c=true
theorem Val.oks {n:Nat} {xs:List Cl} (h:Val n xs):Oks xs:=fun i c hi=>by
 obtain ⟨h1,h2⟩:=iG.1 (h.ok i c hi)
 exact ⟨lR h.le h1,h2⟩
theorem Val.bits {n:Nat} {xs:List Cl} (h:Val n xs):pM xs:=fun c hc=>by
 obtain ⟨i,hi,e⟩:=List.mem_iff_getElem.1 hc
 exact (h.oks i c (by rw [← e];exact List.getElem?_eq_getElem hi)).1
theorem Val.chk {n:Nat} {xs:List Cl} (h:Val n xs):lZ n xs=0:=by
 refine wY h.le h.len (Nat.le_refl _) ?_
 rw [List.take_length,List.all_eq_true]
 intro c hc
 obtain ⟨i,hi,e⟩:=List.mem_iff_getElem.1 hc
 exact h.ok i c (by rw [← e];exact List.getElem?_eq_getElem hi)
theorem Val.chk2 {n:Nat} {xs ys:List Cl} (h:Val n xs) (h2:Val n ys):nX n xs ys=0:=by
 unfold nX
 rw [h.chk,h2.chk];rfl
theorem val_of {d:Int} {xs:List Cl} (h:lZ d xs=0):∃ n:Nat,d=n∧Val n xs:=by
 obtain ⟨d0,d1,la,oka⟩:=mW h
 refine ⟨d.toNat,by omega,by omega,by omega,fun i c hi=>?_⟩
 exact List.all_eq_true.1 oka c (List.mem_of_getElem? hi)
theorem Dv {n:Nat} {a b:Cl} (ha:jV n a=true) (hb:jV n b=true) (hn:n≤64):jV n (join a b)=true:=by
 obtain ⟨h1,h2⟩:=iG.1 ha
 obtain ⟨h3,h4⟩:=iG.1 hb
 have h5:=oB (a:=a) (b:=b) ⟨lR hn h1,h2⟩ ⟨lR hn h3,h4⟩
 refine iG.2 ⟨?_,h5.2⟩
 show (if joinK a.k a.v b.k b.v=2 then 0 else a.f ||| b.f) < 2 ^ n
 split
 ·exact Nat.two_pow_pos n
 ·exact Nat.or_lt_two_pow h1 h3
theorem rL {n:Nat} {xs ys:List Cl} (hx:Val n xs) (hy:Val n ys):Val n (dC xs ys):=by
 refine ⟨hx.le,by simp [dC,hx.len,hy.len],fun i c hi=>?_⟩
 simp [dC,List.getElem?_zipWith] at hi
 split at hi
 ·rename_i a b ha hb
  cases hi
  exact Dv (hx.ok i a ha) (hy.ok i b hb) hx.le
 ·cases hi
theorem Dw {n:Nat} {xs:List Cl} (hx:Val n xs) {c:Cl} (hc:jV n c=true):∀ m,jV n (iF xs c m)=true
 | 0=>iG.2 ⟨Nat.two_pow_pos n,rJ (iG.1 hc).2⟩
 | m+1=>by
  have ih:=Dw hx hc m
  rw [gA,kG]
  split
  ·split
   ·rename_i a h;exact Dv ih (hx.ok m a h) hx.le
   ·exact ih
  ·exact ih
theorem Aq {n:Nat} {xs ys:List Cl} (hx:Val n xs) (hy:Val n ys):Val n (dZ xs ys):=by
 refine ⟨hx.le,by simp [dZ,hy.len],fun i c hi=>?_⟩
 simp [dZ] at hi
 obtain ⟨y,h1,rfl⟩:=hi
 exact Dw hx (hy.ok i y h1) _
theorem If {n:Nat} (hn:n≤64):Val n (fW n):=by
 refine ⟨hn,iQ n,fun i c hi=>?_⟩
 have h1:i < n:=by rw [← iQ n];exact (List.getElem?_eq_some_iff.1 hi).1
 rw [vL h1] at hi
 cases hi
 exact iG.2 ⟨Nat.pow_lt_pow_right (by decide) h1,by simp [eC,oC]⟩
theorem Dx {n:Nat} {xs:List Cl} (hx:Val n xs):dC xs xs=xs:=by
 apply List.ext_getElem?
 intro i
 simp [dC,List.getElem?_zipWith]
 rcases h:xs[i]? with _ | c
 ·rfl
 ·simp [xB (hx.oks i c h)]
theorem Qr {n:Nat} {xs ys:List Cl} (hx:Val n xs) (hy:Val n ys):dC xs ys=dC ys xs:=by
 apply List.ext_getElem?
 intro i
 simp only [dC,List.getElem?_zipWith]
 rcases h:xs[i]? with _ | c<;>rcases h2:ys[i]? with _ | c2<;>simp
 exact oV (hx.oks i c h) (hy.oks i c2 h2)
theorem Ar {n:Nat} {xs ys zs:List Cl} (hx:Val n xs) (hy:Val n ys) (hz:Val n zs):dC (dC xs ys) zs=dC xs (dC ys zs):=by
 apply List.ext_getElem?
 intro i
 simp only [dC,List.getElem?_zipWith]
 rcases h:xs[i]? with _ | c<;>rcases h2:ys[i]? with _ | c2<;>rcases h3:zs[i]? with _ | c3<;>simp
 exact gG (hx.oks i c h) (hy.oks i c2 h2) (hz.oks i c3 h3)
theorem Qs {n:Nat} {xs ys zs:List Cl} (hx:Val n xs) (hy:Val n ys) (hz:Val n zs):dZ xs (dC ys zs)=dC (dZ xs ys) (dZ xs zs):=by
 apply List.ext_getElem?
 intro i
 simp only [dC,dZ,List.getElem?_map,List.getElem?_zipWith]
 rcases h2:ys[i]? with _ | c2<;>rcases h3:zs[i]? with _ | c3<;>simp
 exact Ie hx.oks (hy.oks i c2 h2) (hz.oks i c3 h3)
theorem Qt {n:Nat} {xs ys zs:List Cl} (hx:Val n xs) (hy:Val n ys) (hz:Val n zs):dZ (dC xs ys) zs=dC (dZ xs zs) (dZ ys zs):=by
 apply List.ext_getElem?
 intro i
 simp only [dC,dZ,List.getElem?_map,List.getElem?_zipWith]
 rcases h3:zs[i]? with _ | c3<;>simp
 have h:=Du (xs:=xs) (ys:=ys) (by rw [hx.len,hy.len]) hx.oks hy.oks (hz.oks i c3 h3) n
 have e:=(rL hx hy).len
 unfold dC at e h
 unfold ofC
 rw [e,h,hx.len,hy.len]
theorem Dy {n:Nat} {c:Cl} (hc:jV n c=true):∀ m,m≤n→iF (fW n) c m=⟨c.f % 2 ^ m,c.k,c.v⟩
 | 0,_=>by simp [iF,Nat.mod_one]
 | m+1,hm=>by
  have ih:=Dy hc m (by omega)
  have hrow:(fW n)[m]?=some (oC m):=vL (by omega)
  rw [gA,kG,ih]
  cases hb:c.f.testBit m
  ·rw [if_neg (by simp)]
   congr 1
   apply Nat.eq_of_testBit_eq
   intro i
   rw [Nat.testBit_mod_two_pow,Nat.testBit_mod_two_pow]
   rcases Nat.lt_or_ge i m with h | h
   ·simp [h,Nat.lt_succ_of_lt h]
   ·rcases Nat.eq_or_lt_of_le h with h2 | h2
    ·subst h2;simp [hb]
    ·have e1:¬ i < m:=by omega
     have e2:¬ i < m+1:=by omega
     simp [e1,e2]
  ·rw [if_pos rfl,hrow]
   have hk:¬ c.k=2:=by
    intro h2
    have:=(iG.1 hc).2
    simp [eC,h2] at this
    rw [this.2] at hb;simp at hb
   have hk0:c.k=0→c.v=0:=by
    intro h2
    have:=(iG.1 hc).2
    simpa [eC,h2] using this
   have hf:c.f % 2 ^ m ||| 2 ^ m=c.f % 2 ^ (m+1):=by
    apply Nat.eq_of_testBit_eq
    intro i
    rw [Nat.testBit_or,Nat.testBit_mod_two_pow,Nat.testBit_mod_two_pow,Nat.testBit_two_pow]
    rcases Nat.lt_or_ge i m with h | h
    ·have e3:¬ m=i:=by omega
     simp [h,Nat.lt_succ_of_lt h,e3]
    ·rcases Nat.eq_or_lt_of_le h with h2 | h2
     ·subst h2;simp [hb]
     ·have e1:¬ i < m:=by omega
      have e2:¬ i < m+1:=by omega
      have e3:¬ m=i:=by omega
      simp [e1,e2,e3]
   by_cases h0:c.k=0
   ·simp [join,joinK,dU,oC,hk,hf,h0,hk0 h0]
   ·simp [join,joinK,dU,oC,hk,hf,h0]
theorem Qu {n:Nat} {xs:List Cl} (hx:Val n xs):dZ (fW n) xs=xs:=by
 apply List.ext_getElem?
 intro i
 simp only [dZ,List.getElem?_map]
 rcases h:xs[i]? with _ | c
 ·rfl
 ·have h2:=Dy (hx.ok i c h) n (Nat.le_refl _)
  simp
  unfold ofC
  rw [iQ,h2,Nat.mod_eq_of_lt (iG.1 (hx.ok i c h)).1]
theorem Qw {c:Cl} (h:c.ok):join ⟨0,0,0⟩ c=c:=by
 rcases iR h with ⟨f,rfl⟩ | ⟨f,v,rfl⟩ | rfl<;>simp [join,joinK,dU,jQ]
theorem As {xs:List Cl} {i:Nat}:∀ m,m≤i→iF xs (oC i) m=⟨0,0,0⟩
 | 0,_=>rfl
 | m+1,h=>by
  rw [Fz (by simp [oC,Nat.testBit_two_pow];omega)]
  exact As m (by omega)
theorem Qx {n:Nat} {xs:List Cl} (hx:Val n xs) {i:Nat} {c:Cl} (hi:xs[i]?=some c):ofC xs (oC i)=c:=by
 have h1:i < xs.length:=(List.getElem?_eq_some_iff.1 hi).1
 have h2:iF xs (oC i) (i+1)=c:=by
  rw [An (by simp [oC,Nat.testBit_two_pow]) hi,As i (Nat.le_refl _),Qw (hx.oks i c hi)]
 unfold ofC
 rw [mX (k:=i+1) (by omega) (fun j h3 h4=>by simp [oC,Nat.testBit_two_pow];omega),h2]
theorem Qy {n:Nat} {xs:List Cl} (hx:Val n xs):dZ xs (fW n)=xs:=by
 apply List.ext_getElem?
 intro i
 simp only [dZ,List.getElem?_map]
 rcases Nat.lt_or_ge i n with h | h
 ·have e:xs[i]?=some (xs[i]'(by rw [hx.len];exact h)):=List.getElem?_eq_getElem _
  rw [vL h,e]
  simp [Qx hx e]
 ·rw [List.getElem?_eq_none (by rw [iQ];exact h),List.getElem?_eq_none (by rw [hx.len];exact h)]
  rfl
structure PF where
 z:Bool
 c:Int
 g:Nat
 rows:List Nat
 cells:List Cl
def WF.pf (f:WF):PF:=⟨f.z,f.c,f.g,f.rows,f.cells⟩
def dF:PF:=⟨true,0,0,[],[]⟩
def pC (c:Int):PF:=⟨false,c,0,[],[]⟩
def pF (g:Nat) (rows:List Nat):PF:=⟨false,0,g,rows,[]⟩
def pX (cs:List Cl):PF:=⟨false,0,0,[],cs⟩
inductive OkP (t n:Int):PF→Prop
 | zero:OkP t n dF
 | bool (h:t=1):OkP t n (pC 0)
 | cost (c:Int) (h:t=2) (h0:0≤c) (h1:c≤n):OkP t n (pC c)
 | facts (m g:Nat) (rows:List Nat) (h:t=3) (hn:n=(m:Int)) (hg:Good m g rows):OkP t n (pF g rows)
 | cells (m:Nat) (cs:List Cl) (h:t=4) (hn:n=(m:Int)) (hv:Val m cs):OkP t n (pX cs)
def dK (t n:Int) (a b:PF):PF :=
 if a.z=true then b else if b.z=true then a else if t=2 then pC (min a.c b.c) else if t=3 then pF (gJ n a.g a.rows b.g b.rows) (gE n a.g a.rows b.g b.rows) else if t=4 then pX (dC a.cells b.cells) else pC 0
def fB (t n:Int) (a b:PF):PF :=
 if a.z=true then dF else if b.z=true then dF else if t=2 then pC (min (a.c+b.c) n) else if t=3 then pF (jN n a.g a.rows b.g b.rows) (jF n a.g a.rows b.g b.rows) else if t=4 then pX (dZ a.cells b.cells) else pC 0
def iA (t n:Int):PF:=if t=3 then pF 0 (gX n.toNat) else if t=4 then pX (fW n.toNat) else pC 0
theorem iH {n:Int} {a:PF} (h:OkP 1 n a):a=dF∨a=pC 0:=by
 cases h with
 | zero=>exact .inl rfl
 | bool h=>exact .inr rfl
 | cost c h h0 h1=>omega
 | facts m g rows h=>omega
 | cells m cs h=>omega
theorem gY {n:Int} {a:PF} (h:OkP 2 n a):a=dF∨∃ c,a=pC c∧0≤c∧c≤n:=by
 cases h with
 | zero=>exact .inl rfl
 | bool h=>omega
 | cost c h h0 h1=>exact .inr ⟨c,rfl,h0,h1⟩
 | facts m g rows h=>omega
 | cells m cs h=>omega
theorem iI {m:Nat} {a:PF} (h:OkP 3 m a):a=dF∨∃ g rows,a=pF g rows∧Good m g rows:=by
 cases h with
 | zero=>exact .inl rfl
 | bool h=>omega
 | cost c h h0 h1=>omega
 | facts k g rows h hn hg =>
  obtain rfl:m=k:=by omega
  exact .inr ⟨g,rows,rfl,hg⟩
 | cells m cs h=>omega
theorem iJ {m:Nat} {a:PF} (h:OkP 4 m a):a=dF∨∃ cs,a=pX cs∧Val m cs:=by
 cases h with
 | zero=>exact .inl rfl
 | bool h=>omega
 | cost c h h0 h1=>omega
 | facts k g rows h hn hg=>omega
 | cells k cs h hn hv =>
  obtain rfl:m=k:=by omega
  exact .inr ⟨cs,rfl,hv⟩
theorem dN {t n:Int} {l:Nat} (h:bI t n l=true):l=0∧((t=1∧n=0)∨(t=2∧0≤n∧n≤1048576)∨(t=3∧∃ m:Nat,n=m∧m≤64)∨(t=4∧∃ m:Nat,n=m∧m≤64)):=by
 obtain ⟨h0,ht⟩:=fV h
 obtain ⟨d0,d1,d2,d3⟩:=nE h
 refine ⟨h0,?_⟩
 rcases ht with rfl | rfl | rfl | rfl
 ·exact .inl ⟨rfl,d2 rfl⟩
 ·exact .inr (.inl ⟨rfl,d0,d1⟩)
 ·exact .inr (.inr (.inl ⟨rfl,n.toNat,by omega,by have:=d3 (.inl rfl);omega⟩))
 ·exact .inr (.inr (.inr ⟨rfl,n.toNat,by omega,by have:=d3 (.inr rfl);omega⟩))
section
variable {t n:Int} {l:Nat} {a b c:PF}
theorem eA:dK t n dF a=a:=by simp [dK,dF]
theorem eE (ha:OkP t n a):dK t n a dF=a:=by cases ha<;>simp [dK,dF,pC,pF,pX]
theorem mA:fB t n dF a=dF:=by simp [fB,dF]
theorem mB:fB t n a dF=dF:=by simp [fB,dF]
theorem rM:dK 1 n (pC 0) (pC 0)=pC 0:=by simp [dK,pC]
theorem mC (x y:Int):dK 2 n (pC x) (pC y)=pC (min x y):=by simp [dK,pC]
theorem pR (g h:Nat) (xs ys:List Nat):dK 3 n (pF g xs) (pF h ys)=pF (gJ n g xs h ys) (gE n g xs h ys):=by simp [dK,pF]
theorem oJ (xs ys:List Cl):dK 4 n (pX xs) (pX ys)=pX (dC xs ys):=by simp [dK,pX]
theorem Au:fB 1 n (pC 0) (pC 0)=pC 0:=by simp [fB,pC]
theorem xY (x y:Int):fB 2 n (pC x) (pC y)=pC (min (x+y) n):=by simp [fB,pC]
theorem Av (g h:Nat) (xs ys:List Nat):fB 3 n (pF g xs) (pF h ys)=pF (jN n g xs h ys) (jF n g xs h ys):=by simp [fB,pF]
theorem xZ (xs ys:List Cl):fB 4 n (pX xs) (pX ys)=pX (dZ xs ys):=by simp [fB,pX]
theorem Uq:iA 1 n=pC 0:=by simp [iA]
theorem Ur:iA 2 n=pC 0:=by simp [iA]
theorem N7 (m:Nat):iA 3 m=pF 0 (gX m):=by simp [iA]
theorem N8 (m:Nat):iA 4 m=pX (fW m):=by simp [iA]
theorem yZ (h:bI t n l=true):OkP t n (iA t n):=by
 rcases (dN h).2 with ⟨rfl,hn⟩ | ⟨rfl,h0,h1⟩ | ⟨rfl,m,rfl,hm⟩ | ⟨rfl,m,rfl,hm⟩
 ·rw [Uq];exact .bool rfl
 ·rw [Ur];exact .cost 0 rfl (by omega) h0
 ·rw [N7];exact .facts m 0 _ rfl rfl (lD hm)
 ·rw [N8];exact .cells m _ rfl rfl (If hm)
theorem vM (h:bI t n l=true) (ha:OkP t n a) (hb:OkP t n b):OkP t n (dK t n a b):=by
 rcases (dN h).2 with ⟨rfl,hn⟩ | ⟨rfl,h0,h1⟩ | ⟨rfl,m,rfl,hm⟩ | ⟨rfl,m,rfl,hm⟩
 ·rcases iH ha with rfl | rfl<;>rcases iH hb with rfl | rfl<;>simp only [eA,eE ha,rM]<;>assumption
 ·rcases gY ha with rfl | ⟨x,rfl,hx⟩
  ·rw [eA];exact hb
  rcases gY hb with rfl | ⟨y,rfl,hy⟩
  ·rw [eE ha];exact ha
  rw [mC];exact .cost _ rfl (by omega) (by omega)
 ·rcases iI ha with rfl | ⟨g,xs,rfl,hx⟩
  ·rw [eA];exact hb
  rcases iI hb with rfl | ⟨g2,ys,rfl,hy⟩
  ·rw [eE ha];exact ha
  rw [pR];exact .facts m _ _ rfl rfl (hx.combT hy)
 ·rcases iJ ha with rfl | ⟨xs,rfl,hx⟩
  ·rw [eA];exact hb
  rcases iJ hb with rfl | ⟨ys,rfl,hy⟩
  ·rw [eE ha];exact ha
  rw [oJ];exact .cells m _ rfl rfl (rL hx hy)
theorem vN (h:bI t n l=true) (ha:OkP t n a) (hb:OkP t n b):OkP t n (fB t n a b):=by
 rcases (dN h).2 with ⟨rfl,hn⟩ | ⟨rfl,h0,h1⟩ | ⟨rfl,m,rfl,hm⟩ | ⟨rfl,m,rfl,hm⟩
 ·rcases iH ha with rfl | rfl<;>rcases iH hb with rfl | rfl<;>simp only [mA,mB,Au]<;>assumption
 ·rcases gY ha with rfl | ⟨x,rfl,hx⟩
  ·rw [mA];exact .zero
  rcases gY hb with rfl | ⟨y,rfl,hy⟩
  ·rw [mB];exact .zero
  rw [xY];exact .cost _ rfl (by omega) (by omega)
 ·rcases iI ha with rfl | ⟨g,xs,rfl,hx⟩
  ·rw [mA];exact .zero
  rcases iI hb with rfl | ⟨g2,ys,rfl,hy⟩
  ·rw [mB];exact .zero
  rw [Av];exact .facts m _ _ rfl rfl (hx.extT hy)
 ·rcases iJ ha with rfl | ⟨xs,rfl,hx⟩
  ·rw [mA];exact .zero
  rcases iJ hb with rfl | ⟨ys,rfl,hy⟩
  ·rw [mB];exact .zero
  rw [xZ];exact .cells m _ rfl rfl (Aq hx hy)
theorem uD (h:bI t n l=true) (ha:OkP t n a) (hb:OkP t n b):dK t n a b=dK t n b a:=by
 rcases (dN h).2 with ⟨rfl,hn⟩ | ⟨rfl,h0,h1⟩ | ⟨rfl,m,rfl,hm⟩ | ⟨rfl,m,rfl,hm⟩
 ·rcases iH ha with rfl | rfl<;>rcases iH hb with rfl | rfl<;>simp only [eA,eE ha,eE hb,rM]
 ·rcases gY ha with rfl | ⟨x,rfl,hx⟩
  ·rw [eA,eE hb]
  rcases gY hb with rfl | ⟨y,rfl,hy⟩
  ·rw [eA,eE ha]
  rw [mC,mC,Int.min_comm]
 ·rcases iI ha with rfl | ⟨g,xs,rfl,hx⟩
  ·rw [eA,eE hb]
  rcases iI hb with rfl | ⟨g2,ys,rfl,hy⟩
  ·rw [eA,eE ha]
  rw [pR,pR,(Df hx hy).1,(Df hx hy).2]
 ·rcases iJ ha with rfl | ⟨xs,rfl,hx⟩
  ·rw [eA,eE hb]
  rcases iJ hb with rfl | ⟨ys,rfl,hy⟩
  ·rw [eA,eE ha]
  rw [oJ,oJ,Qr hx hy]
theorem uE (h:bI t n l=true) (ha:OkP t n a):dK t n a a=a:=by
 rcases (dN h).2 with ⟨rfl,hn⟩ | ⟨rfl,h0,h1⟩ | ⟨rfl,m,rfl,hm⟩ | ⟨rfl,m,rfl,hm⟩
 ·rcases iH ha with rfl | rfl<;>simp only [eA,rM]
 ·rcases gY ha with rfl | ⟨x,rfl,hx⟩
  ·rw [eA]
  rw [mC,Int.min_self]
 ·rcases iI ha with rfl | ⟨g,xs,rfl,hx⟩
  ·rw [eA]
  rw [pR,(Dg hx).1,(Dg hx).2]
 ·rcases iJ ha with rfl | ⟨xs,rfl,hx⟩
  ·rw [eA]
  rw [oJ,Dx hx]
theorem rN (h:bI t n l=true) (ha:OkP t n a) (hb:OkP t n b) (hc:OkP t n c):dK t n (dK t n a b) c=dK t n a (dK t n b c):=by
 by_cases za:a=dF
 ·subst za;rw [eA,eA]
 by_cases zb:b=dF
 ·subst zb;rw [eA,eE ha]
 by_cases zc:c=dF
 ·subst zc;rw [eE hb,eE (vM h ha hb)]
 rcases (dN h).2 with ⟨rfl,hn⟩ | ⟨rfl,h0,h1⟩ | ⟨rfl,m,rfl,hm⟩ | ⟨rfl,m,rfl,hm⟩
 ·obtain rfl:=(iH ha).resolve_left za;obtain rfl:=(iH hb).resolve_left zb;obtain rfl:=(iH hc).resolve_left zc
  simp only [rM]
 ·obtain ⟨x,rfl,hx⟩:=(gY ha).resolve_left za;obtain ⟨y,rfl,hy⟩:=(gY hb).resolve_left zb;obtain ⟨w,rfl,hw⟩:=(gY hc).resolve_left zc
  simp only [mC,Int.min_assoc]
 ·obtain ⟨g,x,rfl,hx⟩:=(iI ha).resolve_left za;obtain ⟨g2,y,rfl,hy⟩:=(iI hb).resolve_left zb;obtain ⟨g3,w,rfl,hw⟩:=(iI hc).resolve_left zc
  simp only [pR,(Aj hx hy hw).1,(Aj hx hy hw).2]
 ·obtain ⟨x,rfl,hx⟩:=(iJ ha).resolve_left za;obtain ⟨y,rfl,hy⟩:=(iJ hb).resolve_left zb;obtain ⟨w,rfl,hw⟩:=(iJ hc).resolve_left zc
  simp only [oJ,Ar hx hy hw]
theorem uF (h:bI t n l=true) (ha:OkP t n a) (hb:OkP t n b) (hc:OkP t n c):fB t n (fB t n a b) c=fB t n a (fB t n b c):=by
 by_cases za:a=dF
 ·subst za;simp only [mA]
 by_cases zb:b=dF
 ·subst zb;simp only [mA,mB]
 by_cases zc:c=dF
 ·subst zc;simp only [mB]
 rcases (dN h).2 with ⟨rfl,hn⟩ | ⟨rfl,h0,h1⟩ | ⟨rfl,m,rfl,hm⟩ | ⟨rfl,m,rfl,hm⟩
 ·obtain rfl:=(iH ha).resolve_left za;obtain rfl:=(iH hb).resolve_left zb;obtain rfl:=(iH hc).resolve_left zc
  simp only [Au]
 ·obtain ⟨x,rfl,hx⟩:=(gY ha).resolve_left za;obtain ⟨y,rfl,hy⟩:=(gY hb).resolve_left zb;obtain ⟨w,rfl,hw⟩:=(gY hc).resolve_left zc
  simp only [xY];congr 1;omega
 ·obtain ⟨g,x,rfl,hx⟩:=(iI ha).resolve_left za;obtain ⟨g2,y,rfl,hy⟩:=(iI hb).resolve_left zb;obtain ⟨g3,w,rfl,hw⟩:=(iI hc).resolve_left zc
  simp only [Av,(Dh hx hy hw).1,(Dh hx hy hw).2]
 ·obtain ⟨x,rfl,hx⟩:=(iJ ha).resolve_left za;obtain ⟨y,rfl,hy⟩:=(iJ hb).resolve_left zb;obtain ⟨w,rfl,hw⟩:=(iJ hc).resolve_left zc
  simp only [xZ,L0 hx.oks hy.oks hw.oks]
theorem F4 (h:bI t n l=true) (ha:OkP t n a):fB t n (iA t n) a=a:=by
 by_cases za:a=dF
 ·subst za;rw [mB]
 rcases (dN h).2 with ⟨rfl,hn⟩ | ⟨rfl,h0,h1⟩ | ⟨rfl,m,rfl,hm⟩ | ⟨rfl,m,rfl,hm⟩
 ·obtain rfl:=(iH ha).resolve_left za
  rw [Uq,Au]
 ·obtain ⟨x,rfl,hx⟩:=(gY ha).resolve_left za
  rw [Ur,xY];congr 1;omega
 ·obtain ⟨g,x,rfl,hx⟩:=(iI ha).resolve_left za
  rw [N7,Av,(Di hx).1,(Di hx).2]
 ·obtain ⟨x,rfl,hx⟩:=(iJ ha).resolve_left za
  rw [N8,xZ,Qu hx]
theorem F5 (h:bI t n l=true) (ha:OkP t n a):fB t n a (iA t n)=a:=by
 by_cases za:a=dF
 ·subst za;rw [mA]
 rcases (dN h).2 with ⟨rfl,hn⟩ | ⟨rfl,h0,h1⟩ | ⟨rfl,m,rfl,hm⟩ | ⟨rfl,m,rfl,hm⟩
 ·obtain rfl:=(iH ha).resolve_left za
  rw [Uq,Au]
 ·obtain ⟨x,rfl,hx⟩:=(gY ha).resolve_left za
  rw [Ur,xY];congr 1;omega
 ·obtain ⟨g,x,rfl,hx⟩:=(iI ha).resolve_left za
  rw [N7,Av,(Dj hx).1,(Dj hx).2]
 ·obtain ⟨x,rfl,hx⟩:=(iJ ha).resolve_left za
  rw [N8,xZ,Qy hx]
theorem Ax (h:bI t n l=true) (ha:OkP t n a) (hb:OkP t n b) (hc:OkP t n c):fB t n a (dK t n b c)=dK t n (fB t n a b) (fB t n a c):=by
 by_cases za:a=dF
 ·subst za;simp only [mA,eA]
 by_cases zb:b=dF
 ·subst zb;simp only [mB,eA]
 by_cases zc:c=dF
 ·subst zc;rw [mB,eE hb,eE (vN h ha hb)]
 rcases (dN h).2 with ⟨rfl,hn⟩ | ⟨rfl,h0,h1⟩ | ⟨rfl,m,rfl,hm⟩ | ⟨rfl,m,rfl,hm⟩
 ·obtain rfl:=(iH ha).resolve_left za;obtain rfl:=(iH hb).resolve_left zb;obtain rfl:=(iH hc).resolve_left zc
  simp only [Au,rM]
 ·obtain ⟨x,rfl,hx⟩:=(gY ha).resolve_left za;obtain ⟨y,rfl,hy⟩:=(gY hb).resolve_left zb;obtain ⟨w,rfl,hw⟩:=(gY hc).resolve_left zc
  simp only [xY,mC];congr 1;omega
 ·obtain ⟨g,x,rfl,hx⟩:=(iI ha).resolve_left za;obtain ⟨g2,y,rfl,hy⟩:=(iI hb).resolve_left zb;obtain ⟨g3,w,rfl,hw⟩:=(iI hc).resolve_left zc
  simp only [Av,pR,(Dk hx hy hw).1,(Dk hx hy hw).2]
 ·obtain ⟨x,rfl,hx⟩:=(iJ ha).resolve_left za;obtain ⟨y,rfl,hy⟩:=(iJ hb).resolve_left zb;obtain ⟨w,rfl,hw⟩:=(iJ hc).resolve_left zc
  simp only [xZ,oJ,Qs hx hy hw]
theorem Ay (h:bI t n l=true) (ha:OkP t n a) (hb:OkP t n b) (hc:OkP t n c):fB t n (dK t n a b) c=dK t n (fB t n a c) (fB t n b c):=by
 by_cases zc:c=dF
 ·subst zc;simp only [mB,eA]
 by_cases za:a=dF
 ·subst za;simp only [mA,eA]
 by_cases zb:b=dF
 ·subst zb;rw [mA,eE ha,eE (vN h ha hc)]
 rcases (dN h).2 with ⟨rfl,hn⟩ | ⟨rfl,h0,h1⟩ | ⟨rfl,m,rfl,hm⟩ | ⟨rfl,m,rfl,hm⟩
 ·obtain rfl:=(iH ha).resolve_left za;obtain rfl:=(iH hb).resolve_left zb;obtain rfl:=(iH hc).resolve_left zc
  simp only [Au,rM]
 ·obtain ⟨x,rfl,hx⟩:=(gY ha).resolve_left za;obtain ⟨y,rfl,hy⟩:=(gY hb).resolve_left zb;obtain ⟨w,rfl,hw⟩:=(gY hc).resolve_left zc
  simp only [xY,mC];congr 1;omega
 ·obtain ⟨g,x,rfl,hx⟩:=(iI ha).resolve_left za;obtain ⟨g2,y,rfl,hy⟩:=(iI hb).resolve_left zb;obtain ⟨g3,w,rfl,hw⟩:=(iI hc).resolve_left zc
  simp only [Av,pR,(Ak hx hy hw).1,(Ak hx hy hw).2]
 ·obtain ⟨x,rfl,hx⟩:=(iJ ha).resolve_left za;obtain ⟨y,rfl,hy⟩:=(iJ hb).resolve_left zb;obtain ⟨w,rfl,hw⟩:=(iJ hc).resolve_left zc
  simp only [xZ,oJ,Qt hx hy hw]
end
inductive PS where
 | one (t n:Int)
 | two (t n u m:Int)
def PS.ok:PS→Prop
 | .one t n=>bI t n 0=true
 | .two t n u m=>bI t n 0=true∧bI u m 0=true
inductive PX where
 | one (a:PF)
 | two (a b:PF)
def OkX:PS→PX→Prop
 | .one t n,.one a=>OkP t n a
 | .two t n u m,.two a b=>OkP t n a∧OkP u m b
 | _,_=>False
def bZ:PS→PX→PX→PX
 | .one t n,.one a,.one b=>.one (dK t n a b)
 | .two t n u m,.two a b,.two c d=>.two (dK t n a c) (dK u m b d)
 | _,x,_=>x
def iW:PS→PX→PX→PX
 | .one t n,.one a,.one b=>.one (fB t n a b)
 | .two t n u m,.two a b,.two c d=>.two (fB t n a c) (fB u m b d)
 | _,x,_=>x
def jW:PS→PX
 | .one t n=>.one (iA t n)
 | .two t n u m=>.two (iA t n) (iA u m)
def bP:PS→PX
 | .one _ _=>.one dF
 | .two _ _ _ _=>.two dF dF
section
variable {S:PS} {x y v:PX}
theorem mL (h:S.ok):OkX S (jW S):=by
 cases S with
 | one t n=>exact yZ h
 | two t n u m=>exact ⟨yZ h.1,yZ h.2⟩
theorem lS:OkX S (bP S):=by
 cases S with
 | one t n=>exact .zero
 | two t n u m=>exact ⟨.zero,.zero⟩
theorem jG (h:S.ok) (hx:OkX S x) (hy:OkX S y):OkX S (bZ S x y):=by
 cases S<;>cases x<;>cases y<;>first | exact hx.elim | exact hy.elim | exact vM h hx hy | exact ⟨vM h.1 hx.1 hy.1,vM h.2 hx.2 hy.2⟩
theorem zA (h:S.ok) (hx:OkX S x) (hy:OkX S y):OkX S (iW S x y):=by
 cases S<;>cases x<;>cases y<;>first | exact hx.elim | exact hy.elim | exact vN h hx hy | exact ⟨vN h.1 hx.1 hy.1,vN h.2 hx.2 hy.2⟩
theorem Az (h:S.ok) (hx:OkX S x) (hy:OkX S y):bZ S x y=bZ S y x:=by
 cases S<;>cases x<;>cases y<;>first | exact hx.elim | exact hy.elim | exact congrArg PX.one (uD h hx hy) | (simp only [bZ];rw [uD h.1 hx.1 hy.1,uD h.2 hx.2 hy.2])
theorem pS (h:S.ok) (hx:OkX S x):bZ S x x=x:=by
 cases S<;>cases x<;>first | exact hx.elim | exact congrArg PX.one (uE h hx) | (simp only [bZ];rw [uE h.1 hx.1,uE h.2 hx.2])
theorem pT (hx:OkX S x):bZ S (bP S) x=x:=by
 cases S<;>cases x<;>first | exact hx.elim | (simp only [bZ,bP,eA])
theorem mM (hx:OkX S x):bZ S x (bP S)=x:=by
 cases S<;>cases x<;>first | exact hx.elim | (simp only [bZ,bP];rw [eE hx]) | (simp only [bZ,bP];rw [eE hx.1,eE hx.2])
theorem jR (h:S.ok) (hx:OkX S x) (hy:OkX S y) (hv:OkX S v):bZ S (bZ S x y) v=bZ S x (bZ S y v):=by
 cases S<;>cases x<;>cases y<;>cases v<;>first | exact hx.elim | exact hy.elim | exact hv.elim | exact congrArg PX.one (rN h hx hy hv) | (simp only [bZ];rw [rN h.1 hx.1 hy.1 hv.1,rN h.2 hx.2 hy.2 hv.2])
theorem A3 (h:S.ok) (hx:OkX S x) (hy:OkX S y) (hv:OkX S v):iW S (iW S x y) v=iW S x (iW S y v):=by
 cases S<;>cases x<;>cases y<;>cases v<;>first | exact hx.elim | exact hy.elim | exact hv.elim | exact congrArg PX.one (uF h hx hy hv) | (simp only [iW];rw [uF h.1 hx.1 hy.1 hv.1,uF h.2 hx.2 hy.2 hv.2])
theorem Ig (h:S.ok) (hx:OkX S x):iW S (jW S) x=x:=by
 cases S<;>cases x<;>first | exact hx.elim | exact congrArg PX.one (F4 h hx) | (simp only [iW,jW];rw [F4 h.1 hx.1,F4 h.2 hx.2])
theorem Ih (h:S.ok) (hx:OkX S x):iW S x (jW S)=x:=by
 cases S<;>cases x<;>first | exact hx.elim | exact congrArg PX.one (F5 h hx) | (simp only [iW,jW];rw [F5 h.1 hx.1,F5 h.2 hx.2])
theorem Dz (hx:OkX S x):iW S (bP S) x=bP S:=by
 cases S<;>cases x<;>first | exact hx.elim | (simp only [iW,bP,mA])
theorem D4 (hx:OkX S x):iW S x (bP S)=bP S:=by
 cases S<;>cases x<;>first | exact hx.elim | (simp only [iW,bP,mB])
theorem D5 (h:S.ok) (hx:OkX S x) (hy:OkX S y) (hv:OkX S v):iW S x (bZ S y v)=bZ S (iW S x y) (iW S x v):=by
 cases S<;>cases x<;>cases y<;>cases v<;>first | exact hx.elim | exact hy.elim | exact hv.elim | exact congrArg PX.one (Ax h hx hy hv) | (simp only [bZ,iW];rw [Ax h.1 hx.1 hy.1 hv.1,Ax h.2 hx.2 hy.2 hv.2])
theorem D6 (h:S.ok) (hx:OkX S x) (hy:OkX S y) (hv:OkX S v):iW S (bZ S x y) v=bZ S (iW S x v) (iW S y v):=by
 cases S<;>cases x<;>cases y<;>cases v<;>first | exact hx.elim | exact hy.elim | exact hv.elim | exact congrArg PX.one (Ay h hx hy hv) | (simp only [bZ,iW];rw [Ay h.1 hx.1 hy.1 hv.1,Ay h.2 hx.2 hy.2 hv.2])
end
structure PIs (w:World) (t n:Int) (f:WF) (a:PF):Prop where
 at_:f.At w
 pf:f.pf=a
 ok:OkP t n a
 pl:f.pl=0
theorem PIs.below {w w':World} {t n:Int} {f:WF} {a:PF} (h:PIs w t n f a) (hb:Below w.heap.size w w'):PIs w' t n f a:=⟨h.at_.below hb,h.pf,h.ok,h.pl⟩
def XIs (w:World):PS→WF→PX→Prop
 | .one t n,f,.one a=>PIs w t n f a
 | .two t n u m,f,.two a b=>f.pf=pC 0∧f.rl=0∧f.cl=0∧f.pl=2∧∃ blk off g h,f.pa=some ⟨blk,off,none⟩∧W6 w blk off g∧W6 w blk (off+6) h∧PIs w t n g a∧PIs w u m h b
 | _,_,_=>False
theorem XIs.below {w w':World} {S:PS} {f:WF} {x:PX} (h:XIs w S f x) (hb:Below w.heap.size w w'):XIs w' S f x:=by
 cases S<;>cases x<;>first | exact h.elim | exact PIs.below h hb | skip
 obtain ⟨h1,h2,h3,h4,blk,off,g,k,h5,h6,h7,h8,h9⟩:=h
 exact ⟨h1,h2,h3,h4,blk,off,g,k,h5,h6.below hb,h7.below hb,h8.below hb,h9.below hb⟩
theorem XIs.ok {w:World} {S:PS} {f:WF} {x:PX} (h:XIs w S f x):OkX S x:=by
 cases S<;>cases x<;>first | exact h.elim | exact PIs.ok h | skip
 obtain ⟨_,_,_,_,_,_,_,_,_,_,_,h8,h9⟩:=h
 exact ⟨h8.ok,h9.ok⟩
theorem PIs.of {w:World} {t n:Int} {f:WF} (hp:bI t n 0=true) (hf:f.At w) (h:fU t n f=true):PIs w t n f f.pf:=by
 have hrl:=hf.rl;have hcl:=hf.cl;have hg:=hf.g64;have hr:=hf.r64
 obtain ⟨z,c,g,ra,rl,rc,rows,ca,cl,cc,cells,pa,pl,pc⟩:=f
 dsimp only at hrl hcl hg hr
 subst hrl hcl
 simp only [fU,Bool.and_eq_true,Bool.or_eq_true,iY,iX,decide_eq_true_eq,Bool.not_eq_true'] at h
 obtain ⟨⟨h1,h2,h3,h4⟩,h5⟩:=h
 have ht5:t≠5:=by rintro rfl;simp [bI] at hp
 have hpl:pl=0:=by
  rcases h4 with ⟨_,h4⟩ | h4
  ·exact absurd h4 ht5
  ·exact h4
 refine ⟨hf,rfl,?_,hpl⟩
 show OkP t n ⟨z,c,g,rows,cells⟩
 cases z
 ·have h1':t=2∨c=0:=by simpa using h1
  have h2':t=3∨(g=0∧rows.length=0):=by simpa using h2
  have h3':t=4∨cells.length=0:=by simpa using h3
  simp only [Bool.false_eq_true,false_or] at h5
  rcases (dN hp).2 with ⟨rfl,hn⟩ | ⟨rfl,h0,h1⟩ | ⟨rfl,m,rfl,hm⟩ | ⟨rfl,m,rfl,hm⟩
  ·obtain rfl:c=0:=by omega
   obtain ⟨rfl,hr0⟩:g=0∧rows.length=0:=by
    rcases h2' with h | h
    ·omega
    ·exact h
   obtain rfl:=List.eq_nil_of_length_eq_zero hr0
   obtain rfl:=List.eq_nil_of_length_eq_zero (h3'.resolve_left (by decide))
   exact .bool rfl
  ·obtain ⟨rfl,hr0⟩:=h2'.resolve_left (by decide)
   obtain rfl:=List.eq_nil_of_length_eq_zero hr0
   obtain rfl:=List.eq_nil_of_length_eq_zero (h3'.resolve_left (by decide))
   simp only [if_true,Bool.and_eq_true,decide_eq_true_eq] at h5
   exact .cost c rfl h5.1 h5.2
  ·obtain rfl:c=0:=by omega
   obtain rfl:=List.eq_nil_of_length_eq_zero (h3'.resolve_left (by decide))
   have h6:eO (m:Int) g rows=0:=by simpa using h5
   obtain ⟨k,hk,hgood⟩:=Lu hg hr h6
   exact .facts k g rows rfl hk hgood
  ·obtain rfl:c=0:=by omega
   obtain ⟨rfl,hr0⟩:=h2'.resolve_left (by decide)
   obtain rfl:=List.eq_nil_of_length_eq_zero hr0
   have h6:lZ (m:Int) cells=0:=by simpa using h5
   obtain ⟨k,hk,hv⟩:=val_of h6
   exact .cells k cells rfl hk hv
 ·obtain rfl:c=0:=by simpa using h1
  obtain ⟨rfl,hr0⟩:g=0∧rows.length=0:=by simpa using h2
  have hc0:cells.length=0:=by simpa using h3
  obtain rfl:=List.eq_nil_of_length_eq_zero hr0
  obtain rfl:=List.eq_nil_of_length_eq_zero hc0
  exact .zero
def rO (blk:Nat):WF:=⟨false,0,0,none,0,0,[],none,0,0,[],some ⟨blk,0,none⟩,2,2⟩
def tJ:WF:=⟨true,0,0,none,0,0,[],none,0,0,[],none,0,0⟩
set_option maxHeartbeats 2000000 in
theorem Oa (f g:WF) (w:World) :
  Calls prog 136 #[f.val,g.val] w fun e w'=>∃ blk,e = .returned (rO blk).val∧W6 w' blk 0 f∧W6 w' blk 6 g∧w.heap.size≤blk∧Below w.heap.size w w':=by
 obtain ⟨z,c,g0,ra,rl,rc,rows,ca,cl,cc,cells,pa,pl,pc⟩:=f
 obtain ⟨z2,c2,g2,ra2,rl2,rc2,rows2,ca2,cl2,cc2,cells2,pa2,pl2,pc2⟩:=g
 show Calls prog 136 #[.agg #[.bool z,.int .i64 c,.int .u64 (g0:Int),.slice ra rl rc,.slice ca cl cc,.slice pa pl pc],.agg #[.bool z2,.int .i64 c2,.int .u64 (g2:Int),.slice ra2 rl2 rc2,.slice ca2 cl2 cc2,.slice pa2 pl2 pc2]] w _
 obtain ⟨W2,hW2⟩:∃ W,(w.alloc (.cells #[.bool z,.int .i64 c,.int .u64 (g0:Int),.slice ra rl rc,.slice ca cl cc,.slice pa pl pc] 44)).alloc (.cells #[.bool z2,.int .i64 c2,.int .u64 (g2:Int),.slice ra2 rl2 rc2,.slice ca2 cl2 cc2,.slice pa2 pl2 pc2] 44)=W:=⟨_,rfl⟩
 have hs2:W2.heap.size=w.heap.size+1+1:=by rw [← hW2];simp
 have B2:Below w.heap.size w W2:=by rw [← hW2];exact P6 _ _ _ _ _
 obtain ⟨t0,t1⟩:=nD W2 #[.bool false,.int .i64 0,.int .u64 0,.slice none 0 0,.slice none 0 0,.slice (some ⟨w.heap.size+1+1+1,0,none⟩) 2 2] #[.bool z,.int .i64 c,.int .u64 (g0:Int),.slice ra rl rc,.slice ca cl cc,.slice pa pl pc,.bool z2,.int .i64 c2,.int .u64 (g2:Int),.slice ra2 rl2 rc2,.slice ca2 cl2 cc2,.slice pa2 pl2 pc2] 44 44
 have B4:Below w.heap.size w ((W2.alloc (.cells #[.bool false,.int .i64 0,.int .u64 0,.slice none 0 0,.slice none 0 0,.slice (some ⟨w.heap.size+1+1+1,0,none⟩) 2 2] 44)).alloc (.cells #[.bool z,.int .i64 c,.int .u64 (g0:Int),.slice ra rl rc,.slice ca cl cc,.slice pa pl pc,.bool z2,.int .i64 c2,.int .u64 (g2:Int),.slice ra2 rl2 rc2,.slice ca2 cl2 cc2,.slice pa2 pl2 pc2] 44)):=B2.trans ((P6 _ _ _ _ _).mono B2.size)
 rw [hs2] at t0 t1
 obtain ⟨s0,s1,s2,s3,s4,s5⟩:=fD t0
 have T1:=Lib.hid t1
 have HB4:=Lib.hid B4
 clear t0 t1 B2 B4 hs2
 subst hW2
 go_enter func136,ntmps136
 go_wp2_with fail
 refine bodyPost_ret (v:=.agg #[.bool false,.int .i64 0,.int .u64 0,.slice none 0 0,.slice none 0 0,.slice (some ⟨w.heap.size+1+1+1,0,none⟩) 2 2]) ?_ rfl ?_
 rotate_left
 ·exact ⟨w.heap.size+1+1+1,rfl,⟨jE T1.out rfl,jE T1.out rfl,jE T1.out rfl,jE T1.out rfl,jE T1.out rfl,jE T1.out rfl⟩,⟨jE T1.out rfl,jE T1.out rfl,jE T1.out rfl,jE T1.out rfl,jE T1.out rfl,jE T1.out rfl⟩,by omega,HB4.out⟩
 simp [results,results136,go_sem,s0,s1,s2,s3,s4,s5]
set_option maxHeartbeats 2000000 in
theorem yA (t n:Int) (a:Option Addr) (l c0:Nat) (ht:t≠5) (w:World) :
  Calls prog 107 #[.agg #[.int .i64 t,.int .i64 n,.slice a l c0]] w fun e w'=>e = .returned tJ.val∧Below w.heap.size w w':=by
 have e5:(t == 5)=false:=by simp [ht]
 clear ht
 obtain ⟨t0,t1⟩:=nD w #[.int .i64 t,.int .i64 n,.slice a l c0] #[.bool true,.int .i64 0,.int .u64 0,.slice none 0 0,.slice none 0 0,.slice none 0 0] 25 44
 obtain ⟨s0,s1,s2,s3,s4,s5⟩:=fD t1
 clear t0 t1
 go_enter func107,ntmps107
 go_wp2_with fail
 refine bodyPost_ret (v:=.agg #[.bool true,.int .i64 0,.int .u64 0,.slice none 0 0,.slice none 0 0,.slice none 0 0]) ?_ rfl ⟨rfl,P6 _ _ _ _ _⟩
 simp [results,results107,go_sem,s0,s1,s2,s3,s4,s5]
theorem zB {t n:Int} {l:Nat} (h:bI t n l=true):t≠5:=by
 rintro rfl;simp [bI] at h
set_option maxHeartbeats 2000000 in
theorem xD (d:Nat) (s:SV) (e0:Int) (w:World) (hs:SIn w d s) (he:dW s=e0) :
  Calls prog 32 #[s.f.val] w fun e w'=>e = .returned (.int .i64 e0)∧Below w.heap.size w w':=by
 match d,s,hs with
 | d+1,.mk ⟨t,n,a,l,c⟩ ps,hs =>
 show Calls prog 32 #[.agg #[.int .i64 t,.int .i64 n,.slice a l c]] w _
 have hl:ps.length=l:=hs.1
 by_cases ht:t=5
 ·subst ht
  have hB:=Lib.hid (Cq w #[.int .i64 5,.int .i64 n,.slice a l c] 25)
  have BX:=Lib.hid (dL w (.cells #[.int .i64 5,.int .i64 n,.slice a l c] 25))
  have hpl:bI 5 n l=false:=by simp [bI]
  by_cases h0:n=0∧l=2
  ·obtain ⟨rfl,rfl⟩:=h0
   obtain ⟨p,q,rfl⟩:=tX hl
   obtain ⟨_,b,off,ha,hb,hp,hq,_,_⟩:=hs.two
   obtain rfl:a=some ⟨b,off,none⟩:=ha
   obtain ⟨⟨pt,pn,pa,pl,pc⟩,pps⟩:=p
   obtain ⟨⟨qt,qn,qa,ql,qc⟩,qps⟩:=q
   have HP:=Lib.hid (hp.below hB.out);have HQ:=Lib.hid (hq.below hB.out)
   obtain ⟨r1,hr1⟩:∃ r,bI pt pn pl=r:=⟨_,rfl⟩
   obtain ⟨r2,hr2⟩:∃ r,bI qt qn ql=r:=⟨_,rfl⟩
   have HR1:=Lib.hid hr1;have HR2:=Lib.hid hr2
   have HE:Hid ((if r1=true∧r2=true then (0:Int) else 50)=e0):=by
    show _=_
    rw [← he];simp [dW,hpl,SV.pl,SV.f,hr1,hr2]
   obtain ⟨W0,hW0⟩:∃ W,w.alloc (.cells #[.int .i64 5,.int .i64 0,.slice (some ⟨b,off,none⟩) 2 c] 25)=W:=⟨_,rfl⟩
   rw [hW0] at BX HP HQ hB
   clear hs hl hp hq hr1 hr2 he hpl
   have NX:∀ W:World,Below W0.heap.size W0 W→Hid (W.cell? ⟨w.heap.size,0,none⟩=some (.int .i64 5)∧W.cell? ⟨w.heap.size,1,none⟩=some (.int .i64 0)∧W.cell? ⟨w.heap.size,2,none⟩=some (.slice (some ⟨b,off,none⟩) 2 c)):=fun _ h=>gO (cE BX.out h)
   have NNX:=Lib.hid NX
   clear NX
   obtain ⟨z0,z1,z2⟩:=(NNX.out _ (Below.refl _ _)).out
   go_enter func32,ntmps32
   go_wp2_with fail
   clear z0 z1 z2
   go_loopw [3,4] (fun o i wr=>Below W0.heap.size W0 wr∧((i = .int .i64 0∧o = .bool true)∨(i = .int .i64 1∧o = .bool r1)∨(i = .int .i64 2∧r1=true∧o = .bool r2))) (fun _ i _=>2 - (intOf i).toNat)
   case atStart=>exact ⟨Below.refl _ _,.inl ⟨rfl,rfl⟩⟩
   case round =>
    obtain ⟨hb1,hrel⟩:=hrel
    obtain ⟨x0,x1,x2⟩:=(NNX.out _ hb1).out
    obtain ⟨y0,y1,y2⟩:=HP.out.below hb1
    obtain ⟨v0,v1,v2⟩:=HQ.out.below hb1
    dsimp only [SV.f] at y0 y1 y2 v0 v1 v2
    simp only [Nat.add_assoc,Nat.reduceAdd] at v1 v2
    rcases hrel with ⟨rfl,rfl⟩ | ⟨rfl,rfl⟩ | ⟨rfl,hr,rfl⟩
    ·by_cases hp5:pt=5
     ·subst hp5
      have HF:Hid (r1=false):=by show _=_;rw [← HR1.out];simp [bI]
      go_wp2_with fail
      go_roundw
      case rel=>exact ⟨hb1,.inr (.inl ⟨rfl,by rw [HF.out]⟩)⟩
      case measure=>simp [intOf]
     ·have hp6:(pt != 5)=true:=by simp [hp5]
      go_wp2_with fail
      refine (rI pt pn pa pl pc hp5 r1 HR1.out _).mono ?_
      rintro e w3 ⟨rfl,hb3⟩
      cases r1
      all_goals
       simp only [Bool.false_eq_true,if_false,if_true]
       go_wp2_with fail
       go_roundw
       case rel=>exact ⟨hb1.trans (hb3.mono hb1.size),.inr (.inl ⟨rfl,rfl⟩)⟩
       case measure=>simp [intOf]
    ·cases r1
     ·have HE2:Hid ((50:Int)=e0):=by show _=_;rw [← HE.out];simp
      go_wp2_with fail
      go_ret
      exact ⟨eK HE2.out,hB.out.trans (hb1.mono hB.out.size)⟩
     ·by_cases hp5:qt=5
      ·subst hp5
       have HF:Hid (r2=false):=by show _=_;rw [← HR2.out];simp [bI]
       go_wp2_with fail
       go_roundw
       case rel=>exact ⟨hb1,.inr (.inr ⟨by first | rfl | trivial,by first | rfl | trivial,by first | rfl | (rw [HF.out])⟩)⟩
       case measure=>simp [intOf]
      ·have hp6:(qt != 5)=true:=by simp [hp5]
       go_wp2_with fail
       refine (rI qt qn qa ql qc hp5 r2 HR2.out _).mono ?_
       rintro e w3 ⟨rfl,hb3⟩
       cases r2
       all_goals
        simp only [Bool.false_eq_true,if_false,if_true]
        go_wp2_with fail
        go_roundw
        case rel=>exact ⟨hb1.trans (hb3.mono hb1.size),.inr (.inr ⟨by first | rfl | trivial,by first | rfl | trivial,by first | rfl | trivial⟩)⟩
        case measure=>simp [intOf]
    ·have HE2:Hid ((if r2=true then (0:Int) else 50)=e0):=by show _=_;rw [← HE.out,hr];simp
     cases r2
     all_goals
      go_wp2_with fail
      go_ret
      exact ⟨eK HE2.out,hB.out.trans (hb1.mono hB.out.size)⟩
  ·have HE:Hid ((50:Int)=e0):=by
    show _=_
    rw [← he,dW,hpl,if_neg (by simp),if_neg]
    rintro ⟨_,h1,h2,_⟩
    exact h0 ⟨h1,by omega⟩
   obtain ⟨W0,hW0⟩:∃ W,w.alloc (.cells #[.int .i64 5,.int .i64 n,.slice a l c] 25)=W:=⟨_,rfl⟩
   rw [hW0] at BX hB
   obtain ⟨x0,x1,x2⟩:=gO BX.out
   clear hs hl he hpl
   have hc:(n=0∧((n == 0)=true)∧((l:Int) == 2)=false)∨((n == 0)=false):=by
    by_cases hn:n=0
    ·exact .inl ⟨hn,by simp [hn],by simp;omega⟩
    ·exact .inr (by simp [hn])
   clear h0
   rcases hc with ⟨rfl,c1,c2⟩ | c1
   all_goals
    go_enter func32,ntmps32
    go_wp2_with fail
    go_loopw [3,4] (fun o i wr=>i = .int .i64 0∧o = .bool false∧W0=wr) (fun _ i _=>0)
    case atStart=>exact ⟨rfl,rfl,rfl⟩
    case round =>
     obtain ⟨rfl,rfl,rfl⟩:=hrel
     by_cases hl0:0 < l
     ·have g1:(0:Int) < (l:Int):=by omega
      go_wp2_with fail
      go_ret
      exact ⟨eK HE.out,hB.out⟩
     ·obtain rfl:l=0:=by omega
      go_wp2_with fail
      go_ret
      exact ⟨eK HE.out,hB.out⟩
 ·obtain ⟨r,hr⟩:∃ r,bI t n l=r:=⟨_,rfl⟩
  refine (rI t n a l c ht r hr w).mono ?_
  rintro e w1 ⟨rfl,hb⟩
  refine ⟨?_,hb⟩
  rw [← he,Ht ht,hr]
theorem eH {w:World} {B:Nat} {cs:Array Value} {T:TypeId} (h:w.heap[B]?=some (.cells cs T (0,0))) (j:Nat):w.frozen? ⟨B,j,none⟩=false:=by
 unfold World.frozen?;simp [h]
theorem Oc {w:World} {B:Nat} {a b c d e f v0 v1 v2 v3 v4 v5:Value} {T:TypeId} (h:w.heap[B]?=some (.cells #[a,b,c,d,e,f] T (0,0))) :
  ((((((w.setCell ⟨B,0,none⟩ v0).setCell ⟨B,1,none⟩ v1).setCell ⟨B,2,none⟩ v2).setCell ⟨B,3,none⟩ v3).setCell ⟨B,4,none⟩ v4).setCell ⟨B,5,none⟩ v5).heap[B]?=some (.cells #[v0,v1,v2,v3,v4,v5] T (0,0)) :=
 heap_setCell_same _ B 5 _ _ _ (heap_setCell_same _ B 4 _ _ _ (heap_setCell_same _ B 3 _ _ _ (heap_setCell_same _ B 2 _ _ _ (heap_setCell_same _ B 1 _ _ _ (heap_setCell_same w B 0 _ _ _ h)))))
theorem A4 {n:Nat} {w0 w:World} {B:Nat} (v0 v1 v2 v3 v4 v5:Value) (h:Below n w0 w) (hB:n≤B) :
  Below n w0 ((((((w.setCell ⟨B,0,none⟩ v0).setCell ⟨B,1,none⟩ v1).setCell ⟨B,2,none⟩ v2).setCell ⟨B,3,none⟩ v3).setCell ⟨B,4,none⟩ v4).setCell ⟨B,5,none⟩ v5) :=
 (((((h.setCell (p:=⟨B,0,none⟩) hB _).setCell (p:=⟨B,1,none⟩) hB _).setCell (p:=⟨B,2,none⟩) hB _).setCell (p:=⟨B,3,none⟩) hB _).setCell (p:=⟨B,4,none⟩) hB _).setCell (p:=⟨B,5,none⟩) hB _
def kI (n:Nat) (w w':World):Prop:=∀ k,n≤k→w'.heap[k]?=w.heap[k]?
theorem kI.refl (n:Nat) (w:World):kI n w w:=fun _ _=>rfl
theorem kI.setCell {n:Nat} {a w:World} (h:kI n a w) {p:Addr} (hp:p.block < n) (u:Value):kI n a (w.setCell p u):=fun k hk=>(Below.heap_setCell _ _ _ _ (by omega)).trans (h k hk)
theorem kI.cell {n:Nat} {w w':World} (h:kI n w w') {p:Addr} (hp:n≤p.block):w'.cell? p=w.cell? p:=World.cell?_of_block (w:=w) (h p.block hp)
theorem uG {n:Nat} {w0 w:World} {B:Nat} (v0 v1 v2 v3 v4 v5:Value) (h:kI n w0 w) (hB:B < n) :
  kI n w0 ((((((w.setCell ⟨B,0,none⟩ v0).setCell ⟨B,1,none⟩ v1).setCell ⟨B,2,none⟩ v2).setCell ⟨B,3,none⟩ v3).setCell ⟨B,4,none⟩ v4).setCell ⟨B,5,none⟩ v5) :=
 (((((h.setCell (p:=⟨B,0,none⟩) hB _).setCell (p:=⟨B,1,none⟩) hB _).setCell (p:=⟨B,2,none⟩) hB _).setCell (p:=⟨B,3,none⟩) hB _).setCell (p:=⟨B,4,none⟩) hB _).setCell (p:=⟨B,5,none⟩) hB _
theorem fQ.above {w w':World} {n:Nat} {a:Option Addr} {vs:List Value} (h:fQ w a vs) (hn:∀ ad,a=some ad→n≤ad.block) (hb:kI n w w'):fQ w' a vs:=by
 rcases h with h | ⟨b,off,rfl,hc⟩
 ·exact .inl h
 ·exact .inr ⟨b,off,rfl,fun i v hi=>(hb.cell (p:=⟨b,off+i,none⟩) (hn ⟨b,off,none⟩ rfl)).trans (hc i v hi)⟩
theorem eZ.above {w w':World} {n:Nat} {a:Option Addr} {cs:List Cl} (h:eZ w a cs) (hn:∀ ad,a=some ad→n≤ad.block) (hb:kI n w w'):eZ w' a cs:=by
 rcases h with h | ⟨b,off,rfl,hc⟩
 ·exact .inl h
 ·exact .inr ⟨b,off,rfl,fun i v hi=>⟨(hb.cell (p:=⟨b,off+i * 3,none⟩) (hn ⟨b,off,none⟩ rfl)).trans (hc i v hi).1,(hb.cell (p:=⟨b,off+i * 3+1,none⟩) (hn ⟨b,off,none⟩ rfl)).trans (hc i v hi).2.1,(hb.cell (p:=⟨b,off+i * 3+2,none⟩) (hn ⟨b,off,none⟩ rfl)).trans (hc i v hi).2.2⟩⟩
theorem W6.above {w w':World} {n b o:Nat} {f:WF} (h:W6 w b o f) (hn:n≤b) (hb:kI n w w'):W6 w' b o f :=
 ⟨(hb.cell hn).trans h.1,(hb.cell hn).trans h.2.1,(hb.cell hn).trans h.2.2.1,(hb.cell hn).trans h.2.2.2.1,(hb.cell hn).trans h.2.2.2.2.1,(hb.cell hn).trans h.2.2.2.2.2⟩
structure PNew (n:Nat) (w:World) (t d:Int) (f:WF) (a:PF):Prop where
 is:PIs w t d f a
 ra:∀ ad,f.ra=some ad→n≤ad.block
 ca:∀ ad,f.ca=some ad→n≤ad.block
theorem PNew.below {n:Nat} {w w':World} {t d:Int} {f:WF} {a:PF} (h:PNew n w t d f a) (hb:Below w.heap.size w w'):PNew n w' t d f a:=⟨h.is.below hb,h.ra,h.ca⟩
theorem PNew.mono {n m:Nat} {w:World} {t d:Int} {f:WF} {a:PF} (h:PNew n w t d f a) (hm:m≤n):PNew m w t d f a:=⟨h.is,fun ad e=>Nat.le_trans hm (h.ra ad e),fun ad e=>Nat.le_trans hm (h.ca ad e)⟩
def gT (n:Nat) (w:World):PS→WF→PX→Prop
 | .one t d,f,.one a=>PNew n w t d f a
 | .two t d u m,f,.two a b=>f.pf=pC 0∧f.rl=0∧f.cl=0∧f.pl=2∧∃ blk g h,f.pa=some ⟨blk,0,none⟩∧n≤blk∧W6 w blk 0 g∧W6 w blk 6 h∧PNew n w t d g a∧PNew n w u m h b
 | _,_,_=>False
theorem gT.is {n:Nat} {w:World} {S:PS} {f:WF} {x:PX} (h:gT n w S f x):XIs w S f x:=by
 cases S<;>cases x<;>first | exact h.elim | exact PNew.is h | skip
 obtain ⟨h1,h2,h3,h4,blk,g,k,h5,_,h6,h7,h8,h9⟩:=h
 exact ⟨h1,h2,h3,h4,blk,0,g,k,h5,h6,by simpa using h7,h8.is,h9.is⟩
theorem gT.below {n:Nat} {w w':World} {S:PS} {f:WF} {x:PX} (h:gT n w S f x) (hb:Below w.heap.size w w'):gT n w' S f x:=by
 cases S<;>cases x<;>first | exact h.elim | exact PNew.below h hb | skip
 obtain ⟨h1,h2,h3,h4,blk,g,k,h5,h0,h6,h7,h8,h9⟩:=h
 exact ⟨h1,h2,h3,h4,blk,g,k,h5,h0,h6.below hb,h7.below hb,h8.below hb,h9.below hb⟩
theorem gT.mono {n m:Nat} {w:World} {S:PS} {f:WF} {x:PX} (h:gT n w S f x) (hm:m≤n):gT m w S f x:=by
 cases S<;>cases x<;>first | exact h.elim | exact PNew.mono h hm | skip
 obtain ⟨h1,h2,h3,h4,blk,g,k,h5,h0,h6,h7,h8,h9⟩:=h
 exact ⟨h1,h2,h3,h4,blk,g,k,h5,Nat.le_trans hm h0,h6,h7,h8.mono hm,h9.mono hm⟩
def gH (S:PS) (x:PX) (w:World) (e:Ending) (w':World):Prop:=∃ f:WF,e = .returned f.val∧gT w.heap.size w' S f x∧Below w.heap.size w w'
theorem oW (n:Nat) (w:World) (t d:Int):PNew n w t d tJ dF :=
 ⟨⟨⟨.inl rfl,rfl,by decide,(fun r hr=>by cases hr),.inl rfl,rfl,(fun c hc=>by cases hc),by decide⟩,rfl,.zero,rfl⟩,(fun ad e=>by cases e),(fun ad e=>by cases e)⟩
theorem A6 {n:Nat} {w:World} {t d u m:Int} {blk:Nat} {g h:WF} {a b:PF} (h6:W6 w blk 0 g) (h7:W6 w blk 6 h) (hn:n≤blk) (ha:PNew n w t d g a) (hb:PNew n w u m h b):gT n w (.two t d u m) (rO blk) (.two a b) :=
 ⟨rfl,rfl,rfl,rfl,blk,g,h,rfl,hn,h6,h7,ha,hb⟩
theorem kJ {k:IntKind} {a b:Int} (h:a=b):Ending.returned (.int k a) = .returned (.int k b):=by rw [h]
def Row (w:World) (a:Option Addr) (zs:List Int):Prop :=
 zs=[]∨∃ b off,a=some ⟨b,off,none⟩∧∀ i,i < zs.length→w.cell? ⟨b,off+i,none⟩=some (.int .i64 (zs.getD i 0))
def okc (limit c:Int):Bool:=decide (-1≤c) && decide (c≤limit)
def chk (limit:Int) (zs:List Int):Int:=if limit < 0∨1048576 < limit then 20 else if zs.all (okc limit) then 0 else 21
def iN (a b:Int):Int:=if a = -1 then b else if b = -1 then a else min a b
def kV (limit a b:Int):Int:=if a = -1∨b = -1 then -1 else min (a+b) limit
theorem L3 (a b:Int) (w:World):Calls prog 160 #[.int .i64 a,.int .i64 b] w fun e w'=>e = .returned (.int .i64 (iN a b))∧w=w':=by
 by_cases ha:a = -1
 ·have h1:(a == -1)=true:=by simp [ha]
  have e1:iN a b=b:=by simp [iN,ha]
  have H:=Lib.hid e1;clear e1 ha
  go_enter func160,ntmps160
  go_wp2
  go_ret
  exact ⟨kJ H.out.symm,rfl⟩
 ·have h1:(a == -1)=false:=by simp [ha]
  by_cases hb:b = -1
  ·have h2:(b == -1)=true:=by simp [hb]
   have e1:iN a b=a:=by simp [iN,ha,hb]
   have H:=Lib.hid e1;clear e1 ha hb
   go_enter func160,ntmps160
   go_wp2
   go_ret
   exact ⟨kJ H.out.symm,rfl⟩
  ·have h2:(b == -1)=false:=by simp [hb]
   have e1:iN a b=min a b:=by simp [iN,ha,hb]
   have H:=Lib.hid e1;clear e1 ha hb
   go_enter func160,ntmps160
   go_wp2
   all_goals go_ret
   all_goals exact ⟨kJ (by rw [H.out]<;>omega),rfl⟩
theorem Qz (l a b:Int) (w:World) (hs : -9223372036854775808≤a+b∧a+b≤9223372036854775807):Calls prog 172 #[.int .i64 l,.int .i64 a,.int .i64 b] w fun e w'=>e = .returned (.int .i64 (kV l a b))∧w=w':=by
 by_cases ha:a = -1
 ·have h1:(a == -1)=true:=by simp [ha]
  have e1:kV l a b = -1:=by simp [kV,ha]
  have H:=Lib.hid e1;clear e1 ha
  go_enter func172,ntmps172
  go_wp2
  go_ret
  exact ⟨kJ H.out.symm,rfl⟩
 ·have h1:(a == -1)=false:=by simp [ha]
  by_cases hb:b = -1
  ·have h2:(b == -1)=true:=by simp [hb]
   have e1:kV l a b = -1:=by simp [kV,ha,hb]
   have H:=Lib.hid e1;clear e1 ha hb
   go_enter func172,ntmps172
   go_wp2
   go_ret
   exact ⟨kJ H.out.symm,rfl⟩
  ·have h2:(b == -1)=false:=by simp [hb]
   have e1:kV l a b=min (a+b) l:=by simp [kV,ha,hb]
   have H:=Lib.hid e1;clear e1 ha hb
   obtain ⟨hs1,hs2⟩:=hs
   go_enter func172,ntmps172
   go_wp2
   all_goals go_ret
   all_goals exact ⟨kJ (by rw [H.out]<;>omega),rfl⟩
theorem xE {p:Int→Bool} {zs:List Int} {k:Nat} {z:Int} (hk:k < zs.length) (hz:z=zs.getD k 0) (h:(zs.take k).all p=true) (hp:p z=true):(zs.take (k+1)).all p=true:=by
 rw [List.take_succ_eq_append_getElem hk,List.all_append,h]
 have:zs.getD k 0=zs[k]:=by simp [List.getD,hk]
 rw [this] at hz
 simp [← hz,hp]
theorem F6 {p:Int→Bool} {zs:List Int} {k:Nat} {z:Int} (hk:k < zs.length) (hz:z=zs.getD k 0) (hp:p z=false):zs.all p=false:=by
 have:zs.getD k 0=zs[k]:=by simp [List.getD,hk]
 rw [this] at hz
 rw [List.all_eq_false]
 exact ⟨zs[k],List.getElem_mem hk,by rw [← hz,hp];simp⟩
theorem Od {limit:Int} {zs:List Int} {k:Nat} {z:Int} (h0:0≤limit) (h1:limit≤1048576) (hk:k < zs.length) (hz:z=zs.getD k 0) (hp:okc limit z=false):chk limit zs=21:=by
 unfold chk;rw [if_neg (by omega),F6 hk hz hp];rfl
theorem Us {limit:Int} {zs:List Int} {k:Nat} (h0:0≤limit) (h1:limit≤1048576) (hk:zs.length≤k) (h:(zs.take k).all (okc limit)=true):chk limit zs=0:=by
 rw [List.take_of_length_le hk] at h
 unfold chk;rw [if_neg (by omega),h];rfl
theorem okc_lo {l z:Int} (h:z < -1):okc l z=false:=by simp [okc];omega
theorem okc_hi {l z:Int} (h:l < z):okc l z=false:=by simp [okc];omega
theorem okc_in {l z:Int} (h : -1≤z) (h2:z≤l):okc l z=true:=by simp [okc];omega
set_option maxHeartbeats 400000 in
theorem mN (limit:Int) (a:Option Addr) (cap:Nat) (zs:List Int) (w:World) (hm:zs.length≤maxLen) (hrow:Row w a zs) :
  Calls prog 159 #[.int .i64 limit,.slice a zs.length cap] w fun e w'=>e = .returned (.int .i64 (chk limit zs))∧w=w':=by
 unfold maxLen at hm
 by_cases h0:limit < 0
 ·have e1:chk limit zs=20:=by simp [chk,h0]
  have H:=Lib.hid e1;clear e1
  go_enter func159,ntmps159
  go_wp2
  go_ret
  exact ⟨kJ H.out.symm,rfl⟩
 by_cases h1:1048576 < limit
 ·have e1:chk limit zs=20:=by simp [chk,h1]
  have H:=Lib.hid e1;clear e1
  go_enter func159,ntmps159
  go_wp2
  go_ret
  exact ⟨kJ H.out.symm,rfl⟩
 have h0':0≤limit:=by omega
 have h1':limit≤1048576:=by omega
 clear h0 h1
 go_enter func159,ntmps159
 go_wp2
 go_loop [15] (fun i=>∃ k:Nat,k≤zs.length∧i = .int .i64 k∧Hid ((zs.take k).all (okc limit)=true)) (fun i=>zs.length - (intOf i).toNat)
 case atStart=>exact ⟨0,Nat.zero_le _,rfl,by simp [Hid]⟩
 case round =>
  obtain ⟨k,hk,rfl,HA⟩:=hrel
  by_cases hlt:k < zs.length
  ·rcases hrow with h | ⟨b,off,rfl,hc⟩
   ·subst h;simp at hlt
   have hck:=hc k hlt
   obtain ⟨z,hz⟩:∃ z,z=zs.getD k 0:=⟨_,rfl⟩
   rw [← hz] at hck
   have HZ:=Lib.hid hz;clear hz hc
   by_cases h2:z < -1
   ·have H:=Lib.hid (Od h0' h1' hlt HZ.out (okc_lo h2))
    go_wp2
    go_ret
    exact ⟨kJ H.out.symm,rfl⟩
   by_cases h3:limit < z
   ·have H:=Lib.hid (Od h0' h1' hlt HZ.out (okc_hi h3))
    go_wp2
    go_ret
    exact ⟨kJ H.out.symm,rfl⟩
   have H:=Lib.hid (xE hlt HZ.out HA.out (okc_in (by omega) (by omega)))
   have h2' : -1≤z:=by omega
   have h3':z≤limit:=by omega
   clear h2 h3
   go_wp2
   go_round
   case rel=>exact ⟨k+1,by omega,by go_num,H⟩
   case measure=>simp [intOf];omega
  ·have H:=Lib.hid (Us h0' h1' (by omega) HA.out)
   go_wp2
   go_ret
   exact ⟨kJ H.out.symm,rfl⟩
def F7 (zs:List Int):Int:=zs.foldl iN (-1)
def Ut (limit:Int) (zs:List Int):Int:=zs.foldl (kV limit) 0
def oK (limit:Int) (zs:List Int):Int:=if chk limit zs=0 then F7 zs else 0
def Cr (limit:Int) (zs:List Int):Int:=if chk limit zs=0 then Ut limit zs else 0
theorem vO {limit:Int} {zs:List Int} (h:chk limit zs=0):0≤limit∧limit≤1048576∧zs.all (okc limit)=true:=by
 unfold chk at h
 split at h
 ·omega
 ·cases hz:zs.all (okc limit)<;>rw [hz] at h<;>simp at h
  exact ⟨by omega,by omega,rfl⟩
theorem Q0 {zs:List Int} {k:Nat} {z:Int} (hk:k < zs.length) (hz:z=zs.getD k 0):zs.take (k+1)=zs.take k++[z]:=by
 rw [List.take_succ_eq_append_getElem hk]
 have:zs.getD k 0=zs[k]:=by simp [List.getD,hk]
 rw [hz,this]
theorem D7 {f:Int→Int→Int} {s:Int} {zs:List Int} {k:Nat} {z:Int} (hk:k < zs.length) (hz:z=zs.getD k 0):(zs.take (k+1)).foldl f s=f ((zs.take k).foldl f s) z:=by
 rw [Q0 hk hz,List.foldl_append];rfl
theorem Oe {limit:Int} {zs:List Int} {k:Nat} {z:Int} (h:zs.all (okc limit)=true) (hk:k < zs.length) (hz:z=zs.getD k 0) : -1≤z∧z≤limit:=by
 have e:zs.getD k 0=zs[k]:=by simp [List.getD,hk]
 rw [List.all_eq_true] at h
 have:=h z (by rw [hz,e];exact List.getElem_mem hk)
 simp [okc] at this;exact this
theorem Uu {l a b:Int} (hl:0≤l) (ha : -1≤a) (ha2:a≤l) (hb : -1≤b) (hb2:b≤l) : -1≤kV l a b∧kV l a b≤l:=by
 unfold kV;split<;>omega
theorem rtwo {k k2:IntKind} {a b c d:Int} (h:a=b) (h2:c=d):Ending.returned (.tuple #[.int k a,.int k2 c]) = .returned (.tuple #[.int k b,.int k2 d]):=by rw [h,h2]
theorem Q1 {a b l:Int} (ha : -1≤a) (ha2:a≤1048576) (hb : -1≤b) (hb2:b≤l) (hl:l≤1048576) : -1≤iN a b∧iN a b≤1048576:=by
 unfold iN;split
 ·omega
 ·split<;>omega
set_option maxHeartbeats 400000 in
theorem Q2 (limit:Int) (a:Option Addr) (cap:Nat) (zs:List Int) (w:World) (hm:zs.length≤maxLen) (hrow:Row w a zs) :
  Calls prog 138 #[.int .i64 limit,.slice a zs.length cap] w fun e w'=>e = .returned (.tuple #[.int .i64 (oK limit zs),.int .i64 (chk limit zs)])∧w=w':=by
 have HM:=Lib.hid hm
 unfold maxLen at hm
 by_cases hc0:chk limit zs=0
 ·obtain ⟨hl0,hl1,hall⟩:=vO hc0
  have e1:oK limit zs=F7 zs:=by simp [oK,hc0]
  have H1:=Lib.hid e1
  have H0:=Lib.hid hc0
  have HALL:=Lib.hid hall
  have HROW:=Lib.hid hrow
  clear e1 hc0 hall hrow
  go_enter func138,ntmps138
  go_wp2_with (go_at_call 159;refine (mN _ _ _ _ _ HM.out HROW.out).mono ?_;rintro e w' ⟨rfl,rfl⟩;rw [H0.out])
  go_loop [7,18] (fun m i=>∃ k:Nat,k≤zs.length∧i = .int .i64 k∧∃ s:Int,m = .int .i64 s ∧ -1≤s∧s≤1048576∧Hid (s=(zs.take k).foldl iN (-1))) (fun _ i=>zs.length - (intOf i).toNat)
  case atStart=>exact ⟨0,Nat.zero_le _,rfl,_,rfl,by omega,by omega,by simp [Hid]⟩
  case round =>
   obtain ⟨k,hk,rfl,s,rfl,hs1,hs2,HS⟩:=hrel
   by_cases hlt:k < zs.length
   ·rcases HROW.out with h | ⟨b,off,rfl,hc⟩
    ·subst h;simp at hlt
    have hck:=hc k hlt
    obtain ⟨z,hz⟩:∃ z,z=zs.getD k 0:=⟨_,rfl⟩
    rw [← hz] at hck
    obtain ⟨hz1,hz2⟩:=Oe HALL.out hlt hz
    have hs' : -1≤iN s z∧iN s z≤1048576:=Q1 hs1 hs2 hz1 hz2 hl1
    have HZ:=Lib.hid hz;clear hz hc HROW
    go_wp2_with (go_at_call 160;refine (L3 _ _ _).mono ?_;rintro e w' ⟨rfl,rfl⟩)
    go_round
    case rel=>exact ⟨k+1,by omega,by go_num,_,rfl,hs'.1,hs'.2,by rw [HS.out];exact (D7 hlt HZ.out).symm⟩
    case measure=>simp [intOf];omega
   ·have HE:Hid (s=oK limit zs):=by rw [H1.out,HS.out,List.take_of_length_le (by omega)];rfl
    have HROW2:=HROW
    clear HROW
    go_wp2
    go_ret2
    exact ⟨rtwo HE.out H0.out.symm,rfl⟩
 ·have e1:oK limit zs=0:=by simp [oK,hc0]
  have H1:=Lib.hid e1
  have HROW:=Lib.hid hrow
  have hne:(chk limit zs != 0)=true:=by simpa using hc0
  obtain ⟨c,hcc⟩:∃ c,c=chk limit zs:=⟨_,rfl⟩
  rw [← hcc] at hne
  have HC:=Lib.hid hcc
  clear e1 hc0 hrow hcc
  go_enter func138,ntmps138
  go_wp2_with (go_at_call 159;refine (mN _ _ _ _ _ HM.out HROW.out).mono ?_;rintro e w' ⟨rfl,rfl⟩;rw [← HC.out])
  go_ret2
  exact ⟨rtwo H1.out.symm HC.out,rfl⟩
set_option maxHeartbeats 400000 in
theorem sum_any (limit:Int) (a:Option Addr) (cap:Nat) (zs:List Int) (w:World) (hm:zs.length≤maxLen) (hrow:Row w a zs) :
  Calls prog 167 #[.int .i64 limit,.slice a zs.length cap] w fun e w'=>e = .returned (.tuple #[.int .i64 (Cr limit zs),.int .i64 (chk limit zs)])∧w=w':=by
 have HM:=Lib.hid hm
 unfold maxLen at hm
 by_cases hc0:chk limit zs=0
 ·obtain ⟨hl0,hl1,hall⟩:=vO hc0
  have e1:Cr limit zs=Ut limit zs:=by simp [Cr,hc0]
  have H1:=Lib.hid e1
  have H0:=Lib.hid hc0
  have HALL:=Lib.hid hall
  have HROW:=Lib.hid hrow
  clear e1 hc0 hall hrow
  go_enter func167,ntmps167
  go_wp2_with (go_at_call 159;refine (mN _ _ _ _ _ HM.out HROW.out).mono ?_;rintro e w' ⟨rfl,rfl⟩;rw [H0.out])
  go_loop [7,18] (fun m i=>∃ k:Nat,k≤zs.length∧i = .int .i64 k∧∃ s:Int,m = .int .i64 s ∧ -1≤s∧s≤limit∧Hid (s=(zs.take k).foldl (kV limit) 0)) (fun _ i=>zs.length - (intOf i).toNat)
  case atStart=>exact ⟨0,Nat.zero_le _,rfl,_,rfl,by omega,by omega,by simp [Hid]⟩
  case round =>
   obtain ⟨k,hk,rfl,s,rfl,hs1,hs2,HS⟩:=hrel
   by_cases hlt:k < zs.length
   ·rcases HROW.out with h | ⟨b,off,rfl,hc⟩
    ·subst h;simp at hlt
    have hck:=hc k hlt
    obtain ⟨z,hz⟩:∃ z,z=zs.getD k 0:=⟨_,rfl⟩
    rw [← hz] at hck
    obtain ⟨hz1,hz2⟩:=Oe HALL.out hlt hz
    have hs' : -1≤kV limit s z∧kV limit s z≤limit:=Uu hl0 hs1 hs2 hz1 hz2
    have HZ:=Lib.hid hz;clear hz hc HROW
    go_wp2_with (go_at_call 172;refine (Qz _ _ _ _ ⟨by omega,by omega⟩).mono ?_;rintro e w' ⟨rfl,rfl⟩)
    go_round
    case rel=>exact ⟨k+1,by omega,by go_num,_,rfl,hs'.1,hs'.2,by rw [HS.out];exact (D7 hlt HZ.out).symm⟩
    case measure=>simp [intOf];omega
   ·have HE:Hid (s=Cr limit zs):=by rw [H1.out,HS.out,List.take_of_length_le (by omega)];rfl
    have HROW2:=HROW
    clear HROW
    go_wp2
    go_ret2
    exact ⟨rtwo HE.out H0.out.symm,rfl⟩
 ·have e1:Cr limit zs=0:=by simp [Cr,hc0]
  have H1:=Lib.hid e1
  have HROW:=Lib.hid hrow
  have hne:(chk limit zs != 0)=true:=by simpa using hc0
  obtain ⟨c,hcc⟩:∃ c,c=chk limit zs:=⟨_,rfl⟩
  rw [← hcc] at hne
  have HC:=Lib.hid hcc
  clear e1 hc0 hrow hcc
  go_enter func167,ntmps167
  go_wp2_with (go_at_call 159;refine (mN _ _ _ _ _ HM.out HROW.out).mono ?_;rintro e w' ⟨rfl,rfl⟩;rw [← HC.out])
  go_ret2
  exact ⟨rtwo H1.out.symm HC.out,rfl⟩
theorem L4 {w:World} {a:Addr} {v:Value} (h:w.cell? a=some v):a.block < w.heap.size:=by
 rcases Nat.lt_or_ge a.block w.heap.size with h' | h'
 ·exact h'
 ·simp [World.cell?,Array.getElem?_eq_none h'] at h
theorem Row.below {w w':World} {a:Option Addr} {zs:List Int} (h:Row w a zs) (hb:Below w.heap.size w w'):Row w' a zs:=by
 rcases h with h | ⟨b,off,rfl,hc⟩
 ·exact .inl h
 ·refine .inr ⟨b,off,rfl,fun i hi=>?_⟩
  have h1:=hc i hi
  rw [hb.cell]
  ·exact h1
  ·exact L4 h1
theorem Q3 {limit a b:Int} (h:chk limit [a,b]=0):oK limit [a,b]=iN a b:=by
 have h3:iN (-1) a=a:=by simp [iN]
 simp [oK,h,F7,h3]
theorem sum_two {limit a b:Int} (h:chk limit [a,b]=0):Cr limit [a,b]=kV limit a b:=by
 have h2:=(vO h).2.2
 simp [okc] at h2
 have h3:kV limit 0 a=a:=by unfold kV;split<;>omega
 simp [Cr,h,Ut,h3]
theorem Ii {limit a b:Int}:chk limit [a,b]=0↔(0≤limit∧limit≤1048576∧(-1≤a∧a≤limit)∧(-1≤b∧b≤limit)):=by
 constructor
 ·intro h
  have:=vO h
  simp [okc] at this
  omega
 ·intro h
  have:[a,b].all (okc limit)=true:=by simp [okc];omega
  simp only [chk,this]
  rw [if_neg (by omega)];rfl
end Go.Proofs.YtmgnkpibpjgncaaGreatDoor
namespace Go.Proofs.YtmgnkpibpjgncaaGreatDoor
open Go.Proofs.Tryz
open Go Go.RowKit
theorem fQ.agree {A W:World} {lo:Nat} {a:Option Addr} {vs:List Value} (h:fQ A a vs) (hl:∀ ad,a=some ad→lo≤ad.block) (hg:dD lo A W):fQ W a vs:=by
 rcases h with h | ⟨b,off,rfl,hc⟩
 ·exact .inl h
 ·exact .inr ⟨b,off,rfl,fun i v hi=>hg.cell (p:=⟨b,off+i,none⟩) (hl ⟨b,off,none⟩ rfl) (hc i v hi)⟩
theorem eZ.agree {A W:World} {lo:Nat} {a:Option Addr} {cs:List Cl} (h:eZ A a cs) (hl:∀ ad,a=some ad→lo≤ad.block) (hg:dD lo A W):eZ W a cs:=by
 rcases h with h | ⟨b,off,rfl,hc⟩
 ·exact .inl h
 ·exact .inr ⟨b,off,rfl,fun i c hi=>⟨hg.cell (p:=⟨b,_,none⟩) (hl ⟨b,off,none⟩ rfl) (hc i c hi).1,hg.cell (p:=⟨b,_,none⟩) (hl ⟨b,off,none⟩ rfl) (hc i c hi).2.1,hg.cell (p:=⟨b,_,none⟩) (hl ⟨b,off,none⟩ rfl) (hc i c hi).2.2⟩⟩
theorem W6.agree {A W:World} {lo b o:Nat} {f:WF} (h:W6 A b o f) (hb:lo≤b) (hg:dD lo A W):W6 W b o f :=
 ⟨hg.cell hb h.1,hg.cell hb h.2.1,hg.cell hb h.2.2.1,hg.cell hb h.2.2.2.1,hg.cell hb h.2.2.2.2.1,hg.cell hb h.2.2.2.2.2⟩
theorem PNew.agree {n:Nat} {A W:World} {t d:Int} {f:WF} {a:PF} (h:PNew n A t d f a) (hg:dD n A W):PNew n W t d f a :=
 ⟨⟨⟨h.is.at_.rows.agree h.ra hg,h.is.at_.rl,h.is.at_.g64,h.is.at_.r64,h.is.at_.cells.agree h.ca hg,h.is.at_.cl,h.is.at_.bits,h.is.at_.cmax⟩,h.is.pf,h.is.ok,h.is.pl⟩,h.ra,h.ca⟩
theorem gT.agree {n:Nat} {A W:World} {S:PS} {f:WF} {x:PX} (h:gT n A S f x) (hg:dD n A W):gT n W S f x:=by
 cases S<;>cases x<;>first | exact h.elim | exact PNew.agree h hg | skip
 obtain ⟨h1,h2,h3,h4,blk,g,k,h5,h0,h6,h7,h8,h9⟩:=h
 exact ⟨h1,h2,h3,h4,blk,g,k,h5,h0,h6.agree h0 hg,h7.agree h0 hg,h8.agree hg,h9.agree hg⟩
theorem W6.cells {w:World} {b o:Nat} {f:WF} (h:W6 w b o f):aB w b o f.six:=⟨h.1,h.2.1,h.2.2.1,h.2.2.2.1,h.2.2.2.2.1,h.2.2.2.2.2,trivial⟩
theorem W6.of_cells {w:World} {b o:Nat} {f:WF} (h:aB w b o f.six):W6 w b o f:=⟨h.1,h.2.1,h.2.2.1,h.2.2.2.1,h.2.2.2.2.1,h.2.2.2.2.2.1⟩
abbrev SF.three (f:SF):List Value:=[.int .i64 f.tag,.int .i64 f.dim,.slice f.a f.len f.cap]
theorem S3.cells {w:World} {b o:Nat} {f:SF} (h:S3 w b o f):aB w b o f.three:=⟨h.1,h.2.1,h.2.2,trivial⟩
abbrev yB (c:Int):WF:=⟨false,c,0,none,0,0,[],none,0,0,[],none,0,0⟩
abbrev F8 (g:Nat) (a:Option Addr) (cap:Nat) (rows:List Nat):WF:=⟨false,0,g,a,rows.length,cap,rows,none,0,0,[],none,0,0⟩
abbrev pU (a:Option Addr) (cap:Nat) (cs:List Cl):WF:=⟨false,0,0,none,0,0,[],a,cs.length,cap,cs,none,0,0⟩
theorem nG {n:Nat} {W:World} {t d c:Int} (h:OkP t d (pC c)):PNew n W t d (yB c) (pC c) :=
 ⟨⟨⟨.inl rfl,rfl,(by show (0:Nat) < _;decide),(fun r hr=>by cases hr),.inl rfl,rfl,(fun c hc=>by cases hc),(by show (0:Nat)≤_;decide)⟩,rfl,h,rfl⟩,(fun ad e=>by cases e),(fun ad e=>by cases e)⟩
theorem xF {n:Nat} {W:World} {t d:Int} {g:Nat} {a:Option Addr} {cap:Nat} {rows:List Nat} (h:OkP t d (pF g rows)) (hg:g < 18446744073709551616) (hr:∀ r∈rows,r < 18446744073709551616) (hv:fQ W a (u64s rows)) (hl:∀ ad,a=some ad→n≤ad.block):PNew n W t d (F8 g a cap rows) (pF g rows) :=
 ⟨⟨⟨hv,rfl,hg,hr,.inl rfl,rfl,(fun c hc=>by cases hc),by simp [maxLen]⟩,rfl,h,rfl⟩,hl,(fun ad e=>by cases e)⟩
theorem oX {n:Nat} {W:World} {t d:Int} {a:Option Addr} {cap:Nat} {cs:List Cl} (h:OkP t d (pX cs)) (hb:pM cs) (hm:cs.length≤maxLen) (hv:eZ W a cs) (hl:∀ ad,a=some ad→n≤ad.block):PNew n W t d (pU a cap cs) (pX cs) :=
 ⟨⟨⟨.inl rfl,rfl,(by show (0:Nat) < _;decide),(fun r hr=>by cases hr),hv,rfl,hb,hm⟩,rfl,h,rfl⟩,(fun ad e=>by cases e),hl⟩
theorem PIs.z {w:World} {t n:Int} {f:WF} {x:PF} (h:PIs w t n f x):x.z=f.z:=by rw [← h.pf];rfl
theorem PIs.zero {w:World} {t n:Int} {f:WF} {x:PF} (h:PIs w t n f x) (hz:f.z=true):x=dF:=by
 have h1:=h.z;have h2:=h.ok
 rw [hz] at h1
 cases h2<;>first | rfl | cases h1
theorem mD {f:WF} {x:PF} (h:f.pf=x):f.z=x.z∧f.c=x.c∧f.g=x.g∧f.rows=x.rows∧f.cells=x.cells:=by subst h;exact ⟨rfl,rfl,rfl,rfl,rfl⟩
theorem PIs.k1 {w:World} {n:Int} {f:WF} {x:PF} (h:PIs w 1 n f x) (hz:f.z=false):x=pC 0:=by
 rcases iH h.ok with rfl | rfl
 ·rw [(mD h.pf).1] at hz;cases hz
 ·rfl
theorem PIs.k2 {w:World} {n:Int} {f:WF} {x:PF} (h:PIs w 2 n f x) (hz:f.z=false):x=pC f.c∧0≤f.c∧f.c≤n:=by
 rcases gY h.ok with rfl | ⟨c,rfl,h0,h1⟩
 ·rw [(mD h.pf).1] at hz;cases hz
 ·have:f.c=c:=(mD h.pf).2.1
  subst this;exact ⟨rfl,h0,h1⟩
theorem PIs.k3 {w:World} {m:Nat} {f:WF} {x:PF} (h:PIs w 3 m f x) (hz:f.z=false):x=pF f.g f.rows∧Good m f.g f.rows:=by
 rcases iI h.ok with rfl | ⟨g,rows,rfl,h0⟩
 ·rw [(mD h.pf).1] at hz;cases hz
 ·have h1:f.g=g:=(mD h.pf).2.2.1
  have h2:f.rows=rows:=(mD h.pf).2.2.2.1
  subst h1;subst h2;exact ⟨rfl,h0⟩
theorem PIs.k4 {w:World} {m:Nat} {f:WF} {x:PF} (h:PIs w 4 m f x) (hz:f.z=false):x=pX f.cells∧Val m f.cells:=by
 rcases iJ h.ok with rfl | ⟨cs,rfl,h0⟩
 ·rw [(mD h.pf).1] at hz;cases hz
 ·have h1:f.cells=cs:=(mD h.pf).2.2.2.2
  subst h1;exact ⟨rfl,h0⟩
theorem Of {W:World} {B:Nat} {T:TypeId} {a b:Int} (h:W.heap[B]?=some (.cells (List.toArray [.int .i64 a,.int .i64 b]) T (0,0))):Row W (some ⟨B,0,none⟩) [a,b]:=by
 refine .inr ⟨B,0,rfl,fun i hi=>?_⟩
 match i,hi with
 | 0,_=>exact aH h rfl
 | 1,_=>exact aH h rfl
theorem then_is (d:Int) (a b:Option Addr) (capa capb:Nat) (xs ys:List Cl) (w:World) (ht:Tabs w) (hma:xs.length≤maxLen) (hmb:ys.length≤maxLen) (hra:eZ w a xs) (hrb:eZ w b ys) (hba:pM xs) (hbb:pM ys) (c:Int) (hc:nX d xs ys=c) (la lb:Nat) (hla:xs.length=la) (hlb:ys.length=lb) :
  Calls prog 169 #[.int .i64 d,.slice a la capa,.slice b lb capb] w (kF (thenR d xs ys) c w):=by
 subst hla;subst hlb;exact Un d a b capa capb xs ys w ht hma hmb hra hrb hba hbb c hc
theorem lF {t n:Int} {l:Nat} (h:bI t n l=true):t≠5:=zB h
section
variable {w W:World} {k:Nat} {n:Int} {f g:WF} {x y:PF}
theorem eJ {t:Int} {f:WF} {x:PF} (h:PNew w.heap.size W t n f x) (hb:Below w.heap.size w W):gH (.one t n) (.one x) w (.returned f.val) W:=⟨f,rfl,h,hb⟩
theorem Uv {t:Int} (hx:PIs w t n f x) (hz:f.z=true) (hb:Below w.heap.size w W):gH (.one t n) (.one (fB t n x y)) w (.returned tJ.val) W:=by
 rw [hx.zero hz,mA];exact eJ (oW _ _ _ _) hb
theorem Uw {t:Int} (hy:PIs w t n g y) (hz:g.z=true) (hb:Below w.heap.size w W):gH (.one t n) (.one (fB t n x y)) w (.returned tJ.val) W:=by
 rw [hy.zero hz,mB];exact eJ (oW _ _ _ _) hb
theorem Ux (hx:PIs w 1 n f x) (hy:PIs w 1 n g y) (hf:f.z=false) (hg:g.z=false):PNew k W 1 n (yB 0) (fB 1 n x y):=by
 rw [hx.k1 hf,hy.k1 hg,Au];exact nG (.bool rfl)
theorem ext_f2 (hp:bI 2 n 0=true) (hx:PIs w 2 n f x) (hy:PIs w 2 n g y) (hf:f.z=false) (hg:g.z=false):PNew k W 2 n (yB (Cr n [f.c,g.c])) (fB 2 n x y):=by
 obtain ⟨rfl,h0,h1⟩:=hx.k2 hf
 obtain ⟨rfl,h2,h3⟩:=hy.k2 hg
 obtain ⟨d0,d1,_⟩:=nE hp
 have hs:Cr n [f.c,g.c]=min (f.c+g.c) n:=by
  rw [sum_two (Ii.2 ⟨d0,d1,⟨by omega,by omega⟩,by omega,by omega⟩)]
  unfold kV;rw [if_neg (by omega)]
 rw [xY,hs]
 exact nG (.cost _ rfl (by omega) (by omega))
theorem Uy {m:Nat} {a:Option Addr} {cap:Nat} (hx:PIs w 3 m f x) (hy:PIs w 3 m g y) (hf:f.z=false) (hg:g.z=false) (hv:fQ W a (u64s (jF m f.g f.rows g.g g.rows))) (hl:∀ ad,a=some ad→k≤ad.block):PNew k W 3 m (F8 (jN m f.g f.rows g.g g.rows) a cap (jF m f.g f.rows g.g g.rows)) (fB 3 m x y):=by
 obtain ⟨hx',h0⟩:=hx.k3 hf
 obtain ⟨hy',h1⟩:=hy.k3 hg
 rw [hx',hy',Av]
 exact xF (.facts m _ _ rfl rfl (h0.extT h1)) (h0.extT h1).g64 (h0.extT h1).r64 hv hl
theorem ext_f4 {m:Nat} {a:Option Addr} {cap:Nat} (hx:PIs w 4 m f x) (hy:PIs w 4 m g y) (hf:f.z=false) (hg:g.z=false) (hv:eZ W a (thenR m f.cells g.cells)) (hl:∀ ad,a=some ad→k≤ad.block):PNew k W 4 m (pU a cap (thenR m f.cells g.cells)) (fB 4 m x y):=by
 obtain ⟨hx',h0⟩:=hx.k4 hf
 obtain ⟨hy',h1⟩:=hy.k4 hg
 have e:thenR m f.cells g.cells=dZ f.cells g.cells:=by unfold thenR;rw [if_pos (h0.chk2 h1)]
 have hv2:=Aq h0 h1
 rw [e] at hv ⊢
 rw [hx',hy',xZ]
 exact oX (.cells m _ rfl rfl hv2) hv2.bits (by have:=hv2.le;have:=hv2.len;unfold maxLen;omega) hv hl
theorem Og (hx:PIs w 1 n f x) (hy:PIs w 1 n g y) (hf:f.z=false) (hg:g.z=false):PNew k W 1 n (yB 0) (dK 1 n x y):=by
 rw [hx.k1 hf,hy.k1 hg,rM];exact nG (.bool rfl)
theorem comb_f2 (hp:bI 2 n 0=true) (hx:PIs w 2 n f x) (hy:PIs w 2 n g y) (hf:f.z=false) (hg:g.z=false):PNew k W 2 n (yB (oK n [f.c,g.c])) (dK 2 n x y):=by
 obtain ⟨rfl,h0,h1⟩:=hx.k2 hf
 obtain ⟨rfl,h2,h3⟩:=hy.k2 hg
 obtain ⟨d0,d1,_⟩:=nE hp
 have hs:oK n [f.c,g.c]=min f.c g.c:=by
  rw [Q3 (Ii.2 ⟨d0,d1,⟨by omega,by omega⟩,by omega,by omega⟩)]
  unfold iN;rw [if_neg (by omega),if_neg (by omega)]
 rw [mC,hs]
 exact nG (.cost _ rfl (by omega) (by omega))
theorem Oh {m:Nat} {a:Option Addr} {cap:Nat} (hx:PIs w 3 m f x) (hy:PIs w 3 m g y) (hf:f.z=false) (hg:g.z=false) (hv:fQ W a (u64s (gE m f.g f.rows g.g g.rows))) (hl:∀ ad,a=some ad→k≤ad.block):PNew k W 3 m (F8 (gJ m f.g f.rows g.g g.rows) a cap (gE m f.g f.rows g.g g.rows)) (dK 3 m x y):=by
 obtain ⟨hx',h0⟩:=hx.k3 hf
 obtain ⟨hy',h1⟩:=hy.k3 hg
 rw [hx',hy',pR]
 exact xF (.facts m _ _ rfl rfl (h0.combT h1)) (h0.combT h1).g64 (h0.combT h1).r64 hv hl
theorem comb_f4 {m:Nat} {a:Option Addr} {cap:Nat} (hx:PIs w 4 m f x) (hy:PIs w 4 m g y) (hf:f.z=false) (hg:g.z=false) (hv:eZ W a (tI m f.cells g.cells)) (hl:∀ ad,a=some ad→k≤ad.block):PNew k W 4 m (pU a cap (tI m f.cells g.cells)) (dK 4 m x y):=by
 obtain ⟨hx',h0⟩:=hx.k4 hf
 obtain ⟨hy',h1⟩:=hy.k4 hg
 have e:tI m f.cells g.cells=dC f.cells g.cells:=by unfold tI;rw [if_pos (h0.chk2 h1)]
 have hv2:=rL h0 h1
 rw [e] at hv ⊢
 rw [hx',hy',oJ]
 exact oX (.cells m _ rfl rfl hv2) hv2.bits (by have:=hv2.le;have:=hv2.len;unfold maxLen;omega) hv hl
theorem Uz {t:Int} (hp:bI t n 0=true) (h3:t≠3) (h4:t≠4):PNew k W t n (yB 0) (iA t n):=by
 have h:=yZ hp
 have e:iA t n=pC 0:=by unfold iA;rw [if_neg h3,if_neg h4]
 rw [e] at h ⊢
 exact nG h
theorem U3 {m:Nat} {a:Option Addr} {cap:Nat} (hm:m≤64) (hv:fQ W a (u64s (gX m))) (hl:∀ ad,a=some ad→k≤ad.block):PNew k W 3 m (F8 0 a cap (gX m)) (iA 3 m):=by
 rw [N7]
 exact xF (.facts m _ _ rfl rfl (lD hm)) (by decide) (lD hm).r64 hv hl
theorem U5 {m:Nat} {a:Option Addr} {cap:Nat} (hm:m≤64) (hv:eZ W a (fW m)) (hl:∀ ad,a=some ad→k≤ad.block):PNew k W 4 m (pU a cap (fW m)) (iA 4 m):=by
 have h:=If hm
 rw [N8]
 exact oX (.cells m _ rfl rfl h) h.bits (by have:=h.len;unfold maxLen;omega) hv hl
theorem yO {t:Int} {l:Nat} (h:bI t n l=true) (ht:t=3∨t=4):∃ m:Nat,n=m∧m≤64:=by
 obtain ⟨d0,_,_,d3⟩:=nE h
 exact ⟨n.toNat,by omega,by have:=d3 ht;omega⟩
theorem Tabs.c {w:World} (h:Tabs w):TabC w:=⟨h.ctz⟩
end
def SIs (w:World):PS→SF→Prop
 | .one t n,f=>∃ a c,f=⟨t,n,a,0,c⟩
 | .two t n u m,f=>∃ b off c a1 c1 a2 c2,f=⟨5,0,some ⟨b,off,none⟩,2,c⟩∧S3 w b off ⟨t,n,a1,0,c1⟩∧S3 w b (off+3) ⟨u,m,a2,0,c2⟩
theorem SIs.below {w w':World} {S:PS} {f:SF} (h:SIs w S f) (hb:Below w.heap.size w w'):SIs w' S f:=by
 cases S with
 | one t n=>exact h
 | two t n u m =>
  obtain ⟨b,off,c,a1,c1,a2,c2,h1,h2,h3⟩:=h
  exact ⟨b,off,c,a1,c1,a2,c2,h1,h2.below hb,h3.below hb⟩
def dH (lo:Nat) (S:PS) (x:PX):Asr:=fun v w=>∃ f:WF,v=f.val∧gT lo w S f x
theorem dO {lo:Nat} {S:PS} {x:PX}:iZ (dH lo S x):=fun v w w' ⟨f,h1,h2⟩ hb=>⟨f,h1,h2.below hb⟩
theorem fF {P:Program} {f:FuncId} {vs:Array Value} {w:World} {S:PS} {x:PX} {lo:Nat} (hlo:lo≤w.heap.size) (h:Calls P f vs w (gH S x w)):Calls P f vs w (Cz (dH lo S x) w):=h.mono fun e w' ⟨f,he,hn,hb⟩=>⟨f.val,he,⟨f,rfl,hn.mono hlo⟩,hb⟩
theorem pV {p q:Asr} {vs:List Value} {w:World} (h:mH [p,q] vs w):∃ a b,vs=[a,b]∧p a w∧q b w:=by
 match vs,h with
 | [a,b],h=>exact ⟨a,b,rfl,h.1,h.2.1⟩
theorem uH {w:World} {lo:Nat} {t n u m:Int} {a b:PF} {vs:List Value} (hlo:lo≤w.heap.size) (h:mH [dH lo (.one t n) (.one a),dH lo (.one u m) (.one b)] vs w):Calls prog 136 vs.toArray w (Cz (dH lo (.two t n u m) (.two a b)) w):=by
 obtain ⟨v1,v2,rfl,⟨f,rfl,hf⟩,g,rfl,hg⟩:=pV h
 refine (Oa f g w).mono ?_
 rintro e w' ⟨blk,rfl,h6,h7,hb1,hb⟩
 exact ⟨_,rfl,⟨rO blk,rfl,A6 h6 h7 (Nat.le_trans hlo hb1) (PNew.below hf hb) (PNew.below hg hb)⟩,hb⟩
theorem Ij:bH prog 130=true:=by kernel_rfl
theorem U6:bH prog 131=true:=by kernel_rfl
theorem U7:bH prog 132=true:=by kernel_rfl
theorem A7 (p q:SV) (g:WF) (qs:List WV) {w:World} {e:Nat} (hw:WIn w (e+1) (.mk g qs)):g.z=true∨(g.z=false∧g.pl≠2)∨(∃ x y,g.z=false∧qs=[x,y]∧fU p.f.tag p.f.dim x.f=false)∨(∃ x y,g.z=false∧qs=[x,y]∧fU p.f.tag p.f.dim x.f=true):=by
 cases hz:g.z with
 | true=>exact .inl rfl
 | false =>
  refine .inr ?_
  by_cases h2:g.pl=2
  ·refine .inr ?_
   obtain ⟨x,y,rfl⟩:=tX (hw.2.1.trans h2)
   cases h:fU p.f.tag p.f.dim x.f with
   | false=>exact .inl ⟨x,y,rfl,rfl,h⟩
   | true=>exact .inr ⟨x,y,rfl,rfl,h⟩
  ·exact .inl ⟨rfl,h2⟩
theorem nH (t n:Int) (a:Option Addr) (l c0:Nat) (f:WF) (hp:bI t n l=true) (hs:0≤f.rl) (w:World) (hf:f.At w) (r:Bool) (hr:fU t n f=r) :
  Calls prog 103 #[.agg #[.int .i64 t,.int .i64 n,.slice a l c0],f.val] w (fun e w'=>e = .returned (.bool (r))∧Below w.heap.size w w'):=by
 refine cB (args:=[.agg #[.int .i64 t,.int .i64 n,.slice a l c0],f.val]) func103 rfl ntmps103 rfl ?_
 have hS:=St.start w
 have htg:=(fV hp).2
 have h5:t≠5:=by omega
 refine aJ (aQ (bR (cs:=[_,_,_]) hS rfl rfl rfl fun B1 W1 hS=>bR (cs:=[_,_,_,_,_,_]) hS rfl rfl rfl fun B2 W2 hS=>aC rfl rfl (aN (XF.thenN (aJ (aJ (aQ (aS (vs:=[_,_,_]) isAgg25 sizeOf25 rfl (aB.own (j:=0) (m:=3) (hS.at_ 1 rfl) rfl) rfl (aS (vs:=[_,_,_,_,_,_]) isAgg44 sizeOf44 rfl (aB.own (j:=0) (m:=6) (hS.at_ 0 rfl) rfl) rfl (cC (vs:=[_,_]) hS Ij rfl (Nx t n a l c0 f _ rfl _) rfl fun W3 hS=>fS rfl rfl (aN (XF.thenN (bA rfl (fun hc=>?_) (fun hc=>?_))))))))))))))
 ·have hc8:=hc;clear hc
  refine aJ (aQ (aC rfl rfl (aN (XF.thenN (bX (XF.thenR (XF.res (cQ results103 rfl) ?_)))))))
  exact ⟨bT (by rw [← hr];unfold fU;rw [show iY t f=false by simpa using hc8];rfl),hS.below⟩
 ·have hc8:=hc;clear hc
  have hbb:iY t f=true:=by simpa using hc8
  refine bM (XF.thenN (aJ (aJ (aQ (aO (o':=0) eP rfl rfl rfl (aT isAgg22 rfl (aH (hS.at_ 1 rfl) rfl) rfl (cG rfl rfl rfl (aN (XF.thenN (bA rfl (fun hc=>absurd (of_decide_eq_true hc) (by exact h5)) (fun hc=>?_)))))))))))
  have hc:=of_decide_eq_false hc
  refine bM (XF.thenN (aJ (aJ (aQ (aO (o':=0) dR rfl rfl rfl (aT isAgg4 rfl (aH (hS.at_ 0 rfl) rfl) rfl (aN (XF.thenN (bA rfl (fun hc=>?_) (fun hc=>?_))))))))))
  ·have hc44:=hc;clear hc
   refine aJ (aQ (aC rfl rfl (aN (XF.thenN (bX (XF.thenR (XF.res (cQ results103 rfl) ?_)))))))
   exact ⟨bT (by rw [← hr];unfold fU;rw [hbb,show f.z=true from hc44];rfl),hS.below⟩
  ·have hc44:=hc;clear hc
   have hz:f.z=false:=hc44
   refine bM (XF.thenN (aJ (aJ (aQ (aO (o':=0) eP rfl rfl rfl (aT isAgg22 rfl (aH (hS.at_ 1 rfl) rfl) rfl (aN (XF.thenN (bQ (aJ (aQ (cG rfl rfl rfl (aC rfl rfl (aN (XF.thenN (bA rfl (fun hc=>?_) (fun hc=>?_)))))))))))))))))
   ·have hc47:=of_decide_eq_true hc;clear hc
    refine aJ (aQ (aO (o':=1) eV rfl rfl rfl (aT isAgg3 rfl (aH (hS.at_ 0 rfl) rfl) rfl (oH rfl rfl rfl (aE rfl rfl (cI (d:=52) rfl (fun hc=>?_) (fun hc=>?_)))))))
    ·have hg52:=of_decide_eq_true hc;clear hc
     refine aM (d:=52) rfl rfl (aO (o':=1) eV rfl rfl rfl (aM (d:=52) rfl rfl (aT isAgg3 rfl (aH (hS.at_ 0 rfl) rfl) rfl (aM (d:=52) rfl rfl (aO (o':=1) eQ rfl rfl rfl (aM (d:=52) rfl rfl (aT isAgg3 rfl (aH (hS.at_ 1 rfl) rfl) rfl (aM (d:=52) rfl rfl (wQ rfl rfl rfl (bV rfl rfl rfl (aC rfl rfl (aN (XF.thenN (bX (XF.blkR (XF.thenR (XF.res (cQ results103 rfl) ?_)))))))))))))))))
     exact ⟨bT (by rw [← hr];unfold fU;rw [hbb,hz,if_pos hc47];simp [show (0:Int)≤f.c from hg52]),hS.below⟩
    ·have hg52:=of_decide_eq_false hc;clear hc
     refine aP (d:=52) rfl rfl rfl rfl (aP (d:=52) rfl rfl rfl rfl (aP (d:=52) rfl rfl rfl rfl (aP (d:=52) rfl rfl rfl rfl (aP (d:=52) rfl rfl rfl rfl (cH rfl rfl rfl (aC rfl rfl (aN (XF.thenN (bX (XF.blkR (XF.thenR (XF.res (cQ results103 rfl) ?_))))))))))))
     exact ⟨bT (by rw [← hr];unfold fU;rw [hbb,hz,if_pos hc47];simp [show ¬ (0:Int)≤f.c from hg52]),hS.below⟩
   ·have hc47:=of_decide_eq_false hc;clear hc
    refine aJ (aQ (cG rfl rfl rfl (aC rfl rfl (aN (XF.thenN (bA rfl (fun hc=>?_) (fun hc=>?_)))))))
    ·have hc59:=of_decide_eq_true hc;clear hc
     refine aJ (aQ (aO (o':=1) eQ rfl rfl rfl (aT isAgg3 rfl (aH (hS.at_ 1 rfl) rfl) rfl (aO (o':=2) eR rfl rfl rfl (aS (vs:=[_,_]) isAgg40 sizeOf40 rfl (aB.own (j:=2) (m:=2) (hS.at_ 0 rfl) rfl) rfl (cC (vs:=[_,_]) hS U6 rfl (Lj n f.ra f.rc f.g f.rows _ (hf.below hS.below) _ rfl f.rl hf.rl) rfl fun W4 hS=>cG rfl rfl rfl (aC rfl rfl (aN (XF.thenN (bX (XF.blkR (XF.thenR (XF.res (cQ results103 rfl) ?_)))))))))))))
     exact ⟨bT (by rw [← hr];unfold fU;rw [hbb,hz,if_neg hc47,if_pos hc59];rfl),hS.below⟩
    ·have hc59:=of_decide_eq_false hc;clear hc
     refine aJ (aQ (cG rfl rfl rfl (aC rfl rfl (aN (XF.thenN (bA rfl (fun hc=>?_) (fun hc=>?_)))))))
     ·have hc67:=of_decide_eq_true hc;clear hc
      refine aJ (aQ (aO (o':=1) eQ rfl rfl rfl (aT isAgg3 rfl (aH (hS.at_ 1 rfl) rfl) rfl (aO (o':=4) dG rfl rfl rfl (aT isAgg41 rfl (aH (hS.at_ 0 rfl) rfl) rfl ?_)))))
      refine cC (vs:=[_,_]) hS U7 rfl (vA n f.ca f.cl f.cc f.cells _ _ hf.cl (by rw [hf.cl];exact hf.cmax) (hf.cells.below hS.below) hf.bits rfl) rfl fun W5 hS=>?_
      refine cG rfl rfl rfl (aC rfl rfl (aN (XF.thenN (bX (XF.blkR (XF.thenR (XF.res (cQ results103 rfl) ?_)))))))
      exact ⟨bT (by rw [← hr];unfold fU;rw [hbb,hz,if_neg hc47,if_neg hc59,if_pos hc67];rfl),hS.below⟩
     ·have hc67:=of_decide_eq_false hc;clear hc
      refine bM (XF.blkN (XF.thenN (aJ (aQ (aC rfl rfl (aN (XF.thenN (bX (XF.res (cQ results103 rfl) ?_)))))))))
      exact ⟨bT (by rw [← hr];unfold fU;rw [hbb,hz,if_neg hc47,if_neg hc59,if_neg hc67];rfl),hS.below⟩
theorem D8 (d:Nat) (sa:Option Addr) (sc:Nat) (p q:SV) (g:WF) (qs:List WV) (w:World) (hsp:SIn w (d+1) (.mk ⟨5,0,sa,2,sc⟩ [p,q])) (hp:p.pl=true) (hq:q.pl=true) (e:Nat) (hw:WIn w (e+1) (.mk g qs)) (hs:∀ x∈qs,0≤x.f.rl) (r:Bool) (hr:iM p q g qs=r) :
  Calls prog 103 #[.agg #[.int .i64 5,.int .i64 0,.slice sa 2 sc],g.val] w (fun e w'=>e = .returned (.bool (r))∧Below w.heap.size w w'):=by
 refine cB (args:=[.agg #[.int .i64 5,.int .i64 0,.slice sa 2 sc],g.val]) func103 rfl ntmps103 rfl ?_
 have hS:=St.start w
 obtain ⟨_,b,off,ha,hb0,hp3,hq3,_,_⟩:=hsp.two
 obtain rfl:sa=some ⟨b,off,none⟩:=ha
 refine aJ (aQ (bR (cs:=[_,_,_]) hS rfl rfl rfl fun B1 W1 hS=>bR (cs:=[_,_,_,_,_,_]) hS rfl rfl rfl fun B2 W2 hS=>aC rfl rfl (aN (XF.thenN (aJ (aJ (aQ (aS (vs:=[_,_,_]) isAgg25 sizeOf25 rfl (aB.own (j:=0) (m:=3) (hS.at_ 1 rfl) rfl) rfl (aS (vs:=[_,_,_,_,_,_]) isAgg44 sizeOf44 rfl (aB.own (j:=0) (m:=6) (hS.at_ 0 rfl) rfl) rfl (cC (vs:=[_,_]) hS Ij rfl (Nx 5 0 _ 2 sc g _ rfl _) rfl fun W3 hS=>fS rfl rfl (aN (XF.thenN (bA rfl (fun hc=>?_) (fun hc=>?_))))))))))))))
 ·have hc8:=hc;clear hc
  refine aJ (aQ (aC rfl rfl (aN (XF.thenN (bX (XF.thenR (XF.res (cQ results103 rfl) ?_)))))))
  exact ⟨bT (by rw [← hr];unfold iM;rw [show iY 5 g=false by simpa using hc8];rfl),hS.below⟩
 ·have hc8:=hc;clear hc
  have hbb:iY 5 g=true:=by simpa using hc8
  refine bM (XF.thenN (aJ (aJ (aQ (aO (o':=0) eP rfl rfl rfl (aT isAgg22 rfl (aH (hS.at_ 1 rfl) rfl) rfl (cG rfl rfl rfl (aN (XF.thenN (bA rfl (fun hc=>?_) (fun hc=>absurd (of_decide_eq_false hc) (by decide))))))))))))
  have hc:=of_decide_eq_true hc
  refine aJ ?_
  rcases A7 p q g qs hw with h1 | h1 | h1 | h1
  ·skip
   refine mK (m:=32) cD hS (by kernel_rfl) (by kernel_rfl) rfl (cJ 1 rfl 3 rfl rfl (fun w hw=>aV (o':=0) dR rfl rfl) rfl (aZ 2 rfl 12 0 rfl rfl rfl (fun w hw=>bC isAgg4 rfl ((aK hw 0).cell (Nat.zero_le _) (aH (hS.at_ 0 rfl) rfl))) rfl ?_))
   refine aI 3 rfl (isV (.bool false)) (aF _) (pI (li:=[(13,_)]) rfl (aR rfl) ⟨aL 1 (aA rfl rfl rfl),trivial⟩ (fun w hw=>kX rfl) (by rw [h1];rfl) (aD rfl)) ?_
   refine aZ 4 rfl 14 2 rfl rfl rfl (fun w hw=>aY rfl) rfl (aI 5 rfl (isV undef) (aF _) (bL rfl (bW 15 rfl (aA rfl rfl rfl) rfl) (aD rfl)) (aI 6 rfl (isV undef) (aF _) (bL rfl (bW 15 rfl (aA rfl rfl rfl) rfl) (aD rfl)) (aI 7 rfl (isV undef) (aF _) (bL rfl (bW 15 rfl (aA rfl rfl rfl) rfl) (aD rfl)) (aI 8 rfl (isV undef) (aF _) (bL rfl (bW 15 rfl (aA rfl rfl rfl) rfl) (aD rfl)) (aZ 9 rfl 15 3 rfl rfl rfl (fun w hw=>eY rfl rfl) rfl (aZ 10 rfl 20 8 rfl rfl rfl (fun w hw=>aY rfl) rfl (aI 11 rfl (isV undef) (aF _) (bL rfl (bW 21 rfl (aA rfl rfl rfl) rfl) (aD rfl)) (aI 12 rfl (isV undef) (aF _) (bL rfl (bW 21 rfl (aA rfl rfl rfl) rfl) (aD rfl)) (aI 13 rfl (isV undef) (aF _) (bL rfl (bW 21 rfl (aA rfl rfl rfl) rfl) (aD rfl)) (aI 14 rfl (isV undef) (aF _) (bL rfl (bW 21 rfl (aA rfl rfl rfl) rfl) (aD rfl)) (aI 15 rfl (isV undef) (aF _) (bL rfl (bW 21 rfl (aA rfl rfl rfl) rfl) (aD rfl)) (aI 16 rfl (isV undef) (aF _) (bL rfl (bW 21 rfl (aA rfl rfl rfl) rfl) (aD rfl)) (aI 17 rfl (isV undef) (aF _) (bL rfl (bW 21 rfl (aA rfl rfl rfl) rfl) (aD rfl)) (aI 18 rfl (isV undef) (aF _) (bL rfl (bW 21 rfl (aA rfl rfl rfl) rfl) (aD rfl)) (aI 19 rfl (isV undef) (aF _) (bL rfl (bW 21 rfl (aA rfl rfl rfl) rfl) (aD rfl)) (aZ 20 rfl 21 9 rfl rfl rfl (fun w hw=>eY rfl rfl) rfl (aZ 21 rfl 31 19 rfl rfl rfl (fun w hw=>aY rfl) rfl (aI 22 rfl (isV undef) (aF _) (bL rfl (bW 32 rfl (aA rfl rfl rfl) rfl) (aD rfl)) (aI 23 rfl (isV undef) (aF _) (bL rfl (bW 32 rfl (aA rfl rfl rfl) rfl) (aD rfl)) (aI 24 rfl (isV undef) (aF _) (bL rfl (bW 32 rfl (aA rfl rfl rfl) rfl) (aD rfl)) ?_))))))))))))))))))))
   refine aI 25 rfl (isV undef) (aF _) (bL rfl (bW 32 rfl (aA rfl rfl rfl) rfl) (aD rfl)) (aI 26 rfl (isV undef) (aF _) (bL rfl (bW 32 rfl (aA rfl rfl rfl) rfl) (aD rfl)) (aI 27 rfl (isV undef) (aF _) (bL rfl (bW 32 rfl (aA rfl rfl rfl) rfl) (aD rfl)) (aI 28 rfl (isV undef) (aF _) (bL rfl (bW 32 rfl (aA rfl rfl rfl) rfl) (aD rfl)) (aI 29 rfl (isV undef) (aF _) (bL rfl (bW 32 rfl (aA rfl rfl rfl) rfl) (aD rfl)) (aI 30 rfl (isV undef) (aF _) (bL rfl (bW 32 rfl (aA rfl rfl rfl) rfl) (aD rfl)) (aZ 31 rfl 32 20 rfl rfl rfl (fun w hw=>eY rfl rfl) rfl (aZ 32 rfl 42 30 rfl rfl rfl (fun w hw=>iU rfl) rfl (dV ?_))))))))
   intro W4 hbR hS'
   clear hS;have hS:=hS';clear hS'
   refine aG (aG (aG (aG (aG (aG (aG (aG (aG (aG (aG (aG (aG (aG (aG (aG (aG (aG (aG (aG (aG ?_))))))))))))))))))))
   refine aG (aG (aG (aG (aG (aG (aG (aG (aG (aG (aG (cO (XF.thenN (bX (XF.thenR (XF.res (cQ results103 rfl) ?_)))))))))))))))
   exact ⟨bT (by rw [← hr];unfold iM;rw [hbb,h1];rfl),hS.below⟩
  ·obtain ⟨hz,h2⟩:=h1
   refine mK (m:=32) cD hS (by kernel_rfl) (by kernel_rfl) rfl (cJ 1 rfl 3 rfl rfl (fun w hw=>aV (o':=0) dR rfl rfl) rfl (aZ 2 rfl 12 0 rfl rfl rfl (fun w hw=>bC isAgg4 rfl ((aK hw 0).cell (Nat.zero_le _) (aH (hS.at_ 0 rfl) rfl))) rfl ?_))
   refine aI 3 rfl (isV (.bool true)) (aF _) (pI (li:=[(13,_)]) rfl (aR rfl) ⟨aL 1 (aA rfl rfl rfl),trivial⟩ (fun w hw=>kX rfl) (by rw [hz];rfl) (aD rfl)) ?_
   refine aZ 4 rfl 14 2 rfl rfl rfl (fun w hw=>aY rfl) rfl (aI 5 rfl (isV _) (aF _) (rgV (li:=[(3,_)]) rfl (bK 15 rfl (aA rfl rfl rfl)) ⟨cF rfl,trivial⟩ (fun w hw=>aV (o':=5) cW rfl rfl) (aD rfl)) (aI 6 rfl (isV _) (aF _) (rgV (li:=[(16,_)]) rfl (bK 15 rfl (aA rfl rfl rfl)) ⟨aL 4 (aA rfl rfl rfl),trivial⟩ (fun w hw=>bC isAgg42 rfl ((aK hw 0).cell (Nat.zero_le _) (aH (hS.at_ 0 rfl) rfl))) (aD rfl)) (aI 7 rfl (isV _) (aF _) (rgV (li:=[(17,_)]) rfl (bK 15 rfl (aA rfl rfl rfl)) ⟨aL 5 (aA rfl rfl rfl),trivial⟩ (fun w hw=>tQ underlying42 rfl) (aD rfl)) (aI 8 rfl (isV (.bool false)) (aF _) (pI (li:=[(18,_)]) rfl (bK 15 rfl (aA rfl rfl rfl)) ⟨aL 6 (aA rfl rfl rfl),trivial⟩ (fun w hw=>tR rfl rfl) (by rw [decide_eq_false (by omega)]) (aD rfl)) (aI 9 rfl (isV _) (aF _) (rgV (li:=[(15,_),(19,_)]) rfl (aR rfl) ⟨aL 3 (aA rfl rfl rfl),aL 7 (aA rfl rfl rfl),trivial⟩ (fun w hw=>eX rfl rfl) (aD rfl)) (aZ 10 rfl 20 8 rfl rfl rfl (fun w hw=>aY rfl) rfl (aI 11 rfl (isV undef) (aF _) (bL rfl (bW 21 rfl (aA rfl rfl rfl) rfl) (aD rfl)) (aI 12 rfl (isV undef) (aF _) (bL rfl (bW 21 rfl (aA rfl rfl rfl) rfl) (aD rfl)) (aI 13 rfl (isV undef) (aF _) (bL rfl (bW 21 rfl (aA rfl rfl rfl) rfl) (aD rfl)) (aI 14 rfl (isV undef) (aF _) (bL rfl (bW 21 rfl (aA rfl rfl rfl) rfl) (aD rfl)) (aI 15 rfl (isV undef) (aF _) (bL rfl (bW 21 rfl (aA rfl rfl rfl) rfl) (aD rfl)) (aI 16 rfl (isV undef) (aF _) (bL rfl (bW 21 rfl (aA rfl rfl rfl) rfl) (aD rfl)) (aI 17 rfl (isV undef) (aF _) (bL rfl (bW 21 rfl (aA rfl rfl rfl) rfl) (aD rfl)) (aI 18 rfl (isV undef) (aF _) (bL rfl (bW 21 rfl (aA rfl rfl rfl) rfl) (aD rfl)) (aI 19 rfl (isV undef) (aF _) (bL rfl (bW 21 rfl (aA rfl rfl rfl) rfl) (aD rfl)) (aZ 20 rfl 21 9 rfl rfl rfl (fun w hw=>eY rfl rfl) rfl (aZ 21 rfl 31 19 rfl rfl rfl (fun w hw=>aY rfl) rfl (aI 22 rfl (isV undef) (aF _) (bL rfl (bW 32 rfl (aA rfl rfl rfl) rfl) (aD rfl)) (aI 23 rfl (isV undef) (aF _) (bL rfl (bW 32 rfl (aA rfl rfl rfl) rfl) (aD rfl)) (aI 24 rfl (isV undef) (aF _) (bL rfl (bW 32 rfl (aA rfl rfl rfl) rfl) (aD rfl)) ?_))))))))))))))))))))
   refine aI 25 rfl (isV undef) (aF _) (bL rfl (bW 32 rfl (aA rfl rfl rfl) rfl) (aD rfl)) (aI 26 rfl (isV undef) (aF _) (bL rfl (bW 32 rfl (aA rfl rfl rfl) rfl) (aD rfl)) (aI 27 rfl (isV undef) (aF _) (bL rfl (bW 32 rfl (aA rfl rfl rfl) rfl) (aD rfl)) (aI 28 rfl (isV undef) (aF _) (bL rfl (bW 32 rfl (aA rfl rfl rfl) rfl) (aD rfl)) (aI 29 rfl (isV undef) (aF _) (bL rfl (bW 32 rfl (aA rfl rfl rfl) rfl) (aD rfl)) (aI 30 rfl (isV undef) (aF _) (bL rfl (bW 32 rfl (aA rfl rfl rfl) rfl) (aD rfl)) (aZ 31 rfl 32 20 rfl rfl rfl (fun w hw=>eY rfl rfl) rfl (aZ 32 rfl 42 30 rfl rfl rfl (fun w hw=>iU rfl) rfl (dV ?_))))))))
   intro W5 hbR hS'
   clear hS;have hS:=hS';clear hS'
   refine aG (aG (aG (aG (aG (aG (aG (aG (aG (aG (aG (aG (aG (aG (aG (aG (aG (aG (aG (aG (aG ?_))))))))))))))))))))
   refine aG (aG (aG (aG (aG (aG (aG (aG (aG (aG (aG (cO (XF.thenN (bX (XF.thenR (XF.res (cQ results103 rfl) ?_)))))))))))))))
   exact ⟨bT (by rw [← hr];unfold iM;rw [hbb,hz,show decide (qs.length=2)=false from decide_eq_false (by have h9:qs.length=g.pl:=hw.2.1;omega)];rfl),hS.below⟩
  ·obtain ⟨x,y,hz,rfl,hx1⟩:=h1
   obtain ⟨hpl,b2,off2,hpa,hb2,hx6,hy6,hxi,hyi⟩:=hw.two
   obtain ⟨gz,gc,gg,gra,grl,grc,grows,gca,gcl,gcc,gcells,gpa,gpl,gpc⟩:=g
   dsimp only at hpl hpa hz
   subst hpl;subst hpa
   refine mK (m:=32) cD hS (by kernel_rfl) (by kernel_rfl) rfl (cJ 1 rfl 3 rfl rfl (fun w hw=>aV (o':=0) dR rfl rfl) rfl (aZ 2 rfl 12 0 rfl rfl rfl (fun w hw=>bC isAgg4 rfl ((aK hw 0).cell (Nat.zero_le _) (aH (hS.at_ 0 rfl) rfl))) rfl ?_))
   refine aI 3 rfl (isV (.bool true)) (aF _) (pI (li:=[(13,_)]) rfl (aR rfl) ⟨aL 1 (aA rfl rfl rfl),trivial⟩ (fun w hw=>kX rfl) (by rw [hz];rfl) (aD rfl)) ?_
   refine aZ 4 rfl 14 2 rfl rfl rfl (fun w hw=>aY rfl) rfl (aI 5 rfl (isV _) (aF _) (rgV (li:=[(3,_)]) rfl (bK 15 rfl (aA rfl rfl rfl)) ⟨cF rfl,trivial⟩ (fun w hw=>aV (o':=5) cW rfl rfl) (aD rfl)) (aI 6 rfl (isV _) (aF _) (rgV (li:=[(16,_)]) rfl (bK 15 rfl (aA rfl rfl rfl)) ⟨aL 4 (aA rfl rfl rfl),trivial⟩ (fun w hw=>bC isAgg42 rfl ((aK hw 0).cell (Nat.zero_le _) (aH (hS.at_ 0 rfl) rfl))) (aD rfl)) (aI 7 rfl (isV _) (aF _) (rgV (li:=[(17,_)]) rfl (bK 15 rfl (aA rfl rfl rfl)) ⟨aL 5 (aA rfl rfl rfl),trivial⟩ (fun w hw=>tQ underlying42 rfl) (aD rfl)) (aI 8 rfl (isV (.bool true)) (aF _) (pI (li:=[(18,_)]) rfl (bK 15 rfl (aA rfl rfl rfl)) ⟨aL 6 (aA rfl rfl rfl),trivial⟩ (fun w hw=>tR rfl rfl) (rfl) (aD rfl)) (aI 9 rfl (isV _) (aF _) (rgV (li:=[(15,_),(19,_)]) rfl (aR rfl) ⟨aL 3 (aA rfl rfl rfl),aL 7 (aA rfl rfl rfl),trivial⟩ (fun w hw=>eX rfl rfl) (aD rfl)) (aZ 10 rfl 20 8 rfl rfl rfl (fun w hw=>aY rfl) rfl (aI 11 rfl (isV _) (aF _) (rgV (li:=[(2,_)]) rfl (bK 21 rfl (aA rfl rfl rfl)) ⟨cF rfl,trivial⟩ (fun w hw=>aV (o':=2) fC rfl rfl) (aD rfl)) (aI 12 rfl (isV _) (aF _) (rgV (li:=[(22,_)]) rfl (bK 21 rfl (aA rfl rfl rfl)) ⟨aL 10 (aA rfl rfl rfl),trivial⟩ (fun w hw=>bC isAgg23 rfl ((aK hw 0).cell (Nat.zero_le _) (aH (hS.at_ 1 rfl) rfl))) (aD rfl)) ?_))))))))
   refine aI 13 rfl (isV _) (aF _) (rgV (li:=[(23,_)]) rfl (bK 21 rfl (aA rfl rfl rfl)) ⟨aL 11 (aA rfl rfl rfl),trivial⟩ (fun w hw=>bE (j:=0) underlying23 sizeOf25 rfl rfl rfl (by show _ < 2;decide) (Nat.add_zero _)) (aD rfl)) ?_
   refine aI 14 rfl (isV _) (aF _) (rgV (li:=[(24,_)]) rfl (bK 21 rfl (aA rfl rfl rfl)) ⟨aL 12 (aA rfl rfl rfl),trivial⟩ (fun w hw=>aX (vs:=[_,_,_]) isAgg25 sizeOf25 rfl (aB.agree (aK hw 0) (Nat.zero_le _) (aB.agree hS.agree (Nat.zero_le _) hp3.cells))) (aD rfl)) (aI 15 rfl (isV _) (aF _) (rgV (li:=[(3,_)]) rfl (bK 21 rfl (aA rfl rfl rfl)) ⟨cF rfl,trivial⟩ (fun w hw=>aV (o':=5) cW rfl rfl) (aD rfl)) (aI 16 rfl (isV _) (aF _) (rgV (li:=[(26,_)]) rfl (bK 21 rfl (aA rfl rfl rfl)) ⟨aL 14 (aA rfl rfl rfl),trivial⟩ (fun w hw=>bC isAgg42 rfl ((aK hw 0).cell (Nat.zero_le _) (aH (hS.at_ 0 rfl) rfl))) (aD rfl)) ?_))
   refine aI 17 rfl (isV _) (aF _) (rgV (li:=[(27,_)]) rfl (bK 21 rfl (aA rfl rfl rfl)) ⟨aL 15 (aA rfl rfl rfl),trivial⟩ (fun w hw=>bE (j:=0) underlying42 sizeOf44 rfl rfl rfl (by show _ < 2;decide) (Nat.add_zero _)) (aD rfl)) ?_
   refine aI 18 rfl (isV _) (aF _) (rgV (li:=[(28,_)]) rfl (bK 21 rfl (aA rfl rfl rfl)) ⟨aL 16 (aA rfl rfl rfl),trivial⟩ (fun w hw=>aX (vs:=[_,_,_,_,_,_]) isAgg44 sizeOf44 rfl (aB.agree (aK hw 0) (Nat.zero_le _) (aB.agree hS.agree (Nat.zero_le _) hx6.cells))) (aD rfl)) ?_
   refine aI 19 rfl (isV (.bool false)) (aF _) (cR [isV _,isV _] rfl rB (bK 21 rfl (aA rfl rfl rfl)) ⟨bU (aL 13 (aA rfl rfl rfl)),bU (aL 17 (aA rfl rfl rfl)),trivial⟩ (fun vs w' hb hh=>by have e:=cA (us:=[_,_]) hh;subst e;exact (nH p.f.tag p.f.dim p.f.a p.f.len p.f.cap x.f hp (Nat.zero_le _) _ (hxi.at_.below (hS.below.trans (hb.mono hS.below.size))) _ hx1).mono fun e w2 h=>⟨_,h.1,rfl,h.2⟩) (aD rfl)) ?_
   refine aI 20 rfl (isV _) (aF _) (rgV (li:=[(21,_),(30,_)]) rfl (aR rfl) ⟨aL 9 (aA rfl rfl rfl),aL 18 (aA rfl rfl rfl),trivial⟩ (fun w hw=>eX rfl rfl) (aD rfl)) (aZ 21 rfl 31 19 rfl rfl rfl (fun w hw=>aY rfl) rfl (aI 22 rfl (isV undef) (aF _) (bL rfl (bW 32 rfl (aA rfl rfl rfl) rfl) (aD rfl)) (aI 23 rfl (isV undef) (aF _) (bL rfl (bW 32 rfl (aA rfl rfl rfl) rfl) (aD rfl)) (aI 24 rfl (isV undef) (aF _) (bL rfl (bW 32 rfl (aA rfl rfl rfl) rfl) (aD rfl)) (aI 25 rfl (isV undef) (aF _) (bL rfl (bW 32 rfl (aA rfl rfl rfl) rfl) (aD rfl)) (aI 26 rfl (isV undef) (aF _) (bL rfl (bW 32 rfl (aA rfl rfl rfl) rfl) (aD rfl)) (aI 27 rfl (isV undef) (aF _) (bL rfl (bW 32 rfl (aA rfl rfl rfl) rfl) (aD rfl)) (aI 28 rfl (isV undef) (aF _) (bL rfl (bW 32 rfl (aA rfl rfl rfl) rfl) (aD rfl)) (aI 29 rfl (isV undef) (aF _) (bL rfl (bW 32 rfl (aA rfl rfl rfl) rfl) (aD rfl)) (aI 30 rfl (isV undef) (aF _) (bL rfl (bW 32 rfl (aA rfl rfl rfl) rfl) (aD rfl)) (aZ 31 rfl 32 20 rfl rfl rfl (fun w hw=>eY rfl rfl) rfl (aZ 32 rfl 42 30 rfl rfl rfl (fun w hw=>iU rfl) rfl (dV ?_)))))))))))))
   intro W6 hbR hS'
   clear hS;have hS:=hS';clear hS'
   refine aG (aG (aG (aG (aG (aG (aG (aG (aG (aG (aG (aG (aG (aG (aG (aG (aG (aG (aG (aG (aG ?_))))))))))))))))))))
   refine aG (aG (aG (aG (aG (aG (aG (aG (aG (aG (aG (cO (XF.thenN (bX (XF.thenR (XF.res (cQ results103 rfl) ?_)))))))))))))))
   exact ⟨bT (by rw [← hr];unfold iM;rw [hbb];show _=(true && (!gz && (true && (fU p.f.tag p.f.dim x.f && fU q.f.tag q.f.dim y.f))));rw [hz,hx1];rfl),hS.below⟩
  ·obtain ⟨x,y,hz,rfl,hx1⟩:=h1
   obtain ⟨hpl,b2,off2,hpa,hb2,hx6,hy6,hxi,hyi⟩:=hw.two
   obtain ⟨gz,gc,gg,gra,grl,grc,grows,gca,gcl,gcc,gcells,gpa,gpl,gpc⟩:=g
   dsimp only at hpl hpa hz
   subst hpl;subst hpa
   refine mK (m:=32) cD hS (by kernel_rfl) (by kernel_rfl) rfl (cJ 1 rfl 3 rfl rfl (fun w hw=>aV (o':=0) dR rfl rfl) rfl (aZ 2 rfl 12 0 rfl rfl rfl (fun w hw=>bC isAgg4 rfl ((aK hw 0).cell (Nat.zero_le _) (aH (hS.at_ 0 rfl) rfl))) rfl ?_))
   refine aI 3 rfl (isV (.bool true)) (aF _) (pI (li:=[(13,_)]) rfl (aR rfl) ⟨aL 1 (aA rfl rfl rfl),trivial⟩ (fun w hw=>kX rfl) (by rw [hz];rfl) (aD rfl)) ?_
   refine aZ 4 rfl 14 2 rfl rfl rfl (fun w hw=>aY rfl) rfl (aI 5 rfl (isV _) (aF _) (rgV (li:=[(3,_)]) rfl (bK 15 rfl (aA rfl rfl rfl)) ⟨cF rfl,trivial⟩ (fun w hw=>aV (o':=5) cW rfl rfl) (aD rfl)) (aI 6 rfl (isV _) (aF _) (rgV (li:=[(16,_)]) rfl (bK 15 rfl (aA rfl rfl rfl)) ⟨aL 4 (aA rfl rfl rfl),trivial⟩ (fun w hw=>bC isAgg42 rfl ((aK hw 0).cell (Nat.zero_le _) (aH (hS.at_ 0 rfl) rfl))) (aD rfl)) (aI 7 rfl (isV _) (aF _) (rgV (li:=[(17,_)]) rfl (bK 15 rfl (aA rfl rfl rfl)) ⟨aL 5 (aA rfl rfl rfl),trivial⟩ (fun w hw=>tQ underlying42 rfl) (aD rfl)) (aI 8 rfl (isV (.bool true)) (aF _) (pI (li:=[(18,_)]) rfl (bK 15 rfl (aA rfl rfl rfl)) ⟨aL 6 (aA rfl rfl rfl),trivial⟩ (fun w hw=>tR rfl rfl) (rfl) (aD rfl)) (aI 9 rfl (isV _) (aF _) (rgV (li:=[(15,_),(19,_)]) rfl (aR rfl) ⟨aL 3 (aA rfl rfl rfl),aL 7 (aA rfl rfl rfl),trivial⟩ (fun w hw=>eX rfl rfl) (aD rfl)) (aZ 10 rfl 20 8 rfl rfl rfl (fun w hw=>aY rfl) rfl (aI 11 rfl (isV _) (aF _) (rgV (li:=[(2,_)]) rfl (bK 21 rfl (aA rfl rfl rfl)) ⟨cF rfl,trivial⟩ (fun w hw=>aV (o':=2) fC rfl rfl) (aD rfl)) (aI 12 rfl (isV _) (aF _) (rgV (li:=[(22,_)]) rfl (bK 21 rfl (aA rfl rfl rfl)) ⟨aL 10 (aA rfl rfl rfl),trivial⟩ (fun w hw=>bC isAgg23 rfl ((aK hw 0).cell (Nat.zero_le _) (aH (hS.at_ 1 rfl) rfl))) (aD rfl)) ?_))))))))
   refine aI 13 rfl (isV _) (aF _) (rgV (li:=[(23,_)]) rfl (bK 21 rfl (aA rfl rfl rfl)) ⟨aL 11 (aA rfl rfl rfl),trivial⟩ (fun w hw=>bE (j:=0) underlying23 sizeOf25 rfl rfl rfl (by show _ < 2;decide) (Nat.add_zero _)) (aD rfl)) ?_
   refine aI 14 rfl (isV _) (aF _) (rgV (li:=[(24,_)]) rfl (bK 21 rfl (aA rfl rfl rfl)) ⟨aL 12 (aA rfl rfl rfl),trivial⟩ (fun w hw=>aX (vs:=[_,_,_]) isAgg25 sizeOf25 rfl (aB.agree (aK hw 0) (Nat.zero_le _) (aB.agree hS.agree (Nat.zero_le _) hp3.cells))) (aD rfl)) (aI 15 rfl (isV _) (aF _) (rgV (li:=[(3,_)]) rfl (bK 21 rfl (aA rfl rfl rfl)) ⟨cF rfl,trivial⟩ (fun w hw=>aV (o':=5) cW rfl rfl) (aD rfl)) (aI 16 rfl (isV _) (aF _) (rgV (li:=[(26,_)]) rfl (bK 21 rfl (aA rfl rfl rfl)) ⟨aL 14 (aA rfl rfl rfl),trivial⟩ (fun w hw=>bC isAgg42 rfl ((aK hw 0).cell (Nat.zero_le _) (aH (hS.at_ 0 rfl) rfl))) (aD rfl)) ?_))
   refine aI 17 rfl (isV _) (aF _) (rgV (li:=[(27,_)]) rfl (bK 21 rfl (aA rfl rfl rfl)) ⟨aL 15 (aA rfl rfl rfl),trivial⟩ (fun w hw=>bE (j:=0) underlying42 sizeOf44 rfl rfl rfl (by show _ < 2;decide) (Nat.add_zero _)) (aD rfl)) ?_
   refine aI 18 rfl (isV _) (aF _) (rgV (li:=[(28,_)]) rfl (bK 21 rfl (aA rfl rfl rfl)) ⟨aL 16 (aA rfl rfl rfl),trivial⟩ (fun w hw=>aX (vs:=[_,_,_,_,_,_]) isAgg44 sizeOf44 rfl (aB.agree (aK hw 0) (Nat.zero_le _) (aB.agree hS.agree (Nat.zero_le _) hx6.cells))) (aD rfl)) ?_
   refine aI 19 rfl (isV (.bool true)) (aF _) (cR [isV _,isV _] rfl rB (bK 21 rfl (aA rfl rfl rfl)) ⟨bU (aL 13 (aA rfl rfl rfl)),bU (aL 17 (aA rfl rfl rfl)),trivial⟩ (fun vs w' hb hh=>by have e:=cA (us:=[_,_]) hh;subst e;exact (nH p.f.tag p.f.dim p.f.a p.f.len p.f.cap x.f hp (Nat.zero_le _) _ (hxi.at_.below (hS.below.trans (hb.mono hS.below.size))) _ hx1).mono fun e w2 h=>⟨_,h.1,rfl,h.2⟩) (aD rfl)) ?_
   refine aI 20 rfl (isV _) (aF _) (rgV (li:=[(21,_),(30,_)]) rfl (aR rfl) ⟨aL 9 (aA rfl rfl rfl),aL 18 (aA rfl rfl rfl),trivial⟩ (fun w hw=>eX rfl rfl) (aD rfl)) (aZ 21 rfl 31 19 rfl rfl rfl (fun w hw=>aY rfl) rfl (aI 22 rfl (isV _) (aF _) (rgV (li:=[(2,_)]) rfl (bK 32 rfl (aA rfl rfl rfl)) ⟨cF rfl,trivial⟩ (fun w hw=>aV (o':=2) fC rfl rfl) (aD rfl)) (aI 23 rfl (isV _) (aF _) (rgV (li:=[(33,_)]) rfl (bK 32 rfl (aA rfl rfl rfl)) ⟨aL 21 (aA rfl rfl rfl),trivial⟩ (fun w hw=>bC isAgg23 rfl ((aK hw 0).cell (Nat.zero_le _) (aH (hS.at_ 1 rfl) rfl))) (aD rfl)) ?_)))
   refine aI 24 rfl (isV _) (aF _) (rgV (li:=[(34,_)]) rfl (bK 32 rfl (aA rfl rfl rfl)) ⟨aL 22 (aA rfl rfl rfl),trivial⟩ (fun w hw=>bE (j:=1) underlying23 sizeOf25 rfl rfl rfl (by show _ < 2;decide) rfl) (aD rfl)) ?_
   refine aI 25 rfl (isV _) (aF _) (rgV (li:=[(35,_)]) rfl (bK 32 rfl (aA rfl rfl rfl)) ⟨aL 23 (aA rfl rfl rfl),trivial⟩ (fun w hw=>aX (vs:=[_,_,_]) isAgg25 sizeOf25 rfl (aB.agree (aK hw 0) (Nat.zero_le _) (aB.agree hS.agree (Nat.zero_le _) hq3.cells))) (aD rfl)) (aI 26 rfl (isV _) (aF _) (rgV (li:=[(3,_)]) rfl (bK 32 rfl (aA rfl rfl rfl)) ⟨cF rfl,trivial⟩ (fun w hw=>aV (o':=5) cW rfl rfl) (aD rfl)) (aI 27 rfl (isV _) (aF _) (rgV (li:=[(37,_)]) rfl (bK 32 rfl (aA rfl rfl rfl)) ⟨aL 25 (aA rfl rfl rfl),trivial⟩ (fun w hw=>bC isAgg42 rfl ((aK hw 0).cell (Nat.zero_le _) (aH (hS.at_ 0 rfl) rfl))) (aD rfl)) ?_))
   refine aI 28 rfl (isV _) (aF _) (rgV (li:=[(38,_)]) rfl (bK 32 rfl (aA rfl rfl rfl)) ⟨aL 26 (aA rfl rfl rfl),trivial⟩ (fun w hw=>bE (j:=1) underlying42 sizeOf44 rfl rfl rfl (by show _ < 2;decide) rfl) (aD rfl)) ?_
   refine aI 29 rfl (isV _) (aF _) (rgV (li:=[(39,_)]) rfl (bK 32 rfl (aA rfl rfl rfl)) ⟨aL 27 (aA rfl rfl rfl),trivial⟩ (fun w hw=>aX (vs:=[_,_,_,_,_,_]) isAgg44 sizeOf44 rfl (aB.agree (aK hw 0) (Nat.zero_le _) (aB.agree hS.agree (Nat.zero_le _) hy6.cells))) (aD rfl)) ?_
   refine aI 30 rfl (isV (.bool (fU q.f.tag q.f.dim y.f))) (aF _) (cR [isV _,isV _] rfl rB (bK 32 rfl (aA rfl rfl rfl)) ⟨bU (aL 24 (aA rfl rfl rfl)),bU (aL 28 (aA rfl rfl rfl)),trivial⟩ (fun vs w' hb hh=>by have e:=cA (us:=[_,_]) hh;subst e;exact (nH q.f.tag q.f.dim q.f.a q.f.len q.f.cap y.f hq (Nat.zero_le _) _ (hyi.at_.below (hS.below.trans (hb.mono hS.below.size))) _ rfl).mono fun e w2 h=>⟨_,h.1,rfl,h.2⟩) (aD rfl)) ?_
   refine aI 31 rfl (isV _) (aF _) (rgV (li:=[(32,_),(41,_)]) rfl (aR rfl) ⟨aL 20 (aA rfl rfl rfl),aL 29 (aA rfl rfl rfl),trivial⟩ (fun w hw=>eX rfl rfl) (aD rfl)) (aZ 32 rfl 42 30 rfl rfl rfl (fun w hw=>iU rfl) rfl (dV ?_))
   intro W7 hbR hS'
   clear hS;have hS:=hS';clear hS'
   refine aG (aG (aG (aG (aG (aG (aG (aG (aG (aG (aG (aG (aG (aG (aG (aG (aG (aG (aG (aG (aG ?_))))))))))))))))))))
   refine aG (aG (aG (aG (aG (aG (aG (aG (aG (aG (aG (cO (XF.thenN (bX (XF.thenR (XF.res (cQ results103 rfl) ?_)))))))))))))))
   exact ⟨bT (by rw [← hr];unfold iM;rw [hbb];show _=(true && (!gz && (true && (fU p.f.tag p.f.dim x.f && fU q.f.tag q.f.dim y.f))));rw [hz,hx1];rfl),hS.below⟩
theorem kK:bH prog 104=true:=by kernel_rfl
theorem U8:bH prog 105=true:=by kernel_rfl
theorem U9:bH prog 106=true:=by kernel_rfl
theorem pW (t n:Int) (a:Option Addr) (l c0:Nat) (f:WF) (hp:bI t n l=true) (hs:0≤f.rl) (w:World) (hf:f.At w) (r:Bool) (hr:fU t n f=r) :
  Calls prog 78 #[.agg #[.int .i64 t,.int .i64 n,.slice a l c0],f.val] w (fun e w'=>e = .returned (.bool (r))∧Below w.heap.size w w'):=by
 refine cB (args:=[.agg #[.int .i64 t,.int .i64 n,.slice a l c0],f.val]) func78 rfl ntmps78 rfl ?_
 have hS:=St.start w
 have htg:=(fV hp).2
 have h5:t≠5:=by omega
 refine aJ (aQ (bR (cs:=[_,_,_]) hS rfl rfl rfl fun B1 W1 hS=>bR (cs:=[_,_,_,_,_,_]) hS rfl rfl rfl fun B2 W2 hS=>aC rfl rfl (aN (XF.thenN (aJ (aJ (aQ (aO (o':=0) dR rfl rfl rfl (aT isAgg4 rfl (aH (hS.at_ 0 rfl) rfl) rfl (aN (XF.thenN (bA rfl (fun hc=>?_) (fun hc=>?_)))))))))))))
 ·have hc7:=hc;clear hc
  refine aJ (aQ (aO (o':=0) eP rfl rfl rfl (aT isAgg22 rfl (aH (hS.at_ 1 rfl) rfl) rfl (dX rfl rfl rfl (aE rfl rfl (cI (d:=11) rfl (fun hc=>?_) (fun hc=>absurd (of_decide_eq_false hc) (by exact fun h=>h h5))))))))
  have hc:=of_decide_eq_true hc
  refine aM (d:=11) rfl rfl (aS (vs:=[_,_,_,_,_,_]) isAgg44 sizeOf44 rfl (aB.own (j:=0) (m:=6) (hS.at_ 0 rfl) rfl) rfl (aM (d:=11) rfl rfl (cC (vs:=[_,_,_,_,_]) hS kK rfl (Hv f _ rfl _) rfl fun W3 hS=>bV rfl rfl rfl (aC rfl rfl (aN (XF.thenN (bX (XF.thenR (XF.res (cQ results78 rfl) ?_)))))))))
  exact ⟨bT (by rw [← hr];unfold fU;rw [show f.z=true from hc7];unfold iY;rw [show f.z=true from hc7];simp),hS.below⟩
 ·have hc7:=hc;clear hc
  have hz:f.z=false:=hc7
  refine bM (XF.thenN (aJ (aJ (aQ (aO (o':=0) eP rfl rfl rfl (aT isAgg22 rfl (aH (hS.at_ 1 rfl) rfl) rfl (aN (XF.thenN (bQ (aJ (aQ (cG rfl rfl rfl (aC rfl rfl (aN (XF.thenN (bA rfl (fun hc=>?_) (fun hc=>?_)))))))))))))))))
  ·have hc17:=of_decide_eq_true hc;clear hc
   refine aJ (aQ (aS (vs:=[_,_,_,_,_,_]) isAgg44 sizeOf44 rfl (aB.own (j:=0) (m:=6) (hS.at_ 0 rfl) rfl) rfl (cC (vs:=[_,_,_,_,_]) hS kK rfl (Hv f _ rfl _) rfl fun W4 hS=>aC rfl rfl (aN (XF.thenN (bX (XF.blkR (XF.thenR (XF.res (cQ results78 rfl) ?_)))))))))
   exact ⟨bT (by rw [← hr];unfold fU;rw [hz];unfold iY;rw [hz,hc17];simp),hS.below⟩
  ·have hc17:=of_decide_eq_false hc;clear hc
   refine aJ (aQ (cG rfl rfl rfl (aC rfl rfl (aN (XF.thenN (bA rfl (fun hc=>?_) (fun hc=>?_)))))))
   ·have hc21:=of_decide_eq_true hc;clear hc
    have hbb:iY t f=iX true false false false f:=by unfold iY;rw [hz,hc21];simp
    refine aJ (aQ (aS (vs:=[_,_,_,_,_,_]) isAgg44 sizeOf44 rfl (aB.own (j:=0) (m:=6) (hS.at_ 0 rfl) rfl) rfl (cC (vs:=[_,_,_,_,_]) hS kK rfl (Ty f _ rfl _) rfl fun W5 hS=>aE rfl rfl (cI (d:=25) rfl (fun hc=>?_) (fun hc=>?_)))))
    ·have hg25:=hc;clear hc
     refine aM (d:=25) rfl rfl (aO (o':=1) eV rfl rfl rfl (aM (d:=25) rfl rfl (aT isAgg3 rfl (aH (hS.at_ 0 rfl) rfl) rfl (aM (d:=25) rfl rfl (oH rfl rfl rfl (bV rfl rfl rfl (aE rfl rfl (cI (d:=30) rfl (fun hc=>?_) (fun hc=>?_)))))))))
     ·have hg30:=of_decide_eq_true hc;clear hc
      refine aM (d:=30) rfl rfl (aO (o':=1) eV rfl rfl rfl (aM (d:=30) rfl rfl (aT isAgg3 rfl (aH (hS.at_ 0 rfl) rfl) rfl (aM (d:=30) rfl rfl (aO (o':=1) eQ rfl rfl rfl (aM (d:=30) rfl rfl (aT isAgg3 rfl (aH (hS.at_ 1 rfl) rfl) rfl (aM (d:=30) rfl rfl (wQ rfl rfl rfl (bV rfl rfl rfl (aC rfl rfl (aN (XF.thenN (bX (XF.blkR (XF.thenR (XF.res (cQ results78 rfl) ?_)))))))))))))))))
      exact ⟨bT (by rw [← hr];unfold fU;rw [hbb,hz,if_pos hc21,show iX true false false false f=true from hg25];simp [show (0:Int)≤f.c from hg30]),hS.below⟩
     ·have hg30:=of_decide_eq_false hc;clear hc
      refine aP (d:=30) rfl rfl rfl rfl (aP (d:=30) rfl rfl rfl rfl (aP (d:=30) rfl rfl rfl rfl (aP (d:=30) rfl rfl rfl rfl (aP (d:=30) rfl rfl rfl rfl (cH rfl rfl rfl (aC rfl rfl (aN (XF.thenN (bX (XF.blkR (XF.thenR (XF.res (cQ results78 rfl) ?_))))))))))))
      exact ⟨bT (by rw [← hr];unfold fU;rw [hbb,hz,if_pos hc21,show iX true false false false f=true from hg25];simp [show ¬ (0:Int)≤f.c from hg30]),hS.below⟩
    ·have hg25:=hc;clear hc
     refine aP (d:=25) rfl rfl rfl rfl (aP (d:=25) rfl rfl rfl rfl (aP (d:=25) rfl rfl rfl rfl (cH rfl rfl rfl (aE rfl rfl (aP (d:=30) rfl rfl rfl rfl (aP (d:=30) rfl rfl rfl rfl (aP (d:=30) rfl rfl rfl rfl (aP (d:=30) rfl rfl rfl rfl (aP (d:=30) rfl rfl rfl rfl (cH rfl rfl rfl (aC rfl rfl (aN (XF.thenN (bX (XF.blkR (XF.thenR (XF.res (cQ results78 rfl) ?_)))))))))))))))))
     exact ⟨bT (by rw [← hr];unfold fU;rw [hbb,show iX true false false false f=false from hg25];rfl),hS.below⟩
   ·have hc21:=of_decide_eq_false hc;clear hc
    refine aJ (aQ (cG rfl rfl rfl (aC rfl rfl (aN (XF.thenN (bA rfl (fun hc=>?_) (fun hc=>?_)))))))
    ·have hc37:=of_decide_eq_true hc;clear hc
     have hbb:iY t f=iX false true false false f:=by unfold iY;rw [hz,hc37];simp
     refine aJ (aQ (aS (vs:=[_,_,_,_,_,_]) isAgg44 sizeOf44 rfl (aB.own (j:=0) (m:=6) (hS.at_ 0 rfl) rfl) rfl (cC (vs:=[_,_,_,_,_]) hS kK rfl (Tz f _ rfl _) rfl fun W6 hS=>aE rfl rfl (cI (d:=41) rfl (fun hc=>?_) (fun hc=>?_)))))
     ·have hg41:=hc;clear hc
      refine aM (d:=41) rfl rfl (aO (o':=1) eQ rfl rfl rfl (aM (d:=41) rfl rfl (aT isAgg3 rfl (aH (hS.at_ 1 rfl) rfl) rfl (aM (d:=41) rfl rfl (aO (o':=2) eR rfl rfl rfl (aM (d:=41) rfl rfl (aS (vs:=[_,_]) isAgg40 sizeOf40 rfl (aB.own (j:=2) (m:=2) (hS.at_ 0 rfl) rfl) rfl (aM (d:=41) rfl rfl (cC (vs:=[_,_]) hS U8 rfl (Lk n f.ra f.rc f.g f.rows _ (hf.below hS.below) _ rfl f.rl hf.rl) rfl fun W7 hS=>aM (d:=41) rfl rfl (cG rfl rfl rfl (bV rfl rfl rfl (aC rfl rfl (aN (XF.thenN (bX (XF.blkR (XF.thenR (XF.res (cQ results78 rfl) ?_))))))))))))))))))
      exact ⟨bT (by rw [← hr];unfold fU;rw [hbb,hz,if_neg hc21,if_pos hc37,show iX false true false false f=true from hg41];rfl),hS.below⟩
     ·have hg41:=hc;clear hc
      refine aP (d:=41) rfl rfl rfl rfl (aP (d:=41) rfl rfl rfl rfl (aP (d:=41) rfl rfl rfl rfl (aP (d:=41) rfl rfl rfl rfl (aP (d:=41) rfl rfl rfl rfl (aP (d:=41) rfl rfl rfl rfl (cH rfl rfl rfl (aC rfl rfl (aN (XF.thenN (bX (XF.blkR (XF.thenR (XF.res (cQ results78 rfl) ?_)))))))))))))
      exact ⟨bT (by rw [← hr];unfold fU;rw [hbb,show iX false true false false f=false from hg41];rfl),hS.below⟩
    ·have hc37:=of_decide_eq_false hc;clear hc
     refine aJ (aQ (cG rfl rfl rfl (aC rfl rfl (aN (XF.thenN (bA rfl (fun hc=>?_) (fun hc=>absurd (of_decide_eq_false hc) (by omega))))))))
     have hc:=of_decide_eq_true hc
     have hc49:t=4:=hc
     have hbb:iY t f=iX false false true false f:=by unfold iY;rw [hz,hc49];simp
     obtain ⟨m,hnm,hm64⟩:∃ m:Nat,n=m∧m≤64:=by
      have h9:=hp
      simp only [bI,hc49] at h9
      simp at h9
      exact ⟨n.toNat,by omega,by omega⟩
     refine aJ (aJ (aQ (aS (vs:=[_,_,_,_,_,_]) isAgg44 sizeOf44 rfl (aB.own (j:=0) (m:=6) (hS.at_ 0 rfl) rfl) rfl (cC (vs:=[_,_,_,_,_]) hS kK rfl (T3 f _ rfl _) rfl fun W8 hS=>fS rfl rfl (aE rfl rfl (cI (d:=54) rfl (fun hc=>?_) (fun hc=>?_)))))))
     ·have hg54:=hc;clear hc
      refine aP (d:=54) rfl rfl rfl rfl (aP (d:=54) rfl rfl rfl rfl (aP (d:=54) rfl rfl rfl rfl (aP (d:=54) rfl rfl rfl rfl (aP (d:=54) rfl rfl rfl rfl (aP (d:=54) rfl rfl rfl rfl (bV rfl rfl rfl (aN (XF.thenN (gW rfl (aJ (aQ (aC rfl rfl (aN (XF.thenN (bX (XF.thenR (XF.blkR (XF.thenR (XF.res (cQ results78 rfl) ?_)))))))))))))))))))
      exact ⟨bT (by rw [← hr];unfold fU;rw [hbb,show iX false false true false f=false by simpa using hg54];rfl),hS.below⟩
     ·have hg54:=hc;clear hc
      have hon:iX false false true false f=true:=by simpa using hg54
      refine aM (d:=54) rfl rfl (aO (o':=4) dG rfl rfl rfl (aM (d:=54) rfl rfl (aT isAgg41 rfl (aH (hS.at_ 0 rfl) rfl) rfl (aM (d:=54) rfl rfl (cX underlying41 rfl rfl (aM (d:=54) rfl rfl (aO (o':=1) eQ rfl rfl rfl (aM (d:=54) rfl rfl (aT isAgg3 rfl (aH (hS.at_ 1 rfl) rfl) rfl (aM (d:=54) rfl rfl (dX rfl rfl rfl (cH rfl rfl rfl (aN (XF.thenN (bA rfl (fun hc=>?_) (fun hc=>?_))))))))))))))))
      ·have hc61:=of_decide_eq_true hc;clear hc
       refine aJ (aQ (aC rfl rfl (aN (XF.thenN (bX (XF.thenR (XF.blkR (XF.thenR (XF.res (cQ results78 rfl) ?_)))))))))
       have hne:lZ n f.cells≠0:=fun h9=>by have:=(mW h9).2.2.1;rw [hf.cl] at this;exact hc61 this
       exact ⟨bT (by rw [← hr];unfold fU;rw [hbb,hz,hon,if_neg hc21,if_neg hc37,if_pos hc49,decide_eq_false hne];rfl),hS.below⟩
      ·have hc61:=of_decide_eq_false hc;clear hc
       have hcl:f.cells.length=m:=by rw [hf.cl];omega
       refine bM (XF.thenN (aJ (aJ (aQ (aC rfl rfl (aN (XF.thenN (bQ (eI (fun m_ l_ W=>∃ i:Nat,i≤f.cl∧m_=f.cl - i∧l_=[(2,.pointer (some ⟨B1,0,none⟩)),(3,.pointer (some ⟨B2,0,none⟩)),(5,.int .i64 (i:Int))]∧(f.cells.take i).all (jV m)=true∧St w [(B2,f.six,44),(B1,[.int .i64 t,.int .i64 n,.slice a l c0],25)] [] [] W) (f.cl - 0) ([(2,_),(3,_),(5,_)]) ⟨rfl,rfl,rfl,trivial⟩ (⟨0,Nat.zero_le _,rfl,rfl,rfl,hS.clear⟩) ?_)))))))))
       clear hS
       rintro m_ l_ W ⟨i,hi,rfl,rfl,hall,hS⟩
       refine aJ (aJ (aQ (aE rfl rfl (aO (o':=4) dG rfl rfl rfl (aT isAgg41 rfl (aH (hS.at_ 0 rfl) rfl) rfl (cX underlying41 rfl rfl (cY rfl rfl rfl (aN (XF.thenN (bA rfl (fun hc=>?_) (fun hc=>?_)))))))))))
       ·have hc66:=of_decide_eq_true hc;clear hc
        obtain ⟨b9,off9,ce,hca9,hce,hb9,h91,h92,h93⟩:=(hf.cells.below hS.below).at_ (k:=i) (by rw [hf.cl];omega)
        have k1:aB W b9 (off9+i * 3) [.int .u64 (ce.f:Int),.int .i64 ce.k,.int .i64 ce.v]:=⟨h91,h92,h93,trivial⟩
        have hc64:=hf.bits ce (List.mem_of_getElem? hce)
        refine bM (XF.thenN (aJ (bQ (aJ (mK (m:=9) cD hS (by kernel_rfl) (by kernel_rfl) rfl (cJ 1 rfl 2 rfl rfl (fun w hw=>aV (o':=1) eQ rfl rfl) rfl (aZ 2 rfl 69 0 rfl rfl rfl (fun w hw=>bC isAgg3 rfl ((aK hw 0).cell (Nat.zero_le _) (aH (hS.at_ 1 rfl) rfl))) rfl (cJ 3 rfl 3 rfl rfl (fun w hw=>aV (o':=4) dG rfl rfl) rfl (aI 4 rfl (isV (.slice (some ⟨b9,off9,none⟩) f.cl f.cc)) (aF _) (pI (li:=[(71,_)]) rfl (aR rfl) ⟨aL 2 (aA rfl rfl rfl),trivial⟩ (fun w hw=>bC isAgg41 rfl ((aK hw 0).cell (Nat.zero_le _) (aH (hS.at_ 0 rfl) rfl))) (by rw [← hca9]) (aD rfl)) (cJ 5 rfl 5 rfl rfl (fun w hw=>aY rfl) rfl (aI 6 rfl (isV _) (aF _) (rgV (li:=[(72,_),(73,_)]) rfl (aR rfl) ⟨aL 3 (aA rfl rfl rfl),aL 4 (aA rfl rfl rfl),trivial⟩ (fun w hw=>bE (j:=i) underlying41 sizeOf105 rfl rfl (rfl) (by omega) rfl) (aD rfl)) (aZ 7 rfl 74 5 rfl rfl rfl (fun w hw=>aX (vs:=[_,_,_]) isAgg105 sizeOf105 rfl (aB.agree (aK hw 0) (Nat.zero_le _) (k1))) rfl ?_))))))))))))
        refine aI 8 rfl (isV (.bool (jV m ce))) (aF _) (cR [isV _,isV _] rfl U9 (aR rfl) ⟨bU (aL 1 (aA rfl rfl rfl)),bU (aL 6 (aA rfl rfl rfl)),trivial⟩ (fun vs w' hb hh=>by have e:=cA (us:=[_,_]) hh;subst e;have h9:=T4 m hm64 ce.f ce.k ce.v hc64 _ rfl w';rw [← hnm] at h9;exact h9.mono fun e w2 h=>⟨_,h.1,rfl,h.2⟩) (aD rfl)) ?_
        refine aZ 9 rfl 76 7 rfl rfl rfl (fun w hw=>kX rfl) rfl (dV ?_)
        intro W9 hbR hS'
        clear hS;have hS:=hS';clear hS'
        refine aG (aG (aG (aG (aG (aG (aG (aG (aG (cO (XF.thenN (bA rfl (fun hc=>?_) (fun hc=>?_))))))))))))
        ·have hc77:=hc;clear hc
         refine aJ (aQ (aC rfl rfl (aN (XF.thenN (bX (XF.blkR (XF.thenR (XF.thenR (XF.blkR (XF.thenR (XF.blkR (XF.thenR (XF.res (cQ results78 rfl) ?_)))))))))))))
         exact ⟨bT (by rw [← hr];unfold fU;rw [hbb,hz,hon,if_neg hc21,if_neg hc37,if_pos hc49,hnm,Hs hm64 hcl hce (by simpa using hc77)];rfl),hS.below⟩
        ·have hc77:=hc;clear hc
         refine bM (XF.blkN (XF.thenN (aQ (aE rfl rfl (cZ rfl rfl (IntWalk.i64_in _ (by omega)) rfl (aC rfl rfl (aN ?_)))))))
         exact XF.round (f.cl - (i+1)) [(2,_),(3,_),(5,_)] (by omega) ⟨rfl,rfl,rfl,trivial⟩ ⟨i+1,by omega,rfl,rfl,oR hce hall (by simpa using hc77),hS.clear⟩
       ·have hc66:=of_decide_eq_false hc;clear hc
        refine eF (XF.thenX (XF.thenX (XF.blkX (XF.thenN (aJ (aQ (aC rfl rfl (aN (XF.thenN (bX (XF.blkR (XF.thenR (XF.res (cQ results78 rfl) ?_)))))))))))))
        exact ⟨bT (by rw [← hr];unfold fU;rw [hbb,hz,hon,if_neg hc21,if_neg hc37,if_pos hc49,hnm,wY hm64 hcl (k:=i) (by rw [hf.cl];omega) hall];rfl),hS.below⟩
theorem Ik (p q:SV) (g:WF) (qs:List WV) {w:World} {e:Nat} (hw:WIn w (e+1) (.mk g qs)) (hz:g.z=false) (on:Bool):on=false∨(on=true∧g.pl≠2)∨(on=true∧∃ x y,g.z=false∧qs=[x,y]∧fU p.f.tag p.f.dim x.f=false)∨(on=true∧∃ x y,g.z=false∧qs=[x,y]∧fU p.f.tag p.f.dim x.f=true):=by
 cases on with
 | false=>exact .inl rfl
 | true =>
  rcases A7 p q g qs hw with h | h | h | h
  ·rw [hz] at h;cases h
  ·exact .inr (.inl ⟨rfl,h.2⟩)
  ·exact .inr (.inr (.inl ⟨rfl,h⟩))
  ·exact .inr (.inr (.inr ⟨rfl,h⟩))
theorem Q4 (d:Nat) (sa:Option Addr) (sc:Nat) (p q:SV) (g:WF) (qs:List WV) (w:World) (hsp:SIn w (d+1) (.mk ⟨5,0,sa,2,sc⟩ [p,q])) (hp:p.pl=true) (hq:q.pl=true) (e:Nat) (hw:WIn w (e+1) (.mk g qs)) (hs:∀ x∈qs,0≤x.f.rl) (r:Bool) (hr:iM p q g qs=r) :
  Calls prog 78 #[.agg #[.int .i64 5,.int .i64 0,.slice sa 2 sc],g.val] w (fun e w'=>e = .returned (.bool (r))∧Below w.heap.size w w'):=by
 refine cB (args:=[.agg #[.int .i64 5,.int .i64 0,.slice sa 2 sc],g.val]) func78 rfl ntmps78 rfl ?_
 have hS:=St.start w
 obtain ⟨_,b,off,ha,hb0,hp3,hq3,_,_⟩:=hsp.two
 obtain rfl:sa=some ⟨b,off,none⟩:=ha
 refine aJ (aQ (bR (cs:=[_,_,_]) hS rfl rfl rfl fun B1 W1 hS=>bR (cs:=[_,_,_,_,_,_]) hS rfl rfl rfl fun B2 W2 hS=>aC rfl rfl (aN (XF.thenN (aJ (aJ (aQ (aO (o':=0) dR rfl rfl rfl (aT isAgg4 rfl (aH (hS.at_ 0 rfl) rfl) rfl (aN (XF.thenN (bA rfl (fun hc=>?_) (fun hc=>?_)))))))))))))
 ·have hc7:=hc;clear hc
  refine aJ (aQ (aO (o':=0) eP rfl rfl rfl (aT isAgg22 rfl (aH (hS.at_ 1 rfl) rfl) rfl (dX rfl rfl rfl (aE rfl rfl (cI (d:=11) rfl (fun hc=>absurd (of_decide_eq_true hc) (by decide)) (fun hc=>?_)))))))
  have hc:=of_decide_eq_false hc
  refine aP (d:=11) rfl rfl rfl rfl (aP (d:=11) rfl rfl rfl rfl (cH rfl rfl rfl (aC rfl rfl (aN (XF.thenN (bX (XF.thenR (XF.res (cQ results78 rfl) ?_))))))))
  exact ⟨bT (by rw [← hr];unfold iM;rw [show g.z=true from hc7];simp),hS.below⟩
 ·have hc7:=hc;clear hc
  have hz0:g.z=false:=hc7
  refine bM (XF.thenN (aJ (aJ (aQ (aO (o':=0) eP rfl rfl rfl (aT isAgg22 rfl (aH (hS.at_ 1 rfl) rfl) rfl (aN (XF.thenN (bQ (aJ (aQ (cG rfl rfl rfl (aC rfl rfl (aN (XF.thenN (bA rfl (fun hc=>absurd (of_decide_eq_true hc) (by decide)) (fun hc=>?_)))))))))))))))))
  have hc:=of_decide_eq_false hc
  refine aJ (aQ (cG rfl rfl rfl (aC rfl rfl (aN (XF.thenN (bA rfl (fun hc=>absurd (of_decide_eq_true hc) (by decide)) (fun hc=>?_)))))))
  have hc:=of_decide_eq_false hc
  refine aJ (aQ (cG rfl rfl rfl (aC rfl rfl (aN (XF.thenN (bA rfl (fun hc=>absurd (of_decide_eq_true hc) (by decide)) (fun hc=>?_)))))))
  have hc:=of_decide_eq_false hc
  refine aJ (aQ (cG rfl rfl rfl (aC rfl rfl (aN (XF.thenN (bA rfl (fun hc=>absurd (of_decide_eq_true hc) (by decide)) (fun hc=>?_)))))))
  have hc:=of_decide_eq_false hc
  refine bM (XF.blkN (XF.thenN (aJ ?_)))
  obtain ⟨on,hon⟩:∃ b,iX false false false true g=b:=⟨_,rfl⟩
  have hbb:iY 5 g=on:=by rw [← hon];unfold iY;rw [hz0];simp
  rcases Ik p q g qs hw hz0 on with h1 | h1 | h1 | h1
  ·subst h1
   refine mK (m:=31) cD hS (by kernel_rfl) (by kernel_rfl) rfl (cJ 1 rfl 3 rfl rfl (fun w hw=>aX (vs:=[_,_,_,_,_,_]) isAgg44 sizeOf44 rfl (aB.agree (aK hw 0) (Nat.zero_le _) (aB.own (j:=0) (m:=6) (hS.at_ 0 rfl) rfl))) rfl ?_)
   refine aI 2 rfl (isV (.bool false)) (aF _) (cR [isV _,isV _,isV _,isV _,isV _] rfl kK (aR rfl) ⟨bU (aL 0 (aA rfl rfl rfl)),gK,gK,gK,gK,trivial⟩ (fun vs w' hb hh=>by have e:=cA (us:=[_,_,_,_,_]) hh;subst e;exact (vC g _ hon _).mono fun e w2 h=>⟨_,h.1,rfl,h.2⟩) (aD rfl)) ?_
   refine aZ 3 rfl 79 1 rfl rfl rfl (fun w hw=>aY rfl) rfl (aI 4 rfl (isV undef) (aF _) (bL rfl (bW 80 rfl (aA rfl rfl rfl) rfl) (aD rfl)) (aI 5 rfl (isV undef) (aF _) (bL rfl (bW 80 rfl (aA rfl rfl rfl) rfl) (aD rfl)) (aI 6 rfl (isV undef) (aF _) (bL rfl (bW 80 rfl (aA rfl rfl rfl) rfl) (aD rfl)) (aI 7 rfl (isV undef) (aF _) (bL rfl (bW 80 rfl (aA rfl rfl rfl) rfl) (aD rfl)) (aZ 8 rfl 80 2 rfl rfl rfl (fun w hw=>eY rfl rfl) rfl (aZ 9 rfl 85 7 rfl rfl rfl (fun w hw=>aY rfl) rfl (aI 10 rfl (isV undef) (aF _) (bL rfl (bW 86 rfl (aA rfl rfl rfl) rfl) (aD rfl)) (aI 11 rfl (isV undef) (aF _) (bL rfl (bW 86 rfl (aA rfl rfl rfl) rfl) (aD rfl)) (aI 12 rfl (isV undef) (aF _) (bL rfl (bW 86 rfl (aA rfl rfl rfl) rfl) (aD rfl)) (aI 13 rfl (isV undef) (aF _) (bL rfl (bW 86 rfl (aA rfl rfl rfl) rfl) (aD rfl)) (aI 14 rfl (isV undef) (aF _) (bL rfl (bW 86 rfl (aA rfl rfl rfl) rfl) (aD rfl)) (aI 15 rfl (isV undef) (aF _) (bL rfl (bW 86 rfl (aA rfl rfl rfl) rfl) (aD rfl)) (aI 16 rfl (isV undef) (aF _) (bL rfl (bW 86 rfl (aA rfl rfl rfl) rfl) (aD rfl)) (aI 17 rfl (isV undef) (aF _) (bL rfl (bW 86 rfl (aA rfl rfl rfl) rfl) (aD rfl)) (aI 18 rfl (isV undef) (aF _) (bL rfl (bW 86 rfl (aA rfl rfl rfl) rfl) (aD rfl)) (aZ 19 rfl 86 8 rfl rfl rfl (fun w hw=>eY rfl rfl) rfl (aZ 20 rfl 96 18 rfl rfl rfl (fun w hw=>aY rfl) rfl (aI 21 rfl (isV undef) (aF _) (bL rfl (bW 97 rfl (aA rfl rfl rfl) rfl) (aD rfl)) (aI 22 rfl (isV undef) (aF _) (bL rfl (bW 97 rfl (aA rfl rfl rfl) rfl) (aD rfl)) (aI 23 rfl (isV undef) (aF _) (bL rfl (bW 97 rfl (aA rfl rfl rfl) rfl) (aD rfl)) ?_))))))))))))))))))))
   refine aI 24 rfl (isV undef) (aF _) (bL rfl (bW 97 rfl (aA rfl rfl rfl) rfl) (aD rfl)) (aI 25 rfl (isV undef) (aF _) (bL rfl (bW 97 rfl (aA rfl rfl rfl) rfl) (aD rfl)) (aI 26 rfl (isV undef) (aF _) (bL rfl (bW 97 rfl (aA rfl rfl rfl) rfl) (aD rfl)) (aI 27 rfl (isV undef) (aF _) (bL rfl (bW 97 rfl (aA rfl rfl rfl) rfl) (aD rfl)) (aI 28 rfl (isV undef) (aF _) (bL rfl (bW 97 rfl (aA rfl rfl rfl) rfl) (aD rfl)) (aI 29 rfl (isV undef) (aF _) (bL rfl (bW 97 rfl (aA rfl rfl rfl) rfl) (aD rfl)) (aZ 30 rfl 97 19 rfl rfl rfl (fun w hw=>eY rfl rfl) rfl (aZ 31 rfl 107 29 rfl rfl rfl (fun w hw=>iU rfl) rfl (dV ?_))))))))
   intro W3 hbR hS'
   clear hS;have hS:=hS';clear hS'
   refine aG (aG (aG (aG (aG (aG (aG (aG (aG (aG (aG (aG (aG (aG (aG (aG (aG (aG (aG (aG (aG ?_))))))))))))))))))))
   refine aG (aG (aG (aG (aG (aG (aG (aG (aG (aG (cO (XF.thenN (bX (XF.res (cQ results78 rfl) ?_)))))))))))))
   exact ⟨bT (by rw [← hr];unfold iM;rw [hbb];rfl),hS.below⟩
  ·obtain ⟨h1,h2⟩:=h1;subst h1
   refine mK (m:=31) cD hS (by kernel_rfl) (by kernel_rfl) rfl (cJ 1 rfl 3 rfl rfl (fun w hw=>aX (vs:=[_,_,_,_,_,_]) isAgg44 sizeOf44 rfl (aB.agree (aK hw 0) (Nat.zero_le _) (aB.own (j:=0) (m:=6) (hS.at_ 0 rfl) rfl))) rfl ?_)
   refine aI 2 rfl (isV (.bool true)) (aF _) (cR [isV _,isV _,isV _,isV _,isV _] rfl kK (aR rfl) ⟨bU (aL 0 (aA rfl rfl rfl)),gK,gK,gK,gK,trivial⟩ (fun vs w' hb hh=>by have e:=cA (us:=[_,_,_,_,_]) hh;subst e;exact (vC _ _ hon _).mono fun e w2 h=>⟨_,h.1,rfl,h.2⟩) (aD rfl)) ?_
   refine aZ 3 rfl 79 1 rfl rfl rfl (fun w hw=>aY rfl) rfl (aI 4 rfl (isV _) (aF _) (rgV (li:=[(3,_)]) rfl (bK 80 rfl (aA rfl rfl rfl)) ⟨cF rfl,trivial⟩ (fun w hw=>aV (o':=5) cW rfl rfl) (aD rfl)) (aI 5 rfl (isV _) (aF _) (rgV (li:=[(81,_)]) rfl (bK 80 rfl (aA rfl rfl rfl)) ⟨aL 3 (aA rfl rfl rfl),trivial⟩ (fun w hw=>bC isAgg42 rfl ((aK hw 0).cell (Nat.zero_le _) (aH (hS.at_ 0 rfl) rfl))) (aD rfl)) (aI 6 rfl (isV _) (aF _) (rgV (li:=[(82,_)]) rfl (bK 80 rfl (aA rfl rfl rfl)) ⟨aL 4 (aA rfl rfl rfl),trivial⟩ (fun w hw=>tQ underlying42 rfl) (aD rfl)) (aI 7 rfl (isV (.bool false)) (aF _) (pI (li:=[(83,_)]) rfl (bK 80 rfl (aA rfl rfl rfl)) ⟨aL 5 (aA rfl rfl rfl),trivial⟩ (fun w hw=>tR rfl rfl) (by rw [decide_eq_false (by omega)]) (aD rfl)) (aI 8 rfl (isV _) (aF _) (rgV (li:=[(80,_),(84,_)]) rfl (aR rfl) ⟨aL 2 (aA rfl rfl rfl),aL 6 (aA rfl rfl rfl),trivial⟩ (fun w hw=>eX rfl rfl) (aD rfl)) (aZ 9 rfl 85 7 rfl rfl rfl (fun w hw=>aY rfl) rfl (aI 10 rfl (isV undef) (aF _) (bL rfl (bW 86 rfl (aA rfl rfl rfl) rfl) (aD rfl)) (aI 11 rfl (isV undef) (aF _) (bL rfl (bW 86 rfl (aA rfl rfl rfl) rfl) (aD rfl)) (aI 12 rfl (isV undef) (aF _) (bL rfl (bW 86 rfl (aA rfl rfl rfl) rfl) (aD rfl)) (aI 13 rfl (isV undef) (aF _) (bL rfl (bW 86 rfl (aA rfl rfl rfl) rfl) (aD rfl)) (aI 14 rfl (isV undef) (aF _) (bL rfl (bW 86 rfl (aA rfl rfl rfl) rfl) (aD rfl)) (aI 15 rfl (isV undef) (aF _) (bL rfl (bW 86 rfl (aA rfl rfl rfl) rfl) (aD rfl)) (aI 16 rfl (isV undef) (aF _) (bL rfl (bW 86 rfl (aA rfl rfl rfl) rfl) (aD rfl)) (aI 17 rfl (isV undef) (aF _) (bL rfl (bW 86 rfl (aA rfl rfl rfl) rfl) (aD rfl)) (aI 18 rfl (isV undef) (aF _) (bL rfl (bW 86 rfl (aA rfl rfl rfl) rfl) (aD rfl)) (aZ 19 rfl 86 8 rfl rfl rfl (fun w hw=>eY rfl rfl) rfl (aZ 20 rfl 96 18 rfl rfl rfl (fun w hw=>aY rfl) rfl (aI 21 rfl (isV undef) (aF _) (bL rfl (bW 97 rfl (aA rfl rfl rfl) rfl) (aD rfl)) (aI 22 rfl (isV undef) (aF _) (bL rfl (bW 97 rfl (aA rfl rfl rfl) rfl) (aD rfl)) (aI 23 rfl (isV undef) (aF _) (bL rfl (bW 97 rfl (aA rfl rfl rfl) rfl) (aD rfl)) ?_))))))))))))))))))))
   refine aI 24 rfl (isV undef) (aF _) (bL rfl (bW 97 rfl (aA rfl rfl rfl) rfl) (aD rfl)) (aI 25 rfl (isV undef) (aF _) (bL rfl (bW 97 rfl (aA rfl rfl rfl) rfl) (aD rfl)) (aI 26 rfl (isV undef) (aF _) (bL rfl (bW 97 rfl (aA rfl rfl rfl) rfl) (aD rfl)) (aI 27 rfl (isV undef) (aF _) (bL rfl (bW 97 rfl (aA rfl rfl rfl) rfl) (aD rfl)) (aI 28 rfl (isV undef) (aF _) (bL rfl (bW 97 rfl (aA rfl rfl rfl) rfl) (aD rfl)) (aI 29 rfl (isV undef) (aF _) (bL rfl (bW 97 rfl (aA rfl rfl rfl) rfl) (aD rfl)) (aZ 30 rfl 97 19 rfl rfl rfl (fun w hw=>eY rfl rfl) rfl (aZ 31 rfl 107 29 rfl rfl rfl (fun w hw=>iU rfl) rfl (dV ?_))))))))
   intro W4 hbR hS'
   clear hS;have hS:=hS';clear hS'
   refine aG (aG (aG (aG (aG (aG (aG (aG (aG (aG (aG (aG (aG (aG (aG (aG (aG (aG (aG (aG (aG ?_))))))))))))))))))))
   refine aG (aG (aG (aG (aG (aG (aG (aG (aG (aG (cO (XF.thenN (bX (XF.res (cQ results78 rfl) ?_)))))))))))))
   exact ⟨bT (by rw [← hr];unfold iM;rw [hbb,hz0,show decide (qs.length=2)=false from decide_eq_false (by have h9:qs.length=g.pl:=hw.2.1;omega)];rfl),hS.below⟩
  ·obtain ⟨h0,h1⟩:=h1;subst h0
   obtain ⟨x,y,hz,rfl,hx1⟩:=h1
   obtain ⟨hpl,b2,off2,hpa,hb2,hx6,hy6,hxi,hyi⟩:=hw.two
   obtain ⟨gz,gc,gg,gra,grl,grc,grows,gca,gcl,gcc,gcells,gpa,gpl,gpc⟩:=g
   dsimp only at hpl hpa hz
   subst hpl;subst hpa
   refine mK (m:=31) cD hS (by kernel_rfl) (by kernel_rfl) rfl (cJ 1 rfl 3 rfl rfl (fun w hw=>aX (vs:=[_,_,_,_,_,_]) isAgg44 sizeOf44 rfl (aB.agree (aK hw 0) (Nat.zero_le _) (aB.own (j:=0) (m:=6) (hS.at_ 0 rfl) rfl))) rfl ?_)
   refine aI 2 rfl (isV (.bool true)) (aF _) (cR [isV _,isV _,isV _,isV _,isV _] rfl kK (aR rfl) ⟨bU (aL 0 (aA rfl rfl rfl)),gK,gK,gK,gK,trivial⟩ (fun vs w' hb hh=>by have e:=cA (us:=[_,_,_,_,_]) hh;subst e;exact (vC _ _ hon _).mono fun e w2 h=>⟨_,h.1,rfl,h.2⟩) (aD rfl)) ?_
   refine aZ 3 rfl 79 1 rfl rfl rfl (fun w hw=>aY rfl) rfl (aI 4 rfl (isV _) (aF _) (rgV (li:=[(3,_)]) rfl (bK 80 rfl (aA rfl rfl rfl)) ⟨cF rfl,trivial⟩ (fun w hw=>aV (o':=5) cW rfl rfl) (aD rfl)) (aI 5 rfl (isV _) (aF _) (rgV (li:=[(81,_)]) rfl (bK 80 rfl (aA rfl rfl rfl)) ⟨aL 3 (aA rfl rfl rfl),trivial⟩ (fun w hw=>bC isAgg42 rfl ((aK hw 0).cell (Nat.zero_le _) (aH (hS.at_ 0 rfl) rfl))) (aD rfl)) (aI 6 rfl (isV _) (aF _) (rgV (li:=[(82,_)]) rfl (bK 80 rfl (aA rfl rfl rfl)) ⟨aL 4 (aA rfl rfl rfl),trivial⟩ (fun w hw=>tQ underlying42 rfl) (aD rfl)) (aI 7 rfl (isV (.bool true)) (aF _) (pI (li:=[(83,_)]) rfl (bK 80 rfl (aA rfl rfl rfl)) ⟨aL 5 (aA rfl rfl rfl),trivial⟩ (fun w hw=>tR rfl rfl) (rfl) (aD rfl)) (aI 8 rfl (isV _) (aF _) (rgV (li:=[(80,_),(84,_)]) rfl (aR rfl) ⟨aL 2 (aA rfl rfl rfl),aL 6 (aA rfl rfl rfl),trivial⟩ (fun w hw=>eX rfl rfl) (aD rfl)) (aZ 9 rfl 85 7 rfl rfl rfl (fun w hw=>aY rfl) rfl (aI 10 rfl (isV _) (aF _) (rgV (li:=[(2,_)]) rfl (bK 86 rfl (aA rfl rfl rfl)) ⟨cF rfl,trivial⟩ (fun w hw=>aV (o':=2) fC rfl rfl) (aD rfl)) (aI 11 rfl (isV _) (aF _) (rgV (li:=[(87,_)]) rfl (bK 86 rfl (aA rfl rfl rfl)) ⟨aL 9 (aA rfl rfl rfl),trivial⟩ (fun w hw=>bC isAgg23 rfl ((aK hw 0).cell (Nat.zero_le _) (aH (hS.at_ 1 rfl) rfl))) (aD rfl)) ?_))))))))
   refine aI 12 rfl (isV _) (aF _) (rgV (li:=[(88,_)]) rfl (bK 86 rfl (aA rfl rfl rfl)) ⟨aL 10 (aA rfl rfl rfl),trivial⟩ (fun w hw=>bE (j:=0) underlying23 sizeOf25 rfl rfl rfl (by show _ < 2;decide) (Nat.add_zero _)) (aD rfl)) ?_
   refine aI 13 rfl (isV _) (aF _) (rgV (li:=[(89,_)]) rfl (bK 86 rfl (aA rfl rfl rfl)) ⟨aL 11 (aA rfl rfl rfl),trivial⟩ (fun w hw=>aX (vs:=[_,_,_]) isAgg25 sizeOf25 rfl (aB.agree (aK hw 0) (Nat.zero_le _) (aB.agree hS.agree (Nat.zero_le _) hp3.cells))) (aD rfl)) (aI 14 rfl (isV _) (aF _) (rgV (li:=[(3,_)]) rfl (bK 86 rfl (aA rfl rfl rfl)) ⟨cF rfl,trivial⟩ (fun w hw=>aV (o':=5) cW rfl rfl) (aD rfl)) (aI 15 rfl (isV _) (aF _) (rgV (li:=[(91,_)]) rfl (bK 86 rfl (aA rfl rfl rfl)) ⟨aL 13 (aA rfl rfl rfl),trivial⟩ (fun w hw=>bC isAgg42 rfl ((aK hw 0).cell (Nat.zero_le _) (aH (hS.at_ 0 rfl) rfl))) (aD rfl)) ?_))
   refine aI 16 rfl (isV _) (aF _) (rgV (li:=[(92,_)]) rfl (bK 86 rfl (aA rfl rfl rfl)) ⟨aL 14 (aA rfl rfl rfl),trivial⟩ (fun w hw=>bE (j:=0) underlying42 sizeOf44 rfl rfl rfl (by show _ < 2;decide) (Nat.add_zero _)) (aD rfl)) ?_
   refine aI 17 rfl (isV _) (aF _) (rgV (li:=[(93,_)]) rfl (bK 86 rfl (aA rfl rfl rfl)) ⟨aL 15 (aA rfl rfl rfl),trivial⟩ (fun w hw=>aX (vs:=[_,_,_,_,_,_]) isAgg44 sizeOf44 rfl (aB.agree (aK hw 0) (Nat.zero_le _) (aB.agree hS.agree (Nat.zero_le _) hx6.cells))) (aD rfl)) ?_
   refine aI 18 rfl (isV (.bool false)) (aF _) (cR [isV _,isV _] rfl yU (bK 86 rfl (aA rfl rfl rfl)) ⟨bU (aL 12 (aA rfl rfl rfl)),bU (aL 16 (aA rfl rfl rfl)),trivial⟩ (fun vs w' hb hh=>by have e:=cA (us:=[_,_]) hh;subst e;exact (pW p.f.tag p.f.dim p.f.a p.f.len p.f.cap x.f hp (Nat.zero_le _) _ (hxi.at_.below (hS.below.trans (hb.mono hS.below.size))) _ hx1).mono fun e w2 h=>⟨_,h.1,rfl,h.2⟩) (aD rfl)) ?_
   refine aI 19 rfl (isV _) (aF _) (rgV (li:=[(86,_),(95,_)]) rfl (aR rfl) ⟨aL 8 (aA rfl rfl rfl),aL 17 (aA rfl rfl rfl),trivial⟩ (fun w hw=>eX rfl rfl) (aD rfl)) (aZ 20 rfl 96 18 rfl rfl rfl (fun w hw=>aY rfl) rfl (aI 21 rfl (isV undef) (aF _) (bL rfl (bW 97 rfl (aA rfl rfl rfl) rfl) (aD rfl)) (aI 22 rfl (isV undef) (aF _) (bL rfl (bW 97 rfl (aA rfl rfl rfl) rfl) (aD rfl)) (aI 23 rfl (isV undef) (aF _) (bL rfl (bW 97 rfl (aA rfl rfl rfl) rfl) (aD rfl)) (aI 24 rfl (isV undef) (aF _) (bL rfl (bW 97 rfl (aA rfl rfl rfl) rfl) (aD rfl)) (aI 25 rfl (isV undef) (aF _) (bL rfl (bW 97 rfl (aA rfl rfl rfl) rfl) (aD rfl)) (aI 26 rfl (isV undef) (aF _) (bL rfl (bW 97 rfl (aA rfl rfl rfl) rfl) (aD rfl)) (aI 27 rfl (isV undef) (aF _) (bL rfl (bW 97 rfl (aA rfl rfl rfl) rfl) (aD rfl)) (aI 28 rfl (isV undef) (aF _) (bL rfl (bW 97 rfl (aA rfl rfl rfl) rfl) (aD rfl)) (aI 29 rfl (isV undef) (aF _) (bL rfl (bW 97 rfl (aA rfl rfl rfl) rfl) (aD rfl)) (aZ 30 rfl 97 19 rfl rfl rfl (fun w hw=>eY rfl rfl) rfl (aZ 31 rfl 107 29 rfl rfl rfl (fun w hw=>iU rfl) rfl (dV ?_)))))))))))))
   intro W5 hbR hS'
   clear hS;have hS:=hS';clear hS'
   refine aG (aG (aG (aG (aG (aG (aG (aG (aG (aG (aG (aG (aG (aG (aG (aG (aG (aG (aG (aG (aG ?_))))))))))))))))))))
   refine aG (aG (aG (aG (aG (aG (aG (aG (aG (aG (cO (XF.thenN (bX (XF.res (cQ results78 rfl) ?_)))))))))))))
   exact ⟨bT (by rw [← hr];unfold iM;rw [hbb];show _=(true && (!gz && (true && (fU p.f.tag p.f.dim x.f && fU q.f.tag q.f.dim y.f))));rw [hz,hx1];rfl),hS.below⟩
  ·obtain ⟨h0,h1⟩:=h1;subst h0
   obtain ⟨x,y,hz,rfl,hx1⟩:=h1
   obtain ⟨hpl,b2,off2,hpa,hb2,hx6,hy6,hxi,hyi⟩:=hw.two
   obtain ⟨gz,gc,gg,gra,grl,grc,grows,gca,gcl,gcc,gcells,gpa,gpl,gpc⟩:=g
   dsimp only at hpl hpa hz
   subst hpl;subst hpa
   refine mK (m:=31) cD hS (by kernel_rfl) (by kernel_rfl) rfl (cJ 1 rfl 3 rfl rfl (fun w hw=>aX (vs:=[_,_,_,_,_,_]) isAgg44 sizeOf44 rfl (aB.agree (aK hw 0) (Nat.zero_le _) (aB.own (j:=0) (m:=6) (hS.at_ 0 rfl) rfl))) rfl ?_)
   refine aI 2 rfl (isV (.bool true)) (aF _) (cR [isV _,isV _,isV _,isV _,isV _] rfl kK (aR rfl) ⟨bU (aL 0 (aA rfl rfl rfl)),gK,gK,gK,gK,trivial⟩ (fun vs w' hb hh=>by have e:=cA (us:=[_,_,_,_,_]) hh;subst e;exact (vC _ _ hon _).mono fun e w2 h=>⟨_,h.1,rfl,h.2⟩) (aD rfl)) ?_
   refine aZ 3 rfl 79 1 rfl rfl rfl (fun w hw=>aY rfl) rfl (aI 4 rfl (isV _) (aF _) (rgV (li:=[(3,_)]) rfl (bK 80 rfl (aA rfl rfl rfl)) ⟨cF rfl,trivial⟩ (fun w hw=>aV (o':=5) cW rfl rfl) (aD rfl)) (aI 5 rfl (isV _) (aF _) (rgV (li:=[(81,_)]) rfl (bK 80 rfl (aA rfl rfl rfl)) ⟨aL 3 (aA rfl rfl rfl),trivial⟩ (fun w hw=>bC isAgg42 rfl ((aK hw 0).cell (Nat.zero_le _) (aH (hS.at_ 0 rfl) rfl))) (aD rfl)) (aI 6 rfl (isV _) (aF _) (rgV (li:=[(82,_)]) rfl (bK 80 rfl (aA rfl rfl rfl)) ⟨aL 4 (aA rfl rfl rfl),trivial⟩ (fun w hw=>tQ underlying42 rfl) (aD rfl)) (aI 7 rfl (isV (.bool true)) (aF _) (pI (li:=[(83,_)]) rfl (bK 80 rfl (aA rfl rfl rfl)) ⟨aL 5 (aA rfl rfl rfl),trivial⟩ (fun w hw=>tR rfl rfl) (rfl) (aD rfl)) (aI 8 rfl (isV _) (aF _) (rgV (li:=[(80,_),(84,_)]) rfl (aR rfl) ⟨aL 2 (aA rfl rfl rfl),aL 6 (aA rfl rfl rfl),trivial⟩ (fun w hw=>eX rfl rfl) (aD rfl)) (aZ 9 rfl 85 7 rfl rfl rfl (fun w hw=>aY rfl) rfl (aI 10 rfl (isV _) (aF _) (rgV (li:=[(2,_)]) rfl (bK 86 rfl (aA rfl rfl rfl)) ⟨cF rfl,trivial⟩ (fun w hw=>aV (o':=2) fC rfl rfl) (aD rfl)) (aI 11 rfl (isV _) (aF _) (rgV (li:=[(87,_)]) rfl (bK 86 rfl (aA rfl rfl rfl)) ⟨aL 9 (aA rfl rfl rfl),trivial⟩ (fun w hw=>bC isAgg23 rfl ((aK hw 0).cell (Nat.zero_le _) (aH (hS.at_ 1 rfl) rfl))) (aD rfl)) ?_))))))))
   refine aI 12 rfl (isV _) (aF _) (rgV (li:=[(88,_)]) rfl (bK 86 rfl (aA rfl rfl rfl)) ⟨aL 10 (aA rfl rfl rfl),trivial⟩ (fun w hw=>bE (j:=0) underlying23 sizeOf25 rfl rfl rfl (by show _ < 2;decide) (Nat.add_zero _)) (aD rfl)) ?_
   refine aI 13 rfl (isV _) (aF _) (rgV (li:=[(89,_)]) rfl (bK 86 rfl (aA rfl rfl rfl)) ⟨aL 11 (aA rfl rfl rfl),trivial⟩ (fun w hw=>aX (vs:=[_,_,_]) isAgg25 sizeOf25 rfl (aB.agree (aK hw 0) (Nat.zero_le _) (aB.agree hS.agree (Nat.zero_le _) hp3.cells))) (aD rfl)) (aI 14 rfl (isV _) (aF _) (rgV (li:=[(3,_)]) rfl (bK 86 rfl (aA rfl rfl rfl)) ⟨cF rfl,trivial⟩ (fun w hw=>aV (o':=5) cW rfl rfl) (aD rfl)) (aI 15 rfl (isV _) (aF _) (rgV (li:=[(91,_)]) rfl (bK 86 rfl (aA rfl rfl rfl)) ⟨aL 13 (aA rfl rfl rfl),trivial⟩ (fun w hw=>bC isAgg42 rfl ((aK hw 0).cell (Nat.zero_le _) (aH (hS.at_ 0 rfl) rfl))) (aD rfl)) ?_))
   refine aI 16 rfl (isV _) (aF _) (rgV (li:=[(92,_)]) rfl (bK 86 rfl (aA rfl rfl rfl)) ⟨aL 14 (aA rfl rfl rfl),trivial⟩ (fun w hw=>bE (j:=0) underlying42 sizeOf44 rfl rfl rfl (by show _ < 2;decide) (Nat.add_zero _)) (aD rfl)) ?_
   refine aI 17 rfl (isV _) (aF _) (rgV (li:=[(93,_)]) rfl (bK 86 rfl (aA rfl rfl rfl)) ⟨aL 15 (aA rfl rfl rfl),trivial⟩ (fun w hw=>aX (vs:=[_,_,_,_,_,_]) isAgg44 sizeOf44 rfl (aB.agree (aK hw 0) (Nat.zero_le _) (aB.agree hS.agree (Nat.zero_le _) hx6.cells))) (aD rfl)) ?_
   refine aI 18 rfl (isV (.bool true)) (aF _) (cR [isV _,isV _] rfl yU (bK 86 rfl (aA rfl rfl rfl)) ⟨bU (aL 12 (aA rfl rfl rfl)),bU (aL 16 (aA rfl rfl rfl)),trivial⟩ (fun vs w' hb hh=>by have e:=cA (us:=[_,_]) hh;subst e;exact (pW p.f.tag p.f.dim p.f.a p.f.len p.f.cap x.f hp (Nat.zero_le _) _ (hxi.at_.below (hS.below.trans (hb.mono hS.below.size))) _ hx1).mono fun e w2 h=>⟨_,h.1,rfl,h.2⟩) (aD rfl)) ?_
   refine aI 19 rfl (isV _) (aF _) (rgV (li:=[(86,_),(95,_)]) rfl (aR rfl) ⟨aL 8 (aA rfl rfl rfl),aL 17 (aA rfl rfl rfl),trivial⟩ (fun w hw=>eX rfl rfl) (aD rfl)) (aZ 20 rfl 96 18 rfl rfl rfl (fun w hw=>aY rfl) rfl (aI 21 rfl (isV _) (aF _) (rgV (li:=[(2,_)]) rfl (bK 97 rfl (aA rfl rfl rfl)) ⟨cF rfl,trivial⟩ (fun w hw=>aV (o':=2) fC rfl rfl) (aD rfl)) (aI 22 rfl (isV _) (aF _) (rgV (li:=[(98,_)]) rfl (bK 97 rfl (aA rfl rfl rfl)) ⟨aL 20 (aA rfl rfl rfl),trivial⟩ (fun w hw=>bC isAgg23 rfl ((aK hw 0).cell (Nat.zero_le _) (aH (hS.at_ 1 rfl) rfl))) (aD rfl)) ?_)))
   refine aI 23 rfl (isV _) (aF _) (rgV (li:=[(99,_)]) rfl (bK 97 rfl (aA rfl rfl rfl)) ⟨aL 21 (aA rfl rfl rfl),trivial⟩ (fun w hw=>bE (j:=1) underlying23 sizeOf25 rfl rfl rfl (by show _ < 2;decide) rfl) (aD rfl)) ?_
   refine aI 24 rfl (isV _) (aF _) (rgV (li:=[(100,_)]) rfl (bK 97 rfl (aA rfl rfl rfl)) ⟨aL 22 (aA rfl rfl rfl),trivial⟩ (fun w hw=>aX (vs:=[_,_,_]) isAgg25 sizeOf25 rfl (aB.agree (aK hw 0) (Nat.zero_le _) (aB.agree hS.agree (Nat.zero_le _) hq3.cells))) (aD rfl)) (aI 25 rfl (isV _) (aF _) (rgV (li:=[(3,_)]) rfl (bK 97 rfl (aA rfl rfl rfl)) ⟨cF rfl,trivial⟩ (fun w hw=>aV (o':=5) cW rfl rfl) (aD rfl)) (aI 26 rfl (isV _) (aF _) (rgV (li:=[(102,_)]) rfl (bK 97 rfl (aA rfl rfl rfl)) ⟨aL 24 (aA rfl rfl rfl),trivial⟩ (fun w hw=>bC isAgg42 rfl ((aK hw 0).cell (Nat.zero_le _) (aH (hS.at_ 0 rfl) rfl))) (aD rfl)) ?_))
   refine aI 27 rfl (isV _) (aF _) (rgV (li:=[(103,_)]) rfl (bK 97 rfl (aA rfl rfl rfl)) ⟨aL 25 (aA rfl rfl rfl),trivial⟩ (fun w hw=>bE (j:=1) underlying42 sizeOf44 rfl rfl rfl (by show _ < 2;decide) rfl) (aD rfl)) ?_
   refine aI 28 rfl (isV _) (aF _) (rgV (li:=[(104,_)]) rfl (bK 97 rfl (aA rfl rfl rfl)) ⟨aL 26 (aA rfl rfl rfl),trivial⟩ (fun w hw=>aX (vs:=[_,_,_,_,_,_]) isAgg44 sizeOf44 rfl (aB.agree (aK hw 0) (Nat.zero_le _) (aB.agree hS.agree (Nat.zero_le _) hy6.cells))) (aD rfl)) ?_
   refine aI 29 rfl (isV (.bool (fU q.f.tag q.f.dim y.f))) (aF _) (cR [isV _,isV _] rfl yU (bK 97 rfl (aA rfl rfl rfl)) ⟨bU (aL 23 (aA rfl rfl rfl)),bU (aL 27 (aA rfl rfl rfl)),trivial⟩ (fun vs w' hb hh=>by have e:=cA (us:=[_,_]) hh;subst e;exact (pW q.f.tag q.f.dim q.f.a q.f.len q.f.cap y.f hq (Nat.zero_le _) _ (hyi.at_.below (hS.below.trans (hb.mono hS.below.size))) _ rfl).mono fun e w2 h=>⟨_,h.1,rfl,h.2⟩) (aD rfl)) ?_
   refine aI 30 rfl (isV _) (aF _) (rgV (li:=[(97,_),(106,_)]) rfl (aR rfl) ⟨aL 19 (aA rfl rfl rfl),aL 28 (aA rfl rfl rfl),trivial⟩ (fun w hw=>eX rfl rfl) (aD rfl)) (aZ 31 rfl 107 29 rfl rfl rfl (fun w hw=>iU rfl) rfl (dV ?_))
   intro W6 hbR hS'
   clear hS;have hS:=hS';clear hS'
   refine aG (aG (aG (aG (aG (aG (aG (aG (aG (aG (aG (aG (aG (aG (aG (aG (aG (aG (aG (aG (aG ?_))))))))))))))))))))
   refine aG (aG (aG (aG (aG (aG (aG (aG (aG (aG (cO (XF.thenN (bX (XF.res (cQ results78 rfl) ?_)))))))))))))
   exact ⟨bT (by rw [← hr];unfold iM;rw [hbb];show _=(true && (!gz && (true && (fU p.f.tag p.f.dim x.f && fU q.f.tag q.f.dim y.f))));rw [hz,hx1];rfl),hS.below⟩
end Go.Proofs.YtmgnkpibpjgncaaGreatDoor
namespace Go.Proofs.YtmgnkpibpjgncaaGreatDoor
open Go.Proofs.Tryz
open Go.RowKit
attribute [local go_sem ↓] Go.wp_at_zero Go.wp_at_succ
theorem yC {w:World} {base:Nat} {v:Value} {n:Nat} {rows:List Nat} (h:w.ownsRow base 37 1 v n (u64s rows)) :
  n=rows.length∧∃ a cap,v = .slice a n cap∧fQ w a (u64s rows)∧∀ ad,a=some ad→base≤ad.block:=by
 have hl:=h.1
 rw [fM] at hl
 refine ⟨by omega,?_⟩
 rcases h.2 with ⟨rfl,hn⟩ | ⟨g,cap,cur,rfl,hg,hh,h1,h2,h3,h4⟩
 ·have:rows=[]:=List.length_eq_zero_iff.1 (by omega)
  subst this
  exact ⟨none,0,by rw [hn],.inl rfl,fun ad e=>by cases e⟩
 ·refine ⟨some ⟨g,0,none⟩,cap,rfl,.inr ⟨g,0,rfl,fun i u hi=>?_⟩,fun ad e=>by cases e;exact hg⟩
  rw [← h4] at hi
  rw [List.getElem?_take] at hi
  split at hi
  ·unfold World.cell?
   simp only [hh,Nat.zero_add]
   simpa using hi
  ·cases hi
theorem PIs.rows64 {w:World} {t n:Int} {l:Nat} {f:WF} {a:PF} (h:PIs w t n f a):f.rl≤64∧f.cl≤64:=by
 have h1:=h.at_.rl;have h2:=h.at_.cl;have h3:=h.pf;have h4:=h.ok
 subst h3
 unfold WF.pf at h4
 generalize hr:f.rows=rows at *
 generalize hc:f.cells=cells at *
 generalize f.g=g at *
 generalize f.z=z at *
 generalize f.c=c at *
 have key:rows.length≤64∧cells.length≤64:=by
  generalize hp:(⟨z,c,g,rows,cells⟩:PF)=p at h4
  cases h4 with
  | zero=>cases hp;exact ⟨by decide,by decide⟩
  | bool h=>cases hp;exact ⟨by decide,by decide⟩
  | cost c h h0 h1=>cases hp;exact ⟨by decide,by decide⟩
  | facts m g rows h hn hg=>cases hp;exact ⟨by rw [hg.hl];exact hg.hm,by decide⟩
  | cells m cs h hn hv=>cases hp;exact ⟨by decide,by rw [hv.len];exact hv.le⟩
 omega
theorem D9 (a:Option Addr) (cap:Nat) (cs:List Cl) (w:World) (hm:cs.length≤64) (hrow:eZ w a cs) (n:Nat) (hn:cs.length=n) :
  Calls prog 158 #[.slice a n cap] w fun e w'=>∃ a2 c2,e = .returned (.slice a2 n c2)∧eZ w' a2 cs∧(∀ ad,a2=some ad→w.heap.size≤ad.block)∧Below w.heap.size w w':=by
 subst hn
 refine (Do a cap cs w hm hrow).mono ?_
 rintro e w' ⟨v,rfl,hown,hb⟩
 obtain ⟨_,a2,c2,rfl,hr,hl⟩:=fO hown
 exact ⟨a2,c2,rfl,hr,fun ad e=>(hl ad e).1,hb⟩
theorem kL (t n:Int) (f:WF) (x:PF) (w:World) (h:PIs w t n f x) :
  Calls prog 137 #[f.val] w fun e w'=>∃ g:WF,e = .returned g.val∧PNew w.heap.size w' t n g x∧Below w.heap.size w w':=by
 obtain ⟨r64,c64⟩:=h.rows64 (l:=0)
 have HI:=Lib.hid h
 have hrl:=h.at_.rl;have hcl:=h.at_.cl;have hpl:=h.pl
 obtain ⟨z,c,g,ra,rl,rc,rows,ca,cl,cc,cells,pa,pl,pc⟩:=f
 dsimp only at hrl hcl hpl r64 c64
 subst hpl
 show Calls prog 137 #[.agg #[.bool z,.int .i64 c,.int .u64 (g:Int),.slice ra rl rc,.slice ca cl cc,.slice pa 0 pc]] w _
 have HRL:=Lib.hid hrl;have HCL:=Lib.hid hcl
 obtain ⟨t0,t1⟩:=nD w #[.bool z,.int .i64 c,.int .u64 (g:Int),.slice ra rl rc,.slice ca cl cc,.slice pa 0 pc] #[.bool false,.int .i64 0,.int .u64 0,.slice none 0 0,.slice none 0 0,.slice none 0 0] 44 44
 have T0:=Lib.hid t0;have T1:=Lib.hid t1
 have hB:=Lib.hid (P6 w #[.bool z,.int .i64 c,.int .u64 (g:Int),.slice ra rl rc,.slice ca cl cc,.slice pa 0 pc] #[.bool false,.int .i64 0,.int .u64 0,.slice none 0 0,.slice none 0 0,.slice none 0 0] 44 44)
 have hsz:((w.alloc (.cells #[.bool z,.int .i64 c,.int .u64 (g:Int),.slice ra rl rc,.slice ca cl cc,.slice pa 0 pc] 44)).alloc (.cells #[.bool false,.int .i64 0,.int .u64 0,.slice none 0 0,.slice none 0 0,.slice none 0 0] 44)).heap.size=w.heap.size+1+1:=by simp
 obtain ⟨W0,hW0⟩:∃ W,(w.alloc (.cells #[.bool z,.int .i64 c,.int .u64 (g:Int),.slice ra rl rc,.slice ca cl cc,.slice pa 0 pc] 44)).alloc (.cells #[.bool false,.int .i64 0,.int .u64 0,.slice none 0 0,.slice none 0 0,.slice none 0 0] 44)=W:=⟨_,rfl⟩
 rw [hW0] at hB T0 T1 hsz
 have HSZ:=Lib.hid hsz
 obtain ⟨x0,x1,x2,x3,x4,x5⟩:=fD T0.out
 have HAT:Hid (WF.At w ⟨z,c,g,ra,rl,rc,rows,ca,cl,cc,cells,pa,0,pc⟩):=h.at_
 have R64:=Lib.hid r64;have C64:=Lib.hid c64
 clear t0 t1 hsz h hrl hcl r64 c64
 go_enter func137,ntmps137
 go_wp2_with fail
 refine (Ac ra rc rows _ (by rw [HRL.out];exact Nat.le_trans R64.out (by decide)) (HAT.out.rows.below hB.out) rl HRL.out).mono ?_
 rintro e w1 ⟨v,rfl,hown,hb1⟩
 obtain ⟨a1,c1,rfl,hv1,hl1⟩:=(yC hown).2
 have HV1:=Lib.hid hv1;have HL1:=Lib.hid hl1
 clear hown hv1 hl1 x0 x1 x2 x3 x4 x5
 have U0:=Lib.hid (cE T0.out hb1);have U1:=Lib.hid (cE T1.out hb1)
 have hB1:=Lib.hid (hB.out.trans (hb1.mono hB.out.size))
 obtain ⟨x0,x1,x2,x3,x4,x5⟩:=fD U0.out
 have f3:=eH U0.out 3
 have V0:=Lib.hid (heap_setCell_same w1 w.heap.size 3 _ _ (.slice a1 rl c1) U0.out)
 have hne:w.heap.size+1≠w.heap.size:=by omega
 have V1:=Lib.hid (dM (B:=w.heap.size) (j:=3) (c:=.slice a1 rl c1) U1.out hne)
 have hB2:=Lib.hid (hB1.out.setCell (p:=⟨w.heap.size,3,none⟩) (Nat.le_refl _) (.slice a1 rl c1))
 have hs1:W0.heap.size≤(w1.setCell ⟨w.heap.size,3,none⟩ (.slice a1 rl c1)).heap.size:=by simpa [World.setCell] using hb1.size
 have HS1:=Lib.hid hs1
 obtain ⟨W1,hW1⟩:∃ W,w1.setCell ⟨w.heap.size,3,none⟩ (.slice a1 rl c1)=W:=⟨_,rfl⟩
 have HA1:=Lib.hid (HV1.out.above HL1.out ((kI.refl W0.heap.size w1).setCell (p:=⟨w.heap.size,3,none⟩) (by have:=HSZ.out;show w.heap.size < _;omega) (.slice a1 rl c1)))
 rw [hW1] at V0 V1 hB2 HS1 HA1
 clear hs1 hne x0 x1 x2 x4 x5
 obtain ⟨y0,y1,y2,y3,y4,y5⟩:=fD V0.out
 go_wp2_with fail
 refine (D9 ca cc cells _ (by rw [HCL.out];exact C64.out) (HAT.out.cells.below hB2.out) cl HCL.out).mono ?_
 rintro e w2 ⟨a2,c2,rfl,hv2,hl2,hb2⟩
 have HV2:=Lib.hid hv2;have HL2:=Lib.hid hl2
 clear hv2 hl2 x3 y0 y1 y2 y3 y4 y5 f3
 have Y0:=Lib.hid (cE V0.out hb2);have Y1:=Lib.hid (cE V1.out hb2)
 obtain ⟨x0,x1,x2,x3,x4,x5⟩:=fD Y0.out
 have f4:=eH Y0.out 4
 have hB3:=Lib.hid (hB2.out.trans (hb2.mono hB2.out.size))
 have Z0:=Lib.hid (heap_setCell_same w2 w.heap.size 4 _ _ (.slice a2 cl c2) Y0.out)
 have hne:w.heap.size+1≠w.heap.size:=by omega
 have Z1:=Lib.hid (dM (B:=w.heap.size) (j:=4) (c:=.slice a2 cl c2) Y1.out hne)
 have hB4:=Lib.hid (hB3.out.setCell (p:=⟨w.heap.size,4,none⟩) (Nat.le_refl _) (.slice a2 cl c2))
 have HR1:=Lib.hid ((HA1.out.below hb2).above HL1.out ((kI.refl W0.heap.size w2).setCell (p:=⟨w.heap.size,4,none⟩) (by have:=HSZ.out;show w.heap.size < _;omega) (.slice a2 cl c2)))
 have HL3:Hid (∀ ad,a2=some ad→W0.heap.size≤ad.block):=fun ad e=>Nat.le_trans HS1.out (HL2.out ad e)
 have HR2:=Lib.hid (HV2.out.above HL3.out ((kI.refl W0.heap.size w2).setCell (p:=⟨w.heap.size,4,none⟩) (by have:=HSZ.out;show w.heap.size < _;omega) (.slice a2 cl c2)))
 obtain ⟨W2,hW2⟩:∃ W,w2.setCell ⟨w.heap.size,4,none⟩ (.slice a2 cl c2)=W:=⟨_,rfl⟩
 rw [hW2] at Z0 Z1 hB4 HR1 HR2
 clear hne
 obtain ⟨p0,p1,p2,p3,p4,p5⟩:=fD Z0.out
 have f5:=eH Z0.out 5
 go_wp2_with fail
 go_loopw [3,19] (fun p i wr=>p = .slice none 0 0∧i = .int .i64 0∧W2=wr) (fun _ _ _=>0)
 case atStart=>exact ⟨rfl,rfl,rfl⟩
 case round =>
  obtain ⟨rfl,rfl,rfl⟩:=hrel
  have N0:=Lib.hid (heap_setCell_same W2 w.heap.size 5 _ _ (.slice none 0 0) Z0.out)
  have hne:w.heap.size+1≠w.heap.size:=by omega
  have N1:=Lib.hid (dM (B:=w.heap.size) (j:=5) (c:=.slice none 0 0) Z1.out hne)
  obtain ⟨W3,hW3⟩:∃ W,W2.setCell ⟨w.heap.size,5,none⟩ (.slice none 0 0)=W:=⟨_,rfl⟩
  rw [hW3] at N0 N1
  have K0:=N0.out
  obtain ⟨q0,q1,q2,q3,q4,q5⟩:=fD N0.out
  obtain ⟨r0,r1,r2,r3,r4,r5⟩:=fD N1.out
  have g0:=eH N1.out 0;have g1:=eH N1.out 1;have g2:=eH N1.out 2;have g3:=eH N1.out 3;have g4:=eH N1.out 4;have g5:=eH N1.out 5
  have hA3:kI W0.heap.size W2 W3:=by rw [← hW3];exact (kI.refl W0.heap.size W2).setCell (p:=⟨w.heap.size,5,none⟩) (by have:=HSZ.out;show w.heap.size < _;omega) _
  have HA3:=Lib.hid hA3
  have hB5:Hid (Below w.heap.size w W3):=by show Below _ _ _;rw [← hW3];exact hB4.out.setCell (p:=⟨w.heap.size,5,none⟩) (Nat.le_refl _) _
  clear K0 hne hA3
  go_wp2_with fail
  have NS:=Lib.hid (Oc (v0:=.bool z) (v1:=.int .i64 c) (v2:=.int .u64 (g:Int)) (v3:=.slice a1 rl c1) (v4:=.slice a2 cl c2) (v5:=.slice none 0 0) N1.out)
  obtain ⟨s0,s1,s2,s3,s4,s5⟩:=fD NS.out
  have hlt:=HSZ.out
  refine bodyPost_ret (v:=.agg #[.bool z,.int .i64 c,.int .u64 (g:Int),.slice a1 rl c1,.slice a2 cl c2,.slice none 0 0]) ?_ rfl ⟨⟨z,c,g,a1,rl,c1,rows,a2,cl,c2,cells,none,0,0⟩,rfl,?_,A4 _ _ _ _ _ _ hB5.out (Nat.le_succ _)⟩
  rotate_left
  ·have hA6:=uG (.bool z) (.int .i64 c) (.int .u64 (g:Int)) (.slice a1 rl c1) (.slice a2 cl c2) (.slice none 0 0) HA3.out (B:=w.heap.size+1) (by omega)
   have hAt:=WF.At.mk (f:=⟨z,c,g,a1,rl,c1,rows,a2,cl,c2,cells,none,0,0⟩) (HR1.out.above HL1.out hA6) HRL.out HAT.out.g64 HAT.out.r64 (HR2.out.above HL3.out hA6) HCL.out HAT.out.bits HAT.out.cmax
   have hPf:WF.pf ⟨z,c,g,a1,rl,c1,rows,a2,cl,c2,cells,none,0,0⟩=x:=HI.out.pf
   exact (PNew.mk (n:=W0.heap.size) ⟨hAt,hPf,HI.out.ok,rfl⟩ HL1.out HL3.out).mono (by omega)
  ·simp [results,results137,go_sem,s0,s1,s2,s3,s4,s5]
end Go.Proofs.YtmgnkpibpjgncaaGreatDoor
namespace Go.Proofs.YtmgnkpibpjgncaaGreatDoor
open Go.Proofs.Tryz
open Go Go.RowKit
theorem both_is (d:Int) (a b:Option Addr) (capa capb:Nat) (xs ys:List Cl) (w:World) (hma:xs.length≤maxLen) (hmb:ys.length≤maxLen) (hra:eZ w a xs) (hrb:eZ w b ys) (hba:pM xs) (hbb:pM ys) (c:Int) (hc:nX d xs ys=c) (la lb:Nat) (hla:xs.length=la) (hlb:ys.length=lb) :
  Calls prog 140 #[.int .i64 d,.slice a la capa,.slice b lb capb] w (kF (tI d xs ys) c w):=by
 subst hla;subst hlb;exact Qm d a b capa capb xs ys w hma hmb hra hrb hba hbb c hc
theorem one4_is (m:Nat) (hm:m≤64) (w:World):Calls prog 147 #[.int .i64 (m:Int)] w (kF (fW m) 0 w):=by
 have h0:qO (m:Int)=0:=by unfold qO;rw [if_neg (by omega)]
 have:=one_any (m:Int) w 0 h0
 rwa [show Ao (m:Int)=fW m by unfold Ao;rw [if_pos h0,Int.toNat_natCast]] at this
theorem uI (t n:Int) (sa:Option Addr) (sc:Nat) (f g:WF) (x y:PF) (w:World) (hp:bI t n 0=true) (hx:PIs w t n f x) (hy:PIs w t n g y) (ht:Tabs w) :
  Calls prog 148 #[.agg #[.int .i64 t,.int .i64 n,.slice sa 0 sc],f.val,g.val] w (gH (.one t n) (.one (fB t n x y)) w):=by
 refine cB (args:=[.agg #[.int .i64 t,.int .i64 n,.slice sa 0 sc],f.val,g.val]) func148 rfl ntmps148 rfl ?_
 have hS:=St.start w
 refine aJ (aQ (bR (cs:=[_,_,_]) hS rfl rfl rfl fun B1 W1 hS=>bR (cs:=[_,_,_,_,_,_]) hS rfl rfl rfl fun B2 W2 hS=>bR (cs:=[_,_,_,_,_,_]) hS rfl rfl rfl fun B3 W3 hS=>bB (cs:=[_,_,_,_,_,_]) hS zeroValue44 rfl rfl fun B4 W4 hS=>aN (XF.thenN (aJ (aJ (aQ (aO (o':=0) dR rfl rfl rfl (aT isAgg4 rfl (aH (hS.at_ 2 rfl) rfl) rfl (aE rfl rfl (cI (d:=10) rfl (fun hc=>?_) (fun hc=>?_)))))))))))
 ·have hg10:=hc;clear hc
  have hz:=hg10
  refine aP (d:=10) rfl rfl rfl rfl (aP (d:=10) rfl rfl rfl rfl (bV rfl rfl rfl (aN (XF.thenN (gW rfl (aJ (aQ (cV (us:=[(0,.bool _)]) rfl (qZ _) rfl (aU (i:=0) (vs:=[_,_,_,_,_,_]) (cs':=[_,_,_,_,_,_]) (O':=[_,_,_,_]) hS sizeOf44 rfl rfl rfl rfl rfl rfl rfl fun W5 hS=>aN (XF.thenN (bX (XF.thenR (XF.res (dJ (vs:=[_,_,_,_,_,_]) results148 isAgg44 sizeOf44 rfl (aB.own (j:=0) (m:=6) (hS.at_ 0 rfl) rfl)) ?_)))))))))))))
  exact Uv hx hz hS.below
 ·have hg10:=hc;clear hc
  have hf:=hg10
  refine aM (d:=10) rfl rfl (aO (o':=0) dR rfl rfl rfl (aM (d:=10) rfl rfl (aT isAgg4 rfl (aH (hS.at_ 1 rfl) rfl) rfl (cH rfl rfl rfl (aN (XF.thenN (bA rfl (fun hc=>?_) (fun hc=>?_))))))))
  ·have hc13:=hc;clear hc
   refine aJ (aQ (cV (us:=[(0,.bool _)]) rfl (qZ _) rfl (aU (i:=0) (vs:=[_,_,_,_,_,_]) (cs':=[_,_,_,_,_,_]) (O':=[_,_,_,_]) hS sizeOf44 rfl rfl rfl rfl rfl rfl rfl fun W6 hS=>aN (XF.thenN (bX (XF.thenR (XF.res (dJ (vs:=[_,_,_,_,_,_]) results148 isAgg44 sizeOf44 rfl (aB.own (j:=0) (m:=6) (hS.at_ 0 rfl) rfl)) ?_)))))))
   exact Uw hy hc13 hS.below
  ·have hc13:=hc;clear hc
   have hg:=hc13
   refine bM (XF.thenN (aJ (aQ (bB (cs:=[_,_,_,_,_,_]) hS zeroValue44 rfl rfl fun B7 W7 hS=>aN (XF.thenN (aJ (aJ (aQ (aO (o':=0) eP rfl rfl rfl (aT isAgg22 rfl (aH (hS.at_ 4 rfl) rfl) rfl (aN (XF.thenN (bQ (aJ (aQ (cG rfl rfl rfl (aC rfl rfl (aN (XF.thenN (bA rfl (fun hc=>?_) (fun hc=>?_)))))))))))))))))))))
   ·have hc17:=of_decide_eq_true hc;clear hc
    have e2:t=2:=hc17
    subst e2
    refine aQ (aO (o':=1) eQ rfl rfl rfl (aT isAgg3 rfl (aH (hS.at_ 4 rfl) rfl) rfl (aO (o':=1) eV rfl rfl rfl (aT isAgg3 rfl (aH (hS.at_ 3 rfl) rfl) rfl (aO (o':=1) eV rfl rfl rfl (aT isAgg3 rfl (aH (hS.at_ 2 rfl) rfl) rfl (cN (us:=[(0,.int .i64 _),(1,.int .i64 _)]) hS underlying26 sizeOf3 zeroValue3 rfl rfl rfl (Ni _ _) rfl fun B8 W8 hS=>cL (vs:=[_,_]) hS Sz rfl (sum_any n (some ⟨_,0,none⟩) 2 [f.c,g.c] _ (by simp [maxLen]) (Of (hS.at_ 0 rfl))) rfl ?_)))))))
    rintro e W9 ⟨rfl,rfl⟩
    refine ⟨_,rfl,Below.refl _ _,fun hS'=>?_⟩
    clear hS;have hS:=hS';clear hS'
    refine aE rfl rfl (bJ rfl rfl rfl (bJ rfl rfl rfl (aO (o':=1) eV rfl rfl rfl (dS (i:=1) (cs':=[_,_,_,_,_,_]) (O':=[_,_,_,_,_,_]) hS sizeOf3 rfl rfl rfl rfl rfl rfl rfl fun W10 hS=>aN (XF.blkN (XF.thenN (aJ (aQ (aS (vs:=[_,_,_,_,_,_]) isAgg44 sizeOf44 rfl (aB.own (j:=0) (m:=6) (hS.at_ 1 rfl) rfl) rfl (aU (i:=2) (vs:=[_,_,_,_,_,_]) (cs':=[_,_,_,_,_,_]) (O':=[_,_,_,_,_,_]) hS sizeOf44 rfl rfl rfl rfl rfl rfl rfl fun W11 hS=>aN (XF.thenN (bX (XF.res (dJ (vs:=[_,_,_,_,_,_]) results148 isAgg44 sizeOf44 rfl (aB.own (j:=0) (m:=6) (hS.at_ 2 rfl) rfl)) ?_)))))))))))))
    exact eJ (ext_f2 hp hx hy hf hg) hS.below
   ·have hc17:=of_decide_eq_false hc;clear hc
    refine aJ (aQ (cG rfl rfl rfl (aC rfl rfl (aN (XF.thenN (bA rfl (fun hc=>?_) (fun hc=>?_)))))))
    ·have hc31:=of_decide_eq_true hc;clear hc
     have e3:t=3:=hc31
     subst e3
     obtain ⟨m,rfl,hm⟩:=yO hp (.inl rfl)
     refine aQ (aO (o':=1) eQ rfl rfl rfl (aT isAgg3 rfl (aH (hS.at_ 4 rfl) rfl) rfl (aO (o':=2) eR rfl rfl rfl (aS (vs:=[_,_]) isAgg40 sizeOf40 rfl (aB.own (j:=2) (m:=2) (hS.at_ 3 rfl) rfl) rfl (aO (o':=2) eR rfl rfl rfl (aS (vs:=[_,_]) isAgg40 sizeOf40 rfl (aB.own (j:=2) (m:=2) (hS.at_ 2 rfl) rfl) rfl ?_))))))
     have hsz:=hS.below.size
     refine cL (vs:=[_,_,_]) hS S1 rfl (extA_is _ _ _ _ _ _ _ _ _ _ (hx.at_.fat (by have:=hx.rows64 (l:=0);omega) |>.below hS.below) (hy.at_.fat (by have:=hy.rows64 (l:=0);omega) |>.below hS.below) (ht.below hS.below).c _ rfl _ rfl _ rfl _ _ hx.at_.rl hy.at_.rl) rfl ?_
     rintro e W12 ⟨a1,c1,rfl,hv,hl,hb⟩
     refine ⟨_,rfl,hb,fun hS'=>?_⟩
     clear hS;have hS:=hS';clear hS'
     refine aE rfl rfl (bJ rfl rfl rfl (bJ rfl rfl rfl (aO (o':=2) eR rfl rfl rfl (aU (i:=0) (vs:=[_,_]) (cs':=[_,_,_,_,_,_]) (O':=[_,_,_,_,_]) hS sizeOf40 rfl rfl rfl rfl rfl rfl rfl fun W13 hS=>aN (XF.blkN (XF.thenN (aJ (aQ (aS (vs:=[_,_,_,_,_,_]) isAgg44 sizeOf44 rfl (aB.own (j:=0) (m:=6) (hS.at_ 0 rfl) rfl) rfl (aU (i:=1) (vs:=[_,_,_,_,_,_]) (cs':=[_,_,_,_,_,_]) (O':=[_,_,_,_,_]) hS sizeOf44 rfl rfl rfl rfl rfl rfl rfl fun W14 hS=>aN (XF.thenN (bX (XF.res (dJ (vs:=[_,_,_,_,_,_]) results148 isAgg44 sizeOf44 rfl (aB.own (j:=0) (m:=6) (hS.at_ 1 rfl) rfl)) ?_)))))))))))))
     exact eJ (Uy hx hy hf hg (hv.agree (fun ad e=>(hl ad e).1) (hS.since 0 rfl)) (fun ad e=>Nat.le_trans hsz (hl ad e).1)) hS.below
    ·have hc31:=of_decide_eq_false hc;clear hc
     refine aJ (aQ (cG rfl rfl rfl (aC rfl rfl (aN (XF.thenN (bA rfl (fun hc=>?_) (fun hc=>?_)))))))
     ·have hc44:=of_decide_eq_true hc;clear hc
      have e4:t=4:=hc44
      subst e4
      obtain ⟨m,rfl,hm⟩:=yO hp (.inr rfl)
      refine aQ (aO (o':=1) eQ rfl rfl rfl (aT isAgg3 rfl (aH (hS.at_ 4 rfl) rfl) rfl (aO (o':=4) dG rfl rfl rfl (aT isAgg41 rfl (aH (hS.at_ 3 rfl) rfl) rfl (aO (o':=4) dG rfl rfl rfl (aT isAgg41 rfl (aH (hS.at_ 2 rfl) rfl) rfl ?_))))))
      have hsz:=hS.below.size
      refine cL (vs:=[_,_,_]) hS S2 rfl (then_is _ _ _ _ _ _ _ _ (ht.below hS.below) (by rw [hx.at_.cl];exact hx.at_.cmax) (by rw [hy.at_.cl];exact hy.at_.cmax) (hx.at_.cells.below hS.below) (hy.at_.cells.below hS.below) hx.at_.bits hy.at_.bits _ rfl _ _ hx.at_.cl hy.at_.cl) rfl ?_
      rintro e W15 ⟨a1,c1,rfl,hv,hl,hb⟩
      refine ⟨_,rfl,hb,fun hS'=>?_⟩
      clear hS;have hS:=hS';clear hS'
      refine aE rfl rfl (bJ rfl rfl rfl (bJ rfl rfl rfl (aO (o':=4) dG rfl rfl rfl (dS (i:=0) (cs':=[_,_,_,_,_,_]) (O':=[_,_,_,_,_]) hS sizeOf41 rfl rfl rfl rfl rfl rfl rfl fun W16 hS=>aN (XF.blkN (XF.thenN (aJ (aQ (aS (vs:=[_,_,_,_,_,_]) isAgg44 sizeOf44 rfl (aB.own (j:=0) (m:=6) (hS.at_ 0 rfl) rfl) rfl (aU (i:=1) (vs:=[_,_,_,_,_,_]) (cs':=[_,_,_,_,_,_]) (O':=[_,_,_,_,_]) hS sizeOf44 rfl rfl rfl rfl rfl rfl rfl fun W17 hS=>aN (XF.thenN (bX (XF.res (dJ (vs:=[_,_,_,_,_,_]) results148 isAgg44 sizeOf44 rfl (aB.own (j:=0) (m:=6) (hS.at_ 1 rfl) rfl)) ?_)))))))))))))
      exact eJ (ext_f4 hx hy hf hg (hv.agree (fun ad e=>(hl ad e).1) (hS.since 0 rfl)) (fun ad e=>Nat.le_trans hsz (hl ad e).1)) hS.below
     ·have hc44:=of_decide_eq_false hc;clear hc
      refine aJ (aQ (cG rfl rfl rfl (aC rfl rfl (aN (XF.thenN (bA rfl (fun hc=>absurd (of_decide_eq_true hc) (by exact lF hp)) (fun hc=>?_)))))))
      have hc:=of_decide_eq_false hc
      have e1:t=1:=by
       have:=(fV hp).2
       omega
      subst e1
      refine bM (XF.blkN (XF.thenN (aJ (aQ (aS (vs:=[_,_,_,_,_,_]) isAgg44 sizeOf44 rfl (aB.own (j:=0) (m:=6) (hS.at_ 0 rfl) rfl) rfl (aU (i:=1) (vs:=[_,_,_,_,_,_]) (cs':=[_,_,_,_,_,_]) (O':=[_,_,_,_,_]) hS sizeOf44 rfl rfl rfl rfl rfl rfl rfl fun W18 hS=>aN (XF.thenN (bX (XF.res (dJ (vs:=[_,_,_,_,_,_]) results148 isAgg44 sizeOf44 rfl (aB.own (j:=0) (m:=6) (hS.at_ 1 rfl) rfl)) ?_)))))))))
      exact eJ (Ux hx hy hf hg) hS.below
theorem rP (t n:Int) (sa:Option Addr) (sc:Nat) (f g:WF) (x y:PF) (w:World) (hp:bI t n 0=true) (hx:PIs w t n f x) (hy:PIs w t n g y) (ht:Tabs w) :
  Calls prog 108 #[.agg #[.int .i64 t,.int .i64 n,.slice sa 0 sc],f.val,g.val] w (gH (.one t n) (.one (dK t n x y)) w):=by
 refine cB (args:=[.agg #[.int .i64 t,.int .i64 n,.slice sa 0 sc],f.val,g.val]) func108 rfl ntmps108 rfl ?_
 have hS:=St.start w
 refine aJ (aQ (bR (cs:=[_,_,_]) hS rfl rfl rfl fun B1 W1 hS=>bR (cs:=[_,_,_,_,_,_]) hS rfl rfl rfl fun B2 W2 hS=>bR (cs:=[_,_,_,_,_,_]) hS rfl rfl rfl fun B3 W3 hS=>bB (cs:=[_,_,_,_,_,_]) hS zeroValue44 rfl rfl fun B4 W4 hS=>aN (XF.thenN (aJ (aJ (aQ (aO (o':=0) dR rfl rfl rfl (aT isAgg4 rfl (aH (hS.at_ 2 rfl) rfl) rfl (aN (XF.thenN (bA rfl (fun hc=>?_) (fun hc=>?_))))))))))))
 ·have hc9:=hc;clear hc
  have hz:=hc9
  refine aJ (aQ (aS (vs:=[_,_,_,_,_,_]) isAgg44 sizeOf44 rfl (aB.own (j:=0) (m:=6) (hS.at_ 1 rfl) rfl) rfl ?_))
  have hsz:=hS.below.size
  refine cL (vs:=[_]) hS rA rfl (kL t n g _ _ (hy.below hS.below)) rfl ?_
  rintro e W5 ⟨h1,rfl,hn,hb⟩
  refine ⟨_,rfl,hb,fun hS'=>?_⟩
  clear hS;have hS:=hS';clear hS'
  refine aU (i:=0) (vs:=[_,_,_,_,_,_]) (cs':=[_,_,_,_,_,_]) (O':=[_,_,_,_]) hS sizeOf44 rfl rfl rfl rfl rfl rfl rfl fun W6 hS=>aN (XF.thenN (bX (XF.thenR (XF.res (dJ (vs:=[_,_,_,_,_,_]) results108 isAgg44 sizeOf44 rfl (aB.own (j:=0) (m:=6) (hS.at_ 0 rfl) rfl)) ?_))))
  rw [hx.zero hz,eA]
  exact eJ ((hn.agree (hS.since 0 rfl)).mono hsz) hS.below
 ·have hc9:=hc;clear hc
  have hf:=hc9
  refine bM (XF.thenN (aJ (aJ (aQ (aO (o':=0) dR rfl rfl rfl (aT isAgg4 rfl (aH (hS.at_ 1 rfl) rfl) rfl (aN (XF.thenN (bA rfl (fun hc=>?_) (fun hc=>?_))))))))))
  ·have hc13:=hc;clear hc
   refine aJ (aQ (aS (vs:=[_,_,_,_,_,_]) isAgg44 sizeOf44 rfl (aB.own (j:=0) (m:=6) (hS.at_ 2 rfl) rfl) rfl ?_))
   have hsz:=hS.below.size
   refine cL (vs:=[_]) hS rA rfl (kL t n f _ _ (hx.below hS.below)) rfl ?_
   rintro e W7 ⟨h1,rfl,hn,hb⟩
   refine ⟨_,rfl,hb,fun hS'=>?_⟩
   clear hS;have hS:=hS';clear hS'
   refine aU (i:=0) (vs:=[_,_,_,_,_,_]) (cs':=[_,_,_,_,_,_]) (O':=[_,_,_,_]) hS sizeOf44 rfl rfl rfl rfl rfl rfl rfl fun W8 hS=>aN (XF.thenN (bX (XF.thenR (XF.res (dJ (vs:=[_,_,_,_,_,_]) results108 isAgg44 sizeOf44 rfl (aB.own (j:=0) (m:=6) (hS.at_ 0 rfl) rfl)) ?_))))
   rw [hy.zero hc13,eE hx.ok]
   exact eJ ((hn.agree (hS.since 0 rfl)).mono hsz) hS.below
  ·have hc13:=hc;clear hc
   have hg:=hc13
   refine bM (XF.thenN (aJ (aQ (bB (cs:=[_,_,_,_,_,_]) hS zeroValue44 rfl rfl fun B9 W9 hS=>aN (XF.thenN (aJ (aJ (aQ (aO (o':=0) eP rfl rfl rfl (aT isAgg22 rfl (aH (hS.at_ 4 rfl) rfl) rfl (aN (XF.thenN (bQ (aJ (aQ (cG rfl rfl rfl (aC rfl rfl (aN (XF.thenN (bA rfl (fun hc=>?_) (fun hc=>?_)))))))))))))))))))))
   ·have hc18:=of_decide_eq_true hc;clear hc
    have e2:t=2:=hc18
    subst e2
    refine aQ (aO (o':=1) eQ rfl rfl rfl (aT isAgg3 rfl (aH (hS.at_ 4 rfl) rfl) rfl (aO (o':=1) eV rfl rfl rfl (aT isAgg3 rfl (aH (hS.at_ 3 rfl) rfl) rfl (aO (o':=1) eV rfl rfl rfl (aT isAgg3 rfl (aH (hS.at_ 2 rfl) rfl) rfl (cN (us:=[(0,.int .i64 _),(1,.int .i64 _)]) hS underlying26 sizeOf3 zeroValue3 rfl rfl rfl (Ni _ _) rfl fun B10 W10 hS=>cL (vs:=[_,_]) hS Ss rfl (Q2 n (some ⟨_,0,none⟩) 2 [f.c,g.c] _ (by simp [maxLen]) (Of (hS.at_ 0 rfl))) rfl ?_)))))))
    rintro e W11 ⟨rfl,rfl⟩
    refine ⟨_,rfl,Below.refl _ _,fun hS'=>?_⟩
    clear hS;have hS:=hS';clear hS'
    refine aE rfl rfl (bJ rfl rfl rfl (bJ rfl rfl rfl (aO (o':=1) eV rfl rfl rfl (dS (i:=1) (cs':=[_,_,_,_,_,_]) (O':=[_,_,_,_,_,_]) hS sizeOf3 rfl rfl rfl rfl rfl rfl rfl fun W12 hS=>aN (XF.blkN (XF.thenN (aJ (aQ (aS (vs:=[_,_,_,_,_,_]) isAgg44 sizeOf44 rfl (aB.own (j:=0) (m:=6) (hS.at_ 1 rfl) rfl) rfl (aU (i:=2) (vs:=[_,_,_,_,_,_]) (cs':=[_,_,_,_,_,_]) (O':=[_,_,_,_,_,_]) hS sizeOf44 rfl rfl rfl rfl rfl rfl rfl fun W13 hS=>aN (XF.thenN (bX (XF.res (dJ (vs:=[_,_,_,_,_,_]) results108 isAgg44 sizeOf44 rfl (aB.own (j:=0) (m:=6) (hS.at_ 2 rfl) rfl)) ?_)))))))))))))
    exact eJ (comb_f2 hp hx hy hf hg) hS.below
   ·have hc18:=of_decide_eq_false hc;clear hc
    refine aJ (aQ (cG rfl rfl rfl (aC rfl rfl (aN (XF.thenN (bA rfl (fun hc=>?_) (fun hc=>?_)))))))
    ·have hc32:=of_decide_eq_true hc;clear hc
     have e3:t=3:=hc32
     subst e3
     obtain ⟨m,rfl,hm⟩:=yO hp (.inl rfl)
     refine aQ (aO (o':=1) eQ rfl rfl rfl (aT isAgg3 rfl (aH (hS.at_ 4 rfl) rfl) rfl (aO (o':=2) eR rfl rfl rfl (aS (vs:=[_,_]) isAgg40 sizeOf40 rfl (aB.own (j:=2) (m:=2) (hS.at_ 3 rfl) rfl) rfl (aO (o':=2) eR rfl rfl rfl (aS (vs:=[_,_]) isAgg40 sizeOf40 rfl (aB.own (j:=2) (m:=2) (hS.at_ 2 rfl) rfl) rfl ?_))))))
     have hsz:=hS.below.size
     refine cL (vs:=[_,_,_]) hS Su rfl (T9 _ _ _ _ _ _ _ _ _ _ (hx.at_.fat (by have:=hx.rows64 (l:=0);omega) |>.below hS.below) (hy.at_.fat (by have:=hy.rows64 (l:=0);omega) |>.below hS.below) _ rfl _ rfl _ rfl _ _ hx.at_.rl hy.at_.rl) rfl ?_
     rintro e W14 ⟨a1,c1,rfl,hv,hl,hb⟩
     refine ⟨_,rfl,hb,fun hS'=>?_⟩
     clear hS;have hS:=hS';clear hS'
     refine aE rfl rfl (bJ rfl rfl rfl (bJ rfl rfl rfl (aO (o':=2) eR rfl rfl rfl (aU (i:=0) (vs:=[_,_]) (cs':=[_,_,_,_,_,_]) (O':=[_,_,_,_,_]) hS sizeOf40 rfl rfl rfl rfl rfl rfl rfl fun W15 hS=>aN (XF.blkN (XF.thenN (aJ (aQ (aS (vs:=[_,_,_,_,_,_]) isAgg44 sizeOf44 rfl (aB.own (j:=0) (m:=6) (hS.at_ 0 rfl) rfl) rfl (aU (i:=1) (vs:=[_,_,_,_,_,_]) (cs':=[_,_,_,_,_,_]) (O':=[_,_,_,_,_]) hS sizeOf44 rfl rfl rfl rfl rfl rfl rfl fun W16 hS=>aN (XF.thenN (bX (XF.res (dJ (vs:=[_,_,_,_,_,_]) results108 isAgg44 sizeOf44 rfl (aB.own (j:=0) (m:=6) (hS.at_ 1 rfl) rfl)) ?_)))))))))))))
     exact eJ (Oh hx hy hf hg (hv.agree (fun ad e=>(hl ad e).1) (hS.since 0 rfl)) (fun ad e=>Nat.le_trans hsz (hl ad e).1)) hS.below
    ·have hc32:=of_decide_eq_false hc;clear hc
     refine aJ (aQ (cG rfl rfl rfl (aC rfl rfl (aN (XF.thenN (bA rfl (fun hc=>?_) (fun hc=>?_)))))))
     ·have hc45:=of_decide_eq_true hc;clear hc
      have e4:t=4:=hc45
      subst e4
      obtain ⟨m,rfl,hm⟩:=yO hp (.inr rfl)
      refine aQ (aO (o':=1) eQ rfl rfl rfl (aT isAgg3 rfl (aH (hS.at_ 4 rfl) rfl) rfl (aO (o':=4) dG rfl rfl rfl (aT isAgg41 rfl (aH (hS.at_ 3 rfl) rfl) rfl (aO (o':=4) dG rfl rfl rfl (aT isAgg41 rfl (aH (hS.at_ 2 rfl) rfl) rfl ?_))))))
      have hsz:=hS.below.size
      refine cL (vs:=[_,_,_]) hS Sv rfl (both_is _ _ _ _ _ _ _ _ (by rw [hx.at_.cl];exact hx.at_.cmax) (by rw [hy.at_.cl];exact hy.at_.cmax) (hx.at_.cells.below hS.below) (hy.at_.cells.below hS.below) hx.at_.bits hy.at_.bits _ rfl _ _ hx.at_.cl hy.at_.cl) rfl ?_
      rintro e W17 ⟨a1,c1,rfl,hv,hl,hb⟩
      refine ⟨_,rfl,hb,fun hS'=>?_⟩
      clear hS;have hS:=hS';clear hS'
      refine aE rfl rfl (bJ rfl rfl rfl (bJ rfl rfl rfl (aO (o':=4) dG rfl rfl rfl (dS (i:=0) (cs':=[_,_,_,_,_,_]) (O':=[_,_,_,_,_]) hS sizeOf41 rfl rfl rfl rfl rfl rfl rfl fun W18 hS=>aN (XF.blkN (XF.thenN (aJ (aQ (aS (vs:=[_,_,_,_,_,_]) isAgg44 sizeOf44 rfl (aB.own (j:=0) (m:=6) (hS.at_ 0 rfl) rfl) rfl (aU (i:=1) (vs:=[_,_,_,_,_,_]) (cs':=[_,_,_,_,_,_]) (O':=[_,_,_,_,_]) hS sizeOf44 rfl rfl rfl rfl rfl rfl rfl fun W19 hS=>aN (XF.thenN (bX (XF.res (dJ (vs:=[_,_,_,_,_,_]) results108 isAgg44 sizeOf44 rfl (aB.own (j:=0) (m:=6) (hS.at_ 1 rfl) rfl)) ?_)))))))))))))
      exact eJ (comb_f4 hx hy hf hg (hv.agree (fun ad e=>(hl ad e).1) (hS.since 0 rfl)) (fun ad e=>Nat.le_trans hsz (hl ad e).1)) hS.below
     ·have hc45:=of_decide_eq_false hc;clear hc
      refine aJ (aQ (cG rfl rfl rfl (aC rfl rfl (aN (XF.thenN (bA rfl (fun hc=>absurd (of_decide_eq_true hc) (by exact lF hp)) (fun hc=>?_)))))))
      have hc:=of_decide_eq_false hc
      have e1:t=1:=by
       have:=(fV hp).2
       omega
      subst e1
      refine bM (XF.blkN (XF.thenN (aJ (aQ (aS (vs:=[_,_,_,_,_,_]) isAgg44 sizeOf44 rfl (aB.own (j:=0) (m:=6) (hS.at_ 0 rfl) rfl) rfl (aU (i:=1) (vs:=[_,_,_,_,_,_]) (cs':=[_,_,_,_,_,_]) (O':=[_,_,_,_,_]) hS sizeOf44 rfl rfl rfl rfl rfl rfl rfl fun W20 hS=>aN (XF.thenN (bX (XF.res (dJ (vs:=[_,_,_,_,_,_]) results108 isAgg44 sizeOf44 rfl (aB.own (j:=0) (m:=6) (hS.at_ 1 rfl) rfl)) ?_)))))))))
      exact eJ (Og hx hy hf hg) hS.below
theorem uJ (t n:Int) (sa:Option Addr) (sc:Nat) (w:World) (hp:bI t n 0=true) :
  Calls prog 125 #[.agg #[.int .i64 t,.int .i64 n,.slice sa 0 sc]] w (gH (.one t n) (.one (iA t n)) w):=by
 refine cB (args:=[.agg #[.int .i64 t,.int .i64 n,.slice sa 0 sc]]) func125 rfl ntmps125 rfl ?_
 have hS:=St.start w
 refine aJ (aQ (bR (cs:=[_,_,_]) hS rfl rfl rfl fun B1 W1 hS=>bB (cs:=[_,_,_,_,_,_]) hS zeroValue44 rfl rfl fun B2 W2 hS=>aN (XF.thenN (aJ (aQ (bB (cs:=[_,_,_,_,_,_]) hS zeroValue44 rfl rfl fun B3 W3 hS=>aN (XF.thenN (aJ (aJ (aQ (aO (o':=0) eP rfl rfl rfl (aT isAgg22 rfl (aH (hS.at_ 2 rfl) rfl) rfl (aN (XF.thenN (bQ (aJ (aQ (cG rfl rfl rfl (aC rfl rfl (aN (XF.thenN (bA rfl (fun hc=>?_) (fun hc=>?_)))))))))))))))))))))))
 ·have hc6:=of_decide_eq_true hc;clear hc
  have e3:t=3:=hc6
  subst e3
  obtain ⟨m,rfl,hm⟩:=yO hp (.inl rfl)
  refine aQ (aO (o':=1) eQ rfl rfl rfl (aT isAgg3 rfl (aH (hS.at_ 2 rfl) rfl) rfl ?_))
  have hsz:=hS.below.size
  refine cL (vs:=[_]) hS So rfl ((oneA_is m _ _ (vK hm).1 _ (vK hm).2).mono fun _ _ h=>Hz.ret h) rfl ?_
  rintro e W4 ⟨a1,c1,rfl,hv,hl,hb⟩
  refine ⟨_,rfl,hb,fun hS'=>?_⟩
  clear hS;have hS:=hS';clear hS'
  refine aE rfl rfl (bJ rfl rfl rfl (bJ rfl rfl rfl (aO (o':=2) eR rfl rfl rfl (aU (i:=0) (vs:=[_,_]) (cs':=[_,_,_,_,_,_]) (O':=[_,_,_]) hS sizeOf40 rfl rfl rfl rfl rfl rfl rfl fun W5 hS=>aN (XF.blkN (XF.thenN (aJ (aQ (aS (vs:=[_,_,_,_,_,_]) isAgg44 sizeOf44 rfl (aB.own (j:=0) (m:=6) (hS.at_ 0 rfl) rfl) rfl (aU (i:=1) (vs:=[_,_,_,_,_,_]) (cs':=[_,_,_,_,_,_]) (O':=[_,_,_]) hS sizeOf44 rfl rfl rfl rfl rfl rfl rfl fun W6 hS=>aN (XF.thenN (bX (XF.res (dJ (vs:=[_,_,_,_,_,_]) results125 isAgg44 sizeOf44 rfl (aB.own (j:=0) (m:=6) (hS.at_ 1 rfl) rfl)) ?_)))))))))))))
  exact eJ (U3 hm (hv.agree (fun ad e=>(hl ad e).1) (hS.since 0 rfl)) (fun ad e=>Nat.le_trans hsz (hl ad e).1)) hS.below
 ·have hc6:=of_decide_eq_false hc;clear hc
  refine aJ (aQ (cG rfl rfl rfl (aC rfl rfl (aN (XF.thenN (bA rfl (fun hc=>?_) (fun hc=>?_)))))))
  ·have hc15:=of_decide_eq_true hc;clear hc
   have e4:t=4:=hc15
   subst e4
   obtain ⟨m,rfl,hm⟩:=yO hp (.inr rfl)
   refine aQ (aO (o':=1) eQ rfl rfl rfl (aT isAgg3 rfl (aH (hS.at_ 2 rfl) rfl) rfl ?_))
   have hsz:=hS.below.size
   refine cL (vs:=[_]) hS Sp rfl (one4_is m hm _) rfl ?_
   rintro e W7 ⟨a1,c1,rfl,hv,hl,hb⟩
   refine ⟨_,rfl,hb,fun hS'=>?_⟩
   clear hS;have hS:=hS';clear hS'
   refine aE rfl rfl (bJ rfl rfl rfl (bJ rfl rfl rfl (aO (o':=4) dG rfl rfl rfl (dS (i:=0) (cs':=[_,_,_,_,_,_]) (O':=[_,_,_]) hS sizeOf41 rfl rfl rfl rfl rfl rfl rfl fun W8 hS=>aN (XF.blkN (XF.thenN (aJ (aQ (aS (vs:=[_,_,_,_,_,_]) isAgg44 sizeOf44 rfl (aB.own (j:=0) (m:=6) (hS.at_ 0 rfl) rfl) rfl (aU (i:=1) (vs:=[_,_,_,_,_,_]) (cs':=[_,_,_,_,_,_]) (O':=[_,_,_]) hS sizeOf44 rfl rfl rfl rfl rfl rfl rfl fun W9 hS=>aN (XF.thenN (bX (XF.res (dJ (vs:=[_,_,_,_,_,_]) results125 isAgg44 sizeOf44 rfl (aB.own (j:=0) (m:=6) (hS.at_ 1 rfl) rfl)) ?_)))))))))))))
   exact eJ (U5 hm (hv.agree (fun ad e=>(hl ad e).1) (hS.since 0 rfl)) (fun ad e=>Nat.le_trans hsz (hl ad e).1)) hS.below
  ·have hc15:=of_decide_eq_false hc;clear hc
   refine aJ (aQ (cG rfl rfl rfl (aC rfl rfl (aN (XF.thenN (bA rfl (fun hc=>absurd (of_decide_eq_true hc) (by exact lF hp)) (fun hc=>?_)))))))
   have hc:=of_decide_eq_false hc
   refine bM (XF.blkN (XF.thenN (aJ (aQ (aS (vs:=[_,_,_,_,_,_]) isAgg44 sizeOf44 rfl (aB.own (j:=0) (m:=6) (hS.at_ 0 rfl) rfl) rfl (aU (i:=1) (vs:=[_,_,_,_,_,_]) (cs':=[_,_,_,_,_,_]) (O':=[_,_,_]) hS sizeOf44 rfl rfl rfl rfl rfl rfl rfl fun W10 hS=>aN (XF.thenN (bX (XF.res (dJ (vs:=[_,_,_,_,_,_]) results125 isAgg44 sizeOf44 rfl (aB.own (j:=0) (m:=6) (hS.at_ 1 rfl) rfl)) ?_)))))))))
   exact eJ (Uz hp hc6 hc15) hS.below
theorem Q5 (t n u m:Int) (a1 a2:Option Addr) (c1 c2 b off sc:Nat) (w:World) (hs1:S3 w b off ⟨t,n,a1,0,c1⟩) (hs2:S3 w b (off+3) ⟨u,m,a2,0,c2⟩) (hp1:bI t n 0=true) (hp2:bI u m 0=true)(fra fca:Option Addr) (frc fcc fpc fb fo:Nat) (f1 f2:WF) (x1 x2:PF) (hf6:W6 w fb fo f1) (hf7:W6 w fb (fo+6) f2) (hx1:PIs w t n f1 x1) (hx2:PIs w u m f2 x2)(gra gca:Option Addr) (grc gcc gpc gb go:Nat) (g1 g2:WF) (y1 y2:PF) (hg6:W6 w gb go g1) (hg7:W6 w gb (go+6) g2) (hy1:PIs w t n g1 y1) (hy2:PIs w u m g2 y2)(ht:Tabs w) :
  Calls prog 148 #[.agg #[.int .i64 5,.int .i64 0,.slice (some ⟨b,off,none⟩) 2 sc],.agg #[.bool false,.int .i64 0,.int .u64 0,.slice fra 0 frc,.slice fca 0 fcc,.slice (some ⟨fb,fo,none⟩) 2 fpc],.agg #[.bool false,.int .i64 0,.int .u64 0,.slice gra 0 grc,.slice gca 0 gcc,.slice (some ⟨gb,go,none⟩) 2 gpc]] w (gH (.two t n u m) (.two (fB t n x1 y1) (fB u m x2 y2)) w):=by
 refine cB (args:=[.agg #[.int .i64 5,.int .i64 0,.slice (some ⟨b,off,none⟩) 2 sc],.agg #[.bool false,.int .i64 0,.int .u64 0,.slice fra 0 frc,.slice fca 0 fcc,.slice (some ⟨fb,fo,none⟩) 2 fpc],.agg #[.bool false,.int .i64 0,.int .u64 0,.slice gra 0 grc,.slice gca 0 gcc,.slice (some ⟨gb,go,none⟩) 2 gpc]]) func148 rfl ntmps148 rfl ?_
 have hS:=St.start w
 refine aJ (aQ (bR (cs:=[_,_,_]) hS rfl rfl rfl fun B1 W1 hS=>bR (cs:=[_,_,_,_,_,_]) hS rfl rfl rfl fun B2 W2 hS=>bR (cs:=[_,_,_,_,_,_]) hS rfl rfl rfl fun B3 W3 hS=>bB (cs:=[_,_,_,_,_,_]) hS zeroValue44 rfl rfl fun B4 W4 hS=>aN (XF.thenN (aJ (aJ (aQ (aO (o':=0) dR rfl rfl rfl (aT isAgg4 rfl (aH (hS.at_ 2 rfl) rfl) rfl (aE rfl rfl (cI (d:=10) rfl (fun hc=>absurd hc (by decide)) (fun hc=>?_)))))))))))
 skip
 refine aM (d:=10) rfl rfl (aO (o':=0) dR rfl rfl rfl (aM (d:=10) rfl rfl (aT isAgg4 rfl (aH (hS.at_ 1 rfl) rfl) rfl (cH rfl rfl rfl (aN (XF.thenN (bA rfl (fun hc=>absurd hc (by decide)) (fun hc=>?_))))))))
 skip
 refine bM (XF.thenN (aJ (aQ (bB (cs:=[_,_,_,_,_,_]) hS zeroValue44 rfl rfl fun B5 W5 hS=>aN (XF.thenN (aJ (aJ (aQ (aO (o':=0) eP rfl rfl rfl (aT isAgg22 rfl (aH (hS.at_ 4 rfl) rfl) rfl (aN (XF.thenN (bQ (aJ (aQ (cG rfl rfl rfl (aC rfl rfl (aN (XF.thenN (bA rfl (fun hc=>absurd (of_decide_eq_true hc) (by omega)) (fun hc=>?_)))))))))))))))))))))
 have hc:=of_decide_eq_false hc
 refine aJ (aQ (cG rfl rfl rfl (aC rfl rfl (aN (XF.thenN (bA rfl (fun hc=>absurd (of_decide_eq_true hc) (by omega)) (fun hc=>?_)))))))
 have hc:=of_decide_eq_false hc
 refine aJ (aQ (cG rfl rfl rfl (aC rfl rfl (aN (XF.thenN (bA rfl (fun hc=>absurd (of_decide_eq_true hc) (by omega)) (fun hc=>?_)))))))
 have hc:=of_decide_eq_false hc
 refine aJ (aQ (cG rfl rfl rfl (aC rfl rfl (aN (XF.thenN (bA rfl (fun hc=>?_) (fun hc=>absurd (of_decide_eq_false hc) (by omega))))))))
 have hc:=of_decide_eq_true hc
 have hsz:=hS.below.size
 have k1:=aB.agree hS.agree (Nat.zero_le _) hs1.cells
 have k2:=aB.agree hS.agree (Nat.zero_le _) hs2.cells
 have kf1:=aB.agree hS.agree (Nat.zero_le _) hf6.cells
 have kf2:=aB.agree hS.agree (Nat.zero_le _) hf7.cells
 have kg1:=aB.agree hS.agree (Nat.zero_le _) hg6.cells
 have kg2:=aB.agree hS.agree (Nat.zero_le _) hg7.cells
 refine tG cD 27 hS rfl rfl (by kernel_rfl) (by kernel_rfl) (by kernel_rfl) (fun d hd=>by cases hd) (cJ 1 rfl 3 rfl rfl (fun w hw=>aV (o':=2) fC rfl rfl) rfl (aZ 2 rfl 59 0 rfl rfl rfl (fun w hw=>bC isAgg23 rfl ((aK hw 0).cell (Nat.zero_le _) (aH (hS.at_ 4 rfl) rfl))) rfl (aZ 3 rfl 60 1 rfl rfl rfl (fun w hw=>bE (j:=0) underlying23 sizeOf25 rfl rfl rfl (by omega) (Nat.add_zero _)) rfl (aZ 4 rfl 61 2 rfl rfl rfl (fun w hw=>aX (vs:=[_,_,_]) isAgg25 sizeOf25 rfl (aB.agree (aK hw 0) (Nat.zero_le _) (by assumption))) rfl (cJ 5 rfl 4 rfl rfl (fun w hw=>aV (o':=5) cW rfl rfl) rfl (aZ 6 rfl 63 4 rfl rfl rfl (fun w hw=>bC isAgg42 rfl ((aK hw 0).cell (Nat.zero_le _) (aH (hS.at_ 3 rfl) rfl))) rfl (aZ 7 rfl 64 5 rfl rfl rfl (fun w hw=>bE (j:=0) underlying42 sizeOf44 rfl rfl rfl (by omega) (Nat.add_zero _)) rfl (aZ 8 rfl 65 6 rfl rfl rfl (fun w hw=>aX (vs:=[_,_,_,_,_,_]) isAgg44 sizeOf44 rfl (aB.agree (aK hw 0) (Nat.zero_le _) (by assumption))) rfl (cJ 9 rfl 5 rfl rfl (fun w hw=>aV (o':=5) cW rfl rfl) rfl (aZ 10 rfl 67 8 rfl rfl rfl (fun w hw=>bC isAgg42 rfl ((aK hw 0).cell (Nat.zero_le _) (aH (hS.at_ 2 rfl) rfl))) rfl (aZ 11 rfl 68 9 rfl rfl rfl (fun w hw=>bE (j:=0) underlying42 sizeOf44 rfl rfl rfl (by omega) (Nat.add_zero _)) rfl (aZ 12 rfl 69 10 rfl rfl rfl (fun w hw=>aX (vs:=[_,_,_,_,_,_]) isAgg44 sizeOf44 rfl (aB.agree (aK hw 0) (Nat.zero_le _) (by assumption))) rfl ?_))))))))))))
 refine aI 13 rfl (dH W5.heap.size (.one t n) (.one (fB t n x1 y1))) (dO) (cR [isV _,isV _,isV _] rfl zR (aR rfl) ⟨bU (aL 3 (aA rfl rfl rfl)),bU (aL 7 (aA rfl rfl rfl)),bU (aL 11 (aA rfl rfl rfl)),trivial⟩ (fun vs w' hb hh=>by have e:=cA (us:=[_,_,_]) hh;subst e;exact fF hb.size (uI _ _ _ _ _ _ _ _ _ hp1 (hx1.below (hS.below.trans (hb.mono hS.below.size))) (hy1.below (hS.below.trans (hb.mono hS.below.size))) (ht.below (hS.below.trans (hb.mono hS.below.size))))) (aD rfl)) ?_
 refine cJ 14 rfl 3 rfl rfl (fun w hw=>aV (o':=2) fC rfl rfl) rfl (aZ 15 rfl 72 13 rfl rfl rfl (fun w hw=>bC isAgg23 rfl ((aK hw 0).cell (Nat.zero_le _) (aH (hS.at_ 4 rfl) rfl))) rfl (aZ 16 rfl 73 14 rfl rfl rfl (fun w hw=>bE (j:=1) underlying23 sizeOf25 rfl rfl rfl (by omega) rfl) rfl (aZ 17 rfl 74 15 rfl rfl rfl (fun w hw=>aX (vs:=[_,_,_]) isAgg25 sizeOf25 rfl (aB.agree (aK hw 0) (Nat.zero_le _) (by assumption))) rfl (cJ 18 rfl 4 rfl rfl (fun w hw=>aV (o':=5) cW rfl rfl) rfl (aZ 19 rfl 76 17 rfl rfl rfl (fun w hw=>bC isAgg42 rfl ((aK hw 0).cell (Nat.zero_le _) (aH (hS.at_ 3 rfl) rfl))) rfl (aZ 20 rfl 77 18 rfl rfl rfl (fun w hw=>bE (j:=1) underlying42 sizeOf44 rfl rfl rfl (by omega) rfl) rfl (aZ 21 rfl 78 19 rfl rfl rfl (fun w hw=>aX (vs:=[_,_,_,_,_,_]) isAgg44 sizeOf44 rfl (aB.agree (aK hw 0) (Nat.zero_le _) (by assumption))) rfl (cJ 22 rfl 5 rfl rfl (fun w hw=>aV (o':=5) cW rfl rfl) rfl (aZ 23 rfl 80 21 rfl rfl rfl (fun w hw=>bC isAgg42 rfl ((aK hw 0).cell (Nat.zero_le _) (aH (hS.at_ 2 rfl) rfl))) rfl (aZ 24 rfl 81 22 rfl rfl rfl (fun w hw=>bE (j:=1) underlying42 sizeOf44 rfl rfl rfl (by omega) rfl) rfl (aZ 25 rfl 82 23 rfl rfl rfl (fun w hw=>aX (vs:=[_,_,_,_,_,_]) isAgg44 sizeOf44 rfl (aB.agree (aK hw 0) (Nat.zero_le _) (by assumption))) rfl ?_)))))))))))
 refine aI 26 rfl (dH W5.heap.size (.one u m) (.one (fB u m x2 y2))) (dO) (cR [isV _,isV _,isV _] rfl zR (aR rfl) ⟨bU (aL 16 (aA rfl rfl rfl)),bU (aL 20 (aA rfl rfl rfl)),bU (aL 24 (aA rfl rfl rfl)),trivial⟩ (fun vs w' hb hh=>by have e:=cA (us:=[_,_,_]) hh;subst e;exact fF hb.size (uI _ _ _ _ _ _ _ _ _ hp2 (hx2.below (hS.below.trans (hb.mono hS.below.size))) (hy2.below (hS.below.trans (hb.mono hS.below.size))) (ht.below (hS.below.trans (hb.mono hS.below.size))))) (aD rfl)) ?_
 refine aI 27 rfl (dH W5.heap.size (.two t n u m) (.two (fB t n x1 y1) (fB u m x2 y2))) (dO) (cR [dH _ (.one t n) (.one (fB t n x1 y1)),dH _ (.one u m) (.one (fB u m x2 y2))] rfl zS (aR rfl) ⟨bU (aL 12 (aA rfl rfl rfl)),bU (aL 25 (aA rfl rfl rfl)),trivial⟩ (fun vs w' hb hh=>uH hb.size hh) (aD rfl)) (dV ?_)
 intro W6 hbR hS'
 clear hS;have hS:=hS';clear hS'
 refine aG (aG (aG (aG (aG (aG (aG (aG (aG (aG (aG (aG ?_)))))))))))
 refine dE ?_;rintro _ ⟨v1,rfl,hn1⟩
 refine aG (aG (aG (aG (aG (aG (aG (aG (aG (aG (aG (aG ?_)))))))))))
 refine dE ?_;rintro _ ⟨v2,rfl,hn2⟩
 refine dE ?_;rintro _ ⟨v3,rfl,hn3⟩
 refine cO (aU (i:=0) (vs:=[_,_,_,_,_,_]) (cs':=[_,_,_,_,_,_]) (O':=[_,_,_,_,_]) hS sizeOf44 rfl rfl rfl rfl rfl rfl rfl fun W7 hS=>aN (XF.blkN (XF.thenN (aJ (aQ (aS (vs:=[_,_,_,_,_,_]) isAgg44 sizeOf44 rfl (aB.own (j:=0) (m:=6) (hS.at_ 0 rfl) rfl) rfl (aU (i:=1) (vs:=[_,_,_,_,_,_]) (cs':=[_,_,_,_,_,_]) (O':=[_,_,_,_,_]) hS sizeOf44 rfl rfl rfl rfl rfl rfl rfl fun W8 hS=>aN (XF.thenN (bX (XF.res (dJ (vs:=[_,_,_,_,_,_]) results148 isAgg44 sizeOf44 rfl (aB.own (j:=0) (m:=6) (hS.at_ 1 rfl) rfl)) ?_))))))))))
 exact ⟨v3,rfl,(hn3.agree (hS.since 0 rfl)).mono hsz,hS.below⟩
theorem Q6 (t n u m:Int) (a1 a2:Option Addr) (c1 c2 b off sc:Nat) (w:World) (hs1:S3 w b off ⟨t,n,a1,0,c1⟩) (hs2:S3 w b (off+3) ⟨u,m,a2,0,c2⟩) (hp1:bI t n 0=true) (hp2:bI u m 0=true) :
  Calls prog 125 #[.agg #[.int .i64 5,.int .i64 0,.slice (some ⟨b,off,none⟩) 2 sc]] w (gH (.two t n u m) (.two (iA t n) (iA u m)) w):=by
 refine cB (args:=[.agg #[.int .i64 5,.int .i64 0,.slice (some ⟨b,off,none⟩) 2 sc]]) func125 rfl ntmps125 rfl ?_
 have hS:=St.start w
 refine aJ (aQ (bR (cs:=[_,_,_]) hS rfl rfl rfl fun B1 W1 hS=>bB (cs:=[_,_,_,_,_,_]) hS zeroValue44 rfl rfl fun B2 W2 hS=>aN (XF.thenN (aJ (aQ (bB (cs:=[_,_,_,_,_,_]) hS zeroValue44 rfl rfl fun B3 W3 hS=>aN (XF.thenN (aJ (aJ (aQ (aO (o':=0) eP rfl rfl rfl (aT isAgg22 rfl (aH (hS.at_ 2 rfl) rfl) rfl (aN (XF.thenN (bQ (aJ (aQ (cG rfl rfl rfl (aC rfl rfl (aN (XF.thenN (bA rfl (fun hc=>absurd (of_decide_eq_true hc) (by omega)) (fun hc=>?_)))))))))))))))))))))))
 have hc:=of_decide_eq_false hc
 refine aJ (aQ (cG rfl rfl rfl (aC rfl rfl (aN (XF.thenN (bA rfl (fun hc=>absurd (of_decide_eq_true hc) (by omega)) (fun hc=>?_)))))))
 have hc:=of_decide_eq_false hc
 refine aJ (aQ (cG rfl rfl rfl (aC rfl rfl (aN (XF.thenN (bA rfl (fun hc=>?_) (fun hc=>absurd (of_decide_eq_false hc) (by omega))))))))
 have hc:=of_decide_eq_true hc
 have hsz:=hS.below.size
 have k1:=aB.agree hS.agree (Nat.zero_le _) hs1.cells
 have k2:=aB.agree hS.agree (Nat.zero_le _) hs2.cells
 refine tG cD 11 hS rfl rfl (by kernel_rfl) (by kernel_rfl) (by kernel_rfl) (fun d hd=>by cases hd) (cJ 1 rfl 1 rfl rfl (fun w hw=>aV (o':=2) fC rfl rfl) rfl (aZ 2 rfl 26 0 rfl rfl rfl (fun w hw=>bC isAgg23 rfl ((aK hw 0).cell (Nat.zero_le _) (aH (hS.at_ 2 rfl) rfl))) rfl (aZ 3 rfl 27 1 rfl rfl rfl (fun w hw=>bE (j:=0) underlying23 sizeOf25 rfl rfl rfl (by omega) (Nat.add_zero _)) rfl (aZ 4 rfl 28 2 rfl rfl rfl (fun w hw=>aX (vs:=[_,_,_]) isAgg25 sizeOf25 rfl (aB.agree (aK hw 0) (Nat.zero_le _) (by assumption))) rfl ?_))))
 refine aI 5 rfl (dH W3.heap.size (.one t n) (.one (iA t n))) (dO) (cR [isV _] rfl zN (aR rfl) ⟨bU (aL 3 (aA rfl rfl rfl)),trivial⟩ (fun vs w' hb hh=>by have e:=cA (us:=[_]) hh;subst e;exact fF hb.size (uJ _ _ _ _ _ hp1)) (aD rfl)) ?_
 refine cJ 6 rfl 1 rfl rfl (fun w hw=>aV (o':=2) fC rfl rfl) rfl (aZ 7 rfl 31 5 rfl rfl rfl (fun w hw=>bC isAgg23 rfl ((aK hw 0).cell (Nat.zero_le _) (aH (hS.at_ 2 rfl) rfl))) rfl (aZ 8 rfl 32 6 rfl rfl rfl (fun w hw=>bE (j:=1) underlying23 sizeOf25 rfl rfl rfl (by omega) rfl) rfl (aZ 9 rfl 33 7 rfl rfl rfl (fun w hw=>aX (vs:=[_,_,_]) isAgg25 sizeOf25 rfl (aB.agree (aK hw 0) (Nat.zero_le _) (by assumption))) rfl ?_)))
 refine aI 10 rfl (dH W3.heap.size (.one u m) (.one (iA u m))) (dO) (cR [isV _] rfl zN (aR rfl) ⟨bU (aL 8 (aA rfl rfl rfl)),trivial⟩ (fun vs w' hb hh=>by have e:=cA (us:=[_]) hh;subst e;exact fF hb.size (uJ _ _ _ _ _ hp2)) (aD rfl)) ?_
 refine aI 11 rfl (dH W3.heap.size (.two t n u m) (.two (iA t n) (iA u m))) (dO) (cR [dH _ (.one t n) (.one (iA t n)),dH _ (.one u m) (.one (iA u m))] rfl zS (aR rfl) ⟨bU (aL 4 (aA rfl rfl rfl)),bU (aL 9 (aA rfl rfl rfl)),trivial⟩ (fun vs w' hb hh=>uH hb.size hh) (aD rfl)) (dV ?_)
 intro W4 hbR hS'
 clear hS;have hS:=hS';clear hS'
 refine aG (aG (aG (aG ?_)))
 refine dE ?_;rintro _ ⟨v1,rfl,hn1⟩
 refine aG (aG (aG (aG ?_)))
 refine dE ?_;rintro _ ⟨v2,rfl,hn2⟩
 refine dE ?_;rintro _ ⟨v3,rfl,hn3⟩
 refine cO (aU (i:=0) (vs:=[_,_,_,_,_,_]) (cs':=[_,_,_,_,_,_]) (O':=[_,_,_]) hS sizeOf44 rfl rfl rfl rfl rfl rfl rfl fun W5 hS=>aN (XF.blkN (XF.thenN (aJ (aQ (aS (vs:=[_,_,_,_,_,_]) isAgg44 sizeOf44 rfl (aB.own (j:=0) (m:=6) (hS.at_ 0 rfl) rfl) rfl (aU (i:=1) (vs:=[_,_,_,_,_,_]) (cs':=[_,_,_,_,_,_]) (O':=[_,_,_]) hS sizeOf44 rfl rfl rfl rfl rfl rfl rfl fun W6 hS=>aN (XF.thenN (bX (XF.res (dJ (vs:=[_,_,_,_,_,_]) results125 isAgg44 sizeOf44 rfl (aB.own (j:=0) (m:=6) (hS.at_ 1 rfl) rfl)) ?_))))))))))
 exact ⟨v3,rfl,(hn3.agree (hS.since 0 rfl)).mono hsz,hS.below⟩
theorem L5 (t n u m:Int) (a1 a2:Option Addr) (c1 c2 b off sc:Nat) (w:World) (hs1:S3 w b off ⟨t,n,a1,0,c1⟩) (hs2:S3 w b (off+3) ⟨u,m,a2,0,c2⟩) (hp1:bI t n 0=true) (hp2:bI u m 0=true)(fra fca:Option Addr) (frc fcc fpc fb fo:Nat) (f1 f2:WF) (x1 x2:PF) (hf6:W6 w fb fo f1) (hf7:W6 w fb (fo+6) f2) (hx1:PIs w t n f1 x1) (hx2:PIs w u m f2 x2)(gra gca:Option Addr) (grc gcc gpc gb go:Nat) (g1 g2:WF) (y1 y2:PF) (hg6:W6 w gb go g1) (hg7:W6 w gb (go+6) g2) (hy1:PIs w t n g1 y1) (hy2:PIs w u m g2 y2)(ht:Tabs w) :
  Calls prog 108 #[.agg #[.int .i64 5,.int .i64 0,.slice (some ⟨b,off,none⟩) 2 sc],.agg #[.bool false,.int .i64 0,.int .u64 0,.slice fra 0 frc,.slice fca 0 fcc,.slice (some ⟨fb,fo,none⟩) 2 fpc],.agg #[.bool false,.int .i64 0,.int .u64 0,.slice gra 0 grc,.slice gca 0 gcc,.slice (some ⟨gb,go,none⟩) 2 gpc]] w (gH (.two t n u m) (.two (dK t n x1 y1) (dK u m x2 y2)) w):=by
 refine cB (args:=[.agg #[.int .i64 5,.int .i64 0,.slice (some ⟨b,off,none⟩) 2 sc],.agg #[.bool false,.int .i64 0,.int .u64 0,.slice fra 0 frc,.slice fca 0 fcc,.slice (some ⟨fb,fo,none⟩) 2 fpc],.agg #[.bool false,.int .i64 0,.int .u64 0,.slice gra 0 grc,.slice gca 0 gcc,.slice (some ⟨gb,go,none⟩) 2 gpc]]) func108 rfl ntmps108 rfl ?_
 have hS:=St.start w
 refine aJ (aQ (bR (cs:=[_,_,_]) hS rfl rfl rfl fun B1 W1 hS=>bR (cs:=[_,_,_,_,_,_]) hS rfl rfl rfl fun B2 W2 hS=>bR (cs:=[_,_,_,_,_,_]) hS rfl rfl rfl fun B3 W3 hS=>bB (cs:=[_,_,_,_,_,_]) hS zeroValue44 rfl rfl fun B4 W4 hS=>aN (XF.thenN (aJ (aJ (aQ (aO (o':=0) dR rfl rfl rfl (aT isAgg4 rfl (aH (hS.at_ 2 rfl) rfl) rfl (aN (XF.thenN (bA rfl (fun hc=>absurd hc (by decide)) (fun hc=>?_))))))))))))
 skip
 refine bM (XF.thenN (aJ (aJ (aQ (aO (o':=0) dR rfl rfl rfl (aT isAgg4 rfl (aH (hS.at_ 1 rfl) rfl) rfl (aN (XF.thenN (bA rfl (fun hc=>absurd hc (by decide)) (fun hc=>?_))))))))))
 skip
 refine bM (XF.thenN (aJ (aQ (bB (cs:=[_,_,_,_,_,_]) hS zeroValue44 rfl rfl fun B5 W5 hS=>aN (XF.thenN (aJ (aJ (aQ (aO (o':=0) eP rfl rfl rfl (aT isAgg22 rfl (aH (hS.at_ 4 rfl) rfl) rfl (aN (XF.thenN (bQ (aJ (aQ (cG rfl rfl rfl (aC rfl rfl (aN (XF.thenN (bA rfl (fun hc=>absurd (of_decide_eq_true hc) (by omega)) (fun hc=>?_)))))))))))))))))))))
 have hc:=of_decide_eq_false hc
 refine aJ (aQ (cG rfl rfl rfl (aC rfl rfl (aN (XF.thenN (bA rfl (fun hc=>absurd (of_decide_eq_true hc) (by omega)) (fun hc=>?_)))))))
 have hc:=of_decide_eq_false hc
 refine aJ (aQ (cG rfl rfl rfl (aC rfl rfl (aN (XF.thenN (bA rfl (fun hc=>absurd (of_decide_eq_true hc) (by omega)) (fun hc=>?_)))))))
 have hc:=of_decide_eq_false hc
 refine aJ (aQ (cG rfl rfl rfl (aC rfl rfl (aN (XF.thenN (bA rfl (fun hc=>?_) (fun hc=>absurd (of_decide_eq_false hc) (by omega))))))))
 have hc:=of_decide_eq_true hc
 have hsz:=hS.below.size
 have k1:=aB.agree hS.agree (Nat.zero_le _) hs1.cells
 have k2:=aB.agree hS.agree (Nat.zero_le _) hs2.cells
 have kf1:=aB.agree hS.agree (Nat.zero_le _) hf6.cells
 have kf2:=aB.agree hS.agree (Nat.zero_le _) hf7.cells
 have kg1:=aB.agree hS.agree (Nat.zero_le _) hg6.cells
 have kg2:=aB.agree hS.agree (Nat.zero_le _) hg7.cells
 refine tG cD 27 hS rfl rfl (by kernel_rfl) (by kernel_rfl) (by kernel_rfl) (fun d hd=>by cases hd) (cJ 1 rfl 3 rfl rfl (fun w hw=>aV (o':=2) fC rfl rfl) rfl (aZ 2 rfl 60 0 rfl rfl rfl (fun w hw=>bC isAgg23 rfl ((aK hw 0).cell (Nat.zero_le _) (aH (hS.at_ 4 rfl) rfl))) rfl (aZ 3 rfl 61 1 rfl rfl rfl (fun w hw=>bE (j:=0) underlying23 sizeOf25 rfl rfl rfl (by omega) (Nat.add_zero _)) rfl (aZ 4 rfl 62 2 rfl rfl rfl (fun w hw=>aX (vs:=[_,_,_]) isAgg25 sizeOf25 rfl (aB.agree (aK hw 0) (Nat.zero_le _) (by assumption))) rfl (cJ 5 rfl 4 rfl rfl (fun w hw=>aV (o':=5) cW rfl rfl) rfl (aZ 6 rfl 64 4 rfl rfl rfl (fun w hw=>bC isAgg42 rfl ((aK hw 0).cell (Nat.zero_le _) (aH (hS.at_ 3 rfl) rfl))) rfl (aZ 7 rfl 65 5 rfl rfl rfl (fun w hw=>bE (j:=0) underlying42 sizeOf44 rfl rfl rfl (by omega) (Nat.add_zero _)) rfl (aZ 8 rfl 66 6 rfl rfl rfl (fun w hw=>aX (vs:=[_,_,_,_,_,_]) isAgg44 sizeOf44 rfl (aB.agree (aK hw 0) (Nat.zero_le _) (by assumption))) rfl (cJ 9 rfl 5 rfl rfl (fun w hw=>aV (o':=5) cW rfl rfl) rfl (aZ 10 rfl 68 8 rfl rfl rfl (fun w hw=>bC isAgg42 rfl ((aK hw 0).cell (Nat.zero_le _) (aH (hS.at_ 2 rfl) rfl))) rfl (aZ 11 rfl 69 9 rfl rfl rfl (fun w hw=>bE (j:=0) underlying42 sizeOf44 rfl rfl rfl (by omega) (Nat.add_zero _)) rfl (aZ 12 rfl 70 10 rfl rfl rfl (fun w hw=>aX (vs:=[_,_,_,_,_,_]) isAgg44 sizeOf44 rfl (aB.agree (aK hw 0) (Nat.zero_le _) (by assumption))) rfl ?_))))))))))))
 refine aI 13 rfl (dH W5.heap.size (.one t n) (.one (dK t n x1 y1))) (dO) (cR [isV _,isV _,isV _] rfl zQ (aR rfl) ⟨bU (aL 3 (aA rfl rfl rfl)),bU (aL 7 (aA rfl rfl rfl)),bU (aL 11 (aA rfl rfl rfl)),trivial⟩ (fun vs w' hb hh=>by have e:=cA (us:=[_,_,_]) hh;subst e;exact fF hb.size (rP _ _ _ _ _ _ _ _ _ hp1 (hx1.below (hS.below.trans (hb.mono hS.below.size))) (hy1.below (hS.below.trans (hb.mono hS.below.size))) (ht.below (hS.below.trans (hb.mono hS.below.size))))) (aD rfl)) ?_
 refine cJ 14 rfl 3 rfl rfl (fun w hw=>aV (o':=2) fC rfl rfl) rfl (aZ 15 rfl 73 13 rfl rfl rfl (fun w hw=>bC isAgg23 rfl ((aK hw 0).cell (Nat.zero_le _) (aH (hS.at_ 4 rfl) rfl))) rfl (aZ 16 rfl 74 14 rfl rfl rfl (fun w hw=>bE (j:=1) underlying23 sizeOf25 rfl rfl rfl (by omega) rfl) rfl (aZ 17 rfl 75 15 rfl rfl rfl (fun w hw=>aX (vs:=[_,_,_]) isAgg25 sizeOf25 rfl (aB.agree (aK hw 0) (Nat.zero_le _) (by assumption))) rfl (cJ 18 rfl 4 rfl rfl (fun w hw=>aV (o':=5) cW rfl rfl) rfl (aZ 19 rfl 77 17 rfl rfl rfl (fun w hw=>bC isAgg42 rfl ((aK hw 0).cell (Nat.zero_le _) (aH (hS.at_ 3 rfl) rfl))) rfl (aZ 20 rfl 78 18 rfl rfl rfl (fun w hw=>bE (j:=1) underlying42 sizeOf44 rfl rfl rfl (by omega) rfl) rfl (aZ 21 rfl 79 19 rfl rfl rfl (fun w hw=>aX (vs:=[_,_,_,_,_,_]) isAgg44 sizeOf44 rfl (aB.agree (aK hw 0) (Nat.zero_le _) (by assumption))) rfl (cJ 22 rfl 5 rfl rfl (fun w hw=>aV (o':=5) cW rfl rfl) rfl (aZ 23 rfl 81 21 rfl rfl rfl (fun w hw=>bC isAgg42 rfl ((aK hw 0).cell (Nat.zero_le _) (aH (hS.at_ 2 rfl) rfl))) rfl (aZ 24 rfl 82 22 rfl rfl rfl (fun w hw=>bE (j:=1) underlying42 sizeOf44 rfl rfl rfl (by omega) rfl) rfl (aZ 25 rfl 83 23 rfl rfl rfl (fun w hw=>aX (vs:=[_,_,_,_,_,_]) isAgg44 sizeOf44 rfl (aB.agree (aK hw 0) (Nat.zero_le _) (by assumption))) rfl ?_)))))))))))
 refine aI 26 rfl (dH W5.heap.size (.one u m) (.one (dK u m x2 y2))) (dO) (cR [isV _,isV _,isV _] rfl zQ (aR rfl) ⟨bU (aL 16 (aA rfl rfl rfl)),bU (aL 20 (aA rfl rfl rfl)),bU (aL 24 (aA rfl rfl rfl)),trivial⟩ (fun vs w' hb hh=>by have e:=cA (us:=[_,_,_]) hh;subst e;exact fF hb.size (rP _ _ _ _ _ _ _ _ _ hp2 (hx2.below (hS.below.trans (hb.mono hS.below.size))) (hy2.below (hS.below.trans (hb.mono hS.below.size))) (ht.below (hS.below.trans (hb.mono hS.below.size))))) (aD rfl)) ?_
 refine aI 27 rfl (dH W5.heap.size (.two t n u m) (.two (dK t n x1 y1) (dK u m x2 y2))) (dO) (cR [dH _ (.one t n) (.one (dK t n x1 y1)),dH _ (.one u m) (.one (dK u m x2 y2))] rfl zS (aR rfl) ⟨bU (aL 12 (aA rfl rfl rfl)),bU (aL 25 (aA rfl rfl rfl)),trivial⟩ (fun vs w' hb hh=>uH hb.size hh) (aD rfl)) (dV ?_)
 intro W6 hbR hS'
 clear hS;have hS:=hS';clear hS'
 refine aG (aG (aG (aG (aG (aG (aG (aG (aG (aG (aG (aG ?_)))))))))))
 refine dE ?_;rintro _ ⟨v1,rfl,hn1⟩
 refine aG (aG (aG (aG (aG (aG (aG (aG (aG (aG (aG (aG ?_)))))))))))
 refine dE ?_;rintro _ ⟨v2,rfl,hn2⟩
 refine dE ?_;rintro _ ⟨v3,rfl,hn3⟩
 refine cO (aU (i:=0) (vs:=[_,_,_,_,_,_]) (cs':=[_,_,_,_,_,_]) (O':=[_,_,_,_,_]) hS sizeOf44 rfl rfl rfl rfl rfl rfl rfl fun W7 hS=>aN (XF.blkN (XF.thenN (aJ (aQ (aS (vs:=[_,_,_,_,_,_]) isAgg44 sizeOf44 rfl (aB.own (j:=0) (m:=6) (hS.at_ 0 rfl) rfl) rfl (aU (i:=1) (vs:=[_,_,_,_,_,_]) (cs':=[_,_,_,_,_,_]) (O':=[_,_,_,_,_]) hS sizeOf44 rfl rfl rfl rfl rfl rfl rfl fun W8 hS=>aN (XF.thenN (bX (XF.res (dJ (vs:=[_,_,_,_,_,_]) results108 isAgg44 sizeOf44 rfl (aB.own (j:=0) (m:=6) (hS.at_ 1 rfl) rfl)) ?_))))))))))
 exact ⟨v3,rfl,(hn3.agree (hS.since 0 rfl)).mono hsz,hS.below⟩
end Go.Proofs.YtmgnkpibpjgncaaGreatDoor
namespace Go.Proofs.YtmgnkpibpjgncaaGreatDoor
open Go.Proofs.Tryz
open Go.RowKit
attribute [local go_sem ↓] Go.wp_at_zero Go.wp_at_succ
theorem Ea (t n:Int) (a:Option Addr) (l c0:Nat) (ht:t≠5) (w:World) :
  Calls prog 107 #[.agg #[.int .i64 t,.int .i64 n,.slice a l c0]] w fun e w'=>e = .returned (.agg #[.bool true,.int .i64 0,.int .u64 0,.slice none 0 0,.slice none 0 0,.slice none 0 0])∧Below w.heap.size w w':=yA t n a l c0 ht w
theorem Q7 (w:World) :
  Calls prog 136 #[.agg #[.bool true,.int .i64 0,.int .u64 0,.slice none 0 0,.slice none 0 0,.slice none 0 0],.agg #[.bool true,.int .i64 0,.int .u64 0,.slice none 0 0,.slice none 0 0,.slice none 0 0]] w fun e w'=>∃ blk,e = .returned (.agg #[.bool false,.int .i64 0,.int .u64 0,.slice none 0 0,.slice none 0 0,.slice (some ⟨blk,0,none⟩) 2 2])∧W6 w' blk 0 tJ∧W6 w' blk 6 tJ∧w.heap.size≤blk∧Below w.heap.size w w':=Oa tJ tJ w
set_option maxHeartbeats 8000000 in
theorem L6 (d:Nat) (sa:Option Addr) (sc:Nat) (p q:SV) (w:World) (hsp:SIn w (d+1) (.mk ⟨5,0,sa,2,sc⟩ [p,q])) (hp:p.pl=true) (hq:q.pl=true) :
  Calls prog 107 #[.agg #[.int .i64 5,.int .i64 0,.slice sa 2 sc]] w (gH (.two p.f.tag p.f.dim q.f.tag q.f.dim) (.two dF dF) w):=by
 obtain ⟨_,b,off,ha,hb,hp3,hq3,_,_⟩:=hsp.two
 obtain rfl:sa=some ⟨b,off,none⟩:=ha
 obtain ⟨⟨pt,pn,pa,pl,pc⟩,pps⟩:=p
 obtain ⟨⟨qt,qn,qa,ql,qc⟩,qps⟩:=q
 have hp5:=Lib.hid (zB (show bI pt pn pl=true from hp));have hq5:=Lib.hid (zB (show bI qt qn ql=true from hq))
 obtain ⟨t0,t1⟩:=nD w #[.int .i64 5,.int .i64 0,.slice (some ⟨b,off,none⟩) 2 sc] #[.bool false,.int .i64 0,.int .u64 0,.slice none 0 0,.slice none 0 0,.slice none 0 0] 25 44
 have T0:=Lib.hid t0;have T1:=Lib.hid t1
 have hB:=Lib.hid (P6 w #[.int .i64 5,.int .i64 0,.slice (some ⟨b,off,none⟩) 2 sc] #[.bool false,.int .i64 0,.int .u64 0,.slice none 0 0,.slice none 0 0,.slice none 0 0] 25 44)
 have hsz:((w.alloc (.cells #[.int .i64 5,.int .i64 0,.slice (some ⟨b,off,none⟩) 2 sc] 25)).alloc (.cells #[.bool false,.int .i64 0,.int .u64 0,.slice none 0 0,.slice none 0 0,.slice none 0 0] 44)).heap.size=w.heap.size+1+1:=by simp
 have n1:¬ (w.heap.size+1=w.heap.size):=by omega
 have n2:¬ (w.heap.size+1=b):=by omega
 obtain ⟨W0,hW0⟩:∃ W,(w.alloc (.cells #[.int .i64 5,.int .i64 0,.slice (some ⟨b,off,none⟩) 2 sc] 25)).alloc (.cells #[.bool false,.int .i64 0,.int .u64 0,.slice none 0 0,.slice none 0 0,.slice none 0 0] 44)=W:=⟨_,rfl⟩
 rw [hW0] at hB T0 T1 hsz
 have HSZ:=Lib.hid hsz
 have HP3:=Lib.hid (S3.below hp3 hB.out);have HQ3:=Lib.hid (S3.below hq3 hB.out)
 obtain ⟨x0,x1,x2⟩:=gO T0.out
 obtain ⟨y0,y1,y2,y3,y4,y5⟩:=fD T1.out
 have EN:Hid (∀ W:World,Below W0.heap.size W0 W→W.cell? ⟨w.heap.size,2,none⟩=some (.slice (some ⟨b,off,none⟩) 2 sc)∧W.cell? ⟨b,off,none⟩=some (.int .i64 pt)∧W.cell? ⟨b,off+1,none⟩=some (.int .i64 pn)∧W.cell? ⟨b,off+2,none⟩=some (.slice pa pl pc)∧W.cell? ⟨b,off+3,none⟩=some (.int .i64 qt)∧W.cell? ⟨b,off+4,none⟩=some (.int .i64 qn)∧W.cell? ⟨b,off+5,none⟩=some (.slice qa ql qc)):=fun W h=>by
  obtain ⟨a0,a1,a2⟩:=gO (cE T0.out h)
  obtain ⟨d0,d1,d2⟩:=HP3.out.below h;obtain ⟨e0,e1,e2⟩:=HQ3.out.below h
  exact ⟨a2,d0,d1,d2,e0,e1,e2⟩
 obtain ⟨m0,m1,m2,m3,m4,m5,m6⟩:=EN.out _ (Below.refl _ _)
 clear hsp hp hq hp3 hq3 t0 t1 hsz hb
 have D0:Hid (Below W0.heap.size W0 W0.drew):=(Below.refl _ _).drew
 go_enter func107,ntmps107
 go_wp2_with fail
 go_region_held3 (fun w'=>w'.cell? ⟨w.heap.size,2,none⟩=some (.slice (some ⟨b,off,none⟩) 2 sc)∧w'.cell? ⟨b,off,none⟩=some (.int .i64 pt)∧w'.cell? ⟨b,off+1,none⟩=some (.int .i64 pn)∧w'.cell? ⟨b,off+2,none⟩=some (.slice pa pl pc)∧w'.cell? ⟨b,off+3,none⟩=some (.int .i64 qt)∧w'.cell? ⟨b,off+4,none⟩=some (.int .i64 qn)∧w'.cell? ⟨b,off+5,none⟩=some (.slice qa ql qc))
  (first | (simp only [World.cell?_setCell_far,ne_eq,n1,n2,not_false_eq_true];with_reducible exact EN.out _ D3.out) | with_reducible exact EN.out _ D0.out | with_reducible exact EN.out _ D1.out | with_reducible exact EN.out _ D2.out | with_reducible exact EN.out _ D3.out | with_reducible exact EN.out _ (Below.refl _ _) | fail)
  (first | (go_at_call 107;with_reducible refine (Ea pt pn pa pl pc hp5.out W0.drew).mono ?_;rintro e z1 ⟨rfl,hz1⟩;have D1:=Lib.hid (D0.out.trans (hz1.mono D0.out.size))) | (go_at_call 107;with_reducible refine (Ea qt qn qa ql qc hq5.out z1).mono ?_;rintro e z2 ⟨rfl,hz2⟩;have D2:=Lib.hid (D1.out.trans (hz2.mono D1.out.size))) | (go_at_call 136;with_reducible refine (Q7 z2).mono ?_;rintro e z3 ⟨blk,rfl,hx6,hy6,hge,hz3⟩;have D3:=Lib.hid (D2.out.trans (hz3.mono D2.out.size));have XO:=Lib.hid (cE T1.out D3.out);obtain ⟨o0,o1,o2,o3,o4,o5⟩:=fD XO.out;have f0:=eH XO.out 0;have f1:=eH XO.out 1;have f2:=eH XO.out 2;have f3:=eH XO.out 3;have f4:=eH XO.out 4;have f5:=eH XO.out 5) | fail)
 all_goals
  have NS:=Lib.hid (Oc (v0:=.bool false) (v1:=.int .i64 0) (v2:=.int .u64 0) (v3:=.slice none 0 0) (v4:=.slice none 0 0) (v5:=.slice (some ⟨blk,0,none⟩) 2 2) XO.out)
  obtain ⟨s0,s1,s2,s3,s4,s5⟩:=fD NS.out
  have hle:=D2.out.size
  have hge2:w.heap.size+1+1≤blk:=by have:=HSZ.out;omega
  have HX6:=Lib.hid hx6;have HY6:=Lib.hid hy6
  have HB3:=Lib.hid (hB.out.trans (D3.out.mono hB.out.size))
  clear hx6 hy6 f0 f1 f2 f3 f4 f5 o0 o1 o2 o3 o4 o5
  go_wp2_with fail
  refine bodyPost_ret (v:=.agg #[.bool false,.int .i64 0,.int .u64 0,.slice none 0 0,.slice none 0 0,.slice (some ⟨blk,0,none⟩) 2 2]) ?_ rfl ⟨rO blk,rfl,?_,?_⟩
  rotate_left
  ·exact (A6 (HX6.out.above (n:=w.heap.size+1+1) hge2 (uG _ _ _ _ _ _ (kI.refl _ _) (by omega))) (HY6.out.above (n:=w.heap.size+1+1) hge2 (uG _ _ _ _ _ _ (kI.refl _ _) (by omega))) hge2 (oW _ _ _ _) (oW _ _ _ _)).mono (by omega)
  ·exact A4 _ _ _ _ _ _ HB3.out (by omega)
  ·simp [results,results107,go_sem,s0,s1,s2,s3,s4,s5]
end Go.Proofs.YtmgnkpibpjgncaaGreatDoor
