import Derived.Lib.SmallJoins
import Derived.ChangeSlices
import Derived.ProofKit
import Derived.Orders
import Derived.Deep.RegionHeld
import Derived.KernelRfl
import Derived.Laws.Rows
import Derived.Laws.AppendOwn
import Derived.Laws.Strings
import Derived.Laws.Small
import Derived.IntWalk
import Derived.Laws.Tables
import Derived.Laws.Concat
import Derived.Laws.MakeOwn
import Derived.Deep.DeepCutAuto
import Derived.Deep.CutRange
import Derived.Deep.DrawnRows
import Derived.Test.YtbmieipifgailaaGreatDoorCkA
set_option maxRecDepth 100000
set_option maxHeartbeats 4000000
set_option linter.unusedVariables false
set_option linter.unusedSimpArgs false
set_option linter.unusedSectionVars false
set_option linter.unnecessarySimpa false
namespace Go.Proofs.YtbmieipifgailaaGreatDoor
open Go.Proofs.Tryz
section
open Go.RowKit
theorem gW {n:Nat} {c:Cl}:jX n c=true↔c.f < 2 ^ n∧eB c.f c.k c.v=true:=by
 unfold jX mD kB;rw [Bool.and_eq_true,beq_iff_eq,Nat.div_eq_zero_iff];constructor
 ·rintro ⟨h | h,h2⟩
  ·have:=Nat.two_pow_pos n;omega
  ·exact ⟨h,h2⟩
 ·rintro ⟨h,h2⟩;exact ⟨.inr h,h2⟩
theorem lR {n f:Nat} (hn:n≤64) (h:f < 2 ^ n):f < 18446744073709551616 :=
 Nat.lt_of_lt_of_le h (Nat.le_trans (Nat.pow_le_pow_right (by decide) hn) (by decide))
structure Val (n:Nat) (xs:List Cl):Prop where
 le:n≤64
 len:xs.length=n
 ok:∀ (i:Nat) c,xs[i]?=some c→jX n c=true
theorem Val.oks {n:Nat} {xs:List Cl} (h:Val n xs):Oks xs:=fun i c hi=>by obtain ⟨h1,h2⟩:=gW.1 (h.ok i c hi);exact ⟨lR h.le h1,h2⟩
theorem Val.bits {n:Nat} {xs:List Cl} (h:Val n xs):Bits xs:=fun c hc=>by obtain ⟨i,hi,e⟩:=List.mem_iff_getElem.1 hc;exact (h.oks i c (by rw [← e];exact List.getElem?_eq_getElem hi)).1
theorem Val.chk {n:Nat} {xs:List Cl} (h:Val n xs):mE n xs=0:=by refine wO h.le h.len (Nat.le_refl _) ?_;rw [List.take_length,List.all_eq_true];intro c hc;obtain ⟨i,hi,e⟩:=List.mem_iff_getElem.1 hc;exact h.ok i c (by rw [← e];exact List.getElem?_eq_getElem hi)
theorem Val.chk2 {n:Nat} {xs ys:List Cl} (h:Val n xs) (h2:Val n ys):nS n xs ys=0:=by unfold nS;rw [h.chk,h2.chk];rfl
theorem val_of {d:Int} {xs:List Cl} (h:mE d xs=0):∃ n:Nat,d=n∧Val n xs:=by obtain ⟨d0,d1,la,oka⟩:=mR h;refine ⟨d.toNat,by omega,by omega,by omega,fun i c hi=>?_⟩;exact List.all_eq_true.1 oka c (List.mem_of_getElem? hi)
theorem Dh {n:Nat} {a b:Cl} (ha:jX n a=true) (hb:jX n b=true) (hn:n≤64):jX n (dX a b)=true:=by
 obtain ⟨h1,h2⟩:=gW.1 ha;obtain ⟨h3,h4⟩:=gW.1 hb;have h5:=nU (a:=a) (b:=b) ⟨lR hn h1,h2⟩ ⟨lR hn h3,h4⟩;refine gW.2 ⟨?_,h5.2⟩;show (if joinK a.k a.v b.k b.v=2 then 0 else a.f ||| b.f) < 2 ^ n;split
 ·exact Nat.two_pow_pos n
 ·exact Nat.or_lt_two_pow h1 h3
theorem qX {n:Nat} {xs ys:List Cl} (hx:Val n xs) (hy:Val n ys):Val n (dA xs ys):=by
 refine ⟨hx.le,by simp [dA,hx.len,hy.len],fun i c hi=>?_⟩;simp [dA,List.getElem?_zipWith] at hi;split at hi
 ·rename_i a b ha hb;cases hi;exact Dh (hx.ok i a ha) (hy.ok i b hb) hx.le
 ·cases hi
theorem Di {n:Nat} {xs:List Cl} (hx:Val n xs) {c:Cl} (hc:jX n c=true):∀ m,jX n (kI xs c m)=true
 | 0=>gW.2 ⟨Nat.two_pow_pos n,qV (gW.1 hc).2⟩
 | m+1=>by
  have ih:=Di hx hc m;rw [iA,mF];split
  ·split
   ·rename_i a h;exact Dh ih (hx.ok m a h) hx.le
   ·exact ih
  ·exact ih
theorem Hy {n:Nat} {xs ys:List Cl} (hx:Val n xs) (hy:Val n ys):Val n (gE xs ys):=by refine ⟨hx.le,by simp [gE,hy.len],fun i c hi=>?_⟩;simp [gE] at hi;obtain ⟨y,h1,rfl⟩:=hi;exact Di hx (hy.ok i y h1) _
theorem Hz {n:Nat} (hn:n≤64):Val n (iL n):=by
 refine ⟨hn,lQ n,fun i c hi=>?_⟩;have h1:i < n:=by rw [← lQ n];exact (List.getElem?_eq_some_iff.1 hi).1
 rw [yR h1] at hi;cases hi;exact gW.2 ⟨Nat.pow_lt_pow_right (by decide) h1,by simp [eB,oQ]⟩
theorem Dj {n:Nat} {xs:List Cl} (hx:Val n xs):dA xs xs=xs:=by
 apply List.ext_getElem?;intro i;simp [dA,List.getElem?_zipWith];rcases h:xs[i]? with _ | c
 ·rfl
 ·simp [wR (hx.oks i c h)]
theorem Q8 {n:Nat} {xs ys:List Cl} (hx:Val n xs) (hy:Val n ys):dA xs ys=dA ys xs:=by apply List.ext_getElem?;intro i;simp only [dA,List.getElem?_zipWith];rcases h:xs[i]? with _ | c<;>rcases h2:ys[i]? with _ | c2<;>simp;exact oR (hx.oks i c h) (hy.oks i c2 h2)
theorem zW {n:Nat} {xs ys zs:List Cl} (hx:Val n xs) (hy:Val n ys) (hz:Val n zs):dA (dA xs ys) zs=dA xs (dA ys zs):=by apply List.ext_getElem?;intro i;simp only [dA,List.getElem?_zipWith];rcases h:xs[i]? with _ | c<;>rcases h2:ys[i]? with _ | c2<;>rcases h3:zs[i]? with _ | c3<;>simp;exact fZ (hx.oks i c h) (hy.oks i c2 h2) (hz.oks i c3 h3)
theorem Q9 {n:Nat} {xs ys zs:List Cl} (hx:Val n xs) (hy:Val n ys) (hz:Val n zs):gE xs (dA ys zs)=dA (gE xs ys) (gE xs zs):=by apply List.ext_getElem?;intro i;simp only [dA,gE,List.getElem?_map,List.getElem?_zipWith];rcases h2:ys[i]? with _ | c2<;>rcases h3:zs[i]? with _ | c3<;>simp;exact T9 hx.oks (hy.oks i c2 h2) (hz.oks i c3 h3)
theorem Ra {n:Nat} {xs ys zs:List Cl} (hx:Val n xs) (hy:Val n ys) (hz:Val n zs):gE (dA xs ys) zs=dA (gE xs zs) (gE ys zs):=by apply List.ext_getElem?;intro i;simp only [dA,gE,List.getElem?_map,List.getElem?_zipWith];rcases h3:zs[i]? with _ | c3<;>simp;have h:=Dg (xs:=xs) (ys:=ys) (by rw [hx.len,hy.len]) hx.oks hy.oks (hz.oks i c3 h3) n;have e:=(qX hx hy).len;unfold dA at e h;unfold ofC;rw [e,h,hx.len,hy.len]
theorem Dk {n:Nat} {c:Cl} (hc:jX n c=true):∀ m,m≤n→kI (iL n) c m=⟨c.f % 2 ^ m,c.k,c.v⟩
 | 0,_=>by simp [kI,Nat.mod_one]
 | m+1,hm=>by
  have ih:=Dk hc m (by omega);have hrow:(iL n)[m]?=some (oQ m):=yR (by omega);rw [iA,mF,ih];cases hb:c.f.testBit m
  ·rw [if_neg (by simp)];congr 1;apply Nat.eq_of_testBit_eq;intro i;rw [Nat.testBit_mod_two_pow,Nat.testBit_mod_two_pow];rcases Nat.lt_or_ge i m with h | h
   ·simp [h,Nat.lt_succ_of_lt h]
   ·rcases Nat.eq_or_lt_of_le h with h2 | h2
    ·subst h2;simp [hb]
    ·have e1:¬ i < m:=by omega
     have e2:¬ i < m+1:=by omega
     simp [e1,e2]
  ·rw [if_pos rfl,hrow];have hk:¬ c.k=2:=by intro h2;have:=(gW.1 hc).2;simp [eB,h2] at this;rw [this.2] at hb;simp at hb
   have hk0:c.k=0→c.v=0:=by intro h2;have:=(gW.1 hc).2;simpa [eB,h2] using this
   have hf:c.f % 2 ^ m ||| 2 ^ m=c.f % 2 ^ (m+1):=by
    apply Nat.eq_of_testBit_eq;intro i;rw [Nat.testBit_or,Nat.testBit_mod_two_pow,Nat.testBit_mod_two_pow,Nat.testBit_two_pow];rcases Nat.lt_or_ge i m with h | h
    ·have e3:¬ m=i:=by omega
     simp [h,Nat.lt_succ_of_lt h,e3]
    ·rcases Nat.eq_or_lt_of_le h with h2 | h2
     ·subst h2;simp [hb]
     ·have e1:¬ i < m:=by omega
      have e2:¬ i < m+1:=by omega
      have e3:¬ m=i:=by omega
      simp [e1,e2,e3]
   by_cases h0:c.k=0
   ·simp [dX,joinK,dV,oQ,hk,hf,h0,hk0 h0]
   ·simp [dX,joinK,dV,oQ,hk,hf,h0]
theorem Rb {n:Nat} {xs:List Cl} (hx:Val n xs):gE (iL n) xs=xs:=by
 apply List.ext_getElem?;intro i;simp only [gE,List.getElem?_map];rcases h:xs[i]? with _ | c
 ·rfl
 ·have h2:=Dk (hx.ok i c h) n (Nat.le_refl _);simp;unfold ofC;rw [lQ,h2,Nat.mod_eq_of_lt (gW.1 (hx.ok i c h)).1]
theorem Rc {c:Cl} (h:c.ok):dX ⟨0,0,0⟩ c=c:=by rcases iM h with ⟨f,rfl⟩ | ⟨f,v,rfl⟩ | rfl<;>simp [dX,joinK,dV,jR]
theorem zX {xs:List Cl} {i:Nat}:∀ m,m≤i→kI xs (oQ i) m=⟨0,0,0⟩
 | 0,_=>rfl
 | m+1,h=>by rw [Ns (by simp [oQ,Nat.testBit_two_pow];omega)];exact zX m (by omega)
theorem Rd {n:Nat} {xs:List Cl} (hx:Val n xs) {i:Nat} {c:Cl} (hi:xs[i]?=some c):ofC xs (oQ i)=c:=by
 have h1:i < xs.length:=(List.getElem?_eq_some_iff.1 hi).1;have h2:kI xs (oQ i) (i+1)=c:=by rw [Hu (by simp [oQ,Nat.testBit_two_pow]) hi,zX i (Nat.le_refl _),Rc (hx.oks i c hi)]
 unfold ofC;rw [oP (k:=i+1) (by omega) (fun j h3 h4=>by simp [oQ,Nat.testBit_two_pow];omega),h2]
theorem Re {n:Nat} {xs:List Cl} (hx:Val n xs):gE xs (iL n)=xs:=by
 apply List.ext_getElem?;intro i;simp only [gE,List.getElem?_map];rcases Nat.lt_or_ge i n with h | h
 ·have e:xs[i]?=some (xs[i]'(by rw [hx.len];exact h)):=List.getElem?_eq_getElem _;rw [yR h,e];simp [Rd hx e]
 ·rw [List.getElem?_eq_none (by rw [lQ];exact h),List.getElem?_eq_none (by rw [hx.len];exact h)];rfl
def pc:Nat→Nat→Nat
 | 0,_=>0
 | n+1,f=>pc n f+(if f.testBit n then 1 else 0)
theorem H3:∀ n f,pc n f≤n
 | 0,_=>Nat.le_refl _
 | n+1,f=>by have:=H3 n f;unfold pc;split<;>omega
theorem Fp:∀ {n a b:Nat},(∀ i,i < n→a.testBit i=true→b.testBit i=true)→pc n a≤pc n b
 | 0,_,_,_=>Nat.le_refl _
 | n+1,a,b,h=>by
  have ih:=Fp (n:=n) (a:=a) (b:=b) (fun i hi=>h i (by omega));unfold pc;cases ha:a.testBit n
  ·simp;omega
  ·rw [h n (by omega) ha];simp;omega
theorem Ua:∀ {n a b:Nat},(∀ i,i < n→a.testBit i=true→b.testBit i=true)→(∃ i,i < n∧a.testBit i=false∧b.testBit i=true)→pc n a < pc n b
 | 0,_,_,_,h=>by obtain ⟨i,hi,_⟩:=h;omega
 | n+1,a,b,h,hx=>by
  obtain ⟨i,hi,ha,hb⟩:=hx;rcases Nat.lt_or_ge i n with h1 | h1
  ·have ih:=Ua (n:=n) (a:=a) (b:=b) (fun i hi=>h i (by omega)) ⟨i,h1,ha,hb⟩;unfold pc;cases ha2:a.testBit n
   ·simp;omega
   ·rw [h n (by omega) ha2];simp;omega
  ·obtain rfl:i=n:=by omega
   have ih:=Fp (n:=i) (a:=a) (b:=b) (fun j hj=>h j (by omega));unfold pc;rw [ha,hb];simp;omega
def kJ (n:Nat) (c:Cl):Nat:=if c.k=2 then n+2 else pc n c.f+(if c.k=1 then 1 else 0)
def qY (n:Nat):List Cl→Nat
 | []=>0
 | c::r=>kJ n c+qY n r
theorem rank_le (n:Nat) (c:Cl):kJ n c≤n+2:=by
 have:=H3 n c.f;unfold kJ;split
 ·exact Nat.le_refl _
 ·split<;>omega
theorem H4 (n:Nat):∀ xs:List Cl,qY n xs≤xs.length * (n+2)
 | []=>by simp [qY]
 | c::r=>by have h1:=H4 n r;have h2:=rank_le n c;simp [qY,Nat.add_mul];omega
theorem rank_up {n:Nat} {a b:Cl} (hn:n≤64) (ha:jX n a=true) (hb:jX n b=true) (h:dX a b=b):a=b∨kJ n a < kJ n b:=by
 obtain ⟨fa,ka⟩:=gW.1 ha;obtain ⟨fb,kb⟩:=gW.1 hb;have oa:a.ok:=⟨lR hn fa,ka⟩;have ob:b.ok:=⟨lR hn fb,kb⟩;have fbit:∀ {f g:Nat},f < 2 ^ n→g < 2 ^ n→f ||| g=g→f=g∨pc n f < pc n g:=by
  intro f g hf hg hor;by_cases e:f=g
  ·exact .inl e
  ·right;have hsub:∀ i,f.testBit i=true→g.testBit i=true:=fun i hi=>by rw [← hor,Nat.testBit_or,hi];rfl
   refine Ua (fun i _=>hsub i) ?_;apply Classical.byContradiction;intro hno;apply e;apply Nat.eq_of_testBit_eq;intro i;cases h1:f.testBit i
   ·cases h2:g.testBit i
    ·rfl
    ·exfalso;apply hno;refine ⟨i,?_,h1,h2⟩;rcases Nat.lt_or_ge i n with h3 | h3
     ·exact h3
     ·rw [Nat.testBit_lt_two_pow (Nat.lt_of_lt_of_le hg (Nat.pow_le_pow_right (by decide) h3))] at h2;cases h2
   ·exact (hsub i h1).symm
 have hp:=H3 n a.f;rcases iM oa with ⟨f,rfl⟩ | ⟨f,v,rfl⟩ | rfl<;>rcases iM ob with ⟨f2,rfl⟩ | ⟨f2,v2,rfl⟩ | rfl
 ·simp [dX,joinK,dV] at h;rcases fbit fa fb h with rfl | h2
  ·exact .inl rfl
  ·right;simpa [kJ] using h2
 ·simp [dX,joinK,dV] at h;rcases fbit fa fb h with rfl | h2
  ·right;simp [kJ]
  ·right;simp [kJ];simp at h2;omega
 ·right;simp [kJ,jR];simp at hp;omega
 ·simp [dX,joinK,dV] at h
 ·simp only [dX,joinK,dV,Cl.mk.injEq] at h;by_cases hv:v=v2
  ·subst hv;simp at h;rcases fbit fa fb h with rfl | h2
   ·exact .inl rfl
   ·right;simpa [kJ] using h2
  ·simp [hv] at h
 ·right;simp [kJ,jR];simp at hp;omega
 ·simp [dX,joinK,dV,jR] at h
 ·simp [dX,joinK,dV,jR] at h
 ·exact .inl rfl
theorem H5 {n:Nat} (hn:n≤64):∀ {xs ys:List Cl},xs.length=ys.length→(∀ c∈xs,jX n c=true)→(∀ c∈ys,jX n c=true)→dA xs ys=ys→xs=ys∨qY n xs < qY n ys
 | [],[],_,_,_,_=>.inl rfl
 | [],_::_,h,_,_,_=>by simp at h
 | _::_,[],h,_,_,_=>by simp at h
 | a::r,b::t,h,hx,hy,hb=>by
  simp only [dA,List.zipWith_cons_cons,List.cons.injEq] at hb;have ih:=H5 hn (xs:=r) (ys:=t) (by simpa using h) (fun c hc=>hx c (List.mem_cons_of_mem _ hc)) (fun c hc=>hy c (List.mem_cons_of_mem _ hc)) hb.2;have h1:=rank_up hn (hx a List.mem_cons_self) (hy b List.mem_cons_self) hb.1;rcases h1 with rfl | h1<;>rcases ih with rfl | ih
  ·exact .inl rfl
  ·right;simp [qY];exact ih
  ·right;simp [qY];exact h1
  ·right;simp [qY];omega
theorem Val.all {n:Nat} {xs:List Cl} (h:Val n xs):∀ c∈xs,jX n c=true:=fun c hc=>by obtain ⟨i,hi,e⟩:=List.mem_iff_getElem.1 hc;exact h.ok i c (by rw [← e];exact List.getElem?_eq_getElem hi)
theorem Ub {n:Nat} {xs:List Cl} (hx:Val n xs):qY n xs≤n * (n+2):=by have:=H4 n xs;rw [hx.len] at this;exact this
end
section
open Go.RowKit Go.ChangeShapes Go.WideShapes Go.Deep
section
variable {H:Type} {enc:TypeId×Value→H} {w:World} {base:Nat} {spare:Nat→Bool} {held:Bool}
theorem Lg {n:Nat} {cs:List Value} {x:DataW H×List MemPlace} (h:DataW.trod enc prog w base spare held n 43 cs=some x):∃ a len cap,cs=[.slice a len cap]:=by
 rcases open_slice underlying43 h with ⟨hcs,_⟩ | ⟨ad,len',cap',m,n',D,Pl,hcs,_⟩
 ·exact ⟨_,_,_,hcs⟩
 ·exact ⟨_,_,_,hcs⟩
end
end
section
open Go.RowKit Go.ChangeShapes Go.WideShapes Go.Deep Go.Joins
theorem oS {α:Type}:∀ (n:Nat) (p:Nat→α→Prop),(∀ i,i < n→∃ c,p i c)→∃ xs:List α,xs.length=n∧∀ i c,xs[i]?=some c→p i c
 | 0,p,h=>⟨[],rfl,fun i c hi=>by simp at hi⟩
 | n+1,p,h=>by
  obtain ⟨xs,hl,hp⟩:=oS n p (fun i hi=>h i (by omega));obtain ⟨c,hc⟩:=h n (by omega);refine ⟨xs++[c],by simp [hl],fun i d hi=>?_⟩;rcases Nat.lt_or_ge i n with h1 | h1
  ·rw [List.getElem?_append_left (by omega)] at hi;exact hp i d hi
  ·obtain ⟨h2,_⟩:=List.getElem?_eq_some_iff.1 hi;simp [hl] at h2;obtain rfl:i=n:=by omega
   rw [List.getElem?_append_right (by omega),hl,Nat.sub_self] at hi;simp at hi;subst hi;exact hc
theorem SIn.more {w:World}:∀ {d e:Nat} {s:SV},d≤e→SIn w d s→SIn w e s
 | 0,_,_,_,h=>h.elim
 | d+1,0,_,hl,_=>by omega
 | d+1,e+1,.mk f ps,hl,⟨h1,h2,h3⟩=>⟨h1,h2,fun p hp=>SIn.more (by omega) (h3 p hp)⟩
theorem WIn.more {w:World}:∀ {d e:Nat} {s:WV},d≤e→WIn w d s→WIn w e s
 | 0,_,_,_,h=>h.elim
 | d+1,0,_,hl,_=>by omega
 | d+1,e+1,.mk f ps,hl,⟨h0,h1,h2,h3⟩=>⟨h0,h1,h2,fun p hp=>WIn.more (by omega) (h3 p hp)⟩
theorem six_len {cs:List Value} (h:cs.length=6):∃ a b c d e f,cs=[a,b,c,d,e,f]:=by
 match cs,h with
 | [a,b,c,d,e,f],_=>exact ⟨a,b,c,d,e,f,rfl⟩
section
variable {H:Type} {enc:TypeId×Value→H} {w:World} {base:Nat} {spare:Nat→Bool} {held:Bool}
end
end
section
open Go.RowKit
def freeT (ops:Array Oper) (t:Nat):Bool:=ops.all fun o=>o.dst != some t
def bH (ops:Array Oper) (i j d:Nat):Bool :=
 (match ops[i]? with | some o=>o.after.any fun e=>e.on == j && Region.binds .any e | none=>false) && (ops[j]?).bind (·.dst) == some d
def dO (ops:Array Oper) (n:Nat):Bool :=
 (List.range ops.size).all fun i=>match ops[i]? with
  | some o=>o.after.all (fun e => !Region.binds .any e || decide (e.on < i)) && (match o.dst with | some d=>decide (d < n) && (List.range ops.size).all (fun j=>j == i || (ops[j]?).bind (·.dst) != some d) | none=>true)
  | none=>true
def kK (ops:Array Oper) (k:Nat):Bool :=
 decide (k+1=ops.size) && (match ops[k]? with | some o=>(List.range k).all fun j=>o.after.any fun e=>e.on == j && Region.binds .any e | none=>false)
section
variable {P:Program} {ops:Array Oper} {Q:Exit→Act→World→Prop} {t0:Array Value} {d0:List Deferred} {G:World→Prop} {I:Nat→Value→World→Prop}
structure RInv (ops:Array Oper) (t0:Array Value) (d0:List Deferred) (G:World→Prop) (I:Nat→Value→World→Prop) (L:Array Bool) (a:Act) (w:World):Prop where
 size:a.tmps.size=t0.size
 defers:a.defers=d0
 frame:∀ t,freeT ops t=true→a.tmps.getD t undef=t0.getD t undef
 glob:G w
 done:∀ i d,(ops[i]?).bind (·.dst)=some d→L.getD i false=true→I i (a.tmps.getD d undef) w
def fH (P:Program) (ops:Array Oper) (Q:Exit→Act→World→Prop) (t0:Array Value) (G:World→Prop) (I:Nat→Value→World→Prop) (i:Nat):Prop :=
 ∀ (a:Act) (w:World),(∀ t,freeT ops t=true→a.eval (.tmp t)=t0.getD t undef)→G w→(∀ j d,bH ops i j d=true→I j (a.eval (.tmp d)) w) →
  wpOp P ops Q i (fun a' w'=>(∃ v,a'=a.put ((ops[i]?).bind (·.dst)) v∧(∀ d,(ops[i]?).bind (·.dst)=some d→I i v w'))∧G w'∧Below w.heap.size w w') a w
def wT (ops:Array Oper) (t0:Array Value) (d0:List Deferred) (G:World→Prop) (I:Nat→Value→World→Prop) (n:Nat) (R:Act→World→Prop):Prop :=
 ∀ (a:Act) (w:World),a.tmps.size=t0.size→a.defers=d0→(∀ t,freeT ops t=true→a.tmps.getD t undef=t0.getD t undef)→G w →
  (∀ i d,i < n→(ops[i]?).bind (·.dst)=some d→I i (a.tmps.getD d undef) w)→R a w
theorem fF:∀ (l:List Bool) (i:Nat),l[i]?=some false→(l.set i true).count false+1=l.count false
 | [],_,h=>by simp at h
 | b::l,0,h=>by simp at h;subst h;simp
 | b::l,i+1,h=>by have:=fF l i (by simpa using h);cases b<;>simp<;>omega
theorem jL {n i:Nat} {o:Oper} (h:dO ops n=true) (ho:ops[i]?=some o):∀ e∈o.after,Region.binds .any e=true→e.on < i:=fun e he hb=>by have hi:i < ops.size:=(Array.getElem?_eq_some_iff.1 ho).1;have h1:=(List.all_eq_true.1 h) i (List.mem_range.2 hi);simp only [ho,Bool.and_eq_true] at h1;have h2:=Array.all_eq_true'.1 h1.1 e he;simp [hb] at h2;exact h2
theorem gX {n i d:Nat} (h:dO ops n=true) (hd:(ops[i]?).bind (·.dst)=some d):d < n∧∀ j,(ops[j]?).bind (·.dst)=some d→j=i:=by
 obtain ⟨o,ho,hd⟩:=Option.bind_eq_some_iff.1 hd;have hi:i < ops.size:=(Array.getElem?_eq_some_iff.1 ho).1;have h1:=(List.all_eq_true.1 h) i (List.mem_range.2 hi);simp only [ho,hd,Bool.and_eq_true,decide_eq_true_eq] at h1;refine ⟨h1.2.1,fun j hj=>?_⟩;have hjs:j < ops.size:=by obtain ⟨o',ho',_⟩:=Option.bind_eq_some_iff.1 hj;exact (Array.getElem?_eq_some_iff.1 ho').1
 have h2:=(List.all_eq_true.1 h1.2.2) j (List.mem_range.2 hjs);rw [Bool.or_eq_true] at h2;rcases h2 with h2 | h2
 ·simpa using h2
 ·simp only [bne_iff_ne,ne_eq] at h2;exact absurd hj h2
theorem gI {n:Nat} {L:Array Bool} (h:dO ops n=true) (hs:L.size=ops.size) (hr:Region.ready .any ops L=[]):∀ i,i < ops.size→L.getD i true=true:=by
 intro i
 induction i using Nat.strongRecOn with
 | _ i ih =>
 intro hi;cases hL:L.getD i true with
 | true=>rfl
 | false =>
  obtain ⟨o,ho⟩:∃ o,ops[i]?=some o:=⟨ops[i],Array.getElem?_eq_getElem hi⟩
  have:i∈Region.ready .any ops L:=mem_ready.2 ⟨hL,o,ho,fun e he hb=>by
   have hlt:=jL h ho e he hb;have h3:=ih e.on hlt (by omega);rw [Array.getD_eq_getD_getElem?] at h3 ⊢;have hes:e.on < L.size:=by omega
   rw [Array.getElem?_eq_getElem hes] at h3 ⊢;simpa using h3⟩
  rw [hr] at this;cases this
theorem tS {a:Act} {o:Option Nat} {v:Value} {d:Nat} (hd:o=some d) (hs:d < a.tmps.size):(a.put o v).tmps.getD d undef=v:=by subst hd;simp [Act.put,hs]
theorem fK {a:Act} {o:Option Nat} {v:Value} {t:Nat} (hd:o≠some t):(a.put o v).tmps.getD t undef=a.tmps.getD t undef:=by
 cases o with
 | none=>rfl
 | some d =>
  have:d≠t:=fun e=>hd (by rw [e])
  simp only [Act.put,Array.getD_eq_getD_getElem?];rw [Array.getElem?_setIfInBounds_ne this]
theorem mX {a:Act} {o:Option Nat} {v:Value}:(a.put o v).tmps.size=a.tmps.size:=by cases o<;>simp [Act.put]
theorem jM {a:Act} {o:Option Nat} {v:Value}:(a.put o v).defers=a.defers:=by cases o<;>rfl
theorem RInv.next {L:Array Bool} {a:Act} {w w':World} {i:Nat} {v:Value} (h:RInv ops t0 d0 G I L a w) (ht:dO ops t0.size=true) (hi:L.getD i true=false)
  (hst:∀ i v w w',G w→I i v w→Below w.heap.size w w'→I i v w') (hI:∀ d,(ops[i]?).bind (·.dst)=some d→I i v w') (hG:G w') (hB:Below w.heap.size w w') :
  RInv ops t0 d0 G I (L.setIfInBounds i true) (a.put ((ops[i]?).bind (·.dst)) v) w' where
 size:=by rw [mX];exact h.size
 defers:=by rw [jM];exact h.defers
 frame:=fun t hf=>by
  rw [fK ?_]
  ·exact h.frame t hf
  ·intro hd;obtain ⟨o,ho,hd⟩:=Option.bind_eq_some_iff.1 hd;have:=Array.all_eq_true'.1 hf o (Array.mem_of_getElem? ho);simp [hd] at this
 glob:=hG
 done:=fun j d hd hj=>by
  by_cases hji:j=i
  ·subst hji;rw [tS hd (by rw [h.size];exact (gX ht hd).1)];exact hI d hd
  ·rw [getD_set_ne false (Ne.symm hji)] at hj;rw [fK (fun e=>hji ((gX ht e).2 j hd))];exact hst _ _ _ _ h.glob (h.done j d hd hj) hB
theorem RInv.deps {L:Array Bool} {a:Act} {w:World} {i:Nat} (h:RInv ops t0 d0 G I L a w) (hi:i∈Region.ready .any ops L):∀ j d,bH ops i j d=true→I j (a.eval (.tmp d)) w:=fun j d hw=>by obtain ⟨_,o,ho,hall⟩:=mem_ready.1 hi;simp only [bH,ho,Bool.and_eq_true,beq_iff_eq] at hw;obtain ⟨e,he,h1⟩:=Array.any_eq_true'.1 hw.1;simp only [Bool.and_eq_true,beq_iff_eq] at h1;have:=hall e he h1.2;rw [h1.1] at this;exact h.done j d hw.2 this
theorem RInv.frameE {L:Array Bool} {a:Act} {w:World} (h:RInv ops t0 d0 G I L a w):∀ t,freeT ops t=true→a.eval (.tmp t)=t0.getD t undef:=fun t ht=>h.frame t ht
theorem Lh (ht:dO ops t0.size=true) (hst:∀ i v w w',G w→I i v w→Below w.heap.size w w'→I i v w')
  (hstep:∀ i,i < ops.size→fH P ops Q t0 G I i) (hfin:wT ops t0 d0 G I ops.size (Q .normal)) :
  ∀ (fuel:Nat) (L:Array Bool) (a:Act) (w:World),L.size=ops.size→L.toList.count false≤fuel→RInv ops t0 d0 G I L a w→wpAny P .any ops Q fuel L a w:=by
 have fin:∀ (L:Array Bool) (a:Act) (w:World),(∀ i,i < ops.size→L.getD i true=true)→L.size=ops.size→RInv ops t0 d0 G I L a w→Q .normal a w:=fun L a w hall hs h =>
  hfin a w h.size h.defers h.frame h.glob fun i d hi hd=>h.done i d hd (by
   have:=hall i hi;rw [Array.getD_eq_getD_getElem?] at this ⊢;rw [Array.getElem?_eq_getElem (by omega)] at this ⊢;simpa using this)
 intro fuel
 induction fuel with
 | zero =>
  intro L a w hs hc h;have hall:∀ i,i < ops.size→L.getD i true=true:=fun i hi=>by
   have hn:false∉L.toList:=List.count_eq_zero.1 (by omega);cases hL:L.getD i true with
   | true=>rfl
   | false =>
    rw [Array.getD_eq_getD_getElem?,Array.getElem?_eq_getElem (by omega)] at hL;exact absurd (by rw [← show L[i]=false by simpa using hL];exact Array.mem_toList_iff.2 (Array.getElem_mem _)) hn
  refine ⟨?_,fin L a w hall hs h⟩;cases hr:Region.ready .any ops L with
  | nil=>rfl
  | cons i rest =>
   have hi:i∈Region.ready .any ops L:=by rw [hr];exact List.mem_cons_self
   obtain ⟨h1,o,ho,_⟩:=mem_ready.1 hi;rw [hall i (Array.getElem?_eq_some_iff.1 ho).1] at h1;cases h1
 | succ fuel ih =>
  intro L a w hs hc h;refine ⟨fun hr=>fin L a w (gI ht hs hr) hs h,fun i hi=>?_⟩;obtain ⟨h1,o,ho,_⟩:=mem_ready.1 hi;have his:i < ops.size:=(Array.getElem?_eq_some_iff.1 ho).1;refine wpOp_mono ?_ (hstep i his a w h.frameE h.glob (h.deps hi));rintro a' w' ⟨⟨v,rfl,hI⟩,hG,hB⟩;refine ih _ _ _ (by simpa using hs) ?_ (h.next ht h1 hst hI hG hB)
  have:L.toList[i]?=some false:=by rw [Array.getD_eq_getD_getElem?,Array.getElem?_eq_getElem (by omega)] at h1;rw [Array.getElem?_toList,Array.getElem?_eq_getElem (by omega)];simpa using h1
  have:=fF _ _ this;rw [Array.toList_setIfInBounds];omega
theorem H6 {k:Nat} (hl:kK ops k=true) (ht:dO ops t0.size=true) (hst:∀ i v w w',G w→I i v w→Below w.heap.size w w'→I i v w')
  (hstep:∀ i,i < k→fH P ops Q t0 G I i) (hfin:wT ops t0 d0 G I k (wpOp P ops Q k (Q .normal))) :
  ∀ (fuel:Nat) (L:Array Bool) (a:Act) (w:World),L.size=ops.size→L.getD k true=false→L.toList.count false≤fuel→RInv ops t0 d0 G I L a w→wpAny P .any ops Q fuel L a w:=by
 simp only [kK,Bool.and_eq_true,decide_eq_true_eq] at hl;obtain ⟨hk,hl⟩:=hl;have cnt:∀ (L:Array Bool) i,L.getD i true=false→L.toList[i]?=some false:=fun L i h1=>by
  rw [Array.getD_eq_getD_getElem?] at h1;rw [Array.getElem?_toList];cases hL:L[i]? with
  | none=>rw [hL] at h1;cases h1
  | some b=>rw [hL] at h1;simpa using h1
 intro fuel
 induction fuel with
 | zero =>
  intro L a w hs hlk hc h;have:=fF _ _ (cnt L k hlk);omega
 | succ fuel ih =>
  intro L a w hs hlk hc h;refine ⟨fun hr=>?_,fun i hi=>?_⟩
  ·rw [gI ht hs hr k (by omega)] at hlk;cases hlk
  ·obtain ⟨h1,o,ho,hdep⟩:=mem_ready.1 hi;have his:i < ops.size:=(Array.getElem?_eq_some_iff.1 ho).1;have hc1:=fF _ _ (cnt L i h1);by_cases hik:i=k
   ·subst hik;simp only [ho] at hl;have hall:∀ j,j < i→L.getD j false=true:=fun j hj=>by have:=List.all_eq_true.1 hl j (List.mem_range.2 hj);obtain ⟨e,he,h2⟩:=Array.any_eq_true'.1 this;simp only [Bool.and_eq_true,beq_iff_eq] at h2;have:=hdep e he h2.2;rw [h2.1] at this;exact this
    refine wpOp_mono ?_ (hfin a w h.size h.defers h.frame h.glob fun j d hj hd=>h.done j d hd (hall j hj));intro a' w' hq;have hnil:Region.ready .any ops (L.setIfInBounds i true)=[]:=by
     cases hr:Region.ready .any ops (L.setIfInBounds i true) with
     | nil=>rfl
     | cons j rest =>
      have hj:j∈Region.ready .any ops (L.setIfInBounds i true):=by rw [hr];exact List.mem_cons_self
      obtain ⟨h5,o',ho',_⟩:=mem_ready.1 hj;have hjs:j < ops.size:=(Array.getElem?_eq_some_iff.1 ho').1;by_cases hji:j=i
      ·subst hji;rw [Array.getD_eq_getD_getElem?,Array.getElem?_eq_getElem (by simpa using (by omega:j < L.size))] at h5;simp at h5
      ·rw [getD_set_ne true (Ne.symm hji)] at h5;have h6:=hall j (by omega);rw [Array.getD_eq_getD_getElem?] at h5 h6;rw [Array.getElem?_eq_getElem (by omega)] at h5 h6;simp at h5 h6;rw [h5] at h6;cases h6
    cases fuel with
    | zero=>exact ⟨hnil,hq⟩
    | succ fuel=>exact ⟨fun _=>hq,by rw [hnil];simp⟩
   ·refine wpOp_mono ?_ (hstep i (by omega) a w h.frameE h.glob (h.deps hi));rintro a' w' ⟨⟨v,rfl,hI⟩,hG,hB⟩;refine ih _ _ _ (by simpa using hs) (by rw [getD_set_ne true hik];exact hlk) ?_ (h.next ht h1 hst hI hG hB);rw [Array.toList_setIfInBounds];omega
theorem oT {a:Act} {w:World} (hG:G w):RInv ops a.tmps a.defers G I (Array.replicate ops.size false) a w where
 size:=rfl
 defers:=rfl
 frame:=fun _ _=>rfl
 glob:=hG
 done:=fun i d _ h=>by rw [Array.getD_eq_getD_getElem?,Array.getElem?_replicate] at h;split at h<;>simp at h
theorem iP (n:Nat):(Array.replicate n false).toList.count false≤n:=by rw [Array.toList_replicate,List.count_replicate_self];exact Nat.le_refl _
theorem tH {id:Nat} {a:Act} {w:World} (hm:P.follows .mixedOrders=true) (G:World→Prop) (I:Nat→Value→World→Prop) (hG:G w.drew)
  (ht:dO ops a.tmps.size=true) (hst:∀ i v w w',G w→I i v w→Below w.heap.size w w'→I i v w')
  (hstep:∀ i,i < ops.size→fH P ops Q a.tmps G I i) (hfin:wT ops a.tmps a.defers G I ops.size (Q .normal)):(Code.region id ops true).wp P Q a w :=
 wp_region_any hm (Lh ht hst hstep hfin _ _ _ _ (by simp) (iP _) (oT hG))
theorem tT {id:Nat} {a:Act} {w:World} (hm:P.follows .mixedOrders=true) (k:Nat) (G:World→Prop) (I:Nat→Value→World→Prop) (hG:G w.drew) (hl:kK ops k=true)
  (ht:dO ops a.tmps.size=true) (hst:∀ i v w w',G w→I i v w→Below w.heap.size w w'→I i v w')
  (hstep:∀ i,i < k→fH P ops Q a.tmps G I i) (hfin:wT ops a.tmps a.defers G I k (wpOp P ops Q k (Q .normal))):(Code.region id ops true).wp P Q a w :=
 wp_region_any hm (H6 hl ht hst hstep hfin _ _ _ _ (by simp) (by
  have hk:k < ops.size:=by simp only [kK,Bool.and_eq_true,decide_eq_true_eq] at hl;omega
  rw [Array.getD_eq_getD_getElem?,Array.getElem?_replicate,if_pos hk];rfl) (iP _) (oT hG))
theorem fI {o:Oper} {y:Nat→Option Bool} (h:o.guard=none):Region.wanted o y=true:=by simp [Region.wanted,h]
theorem nV {a:Act} {o:Oper} {g d:Nat} {b c:Bool} (h:o.guard=some (g,b)) (hd:(ops[g]?).bind (·.dst)=some d) (hv:a.eval (.tmp d) = .bool c):Region.wanted o (yielded ops a.tmps)=(c == b):=by
 have h1:a.tmps[d]?=some (.bool c):=by
  simp only [Act.eval,Array.getD_eq_getD_getElem?] at hv;cases hx:a.tmps[d]? with
  | none=>rw [hx] at hv;simp [undef] at hv
  | some x=>rw [hx] at hv;simpa using hv
 simp [Region.wanted,h,yielded,hd,h1]
theorem fH.value {i:Nat} {o:Oper} (hi:ops[i]?=some o)
  (h:∀ (a:Act) (w:World),(∀ t,freeT ops t=true→a.eval (.tmp t)=t0.getD t undef)→G w→(∀ j d,bH ops i j d=true→I j (a.eval (.tmp d)) w) →
   Region.wanted o (yielded ops a.tmps)=true∧∃ v w',(execOp a.eval o).run P w = .ok (.value v) w'∧I i v w'∧G w'∧Below w.heap.size w w'):fH P ops Q t0 G I i:=fun a w hF hG hD=>by
 obtain ⟨hw,v,w',hr,hI,hG',hB⟩:=h a w hF hG hD;unfold wpOp;simp only [hi,hw,if_true];refine .inl ?_;unfold Oper.wp;rw [hr];exact ⟨⟨v,by simp,fun _ _=>hI⟩,hG',hB⟩
theorem fH.none {i:Nat} {o:Oper} (hi:ops[i]?=some o)
  (h:∀ (a:Act) (w:World),(∀ t,freeT ops t=true→a.eval (.tmp t)=t0.getD t undef)→G w→(∀ j d,bH ops i j d=true→I j (a.eval (.tmp d)) w) →
   Region.wanted o (yielded ops a.tmps)=false∧I i undef w):fH P ops Q t0 G I i:=fun a w hF hG hD=>by
 obtain ⟨hw,hI⟩:=h a w hF hG hD;unfold wpOp;simp only [hi,hw];exact ⟨⟨undef,by simp,fun _ _=>hI⟩,hG,Below.refl _ _⟩
theorem fH.call {i:Nat} {o:Oper} (hi:ops[i]?=some o)
  (h:∀ (a:Act) (w:World),(∀ t,freeT ops t=true→a.eval (.tmp t)=t0.getD t undef)→G w→(∀ j d,bH ops i j d=true→I j (a.eval (.tmp d)) w) →
   Region.wanted o (yielded ops a.tmps)=true∧∃ f args,(execOp a.eval o).run P w = .ok (.enter f args) w ∧
    Calls P f args w fun e w'=>∃ v,e = .returned v∧I i v w'∧G w'∧Below w.heap.size w w'):fH P ops Q t0 G I i:=fun a w hF hG hD=>by
 obtain ⟨hw,f,args,hr,hc⟩:=h a w hF hG hD;unfold wpOp;simp only [hi,hw,if_true];refine .inl ?_;unfold Oper.wp;rw [hr,Oper.upon_enter];refine hc.mono ?_;rintro e w' ⟨v,rfl,hI,hG',hB⟩;exact ⟨⟨v,by simp,fun _ _=>hI⟩,hG',hB⟩
end
abbrev Asr:=Value→World→Prop
def isV (c:Value):Asr:=fun v _=>v=c
def atI:List Asr→Nat→Asr
 | [],_=>fun _ _=>True
 | p::_,0=>p
 | _::l,n+1=>atI l n
def gQ (p:Asr):Prop:=∀ v w w',p v w→Below w.heap.size w w'→p v w'
def mY:List Asr→Prop
 | []=>True
 | p::l=>gQ p∧mY l
theorem aE (c:Value):gQ (isV c):=fun _ _ _ h _=>h
theorem mZ:∀ {L:List Asr},mY L→∀ i v w w',atI L i v w→Below w.heap.size w w'→atI L i v w'
 | [],_,_,_,_,_,_,_=>trivial
 | p::l,h,0,v,w,w',hp,hb=>h.1 v w w' hp hb
 | p::l,h,i+1,v,w,w',hp,hb=>mZ h.2 i v w w' hp hb
def sF (p:Nat→Prop):Nat→Nat→Prop
 | 0,_=>True
 | n+1,k=>p k∧sF p n (k+1)
theorem pM {p:Nat→Prop}:∀ {n k:Nat},sF p n k→∀ i,i < n→p (k+i)
 | n+1,k,h,0,_=>h.1
 | n+1,k,h,i+1,hi=>by
  have:=pM h.2 i (by omega)
  rwa [show k+1+i=k+(i+1) by omega] at this
section
variable {P:Program} {ops:Array Oper} {Q:Exit→Act→World→Prop} {t0:Array Value} {d0:List Deferred} {L:List Asr} {w0:World} {i:Nat} {o:Oper} {p q r:Asr} {x y z:Operand}
abbrev RS (P:Program) (ops:Array Oper) (Q:Exit→Act→World→Prop) (t0:Array Value) (w0:World) (L:List Asr) (i:Nat):Prop:=fH P ops Q t0 (fun w=>Below w0.heap.size w0 w) (atI L) i
theorem yK {id:Nat} {a:Act} {w:World} (hm:P.follows .mixedOrders=true) (L:List Asr) (ht:dO ops a.tmps.size=true) (hst:mY L)
  (hstep:sF (RS P ops Q a.tmps w L) ops.size 0) (hfin:wT ops a.tmps a.defers (fun w'=>Below w.heap.size w w') (atI L) ops.size (Q .normal)):(Code.region id ops true).wp P Q a w :=
 tH hm _ (atI L) ((Below.refl _ _).drew) ht (fun i v w w' _ h hb=>mZ hst i v w w' h hb) (fun i hi=>by have:=pM hstep i hi;rwa [Nat.zero_add] at this) hfin
theorem qZ {id:Nat} {a:Act} {w:World} (hm:P.follows .mixedOrders=true) (k:Nat) (L:List Asr) (hl:kK ops k=true) (ht:dO ops a.tmps.size=true) (hst:mY L)
  (hstep:sF (RS P ops Q a.tmps w L) k 0) (hfin:wT ops a.tmps a.defers (fun w'=>Below w.heap.size w w') (atI L) k (wpOp P ops Q k (Q .normal))):(Code.region id ops true).wp P Q a w :=
 tT hm k _ (atI L) ((Below.refl _ _).drew) hl ht (fun i v w w' _ h hb=>mZ hst i v w w' h hb) (fun i hi=>by have:=pM hstep i hi;rwa [Nat.zero_add] at this) hfin
def fT (ops:Array Oper) (L:List Asr) (i:Nat) (o:Oper):Prop :=
 o.guard=none∨∃ g b d,o.guard=some (g,b)∧(ops[g]?).bind (·.dst)=some d∧bH ops i g d=true∧atI L g=isV (.bool b)
def lS (ops:Array Oper) (L:List Asr) (i:Nat) (o:Oper):Prop :=
 (∃ g b c d,o.guard=some (g,b)∧(ops[g]?).bind (·.dst)=some d∧bH ops i g d=true∧atI L g=isV (.bool c)∧(c == b)=false) ∨
 ∃ g b d,o.guard=some (g,b)∧(ops[g]?).bind (·.dst)=some d∧bH ops i g d=true∧atI L g=isV undef
theorem Fq {a:Act} {o:Oper} {g d:Nat} {b:Bool} (h:o.guard=some (g,b)) (hd:(ops[g]?).bind (·.dst)=some d) (hv:a.eval (.tmp d)=undef):Region.wanted o (yielded ops a.tmps)=false:=by
 unfold Region.wanted;rw [h];show (yielded ops a.tmps g == some b)=false;unfold yielded;rw [hd];show ((match a.tmps[d]? with | some (.bool b)=>some b | _=>none) == some b)=false;have h2:a.tmps.getD d undef=undef:=hv;cases h3:a.tmps[d]? with
 | none=>rfl
 | some v =>
  have h4:v=undef:=by rw [Array.getD_eq_getD_getElem?,h3] at h2;exact h2
  subst h4;rfl
theorem fT.yes {a:Act} {w:World} (h:fT ops L i o) (hD:∀ j d,bH ops i j d=true→atI L j (a.eval (.tmp d)) w):Region.wanted o (yielded ops a.tmps)=true:=by
 rcases h with h | ⟨g,b,d,h,hd,hw,hL⟩
 ·exact fI h
 ·have:=hD g d hw;rw [hL] at this;rw [nV h hd this];simp
theorem lS.no {a:Act} {w:World} (h:lS ops L i o) (hD:∀ j d,bH ops i j d=true→atI L j (a.eval (.tmp d)) w):Region.wanted o (yielded ops a.tmps)=false:=by
 rcases h with ⟨g,b,c,d,h,hd,hw,hL,hne⟩ | ⟨g,b,d,h,hd,hw,hL⟩
 ·have:=hD g d hw;rw [hL] at this;rw [nV h hd this];exact hne
 ·have:=hD g d hw;rw [hL] at this;exact Fq h hd this
def OpI (ops:Array Oper) (t0:Array Value) (L:List Asr) (i:Nat) (x:Operand) (p:Asr):Prop :=
 ∀ (a:Act) (w:World),(∀ t,freeT ops t=true→a.eval (.tmp t)=t0.getD t undef)→(∀ j d,bH ops i j d=true→atI L j (a.eval (.tmp d)) w)→p (a.eval x) w
theorem opF {t:Nat} {v:Value} (hf:freeT ops t=true) (hv:t0.getD t undef=v):OpI ops t0 L i (.tmp t) (isV v):=fun a w hF _=>(hF t hf).trans hv
theorem opD (j t:Nat) (hw:bH ops i j t=true) (hL:atI L j=p):OpI ops t0 L i (.tmp t) p:=fun a w _ hD=>hL▸hD j t hw
theorem opC {v:Value}:OpI ops t0 L i (.const v) (isV v):=fun a w _ _=>rfl
theorem oU (hi:ops[i]?=some o) (hw:fT ops L i o)
  (h:∀ (a:Act) (w:World),(∀ t,freeT ops t=true→a.eval (.tmp t)=t0.getD t undef)→Below w0.heap.size w0 w→(∀ j d,bH ops i j d=true→atI L j (a.eval (.tmp d)) w) →
   ∃ v w',(execOp a.eval o).run P w = .ok (.value v) w'∧atI L i v w'∧Below w.heap.size w w'):RS P ops Q t0 w0 L i :=
 fH.value hi fun a w hF hG hD=>by obtain ⟨v,w',h1,h2,h3⟩:=h a w hF hG hD;exact ⟨hw.yes hD,v,w',h1,h2,hG.trans (h3.mono hG.size),h3⟩
theorem st_none (hi:ops[i]?=some o) (hw:lS ops L i o) (hI:atI L i=isV undef):RS P ops Q t0 w0 L i :=
 fH.none hi fun a w hF hG hD=>⟨hw.no hD,by rw [hI];rfl⟩
def bJ (P:Program) (f:FuncId):Bool:=match P.funcs[f]? with | some fn=>fn.body.isSome && !(fn.name == "runtime.NumGoroutine") | none=>false
theorem lT (P:Program) (ev:Operand→Value) (w:World) (f:FuncId) (args:Array Operand) (ts:Array TypeId) (o:Oper) (h:o.op = .call { callee:=.value (.func f),args:=args,argTypes:=ts }) (hf:ev (.func f) = .func (.func f) #[] #[]) (hb:bJ P f=true):(execOp ev o).run P w = .ok (.enter f (args.map ev)) w:=by
 unfold bJ at hb;cases hx:P.funcs[f]? with
 | none=>rw [hx] at hb;cases hb
 | some fn =>
  rw [hx] at hb;simp only [Bool.and_eq_true,Bool.not_eq_true',beq_eq_false_iff_ne,ne_eq] at hb;obtain ⟨c,hc⟩:=Option.isSome_iff_exists.1 hb.1;unfold execOp;simp only [h];simp [go_sem,resolve,hf,callFunc,hx,hc,hb.2]
def zY (p:Asr) (w:World):Ending→World→Prop:=fun e w'=>∃ v,e = .returned v∧p v w'∧Below w.heap.size w w'
theorem st_call {f:FuncId} {args:Array Operand} {ts:Array TypeId} (hi:ops[i]?=some o) (hop:o.op = .call { callee:=.value (.func f),args:=args,argTypes:=ts }) (hgo:bJ P f=true) (hw:fT ops L i o)
  (hc:∀ (a:Act) (w:World),(∀ t,freeT ops t=true→a.eval (.tmp t)=t0.getD t undef)→Below w0.heap.size w0 w→(∀ j d,bH ops i j d=true→atI L j (a.eval (.tmp d)) w)→Calls P f (args.map a.eval) w (zY (atI L i) w)):RS P ops Q t0 w0 L i :=
 fH.call hi fun a w hF hG hD=>⟨hw.yes hD,f,args.map a.eval,lT P a.eval w f args ts o hop rfl hgo,(hc a w hF hG hD).mono fun e w' ⟨v,h1,h2,h3⟩=>⟨v,h1,h2,hG.trans (h3.mono hG.size),h3⟩⟩
end
abbrev Fr:=List (Nat×Value)
def look:Fr→Nat→Option Value
 | [],_=>none
 | p::l,t=>bif Nat.beq p.1 t then some p.2 else look l t
structure Has (n:Nat) (l:Fr) (a:Act):Prop where
 size:a.tmps.size=n
 defers:a.defers=[]
 at_:∀ t v,look l t=some v→a.tmps.getD t undef=v
theorem Has.put {n:Nat} {l:Fr} {a:Act} {d:Nat} {v:Value} (h:Has n l a) (hd:Nat.blt d n=true):Has n ((d,v)::l) (a.put (some d) v):=by
 have hd':d < n:=Nat.le_of_ble_eq_true hd;refine ⟨by rw [mX];exact h.size,by rw [jM];exact h.defers,fun t u hu=>?_⟩;unfold look at hu;cases hb:Nat.beq d t with
 | true =>
  have:d=t:=Nat.eq_of_beq_eq_true hb
  subst this;simp only [hb,cond_true,Option.some.injEq] at hu;rw [tS rfl (by rw [h.size];exact hd')];exact hu
 | false =>
  simp only [hb,cond_false] at hu;have hne:d≠t:=fun e=>by subst e;rw [Nat.beq_refl] at hb;cases hb
  rw [fK (fun e=>hne (Option.some.inj e))];exact h.at_ t u hu
def evL (l:Fr):Operand→Option Value
 | .tmp t=>look l t
 | .const v=>some v
 | .global g=>some (.pointer (some ⟨g,0,none⟩))
 | .func f=>some (.func (.func f) #[] #[])
theorem Has.ev {n:Nat} {l:Fr} {a:Act} (h:Has n l a):∀ x v,evL l x=some v→a.eval x=v:=by
 intro x v hx;cases x with
 | tmp t=>exact h.at_ t v hx
 | const u=>exact Option.some.inj hx
 | global g=>exact Option.some.inj hx
 | func f=>exact Option.some.inj hx
def Li (l:Fr):Fr→Prop
 | []=>True
 | p::r=>look l p.1=some p.2∧Li l r
theorem Li.at_ {l:Fr}:∀ {r:Fr},Li l r→∀ t v,look r t=some v→look l t=some v
 | [],_,t,v,h=>by cases h
 | p::r,h,t,v,hv=>by
  unfold look at hv;cases hb:Nat.beq p.1 t with
  | true =>
   simp only [hb,cond_true,Option.some.injEq] at hv;rw [← Nat.eq_of_beq_eq_true hb,← hv];exact h.1
  | false =>
   simp only [hb,cond_false] at hv;exact Li.at_ h.2 t v hv
theorem Has.sub {n:Nat} {l r:Fr} {a:Act} (h:Has n l a) (hs:Li l r):Has n r a:=⟨h.size,h.defers,fun t v hv=>h.at_ t v (hs.at_ t v hv)⟩
def H7:Nat→List Value→Fr
 | _,[]=>[]
 | i,v::r=>(i,v)::H7 (i+1) r
theorem H8:∀ (r:List Value) (i t:Nat) (v:Value),look (H7 i r) t=some v→i≤t∧r[t - i]?=some v
 | [],_,_,_,h=>by cases h
 | u::r,i,t,v,h=>by
  unfold H7 look at h;cases hb:Nat.beq i t with
  | true =>
   have:i=t:=Nat.eq_of_beq_eq_true hb
   subst this;simp only [hb,cond_true,Option.some.injEq] at h;simp [h]
  | false =>
   simp only [hb,cond_false] at h;have hne:i≠t:=fun e=>by subst e;rw [Nat.beq_refl] at hb;cases hb
   obtain ⟨h1,h2⟩:=H8 r (i+1) t v h;exact ⟨by omega,by rw [show t - i=(t - (i+1))+1 by omega];exact h2⟩
theorem has_par {n:Nat} {args:List Value} (hn:Nat.ble args.length n=true):Has n (H7 0 args) { tmps:=args.toArray++Array.replicate (n - args.toArray.size) undef,defers:=[] }:=by have hn':args.length≤n:=Nat.le_of_ble_eq_true hn;refine ⟨by simp;omega,rfl,fun t v h=>?_⟩;obtain ⟨_,h2⟩:=H8 _ _ _ _ h;have ht:t < args.length:=(List.getElem?_eq_some_iff.1 h2).1;simp only [Array.getD_eq_getD_getElem?];rw [Array.getElem?_append_left (by simpa using ht)];simp only [Nat.sub_zero] at h2;simp [h2]
section
variable {P:Program} {n:Nat} {Q:Exit→Act→World→Prop} {l:Fr} {W:World} {ops:Array Oper} {os:List Oper}
def eW (P:Program) (n:Nat) (c:Code) (Q:Exit→Act→World→Prop) (l:Fr) (W:World):Prop:=∀ a,Has n l a→c.wp P Q a W
def cO (P:Program) (n:Nat) (ops:Array Oper) (Q:Exit→Act→World→Prop) (os:List Oper) (l:Fr) (W:World):Prop:=∀ a,Has n l a→wpList P ops Q os a W
def XF (Q:Exit→Act→World→Prop) (e:Exit) (n:Nat) (l:Fr) (W:World):Prop:=∀ a,Has n l a→Q e a W
theorem cG {f:FuncId} {fn:Func} {c:Code} {args:List Value} {R:Ending→World→Prop} (hf:P.funcs[f]?=some fn) (hb:fn.body=some c) (hn:fn.ntmps=n) (hl:Nat.ble args.length n=true)
  (h:eW P n c (bodyPost P fn R) (H7 0 args) W):Calls P f args.toArray W R :=
 calls_of_wp hf hb (by subst hn;exact h _ (has_par hl))
theorem aO {x y:Code} (h:eW P n x (Exit.then (y.wp P Q) Q) l W):eW P n (.seq x y) Q l W:=fun a ha=>wp_seq (h a ha)
theorem bP (h:XF Q .normal n l W):eW P n .skip Q l W:=fun a ha=>wp_skip (h a ha)
theorem dT {i:Nat} (h:XF Q (.exit i) n l W):eW P n (.exit i) Q l W:=fun a ha=>wp_exit (h a ha)
theorem bL (h:XF Q .ret n l W):eW P n .ret Q l W:=fun a ha=>wp_ret (h a ha)
theorem bX {i:Nat} {c:Code} (h:eW P n c (Exit.inBlock i Q) l W):eW P n (.block i c) Q l W:=fun a ha=>wp_block (h a ha)
theorem bB {c:Operand} {x y:Code} {b:Bool} (hc:evL l c=some (.bool b)) (ht:b=true→eW P n x Q l W) (hf:b=false→eW P n y Q l W):eW P n (.cond c x y) Q l W :=
 fun a ha=>wp_cond_split (t:=b) (ha.ev _ _ hc) (fun e=>ht e a ha) (fun e=>hf e a ha)
theorem fD {c:Operand} {x y:Code} (hc:evL l c=some (.bool true)) (h:eW P n x Q l W):eW P n (.cond c x y) Q l W:=fun a ha=>wp_cond_true (ha.ev _ _ hc) (h a ha)
theorem tI {c:Operand} {x y:Code} (hc:evL l c=some (.bool false)) (h:eW P n y Q l W):eW P n (.cond c x y) Q l W:=fun a ha=>wp_cond_false (ha.ev _ _ hc) (h a ha)
theorem aQ {id:Nat} (h:cO P n os.toArray Q os l W):eW P n (.region id os.toArray false) Q l W:=fun a ha=>wp_region_lit (h a ha)
theorem eJ {c:Code} (I:Nat→Fr→World→Prop) (m0:Nat) (l0:Fr) (hs:Li l l0) (h0:I m0 l0 W)
  (round:∀ m l W,I m l W→eW P n c (Exit.then (fun a' w'=>∃ m' l',m' < m∧I m' l' w'∧Has n l' a') Q) l W):eW P n (.loop c) Q l W:=fun a ha=>by
 intro b k cs;have key:∀ m l W a,I m l W→Has n l a→∃ e a' w',Q e a' w'∧Arrives P (lone (b.at a (.code c :: .inLoop c::k)) cs W) b k cs e a' w':=by
  intro m
  induction m using Nat.strongRecOn with
  | _ m ih =>
   intro l W a hI ha;obtain ⟨e,a₁,w₁,hq,harr⟩:=round m l W hI a ha b (.inLoop c::k) cs;cases e with
   | normal =>
    obtain ⟨m',l',hlt,hI₁,ha₁⟩:=hq;obtain ⟨e₂,a₂,w₂,hq₂,harr₂⟩:=ih m' hlt l' w₁ a₁ hI₁ ha₁;exact ⟨e₂,a₂,w₂,hq₂,.of_steps (Steps.trans harr (.one step_inLoop)) harr₂⟩
   | exit id=>exact ⟨_,a₁,w₁,hq,.pass (x:=.inLoop c) rfl (fun _ _=>.inl (by simp)) harr⟩
   | goto l=>exact ⟨_,a₁,w₁,hq,.pass (x:=.inLoop c) rfl (fun _ _=>.inl (by simp)) harr⟩
   | ret=>exact ⟨_,a₁,w₁,hq,.pass (x:=.inLoop c) rfl (fun _ _=>.inl (by simp)) harr⟩
   | panic ch=>exact ⟨_,a₁,w₁,hq,.pass (x:=.inLoop c) rfl (fun _ _=>.inl (by simp)) harr⟩
   | outgrown=>exact ⟨_,a₁,w₁,hq,.pass (x:=.inLoop c) rfl (fun _ _=>.inl (by simp)) harr⟩
 obtain ⟨e,a',w',hq,harr⟩:=key m0 l0 W a h0 (ha.sub hs);exact ⟨e,a',w',hq,.of_steps (.one step_loop) harr⟩
theorem XF.thenN {y:Code} (h:eW P n y Q l W):XF (Exit.then (y.wp P Q) Q) .normal n l W:=fun a ha=>h a ha
theorem XF.thenX {i:Nat} {K:Act→World→Prop} (h:XF Q (.exit i) n l W):XF (Exit.then K Q) (.exit i) n l W:=fun a ha=>h a ha
theorem XF.thenR {K:Act→World→Prop} (h:XF Q .ret n l W):XF (Exit.then K Q) .ret n l W:=fun a ha=>h a ha
theorem XF.blkN {i:Nat} (h:XF Q .normal n l W):XF (Exit.inBlock i Q) .normal n l W:=fun a ha=>h a ha
theorem XF.blkR {i:Nat} (h:XF Q .ret n l W):XF (Exit.inBlock i Q) .ret n l W:=fun a ha=>h a ha
theorem XF.blkX {i:Nat} (h:XF Q .normal n l W):XF (Exit.inBlock i Q) (.exit i) n l W:=fun a ha=>by show (if i=i then Q .normal a W else Q (.exit i) a W);rw [if_pos rfl];exact h a ha
theorem XF.round {I:Nat→Fr→World→Prop} {m:Nat} (m':Nat) (l':Fr) (hm:m' < m) (hs:Li l l') (hI:I m' l' W):XF (Exit.then (fun a' w'=>∃ m' l',m' < m∧I m' l' w'∧Has n l' a') Q) .normal n l W :=
 fun a ha=>⟨m',l',hm,hI,ha.sub hs⟩
theorem aP (h:XF Q .normal n l W):cO P n ops Q [] l W:=fun a ha=>h a ha
theorem XF.res {fn:Func} {R:Ending→World→Prop} {v:Value} (hr:∀ a,Has n l a→(results fn a.tmps).run P W = .ok v W) (hR:R (.returned v) W):XF (bodyPost P fn R) .ret n l W :=
 fun a ha=>⟨ha.defers,v,hr a ha,hR⟩
theorem XF.resN {fn:Func} {R:Ending→World→Prop} {v:Value} (hr:∀ a,Has n l a→(results fn a.tmps).run P W = .ok v W) (hR:R (.returned v) W):XF (bodyPost P fn R) .normal n l W :=
 fun a ha=>⟨ha.defers,v,hr a ha,hR⟩
theorem cI {fn:Func} {t:Nat} {v:Value} (hf:fn.results=#[.tmp t]) (hv:look l t=some v):∀ a,Has n l a→(results fn a.tmps).run P W = .ok v W :=
 fun a ha=>by rw [results_tmp hf,ha.at_ t v hv]
theorem Rf {fn:Func} (hf:fn.results=#[]):∀ a,Has n l a→(results fn a.tmps).run P W = .ok (.tuple #[]) W :=
 fun a ha=>by rw [results_none hf]
theorem aI {dst:Option Tmp} {op:Op} {ty:TypeId} {pos:String} {aft:Array Edge} {g d:Nat} {b:Bool} (hd:(ops[g]?).bind (·.dst)=some d) (hv:look l d=some (.bool b))
  (h:cO P n ops Q (⟨dst,op,ty,pos,aft,none⟩::os) l W):cO P n ops Q (⟨dst,op,ty,pos,aft,some (g,b)⟩::os) l W:=fun a ha=>by
 have h1:=h a ha;have hw:Region.wanted ⟨dst,op,ty,pos,aft,some (g,b)⟩ (yielded ops a.tmps)=true:=by rw [nV (ops:=ops) rfl hd (ha.at_ d _ hv)];simp
 unfold wpList at h1 ⊢;rw [hw];rw [show Region.wanted ⟨dst,op,ty,pos,aft,none⟩ (yielded ops a.tmps)=true from rfl] at h1;exact h1
theorem aD {dst:Nat} {op:Op} {ty:TypeId} {pos:String} {aft:Array Edge} {g d:Nat} {b c:Bool} (hd:(ops[g]?).bind (·.dst)=some d) (hv:look l d=some (.bool c)) (hc:(c == b)=false) (hn:Nat.blt dst n=true)
  (h:cO P n ops Q os ((dst,undef)::l) W):cO P n ops Q (⟨some dst,op,ty,pos,aft,some (g,b)⟩::os) l W:=fun a ha=>by
 have hw:Region.wanted ⟨some dst,op,ty,pos,aft,some (g,b)⟩ (yielded ops a.tmps)=false:=by rw [nV (ops:=ops) rfl hd (ha.at_ d _ hv)];exact hc
 unfold wpList;rw [hw];exact h _ (ha.put hn)
theorem cB {d:Nat} {b:Bool} (hv:look l d=some (.bool b)) (ht:b=true→cO P n ops Q os ((d,.bool true)::l) W) (hf:b=false→cO P n ops Q os ((d,.bool false)::l) W):cO P n ops Q os l W:=fun a ha=>by
 have hb:=ha.at_ d _ hv;have key:∀ c,b=c→Has n ((d,.bool c)::l) a:=fun c hc=>⟨ha.size,ha.defers,fun t u hu=>by
  unfold look at hu;cases hx:Nat.beq d t with
  | true =>
   simp only [hx,cond_true,Option.some.injEq] at hu;rw [← Nat.eq_of_beq_eq_true hx,← hu,← hc];exact hb
  | false =>
   simp only [hx,cond_false] at hu;exact ha.at_ t u hu⟩
 cases hc:b with
 | true=>exact ht hc a (key _ hc)
 | false=>exact hf hc a (key _ hc)
variable {d:Nat} {op:Op} {ty:TypeId} {pos:String} {aft:Array Edge} {v:Value}
def gA (P:Program) (l:Fr) (o:Oper) (W:World) (v:Value) (W':World):Prop:=∀ ev:Operand→Value,(∀ x u,evL l x=some u→ev x=u)→(execOp ev o).run P W = .ok (.value v) W'
theorem opV {W':World} (hr:gA P l ⟨some d,op,ty,pos,aft,none⟩ W v W') (hd:Nat.blt d n=true) (h:cO P n ops Q os ((d,v)::l) W'):cO P n ops Q (⟨some d,op,ty,pos,aft,none⟩::os) l W:=fun a ha =>
 wpList_plain rfl fun K hK=>by unfold Oper.wp;rw [hr a.eval ha.ev];exact hK _ _ (h _ (ha.put hd))
theorem aW {x:Operand} (hx:evL l x=some v):gA P l ⟨some d,.move x,ty,pos,aft,none⟩ W (v) W:=fun ev he=>by unfold execOp;simp only [];rw [he x v hx];rfl
theorem aH {x:Operand} (hx:evL l x=some v) (hd:Nat.blt d n=true) (h:cO P n ops Q os ((d,v)::l) W):cO P n ops Q (⟨some d,.move x,ty,pos,aft,none⟩::os) l W:=opV (aW hx) hd h
theorem fU {x:Operand} (hx:evL l x=some v):gA P l ⟨some d,.assign x,ty,pos,aft,none⟩ W (v) W:=fun ev he=>by unfold execOp;simp only [];rw [he x v hx];rfl
theorem aB {x:Operand} (hx:evL l x=some v) (hd:Nat.blt d n=true) (h:cO P n ops Q os ((d,v)::l) W):cO P n ops Q (⟨some d,.assign x,ty,pos,aft,none⟩::os) l W:=opV (fU hx) hd h
theorem eC {x y z:Operand} (hx:evL l x=some (.bool true)) (hy:evL l y=some v):gA P l ⟨some d,.pick x y z,ty,pos,aft,none⟩ W (v) W:=fun ev he=>by unfold execOp;simp only [];rw [he x _ hx,he y _ hy];rfl
theorem bC {x y z:Operand} (hx:evL l x=some (.bool true)) (hy:evL l y=some v) (hd:Nat.blt d n=true) (h:cO P n ops Q os ((d,v)::l) W):cO P n ops Q (⟨some d,.pick x y z,ty,pos,aft,none⟩::os) l W:=opV (eC hx hy) hd h
theorem eD {x y z:Operand} (hx:evL l x=some (.bool false)) (hz:evL l z=some v):gA P l ⟨some d,.pick x y z,ty,pos,aft,none⟩ W (v) W:=fun ev he=>by unfold execOp;simp only [];rw [he x _ hx,he z _ hz];rfl
theorem bR {x y z:Operand} (hx:evL l x=some (.bool false)) (hz:evL l z=some v) (hd:Nat.blt d n=true) (h:cO P n ops Q os ((d,v)::l) W):cO P n ops Q (⟨some d,.pick x y z,ty,pos,aft,none⟩::os) l W:=opV (eD hx hz) hd h
theorem jN {x:Operand} {b:Bool} {t:TypeId} (hx:evL l x=some (.bool b)):gA P l ⟨some d,.unOp .not t x,ty,pos,aft,none⟩ W (.bool (!b)) W:=fun ev he=>by unfold execOp;simp only [];rw [he x _ hx];rfl
theorem fB {x:Operand} {b:Bool} {t:TypeId} (hx:evL l x=some (.bool b)) (hd:Nat.blt d n=true) (h:cO P n ops Q os ((d,.bool (!b))::l) W):cO P n ops Q (⟨some d,.unOp .not t x,ty,pos,aft,none⟩::os) l W:=opV (jN hx) hd h
theorem Lj {x:Operand} {i:Nat} {vs:Array Value} (hx:evL l x=some (.tuple vs)) (hv:vs[i]?=some v):gA P l ⟨some d,.extract x i,ty,pos,aft,none⟩ W (v) W:=fun ev he=>by unfold execOp;simp only [];rw [he x _ hx];simp [Instr.extract,hv]
theorem bZ {x:Operand} {i:Nat} {vs:Array Value} (hx:evL l x=some (.tuple vs)) (hv:vs[i]?=some v) (hd:Nat.blt d n=true) (h:cO P n ops Q os ((d,v)::l) W):cO P n ops Q (⟨some d,.extract x i,ty,pos,aft,none⟩::os) l W:=opV (Lj hx hv) hd h
theorem lF {x:Operand} {t e:TypeId} {ad:Option Addr} {m c:Nat} (ht:P.underlying t=some (.slice e)) (hx:evL l x=some (.slice ad m c)):gA P l ⟨some d,.call { callee:=.builtin .len,args:=#[x],argTypes:=#[t] },ty,pos,aft,none⟩ W (.int .i64 (m:Int)) W:=fun ev he=>by unfold execOp;simp [resolve,invoke,builtin,he x _ hx,Builtin.len_,run_underlying ht,goInt]
theorem cL {x:Operand} {t e:TypeId} {ad:Option Addr} {m c:Nat} (ht:P.underlying t=some (.slice e)) (hx:evL l x=some (.slice ad m c)) (hd:Nat.blt d n=true) (h:cO P n ops Q os ((d,.int .i64 (m:Int))::l) W):cO P n ops Q (⟨some d,.call { callee:=.builtin .len,args:=#[x],argTypes:=#[t] },ty,pos,aft,none⟩::os) l W:=opV (lF ht hx) hd h
end
def dD (lo:Nat) (A W:World):Prop:=A.heap.size≤W.heap.size∧∀ b,lo≤b→b < A.heap.size→W.heap[b]?=A.heap[b]?
theorem dD.refl (lo:Nat) (A:World):dD lo A A:=⟨Nat.le_refl _,fun _ _ _=>rfl⟩
theorem dD.cell {lo:Nat} {A W:World} (h:dD lo A W) {p:Addr} {v:Value} (hp:lo≤p.block) (hc:A.cell? p=some v):W.cell? p=some v :=
 (World.cell?_of_block (h.2 p.block hp (World.block_lt_of_cell? A p hc))).trans hc
theorem dD.mono {lo lo':Nat} {A W:World} (h:dD lo A W) (hl:lo≤lo'):dD lo' A W:=⟨h.1,fun b h1 h2=>h.2 b (Nat.le_trans hl h1) h2⟩
theorem dD.trans {lo:Nat} {A B C:World} (h:dD lo A B) (k:dD lo B C):dD lo A C :=
 ⟨Nat.le_trans h.1 k.1,fun b h1 h2=>(k.2 b h1 (Nat.lt_of_lt_of_le h2 h.1)).trans (h.2 b h1 h2)⟩
theorem aL {A W:World} (h:Below A.heap.size A W) (lo:Nat):dD lo A W:=⟨h.size,fun b _ hb=>h.block b hb⟩
abbrev Own:=List (Nat×List Value×TypeId)
structure GR where
 v:Value
 n:Nat
 xs:List Value
 e:TypeId
 size:Nat
abbrev cV:=List GR
def Value.apart (v u:Value):Prop:=∀ b,v.ownBlock=some b→u.ownBlock≠some b
structure St (w0:World) (O:Own) (G:cV) (K:List (Nat×World)) (W:World):Prop where
 below:Below w0.heap.size w0 W
 own:∀ p∈O,w0.heap.size≤p.1∧W.heap[p.1]?=some (.cells p.2.1.toArray p.2.2 (0,0))
 dist:O.Pairwise (fun p q=>p.1≠q.1)
 kept:∀ q∈K,dD q.1 q.2 W∧∀ p∈O,p.1 < q.1∨q.2.heap.size≤p.1
 rows:∀ g∈G,W.ownsRow w0.heap.size g.e g.size g.v g.n g.xs∧∀ b,g.v.ownBlock=some b→(∀ p∈O,p.1≠b)∧∀ q∈K,b < q.1∨q.2.heap.size≤b
 gdist:G.Pairwise (fun g h=>Value.apart g.v h.v)
section
variable {w0 W:World} {O:Own} {G:cV} {K:List (Nat×World)}
theorem cA {w:World} {b:Nat} {o:Obj} (h:w.heap[b]?=some o):b < w.heap.size:=(Array.getElem?_eq_some_iff.1 h).1
theorem St.start (w:World):St w [] [] [] w:=⟨Below.refl _ _,(fun p h=>by cases h),List.Pairwise.nil,(fun q h=>by cases h),(fun q h=>by cases h),List.Pairwise.nil⟩
theorem St.glt (h:St w0 O G K W) {g:GR} (hg:g∈G) {b:Nat} (hb:g.v.ownBlock=some b):w0.heap.size≤b∧b < W.heap.size:=(h.rows g hg).1.lt b hb
theorem dN {w w':World} {base:Nat} {e:TypeId} {size:Nat} {v:Value} {n:Nat} {xs:List Value} (h:w.ownsRow base e size v n xs) (hb:∀ b,v.ownBlock=some b→w'.heap[b]?=w.heap[b]?):w'.ownsRow base e size v n xs:=by
 refine ⟨h.1,?_⟩;rcases h.2 with h2 | ⟨g,cap,cur,rfl,h3,h4,h5⟩
 ·exact .inl h2
 ·exact .inr ⟨g,cap,cur,rfl,h3,by rw [hb g rfl];exact h4,h5⟩
theorem St.alloc (h:St w0 O G K W) (cs:List Value) (T:TypeId):St w0 ((W.heap.size,cs,T)::O) G K (W.alloc (.cells cs.toArray T)) where
 below:=h.below.alloc h.below.size _
 own:=fun p hp=>by
  rcases List.mem_cons.1 hp with rfl | hp
  ·exact ⟨h.below.size,heap_alloc_new W _⟩
  ·obtain ⟨h1,h2⟩:=h.own p hp;exact ⟨h1,(Below.heap_alloc W _ _ (cA h2)).trans h2⟩
 dist:=List.Pairwise.cons (fun q hq e=>by have:=cA (h.own q hq).2;simp only at e;omega) h.dist
 kept:=fun q hq=>by
  obtain ⟨h1,h2⟩:=h.kept q hq;refine ⟨⟨by have:=h1.1;simp;omega,fun b hb hb2=>(Below.heap_alloc W _ _ (by have:=h1.1;omega)).trans (h1.2 b hb hb2)⟩,fun p hp=>?_⟩;rcases List.mem_cons.1 hp with rfl | hp
  ·exact .inr h1.1
  ·exact h2 p hp
 rows:=fun g hg=>by
  obtain ⟨h1,h2⟩:=h.rows g hg;refine ⟨dN h1 fun b hb=>Below.heap_alloc W _ _ (h.glt hg hb).2,fun b hb=>⟨fun p hp=>?_,(h2 b hb).2⟩⟩;rcases List.mem_cons.1 hp with rfl | hp
  ·have:=(h.glt hg hb).2;simp only;omega
  ·exact (h2 b hb).1 p hp
 gdist:=h.gdist
theorem St.grow {W':World} (h:St w0 O G K W) (hb:Below W.heap.size W W'):St w0 O G K W' where
 below:=h.below.trans (hb.mono h.below.size)
 own:=fun p hp=>by obtain ⟨h1,h2⟩:=h.own p hp;exact ⟨h1,(hb.block _ (cA h2)).trans h2⟩
 dist:=h.dist
 kept:=fun q hq=>by obtain ⟨h1,h2⟩:=h.kept q hq;exact ⟨⟨Nat.le_trans h1.1 hb.size,fun b hb1 hb2=>(hb.block b (Nat.lt_of_lt_of_le hb2 h1.1)).trans (h1.2 b hb1 hb2)⟩,h2⟩
 rows:=fun g hg=>⟨dN (h.rows g hg).1 fun b h1=>hb.block b (h.glt hg h1).2,(h.rows g hg).2⟩
 gdist:=h.gdist
theorem St.call {W':World} (h:St w0 O G K W) (hb:Below W.heap.size W W'):St w0 O G ((W.heap.size,W')::K) W' :=
 let g:=h.grow hb
 ⟨g.below,g.own,g.dist,fun q hq=>by
  rcases List.mem_cons.1 hq with rfl | hq
  ·exact ⟨dD.refl _ _,fun p hp=>.inl (cA (h.own p hp).2)⟩
  ·exact g.kept q hq,(fun r hr=>⟨(g.rows r hr).1,fun b hb=>⟨((g.rows r hr).2 b hb).1,fun q hq=>by
   rcases List.mem_cons.1 hq with rfl | hq
   ·exact .inl (h.glt hr hb).2
   ·exact ((g.rows r hr).2 b hb).2 q hq⟩⟩),g.gdist⟩
theorem St.drew (h:St w0 O G K W):St w0 O G K W.drew:=h.grow (Below.refl _ _).drew
theorem St.at_ (h:St w0 O G K W) (i:Nat) {B:Nat} {cs:List Value} {T:TypeId} (hi:O[i]?=some (B,cs,T)):W.heap[B]?=some (.cells cs.toArray T (0,0)):=(h.own _ (List.mem_of_getElem? hi)).2
theorem St.ge (h:St w0 O G K W) (i:Nat) {B:Nat} {cs:List Value} {T:TypeId} (hi:O[i]?=some (B,cs,T)):w0.heap.size≤B:=(h.own _ (List.mem_of_getElem? hi)).1
theorem St.since (h:St w0 O G K W) (i:Nat) {lo:Nat} {A:World} (hi:K[i]?=some (lo,A)):dD lo A W:=(h.kept _ (List.mem_of_getElem? hi)).1
theorem St.old (h:St w0 O G K W) {p:Addr} {v:Value} (hc:w0.cell? p=some v):W.cell? p=some v:=(h.below.cell (World.block_lt_of_cell? _ _ hc)).trans hc
theorem St.agree (h:St w0 O G K W):dD 0 w0 W:=aL h.below 0
theorem aK {B j:Nat} {cs:List Value} {T:TypeId} {v:Value} (h:W.heap[B]?=some (.cells cs.toArray T (0,0))) (hv:cs[j]?=some v):W.cell? ⟨B,j,none⟩=some v:=by unfold World.cell?;simp [h,hv]
theorem zZ {B j:Nat} {cs:List Value} {T:TypeId} (h:W.heap[B]?=some (.cells cs.toArray T (0,0))):W.frozen? ⟨B,j,none⟩=false:=by unfold World.frozen?;simp [h]
theorem heap_set {B j:Nat} {cs:List Value} {T:TypeId} (v:Value) (h:W.heap[B]?=some (.cells cs.toArray T (0,0))):(W.setCell ⟨B,j,none⟩ v).heap[B]?=some (.cells (cs.set j v).toArray T (0,0)):=by simp only [World.setCell,Array.getElem?_modify,if_true,h,Option.map_some];simp
theorem Uc {x y:Nat×List Value×TypeId} (hx:x.1=y.1):∀ {O:Own} {i:Nat},O[i]?=some x→O.Pairwise (fun p q=>p.1≠q.1)→(O.set i y).Pairwise (fun p q=>p.1≠q.1)
 | [],_,h,_=>by simp at h
 | p::O,0,h,hp=>by
  simp at h;subst h;cases hp with
  | cons a b=>exact List.Pairwise.cons (fun q hq=>by rw [← hx];exact a q hq) b
 | p::O,i+1,h,hp=>by
  cases hp with
  | cons a b =>
   refine List.Pairwise.cons (fun q hq=>?_) (Uc hx (by simpa using h) b);rcases List.mem_or_eq_of_mem_set hq with hq | rfl
   ·exact a q hq
   ·rw [← hx];exact a x (List.mem_of_getElem? (by simpa using h))
theorem pN:∀ {O:Own} {i:Nat} {x y q:Nat×List Value×TypeId},O[i]?=some x→O.Pairwise (fun p q=>p.1≠q.1)→q∈O.set i y→q=y∨(q∈O∧q.1≠x.1)
 | [],_,_,_,_,h,_,_=>by simp at h
 | p::O,0,x,y,q,h,hp,hq=>by
  simp at h;subst h;cases hp with
  | cons a b =>
   rcases List.mem_cons.1 hq with rfl | hq
   ·exact .inl rfl
   ·exact .inr ⟨List.mem_cons_of_mem _ hq,fun e=>a q hq e.symm⟩
 | p::O,i+1,x,y,q,h,hp,hq=>by
  cases hp with
  | cons a b =>
   rcases List.mem_cons.1 hq with rfl | hq
   ·exact .inr ⟨List.mem_cons_self,a x (List.mem_of_getElem? (by simpa using h))⟩
   ·rcases pN (by simpa using h) b hq with h1 | ⟨h1,h2⟩
    ·exact .inl h1
    ·exact .inr ⟨List.mem_cons_of_mem _ h1,h2⟩
theorem St.set (h:St w0 O G K W) (i:Nat) {B:Nat} {cs:List Value} {T:TypeId} (hi:O[i]?=some (B,cs,T)) (j:Nat) (v:Value):St w0 (O.set i (B,cs.set j v,T)) G K (W.setCell ⟨B,j,none⟩ v) where
 below:=h.below.setCell (p:=⟨B,j,none⟩) (h.ge i hi) v
 own:=fun p hp=>by
  rcases pN hi h.dist hp with rfl | ⟨h1,h2⟩
  ·exact ⟨h.ge i hi,heap_set v (h.at_ i hi)⟩
  ·obtain ⟨h3,h4⟩:=h.own p h1;exact ⟨h3,(Below.heap_setCell _ _ _ _ h2).trans h4⟩
 dist:=Uc (x:=(B,cs,T)) (y:=(B,cs.set j v,T)) rfl hi h.dist
 kept:=fun q hq=>by
  obtain ⟨h1,h2⟩:=h.kept q hq;have hB:=h2 _ (List.mem_of_getElem? hi);refine ⟨⟨by have:=h1.1;simpa using this,fun b hb hb2=>(Below.heap_setCell _ _ _ _ (by show b≠B;simp only at hB;omega)).trans (h1.2 b hb hb2)⟩,fun p hp=>?_⟩;rcases pN hi h.dist hp with rfl | ⟨h3,_⟩
  ·exact hB
  ·exact h2 p h3
 rows:=fun g hg=>by
  obtain ⟨h1,h2⟩:=h.rows g hg;refine ⟨dN h1 fun b hb=>Below.heap_setCell _ _ _ _ (fun e=>(h2 b hb).1 _ (List.mem_of_getElem? hi) (by simpa using e.symm)),fun b hb=>⟨fun p hp=>?_,(h2 b hb).2⟩⟩;rcases pN hi h.dist hp with rfl | ⟨h3,_⟩
  ·exact (h2 b hb).1 (B,cs,T) (List.mem_of_getElem? hi)
  ·exact (h2 b hb).1 p h3
 gdist:=h.gdist
theorem St.tail {p:Nat×List Value×TypeId} (h:St w0 (p::O) G K W):St w0 O G K W where
 below:=h.below
 own:=fun q hq=>h.own q (List.mem_cons_of_mem _ hq)
 dist:=by cases h.dist with | cons a b=>exact b
 kept:=fun q hq=>⟨(h.kept q hq).1,fun r hr=>(h.kept q hq).2 r (List.mem_cons_of_mem _ hr)⟩
 rows:=fun g hg=>⟨(h.rows g hg).1,fun b hb=>⟨fun r hr=>((h.rows g hg).2 b hb).1 r (List.mem_cons_of_mem _ hr),((h.rows g hg).2 b hb).2⟩⟩
 gdist:=h.gdist
theorem St.keep (K':List (Nat×World)) (h:St w0 O G K W) (hk:∀ q∈K',q∈K):St w0 O G K' W where
 below:=h.below
 own:=h.own
 dist:=h.dist
 kept:=fun q hq=>h.kept q (hk q hq)
 rows:=fun g hg=>⟨(h.rows g hg).1,fun b hb=>⟨((h.rows g hg).2 b hb).1,fun q hq=>((h.rows g hg).2 b hb).2 q (hk q hq)⟩⟩
 gdist:=h.gdist
theorem St.clear (h:St w0 O G K W):St w0 O G [] W:=h.keep [] (fun q hq=>by cases hq)
theorem St.newG (h:St w0 O G K W) (e:TypeId) (size:Nat):St w0 O (⟨.slice none 0 0,0,[],e,size⟩::G) K W where
 below:=h.below
 own:=h.own
 dist:=h.dist
 kept:=h.kept
 rows:=fun g hg=>by
  rcases List.mem_cons.1 hg with rfl | hg
  ·exact ⟨World.ownsRow_nil _ _ _ _,fun b hb=>by simp [Value.ownBlock] at hb⟩
  ·exact h.rows g hg
 gdist:=List.Pairwise.cons (fun g hg b hb=>by simp [Value.ownBlock] at hb) h.gdist
theorem St.row (h:St w0 O G K W) (i:Nat) {g:GR} (hi:G[i]?=some g):W.ownsRow w0.heap.size g.e g.size g.v g.n g.xs:=(h.rows g (List.mem_of_getElem? hi)).1
theorem lU {P:Program} {w:World} (base:Nat) (t ty e:TypeId) (i:TypeInfo) (z:Value) (ht:P.underlying t=some (.slice e)) (hi:P.info? e=some i) (hz:i.zero=some z) (hzs:z.cells.size=i.size) (hsz:0 < i.size)
  (v:Value) (n:Nat) (xs:List Value) (hown:w.ownsRow base e i.size v n xs) (a:Addr) (m c:Nat) (news:List Value) (hl:news.length=m * i.size) (hnews:∀ j u,news[j]?=some u→w.cell? (a.add j)=some u) (h1:∀ u∈news,u.oneCell'=true)
  (h63:n+m≤maxLen) (hbytes:(n+m) * i.bytes≤140737488355328) (hbase:base≤w.heap.size) :
  ∃ v' w',(Builtin.append_ #[t,t] ty #[v,.slice (some a) m c]).run P w = .ok v' w'∧w'.ownsRow base e i.size v' (n+m) (xs++news)∧w.grownBy w' v.ownBlock∧(v'.ownBlock=v.ownBlock∨v'.ownBlock=some w.heap.size):=by
 obtain ⟨v',w',hr,h2,h3,h4⟩:=run_append_own (P:=P) w base t ty e i z i.size i.bytes ht hi hz rfl rfl hzs hsz v n xs hown a m c news hl hnews h1 h63 hbytes hbase;refine ⟨v',w',hr,h2,h3,?_⟩;cases hv:v'.ownBlock with
 | none =>
  rcases h2.2 with ⟨rfl,hn⟩ | ⟨g,cap,cur,rfl,_⟩
  ·rw [(h4.1 rfl).1];exact .inl rfl
  ·simp [Value.ownBlock] at hv
 | some b =>
  by_cases hvb:v.ownBlock=some b
  ·exact .inl hvb.symm
  ·refine .inr ?_
   -- the block is no old one: append would have had to lie there before
   have hbig:=run_append_own (P:=P) w base t ty e i z i.size i.bytes ht hi hz rfl rfl hzs hsz v n xs hown a m c news hl hnews h1 h63 hbytes hbase;rcases hown.2 with ⟨rfl,rfl⟩ | ⟨g,cap,cur,rfl,hbg,hg,hnc,hcm,hcs,htake⟩
   ·have hx:xs=[]:=List.eq_nil_of_length_eq_zero (by simpa using hown.1);subst hx;by_cases hm:m=0
    ·subst hm;have:=h4.2 ⟨rfl,rfl⟩;subst this;simp [Value.ownBlock] at hv
    ·have hr2:=run_append_nil (P:=P) w t ty e i z ht hi hz a m c news hl hnews (by omega) (by simp only [maxLen] at h63;omega) (by have hb:=hbytes;simp only [Nat.zero_add] at hb;omega);rw [hr2] at hr;simp only [Result.ok.injEq] at hr;rw [← hr.1] at hv;simpa [Value.ownBlock] using hv.symm
   ·by_cases hroom:n+m≤cap
    ·have hfit:n * i.size+news.length≤cur.size:=by rw [hl,hcs,← Nat.add_mul];exact Nat.mul_le_mul_right _ hroom
     have hr2:=run_append_room (P:=P) w t ty e i ht hi g n cap cur hg a m c news hl hnews h1 hroom hfit;rw [hr2] at hr;simp only [Result.ok.injEq] at hr;rw [← hr.1] at hv;exact absurd hv hvb
    ·have holds:∀ j u,xs[j]?=some u→w.cell? ((⟨g,0,none⟩:Addr).add j)=some u:=hown.cells (g:=g) rfl;have hr2:=run_append_grow (P:=P) w t ty e i z ht hi hz ⟨g,0,none⟩ n cap xs hown.1 holds a m c news hl hnews (by omega) (by simp only [maxLen] at h63;omega) (growslice_fits (by omega) hbytes);rw [hr2] at hr;simp only [Result.ok.injEq] at hr;rw [← hr.1] at hv;simpa [Value.ownBlock] using hv.symm
theorem Aa:∀ {G:cV} {i:Nat} {x y q:GR},G[i]?=some x→q∈G.set i y→G.Pairwise (fun g h=>Value.apart g.v h.v)→q=y∨(q∈G∧(Value.apart q.v x.v∨Value.apart x.v q.v))
 | [],_,_,_,_,h,_,_=>by simp at h
 | p::G,0,x,y,q,h,hq,hp=>by
  simp at h;subst h;cases hp with
  | cons a b =>
   rcases List.mem_cons.1 hq with rfl | hq
   ·exact .inl rfl
   ·exact .inr ⟨List.mem_cons_of_mem _ hq,.inr (a q hq)⟩
 | p::G,i+1,x,y,q,h,hq,hp=>by
  cases hp with
  | cons a b =>
   rcases List.mem_cons.1 hq with rfl | hq
   ·exact .inr ⟨List.mem_cons_self,.inl (a x (List.mem_of_getElem? (by simpa using h)))⟩
   ·rcases Aa (by simpa using h) hq b with h1 | ⟨h1,h2⟩
    ·exact .inl h1
    ·exact .inr ⟨List.mem_cons_of_mem _ h1,h2⟩
theorem Ft:∀ {G:cV} {i:Nat} {x y:GR},G[i]?=some x→(∀ q∈G,Value.apart q.v x.v→Value.apart q.v y.v)→(∀ q∈G,Value.apart x.v q.v→Value.apart y.v q.v)→G.Pairwise (fun g h=>Value.apart g.v h.v)→(G.set i y).Pairwise (fun g h=>Value.apart g.v h.v)
 | [],_,_,_,h,_,_,_=>by simp at h
 | p::G,0,x,y,h,k1,k2,hp=>by
  simp at h;subst h;cases hp with
  | cons a b=>exact List.Pairwise.cons (fun q hq=>k2 q (List.mem_cons_of_mem _ hq) (a q hq)) b
 | p::G,i+1,x,y,h,k1,k2,hp=>by
  cases hp with
  | cons a b =>
   have hx:=a x (List.mem_of_getElem? (by simpa using h));refine List.Pairwise.cons (fun q hq=>?_) (Ft (by simpa using h) (fun q hq=>k1 q (List.mem_cons_of_mem _ hq)) (fun q hq=>k2 q (List.mem_cons_of_mem _ hq)) b);rcases List.mem_or_eq_of_mem_set hq with hq | rfl
   ·exact a q hq
   ·exact k1 p List.mem_cons_self hx
theorem St.setG {W':World} (h:St w0 O G K W) (i:Nat) {g:GR} (hi:G[i]?=some g) {v':Value} {n':Nat} {xs':List Value} (hown:W'.ownsRow w0.heap.size g.e g.size v' n' xs') (hgr:W.grownBy W' g.v.ownBlock) (hv:v'.ownBlock=g.v.ownBlock∨v'.ownBlock=some W.heap.size) :
  St w0 O (G.set i ⟨v',n',xs',g.e,g.size⟩) K W' where
 below:=h.below.grown hgr h.below.size (fun k hk=>(h.glt (List.mem_of_getElem? hi) hk).1)
 own:=fun p hp=>by obtain ⟨h1,h2⟩:=h.own p hp;refine ⟨h1,(hgr.block _ (cA h2) (fun e=>?_)).trans h2⟩;exact ((h.rows g (List.mem_of_getElem? hi)).2 p.1 e.symm).1 p hp rfl
 dist:=h.dist
 kept:=fun q hq=>by obtain ⟨h1,h2⟩:=h.kept q hq;refine ⟨⟨Nat.le_trans h1.1 hgr.size,fun b hb hb2=>(hgr.block b (Nat.lt_of_lt_of_le hb2 h1.1) (fun e=>?_)).trans (h1.2 b hb hb2)⟩,h2⟩;have:=((h.rows g (List.mem_of_getElem? hi)).2 b e.symm).2 q hq;omega
 rows:=fun r hr=>by
  rcases Aa hi hr h.gdist with rfl | ⟨hr',hap⟩
  ·refine ⟨hown,fun b hb=>?_⟩;rcases hv with e | e
   ·have hb':g.v.ownBlock=some b:=e▸hb;exact (h.rows g (List.mem_of_getElem? hi)).2 b hb'
   ·have hb':W.heap.size=b:=by rw [show v'.ownBlock=some b from hb] at e;exact (Option.some.inj e).symm
    subst hb';exact ⟨fun p hp e=>by have:=cA (h.own p hp).2;omega,fun q hq=>.inr (h.kept q hq).1.1⟩
  ·refine ⟨dN (h.rows r hr').1 fun b hb=>hgr.block b (h.glt hr' hb).2 (fun e=>?_),(h.rows r hr').2⟩;rcases hap with h1 | h1
   ·exact h1 b hb e.symm
   ·exact h1 b e.symm hb
 gdist:=Ft hi (fun q hq hap b hb e=>by
   rcases hv with e' | e'
   ·exact hap b hb (e'▸e)
   ·rw [show v'.ownBlock=some b from e] at e';have:=(h.glt hq hb).2;have:=Option.some.inj e';omega) (fun q hq hap b hb e=>by
   rcases hv with e' | e'
   ·exact hap b (e'▸hb) e
   ·rw [show v'.ownBlock=some b from hb] at e';have:=(h.glt hq e).2;have:=Option.some.inj e';omega) h.gdist
def setMany (W:World) (B:Nat):Nat→List Value→World
 | _,[]=>W
 | j,v::r=>setMany (W.setCell ⟨B,j,none⟩ v) B (j+1) r
def eQ (cs:List Value):Nat→List Value→List Value
 | _,[]=>cs
 | j,v::r=>eQ (cs.set j v) (j+1) r
theorem St.setMany {T:TypeId} {B:Nat} (i:Nat):∀ (vs:List Value) (j:Nat) {O:Own} {W:World} {cs:List Value},St w0 O G K W→O[i]?=some (B,cs,T)→St w0 (O.set i (B,eQ cs j vs,T)) G K (Go.Proofs.YtbmieipifgailaaGreatDoor.setMany W B j vs)
 | [],j,O,W,cs,h,hi=>by
  have:O.set i (B,cs,T)=O:=by
   apply List.ext_getElem?;intro k;rw [List.getElem?_set];by_cases hk:i=k
   ·subst hk;rw [if_pos rfl];rw [hi];simp [(List.getElem?_eq_some_iff.1 hi).1]
   ·rw [if_neg hk]
  unfold eQ Go.Proofs.YtbmieipifgailaaGreatDoor.setMany;rw [this];exact h
 | v::r,j,O,W,cs,h,hi=>by
  have h1:=h.set i hi j v;have hi2:(O.set i (B,cs.set j v,T))[i]?=some (B,cs.set j v,T):=by rw [List.getElem?_set];rw [if_pos rfl];simp [(List.getElem?_eq_some_iff.1 hi).1]
  have h2:=St.setMany i r (j+1) h1 hi2;rw [List.set_set] at h2;exact h2
end
def aC (W:World) (b o:Nat):List Value→Prop
 | []=>True
 | v::r=>W.cell? ⟨b,o,none⟩=some v∧aC W b (o+1) r
theorem aC.get {W:World} {b:Nat}:∀ {vs:List Value} {o:Nat},aC W b o vs→∀ j v,vs[j]?=some v→W.cell? ⟨b,o+j,none⟩=some v
 | [],_,_,j,v,h=>by simp at h
 | u::r,o,hc,0,v,h=>by simp at h;subst h;exact hc.1
 | u::r,o,hc,j+1,v,h=>by rw [show o+(j+1)=o+1+j by omega];exact aC.get hc.2 j v (by simpa using h)
theorem aC.of {W:World} {b:Nat}:∀ {vs:List Value} {o:Nat},(∀ j v,vs[j]?=some v→W.cell? ⟨b,o+j,none⟩=some v)→aC W b o vs
 | [],_,_=>trivial
 | u::r,o,h=>⟨h 0 u rfl,aC.of fun j v hv=>by rw [show o+1+j=o+(j+1) by omega];exact h (j+1) v (by simpa using hv)⟩
theorem aC.agree {A W:World} {lo b:Nat} (hw:dD lo A W) (hb:lo≤b):∀ {vs:List Value} {o:Nat},aC A b o vs→aC W b o vs
 | [],_,_=>trivial
 | _::_,_,h=>⟨hw.cell hb h.1,aC.agree hw hb h.2⟩
theorem aC.own {W:World} {B:Nat} {cs:List Value} {T:TypeId} (h:W.heap[B]?=some (.cells cs.toArray T (0,0))) {j m:Nat} {vs:List Value} (hv:(cs.drop j).take m=vs):aC W B j vs:=by
 subst hv;refine aC.of fun i v hi=>aK h ?_
 rw [List.getElem?_take] at hi;split at hi
 ·rwa [List.getElem?_drop] at hi
 ·cases hi
section
variable {P:Program} {n:Nat} {Q:Exit→Act→World→Prop} {l:Fr} {w0 W:World} {ops:Array Oper} {os:List Oper} {O:Own} {G:cV} {K:List (Nat×World)}
variable {d:Nat} {ty:TypeId} {pos:String} {aft:Array Edge} {v:Value}
theorem bA {x:Operand} {T:TypeId} {p:Addr} (hT:∀ w,(isAgg T).run P w = .ok false w) (hx:evL l x=some (.pointer (some p))) (hc:W.cell? p=some v):gA P l ⟨some d,.load T x,ty,pos,aft,none⟩ W (v) W:=fun ev he=>by unfold execOp;simp only [];rw [he x _ hx];simp [Instr.loadAt,Instr.sureAddr,loadVar,hT,run_load,hc]
theorem aR {x:Operand} {T:TypeId} {p:Addr} (hT:∀ w,(isAgg T).run P w = .ok false w) (hx:evL l x=some (.pointer (some p))) (hc:W.cell? p=some v) (hd:Nat.blt d n=true) (h:cO P n ops Q os ((d,v)::l) W):cO P n ops Q (⟨some d,.load T x,ty,pos,aft,none⟩::os) l W:=opV (bA hT hx hc) hd h
theorem aY {x:Operand} {T:TypeId} {b o:Nat} {vs:List Value} (hT:∀ w,(isAgg T).run P w = .ok true w) (hS:∀ w,(sizeOf T).run P w = .ok vs.length w) (hx:evL l x=some (.pointer (some ⟨b,o,none⟩))) (hc:aC W b o vs):gA P l ⟨some d,.load T x,ty,pos,aft,none⟩ W (.agg vs.toArray) W:=fun ev he=>by unfold execOp;simp only [];rw [he x _ hx];have:=run_loadCells_list (P:=P) W ⟨b,o,none⟩ vs (fun j u hj=>by rw [Addr.add_lit];exact hc.get j u hj);simp [Instr.loadAt,Instr.sureAddr,loadVar,hT,hS,this]
theorem aT {x:Operand} {T:TypeId} {b o:Nat} {vs:List Value} (hT:∀ w,(isAgg T).run P w = .ok true w) (hS:∀ w,(sizeOf T).run P w = .ok vs.length w) (hx:evL l x=some (.pointer (some ⟨b,o,none⟩))) (hc:aC W b o vs) (hd:Nat.blt d n=true) (h:cO P n ops Q os ((d,.agg vs.toArray)::l) W):cO P n ops Q (⟨some d,.load T x,ty,pos,aft,none⟩::os) l W:=opV (aY hT hS hx hc) hd h
theorem bY {x:Operand} {T:TypeId} {cs:List Value} (hS:St w0 O G K W) (hx:evL l x=some v) (hcs:v.cells=cs.toArray) (hd:Nat.blt d n=true)
  (h:∀ B W',St w0 ((B,cs,T)::O) G K W'→cO P n ops Q os ((d,.pointer (some ⟨B,0,none⟩))::l) W'):cO P n ops Q (⟨some d,.box T x,ty,pos,aft,none⟩::os) l W :=
 opV (W':=W.alloc (.cells cs.toArray T)) (v:=.pointer (some ⟨W.heap.size,0,none⟩)) (fun ev he=>by unfold execOp;simp only [];rw [he x _ hx];simp [Instr.box,newVar,newRow,hcs]) hd (h _ _ (hS.alloc cs T))
theorem bF {T:TypeId} {z:Value} {cs:List Value} (hS:St w0 O G K W) (hz:∀ w,(zeroValue T).run P w = .ok z w) (hcs:z.cells=cs.toArray) (hd:Nat.blt d n=true)
  (h:∀ B W',St w0 ((B,cs,T)::O) G K W'→cO P n ops Q os ((d,.pointer (some ⟨B,0,none⟩))::l) W'):cO P n ops Q (⟨some d,.alloc T,ty,pos,aft,none⟩::os) l W :=
 opV (W':=W.alloc (.cells cs.toArray T)) (v:=.pointer (some ⟨W.heap.size,0,none⟩)) (fun ev he=>by unfold execOp;simp only [];simp [Instr.alloc,newVar,newRow,hz,hcs]) hd (h _ _ (hS.alloc cs T))
theorem Cn {P:Program} {W:World} {p:Addr} {c v:Value} (hc:W.cell? p=some c) (hf:W.frozen? p=false) (hv:v.oneCell'=true):(store p v).run P W = .ok () (W.setCell p v):=by rw [run_store P W p v .plain hv,hc];simp [hf]
theorem iB {P:Program} {B:Nat} {U:TypeId}:∀ (vs:List Value) (j k:Nat) (W:World) (cs:List Value),W.heap[B]?=some (.cells cs.toArray U (0,0))→k+j+vs.length≤cs.length→(∀ u∈vs,u.oneCell'=true) →
  (storeCells ⟨B,k,none⟩ vs j).run P W = .ok () (setMany W B (k+j) vs)
 | [],j,k,W,cs,_,_,_=>by simp [storeCells,setMany]
 | v::r,j,k,W,cs,h,hl,h1=>by
  have hj':k+j < cs.length:=by simp at hl;omega
  have hc:W.cell? ⟨B,k+j,none⟩=some cs[k+j]:=aK h (by simp [hj']);have hfz:=zZ (j:=k+j) h;have ih:=iB (P:=P) r (j+1) k (W.setCell ⟨B,k+j,none⟩ v) (cs.set (k+j) v) (heap_set v h) (by simp at hl ⊢;omega) (fun u hu=>h1 u (List.mem_cons_of_mem _ hu));have hv:=h1 v List.mem_cons_self;unfold setMany;rw [show k+j+1=k+(j+1) by omega];rw [← ih];have hst:=Cn (P:=P) hc hfz hv;simp only [storeCells,Addr.add_lit,Sem.run_bind,hst,Result.andThen_ok]
theorem dK {T U:TypeId} {x y:Operand} {B j i:Nat} {cs cs':List Value} {O':Own} (hS:St w0 O G K W) (hsz:∀ w,(sizeOf T).run P w = .ok 1 w) (hx:evL l x=some (.pointer (some ⟨B,j,none⟩))) (hy:evL l y=some v) (hv:v.oneCell'=true) (hi:O[i]?=some (B,cs,U)) (hj:Nat.blt j cs.length=true)
  (hcs:cs.set j v=cs') (hO:O.set i (B,cs',U)=O') (h:∀ W',St w0 O' G K W'→cO P n ops Q os l W'):cO P n ops Q (⟨none,.store T x y,ty,pos,aft,none⟩::os) l W:=fun a ha=>by
 refine wpList_plain rfl fun K' hK=>?_
 unfold Oper.wp execOp;simp only [];rw [ha.ev x _ hx,ha.ev y _ hy];subst hcs;subst hO;have hj':j < cs.length:=Nat.le_of_ble_eq_true hj;have hc:W.cell? ⟨B,j,none⟩=some cs[j]:=aK (hS.at_ i hi) (by simp [hj']);have hfz:=zZ (j:=j) (hS.at_ i hi);have h2:=h _ (hS.set i hi j v);have hcells:v.cells=#[v]:=by cases v<;>first | rfl | cases hv
 have hst:=iB (P:=P) [v] 0 j W cs (hS.at_ i hi) (by simp;omega) (fun u hu=>by simp at hu;subst hu;exact hv);simp only [Nat.add_zero,Go.Proofs.YtbmieipifgailaaGreatDoor.setMany] at hst
 have:(Instr.storeAt T (.pointer (some ⟨B,j,none⟩)) v).run P W = .ok () (W.setCell ⟨B,j,none⟩ v):=by simp [Instr.storeAt,Instr.sureAddr,storeVar,hsz,hcells,hst]
 simp only [Sem.run_bind,this,Result.andThen_ok,Sem.run_pure,Oper.upon_skip];exact hK _ _ (h2 _ ha)
theorem aU {T U:TypeId} {x y:Operand} {B j i:Nat} {cs cs' vs:List Value} {O':Own} (hS:St w0 O G K W) (hsz:∀ w,(sizeOf T).run P w = .ok vs.length w) (hx:evL l x=some (.pointer (some ⟨B,j,none⟩))) (hy:evL l y=some (.agg vs.toArray)) (hv:vs.all Value.oneCell'=true) (hi:O[i]?=some (B,cs,U)) (hj:Nat.ble (j+vs.length) cs.length=true)
  (hcs:eQ cs j vs=cs') (hO:O.set i (B,cs',U)=O') (h:∀ W',St w0 O' G K W'→cO P n ops Q os l W'):cO P n ops Q (⟨none,.store T x y,ty,pos,aft,none⟩::os) l W:=fun a ha=>by
 refine wpList_plain rfl fun K' hK=>?_
 unfold Oper.wp execOp;simp only [];rw [ha.ev x _ hx,ha.ev y _ hy];subst hcs;subst hO;have hj':j+vs.length≤cs.length:=Nat.le_of_ble_eq_true hj;have h2:=h _ (hS.setMany i vs j hi);have hst:=iB (P:=P) vs 0 j W cs (hS.at_ i hi) (by omega) (fun u hu=>List.all_eq_true.1 hv u hu);rw [Nat.add_zero] at hst
 have:(Instr.storeAt T (.pointer (some ⟨B,j,none⟩)) (.agg vs.toArray)).run P W = .ok () (Go.Proofs.YtbmieipifgailaaGreatDoor.setMany W B j vs):=by simp [Instr.storeAt,Instr.sureAddr,storeVar,hsz,Value.cells,hst]
 simp only [Sem.run_bind,this,Result.andThen_ok,Sem.run_pure,Oper.upon_skip];exact hK _ _ (h2 _ ha)
theorem aV {T:TypeId} {x:Operand} {b o f k:Nat} (hF:∀ w b o,(Instr.fieldAt T (.pointer (some ⟨b,o,none⟩)) f).run P w = .ok (.pointer (some ⟨b,o+k,none⟩)) w) (hx:evL l x=some (.pointer (some ⟨b,o,none⟩))) {o':Nat} (ho:o+k=o'):gA P l ⟨some d,.fieldAddr T x f,ty,pos,aft,none⟩ W (.pointer (some ⟨b,o',none⟩)) W:=fun ev he=>by subst ho;unfold execOp;simp only [];rw [he x _ hx];simp [hF]
theorem aN {T:TypeId} {x:Operand} {b o f k:Nat} (hF:∀ w b o,(Instr.fieldAt T (.pointer (some ⟨b,o,none⟩)) f).run P w = .ok (.pointer (some ⟨b,o+k,none⟩)) w) (hx:evL l x=some (.pointer (some ⟨b,o,none⟩))) {o':Nat} (ho:o+k=o') (hd:Nat.blt d n=true) (h:cO P n ops Q os ((d,.pointer (some ⟨b,o',none⟩))::l) W):cO P n ops Q (⟨some d,.fieldAddr T x f,ty,pos,aft,none⟩::os) l W:=opV (aV hF hx ho) hd h
theorem bE {T e:TypeId} {x y:Operand} {b o m c j k:Nat} {ki:IntKind} {i:Int} (hU:P.underlying T=some (.slice e)) (hS:∀ w,(sizeOf e).run P w = .ok k w) (hx:evL l x=some (.slice (some ⟨b,o,none⟩) m c)) (hy:evL l y=some (.int ki i)) (hi:i=(j:Int)) (hj:j < m) {o':Nat} (ho:o+j * k=o'):gA P l ⟨some d,.indexAddr T x y,ty,pos,aft,none⟩ W (.pointer (some ⟨b,o',none⟩)) W:=fun ev he=>by
  subst ho;subst hi;unfold execOp;simp only [];rw [he x _ hx,he y _ hy];have h0:(0:Int)≤(j:Int):=by omega
  have h1:(j:Int) < (m:Int):=by omega
  simp [Instr.indexAt,asIntOf,run_underlying hU,h0,h1,hS,hj,Addr.add_lit]
theorem cK {T e:TypeId} {x y:Operand} {b o m c j k:Nat} {ki:IntKind} {i:Int} (hU:P.underlying T=some (.slice e)) (hS:∀ w,(sizeOf e).run P w = .ok k w) (hx:evL l x=some (.slice (some ⟨b,o,none⟩) m c)) (hy:evL l y=some (.int ki i)) (hi:i=(j:Int)) (hj:j < m) {o':Nat} (ho:o+j * k=o') (hd:Nat.blt d n=true) (h:cO P n ops Q os ((d,.pointer (some ⟨b,o',none⟩))::l) W):cO P n ops Q (⟨some d,.indexAddr T x y,ty,pos,aft,none⟩::os) l W:=opV (bE hU hS hx hy hi hj ho) hd h
theorem cS {f:FuncId} {args:Array Operand} {ts:Array TypeId} {vs:List Value} {R:Ending→World→Prop} (hS:St w0 O G K W) (hgo:bJ P f=true) (ha:args.toList.map (evL l)=vs.map some) (hc:Calls P f vs.toArray W R)
  (hd:Nat.blt d n=true)
  (h:∀ e W',R e W'→∃ v,e = .returned v∧Below W.heap.size W W'∧(St w0 O G ((W.heap.size,W')::K) W'→cO P n ops Q os ((d,v)::l) W')):cO P n ops Q (⟨some d,.call { callee:=.value (.func f),args:=args,argTypes:=ts },ty,pos,aft,none⟩::os) l W:=fun a hl=>by
 refine wpList_plain rfl fun K' hK=>?_
 unfold Oper.wp;rw [lT P a.eval W f args ts _ rfl rfl hgo,Oper.upon_enter];have hargs:args.map a.eval=vs.toArray:=by
  have key:∀ (xs:List Operand) (us:List Value),xs.map (evL l)=us.map some→xs.map a.eval=us:=by
   intro xs
   induction xs with
   | nil=>intro us h;cases us<;>simp at h ⊢
   | cons x xs ih =>
    intro us h;cases us with
    | nil=>simp at h
    | cons u us =>
     simp only [List.map_cons,List.cons.injEq] at h;simp only [List.map_cons,hl.ev x u h.1,ih us h.2]
  apply Array.ext';rw [Array.toList_map,key _ _ ha]
 rw [hargs];refine hc.mono ?_;intro e W' hRe;obtain ⟨v,rfl,hb,hn⟩:=h e W' hRe;exact hK _ _ (hn (hS.call hb) _ (hl.put hd))
theorem cH {f:FuncId} {args:Array Operand} {ts:Array TypeId} {vs:List Value} {u:Value} (hS:St w0 O G K W) (hgo:bJ P f=true) (ha:args.toList.map (evL l)=vs.map some) (hc:Calls P f vs.toArray W fun e w'=>e = .returned u∧Below W.heap.size W w')
  (hd:Nat.blt d n=true) (h:∀ W',St w0 O G ((W.heap.size,W')::K) W'→cO P n ops Q os ((d,u)::l) W'):cO P n ops Q (⟨some d,.call { callee:=.value (.func f),args:=args,argTypes:=ts },ty,pos,aft,none⟩::os) l W :=
 cS hS hgo ha hc hd fun _ W' hR=>⟨u,hR.1,hR.2,h W'⟩
theorem jS {t e:TypeId} {x y:Operand} {i:Nat} {g:GR} {b o m c:Nat} {news:List Value} {inf:TypeInfo} {z:Value} (hS:St w0 O G K W) (hU:P.underlying t=some (.slice e)) (hinf:P.info? e=some inf) (hz:inf.zero=some z) (hzs:z.cells.size=inf.size) (hsz:0 < inf.size)
  (hi:G[i]?=some g) (he:g.e=e) (hgs:g.size=inf.size) (hx:evL l x=some g.v) (hy:evL l y=some (.slice (some ⟨b,o,none⟩) m c)) (hc:aC W b o news) (hl:news.length=m * inf.size) (h1:news.all Value.oneCell'=true)
  (h63:g.n+m≤maxLen) (hbytes:(g.n+m) * inf.bytes≤140737488355328) (hd:Nat.blt d n=true)
  (h:∀ v' W',St w0 O (G.set i ⟨v',g.n+m,g.xs++news,e,g.size⟩) K W'→cO P n ops Q os ((d,v')::l) W') :
  cO P n ops Q (⟨some d,.call { callee:=.builtin .append,args:=#[x,y],argTypes:=#[t,t] },ty,pos,aft,none⟩::os) l W:=by
 subst he;have hrow:=hS.row i hi;rw [hgs] at hrow;obtain ⟨v',W',hr,h2,h3,h4⟩:=lU (P:=P) (w:=W) w0.heap.size t ty g.e inf z hU hinf hz hzs hsz g.v g.n g.xs hrow ⟨b,o,none⟩ m c news hl (fun j u hj=>by rw [Addr.add_lit];exact hc.get j u hj) (fun u hu=>List.all_eq_true.1 h1 u hu) h63 hbytes hS.below.size;rw [← hgs] at h2;refine opV (W':=W') (v:=v') (fun ev hev=>?_) hd (h v' W' (hS.setG i hi h2 h3 h4));unfold execOp;simp only [resolve,invoke,builtin,Sem.run_bind,Sem.run_pure,Result.andThen_ok,List.map_toArray,List.map_cons,List.map_nil,hev x _ hx,hev y _ hy,hr]
end
section
variable {P:Program} {n:Nat} {Q:Exit→Act→World→Prop} {l:Fr} {w0 W:World} {ops:Array Oper} {os:List Oper} {O:Own} {G:cV} {K:List (Nat×World)}
variable {d:Nat} {ty:TypeId} {pos:String} {aft:Array Edge} {v:Value} {t u:TypeId} {x y:Operand} {k:IntKind} {a b:Int}
theorem gJ {op:BinOp} {ev:Operand→Value} {r:Value} {p q:Value} (hx:ev x=p) (hy:ev y=q) (hg:(eqGuard op t x y p q).run P W = .ok () W) (h:(binOp op t p q).run P W = .ok r W) :
  (execOp ev ⟨some d,.binOp op t x y u,ty,pos,aft,none⟩).run P W = .ok (.value r) W:=by
 unfold execOp;simp only [hx,hy,Sem.run_bind,hg,Result.andThen_ok,h,Sem.run_pure]
theorem jT {op:BinOp}:(eqGuard op t x y (.int k a) (.int k b)).run P W = .ok () W:=by cases op<;>rfl
theorem tU (hx:evL l x=some (.int k a)) (hy:evL l y=some (.int k b)):gA P l ⟨some d,.binOp .lss t x y u,ty,pos,aft,none⟩ W (.bool (decide (a < b))) W:=fun ev he=>gJ (he x _ hx) (he y _ hy) jT (by simp [binOp,Op.intCmp])
theorem cT (hx:evL l x=some (.int k a)) (hy:evL l y=some (.int k b)) (hd:Nat.blt d n=true) (h:cO P n ops Q os ((d,.bool (decide (a < b)))::l) W):cO P n ops Q (⟨some d,.binOp .lss t x y u,ty,pos,aft,none⟩::os) l W:=opV (tU hx hy) hd h
theorem Ud (hx:evL l x=some (.int k a)) (hy:evL l y=some (.int k b)):gA P l ⟨some d,.binOp .leq t x y u,ty,pos,aft,none⟩ W (.bool (decide (a≤b))) W:=fun ev he=>gJ (he x _ hx) (he y _ hy) jT (by simp [binOp,Op.intCmp])
theorem wU (hx:evL l x=some (.int k a)) (hy:evL l y=some (.int k b)) (hd:Nat.blt d n=true) (h:cO P n ops Q os ((d,.bool (decide (a≤b)))::l) W):cO P n ops Q (⟨some d,.binOp .leq t x y u,ty,pos,aft,none⟩::os) l W:=opV (Ud hx hy) hd h
theorem Lk (hx:evL l x=some (.int k a)) (hy:evL l y=some (.int k b)):gA P l ⟨some d,.binOp .gtr t x y u,ty,pos,aft,none⟩ W (.bool (decide (b < a))) W:=fun ev he=>gJ (he x _ hx) (he y _ hy) jT (by simp [binOp,Op.intCmp])
theorem nZ (hx:evL l x=some (.int k a)) (hy:evL l y=some (.int k b)) (hd:Nat.blt d n=true) (h:cO P n ops Q os ((d,.bool (decide (b < a)))::l) W):cO P n ops Q (⟨some d,.binOp .gtr t x y u,ty,pos,aft,none⟩::os) l W:=opV (Lk hx hy) hd h
theorem rn_geq (hx:evL l x=some (.int k a)) (hy:evL l y=some (.int k b)):gA P l ⟨some d,.binOp .geq t x y u,ty,pos,aft,none⟩ W (.bool (decide (b≤a))) W:=fun ev he=>gJ (he x _ hx) (he y _ hy) jT (by simp [binOp,Op.intCmp])
theorem tV (hx:evL l x=some (.int k a)) (hy:evL l y=some (.int k b)) (hd:Nat.blt d n=true) (h:cO P n ops Q os ((d,.bool (decide (b≤a)))::l) W):cO P n ops Q (⟨some d,.binOp .geq t x y u,ty,pos,aft,none⟩::os) l W:=opV (rn_geq hx hy) hd h
theorem rA (hx:evL l x=some (.int k a)) (hy:evL l y=some (.int k b)):gA P l ⟨some d,.binOp .eql t x y u,ty,pos,aft,none⟩ W (.bool (decide (a=b))) W:=fun ev he=>gJ (he x _ hx) (he y _ hy) jT (by simp [binOp,Op.intCmp];rfl)
theorem cR (hx:evL l x=some (.int k a)) (hy:evL l y=some (.int k b)) (hd:Nat.blt d n=true) (h:cO P n ops Q os ((d,.bool (decide (a=b)))::l) W):cO P n ops Q (⟨some d,.binOp .eql t x y u,ty,pos,aft,none⟩::os) l W:=opV (rA hx hy) hd h
theorem Ab (hx:evL l x=some (.int k a)) (hy:evL l y=some (.int k b)):gA P l ⟨some d,.binOp .neq t x y u,ty,pos,aft,none⟩ W (.bool (decide (a≠b))) W:=fun ev he=>gJ (he x _ hx) (he y _ hy) jT (by simp [binOp,Op.intCmp];by_cases h:a=b<;>simp [h])
theorem dG (hx:evL l x=some (.int k a)) (hy:evL l y=some (.int k b)) (hd:Nat.blt d n=true) (h:cO P n ops Q os ((d,.bool (decide (a≠b)))::l) W):cO P n ops Q (⟨some d,.binOp .neq t x y u,ty,pos,aft,none⟩::os) l W:=opV (Ab hx hy) hd h
theorem Nv {p q:Bool} (hB:P.underlying t=some .bool) (hx:evL l x=some (.bool p)) (hy:evL l y=some (.bool q)):gA P l ⟨some d,.binOp .eql t x y u,ty,pos,aft,none⟩ W (.bool (p == q)) W:=fun ev he=>gJ (he x _ hx) (he y _ hy) rfl (run_eql_bool W t p q hB)
theorem op_eqlB {p q:Bool} (hB:P.underlying t=some .bool) (hx:evL l x=some (.bool p)) (hy:evL l y=some (.bool q)) (hd:Nat.blt d n=true) (h:cO P n ops Q os ((d,.bool (p == q))::l) W):cO P n ops Q (⟨some d,.binOp .eql t x y u,ty,pos,aft,none⟩::os) l W:=opV (Nv hB hx hy) hd h
theorem rn_neqB {p q:Bool} (hB:P.underlying t=some .bool) (hx:evL l x=some (.bool p)) (hy:evL l y=some (.bool q)):gA P l ⟨some d,.binOp .neq t x y u,ty,pos,aft,none⟩ W (.bool (!(p == q))) W:=fun ev he=>gJ (he x _ hx) (he y _ hy) rfl (run_neq_bool W t p q hB)
theorem op_neqB {p q:Bool} (hB:P.underlying t=some .bool) (hx:evL l x=some (.bool p)) (hy:evL l y=some (.bool q)) (hd:Nat.blt d n=true) (h:cO P n ops Q os ((d,.bool (!(p == q)))::l) W):cO P n ops Q (⟨some d,.binOp .neq t x y u,ty,pos,aft,none⟩::os) l W:=opV (rn_neqB hB hx hy) hd h
theorem rn_add {c:Int} (hx:evL l x=some (.int k a)) (hy:evL l y=some (.int k b)) (hw:k.wrap (a+b)=c):gA P l ⟨some d,.binOp .add t x y u,ty,pos,aft,none⟩ W (.int k c) W:=fun ev he=>by subst hw;exact gJ (he x _ hx) (he y _ hy) jT (by simp [binOp,Op.intArith])
theorem cY {c:Int} (hx:evL l x=some (.int k a)) (hy:evL l y=some (.int k b)) (hw:k.wrap (a+b)=c) (hd:Nat.blt d n=true) (h:cO P n ops Q os ((d,.int k c)::l) W):cO P n ops Q (⟨some d,.binOp .add t x y u,ty,pos,aft,none⟩::os) l W:=opV (rn_add hx hy hw) hd h
theorem Ue {c:Int} (hx:evL l x=some (.int k a)) (hy:evL l y=some (.int k b)) (hw:k.wrap (a - b)=c):gA P l ⟨some d,.binOp .sub t x y u,ty,pos,aft,none⟩ W (.int k c) W:=fun ev he=>by subst hw;exact gJ (he x _ hx) (he y _ hy) jT (by simp [binOp,Op.intArith])
theorem op_sub {c:Int} (hx:evL l x=some (.int k a)) (hy:evL l y=some (.int k b)) (hw:k.wrap (a - b)=c) (hd:Nat.blt d n=true) (h:cO P n ops Q os ((d,.int k c)::l) W):cO P n ops Q (⟨some d,.binOp .sub t x y u,ty,pos,aft,none⟩::os) l W:=opV (Ue hx hy hw) hd h
theorem rn_binG {op:BinOp} {p q r:Value} (hx:evL l x=some p) (hy:evL l y=some q) (hg:(eqGuard op t x y p q).run P W = .ok () W) (hr:(binOp op t p q).run P W = .ok r W):gA P l ⟨some d,.binOp op t x y u,ty,pos,aft,none⟩ W r W:=fun ev he=>gJ (he x _ hx) (he y _ hy) hg hr
theorem tW {ev:Operand→Value} (he:∀ x u,evL l x=some u→ev x=u):∀ (xs:List (Nat×Operand)) (us:List (Nat×Value)),xs.map (fun p=>(p.1,evL l p.2))=us.map (fun p=>(p.1,some p.2))→xs.map (fun p=>(p.1,ev p.2))=us
 | [],us,h=>by cases us<;>simp at h ⊢
 | x::xs,us,h=>by
  cases us with
  | nil=>simp at h
  | cons u us =>
   simp only [List.map_cons,List.cons.injEq,Prod.mk.injEq] at h;obtain ⟨⟨h1,h2⟩,h3⟩:=h;simp only [List.map_cons,he _ _ h2,h1,tW he xs us h3]
theorem Ia {T:TypeId} {xs:List (Nat×Operand)} {us:List (Nat×Value)} {cs:Array Value} (hp:xs.map (fun p=>(p.1,evL l p.2))=us.map (fun p=>(p.1,some p.2))) (hb:P.built T us=some cs):gA P l ⟨some d,.build T xs.toArray,ty,pos,aft,none⟩ W (.agg cs) W:=fun ev he=>by
  have h1:=tW he xs us hp;have h2:(Array.map (fun p=>(p.1,ev p.2)) xs.toArray)=us.toArray:=by simp [h1]
  have h3:=run_build W T us.toArray cs (P:=P) (by simpa using hb);unfold execOp;simp only [];rw [h2];simp [h3]
theorem dY {T:TypeId} {xs:List (Nat×Operand)} {us:List (Nat×Value)} {cs:Array Value} (hp:xs.map (fun p=>(p.1,evL l p.2))=us.map (fun p=>(p.1,some p.2))) (hb:P.built T us=some cs) (hd:Nat.blt d n=true) (h:cO P n ops Q os ((d,.agg cs)::l) W):cO P n ops Q (⟨some d,.build T xs.toArray,ty,pos,aft,none⟩::os) l W:=opV (Ia hp hb) hd h
theorem cX {T e:TypeId} {m s:Nat} {xs:List (Nat×Operand)} {us:List (Nat×Value)} {z:Value} {cs:List Value} (hS:St w0 O G K W) (hU:P.underlying T=some (.slice e)) (hs:∀ w,(sizeOf e).run P w = .ok s w) (hz:∀ w,(zeroValue e).run P w = .ok z w)
  (hm:Nat.ble (m * s) 16777216=true) (hm0:Nat.beq (m * s) 0=false) (hp:xs.map (fun p=>(p.1,evL l p.2))=us.map (fun p=>(p.1,some p.2)))
  (hf:Instr.fill (fun i=>some (i * s,s)) ((Array.range (m * s)).map (z.cells[· % z.cells.size]!)) us=some cs.toArray) (hd:Nat.blt d n=true)
  (h:∀ B W',St w0 ((B,cs,e)::O) G K W'→cO P n ops Q os ((d,.slice (some ⟨B,0,none⟩) m m)::l) W'):cO P n ops Q (⟨some d,.buildSlice T m xs.toArray,ty,pos,aft,none⟩::os) l W :=
 opV (W':=W.alloc (.cells cs.toArray e)) (v:=.slice (some ⟨W.heap.size,0,none⟩) m m) (fun ev he=>by
  have h1:=tW he xs us hp;have h2:(Array.map (fun p=>(p.1,ev p.2)) xs.toArray)=us.toArray:=by simp [h1]
  have h4:m * s≤16777216:=Nat.le_of_ble_eq_true hm;have h5:m * s≠0:=fun e=>by rw [e] at hm0;cases hm0
  have h6:¬ (m * s > 2 ^ 24):=by omega
  unfold execOp;simp only [];rw [h2];simp only [Instr.buildSlice,Sem.run_bind,run_underlying hU,Result.andThen_ok,hs,if_neg h6,if_neg h5,hz,Sem.run_pure,hf,newRow,run_newObj_alloc]) hd (h _ _ (hS.alloc cs e))
theorem Fu {T e:TypeId} {ad:Option Addr} {m c j s:Nat} {i:Int} (hU:P.underlying T=some (.slice e)) (hs:∀ w,(sizeOf e).run P w = .ok s w) (hx:evL l x=some (.slice ad m c)) (hy:evL l y=some (.int k i)) (hi:i=(j:Int)) (hj:j≤m) :
  gA P l ⟨some d,.slice T x (some y) none none,ty,pos,aft,none⟩ W (.slice (if c=j then ad else ad.map (·.add (j * s))) (m - j) (c - j)) W:=fun ev he=>by
 subst hi;unfold execOp;simp only [Option.map_some,Option.map_none];rw [he x _ hx,he y _ hy];have h0:(0:Int)≤(j:Int):=by omega
 have h1:(j:Int)≤(m:Int):=by omega
 simp [Instr.sliceAt,Instr.slice,Instr.sliceBounds,Instr.sliceBound,run_underlying hU,asIntOf,hj,hs]
theorem kL {T e:TypeId} {ad:Option Addr} {m c j s:Nat} {i:Int} (hU:P.underlying T=some (.slice e)) (hs:∀ w,(sizeOf e).run P w = .ok s w) (hx:evL l x=some (.slice ad m c)) (hy:evL l y=some (.int k i)) (hi:i=(j:Int)) (hj:j≤m) (hd:Nat.blt d n=true)
  (h:∀ ad',(c=j→ad'=ad)→(c≠j→ad'=ad.map (·.add (j * s)))→cO P n ops Q os ((d,.slice ad' (m - j) (c - j))::l) W):cO P n ops Q (⟨some d,.slice T x (some y) none none,ty,pos,aft,none⟩::os) l W :=
 opV (Fu hU hs hx hy hi hj) hd (h _ (fun e=>if_pos e) (fun e=>if_neg e))
theorem eE {fn:Func} {r:Nat} {T:TypeId} {B o:Nat} {vs:List Value} (hf:fn.results=#[.cell r T]) (hT:∀ w,(isAgg T).run P w = .ok true w) (hS:∀ w,(sizeOf T).run P w = .ok vs.length w) (hl:look l r=some (.pointer (some ⟨B,o,none⟩))) (hc:aC W B o vs) :
  ∀ a,Has n l a→(results fn a.tmps).run P W = .ok (.agg vs.toArray) W:=fun a ha=>by
 have h1:=run_loadCells_list (P:=P) W ⟨B,o,none⟩ vs (fun j u hj=>by rw [Addr.add_lit];exact hc.get j u hj);have h2:=ha.at_ r _ hl;rw [Array.getD_eq_getD_getElem?] at h2;simp [results,hf,h2,asAddr,loadVar,hT,hS,h1]
theorem rB {fn:Func} {r t:Nat} {T:TypeId} {B o:Nat} {vs:List Value} {x:Value} (hf:fn.results=#[.cell r T,.tmp t]) (hT:∀ w,(isAgg T).run P w = .ok true w) (hS:∀ w,(sizeOf T).run P w = .ok vs.length w) (hl:look l r=some (.pointer (some ⟨B,o,none⟩))) (hc:aC W B o vs) (hx:look l t=some x) :
  ∀ a,Has n l a→(results fn a.tmps).run P W = .ok (.tuple #[.agg vs.toArray,x]) W:=fun a ha=>by
 have h1:=run_loadCells_list (P:=P) W ⟨B,o,none⟩ vs (fun j u hj=>by rw [Addr.add_lit];exact hc.get j u hj);have h2:=ha.at_ r _ hl;have h3:=ha.at_ t _ hx;rw [Array.getD_eq_getD_getElem?] at h2 h3;simp [results,hf,h2,h3,asAddr,loadVar,hT,hS,h1]
end
section
variable {P:Program} {n:Nat} {Q:Exit→Act→World→Prop} {l:Fr} {w0 W:World} {ops:Array Oper} {os:List Oper} {O:Own} {G:cV} {K:List (Nat×World)} {L:List Asr} {i:Nat}
def RG (P:Program) (n:Nat) (ops:Array Oper) (Q:Exit→Act→World→Prop) (l:Fr) (W:World) (L:List Asr) (i:Nat):Prop:=∀ a,Has n l a→RS P ops Q a.tmps W L i
def Ib (P:Program) (n:Nat) (ops:Array Oper) (Q:Exit→Act→World→Prop) (l:Fr) (W:World) (L:List Asr):Nat→Nat→Prop
 | 0,_=>True
 | m+1,k=>RG P n ops Q l W L k∧Ib P n ops Q l W L m (k+1)
theorem sG {a:Act} (ha:Has n l a):∀ {m k:Nat},Ib P n ops Q l W L m k→sF (RS P ops Q a.tmps W L) m k
 | 0,_,_=>trivial
 | m+1,k,h=>⟨h.1 a ha,sG ha h.2⟩
def OpG (n:Nat) (ops:Array Oper) (l:Fr) (L:List Asr) (i t:Nat) (p:Asr):Prop:=∀ a,Has n l a→OpI ops a.tmps L i (.tmp t) p
theorem g_fr {t:Nat} {v:Value} (hf:freeT ops t=true) (hv:look l t=some v):OpG n ops l L i t (isV v):=fun a ha=>opF hf (ha.at_ t v hv)
theorem cJ {t:Nat} {v:Value} (hv:look l t=some v) (hf:freeT ops t=true:=by kernel_rfl):OpG n ops l L i t (isV v):=g_fr hf hv
theorem Uf (j:Nat) {t:Nat} {p:Asr} (hw:bH ops i j t=true) (hL:atI L j=p):OpG n ops l L i t p:=fun a ha=>opD j t hw hL
theorem aM (j:Nat) {t:Nat} {p:Asr} (hL:atI L j=p) (hw:bH ops i j t=true:=by kernel_rfl):OpG n ops l L i t p:=Uf j hw hL
def wV (n:Nat) (ops:Array Oper) (l:Fr) (L:List Asr) (i:Nat):Fr→Prop
 | []=>True
 | p::r=>OpG n ops l L i p.1 (isV p.2)∧wV n ops l L i r
theorem jA {t0:Act} (h0:Has n l t0) {a:Act} {w:World} (hF:∀ t,freeT ops t=true→a.eval (.tmp t)=t0.tmps.getD t undef) (hD:∀ j d,bH ops i j d=true→atI L j (a.eval (.tmp d)) w) :
  ∀ {li:Fr},wV n ops l L i li→∀ x u,evL li x=some u→a.eval x=u:=by
 have key:∀ {li:Fr},wV n ops l L i li→∀ t v,look li t=some v→a.eval (.tmp t)=v:=by
  intro li
  induction li with
  | nil=>intro _ t v h;cases h
  | cons p r ih =>
   intro h t v hv;unfold look at hv;cases hb:Nat.beq p.1 t with
   | true =>
    simp only [hb,cond_true,Option.some.injEq] at hv;rw [← Nat.eq_of_beq_eq_true hb,← hv];exact h.1 t0 h0 a w hF hD
   | false =>
    simp only [hb,cond_false] at hv;exact ih h.2 t v hv
 intro li hli x u hx;cases x with
 | tmp t=>exact key hli t u hx
 | const c=>exact Option.some.inj hx
 | global g=>exact Option.some.inj hx
 | func f=>exact Option.some.inj hx
theorem eR (ev:Operand→Value) (dst:Option Tmp) (op:Op) (ty:TypeId) (pos pos':String) (aft aft':Array Edge) (g g':Option (Nat×Bool)):execOp ev ⟨dst,op,ty,pos,aft,g⟩=execOp ev ⟨dst,op,ty,pos',aft',g'⟩:=by unfold execOp;rfl
variable {d:Nat} {op:Op} {ty:TypeId} {pos:String} {aft:Array Edge} {v:Value} {gd:Option (Nat×Bool)}
theorem rgV (li:Fr) (hi:ops[i]?=some ⟨some d,op,ty,pos,aft,gd⟩) (hw:fT ops L i ⟨some d,op,ty,pos,aft,gd⟩) (hli:wV n ops l L i li) (hr:∀ w,Below W.heap.size W w→gA P li ⟨some d,op,ty,pos,#[],none⟩ w v w) (hI:atI L i=isV v):RG P n ops Q l W L i :=
 fun a ha=>oU hi hw fun b w hF hG hD=>⟨v,w,by rw [eR b.eval _ _ _ _ pos _ #[] _ none];exact hr w hG b.eval (jA ha hF hD hli),by rw [hI];rfl,Below.refl _ _⟩
theorem lG (li:Fr) {v':Value} (hi:ops[i]?=some ⟨some d,op,ty,pos,aft,gd⟩) (hw:fT ops L i ⟨some d,op,ty,pos,aft,gd⟩) (hli:wV n ops l L i li) (hr:∀ w,Below W.heap.size W w→gA P li ⟨some d,op,ty,pos,#[],none⟩ w v w) (he:v=v') (hI:atI L i=isV v'):RG P n ops Q l W L i:=by subst he;exact rgV li hi hw hli hr hI
theorem rgP (li:Fr) {p:Asr} (hi:ops[i]?=some ⟨some d,op,ty,pos,aft,gd⟩) (hw:fT ops L i ⟨some d,op,ty,pos,aft,gd⟩) (hli:wV n ops l L i li) (hr:∀ w,Below W.heap.size W w→gA P li ⟨some d,op,ty,pos,#[],none⟩ w v w) (hp:∀ w,Below W.heap.size W w→p v w) (hI:atI L i=p):RG P n ops Q l W L i :=
 fun a ha=>oU hi hw fun b w hF hG hD=>⟨v,w,by rw [eR b.eval _ _ _ _ pos _ #[] _ none];exact hr w hG b.eval (jA ha hF hD hli),by rw [hI];exact hp w hG,Below.refl _ _⟩
theorem bI (hi:ops[i]?=some ⟨some d,op,ty,pos,aft,gd⟩) (hw:lS ops L i ⟨some d,op,ty,pos,aft,gd⟩) (hI:atI L i=isV undef):RG P n ops Q l W L i:=fun a ha=>st_none hi hw hI
theorem aS {o:Oper} (h:o.guard=none):fT ops L i o:=.inl h
theorem w_yes {o:Oper} {g:Nat} {b:Bool} (d:Nat) (h:o.guard=some (g,b)) (hd:(ops[g]?).bind (·.dst)=some d) (hw:bH ops i g d=true) (hL:atI L g=isV (.bool b)):fT ops L i o:=.inr ⟨g,b,d,h,hd,hw,hL⟩
theorem bD {o:Oper} {g:Nat} {b:Bool} (d:Nat) (h:o.guard=some (g,b)) (hL:atI L g=isV (.bool b)) (hd:(ops[g]?).bind (·.dst)=some d:=by kernel_rfl) (hw:bH ops i g d=true:=by kernel_rfl):fT ops L i o:=w_yes d h hd hw hL
theorem w_no {o:Oper} {g:Nat} {b c:Bool} (d:Nat) (h:o.guard=some (g,b)) (hd:(ops[g]?).bind (·.dst)=some d) (hw:bH ops i g d=true) (hL:atI L g=isV (.bool c)) (hc:(c == b)=false):lS ops L i o:=.inl ⟨g,b,c,d,h,hd,hw,hL,hc⟩
theorem bK {o:Oper} {g:Nat} {b c:Bool} (d:Nat) (h:o.guard=some (g,b)) (hL:atI L g=isV (.bool c)) (hc:(c == b)=false) (hd:(ops[g]?).bind (·.dst)=some d:=by kernel_rfl) (hw:bH ops i g d=true:=by kernel_rfl):lS ops L i o:=w_no d h hd hw hL hc
theorem w_un {o:Oper} {g:Nat} {b:Bool} (d:Nat) (h:o.guard=some (g,b)) (hd:(ops[g]?).bind (·.dst)=some d) (hw:bH ops i g d=true) (hL:atI L g=isV undef):lS ops L i o:=.inr ⟨g,b,d,h,hd,hw,hL⟩
theorem qJ {o:Oper} {g:Nat} {b:Bool} (d:Nat) (h:o.guard=some (g,b)) (hL:atI L g=isV undef) (hd:(ops[g]?).bind (·.dst)=some d:=by kernel_rfl) (hw:bH ops i g d=true:=by kernel_rfl):lS ops L i o:=w_un d h hd hw hL
def tC (n:Nat) (ops:Array Oper) (l:Fr) (L:List Asr) (i:Nat):List Operand→List Asr→Prop
 | [],[]=>True
 | x::xs,p::ps=>(∀ a,Has n l a→OpI ops a.tmps L i x p)∧tC n ops l L i xs ps
 | _,_=>False
def lV:List Asr→List Value→World→Prop
 | [],[],_=>True
 | p::ps,v::vs,w=>p v w∧lV ps vs w
 | _,_,_=>False
theorem bT {t:Nat} {p:Asr} (h:OpG n ops l L i t p):∀ a,Has n l a→OpI ops a.tmps L i (.tmp t) p:=h
theorem gF {c:Value}:∀ a,Has n l a→OpI ops a.tmps L i (.const c) (isV c):=fun a ha=>opC
theorem gB {t0:Act} (h0:Has n l t0) {a:Act} {w:World} (hF:∀ t,freeT ops t=true→a.eval (.tmp t)=t0.tmps.getD t undef) (hD:∀ j d,bH ops i j d=true→atI L j (a.eval (.tmp d)) w) :
  ∀ {xs:List Operand} {ps:List Asr},tC n ops l L i xs ps→lV ps (xs.map a.eval) w
 | [],[],_=>trivial
 | x::xs,p::ps,h=>⟨h.1 t0 h0 a w hF hD,gB h0 hF hD h.2⟩
 | [],_::_,h=>h.elim
 | _::_,[],h=>h.elim
theorem cN {f:FuncId} {xs:List Operand} {ts:Array TypeId} (ps:List Asr) (hi:ops[i]?=some ⟨some d,.call { callee:=.value (.func f),args:=xs.toArray,argTypes:=ts },ty,pos,aft,gd⟩) (hgo:bJ P f=true)
  (hw:fT ops L i ⟨some d,.call { callee:=.value (.func f),args:=xs.toArray,argTypes:=ts },ty,pos,aft,gd⟩) (hp:tC n ops l L i xs ps)
  {p:Asr} (hc:∀ vs w,Below W.heap.size W w→lV ps vs w→Calls P f vs.toArray w (zY p w)) (hI:atI L i=p):RG P n ops Q l W L i :=
 fun a ha=>st_call hi rfl hgo hw fun b w hF hG hD=>by
  have:=hc (xs.map b.eval) w hG (gB ha hF hD hp);subst hI
  rwa [show (xs.map b.eval).toArray=xs.toArray.map b.eval by simp] at this
theorem Fv {T e:TypeId} {m s:Nat} {xs:List (Nat×Operand)} {z:Value} (ps:List Asr) (hi:ops[i]?=some ⟨some d,.buildSlice T m xs.toArray,ty,pos,aft,gd⟩) (hw:fT ops L i ⟨some d,.buildSlice T m xs.toArray,ty,pos,aft,gd⟩)
  (hU:P.underlying T=some (.slice e)) (hs:∀ w,(sizeOf e).run P w = .ok s w) (hz:∀ w,(zeroValue e).run P w = .ok z w) (hm:Nat.ble (m * s) 16777216=true) (hm0:Nat.beq (m * s) 0=false) (hp:tC n ops l L i (xs.map (·.2)) ps)
  (hf:∀ vs w,Below W.heap.size W w→lV ps vs w→∃ cs:List Value,Instr.fill (fun i=>some (i * s,s)) ((Array.range (m * s)).map (z.cells[· % z.cells.size]!)) ((xs.map (·.1)).zip vs)=some cs.toArray ∧
   ∀ B w',w.heap.size=B→w'.heap[B]?=some (.cells cs.toArray e (0,0))→Below w.heap.size w w'→atI L i (.slice (some ⟨B,0,none⟩) m m) w'):RG P n ops Q l W L i :=
 fun a ha=>oU hi hw fun b w hF hG hD=>by
  obtain ⟨cs,h1,h2⟩:=hf _ w hG (gB ha hF hD hp);have h4:m * s≤16777216:=Nat.le_of_ble_eq_true hm;have h5:m * s≠0:=fun e=>by rw [e] at hm0;cases hm0
  have h6:¬ (m * s > 2 ^ 24):=by omega
  have h7:((xs.map (·.1)).zip ((xs.map (·.2)).map b.eval))=xs.map (fun p=>(p.1,b.eval p.2)):=by
   clear hi hw hp h1 hf h2
   induction xs with
   | nil=>rfl
   | cons x xs ih=>simp only [List.map_cons,List.zip_cons_cons,ih]
  rw [h7] at h1;have hB:Below w.heap.size w (w.alloc (.cells cs.toArray e)):=(Below.refl _ _).alloc (Nat.le_refl _) _;refine ⟨_,w.alloc (.cells cs.toArray e),?_,h2 _ _ rfl (heap_alloc_new w _) hB,hB⟩;unfold execOp;simp only [];rw [show (Array.map (fun p=>(p.1,b.eval p.2)) xs.toArray)=(xs.map (fun p=>(p.1,b.eval p.2))).toArray by simp];simp only [Instr.buildSlice,Sem.run_bind,run_underlying hU,Result.andThen_ok,hs,if_neg h6,if_neg h5,hz,Sem.run_pure,h1,newRow,run_newObj_alloc]
def jY:List Oper→List Asr→Fr→(Fr→World→Prop)→World→Prop
 | [],_,l,K,W=>K l W
 | o::os,L,l,K,W=>∀ v,atI L 0 v W→jY os L.tail ((match o.dst with | some d=>[(d,v)] | none=>[])++l) K W
theorem aG {c:Value} {K:Fr→World→Prop} {dst:Nat} {op:Op} {ty:TypeId} {pos:String} {aft:Array Edge} {g:Option (Nat×Bool)} (h:jY os L ((dst,c)::l) K W):jY (⟨some dst,op,ty,pos,aft,g⟩::os) (isV c::L) l K W:=fun v hv=>by
 have:v=c:=hv
 subst this;exact h
theorem dF {p:Asr} {K:Fr→World→Prop} {dst:Nat} {op:Op} {ty:TypeId} {pos:String} {aft:Array Edge} {g:Option (Nat×Bool)} (h:∀ v,p v W→jY os L ((dst,v)::l) K W):jY (⟨some dst,op,ty,pos,aft,g⟩::os) (p::L) l K W:=fun v hv=>h v hv
theorem cM {K:Fr→World→Prop} (h:K l W):jY [] L l K W:=h
theorem rC (L:List Asr) (i:Nat):atI L.tail i=atI L (i+1):=by cases L<;>rfl
theorem pO {a:Act} {K:Fr→World→Prop} {G:Prop}:∀ (os:List Oper) (L:List Asr) (l:Fr),(∀ i d,i < os.length→(os[i]?).bind (·.dst)=some d→atI L i (a.tmps.getD d undef) W)→a.tmps.size=n→a.defers=[] →
  (∀ t v,look l t=some v→(∀ o∈os,o.dst≠some t)→a.tmps.getD t undef=v)→(∀ o∈os,∃ d,o.dst=some d)→(hK:∀ l',K l' W→Has n l' a→G)→jY os L l K W→G
 | [],L,l,hI,hs,hd,hl,_,hK,h=>hK l h ⟨hs,hd,fun t v hv=>hl t v hv (fun o ho=>by cases ho)⟩
 | o::os,L,l,hI,hs,hd,hl,hdst,hK,h=>by
  obtain ⟨d,hod⟩:=hdst o List.mem_cons_self;have h0:=hI 0 d (by simp) (by simp [hod]);have h1:=h _ h0;refine pO os L.tail _ (fun i e hi he=>by rw [rC];exact hI (i+1) e (by simpa using hi) (by simpa using he)) hs hd ?_ (fun o ho=>hdst o (List.mem_cons_of_mem _ ho)) hK h1;intro t v hv hno;rw [hod] at hv;simp only [List.cons_append,List.nil_append] at hv;unfold look at hv;cases hb:Nat.beq d t with
  | true =>
   simp only [hb,cond_true,Option.some.injEq] at hv;rw [← Nat.eq_of_beq_eq_true hb];exact hv
  | false =>
   simp only [hb,cond_false] at hv;refine hl t v hv (fun o' ho'=>?_);rcases List.mem_cons.1 ho' with rfl | ho'
   ·rw [hod];intro e;rw [Option.some.inj e,Nat.beq_refl] at hb;cases hb
   ·exact hno o' ho'
theorem regD {id:Nat} (hm:P.follows .mixedOrders=true) (L:List Asr) (hS:St w0 O G K W) (ht:dO os.toArray n=true) (hdst:os.all (fun o=>o.dst.isSome)=true) {m:Nat} (hlen:os.length=m)
  (hstep:Ib P n os.toArray Q l W L m 0) (hst:mY L)
  (hfin:∀ W',Below W.heap.size W W'→St w0 O G ((W.heap.size,W')::K) W'→jY os L l (fun l' W'=>XF Q .normal n l' W') W'):eW P n (.region id os.toArray true) Q l W:=fun a ha=>by
 subst hlen;refine yK hm L (by rw [ha.size];exact ht) hst (by have:=sG ha hstep;simpa using this) ?_;intro a' W' hs hd hf hG hI;refine pO os L l (fun i d hi hd'=>hI i d (by simpa using hi) (by simpa using hd')) (hs.trans ha.size) (hd.trans ha.defers) ?_ (fun o ho=>?_) (fun l' h ha'=>h a' ha') (hfin W' hG (hS.call hG))
 ·intro t v hv hno;rw [hf t (by unfold freeT;rw [Array.all_eq_true'];intro o ho;simpa using hno o (by simpa using ho))];exact ha.at_ t v hv
 ·have:=List.all_eq_true.1 hdst o ho;exact Option.isSome_iff_exists.1 this
theorem regDL {id:Nat} {o:Oper} (hm:P.follows .mixedOrders=true) (L:List Asr) (hS:St w0 O G K W) (hl:kK (os++[o]).toArray os.length=true) (ht:dO (os++[o]).toArray n=true) (hdst:os.all (fun o=>o.dst.isSome)=true) (hfree:∀ d,o.dst=some d→look l d=none)
  (hstep:Ib P n (os++[o]).toArray Q l W L os.length 0) (hst:mY L)
  (hfin:∀ W',Below W.heap.size W W'→St w0 O G ((W.heap.size,W')::K) W'→jY os L l (fun l' W'=>cO P n (os++[o]).toArray Q [o] l' W') W'):eW P n (.region id (os++[o]).toArray true) Q l W:=fun a ha=>by
 refine qZ hm os.length L hl (by rw [ha.size];exact ht) hst (sG ha hstep) ?_;intro a' W' hs hd hf hG hI;have hk:((os++[o]).toArray)[os.length]?=some o:=by simp
 refine pO os L l (fun i d hi hd'=>hI i d hi (by simp [List.getElem?_append_left hi];simpa using hd')) (hs.trans ha.size) (hd.trans ha.defers) ?_ (fun o ho=>?_) (fun l' h ha'=>?_) (hfin W' hG (hS.call hG))
 ·intro t v hv hno;rw [hf t (by
   unfold freeT;rw [Array.all_eq_true'];intro o' ho'
   have:o'∈os++[o]:=by simpa using ho'
   rcases List.mem_append.1 this with h1 | h1
   ·simpa using hno o' h1
   ·simp only [List.mem_singleton] at h1;subst h1;cases hx:o'.dst with
    | none=>simp
    | some d=>simp;intro e;subst e;rw [hfree d hx] at hv;cases hv)]
  exact ha.at_ t v hv
 ·have:=List.all_eq_true.1 hdst o ho;exact Option.isSome_iff_exists.1 this
 ·have h1:=h a' ha';unfold wpOp;rw [hk];exact h1
theorem regDK {id:Nat} {o:Oper} (hm:P.follows .mixedOrders=true) (L:List Asr) (k:Nat) (hS:St w0 O G K W) (hk:os[k]?=some o) (hlen:os.length=k+1) (hl:kK os.toArray k=true) (ht:dO os.toArray n=true) (hdst:(os.take k).all (fun o=>o.dst.isSome)=true) (hfree:∀ d,o.dst=some d→look l d=none)
  (hstep:Ib P n os.toArray Q l W L k 0) (hst:mY L)
  (hfin:∀ W',Below W.heap.size W W'→St w0 O G ((W.heap.size,W')::K) W'→jY (os.take k) L l (fun l' W'=>cO P n os.toArray Q [o] l' W') W'):eW P n (.region id os.toArray true) Q l W:=by
 have e:os=os.take k++[o]:=by
  apply List.ext_getElem?;intro j;by_cases hj:j < k
  ·rw [List.getElem?_append_left (by simp;omega),List.getElem?_take,if_pos hj]
  ·by_cases hj2:j=k
   ·subst hj2;rw [List.getElem?_append_right (by simp;omega),hk];simp [show min j os.length=j by omega]
   ·rw [List.getElem?_eq_none (by omega),List.getElem?_eq_none (by simp;omega)]
 have hkl:(os.take k).length=k:=by simp;omega
 generalize hg:os.take k=os1 at *;subst hkl;subst e;exact regDL hm L hS hl ht hdst hfree hstep hst hfin
def oV (lo m:Nat) (e:TypeId) (cs:List Value):Asr:=fun v w=>∃ B,v = .slice (some ⟨B,0,none⟩) m m∧lo≤B∧w.heap[B]?=some (.cells cs.toArray e (0,0))
theorem tX {lo m:Nat} {e:TypeId} {cs:List Value}:gQ (oV lo m e cs):=fun v w w' ⟨B,h1,h2,h3⟩ hb=>⟨B,h1,h2,(hb.block B (cA h3)).trans h3⟩
theorem bW:∀ {us vs:List Value} {w:World},lV (us.map isV) vs w→vs=us
 | [],[],_,_=>rfl
 | u::us,v::vs,w,h=>by rw [bW h.2];congr 1;exact h.1
 | [],_::_,_,h=>h.elim
 | _::_,[],_,h=>h.elim
theorem Nw {T e:TypeId} {m s:Nat} {xs:List (Nat×Operand)} {us:List Value} {z:Value} {cs:List Value} (hi:ops[i]?=some ⟨some d,.buildSlice T m xs.toArray,ty,pos,aft,gd⟩) (hw:fT ops L i ⟨some d,.buildSlice T m xs.toArray,ty,pos,aft,gd⟩)
  (hU:P.underlying T=some (.slice e)) (hs:∀ w,(sizeOf e).run P w = .ok s w) (hz:∀ w,(zeroValue e).run P w = .ok z w) (hm:Nat.ble (m * s) 16777216=true) (hm0:Nat.beq (m * s) 0=false) (hp:tC n ops l L i (xs.map (·.2)) (us.map isV))
  (hf:Instr.fill (fun i=>some (i * s,s)) ((Array.range (m * s)).map (z.cells[· % z.cells.size]!)) ((xs.map (·.1)).zip us)=some cs.toArray) (hI:atI L i=oV W.heap.size m e cs):RG P n ops Q l W L i :=
 Fv (us.map isV) hi hw hU hs hz hm hm0 hp fun vs w hb hh=>by rw [bW hh];exact ⟨cs,hf,fun B w' hB h1 h2=>by rw [hI];exact ⟨B,rfl,by rw [← hB];exact hb.size,h1⟩⟩
theorem sH:∀ (L:List Asr) (i:Nat),i < L.length→some (atI L i)=L[i]?
 | [],i,h=>by simp at h
 | p::L,0,_=>rfl
 | p::L,i+1,h=>by rw [List.getElem?_cons_succ];exact sH L i (by simpa using h)
theorem aF {p:Asr} {Lr:List Asr} (h:Lr.length=i):atI (p::Lr).reverse i=p:=by have:=sH (p::Lr).reverse i (by simp;omega);rw [List.getElem?_reverse (by simp;omega)] at this;simp only [List.length_cons,h,show i+1 - 1 - i=0 by omega,List.getElem?_cons_zero,Option.some.injEq] at this;exact this
theorem aA {Lr:List Asr} {j:Nat} {p:Asr} (h:Lr.length=i+1) (hj:Nat.ble j i=true) (hL:atI Lr (i - j)=p):atI Lr.reverse j=p:=by have hj':j≤i:=Nat.le_of_ble_eq_true hj;have h1:=sH Lr.reverse j (by simp;omega);rw [List.getElem?_reverse (by omega)] at h1;have h2:=sH Lr (i - j) (by omega);rw [show Lr.length - 1 - j=i - j by omega,← h2,hL] at h1;exact Option.some.inj h1
theorem RG.ext {L1 L2:List Asr} (ht:dO ops n=true) (hag:∀ j,j≤i→atI L1 j=atI L2 j) (h:RG P n ops Q l W L1 i):RG P n ops Q l W L2 i:=fun a ha=>by
 have h1:=h a ha;intro b w hF hG hD;have hlt:∀ j d,bH ops i j d=true→j < i:=fun j d hw=>by
  cases ho:ops[i]? with
  | none=>simp [bH,ho] at hw
  | some o =>
   simp only [bH,ho,Bool.and_eq_true,beq_iff_eq] at hw;obtain ⟨e,he,h2⟩:=Array.any_eq_true'.1 hw.1;simp only [Bool.and_eq_true,beq_iff_eq] at h2;rw [← h2.1];exact jL ht ho e he h2.2
 have h2:=h1 b w hF hG (fun j d hw=>by rw [hag j (Nat.le_of_lt (hlt j d hw))];exact hD j d hw);rw [hag i (Nat.le_refl _)] at h2;exact h2
def BL (P:Program) (n:Nat) (ops:Array Oper) (Q:Exit→Act→World→Prop) (l:Fr) (W:World) (Goal:List Asr→Prop):Nat→List Asr→Nat→Prop
 | 0,Lr,_=>Goal Lr
 | m+1,Lr,k=>∃ p,gQ p∧RG P n ops Q l W (p::Lr).reverse k∧BL P n ops Q l W Goal m (p::Lr) (k+1)
variable {Goal:List Asr→Prop}
theorem dI {Lr:List Asr} {k:Nat} (h:Goal Lr):BL P n ops Q l W Goal 0 Lr k:=h
theorem aJ {m k:Nat} {Lr:List Asr} (k':Nat) (hk:k+1=k') (p:Asr) (hs:gQ p) (h:RG P n ops Q l W (p::Lr).reverse k) (hr:BL P n ops Q l W Goal m (p::Lr) k'):BL P n ops Q l W Goal (m+1) Lr k:=by subst hk;exact ⟨p,hs,h,hr⟩
theorem bl_f {m k:Nat} {Lr:List Asr} {x u:Value} (k':Nat) (hk:k+1=k') (t:Nat) (hi:ops[k]?=some ⟨some d,op,ty,pos,aft,none⟩) (hf:freeT ops t=true) (hv:look l t=some u) (hr:∀ w,Below W.heap.size W w→gA P [(t,u)] ⟨some d,op,ty,pos,#[],none⟩ w x w) (hl:Lr.length=k) (h:BL P n ops Q l W Goal m (isV x::Lr) k'):BL P n ops Q l W Goal (m+1) Lr k :=
 aJ k' hk (isV x) (aE x) (rgV [(t,u)] hi (aS rfl) ⟨g_fr hf hv,trivial⟩ hr (aF hl)) h
theorem cE {m k:Nat} {Lr:List Asr} {x u:Value} (k':Nat) (hk:k+1=k') (t:Nat) (hi:ops[k]?=some ⟨some d,op,ty,pos,aft,none⟩) (hv:look l t=some u) (hr:∀ w,Below W.heap.size W w→gA P [(t,u)] ⟨some d,op,ty,pos,#[],none⟩ w x w) (hl:Lr.length=k) (h:BL P n ops Q l W Goal m (isV x::Lr) k') (hf:freeT ops t=true:=by kernel_rfl):BL P n ops Q l W Goal (m+1) Lr k:=bl_f k' hk t hi hf hv hr hl h
theorem bl_d {m k:Nat} {Lr:List Asr} {x u:Value} (k':Nat) (hk:k+1=k') (t j:Nat) (hi:ops[k]?=some ⟨some d,op,ty,pos,aft,none⟩) (hw:bH ops k j t=true) (hj:Nat.ble j k=true) (hL:atI (isV x::Lr) (k - j)=isV u) (hr:∀ w,Below W.heap.size W w→gA P [(t,u)] ⟨some d,op,ty,pos,#[],none⟩ w x w) (hl:Lr.length=k) (h:BL P n ops Q l W Goal m (isV x::Lr) k'):BL P n ops Q l W Goal (m+1) Lr k :=
 aJ k' hk (isV x) (aE x) (rgV [(t,u)] hi (aS rfl) ⟨Uf j hw (aA (by rw [List.length_cons,hl]) hj hL),trivial⟩ hr (aF hl)) h
theorem aZ {m k:Nat} {Lr:List Asr} {x u:Value} (k':Nat) (hk:k+1=k') (t j:Nat) (hi:ops[k]?=some ⟨some d,op,ty,pos,aft,none⟩) (hj:Nat.ble j k=true) (hL:atI (isV x::Lr) (k - j)=isV u) (hr:∀ w,Below W.heap.size W w→gA P [(t,u)] ⟨some d,op,ty,pos,#[],none⟩ w x w) (hl:Lr.length=k) (h:BL P n ops Q l W Goal m (isV x::Lr) k') (hw:bH ops k j t=true:=by kernel_rfl):BL P n ops Q l W Goal (m+1) Lr k:=bl_d k' hk t j hi hw hj hL hr hl h
theorem lW:∀ {L:List Asr},(∀ p∈L,gQ p)→mY L
 | [],_=>trivial
 | p::L,h=>⟨h p List.mem_cons_self,lW fun q hq=>h q (List.mem_cons_of_mem _ hq)⟩
theorem lH {A B:List Asr} {j:Nat} (h:j < A.length):atI (A++B) j=atI A j:=by have h1:=sH (A++B) j (by simp;omega);have h2:=sH A j h;rw [List.getElem?_append_left h,← h2] at h1;exact Option.some.inj h1
theorem Fw (ht:dO ops n=true):∀ (m k:Nat) (Lr:List Asr),Lr.length=k→(∀ p∈Lr,gQ p)→(∀ i,i < k→RG P n ops Q l W Lr.reverse i)→BL P n ops Q l W Goal m Lr k →
  ∃ Lr',Lr'.length=k+m∧(∀ p∈Lr',gQ p)∧(∀ i,i < k+m→RG P n ops Q l W Lr'.reverse i)∧Goal Lr'
 | 0,k,Lr,hl,hs,hg,h=>⟨Lr,hl,hs,hg,h⟩
 | m+1,k,Lr,hl,hs,hg,⟨p,hp,hr,hn⟩=>by
  obtain ⟨L',h1,h2,h3,h4⟩:=Fw ht m (k+1) (p::Lr) (by simp [hl]) (fun q hq=>by
   rcases List.mem_cons.1 hq with rfl | hq
   ·exact hp
   ·exact hs q hq) (fun i hi=>by
   by_cases hik:i=k
   ·subst hik;exact hr
   ·refine RG.ext ht (fun j hj=>?_) (hg i (by omega));rw [List.reverse_cons,lH (by simp;omega)]) hn
  exact ⟨L',by omega,h2,fun i hi=>h3 i (by omega),h4⟩
theorem yS {L:List Asr}:∀ (m k:Nat),(∀ i,i < k+m→RG P n ops Q l W L i)→Ib P n ops Q l W L m k
 | 0,_,_=>trivial
 | m+1,k,h=>⟨h k (by omega),yS m (k+1) fun i hi=>h i (by omega)⟩
theorem iX {id:Nat} {m:Nat} (hm:P.follows .mixedOrders=true) (hS:St w0 O G K W) (ht:dO os.toArray n=true) (hdst:os.all (fun o=>o.dst.isSome)=true) (hlen:os.length=m)
  (h:BL P n os.toArray Q l W (fun Lr=>∀ W',Below W.heap.size W W'→St w0 O G ((W.heap.size,W')::K) W'→jY os Lr.reverse l (fun l' W'=>XF Q .normal n l' W') W') m [] 0):eW P n (.region id os.toArray true) Q l W:=by
 obtain ⟨Lr,h1,h2,h3,h4⟩:=Fw ht m 0 [] rfl (fun p hp=>by cases hp) (fun i hi=>by omega) h;exact regD hm Lr.reverse hS ht hdst hlen (yS m 0 (by simpa using h3)) (lW fun p hp=>h2 p (List.mem_reverse.1 hp)) h4
theorem xU {id:Nat} {o:Oper} (hm:P.follows .mixedOrders=true) (k:Nat) (hS:St w0 O G K W) (hk:os[k]?=some o) (hlen:os.length=k+1) (hl:kK os.toArray k=true) (ht:dO os.toArray n=true) (hdst:(os.take k).all (fun o=>o.dst.isSome)=true) (hfree:∀ d,o.dst=some d→look l d=none)
  (h:BL P n os.toArray Q l W (fun Lr=>∀ W',Below W.heap.size W W'→St w0 O G ((W.heap.size,W')::K) W'→jY (os.take k) Lr.reverse l (fun l' W'=>cO P n os.toArray Q [o] l' W') W') k [] 0):eW P n (.region id os.toArray true) Q l W:=by
 obtain ⟨Lr,h1,h2,h3,h4⟩:=Fw ht k 0 [] rfl (fun p hp=>by cases hp) (fun i hi=>by omega) h;exact regDK hm Lr.reverse k hS hk hlen hl ht hdst hfree (yS k 0 (by simpa using h3)) (lW fun p hp=>h2 p (List.mem_reverse.1 hp)) h4
end
theorem cC:prog.follows .mixedOrders=true:=by kernel_rfl
theorem Ll (v0:Int) (v1:Int):prog.built 25 [(0,.int .i64 v0),(1,.int .i64 v1)]=some #[.int .i64 v0,.int .i64 v1,.slice none 0 0]:=by kernel_rfl
theorem Ug:prog.built 46 []=some #[.bool false,.int .i64 0,.int .u64 0,.slice none 0 0,.slice none 0 0,.slice none 0 0]:=by kernel_rfl
theorem Ac (v0:Bool):prog.built 46 [(0,.bool v0)]=some #[.bool v0,.int .i64 0,.int .u64 0,.slice none 0 0,.slice none 0 0,.slice none 0 0]:=by kernel_rfl
theorem Ad (v1:Int):prog.built 46 [(1,.int .i64 v1)]=some #[.bool false,.int .i64 v1,.int .u64 0,.slice none 0 0,.slice none 0 0,.slice none 0 0]:=by kernel_rfl
theorem Uh (v4a:Option Addr) (v4l:Nat) (v4c:Nat):prog.built 46 [(4,.slice v4a v4l v4c)]=some #[.bool false,.int .i64 0,.int .u64 0,.slice none 0 0,.slice none 0 0,.slice v4a v4l v4c]:=by kernel_rfl
theorem Nx (v0:Int) (v1:Int):Instr.fill (fun i=>some (i * 1,1)) ((Array.range (2 * 1)).map ((Value.cells (.int .i64 0))[· % (Value.cells (.int .i64 0)).size]!)) [(0,.int .i64 v0),(1,.int .i64 v1)]=some (List.toArray [.int .i64 v0,.int .i64 v1]):=by kernel_rfl
theorem bs_43_1 (v00:Value) (v01:Value) (v02:Value):Instr.fill (fun i=>some (i * 3,3)) ((Array.range (1 * 3)).map ((Value.cells (.agg #[.int .u64 0,.int .i64 0,.int .i64 0]))[· % (Value.cells (.agg #[.int .u64 0,.int .i64 0,.int .i64 0])).size]!)) [(0,.agg #[v00,v01,v02])]=some (List.toArray [v00,v01,v02]):=by kernel_rfl
theorem yT (v00:Value) (v01:Value) (v02:Value) (v03:Value) (v04:Value) (v05:Value):Instr.fill (fun i=>some (i * 6,6)) ((Array.range (1 * 6)).map ((Value.cells (.agg #[.bool false,.int .i64 0,.int .u64 0,.slice none 0 0,.slice none 0 0,.slice none 0 0]))[· % (Value.cells (.agg #[.bool false,.int .i64 0,.int .u64 0,.slice none 0 0,.slice none 0 0,.slice none 0 0])).size]!)) [(0,.agg #[v00,v01,v02,v03,v04,v05])]=some (List.toArray [v00,v01,v02,v03,v04,v05]):=by kernel_rfl
theorem uX (v00:Value) (v01:Value) (v02:Value) (v03:Value) (v04:Value) (v05:Value) (v10:Value) (v11:Value) (v12:Value) (v13:Value) (v14:Value) (v15:Value):Instr.fill (fun i=>some (i * 6,6)) ((Array.range (2 * 6)).map ((Value.cells (.agg #[.bool false,.int .i64 0,.int .u64 0,.slice none 0 0,.slice none 0 0,.slice none 0 0]))[· % (Value.cells (.agg #[.bool false,.int .i64 0,.int .u64 0,.slice none 0 0,.slice none 0 0,.slice none 0 0])).size]!)) [(0,.agg #[v00,v01,v02,v03,v04,v05]),(1,.agg #[v10,v11,v12,v13,v14,v15])]=some (List.toArray [v00,v01,v02,v03,v04,v05,v10,v11,v12,v13,v14,v15]):=by kernel_rfl
theorem eS (w:World) (b o:Nat):(Instr.fieldAt 25 (.pointer (some ⟨b,o,none⟩)) 0).run prog w = .ok (.pointer (some ⟨b,o+0,none⟩)) w:=by simp [Instr.fieldAt,run_underlying underlying25,Instr.sureAddr,go_sem,Addr.add_lit]
theorem eU (w:World) (b o:Nat):(Instr.fieldAt 25 (.pointer (some ⟨b,o,none⟩)) 1).run prog w = .ok (.pointer (some ⟨b,o+1,none⟩)) w:=by simp [Instr.fieldAt,run_underlying underlying25,Instr.sureAddr,go_sem,Addr.add_lit]
theorem dW (w:World) (b o:Nat):(Instr.fieldAt 25 (.pointer (some ⟨b,o,none⟩)) 2).run prog w = .ok (.pointer (some ⟨b,o+2,none⟩)) w:=by simp [Instr.fieldAt,run_underlying underlying25,Instr.sureAddr,go_sem,Addr.add_lit]
theorem yU (w:World) (b o:Nat):(Instr.fieldAt 42 (.pointer (some ⟨b,o,none⟩)) 1).run prog w = .ok (.pointer (some ⟨b,o+1,none⟩)) w:=by simp [Instr.fieldAt,run_underlying underlying42,Instr.sureAddr,go_sem,Addr.add_lit]
theorem eF (w:World) (b o:Nat):(Instr.fieldAt 46 (.pointer (some ⟨b,o,none⟩)) 0).run prog w = .ok (.pointer (some ⟨b,o+0,none⟩)) w:=by simp [Instr.fieldAt,run_underlying underlying46,Instr.sureAddr,go_sem,Addr.add_lit]
theorem fQ (w:World) (b o:Nat):(Instr.fieldAt 46 (.pointer (some ⟨b,o,none⟩)) 1).run prog w = .ok (.pointer (some ⟨b,o+1,none⟩)) w:=by simp [Instr.fieldAt,run_underlying underlying46,Instr.sureAddr,go_sem,Addr.add_lit]
theorem fR (w:World) (b o:Nat):(Instr.fieldAt 46 (.pointer (some ⟨b,o,none⟩)) 2).run prog w = .ok (.pointer (some ⟨b,o+2,none⟩)) w:=by simp [Instr.fieldAt,run_underlying underlying46,Instr.sureAddr,go_sem,Addr.add_lit]
theorem eG (w:World) (b o:Nat):(Instr.fieldAt 46 (.pointer (some ⟨b,o,none⟩)) 3).run prog w = .ok (.pointer (some ⟨b,o+4,none⟩)) w:=by simp [Instr.fieldAt,run_underlying underlying46,Instr.sureAddr,go_sem,Addr.add_lit]
theorem dH (w:World) (b o:Nat):(Instr.fieldAt 46 (.pointer (some ⟨b,o,none⟩)) 4).run prog w = .ok (.pointer (some ⟨b,o+5,none⟩)) w:=by simp [Instr.fieldAt,run_underlying underlying46,Instr.sureAddr,go_sem,Addr.add_lit]
theorem goes_99:bJ prog 99=true:=by kernel_rfl
theorem Ny:bJ prog 48=true:=by kernel_rfl
theorem goes_90:bJ prog 90=true:=by kernel_rfl
theorem uY:bJ prog 12=true:=by kernel_rfl
theorem Fx:bJ prog 15=true:=by kernel_rfl
theorem goes_14:bJ prog 14=true:=by kernel_rfl
theorem goes_17:bJ prog 17=true:=by kernel_rfl
theorem Fy:bJ prog 31=true:=by kernel_rfl
theorem yV:bJ prog 33=true:=by kernel_rfl
theorem Nz:bJ prog 34=true:=by kernel_rfl
theorem N3:bJ prog 30=true:=by kernel_rfl
theorem N4:bJ prog 51=true:=by kernel_rfl
theorem Ui:bJ prog 117=true:=by kernel_rfl
theorem Ae:bJ prog 116=true:=by kernel_rfl
theorem N5:bJ prog 74=true:=by kernel_rfl
theorem Af:bJ prog 111=true:=by kernel_rfl
theorem Fz:bJ prog 39=true:=by kernel_rfl
theorem yW:bJ prog 40=true:=by kernel_rfl
theorem goes_59:bJ prog 59=true:=by kernel_rfl
theorem goes_60:bJ prog 60=true:=by kernel_rfl
theorem goes_61:bJ prog 61=true:=by kernel_rfl
theorem goes_62:bJ prog 62=true:=by kernel_rfl
theorem goes_63:bJ prog 63=true:=by kernel_rfl
theorem F3:bJ prog 75=true:=by kernel_rfl
theorem rD:bJ prog 102=true:=by kernel_rfl
theorem Ag:bJ prog 131=true:=by kernel_rfl
theorem uZ:bJ prog 64=true:=by kernel_rfl
theorem Uj:bJ prog 129=true:=by kernel_rfl
theorem Uk:bJ prog 130=true:=by kernel_rfl
theorem Ah:bJ prog 101=true:=by kernel_rfl
theorem goes_92:bJ prog 92=true:=by kernel_rfl
theorem Ul:bJ prog 103=true:=by kernel_rfl
theorem Um:bJ prog 104=true:=by kernel_rfl
theorem Un:bJ prog 105=true:=by kernel_rfl
theorem Uo:bJ prog 118=true:=by kernel_rfl
theorem Uq:bJ prog 119=true:=by kernel_rfl
theorem Ur:bJ prog 136=true:=by kernel_rfl
theorem Us:bJ prog 137=true:=by kernel_rfl
theorem Ut:bJ prog 138=true:=by kernel_rfl
theorem Lm:prog.info? 46=some Tryz.t46:=by kernel_rfl
theorem inf_96:prog.info? 96=some Tryz.t96:=by kernel_rfl
theorem N6:bJ prog 28=true:=by kernel_rfl
theorem goes_56:bJ prog 56=true:=by kernel_rfl
theorem goes_57:bJ prog 57=true:=by kernel_rfl
theorem goes_96:bJ prog 96=true:=by kernel_rfl
theorem goes_97:bJ prog 97=true:=by kernel_rfl
theorem Uu:bJ prog 112=true:=by kernel_rfl
theorem Uv:bJ prog 127=true:=by kernel_rfl
def Off (β:Option Nat) (w w':World):Prop:=(w'.os=w.os∧w'.tape=w.tape∧w'.output=w.output)∧w.heap.size≤w'.heap.size∧∀ b,b < w.heap.size→β≠some b→w'.heap[b]?=w.heap[b]?
section
variable {β:Option Nat} {w w' w'' W:World} {p:Asr} {v c:Value}
theorem Off.refl (β:Option Nat) (w:World):Off β w w:=⟨⟨rfl,rfl,rfl⟩,Nat.le_refl _,fun _ _ _=>rfl⟩
theorem Off.trans (h:Off β w w') (k:Off β w' w''):Off β w w'':=⟨⟨k.1.1.trans h.1.1,k.1.2.1.trans h.1.2.1,k.1.2.2.trans h.1.2.2⟩,Nat.le_trans h.2.1 k.2.1,fun b hb hn=>(k.2.2 b (Nat.lt_of_lt_of_le hb h.2.1) hn).trans (h.2.2 b hb hn)⟩
theorem Uw (h:Below w.heap.size w w'):Off β w w':=⟨⟨h.os,h.tape,h.output⟩,h.size,fun b hb _=>h.block b hb⟩
def Aw (β:Option Nat) (p:Asr):Asr:=fun v w=>∀ w',Off β w w'→p v w'
theorem Aw.here (h:Aw β p v w):p v w:=h w (Off.refl _ _)
theorem Aw.stab (h:Aw β p v w) (hb:Below w.heap.size w w'):Aw β p v w':=fun w'' ho=>h w'' ((Uw hb).trans ho)
theorem aw_isV:Aw β (isV c) c w:=fun _ _=>rfl
theorem Ux {o:Obj} (h:Aw none p v w) (hB:Below w.heap.size w (w.alloc o)):Aw (some w.heap.size) p v (w.alloc o):=fun w'' ho =>
 h w'' ⟨⟨ho.1.1.trans hB.os,ho.1.2.1.trans hB.tape,ho.1.2.2.trans hB.output⟩,Nat.le_trans hB.size ho.2.1,fun b hb _=>(ho.2.2 b (Nat.lt_of_lt_of_le hb hB.size) (fun e=>by have:=Option.some.inj e;omega)).trans (hB.block b hb)⟩
def GB (W:World) (β:Option Nat) (w:World):Prop:=Below W.heap.size W w∧∀ B,β=some B→W.heap.size≤B∧B < w.heap.size
abbrev IB (L:List Asr) (β:Option Nat) (i:Nat) (v:Value) (w:World):Prop:=Aw β (atI L i) v w
theorem GB.next (h:GB W β w) (hb:Below w.heap.size w w'):GB W β w':=⟨h.1.trans (hb.mono h.1.size),fun B e=>⟨(h.2 B e).1,Nat.lt_of_lt_of_le (h.2 B e).2 hb.size⟩⟩
theorem Rg (h:GB W β w) (ho:Off β w w'):Below W.heap.size W w' :=
 ⟨ho.1.1.trans h.1.os,ho.1.2.1.trans h.1.tape,ho.1.2.2.trans h.1.output,Nat.le_trans h.1.size ho.2.1,fun b hb=>(ho.2.2 b (Nat.lt_of_lt_of_le hb h.1.size) (fun e=>by have:=h.2 b e;omega)).trans (h.1.block b hb)⟩
def wW (p:Asr) (w:World):Ending→World→Prop:=fun e w'=>∃ v,e = .returned v∧(∀ w2,dD w.heap.size w' w2→p v w2)∧Below w.heap.size w w'
end
section
variable {P:Program} {n:Nat} {Q:Exit→Act→World→Prop} {l:Fr} {w0 W:World} {ops:Array Oper} {os:List Oper} {O:Own} {G:cV} {K:List (Nat×World)} {L:List Asr} {i:Nat}
def RGA (P:Program) (n:Nat) (ops:Array Oper) (Q:Exit→Act→World→Prop) (l:Fr) (W:World) (L:List Asr) (i:Nat):Prop:=∀ β a,Has n l a→fH P ops Q a.tmps (GB W β) (IB L β) i
variable {d:Nat} {op:Op} {ty:TypeId} {pos:String} {aft:Array Edge} {v:Value} {gd:Option (Nat×Bool)}
theorem agV (li:Fr) (hi:ops[i]?=some ⟨some d,op,ty,pos,aft,gd⟩) (hw:fT ops L i ⟨some d,op,ty,pos,aft,gd⟩) (hli:wV n ops l L i li) (hr:∀ w,Below W.heap.size W w→gA P li ⟨some d,op,ty,pos,#[],none⟩ w v w) (hI:atI L i=isV v):RGA P n ops Q l W L i :=
 fun β a ha=>fH.value hi fun b w hF hG hD=>⟨hw.yes (fun j d h=>(hD j d h).here),v,w,by rw [eR b.eval _ _ _ _ pos _ #[] _ none];exact hr w hG.1 b.eval (jA ha hF (fun j d h=>(hD j d h).here) hli),by show Aw β (atI L i) v w;rw [hI];exact aw_isV,hG,Below.refl _ _⟩
theorem agP (li:Fr) {p:Asr} (hi:ops[i]?=some ⟨some d,op,ty,pos,aft,gd⟩) (hw:fT ops L i ⟨some d,op,ty,pos,aft,gd⟩) (hli:wV n ops l L i li) (hr:∀ w,Below W.heap.size W w→gA P li ⟨some d,op,ty,pos,#[],none⟩ w v w) (hp:∀ w,Below W.heap.size W w→p v w) (hI:atI L i=p):RGA P n ops Q l W L i :=
 fun β a ha=>fH.value hi fun b w hF hG hD=>⟨hw.yes (fun j d h=>(hD j d h).here),v,w,by rw [eR b.eval _ _ _ _ pos _ #[] _ none];exact hr w hG.1 b.eval (jA ha hF (fun j d h=>(hD j d h).here) hli),by show Aw β (atI L i) v w;rw [hI];exact fun w' ho=>hp w' (Rg hG ho),hG,Below.refl _ _⟩
theorem ag_call {f:FuncId} {xs:List Operand} {ts:Array TypeId} (ps:List Asr) (hi:ops[i]?=some ⟨some d,.call { callee:=.value (.func f),args:=xs.toArray,argTypes:=ts },ty,pos,aft,gd⟩) (hgo:bJ P f=true)
  (hw:fT ops L i ⟨some d,.call { callee:=.value (.func f),args:=xs.toArray,argTypes:=ts },ty,pos,aft,gd⟩) (hp:tC n ops l L i xs ps)
  {p:Asr} (hc:∀ vs w,Below W.heap.size W w→lV ps vs w→Calls P f vs.toArray w (wW p w)) (hI:atI L i=p):RGA P n ops Q l W L i :=
 fun β a ha=>fH.call hi fun b w hF hG hD=>⟨hw.yes (fun j d h=>(hD j d h).here),f,xs.toArray.map b.eval,lT P b.eval w f xs.toArray ts _ rfl rfl hgo,by
  have h1:=hc (xs.map b.eval) w hG.1 (gB ha hF (fun j d h=>(hD j d h).here) hp);rw [show (xs.map b.eval).toArray=xs.toArray.map b.eval by simp] at h1;refine h1.mono ?_;rintro e w' ⟨v,he,hv,hb⟩;refine ⟨v,he,?_,hG.next hb,hb⟩;show Aw β (atI L i) v w';rw [hI];exact fun w2 ho=>hv w2 ⟨ho.2.1,fun b h1 h2=>ho.2.2 b h2 (fun e=>by have:=hG.2 b e;omega)⟩⟩
theorem ag_row {T e:TypeId} {m s:Nat} {xs:List (Nat×Operand)} {z:Value} (ps:List Asr) (hi:ops[i]?=some ⟨some d,.buildSlice T m xs.toArray,ty,pos,aft,gd⟩) (hw:fT ops L i ⟨some d,.buildSlice T m xs.toArray,ty,pos,aft,gd⟩)
  (hU:P.underlying T=some (.slice e)) (hs:∀ w,(sizeOf e).run P w = .ok s w) (hz:∀ w,(zeroValue e).run P w = .ok z w) (hm:Nat.ble (m * s) 16777216=true) (hm0:Nat.beq (m * s) 0=false) (hp:tC n ops l L i (xs.map (·.2)) ps)
  (hf:∀ β vs w,Below W.heap.size W w→(∀ w',Off β w w'→lV ps vs w')→∃ cs:List Value,Instr.fill (fun i=>some (i * s,s)) ((Array.range (m * s)).map (z.cells[· % z.cells.size]!)) ((xs.map (·.1)).zip vs)=some cs.toArray ∧
   ∀ B w',w.heap.size=B→w'.heap[B]?=some (.cells cs.toArray e (0,0))→Off β w w'→atI L i (.slice (some ⟨B,0,none⟩) m m) w'):RGA P n ops Q l W L i :=
 fun β a ha=>fH.value hi fun b w hF hG hD=>by
  obtain ⟨cs,h1,h2⟩:=hf β _ w hG.1 (fun w' ho=>gB (w:=w') ha hF (fun j d h=>hD j d h w' ho) hp);have h4:m * s≤16777216:=Nat.le_of_ble_eq_true hm;have h5:m * s≠0:=fun e=>by rw [e] at hm0;cases hm0
  have h6:¬ (m * s > 2 ^ 24):=by omega
  have h7:((xs.map (·.1)).zip ((xs.map (·.2)).map b.eval))=xs.map (fun p=>(p.1,b.eval p.2)):=by
   clear hi hw hp h1 hf h2
   induction xs with
   | nil=>rfl
   | cons x xs ih=>simp only [List.map_cons,List.zip_cons_cons,ih]
  rw [h7] at h1;have hB:Below w.heap.size w (w.alloc (.cells cs.toArray e)):=(Below.refl _ _).alloc (Nat.le_refl _) _;refine ⟨hw.yes (fun j d h=>(hD j d h).here),.slice (some ⟨w.heap.size,0,none⟩) m m,w.alloc (.cells cs.toArray e),?_,?_,hG.next hB,hB⟩
  ·unfold execOp;simp only [];rw [show (Array.map (fun p=>(p.1,b.eval p.2)) xs.toArray)=(xs.map (fun p=>(p.1,b.eval p.2))).toArray by simp];simp only [Instr.buildSlice,Sem.run_bind,run_underlying hU,Result.andThen_ok,hs,if_neg h6,if_neg h5,hz,Sem.run_pure,h1,newRow,run_newObj_alloc]
  ·intro w' ho;refine h2 _ _ rfl ?_ ((Uw hB).trans ho);have h8:=ho.2.2 w.heap.size (by have:=heap_alloc_new w (.cells cs.toArray e);exact cA this) (fun e=>by have:=hG.2 _ e;omega);rw [h8];exact heap_alloc_new w _
theorem F4 {k p:Nat} {t0:Array Value} {d0:List Deferred} {G:World→Prop} {I:Nat→Value→World→Prop} (hl:kK ops k=true) (ht:dO ops t0.size=true) (hst:∀ i v w w',G w→I i v w→Below w.heap.size w w'→I i v w')
  (hstep:∀ i,i < k→i≠p→fH P ops Q t0 G I i) (hfin:wT ops t0 d0 G I k (wpOp P ops Q k (Q .normal))) :
  ∀ (fuel:Nat) (L:Array Bool) (a:Act) (w:World),L.size=ops.size→L.getD k true=false→L.getD p false=true→L.toList.count false≤fuel→RInv ops t0 d0 G I L a w→wpAny P .any ops Q fuel L a w:=by
 simp only [kK,Bool.and_eq_true,decide_eq_true_eq] at hl;obtain ⟨hk,hl⟩:=hl;have cnt:∀ (L:Array Bool) i,L.getD i true=false→L.toList[i]?=some false:=fun L i h1=>by
  rw [Array.getD_eq_getD_getElem?] at h1;rw [Array.getElem?_toList];cases hL:L[i]? with
  | none=>rw [hL] at h1;cases h1
  | some b=>rw [hL] at h1;simpa using h1
 intro fuel
 induction fuel with
 | zero =>
  intro L a w hs hlk hlp hc h;have:=fF _ _ (cnt L k hlk);omega
 | succ fuel ih =>
  intro L a w hs hlk hlp hc h;refine ⟨fun hr=>?_,fun i hi=>?_⟩
  ·rw [gI ht hs hr k (by omega)] at hlk;cases hlk
  ·obtain ⟨h1,o,ho,hdep⟩:=mem_ready.1 hi;have his:i < ops.size:=(Array.getElem?_eq_some_iff.1 ho).1;have hc1:=fF _ _ (cnt L i h1);have hip:i≠p:=by rintro rfl;have h2:=cnt L i h1;rw [Array.getElem?_toList] at h2;rw [Array.getD_eq_getD_getElem?,h2] at hlp;cases hlp
   by_cases hik:i=k
   ·subst hik;simp only [ho] at hl;have hall:∀ j,j < i→L.getD j false=true:=fun j hj=>by have:=List.all_eq_true.1 hl j (List.mem_range.2 hj);obtain ⟨e,he,h2⟩:=Array.any_eq_true'.1 this;simp only [Bool.and_eq_true,beq_iff_eq] at h2;have:=hdep e he h2.2;rw [h2.1] at this;exact this
    refine wpOp_mono ?_ (hfin a w h.size h.defers h.frame h.glob fun j d hj hd=>h.done j d hd (hall j hj));intro a' w' hq;have hnil:Region.ready .any ops (L.setIfInBounds i true)=[]:=by
     cases hr:Region.ready .any ops (L.setIfInBounds i true) with
     | nil=>rfl
     | cons j rest =>
      have hj:j∈Region.ready .any ops (L.setIfInBounds i true):=by rw [hr];exact List.mem_cons_self
      obtain ⟨h5,o',ho',_⟩:=mem_ready.1 hj;have hjs:j < ops.size:=(Array.getElem?_eq_some_iff.1 ho').1;by_cases hji:j=i
      ·subst hji;rw [Array.getD_eq_getD_getElem?,Array.getElem?_eq_getElem (by simpa using (by omega:j < L.size))] at h5;simp at h5
      ·rw [getD_set_ne true (Ne.symm hji)] at h5;have h6:=hall j (by omega);rw [Array.getD_eq_getD_getElem?] at h5 h6;rw [Array.getElem?_eq_getElem (by omega)] at h5 h6;simp at h5 h6;rw [h5] at h6;cases h6
    cases fuel with
    | zero=>exact ⟨hnil,hq⟩
    | succ fuel=>exact ⟨fun _=>hq,by rw [hnil];simp⟩
   ·refine wpOp_mono ?_ (hstep i (by omega) hip a w h.frameE h.glob (h.deps hi));rintro a' w' ⟨⟨v,rfl,hI⟩,hG,hB⟩;refine ih _ _ _ (by simpa using hs) (by rw [getD_set_ne true hik];exact hlk) (by rw [getD_set_ne false hip];exact hlp) ?_ (h.next ht h1 hst hI hG hB);rw [Array.toList_setIfInBounds];omega
def G2 (W:World) (B:Nat) (cs:List Value) (T:TypeId) (w:World):Prop:=GB W (some B) w∧w.heap[B]?=some (.cells cs.toArray T (0,0))
def I2 (L:List Asr) (p B:Nat) (i:Nat) (v:Value) (w:World):Prop:=Aw (some B) (atI L i) v w∧(i=p→v = .pointer (some ⟨B,0,none⟩))
theorem F5 {k p dp:Nat} {t0:Array Value} {d0:List Deferred} {T:TypeId} {z:Value} {cs:List Value} (hl:kK ops k=true) (ht:dO ops t0.size=true) (hst:mY L) (hpk:p < k) (hp:ops[p]?=some ⟨some dp,.alloc T,ty,pos,aft,none⟩)
  (hz:∀ w,(zeroValue T).run P w = .ok z w) (hcs:z.cells=cs.toArray) (hLp:atI L p=fun _ _=>True)
  (hstep:∀ β i,i < k→i≠p→fH P ops Q t0 (GB W β) (IB L β) i) (hfin:∀ B,wT ops t0 d0 (G2 W B cs T) (I2 L p B) k (wpOp P ops Q k (Q .normal))) :
  ∀ (fuel:Nat) (LB:Array Bool) (a:Act) (w:World),LB.size=ops.size→LB.getD k true=false→LB.toList.count false≤fuel→LB.getD p true=false→RInv ops t0 d0 (GB W none) (IB L none) LB a w→wpAny P .any ops Q fuel LB a w:=by
 have hl0:=hl;simp only [kK,Bool.and_eq_true,decide_eq_true_eq] at hl;obtain ⟨hk,hl⟩:=hl;have cnt:∀ (L:Array Bool) i,L.getD i true=false→L.toList[i]?=some false:=fun L i h1=>by
  rw [Array.getD_eq_getD_getElem?] at h1;rw [Array.getElem?_toList];cases hL:L[i]? with
  | none=>rw [hL] at h1;cases h1
  | some b=>rw [hL] at h1;simpa using h1
 intro fuel
 induction fuel with
 | zero =>
  intro LB a w hs hlk hc hlp h;have:=fF _ _ (cnt LB k hlk);omega
 | succ fuel ih =>
  intro LB a w hs hlk hc hlp h;refine ⟨fun hr=>?_,fun i hi=>?_⟩
  ·rw [gI ht hs hr k (by omega)] at hlk;cases hlk
  ·obtain ⟨h1,o,ho,hdep⟩:=mem_ready.1 hi;have his:i < ops.size:=(Array.getElem?_eq_some_iff.1 ho).1;have hc1:=fF _ _ (cnt LB i h1);by_cases hik:i=k
   ·subst hik;simp only [ho] at hl;have:=List.all_eq_true.1 hl p (List.mem_range.2 hpk);obtain ⟨e,he,h2⟩:=Array.any_eq_true'.1 this;simp only [Bool.and_eq_true,beq_iff_eq] at h2;have h3:=hdep e he h2.2;rw [h2.1] at h3;have h4:=cnt LB p hlp;rw [Array.getElem?_toList] at h4;rw [Array.getD_eq_getD_getElem?,h4] at h3;cases h3
   ·by_cases hip:i=p
    ·subst hip;rw [hp] at ho;have ho':=(Option.some.inj ho).symm;have hB:Below w.heap.size w (w.alloc (.cells cs.toArray T)):=(Below.refl _ _).alloc (Nat.le_refl _) _;have hnew:=heap_alloc_new w (.cells cs.toArray T);have step:wpOp P ops Q i (fun a' w'=>a'=a.put (some dp) (.pointer (some ⟨w.heap.size,0,none⟩))∧w'=w.alloc (.cells cs.toArray T)) a w:=by
      unfold wpOp;simp only [hp,fI (o:=⟨some dp,.alloc T,ty,pos,aft,none⟩) rfl,if_true];refine .inl ?_;unfold Oper.wp;have e:(execOp a.eval ⟨some dp,.alloc T,ty,pos,aft,none⟩).run P w = .ok (.value (.pointer (some ⟨w.heap.size,0,none⟩))) (w.alloc (.cells cs.toArray T)):=by unfold execOp;simp only [];simp [Instr.alloc,newVar,newRow,hz,hcs]
      rw [e];exact ⟨rfl,rfl⟩
     refine wpOp_mono ?_ step;rintro a' w' ⟨rfl,rfl⟩;have hdst:(ops[i]?).bind (·.dst)=some dp:=by rw [hp];rfl
     refine F4 (t0:=t0) (d0:=d0) (p:=i) (G:=G2 W w.heap.size cs T) (I:=I2 L i w.heap.size) hl0 ht ?_ ?_ (hfin _) fuel _ _ _ (by simpa using hs) (by rw [getD_set_ne true hik];exact hlk) ?_ ?_ ?_
     ·rintro j v w1 w2 _ ⟨h5,h6⟩ hb;exact ⟨h5.stab hb,h6⟩
     ·intro j hj hji b w1 hF hG hD;refine wpOp_mono ?_ (hstep (some w.heap.size) j hj hji b w1 hF hG.1 (fun m d hm=>(hD m d hm).1));rintro a2 w2 ⟨⟨v,hv,h5⟩,h6,h7⟩;exact ⟨⟨v,hv,fun d hd=>⟨h5 d hd,fun e=>absurd e hji⟩⟩,⟨h6,(h7.block _ (hG.1.2 _ rfl).2).trans hG.2⟩,h7⟩
     ·rw [Array.getD_eq_getD_getElem?,Array.getElem?_setIfInBounds_self_of_lt (by omega)];rfl
     ·rw [Array.toList_setIfInBounds];omega
     ·refine ⟨by rw [mX];exact h.size,by rw [jM];exact h.defers,fun t hf=>?_,⟨⟨h.glob.1.trans (hB.mono h.glob.1.size),fun B e=>?_⟩,hnew⟩,fun j d hd hj=>?_⟩
      ·rw [fK ?_]
       ·exact h.frame t hf
       ·intro e;have:=Array.all_eq_true'.1 hf _ (Array.mem_of_getElem? hp);simp at this;exact this (Option.some.inj e)
      ·cases e;exact ⟨h.glob.1.size,cA hnew⟩
      ·by_cases hji:j=i
       ·subst hji;rw [hdst] at hd;rw [tS hd (by rw [h.size];exact (gX ht (hdst.trans hd)).1)];exact ⟨by rw [hLp];exact fun _ _=>trivial,fun _=>rfl⟩
       ·rw [getD_set_ne false (Ne.symm hji)] at hj;rw [fK (fun e=>hji ((gX ht (hdst.trans e)).2 j hd))];exact ⟨Ux (h.done j d hd hj) hB,fun e=>absurd e hji⟩
    ·refine wpOp_mono ?_ (hstep none i (by omega) hip a w h.frameE h.glob (h.deps hi));rintro a' w' ⟨⟨v,rfl,hI⟩,hG,hB⟩;refine ih _ _ _ (by simpa using hs) (by rw [getD_set_ne true hik];exact hlk) ?_ (by rw [getD_set_ne true hip];exact hlp) (h.next ht h1 (fun i v w w' _ h hb=>Aw.stab h hb) hI hG hB);rw [Array.toList_setIfInBounds];omega
def awL (B p:Nat):Nat→List Asr→List Asr
 | _,[]=>[]
 | j,q::L=>(bif Nat.beq j p then isV (.pointer (some ⟨B,0,none⟩)) else Aw (some B) q)::awL B p (j+1) L
theorem N7 {B p:Nat}:∀ (L:List Asr) (j i:Nat),i < L.length→atI (awL B p j L) i=if i+j=p then isV (.pointer (some ⟨B,0,none⟩)) else Aw (some B) (atI L i)
 | [],j,i,h=>by simp at h
 | q::L,j,0,h=>by
  show (bif Nat.beq j p then isV (.pointer (some ⟨B,0,none⟩)) else Aw (some B) q)=_;cases hb:Nat.beq j p with
  | true=>rw [if_pos (by rw [Nat.zero_add];exact Nat.eq_of_beq_eq_true hb)];rfl
  | false=>rw [if_neg (by rw [Nat.zero_add];intro e;rw [e,Nat.beq_refl] at hb;cases hb)];rfl
 | q::L,j,i+1,h=>by
  show atI (awL B p (j+1) L) i=_;rw [N7 L (j+1) i (by simpa using h)];by_cases h1:i+(j+1)=p
  ·rw [if_pos h1,if_pos (by omega)]
  ·rw [if_neg h1,if_neg (by omega)];rfl
theorem St.newO {W' A1:World} {B:Nat} {cs:List Value} {T:TypeId} (h:St w0 O G K W) (hb:Below W.heap.size W W') (hB:W.heap.size≤B) (hc:W'.heap[B]?=some (.cells cs.toArray T (0,0))) (hA:A1.heap.size=B) (hA1:dD W.heap.size A1 W') :
  St w0 ((B,cs,T)::O) G ((W.heap.size,A1)::(B+1,W')::K) W':=by
 have h2:=h.grow hb;have hlt:∀ p∈O,p.1 < W.heap.size:=fun p hp=>cA (h.own p hp).2
 refine ⟨h2.below,fun p hp=>?_,List.pairwise_cons.2 ⟨fun p hp=>?_,h2.dist⟩,fun q hq=>?_,fun g hg=>⟨(h2.rows g hg).1,fun b hbo=>?_⟩,h2.gdist⟩
 ·rcases List.mem_cons.1 hp with rfl | hp
  ·exact ⟨Nat.le_trans h.below.size hB,hc⟩
  ·exact h2.own p hp
 ·have:=hlt p hp;show B≠p.1;omega
 ·rcases List.mem_cons.1 hq with rfl | hq
  ·refine ⟨hA1,fun p hp=>?_⟩;rcases List.mem_cons.1 hp with rfl | hp
   ·exact .inr (by show A1.heap.size≤B;omega)
   ·exact .inl (hlt p hp)
  ·rcases List.mem_cons.1 hq with rfl | hq
   ·refine ⟨dD.refl _ _,fun p hp=>.inl ?_⟩;rcases List.mem_cons.1 hp with rfl | hp
    ·show B < B+1;omega
    ·have:=hlt p hp;show p.1 < B+1;omega
   ·refine ⟨(h2.kept q hq).1,fun p hp=>?_⟩;rcases List.mem_cons.1 hp with rfl | hp
    ·exact .inr (Nat.le_trans (h.kept q hq).1.1 hB)
    ·exact (h2.kept q hq).2 p hp
 ·have hbl:=(h.glt hg hbo).2;refine ⟨fun p hp=>?_,fun q hq=>?_⟩
  ·rcases List.mem_cons.1 hp with rfl | hp
   ·show B≠b;omega
   ·exact ((h2.rows g hg).2 b hbo).1 p hp
  ·rcases List.mem_cons.1 hq with rfl | hq
   ·exact .inl hbl
   ·rcases List.mem_cons.1 hq with rfl | hq
    ·exact .inl (by show b < B+1;omega)
    ·exact ((h2.rows g hg).2 b hbo).2 q hq
theorem Dl (W':World) {B lo:Nat} (hB:B≤W'.heap.size):∃ A1:World,A1.heap.size=B∧dD lo A1 W':=by refine ⟨{ W' with heap:=W'.heap.extract 0 B },by simp;omega,by simp;omega,fun b _ hb=>?_⟩;have hb':b < (W'.heap.extract 0 B).size:=hb;simp at hb';show W'.heap[b]?=(W'.heap.extract 0 B)[b]?;rw [Array.getElem?_extract,if_pos (by omega),Nat.zero_add]
def Ln (lo B:Nat) (A W:World):Prop:=A.heap.size≤W.heap.size∧∀ b,lo≤b→b < A.heap.size→b≠B→W.heap[b]?=A.heap[b]?
theorem Rh {lo B:Nat} {A1 A:World} (hA:A1.heap.size=B) (h3:dD lo A1 A) (h1:dD lo A1 W) (h2:dD (B+1) A W):Ln lo B A W :=
 ⟨h2.1,fun b hlo hb hne=>by
  rcases Nat.lt_or_ge b B with h | h
  ·exact (h1.2 b hlo (by omega)).trans (h3.2 b hlo (by omega)).symm
  ·exact h2.2 b (by omega) hb⟩
theorem Aw.mid {lo B:Nat} {A:World} {p:Asr} {v:Value} (h:Aw (some B) p v A) (hlo:lo≤A.heap.size) (hx:Ln lo B A W):∃ w',p v w'∧dD lo w' W:=by
 have hs:lo≤W.heap.size:=Nat.le_trans hlo hx.1;have hsz:(A.heap.extract 0 lo++W.heap.extract lo W.heap.size).size=W.heap.size:=by simp;omega
 have hat:∀ b,(A.heap.extract 0 lo++W.heap.extract lo W.heap.size)[b]?=if b < lo then A.heap[b]? else W.heap[b]?:=fun b=>by
  have e:(A.heap.extract 0 lo).size=lo:=by simp;omega
  rw [Array.getElem?_append,e];by_cases hb:b < lo
  ·rw [if_pos hb,if_pos hb,Array.getElem?_extract,if_pos (by omega),Nat.zero_add]
  ·rw [if_neg hb,if_neg hb,Array.getElem?_extract];by_cases hb2:b < W.heap.size
   ·rw [if_pos (by omega),show lo+(b - lo)=b by omega]
   ·rw [if_neg (by omega),Array.getElem?_eq_none (by omega)]
 refine ⟨{ A with heap:=A.heap.extract 0 lo++W.heap.extract lo W.heap.size },h _ ⟨⟨rfl,rfl,rfl⟩,?_,fun b hb hne=>?_⟩,?_,fun b h1 h2=>?_⟩
 ·show A.heap.size≤(A.heap.extract 0 lo++W.heap.extract lo W.heap.size).size;rw [hsz];exact hx.1
 ·show (A.heap.extract 0 lo++W.heap.extract lo W.heap.size)[b]?=_;rw [hat];by_cases hb2:b < lo
  ·rw [if_pos hb2]
  ·rw [if_neg hb2];exact hx.2 b (by omega) hb (fun e=>hne (by rw [e]))
 ·show (A.heap.extract 0 lo++W.heap.extract lo W.heap.size).size≤_;rw [hsz];exact Nat.le_refl _
 ·show W.heap[b]?=(A.heap.extract 0 lo++W.heap.extract lo W.heap.size)[b]?;rw [hat,if_neg (by omega)]
theorem regDA {id p dp:Nat} {o:Oper} {T:TypeId} {z:Value} {cs:List Value} {aft0:Array Edge} (hm:P.follows .mixedOrders=true) (L:List Asr) (hS:St w0 O G K W) (hL:L.length=os.length) (hl:kK (os++[o]).toArray os.length=true) (ht:dO (os++[o]).toArray n=true) (hdst:os.all (fun o=>o.dst.isSome)=true) (hfree:∀ d,o.dst=some d→look l d=none)
  (hpk:p < os.length) (hp:(os++[o]).toArray[p]?=some ⟨some dp,.alloc T,ty,pos,aft0,none⟩) (hz:∀ w,(zeroValue T).run P w = .ok z w) (hcs:z.cells=cs.toArray) (hLp:atI L p=fun _ _=>True)
  (hstep:∀ i,i < os.length→i≠p→RGA P n (os++[o]).toArray Q l W L i) (hst:mY L)
  (hfin:∀ B A1 W',Below W.heap.size W W'→A1.heap.size=B→dD W.heap.size A1 W'→W.heap.size≤B→B < W'.heap.size→St w0 ((B,cs,T)::O) G ((W.heap.size,A1)::(B+1,W')::K) W'→jY os (awL B p 0 L) l (fun l' W'=>cO P n (os++[o]).toArray Q [o] l' W') W'):eW P n (.region id (os++[o]).toArray true) Q l W:=fun a ha=>by
 refine wp_region_any hm (F5 (W:=W) (t0:=a.tmps) (d0:=a.defers) (cs:=cs) hl (by rw [ha.size];exact ht) hst hpk hp hz hcs hLp (fun β i hi hip=>hstep i hi hip β a ha) ?_ _ _ _ _ (by simp) ?_ (iP _) ?_ (oT ⟨(Below.refl _ _).drew,fun B e=>by cases e⟩))
 ·intro B a' W' hs hd hf hG hI;have hk:((os++[o]).toArray)[os.length]?=some o:=by simp
  obtain ⟨A1,hA,hA1⟩:=Dl W' (B:=B) (lo:=W.heap.size) (Nat.le_of_lt (hG.1.2 B rfl).2);refine pO os (awL B p 0 L) l (fun i d hi hd'=>?_) (hs.trans ha.size) (hd.trans ha.defers) ?_ (fun o ho=>?_) (fun l' h ha'=>?_) (hfin B A1 W' hG.1.1 hA hA1 (hG.1.2 B rfl).1 (hG.1.2 B rfl).2 (hS.newO hG.1.1 (hG.1.2 B rfl).1 hG.2 hA hA1))
  ·have h1:=hI i d hi (by simp [List.getElem?_append_left hi];simpa using hd');rw [N7 L 0 i (by omega)];by_cases hip:i+0=p
   ·rw [if_pos hip];exact h1.2 hip
   ·rw [if_neg hip];exact h1.1
  ·intro t v hv hno;rw [hf t (by
    unfold freeT;rw [Array.all_eq_true'];intro o' ho'
    have:o'∈os++[o]:=by simpa using ho'
    rcases List.mem_append.1 this with h1 | h1
    ·simpa using hno o' h1
    ·simp only [List.mem_singleton] at h1;subst h1;cases hx:o'.dst with
     | none=>simp
     | some d=>simp;intro e;subst e;rw [hfree d hx] at hv;cases hv)]
   exact ha.at_ t v hv
  ·have:=List.all_eq_true.1 hdst o ho;exact Option.isSome_iff_exists.1 this
  ·have h1:=h a' ha';unfold wpOp;rw [hk];exact h1
 ·rw [Array.getD_eq_getD_getElem?,Array.getElem?_replicate,if_pos (by simp)];rfl
 ·rw [Array.getD_eq_getD_getElem?,Array.getElem?_replicate,if_pos (by simp;omega)];rfl
theorem RGA.ext {L1 L2:List Asr} (ht:dO ops n=true) (hag:∀ j,j≤i→atI L1 j=atI L2 j) (h:RGA P n ops Q l W L1 i):RGA P n ops Q l W L2 i:=fun β a ha=>by
 have h1:=h β a ha;intro b w hF hG hD;have hlt:∀ j d,bH ops i j d=true→j < i:=fun j d hw=>by
  cases ho:ops[i]? with
  | none=>simp [bH,ho] at hw
  | some o =>
   simp only [bH,ho,Bool.and_eq_true,beq_iff_eq] at hw;obtain ⟨e,he,h2⟩:=Array.any_eq_true'.1 hw.1;simp only [Bool.and_eq_true,beq_iff_eq] at h2;rw [← h2.1];exact jL ht ho e he h2.2
 have h2:=h1 b w hF hG (fun j d hw=>by unfold IB;rw [hag j (Nat.le_of_lt (hlt j d hw))];exact hD j d hw);unfold IB at h2;rw [hag i (Nat.le_refl _)] at h2;exact h2
def anyA:Asr:=fun _ _=>True
theorem sI:gQ anyA:=fun _ _ _ _ _=>trivial
def BLA (P:Program) (n:Nat) (ops:Array Oper) (Q:Exit→Act→World→Prop) (l:Fr) (W:World) (p:Nat) (Goal:List Asr→Prop):Nat→List Asr→Nat→Prop
 | 0,Lr,_=>Goal Lr
 | m+1,Lr,k=>∃ q,gQ q∧((k=p∧q=anyA)∨(k≠p∧RGA P n ops Q l W (q::Lr).reverse k))∧BLA P n ops Q l W p Goal m (q::Lr) (k+1)
variable {Goal:List Asr→Prop}
theorem bla_nil {Lr:List Asr} {k p:Nat} (h:Goal Lr):BLA P n ops Q l W p Goal 0 Lr k:=h
theorem fX {m k p:Nat} {Lr:List Asr} (k':Nat) (hk:k+1=k') (hne:Nat.beq k p=false) (q:Asr) (hs:gQ q) (h:RGA P n ops Q l W (q::Lr).reverse k) (hr:BLA P n ops Q l W p Goal m (q::Lr) k'):BLA P n ops Q l W p Goal (m+1) Lr k:=by subst hk;exact ⟨q,hs,.inr ⟨fun e=>absurd hne (by rw [e,Nat.beq_refl];decide),h⟩,hr⟩
theorem Ri {m k p:Nat} {Lr:List Asr} (k':Nat) (hk:k+1=k') (hp:k=p) (hr:BLA P n ops Q l W p Goal m (anyA::Lr) k'):BLA P n ops Q l W p Goal (m+1) Lr k:=by subst hk;exact ⟨anyA,sI,.inl ⟨hp,rfl⟩,hr⟩
theorem N8 (p:Nat) (ht:dO ops n=true):∀ (m k:Nat) (Lr:List Asr),Lr.length=k→(∀ q∈Lr,gQ q)→(∀ i,i < k→(i=p∧atI Lr.reverse i=anyA)∨(i≠p∧RGA P n ops Q l W Lr.reverse i))→BLA P n ops Q l W p Goal m Lr k →
  ∃ Lr',Lr'.length=k+m∧(∀ q∈Lr',gQ q)∧(∀ i,i < k+m→(i=p∧atI Lr'.reverse i=anyA)∨(i≠p∧RGA P n ops Q l W Lr'.reverse i))∧Goal Lr'
 | 0,k,Lr,hl,hs,hg,h=>⟨Lr,hl,hs,hg,h⟩
 | m+1,k,Lr,hl,hs,hg,⟨q,hp,hr,hn⟩=>by
  obtain ⟨L',h1,h2,h3,h4⟩:=N8 p ht m (k+1) (q::Lr) (by simp [hl]) (fun r hq=>by
   rcases List.mem_cons.1 hq with rfl | hq
   ·exact hp
   ·exact hs r hq) (fun i hi=>by
   by_cases hik:i=k
   ·subst hik;rcases hr with ⟨e1,e2⟩ | hr
    ·exact .inl ⟨e1,by rw [aF hl];exact e2⟩
    ·exact .inr hr
   ·have hap:∀ j,j≤i→atI Lr.reverse j=atI (q::Lr).reverse j:=fun j hj=>by rw [List.reverse_cons,lH (by simp;omega)]
    rcases hg i (by omega) with ⟨e1,e2⟩ | hg
    ·exact .inl ⟨e1,by rw [← hap i (Nat.le_refl _)];exact e2⟩
    ·exact .inr ⟨hg.1,RGA.ext ht hap hg.2⟩) hn
  exact ⟨L',by omega,h2,fun i hi=>h3 i (by omega),h4⟩
theorem regBA {id dp:Nat} {o:Oper} {T:TypeId} {z:Value} {cs:List Value} {aft0:Array Edge} (hm:P.follows .mixedOrders=true) (k p:Nat) (hS:St w0 O G K W) (hk:os[k]?=some o) (hp:os[p]?=some ⟨some dp,.alloc T,ty,pos,aft0,none⟩) (hlen:os.length=k+1) (hpk:Nat.blt p k=true) (hz:∀ w,(zeroValue T).run P w = .ok z w) (hcs:z.cells=cs.toArray)
  (hl:kK os.toArray k=true) (ht:dO os.toArray n=true) (hdst:(os.take k).all (fun o=>o.dst.isSome)=true) (hfree:∀ d,o.dst=some d→look l d=none)
  (h:BLA P n os.toArray Q l W p (fun Lr=>∀ B A1 W',Below W.heap.size W W'→A1.heap.size=B→dD W.heap.size A1 W'→W.heap.size≤B→B < W'.heap.size→St w0 ((B,cs,T)::O) G ((W.heap.size,A1)::(B+1,W')::K) W'→jY (os.take k) (awL B p 0 Lr.reverse) l (fun l' W'=>cO P n os.toArray Q [o] l' W') W') k [] 0):eW P n (.region id os.toArray true) Q l W:=by
 obtain ⟨Lr,h1,h2,h3,h4⟩:=N8 p ht k 0 [] rfl (fun p hp=>by cases hp) (fun i hi=>by omega) h;have hpk':p < k:=Nat.lt_of_lt_of_le (Nat.lt_succ_self _) (Nat.le_of_ble_eq_true hpk);have e:os=os.take k++[o]:=by
  apply List.ext_getElem?;intro j;by_cases hj:j < k
  ·rw [List.getElem?_append_left (by simp;omega),List.getElem?_take,if_pos hj]
  ·by_cases hj2:j=k
   ·subst hj2;rw [List.getElem?_append_right (by simp;omega),hk];simp [show min j os.length=j by omega]
   ·rw [List.getElem?_eq_none (by omega),List.getElem?_eq_none (by simp;omega)]
 have hkl:(os.take k).length=k:=by simp;omega
 generalize hg:os.take k=os1 at *;subst hkl;subst e;rw [Nat.zero_add] at h1 h3;have hLp:atI Lr.reverse p=anyA:=by
  rcases h3 p hpk' with h5 | h5
  ·exact h5.2
  ·exact absurd rfl h5.1
 refine regDA hm Lr.reverse hS (by simp [h1]) hl ht hdst hfree hpk' (by simpa using hp) hz hcs hLp (fun i hi hip=>?_) (lW fun q hq=>h2 q (List.mem_reverse.1 hq)) h4;rcases h3 i hi with h5 | h5
 ·exact absurd h5.1 hip
 ·exact h5.2
theorem oB {B:Nat} {c:Value} {K:Fr→World→Prop} {dst:Nat} {op:Op} {ty:TypeId} {pos:String} {aft:Array Edge} {g:Option (Nat×Bool)} (h:jY os L ((dst,c)::l) K W):jY (⟨some dst,op,ty,pos,aft,g⟩::os) (Aw (some B) (isV c)::L) l K W:=fun v hv=>by
 have:v=c:=Aw.here (β:=some B) (p:=isV c) hv
 subst this;exact h
theorem St.mark (h:St w0 O G K W) (lo:Nat) (hO:∀ p∈O,p.1 < lo) (hG:G=[]):St w0 O G ((lo,W)::K) W:=by
 subst hG;exact ⟨h.below,h.own,h.dist,fun q hq=>by
  rcases List.mem_cons.1 hq with rfl | hq
  ·exact ⟨dD.refl _ _,fun p hp=>.inl (hO p hp)⟩
  ·exact h.kept q hq,fun g hg=>absurd hg List.not_mem_nil,h.gdist⟩
theorem St.own_lt (h:St w0 O G K W):∀ p∈O,p.1 < W.heap.size:=fun p hp=>cA (h.own p hp).2
end
section
variable {P:Program} {n:Nat} {Q:Exit→Act→World→Prop} {l:Fr} {w0 W:World} {ops:Array Oper} {os:List Oper} {O:Own} {G:cV} {K:List (Nat×World)} {L L2:List Asr} {i:Nat}
theorem F6 {k:Nat} {dn:Nat→Bool} {t0:Array Value} {d0:List Deferred} {G:World→Prop} {I:Nat→Value→World→Prop} (hl:kK ops k=true) (ht:dO ops t0.size=true) (hst:∀ i v w w',G w→I i v w→Below w.heap.size w w'→I i v w')
  (hstep:∀ i,i < k→dn i=false→fH P ops Q t0 G I i) (hfin:wT ops t0 d0 G I k (wpOp P ops Q k (Q .normal))) :
  ∀ (fuel:Nat) (L:Array Bool) (a:Act) (w:World),L.size=ops.size→L.getD k true=false→(∀ i,dn i=true→L.getD i false=true)→L.toList.count false≤fuel→RInv ops t0 d0 G I L a w→wpAny P .any ops Q fuel L a w:=by
 simp only [kK,Bool.and_eq_true,decide_eq_true_eq] at hl;obtain ⟨hk,hl⟩:=hl;have cnt:∀ (L:Array Bool) i,L.getD i true=false→L.toList[i]?=some false:=fun L i h1=>by
  rw [Array.getD_eq_getD_getElem?] at h1;rw [Array.getElem?_toList];cases hL:L[i]? with
  | none=>rw [hL] at h1;cases h1
  | some b=>rw [hL] at h1;simpa using h1
 intro fuel
 induction fuel with
 | zero =>
  intro L a w hs hlk hlp hc h;have:=fF _ _ (cnt L k hlk);omega
 | succ fuel ih =>
  intro L a w hs hlk hlp hc h;refine ⟨fun hr=>?_,fun i hi=>?_⟩
  ·rw [gI ht hs hr k (by omega)] at hlk;cases hlk
  ·obtain ⟨h1,o,ho,hdep⟩:=mem_ready.1 hi;have his:i < ops.size:=(Array.getElem?_eq_some_iff.1 ho).1;have hc1:=fF _ _ (cnt L i h1);have hip:dn i=false:=by
    cases hd:dn i with
    | false=>rfl
    | true =>
     have h3:=hlp i hd;have h2:=cnt L i h1;rw [Array.getElem?_toList] at h2;rw [Array.getD_eq_getD_getElem?,h2] at h3;cases h3
   by_cases hik:i=k
   ·subst hik;simp only [ho] at hl;have hall:∀ j,j < i→L.getD j false=true:=fun j hj=>by have:=List.all_eq_true.1 hl j (List.mem_range.2 hj);obtain ⟨e,he,h2⟩:=Array.any_eq_true'.1 this;simp only [Bool.and_eq_true,beq_iff_eq] at h2;have:=hdep e he h2.2;rw [h2.1] at this;exact this
    refine wpOp_mono ?_ (hfin a w h.size h.defers h.frame h.glob fun j d hj hd=>h.done j d hd (hall j hj));intro a' w' hq;have hnil:Region.ready .any ops (L.setIfInBounds i true)=[]:=by
     cases hr:Region.ready .any ops (L.setIfInBounds i true) with
     | nil=>rfl
     | cons j rest =>
      have hj:j∈Region.ready .any ops (L.setIfInBounds i true):=by rw [hr];exact List.mem_cons_self
      obtain ⟨h5,o',ho',_⟩:=mem_ready.1 hj;have hjs:j < ops.size:=(Array.getElem?_eq_some_iff.1 ho').1;by_cases hji:j=i
      ·subst hji;rw [Array.getD_eq_getD_getElem?,Array.getElem?_eq_getElem (by simpa using (by omega:j < L.size))] at h5;simp at h5
      ·rw [getD_set_ne true (Ne.symm hji)] at h5;have h6:=hall j (by omega);rw [Array.getD_eq_getD_getElem?] at h5 h6;rw [Array.getElem?_eq_getElem (by omega)] at h5 h6;simp at h5 h6;rw [h5] at h6;cases h6
    cases fuel with
    | zero=>exact ⟨hnil,hq⟩
    | succ fuel=>exact ⟨fun _=>hq,by rw [hnil];simp⟩
   ·refine wpOp_mono ?_ (hstep i (by omega) hip a w h.frameE h.glob (h.deps hi));rintro a' w' ⟨⟨v,rfl,hI⟩,hG,hB⟩;refine ih _ _ _ (by simpa using hs) (by rw [getD_set_ne true hik];exact hlk) (fun j hj=>?_) ?_ (h.next ht h1 hst hI hG hB)
    ·have hij:i≠j:=fun e=>by subst e;rw [hip] at hj;cases hj
     rw [getD_set_ne false hij];exact hlp j hj
    ·rw [Array.toList_setIfInBounds];omega
def aft (ops:Array Oper) (j:Nat):List Nat:=match ops[j]? with | some o=>(o.after.toList.filter fun e=>Region.binds .any e).map (·.on) | none=>[]
def earlyL (ops:Array Oper) (p:Nat):List Nat:=(List.range p).reverse.foldl (fun S j=>bif S.contains j then aft ops j++S else S) (aft ops p)
theorem tY {p:Nat} {D:Nat→Prop} (h0:∀ x∈aft ops p,D x) (hc:∀ j,D j→∀ x∈aft ops j,D x):∀ x∈earlyL ops p,D x:=by
 have key:∀ (js S:List Nat),(∀ x∈S,D x)→∀ x∈js.foldl (fun S j=>bif S.contains j then aft ops j++S else S) S,D x:=by
  intro js
  induction js with
  | nil=>intro S h;exact h
  | cons j js ih =>
   intro S h;refine ih _ ?_;show ∀ x∈(bif S.contains j then aft ops j++S else S),D x;cases hj:S.contains j with
   | false=>exact h
   | true =>
    intro x hx;rw [cond_true] at hx;rcases List.mem_append.1 hx with hx | hx
    ·exact hc j (h j (List.contains_iff_mem.1 hj)) x hx
    ·exact h x hx
 exact key _ _ h0
theorem F7 {j:Nat} {o:Oper} (ho:ops[j]?=some o) {x:Nat} (hx:x∈aft ops j):∃ e∈o.after,e.on=x∧Region.binds .any e=true:=by unfold aft at hx;rw [ho] at hx;obtain ⟨e,he,rfl⟩:=List.mem_map.1 hx;obtain ⟨h1,h2⟩:=List.mem_filter.1 he;exact ⟨e,Array.mem_toList_iff.1 h1,rfl,h2⟩
def IP (L2:List Asr) (p:Nat) (v':Value) (i:Nat) (v:Value) (w:World):Prop:=(i=p→v=v')∧atI L2 i v w
theorem Co {k p dp:Nat} {t0:Array Value} {d0:List Deferred} {late:Nat→Bool} {o:Oper} {RA:World→Value→World→Prop} (hl:kK ops k=true) (ht:dO ops t0.size=true) (hst:mY L) (hst2:mY L2) (hpk:p < k) (hp:ops[p]?=some o) (hod:o.dst=some dp) (hog:o.guard=none)
  (hearly:∀ j,j < k→j≠p→late j=false→j∈earlyL ops p)
  (hstep:∀ i,i < k→i≠p→fH P ops Q t0 (fun w=>Below W.heap.size W w) (atI L) i)
  (happ:∀ (a:Act) (w:World),(∀ t,freeT ops t=true→a.eval (.tmp t)=t0.getD t undef)→Below W.heap.size W w→(∀ j d,bH ops p j d=true→atI L j (a.eval (.tmp d)) w)→∃ v w',(execOp a.eval o).run P w = .ok (.value v) w'∧RA w v w')
  (hL2p:atI L2 p=anyA) (hpure:∀ i,i < k→i≠p→∀ v w w',atI L i v w→atI L2 i v w')
  (hlate:∀ v' W2 i,i < k→i≠p→late i=true→fH P ops Q t0 (fun w=>w=W2) (IP L2 p v') i)
  (hfin:∀ A v' W2,Below W.heap.size W A→RA A v' W2→wT ops t0 d0 (fun w=>w=W2) (IP L2 p v') k (wpOp P ops Q k (Q .normal))) :
  ∀ (fuel:Nat) (LB:Array Bool) (a:Act) (w:World),LB.size=ops.size→LB.getD k true=false→LB.toList.count false≤fuel→LB.getD p true=false→(∀ j,LB.getD j false=true→∀ x∈aft ops j,LB.getD x false=true)→RInv ops t0 d0 (fun w=>Below W.heap.size W w) (atI L) LB a w→wpAny P .any ops Q fuel LB a w:=by
 have hl0:=hl;simp only [kK,Bool.and_eq_true,decide_eq_true_eq] at hl;obtain ⟨hk,hl⟩:=hl;have cnt:∀ (L:Array Bool) i,L.getD i true=false→L.toList[i]?=some false:=fun L i h1=>by
  rw [Array.getD_eq_getD_getElem?] at h1;rw [Array.getElem?_toList];cases hL:L[i]? with
  | none=>rw [hL] at h1;cases h1
  | some b=>rw [hL] at h1;simpa using h1
 intro fuel
 induction fuel with
 | zero =>
  intro LB a w hs hlk hc hlp hcl h;have:=fF _ _ (cnt LB k hlk);omega
 | succ fuel ih =>
  intro LB a w hs hlk hc hlp hcl h;refine ⟨fun hr=>?_,fun i hi=>?_⟩
  ·rw [gI ht hs hr k (by omega)] at hlk;cases hlk
  ·obtain ⟨h1,o',ho,hdep⟩:=mem_ready.1 hi;have his:i < ops.size:=(Array.getElem?_eq_some_iff.1 ho).1;have hc1:=fF _ _ (cnt LB i h1);by_cases hik:i=k
   ·subst hik;simp only [ho] at hl;have:=List.all_eq_true.1 hl p (List.mem_range.2 hpk);obtain ⟨e,he,h2⟩:=Array.any_eq_true'.1 this;simp only [Bool.and_eq_true,beq_iff_eq] at h2;have h3:=hdep e he h2.2;rw [h2.1] at h3;have h4:=cnt LB p hlp;rw [Array.getElem?_toList] at h4;rw [Array.getD_eq_getD_getElem?,h4] at h3;cases h3
   ·by_cases hip:i=p
    ·subst hip;rw [hp] at ho;have ho':=(Option.some.inj ho).symm;subst ho';obtain ⟨v',w',hr,hRA⟩:=happ a w h.frameE h.glob (h.deps hi);have step:wpOp P ops Q i (fun a2 w2=>a2=a.put (some dp) v'∧w2=w') a w:=by unfold wpOp;simp only [hp,fI hog,if_true];refine .inl ?_;unfold Oper.wp;rw [hr];exact ⟨by rw [hod],rfl⟩
     refine wpOp_mono ?_ step;rintro a2 w2 ⟨rfl,rfl⟩;have hdst:(ops[i]?).bind (·.dst)=some dp:=by rw [hp];exact hod
     refine F6 (t0:=t0) (d0:=d0) (dn:=fun j=>decide (j=i) || (decide (j < k) && !late j)) (G:=fun w=>w=w2) (I:=IP L2 i v') hl0 ht ?_ ?_ (hfin _ _ _ h.glob hRA) fuel _ _ _ (by simpa using hs) (by rw [getD_set_ne true hik];exact hlk) ?_ ?_ ?_
     ·rintro j v w1 w3 _ ⟨h5,h6⟩ hb;exact ⟨h5,mZ hst2 _ _ _ _ h6 hb⟩
     ·intro j hj hd;simp only [Bool.or_eq_false_iff,decide_eq_false_iff_not,Bool.and_eq_false_iff,Bool.not_eq_false'] at hd;refine hlate v' w2 j hj hd.1 ?_;rcases hd.2 with h5 | h5
      ·exact absurd hj h5
      ·exact h5
     ·intro j hd;simp only [Bool.or_eq_true,decide_eq_true_eq,Bool.and_eq_true,Bool.not_eq_true'] at hd;by_cases hji:j=i
      ·subst hji;rw [Array.getD_eq_getD_getElem?,Array.getElem?_setIfInBounds_self_of_lt (by omega)];rfl
      ·rcases hd with hd | ⟨hd1,hd2⟩
       ·exact absurd hd hji
       ·rw [getD_set_ne false (Ne.symm hji)];refine tY (D:=fun x=>LB.getD x false=true) (fun x hx=>?_) (fun j hj x hx=>hcl j hj x hx) j (hearly j hd1 hji hd2);obtain ⟨e,he,h5,h6⟩:=F7 hp hx;have h7:=hdep e he h6;rw [h5] at h7;exact h7
     ·rw [Array.toList_setIfInBounds];omega
     ·refine ⟨by rw [mX];exact h.size,by rw [jM];exact h.defers,fun t hf=>?_,rfl,fun j d hd hj=>?_⟩
      ·rw [fK ?_]
       ·exact h.frame t hf
       ·intro e;have:=Array.all_eq_true'.1 hf _ (Array.mem_of_getElem? hp);simp at this;exact this (hod.trans e)
      ·by_cases hji:j=i
       ·subst hji;rw [hdst] at hd;rw [tS hd (by rw [h.size];exact (gX ht (hdst.trans hd)).1)];exact ⟨fun _=>rfl,by rw [hL2p];trivial⟩
       ·rw [getD_set_ne false (Ne.symm hji)] at hj;rw [fK (fun e=>hji ((gX ht (hdst.trans e)).2 j hd))];have hjk:j < k:=by
         obtain ⟨o2,ho2,_⟩:=Option.bind_eq_some_iff.1 hd;have h5:=(Array.getElem?_eq_some_iff.1 ho2).1;have h6:j≠k:=fun e=>by subst e;have h4:=cnt LB j hlk;rw [Array.getElem?_toList] at h4;rw [Array.getD_eq_getD_getElem?,h4] at hj;cases hj
         omega
        exact ⟨fun e=>absurd e hji,hpure j hjk hji _ _ _ (h.done j d hd hj)⟩
    ·refine wpOp_mono ?_ (hstep i (by omega) hip a w h.frameE h.glob (h.deps hi));rintro a' w' ⟨⟨v,rfl,hI⟩,hG,hB⟩;refine ih _ _ _ (by simpa using hs) (by rw [getD_set_ne true hik];exact hlk) ?_ (by rw [getD_set_ne true hip];exact hlp) (fun j hj x hx=>?_) (h.next ht h1 (fun i v w w' _ h hb=>mZ hst i v w w' h hb) hI hG hB)
     ·rw [Array.toList_setIfInBounds];omega
     ·have hx2:LB.getD x false=true:=by
       by_cases hji:j=i
       ·subst hji;obtain ⟨e,he,h5,h6⟩:=F7 ho hx;have h7:=hdep e he h6;rw [h5] at h7;exact h7
       ·rw [getD_set_ne false (Ne.symm hji)] at hj;exact hcl j hj x hx
      by_cases hxi:x=i
      ·subst hxi;rw [Array.getD_eq_getD_getElem?,Array.getElem?_setIfInBounds_self_of_lt (by omega)];rfl
      ·rw [getD_set_ne false (Ne.symm hxi)];exact hx2
def pvL (v:Value) (p:Nat):Nat→List Asr→List Asr
 | _,[]=>[]
 | j,q::L=>(bif Nat.beq j p then isV v else q)::pvL v p (j+1) L
theorem Oa {v:Value} {p:Nat}:∀ (L:List Asr) (j i:Nat),i < L.length→atI (pvL v p j L) i=if i+j=p then isV v else atI L i
 | [],j,i,h=>by simp at h
 | q::L,j,0,h=>by
  show (bif Nat.beq j p then isV v else q)=_;cases hb:Nat.beq j p with
  | true=>rw [if_pos (by rw [Nat.zero_add];exact Nat.eq_of_beq_eq_true hb)];rfl
  | false=>rw [if_neg (by rw [Nat.zero_add];intro e;rw [e,Nat.beq_refl] at hb;cases hb)];rfl
 | q::L,j,i+1,h=>by
  show atI (pvL v p (j+1) L) i=_;rw [Oa L (j+1) i (by simpa using h)];by_cases h1:i+(j+1)=p
  ·rw [if_pos h1,if_pos (by omega)]
  ·rw [if_neg h1,if_neg (by omega)];rfl
variable {d:Nat} {op:Op} {ty:TypeId} {pos:String} {aft:Array Edge} {v:Value} {gd:Option (Nat×Bool)}
def RGL (P:Program) (n:Nat) (ops:Array Oper) (Q:Exit→Act→World→Prop) (l:Fr) (L2:List Asr) (p i:Nat):Prop:=∀ v' W2 a,Has n l a→fH P ops Q a.tmps (fun w=>w=W2) (IP L2 p v') i
theorem lgV {p:Nat} (li:Fr) (hi:ops[i]?=some ⟨some d,op,ty,pos,aft,gd⟩) (hw:fT ops L2 i ⟨some d,op,ty,pos,aft,gd⟩) (hli:wV n ops l L2 i li) (hr:∀ w,gA P li ⟨some d,op,ty,pos,#[],none⟩ w v w) (hI:atI L2 i=isV v) (hip:Nat.beq i p=false):RGL P n ops Q l L2 p i :=
 fun v' W2 a ha=>fH.value hi fun b w hF hG hD=>⟨hw.yes (fun j d h=>(hD j d h).2),v,w,by rw [eR b.eval _ _ _ _ pos _ #[] _ none];exact hr w b.eval (jA ha hF (fun j d h=>(hD j d h).2) hli),⟨fun e=>absurd hip (by rw [e,Nat.beq_refl];decide),by rw [hI];rfl⟩,hG,Below.refl _ _⟩
theorem RGL.ext {L1 L2:List Asr} {p:Nat} (ht:dO ops n=true) (hag:∀ j,j≤i→atI L1 j=atI L2 j) (h:RGL P n ops Q l L1 p i):RGL P n ops Q l L2 p i:=fun v' W2 a ha=>by
 have h1:=h v' W2 a ha;intro b w hF hG hD;have hlt:∀ j d,bH ops i j d=true→j < i:=fun j d hw=>by
  cases ho:ops[i]? with
  | none=>simp [bH,ho] at hw
  | some o =>
   simp only [bH,ho,Bool.and_eq_true,beq_iff_eq] at hw;obtain ⟨e,he,h2⟩:=Array.any_eq_true'.1 hw.1;simp only [Bool.and_eq_true,beq_iff_eq] at h2;rw [← h2.1];exact jL ht ho e he h2.2
 have h2:=h1 b w hF hG (fun j d hw=>by unfold IP;rw [hag j (Nat.le_of_lt (hlt j d hw))];exact hD j d hw);unfold IP at h2;rw [hag i (Nat.le_refl _)] at h2;exact h2
def Oc (q q2:Asr):Prop:=∀ v w w',q v w→q2 v w'
theorem Uy {c:Value}:Oc (isV c) (isV c):=fun _ _ _ h=>h
theorem Ic {q:Asr}:Oc q anyA:=fun _ _ _ _=>trivial
def Ai (ops:Array Oper) (p j:Nat):Bool:=(earlyL ops p).contains j
def BLP (P:Program) (n:Nat) (ops:Array Oper) (Q:Exit→Act→World→Prop) (l:Fr) (W:World) (p:Nat) (Goal:List Asr→List Asr→Prop):Nat→List Asr→List Asr→Nat→Prop
 | 0,Lr,L2r,_=>Goal Lr L2r
 | m+1,Lr,L2r,k=>∃ q q2,gQ q∧gQ q2∧Oc q q2∧((k=p∧q2=anyA)∨(k≠p∧RG P n ops Q l W (q::Lr).reverse k∧(Ai ops p k=true∨RGL P n ops Q l (q2::L2r).reverse p k)))∧BLP P n ops Q l W p Goal m (q::Lr) (q2::L2r) (k+1)
variable {Goal:List Asr→List Asr→Prop}
theorem Od {Lr L2r:List Asr} {k p:Nat} (h:Goal Lr L2r):BLP P n ops Q l W p Goal 0 Lr L2r k:=h
theorem kM {m k p:Nat} {Lr L2r:List Asr} {c:Value} (k':Nat) (hk:k+1=k') (hne:Nat.beq k p=false) (he:Ai ops p k=true) (h:RG P n ops Q l W (isV c::Lr).reverse k) (hr:BLP P n ops Q l W p Goal m (isV c::Lr) (isV c::L2r) k'):BLP P n ops Q l W p Goal (m+1) Lr L2r k:=by subst hk;exact ⟨isV c,isV c,aE _,aE _,Uy,.inr ⟨fun e=>absurd hne (by rw [e,Nat.beq_refl];decide),h,.inl he⟩,hr⟩
theorem blp_q {m k p:Nat} {Lr L2r:List Asr} (k':Nat) (hk:k+1=k') (hne:Nat.beq k p=false) (he:Ai ops p k=true) (q:Asr) (hs:gQ q) (h:RG P n ops Q l W (q::Lr).reverse k) (hr:BLP P n ops Q l W p Goal m (q::Lr) (anyA::L2r) k'):BLP P n ops Q l W p Goal (m+1) Lr L2r k:=by subst hk;exact ⟨q,anyA,hs,sI,Ic,.inr ⟨fun e=>absurd hne (by rw [e,Nat.beq_refl];decide),h,.inl he⟩,hr⟩
theorem Id {m k p:Nat} {Lr L2r:List Asr} {c:Value} (k':Nat) (hk:k+1=k') (hne:Nat.beq k p=false) (h:RG P n ops Q l W (isV c::Lr).reverse k) (h2:RGL P n ops Q l (isV c::L2r).reverse p k) (hr:BLP P n ops Q l W p Goal m (isV c::Lr) (isV c::L2r) k'):BLP P n ops Q l W p Goal (m+1) Lr L2r k:=by subst hk;exact ⟨isV c,isV c,aE _,aE _,Uy,.inr ⟨fun e=>absurd hne (by rw [e,Nat.beq_refl];decide),h,.inr h2⟩,hr⟩
theorem Oe {m k p:Nat} {Lr L2r:List Asr} (k':Nat) (hk:k+1=k') (hp:k=p) (hr:BLP P n ops Q l W p Goal m (anyA::Lr) (anyA::L2r) k'):BLP P n ops Q l W p Goal (m+1) Lr L2r k:=by subst hk;exact ⟨anyA,anyA,sI,sI,Ic,.inl ⟨hp,rfl⟩,hr⟩
def BG (P:Program) (n:Nat) (ops:Array Oper) (Q:Exit→Act→World→Prop) (l:Fr) (W:World) (p:Nat) (L L2:List Asr) (i:Nat):Prop:=Oc (atI L i) (atI L2 i)∧((i=p∧atI L2 i=anyA)∨(i≠p∧RG P n ops Q l W L i∧(Ai ops p i=true∨RGL P n ops Q l L2 p i)))
theorem Of (p:Nat) (ht:dO ops n=true):∀ (m k:Nat) (Lr L2r:List Asr),Lr.length=k→L2r.length=k→(∀ q∈Lr,gQ q)→(∀ q∈L2r,gQ q)→(∀ i,i < k→BG P n ops Q l W p Lr.reverse L2r.reverse i)→BLP P n ops Q l W p Goal m Lr L2r k →
  ∃ Lr' L2r',Lr'.length=k+m∧L2r'.length=k+m∧(∀ q∈Lr',gQ q)∧(∀ q∈L2r',gQ q)∧(∀ i,i < k+m→BG P n ops Q l W p Lr'.reverse L2r'.reverse i)∧Goal Lr' L2r'
 | 0,k,Lr,L2r,hl,hl2,hs,hs2,hg,h=>⟨Lr,L2r,hl,hl2,hs,hs2,hg,h⟩
 | m+1,k,Lr,L2r,hl,hl2,hs,hs2,hg,⟨q,q2,hp,hp2,hpu,hr,hn⟩=>by
  obtain ⟨L',L2',h1,h2,h3,h4,h5,h6⟩:=Of p ht m (k+1) (q::Lr) (q2::L2r) (by simp [hl]) (by simp [hl2]) (fun r hq=>by
   rcases List.mem_cons.1 hq with rfl | hq
   ·exact hp
   ·exact hs r hq) (fun r hq=>by
   rcases List.mem_cons.1 hq with rfl | hq
   ·exact hp2
   ·exact hs2 r hq) (fun i hi=>by
   by_cases hik:i=k
   ·subst hik;refine ⟨by rw [aF hl,aF hl2];exact hpu,?_⟩;rcases hr with ⟨e1,e2⟩ | hr
    ·exact .inl ⟨e1,by rw [aF hl2];exact e2⟩
    ·exact .inr hr
   ·have hap:∀ j,j≤i→atI Lr.reverse j=atI (q::Lr).reverse j:=fun j hj=>by rw [List.reverse_cons,lH (by simp;omega)]
    have hap2:∀ j,j≤i→atI L2r.reverse j=atI (q2::L2r).reverse j:=fun j hj=>by rw [List.reverse_cons,lH (by simp;omega)]
    obtain ⟨g1,g2⟩:=hg i (by omega);refine ⟨by rw [← hap i (Nat.le_refl _),← hap2 i (Nat.le_refl _)];exact g1,?_⟩;rcases g2 with ⟨e1,e2⟩ | ⟨e1,e2,e3⟩
    ·exact .inl ⟨e1,by rw [← hap2 i (Nat.le_refl _)];exact e2⟩
    ·exact .inr ⟨e1,RG.ext ht hap e2,e3.imp id (RGL.ext ht hap2)⟩) hn
  exact ⟨L',L2',by omega,by omega,h3,h4,fun i hi=>h5 i (by omega),h6⟩
def RowOf (m s:Nat) (q:List Value→World→Prop) (py:Asr):Prop:=∀ v w,py v w→∃ b o c cs,v = .slice (some ⟨b,o,none⟩) m c∧aC w b o cs∧cs.length=m * s∧cs.all Value.oneCell'=true∧q cs w
theorem xV {lo m s:Nat} {e:TypeId} {cs:List Value} (hl:Nat.beq cs.length (m * s)=true) (h1:cs.all Value.oneCell'=true):RowOf m s (fun xs _=>xs=cs) (oV lo m e cs):=fun v w ⟨B,hv,_,hc⟩ =>
 ⟨B,0,m,cs,hv,aC.own (j:=0) (m:=cs.length) hc (by simp),Nat.eq_of_beq_eq_true hl,h1,rfl⟩
theorem regBP {id dp p k:Nat} {o:Oper} {t e tx tz:TypeId} {inf:TypeInfo} {z:Value} {gi m:Nat} {g:GR} {aftp:Array Edge} (hm:P.follows .mixedOrders=true) (hS:St w0 O G K W) (hk:os[k]?=some o) (hlen:os.length=k+1) (hl:kK os.toArray k=true) (ht:dO os.toArray n=true) (hdst:(os.take k).all (fun o=>o.dst.isSome)=true) (hfree:∀ d,o.dst=some d→look l d=none)
  (hp:os[p]?=some ⟨some dp,.call { callee:=.builtin .append,args:=#[.tmp tx,.tmp tz],argTypes:=#[t,t] },ty,pos,aftp,none⟩) (hpk:Nat.blt p k=true)
  (hU:P.underlying t=some (.slice e)) (hinf:P.info? e=some inf) (hz:inf.zero=some z) (hzs:z.cells.size=inf.size) (hsz:0 < inf.size)
  (hi:G[gi]?=some g) (he:g.e=e) (hgs:g.size=inf.size) (h63:g.n+m≤maxLen) (hbytes:(g.n+m) * inf.bytes≤140737488355328)
  (h:BLP P n os.toArray Q l W p (fun Lr L2r=>∃ (py:Asr) (q:List Value→World→Prop),OpG n os.toArray l Lr.reverse p tx (isV g.v)∧OpG n os.toArray l Lr.reverse p tz py∧RowOf m inf.size q py ∧
   ∀ A v' news W',Below W.heap.size W A→q news A→St w0 O (G.set gi ⟨v',g.n+m,g.xs++news,e,g.size⟩) ((W.heap.size,A)::K) W'→jY (os.take k) (pvL v' p 0 L2r.reverse) l (fun l' W'=>cO P n os.toArray Q [o] l' W') W') k [] [] 0):eW P n (.region id os.toArray true) Q l W:=by
 obtain ⟨Lr,L2r,h1,h2,h3,h4,h5,py,q,hx,hy,hpy,hfin⟩:=Of p ht k 0 [] [] rfl rfl (fun p hp=>by cases hp) (fun p hp=>by cases hp) (fun i hi=>by omega) h;have hpk':p < k:=Nat.lt_of_lt_of_le (Nat.lt_succ_self _) (Nat.le_of_ble_eq_true hpk);subst he;rw [Nat.zero_add] at h1 h2 h5;have hpo:os.toArray[p]?=some ⟨some dp,.call { callee:=.builtin .append,args:=#[.tmp tx,.tmp tz],argTypes:=#[t,t] },ty,pos,aftp,none⟩:=by simpa using hp
 have hko:os.toArray[k]?=some o:=by simpa using hk
 have hL2p:atI L2r.reverse p=anyA:=by
  rcases (h5 p hpk').2 with h6 | h6
  ·exact h6.2
  ·exact absurd rfl h6.1
 intro a ha;refine wp_region_any hm (Co (W:=W) (t0:=a.tmps) (d0:=a.defers) (L:=Lr.reverse) (L2:=L2r.reverse) (late:=fun j => !Ai os.toArray p j)
  (RA:=fun A v' W'=>∃ news,q news A∧St w0 O (G.set gi ⟨v',g.n+m,g.xs++news,g.e,g.size⟩) ((W.heap.size,A)::K) W') hl (by rw [ha.size];exact ht) (lW fun q hq=>h3 q (List.mem_reverse.1 hq)) (lW fun q hq=>h4 q (List.mem_reverse.1 hq)) hpk' hpo rfl rfl ?_ ?_ ?_ hL2p ?_ ?_ ?_ _ _ _ _ (by simp) ?_ (iP _) ?_ (fun j hj=>by rw [Array.getD_eq_getD_getElem?,Array.getElem?_replicate] at hj;split at hj<;>simp at hj) (oT ((Below.refl _ _).drew)))
 ·intro j hj hjp he;simp only [Bool.not_eq_false'] at he;exact List.contains_iff_mem.1 he
 ·intro i hi hip;rcases (h5 i hi).2 with h6 | h6
  ·exact absurd h6.1 hip
  ·exact h6.2.1 a ha
 ·intro b w hF hG hD;have ex:b.eval (.tmp tx)=g.v:=hx a ha b w hF hD;obtain ⟨bb,oo,c,cs,ey,hc,hcl,h1c,hq⟩:=hpy _ w (hy a ha b w hF hD);have hS2:=hS.call hG;have hrow:=hS2.row gi hi;rw [hgs] at hrow;obtain ⟨v',W',hr,k2,k3,k4⟩:=lU (P:=P) (w:=w) w0.heap.size t ty g.e inf z hU hinf hz hzs hsz g.v g.n g.xs hrow ⟨bb,oo,none⟩ m c cs hcl (fun j u hj=>by rw [Addr.add_lit];exact hc.get j u hj) (fun u hu=>List.all_eq_true.1 h1c u hu) h63 hbytes hS2.below.size;rw [← hgs] at k2;refine ⟨v',W',?_,cs,hq,hS2.setG gi hi k2 k3 k4⟩;unfold execOp;simp only [resolve,invoke,builtin,Sem.run_bind,Sem.run_pure,Result.andThen_ok,List.map_toArray,List.map_cons,List.map_nil,ex,ey,hr]
 ·intro i hi hip v w w' hv;exact (h5 i hi).1 v w w' hv
 ·intro v' W2 i hi hip hlt;rcases (h5 i hi).2 with h6 | h6
  ·exact absurd h6.1 hip
  ·rcases h6.2.2 with h7 | h7
   ·rw [h7] at hlt;cases hlt
   ·exact h7 v' W2 a ha
 ·rintro A v' W2 hB ⟨news,hq,hS2⟩;intro a' W' hs hd hf hG hI;subst hG;have hdst':∀ o∈os.take k,∃ d,o.dst=some d:=fun o ho=>Option.isSome_iff_exists.1 (List.all_eq_true.1 hdst o ho)
  have htk:(os.take k).length=k:=by simp;omega
  refine pO (os.take k) (pvL v' p 0 L2r.reverse) l (fun i d hi hd'=>?_) (hs.trans ha.size) (hd.trans ha.defers) ?_ hdst' (fun l' h ha'=>?_) (hfin A v' news W' hB hq hS2)
  ·have hik:i < k:=by omega
   have h6:=hI i d hik (by rw [List.getElem?_take,if_pos hik] at hd';simpa using hd');rw [Oa L2r.reverse 0 i (by simp;omega)];by_cases hip:i+0=p
   ·rw [if_pos hip];exact h6.1 hip
   ·rw [if_neg hip];exact h6.2
  ·intro t' v hv hno;rw [hf t' (by
    unfold freeT;rw [Array.all_eq_true'];intro o' ho';have ho2:o'∈os:=by simpa using ho'
    obtain ⟨j,hj⟩:=List.getElem?_of_mem ho2;by_cases hjk:j < k
    ·have:o'∈os.take k:=List.mem_of_getElem? (by rw [List.getElem?_take,if_pos hjk];exact hj)
     simpa using hno o' this
    ·have hjl:=(List.getElem?_eq_some_iff.1 hj).1
     have:j=k:=by omega
     subst this;rw [hk] at hj;have e2:=Option.some.inj hj;subst e2;cases hx:o.dst with
     | none=>simp
     | some d=>simp;intro e;subst e;rw [hfree d hx] at hv;cases hv)]
   exact ha.at_ t' v hv
  ·have h6:=h a' ha';unfold wpOp;rw [hko];exact h6
 ·rw [Array.getD_eq_getD_getElem?,Array.getElem?_replicate,if_pos (by simp;omega)];rfl
 ·rw [Array.getD_eq_getD_getElem?,Array.getElem?_replicate,if_pos (by simp;omega)];rfl
end
theorem jB {w:World} {B:Nat} {cs:Array Value} {T:TypeId} (h:w.heap[B]?=some (.cells cs T (0,0))) {j:Nat} {v:Value} (hj:cs[j]?=some v):w.cell? ⟨B,j,none⟩=some v:=by unfold World.cell?;simp only [h];exact hj
theorem gK {w:World} {B:Nat} {a b c:Value} {T:TypeId} (h:w.heap[B]?=some (.cells #[a,b,c] T (0,0))):w.cell? ⟨B,0,none⟩=some a∧w.cell? ⟨B,1,none⟩=some b∧w.cell? ⟨B,2,none⟩=some c:=⟨jB h rfl,jB h rfl,jB h rfl⟩
theorem eZ {w:World} {B:Nat} {a b c d e f:Value} {T:TypeId} (h:w.heap[B]?=some (.cells #[a,b,c,d,e,f] T (0,0))):w.cell? ⟨B,0,none⟩=some a∧w.cell? ⟨B,1,none⟩=some b∧w.cell? ⟨B,2,none⟩=some c∧w.cell? ⟨B,3,none⟩=some d∧w.cell? ⟨B,4,none⟩=some e∧w.cell? ⟨B,5,none⟩=some f:=⟨jB h rfl,jB h rfl,jB h rfl,jB h rfl,jB h rfl,jB h rfl⟩
theorem SIn.two {w:World} {d:Nat} {f:SF} {p q:SV} (h:SIn w (d+1) (.mk f [p,q])):f.len=2∧∃ b off,f.a=some ⟨b,off,none⟩∧b < w.heap.size∧S3 w b off p.f∧S3 w b (off+3) q.f∧SIn w d p∧SIn w d q:=by
 obtain ⟨h1,h2,h3⟩:=h;refine ⟨h1.symm,?_⟩;rcases h2 with h2 | ⟨b,off,ha,hc⟩
 ·cases h2
 ·have c0:=hc 0 p rfl;have c1:=hc 1 q rfl;simp only [Nat.zero_mul,Nat.add_zero,Nat.one_mul] at c0 c1;exact ⟨b,off,ha,jF c0.1,c0,c1,h3 p (by simp),h3 q (by simp)⟩
theorem tZ {α:Type} {l:List α} (h:l.length=2):∃ p q,l=[p,q]:=by
 match l,h with
 | [p,q],_=>exact ⟨p,q,rfl⟩
theorem wX (d:Nat) (s:SV) (e0:Int) (w:World) (hs:SIn w d s) (he:dR s=e0) :
  Calls prog 12 #[s.f.val] w fun e w'=>e = .returned (.int .i64 e0)∧Below w.heap.size w w':=by
 match d,s,hs with
 | d+1,.mk ⟨t,n,a,l,c⟩ ps,hs =>
 show Calls prog 12 #[.agg #[.int .i64 t,.int .i64 n,.slice a l c]] w _;have hl:ps.length=l:=hs.1;have hB:=Lib.hid (Cm w #[.int .i64 t,.int .i64 n,.slice a l c] 25);have BX:=Lib.hid (eA w (.cells #[.int .i64 t,.int .i64 n,.slice a l c] 25));obtain ⟨r,hr⟩:∃ r,bV t n l=r:=⟨_,rfl⟩;have HR:=Lib.hid hr;cases r
 ·by_cases ht:t=5
  ·subst ht;by_cases hn:n=0
   ·subst hn;by_cases hl2:l=2
    ·subst hl2;obtain ⟨p,q,rfl⟩:=tZ hl;obtain ⟨_,b,off,ha,hb,hp,hq,_,_⟩:=hs.two;obtain rfl:a=some ⟨b,off,none⟩:=ha;obtain ⟨⟨pt,pn,pa,pl,pc⟩,pps⟩:=p;obtain ⟨⟨qt,qn,qa,ql,qc⟩,qps⟩:=q;have HP:=Lib.hid hp;have HQ:=Lib.hid hq;obtain ⟨r1,hr1⟩:∃ r,bV pt pn pl=r:=⟨_,rfl⟩;obtain ⟨r2,hr2⟩:∃ r,bV qt qn ql=r:=⟨_,rfl⟩;have HR1:=Lib.hid hr1;have HR2:=Lib.hid hr2;have HE:Hid ((if r1=true∧r2=true then (0:Int) else 50)=e0):=by show _=_;rw [← he];simp [dR,hr,SV.pl,SV.f,hr1,hr2]
     clear hr hs hl hp hq hr1 hr2 he;cases r1
     ·have HE2:Hid ((50:Int)=e0):=by show _=_;rw [← HE.out];simp
      clear HE;go_enter func12,ntmps12;go_wp2_with fail;refine (kD 5 0 _ 2 c false HR.out _).mono ?_;rintro e w1 ⟨rfl,hb1⟩;obtain ⟨x0,x1,x2⟩:=gK (cP BX.out hb1);obtain ⟨y0,y1,y2⟩:=(HP.out.below hB.out).below hb1;dsimp only [SV.f] at y0 y1 y2;go_wp2_with fail;refine (kD pt pn _ pl pc false HR1.out _).mono ?_;rintro e w2 ⟨rfl,hb2⟩;go_wp2;go_ret;exact ⟨eM HE2.out,(hB.out.trans (hb1.mono hB.out.size)).trans (hb2.mono (hB.out.trans (hb1.mono hB.out.size)).size)⟩
     ·have HE2:Hid ((if r2=true then (0:Int) else 50)=e0):=by show _=_;rw [← HE.out];simp
      clear HE;go_enter func12,ntmps12;go_wp2_with fail;refine (kD 5 0 _ 2 c false HR.out _).mono ?_;rintro e w1 ⟨rfl,hb1⟩;have hB1:=hB.out.trans (hb1.mono hB.out.size);obtain ⟨x0,x1,x2⟩:=gK (cP BX.out hb1);obtain ⟨y0,y1,y2⟩:=(HP.out.below hB.out).below hb1;dsimp only [SV.f] at y0 y1 y2;go_wp2_with fail;refine (kD pt pn _ pl pc true HR1.out _).mono ?_;rintro e w2 ⟨rfl,hb2⟩;have hB2:=hB1.trans (hb2.mono hB1.size);clear x0 x1 x2 y0 y1 y2;obtain ⟨x0,x1,x2⟩:=gK (cP (cP BX.out hb1) hb2);obtain ⟨y0,y1,y2⟩:=((HQ.out.below hB.out).below hb1).below hb2;dsimp only [SV.f] at y0 y1 y2;simp only [Nat.add_assoc,Nat.reduceAdd] at y1 y2;go_wp2_with fail;refine (kD qt qn _ ql qc r2 HR2.out _).mono ?_;rintro e w3 ⟨rfl,hb3⟩;have hB3:=hB2.trans (hb3.mono hB2.size);cases r2
      all_goals
       go_wp2;go_ret;exact ⟨eM HE2.out,hB3⟩
    ·have HE:Hid ((50:Int)=e0):=by show _=_;rw [← he];simp [dR,hr,hl,hl2]
     have hl3:((l:Int) == 2)=false:=by simp;omega
     clear hr hs hl he hl2;go_enter func12,ntmps12;go_wp2_with fail;refine (kD 5 0 a l c false HR.out _).mono ?_;rintro e w1 ⟨rfl,hb1⟩;obtain ⟨x0,x1,x2⟩:=gK (cP BX.out hb1);go_wp2;go_ret;exact ⟨eM HE.out,hB.out.trans (hb1.mono hB.out.size)⟩
   ·have HE:Hid ((50:Int)=e0):=by show _=_;rw [← he];simp [dR,hr,hn]
    have hn3:(n == 0)=false:=by simp [hn]
    clear hr hs hl he hn;go_enter func12,ntmps12;go_wp2_with fail;refine (kD 5 n a l c false HR.out _).mono ?_;rintro e w1 ⟨rfl,hb1⟩;obtain ⟨x0,x1,x2⟩:=gK (cP BX.out hb1);go_wp2;go_ret;exact ⟨eM HE.out,hB.out.trans (hb1.mono hB.out.size)⟩
  ·have HE:Hid ((50:Int)=e0):=by show _=_;rw [← he];simp [dR,hr,ht]
   have hn3:(t == 5)=false:=by simp [ht]
   clear hr hs hl he ht;go_enter func12,ntmps12;go_wp2_with fail;refine (kD t n a l c false HR.out _).mono ?_;rintro e w1 ⟨rfl,hb1⟩;obtain ⟨x0,x1,x2⟩:=gK (cP BX.out hb1);go_wp2;go_ret;exact ⟨eM HE.out,hB.out.trans (hb1.mono hB.out.size)⟩
 ·have HE:Hid ((0:Int)=e0):=by show _=_;rw [← he];simp [dR,hr]
  clear hr hs hl he;go_enter func12,ntmps12;go_wp2_with fail;refine (kD t n a l c true HR.out _).mono ?_;rintro e w1 ⟨rfl,hb1⟩;go_wp2;go_ret;exact ⟨eM HE.out,hB.out.trans (hb1.mono hB.out.size)⟩
theorem Ie {f:SF} {ps:List SV} (h:f.tag≠5):dR (.mk f ps)=if bV f.tag f.dim f.len=true then 0 else 50:=by simp [dR,h]
theorem rE (t n:Int) (a:Option Addr) (l c:Nat) (ht:t≠5) (r:Bool) (hr:bV t n l=r) (w:World) :
  Calls prog 15 #[.agg #[.int .i64 t,.int .i64 n,.slice a l c]] w fun e w'=>e = .returned (.int .i64 (if r=true then 0 else 50))∧Below w.heap.size w w':=by
 have hB:=Lib.hid (Cm w #[.int .i64 t,.int .i64 n,.slice a l c] 25);have e5:(t == 5)=false:=by simp [ht]
 by_cases ht2:t=1∨t=2∨t=3∨t=4
 ·by_cases hl:l=0
  ·subst hl;by_cases h0:0≤n
   ·rcases ht2 with rfl | rfl | rfl | rfl
    ·by_cases hm:n=0
     ·subst hm;obtain rfl:true=r:=by rw [← hr];simp [bV]
      clear hr;go_enter func15,ntmps15;go_wp2_with fail;go_ret;exact ⟨by simp,hB.out⟩
     ·obtain rfl:false=r:=by rw [← hr];simp [bV];omega
      have hm2:(n == 0)=false:=by simp [hm]
      clear hr;go_enter func15,ntmps15;go_wp2_with fail;go_ret;exact ⟨by simp,hB.out⟩
    ·by_cases hm:n≤1048576
     ·obtain rfl:true=r:=by rw [← hr];simp [bV,h0,hm]
      clear hr;go_enter func15,ntmps15;go_wp2_with fail;go_ret;exact ⟨by simp,hB.out⟩
     ·obtain rfl:false=r:=by rw [← hr];simp [bV,hm]
      clear hr;go_enter func15,ntmps15;go_wp2_with fail;go_ret;exact ⟨by simp,hB.out⟩
    all_goals
     by_cases hm:n≤64
     ·obtain rfl:true=r:=by rw [← hr];simp [bV,h0,hm]
      clear hr;go_enter func15,ntmps15;go_wp2_with fail;go_ret;exact ⟨by simp,hB.out⟩
     ·obtain rfl:false=r:=by rw [← hr];simp [bV,hm]
      clear hr;go_enter func15,ntmps15;go_wp2_with fail;go_ret;exact ⟨by simp,hB.out⟩
   ·obtain rfl:false=r:=by rw [← hr];rcases ht2 with rfl | rfl | rfl | rfl<;>simp [bV]<;>omega
    have hn0:(n == 0)=false:=by simp;omega
    clear hr;rcases ht2 with rfl | rfl | rfl | rfl
    all_goals
     go_enter func15,ntmps15;go_wp2_with fail;go_ret;exact ⟨by simp,hB.out⟩
  ·obtain rfl:false=r:=by rw [← hr];simp [bV,hl]
   have hl2:((l:Int) == 0)=false:=by simp;omega
   clear hr;rcases ht2 with rfl | rfl | rfl | rfl
   ·by_cases hm:n=0
    ·subst hm;go_enter func15,ntmps15;go_wp2_with fail;go_ret;exact ⟨by simp,hB.out⟩
    ·have hm2:(n == 0)=false:=by simp [hm]
     go_enter func15,ntmps15;go_wp2_with fail;go_ret;exact ⟨by simp,hB.out⟩
   all_goals
    by_cases h0:0≤n
    ·by_cases hm:n≤64
     ·have hm3:n≤1048576:=by omega
      go_enter func15,ntmps15;go_wp2_with fail;go_ret;exact ⟨by simp,hB.out⟩
     ·by_cases hm3:n≤1048576
      all_goals
       go_enter func15,ntmps15;go_wp2_with fail;go_ret;exact ⟨by simp,hB.out⟩
    ·go_enter func15,ntmps15;go_wp2_with fail;go_ret;exact ⟨by simp,hB.out⟩
 ·obtain rfl:false=r:=by rw [← hr];simp only [not_or] at ht2;simp [bV,ht2]
  have e1:(t == 1)=false:=by simp;omega
  have e2:(t == 2)=false:=by simp;omega
  have e3:(t == 3)=false:=by simp;omega
  have e4:(t == 4)=false:=by simp;omega
  clear hr ht2 ht;go_enter func15,ntmps15;go_wp2_with fail;go_ret;exact ⟨by simp,hB.out⟩
def iR (cost facts cells parts:Bool) (f:WF):Bool:=(cost || decide (f.c=0)) && ((facts || (decide (f.g=0) && decide (f.rl=0))) && ((cells || decide (f.cl=0)) && (parts || decide (f.pl=0))))
def iS (t:Int) (f:WF):Bool:=iR (!f.z && decide (t=2)) (!f.z && decide (t=3)) (!f.z && decide (t=4)) (!f.z && decide (t=5)) f
theorem Rj (w:World) (a b:Array Value) (S T:TypeId):Below w.heap.size w ((w.alloc (.cells a S)).alloc (.cells b T)):=((Below.refl _ _).alloc (Nat.le_refl _) _).alloc (by simp) _
theorem nA (w:World) (a b:Array Value) (S T:TypeId):((w.alloc (.cells a S)).alloc (.cells b T)).heap[w.heap.size]?=some (.cells a S (0,0))∧((w.alloc (.cells a S)).alloc (.cells b T)).heap[w.heap.size+1]?=some (.cells b T (0,0)):=by
 refine ⟨dC (eA w _) _,?_⟩;have:=eA (w.alloc (.cells a S)) (.cells b T)
 rwa [World.size_alloc] at this
theorem eH (n:Nat):((n:Int) == 0)=decide (n=0):=by rw [Bool.eq_iff_iff];simp
theorem sJ (n:Int):(n == 0)=decide (n=0):=by rw [Bool.eq_iff_iff];simp
theorem Og (t n:Int) (a:Option Addr) (l c0:Nat) (f:WF) (r:Bool) (hr:iS t f=r) (w:World) :
  Calls prog 93 #[.agg #[.int .i64 t,.int .i64 n,.slice a l c0],f.val] w fun e w'=>e = .returned (.bool r)∧Below w.heap.size w w':=by
 obtain ⟨z,c,g,ra,rl,rc,rows,ca,cl,cc,cells,pa,pl,pc⟩:=f;show Calls prog 93 #[.agg #[.int .i64 t,.int .i64 n,.slice a l c0],.agg #[.bool z,.int .i64 c,.int .u64 (g:Int),.slice ra rl rc,.slice ca cl cc,.slice pa pl pc]] w _;have hB:=Lib.hid (Rj w #[.int .i64 t,.int .i64 n,.slice a l c0] #[.bool z,.int .i64 c,.int .u64 (g:Int),.slice ra rl rc,.slice ca cl cc,.slice pa pl pc] 25 46);obtain ⟨t0,t1⟩:=nA w #[.int .i64 t,.int .i64 n,.slice a l c0] #[.bool z,.int .i64 c,.int .u64 (g:Int),.slice ra rl rc,.slice ca cl cc,.slice pa pl pc] 25 46;obtain ⟨x0,x1,x2⟩:=gK t0;obtain ⟨y0,y1,y2,y3,y4,y5⟩:=eZ t1;obtain ⟨W0,hW0⟩:∃ W,(w.alloc (.cells #[.int .i64 t,.int .i64 n,.slice a l c0] 25)).alloc (.cells #[.bool z,.int .i64 c,.int .u64 (g:Int),.slice ra rl rc,.slice ca cl cc,.slice pa pl pc] 46)=W:=⟨_,rfl⟩;rw [hW0] at hB x0 x1 x2 y0 y1 y2 y3 y4 y5;obtain ⟨b1,h1⟩:∃ b,(c == 0)=b:=⟨_,rfl⟩;obtain ⟨b2,h2⟩:∃ b,(decide (g=0) && decide (rl=0))=b:=⟨_,rfl⟩;obtain ⟨b3,h3⟩:∃ b,((cl:Int) == 0)=b:=⟨_,rfl⟩;obtain ⟨b4,h4⟩:∃ b,((pl:Int) == 0)=b:=⟨_,rfl⟩;have H2:=Lib.hid h2;have HR:Hid ((((!z && decide (t=2)) || b1) && (((!z && decide (t=3)) || b2) && (((!z && decide (t=4)) || b3) && ((!z && decide (t=5)) || b4))))=r):=by show _=_;rw [← hr,← h1,← h2,← h3,← h4,eH,eH,sJ];rfl
 clear hr t0 t1 h2;have hg:((g:Int) == 0)=decide (g=0):=eH g;have hrl:((rl:Int) == 0)=decide (rl=0):=eH rl;have HZ:∀ (b:Bool),b2=b→Hid (b2=b):=fun _ h=>h
 have h2:=H2.out;have ht:t=2∨t=3∨t=4∨t=5∨((t == 2)=false∧(t == 3)=false∧(t == 4)=false∧(t == 5)=false∧decide (t=2)=false∧decide (t=3)=false∧decide (t=4)=false∧decide (t=5)=false):=by
  by_cases e2:t=2
  ·exact .inl e2
  by_cases e3:t=3
  ·exact .inr (.inl e3)
  by_cases e4:t=4
  ·exact .inr (.inr (.inl e4))
  by_cases e5:t=5
  ·exact .inr (.inr (.inr (.inl e5)))
  ·exact .inr (.inr (.inr (.inr ⟨by simp [e2],by simp [e3],by simp [e4],by simp [e5],by simp [e2],by simp [e3],by simp [e4],by simp [e5]⟩)))
 have HTT:=Lib.hid ht;clear ht;by_cases hg0:g=0
 ·have hg1:((g:Int) == 0)=true:=by simp [hg0]
  have h2':(decide (rl=0))=b2:=by simpa [hg0] using h2
  rw [h2'] at hrl;clear h2 h2' hg HZ hg0;cases z
  ·rcases HTT.out with rfl | rfl | rfl | rfl | ⟨e2,e3,e4,e5,d2,d3,d4,d5⟩
   case inr.inr.inr.inr =>
    have D:=Lib.hid (And.intro d2 (And.intro d3 (And.intro d4 d5)));clear d2 d3 d4 d5;go_enter func93,ntmps93;go_upto_region 15 with fail
    clear h1 h3 h4 hrl;cases b1<;>cases b2<;>cases b3<;>cases b4<;>(go_wp2;go_ret;exact ⟨bG (by rw [← HR.out,D.out.1,D.out.2.1,D.out.2.2.1,D.out.2.2.2];rfl),hB.out⟩)
   all_goals
    go_enter func93,ntmps93;go_upto_region 15 with fail
    clear h1 h3 h4 hrl;cases b1<;>cases b2<;>cases b3<;>cases b4<;>(go_wp2;go_ret;exact ⟨bG (by rw [← HR.out];rfl),hB.out⟩)
  ·go_enter func93,ntmps93;go_upto_region 15 with fail
   clear h1 h3 h4 hrl;cases b1<;>cases b2<;>cases b3<;>cases b4<;>(go_wp2;go_ret;exact ⟨bG (by rw [← HR.out];rfl),hB.out⟩)
 ·have hg1:((g:Int) == 0)=false:=by simp [hg0]
  obtain rfl:b2=false:=by rw [← h2];simp [hg0]
  clear h2 hg HZ hrl hg0;cases z
  ·rcases HTT.out with rfl | rfl | rfl | rfl | ⟨e2,e3,e4,e5,d2,d3,d4,d5⟩
   case inr.inr.inr.inr =>
    have D:=Lib.hid (And.intro d2 (And.intro d3 (And.intro d4 d5)));clear d2 d3 d4 d5;go_enter func93,ntmps93;go_upto_region 15 with fail
    clear h1 h3 h4 hg1;cases b1<;>cases b3<;>cases b4<;>(go_wp2;go_ret;exact ⟨bG (by rw [← HR.out,D.out.1,D.out.2.1,D.out.2.2.1,D.out.2.2.2];rfl),hB.out⟩)
   all_goals
    go_enter func93,ntmps93;go_upto_region 15 with fail
    clear h1 h3 h4 hg1;cases b1<;>cases b3<;>cases b4<;>(go_wp2;go_ret;exact ⟨bG (by rw [← HR.out];rfl),hB.out⟩)
  ·go_enter func93,ntmps93;go_upto_region 15 with fail
   clear h1 h3 h4 hg1;cases b1<;>cases b3<;>cases b4<;>(go_wp2;go_ret;exact ⟨bG (by rw [← HR.out];rfl),hB.out⟩)
def fO (t n:Int) (f:WF):Bool:=iS t f && (f.z || (if t=2 then decide (0≤f.c) && decide (f.c≤n) else if t=3 then decide (eO n f.g f.rows=0) else if t=4 then decide (mE n f.cells=0) else true))
theorem gC {t n:Int} {l:Nat} (h:bV t n l=true):l=0∧(t=1∨t=2∨t=3∨t=4):=by
 simp only [bV,Bool.and_eq_true,decide_eq_true_eq] at h;refine ⟨h.1,?_⟩;rcases h with ⟨_,h⟩;by_cases h1:t=1
 ·exact .inl h1
 by_cases h2:t=2
 ·exact .inr (.inl h2)
 by_cases h3:t=3
 ·exact .inr (.inr (.inl h3))
 by_cases h4:t=4
 ·exact .inr (.inr (.inr h4))
 ·simp [h1,h2,h3,h4] at h
theorem pP {t n:Int} {l:Nat} (h:bV t n l=true):0≤n∧n≤1048576∧(t=1→n=0)∧((t=3∨t=4)→n≤64):=by have ht:=(gC h).2;simp only [bV,Bool.and_eq_true,decide_eq_true_eq] at h;rcases h with ⟨_,h⟩;rcases ht with rfl | rfl | rfl | rfl<;>simp at h<;>omega
theorem WF.At.fat {w:World} {f:WF} (h:f.At w) (hs:f.rl≤100):FAt w f.ra f.g f.rows:=⟨h.rows,h.g64,h.r64,by rw [h.rl];exact hs⟩
theorem big_no {n:Int} (h:mT n≠0):(if fM n=true then (30:Int) else 31)=31:=by
 by_cases hd:fM n=true
 ·exfalso;apply h;simp only [fM,Bool.and_eq_true,decide_eq_true_eq] at hd;unfold mT;rw [if_pos (by omega)]
 ·rw [if_neg hd]
theorem big_yes {n:Int} (h:¬ mT n≠0):fM n=true∧n≤64:=by
 have h':mT n=0:=by omega
 unfold mT at h';split at h'
 ·rename_i hn;refine ⟨?_,by omega⟩;simp only [fM,Bool.and_eq_true,decide_eq_true_eq];omega
 ·omega
theorem big_ne {n:Int}:(if fM n=true then (30:Int) else 31)≠0:=by split<;>omega
theorem Oh {n:Int} (h:fM n=true):n≤64:=by simp only [fM,Bool.and_eq_true,decide_eq_true_eq] at h;omega
theorem If (n:Int) (a:Option Addr) (len cap gen:Nat) (w:World) (hl:100 < len) :
  Calls prog 112 #[.int .i64 n,.agg #[.int .u64 (gen:Int),.slice a len cap]] w (fun e w'=>e = .returned (.int .i64 (if fM n=true then 30 else 31))∧Below w.heap.size w w'):=by
 refine cG (args:=[.int .i64 n,.agg #[.int .u64 (gen:Int),.slice a len cap]]) func112 rfl ntmps112 rfl ?_;have hS:=St.start w;refine aO (aQ (bY (cs:=[_,_]) hS rfl rfl rfl fun B1 W1 hS=>aB rfl rfl (aP (XF.thenN (aO (aQ (aH rfl rfl (cS (vs:=[_]) hS Uv rfl (qR n _ _ rfl rfl _) rfl ?_))))))));rintro e W2 ⟨rfl,rfl⟩;refine ⟨_,rfl,Below.refl _ _,?_⟩;clear hS;intro hS;refine aH rfl rfl (bZ rfl rfl rfl (bZ rfl rfl rfl (aB rfl rfl (aB rfl rfl (aP (XF.thenN (aO (aO (aQ (aH rfl rfl (dG rfl rfl rfl (aP (XF.thenN (bB rfl (fun hc=>?_) (fun hc=>?_)))))))))))))))
 ·have hc15:=of_decide_eq_true hc;clear hc;refine aO (aQ (aB rfl rfl (aP (XF.thenN (bL (XF.thenR (XF.res (cI results112 rfl) ?_)))))));exact ⟨by rw [big_no hc15],hS.below⟩
 ·have hc15:=of_decide_eq_false hc;clear hc;obtain ⟨hd,hd2⟩:=big_yes hc15;refine bP (XF.thenN (aO (aO (aQ (aN (o':=1) yU rfl rfl rfl (aR isAgg40 rfl (aK (hS.at_ 0 rfl) rfl) rfl (cL underlying40 rfl rfl (aH rfl rfl (dG rfl rfl rfl (aH rfl rfl (cB (d:=21) rfl (fun hc=>?_) (fun hc=>absurd (of_decide_eq_false hc) (by omega)))))))))))));have hc:=of_decide_eq_true hc;refine aD (d:=21) rfl rfl rfl rfl (aD (d:=21) rfl rfl rfl rfl (aD (d:=21) rfl rfl rfl rfl (aD (d:=21) rfl rfl rfl rfl (aD (d:=21) rfl rfl rfl rfl (bC rfl rfl rfl (aP (XF.thenN (fD rfl (aO (aQ (aB rfl rfl (aP (XF.thenN (bL (XF.thenR (XF.res (cI results112 rfl) ?_))))))))))))))));exact ⟨by rw [if_pos hd],hS.below⟩
theorem Lo (n:Int) (a:Option Addr) (len cap gen:Nat) (w:World) (hl:100 < len) :
  Calls prog 94 #[.int .i64 n,.agg #[.int .u64 (gen:Int),.slice a len cap]] w (fun e w'=>e = .returned (.int .i64 (if fM n=true then 30 else 31))∧Below w.heap.size w w'):=by
 refine cG (args:=[.int .i64 n,.agg #[.int .u64 (gen:Int),.slice a len cap]]) func94 rfl ntmps94 rfl ?_;have hS:=St.start w;refine aO (aQ (bY (cs:=[_,_]) hS rfl rfl rfl fun B1 W1 hS=>aB rfl rfl (aP (XF.thenN (aO (aO (aQ (aH rfl rfl (aT (vs:=[_,_]) isAgg42 sizeOf42 rfl (aC.own (j:=0) (m:=2) (hS.at_ 0 rfl) rfl) rfl (cH (vs:=[_,_]) hS Uu rfl (If n a len cap gen _ hl) rfl fun W2 hS=>aB rfl rfl (aP (XF.thenN (aO (aQ (aH rfl rfl (dG rfl rfl rfl (aP (XF.thenN (bB rfl (fun hc=>?_) (fun hc=>absurd (of_decide_eq_false hc) (by exact fun h=>h big_ne)))))))))))))))))))));have hc:=of_decide_eq_true hc;refine aO (aQ (aH rfl rfl (aB rfl rfl (aP (XF.thenN (bL (XF.thenR (XF.res (cI results94 rfl) ?_))))))));exact ⟨rfl,hS.below⟩
theorem Lp (n:Int) (a:Option Addr) (len cap gen:Nat) (w:World) (hl:100 < len) (hd:fM n=true) :
  Calls prog 97 #[.int .i64 n,.agg #[.int .u64 (gen:Int),.slice a len cap]] w (fun e w'=>e = .returned (.bool false)∧Below w.heap.size w w'):=by
 have hd2:=Oh hd;refine cG (args:=[.int .i64 n,.agg #[.int .u64 (gen:Int),.slice a len cap]]) func97 rfl ntmps97 rfl ?_;have hS:=St.start w;refine aO (aQ (bY (cs:=[_,_]) hS rfl rfl rfl fun B1 W1 hS=>aB rfl rfl (aP (XF.thenN (aO (aO (aQ (aN (o':=1) yU rfl rfl rfl (aR isAgg40 rfl (aK (hS.at_ 0 rfl) rfl) rfl (cL underlying40 rfl rfl (aH rfl rfl (dG rfl rfl rfl (aH rfl rfl (cB (d:=11) rfl (fun hc=>?_) (fun hc=>absurd (of_decide_eq_false hc) (by omega))))))))))))))));have hc:=of_decide_eq_true hc;refine aD (d:=11) rfl rfl rfl rfl (aD (d:=11) rfl rfl rfl rfl (aD (d:=11) rfl rfl rfl rfl (aD (d:=11) rfl rfl rfl rfl (aD (d:=11) rfl rfl rfl rfl (bC rfl rfl rfl (aP (XF.thenN (fD rfl (aO (aQ (aB rfl rfl (aP (XF.thenN (bL (XF.thenR (XF.res (cI results97 rfl) ?_))))))))))))))));exact ⟨rfl,hS.below⟩
theorem Lq (n:Int) (a:Option Addr) (len cap gen:Nat) (w:World) (hl:100 < len) :
  Calls prog 66 #[.int .i64 n,.agg #[.int .u64 (gen:Int),.slice a len cap]] w (fun e w'=>e = .returned (.int .i64 (if fM n=true then 30 else 31))∧Below w.heap.size w w'):=by
 refine cG (args:=[.int .i64 n,.agg #[.int .u64 (gen:Int),.slice a len cap]]) func66 rfl ntmps66 rfl ?_;have hS:=St.start w;refine aO (aQ (bY (cs:=[_,_]) hS rfl rfl rfl fun B1 W1 hS=>aB rfl rfl (aP (XF.thenN (aO (aO (aQ (aH rfl rfl (cS (vs:=[_]) hS goes_96 rfl (Fa n _ rfl _) rfl ?_)))))))));rintro e W2 ⟨rfl,rfl⟩;refine ⟨_,rfl,Below.refl _ _,?_⟩;clear hS;intro hS;refine fB rfl rfl (aP (XF.thenN (bB rfl (fun hc=>?_) (fun hc=>?_))))
 ·have hc7:=hc;clear hc;refine aO (aQ (aB rfl rfl (aP (XF.thenN (bL (XF.thenR (XF.res (cI results66 rfl) ?_)))))));exact ⟨by rw [if_neg (by simpa using hc7)],hS.below⟩
 ·have hc7:=hc;clear hc;have hd:fM n=true:=by simpa using hc7
  refine bP (XF.thenN (aO (aO (iX (m:=11) cC hS (by kernel_rfl) (by kernel_rfl) rfl (cE 1 rfl 0 rfl rfl (fun w hw=>aW rfl) rfl (cE 2 rfl 3 rfl rfl (fun w hw=>aY (vs:=[_,_]) isAgg42 sizeOf42 rfl (aC.agree (aL hw 0) (Nat.zero_le _) (aC.own (j:=0) (m:=2) (hS.at_ 0 rfl) rfl))) rfl ?_))))));refine aJ 3 rfl (isV (.bool false)) (aE _) (cN [isV _,isV _] rfl goes_97 (aS rfl) ⟨bT (aM 0 (aA rfl rfl rfl)),bT (aM 1 (aA rfl rfl rfl)),trivial⟩ (fun vs w' hb hh=>by have e:=bW (us:=[_,_]) hh;subst e;exact (Lp n a len cap gen _ hl hd).mono fun e w2 h=>⟨_,h.1,rfl,h.2⟩) (aF rfl)) ?_;refine aJ 4 rfl (isV (.bool true)) (aE _) (lG (li:=[(10,_)]) rfl (aS rfl) ⟨aM 2 (aA rfl rfl rfl),trivial⟩ (fun w hw=>jN rfl) (rfl) (aF rfl)) (aZ 5 rfl 11 3 rfl rfl rfl (fun w hw=>aW rfl) rfl (aJ 6 rfl (isV undef) (aE _) (bI rfl (bK 12 rfl (aA rfl rfl rfl) rfl) (aF rfl)) (aJ 7 rfl (isV undef) (aE _) (bI rfl (bK 12 rfl (aA rfl rfl rfl) rfl) (aF rfl)) (aJ 8 rfl (isV undef) (aE _) (bI rfl (bK 12 rfl (aA rfl rfl rfl) rfl) (aF rfl)) (aJ 9 rfl (isV undef) (aE _) (bI rfl (bK 12 rfl (aA rfl rfl rfl) rfl) (aF rfl)) (aJ 10 rfl (isV undef) (aE _) (bI rfl (bK 12 rfl (aA rfl rfl rfl) rfl) (aF rfl)) (aZ 11 rfl 12 4 rfl rfl rfl (fun w hw=>eC rfl rfl) rfl (dI ?_))))))));intro W3 hbR;clear hS;intro hS;refine aG (aG (aG (aG (aG (aG (aG (aG (aG (aG (aG (cM (XF.thenN (fD rfl (aO (aQ (aB rfl rfl (aP (XF.thenN (bL (XF.thenR (XF.res (cI results66 rfl) ?_)))))))))))))))))))));exact ⟨by rw [if_pos hd],hS.below⟩
theorem Aj {n:Int} {gen:Nat} {rows:List Nat} (h:100 < rows.length):eO n gen rows=(if fM n=true then 30 else 31):=by
 unfold eO;by_cases hd:fM n=true
 ·have h64:=Oh hd;have e:fE n.toNat gen rows=false:=by unfold fE;rw [decide_eq_false (by omega)];rfl
  rw [if_pos hd,if_pos hd,e];rfl
 ·rw [if_neg hd,if_neg hd]
theorem Ls (n:Int) (a:Option Addr) (cap gen:Nat) (rows:List Nat) (w:World) {f:WF} (hf:f.At w) (r:Int) (hr:eO n gen rows=r) (len:Nat) (hl:rows.length=len) (ha:f.ra=a:=by rfl) (hg:f.g=gen:=by rfl) (hrr:f.rows=rows:=by rfl) :
  Calls prog 94 #[.int .i64 n,.agg #[.int .u64 (gen:Int),.slice a len cap]] w fun e w'=>e = .returned (.int .i64 r)∧Below w.heap.size w w':=by
 subst ha;subst hg;subst hrr;by_cases h:f.rows.length≤100
 ·exact sA n _ cap _ _ w ⟨hf.rows,hf.g64,hf.r64,h⟩ r hr len hl
 ·rw [← hr,Aj (by omega)];exact Lo n _ len cap _ w (by omega)
theorem Lt (n:Int) (a:Option Addr) (cap gen:Nat) (rows:List Nat) (w:World) {f:WF} (hf:f.At w) (r:Int) (hr:eO n gen rows=r) (len:Nat) (hl:rows.length=len) (ha:f.ra=a:=by rfl) (hg:f.g=gen:=by rfl) (hrr:f.rows=rows:=by rfl) :
  Calls prog 66 #[.int .i64 n,.agg #[.int .u64 (gen:Int),.slice a len cap]] w fun e w'=>e = .returned (.int .i64 r)∧Below w.heap.size w w':=by
 subst ha;subst hg;subst hrr;by_cases h:f.rows.length≤100
 ·exact sB n _ cap _ _ w ⟨hf.rows,hf.g64,hf.r64,h⟩ r hr len hl
 ·rw [← hr,Aj (by omega)];exact Lq n _ len cap _ w (by omega)
theorem Ig (f:WF) (r:Bool) (hr:iR false false false false f=r) (w:World) :
  Calls prog 65 #[f.val,.bool false,.bool false,.bool false,.bool false] w fun e w'=>e = .returned (.bool r)∧Below w.heap.size w w':=by
 obtain ⟨z,c,g,ra,rl,rc,rows,ca,cl,cc,cells,pa,pl,pc⟩:=f;show Calls prog 65 #[.agg #[.bool z,.int .i64 c,.int .u64 (g:Int),.slice ra rl rc,.slice ca cl cc,.slice pa pl pc],.bool false,.bool false,.bool false,.bool false] w _;have hB:=Lib.hid (Cm w #[.bool z,.int .i64 c,.int .u64 (g:Int),.slice ra rl rc,.slice ca cl cc,.slice pa pl pc] 46);obtain ⟨b1,h1⟩:∃ b,(c == 0)=b:=⟨_,rfl⟩;obtain ⟨b2,h2⟩:∃ b,((g:Int) == 0)=b:=⟨_,rfl⟩;obtain ⟨b3,h3⟩:∃ b,((rl:Int) == 0)=b:=⟨_,rfl⟩;obtain ⟨b4,h4⟩:∃ b,((cl:Int) == 0)=b:=⟨_,rfl⟩;obtain ⟨b5,h5⟩:∃ b,((pl:Int) == 0)=b:=⟨_,rfl⟩;have HR:Hid (((false || b1) && ((false || (b2 && b3)) && ((false || b4) && (false || b5))))=r):=by show _=_;rw [← hr,← h1,← h2,← h3,← h4,← h5,eH,eH,eH,eH,sJ];rfl
 clear hr;cases b1
 ·go_enter func65,ntmps65;go_wp2_with fail;go_ret;exact ⟨bG (by rw [← HR.out];simp),hB.out⟩
 cases b2
 ·go_enter func65,ntmps65;go_wp2_with fail;go_ret;exact ⟨bG (by rw [← HR.out];simp),hB.out⟩
 cases b3
 ·go_enter func65,ntmps65;go_wp2_with fail;go_ret;exact ⟨bG (by rw [← HR.out];simp),hB.out⟩
 cases b4
 ·go_enter func65,ntmps65;go_wp2_with fail;go_ret;exact ⟨bG (by rw [← HR.out];simp),hB.out⟩
 cases b5
 ·go_enter func65,ntmps65;go_wp2_with fail;go_ret;exact ⟨bG (by rw [← HR.out];simp),hB.out⟩
 go_enter func65,ntmps65;go_wp2_with fail;go_ret;exact ⟨bG (by rw [← HR.out];simp),hB.out⟩
theorem Uz (f:WF) (r:Bool) (hr:iR true false false false f=r) (w:World) :
  Calls prog 65 #[f.val,.bool true,.bool false,.bool false,.bool false] w fun e w'=>e = .returned (.bool r)∧Below w.heap.size w w':=by
 obtain ⟨z,c,g,ra,rl,rc,rows,ca,cl,cc,cells,pa,pl,pc⟩:=f;show Calls prog 65 #[.agg #[.bool z,.int .i64 c,.int .u64 (g:Int),.slice ra rl rc,.slice ca cl cc,.slice pa pl pc],.bool true,.bool false,.bool false,.bool false] w _;have hB:=Lib.hid (Cm w #[.bool z,.int .i64 c,.int .u64 (g:Int),.slice ra rl rc,.slice ca cl cc,.slice pa pl pc] 46);obtain ⟨b1,h1⟩:∃ b,(c == 0)=b:=⟨_,rfl⟩;obtain ⟨b2,h2⟩:∃ b,((g:Int) == 0)=b:=⟨_,rfl⟩;obtain ⟨b3,h3⟩:∃ b,((rl:Int) == 0)=b:=⟨_,rfl⟩;obtain ⟨b4,h4⟩:∃ b,((cl:Int) == 0)=b:=⟨_,rfl⟩;obtain ⟨b5,h5⟩:∃ b,((pl:Int) == 0)=b:=⟨_,rfl⟩;have HR:Hid (((true || b1) && ((false || (b2 && b3)) && ((false || b4) && (false || b5))))=r):=by show _=_;rw [← hr,← h1,← h2,← h3,← h4,← h5,eH,eH,eH,eH,sJ];rfl
 clear hr;cases b2
 ·go_enter func65,ntmps65;go_wp2_with fail;go_ret;exact ⟨bG (by rw [← HR.out];simp),hB.out⟩
 cases b3
 ·go_enter func65,ntmps65;go_wp2_with fail;go_ret;exact ⟨bG (by rw [← HR.out];simp),hB.out⟩
 cases b4
 ·go_enter func65,ntmps65;go_wp2_with fail;go_ret;exact ⟨bG (by rw [← HR.out];simp),hB.out⟩
 cases b5
 ·go_enter func65,ntmps65;go_wp2_with fail;go_ret;exact ⟨bG (by rw [← HR.out];simp),hB.out⟩
 go_enter func65,ntmps65;go_wp2_with fail;go_ret;exact ⟨bG (by rw [← HR.out];simp),hB.out⟩
theorem U3 (f:WF) (r:Bool) (hr:iR false true false false f=r) (w:World) :
  Calls prog 65 #[f.val,.bool false,.bool true,.bool false,.bool false] w fun e w'=>e = .returned (.bool r)∧Below w.heap.size w w':=by
 obtain ⟨z,c,g,ra,rl,rc,rows,ca,cl,cc,cells,pa,pl,pc⟩:=f;show Calls prog 65 #[.agg #[.bool z,.int .i64 c,.int .u64 (g:Int),.slice ra rl rc,.slice ca cl cc,.slice pa pl pc],.bool false,.bool true,.bool false,.bool false] w _;have hB:=Lib.hid (Cm w #[.bool z,.int .i64 c,.int .u64 (g:Int),.slice ra rl rc,.slice ca cl cc,.slice pa pl pc] 46);obtain ⟨b1,h1⟩:∃ b,(c == 0)=b:=⟨_,rfl⟩;obtain ⟨b2,h2⟩:∃ b,((g:Int) == 0)=b:=⟨_,rfl⟩;obtain ⟨b3,h3⟩:∃ b,((rl:Int) == 0)=b:=⟨_,rfl⟩;obtain ⟨b4,h4⟩:∃ b,((cl:Int) == 0)=b:=⟨_,rfl⟩;obtain ⟨b5,h5⟩:∃ b,((pl:Int) == 0)=b:=⟨_,rfl⟩;have HR:Hid (((false || b1) && ((true || (b2 && b3)) && ((false || b4) && (false || b5))))=r):=by show _=_;rw [← hr,← h1,← h2,← h3,← h4,← h5,eH,eH,eH,eH,sJ];rfl
 clear hr;cases b1
 ·go_enter func65,ntmps65;go_wp2_with fail;go_ret;exact ⟨bG (by rw [← HR.out];simp),hB.out⟩
 cases b4
 ·go_enter func65,ntmps65;go_wp2_with fail;go_ret;exact ⟨bG (by rw [← HR.out];simp),hB.out⟩
 cases b5
 ·go_enter func65,ntmps65;go_wp2_with fail;go_ret;exact ⟨bG (by rw [← HR.out];simp),hB.out⟩
 go_enter func65,ntmps65;go_wp2_with fail;go_ret;exact ⟨bG (by rw [← HR.out];simp),hB.out⟩
theorem U5 (f:WF) (r:Bool) (hr:iR false false true false f=r) (w:World) :
  Calls prog 65 #[f.val,.bool false,.bool false,.bool true,.bool false] w fun e w'=>e = .returned (.bool r)∧Below w.heap.size w w':=by
 obtain ⟨z,c,g,ra,rl,rc,rows,ca,cl,cc,cells,pa,pl,pc⟩:=f;show Calls prog 65 #[.agg #[.bool z,.int .i64 c,.int .u64 (g:Int),.slice ra rl rc,.slice ca cl cc,.slice pa pl pc],.bool false,.bool false,.bool true,.bool false] w _;have hB:=Lib.hid (Cm w #[.bool z,.int .i64 c,.int .u64 (g:Int),.slice ra rl rc,.slice ca cl cc,.slice pa pl pc] 46);obtain ⟨b1,h1⟩:∃ b,(c == 0)=b:=⟨_,rfl⟩;obtain ⟨b2,h2⟩:∃ b,((g:Int) == 0)=b:=⟨_,rfl⟩;obtain ⟨b3,h3⟩:∃ b,((rl:Int) == 0)=b:=⟨_,rfl⟩;obtain ⟨b4,h4⟩:∃ b,((cl:Int) == 0)=b:=⟨_,rfl⟩;obtain ⟨b5,h5⟩:∃ b,((pl:Int) == 0)=b:=⟨_,rfl⟩;have HR:Hid (((false || b1) && ((false || (b2 && b3)) && ((true || b4) && (false || b5))))=r):=by show _=_;rw [← hr,← h1,← h2,← h3,← h4,← h5,eH,eH,eH,eH,sJ];rfl
 clear hr;cases b1
 ·go_enter func65,ntmps65;go_wp2_with fail;go_ret;exact ⟨bG (by rw [← HR.out];simp),hB.out⟩
 cases b2
 ·go_enter func65,ntmps65;go_wp2_with fail;go_ret;exact ⟨bG (by rw [← HR.out];simp),hB.out⟩
 cases b3
 ·go_enter func65,ntmps65;go_wp2_with fail;go_ret;exact ⟨bG (by rw [← HR.out];simp),hB.out⟩
 cases b5
 ·go_enter func65,ntmps65;go_wp2_with fail;go_ret;exact ⟨bG (by rw [← HR.out];simp),hB.out⟩
 go_enter func65,ntmps65;go_wp2_with fail;go_ret;exact ⟨bG (by rw [← HR.out];simp),hB.out⟩
theorem vA (f:WF) (r:Bool) (hr:iR false false false true f=r) (w:World) :
  Calls prog 65 #[f.val,.bool false,.bool false,.bool false,.bool true] w fun e w'=>e = .returned (.bool r)∧Below w.heap.size w w':=by
 obtain ⟨z,c,g,ra,rl,rc,rows,ca,cl,cc,cells,pa,pl,pc⟩:=f;show Calls prog 65 #[.agg #[.bool z,.int .i64 c,.int .u64 (g:Int),.slice ra rl rc,.slice ca cl cc,.slice pa pl pc],.bool false,.bool false,.bool false,.bool true] w _;have hB:=Lib.hid (Cm w #[.bool z,.int .i64 c,.int .u64 (g:Int),.slice ra rl rc,.slice ca cl cc,.slice pa pl pc] 46);obtain ⟨b1,h1⟩:∃ b,(c == 0)=b:=⟨_,rfl⟩;obtain ⟨b2,h2⟩:∃ b,((g:Int) == 0)=b:=⟨_,rfl⟩;obtain ⟨b3,h3⟩:∃ b,((rl:Int) == 0)=b:=⟨_,rfl⟩;obtain ⟨b4,h4⟩:∃ b,((cl:Int) == 0)=b:=⟨_,rfl⟩;obtain ⟨b5,h5⟩:∃ b,((pl:Int) == 0)=b:=⟨_,rfl⟩;have HR:Hid (((false || b1) && ((false || (b2 && b3)) && ((false || b4) && (true || b5))))=r):=by show _=_;rw [← hr,← h1,← h2,← h3,← h4,← h5,eH,eH,eH,eH,sJ];rfl
 clear hr;cases b1
 ·go_enter func65,ntmps65;go_wp2_with fail;go_ret;exact ⟨bG (by rw [← HR.out];simp),hB.out⟩
 cases b2
 ·go_enter func65,ntmps65;go_wp2_with fail;go_ret;exact ⟨bG (by rw [← HR.out];simp),hB.out⟩
 cases b3
 ·go_enter func65,ntmps65;go_wp2_with fail;go_ret;exact ⟨bG (by rw [← HR.out];simp),hB.out⟩
 cases b4
 ·go_enter func65,ntmps65;go_wp2_with fail;go_ret;exact ⟨bG (by rw [← HR.out];simp),hB.out⟩
 go_enter func65,ntmps65;go_wp2_with fail;go_ret;exact ⟨bG (by rw [← HR.out];simp),hB.out⟩
theorem Lu {m s:Nat} (hm:m≤64) (hs:s < 18446744073709551616):nN m s=kB m s:=by rw [Bool.eq_iff_iff,mV hm hs,kB,beq_iff_eq,Nat.div_eq_zero_iff_lt (Nat.two_pow_pos m)]
theorem U6 (m:Nat) (hm:m≤64) (f:Nat) (k v:Int) (hf:f < 18446744073709551616) (r:Bool) (hr:jX m ⟨f,k,v⟩=r) (w:World) :
  Calls prog 67 #[.int .i64 m,.agg #[.int .u64 f,.int .i64 k,.int .i64 v]] w fun e w'=>e = .returned (.bool r)∧Below w.heap.size w w':=by
 have hB:=Lib.hid (Cm w #[.int .u64 f,.int .i64 k,.int .i64 v] 96);obtain ⟨i,hi⟩:∃ i,kB m f=i:=⟨_,rfl⟩;have HI:Hid (Kp m f=i):=by
  show _=_;have hd:fM (m:Int)=true:=by simp [fM];omega
  rw [Kp,if_pos hd,Int.toNat_natCast,Lu hm hf,hi]
 have HR:Hid ((i && eB f k v)=r):=by show _=_;rw [← hr,jX,mD,hi]
 clear hr hi;cases i
 ·have HR2:Hid (false=r):=by show _=_;rw [← HR.out];rfl
  go_enter func67,ntmps67;go_wp2_with fail;refine (hQ m f hf false HI.out _).mono ?_;rintro e w1 ⟨rfl,rfl⟩;go_wp2_with fail;go_ret;exact ⟨bG HR2.out,hB.out⟩
 by_cases k0:k=0
 ·subst k0;have HR2:Hid ((v == 0)=r):=by show _=_;rw [← HR.out];simp [eB]
  go_enter func67,ntmps67;go_wp2_with fail;refine (hQ m f hf true HI.out _).mono ?_;rintro e w1 ⟨rfl,rfl⟩;go_wp2_with fail;go_ret;exact ⟨bG HR2.out,hB.out⟩
 by_cases k1:k=1
 ·subst k1;have HR2:Hid (true=r):=by show _=_;rw [← HR.out];simp [eB]
  clear k0;go_enter func67,ntmps67;go_wp2_with fail;refine (hQ m f hf true HI.out _).mono ?_;rintro e w1 ⟨rfl,rfl⟩;go_wp2_with fail;go_ret;exact ⟨bG HR2.out,hB.out⟩
 by_cases k2:k=2
 ·subst k2;clear k0 k1;by_cases v0:v=0
  ·subst v0;have HR2:Hid (((f:Int) == 0)=r):=by show _=_;rw [← HR.out,eH,Bool.eq_iff_iff];simp [eB]
   go_enter func67,ntmps67;go_wp2_with fail;refine (hQ m f hf true HI.out _).mono ?_;rintro e w1 ⟨rfl,rfl⟩;go_wp2_with fail;go_ret;exact ⟨bG HR2.out,hB.out⟩
  ·have HR2:Hid (false=r):=by show _=_;rw [← HR.out];simp [eB,v0]
   have hv:(v == 0)=false:=by simp [v0]
   go_enter func67,ntmps67;go_wp2_with fail;refine (hQ m f hf true HI.out _).mono ?_;rintro e w1 ⟨rfl,rfl⟩;go_wp2_with fail;go_ret;exact ⟨bG HR2.out,hB.out⟩
 ·have HR2:Hid (false=r):=by show _=_;rw [← HR.out];simp [eB,k0,k1,k2]
  have e0:(k == 0)=false:=by simp [k0]
  have e1:(k == 1)=false:=by simp [k1]
  have e2:(k == 2)=false:=by simp [k2]
  clear k0 k1 k2;go_enter func67,ntmps67;go_wp2_with fail;refine (hQ m f hf true HI.out _).mono ?_;rintro e w1 ⟨rfl,rfl⟩;go_wp2_with fail;go_ret;exact ⟨bG HR2.out,hB.out⟩
attribute [local go_sem ↓] Go.wp_at_zero Go.wp_at_succ
def pwAt (p:SV):Option WV→Bool | some x=>fO p.f.tag p.f.dim x.f | none=>false
def iD (p q:SV) (g:WF) (qs:List WV):Bool:=iS 5 g && (!g.z && (decide (qs.length=2) && (pwAt p qs[0]? && pwAt q qs[1]?)))
theorem WIn.two {w:World} {d:Nat} {f:WF} {p q:WV} (h:WIn w (d+1) (.mk f [p,q])):f.pl=2∧∃ b off,f.pa=some ⟨b,off,none⟩∧b < w.heap.size∧W6 w b off p.f∧W6 w b (off+6) q.f∧WIn w d p∧WIn w d q:=by
 obtain ⟨_,h1,h2,h3⟩:=h;refine ⟨h1.symm,?_⟩;rcases h2 with h2 | ⟨b,off,ha,hc⟩
 ·cases h2
 ·have c0:=hc 0 p rfl;have c1:=hc 1 q rfl;simp only [Nat.zero_mul,Nat.add_zero,Nat.one_mul] at c0 c1;exact ⟨b,off,ha,jF c0.1,c0,c1,h3 p (by simp),h3 q (by simp)⟩
theorem WIn.at_ {w:World} {d:Nat} {x:WV} (h:WIn w d x):x.f.At w:=by
 match d,x,h with
 | d+1,.mk f ps,h=>exact h.1
end
section
open Go.RowKit
theorem mem_iff {s i:Nat}:i∈mem s↔i < 64∧s.testBit i=true:=⟨fun h=>⟨E3 h,E4 h⟩,fun h=>tQ h.1 h.2⟩
theorem Oi (rows:List Nat) (j:Nat):∀ (l:List Nat) (g:Nat),(accF rows g l).testBit j=true↔g.testBit j=true∨∃ i∈l,(rows.getD i 0).testBit j=true
 | [],g=>by simp [accF]
 | x::l,g=>by have:=Oi rows j l (g ||| rows.getD x 0);rw [show accF rows g (x::l)=accF rows (g ||| rows.getD x 0) l from rfl,this,Nat.testBit_or,Bool.or_eq_true];simp only [List.mem_cons,exists_eq_or_imp];exact or_assoc
theorem eP {g s j:Nat} {rows:List Nat}:(madeF g rows s).testBit j=true↔g.testBit j=true∨∃ i,(i < 64∧s.testBit i=true)∧(rows.getD i 0).testBit j=true:=by rw [madeF,Oi];simp only [mem_iff]
theorem pQ {a b:Nat} (h:∀ j,a.testBit j=true↔b.testBit j=true):a=b:=by apply Nat.eq_of_testBit_eq;intro j;rw [Bool.eq_iff_iff];exact h j
theorem Ih {a b j:Nat} (ha:a < 18446744073709551616) (hb:b < 18446744073709551616):(andn a b).testBit j=true↔a.testBit j=true∧¬ b.testBit j=true:=by rw [qT ha hb];simp
theorem Oj {rows:List Nat} (h:∀ r∈rows,r < 18446744073709551616) (i:Nat):rows.getD i 0 < 18446744073709551616:=by
 rw [List.getD_eq_getElem?_getD];cases hx:rows[i]? with
 | none=>simp
 | some y=>exact h y (List.mem_of_getElem? hx)
theorem Ak {g:Nat} {rows:List Nat} (i:Nat):(eL g rows).getD i 0=andn (rows.getD i 0) g:=by rw [List.getD_eq_getElem?_getD,List.getD_eq_getElem?_getD,eL,List.getElem?_map];cases rows[i]?<;>simp [andn]
theorem F8 {xs ys:List Nat} (hl:ys.length=xs.length) (i:Nat):(orL xs ys).getD i 0=xs.getD i 0 ||| ys.getD i 0:=by
 rw [List.getD_eq_getElem?_getD,List.getD_eq_getElem?_getD,List.getD_eq_getElem?_getD,orL,List.getElem?_zipWith];rcases Nat.lt_or_ge i xs.length with h | h
 ·rw [List.getElem?_eq_getElem h,List.getElem?_eq_getElem (by omega)];simp
 ·rw [List.getElem?_eq_none h,List.getElem?_eq_none (by omega)];simp
theorem Al {g:Nat} {rows:List Nat} (hg:g < 18446744073709551616) (hr:∀ r∈rows,r < 18446744073709551616) (s:Nat):madeF g (eL g rows) s=madeF g rows s:=by
 apply pQ;intro j;rw [eP,eP];constructor
 ·rintro (h | ⟨i,hi,h⟩)
  ·exact .inl h
  ·rw [Ak,Ih (Oj hr i) hg] at h;exact .inr ⟨i,hi,h.1⟩
 ·rintro (h | ⟨i,hi,h⟩)
  ·exact .inl h
  ·by_cases hj:g.testBit j=true
   ·exact .inl hj
   ·exact .inr ⟨i,hi,by rw [Ak,Ih (Oj hr i) hg];exact ⟨h,hj⟩⟩
theorem made_or {ga gb:Nat} {xs ys:List Nat} (hl:ys.length=xs.length) (s:Nat):madeF (ga ||| gb) (orL xs ys) s=madeF ga xs s ||| madeF gb ys s:=by
 apply pQ;intro j;rw [Nat.testBit_or,Bool.or_eq_true,eP,eP,eP,Nat.testBit_or,Bool.or_eq_true];constructor
 ·rintro ((h | h) | ⟨i,hi,h⟩)
  ·exact .inl (.inl h)
  ·exact .inr (.inl h)
  ·rw [F8 hl,Nat.testBit_or,Bool.or_eq_true] at h;rcases h with h | h
   ·exact .inl (.inr ⟨i,hi,h⟩)
   ·exact .inr (.inr ⟨i,hi,h⟩)
 ·rintro ((h | ⟨i,hi,h⟩) | (h | ⟨i,hi,h⟩))
  ·exact .inl (.inl h)
  ·exact .inr ⟨i,hi,by rw [F8 hl,Nat.testBit_or,Bool.or_eq_true];exact .inl h⟩
  ·exact .inl (.inr h)
  ·exact .inr ⟨i,hi,by rw [F8 hl,Nat.testBit_or,Bool.or_eq_true];exact .inr h⟩
theorem Ii {f:Nat→Nat} {xs:List Nat} (i:Nat):(xs.map f).getD i 0=if i < xs.length then f (xs.getD i 0) else 0:=by
 rw [List.getD_eq_getElem?_getD,List.getD_eq_getElem?_getD,List.getElem?_map];split
 ·rename_i h;rw [List.getElem?_eq_getElem h];rfl
 ·rename_i h;rw [List.getElem?_eq_none (by omega)];rfl
theorem Rk {ga gb:Nat} {xs ys:List Nat} (s:Nat):madeF (madeF gb ys ga) (xs.map (madeF gb ys)) s=madeF gb ys (madeF ga xs s):=by
 apply pQ;intro j;rw [eP,eP,eP];simp only [eP];constructor
 ·rintro ((h | ⟨k,⟨hk,hk2⟩,h⟩) | ⟨i,hi,h⟩)
  ·exact .inl h
  ·exact .inr ⟨k,⟨hk,.inl hk2⟩,h⟩
  ·rw [Ii] at h;split at h
   ·rw [eP] at h;rcases h with h | ⟨k,⟨hk,hk2⟩,h⟩
    ·exact .inl h
    ·exact .inr ⟨k,⟨hk,.inr ⟨i,hi,hk2⟩⟩,h⟩
   ·simp at h
 ·rintro (h | ⟨k,⟨hk,(hk2 | ⟨i,hi,hk2⟩)⟩,h⟩)
  ·exact .inl (.inl h)
  ·exact .inl (.inr ⟨k,⟨hk,hk2⟩,h⟩)
  ·refine .inr ⟨i,hi,?_⟩;rw [Ii];split
   ·rw [eP];exact .inr ⟨k,⟨hk,hk2⟩,h⟩
   ·rename_i hn;rw [List.getD_eq_getElem?_getD,List.getElem?_eq_none (by omega)] at hk2;simp at hk2
theorem U7 {g:Nat} {rows:List Nat} (s t:Nat):madeF g rows (s ||| t)=madeF g rows s ||| madeF g rows t:=by
 apply pQ;intro j;rw [Nat.testBit_or,Bool.or_eq_true,eP,eP,eP];simp only [Nat.testBit_or,Bool.or_eq_true];constructor
 ·rintro (h | ⟨i,⟨hi,(h1 | h1)⟩,h⟩)
  ·exact .inl (.inl h)
  ·exact .inl (.inr ⟨i,⟨hi,h1⟩,h⟩)
  ·exact .inr (.inr ⟨i,⟨hi,h1⟩,h⟩)
 ·rintro ((h | ⟨i,⟨hi,h1⟩,h⟩) | (h | ⟨i,⟨hi,h1⟩,h⟩))
  ·exact .inl h
  ·exact .inr ⟨i,⟨hi,.inl h1⟩,h⟩
  ·exact .inl h
  ·exact .inr ⟨i,⟨hi,.inr h1⟩,h⟩
structure Good (m:Nat) (g:Nat) (rows:List Nat):Prop where
 hm:m≤64
 hl:rows.length=m
 hg:g < 2 ^ m
 hr:∀ r∈rows,r < 2 ^ m
 hc:∀ r∈rows,r &&& g=0
theorem Good.g64 {m g:Nat} {rows:List Nat} (h:Good m g rows):g < 18446744073709551616:=Nat.lt_of_lt_of_le h.hg (oK h.hm)
theorem Good.r64 {m g:Nat} {rows:List Nat} (h:Good m g rows):∀ r∈rows,r < 18446744073709551616:=fun r hr=>Nat.lt_of_lt_of_le (h.hr r hr) (oK h.hm)
theorem uA {m g:Nat} {rows:List Nat} (h:Good m g rows):eO m g rows=0:=by
 have hd:fM m=true:=by simp [fM];have:=h.hm;omega
 have h1:fE m g rows=true:=by unfold fE;simp only [Bool.and_eq_true,decide_eq_true_eq,List.all_eq_true];exact ⟨h.hl,(mV h.hm h.g64).2 h.hg,fun r hr=>(mV h.hm (h.r64 r hr)).2 (h.hr r hr)⟩
 have h2:lC g rows=true:=by unfold lC;rw [List.all_eq_true];intro r hr;have:=h.hc r hr;simp [this]
 unfold eO;rw [if_pos hd,Int.toNat_natCast,h1,h2];rfl
theorem Lv {n:Int} {g:Nat} {rows:List Nat} (hg:g < 18446744073709551616) (hr:∀ r∈rows,r < 18446744073709551616) (h:eO n g rows=0):∃ m:Nat,n=m∧Good m g rows:=by obtain ⟨hd,hs,hc⟩:=sD h;obtain ⟨m,rfl,hm⟩:=rY hd;rw [Int.toNat_natCast] at hs;obtain ⟨hl,ig,ir⟩:=pJ hs;unfold lC at hc;rw [List.all_eq_true] at hc;exact ⟨m,rfl,hm,hl,(mV hm hg).1 ig,fun r h=>(mV hm (hr r h)).1 (ir r h),fun r h=>by simpa using hc r h⟩
theorem Am {m g:Nat} {rows:List Nat} (hm:m≤64) (hl:rows.length=m) (hg:g < 2 ^ m) (hr:∀ r∈rows,r < 2 ^ m):Good m g (eL g rows) where
 hm:=hm
 hl:=by rw [iZ,hl]
 hg:=hg
 hr:=fun r h=>by obtain ⟨x,hx,rfl⟩:=List.mem_map.1 h;exact Nat.lt_of_le_of_lt Nat.and_le_left (hr x hx)
 hc:=fun r h=>by obtain ⟨x,hx,rfl⟩:=List.mem_map.1 h;have h1:=Nat.lt_of_lt_of_le (hr x hx) (oK hm);have h2:=Nat.lt_of_lt_of_le hg (oK hm);apply Nat.eq_of_testBit_eq;intro j;rw [Nat.testBit_and,qT h1 h2,Nat.zero_testBit];cases x.testBit j<;>cases g.testBit j<;>rfl
theorem Dm {m:Nat} {rows:List Nat} (hr:∀ r∈rows,r < 2 ^ m):∀ (l:List Nat) (g:Nat),g < 2 ^ m→accF rows g l < 2 ^ m
 | [],g,h=>h
 | x::l,g,h=>by
  have:rows.getD x 0 < 2 ^ m:=by
   rw [List.getD_eq_getElem?_getD];cases hx:rows[x]? with
   | none=>exact Nat.two_pow_pos m
   | some y=>exact hr y (List.mem_of_getElem? hx)
  exact Dm hr l _ (Nat.or_lt_two_pow h this)
theorem Good.made {m g:Nat} {rows:List Nat} (h:Good m g rows) (s:Nat):madeF g rows s < 2 ^ m:=Dm h.hr _ _ h.hg
theorem Good.comb {m ga gb:Nat} {xs ys:List Nat} (ha:Good m ga xs) (hb:Good m gb ys):Good m (ga ||| gb) (eL (ga ||| gb) (orL xs ys)) :=
 Am ha.hm (by rw [yQ (by rw [ha.hl,hb.hl]),ha.hl]) (Nat.or_lt_two_pow ha.hg hb.hg) (fun r hr=>by
  obtain ⟨i,hi⟩:=List.getElem?_of_mem hr;unfold orL at hi;rw [List.getElem?_zipWith] at hi;cases h1:xs[i]? with
  | none=>rw [h1] at hi;simp at hi
  | some a =>
   cases h2:ys[i]? with
   | none=>rw [h1,h2] at hi;simp at hi
   | some b =>
    rw [h1,h2] at hi
    have:a ||| b=r:=by simpa using hi
    rw [← this];exact Nat.or_lt_two_pow (ha.hr a (List.mem_of_getElem? h1)) (hb.hr b (List.mem_of_getElem? h2)))
theorem Good.ext {m ga gb:Nat} {xs ys:List Nat} (ha:Good m ga xs) (hb:Good m gb ys):Good m (madeF gb ys ga) (eL (madeF gb ys ga) (xs.map (madeF gb ys))) :=
 Am ha.hm (by rw [List.length_map,ha.hl]) (hb.made ga) (fun r hr=>by
  obtain ⟨x,_,rfl⟩:=List.mem_map.1 hr;exact hb.made x)
theorem sK {m ga gb:Nat} {xs ys:List Nat} (ha:Good m ga xs) (hb:Good m gb ys):lA m ga xs gb ys=0:=by rw [lA,if_pos (uA ha)];exact uA hb
theorem uB {m ga gb:Nat} {xs ys:List Nat} (ha:Good m ga xs) (hb:Good m gb ys):gD m ga xs gb ys=ga ||| gb:=by rw [gD,if_pos (sK ha hb)]
theorem uC {m ga gb:Nat} {xs ys:List Nat} (ha:Good m ga xs) (hb:Good m gb ys):fW m ga xs gb ys=eL (ga ||| gb) (orL xs ys):=by rw [fW,if_pos (sK ha hb)]
theorem Dn {m ga gb:Nat} {xs ys:List Nat} (ha:Good m ga xs) (hb:Good m gb ys):nP m ga xs gb ys=madeF gb ys ga:=by rw [nP,if_pos (sK ha hb)]
theorem Do {m ga gb:Nat} {xs ys:List Nat} (ha:Good m ga xs) (hb:Good m gb ys):mW m ga xs gb ys=eL (madeF gb ys ga) (xs.map (madeF gb ys)):=by rw [mW,if_pos (sK ha hb)]
theorem Good.combT {m ga gb:Nat} {xs ys:List Nat} (ha:Good m ga xs) (hb:Good m gb ys):Good m (gD m ga xs gb ys) (fW m ga xs gb ys):=by rw [uB ha hb,uC ha hb];exact ha.comb hb
theorem Good.extT {m ga gb:Nat} {xs ys:List Nat} (ha:Good m ga xs) (hb:Good m gb ys):Good m (nP m ga xs gb ys) (mW m ga xs gb ys):=by rw [Dn ha hb,Do ha hb];exact ha.ext hb
theorem gL {m ga gb:Nat} {xs ys:List Nat} (ha:Good m ga xs) (hb:Good m gb ys) (s:Nat):madeF (gD m ga xs gb ys) (fW m ga xs gb ys) s=madeF ga xs s ||| madeF gb ys s:=by rw [uB ha hb,uC ha hb,Al (Tm ha.g64 hb.g64) (K6 ha.r64 hb.r64),made_or (by rw [ha.hl,hb.hl])]
theorem lX {m ga gb:Nat} {xs ys:List Nat} (ha:Good m ga xs) (hb:Good m gb ys) (s:Nat):madeF (nP m ga xs gb ys) (mW m ga xs gb ys) s=madeF gb ys (madeF ga xs s):=by rw [Dn ha hb,Do ha hb,Al (uV hb.r64 hb.g64) (fun r hr=>by obtain ⟨x,_,rfl⟩:=List.mem_map.1 hr;exact uV hb.r64 hb.g64),Rk]
theorem Dp (g:Nat) (rows:List Nat):madeF g rows 0=g:=by rw [madeF,Tg];rfl
theorem Ij {m g:Nat} {rows:List Nat} (h:Good m g rows) {i r:Nat} (hi:rows[i]?=some r):madeF g rows (2 ^ i)=g ||| r:=by
 have hil:=(List.getElem?_eq_some_iff.1 hi).1;have hi64:i < 64:=by have:=h.hl;have:=h.hm;omega
 apply pQ;intro j;rw [eP,Nat.testBit_or,Bool.or_eq_true];constructor
 ·rintro (h1 | ⟨k,⟨hk,h2⟩,h3⟩)
  ·exact .inl h1
  ·rw [Nat.testBit_two_pow] at h2;have e:i=k:=by simpa using h2
   subst e;rw [List.getD_eq_getElem?_getD,hi] at h3;exact .inr h3
 ·rintro (h1 | h1)
  ·exact .inl h1
  ·exact .inr ⟨i,⟨hi64,by rw [Nat.testBit_two_pow];simp⟩,by rw [List.getD_eq_getElem?_getD,hi];exact h1⟩
theorem nB {m g h:Nat} {xs ys:List Nat} (hx:Good m g xs) (hy:Good m h ys) (e:∀ s,madeF g xs s=madeF h ys s):g=h∧xs=ys:=by have e0:=e 0;rw [Dp,Dp] at e0;subst e0;refine ⟨rfl,tP (by rw [hx.hl,hy.hl]) fun i x y hi hj=>?_⟩;have e1:=e (2 ^ i);rw [Ij hx hi,Ij hy hj] at e1;have c1:=hx.hc x (List.mem_of_getElem? hi);have c2:=hy.hc y (List.mem_of_getElem? hj);apply Nat.eq_of_testBit_eq;intro j;have b1:=congrArg (fun n=>n.testBit j) e1;have b2:=congrArg (fun n=>n.testBit j) c1;have b3:=congrArg (fun n=>n.testBit j) c2;simp only [Nat.testBit_or,Nat.testBit_and,Nat.zero_testBit] at b1 b2 b3;cases h1:x.testBit j<;>cases h2:y.testBit j<;>cases h3:g.testBit j<;>simp_all
theorem U8 {m i j:Nat}:((gV m).getD i 0).testBit j=true↔i < m∧i=j:=by
 rw [List.getD_eq_getElem?_getD];rcases Nat.lt_or_ge i m with h | h
 ·rw [Hs h];simp only [Option.getD_some,Nat.testBit_two_pow,decide_eq_true_eq];exact ⟨fun e=>⟨h,e⟩,fun e=>e.2⟩
 ·rw [List.getElem?_eq_none (by rw [kG];exact h)];simp only [Option.getD_none,Nat.zero_testBit];exact ⟨fun e=>(Bool.false_ne_true e).elim,fun e=>(by omega)⟩
theorem Dq {m s:Nat} (hm:m≤64) (hs:s < 2 ^ m):madeF 0 (gV m) s=s:=by
 apply pQ;intro j;rw [eP];simp only [U8,Nat.zero_testBit];constructor
 ·rintro (h | ⟨i,⟨_,h2⟩,_,rfl⟩)
  ·cases h
  ·exact h2
 ·intro h;have hj:j < m:=by
   rcases Nat.lt_or_ge j m with h1 | h1
   ·exact h1
   ·rw [Nat.testBit_lt_two_pow (Nat.lt_of_lt_of_le hs (Nat.pow_le_pow_right (by omega) h1))] at h;cases h
  exact .inr ⟨j,⟨by omega,h⟩,hj,rfl⟩
theorem lI {m:Nat} (hm:m≤64):Good m 0 (gV m) where
 hm:=hm
 hl:=kG m
 hg:=Nat.two_pow_pos m
 hr:=fun r hr=>by obtain ⟨i,hi,rfl⟩:=List.mem_map.1 hr;exact Nat.pow_lt_pow_right (by omega) (List.mem_range.1 hi)
 hc:=fun r _=>Nat.and_zero r
theorem Ik {m:Nat} (hm:m≤64):Tv m=0∧oneV m=gV m:=by
 have hd:fM m=true:=by simp [fM];omega
 exact ⟨by rw [Tv,if_pos hd],by rw [oneV,if_pos hd,Int.toNat_natCast]⟩
section
variable {m ga gb gc:Nat} {xs ys zs:List Nat}
theorem Dr (a:Good m ga xs) (b:Good m gb ys):gD m ga xs gb ys=gD m gb ys ga xs∧fW m ga xs gb ys=fW m gb ys ga xs :=
 nB (a.combT b) (b.combT a) fun s=>by rw [gL a b,gL b a,Nat.or_comm]
theorem Ds (a:Good m ga xs):gD m ga xs ga xs=ga∧fW m ga xs ga xs=xs :=
 nB (a.combT a) a fun s=>by rw [gL a a,Nat.or_self]
theorem An (a:Good m ga xs) (b:Good m gb ys) (c:Good m gc zs):gD m (gD m ga xs gb ys) (fW m ga xs gb ys) gc zs=gD m ga xs (gD m gb ys gc zs) (fW m gb ys gc zs)∧fW m (gD m ga xs gb ys) (fW m ga xs gb ys) gc zs=fW m ga xs (gD m gb ys gc zs) (fW m gb ys gc zs) :=
 nB ((a.combT b).combT c) (a.combT (b.combT c)) fun s=>by rw [gL (a.combT b) c,gL a (b.combT c),gL a b,gL b c,Nat.or_assoc]
theorem Ok {m s:Nat} (hm:m≤64) (g:Nat) (rows:List Nat) (hl:rows.length=m):madeF g rows s=madeF g rows (s % 2 ^ m):=by
 apply pQ;intro j;rw [eP,eP];constructor
 ·rintro (h | ⟨i,⟨hi,h2⟩,h3⟩)
  ·exact .inl h
  ·have him:i < m:=by
    rcases Nat.lt_or_ge i m with h1 | h1
    ·exact h1
    ·rw [List.getD_eq_getElem?_getD,List.getElem?_eq_none (by omega)] at h3;simp at h3
   exact .inr ⟨i,⟨hi,by rw [Nat.testBit_mod_two_pow];simp [him,h2]⟩,h3⟩
 ·rintro (h | ⟨i,⟨hi,h2⟩,h3⟩)
  ·exact .inl h
  ·rw [Nat.testBit_mod_two_pow,Bool.and_eq_true] at h2;exact .inr ⟨i,⟨hi,h2.2⟩,h3⟩
theorem Dt (a:Good m ga xs):nP m 0 (gV m) ga xs=ga∧mW m 0 (gV m) ga xs=xs :=
 nB ((lI a.hm).extT a) a fun s=>by rw [lX (lI a.hm) a,Ok a.hm 0 (gV m) (kG m),Dq a.hm (Nat.mod_lt _ (Nat.two_pow_pos m)),← Ok a.hm ga xs a.hl]
theorem Du (a:Good m ga xs):nP m ga xs 0 (gV m)=ga∧mW m ga xs 0 (gV m)=xs :=
 nB (a.extT (lI a.hm)) a fun s=>by rw [lX a (lI a.hm),Dq a.hm (a.made s)]
theorem Dv (a:Good m ga xs) (b:Good m gb ys) (c:Good m gc zs):nP m ga xs (gD m gb ys gc zs) (fW m gb ys gc zs)=gD m (nP m ga xs gb ys) (mW m ga xs gb ys) (nP m ga xs gc zs) (mW m ga xs gc zs)∧mW m ga xs (gD m gb ys gc zs) (fW m gb ys gc zs)=fW m (nP m ga xs gb ys) (mW m ga xs gb ys) (nP m ga xs gc zs) (mW m ga xs gc zs) :=
 nB (a.extT (b.combT c)) ((a.extT b).combT (a.extT c)) fun s=>by rw [lX a (b.combT c),gL b c,gL (a.extT b) (a.extT c),lX a b,lX a c]
theorem Ao (a:Good m ga xs) (b:Good m gb ys) (c:Good m gc zs):nP m (gD m ga xs gb ys) (fW m ga xs gb ys) gc zs=gD m (nP m ga xs gc zs) (mW m ga xs gc zs) (nP m gb ys gc zs) (mW m gb ys gc zs)∧mW m (gD m ga xs gb ys) (fW m ga xs gb ys) gc zs=fW m (nP m ga xs gc zs) (mW m ga xs gc zs) (nP m gb ys gc zs) (mW m gb ys gc zs) :=
 nB ((a.combT b).extT c) ((a.extT c).combT (b.extT c)) fun s=>by rw [lX (a.combT b) c,gL a b,gL (a.extT c) (b.extT c),lX a c,lX b c,U7]
end
end
end Go.Proofs.YtbmieipifgailaaGreatDoor
