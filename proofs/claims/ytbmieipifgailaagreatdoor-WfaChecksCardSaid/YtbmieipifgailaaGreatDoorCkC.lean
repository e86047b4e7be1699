import Derived.Test.YtbmieipifgailaaGreatDoorCkB
set_option maxRecDepth 100000
set_option maxHeartbeats 4000000
set_option linter.unusedVariables false
set_option linter.unusedSimpArgs false
set_option linter.unusedSectionVars false
set_option linter.unnecessarySimpa false
namespace Go.Proofs.YtbmieipifgailaaGreatDoor
open Go.Proofs.Tryz
section
open Go.RowKit
structure PF where
 z:Bool
 c:Int
 g:Nat
 rows:List Nat
 cells:List Cl
def WF.pf (f:WF):PF:=⟨f.z,f.c,f.g,f.rows,f.cells⟩
def dL:PF:=⟨true,0,0,[],[]⟩
def pC (c:Int):PF:=⟨false,c,0,[],[]⟩
def pF (g:Nat) (rows:List Nat):PF:=⟨false,0,g,rows,[]⟩
def pX (cs:List Cl):PF:=⟨false,0,0,[],cs⟩
inductive OkP (t n:Int):PF→Prop
 | zero:OkP t n dL
 | bool (h:t=1):OkP t n (pC 0)
 | cost (c:Int) (h:t=2) (h0:0≤c) (h1:c≤n):OkP t n (pC c)
 | facts (m g:Nat) (rows:List Nat) (h:t=3) (hn:n=(m:Int)) (hg:Good m g rows):OkP t n (pF g rows)
 | cells (m:Nat) (cs:List Cl) (h:t=4) (hn:n=(m:Int)) (hv:Val m cs):OkP t n (pX cs)
def dM (t n:Int) (a b:PF):PF :=
 if a.z=true then b else if b.z=true then a else if t=2 then pC (min a.c b.c) else if t=3 then pF (gD n a.g a.rows b.g b.rows) (fW n a.g a.rows b.g b.rows) else if t=4 then pX (dA a.cells b.cells) else pC 0
def gS (t n:Int) (a b:PF):PF :=
 if a.z=true then dL else if b.z=true then dL else if t=2 then pC (min (a.c+b.c) n) else if t=3 then pF (nP n a.g a.rows b.g b.rows) (mW n a.g a.rows b.g b.rows) else if t=4 then pX (gE a.cells b.cells) else pC 0
def kY (t n:Int):PF:=if t=3 then pF 0 (gV n.toNat) else if t=4 then pX (iL n.toNat) else pC 0
theorem iT {n:Int} {a:PF} (h:OkP 1 n a):a=dL∨a=pC 0:=by
 cases h with
 | zero=>exact .inl rfl
 | bool h=>exact .inr rfl
 | cost c h h0 h1=>omega
 | facts m g rows h=>omega
 | cells m cs h=>omega
theorem iN {n:Int} {a:PF} (h:OkP 2 n a):a=dL∨∃ c,a=pC c∧0≤c∧c≤n:=by
 cases h with
 | zero=>exact .inl rfl
 | bool h=>omega
 | cost c h h0 h1=>exact .inr ⟨c,rfl,h0,h1⟩
 | facts m g rows h=>omega
 | cells m cs h=>omega
theorem iU {m:Nat} {a:PF} (h:OkP 3 m a):a=dL∨∃ g rows,a=pF g rows∧Good m g rows:=by
 cases h with
 | zero=>exact .inl rfl
 | bool h=>omega
 | cost c h h0 h1=>omega
 | facts k g rows h hn hg =>
  obtain rfl:m=k:=by omega
  exact .inr ⟨g,rows,rfl,hg⟩
 | cells m cs h=>omega
theorem iV {m:Nat} {a:PF} (h:OkP 4 m a):a=dL∨∃ cs,a=pX cs∧Val m cs:=by
 cases h with
 | zero=>exact .inl rfl
 | bool h=>omega
 | cost c h h0 h1=>omega
 | facts k g rows h hn hg=>omega
 | cells k cs h hn hv =>
  obtain rfl:m=k:=by omega
  exact .inr ⟨cs,rfl,hv⟩
theorem dQ {t n:Int} {l:Nat} (h:bV t n l=true):l=0∧((t=1∧n=0)∨(t=2∧0≤n∧n≤1048576)∨(t=3∧∃ m:Nat,n=m∧m≤64)∨(t=4∧∃ m:Nat,n=m∧m≤64)):=by
 obtain ⟨h0,ht⟩:=gC h;obtain ⟨d0,d1,d2,d3⟩:=pP h;refine ⟨h0,?_⟩;rcases ht with rfl | rfl | rfl | rfl
 ·exact .inl ⟨rfl,d2 rfl⟩
 ·exact .inr (.inl ⟨rfl,d0,d1⟩)
 ·exact .inr (.inr (.inl ⟨rfl,n.toNat,by omega,by have:=d3 (.inl rfl);omega⟩))
 ·exact .inr (.inr (.inr ⟨rfl,n.toNat,by omega,by have:=d3 (.inr rfl);omega⟩))
section
variable {t n:Int} {l:Nat} {a b c:PF}
theorem dZ:dM t n dL a=a:=by simp [dM,dL]
theorem eI (ha:OkP t n a):dM t n a dL=a:=by cases ha<;>simp [dM,dL,pC,pF,pX]
theorem oC:gS t n dL a=dL:=by simp [gS,dL]
theorem oD:gS t n a dL=dL:=by simp [gS,dL]
theorem rF:dM 1 n (pC 0) (pC 0)=pC 0:=by simp [dM,pC]
theorem mG (x y:Int):dM 2 n (pC x) (pC y)=pC (min x y):=by simp [dM,pC]
theorem pR (g h:Nat) (xs ys:List Nat):dM 3 n (pF g xs) (pF h ys)=pF (gD n g xs h ys) (fW n g xs h ys):=by simp [dM,pF]
theorem oE (xs ys:List Cl):dM 4 n (pX xs) (pX ys)=pX (dA xs ys):=by simp [dM,pX]
theorem Dw:gS 1 n (pC 0) (pC 0)=pC 0:=by simp [gS,pC]
theorem Dx (x y:Int):gS 2 n (pC x) (pC y)=pC (min (x+y) n):=by simp [gS,pC]
theorem Dy (g h:Nat) (xs ys:List Nat):gS 3 n (pF g xs) (pF h ys)=pF (nP n g xs h ys) (mW n g xs h ys):=by simp [gS,pF]
theorem Dz (xs ys:List Cl):gS 4 n (pX xs) (pX ys)=pX (gE xs ys):=by simp [gS,pX]
theorem U9:kY 1 n=pC 0:=by simp [kY]
theorem Va:kY 2 n=pC 0:=by simp [kY]
theorem Ol (m:Nat):kY 3 m=pF 0 (gV m):=by simp [kY]
theorem Om (m:Nat):kY 4 m=pX (iL m):=by simp [kY]
theorem yX (h:bV t n l=true):OkP t n (kY t n):=by
 rcases (dQ h).2 with ⟨rfl,hn⟩ | ⟨rfl,h0,h1⟩ | ⟨rfl,m,rfl,hm⟩ | ⟨rfl,m,rfl,hm⟩
 ·rw [U9];exact .bool rfl
 ·rw [Va];exact .cost 0 rfl (by omega) h0
 ·rw [Ol];exact .facts m 0 _ rfl rfl (lI hm)
 ·rw [Om];exact .cells m _ rfl rfl (Hz hm)
theorem vC (h:bV t n l=true) (ha:OkP t n a) (hb:OkP t n b):OkP t n (dM t n a b):=by
 rcases (dQ h).2 with ⟨rfl,hn⟩ | ⟨rfl,h0,h1⟩ | ⟨rfl,m,rfl,hm⟩ | ⟨rfl,m,rfl,hm⟩
 ·rcases iT ha with rfl | rfl<;>rcases iT hb with rfl | rfl<;>simp only [dZ,eI ha,rF]<;>assumption
 ·rcases iN ha with rfl | ⟨x,rfl,hx⟩
  ·rw [dZ];exact hb
  rcases iN hb with rfl | ⟨y,rfl,hy⟩
  ·rw [eI ha];exact ha
  rw [mG];exact .cost _ rfl (by omega) (by omega)
 ·rcases iU ha with rfl | ⟨g,xs,rfl,hx⟩
  ·rw [dZ];exact hb
  rcases iU hb with rfl | ⟨g2,ys,rfl,hy⟩
  ·rw [eI ha];exact ha
  rw [pR];exact .facts m _ _ rfl rfl (hx.combT hy)
 ·rcases iV ha with rfl | ⟨xs,rfl,hx⟩
  ·rw [dZ];exact hb
  rcases iV hb with rfl | ⟨ys,rfl,hy⟩
  ·rw [eI ha];exact ha
  rw [oE];exact .cells m _ rfl rfl (qX hx hy)
theorem vD (h:bV t n l=true) (ha:OkP t n a) (hb:OkP t n b):OkP t n (gS t n a b):=by
 rcases (dQ h).2 with ⟨rfl,hn⟩ | ⟨rfl,h0,h1⟩ | ⟨rfl,m,rfl,hm⟩ | ⟨rfl,m,rfl,hm⟩
 ·rcases iT ha with rfl | rfl<;>rcases iT hb with rfl | rfl<;>simp only [oC,oD,Dw]<;>assumption
 ·rcases iN ha with rfl | ⟨x,rfl,hx⟩
  ·rw [oC];exact .zero
  rcases iN hb with rfl | ⟨y,rfl,hy⟩
  ·rw [oD];exact .zero
  rw [Dx];exact .cost _ rfl (by omega) (by omega)
 ·rcases iU ha with rfl | ⟨g,xs,rfl,hx⟩
  ·rw [oC];exact .zero
  rcases iU hb with rfl | ⟨g2,ys,rfl,hy⟩
  ·rw [oD];exact .zero
  rw [Dy];exact .facts m _ _ rfl rfl (hx.extT hy)
 ·rcases iV ha with rfl | ⟨xs,rfl,hx⟩
  ·rw [oC];exact .zero
  rcases iV hb with rfl | ⟨ys,rfl,hy⟩
  ·rw [oD];exact .zero
  rw [Dz];exact .cells m _ rfl rfl (Hy hx hy)
theorem uD (h:bV t n l=true) (ha:OkP t n a) (hb:OkP t n b):dM t n a b=dM t n b a:=by
 rcases (dQ h).2 with ⟨rfl,hn⟩ | ⟨rfl,h0,h1⟩ | ⟨rfl,m,rfl,hm⟩ | ⟨rfl,m,rfl,hm⟩
 ·rcases iT ha with rfl | rfl<;>rcases iT hb with rfl | rfl<;>simp only [dZ,eI ha,eI hb,rF]
 ·rcases iN ha with rfl | ⟨x,rfl,hx⟩
  ·rw [dZ,eI hb]
  rcases iN hb with rfl | ⟨y,rfl,hy⟩
  ·rw [dZ,eI ha]
  rw [mG,mG,Int.min_comm]
 ·rcases iU ha with rfl | ⟨g,xs,rfl,hx⟩
  ·rw [dZ,eI hb]
  rcases iU hb with rfl | ⟨g2,ys,rfl,hy⟩
  ·rw [dZ,eI ha]
  rw [pR,pR,(Dr hx hy).1,(Dr hx hy).2]
 ·rcases iV ha with rfl | ⟨xs,rfl,hx⟩
  ·rw [dZ,eI hb]
  rcases iV hb with rfl | ⟨ys,rfl,hy⟩
  ·rw [dZ,eI ha]
  rw [oE,oE,Q8 hx hy]
theorem uE (h:bV t n l=true) (ha:OkP t n a):dM t n a a=a:=by
 rcases (dQ h).2 with ⟨rfl,hn⟩ | ⟨rfl,h0,h1⟩ | ⟨rfl,m,rfl,hm⟩ | ⟨rfl,m,rfl,hm⟩
 ·rcases iT ha with rfl | rfl<;>simp only [dZ,rF]
 ·rcases iN ha with rfl | ⟨x,rfl,hx⟩
  ·rw [dZ]
  rw [mG,Int.min_self]
 ·rcases iU ha with rfl | ⟨g,xs,rfl,hx⟩
  ·rw [dZ]
  rw [pR,(Ds hx).1,(Ds hx).2]
 ·rcases iV ha with rfl | ⟨xs,rfl,hx⟩
  ·rw [dZ]
  rw [oE,Dj hx]
theorem rG (h:bV t n l=true) (ha:OkP t n a) (hb:OkP t n b) (hc:OkP t n c):dM t n (dM t n a b) c=dM t n a (dM t n b c):=by
 by_cases za:a=dL
 ·subst za;rw [dZ,dZ]
 by_cases zb:b=dL
 ·subst zb;rw [dZ,eI ha]
 by_cases zc:c=dL
 ·subst zc;rw [eI hb,eI (vC h ha hb)]
 rcases (dQ h).2 with ⟨rfl,hn⟩ | ⟨rfl,h0,h1⟩ | ⟨rfl,m,rfl,hm⟩ | ⟨rfl,m,rfl,hm⟩
 ·obtain rfl:=(iT ha).resolve_left za;obtain rfl:=(iT hb).resolve_left zb;obtain rfl:=(iT hc).resolve_left zc;simp only [rF]
 ·obtain ⟨x,rfl,hx⟩:=(iN ha).resolve_left za;obtain ⟨y,rfl,hy⟩:=(iN hb).resolve_left zb;obtain ⟨w,rfl,hw⟩:=(iN hc).resolve_left zc;simp only [mG,Int.min_assoc]
 ·obtain ⟨g,x,rfl,hx⟩:=(iU ha).resolve_left za;obtain ⟨g2,y,rfl,hy⟩:=(iU hb).resolve_left zb;obtain ⟨g3,w,rfl,hw⟩:=(iU hc).resolve_left zc;simp only [pR,(An hx hy hw).1,(An hx hy hw).2]
 ·obtain ⟨x,rfl,hx⟩:=(iV ha).resolve_left za;obtain ⟨y,rfl,hy⟩:=(iV hb).resolve_left zb;obtain ⟨w,rfl,hw⟩:=(iV hc).resolve_left zc;simp only [oE,zW hx hy hw]
theorem F9 (h:bV t n l=true) (ha:OkP t n a):gS t n (kY t n) a=a:=by
 by_cases za:a=dL
 ·subst za;rw [oD]
 rcases (dQ h).2 with ⟨rfl,hn⟩ | ⟨rfl,h0,h1⟩ | ⟨rfl,m,rfl,hm⟩ | ⟨rfl,m,rfl,hm⟩
 ·obtain rfl:=(iT ha).resolve_left za;rw [U9,Dw]
 ·obtain ⟨x,rfl,hx⟩:=(iN ha).resolve_left za;rw [Va,Dx];congr 1;omega
 ·obtain ⟨g,x,rfl,hx⟩:=(iU ha).resolve_left za;rw [Ol,Dy,(Dt hx).1,(Dt hx).2]
 ·obtain ⟨x,rfl,hx⟩:=(iV ha).resolve_left za;rw [Om,Dz,Rb hx]
theorem Ga (h:bV t n l=true) (ha:OkP t n a):gS t n a (kY t n)=a:=by
 by_cases za:a=dL
 ·subst za;rw [oC]
 rcases (dQ h).2 with ⟨rfl,hn⟩ | ⟨rfl,h0,h1⟩ | ⟨rfl,m,rfl,hm⟩ | ⟨rfl,m,rfl,hm⟩
 ·obtain rfl:=(iT ha).resolve_left za;rw [U9,Dw]
 ·obtain ⟨x,rfl,hx⟩:=(iN ha).resolve_left za;rw [Va,Dx];congr 1;omega
 ·obtain ⟨g,x,rfl,hx⟩:=(iU ha).resolve_left za;rw [Ol,Dy,(Du hx).1,(Du hx).2]
 ·obtain ⟨x,rfl,hx⟩:=(iV ha).resolve_left za;rw [Om,Dz,Re hx]
theorem Ap (h:bV t n l=true) (ha:OkP t n a) (hb:OkP t n b) (hc:OkP t n c):gS t n a (dM t n b c)=dM t n (gS t n a b) (gS t n a c):=by
 by_cases za:a=dL
 ·subst za;simp only [oC,dZ]
 by_cases zb:b=dL
 ·subst zb;simp only [oD,dZ]
 by_cases zc:c=dL
 ·subst zc;rw [oD,eI hb,eI (vD h ha hb)]
 rcases (dQ h).2 with ⟨rfl,hn⟩ | ⟨rfl,h0,h1⟩ | ⟨rfl,m,rfl,hm⟩ | ⟨rfl,m,rfl,hm⟩
 ·obtain rfl:=(iT ha).resolve_left za;obtain rfl:=(iT hb).resolve_left zb;obtain rfl:=(iT hc).resolve_left zc;simp only [Dw,rF]
 ·obtain ⟨x,rfl,hx⟩:=(iN ha).resolve_left za;obtain ⟨y,rfl,hy⟩:=(iN hb).resolve_left zb;obtain ⟨w,rfl,hw⟩:=(iN hc).resolve_left zc;simp only [Dx,mG];congr 1;omega
 ·obtain ⟨g,x,rfl,hx⟩:=(iU ha).resolve_left za;obtain ⟨g2,y,rfl,hy⟩:=(iU hb).resolve_left zb;obtain ⟨g3,w,rfl,hw⟩:=(iU hc).resolve_left zc;simp only [Dy,pR,(Dv hx hy hw).1,(Dv hx hy hw).2]
 ·obtain ⟨x,rfl,hx⟩:=(iV ha).resolve_left za;obtain ⟨y,rfl,hy⟩:=(iV hb).resolve_left zb;obtain ⟨w,rfl,hw⟩:=(iV hc).resolve_left zc;simp only [Dz,oE,Q9 hx hy hw]
theorem Aq (h:bV t n l=true) (ha:OkP t n a) (hb:OkP t n b) (hc:OkP t n c):gS t n (dM t n a b) c=dM t n (gS t n a c) (gS t n b c):=by
 by_cases zc:c=dL
 ·subst zc;simp only [oD,dZ]
 by_cases za:a=dL
 ·subst za;simp only [oC,dZ]
 by_cases zb:b=dL
 ·subst zb;rw [oC,eI ha,eI (vD h ha hc)]
 rcases (dQ h).2 with ⟨rfl,hn⟩ | ⟨rfl,h0,h1⟩ | ⟨rfl,m,rfl,hm⟩ | ⟨rfl,m,rfl,hm⟩
 ·obtain rfl:=(iT ha).resolve_left za;obtain rfl:=(iT hb).resolve_left zb;obtain rfl:=(iT hc).resolve_left zc;simp only [Dw,rF]
 ·obtain ⟨x,rfl,hx⟩:=(iN ha).resolve_left za;obtain ⟨y,rfl,hy⟩:=(iN hb).resolve_left zb;obtain ⟨w,rfl,hw⟩:=(iN hc).resolve_left zc;simp only [Dx,mG];congr 1;omega
 ·obtain ⟨g,x,rfl,hx⟩:=(iU ha).resolve_left za;obtain ⟨g2,y,rfl,hy⟩:=(iU hb).resolve_left zb;obtain ⟨g3,w,rfl,hw⟩:=(iU hc).resolve_left zc;simp only [Dy,pR,(Ao hx hy hw).1,(Ao hx hy hw).2]
 ·obtain ⟨x,rfl,hx⟩:=(iV ha).resolve_left za;obtain ⟨y,rfl,hy⟩:=(iV hb).resolve_left zb;obtain ⟨w,rfl,hw⟩:=(iV hc).resolve_left zc;simp only [Dz,oE,Ra hx hy hw]
end
inductive PS where
 | one (t n:Int)
 | two (t n u m:Int)
def PS.ok:PS→Prop
 | .one t n=>bV t n 0=true
 | .two t n u m=>bV t n 0=true∧bV u m 0=true
inductive PX where
 | one (a:PF)
 | two (a b:PF)
def OkX:PS→PX→Prop
 | .one t n,.one a=>OkP t n a
 | .two t n u m,.two a b=>OkP t n a∧OkP u m b
 | _,_=>False
def cD:PS→PX→PX→PX
 | .one t n,.one a,.one b=>.one (dM t n a b)
 | .two t n u m,.two a b,.two c d=>.two (dM t n a c) (dM u m b d)
 | _,x,_=>x
def kZ:PS→PX→PX→PX
 | .one t n,.one a,.one b=>.one (gS t n a b)
 | .two t n u m,.two a b,.two c d=>.two (gS t n a c) (gS u m b d)
 | _,x,_=>x
def oW:PS→PX
 | .one t n=>.one (kY t n)
 | .two t n u m=>.two (kY t n) (kY u m)
def bU:PS→PX
 | .one _ _=>.one dL
 | .two _ _ _ _=>.two dL dL
section
variable {S:PS} {x y v:PX}
theorem pS (h:S.ok):OkX S (oW S):=by
 cases S with
 | one t n=>exact yX h
 | two t n u m=>exact ⟨yX h.1,yX h.2⟩
theorem nC:OkX S (bU S):=by
 cases S with
 | one t n=>exact .zero
 | two t n u m=>exact ⟨.zero,.zero⟩
theorem kN (h:S.ok) (hx:OkX S x) (hy:OkX S y):OkX S (cD S x y):=by cases S<;>cases x<;>cases y<;>first | exact hx.elim | exact hy.elim | exact vC h hx hy | exact ⟨vC h.1 hx.1 hy.1,vC h.2 hx.2 hy.2⟩
theorem yY (h:S.ok) (hx:OkX S x) (hy:OkX S y):OkX S (kZ S x y):=by cases S<;>cases x<;>cases y<;>first | exact hx.elim | exact hy.elim | exact vD h hx hy | exact ⟨vD h.1 hx.1 hy.1,vD h.2 hx.2 hy.2⟩
theorem Ar (h:S.ok) (hx:OkX S x) (hy:OkX S y):cD S x y=cD S y x:=by cases S<;>cases x<;>cases y<;>first | exact hx.elim | exact hy.elim | exact congrArg PX.one (uD h hx hy) | (simp only [cD];rw [uD h.1 hx.1 hy.1,uD h.2 hx.2 hy.2])
theorem pT (h:S.ok) (hx:OkX S x):cD S x x=x:=by cases S<;>cases x<;>first | exact hx.elim | exact congrArg PX.one (uE h hx) | (simp only [cD];rw [uE h.1 hx.1,uE h.2 hx.2])
theorem lJ (hx:OkX S x):cD S (bU S) x=x:=by cases S<;>cases x<;>first | exact hx.elim | (simp only [cD,bU,dZ])
theorem kO (hx:OkX S x):cD S x (bU S)=x:=by cases S<;>cases x<;>first | exact hx.elim | (simp only [cD,bU];rw [eI hx]) | (simp only [cD,bU];rw [eI hx.1,eI hx.2])
theorem jU (h:S.ok) (hx:OkX S x) (hy:OkX S y) (hv:OkX S v):cD S (cD S x y) v=cD S x (cD S y v):=by cases S<;>cases x<;>cases y<;>cases v<;>first | exact hx.elim | exact hy.elim | exact hv.elim | exact congrArg PX.one (rG h hx hy hv) | (simp only [cD];rw [rG h.1 hx.1 hy.1 hv.1,rG h.2 hx.2 hy.2 hv.2])
theorem Vb (h:S.ok) (hx:OkX S x):kZ S (oW S) x=x:=by cases S<;>cases x<;>first | exact hx.elim | exact congrArg PX.one (F9 h hx) | (simp only [kZ,oW];rw [F9 h.1 hx.1,F9 h.2 hx.2])
theorem Vc (h:S.ok) (hx:OkX S x):kZ S x (oW S)=x:=by cases S<;>cases x<;>first | exact hx.elim | exact congrArg PX.one (Ga h hx) | (simp only [kZ,oW];rw [Ga h.1 hx.1,Ga h.2 hx.2])
theorem Rl (hx:OkX S x):kZ S (bU S) x=bU S:=by cases S<;>cases x<;>first | exact hx.elim | (simp only [kZ,bU,oC])
theorem Rm (hx:OkX S x):kZ S x (bU S)=bU S:=by cases S<;>cases x<;>first | exact hx.elim | (simp only [kZ,bU,oD])
theorem Rn (h:S.ok) (hx:OkX S x) (hy:OkX S y) (hv:OkX S v):kZ S x (cD S y v)=cD S (kZ S x y) (kZ S x v):=by cases S<;>cases x<;>cases y<;>cases v<;>first | exact hx.elim | exact hy.elim | exact hv.elim | exact congrArg PX.one (Ap h hx hy hv) | (simp only [cD,kZ];rw [Ap h.1 hx.1 hy.1 hv.1,Ap h.2 hx.2 hy.2 hv.2])
theorem Ro (h:S.ok) (hx:OkX S x) (hy:OkX S y) (hv:OkX S v):kZ S (cD S x y) v=cD S (kZ S x v) (kZ S y v):=by cases S<;>cases x<;>cases y<;>cases v<;>first | exact hx.elim | exact hy.elim | exact hv.elim | exact congrArg PX.one (Aq h hx hy hv) | (simp only [cD,kZ];rw [Aq h.1 hx.1 hy.1 hv.1,Aq h.2 hx.2 hy.2 hv.2])
end
structure PIs (w:World) (t n:Int) (f:WF) (a:PF):Prop where
 at_:f.At w
 pf:f.pf=a
 ok:OkP t n a
 pl:f.pl=0
theorem PIs.below {w w':World} {t n:Int} {f:WF} {a:PF} (h:PIs w t n f a) (hb:Below w.heap.size w w'):PIs w' t n f a:=⟨h.at_.below hb,h.pf,h.ok,h.pl⟩
def XIs (w:World):PS→WF→PX→Prop
 | .one t n,f,.one a=>PIs w t n f a
 | .two t n u m,f,.two a b=>f.pf=pC 0∧f.rl=0∧f.cl=0∧f.pl=2∧∃ blk off g h,f.pa=some ⟨blk,off,none⟩∧W6 w blk off g∧W6 w blk (off+6) h∧PIs w t n g a∧PIs w u m h b
 | _,_,_=>False
theorem XIs.below {w w':World} {S:PS} {f:WF} {x:PX} (h:XIs w S f x) (hb:Below w.heap.size w w'):XIs w' S f x:=by cases S<;>cases x<;>first | exact h.elim | exact PIs.below h hb | skip;obtain ⟨h1,h2,h3,h4,blk,off,g,k,h5,h6,h7,h8,h9⟩:=h;exact ⟨h1,h2,h3,h4,blk,off,g,k,h5,h6.below hb,h7.below hb,h8.below hb,h9.below hb⟩
theorem XIs.ok {w:World} {S:PS} {f:WF} {x:PX} (h:XIs w S f x):OkX S x:=by cases S<;>cases x<;>first | exact h.elim | exact PIs.ok h | skip;obtain ⟨_,_,_,_,_,_,_,_,_,_,_,h8,h9⟩:=h;exact ⟨h8.ok,h9.ok⟩
theorem PIs.of {w:World} {t n:Int} {f:WF} (hp:bV t n 0=true) (hf:f.At w) (h:fO t n f=true):PIs w t n f f.pf:=by
 have hrl:=hf.rl;have hcl:=hf.cl;have hg:=hf.g64;have hr:=hf.r64;obtain ⟨z,c,g,ra,rl,rc,rows,ca,cl,cc,cells,pa,pl,pc⟩:=f;dsimp only at hrl hcl hg hr;subst hrl hcl;simp only [fO,Bool.and_eq_true,Bool.or_eq_true,iS,iR,decide_eq_true_eq,Bool.not_eq_true'] at h;obtain ⟨⟨h1,h2,h3,h4⟩,h5⟩:=h;have ht5:t≠5:=by rintro rfl;simp [bV] at hp
 have hpl:pl=0:=by
  rcases h4 with ⟨_,h4⟩ | h4
  ·exact absurd h4 ht5
  ·exact h4
 refine ⟨hf,rfl,?_,hpl⟩;show OkP t n ⟨z,c,g,rows,cells⟩;cases z
 ·have h1':t=2∨c=0:=by simpa using h1
  have h2':t=3∨(g=0∧rows.length=0):=by simpa using h2
  have h3':t=4∨cells.length=0:=by simpa using h3
  simp only [Bool.false_eq_true,false_or] at h5;rcases (dQ hp).2 with ⟨rfl,hn⟩ | ⟨rfl,h0,h1⟩ | ⟨rfl,m,rfl,hm⟩ | ⟨rfl,m,rfl,hm⟩
  ·obtain rfl:c=0:=by omega
   obtain ⟨rfl,hr0⟩:g=0∧rows.length=0:=by
    rcases h2' with h | h
    ·omega
    ·exact h
   obtain rfl:=List.eq_nil_of_length_eq_zero hr0;obtain rfl:=List.eq_nil_of_length_eq_zero (h3'.resolve_left (by decide));exact .bool rfl
  ·obtain ⟨rfl,hr0⟩:=h2'.resolve_left (by decide);obtain rfl:=List.eq_nil_of_length_eq_zero hr0;obtain rfl:=List.eq_nil_of_length_eq_zero (h3'.resolve_left (by decide));simp only [if_true,Bool.and_eq_true,decide_eq_true_eq] at h5;exact .cost c rfl h5.1 h5.2
  ·obtain rfl:c=0:=by omega
   obtain rfl:=List.eq_nil_of_length_eq_zero (h3'.resolve_left (by decide));have h6:eO (m:Int) g rows=0:=by simpa using h5
   obtain ⟨k,hk,hgood⟩:=Lv hg hr h6;exact .facts k g rows rfl hk hgood
  ·obtain rfl:c=0:=by omega
   obtain ⟨rfl,hr0⟩:=h2'.resolve_left (by decide);obtain rfl:=List.eq_nil_of_length_eq_zero hr0;have h6:mE (m:Int) cells=0:=by simpa using h5
   obtain ⟨k,hk,hv⟩:=val_of h6;exact .cells k cells rfl hk hv
 ·obtain rfl:c=0:=by simpa using h1
  obtain ⟨rfl,hr0⟩:g=0∧rows.length=0:=by simpa using h2
  have hc0:cells.length=0:=by simpa using h3
  obtain rfl:=List.eq_nil_of_length_eq_zero hr0;obtain rfl:=List.eq_nil_of_length_eq_zero hc0;exact .zero
def vE (blk:Nat):WF:=⟨false,0,0,none,0,0,[],none,0,0,[],some ⟨blk,0,none⟩,2,2⟩
def tJ:WF:=⟨true,0,0,none,0,0,[],none,0,0,[],none,0,0⟩
theorem On (f g:WF) (w:World) :
  Calls prog 101 #[f.val,g.val] w fun e w'=>∃ blk,e = .returned (vE blk).val∧W6 w' blk 0 f∧W6 w' blk 6 g∧w.heap.size≤blk∧Below w.heap.size w w':=by
 obtain ⟨z,c,g0,ra,rl,rc,rows,ca,cl,cc,cells,pa,pl,pc⟩:=f;obtain ⟨z2,c2,g2,ra2,rl2,rc2,rows2,ca2,cl2,cc2,cells2,pa2,pl2,pc2⟩:=g;show Calls prog 101 #[.agg #[.bool z,.int .i64 c,.int .u64 (g0:Int),.slice ra rl rc,.slice ca cl cc,.slice pa pl pc],.agg #[.bool z2,.int .i64 c2,.int .u64 (g2:Int),.slice ra2 rl2 rc2,.slice ca2 cl2 cc2,.slice pa2 pl2 pc2]] w _;obtain ⟨W2,hW2⟩:∃ W,(w.alloc (.cells #[.bool z,.int .i64 c,.int .u64 (g0:Int),.slice ra rl rc,.slice ca cl cc,.slice pa pl pc] 46)).alloc (.cells #[.bool z2,.int .i64 c2,.int .u64 (g2:Int),.slice ra2 rl2 rc2,.slice ca2 cl2 cc2,.slice pa2 pl2 pc2] 46)=W:=⟨_,rfl⟩;have hs2:W2.heap.size=w.heap.size+1+1:=by rw [← hW2];simp
 have B2:Below w.heap.size w W2:=by rw [← hW2];exact Rj _ _ _ _ _
 obtain ⟨t0,t1⟩:=nA W2 #[.bool false,.int .i64 0,.int .u64 0,.slice none 0 0,.slice none 0 0,.slice (some ⟨w.heap.size+1+1+1,0,none⟩) 2 2] #[.bool z,.int .i64 c,.int .u64 (g0:Int),.slice ra rl rc,.slice ca cl cc,.slice pa pl pc,.bool z2,.int .i64 c2,.int .u64 (g2:Int),.slice ra2 rl2 rc2,.slice ca2 cl2 cc2,.slice pa2 pl2 pc2] 46 46;have B4:Below w.heap.size w ((W2.alloc (.cells #[.bool false,.int .i64 0,.int .u64 0,.slice none 0 0,.slice none 0 0,.slice (some ⟨w.heap.size+1+1+1,0,none⟩) 2 2] 46)).alloc (.cells #[.bool z,.int .i64 c,.int .u64 (g0:Int),.slice ra rl rc,.slice ca cl cc,.slice pa pl pc,.bool z2,.int .i64 c2,.int .u64 (g2:Int),.slice ra2 rl2 rc2,.slice ca2 cl2 cc2,.slice pa2 pl2 pc2] 46)):=B2.trans ((Rj _ _ _ _ _).mono B2.size);rw [hs2] at t0 t1;obtain ⟨s0,s1,s2,s3,s4,s5⟩:=eZ t0;have T1:=Lib.hid t1;have HB4:=Lib.hid B4;clear t0 t1 B2 B4 hs2;subst hW2;go_enter func101,ntmps101;go_wp2_with fail;refine bodyPost_ret (v:=.agg #[.bool false,.int .i64 0,.int .u64 0,.slice none 0 0,.slice none 0 0,.slice (some ⟨w.heap.size+1+1+1,0,none⟩) 2 2]) ?_ rfl ?_
 rotate_left
 ·exact ⟨w.heap.size+1+1+1,rfl,⟨jB T1.out rfl,jB T1.out rfl,jB T1.out rfl,jB T1.out rfl,jB T1.out rfl,jB T1.out rfl⟩,⟨jB T1.out rfl,jB T1.out rfl,jB T1.out rfl,jB T1.out rfl,jB T1.out rfl,jB T1.out rfl⟩,by omega,HB4.out⟩
 simp [results,results101,go_sem,s0,s1,s2,s3,s4,s5]
theorem xW (t n:Int) (a:Option Addr) (l c0:Nat) (ht:t≠5) (w:World) :
  Calls prog 74 #[.agg #[.int .i64 t,.int .i64 n,.slice a l c0]] w fun e w'=>e = .returned tJ.val∧Below w.heap.size w w':=by
 have e5:(t == 5)=false:=by simp [ht]
 clear ht;obtain ⟨t0,t1⟩:=nA w #[.int .i64 t,.int .i64 n,.slice a l c0] #[.bool true,.int .i64 0,.int .u64 0,.slice none 0 0,.slice none 0 0,.slice none 0 0] 25 46;obtain ⟨s0,s1,s2,s3,s4,s5⟩:=eZ t1;clear t0 t1;go_enter func74,ntmps74;go_wp2_with fail;refine bodyPost_ret (v:=.agg #[.bool true,.int .i64 0,.int .u64 0,.slice none 0 0,.slice none 0 0,.slice none 0 0]) ?_ rfl ⟨rfl,Rj _ _ _ _ _⟩;simp [results,results74,go_sem,s0,s1,s2,s3,s4,s5]
theorem yZ {t n:Int} {l:Nat} (h:bV t n l=true):t≠5:=by rintro rfl;simp [bV] at h
theorem wY (d:Nat) (s:SV) (e0:Int) (w:World) (hs:SIn w d s) (he:dR s=e0) :
  Calls prog 15 #[s.f.val] w fun e w'=>e = .returned (.int .i64 e0)∧Below w.heap.size w w':=by
 match d,s,hs with
 | d+1,.mk ⟨t,n,a,l,c⟩ ps,hs =>
 show Calls prog 15 #[.agg #[.int .i64 t,.int .i64 n,.slice a l c]] w _;have hl:ps.length=l:=hs.1;by_cases ht:t=5
 ·subst ht;have hB:=Lib.hid (Cm w #[.int .i64 5,.int .i64 n,.slice a l c] 25);have BX:=Lib.hid (eA w (.cells #[.int .i64 5,.int .i64 n,.slice a l c] 25));have hpl:bV 5 n l=false:=by simp [bV]
  by_cases h0:n=0∧l=2
  ·obtain ⟨rfl,rfl⟩:=h0;obtain ⟨p,q,rfl⟩:=tZ hl;obtain ⟨_,b,off,ha,hb,hp,hq,_,_⟩:=hs.two;obtain rfl:a=some ⟨b,off,none⟩:=ha;obtain ⟨⟨pt,pn,pa,pl,pc⟩,pps⟩:=p;obtain ⟨⟨qt,qn,qa,ql,qc⟩,qps⟩:=q;have HP:=Lib.hid (hp.below hB.out);have HQ:=Lib.hid (hq.below hB.out);obtain ⟨r1,hr1⟩:∃ r,bV pt pn pl=r:=⟨_,rfl⟩;obtain ⟨r2,hr2⟩:∃ r,bV qt qn ql=r:=⟨_,rfl⟩;have HR1:=Lib.hid hr1;have HR2:=Lib.hid hr2;have HE:Hid ((if r1=true∧r2=true then (0:Int) else 50)=e0):=by show _=_;rw [← he];simp [dR,hpl,SV.pl,SV.f,hr1,hr2]
   obtain ⟨W0,hW0⟩:∃ W,w.alloc (.cells #[.int .i64 5,.int .i64 0,.slice (some ⟨b,off,none⟩) 2 c] 25)=W:=⟨_,rfl⟩;rw [hW0] at BX HP HQ hB;clear hs hl hp hq hr1 hr2 he hpl;have NX:∀ W:World,Below W0.heap.size W0 W→Hid (W.cell? ⟨w.heap.size,0,none⟩=some (.int .i64 5)∧W.cell? ⟨w.heap.size,1,none⟩=some (.int .i64 0)∧W.cell? ⟨w.heap.size,2,none⟩=some (.slice (some ⟨b,off,none⟩) 2 c)):=fun _ h=>gK (cP BX.out h)
   have NNX:=Lib.hid NX;clear NX;obtain ⟨z0,z1,z2⟩:=(NNX.out _ (Below.refl _ _)).out;go_enter func15,ntmps15;go_wp2_with fail;clear z0 z1 z2;go_loopw [3,4] (fun o i wr=>Below W0.heap.size W0 wr∧((i = .int .i64 0∧o = .bool true)∨(i = .int .i64 1∧o = .bool r1)∨(i = .int .i64 2∧r1=true∧o = .bool r2))) (fun _ i _=>2 - (intOf i).toNat)
   case atStart=>exact ⟨Below.refl _ _,.inl ⟨rfl,rfl⟩⟩
   case round =>
    obtain ⟨hb1,hrel⟩:=hrel;obtain ⟨x0,x1,x2⟩:=(NNX.out _ hb1).out;obtain ⟨y0,y1,y2⟩:=HP.out.below hb1;obtain ⟨v0,v1,v2⟩:=HQ.out.below hb1;dsimp only [SV.f] at y0 y1 y2 v0 v1 v2;simp only [Nat.add_assoc,Nat.reduceAdd] at v1 v2;rcases hrel with ⟨rfl,rfl⟩ | ⟨rfl,rfl⟩ | ⟨rfl,hr,rfl⟩
    ·by_cases hp5:pt=5
     ·subst hp5;have HF:Hid (r1=false):=by show _=_;rw [← HR1.out];simp [bV]
      go_wp2_with fail;go_roundw
      case rel=>exact ⟨hb1,.inr (.inl ⟨rfl,by rw [HF.out]⟩)⟩
      case measure=>simp [intOf]
     ·have hp6:(pt != 5)=true:=by simp [hp5]
      go_wp2_with fail;refine (rE pt pn pa pl pc hp5 r1 HR1.out _).mono ?_;rintro e w3 ⟨rfl,hb3⟩;cases r1
      all_goals
       simp only [Bool.false_eq_true,if_false,if_true];go_wp2_with fail;go_roundw
       case rel=>exact ⟨hb1.trans (hb3.mono hb1.size),.inr (.inl ⟨rfl,rfl⟩)⟩
       case measure=>simp [intOf]
    ·cases r1
     ·have HE2:Hid ((50:Int)=e0):=by show _=_;rw [← HE.out];simp
      go_wp2_with fail;go_ret;exact ⟨eM HE2.out,hB.out.trans (hb1.mono hB.out.size)⟩
     ·by_cases hp5:qt=5
      ·subst hp5;have HF:Hid (r2=false):=by show _=_;rw [← HR2.out];simp [bV]
       go_wp2_with fail;go_roundw
       case rel=>exact ⟨hb1,.inr (.inr ⟨by first | rfl | trivial,by first | rfl | trivial,by first | rfl | (rw [HF.out])⟩)⟩
       case measure=>simp [intOf]
      ·have hp6:(qt != 5)=true:=by simp [hp5]
       go_wp2_with fail;refine (rE qt qn qa ql qc hp5 r2 HR2.out _).mono ?_;rintro e w3 ⟨rfl,hb3⟩;cases r2
       all_goals
        simp only [Bool.false_eq_true,if_false,if_true];go_wp2_with fail;go_roundw
        case rel=>exact ⟨hb1.trans (hb3.mono hb1.size),.inr (.inr ⟨by first | rfl | trivial,by first | rfl | trivial,by first | rfl | trivial⟩)⟩
        case measure=>simp [intOf]
    ·have HE2:Hid ((if r2=true then (0:Int) else 50)=e0):=by show _=_;rw [← HE.out,hr];simp
     cases r2
     all_goals
      go_wp2_with fail;go_ret;exact ⟨eM HE2.out,hB.out.trans (hb1.mono hB.out.size)⟩
  ·have HE:Hid ((50:Int)=e0):=by show _=_;rw [← he,dR,hpl,if_neg (by simp),if_neg];rintro ⟨_,h1,h2,_⟩;exact h0 ⟨h1,by omega⟩
   obtain ⟨W0,hW0⟩:∃ W,w.alloc (.cells #[.int .i64 5,.int .i64 n,.slice a l c] 25)=W:=⟨_,rfl⟩;rw [hW0] at BX hB;obtain ⟨x0,x1,x2⟩:=gK BX.out;clear hs hl he hpl;have hc:(n=0∧((n == 0)=true)∧((l:Int) == 2)=false)∨((n == 0)=false):=by
    by_cases hn:n=0
    ·exact .inl ⟨hn,by simp [hn],by simp;omega⟩
    ·exact .inr (by simp [hn])
   clear h0;rcases hc with ⟨rfl,c1,c2⟩ | c1
   all_goals
    go_enter func15,ntmps15;go_wp2_with fail;go_loopw [3,4] (fun o i wr=>i = .int .i64 0∧o = .bool false∧W0=wr) (fun _ i _=>0)
    case atStart=>exact ⟨rfl,rfl,rfl⟩
    case round =>
     obtain ⟨rfl,rfl,rfl⟩:=hrel;by_cases hl0:0 < l
     ·have g1:(0:Int) < (l:Int):=by omega
      go_wp2_with fail;go_ret;exact ⟨eM HE.out,hB.out⟩
     ·obtain rfl:l=0:=by omega
      go_wp2_with fail;go_ret;exact ⟨eM HE.out,hB.out⟩
 ·obtain ⟨r,hr⟩:∃ r,bV t n l=r:=⟨_,rfl⟩;refine (rE t n a l c ht r hr w).mono ?_;rintro e w1 ⟨rfl,hb⟩;refine ⟨?_,hb⟩;rw [← he,Ie ht,hr]
theorem eK {w:World} {B:Nat} {cs:Array Value} {T:TypeId} (h:w.heap[B]?=some (.cells cs T (0,0))) (j:Nat):w.frozen? ⟨B,j,none⟩=false:=by unfold World.frozen?;simp [h]
theorem Oo {w:World} {B:Nat} {a b c d e f v0 v1 v2 v3 v4 v5:Value} {T:TypeId} (h:w.heap[B]?=some (.cells #[a,b,c,d,e,f] T (0,0))) :
  ((((((w.setCell ⟨B,0,none⟩ v0).setCell ⟨B,1,none⟩ v1).setCell ⟨B,2,none⟩ v2).setCell ⟨B,3,none⟩ v3).setCell ⟨B,4,none⟩ v4).setCell ⟨B,5,none⟩ v5).heap[B]?=some (.cells #[v0,v1,v2,v3,v4,v5] T (0,0)) :=
 heap_setCell_same _ B 5 _ _ _ (heap_setCell_same _ B 4 _ _ _ (heap_setCell_same _ B 3 _ _ _ (heap_setCell_same _ B 2 _ _ _ (heap_setCell_same _ B 1 _ _ _ (heap_setCell_same w B 0 _ _ _ h)))))
theorem As {n:Nat} {w0 w:World} {B:Nat} (v0 v1 v2 v3 v4 v5:Value) (h:Below n w0 w) (hB:n≤B) :
  Below n w0 ((((((w.setCell ⟨B,0,none⟩ v0).setCell ⟨B,1,none⟩ v1).setCell ⟨B,2,none⟩ v2).setCell ⟨B,3,none⟩ v3).setCell ⟨B,4,none⟩ v4).setCell ⟨B,5,none⟩ v5) :=
 (((((h.setCell (p:=⟨B,0,none⟩) hB _).setCell (p:=⟨B,1,none⟩) hB _).setCell (p:=⟨B,2,none⟩) hB _).setCell (p:=⟨B,3,none⟩) hB _).setCell (p:=⟨B,4,none⟩) hB _).setCell (p:=⟨B,5,none⟩) hB _
def kP (n:Nat) (w w':World):Prop:=∀ k,n≤k→w'.heap[k]?=w.heap[k]?
theorem kP.refl (n:Nat) (w:World):kP n w w:=fun _ _=>rfl
theorem kP.setCell {n:Nat} {a w:World} (h:kP n a w) {p:Addr} (hp:p.block < n) (u:Value):kP n a (w.setCell p u):=fun k hk=>(Below.heap_setCell _ _ _ _ (by omega)).trans (h k hk)
theorem kP.cell {n:Nat} {w w':World} (h:kP n w w') {p:Addr} (hp:n≤p.block):w'.cell? p=w.cell? p:=World.cell?_of_block (w:=w) (h p.block hp)
theorem uF {n:Nat} {w0 w:World} {B:Nat} (v0 v1 v2 v3 v4 v5:Value) (h:kP n w0 w) (hB:B < n) :
  kP n w0 ((((((w.setCell ⟨B,0,none⟩ v0).setCell ⟨B,1,none⟩ v1).setCell ⟨B,2,none⟩ v2).setCell ⟨B,3,none⟩ v3).setCell ⟨B,4,none⟩ v4).setCell ⟨B,5,none⟩ v5) :=
 (((((h.setCell (p:=⟨B,0,none⟩) hB _).setCell (p:=⟨B,1,none⟩) hB _).setCell (p:=⟨B,2,none⟩) hB _).setCell (p:=⟨B,3,none⟩) hB _).setCell (p:=⟨B,4,none⟩) hB _).setCell (p:=⟨B,5,none⟩) hB _
theorem fL.above {w w':World} {n:Nat} {a:Option Addr} {vs:List Value} (h:fL w a vs) (hn:∀ ad,a=some ad→n≤ad.block) (hb:kP n w w'):fL w' a vs:=by
 rcases h with h | ⟨b,off,rfl,hc⟩
 ·exact .inl h
 ·exact .inr ⟨b,off,rfl,fun i v hi=>(hb.cell (p:=⟨b,off+i,none⟩) (hn ⟨b,off,none⟩ rfl)).trans (hc i v hi)⟩
theorem fA.above {w w':World} {n:Nat} {a:Option Addr} {cs:List Cl} (h:fA w a cs) (hn:∀ ad,a=some ad→n≤ad.block) (hb:kP n w w'):fA w' a cs:=by
 rcases h with h | ⟨b,off,rfl,hc⟩
 ·exact .inl h
 ·exact .inr ⟨b,off,rfl,fun i v hi=>⟨(hb.cell (p:=⟨b,off+i * 3,none⟩) (hn ⟨b,off,none⟩ rfl)).trans (hc i v hi).1,(hb.cell (p:=⟨b,off+i * 3+1,none⟩) (hn ⟨b,off,none⟩ rfl)).trans (hc i v hi).2.1,(hb.cell (p:=⟨b,off+i * 3+2,none⟩) (hn ⟨b,off,none⟩ rfl)).trans (hc i v hi).2.2⟩⟩
theorem W6.above {w w':World} {n b o:Nat} {f:WF} (h:W6 w b o f) (hn:n≤b) (hb:kP n w w'):W6 w' b o f :=
 ⟨(hb.cell hn).trans h.1,(hb.cell hn).trans h.2.1,(hb.cell hn).trans h.2.2.1,(hb.cell hn).trans h.2.2.2.1,(hb.cell hn).trans h.2.2.2.2.1,(hb.cell hn).trans h.2.2.2.2.2⟩
structure PNew (n:Nat) (w:World) (t d:Int) (f:WF) (a:PF):Prop where
 is:PIs w t d f a
 ra:∀ ad,f.ra=some ad→n≤ad.block
 ca:∀ ad,f.ca=some ad→n≤ad.block
theorem PNew.below {n:Nat} {w w':World} {t d:Int} {f:WF} {a:PF} (h:PNew n w t d f a) (hb:Below w.heap.size w w'):PNew n w' t d f a:=⟨h.is.below hb,h.ra,h.ca⟩
theorem PNew.mono {n m:Nat} {w:World} {t d:Int} {f:WF} {a:PF} (h:PNew n w t d f a) (hm:m≤n):PNew m w t d f a:=⟨h.is,fun ad e=>Nat.le_trans hm (h.ra ad e),fun ad e=>Nat.le_trans hm (h.ca ad e)⟩
def gY (n:Nat) (w:World):PS→WF→PX→Prop
 | .one t d,f,.one a=>PNew n w t d f a
 | .two t d u m,f,.two a b=>f.pf=pC 0∧f.rl=0∧f.cl=0∧f.pl=2∧∃ blk g h,f.pa=some ⟨blk,0,none⟩∧n≤blk∧W6 w blk 0 g∧W6 w blk 6 h∧PNew n w t d g a∧PNew n w u m h b
 | _,_,_=>False
theorem gY.is {n:Nat} {w:World} {S:PS} {f:WF} {x:PX} (h:gY n w S f x):XIs w S f x:=by cases S<;>cases x<;>first | exact h.elim | exact PNew.is h | skip;obtain ⟨h1,h2,h3,h4,blk,g,k,h5,_,h6,h7,h8,h9⟩:=h;exact ⟨h1,h2,h3,h4,blk,0,g,k,h5,h6,by simpa using h7,h8.is,h9.is⟩
theorem gY.below {n:Nat} {w w':World} {S:PS} {f:WF} {x:PX} (h:gY n w S f x) (hb:Below w.heap.size w w'):gY n w' S f x:=by cases S<;>cases x<;>first | exact h.elim | exact PNew.below h hb | skip;obtain ⟨h1,h2,h3,h4,blk,g,k,h5,h0,h6,h7,h8,h9⟩:=h;exact ⟨h1,h2,h3,h4,blk,g,k,h5,h0,h6.below hb,h7.below hb,h8.below hb,h9.below hb⟩
theorem gY.mono {n m:Nat} {w:World} {S:PS} {f:WF} {x:PX} (h:gY n w S f x) (hm:m≤n):gY m w S f x:=by cases S<;>cases x<;>first | exact h.elim | exact PNew.mono h hm | skip;obtain ⟨h1,h2,h3,h4,blk,g,k,h5,h0,h6,h7,h8,h9⟩:=h;exact ⟨h1,h2,h3,h4,blk,g,k,h5,Nat.le_trans hm h0,h6,h7,h8.mono hm,h9.mono hm⟩
def jO (S:PS) (x:PX) (w:World) (e:Ending) (w':World):Prop:=∃ f:WF,e = .returned f.val∧gY w.heap.size w' S f x∧Below w.heap.size w w'
theorem oX (n:Nat) (w:World) (t d:Int):PNew n w t d tJ dL :=
 ⟨⟨⟨.inl rfl,rfl,by decide,(fun r hr=>by cases hr),.inl rfl,rfl,(fun c hc=>by cases hc),by decide⟩,rfl,.zero,rfl⟩,(fun ad e=>by cases e),(fun ad e=>by cases e)⟩
theorem Au {n:Nat} {w:World} {t d u m:Int} {blk:Nat} {g h:WF} {a b:PF} (h6:W6 w blk 0 g) (h7:W6 w blk 6 h) (hn:n≤blk) (ha:PNew n w t d g a) (hb:PNew n w u m h b):gY n w (.two t d u m) (vE blk) (.two a b) :=
 ⟨rfl,rfl,rfl,rfl,blk,g,h,rfl,hn,h6,h7,ha,hb⟩
theorem kQ {k:IntKind} {a b:Int} (h:a=b):Ending.returned (.int k a) = .returned (.int k b):=by rw [h]
def Row (w:World) (a:Option Addr) (zs:List Int):Prop :=
 zs=[]∨∃ b off,a=some ⟨b,off,none⟩∧∀ i,i < zs.length→w.cell? ⟨b,off+i,none⟩=some (.int .i64 (zs.getD i 0))
def okc (limit c:Int):Bool:=decide (-1≤c) && decide (c≤limit)
def chk (limit:Int) (zs:List Int):Int:=if limit < 0∨1048576 < limit then 20 else if zs.all (okc limit) then 0 else 21
def iE (a b:Int):Int:=if a = -1 then b else if b = -1 then a else min a b
def lB (limit a b:Int):Int:=if a = -1∨b = -1 then -1 else min (a+b) limit
theorem Lw (a b:Int) (w:World):Calls prog 121 #[.int .i64 a,.int .i64 b] w fun e w'=>e = .returned (.int .i64 (iE a b))∧w=w':=by
 by_cases ha:a = -1
 ·have h1:(a == -1)=true:=by simp [ha]
  have e1:iE a b=b:=by simp [iE,ha]
  have H:=Lib.hid e1;clear e1 ha;go_enter func121,ntmps121;go_wp2;go_ret;exact ⟨kQ H.out.symm,rfl⟩
 ·have h1:(a == -1)=false:=by simp [ha]
  by_cases hb:b = -1
  ·have h2:(b == -1)=true:=by simp [hb]
   have e1:iE a b=a:=by simp [iE,ha,hb]
   have H:=Lib.hid e1;clear e1 ha hb;go_enter func121,ntmps121;go_wp2;go_ret;exact ⟨kQ H.out.symm,rfl⟩
  ·have h2:(b == -1)=false:=by simp [hb]
   have e1:iE a b=min a b:=by simp [iE,ha,hb]
   have H:=Lib.hid e1;clear e1 ha hb;go_enter func121,ntmps121;go_wp2
   all_goals go_ret
   all_goals exact ⟨kQ (by rw [H.out]<;>omega),rfl⟩
theorem Rp (l a b:Int) (w:World) (hs : -9223372036854775808≤a+b∧a+b≤9223372036854775807):Calls prog 140 #[.int .i64 l,.int .i64 a,.int .i64 b] w fun e w'=>e = .returned (.int .i64 (lB l a b))∧w=w':=by
 by_cases ha:a = -1
 ·have h1:(a == -1)=true:=by simp [ha]
  have e1:lB l a b = -1:=by simp [lB,ha]
  have H:=Lib.hid e1;clear e1 ha;go_enter func140,ntmps140;go_wp2;go_ret;exact ⟨kQ H.out.symm,rfl⟩
 ·have h1:(a == -1)=false:=by simp [ha]
  by_cases hb:b = -1
  ·have h2:(b == -1)=true:=by simp [hb]
   have e1:lB l a b = -1:=by simp [lB,ha,hb]
   have H:=Lib.hid e1;clear e1 ha hb;go_enter func140,ntmps140;go_wp2;go_ret;exact ⟨kQ H.out.symm,rfl⟩
  ·have h2:(b == -1)=false:=by simp [hb]
   have e1:lB l a b=min (a+b) l:=by simp [lB,ha,hb]
   have H:=Lib.hid e1;clear e1 ha hb;obtain ⟨hs1,hs2⟩:=hs;go_enter func140,ntmps140;go_wp2
   all_goals go_ret
   all_goals exact ⟨kQ (by rw [H.out]<;>omega),rfl⟩
theorem wZ {p:Int→Bool} {zs:List Int} {k:Nat} {z:Int} (hk:k < zs.length) (hz:z=zs.getD k 0) (h:(zs.take k).all p=true) (hp:p z=true):(zs.take (k+1)).all p=true:=by
 rw [List.take_succ_eq_append_getElem hk,List.all_append,h]
 have:zs.getD k 0=zs[k]:=by simp [List.getD,hk]
 rw [this] at hz;simp [← hz,hp]
theorem Gb {p:Int→Bool} {zs:List Int} {k:Nat} {z:Int} (hk:k < zs.length) (hz:z=zs.getD k 0) (hp:p z=false):zs.all p=false:=by
 have:zs.getD k 0=zs[k]:=by simp [List.getD,hk]
 rw [this] at hz;rw [List.all_eq_false];exact ⟨zs[k],List.getElem_mem hk,by rw [← hz,hp];simp⟩
theorem Oq {limit:Int} {zs:List Int} {k:Nat} {z:Int} (h0:0≤limit) (h1:limit≤1048576) (hk:k < zs.length) (hz:z=zs.getD k 0) (hp:okc limit z=false):chk limit zs=21:=by unfold chk;rw [if_neg (by omega),Gb hk hz hp];rfl
theorem Vd {limit:Int} {zs:List Int} {k:Nat} (h0:0≤limit) (h1:limit≤1048576) (hk:zs.length≤k) (h:(zs.take k).all (okc limit)=true):chk limit zs=0:=by rw [List.take_of_length_le hk] at h;unfold chk;rw [if_neg (by omega),h];rfl
theorem okc_lo {l z:Int} (h:z < -1):okc l z=false:=by simp [okc];omega
theorem okc_hi {l z:Int} (h:l < z):okc l z=false:=by simp [okc];omega
theorem okc_in {l z:Int} (h : -1≤z) (h2:z≤l):okc l z=true:=by simp [okc];omega
theorem mM (limit:Int) (a:Option Addr) (cap:Nat) (zs:List Int) (w:World) (hm:zs.length≤maxLen) (hrow:Row w a zs) :
  Calls prog 120 #[.int .i64 limit,.slice a zs.length cap] w fun e w'=>e = .returned (.int .i64 (chk limit zs))∧w=w':=by
 unfold maxLen at hm;by_cases h0:limit < 0
 ·have e1:chk limit zs=20:=by simp [chk,h0]
  have H:=Lib.hid e1;clear e1;go_enter func120,ntmps120;go_wp2;go_ret;exact ⟨kQ H.out.symm,rfl⟩
 by_cases h1:1048576 < limit
 ·have e1:chk limit zs=20:=by simp [chk,h1]
  have H:=Lib.hid e1;clear e1;go_enter func120,ntmps120;go_wp2;go_ret;exact ⟨kQ H.out.symm,rfl⟩
 have h0':0≤limit:=by omega
 have h1':limit≤1048576:=by omega
 clear h0 h1;go_enter func120,ntmps120;go_wp2;go_loop [15] (fun i=>∃ k:Nat,k≤zs.length∧i = .int .i64 k∧Hid ((zs.take k).all (okc limit)=true)) (fun i=>zs.length - (intOf i).toNat)
 case atStart=>exact ⟨0,Nat.zero_le _,rfl,by simp [Hid]⟩
 case round =>
  obtain ⟨k,hk,rfl,HA⟩:=hrel;by_cases hlt:k < zs.length
  ·rcases hrow with h | ⟨b,off,rfl,hc⟩
   ·subst h;simp at hlt
   have hck:=hc k hlt;obtain ⟨z,hz⟩:∃ z,z=zs.getD k 0:=⟨_,rfl⟩;rw [← hz] at hck;have HZ:=Lib.hid hz;clear hz hc;by_cases h2:z < -1
   ·have H:=Lib.hid (Oq h0' h1' hlt HZ.out (okc_lo h2));go_wp2;go_ret;exact ⟨kQ H.out.symm,rfl⟩
   by_cases h3:limit < z
   ·have H:=Lib.hid (Oq h0' h1' hlt HZ.out (okc_hi h3));go_wp2;go_ret;exact ⟨kQ H.out.symm,rfl⟩
   have H:=Lib.hid (wZ hlt HZ.out HA.out (okc_in (by omega) (by omega)));have h2' : -1≤z:=by omega
   have h3':z≤limit:=by omega
   clear h2 h3;go_wp2;go_round
   case rel=>exact ⟨k+1,by omega,by go_num,H⟩
   case measure=>simp [intOf];omega
  ·have H:=Lib.hid (Vd h0' h1' (by omega) HA.out);go_wp2;go_ret;exact ⟨kQ H.out.symm,rfl⟩
def Gc (zs:List Int):Int:=zs.foldl iE (-1)
def Ve (limit:Int) (zs:List Int):Int:=zs.foldl (lB limit) 0
def oF (limit:Int) (zs:List Int):Int:=if chk limit zs=0 then Gc zs else 0
def Cp (limit:Int) (zs:List Int):Int:=if chk limit zs=0 then Ve limit zs else 0
theorem vF {limit:Int} {zs:List Int} (h:chk limit zs=0):0≤limit∧limit≤1048576∧zs.all (okc limit)=true:=by
 unfold chk at h;split at h
 ·omega
 ·cases hz:zs.all (okc limit)<;>rw [hz] at h<;>simp at h;exact ⟨by omega,by omega,rfl⟩
theorem Rq {zs:List Int} {k:Nat} {z:Int} (hk:k < zs.length) (hz:z=zs.getD k 0):zs.take (k+1)=zs.take k++[z]:=by
 rw [List.take_succ_eq_append_getElem hk]
 have:zs.getD k 0=zs[k]:=by simp [List.getD,hk]
 rw [hz,this]
theorem D4 {f:Int→Int→Int} {s:Int} {zs:List Int} {k:Nat} {z:Int} (hk:k < zs.length) (hz:z=zs.getD k 0):(zs.take (k+1)).foldl f s=f ((zs.take k).foldl f s) z:=by rw [Rq hk hz,List.foldl_append];rfl
theorem Ou {limit:Int} {zs:List Int} {k:Nat} {z:Int} (h:zs.all (okc limit)=true) (hk:k < zs.length) (hz:z=zs.getD k 0) : -1≤z∧z≤limit:=by
 have e:zs.getD k 0=zs[k]:=by simp [List.getD,hk]
 rw [List.all_eq_true] at h;have:=h z (by rw [hz,e];exact List.getElem_mem hk);simp [okc] at this;exact this
theorem Vf {l a b:Int} (hl:0≤l) (ha : -1≤a) (ha2:a≤l) (hb : -1≤b) (hb2:b≤l) : -1≤lB l a b∧lB l a b≤l:=by unfold lB;split<;>omega
theorem rtwo {k k2:IntKind} {a b c d:Int} (h:a=b) (h2:c=d):Ending.returned (.tuple #[.int k a,.int k2 c]) = .returned (.tuple #[.int k b,.int k2 d]):=by rw [h,h2]
theorem Rr {a b l:Int} (ha : -1≤a) (ha2:a≤1048576) (hb : -1≤b) (hb2:b≤l) (hl:l≤1048576) : -1≤iE a b∧iE a b≤1048576:=by
 unfold iE;split
 ·omega
 ·split<;>omega
theorem Rs (limit:Int) (a:Option Addr) (cap:Nat) (zs:List Int) (w:World) (hm:zs.length≤maxLen) (hrow:Row w a zs) :
  Calls prog 103 #[.int .i64 limit,.slice a zs.length cap] w fun e w'=>e = .returned (.tuple #[.int .i64 (oF limit zs),.int .i64 (chk limit zs)])∧w=w':=by
 have HM:=Lib.hid hm;unfold maxLen at hm;by_cases hc0:chk limit zs=0
 ·obtain ⟨hl0,hl1,hall⟩:=vF hc0;have e1:oF limit zs=Gc zs:=by simp [oF,hc0]
  have H1:=Lib.hid e1;have H0:=Lib.hid hc0;have HALL:=Lib.hid hall;have HROW:=Lib.hid hrow;clear e1 hc0 hall hrow;go_enter func103,ntmps103;go_wp2_with (go_at_call 120;refine (mM _ _ _ _ _ HM.out HROW.out).mono ?_;rintro e w' ⟨rfl,rfl⟩;rw [H0.out]);go_loop [7,18] (fun m i=>∃ k:Nat,k≤zs.length∧i = .int .i64 k∧∃ s:Int,m = .int .i64 s ∧ -1≤s∧s≤1048576∧Hid (s=(zs.take k).foldl iE (-1))) (fun _ i=>zs.length - (intOf i).toNat)
  case atStart=>exact ⟨0,Nat.zero_le _,rfl,_,rfl,by omega,by omega,by simp [Hid]⟩
  case round =>
   obtain ⟨k,hk,rfl,s,rfl,hs1,hs2,HS⟩:=hrel;by_cases hlt:k < zs.length
   ·rcases HROW.out with h | ⟨b,off,rfl,hc⟩
    ·subst h;simp at hlt
    have hck:=hc k hlt;obtain ⟨z,hz⟩:∃ z,z=zs.getD k 0:=⟨_,rfl⟩;rw [← hz] at hck;obtain ⟨hz1,hz2⟩:=Ou HALL.out hlt hz;have hs' : -1≤iE s z∧iE s z≤1048576:=Rr hs1 hs2 hz1 hz2 hl1;have HZ:=Lib.hid hz;clear hz hc HROW;go_wp2_with (go_at_call 121;refine (Lw _ _ _).mono ?_;rintro e w' ⟨rfl,rfl⟩);go_round
    case rel=>exact ⟨k+1,by omega,by go_num,_,rfl,hs'.1,hs'.2,by rw [HS.out];exact (D4 hlt HZ.out).symm⟩
    case measure=>simp [intOf];omega
   ·have HE:Hid (s=oF limit zs):=by rw [H1.out,HS.out,List.take_of_length_le (by omega)];rfl
    have HROW2:=HROW;clear HROW;go_wp2;go_ret2;exact ⟨rtwo HE.out H0.out.symm,rfl⟩
 ·have e1:oF limit zs=0:=by simp [oF,hc0]
  have H1:=Lib.hid e1;have HROW:=Lib.hid hrow;have hne:(chk limit zs != 0)=true:=by simpa using hc0
  obtain ⟨c,hcc⟩:∃ c,c=chk limit zs:=⟨_,rfl⟩;rw [← hcc] at hne;have HC:=Lib.hid hcc;clear e1 hc0 hrow hcc;go_enter func103,ntmps103;go_wp2_with (go_at_call 120;refine (mM _ _ _ _ _ HM.out HROW.out).mono ?_;rintro e w' ⟨rfl,rfl⟩;rw [← HC.out]);go_ret2;exact ⟨rtwo H1.out.symm HC.out,rfl⟩
theorem sum_any (limit:Int) (a:Option Addr) (cap:Nat) (zs:List Int) (w:World) (hm:zs.length≤maxLen) (hrow:Row w a zs) :
  Calls prog 136 #[.int .i64 limit,.slice a zs.length cap] w fun e w'=>e = .returned (.tuple #[.int .i64 (Cp limit zs),.int .i64 (chk limit zs)])∧w=w':=by
 have HM:=Lib.hid hm;unfold maxLen at hm;by_cases hc0:chk limit zs=0
 ·obtain ⟨hl0,hl1,hall⟩:=vF hc0;have e1:Cp limit zs=Ve limit zs:=by simp [Cp,hc0]
  have H1:=Lib.hid e1;have H0:=Lib.hid hc0;have HALL:=Lib.hid hall;have HROW:=Lib.hid hrow;clear e1 hc0 hall hrow;go_enter func136,ntmps136;go_wp2_with (go_at_call 120;refine (mM _ _ _ _ _ HM.out HROW.out).mono ?_;rintro e w' ⟨rfl,rfl⟩;rw [H0.out]);go_loop [7,18] (fun m i=>∃ k:Nat,k≤zs.length∧i = .int .i64 k∧∃ s:Int,m = .int .i64 s ∧ -1≤s∧s≤limit∧Hid (s=(zs.take k).foldl (lB limit) 0)) (fun _ i=>zs.length - (intOf i).toNat)
  case atStart=>exact ⟨0,Nat.zero_le _,rfl,_,rfl,by omega,by omega,by simp [Hid]⟩
  case round =>
   obtain ⟨k,hk,rfl,s,rfl,hs1,hs2,HS⟩:=hrel;by_cases hlt:k < zs.length
   ·rcases HROW.out with h | ⟨b,off,rfl,hc⟩
    ·subst h;simp at hlt
    have hck:=hc k hlt;obtain ⟨z,hz⟩:∃ z,z=zs.getD k 0:=⟨_,rfl⟩;rw [← hz] at hck;obtain ⟨hz1,hz2⟩:=Ou HALL.out hlt hz;have hs' : -1≤lB limit s z∧lB limit s z≤limit:=Vf hl0 hs1 hs2 hz1 hz2;have HZ:=Lib.hid hz;clear hz hc HROW;go_wp2_with (go_at_call 140;refine (Rp _ _ _ _ ⟨by omega,by omega⟩).mono ?_;rintro e w' ⟨rfl,rfl⟩);go_round
    case rel=>exact ⟨k+1,by omega,by go_num,_,rfl,hs'.1,hs'.2,by rw [HS.out];exact (D4 hlt HZ.out).symm⟩
    case measure=>simp [intOf];omega
   ·have HE:Hid (s=Cp limit zs):=by rw [H1.out,HS.out,List.take_of_length_le (by omega)];rfl
    have HROW2:=HROW;clear HROW;go_wp2;go_ret2;exact ⟨rtwo HE.out H0.out.symm,rfl⟩
 ·have e1:Cp limit zs=0:=by simp [Cp,hc0]
  have H1:=Lib.hid e1;have HROW:=Lib.hid hrow;have hne:(chk limit zs != 0)=true:=by simpa using hc0
  obtain ⟨c,hcc⟩:∃ c,c=chk limit zs:=⟨_,rfl⟩;rw [← hcc] at hne;have HC:=Lib.hid hcc;clear e1 hc0 hrow hcc;go_enter func136,ntmps136;go_wp2_with (go_at_call 120;refine (mM _ _ _ _ _ HM.out HROW.out).mono ?_;rintro e w' ⟨rfl,rfl⟩;rw [← HC.out]);go_ret2;exact ⟨rtwo H1.out.symm HC.out,rfl⟩
theorem Lx {w:World} {a:Addr} {v:Value} (h:w.cell? a=some v):a.block < w.heap.size:=by
 rcases Nat.lt_or_ge a.block w.heap.size with h' | h'
 ·exact h'
 ·simp [World.cell?,Array.getElem?_eq_none h'] at h
theorem Row.below {w w':World} {a:Option Addr} {zs:List Int} (h:Row w a zs) (hb:Below w.heap.size w w'):Row w' a zs:=by
 rcases h with h | ⟨b,off,rfl,hc⟩
 ·exact .inl h
 ·refine .inr ⟨b,off,rfl,fun i hi=>?_⟩;have h1:=hc i hi;rw [hb.cell]
  ·exact h1
  ·exact Lx h1
theorem Rt {limit a b:Int} (h:chk limit [a,b]=0):oF limit [a,b]=iE a b:=by
 have h3:iE (-1) a=a:=by simp [iE]
 simp [oF,h,Gc,h3]
theorem sum_two {limit a b:Int} (h:chk limit [a,b]=0):Cp limit [a,b]=lB limit a b:=by
 have h2:=(vF h).2.2;simp [okc] at h2;have h3:lB limit 0 a=a:=by unfold lB;split<;>omega
 simp [Cp,h,Ve,h3]
theorem Il {limit a b:Int}:chk limit [a,b]=0↔(0≤limit∧limit≤1048576∧(-1≤a∧a≤limit)∧(-1≤b∧b≤limit)):=by
 constructor
 ·intro h;have:=vF h;simp [okc] at this;omega
 ·intro h
  have:[a,b].all (okc limit)=true:=by simp [okc];omega
  simp only [chk,this];rw [if_neg (by omega)];rfl
theorem fL.agree {A W:World} {lo:Nat} {a:Option Addr} {vs:List Value} (h:fL A a vs) (hl:∀ ad,a=some ad→lo≤ad.block) (hg:dD lo A W):fL W a vs:=by
 rcases h with h | ⟨b,off,rfl,hc⟩
 ·exact .inl h
 ·exact .inr ⟨b,off,rfl,fun i v hi=>hg.cell (p:=⟨b,off+i,none⟩) (hl ⟨b,off,none⟩ rfl) (hc i v hi)⟩
theorem fA.agree {A W:World} {lo:Nat} {a:Option Addr} {cs:List Cl} (h:fA A a cs) (hl:∀ ad,a=some ad→lo≤ad.block) (hg:dD lo A W):fA W a cs:=by
 rcases h with h | ⟨b,off,rfl,hc⟩
 ·exact .inl h
 ·exact .inr ⟨b,off,rfl,fun i c hi=>⟨hg.cell (p:=⟨b,_,none⟩) (hl ⟨b,off,none⟩ rfl) (hc i c hi).1,hg.cell (p:=⟨b,_,none⟩) (hl ⟨b,off,none⟩ rfl) (hc i c hi).2.1,hg.cell (p:=⟨b,_,none⟩) (hl ⟨b,off,none⟩ rfl) (hc i c hi).2.2⟩⟩
theorem W6.agree {A W:World} {lo b o:Nat} {f:WF} (h:W6 A b o f) (hb:lo≤b) (hg:dD lo A W):W6 W b o f :=
 ⟨hg.cell hb h.1,hg.cell hb h.2.1,hg.cell hb h.2.2.1,hg.cell hb h.2.2.2.1,hg.cell hb h.2.2.2.2.1,hg.cell hb h.2.2.2.2.2⟩
theorem PNew.agree {n:Nat} {A W:World} {t d:Int} {f:WF} {a:PF} (h:PNew n A t d f a) (hg:dD n A W):PNew n W t d f a :=
 ⟨⟨⟨h.is.at_.rows.agree h.ra hg,h.is.at_.rl,h.is.at_.g64,h.is.at_.r64,h.is.at_.cells.agree h.ca hg,h.is.at_.cl,h.is.at_.bits,h.is.at_.cmax⟩,h.is.pf,h.is.ok,h.is.pl⟩,h.ra,h.ca⟩
theorem gY.agree {n:Nat} {A W:World} {S:PS} {f:WF} {x:PX} (h:gY n A S f x) (hg:dD n A W):gY n W S f x:=by cases S<;>cases x<;>first | exact h.elim | exact PNew.agree h hg | skip;obtain ⟨h1,h2,h3,h4,blk,g,k,h5,h0,h6,h7,h8,h9⟩:=h;exact ⟨h1,h2,h3,h4,blk,g,k,h5,h0,h6.agree h0 hg,h7.agree h0 hg,h8.agree hg,h9.agree hg⟩
theorem W6.cells {w:World} {b o:Nat} {f:WF} (h:W6 w b o f):aC w b o f.six:=⟨h.1,h.2.1,h.2.2.1,h.2.2.2.1,h.2.2.2.2.1,h.2.2.2.2.2,trivial⟩
theorem W6.of_cells {w:World} {b o:Nat} {f:WF} (h:aC w b o f.six):W6 w b o f:=⟨h.1,h.2.1,h.2.2.1,h.2.2.2.1,h.2.2.2.2.1,h.2.2.2.2.2.1⟩
abbrev SF.three (f:SF):List Value:=[.int .i64 f.tag,.int .i64 f.dim,.slice f.a f.len f.cap]
theorem S3.cells {w:World} {b o:Nat} {f:SF} (h:S3 w b o f):aC w b o f.three:=⟨h.1,h.2.1,h.2.2,trivial⟩
abbrev Av (c:Int):WF:=⟨false,c,0,none,0,0,[],none,0,0,[],none,0,0⟩
abbrev Gd (g:Nat) (a:Option Addr) (cap:Nat) (rows:List Nat):WF:=⟨false,0,g,a,rows.length,cap,rows,none,0,0,[],none,0,0⟩
abbrev xA (a:Option Addr) (cap:Nat) (cs:List Cl):WF:=⟨false,0,0,none,0,0,[],a,cs.length,cap,cs,none,0,0⟩
theorem oY {n:Nat} {W:World} {t d c:Int} (h:OkP t d (pC c)):PNew n W t d (Av c) (pC c) :=
 ⟨⟨⟨.inl rfl,rfl,(by show (0:Nat) < _;decide),(fun r hr=>by cases hr),.inl rfl,rfl,(fun c hc=>by cases hc),(by show (0:Nat)≤_;decide)⟩,rfl,h,rfl⟩,(fun ad e=>by cases e),(fun ad e=>by cases e)⟩
theorem xB {n:Nat} {W:World} {t d:Int} {g:Nat} {a:Option Addr} {cap:Nat} {rows:List Nat} (h:OkP t d (pF g rows)) (hg:g < 18446744073709551616) (hr:∀ r∈rows,r < 18446744073709551616) (hv:fL W a (u64s rows)) (hl:∀ ad,a=some ad→n≤ad.block):PNew n W t d (Gd g a cap rows) (pF g rows) :=
 ⟨⟨⟨hv,rfl,hg,hr,.inl rfl,rfl,(fun c hc=>by cases hc),by simp [maxLen]⟩,rfl,h,rfl⟩,hl,(fun ad e=>by cases e)⟩
theorem sL {n:Nat} {W:World} {t d:Int} {a:Option Addr} {cap:Nat} {cs:List Cl} (h:OkP t d (pX cs)) (hb:Bits cs) (hm:cs.length≤maxLen) (hv:fA W a cs) (hl:∀ ad,a=some ad→n≤ad.block):PNew n W t d (xA a cap cs) (pX cs) :=
 ⟨⟨⟨.inl rfl,rfl,(by show (0:Nat) < _;decide),(fun r hr=>by cases hr),hv,rfl,hb,hm⟩,rfl,h,rfl⟩,(fun ad e=>by cases e),hl⟩
theorem PIs.z {w:World} {t n:Int} {f:WF} {x:PF} (h:PIs w t n f x):x.z=f.z:=by rw [← h.pf];rfl
theorem PIs.zero {w:World} {t n:Int} {f:WF} {x:PF} (h:PIs w t n f x) (hz:f.z=true):x=dL:=by have h1:=h.z;have h2:=h.ok;rw [hz] at h1;cases h2<;>first | rfl | cases h1
theorem mH {f:WF} {x:PF} (h:f.pf=x):f.z=x.z∧f.c=x.c∧f.g=x.g∧f.rows=x.rows∧f.cells=x.cells:=by subst h;exact ⟨rfl,rfl,rfl,rfl,rfl⟩
theorem PIs.k1 {w:World} {n:Int} {f:WF} {x:PF} (h:PIs w 1 n f x) (hz:f.z=false):x=pC 0:=by
 rcases iT h.ok with rfl | rfl
 ·rw [(mH h.pf).1] at hz;cases hz
 ·rfl
theorem PIs.k2 {w:World} {n:Int} {f:WF} {x:PF} (h:PIs w 2 n f x) (hz:f.z=false):x=pC f.c∧0≤f.c∧f.c≤n:=by
 rcases iN h.ok with rfl | ⟨c,rfl,h0,h1⟩
 ·rw [(mH h.pf).1] at hz;cases hz
 ·have:f.c=c:=(mH h.pf).2.1
  subst this;exact ⟨rfl,h0,h1⟩
theorem PIs.k3 {w:World} {m:Nat} {f:WF} {x:PF} (h:PIs w 3 m f x) (hz:f.z=false):x=pF f.g f.rows∧Good m f.g f.rows:=by
 rcases iU h.ok with rfl | ⟨g,rows,rfl,h0⟩
 ·rw [(mH h.pf).1] at hz;cases hz
 ·have h1:f.g=g:=(mH h.pf).2.2.1;have h2:f.rows=rows:=(mH h.pf).2.2.2.1;subst h1;subst h2;exact ⟨rfl,h0⟩
theorem PIs.k4 {w:World} {m:Nat} {f:WF} {x:PF} (h:PIs w 4 m f x) (hz:f.z=false):x=pX f.cells∧Val m f.cells:=by
 rcases iV h.ok with rfl | ⟨cs,rfl,h0⟩
 ·rw [(mH h.pf).1] at hz;cases hz
 ·have h1:f.cells=cs:=(mH h.pf).2.2.2.2;subst h1;exact ⟨rfl,h0⟩
theorem Ov {W:World} {B:Nat} {T:TypeId} {a b:Int} (h:W.heap[B]?=some (.cells (List.toArray [.int .i64 a,.int .i64 b]) T (0,0))):Row W (some ⟨B,0,none⟩) [a,b]:=by
 refine .inr ⟨B,0,rfl,fun i hi=>?_⟩
 match i,hi with
 | 0,_=>exact aK h rfl
 | 1,_=>exact aK h rfl
theorem then_is (d:Int) (a b:Option Addr) (capa capb:Nat) (xs ys:List Cl) (w:World) (ht:Tabs w) (hma:xs.length≤maxLen) (hmb:ys.length≤maxLen) (hra:fA w a xs) (hrb:fA w b ys) (hba:Bits xs) (hbb:Bits ys) (c:Int) (hc:nS d xs ys=c) (la lb:Nat) (hla:xs.length=la) (hlb:ys.length=lb) :
  Calls prog 138 #[.int .i64 d,.slice a la capa,.slice b lb capb] w (kH (thenR d xs ys) c w):=by
 subst hla;subst hlb;exact T7 d a b capa capb xs ys w ht hma hmb hra hrb hba hbb c hc
theorem oZ {t n:Int} {l:Nat} (h:bV t n l=true):t≠5:=yZ h
section
variable {w W:World} {k:Nat} {n:Int} {f g:WF} {x y:PF}
theorem fP {t:Int} {f:WF} {x:PF} (h:PNew w.heap.size W t n f x) (hb:Below w.heap.size w W):jO (.one t n) (.one x) w (.returned f.val) W:=⟨f,rfl,h,hb⟩
theorem ext_zL {t:Int} (hx:PIs w t n f x) (hz:f.z=true) (hb:Below w.heap.size w W):jO (.one t n) (.one (gS t n x y)) w (.returned tJ.val) W:=by rw [hx.zero hz,oC];exact fP (oX _ _ _ _) hb
theorem ext_zR {t:Int} (hy:PIs w t n g y) (hz:g.z=true) (hb:Below w.heap.size w W):jO (.one t n) (.one (gS t n x y)) w (.returned tJ.val) W:=by rw [hy.zero hz,oD];exact fP (oX _ _ _ _) hb
theorem ext_f1 (hx:PIs w 1 n f x) (hy:PIs w 1 n g y) (hf:f.z=false) (hg:g.z=false):PNew k W 1 n (Av 0) (gS 1 n x y):=by rw [hx.k1 hf,hy.k1 hg,Dw];exact oY (.bool rfl)
theorem ext_f2 (hp:bV 2 n 0=true) (hx:PIs w 2 n f x) (hy:PIs w 2 n g y) (hf:f.z=false) (hg:g.z=false):PNew k W 2 n (Av (Cp n [f.c,g.c])) (gS 2 n x y):=by
 obtain ⟨rfl,h0,h1⟩:=hx.k2 hf;obtain ⟨rfl,h2,h3⟩:=hy.k2 hg;obtain ⟨d0,d1,_⟩:=pP hp;have hs:Cp n [f.c,g.c]=min (f.c+g.c) n:=by rw [sum_two (Il.2 ⟨d0,d1,⟨by omega,by omega⟩,by omega,by omega⟩)];unfold lB;rw [if_neg (by omega)]
 rw [Dx,hs];exact oY (.cost _ rfl (by omega) (by omega))
theorem ext_f3 {m:Nat} {a:Option Addr} {cap:Nat} (hx:PIs w 3 m f x) (hy:PIs w 3 m g y) (hf:f.z=false) (hg:g.z=false) (hv:fL W a (u64s (mW m f.g f.rows g.g g.rows))) (hl:∀ ad,a=some ad→k≤ad.block):PNew k W 3 m (Gd (nP m f.g f.rows g.g g.rows) a cap (mW m f.g f.rows g.g g.rows)) (gS 3 m x y):=by obtain ⟨hx',h0⟩:=hx.k3 hf;obtain ⟨hy',h1⟩:=hy.k3 hg;rw [hx',hy',Dy];exact xB (.facts m _ _ rfl rfl (h0.extT h1)) (h0.extT h1).g64 (h0.extT h1).r64 hv hl
theorem ext_f4 {m:Nat} {a:Option Addr} {cap:Nat} (hx:PIs w 4 m f x) (hy:PIs w 4 m g y) (hf:f.z=false) (hg:g.z=false) (hv:fA W a (thenR m f.cells g.cells)) (hl:∀ ad,a=some ad→k≤ad.block):PNew k W 4 m (xA a cap (thenR m f.cells g.cells)) (gS 4 m x y):=by
 obtain ⟨hx',h0⟩:=hx.k4 hf;obtain ⟨hy',h1⟩:=hy.k4 hg;have e:thenR m f.cells g.cells=gE f.cells g.cells:=by unfold thenR;rw [if_pos (h0.chk2 h1)]
 have hv2:=Hy h0 h1;rw [e] at hv ⊢;rw [hx',hy',Dz];exact sL (.cells m _ rfl rfl hv2) hv2.bits (by have:=hv2.le;have:=hv2.len;unfold maxLen;omega) hv hl
theorem Ow (hx:PIs w 1 n f x) (hy:PIs w 1 n g y) (hf:f.z=false) (hg:g.z=false):PNew k W 1 n (Av 0) (dM 1 n x y):=by rw [hx.k1 hf,hy.k1 hg,rF];exact oY (.bool rfl)
theorem comb_f2 (hp:bV 2 n 0=true) (hx:PIs w 2 n f x) (hy:PIs w 2 n g y) (hf:f.z=false) (hg:g.z=false):PNew k W 2 n (Av (oF n [f.c,g.c])) (dM 2 n x y):=by
 obtain ⟨rfl,h0,h1⟩:=hx.k2 hf;obtain ⟨rfl,h2,h3⟩:=hy.k2 hg;obtain ⟨d0,d1,_⟩:=pP hp;have hs:oF n [f.c,g.c]=min f.c g.c:=by rw [Rt (Il.2 ⟨d0,d1,⟨by omega,by omega⟩,by omega,by omega⟩)];unfold iE;rw [if_neg (by omega),if_neg (by omega)]
 rw [mG,hs];exact oY (.cost _ rfl (by omega) (by omega))
theorem Ox {m:Nat} {a:Option Addr} {cap:Nat} (hx:PIs w 3 m f x) (hy:PIs w 3 m g y) (hf:f.z=false) (hg:g.z=false) (hv:fL W a (u64s (fW m f.g f.rows g.g g.rows))) (hl:∀ ad,a=some ad→k≤ad.block):PNew k W 3 m (Gd (gD m f.g f.rows g.g g.rows) a cap (fW m f.g f.rows g.g g.rows)) (dM 3 m x y):=by obtain ⟨hx',h0⟩:=hx.k3 hf;obtain ⟨hy',h1⟩:=hy.k3 hg;rw [hx',hy',pR];exact xB (.facts m _ _ rfl rfl (h0.combT h1)) (h0.combT h1).g64 (h0.combT h1).r64 hv hl
theorem comb_f4 {m:Nat} {a:Option Addr} {cap:Nat} (hx:PIs w 4 m f x) (hy:PIs w 4 m g y) (hf:f.z=false) (hg:g.z=false) (hv:fA W a (tG m f.cells g.cells)) (hl:∀ ad,a=some ad→k≤ad.block):PNew k W 4 m (xA a cap (tG m f.cells g.cells)) (dM 4 m x y):=by
 obtain ⟨hx',h0⟩:=hx.k4 hf;obtain ⟨hy',h1⟩:=hy.k4 hg;have e:tG m f.cells g.cells=dA f.cells g.cells:=by unfold tG;rw [if_pos (h0.chk2 h1)]
 have hv2:=qX h0 h1;rw [e] at hv ⊢;rw [hx',hy',oE];exact sL (.cells m _ rfl rfl hv2) hv2.bits (by have:=hv2.le;have:=hv2.len;unfold maxLen;omega) hv hl
theorem one_f1 {t:Int} (hp:bV t n 0=true) (h3:t≠3) (h4:t≠4):PNew k W t n (Av 0) (kY t n):=by
 have h:=yX hp;have e:kY t n=pC 0:=by unfold kY;rw [if_neg h3,if_neg h4]
 rw [e] at h ⊢;exact oY h
theorem one_f3 {m:Nat} {a:Option Addr} {cap:Nat} (hm:m≤64) (hv:fL W a (u64s (gV m))) (hl:∀ ad,a=some ad→k≤ad.block):PNew k W 3 m (Gd 0 a cap (gV m)) (kY 3 m):=by rw [Ol];exact xB (.facts m _ _ rfl rfl (lI hm)) (by decide) (lI hm).r64 hv hl
theorem one_f4 {m:Nat} {a:Option Addr} {cap:Nat} (hm:m≤64) (hv:fA W a (iL m)) (hl:∀ ad,a=some ad→k≤ad.block):PNew k W 4 m (xA a cap (iL m)) (kY 4 m):=by have h:=Hz hm;rw [Om];exact sL (.cells m _ rfl rfl h) h.bits (by have:=h.len;unfold maxLen;omega) hv hl
theorem Im {t:Int} {l:Nat} (h:bV t n l=true) (ht:t=3∨t=4):∃ m:Nat,n=m∧m≤64:=by obtain ⟨d0,_,_,d3⟩:=pP h;exact ⟨n.toNat,by omega,by have:=d3 ht;omega⟩
theorem Tabs.c {w:World} (h:Tabs w):TabC w:=⟨h.ctz⟩
end
def SIs (w:World):PS→SF→Prop
 | .one t n,f=>∃ a c,f=⟨t,n,a,0,c⟩
 | .two t n u m,f=>∃ b off c a1 c1 a2 c2,f=⟨5,0,some ⟨b,off,none⟩,2,c⟩∧S3 w b off ⟨t,n,a1,0,c1⟩∧S3 w b (off+3) ⟨u,m,a2,0,c2⟩
theorem SIs.below {w w':World} {S:PS} {f:SF} (h:SIs w S f) (hb:Below w.heap.size w w'):SIs w' S f:=by
 cases S with
 | one t n=>exact h
 | two t n u m =>
  obtain ⟨b,off,c,a1,c1,a2,c2,h1,h2,h3⟩:=h;exact ⟨b,off,c,a1,c1,a2,c2,h1,h2.below hb,h3.below hb⟩
def dP (lo:Nat) (S:PS) (x:PX):Asr:=fun v w=>∃ f:WF,v=f.val∧gY lo w S f x
theorem dU {lo:Nat} {S:PS} {x:PX}:gQ (dP lo S x):=fun v w w' ⟨f,h1,h2⟩ hb=>⟨f,h1,h2.below hb⟩
theorem gT {P:Program} {f:FuncId} {vs:Array Value} {w:World} {S:PS} {x:PX} {lo:Nat} (hlo:lo≤w.heap.size) (h:Calls P f vs w (jO S x w)):Calls P f vs w (zY (dP lo S x) w):=h.mono fun e w' ⟨f,he,hn,hb⟩=>⟨f.val,he,⟨f,rfl,hn.mono hlo⟩,hb⟩
theorem nD {p q:Asr} {vs:List Value} {w:World} (h:lV [p,q] vs w):∃ a b,vs=[a,b]∧p a w∧q b w:=by
 match vs,h with
 | [a,b],h=>exact ⟨a,b,rfl,h.1,h.2.1⟩
theorem holds1 {p:Asr} {vs:List Value} {w:World} (h:lV [p] vs w):∃ a,vs=[a]∧p a w:=by
 match vs,h with
 | [a],h=>exact ⟨a,rfl,h.1⟩
theorem uG {w:World} {lo:Nat} {t n u m:Int} {a b:PF} {vs:List Value} (hlo:lo≤w.heap.size) (h:lV [dP lo (.one t n) (.one a),dP lo (.one u m) (.one b)] vs w):Calls prog 101 vs.toArray w (zY (dP lo (.two t n u m) (.two a b)) w):=by obtain ⟨v1,v2,rfl,⟨f,rfl,hf⟩,g,rfl,hg⟩:=nD h;refine (On f g w).mono ?_;rintro e w' ⟨blk,rfl,h6,h7,hb1,hb⟩;exact ⟨_,rfl,⟨vE blk,rfl,Au h6 h7 (Nat.le_trans hlo hb1) (PNew.below hf hb) (PNew.below hg hb)⟩,hb⟩
theorem Oy:bJ prog 93=true:=by kernel_rfl
theorem goes_94:bJ prog 94=true:=by kernel_rfl
theorem goes_95:bJ prog 95=true:=by kernel_rfl
theorem Ax (p q:SV) (g:WF) (qs:List WV) {w:World} {e:Nat} (hw:WIn w (e+1) (.mk g qs)):g.z=true∨(g.z=false∧g.pl≠2)∨(∃ x y,g.z=false∧qs=[x,y]∧fO p.f.tag p.f.dim x.f=false)∨(∃ x y,g.z=false∧qs=[x,y]∧fO p.f.tag p.f.dim x.f=true):=by
 cases hz:g.z with
 | true=>exact .inl rfl
 | false =>
  refine .inr ?_;by_cases h2:g.pl=2
  ·refine .inr ?_;obtain ⟨x,y,rfl⟩:=tZ (hw.2.1.trans h2);cases h:fO p.f.tag p.f.dim x.f with
   | false=>exact .inl ⟨x,y,rfl,rfl,h⟩
   | true=>exact .inr ⟨x,y,rfl,rfl,h⟩
  ·exact .inl ⟨rfl,h2⟩
theorem nE (t n:Int) (a:Option Addr) (l c0:Nat) (f:WF) (hp:bV t n l=true) (hs:0≤f.rl) (w:World) (hf:f.At w) (r:Bool) (hr:fO t n f=r) :
  Calls prog 64 #[.agg #[.int .i64 t,.int .i64 n,.slice a l c0],f.val] w (fun e w'=>e = .returned (.bool (r))∧Below w.heap.size w w'):=by
 refine cG (args:=[.agg #[.int .i64 t,.int .i64 n,.slice a l c0],f.val]) func64 rfl ntmps64 rfl ?_;have hS:=St.start w;have htg:=(gC hp).2;have h5:t≠5:=by omega
 refine aO (aQ (bY (cs:=[_,_,_]) hS rfl rfl rfl fun B1 W1 hS=>bY (cs:=[_,_,_,_,_,_]) hS rfl rfl rfl fun B2 W2 hS=>aB rfl rfl (aP (XF.thenN (aO (aO (aQ (aT (vs:=[_,_,_]) isAgg25 sizeOf25 rfl (aC.own (j:=0) (m:=3) (hS.at_ 1 rfl) rfl) rfl (aT (vs:=[_,_,_,_,_,_]) isAgg46 sizeOf46 rfl (aC.own (j:=0) (m:=6) (hS.at_ 0 rfl) rfl) rfl (cH (vs:=[_,_]) hS Oy rfl (Og t n a l c0 f _ rfl _) rfl fun W3 hS=>fB rfl rfl (aP (XF.thenN (bB rfl (fun hc=>?_) (fun hc=>?_))))))))))))))
 ·have hc8:=hc;clear hc;refine aO (aQ (aB rfl rfl (aP (XF.thenN (bL (XF.thenR (XF.res (cI results64 rfl) ?_)))))));exact ⟨bG (by rw [← hr];unfold fO;rw [show iS t f=false by simpa using hc8];rfl),hS.below⟩
 ·have hc8:=hc;clear hc;have hbb:iS t f=true:=by simpa using hc8
  refine bP (XF.thenN (aO (aO (aQ (aN (o':=0) eS rfl rfl rfl (aR isAgg22 rfl (aK (hS.at_ 1 rfl) rfl) rfl (cR rfl rfl rfl (aP (XF.thenN (bB rfl (fun hc=>absurd (of_decide_eq_true hc) (by exact h5)) (fun hc=>?_)))))))))));have hc:=of_decide_eq_false hc;refine bP (XF.thenN (aO (aO (aQ (aN (o':=0) eF rfl rfl rfl (aR isAgg4 rfl (aK (hS.at_ 0 rfl) rfl) rfl (aP (XF.thenN (bB rfl (fun hc=>?_) (fun hc=>?_))))))))))
  ·have hc44:=hc;clear hc;refine aO (aQ (aB rfl rfl (aP (XF.thenN (bL (XF.thenR (XF.res (cI results64 rfl) ?_)))))));exact ⟨bG (by rw [← hr];unfold fO;rw [hbb,show f.z=true from hc44];rfl),hS.below⟩
  ·have hc44:=hc;clear hc;have hz:f.z=false:=hc44;refine bP (XF.thenN (aO (aO (aQ (aN (o':=0) eS rfl rfl rfl (aR isAgg22 rfl (aK (hS.at_ 1 rfl) rfl) rfl (aP (XF.thenN (bX (aO (aQ (cR rfl rfl rfl (aB rfl rfl (aP (XF.thenN (bB rfl (fun hc=>?_) (fun hc=>?_)))))))))))))))))
   ·have hc47:=of_decide_eq_true hc;clear hc;refine aO (aQ (aN (o':=1) fQ rfl rfl rfl (aR isAgg3 rfl (aK (hS.at_ 0 rfl) rfl) rfl (tV rfl rfl rfl (aH rfl rfl (cB (d:=52) rfl (fun hc=>?_) (fun hc=>?_)))))))
    ·have hg52:=of_decide_eq_true hc;clear hc;refine aI (d:=52) rfl rfl (aN (o':=1) fQ rfl rfl rfl (aI (d:=52) rfl rfl (aR isAgg3 rfl (aK (hS.at_ 0 rfl) rfl) rfl (aI (d:=52) rfl rfl (aN (o':=1) eU rfl rfl rfl (aI (d:=52) rfl rfl (aR isAgg3 rfl (aK (hS.at_ 1 rfl) rfl) rfl (aI (d:=52) rfl rfl (wU rfl rfl rfl (bC rfl rfl rfl (aB rfl rfl (aP (XF.thenN (bL (XF.blkR (XF.thenR (XF.res (cI results64 rfl) ?_)))))))))))))))));exact ⟨bG (by rw [← hr];unfold fO;rw [hbb,hz,if_pos hc47];simp [show (0:Int)≤f.c from hg52]),hS.below⟩
    ·have hg52:=of_decide_eq_false hc;clear hc;refine aD (d:=52) rfl rfl rfl rfl (aD (d:=52) rfl rfl rfl rfl (aD (d:=52) rfl rfl rfl rfl (aD (d:=52) rfl rfl rfl rfl (aD (d:=52) rfl rfl rfl rfl (bR rfl rfl rfl (aB rfl rfl (aP (XF.thenN (bL (XF.blkR (XF.thenR (XF.res (cI results64 rfl) ?_))))))))))));exact ⟨bG (by rw [← hr];unfold fO;rw [hbb,hz,if_pos hc47];simp [show ¬ (0:Int)≤f.c from hg52]),hS.below⟩
   ·have hc47:=of_decide_eq_false hc;clear hc;refine aO (aQ (cR rfl rfl rfl (aB rfl rfl (aP (XF.thenN (bB rfl (fun hc=>?_) (fun hc=>?_)))))))
    ·have hc59:=of_decide_eq_true hc;clear hc;refine aO (aQ (aN (o':=1) eU rfl rfl rfl (aR isAgg3 rfl (aK (hS.at_ 1 rfl) rfl) rfl (aN (o':=2) fR rfl rfl rfl (aT (vs:=[_,_]) isAgg42 sizeOf42 rfl (aC.own (j:=2) (m:=2) (hS.at_ 0 rfl) rfl) rfl (cH (vs:=[_,_]) hS goes_94 rfl (Ls n f.ra f.rc f.g f.rows _ (hf.below hS.below) _ rfl f.rl hf.rl) rfl fun W4 hS=>cR rfl rfl rfl (aB rfl rfl (aP (XF.thenN (bL (XF.blkR (XF.thenR (XF.res (cI results64 rfl) ?_)))))))))))));exact ⟨bG (by rw [← hr];unfold fO;rw [hbb,hz,if_neg hc47,if_pos hc59];rfl),hS.below⟩
    ·have hc59:=of_decide_eq_false hc;clear hc;refine aO (aQ (cR rfl rfl rfl (aB rfl rfl (aP (XF.thenN (bB rfl (fun hc=>?_) (fun hc=>?_)))))))
     ·have hc67:=of_decide_eq_true hc;clear hc;refine aO (aQ (aN (o':=1) eU rfl rfl rfl (aR isAgg3 rfl (aK (hS.at_ 1 rfl) rfl) rfl (aN (o':=4) eG rfl rfl rfl (aR isAgg43 rfl (aK (hS.at_ 0 rfl) rfl) rfl ?_)))));refine cH (vs:=[_,_]) hS goes_95 rfl (uW n f.ca f.cl f.cc f.cells _ _ hf.cl (by rw [hf.cl];exact hf.cmax) (hf.cells.below hS.below) hf.bits rfl) rfl fun W5 hS=>?_
      refine cR rfl rfl rfl (aB rfl rfl (aP (XF.thenN (bL (XF.blkR (XF.thenR (XF.res (cI results64 rfl) ?_)))))));exact ⟨bG (by rw [← hr];unfold fO;rw [hbb,hz,if_neg hc47,if_neg hc59,if_pos hc67];rfl),hS.below⟩
     ·have hc67:=of_decide_eq_false hc;clear hc;refine bP (XF.blkN (XF.thenN (aO (aQ (aB rfl rfl (aP (XF.thenN (bL (XF.res (cI results64 rfl) ?_)))))))));exact ⟨bG (by rw [← hr];unfold fO;rw [hbb,hz,if_neg hc47,if_neg hc59,if_neg hc67];rfl),hS.below⟩
theorem D5 (d:Nat) (sa:Option Addr) (sc:Nat) (p q:SV) (g:WF) (qs:List WV) (w:World) (hsp:SIn w (d+1) (.mk ⟨5,0,sa,2,sc⟩ [p,q])) (hp:p.pl=true) (hq:q.pl=true) (e:Nat) (hw:WIn w (e+1) (.mk g qs)) (hs:∀ x∈qs,0≤x.f.rl) (r:Bool) (hr:iD p q g qs=r) :
  Calls prog 64 #[.agg #[.int .i64 5,.int .i64 0,.slice sa 2 sc],g.val] w (fun e w'=>e = .returned (.bool (r))∧Below w.heap.size w w'):=by
 refine cG (args:=[.agg #[.int .i64 5,.int .i64 0,.slice sa 2 sc],g.val]) func64 rfl ntmps64 rfl ?_;have hS:=St.start w;obtain ⟨_,b,off,ha,hb0,hp3,hq3,_,_⟩:=hsp.two;obtain rfl:sa=some ⟨b,off,none⟩:=ha;refine aO (aQ (bY (cs:=[_,_,_]) hS rfl rfl rfl fun B1 W1 hS=>bY (cs:=[_,_,_,_,_,_]) hS rfl rfl rfl fun B2 W2 hS=>aB rfl rfl (aP (XF.thenN (aO (aO (aQ (aT (vs:=[_,_,_]) isAgg25 sizeOf25 rfl (aC.own (j:=0) (m:=3) (hS.at_ 1 rfl) rfl) rfl (aT (vs:=[_,_,_,_,_,_]) isAgg46 sizeOf46 rfl (aC.own (j:=0) (m:=6) (hS.at_ 0 rfl) rfl) rfl (cH (vs:=[_,_]) hS Oy rfl (Og 5 0 _ 2 sc g _ rfl _) rfl fun W3 hS=>fB rfl rfl (aP (XF.thenN (bB rfl (fun hc=>?_) (fun hc=>?_))))))))))))))
 ·have hc8:=hc;clear hc;refine aO (aQ (aB rfl rfl (aP (XF.thenN (bL (XF.thenR (XF.res (cI results64 rfl) ?_)))))));exact ⟨bG (by rw [← hr];unfold iD;rw [show iS 5 g=false by simpa using hc8];rfl),hS.below⟩
 ·have hc8:=hc;clear hc;have hbb:iS 5 g=true:=by simpa using hc8
  refine bP (XF.thenN (aO (aO (aQ (aN (o':=0) eS rfl rfl rfl (aR isAgg22 rfl (aK (hS.at_ 1 rfl) rfl) rfl (cR rfl rfl rfl (aP (XF.thenN (bB rfl (fun hc=>?_) (fun hc=>absurd (of_decide_eq_false hc) (by decide))))))))))));have hc:=of_decide_eq_true hc;refine aO ?_;rcases Ax p q g qs hw with h1 | h1 | h1 | h1
  ·skip;refine iX (m:=32) cC hS (by kernel_rfl) (by kernel_rfl) rfl (cE 1 rfl 3 rfl rfl (fun w hw=>aV (o':=0) eF rfl rfl) rfl (aZ 2 rfl 12 0 rfl rfl rfl (fun w hw=>bA isAgg4 rfl ((aL hw 0).cell (Nat.zero_le _) (aK (hS.at_ 0 rfl) rfl))) rfl ?_));refine aJ 3 rfl (isV (.bool false)) (aE _) (lG (li:=[(13,_)]) rfl (aS rfl) ⟨aM 1 (aA rfl rfl rfl),trivial⟩ (fun w hw=>jN rfl) (by rw [h1];rfl) (aF rfl)) ?_;refine aZ 4 rfl 14 2 rfl rfl rfl (fun w hw=>aW rfl) rfl (aJ 5 rfl (isV undef) (aE _) (bI rfl (bK 15 rfl (aA rfl rfl rfl) rfl) (aF rfl)) (aJ 6 rfl (isV undef) (aE _) (bI rfl (bK 15 rfl (aA rfl rfl rfl) rfl) (aF rfl)) (aJ 7 rfl (isV undef) (aE _) (bI rfl (bK 15 rfl (aA rfl rfl rfl) rfl) (aF rfl)) (aJ 8 rfl (isV undef) (aE _) (bI rfl (bK 15 rfl (aA rfl rfl rfl) rfl) (aF rfl)) (aZ 9 rfl 15 3 rfl rfl rfl (fun w hw=>eD rfl rfl) rfl (aZ 10 rfl 20 8 rfl rfl rfl (fun w hw=>aW rfl) rfl (aJ 11 rfl (isV undef) (aE _) (bI rfl (bK 21 rfl (aA rfl rfl rfl) rfl) (aF rfl)) (aJ 12 rfl (isV undef) (aE _) (bI rfl (bK 21 rfl (aA rfl rfl rfl) rfl) (aF rfl)) (aJ 13 rfl (isV undef) (aE _) (bI rfl (bK 21 rfl (aA rfl rfl rfl) rfl) (aF rfl)) (aJ 14 rfl (isV undef) (aE _) (bI rfl (bK 21 rfl (aA rfl rfl rfl) rfl) (aF rfl)) (aJ 15 rfl (isV undef) (aE _) (bI rfl (bK 21 rfl (aA rfl rfl rfl) rfl) (aF rfl)) (aJ 16 rfl (isV undef) (aE _) (bI rfl (bK 21 rfl (aA rfl rfl rfl) rfl) (aF rfl)) (aJ 17 rfl (isV undef) (aE _) (bI rfl (bK 21 rfl (aA rfl rfl rfl) rfl) (aF rfl)) (aJ 18 rfl (isV undef) (aE _) (bI rfl (bK 21 rfl (aA rfl rfl rfl) rfl) (aF rfl)) (aJ 19 rfl (isV undef) (aE _) (bI rfl (bK 21 rfl (aA rfl rfl rfl) rfl) (aF rfl)) (aZ 20 rfl 21 9 rfl rfl rfl (fun w hw=>eD rfl rfl) rfl (aZ 21 rfl 31 19 rfl rfl rfl (fun w hw=>aW rfl) rfl (aJ 22 rfl (isV undef) (aE _) (bI rfl (bK 32 rfl (aA rfl rfl rfl) rfl) (aF rfl)) (aJ 23 rfl (isV undef) (aE _) (bI rfl (bK 32 rfl (aA rfl rfl rfl) rfl) (aF rfl)) (aJ 24 rfl (isV undef) (aE _) (bI rfl (bK 32 rfl (aA rfl rfl rfl) rfl) (aF rfl)) (aJ 25 rfl (isV undef) (aE _) (bI rfl (bK 32 rfl (aA rfl rfl rfl) rfl) (aF rfl)) (aJ 26 rfl (isV undef) (aE _) (bI rfl (bK 32 rfl (aA rfl rfl rfl) rfl) (aF rfl)) (aJ 27 rfl (isV undef) (aE _) (bI rfl (bK 32 rfl (aA rfl rfl rfl) rfl) (aF rfl)) (aJ 28 rfl (isV undef) (aE _) (bI rfl (bK 32 rfl (aA rfl rfl rfl) rfl) (aF rfl)) (aJ 29 rfl (isV undef) (aE _) (bI rfl (bK 32 rfl (aA rfl rfl rfl) rfl) (aF rfl)) (aJ 30 rfl (isV undef) (aE _) (bI rfl (bK 32 rfl (aA rfl rfl rfl) rfl) (aF rfl)) (aZ 31 rfl 32 20 rfl rfl rfl (fun w hw=>eD rfl rfl) rfl (aZ 32 rfl 42 30 rfl rfl rfl (fun w hw=>fU rfl) rfl (dI ?_)))))))))))))))))))))))))))));intro W4 hbR;clear hS;intro hS;refine aG (aG (aG (aG (aG (aG (aG (aG (aG (aG (aG (aG (aG (aG (aG (aG (aG (aG (aG (aG (aG (aG (aG (aG (aG (aG (aG (aG (aG (aG (aG (aG (cM ?_))))))))))))))))))))))))))))))));refine XF.thenN (bL (XF.thenR (XF.res (cI results64 rfl) ?_)));exact ⟨bG (by rw [← hr];unfold iD;rw [hbb,h1];rfl),hS.below⟩
  ·obtain ⟨hz,h2⟩:=h1;refine iX (m:=32) cC hS (by kernel_rfl) (by kernel_rfl) rfl (cE 1 rfl 3 rfl rfl (fun w hw=>aV (o':=0) eF rfl rfl) rfl (aZ 2 rfl 12 0 rfl rfl rfl (fun w hw=>bA isAgg4 rfl ((aL hw 0).cell (Nat.zero_le _) (aK (hS.at_ 0 rfl) rfl))) rfl ?_));refine aJ 3 rfl (isV (.bool true)) (aE _) (lG (li:=[(13,_)]) rfl (aS rfl) ⟨aM 1 (aA rfl rfl rfl),trivial⟩ (fun w hw=>jN rfl) (by rw [hz];rfl) (aF rfl)) ?_;refine aZ 4 rfl 14 2 rfl rfl rfl (fun w hw=>aW rfl) rfl (aJ 5 rfl (isV _) (aE _) (rgV (li:=[(3,_)]) rfl (bD 15 rfl (aA rfl rfl rfl)) ⟨cJ rfl,trivial⟩ (fun w hw=>aV (o':=5) dH rfl rfl) (aF rfl)) (aJ 6 rfl (isV _) (aE _) (rgV (li:=[(16,_)]) rfl (bD 15 rfl (aA rfl rfl rfl)) ⟨aM 4 (aA rfl rfl rfl),trivial⟩ (fun w hw=>bA isAgg44 rfl ((aL hw 0).cell (Nat.zero_le _) (aK (hS.at_ 0 rfl) rfl))) (aF rfl)) (aJ 7 rfl (isV _) (aE _) (rgV (li:=[(17,_)]) rfl (bD 15 rfl (aA rfl rfl rfl)) ⟨aM 5 (aA rfl rfl rfl),trivial⟩ (fun w hw=>lF underlying44 rfl) (aF rfl)) (aJ 8 rfl (isV (.bool false)) (aE _) (lG (li:=[(18,_)]) rfl (bD 15 rfl (aA rfl rfl rfl)) ⟨aM 6 (aA rfl rfl rfl),trivial⟩ (fun w hw=>rA rfl rfl) (by rw [decide_eq_false (by omega)]) (aF rfl)) (aJ 9 rfl (isV _) (aE _) (rgV (li:=[(15,_),(19,_)]) rfl (aS rfl) ⟨aM 3 (aA rfl rfl rfl),aM 7 (aA rfl rfl rfl),trivial⟩ (fun w hw=>eC rfl rfl) (aF rfl)) (aZ 10 rfl 20 8 rfl rfl rfl (fun w hw=>aW rfl) rfl (aJ 11 rfl (isV undef) (aE _) (bI rfl (bK 21 rfl (aA rfl rfl rfl) rfl) (aF rfl)) (aJ 12 rfl (isV undef) (aE _) (bI rfl (bK 21 rfl (aA rfl rfl rfl) rfl) (aF rfl)) (aJ 13 rfl (isV undef) (aE _) (bI rfl (bK 21 rfl (aA rfl rfl rfl) rfl) (aF rfl)) (aJ 14 rfl (isV undef) (aE _) (bI rfl (bK 21 rfl (aA rfl rfl rfl) rfl) (aF rfl)) (aJ 15 rfl (isV undef) (aE _) (bI rfl (bK 21 rfl (aA rfl rfl rfl) rfl) (aF rfl)) (aJ 16 rfl (isV undef) (aE _) (bI rfl (bK 21 rfl (aA rfl rfl rfl) rfl) (aF rfl)) (aJ 17 rfl (isV undef) (aE _) (bI rfl (bK 21 rfl (aA rfl rfl rfl) rfl) (aF rfl)) (aJ 18 rfl (isV undef) (aE _) (bI rfl (bK 21 rfl (aA rfl rfl rfl) rfl) (aF rfl)) (aJ 19 rfl (isV undef) (aE _) (bI rfl (bK 21 rfl (aA rfl rfl rfl) rfl) (aF rfl)) (aZ 20 rfl 21 9 rfl rfl rfl (fun w hw=>eD rfl rfl) rfl (aZ 21 rfl 31 19 rfl rfl rfl (fun w hw=>aW rfl) rfl (aJ 22 rfl (isV undef) (aE _) (bI rfl (bK 32 rfl (aA rfl rfl rfl) rfl) (aF rfl)) (aJ 23 rfl (isV undef) (aE _) (bI rfl (bK 32 rfl (aA rfl rfl rfl) rfl) (aF rfl)) (aJ 24 rfl (isV undef) (aE _) (bI rfl (bK 32 rfl (aA rfl rfl rfl) rfl) (aF rfl)) (aJ 25 rfl (isV undef) (aE _) (bI rfl (bK 32 rfl (aA rfl rfl rfl) rfl) (aF rfl)) (aJ 26 rfl (isV undef) (aE _) (bI rfl (bK 32 rfl (aA rfl rfl rfl) rfl) (aF rfl)) (aJ 27 rfl (isV undef) (aE _) (bI rfl (bK 32 rfl (aA rfl rfl rfl) rfl) (aF rfl)) (aJ 28 rfl (isV undef) (aE _) (bI rfl (bK 32 rfl (aA rfl rfl rfl) rfl) (aF rfl)) (aJ 29 rfl (isV undef) (aE _) (bI rfl (bK 32 rfl (aA rfl rfl rfl) rfl) (aF rfl)) (aJ 30 rfl (isV undef) (aE _) (bI rfl (bK 32 rfl (aA rfl rfl rfl) rfl) (aF rfl)) (aZ 31 rfl 32 20 rfl rfl rfl (fun w hw=>eD rfl rfl) rfl (aZ 32 rfl 42 30 rfl rfl rfl (fun w hw=>fU rfl) rfl (dI ?_)))))))))))))))))))))))))))));intro W5 hbR;clear hS;intro hS;refine aG (aG (aG (aG (aG (aG (aG (aG (aG (aG (aG (aG (aG (aG (aG (aG (aG (aG (aG (aG (aG (aG (aG (aG (aG (aG (aG (aG (aG (aG (aG (aG (cM ?_))))))))))))))))))))))))))))))));refine XF.thenN (bL (XF.thenR (XF.res (cI results64 rfl) ?_)));exact ⟨bG (by rw [← hr];unfold iD;rw [hbb,hz,show decide (qs.length=2)=false from decide_eq_false (by have h9:qs.length=g.pl:=hw.2.1;omega)];rfl),hS.below⟩
  ·obtain ⟨x,y,hz,rfl,hx1⟩:=h1;obtain ⟨hpl,b2,off2,hpa,hb2,hx6,hy6,hxi,hyi⟩:=hw.two;obtain ⟨gz,gc,gg,gra,grl,grc,grows,gca,gcl,gcc,gcells,gpa,gpl,gpc⟩:=g;dsimp only at hpl hpa hz;subst hpl;subst hpa;refine iX (m:=32) cC hS (by kernel_rfl) (by kernel_rfl) rfl (cE 1 rfl 3 rfl rfl (fun w hw=>aV (o':=0) eF rfl rfl) rfl (aZ 2 rfl 12 0 rfl rfl rfl (fun w hw=>bA isAgg4 rfl ((aL hw 0).cell (Nat.zero_le _) (aK (hS.at_ 0 rfl) rfl))) rfl ?_));refine aJ 3 rfl (isV (.bool true)) (aE _) (lG (li:=[(13,_)]) rfl (aS rfl) ⟨aM 1 (aA rfl rfl rfl),trivial⟩ (fun w hw=>jN rfl) (by rw [hz];rfl) (aF rfl)) ?_;refine aZ 4 rfl 14 2 rfl rfl rfl (fun w hw=>aW rfl) rfl (aJ 5 rfl (isV _) (aE _) (rgV (li:=[(3,_)]) rfl (bD 15 rfl (aA rfl rfl rfl)) ⟨cJ rfl,trivial⟩ (fun w hw=>aV (o':=5) dH rfl rfl) (aF rfl)) (aJ 6 rfl (isV _) (aE _) (rgV (li:=[(16,_)]) rfl (bD 15 rfl (aA rfl rfl rfl)) ⟨aM 4 (aA rfl rfl rfl),trivial⟩ (fun w hw=>bA isAgg44 rfl ((aL hw 0).cell (Nat.zero_le _) (aK (hS.at_ 0 rfl) rfl))) (aF rfl)) (aJ 7 rfl (isV _) (aE _) (rgV (li:=[(17,_)]) rfl (bD 15 rfl (aA rfl rfl rfl)) ⟨aM 5 (aA rfl rfl rfl),trivial⟩ (fun w hw=>lF underlying44 rfl) (aF rfl)) (aJ 8 rfl (isV (.bool true)) (aE _) (lG (li:=[(18,_)]) rfl (bD 15 rfl (aA rfl rfl rfl)) ⟨aM 6 (aA rfl rfl rfl),trivial⟩ (fun w hw=>rA rfl rfl) (rfl) (aF rfl)) (aJ 9 rfl (isV _) (aE _) (rgV (li:=[(15,_),(19,_)]) rfl (aS rfl) ⟨aM 3 (aA rfl rfl rfl),aM 7 (aA rfl rfl rfl),trivial⟩ (fun w hw=>eC rfl rfl) (aF rfl)) (aZ 10 rfl 20 8 rfl rfl rfl (fun w hw=>aW rfl) rfl (aJ 11 rfl (isV _) (aE _) (rgV (li:=[(2,_)]) rfl (bD 21 rfl (aA rfl rfl rfl)) ⟨cJ rfl,trivial⟩ (fun w hw=>aV (o':=2) dW rfl rfl) (aF rfl)) (aJ 12 rfl (isV _) (aE _) (rgV (li:=[(22,_)]) rfl (bD 21 rfl (aA rfl rfl rfl)) ⟨aM 10 (aA rfl rfl rfl),trivial⟩ (fun w hw=>bA isAgg23 rfl ((aL hw 0).cell (Nat.zero_le _) (aK (hS.at_ 1 rfl) rfl))) (aF rfl)) ?_))))))));refine aJ 13 rfl (isV _) (aE _) (rgV (li:=[(23,_)]) rfl (bD 21 rfl (aA rfl rfl rfl)) ⟨aM 11 (aA rfl rfl rfl),trivial⟩ (fun w hw=>bE (j:=0) underlying23 sizeOf25 rfl rfl rfl (by show _ < 2;decide) (Nat.add_zero _)) (aF rfl)) ?_;refine aJ 14 rfl (isV _) (aE _) (rgV (li:=[(24,_)]) rfl (bD 21 rfl (aA rfl rfl rfl)) ⟨aM 12 (aA rfl rfl rfl),trivial⟩ (fun w hw=>aY (vs:=[_,_,_]) isAgg25 sizeOf25 rfl (aC.agree (aL hw 0) (Nat.zero_le _) (aC.agree hS.agree (Nat.zero_le _) hp3.cells))) (aF rfl)) (aJ 15 rfl (isV _) (aE _) (rgV (li:=[(3,_)]) rfl (bD 21 rfl (aA rfl rfl rfl)) ⟨cJ rfl,trivial⟩ (fun w hw=>aV (o':=5) dH rfl rfl) (aF rfl)) (aJ 16 rfl (isV _) (aE _) (rgV (li:=[(26,_)]) rfl (bD 21 rfl (aA rfl rfl rfl)) ⟨aM 14 (aA rfl rfl rfl),trivial⟩ (fun w hw=>bA isAgg44 rfl ((aL hw 0).cell (Nat.zero_le _) (aK (hS.at_ 0 rfl) rfl))) (aF rfl)) ?_));refine aJ 17 rfl (isV _) (aE _) (rgV (li:=[(27,_)]) rfl (bD 21 rfl (aA rfl rfl rfl)) ⟨aM 15 (aA rfl rfl rfl),trivial⟩ (fun w hw=>bE (j:=0) underlying44 sizeOf46 rfl rfl rfl (by show _ < 2;decide) (Nat.add_zero _)) (aF rfl)) ?_;refine aJ 18 rfl (isV _) (aE _) (rgV (li:=[(28,_)]) rfl (bD 21 rfl (aA rfl rfl rfl)) ⟨aM 16 (aA rfl rfl rfl),trivial⟩ (fun w hw=>aY (vs:=[_,_,_,_,_,_]) isAgg46 sizeOf46 rfl (aC.agree (aL hw 0) (Nat.zero_le _) (aC.agree hS.agree (Nat.zero_le _) hx6.cells))) (aF rfl)) ?_;refine aJ 19 rfl (isV (.bool false)) (aE _) (cN [isV _,isV _] rfl uZ (bD 21 rfl (aA rfl rfl rfl)) ⟨bT (aM 13 (aA rfl rfl rfl)),bT (aM 17 (aA rfl rfl rfl)),trivial⟩ (fun vs w' hb hh=>by have e:=bW (us:=[_,_]) hh;subst e;exact (nE p.f.tag p.f.dim p.f.a p.f.len p.f.cap x.f hp (Nat.zero_le _) _ (hxi.at_.below (hS.below.trans (hb.mono hS.below.size))) _ hx1).mono fun e w2 h=>⟨_,h.1,rfl,h.2⟩) (aF rfl)) ?_
   refine aJ 20 rfl (isV _) (aE _) (rgV (li:=[(21,_),(30,_)]) rfl (aS rfl) ⟨aM 9 (aA rfl rfl rfl),aM 18 (aA rfl rfl rfl),trivial⟩ (fun w hw=>eC rfl rfl) (aF rfl)) (aZ 21 rfl 31 19 rfl rfl rfl (fun w hw=>aW rfl) rfl (aJ 22 rfl (isV undef) (aE _) (bI rfl (bK 32 rfl (aA rfl rfl rfl) rfl) (aF rfl)) (aJ 23 rfl (isV undef) (aE _) (bI rfl (bK 32 rfl (aA rfl rfl rfl) rfl) (aF rfl)) (aJ 24 rfl (isV undef) (aE _) (bI rfl (bK 32 rfl (aA rfl rfl rfl) rfl) (aF rfl)) (aJ 25 rfl (isV undef) (aE _) (bI rfl (bK 32 rfl (aA rfl rfl rfl) rfl) (aF rfl)) (aJ 26 rfl (isV undef) (aE _) (bI rfl (bK 32 rfl (aA rfl rfl rfl) rfl) (aF rfl)) (aJ 27 rfl (isV undef) (aE _) (bI rfl (bK 32 rfl (aA rfl rfl rfl) rfl) (aF rfl)) (aJ 28 rfl (isV undef) (aE _) (bI rfl (bK 32 rfl (aA rfl rfl rfl) rfl) (aF rfl)) (aJ 29 rfl (isV undef) (aE _) (bI rfl (bK 32 rfl (aA rfl rfl rfl) rfl) (aF rfl)) (aJ 30 rfl (isV undef) (aE _) (bI rfl (bK 32 rfl (aA rfl rfl rfl) rfl) (aF rfl)) (aZ 31 rfl 32 20 rfl rfl rfl (fun w hw=>eD rfl rfl) rfl (aZ 32 rfl 42 30 rfl rfl rfl (fun w hw=>fU rfl) rfl (dI ?_)))))))))))));intro W6 hbR;clear hS;intro hS;refine aG (aG (aG (aG (aG (aG (aG (aG (aG (aG (aG (aG (aG (aG (aG (aG (aG (aG (aG (aG (aG (aG (aG (aG (aG (aG (aG (aG (aG (aG (aG (aG (cM ?_))))))))))))))))))))))))))))))));refine XF.thenN (bL (XF.thenR (XF.res (cI results64 rfl) ?_)));exact ⟨bG (by rw [← hr];unfold iD;rw [hbb];show _=(true && (!gz && (true && (fO p.f.tag p.f.dim x.f && fO q.f.tag q.f.dim y.f))));rw [hz,hx1];rfl),hS.below⟩
  ·obtain ⟨x,y,hz,rfl,hx1⟩:=h1;obtain ⟨hpl,b2,off2,hpa,hb2,hx6,hy6,hxi,hyi⟩:=hw.two;obtain ⟨gz,gc,gg,gra,grl,grc,grows,gca,gcl,gcc,gcells,gpa,gpl,gpc⟩:=g;dsimp only at hpl hpa hz;subst hpl;subst hpa;refine iX (m:=32) cC hS (by kernel_rfl) (by kernel_rfl) rfl (cE 1 rfl 3 rfl rfl (fun w hw=>aV (o':=0) eF rfl rfl) rfl (aZ 2 rfl 12 0 rfl rfl rfl (fun w hw=>bA isAgg4 rfl ((aL hw 0).cell (Nat.zero_le _) (aK (hS.at_ 0 rfl) rfl))) rfl ?_));refine aJ 3 rfl (isV (.bool true)) (aE _) (lG (li:=[(13,_)]) rfl (aS rfl) ⟨aM 1 (aA rfl rfl rfl),trivial⟩ (fun w hw=>jN rfl) (by rw [hz];rfl) (aF rfl)) ?_;refine aZ 4 rfl 14 2 rfl rfl rfl (fun w hw=>aW rfl) rfl (aJ 5 rfl (isV _) (aE _) (rgV (li:=[(3,_)]) rfl (bD 15 rfl (aA rfl rfl rfl)) ⟨cJ rfl,trivial⟩ (fun w hw=>aV (o':=5) dH rfl rfl) (aF rfl)) (aJ 6 rfl (isV _) (aE _) (rgV (li:=[(16,_)]) rfl (bD 15 rfl (aA rfl rfl rfl)) ⟨aM 4 (aA rfl rfl rfl),trivial⟩ (fun w hw=>bA isAgg44 rfl ((aL hw 0).cell (Nat.zero_le _) (aK (hS.at_ 0 rfl) rfl))) (aF rfl)) (aJ 7 rfl (isV _) (aE _) (rgV (li:=[(17,_)]) rfl (bD 15 rfl (aA rfl rfl rfl)) ⟨aM 5 (aA rfl rfl rfl),trivial⟩ (fun w hw=>lF underlying44 rfl) (aF rfl)) (aJ 8 rfl (isV (.bool true)) (aE _) (lG (li:=[(18,_)]) rfl (bD 15 rfl (aA rfl rfl rfl)) ⟨aM 6 (aA rfl rfl rfl),trivial⟩ (fun w hw=>rA rfl rfl) (rfl) (aF rfl)) (aJ 9 rfl (isV _) (aE _) (rgV (li:=[(15,_),(19,_)]) rfl (aS rfl) ⟨aM 3 (aA rfl rfl rfl),aM 7 (aA rfl rfl rfl),trivial⟩ (fun w hw=>eC rfl rfl) (aF rfl)) (aZ 10 rfl 20 8 rfl rfl rfl (fun w hw=>aW rfl) rfl (aJ 11 rfl (isV _) (aE _) (rgV (li:=[(2,_)]) rfl (bD 21 rfl (aA rfl rfl rfl)) ⟨cJ rfl,trivial⟩ (fun w hw=>aV (o':=2) dW rfl rfl) (aF rfl)) (aJ 12 rfl (isV _) (aE _) (rgV (li:=[(22,_)]) rfl (bD 21 rfl (aA rfl rfl rfl)) ⟨aM 10 (aA rfl rfl rfl),trivial⟩ (fun w hw=>bA isAgg23 rfl ((aL hw 0).cell (Nat.zero_le _) (aK (hS.at_ 1 rfl) rfl))) (aF rfl)) ?_))))))));refine aJ 13 rfl (isV _) (aE _) (rgV (li:=[(23,_)]) rfl (bD 21 rfl (aA rfl rfl rfl)) ⟨aM 11 (aA rfl rfl rfl),trivial⟩ (fun w hw=>bE (j:=0) underlying23 sizeOf25 rfl rfl rfl (by show _ < 2;decide) (Nat.add_zero _)) (aF rfl)) ?_;refine aJ 14 rfl (isV _) (aE _) (rgV (li:=[(24,_)]) rfl (bD 21 rfl (aA rfl rfl rfl)) ⟨aM 12 (aA rfl rfl rfl),trivial⟩ (fun w hw=>aY (vs:=[_,_,_]) isAgg25 sizeOf25 rfl (aC.agree (aL hw 0) (Nat.zero_le _) (aC.agree hS.agree (Nat.zero_le _) hp3.cells))) (aF rfl)) (aJ 15 rfl (isV _) (aE _) (rgV (li:=[(3,_)]) rfl (bD 21 rfl (aA rfl rfl rfl)) ⟨cJ rfl,trivial⟩ (fun w hw=>aV (o':=5) dH rfl rfl) (aF rfl)) (aJ 16 rfl (isV _) (aE _) (rgV (li:=[(26,_)]) rfl (bD 21 rfl (aA rfl rfl rfl)) ⟨aM 14 (aA rfl rfl rfl),trivial⟩ (fun w hw=>bA isAgg44 rfl ((aL hw 0).cell (Nat.zero_le _) (aK (hS.at_ 0 rfl) rfl))) (aF rfl)) ?_));refine aJ 17 rfl (isV _) (aE _) (rgV (li:=[(27,_)]) rfl (bD 21 rfl (aA rfl rfl rfl)) ⟨aM 15 (aA rfl rfl rfl),trivial⟩ (fun w hw=>bE (j:=0) underlying44 sizeOf46 rfl rfl rfl (by show _ < 2;decide) (Nat.add_zero _)) (aF rfl)) ?_;refine aJ 18 rfl (isV _) (aE _) (rgV (li:=[(28,_)]) rfl (bD 21 rfl (aA rfl rfl rfl)) ⟨aM 16 (aA rfl rfl rfl),trivial⟩ (fun w hw=>aY (vs:=[_,_,_,_,_,_]) isAgg46 sizeOf46 rfl (aC.agree (aL hw 0) (Nat.zero_le _) (aC.agree hS.agree (Nat.zero_le _) hx6.cells))) (aF rfl)) ?_;refine aJ 19 rfl (isV (.bool true)) (aE _) (cN [isV _,isV _] rfl uZ (bD 21 rfl (aA rfl rfl rfl)) ⟨bT (aM 13 (aA rfl rfl rfl)),bT (aM 17 (aA rfl rfl rfl)),trivial⟩ (fun vs w' hb hh=>by have e:=bW (us:=[_,_]) hh;subst e;exact (nE p.f.tag p.f.dim p.f.a p.f.len p.f.cap x.f hp (Nat.zero_le _) _ (hxi.at_.below (hS.below.trans (hb.mono hS.below.size))) _ hx1).mono fun e w2 h=>⟨_,h.1,rfl,h.2⟩) (aF rfl)) ?_
   refine aJ 20 rfl (isV _) (aE _) (rgV (li:=[(21,_),(30,_)]) rfl (aS rfl) ⟨aM 9 (aA rfl rfl rfl),aM 18 (aA rfl rfl rfl),trivial⟩ (fun w hw=>eC rfl rfl) (aF rfl)) (aZ 21 rfl 31 19 rfl rfl rfl (fun w hw=>aW rfl) rfl (aJ 22 rfl (isV _) (aE _) (rgV (li:=[(2,_)]) rfl (bD 32 rfl (aA rfl rfl rfl)) ⟨cJ rfl,trivial⟩ (fun w hw=>aV (o':=2) dW rfl rfl) (aF rfl)) (aJ 23 rfl (isV _) (aE _) (rgV (li:=[(33,_)]) rfl (bD 32 rfl (aA rfl rfl rfl)) ⟨aM 21 (aA rfl rfl rfl),trivial⟩ (fun w hw=>bA isAgg23 rfl ((aL hw 0).cell (Nat.zero_le _) (aK (hS.at_ 1 rfl) rfl))) (aF rfl)) ?_)));refine aJ 24 rfl (isV _) (aE _) (rgV (li:=[(34,_)]) rfl (bD 32 rfl (aA rfl rfl rfl)) ⟨aM 22 (aA rfl rfl rfl),trivial⟩ (fun w hw=>bE (j:=1) underlying23 sizeOf25 rfl rfl rfl (by show _ < 2;decide) rfl) (aF rfl)) ?_;refine aJ 25 rfl (isV _) (aE _) (rgV (li:=[(35,_)]) rfl (bD 32 rfl (aA rfl rfl rfl)) ⟨aM 23 (aA rfl rfl rfl),trivial⟩ (fun w hw=>aY (vs:=[_,_,_]) isAgg25 sizeOf25 rfl (aC.agree (aL hw 0) (Nat.zero_le _) (aC.agree hS.agree (Nat.zero_le _) hq3.cells))) (aF rfl)) (aJ 26 rfl (isV _) (aE _) (rgV (li:=[(3,_)]) rfl (bD 32 rfl (aA rfl rfl rfl)) ⟨cJ rfl,trivial⟩ (fun w hw=>aV (o':=5) dH rfl rfl) (aF rfl)) (aJ 27 rfl (isV _) (aE _) (rgV (li:=[(37,_)]) rfl (bD 32 rfl (aA rfl rfl rfl)) ⟨aM 25 (aA rfl rfl rfl),trivial⟩ (fun w hw=>bA isAgg44 rfl ((aL hw 0).cell (Nat.zero_le _) (aK (hS.at_ 0 rfl) rfl))) (aF rfl)) ?_));refine aJ 28 rfl (isV _) (aE _) (rgV (li:=[(38,_)]) rfl (bD 32 rfl (aA rfl rfl rfl)) ⟨aM 26 (aA rfl rfl rfl),trivial⟩ (fun w hw=>bE (j:=1) underlying44 sizeOf46 rfl rfl rfl (by show _ < 2;decide) rfl) (aF rfl)) ?_;refine aJ 29 rfl (isV _) (aE _) (rgV (li:=[(39,_)]) rfl (bD 32 rfl (aA rfl rfl rfl)) ⟨aM 27 (aA rfl rfl rfl),trivial⟩ (fun w hw=>aY (vs:=[_,_,_,_,_,_]) isAgg46 sizeOf46 rfl (aC.agree (aL hw 0) (Nat.zero_le _) (aC.agree hS.agree (Nat.zero_le _) hy6.cells))) (aF rfl)) ?_;refine aJ 30 rfl (isV (.bool (fO q.f.tag q.f.dim y.f))) (aE _) (cN [isV _,isV _] rfl uZ (bD 32 rfl (aA rfl rfl rfl)) ⟨bT (aM 24 (aA rfl rfl rfl)),bT (aM 28 (aA rfl rfl rfl)),trivial⟩ (fun vs w' hb hh=>by have e:=bW (us:=[_,_]) hh;subst e;exact (nE q.f.tag q.f.dim q.f.a q.f.len q.f.cap y.f hq (Nat.zero_le _) _ (hyi.at_.below (hS.below.trans (hb.mono hS.below.size))) _ rfl).mono fun e w2 h=>⟨_,h.1,rfl,h.2⟩) (aF rfl)) ?_;refine aJ 31 rfl (isV _) (aE _) (rgV (li:=[(32,_),(41,_)]) rfl (aS rfl) ⟨aM 20 (aA rfl rfl rfl),aM 29 (aA rfl rfl rfl),trivial⟩ (fun w hw=>eC rfl rfl) (aF rfl)) (aZ 32 rfl 42 30 rfl rfl rfl (fun w hw=>fU rfl) rfl (dI ?_));intro W7 hbR;clear hS;intro hS;refine aG (aG (aG (aG (aG (aG (aG (aG (aG (aG (aG (aG (aG (aG (aG (aG (aG (aG (aG (aG (aG (aG (aG (aG (aG (aG (aG (aG (aG (aG (aG (aG (cM ?_))))))))))))))))))))))))))))))));refine XF.thenN (bL (XF.thenR (XF.res (cI results64 rfl) ?_)));exact ⟨bG (by rw [← hr];unfold iD;rw [hbb];show _=(true && (!gz && (true && (fO p.f.tag p.f.dim x.f && fO q.f.tag q.f.dim y.f))));rw [hz,hx1];rfl),hS.below⟩
theorem mN:bJ prog 65=true:=by kernel_rfl
theorem goes_66:bJ prog 66=true:=by kernel_rfl
theorem goes_67:bJ prog 67=true:=by kernel_rfl
theorem pU (t n:Int) (a:Option Addr) (l c0:Nat) (f:WF) (hp:bV t n l=true) (hs:0≤f.rl) (w:World) (hf:f.At w) (r:Bool) (hr:fO t n f=r) :
  Calls prog 40 #[.agg #[.int .i64 t,.int .i64 n,.slice a l c0],f.val] w (fun e w'=>e = .returned (.bool (r))∧Below w.heap.size w w'):=by
 refine cG (args:=[.agg #[.int .i64 t,.int .i64 n,.slice a l c0],f.val]) func40 rfl ntmps40 rfl ?_;have hS:=St.start w;have htg:=(gC hp).2;have h5:t≠5:=by omega
 refine aO (aQ (bY (cs:=[_,_,_]) hS rfl rfl rfl fun B1 W1 hS=>bY (cs:=[_,_,_,_,_,_]) hS rfl rfl rfl fun B2 W2 hS=>aB rfl rfl (aP (XF.thenN (aO (aO (aQ (aN (o':=0) eF rfl rfl rfl (aR isAgg4 rfl (aK (hS.at_ 0 rfl) rfl) rfl (aP (XF.thenN (bB rfl (fun hc=>?_) (fun hc=>?_)))))))))))))
 ·have hc7:=hc;clear hc;refine aO (aQ (aN (o':=0) eS rfl rfl rfl (aR isAgg22 rfl (aK (hS.at_ 1 rfl) rfl) rfl (dG rfl rfl rfl (aH rfl rfl (cB (d:=11) rfl (fun hc=>?_) (fun hc=>absurd (of_decide_eq_false hc) (by exact fun h=>h h5))))))));have hc:=of_decide_eq_true hc;refine aI (d:=11) rfl rfl (aT (vs:=[_,_,_,_,_,_]) isAgg46 sizeOf46 rfl (aC.own (j:=0) (m:=6) (hS.at_ 0 rfl) rfl) rfl (aI (d:=11) rfl rfl (cH (vs:=[_,_,_,_,_]) hS mN rfl (Ig f _ rfl _) rfl fun W3 hS=>bC rfl rfl rfl (aB rfl rfl (aP (XF.thenN (bL (XF.thenR (XF.res (cI results40 rfl) ?_)))))))));exact ⟨bG (by rw [← hr];unfold fO;rw [show f.z=true from hc7];unfold iS;rw [show f.z=true from hc7];simp),hS.below⟩
 ·have hc7:=hc;clear hc;have hz:f.z=false:=hc7;refine bP (XF.thenN (aO (aO (aQ (aN (o':=0) eS rfl rfl rfl (aR isAgg22 rfl (aK (hS.at_ 1 rfl) rfl) rfl (aP (XF.thenN (bX (aO (aQ (cR rfl rfl rfl (aB rfl rfl (aP (XF.thenN (bB rfl (fun hc=>?_) (fun hc=>?_)))))))))))))))))
  ·have hc17:=of_decide_eq_true hc;clear hc;refine aO (aQ (aT (vs:=[_,_,_,_,_,_]) isAgg46 sizeOf46 rfl (aC.own (j:=0) (m:=6) (hS.at_ 0 rfl) rfl) rfl (cH (vs:=[_,_,_,_,_]) hS mN rfl (Ig f _ rfl _) rfl fun W4 hS=>aB rfl rfl (aP (XF.thenN (bL (XF.blkR (XF.thenR (XF.res (cI results40 rfl) ?_)))))))));exact ⟨bG (by rw [← hr];unfold fO;rw [hz];unfold iS;rw [hz,hc17];simp),hS.below⟩
  ·have hc17:=of_decide_eq_false hc;clear hc;refine aO (aQ (cR rfl rfl rfl (aB rfl rfl (aP (XF.thenN (bB rfl (fun hc=>?_) (fun hc=>?_)))))))
   ·have hc21:=of_decide_eq_true hc;clear hc;have hbb:iS t f=iR true false false false f:=by unfold iS;rw [hz,hc21];simp
    refine aO (aQ (aT (vs:=[_,_,_,_,_,_]) isAgg46 sizeOf46 rfl (aC.own (j:=0) (m:=6) (hS.at_ 0 rfl) rfl) rfl (cH (vs:=[_,_,_,_,_]) hS mN rfl (Uz f _ rfl _) rfl fun W5 hS=>aH rfl rfl (cB (d:=25) rfl (fun hc=>?_) (fun hc=>?_)))))
    ·have hg25:=hc;clear hc;refine aI (d:=25) rfl rfl (aN (o':=1) fQ rfl rfl rfl (aI (d:=25) rfl rfl (aR isAgg3 rfl (aK (hS.at_ 0 rfl) rfl) rfl (aI (d:=25) rfl rfl (tV rfl rfl rfl (bC rfl rfl rfl (aH rfl rfl (cB (d:=30) rfl (fun hc=>?_) (fun hc=>?_)))))))))
     ·have hg30:=of_decide_eq_true hc;clear hc;refine aI (d:=30) rfl rfl (aN (o':=1) fQ rfl rfl rfl (aI (d:=30) rfl rfl (aR isAgg3 rfl (aK (hS.at_ 0 rfl) rfl) rfl (aI (d:=30) rfl rfl (aN (o':=1) eU rfl rfl rfl (aI (d:=30) rfl rfl (aR isAgg3 rfl (aK (hS.at_ 1 rfl) rfl) rfl (aI (d:=30) rfl rfl (wU rfl rfl rfl (bC rfl rfl rfl (aB rfl rfl (aP (XF.thenN (bL (XF.blkR (XF.thenR (XF.res (cI results40 rfl) ?_)))))))))))))))));exact ⟨bG (by rw [← hr];unfold fO;rw [hbb,hz,if_pos hc21,show iR true false false false f=true from hg25];simp [show (0:Int)≤f.c from hg30]),hS.below⟩
     ·have hg30:=of_decide_eq_false hc;clear hc;refine aD (d:=30) rfl rfl rfl rfl (aD (d:=30) rfl rfl rfl rfl (aD (d:=30) rfl rfl rfl rfl (aD (d:=30) rfl rfl rfl rfl (aD (d:=30) rfl rfl rfl rfl (bR rfl rfl rfl (aB rfl rfl (aP (XF.thenN (bL (XF.blkR (XF.thenR (XF.res (cI results40 rfl) ?_))))))))))));exact ⟨bG (by rw [← hr];unfold fO;rw [hbb,hz,if_pos hc21,show iR true false false false f=true from hg25];simp [show ¬ (0:Int)≤f.c from hg30]),hS.below⟩
    ·have hg25:=hc;clear hc;refine aD (d:=25) rfl rfl rfl rfl (aD (d:=25) rfl rfl rfl rfl (aD (d:=25) rfl rfl rfl rfl (bR rfl rfl rfl (aH rfl rfl (aD (d:=30) rfl rfl rfl rfl (aD (d:=30) rfl rfl rfl rfl (aD (d:=30) rfl rfl rfl rfl (aD (d:=30) rfl rfl rfl rfl (aD (d:=30) rfl rfl rfl rfl (bR rfl rfl rfl (aB rfl rfl (aP (XF.thenN (bL (XF.blkR (XF.thenR (XF.res (cI results40 rfl) ?_)))))))))))))))));exact ⟨bG (by rw [← hr];unfold fO;rw [hbb,show iR true false false false f=false from hg25];rfl),hS.below⟩
   ·have hc21:=of_decide_eq_false hc;clear hc;refine aO (aQ (cR rfl rfl rfl (aB rfl rfl (aP (XF.thenN (bB rfl (fun hc=>?_) (fun hc=>?_)))))))
    ·have hc37:=of_decide_eq_true hc;clear hc;have hbb:iS t f=iR false true false false f:=by unfold iS;rw [hz,hc37];simp
     refine aO (aQ (aT (vs:=[_,_,_,_,_,_]) isAgg46 sizeOf46 rfl (aC.own (j:=0) (m:=6) (hS.at_ 0 rfl) rfl) rfl (cH (vs:=[_,_,_,_,_]) hS mN rfl (U3 f _ rfl _) rfl fun W6 hS=>aH rfl rfl (cB (d:=41) rfl (fun hc=>?_) (fun hc=>?_)))))
     ·have hg41:=hc;clear hc;refine aI (d:=41) rfl rfl (aN (o':=1) eU rfl rfl rfl (aI (d:=41) rfl rfl (aR isAgg3 rfl (aK (hS.at_ 1 rfl) rfl) rfl (aI (d:=41) rfl rfl (aN (o':=2) fR rfl rfl rfl (aI (d:=41) rfl rfl (aT (vs:=[_,_]) isAgg42 sizeOf42 rfl (aC.own (j:=2) (m:=2) (hS.at_ 0 rfl) rfl) rfl (aI (d:=41) rfl rfl (cH (vs:=[_,_]) hS goes_66 rfl (Lt n f.ra f.rc f.g f.rows _ (hf.below hS.below) _ rfl f.rl hf.rl) rfl fun W7 hS=>aI (d:=41) rfl rfl (cR rfl rfl rfl (bC rfl rfl rfl (aB rfl rfl (aP (XF.thenN (bL (XF.blkR (XF.thenR (XF.res (cI results40 rfl) ?_))))))))))))))))));exact ⟨bG (by rw [← hr];unfold fO;rw [hbb,hz,if_neg hc21,if_pos hc37,show iR false true false false f=true from hg41];rfl),hS.below⟩
     ·have hg41:=hc;clear hc;refine aD (d:=41) rfl rfl rfl rfl (aD (d:=41) rfl rfl rfl rfl (aD (d:=41) rfl rfl rfl rfl (aD (d:=41) rfl rfl rfl rfl (aD (d:=41) rfl rfl rfl rfl (aD (d:=41) rfl rfl rfl rfl (bR rfl rfl rfl (aB rfl rfl (aP (XF.thenN (bL (XF.blkR (XF.thenR (XF.res (cI results40 rfl) ?_)))))))))))));exact ⟨bG (by rw [← hr];unfold fO;rw [hbb,show iR false true false false f=false from hg41];rfl),hS.below⟩
    ·have hc37:=of_decide_eq_false hc;clear hc;refine aO (aQ (cR rfl rfl rfl (aB rfl rfl (aP (XF.thenN (bB rfl (fun hc=>?_) (fun hc=>absurd (of_decide_eq_false hc) (by omega))))))));have hc:=of_decide_eq_true hc;have hc49:t=4:=hc;have hbb:iS t f=iR false false true false f:=by unfold iS;rw [hz,hc49];simp
     obtain ⟨m,hnm,hm64⟩:∃ m:Nat,n=m∧m≤64:=by have h9:=hp;simp only [bV,hc49] at h9;simp at h9;exact ⟨n.toNat,by omega,by omega⟩
     refine aO (aO (aQ (aT (vs:=[_,_,_,_,_,_]) isAgg46 sizeOf46 rfl (aC.own (j:=0) (m:=6) (hS.at_ 0 rfl) rfl) rfl (cH (vs:=[_,_,_,_,_]) hS mN rfl (U5 f _ rfl _) rfl fun W8 hS=>fB rfl rfl (aH rfl rfl (cB (d:=54) rfl (fun hc=>?_) (fun hc=>?_)))))))
     ·have hg54:=hc;clear hc;refine aD (d:=54) rfl rfl rfl rfl (aD (d:=54) rfl rfl rfl rfl (aD (d:=54) rfl rfl rfl rfl (aD (d:=54) rfl rfl rfl rfl (aD (d:=54) rfl rfl rfl rfl (aD (d:=54) rfl rfl rfl rfl (bC rfl rfl rfl (aP (XF.thenN (fD rfl (aO (aQ (aB rfl rfl (aP (XF.thenN (bL (XF.thenR (XF.blkR (XF.thenR (XF.res (cI results40 rfl) ?_)))))))))))))))))));exact ⟨bG (by rw [← hr];unfold fO;rw [hbb,show iR false false true false f=false by simpa using hg54];rfl),hS.below⟩
     ·have hg54:=hc;clear hc;have hon:iR false false true false f=true:=by simpa using hg54
      refine aI (d:=54) rfl rfl (aN (o':=4) eG rfl rfl rfl (aI (d:=54) rfl rfl (aR isAgg43 rfl (aK (hS.at_ 0 rfl) rfl) rfl (aI (d:=54) rfl rfl (cL underlying43 rfl rfl (aI (d:=54) rfl rfl (aN (o':=1) eU rfl rfl rfl (aI (d:=54) rfl rfl (aR isAgg3 rfl (aK (hS.at_ 1 rfl) rfl) rfl (aI (d:=54) rfl rfl (dG rfl rfl rfl (bR rfl rfl rfl (aP (XF.thenN (bB rfl (fun hc=>?_) (fun hc=>?_))))))))))))))))
      ·have hc61:=of_decide_eq_true hc;clear hc;refine aO (aQ (aB rfl rfl (aP (XF.thenN (bL (XF.thenR (XF.blkR (XF.thenR (XF.res (cI results40 rfl) ?_)))))))));have hne:mE n f.cells≠0:=fun h9=>by have:=(mR h9).2.2.1;rw [hf.cl] at this;exact hc61 this
       exact ⟨bG (by rw [← hr];unfold fO;rw [hbb,hz,hon,if_neg hc21,if_neg hc37,if_pos hc49,decide_eq_false hne];rfl),hS.below⟩
      ·have hc61:=of_decide_eq_false hc;clear hc;have hcl:f.cells.length=m:=by rw [hf.cl];omega
       refine bP (XF.thenN (aO (aO (aQ (aB rfl rfl (aP (XF.thenN (bX (eJ (fun m_ l_ W=>∃ i:Nat,i≤f.cl∧m_=f.cl - i∧l_=[(2,.pointer (some ⟨B1,0,none⟩)),(3,.pointer (some ⟨B2,0,none⟩)),(5,.int .i64 (i:Int))]∧(f.cells.take i).all (jX m)=true∧St w [(B2,f.six,46),(B1,[.int .i64 t,.int .i64 n,.slice a l c0],25)] [] [] W) (f.cl - 0) ([(2,_),(3,_),(5,_)]) ⟨rfl,rfl,rfl,trivial⟩ (⟨0,Nat.zero_le _,rfl,rfl,rfl,hS.clear⟩) ?_)))))))));clear hS;rintro m_ l_ W ⟨i,hi,rfl,rfl,hall,hS⟩;refine aO (aO (aQ (aH rfl rfl (aN (o':=4) eG rfl rfl rfl (aR isAgg43 rfl (aK (hS.at_ 0 rfl) rfl) rfl (cL underlying43 rfl rfl (cT rfl rfl rfl (aP (XF.thenN (bB rfl (fun hc=>?_) (fun hc=>?_)))))))))))
       ·have hc66:=of_decide_eq_true hc;clear hc;obtain ⟨b9,off9,ce,hca9,hce,hb9,h91,h92,h93⟩:=(hf.cells.below hS.below).at_ (k:=i) (by rw [hf.cl];omega);have k1:aC W b9 (off9+i * 3) [.int .u64 (ce.f:Int),.int .i64 ce.k,.int .i64 ce.v]:=⟨h91,h92,h93,trivial⟩;have hc64:=hf.bits ce (List.mem_of_getElem? hce);refine bP (XF.thenN (aO (bX (aO (iX (m:=9) cC hS (by kernel_rfl) (by kernel_rfl) rfl (cE 1 rfl 2 rfl rfl (fun w hw=>aV (o':=1) eU rfl rfl) rfl (aZ 2 rfl 69 0 rfl rfl rfl (fun w hw=>bA isAgg3 rfl ((aL hw 0).cell (Nat.zero_le _) (aK (hS.at_ 1 rfl) rfl))) rfl (cE 3 rfl 3 rfl rfl (fun w hw=>aV (o':=4) eG rfl rfl) rfl (aJ 4 rfl (isV (.slice (some ⟨b9,off9,none⟩) f.cl f.cc)) (aE _) (lG (li:=[(71,_)]) rfl (aS rfl) ⟨aM 2 (aA rfl rfl rfl),trivial⟩ (fun w hw=>bA isAgg43 rfl ((aL hw 0).cell (Nat.zero_le _) (aK (hS.at_ 0 rfl) rfl))) (by rw [← hca9]) (aF rfl)) (cE 5 rfl 5 rfl rfl (fun w hw=>aW rfl) rfl (aJ 6 rfl (isV _) (aE _) (rgV (li:=[(72,_),(73,_)]) rfl (aS rfl) ⟨aM 3 (aA rfl rfl rfl),aM 4 (aA rfl rfl rfl),trivial⟩ (fun w hw=>bE (j:=i) underlying43 sizeOf96 rfl rfl (rfl) (by omega) rfl) (aF rfl)) (aZ 7 rfl 74 5 rfl rfl rfl (fun w hw=>aY (vs:=[_,_,_]) isAgg96 sizeOf96 rfl (aC.agree (aL hw 0) (Nat.zero_le _) (k1))) rfl ?_))))))))))));refine aJ 8 rfl (isV (.bool (jX m ce))) (aE _) (cN [isV _,isV _] rfl goes_67 (aS rfl) ⟨bT (aM 1 (aA rfl rfl rfl)),bT (aM 6 (aA rfl rfl rfl)),trivial⟩ (fun vs w' hb hh=>by have e:=bW (us:=[_,_]) hh;subst e;have h9:=U6 m hm64 ce.f ce.k ce.v hc64 _ rfl w';rw [← hnm] at h9;exact h9.mono fun e w2 h=>⟨_,h.1,rfl,h.2⟩) (aF rfl)) ?_;refine aZ 9 rfl 76 7 rfl rfl rfl (fun w hw=>jN rfl) rfl (dI ?_);intro W9 hbR;clear hS;intro hS;refine aG (aG (aG (aG (aG (aG (aG (aG (aG (cM (XF.thenN (bB rfl (fun hc=>?_) (fun hc=>?_))))))))))))
        ·have hc77:=hc;clear hc;refine aO (aQ (aB rfl rfl (aP (XF.thenN (bL (XF.blkR (XF.thenR (XF.thenR (XF.blkR (XF.thenR (XF.blkR (XF.thenR (XF.res (cI results40 rfl) ?_)))))))))))));exact ⟨bG (by rw [← hr];unfold fO;rw [hbb,hz,hon,if_neg hc21,if_neg hc37,if_pos hc49,hnm,Hk hm64 hcl hce (by simpa using hc77)];rfl),hS.below⟩
        ·have hc77:=hc;clear hc;refine bP (XF.blkN (XF.thenN (aQ (aH rfl rfl (cY rfl rfl (IntWalk.i64_in _ (by omega)) rfl (aB rfl rfl (aP ?_)))))));exact XF.round (f.cl - (i+1)) [(2,_),(3,_),(5,_)] (by omega) ⟨rfl,rfl,rfl,trivial⟩ ⟨i+1,by omega,rfl,rfl,oM hce hall (by simpa using hc77),hS.clear⟩
       ·have hc66:=of_decide_eq_false hc;clear hc;refine dT (XF.thenX (XF.thenX (XF.blkX (XF.thenN (aO (aQ (aB rfl rfl (aP (XF.thenN (bL (XF.blkR (XF.thenR (XF.res (cI results40 rfl) ?_)))))))))))));exact ⟨bG (by rw [← hr];unfold fO;rw [hbb,hz,hon,if_neg hc21,if_neg hc37,if_pos hc49,hnm,wO hm64 hcl (k:=i) (by rw [hf.cl];omega) hall];rfl),hS.below⟩
theorem In (p q:SV) (g:WF) (qs:List WV) {w:World} {e:Nat} (hw:WIn w (e+1) (.mk g qs)) (hz:g.z=false) (on:Bool):on=false∨(on=true∧g.pl≠2)∨(on=true∧∃ x y,g.z=false∧qs=[x,y]∧fO p.f.tag p.f.dim x.f=false)∨(on=true∧∃ x y,g.z=false∧qs=[x,y]∧fO p.f.tag p.f.dim x.f=true):=by
 cases on with
 | false=>exact .inl rfl
 | true =>
  rcases Ax p q g qs hw with h | h | h | h
  ·rw [hz] at h;cases h
  ·exact .inr (.inl ⟨rfl,h.2⟩)
  ·exact .inr (.inr (.inl ⟨rfl,h⟩))
  ·exact .inr (.inr (.inr ⟨rfl,h⟩))
theorem Ru (d:Nat) (sa:Option Addr) (sc:Nat) (p q:SV) (g:WF) (qs:List WV) (w:World) (hsp:SIn w (d+1) (.mk ⟨5,0,sa,2,sc⟩ [p,q])) (hp:p.pl=true) (hq:q.pl=true) (e:Nat) (hw:WIn w (e+1) (.mk g qs)) (hs:∀ x∈qs,0≤x.f.rl) (r:Bool) (hr:iD p q g qs=r) :
  Calls prog 40 #[.agg #[.int .i64 5,.int .i64 0,.slice sa 2 sc],g.val] w (fun e w'=>e = .returned (.bool (r))∧Below w.heap.size w w'):=by
 refine cG (args:=[.agg #[.int .i64 5,.int .i64 0,.slice sa 2 sc],g.val]) func40 rfl ntmps40 rfl ?_;have hS:=St.start w;obtain ⟨_,b,off,ha,hb0,hp3,hq3,_,_⟩:=hsp.two;obtain rfl:sa=some ⟨b,off,none⟩:=ha;refine aO (aQ (bY (cs:=[_,_,_]) hS rfl rfl rfl fun B1 W1 hS=>bY (cs:=[_,_,_,_,_,_]) hS rfl rfl rfl fun B2 W2 hS=>aB rfl rfl (aP (XF.thenN (aO (aO (aQ (aN (o':=0) eF rfl rfl rfl (aR isAgg4 rfl (aK (hS.at_ 0 rfl) rfl) rfl (aP (XF.thenN (bB rfl (fun hc=>?_) (fun hc=>?_)))))))))))))
 ·have hc7:=hc;clear hc;refine aO (aQ (aN (o':=0) eS rfl rfl rfl (aR isAgg22 rfl (aK (hS.at_ 1 rfl) rfl) rfl (dG rfl rfl rfl (aH rfl rfl (cB (d:=11) rfl (fun hc=>absurd (of_decide_eq_true hc) (by decide)) (fun hc=>?_)))))));have hc:=of_decide_eq_false hc;refine aD (d:=11) rfl rfl rfl rfl (aD (d:=11) rfl rfl rfl rfl (bR rfl rfl rfl (aB rfl rfl (aP (XF.thenN (bL (XF.thenR (XF.res (cI results40 rfl) ?_))))))));exact ⟨bG (by rw [← hr];unfold iD;rw [show g.z=true from hc7];simp),hS.below⟩
 ·have hc7:=hc;clear hc;have hz0:g.z=false:=hc7;refine bP (XF.thenN (aO (aO (aQ (aN (o':=0) eS rfl rfl rfl (aR isAgg22 rfl (aK (hS.at_ 1 rfl) rfl) rfl (aP (XF.thenN (bX (aO (aQ (cR rfl rfl rfl (aB rfl rfl (aP (XF.thenN (bB rfl (fun hc=>absurd (of_decide_eq_true hc) (by decide)) (fun hc=>?_)))))))))))))))));have hc:=of_decide_eq_false hc;refine aO (aQ (cR rfl rfl rfl (aB rfl rfl (aP (XF.thenN (bB rfl (fun hc=>absurd (of_decide_eq_true hc) (by decide)) (fun hc=>?_)))))));have hc:=of_decide_eq_false hc;refine aO (aQ (cR rfl rfl rfl (aB rfl rfl (aP (XF.thenN (bB rfl (fun hc=>absurd (of_decide_eq_true hc) (by decide)) (fun hc=>?_)))))));have hc:=of_decide_eq_false hc;refine aO (aQ (cR rfl rfl rfl (aB rfl rfl (aP (XF.thenN (bB rfl (fun hc=>absurd (of_decide_eq_true hc) (by decide)) (fun hc=>?_)))))));have hc:=of_decide_eq_false hc;refine bP (XF.blkN (XF.thenN (aO ?_)));obtain ⟨on,hon⟩:∃ b,iR false false false true g=b:=⟨_,rfl⟩;have hbb:iS 5 g=on:=by rw [← hon];unfold iS;rw [hz0];simp
  rcases In p q g qs hw hz0 on with h1 | h1 | h1 | h1
  ·subst h1;refine iX (m:=31) cC hS (by kernel_rfl) (by kernel_rfl) rfl (cE 1 rfl 3 rfl rfl (fun w hw=>aY (vs:=[_,_,_,_,_,_]) isAgg46 sizeOf46 rfl (aC.agree (aL hw 0) (Nat.zero_le _) (aC.own (j:=0) (m:=6) (hS.at_ 0 rfl) rfl))) rfl ?_);refine aJ 2 rfl (isV (.bool false)) (aE _) (cN [isV _,isV _,isV _,isV _,isV _] rfl mN (aS rfl) ⟨bT (aM 0 (aA rfl rfl rfl)),gF,gF,gF,gF,trivial⟩ (fun vs w' hb hh=>by have e:=bW (us:=[_,_,_,_,_]) hh;subst e;exact (vA g _ hon _).mono fun e w2 h=>⟨_,h.1,rfl,h.2⟩) (aF rfl)) ?_;refine aZ 3 rfl 79 1 rfl rfl rfl (fun w hw=>aW rfl) rfl (aJ 4 rfl (isV undef) (aE _) (bI rfl (bK 80 rfl (aA rfl rfl rfl) rfl) (aF rfl)) (aJ 5 rfl (isV undef) (aE _) (bI rfl (bK 80 rfl (aA rfl rfl rfl) rfl) (aF rfl)) (aJ 6 rfl (isV undef) (aE _) (bI rfl (bK 80 rfl (aA rfl rfl rfl) rfl) (aF rfl)) (aJ 7 rfl (isV undef) (aE _) (bI rfl (bK 80 rfl (aA rfl rfl rfl) rfl) (aF rfl)) (aZ 8 rfl 80 2 rfl rfl rfl (fun w hw=>eD rfl rfl) rfl (aZ 9 rfl 85 7 rfl rfl rfl (fun w hw=>aW rfl) rfl (aJ 10 rfl (isV undef) (aE _) (bI rfl (bK 86 rfl (aA rfl rfl rfl) rfl) (aF rfl)) (aJ 11 rfl (isV undef) (aE _) (bI rfl (bK 86 rfl (aA rfl rfl rfl) rfl) (aF rfl)) (aJ 12 rfl (isV undef) (aE _) (bI rfl (bK 86 rfl (aA rfl rfl rfl) rfl) (aF rfl)) (aJ 13 rfl (isV undef) (aE _) (bI rfl (bK 86 rfl (aA rfl rfl rfl) rfl) (aF rfl)) (aJ 14 rfl (isV undef) (aE _) (bI rfl (bK 86 rfl (aA rfl rfl rfl) rfl) (aF rfl)) (aJ 15 rfl (isV undef) (aE _) (bI rfl (bK 86 rfl (aA rfl rfl rfl) rfl) (aF rfl)) (aJ 16 rfl (isV undef) (aE _) (bI rfl (bK 86 rfl (aA rfl rfl rfl) rfl) (aF rfl)) (aJ 17 rfl (isV undef) (aE _) (bI rfl (bK 86 rfl (aA rfl rfl rfl) rfl) (aF rfl)) (aJ 18 rfl (isV undef) (aE _) (bI rfl (bK 86 rfl (aA rfl rfl rfl) rfl) (aF rfl)) (aZ 19 rfl 86 8 rfl rfl rfl (fun w hw=>eD rfl rfl) rfl (aZ 20 rfl 96 18 rfl rfl rfl (fun w hw=>aW rfl) rfl (aJ 21 rfl (isV undef) (aE _) (bI rfl (bK 97 rfl (aA rfl rfl rfl) rfl) (aF rfl)) (aJ 22 rfl (isV undef) (aE _) (bI rfl (bK 97 rfl (aA rfl rfl rfl) rfl) (aF rfl)) (aJ 23 rfl (isV undef) (aE _) (bI rfl (bK 97 rfl (aA rfl rfl rfl) rfl) (aF rfl)) (aJ 24 rfl (isV undef) (aE _) (bI rfl (bK 97 rfl (aA rfl rfl rfl) rfl) (aF rfl)) (aJ 25 rfl (isV undef) (aE _) (bI rfl (bK 97 rfl (aA rfl rfl rfl) rfl) (aF rfl)) (aJ 26 rfl (isV undef) (aE _) (bI rfl (bK 97 rfl (aA rfl rfl rfl) rfl) (aF rfl)) (aJ 27 rfl (isV undef) (aE _) (bI rfl (bK 97 rfl (aA rfl rfl rfl) rfl) (aF rfl)) (aJ 28 rfl (isV undef) (aE _) (bI rfl (bK 97 rfl (aA rfl rfl rfl) rfl) (aF rfl)) (aJ 29 rfl (isV undef) (aE _) (bI rfl (bK 97 rfl (aA rfl rfl rfl) rfl) (aF rfl)) (aZ 30 rfl 97 19 rfl rfl rfl (fun w hw=>eD rfl rfl) rfl (aZ 31 rfl 107 29 rfl rfl rfl (fun w hw=>fU rfl) rfl (dI ?_)))))))))))))))))))))))))))));intro W3 hbR;clear hS;intro hS;refine aG (aG (aG (aG (aG (aG (aG (aG (aG (aG (aG (aG (aG (aG (aG (aG (aG (aG (aG (aG (aG (aG (aG (aG (aG (aG (aG (aG (aG (aG (aG (cM (XF.thenN ?_))))))))))))))))))))))))))))))));refine bL (XF.res (cI results40 rfl) ?_);exact ⟨bG (by rw [← hr];unfold iD;rw [hbb];rfl),hS.below⟩
  ·obtain ⟨h1,h2⟩:=h1;subst h1;refine iX (m:=31) cC hS (by kernel_rfl) (by kernel_rfl) rfl (cE 1 rfl 3 rfl rfl (fun w hw=>aY (vs:=[_,_,_,_,_,_]) isAgg46 sizeOf46 rfl (aC.agree (aL hw 0) (Nat.zero_le _) (aC.own (j:=0) (m:=6) (hS.at_ 0 rfl) rfl))) rfl ?_);refine aJ 2 rfl (isV (.bool true)) (aE _) (cN [isV _,isV _,isV _,isV _,isV _] rfl mN (aS rfl) ⟨bT (aM 0 (aA rfl rfl rfl)),gF,gF,gF,gF,trivial⟩ (fun vs w' hb hh=>by have e:=bW (us:=[_,_,_,_,_]) hh;subst e;exact (vA _ _ hon _).mono fun e w2 h=>⟨_,h.1,rfl,h.2⟩) (aF rfl)) ?_;refine aZ 3 rfl 79 1 rfl rfl rfl (fun w hw=>aW rfl) rfl (aJ 4 rfl (isV _) (aE _) (rgV (li:=[(3,_)]) rfl (bD 80 rfl (aA rfl rfl rfl)) ⟨cJ rfl,trivial⟩ (fun w hw=>aV (o':=5) dH rfl rfl) (aF rfl)) (aJ 5 rfl (isV _) (aE _) (rgV (li:=[(81,_)]) rfl (bD 80 rfl (aA rfl rfl rfl)) ⟨aM 3 (aA rfl rfl rfl),trivial⟩ (fun w hw=>bA isAgg44 rfl ((aL hw 0).cell (Nat.zero_le _) (aK (hS.at_ 0 rfl) rfl))) (aF rfl)) (aJ 6 rfl (isV _) (aE _) (rgV (li:=[(82,_)]) rfl (bD 80 rfl (aA rfl rfl rfl)) ⟨aM 4 (aA rfl rfl rfl),trivial⟩ (fun w hw=>lF underlying44 rfl) (aF rfl)) (aJ 7 rfl (isV (.bool false)) (aE _) (lG (li:=[(83,_)]) rfl (bD 80 rfl (aA rfl rfl rfl)) ⟨aM 5 (aA rfl rfl rfl),trivial⟩ (fun w hw=>rA rfl rfl) (by rw [decide_eq_false (by omega)]) (aF rfl)) (aJ 8 rfl (isV _) (aE _) (rgV (li:=[(80,_),(84,_)]) rfl (aS rfl) ⟨aM 2 (aA rfl rfl rfl),aM 6 (aA rfl rfl rfl),trivial⟩ (fun w hw=>eC rfl rfl) (aF rfl)) (aZ 9 rfl 85 7 rfl rfl rfl (fun w hw=>aW rfl) rfl (aJ 10 rfl (isV undef) (aE _) (bI rfl (bK 86 rfl (aA rfl rfl rfl) rfl) (aF rfl)) (aJ 11 rfl (isV undef) (aE _) (bI rfl (bK 86 rfl (aA rfl rfl rfl) rfl) (aF rfl)) (aJ 12 rfl (isV undef) (aE _) (bI rfl (bK 86 rfl (aA rfl rfl rfl) rfl) (aF rfl)) (aJ 13 rfl (isV undef) (aE _) (bI rfl (bK 86 rfl (aA rfl rfl rfl) rfl) (aF rfl)) (aJ 14 rfl (isV undef) (aE _) (bI rfl (bK 86 rfl (aA rfl rfl rfl) rfl) (aF rfl)) (aJ 15 rfl (isV undef) (aE _) (bI rfl (bK 86 rfl (aA rfl rfl rfl) rfl) (aF rfl)) (aJ 16 rfl (isV undef) (aE _) (bI rfl (bK 86 rfl (aA rfl rfl rfl) rfl) (aF rfl)) (aJ 17 rfl (isV undef) (aE _) (bI rfl (bK 86 rfl (aA rfl rfl rfl) rfl) (aF rfl)) (aJ 18 rfl (isV undef) (aE _) (bI rfl (bK 86 rfl (aA rfl rfl rfl) rfl) (aF rfl)) (aZ 19 rfl 86 8 rfl rfl rfl (fun w hw=>eD rfl rfl) rfl (aZ 20 rfl 96 18 rfl rfl rfl (fun w hw=>aW rfl) rfl (aJ 21 rfl (isV undef) (aE _) (bI rfl (bK 97 rfl (aA rfl rfl rfl) rfl) (aF rfl)) (aJ 22 rfl (isV undef) (aE _) (bI rfl (bK 97 rfl (aA rfl rfl rfl) rfl) (aF rfl)) (aJ 23 rfl (isV undef) (aE _) (bI rfl (bK 97 rfl (aA rfl rfl rfl) rfl) (aF rfl)) (aJ 24 rfl (isV undef) (aE _) (bI rfl (bK 97 rfl (aA rfl rfl rfl) rfl) (aF rfl)) (aJ 25 rfl (isV undef) (aE _) (bI rfl (bK 97 rfl (aA rfl rfl rfl) rfl) (aF rfl)) (aJ 26 rfl (isV undef) (aE _) (bI rfl (bK 97 rfl (aA rfl rfl rfl) rfl) (aF rfl)) (aJ 27 rfl (isV undef) (aE _) (bI rfl (bK 97 rfl (aA rfl rfl rfl) rfl) (aF rfl)) (aJ 28 rfl (isV undef) (aE _) (bI rfl (bK 97 rfl (aA rfl rfl rfl) rfl) (aF rfl)) (aJ 29 rfl (isV undef) (aE _) (bI rfl (bK 97 rfl (aA rfl rfl rfl) rfl) (aF rfl)) (aZ 30 rfl 97 19 rfl rfl rfl (fun w hw=>eD rfl rfl) rfl (aZ 31 rfl 107 29 rfl rfl rfl (fun w hw=>fU rfl) rfl (dI ?_)))))))))))))))))))))))))))));intro W4 hbR;clear hS;intro hS;refine aG (aG (aG (aG (aG (aG (aG (aG (aG (aG (aG (aG (aG (aG (aG (aG (aG (aG (aG (aG (aG (aG (aG (aG (aG (aG (aG (aG (aG (aG (aG (cM (XF.thenN ?_))))))))))))))))))))))))))))))));refine bL (XF.res (cI results40 rfl) ?_);exact ⟨bG (by rw [← hr];unfold iD;rw [hbb,hz0,show decide (qs.length=2)=false from decide_eq_false (by have h9:qs.length=g.pl:=hw.2.1;omega)];rfl),hS.below⟩
  ·obtain ⟨h0,h1⟩:=h1;subst h0;obtain ⟨x,y,hz,rfl,hx1⟩:=h1;obtain ⟨hpl,b2,off2,hpa,hb2,hx6,hy6,hxi,hyi⟩:=hw.two;obtain ⟨gz,gc,gg,gra,grl,grc,grows,gca,gcl,gcc,gcells,gpa,gpl,gpc⟩:=g;dsimp only at hpl hpa hz;subst hpl;subst hpa;refine iX (m:=31) cC hS (by kernel_rfl) (by kernel_rfl) rfl (cE 1 rfl 3 rfl rfl (fun w hw=>aY (vs:=[_,_,_,_,_,_]) isAgg46 sizeOf46 rfl (aC.agree (aL hw 0) (Nat.zero_le _) (aC.own (j:=0) (m:=6) (hS.at_ 0 rfl) rfl))) rfl ?_);refine aJ 2 rfl (isV (.bool true)) (aE _) (cN [isV _,isV _,isV _,isV _,isV _] rfl mN (aS rfl) ⟨bT (aM 0 (aA rfl rfl rfl)),gF,gF,gF,gF,trivial⟩ (fun vs w' hb hh=>by have e:=bW (us:=[_,_,_,_,_]) hh;subst e;exact (vA _ _ hon _).mono fun e w2 h=>⟨_,h.1,rfl,h.2⟩) (aF rfl)) ?_;refine aZ 3 rfl 79 1 rfl rfl rfl (fun w hw=>aW rfl) rfl (aJ 4 rfl (isV _) (aE _) (rgV (li:=[(3,_)]) rfl (bD 80 rfl (aA rfl rfl rfl)) ⟨cJ rfl,trivial⟩ (fun w hw=>aV (o':=5) dH rfl rfl) (aF rfl)) (aJ 5 rfl (isV _) (aE _) (rgV (li:=[(81,_)]) rfl (bD 80 rfl (aA rfl rfl rfl)) ⟨aM 3 (aA rfl rfl rfl),trivial⟩ (fun w hw=>bA isAgg44 rfl ((aL hw 0).cell (Nat.zero_le _) (aK (hS.at_ 0 rfl) rfl))) (aF rfl)) (aJ 6 rfl (isV _) (aE _) (rgV (li:=[(82,_)]) rfl (bD 80 rfl (aA rfl rfl rfl)) ⟨aM 4 (aA rfl rfl rfl),trivial⟩ (fun w hw=>lF underlying44 rfl) (aF rfl)) (aJ 7 rfl (isV (.bool true)) (aE _) (lG (li:=[(83,_)]) rfl (bD 80 rfl (aA rfl rfl rfl)) ⟨aM 5 (aA rfl rfl rfl),trivial⟩ (fun w hw=>rA rfl rfl) (rfl) (aF rfl)) (aJ 8 rfl (isV _) (aE _) (rgV (li:=[(80,_),(84,_)]) rfl (aS rfl) ⟨aM 2 (aA rfl rfl rfl),aM 6 (aA rfl rfl rfl),trivial⟩ (fun w hw=>eC rfl rfl) (aF rfl)) (aZ 9 rfl 85 7 rfl rfl rfl (fun w hw=>aW rfl) rfl (aJ 10 rfl (isV _) (aE _) (rgV (li:=[(2,_)]) rfl (bD 86 rfl (aA rfl rfl rfl)) ⟨cJ rfl,trivial⟩ (fun w hw=>aV (o':=2) dW rfl rfl) (aF rfl)) (aJ 11 rfl (isV _) (aE _) (rgV (li:=[(87,_)]) rfl (bD 86 rfl (aA rfl rfl rfl)) ⟨aM 9 (aA rfl rfl rfl),trivial⟩ (fun w hw=>bA isAgg23 rfl ((aL hw 0).cell (Nat.zero_le _) (aK (hS.at_ 1 rfl) rfl))) (aF rfl)) ?_))))))));refine aJ 12 rfl (isV _) (aE _) (rgV (li:=[(88,_)]) rfl (bD 86 rfl (aA rfl rfl rfl)) ⟨aM 10 (aA rfl rfl rfl),trivial⟩ (fun w hw=>bE (j:=0) underlying23 sizeOf25 rfl rfl rfl (by show _ < 2;decide) (Nat.add_zero _)) (aF rfl)) ?_;refine aJ 13 rfl (isV _) (aE _) (rgV (li:=[(89,_)]) rfl (bD 86 rfl (aA rfl rfl rfl)) ⟨aM 11 (aA rfl rfl rfl),trivial⟩ (fun w hw=>aY (vs:=[_,_,_]) isAgg25 sizeOf25 rfl (aC.agree (aL hw 0) (Nat.zero_le _) (aC.agree hS.agree (Nat.zero_le _) hp3.cells))) (aF rfl)) (aJ 14 rfl (isV _) (aE _) (rgV (li:=[(3,_)]) rfl (bD 86 rfl (aA rfl rfl rfl)) ⟨cJ rfl,trivial⟩ (fun w hw=>aV (o':=5) dH rfl rfl) (aF rfl)) (aJ 15 rfl (isV _) (aE _) (rgV (li:=[(91,_)]) rfl (bD 86 rfl (aA rfl rfl rfl)) ⟨aM 13 (aA rfl rfl rfl),trivial⟩ (fun w hw=>bA isAgg44 rfl ((aL hw 0).cell (Nat.zero_le _) (aK (hS.at_ 0 rfl) rfl))) (aF rfl)) ?_));refine aJ 16 rfl (isV _) (aE _) (rgV (li:=[(92,_)]) rfl (bD 86 rfl (aA rfl rfl rfl)) ⟨aM 14 (aA rfl rfl rfl),trivial⟩ (fun w hw=>bE (j:=0) underlying44 sizeOf46 rfl rfl rfl (by show _ < 2;decide) (Nat.add_zero _)) (aF rfl)) ?_;refine aJ 17 rfl (isV _) (aE _) (rgV (li:=[(93,_)]) rfl (bD 86 rfl (aA rfl rfl rfl)) ⟨aM 15 (aA rfl rfl rfl),trivial⟩ (fun w hw=>aY (vs:=[_,_,_,_,_,_]) isAgg46 sizeOf46 rfl (aC.agree (aL hw 0) (Nat.zero_le _) (aC.agree hS.agree (Nat.zero_le _) hx6.cells))) (aF rfl)) ?_;refine aJ 18 rfl (isV (.bool false)) (aE _) (cN [isV _,isV _] rfl yW (bD 86 rfl (aA rfl rfl rfl)) ⟨bT (aM 12 (aA rfl rfl rfl)),bT (aM 16 (aA rfl rfl rfl)),trivial⟩ (fun vs w' hb hh=>by have e:=bW (us:=[_,_]) hh;subst e;exact (pU p.f.tag p.f.dim p.f.a p.f.len p.f.cap x.f hp (Nat.zero_le _) _ (hxi.at_.below (hS.below.trans (hb.mono hS.below.size))) _ hx1).mono fun e w2 h=>⟨_,h.1,rfl,h.2⟩) (aF rfl)) ?_
   refine aJ 19 rfl (isV _) (aE _) (rgV (li:=[(86,_),(95,_)]) rfl (aS rfl) ⟨aM 8 (aA rfl rfl rfl),aM 17 (aA rfl rfl rfl),trivial⟩ (fun w hw=>eC rfl rfl) (aF rfl)) (aZ 20 rfl 96 18 rfl rfl rfl (fun w hw=>aW rfl) rfl (aJ 21 rfl (isV undef) (aE _) (bI rfl (bK 97 rfl (aA rfl rfl rfl) rfl) (aF rfl)) (aJ 22 rfl (isV undef) (aE _) (bI rfl (bK 97 rfl (aA rfl rfl rfl) rfl) (aF rfl)) (aJ 23 rfl (isV undef) (aE _) (bI rfl (bK 97 rfl (aA rfl rfl rfl) rfl) (aF rfl)) (aJ 24 rfl (isV undef) (aE _) (bI rfl (bK 97 rfl (aA rfl rfl rfl) rfl) (aF rfl)) (aJ 25 rfl (isV undef) (aE _) (bI rfl (bK 97 rfl (aA rfl rfl rfl) rfl) (aF rfl)) (aJ 26 rfl (isV undef) (aE _) (bI rfl (bK 97 rfl (aA rfl rfl rfl) rfl) (aF rfl)) (aJ 27 rfl (isV undef) (aE _) (bI rfl (bK 97 rfl (aA rfl rfl rfl) rfl) (aF rfl)) (aJ 28 rfl (isV undef) (aE _) (bI rfl (bK 97 rfl (aA rfl rfl rfl) rfl) (aF rfl)) (aJ 29 rfl (isV undef) (aE _) (bI rfl (bK 97 rfl (aA rfl rfl rfl) rfl) (aF rfl)) (aZ 30 rfl 97 19 rfl rfl rfl (fun w hw=>eD rfl rfl) rfl (aZ 31 rfl 107 29 rfl rfl rfl (fun w hw=>fU rfl) rfl (dI ?_)))))))))))));intro W5 hbR;clear hS;intro hS;refine aG (aG (aG (aG (aG (aG (aG (aG (aG (aG (aG (aG (aG (aG (aG (aG (aG (aG (aG (aG (aG (aG (aG (aG (aG (aG (aG (aG (aG (aG (aG (cM (XF.thenN ?_))))))))))))))))))))))))))))))));refine bL (XF.res (cI results40 rfl) ?_);exact ⟨bG (by rw [← hr];unfold iD;rw [hbb];show _=(true && (!gz && (true && (fO p.f.tag p.f.dim x.f && fO q.f.tag q.f.dim y.f))));rw [hz,hx1];rfl),hS.below⟩
  ·obtain ⟨h0,h1⟩:=h1;subst h0;obtain ⟨x,y,hz,rfl,hx1⟩:=h1;obtain ⟨hpl,b2,off2,hpa,hb2,hx6,hy6,hxi,hyi⟩:=hw.two;obtain ⟨gz,gc,gg,gra,grl,grc,grows,gca,gcl,gcc,gcells,gpa,gpl,gpc⟩:=g;dsimp only at hpl hpa hz;subst hpl;subst hpa;refine iX (m:=31) cC hS (by kernel_rfl) (by kernel_rfl) rfl (cE 1 rfl 3 rfl rfl (fun w hw=>aY (vs:=[_,_,_,_,_,_]) isAgg46 sizeOf46 rfl (aC.agree (aL hw 0) (Nat.zero_le _) (aC.own (j:=0) (m:=6) (hS.at_ 0 rfl) rfl))) rfl ?_);refine aJ 2 rfl (isV (.bool true)) (aE _) (cN [isV _,isV _,isV _,isV _,isV _] rfl mN (aS rfl) ⟨bT (aM 0 (aA rfl rfl rfl)),gF,gF,gF,gF,trivial⟩ (fun vs w' hb hh=>by have e:=bW (us:=[_,_,_,_,_]) hh;subst e;exact (vA _ _ hon _).mono fun e w2 h=>⟨_,h.1,rfl,h.2⟩) (aF rfl)) ?_;refine aZ 3 rfl 79 1 rfl rfl rfl (fun w hw=>aW rfl) rfl (aJ 4 rfl (isV _) (aE _) (rgV (li:=[(3,_)]) rfl (bD 80 rfl (aA rfl rfl rfl)) ⟨cJ rfl,trivial⟩ (fun w hw=>aV (o':=5) dH rfl rfl) (aF rfl)) (aJ 5 rfl (isV _) (aE _) (rgV (li:=[(81,_)]) rfl (bD 80 rfl (aA rfl rfl rfl)) ⟨aM 3 (aA rfl rfl rfl),trivial⟩ (fun w hw=>bA isAgg44 rfl ((aL hw 0).cell (Nat.zero_le _) (aK (hS.at_ 0 rfl) rfl))) (aF rfl)) (aJ 6 rfl (isV _) (aE _) (rgV (li:=[(82,_)]) rfl (bD 80 rfl (aA rfl rfl rfl)) ⟨aM 4 (aA rfl rfl rfl),trivial⟩ (fun w hw=>lF underlying44 rfl) (aF rfl)) (aJ 7 rfl (isV (.bool true)) (aE _) (lG (li:=[(83,_)]) rfl (bD 80 rfl (aA rfl rfl rfl)) ⟨aM 5 (aA rfl rfl rfl),trivial⟩ (fun w hw=>rA rfl rfl) (rfl) (aF rfl)) (aJ 8 rfl (isV _) (aE _) (rgV (li:=[(80,_),(84,_)]) rfl (aS rfl) ⟨aM 2 (aA rfl rfl rfl),aM 6 (aA rfl rfl rfl),trivial⟩ (fun w hw=>eC rfl rfl) (aF rfl)) (aZ 9 rfl 85 7 rfl rfl rfl (fun w hw=>aW rfl) rfl (aJ 10 rfl (isV _) (aE _) (rgV (li:=[(2,_)]) rfl (bD 86 rfl (aA rfl rfl rfl)) ⟨cJ rfl,trivial⟩ (fun w hw=>aV (o':=2) dW rfl rfl) (aF rfl)) (aJ 11 rfl (isV _) (aE _) (rgV (li:=[(87,_)]) rfl (bD 86 rfl (aA rfl rfl rfl)) ⟨aM 9 (aA rfl rfl rfl),trivial⟩ (fun w hw=>bA isAgg23 rfl ((aL hw 0).cell (Nat.zero_le _) (aK (hS.at_ 1 rfl) rfl))) (aF rfl)) ?_))))))));refine aJ 12 rfl (isV _) (aE _) (rgV (li:=[(88,_)]) rfl (bD 86 rfl (aA rfl rfl rfl)) ⟨aM 10 (aA rfl rfl rfl),trivial⟩ (fun w hw=>bE (j:=0) underlying23 sizeOf25 rfl rfl rfl (by show _ < 2;decide) (Nat.add_zero _)) (aF rfl)) ?_;refine aJ 13 rfl (isV _) (aE _) (rgV (li:=[(89,_)]) rfl (bD 86 rfl (aA rfl rfl rfl)) ⟨aM 11 (aA rfl rfl rfl),trivial⟩ (fun w hw=>aY (vs:=[_,_,_]) isAgg25 sizeOf25 rfl (aC.agree (aL hw 0) (Nat.zero_le _) (aC.agree hS.agree (Nat.zero_le _) hp3.cells))) (aF rfl)) (aJ 14 rfl (isV _) (aE _) (rgV (li:=[(3,_)]) rfl (bD 86 rfl (aA rfl rfl rfl)) ⟨cJ rfl,trivial⟩ (fun w hw=>aV (o':=5) dH rfl rfl) (aF rfl)) (aJ 15 rfl (isV _) (aE _) (rgV (li:=[(91,_)]) rfl (bD 86 rfl (aA rfl rfl rfl)) ⟨aM 13 (aA rfl rfl rfl),trivial⟩ (fun w hw=>bA isAgg44 rfl ((aL hw 0).cell (Nat.zero_le _) (aK (hS.at_ 0 rfl) rfl))) (aF rfl)) ?_));refine aJ 16 rfl (isV _) (aE _) (rgV (li:=[(92,_)]) rfl (bD 86 rfl (aA rfl rfl rfl)) ⟨aM 14 (aA rfl rfl rfl),trivial⟩ (fun w hw=>bE (j:=0) underlying44 sizeOf46 rfl rfl rfl (by show _ < 2;decide) (Nat.add_zero _)) (aF rfl)) ?_;refine aJ 17 rfl (isV _) (aE _) (rgV (li:=[(93,_)]) rfl (bD 86 rfl (aA rfl rfl rfl)) ⟨aM 15 (aA rfl rfl rfl),trivial⟩ (fun w hw=>aY (vs:=[_,_,_,_,_,_]) isAgg46 sizeOf46 rfl (aC.agree (aL hw 0) (Nat.zero_le _) (aC.agree hS.agree (Nat.zero_le _) hx6.cells))) (aF rfl)) ?_;refine aJ 18 rfl (isV (.bool true)) (aE _) (cN [isV _,isV _] rfl yW (bD 86 rfl (aA rfl rfl rfl)) ⟨bT (aM 12 (aA rfl rfl rfl)),bT (aM 16 (aA rfl rfl rfl)),trivial⟩ (fun vs w' hb hh=>by have e:=bW (us:=[_,_]) hh;subst e;exact (pU p.f.tag p.f.dim p.f.a p.f.len p.f.cap x.f hp (Nat.zero_le _) _ (hxi.at_.below (hS.below.trans (hb.mono hS.below.size))) _ hx1).mono fun e w2 h=>⟨_,h.1,rfl,h.2⟩) (aF rfl)) ?_
   refine aJ 19 rfl (isV _) (aE _) (rgV (li:=[(86,_),(95,_)]) rfl (aS rfl) ⟨aM 8 (aA rfl rfl rfl),aM 17 (aA rfl rfl rfl),trivial⟩ (fun w hw=>eC rfl rfl) (aF rfl)) (aZ 20 rfl 96 18 rfl rfl rfl (fun w hw=>aW rfl) rfl (aJ 21 rfl (isV _) (aE _) (rgV (li:=[(2,_)]) rfl (bD 97 rfl (aA rfl rfl rfl)) ⟨cJ rfl,trivial⟩ (fun w hw=>aV (o':=2) dW rfl rfl) (aF rfl)) (aJ 22 rfl (isV _) (aE _) (rgV (li:=[(98,_)]) rfl (bD 97 rfl (aA rfl rfl rfl)) ⟨aM 20 (aA rfl rfl rfl),trivial⟩ (fun w hw=>bA isAgg23 rfl ((aL hw 0).cell (Nat.zero_le _) (aK (hS.at_ 1 rfl) rfl))) (aF rfl)) ?_)));refine aJ 23 rfl (isV _) (aE _) (rgV (li:=[(99,_)]) rfl (bD 97 rfl (aA rfl rfl rfl)) ⟨aM 21 (aA rfl rfl rfl),trivial⟩ (fun w hw=>bE (j:=1) underlying23 sizeOf25 rfl rfl rfl (by show _ < 2;decide) rfl) (aF rfl)) ?_;refine aJ 24 rfl (isV _) (aE _) (rgV (li:=[(100,_)]) rfl (bD 97 rfl (aA rfl rfl rfl)) ⟨aM 22 (aA rfl rfl rfl),trivial⟩ (fun w hw=>aY (vs:=[_,_,_]) isAgg25 sizeOf25 rfl (aC.agree (aL hw 0) (Nat.zero_le _) (aC.agree hS.agree (Nat.zero_le _) hq3.cells))) (aF rfl)) (aJ 25 rfl (isV _) (aE _) (rgV (li:=[(3,_)]) rfl (bD 97 rfl (aA rfl rfl rfl)) ⟨cJ rfl,trivial⟩ (fun w hw=>aV (o':=5) dH rfl rfl) (aF rfl)) (aJ 26 rfl (isV _) (aE _) (rgV (li:=[(102,_)]) rfl (bD 97 rfl (aA rfl rfl rfl)) ⟨aM 24 (aA rfl rfl rfl),trivial⟩ (fun w hw=>bA isAgg44 rfl ((aL hw 0).cell (Nat.zero_le _) (aK (hS.at_ 0 rfl) rfl))) (aF rfl)) ?_));refine aJ 27 rfl (isV _) (aE _) (rgV (li:=[(103,_)]) rfl (bD 97 rfl (aA rfl rfl rfl)) ⟨aM 25 (aA rfl rfl rfl),trivial⟩ (fun w hw=>bE (j:=1) underlying44 sizeOf46 rfl rfl rfl (by show _ < 2;decide) rfl) (aF rfl)) ?_;refine aJ 28 rfl (isV _) (aE _) (rgV (li:=[(104,_)]) rfl (bD 97 rfl (aA rfl rfl rfl)) ⟨aM 26 (aA rfl rfl rfl),trivial⟩ (fun w hw=>aY (vs:=[_,_,_,_,_,_]) isAgg46 sizeOf46 rfl (aC.agree (aL hw 0) (Nat.zero_le _) (aC.agree hS.agree (Nat.zero_le _) hy6.cells))) (aF rfl)) ?_;refine aJ 29 rfl (isV (.bool (fO q.f.tag q.f.dim y.f))) (aE _) (cN [isV _,isV _] rfl yW (bD 97 rfl (aA rfl rfl rfl)) ⟨bT (aM 23 (aA rfl rfl rfl)),bT (aM 27 (aA rfl rfl rfl)),trivial⟩ (fun vs w' hb hh=>by have e:=bW (us:=[_,_]) hh;subst e;exact (pU q.f.tag q.f.dim q.f.a q.f.len q.f.cap y.f hq (Nat.zero_le _) _ (hyi.at_.below (hS.below.trans (hb.mono hS.below.size))) _ rfl).mono fun e w2 h=>⟨_,h.1,rfl,h.2⟩) (aF rfl)) ?_;refine aJ 30 rfl (isV _) (aE _) (rgV (li:=[(97,_),(106,_)]) rfl (aS rfl) ⟨aM 19 (aA rfl rfl rfl),aM 28 (aA rfl rfl rfl),trivial⟩ (fun w hw=>eC rfl rfl) (aF rfl)) (aZ 31 rfl 107 29 rfl rfl rfl (fun w hw=>fU rfl) rfl (dI ?_));intro W6 hbR;clear hS;intro hS;refine aG (aG (aG (aG (aG (aG (aG (aG (aG (aG (aG (aG (aG (aG (aG (aG (aG (aG (aG (aG (aG (aG (aG (aG (aG (aG (aG (aG (aG (aG (aG (cM (XF.thenN ?_))))))))))))))))))))))))))))))));refine bL (XF.res (cI results40 rfl) ?_);exact ⟨bG (by rw [← hr];unfold iD;rw [hbb];show _=(true && (!gz && (true && (fO p.f.tag p.f.dim x.f && fO q.f.tag q.f.dim y.f))));rw [hz,hx1];rfl),hS.below⟩
attribute [local go_sem ↓] Go.wp_at_zero Go.wp_at_succ
theorem xX {w:World} {base:Nat} {v:Value} {n:Nat} {rows:List Nat} (h:w.ownsRow base 39 1 v n (u64s rows)) :
  n=rows.length∧∃ a cap,v = .slice a n cap∧fL w a (u64s rows)∧∀ ad,a=some ad→base≤ad.block:=by
 have hl:=h.1;rw [fV] at hl;refine ⟨by omega,?_⟩;rcases h.2 with ⟨rfl,hn⟩ | ⟨g,cap,cur,rfl,hg,hh,h1,h2,h3,h4⟩
 ·have:rows=[]:=List.length_eq_zero_iff.1 (by omega)
  subst this;exact ⟨none,0,by rw [hn],.inl rfl,fun ad e=>by cases e⟩
 ·refine ⟨some ⟨g,0,none⟩,cap,rfl,.inr ⟨g,0,rfl,fun i u hi=>?_⟩,fun ad e=>by cases e;exact hg⟩;rw [← h4] at hi;rw [List.getElem?_take] at hi;split at hi
  ·unfold World.cell?;simp only [hh,Nat.zero_add];simpa using hi
  ·cases hi
theorem PIs.rows64 {w:World} {t n:Int} {l:Nat} {f:WF} {a:PF} (h:PIs w t n f a):f.rl≤64∧f.cl≤64:=by
 have h1:=h.at_.rl;have h2:=h.at_.cl;have h3:=h.pf;have h4:=h.ok;subst h3;unfold WF.pf at h4;generalize hr:f.rows=rows at *;generalize hc:f.cells=cells at *;generalize f.g=g at *;generalize f.z=z at *;generalize f.c=c at *;have key:rows.length≤64∧cells.length≤64:=by
  generalize hp:(⟨z,c,g,rows,cells⟩:PF)=p at h4;cases h4 with
  | zero=>cases hp;exact ⟨by decide,by decide⟩
  | bool h=>cases hp;exact ⟨by decide,by decide⟩
  | cost c h h0 h1=>cases hp;exact ⟨by decide,by decide⟩
  | facts m g rows h hn hg=>cases hp;exact ⟨by rw [hg.hl];exact hg.hm,by decide⟩
  | cells m cs h hn hv=>cases hp;exact ⟨by decide,by rw [hv.len];exact hv.le⟩
 omega
theorem D6 (a:Option Addr) (cap:Nat) (cs:List Cl) (w:World) (hm:cs.length≤64) (hrow:fA w a cs) (n:Nat) (hn:cs.length=n) :
  Calls prog 119 #[.slice a n cap] w fun e w'=>∃ a2 c2,e = .returned (.slice a2 n c2)∧fA w' a2 cs∧(∀ ad,a2=some ad→w.heap.size≤ad.block)∧Below w.heap.size w w':=by
 subst hn;refine (Da a cap cs w hm hrow).mono ?_;rintro e w' ⟨v,rfl,hown,hb⟩;obtain ⟨_,a2,c2,rfl,hr,hl⟩:=jQ hown;exact ⟨a2,c2,rfl,hr,fun ad e=>(hl ad e).1,hb⟩
theorem kR (t n:Int) (f:WF) (x:PF) (w:World) (h:PIs w t n f x) :
  Calls prog 102 #[f.val] w fun e w'=>∃ g:WF,e = .returned g.val∧PNew w.heap.size w' t n g x∧Below w.heap.size w w':=by
 obtain ⟨r64,c64⟩:=h.rows64 (l:=0);have HI:=Lib.hid h;have hrl:=h.at_.rl;have hcl:=h.at_.cl;have hpl:=h.pl;obtain ⟨z,c,g,ra,rl,rc,rows,ca,cl,cc,cells,pa,pl,pc⟩:=f;dsimp only at hrl hcl hpl r64 c64;subst hpl;show Calls prog 102 #[.agg #[.bool z,.int .i64 c,.int .u64 (g:Int),.slice ra rl rc,.slice ca cl cc,.slice pa 0 pc]] w _;have HRL:=Lib.hid hrl;have HCL:=Lib.hid hcl;obtain ⟨t0,t1⟩:=nA w #[.bool z,.int .i64 c,.int .u64 (g:Int),.slice ra rl rc,.slice ca cl cc,.slice pa 0 pc] #[.bool false,.int .i64 0,.int .u64 0,.slice none 0 0,.slice none 0 0,.slice none 0 0] 46 46;have T0:=Lib.hid t0;have T1:=Lib.hid t1;have hB:=Lib.hid (Rj w #[.bool z,.int .i64 c,.int .u64 (g:Int),.slice ra rl rc,.slice ca cl cc,.slice pa 0 pc] #[.bool false,.int .i64 0,.int .u64 0,.slice none 0 0,.slice none 0 0,.slice none 0 0] 46 46);have hsz:((w.alloc (.cells #[.bool z,.int .i64 c,.int .u64 (g:Int),.slice ra rl rc,.slice ca cl cc,.slice pa 0 pc] 46)).alloc (.cells #[.bool false,.int .i64 0,.int .u64 0,.slice none 0 0,.slice none 0 0,.slice none 0 0] 46)).heap.size=w.heap.size+1+1:=by simp
 obtain ⟨W0,hW0⟩:∃ W,(w.alloc (.cells #[.bool z,.int .i64 c,.int .u64 (g:Int),.slice ra rl rc,.slice ca cl cc,.slice pa 0 pc] 46)).alloc (.cells #[.bool false,.int .i64 0,.int .u64 0,.slice none 0 0,.slice none 0 0,.slice none 0 0] 46)=W:=⟨_,rfl⟩;rw [hW0] at hB T0 T1 hsz;have HSZ:=Lib.hid hsz;obtain ⟨x0,x1,x2,x3,x4,x5⟩:=eZ T0.out;have HAT:Hid (WF.At w ⟨z,c,g,ra,rl,rc,rows,ca,cl,cc,cells,pa,0,pc⟩):=h.at_;have R64:=Lib.hid r64;have C64:=Lib.hid c64;clear t0 t1 hsz h hrl hcl r64 c64;go_enter func102,ntmps102;go_wp2_with fail;refine (zO ra rc rows _ (by rw [HRL.out];exact Nat.le_trans R64.out (by decide)) (HAT.out.rows.below hB.out) rl HRL.out).mono ?_;rintro e w1 ⟨v,rfl,hown,hb1⟩;obtain ⟨a1,c1,rfl,hv1,hl1⟩:=(xX hown).2;have HV1:=Lib.hid hv1;have HL1:=Lib.hid hl1;clear hown hv1 hl1 x0 x1 x2 x3 x4 x5;have U0:=Lib.hid (cP T0.out hb1);have U1:=Lib.hid (cP T1.out hb1);have hB1:=Lib.hid (hB.out.trans (hb1.mono hB.out.size));obtain ⟨x0,x1,x2,x3,x4,x5⟩:=eZ U0.out;have f3:=eK U0.out 3;have V0:=Lib.hid (heap_setCell_same w1 w.heap.size 3 _ _ (.slice a1 rl c1) U0.out);have hne:w.heap.size+1≠w.heap.size:=by omega
 have V1:=Lib.hid (dS (B:=w.heap.size) (j:=3) (c:=.slice a1 rl c1) U1.out hne);have hB2:=Lib.hid (hB1.out.setCell (p:=⟨w.heap.size,3,none⟩) (Nat.le_refl _) (.slice a1 rl c1));have hs1:W0.heap.size≤(w1.setCell ⟨w.heap.size,3,none⟩ (.slice a1 rl c1)).heap.size:=by simpa [World.setCell] using hb1.size
 have HS1:=Lib.hid hs1;obtain ⟨W1,hW1⟩:∃ W,w1.setCell ⟨w.heap.size,3,none⟩ (.slice a1 rl c1)=W:=⟨_,rfl⟩;have HA1:=Lib.hid (HV1.out.above HL1.out ((kP.refl W0.heap.size w1).setCell (p:=⟨w.heap.size,3,none⟩) (by have:=HSZ.out;show w.heap.size < _;omega) (.slice a1 rl c1)));rw [hW1] at V0 V1 hB2 HS1 HA1;clear hs1 hne x0 x1 x2 x4 x5;obtain ⟨y0,y1,y2,y3,y4,y5⟩:=eZ V0.out;go_wp2_with fail;refine (D6 ca cc cells _ (by rw [HCL.out];exact C64.out) (HAT.out.cells.below hB2.out) cl HCL.out).mono ?_;rintro e w2 ⟨a2,c2,rfl,hv2,hl2,hb2⟩;have HV2:=Lib.hid hv2;have HL2:=Lib.hid hl2;clear hv2 hl2 x3 y0 y1 y2 y3 y4 y5 f3;have Y0:=Lib.hid (cP V0.out hb2);have Y1:=Lib.hid (cP V1.out hb2);obtain ⟨x0,x1,x2,x3,x4,x5⟩:=eZ Y0.out;have f4:=eK Y0.out 4;have hB3:=Lib.hid (hB2.out.trans (hb2.mono hB2.out.size));have Z0:=Lib.hid (heap_setCell_same w2 w.heap.size 4 _ _ (.slice a2 cl c2) Y0.out);have hne:w.heap.size+1≠w.heap.size:=by omega
 have Z1:=Lib.hid (dS (B:=w.heap.size) (j:=4) (c:=.slice a2 cl c2) Y1.out hne);have hB4:=Lib.hid (hB3.out.setCell (p:=⟨w.heap.size,4,none⟩) (Nat.le_refl _) (.slice a2 cl c2));have HR1:=Lib.hid ((HA1.out.below hb2).above HL1.out ((kP.refl W0.heap.size w2).setCell (p:=⟨w.heap.size,4,none⟩) (by have:=HSZ.out;show w.heap.size < _;omega) (.slice a2 cl c2)));have HL3:Hid (∀ ad,a2=some ad→W0.heap.size≤ad.block):=fun ad e=>Nat.le_trans HS1.out (HL2.out ad e)
 have HR2:=Lib.hid (HV2.out.above HL3.out ((kP.refl W0.heap.size w2).setCell (p:=⟨w.heap.size,4,none⟩) (by have:=HSZ.out;show w.heap.size < _;omega) (.slice a2 cl c2)));obtain ⟨W2,hW2⟩:∃ W,w2.setCell ⟨w.heap.size,4,none⟩ (.slice a2 cl c2)=W:=⟨_,rfl⟩;rw [hW2] at Z0 Z1 hB4 HR1 HR2;clear hne;obtain ⟨p0,p1,p2,p3,p4,p5⟩:=eZ Z0.out;have f5:=eK Z0.out 5;go_wp2_with fail;go_loopw [3,19] (fun p i wr=>p = .slice none 0 0∧i = .int .i64 0∧W2=wr) (fun _ _ _=>0)
 case atStart=>exact ⟨rfl,rfl,rfl⟩
 case round =>
  obtain ⟨rfl,rfl,rfl⟩:=hrel;have N0:=Lib.hid (heap_setCell_same W2 w.heap.size 5 _ _ (.slice none 0 0) Z0.out);have hne:w.heap.size+1≠w.heap.size:=by omega
  have N1:=Lib.hid (dS (B:=w.heap.size) (j:=5) (c:=.slice none 0 0) Z1.out hne);obtain ⟨W3,hW3⟩:∃ W,W2.setCell ⟨w.heap.size,5,none⟩ (.slice none 0 0)=W:=⟨_,rfl⟩;rw [hW3] at N0 N1;have K0:=N0.out;obtain ⟨q0,q1,q2,q3,q4,q5⟩:=eZ N0.out;obtain ⟨r0,r1,r2,r3,r4,r5⟩:=eZ N1.out;have g0:=eK N1.out 0;have g1:=eK N1.out 1;have g2:=eK N1.out 2;have g3:=eK N1.out 3;have g4:=eK N1.out 4;have g5:=eK N1.out 5;have hA3:kP W0.heap.size W2 W3:=by rw [← hW3];exact (kP.refl W0.heap.size W2).setCell (p:=⟨w.heap.size,5,none⟩) (by have:=HSZ.out;show w.heap.size < _;omega) _
  have HA3:=Lib.hid hA3;have hB5:Hid (Below w.heap.size w W3):=by show Below _ _ _;rw [← hW3];exact hB4.out.setCell (p:=⟨w.heap.size,5,none⟩) (Nat.le_refl _) _
  clear K0 hne hA3;go_wp2_with fail;have NS:=Lib.hid (Oo (v0:=.bool z) (v1:=.int .i64 c) (v2:=.int .u64 (g:Int)) (v3:=.slice a1 rl c1) (v4:=.slice a2 cl c2) (v5:=.slice none 0 0) N1.out);obtain ⟨s0,s1,s2,s3,s4,s5⟩:=eZ NS.out;have hlt:=HSZ.out;refine bodyPost_ret (v:=.agg #[.bool z,.int .i64 c,.int .u64 (g:Int),.slice a1 rl c1,.slice a2 cl c2,.slice none 0 0]) ?_ rfl ⟨⟨z,c,g,a1,rl,c1,rows,a2,cl,c2,cells,none,0,0⟩,rfl,?_,As _ _ _ _ _ _ hB5.out (Nat.le_succ _)⟩
  rotate_left
  ·have hA6:=uF (.bool z) (.int .i64 c) (.int .u64 (g:Int)) (.slice a1 rl c1) (.slice a2 cl c2) (.slice none 0 0) HA3.out (B:=w.heap.size+1) (by omega);have hAt:=WF.At.mk (f:=⟨z,c,g,a1,rl,c1,rows,a2,cl,c2,cells,none,0,0⟩) (HR1.out.above HL1.out hA6) HRL.out HAT.out.g64 HAT.out.r64 (HR2.out.above HL3.out hA6) HCL.out HAT.out.bits HAT.out.cmax;have hPf:WF.pf ⟨z,c,g,a1,rl,c1,rows,a2,cl,c2,cells,none,0,0⟩=x:=HI.out.pf;exact (PNew.mk (n:=W0.heap.size) ⟨hAt,hPf,HI.out.ok,rfl⟩ HL1.out HL3.out).mono (by omega)
  ·simp [results,results102,go_sem,s0,s1,s2,s3,s4,s5]
end
section
open Go.RowKit
theorem both_is (d:Int) (a b:Option Addr) (capa capb:Nat) (xs ys:List Cl) (w:World) (hma:xs.length≤maxLen) (hmb:ys.length≤maxLen) (hra:fA w a xs) (hrb:fA w b ys) (hba:Bits xs) (hbb:Bits ys) (c:Int) (hc:nS d xs ys=c) (la lb:Nat) (hla:xs.length=la) (hlb:ys.length=lb) :
  Calls prog 105 #[.int .i64 d,.slice a la capa,.slice b lb capb] w (kH (tG d xs ys) c w):=by
 subst hla;subst hlb;exact Q3 d a b capa capb xs ys w hma hmb hra hrb hba hbb c hc
theorem one4_is (m:Nat) (hm:m≤64) (w:World):Calls prog 130 #[.int .i64 (m:Int)] w (kH (iL m) 0 w):=by
 have h0:qM (m:Int)=0:=by unfold qM;rw [if_neg (by omega)]
 have:=one_any (m:Int) w 0 h0
 rwa [show zU (m:Int)=iL m by unfold zU;rw [if_pos h0,Int.toNat_natCast]] at this
theorem uH (t n:Int) (sa:Option Addr) (sc:Nat) (f g:WF) (x y:PF) (w:World) (hp:bV t n 0=true) (hx:PIs w t n f x) (hy:PIs w t n g y) (ht:Tabs w) :
  Calls prog 131 #[.agg #[.int .i64 t,.int .i64 n,.slice sa 0 sc],f.val,g.val] w (jO (.one t n) (.one (gS t n x y)) w):=by
 refine cG (args:=[.agg #[.int .i64 t,.int .i64 n,.slice sa 0 sc],f.val,g.val]) func131 rfl ntmps131 rfl ?_;have hS:=St.start w;refine aO (aQ (bY (cs:=[_,_,_]) hS rfl rfl rfl fun B1 W1 hS=>bY (cs:=[_,_,_,_,_,_]) hS rfl rfl rfl fun B2 W2 hS=>bY (cs:=[_,_,_,_,_,_]) hS rfl rfl rfl fun B3 W3 hS=>bF (cs:=[_,_,_,_,_,_]) hS zeroValue46 rfl rfl fun B4 W4 hS=>aP (XF.thenN (aO (aO (aQ (aN (o':=0) eF rfl rfl rfl (aR isAgg4 rfl (aK (hS.at_ 2 rfl) rfl) rfl (aH rfl rfl (cB (d:=10) rfl (fun hc=>?_) (fun hc=>?_)))))))))))
 ·have hg10:=hc;clear hc;have hz:=hg10;refine aD (d:=10) rfl rfl rfl rfl (aD (d:=10) rfl rfl rfl rfl (bC rfl rfl rfl (aP (XF.thenN (fD rfl (aO (aQ (dY (us:=[(0,.bool _)]) rfl (Ac _) rfl (aU (i:=0) (vs:=[_,_,_,_,_,_]) (cs':=[_,_,_,_,_,_]) (O':=[_,_,_,_]) hS sizeOf46 rfl rfl rfl rfl rfl rfl rfl fun W5 hS=>aP (XF.thenN (bL (XF.thenR (XF.res (eE (vs:=[_,_,_,_,_,_]) results131 isAgg46 sizeOf46 rfl (aC.own (j:=0) (m:=6) (hS.at_ 0 rfl) rfl)) ?_)))))))))))));exact ext_zL hx hz hS.below
 ·have hg10:=hc;clear hc;have hf:=hg10;refine aI (d:=10) rfl rfl (aN (o':=0) eF rfl rfl rfl (aI (d:=10) rfl rfl (aR isAgg4 rfl (aK (hS.at_ 1 rfl) rfl) rfl (bR rfl rfl rfl (aP (XF.thenN (bB rfl (fun hc=>?_) (fun hc=>?_))))))))
  ·have hc13:=hc;clear hc;refine aO (aQ (dY (us:=[(0,.bool _)]) rfl (Ac _) rfl (aU (i:=0) (vs:=[_,_,_,_,_,_]) (cs':=[_,_,_,_,_,_]) (O':=[_,_,_,_]) hS sizeOf46 rfl rfl rfl rfl rfl rfl rfl fun W6 hS=>aP (XF.thenN (bL (XF.thenR (XF.res (eE (vs:=[_,_,_,_,_,_]) results131 isAgg46 sizeOf46 rfl (aC.own (j:=0) (m:=6) (hS.at_ 0 rfl) rfl)) ?_)))))));exact ext_zR hy hc13 hS.below
  ·have hc13:=hc;clear hc;have hg:=hc13;refine bP (XF.thenN (aO (aQ (bF (cs:=[_,_,_,_,_,_]) hS zeroValue46 rfl rfl fun B7 W7 hS=>aP (XF.thenN (aO (aO (aQ (aN (o':=0) eS rfl rfl rfl (aR isAgg22 rfl (aK (hS.at_ 4 rfl) rfl) rfl (aP (XF.thenN (bX (aO (aQ (cR rfl rfl rfl (aB rfl rfl (aP (XF.thenN (bB rfl (fun hc=>?_) (fun hc=>?_)))))))))))))))))))))
   ·have hc17:=of_decide_eq_true hc;clear hc;have e2:t=2:=hc17;subst e2;refine aQ (aN (o':=1) eU rfl rfl rfl (aR isAgg3 rfl (aK (hS.at_ 4 rfl) rfl) rfl (aN (o':=1) fQ rfl rfl rfl (aR isAgg3 rfl (aK (hS.at_ 3 rfl) rfl) rfl (aN (o':=1) fQ rfl rfl rfl (aR isAgg3 rfl (aK (hS.at_ 2 rfl) rfl) rfl (cX (us:=[(0,.int .i64 _),(1,.int .i64 _)]) hS underlying26 sizeOf3 zeroValue3 rfl rfl rfl (Nx _ _) rfl fun B8 W8 hS=>cS (vs:=[_,_]) hS Ur rfl (sum_any n (some ⟨_,0,none⟩) 2 [f.c,g.c] _ (by simp [maxLen]) (Ov (hS.at_ 0 rfl))) rfl ?_)))))));rintro e W9 ⟨rfl,rfl⟩;refine ⟨_,rfl,Below.refl _ _,?_⟩;clear hS;intro hS;refine aH rfl rfl (bZ rfl rfl rfl (bZ rfl rfl rfl (aN (o':=1) fQ rfl rfl rfl (dK (i:=1) (cs':=[_,_,_,_,_,_]) (O':=[_,_,_,_,_,_]) hS sizeOf3 rfl rfl rfl rfl rfl rfl rfl fun W10 hS=>aP (XF.blkN (XF.thenN (aO (aQ (aT (vs:=[_,_,_,_,_,_]) isAgg46 sizeOf46 rfl (aC.own (j:=0) (m:=6) (hS.at_ 1 rfl) rfl) rfl (aU (i:=2) (vs:=[_,_,_,_,_,_]) (cs':=[_,_,_,_,_,_]) (O':=[_,_,_,_,_,_]) hS sizeOf46 rfl rfl rfl rfl rfl rfl rfl fun W11 hS=>aP (XF.thenN (bL (XF.res (eE (vs:=[_,_,_,_,_,_]) results131 isAgg46 sizeOf46 rfl (aC.own (j:=0) (m:=6) (hS.at_ 2 rfl) rfl)) ?_)))))))))))));exact fP (ext_f2 hp hx hy hf hg) hS.below
   ·have hc17:=of_decide_eq_false hc;clear hc;refine aO (aQ (cR rfl rfl rfl (aB rfl rfl (aP (XF.thenN (bB rfl (fun hc=>?_) (fun hc=>?_)))))))
    ·have hc31:=of_decide_eq_true hc;clear hc;have e3:t=3:=hc31;subst e3;obtain ⟨m,rfl,hm⟩:=Im hp (.inl rfl);refine aQ (aN (o':=1) eU rfl rfl rfl (aR isAgg3 rfl (aK (hS.at_ 4 rfl) rfl) rfl (aN (o':=2) fR rfl rfl rfl (aT (vs:=[_,_]) isAgg42 sizeOf42 rfl (aC.own (j:=2) (m:=2) (hS.at_ 3 rfl) rfl) rfl (aN (o':=2) fR rfl rfl rfl (aT (vs:=[_,_]) isAgg42 sizeOf42 rfl (aC.own (j:=2) (m:=2) (hS.at_ 2 rfl) rfl) rfl ?_))))));have hsz:=hS.below.size;refine cS (vs:=[_,_,_]) hS Us rfl (extA_is _ _ _ _ _ _ _ _ _ _ (hx.at_.fat (by have:=hx.rows64 (l:=0);omega) |>.below hS.below) (hy.at_.fat (by have:=hy.rows64 (l:=0);omega) |>.below hS.below) (ht.below hS.below).c _ rfl _ rfl _ rfl _ _ hx.at_.rl hy.at_.rl) rfl ?_;rintro e W12 ⟨a1,c1,rfl,hv,hl,hb⟩;refine ⟨_,rfl,hb,?_⟩;clear hS;intro hS;refine aH rfl rfl (bZ rfl rfl rfl (bZ rfl rfl rfl (aN (o':=2) fR rfl rfl rfl (aU (i:=0) (vs:=[_,_]) (cs':=[_,_,_,_,_,_]) (O':=[_,_,_,_,_]) hS sizeOf42 rfl rfl rfl rfl rfl rfl rfl fun W13 hS=>aP (XF.blkN (XF.thenN (aO (aQ (aT (vs:=[_,_,_,_,_,_]) isAgg46 sizeOf46 rfl (aC.own (j:=0) (m:=6) (hS.at_ 0 rfl) rfl) rfl (aU (i:=1) (vs:=[_,_,_,_,_,_]) (cs':=[_,_,_,_,_,_]) (O':=[_,_,_,_,_]) hS sizeOf46 rfl rfl rfl rfl rfl rfl rfl fun W14 hS=>aP (XF.thenN (bL (XF.res (eE (vs:=[_,_,_,_,_,_]) results131 isAgg46 sizeOf46 rfl (aC.own (j:=0) (m:=6) (hS.at_ 1 rfl) rfl)) ?_)))))))))))));exact fP (ext_f3 hx hy hf hg (hv.agree (fun ad e=>(hl ad e).1) (hS.since 0 rfl)) (fun ad e=>Nat.le_trans hsz (hl ad e).1)) hS.below
    ·have hc31:=of_decide_eq_false hc;clear hc;refine aO (aQ (cR rfl rfl rfl (aB rfl rfl (aP (XF.thenN (bB rfl (fun hc=>?_) (fun hc=>?_)))))))
     ·have hc44:=of_decide_eq_true hc;clear hc;have e4:t=4:=hc44;subst e4;obtain ⟨m,rfl,hm⟩:=Im hp (.inr rfl);refine aQ (aN (o':=1) eU rfl rfl rfl (aR isAgg3 rfl (aK (hS.at_ 4 rfl) rfl) rfl (aN (o':=4) eG rfl rfl rfl (aR isAgg43 rfl (aK (hS.at_ 3 rfl) rfl) rfl (aN (o':=4) eG rfl rfl rfl (aR isAgg43 rfl (aK (hS.at_ 2 rfl) rfl) rfl ?_))))));have hsz:=hS.below.size;refine cS (vs:=[_,_,_]) hS Ut rfl (then_is _ _ _ _ _ _ _ _ (ht.below hS.below) (by rw [hx.at_.cl];exact hx.at_.cmax) (by rw [hy.at_.cl];exact hy.at_.cmax) (hx.at_.cells.below hS.below) (hy.at_.cells.below hS.below) hx.at_.bits hy.at_.bits _ rfl _ _ hx.at_.cl hy.at_.cl) rfl ?_;rintro e W15 ⟨a1,c1,rfl,hv,hl,hb⟩;refine ⟨_,rfl,hb,?_⟩;clear hS;intro hS;refine aH rfl rfl (bZ rfl rfl rfl (bZ rfl rfl rfl (aN (o':=4) eG rfl rfl rfl (dK (i:=0) (cs':=[_,_,_,_,_,_]) (O':=[_,_,_,_,_]) hS sizeOf43 rfl rfl rfl rfl rfl rfl rfl fun W16 hS=>aP (XF.blkN (XF.thenN (aO (aQ (aT (vs:=[_,_,_,_,_,_]) isAgg46 sizeOf46 rfl (aC.own (j:=0) (m:=6) (hS.at_ 0 rfl) rfl) rfl (aU (i:=1) (vs:=[_,_,_,_,_,_]) (cs':=[_,_,_,_,_,_]) (O':=[_,_,_,_,_]) hS sizeOf46 rfl rfl rfl rfl rfl rfl rfl fun W17 hS=>aP (XF.thenN (bL (XF.res (eE (vs:=[_,_,_,_,_,_]) results131 isAgg46 sizeOf46 rfl (aC.own (j:=0) (m:=6) (hS.at_ 1 rfl) rfl)) ?_)))))))))))));exact fP (ext_f4 hx hy hf hg (hv.agree (fun ad e=>(hl ad e).1) (hS.since 0 rfl)) (fun ad e=>Nat.le_trans hsz (hl ad e).1)) hS.below
     ·have hc44:=of_decide_eq_false hc;clear hc;refine aO (aQ (cR rfl rfl rfl (aB rfl rfl (aP (XF.thenN (bB rfl (fun hc=>absurd (of_decide_eq_true hc) (by exact oZ hp)) (fun hc=>?_)))))));have hc:=of_decide_eq_false hc;have e1:t=1:=by have:=(gC hp).2;omega
      subst e1;refine bP (XF.blkN (XF.thenN (aO (aQ (aT (vs:=[_,_,_,_,_,_]) isAgg46 sizeOf46 rfl (aC.own (j:=0) (m:=6) (hS.at_ 0 rfl) rfl) rfl (aU (i:=1) (vs:=[_,_,_,_,_,_]) (cs':=[_,_,_,_,_,_]) (O':=[_,_,_,_,_]) hS sizeOf46 rfl rfl rfl rfl rfl rfl rfl fun W18 hS=>aP (XF.thenN (bL (XF.res (eE (vs:=[_,_,_,_,_,_]) results131 isAgg46 sizeOf46 rfl (aC.own (j:=0) (m:=6) (hS.at_ 1 rfl) rfl)) ?_)))))))));exact fP (ext_f1 hx hy hf hg) hS.below
theorem rH (t n:Int) (sa:Option Addr) (sc:Nat) (f g:WF) (x y:PF) (w:World) (hp:bV t n 0=true) (hx:PIs w t n f x) (hy:PIs w t n g y) (ht:Tabs w) :
  Calls prog 75 #[.agg #[.int .i64 t,.int .i64 n,.slice sa 0 sc],f.val,g.val] w (jO (.one t n) (.one (dM t n x y)) w):=by
 refine cG (args:=[.agg #[.int .i64 t,.int .i64 n,.slice sa 0 sc],f.val,g.val]) func75 rfl ntmps75 rfl ?_;have hS:=St.start w;refine aO (aQ (bY (cs:=[_,_,_]) hS rfl rfl rfl fun B1 W1 hS=>bY (cs:=[_,_,_,_,_,_]) hS rfl rfl rfl fun B2 W2 hS=>bY (cs:=[_,_,_,_,_,_]) hS rfl rfl rfl fun B3 W3 hS=>bF (cs:=[_,_,_,_,_,_]) hS zeroValue46 rfl rfl fun B4 W4 hS=>aP (XF.thenN (aO (aO (aQ (aN (o':=0) eF rfl rfl rfl (aR isAgg4 rfl (aK (hS.at_ 2 rfl) rfl) rfl (aP (XF.thenN (bB rfl (fun hc=>?_) (fun hc=>?_))))))))))))
 ·have hc9:=hc;clear hc;have hz:=hc9;refine aO (aQ (aT (vs:=[_,_,_,_,_,_]) isAgg46 sizeOf46 rfl (aC.own (j:=0) (m:=6) (hS.at_ 1 rfl) rfl) rfl ?_));have hsz:=hS.below.size;refine cS (vs:=[_]) hS rD rfl (kR t n g _ _ (hy.below hS.below)) rfl ?_;rintro e W5 ⟨h1,rfl,hn,hb⟩;refine ⟨_,rfl,hb,?_⟩;clear hS;intro hS;refine aU (i:=0) (vs:=[_,_,_,_,_,_]) (cs':=[_,_,_,_,_,_]) (O':=[_,_,_,_]) hS sizeOf46 rfl rfl rfl rfl rfl rfl rfl fun W6 hS=>aP (XF.thenN (bL (XF.thenR (XF.res (eE (vs:=[_,_,_,_,_,_]) results75 isAgg46 sizeOf46 rfl (aC.own (j:=0) (m:=6) (hS.at_ 0 rfl) rfl)) ?_))))
  rw [hx.zero hz,dZ];exact fP ((hn.agree (hS.since 0 rfl)).mono hsz) hS.below
 ·have hc9:=hc;clear hc;have hf:=hc9;refine bP (XF.thenN (aO (aO (aQ (aN (o':=0) eF rfl rfl rfl (aR isAgg4 rfl (aK (hS.at_ 1 rfl) rfl) rfl (aP (XF.thenN (bB rfl (fun hc=>?_) (fun hc=>?_))))))))))
  ·have hc13:=hc;clear hc;refine aO (aQ (aT (vs:=[_,_,_,_,_,_]) isAgg46 sizeOf46 rfl (aC.own (j:=0) (m:=6) (hS.at_ 2 rfl) rfl) rfl ?_));have hsz:=hS.below.size;refine cS (vs:=[_]) hS rD rfl (kR t n f _ _ (hx.below hS.below)) rfl ?_;rintro e W7 ⟨h1,rfl,hn,hb⟩;refine ⟨_,rfl,hb,?_⟩;clear hS;intro hS;refine aU (i:=0) (vs:=[_,_,_,_,_,_]) (cs':=[_,_,_,_,_,_]) (O':=[_,_,_,_]) hS sizeOf46 rfl rfl rfl rfl rfl rfl rfl fun W8 hS=>aP (XF.thenN (bL (XF.thenR (XF.res (eE (vs:=[_,_,_,_,_,_]) results75 isAgg46 sizeOf46 rfl (aC.own (j:=0) (m:=6) (hS.at_ 0 rfl) rfl)) ?_))))
   rw [hy.zero hc13,eI hx.ok];exact fP ((hn.agree (hS.since 0 rfl)).mono hsz) hS.below
  ·have hc13:=hc;clear hc;have hg:=hc13;refine bP (XF.thenN (aO (aQ (bF (cs:=[_,_,_,_,_,_]) hS zeroValue46 rfl rfl fun B9 W9 hS=>aP (XF.thenN (aO (aO (aQ (aN (o':=0) eS rfl rfl rfl (aR isAgg22 rfl (aK (hS.at_ 4 rfl) rfl) rfl (aP (XF.thenN (bX (aO (aQ (cR rfl rfl rfl (aB rfl rfl (aP (XF.thenN (bB rfl (fun hc=>?_) (fun hc=>?_)))))))))))))))))))))
   ·have hc18:=of_decide_eq_true hc;clear hc;have e2:t=2:=hc18;subst e2;refine aQ (aN (o':=1) eU rfl rfl rfl (aR isAgg3 rfl (aK (hS.at_ 4 rfl) rfl) rfl (aN (o':=1) fQ rfl rfl rfl (aR isAgg3 rfl (aK (hS.at_ 3 rfl) rfl) rfl (aN (o':=1) fQ rfl rfl rfl (aR isAgg3 rfl (aK (hS.at_ 2 rfl) rfl) rfl (cX (us:=[(0,.int .i64 _),(1,.int .i64 _)]) hS underlying26 sizeOf3 zeroValue3 rfl rfl rfl (Nx _ _) rfl fun B10 W10 hS=>cS (vs:=[_,_]) hS Ul rfl (Rs n (some ⟨_,0,none⟩) 2 [f.c,g.c] _ (by simp [maxLen]) (Ov (hS.at_ 0 rfl))) rfl ?_)))))));rintro e W11 ⟨rfl,rfl⟩;refine ⟨_,rfl,Below.refl _ _,?_⟩;clear hS;intro hS;refine aH rfl rfl (bZ rfl rfl rfl (bZ rfl rfl rfl (aN (o':=1) fQ rfl rfl rfl (dK (i:=1) (cs':=[_,_,_,_,_,_]) (O':=[_,_,_,_,_,_]) hS sizeOf3 rfl rfl rfl rfl rfl rfl rfl fun W12 hS=>aP (XF.blkN (XF.thenN (aO (aQ (aT (vs:=[_,_,_,_,_,_]) isAgg46 sizeOf46 rfl (aC.own (j:=0) (m:=6) (hS.at_ 1 rfl) rfl) rfl (aU (i:=2) (vs:=[_,_,_,_,_,_]) (cs':=[_,_,_,_,_,_]) (O':=[_,_,_,_,_,_]) hS sizeOf46 rfl rfl rfl rfl rfl rfl rfl fun W13 hS=>aP (XF.thenN (bL (XF.res (eE (vs:=[_,_,_,_,_,_]) results75 isAgg46 sizeOf46 rfl (aC.own (j:=0) (m:=6) (hS.at_ 2 rfl) rfl)) ?_)))))))))))));exact fP (comb_f2 hp hx hy hf hg) hS.below
   ·have hc18:=of_decide_eq_false hc;clear hc;refine aO (aQ (cR rfl rfl rfl (aB rfl rfl (aP (XF.thenN (bB rfl (fun hc=>?_) (fun hc=>?_)))))))
    ·have hc32:=of_decide_eq_true hc;clear hc;have e3:t=3:=hc32;subst e3;obtain ⟨m,rfl,hm⟩:=Im hp (.inl rfl);refine aQ (aN (o':=1) eU rfl rfl rfl (aR isAgg3 rfl (aK (hS.at_ 4 rfl) rfl) rfl (aN (o':=2) fR rfl rfl rfl (aT (vs:=[_,_]) isAgg42 sizeOf42 rfl (aC.own (j:=2) (m:=2) (hS.at_ 3 rfl) rfl) rfl (aN (o':=2) fR rfl rfl rfl (aT (vs:=[_,_]) isAgg42 sizeOf42 rfl (aC.own (j:=2) (m:=2) (hS.at_ 2 rfl) rfl) rfl ?_))))));have hsz:=hS.below.size;refine cS (vs:=[_,_,_]) hS Um rfl (Tp _ _ _ _ _ _ _ _ _ _ (hx.at_.fat (by have:=hx.rows64 (l:=0);omega) |>.below hS.below) (hy.at_.fat (by have:=hy.rows64 (l:=0);omega) |>.below hS.below) _ rfl _ rfl _ rfl _ _ hx.at_.rl hy.at_.rl) rfl ?_;rintro e W14 ⟨a1,c1,rfl,hv,hl,hb⟩;refine ⟨_,rfl,hb,?_⟩;clear hS;intro hS;refine aH rfl rfl (bZ rfl rfl rfl (bZ rfl rfl rfl (aN (o':=2) fR rfl rfl rfl (aU (i:=0) (vs:=[_,_]) (cs':=[_,_,_,_,_,_]) (O':=[_,_,_,_,_]) hS sizeOf42 rfl rfl rfl rfl rfl rfl rfl fun W15 hS=>aP (XF.blkN (XF.thenN (aO (aQ (aT (vs:=[_,_,_,_,_,_]) isAgg46 sizeOf46 rfl (aC.own (j:=0) (m:=6) (hS.at_ 0 rfl) rfl) rfl (aU (i:=1) (vs:=[_,_,_,_,_,_]) (cs':=[_,_,_,_,_,_]) (O':=[_,_,_,_,_]) hS sizeOf46 rfl rfl rfl rfl rfl rfl rfl fun W16 hS=>aP (XF.thenN (bL (XF.res (eE (vs:=[_,_,_,_,_,_]) results75 isAgg46 sizeOf46 rfl (aC.own (j:=0) (m:=6) (hS.at_ 1 rfl) rfl)) ?_)))))))))))));exact fP (Ox hx hy hf hg (hv.agree (fun ad e=>(hl ad e).1) (hS.since 0 rfl)) (fun ad e=>Nat.le_trans hsz (hl ad e).1)) hS.below
    ·have hc32:=of_decide_eq_false hc;clear hc;refine aO (aQ (cR rfl rfl rfl (aB rfl rfl (aP (XF.thenN (bB rfl (fun hc=>?_) (fun hc=>?_)))))))
     ·have hc45:=of_decide_eq_true hc;clear hc;have e4:t=4:=hc45;subst e4;obtain ⟨m,rfl,hm⟩:=Im hp (.inr rfl);refine aQ (aN (o':=1) eU rfl rfl rfl (aR isAgg3 rfl (aK (hS.at_ 4 rfl) rfl) rfl (aN (o':=4) eG rfl rfl rfl (aR isAgg43 rfl (aK (hS.at_ 3 rfl) rfl) rfl (aN (o':=4) eG rfl rfl rfl (aR isAgg43 rfl (aK (hS.at_ 2 rfl) rfl) rfl ?_))))));have hsz:=hS.below.size;refine cS (vs:=[_,_,_]) hS Un rfl (both_is _ _ _ _ _ _ _ _ (by rw [hx.at_.cl];exact hx.at_.cmax) (by rw [hy.at_.cl];exact hy.at_.cmax) (hx.at_.cells.below hS.below) (hy.at_.cells.below hS.below) hx.at_.bits hy.at_.bits _ rfl _ _ hx.at_.cl hy.at_.cl) rfl ?_;rintro e W17 ⟨a1,c1,rfl,hv,hl,hb⟩;refine ⟨_,rfl,hb,?_⟩;clear hS;intro hS;refine aH rfl rfl (bZ rfl rfl rfl (bZ rfl rfl rfl (aN (o':=4) eG rfl rfl rfl (dK (i:=0) (cs':=[_,_,_,_,_,_]) (O':=[_,_,_,_,_]) hS sizeOf43 rfl rfl rfl rfl rfl rfl rfl fun W18 hS=>aP (XF.blkN (XF.thenN (aO (aQ (aT (vs:=[_,_,_,_,_,_]) isAgg46 sizeOf46 rfl (aC.own (j:=0) (m:=6) (hS.at_ 0 rfl) rfl) rfl (aU (i:=1) (vs:=[_,_,_,_,_,_]) (cs':=[_,_,_,_,_,_]) (O':=[_,_,_,_,_]) hS sizeOf46 rfl rfl rfl rfl rfl rfl rfl fun W19 hS=>aP (XF.thenN (bL (XF.res (eE (vs:=[_,_,_,_,_,_]) results75 isAgg46 sizeOf46 rfl (aC.own (j:=0) (m:=6) (hS.at_ 1 rfl) rfl)) ?_)))))))))))));exact fP (comb_f4 hx hy hf hg (hv.agree (fun ad e=>(hl ad e).1) (hS.since 0 rfl)) (fun ad e=>Nat.le_trans hsz (hl ad e).1)) hS.below
     ·have hc45:=of_decide_eq_false hc;clear hc;refine aO (aQ (cR rfl rfl rfl (aB rfl rfl (aP (XF.thenN (bB rfl (fun hc=>absurd (of_decide_eq_true hc) (by exact oZ hp)) (fun hc=>?_)))))));have hc:=of_decide_eq_false hc;have e1:t=1:=by have:=(gC hp).2;omega
      subst e1;refine bP (XF.blkN (XF.thenN (aO (aQ (aT (vs:=[_,_,_,_,_,_]) isAgg46 sizeOf46 rfl (aC.own (j:=0) (m:=6) (hS.at_ 0 rfl) rfl) rfl (aU (i:=1) (vs:=[_,_,_,_,_,_]) (cs':=[_,_,_,_,_,_]) (O':=[_,_,_,_,_]) hS sizeOf46 rfl rfl rfl rfl rfl rfl rfl fun W20 hS=>aP (XF.thenN (bL (XF.res (eE (vs:=[_,_,_,_,_,_]) results75 isAgg46 sizeOf46 rfl (aC.own (j:=0) (m:=6) (hS.at_ 1 rfl) rfl)) ?_)))))))));exact fP (Ow hx hy hf hg) hS.below
theorem uI (t n:Int) (sa:Option Addr) (sc:Nat) (w:World) (hp:bV t n 0=true) :
  Calls prog 116 #[.agg #[.int .i64 t,.int .i64 n,.slice sa 0 sc]] w (jO (.one t n) (.one (kY t n)) w):=by
 refine cG (args:=[.agg #[.int .i64 t,.int .i64 n,.slice sa 0 sc]]) func116 rfl ntmps116 rfl ?_;have hS:=St.start w;refine aO (aQ (bY (cs:=[_,_,_]) hS rfl rfl rfl fun B1 W1 hS=>bF (cs:=[_,_,_,_,_,_]) hS zeroValue46 rfl rfl fun B2 W2 hS=>aP (XF.thenN (aO (aQ (bF (cs:=[_,_,_,_,_,_]) hS zeroValue46 rfl rfl fun B3 W3 hS=>aP (XF.thenN (aO (aO (aQ (aN (o':=0) eS rfl rfl rfl (aR isAgg22 rfl (aK (hS.at_ 2 rfl) rfl) rfl (aP (XF.thenN (bX (aO (aQ (cR rfl rfl rfl (aB rfl rfl (aP (XF.thenN (bB rfl (fun hc=>?_) (fun hc=>?_)))))))))))))))))))))))
 ·have hc6:=of_decide_eq_true hc;clear hc;have e3:t=3:=hc6;subst e3;obtain ⟨m,rfl,hm⟩:=Im hp (.inl rfl);refine aQ (aN (o':=1) eU rfl rfl rfl (aR isAgg3 rfl (aK (hS.at_ 2 rfl) rfl) rfl ?_));have hsz:=hS.below.size;refine cS (vs:=[_]) hS Uj rfl ((oneA_is m _ _ (Ik hm).1 _ (Ik hm).2).mono fun _ _ h=>Qp.ret h) rfl ?_;rintro e W4 ⟨a1,c1,rfl,hv,hl,hb⟩;refine ⟨_,rfl,hb,?_⟩;clear hS;intro hS;refine aH rfl rfl (bZ rfl rfl rfl (bZ rfl rfl rfl (aN (o':=2) fR rfl rfl rfl (aU (i:=0) (vs:=[_,_]) (cs':=[_,_,_,_,_,_]) (O':=[_,_,_]) hS sizeOf42 rfl rfl rfl rfl rfl rfl rfl fun W5 hS=>aP (XF.blkN (XF.thenN (aO (aQ (aT (vs:=[_,_,_,_,_,_]) isAgg46 sizeOf46 rfl (aC.own (j:=0) (m:=6) (hS.at_ 0 rfl) rfl) rfl (aU (i:=1) (vs:=[_,_,_,_,_,_]) (cs':=[_,_,_,_,_,_]) (O':=[_,_,_]) hS sizeOf46 rfl rfl rfl rfl rfl rfl rfl fun W6 hS=>aP (XF.thenN (bL (XF.res (eE (vs:=[_,_,_,_,_,_]) results116 isAgg46 sizeOf46 rfl (aC.own (j:=0) (m:=6) (hS.at_ 1 rfl) rfl)) ?_)))))))))))));exact fP (one_f3 hm (hv.agree (fun ad e=>(hl ad e).1) (hS.since 0 rfl)) (fun ad e=>Nat.le_trans hsz (hl ad e).1)) hS.below
 ·have hc6:=of_decide_eq_false hc;clear hc;refine aO (aQ (cR rfl rfl rfl (aB rfl rfl (aP (XF.thenN (bB rfl (fun hc=>?_) (fun hc=>?_)))))))
  ·have hc15:=of_decide_eq_true hc;clear hc;have e4:t=4:=hc15;subst e4;obtain ⟨m,rfl,hm⟩:=Im hp (.inr rfl);refine aQ (aN (o':=1) eU rfl rfl rfl (aR isAgg3 rfl (aK (hS.at_ 2 rfl) rfl) rfl ?_));have hsz:=hS.below.size;refine cS (vs:=[_]) hS Uk rfl (one4_is m hm _) rfl ?_;rintro e W7 ⟨a1,c1,rfl,hv,hl,hb⟩;refine ⟨_,rfl,hb,?_⟩;clear hS;intro hS;refine aH rfl rfl (bZ rfl rfl rfl (bZ rfl rfl rfl (aN (o':=4) eG rfl rfl rfl (dK (i:=0) (cs':=[_,_,_,_,_,_]) (O':=[_,_,_]) hS sizeOf43 rfl rfl rfl rfl rfl rfl rfl fun W8 hS=>aP (XF.blkN (XF.thenN (aO (aQ (aT (vs:=[_,_,_,_,_,_]) isAgg46 sizeOf46 rfl (aC.own (j:=0) (m:=6) (hS.at_ 0 rfl) rfl) rfl (aU (i:=1) (vs:=[_,_,_,_,_,_]) (cs':=[_,_,_,_,_,_]) (O':=[_,_,_]) hS sizeOf46 rfl rfl rfl rfl rfl rfl rfl fun W9 hS=>aP (XF.thenN (bL (XF.res (eE (vs:=[_,_,_,_,_,_]) results116 isAgg46 sizeOf46 rfl (aC.own (j:=0) (m:=6) (hS.at_ 1 rfl) rfl)) ?_)))))))))))));exact fP (one_f4 hm (hv.agree (fun ad e=>(hl ad e).1) (hS.since 0 rfl)) (fun ad e=>Nat.le_trans hsz (hl ad e).1)) hS.below
  ·have hc15:=of_decide_eq_false hc;clear hc;refine aO (aQ (cR rfl rfl rfl (aB rfl rfl (aP (XF.thenN (bB rfl (fun hc=>absurd (of_decide_eq_true hc) (by exact oZ hp)) (fun hc=>?_)))))));have hc:=of_decide_eq_false hc;refine bP (XF.blkN (XF.thenN (aO (aQ (aT (vs:=[_,_,_,_,_,_]) isAgg46 sizeOf46 rfl (aC.own (j:=0) (m:=6) (hS.at_ 0 rfl) rfl) rfl (aU (i:=1) (vs:=[_,_,_,_,_,_]) (cs':=[_,_,_,_,_,_]) (O':=[_,_,_]) hS sizeOf46 rfl rfl rfl rfl rfl rfl rfl fun W10 hS=>aP (XF.thenN (bL (XF.res (eE (vs:=[_,_,_,_,_,_]) results116 isAgg46 sizeOf46 rfl (aC.own (j:=0) (m:=6) (hS.at_ 1 rfl) rfl)) ?_)))))))));exact fP (one_f1 hp hc6 hc15) hS.below
theorem Rv (t n u m:Int) (a1 a2:Option Addr) (c1 c2 b off sc:Nat) (w:World) (hs1:S3 w b off ⟨t,n,a1,0,c1⟩) (hs2:S3 w b (off+3) ⟨u,m,a2,0,c2⟩) (hp1:bV t n 0=true) (hp2:bV u m 0=true)(fra fca:Option Addr) (frc fcc fpc fb fo:Nat) (f1 f2:WF) (x1 x2:PF) (hf6:W6 w fb fo f1) (hf7:W6 w fb (fo+6) f2) (hx1:PIs w t n f1 x1) (hx2:PIs w u m f2 x2)(gra gca:Option Addr) (grc gcc gpc gb go:Nat) (g1 g2:WF) (y1 y2:PF) (hg6:W6 w gb go g1) (hg7:W6 w gb (go+6) g2) (hy1:PIs w t n g1 y1) (hy2:PIs w u m g2 y2)(ht:Tabs w) :
  Calls prog 131 #[.agg #[.int .i64 5,.int .i64 0,.slice (some ⟨b,off,none⟩) 2 sc],.agg #[.bool false,.int .i64 0,.int .u64 0,.slice fra 0 frc,.slice fca 0 fcc,.slice (some ⟨fb,fo,none⟩) 2 fpc],.agg #[.bool false,.int .i64 0,.int .u64 0,.slice gra 0 grc,.slice gca 0 gcc,.slice (some ⟨gb,go,none⟩) 2 gpc]] w (jO (.two t n u m) (.two (gS t n x1 y1) (gS u m x2 y2)) w):=by
 refine cG (args:=[.agg #[.int .i64 5,.int .i64 0,.slice (some ⟨b,off,none⟩) 2 sc],.agg #[.bool false,.int .i64 0,.int .u64 0,.slice fra 0 frc,.slice fca 0 fcc,.slice (some ⟨fb,fo,none⟩) 2 fpc],.agg #[.bool false,.int .i64 0,.int .u64 0,.slice gra 0 grc,.slice gca 0 gcc,.slice (some ⟨gb,go,none⟩) 2 gpc]]) func131 rfl ntmps131 rfl ?_;have hS:=St.start w;refine aO (aQ (bY (cs:=[_,_,_]) hS rfl rfl rfl fun B1 W1 hS=>bY (cs:=[_,_,_,_,_,_]) hS rfl rfl rfl fun B2 W2 hS=>bY (cs:=[_,_,_,_,_,_]) hS rfl rfl rfl fun B3 W3 hS=>bF (cs:=[_,_,_,_,_,_]) hS zeroValue46 rfl rfl fun B4 W4 hS=>aP (XF.thenN (aO (aO (aQ (aN (o':=0) eF rfl rfl rfl (aR isAgg4 rfl (aK (hS.at_ 2 rfl) rfl) rfl (aH rfl rfl (cB (d:=10) rfl (fun hc=>absurd hc (by decide)) (fun hc=>?_)))))))))));skip;refine aI (d:=10) rfl rfl (aN (o':=0) eF rfl rfl rfl (aI (d:=10) rfl rfl (aR isAgg4 rfl (aK (hS.at_ 1 rfl) rfl) rfl (bR rfl rfl rfl (aP (XF.thenN (bB rfl (fun hc=>absurd hc (by decide)) (fun hc=>?_))))))));skip;refine bP (XF.thenN (aO (aQ (bF (cs:=[_,_,_,_,_,_]) hS zeroValue46 rfl rfl fun B5 W5 hS=>aP (XF.thenN (aO (aO (aQ (aN (o':=0) eS rfl rfl rfl (aR isAgg22 rfl (aK (hS.at_ 4 rfl) rfl) rfl (aP (XF.thenN (bX (aO (aQ (cR rfl rfl rfl (aB rfl rfl (aP (XF.thenN (bB rfl (fun hc=>absurd (of_decide_eq_true hc) (by omega)) (fun hc=>?_)))))))))))))))))))));have hc:=of_decide_eq_false hc;refine aO (aQ (cR rfl rfl rfl (aB rfl rfl (aP (XF.thenN (bB rfl (fun hc=>absurd (of_decide_eq_true hc) (by omega)) (fun hc=>?_)))))));have hc:=of_decide_eq_false hc;refine aO (aQ (cR rfl rfl rfl (aB rfl rfl (aP (XF.thenN (bB rfl (fun hc=>absurd (of_decide_eq_true hc) (by omega)) (fun hc=>?_)))))));have hc:=of_decide_eq_false hc;refine aO (aQ (cR rfl rfl rfl (aB rfl rfl (aP (XF.thenN (bB rfl (fun hc=>?_) (fun hc=>absurd (of_decide_eq_false hc) (by omega))))))));have hc:=of_decide_eq_true hc;have hsz:=hS.below.size;have k1:=aC.agree hS.agree (Nat.zero_le _) hs1.cells;have k2:=aC.agree hS.agree (Nat.zero_le _) hs2.cells;have kf1:=aC.agree hS.agree (Nat.zero_le _) hf6.cells;have kf2:=aC.agree hS.agree (Nat.zero_le _) hf7.cells;have kg1:=aC.agree hS.agree (Nat.zero_le _) hg6.cells;have kg2:=aC.agree hS.agree (Nat.zero_le _) hg7.cells;refine xU cC 27 hS rfl rfl (by kernel_rfl) (by kernel_rfl) (by kernel_rfl) (fun d hd=>by cases hd) (cE 1 rfl 3 rfl rfl (fun w hw=>aV (o':=2) dW rfl rfl) rfl (aZ 2 rfl 59 0 rfl rfl rfl (fun w hw=>bA isAgg23 rfl ((aL hw 0).cell (Nat.zero_le _) (aK (hS.at_ 4 rfl) rfl))) rfl (aZ 3 rfl 60 1 rfl rfl rfl (fun w hw=>bE (j:=0) underlying23 sizeOf25 rfl rfl rfl (by omega) (Nat.add_zero _)) rfl (aZ 4 rfl 61 2 rfl rfl rfl (fun w hw=>aY (vs:=[_,_,_]) isAgg25 sizeOf25 rfl (aC.agree (aL hw 0) (Nat.zero_le _) (by assumption))) rfl (cE 5 rfl 4 rfl rfl (fun w hw=>aV (o':=5) dH rfl rfl) rfl (aZ 6 rfl 63 4 rfl rfl rfl (fun w hw=>bA isAgg44 rfl ((aL hw 0).cell (Nat.zero_le _) (aK (hS.at_ 3 rfl) rfl))) rfl (aZ 7 rfl 64 5 rfl rfl rfl (fun w hw=>bE (j:=0) underlying44 sizeOf46 rfl rfl rfl (by omega) (Nat.add_zero _)) rfl (aZ 8 rfl 65 6 rfl rfl rfl (fun w hw=>aY (vs:=[_,_,_,_,_,_]) isAgg46 sizeOf46 rfl (aC.agree (aL hw 0) (Nat.zero_le _) (by assumption))) rfl (cE 9 rfl 5 rfl rfl (fun w hw=>aV (o':=5) dH rfl rfl) rfl (aZ 10 rfl 67 8 rfl rfl rfl (fun w hw=>bA isAgg44 rfl ((aL hw 0).cell (Nat.zero_le _) (aK (hS.at_ 2 rfl) rfl))) rfl (aZ 11 rfl 68 9 rfl rfl rfl (fun w hw=>bE (j:=0) underlying44 sizeOf46 rfl rfl rfl (by omega) (Nat.add_zero _)) rfl (aZ 12 rfl 69 10 rfl rfl rfl (fun w hw=>aY (vs:=[_,_,_,_,_,_]) isAgg46 sizeOf46 rfl (aC.agree (aL hw 0) (Nat.zero_le _) (by assumption))) rfl ?_))))))))))))
 refine aJ 13 rfl (dP W5.heap.size (.one t n) (.one (gS t n x1 y1))) (dU) (cN [isV _,isV _,isV _] rfl Ag (aS rfl) ⟨bT (aM 3 (aA rfl rfl rfl)),bT (aM 7 (aA rfl rfl rfl)),bT (aM 11 (aA rfl rfl rfl)),trivial⟩ (fun vs w' hb hh=>by have e:=bW (us:=[_,_,_]) hh;subst e;exact gT hb.size (uH _ _ _ _ _ _ _ _ _ hp1 (hx1.below (hS.below.trans (hb.mono hS.below.size))) (hy1.below (hS.below.trans (hb.mono hS.below.size))) (ht.below (hS.below.trans (hb.mono hS.below.size))))) (aF rfl)) ?_;refine cE 14 rfl 3 rfl rfl (fun w hw=>aV (o':=2) dW rfl rfl) rfl (aZ 15 rfl 72 13 rfl rfl rfl (fun w hw=>bA isAgg23 rfl ((aL hw 0).cell (Nat.zero_le _) (aK (hS.at_ 4 rfl) rfl))) rfl (aZ 16 rfl 73 14 rfl rfl rfl (fun w hw=>bE (j:=1) underlying23 sizeOf25 rfl rfl rfl (by omega) rfl) rfl (aZ 17 rfl 74 15 rfl rfl rfl (fun w hw=>aY (vs:=[_,_,_]) isAgg25 sizeOf25 rfl (aC.agree (aL hw 0) (Nat.zero_le _) (by assumption))) rfl (cE 18 rfl 4 rfl rfl (fun w hw=>aV (o':=5) dH rfl rfl) rfl (aZ 19 rfl 76 17 rfl rfl rfl (fun w hw=>bA isAgg44 rfl ((aL hw 0).cell (Nat.zero_le _) (aK (hS.at_ 3 rfl) rfl))) rfl (aZ 20 rfl 77 18 rfl rfl rfl (fun w hw=>bE (j:=1) underlying44 sizeOf46 rfl rfl rfl (by omega) rfl) rfl (aZ 21 rfl 78 19 rfl rfl rfl (fun w hw=>aY (vs:=[_,_,_,_,_,_]) isAgg46 sizeOf46 rfl (aC.agree (aL hw 0) (Nat.zero_le _) (by assumption))) rfl (cE 22 rfl 5 rfl rfl (fun w hw=>aV (o':=5) dH rfl rfl) rfl (aZ 23 rfl 80 21 rfl rfl rfl (fun w hw=>bA isAgg44 rfl ((aL hw 0).cell (Nat.zero_le _) (aK (hS.at_ 2 rfl) rfl))) rfl (aZ 24 rfl 81 22 rfl rfl rfl (fun w hw=>bE (j:=1) underlying44 sizeOf46 rfl rfl rfl (by omega) rfl) rfl (aZ 25 rfl 82 23 rfl rfl rfl (fun w hw=>aY (vs:=[_,_,_,_,_,_]) isAgg46 sizeOf46 rfl (aC.agree (aL hw 0) (Nat.zero_le _) (by assumption))) rfl ?_)))))))))));refine aJ 26 rfl (dP W5.heap.size (.one u m) (.one (gS u m x2 y2))) (dU) (cN [isV _,isV _,isV _] rfl Ag (aS rfl) ⟨bT (aM 16 (aA rfl rfl rfl)),bT (aM 20 (aA rfl rfl rfl)),bT (aM 24 (aA rfl rfl rfl)),trivial⟩ (fun vs w' hb hh=>by have e:=bW (us:=[_,_,_]) hh;subst e;exact gT hb.size (uH _ _ _ _ _ _ _ _ _ hp2 (hx2.below (hS.below.trans (hb.mono hS.below.size))) (hy2.below (hS.below.trans (hb.mono hS.below.size))) (ht.below (hS.below.trans (hb.mono hS.below.size))))) (aF rfl)) ?_;refine aJ 27 rfl (dP W5.heap.size (.two t n u m) (.two (gS t n x1 y1) (gS u m x2 y2))) (dU) (cN [dP _ (.one t n) (.one (gS t n x1 y1)),dP _ (.one u m) (.one (gS u m x2 y2))] rfl Ah (aS rfl) ⟨bT (aM 12 (aA rfl rfl rfl)),bT (aM 25 (aA rfl rfl rfl)),trivial⟩ (fun vs w' hb hh=>uG hb.size hh) (aF rfl)) (dI ?_);intro W6 hbR;clear hS;intro hS;refine aG (aG (aG (aG (aG (aG (aG (aG (aG (aG (aG (aG ?_)))))))))));refine dF ?_;rintro _ ⟨v1,rfl,hn1⟩;refine aG (aG (aG (aG (aG (aG (aG (aG (aG (aG (aG (aG ?_)))))))))));refine dF ?_;rintro _ ⟨v2,rfl,hn2⟩;refine dF ?_;rintro _ ⟨v3,rfl,hn3⟩;refine cM (aU (i:=0) (vs:=[_,_,_,_,_,_]) (cs':=[_,_,_,_,_,_]) (O':=[_,_,_,_,_]) hS sizeOf46 rfl rfl rfl rfl rfl rfl rfl fun W7 hS=>aP (XF.blkN (XF.thenN (aO (aQ (aT (vs:=[_,_,_,_,_,_]) isAgg46 sizeOf46 rfl (aC.own (j:=0) (m:=6) (hS.at_ 0 rfl) rfl) rfl (aU (i:=1) (vs:=[_,_,_,_,_,_]) (cs':=[_,_,_,_,_,_]) (O':=[_,_,_,_,_]) hS sizeOf46 rfl rfl rfl rfl rfl rfl rfl fun W8 hS=>aP (XF.thenN (bL (XF.res (eE (vs:=[_,_,_,_,_,_]) results131 isAgg46 sizeOf46 rfl (aC.own (j:=0) (m:=6) (hS.at_ 1 rfl) rfl)) ?_))))))))));exact ⟨v3,rfl,(hn3.agree (hS.since 0 rfl)).mono hsz,hS.below⟩
theorem Rw (t n u m:Int) (a1 a2:Option Addr) (c1 c2 b off sc:Nat) (w:World) (hs1:S3 w b off ⟨t,n,a1,0,c1⟩) (hs2:S3 w b (off+3) ⟨u,m,a2,0,c2⟩) (hp1:bV t n 0=true) (hp2:bV u m 0=true) :
  Calls prog 116 #[.agg #[.int .i64 5,.int .i64 0,.slice (some ⟨b,off,none⟩) 2 sc]] w (jO (.two t n u m) (.two (kY t n) (kY u m)) w):=by
 refine cG (args:=[.agg #[.int .i64 5,.int .i64 0,.slice (some ⟨b,off,none⟩) 2 sc]]) func116 rfl ntmps116 rfl ?_;have hS:=St.start w;refine aO (aQ (bY (cs:=[_,_,_]) hS rfl rfl rfl fun B1 W1 hS=>bF (cs:=[_,_,_,_,_,_]) hS zeroValue46 rfl rfl fun B2 W2 hS=>aP (XF.thenN (aO (aQ (bF (cs:=[_,_,_,_,_,_]) hS zeroValue46 rfl rfl fun B3 W3 hS=>aP (XF.thenN (aO (aO (aQ (aN (o':=0) eS rfl rfl rfl (aR isAgg22 rfl (aK (hS.at_ 2 rfl) rfl) rfl (aP (XF.thenN (bX (aO (aQ (cR rfl rfl rfl (aB rfl rfl (aP (XF.thenN (bB rfl (fun hc=>absurd (of_decide_eq_true hc) (by omega)) (fun hc=>?_)))))))))))))))))))))));have hc:=of_decide_eq_false hc;refine aO (aQ (cR rfl rfl rfl (aB rfl rfl (aP (XF.thenN (bB rfl (fun hc=>absurd (of_decide_eq_true hc) (by omega)) (fun hc=>?_)))))));have hc:=of_decide_eq_false hc;refine aO (aQ (cR rfl rfl rfl (aB rfl rfl (aP (XF.thenN (bB rfl (fun hc=>?_) (fun hc=>absurd (of_decide_eq_false hc) (by omega))))))));have hc:=of_decide_eq_true hc;have hsz:=hS.below.size;have k1:=aC.agree hS.agree (Nat.zero_le _) hs1.cells;have k2:=aC.agree hS.agree (Nat.zero_le _) hs2.cells;refine xU cC 11 hS rfl rfl (by kernel_rfl) (by kernel_rfl) (by kernel_rfl) (fun d hd=>by cases hd) (cE 1 rfl 1 rfl rfl (fun w hw=>aV (o':=2) dW rfl rfl) rfl (aZ 2 rfl 26 0 rfl rfl rfl (fun w hw=>bA isAgg23 rfl ((aL hw 0).cell (Nat.zero_le _) (aK (hS.at_ 2 rfl) rfl))) rfl (aZ 3 rfl 27 1 rfl rfl rfl (fun w hw=>bE (j:=0) underlying23 sizeOf25 rfl rfl rfl (by omega) (Nat.add_zero _)) rfl (aZ 4 rfl 28 2 rfl rfl rfl (fun w hw=>aY (vs:=[_,_,_]) isAgg25 sizeOf25 rfl (aC.agree (aL hw 0) (Nat.zero_le _) (by assumption))) rfl ?_))));refine aJ 5 rfl (dP W3.heap.size (.one t n) (.one (kY t n))) (dU) (cN [isV _] rfl Ae (aS rfl) ⟨bT (aM 3 (aA rfl rfl rfl)),trivial⟩ (fun vs w' hb hh=>by have e:=bW (us:=[_]) hh;subst e;exact gT hb.size (uI _ _ _ _ _ hp1)) (aF rfl)) ?_;refine cE 6 rfl 1 rfl rfl (fun w hw=>aV (o':=2) dW rfl rfl) rfl (aZ 7 rfl 31 5 rfl rfl rfl (fun w hw=>bA isAgg23 rfl ((aL hw 0).cell (Nat.zero_le _) (aK (hS.at_ 2 rfl) rfl))) rfl (aZ 8 rfl 32 6 rfl rfl rfl (fun w hw=>bE (j:=1) underlying23 sizeOf25 rfl rfl rfl (by omega) rfl) rfl (aZ 9 rfl 33 7 rfl rfl rfl (fun w hw=>aY (vs:=[_,_,_]) isAgg25 sizeOf25 rfl (aC.agree (aL hw 0) (Nat.zero_le _) (by assumption))) rfl ?_)));refine aJ 10 rfl (dP W3.heap.size (.one u m) (.one (kY u m))) (dU) (cN [isV _] rfl Ae (aS rfl) ⟨bT (aM 8 (aA rfl rfl rfl)),trivial⟩ (fun vs w' hb hh=>by have e:=bW (us:=[_]) hh;subst e;exact gT hb.size (uI _ _ _ _ _ hp2)) (aF rfl)) ?_;refine aJ 11 rfl (dP W3.heap.size (.two t n u m) (.two (kY t n) (kY u m))) (dU) (cN [dP _ (.one t n) (.one (kY t n)),dP _ (.one u m) (.one (kY u m))] rfl Ah (aS rfl) ⟨bT (aM 4 (aA rfl rfl rfl)),bT (aM 9 (aA rfl rfl rfl)),trivial⟩ (fun vs w' hb hh=>uG hb.size hh) (aF rfl)) (dI ?_);intro W4 hbR;clear hS;intro hS;refine aG (aG (aG (aG ?_)));refine dF ?_;rintro _ ⟨v1,rfl,hn1⟩;refine aG (aG (aG (aG ?_)));refine dF ?_;rintro _ ⟨v2,rfl,hn2⟩;refine dF ?_;rintro _ ⟨v3,rfl,hn3⟩;refine cM (aU (i:=0) (vs:=[_,_,_,_,_,_]) (cs':=[_,_,_,_,_,_]) (O':=[_,_,_]) hS sizeOf46 rfl rfl rfl rfl rfl rfl rfl fun W5 hS=>aP (XF.blkN (XF.thenN (aO (aQ (aT (vs:=[_,_,_,_,_,_]) isAgg46 sizeOf46 rfl (aC.own (j:=0) (m:=6) (hS.at_ 0 rfl) rfl) rfl (aU (i:=1) (vs:=[_,_,_,_,_,_]) (cs':=[_,_,_,_,_,_]) (O':=[_,_,_]) hS sizeOf46 rfl rfl rfl rfl rfl rfl rfl fun W6 hS=>aP (XF.thenN (bL (XF.res (eE (vs:=[_,_,_,_,_,_]) results116 isAgg46 sizeOf46 rfl (aC.own (j:=0) (m:=6) (hS.at_ 1 rfl) rfl)) ?_))))))))));exact ⟨v3,rfl,(hn3.agree (hS.since 0 rfl)).mono hsz,hS.below⟩
theorem Ly (t n u m:Int) (a1 a2:Option Addr) (c1 c2 b off sc:Nat) (w:World) (hs1:S3 w b off ⟨t,n,a1,0,c1⟩) (hs2:S3 w b (off+3) ⟨u,m,a2,0,c2⟩) (hp1:bV t n 0=true) (hp2:bV u m 0=true)(fra fca:Option Addr) (frc fcc fpc fb fo:Nat) (f1 f2:WF) (x1 x2:PF) (hf6:W6 w fb fo f1) (hf7:W6 w fb (fo+6) f2) (hx1:PIs w t n f1 x1) (hx2:PIs w u m f2 x2)(gra gca:Option Addr) (grc gcc gpc gb go:Nat) (g1 g2:WF) (y1 y2:PF) (hg6:W6 w gb go g1) (hg7:W6 w gb (go+6) g2) (hy1:PIs w t n g1 y1) (hy2:PIs w u m g2 y2)(ht:Tabs w) :
  Calls prog 75 #[.agg #[.int .i64 5,.int .i64 0,.slice (some ⟨b,off,none⟩) 2 sc],.agg #[.bool false,.int .i64 0,.int .u64 0,.slice fra 0 frc,.slice fca 0 fcc,.slice (some ⟨fb,fo,none⟩) 2 fpc],.agg #[.bool false,.int .i64 0,.int .u64 0,.slice gra 0 grc,.slice gca 0 gcc,.slice (some ⟨gb,go,none⟩) 2 gpc]] w (jO (.two t n u m) (.two (dM t n x1 y1) (dM u m x2 y2)) w):=by
 refine cG (args:=[.agg #[.int .i64 5,.int .i64 0,.slice (some ⟨b,off,none⟩) 2 sc],.agg #[.bool false,.int .i64 0,.int .u64 0,.slice fra 0 frc,.slice fca 0 fcc,.slice (some ⟨fb,fo,none⟩) 2 fpc],.agg #[.bool false,.int .i64 0,.int .u64 0,.slice gra 0 grc,.slice gca 0 gcc,.slice (some ⟨gb,go,none⟩) 2 gpc]]) func75 rfl ntmps75 rfl ?_;have hS:=St.start w;refine aO (aQ (bY (cs:=[_,_,_]) hS rfl rfl rfl fun B1 W1 hS=>bY (cs:=[_,_,_,_,_,_]) hS rfl rfl rfl fun B2 W2 hS=>bY (cs:=[_,_,_,_,_,_]) hS rfl rfl rfl fun B3 W3 hS=>bF (cs:=[_,_,_,_,_,_]) hS zeroValue46 rfl rfl fun B4 W4 hS=>aP (XF.thenN (aO (aO (aQ (aN (o':=0) eF rfl rfl rfl (aR isAgg4 rfl (aK (hS.at_ 2 rfl) rfl) rfl (aP (XF.thenN (bB rfl (fun hc=>absurd hc (by decide)) (fun hc=>?_))))))))))));skip;refine bP (XF.thenN (aO (aO (aQ (aN (o':=0) eF rfl rfl rfl (aR isAgg4 rfl (aK (hS.at_ 1 rfl) rfl) rfl (aP (XF.thenN (bB rfl (fun hc=>absurd hc (by decide)) (fun hc=>?_))))))))));skip;refine bP (XF.thenN (aO (aQ (bF (cs:=[_,_,_,_,_,_]) hS zeroValue46 rfl rfl fun B5 W5 hS=>aP (XF.thenN (aO (aO (aQ (aN (o':=0) eS rfl rfl rfl (aR isAgg22 rfl (aK (hS.at_ 4 rfl) rfl) rfl (aP (XF.thenN (bX (aO (aQ (cR rfl rfl rfl (aB rfl rfl (aP (XF.thenN (bB rfl (fun hc=>absurd (of_decide_eq_true hc) (by omega)) (fun hc=>?_)))))))))))))))))))));have hc:=of_decide_eq_false hc;refine aO (aQ (cR rfl rfl rfl (aB rfl rfl (aP (XF.thenN (bB rfl (fun hc=>absurd (of_decide_eq_true hc) (by omega)) (fun hc=>?_)))))));have hc:=of_decide_eq_false hc;refine aO (aQ (cR rfl rfl rfl (aB rfl rfl (aP (XF.thenN (bB rfl (fun hc=>absurd (of_decide_eq_true hc) (by omega)) (fun hc=>?_)))))));have hc:=of_decide_eq_false hc;refine aO (aQ (cR rfl rfl rfl (aB rfl rfl (aP (XF.thenN (bB rfl (fun hc=>?_) (fun hc=>absurd (of_decide_eq_false hc) (by omega))))))));have hc:=of_decide_eq_true hc;have hsz:=hS.below.size;have k1:=aC.agree hS.agree (Nat.zero_le _) hs1.cells;have k2:=aC.agree hS.agree (Nat.zero_le _) hs2.cells;have kf1:=aC.agree hS.agree (Nat.zero_le _) hf6.cells;have kf2:=aC.agree hS.agree (Nat.zero_le _) hf7.cells;have kg1:=aC.agree hS.agree (Nat.zero_le _) hg6.cells;have kg2:=aC.agree hS.agree (Nat.zero_le _) hg7.cells;refine xU cC 27 hS rfl rfl (by kernel_rfl) (by kernel_rfl) (by kernel_rfl) (fun d hd=>by cases hd) (cE 1 rfl 3 rfl rfl (fun w hw=>aV (o':=2) dW rfl rfl) rfl (aZ 2 rfl 60 0 rfl rfl rfl (fun w hw=>bA isAgg23 rfl ((aL hw 0).cell (Nat.zero_le _) (aK (hS.at_ 4 rfl) rfl))) rfl (aZ 3 rfl 61 1 rfl rfl rfl (fun w hw=>bE (j:=0) underlying23 sizeOf25 rfl rfl rfl (by omega) (Nat.add_zero _)) rfl (aZ 4 rfl 62 2 rfl rfl rfl (fun w hw=>aY (vs:=[_,_,_]) isAgg25 sizeOf25 rfl (aC.agree (aL hw 0) (Nat.zero_le _) (by assumption))) rfl (cE 5 rfl 4 rfl rfl (fun w hw=>aV (o':=5) dH rfl rfl) rfl (aZ 6 rfl 64 4 rfl rfl rfl (fun w hw=>bA isAgg44 rfl ((aL hw 0).cell (Nat.zero_le _) (aK (hS.at_ 3 rfl) rfl))) rfl (aZ 7 rfl 65 5 rfl rfl rfl (fun w hw=>bE (j:=0) underlying44 sizeOf46 rfl rfl rfl (by omega) (Nat.add_zero _)) rfl (aZ 8 rfl 66 6 rfl rfl rfl (fun w hw=>aY (vs:=[_,_,_,_,_,_]) isAgg46 sizeOf46 rfl (aC.agree (aL hw 0) (Nat.zero_le _) (by assumption))) rfl (cE 9 rfl 5 rfl rfl (fun w hw=>aV (o':=5) dH rfl rfl) rfl (aZ 10 rfl 68 8 rfl rfl rfl (fun w hw=>bA isAgg44 rfl ((aL hw 0).cell (Nat.zero_le _) (aK (hS.at_ 2 rfl) rfl))) rfl (aZ 11 rfl 69 9 rfl rfl rfl (fun w hw=>bE (j:=0) underlying44 sizeOf46 rfl rfl rfl (by omega) (Nat.add_zero _)) rfl (aZ 12 rfl 70 10 rfl rfl rfl (fun w hw=>aY (vs:=[_,_,_,_,_,_]) isAgg46 sizeOf46 rfl (aC.agree (aL hw 0) (Nat.zero_le _) (by assumption))) rfl ?_))))))))))))
 refine aJ 13 rfl (dP W5.heap.size (.one t n) (.one (dM t n x1 y1))) (dU) (cN [isV _,isV _,isV _] rfl F3 (aS rfl) ⟨bT (aM 3 (aA rfl rfl rfl)),bT (aM 7 (aA rfl rfl rfl)),bT (aM 11 (aA rfl rfl rfl)),trivial⟩ (fun vs w' hb hh=>by have e:=bW (us:=[_,_,_]) hh;subst e;exact gT hb.size (rH _ _ _ _ _ _ _ _ _ hp1 (hx1.below (hS.below.trans (hb.mono hS.below.size))) (hy1.below (hS.below.trans (hb.mono hS.below.size))) (ht.below (hS.below.trans (hb.mono hS.below.size))))) (aF rfl)) ?_;refine cE 14 rfl 3 rfl rfl (fun w hw=>aV (o':=2) dW rfl rfl) rfl (aZ 15 rfl 73 13 rfl rfl rfl (fun w hw=>bA isAgg23 rfl ((aL hw 0).cell (Nat.zero_le _) (aK (hS.at_ 4 rfl) rfl))) rfl (aZ 16 rfl 74 14 rfl rfl rfl (fun w hw=>bE (j:=1) underlying23 sizeOf25 rfl rfl rfl (by omega) rfl) rfl (aZ 17 rfl 75 15 rfl rfl rfl (fun w hw=>aY (vs:=[_,_,_]) isAgg25 sizeOf25 rfl (aC.agree (aL hw 0) (Nat.zero_le _) (by assumption))) rfl (cE 18 rfl 4 rfl rfl (fun w hw=>aV (o':=5) dH rfl rfl) rfl (aZ 19 rfl 77 17 rfl rfl rfl (fun w hw=>bA isAgg44 rfl ((aL hw 0).cell (Nat.zero_le _) (aK (hS.at_ 3 rfl) rfl))) rfl (aZ 20 rfl 78 18 rfl rfl rfl (fun w hw=>bE (j:=1) underlying44 sizeOf46 rfl rfl rfl (by omega) rfl) rfl (aZ 21 rfl 79 19 rfl rfl rfl (fun w hw=>aY (vs:=[_,_,_,_,_,_]) isAgg46 sizeOf46 rfl (aC.agree (aL hw 0) (Nat.zero_le _) (by assumption))) rfl (cE 22 rfl 5 rfl rfl (fun w hw=>aV (o':=5) dH rfl rfl) rfl (aZ 23 rfl 81 21 rfl rfl rfl (fun w hw=>bA isAgg44 rfl ((aL hw 0).cell (Nat.zero_le _) (aK (hS.at_ 2 rfl) rfl))) rfl (aZ 24 rfl 82 22 rfl rfl rfl (fun w hw=>bE (j:=1) underlying44 sizeOf46 rfl rfl rfl (by omega) rfl) rfl (aZ 25 rfl 83 23 rfl rfl rfl (fun w hw=>aY (vs:=[_,_,_,_,_,_]) isAgg46 sizeOf46 rfl (aC.agree (aL hw 0) (Nat.zero_le _) (by assumption))) rfl ?_)))))))))));refine aJ 26 rfl (dP W5.heap.size (.one u m) (.one (dM u m x2 y2))) (dU) (cN [isV _,isV _,isV _] rfl F3 (aS rfl) ⟨bT (aM 16 (aA rfl rfl rfl)),bT (aM 20 (aA rfl rfl rfl)),bT (aM 24 (aA rfl rfl rfl)),trivial⟩ (fun vs w' hb hh=>by have e:=bW (us:=[_,_,_]) hh;subst e;exact gT hb.size (rH _ _ _ _ _ _ _ _ _ hp2 (hx2.below (hS.below.trans (hb.mono hS.below.size))) (hy2.below (hS.below.trans (hb.mono hS.below.size))) (ht.below (hS.below.trans (hb.mono hS.below.size))))) (aF rfl)) ?_;refine aJ 27 rfl (dP W5.heap.size (.two t n u m) (.two (dM t n x1 y1) (dM u m x2 y2))) (dU) (cN [dP _ (.one t n) (.one (dM t n x1 y1)),dP _ (.one u m) (.one (dM u m x2 y2))] rfl Ah (aS rfl) ⟨bT (aM 12 (aA rfl rfl rfl)),bT (aM 25 (aA rfl rfl rfl)),trivial⟩ (fun vs w' hb hh=>uG hb.size hh) (aF rfl)) (dI ?_);intro W6 hbR;clear hS;intro hS;refine aG (aG (aG (aG (aG (aG (aG (aG (aG (aG (aG (aG ?_)))))))))));refine dF ?_;rintro _ ⟨v1,rfl,hn1⟩;refine aG (aG (aG (aG (aG (aG (aG (aG (aG (aG (aG (aG ?_)))))))))));refine dF ?_;rintro _ ⟨v2,rfl,hn2⟩;refine dF ?_;rintro _ ⟨v3,rfl,hn3⟩;refine cM (aU (i:=0) (vs:=[_,_,_,_,_,_]) (cs':=[_,_,_,_,_,_]) (O':=[_,_,_,_,_]) hS sizeOf46 rfl rfl rfl rfl rfl rfl rfl fun W7 hS=>aP (XF.blkN (XF.thenN (aO (aQ (aT (vs:=[_,_,_,_,_,_]) isAgg46 sizeOf46 rfl (aC.own (j:=0) (m:=6) (hS.at_ 0 rfl) rfl) rfl (aU (i:=1) (vs:=[_,_,_,_,_,_]) (cs':=[_,_,_,_,_,_]) (O':=[_,_,_,_,_]) hS sizeOf46 rfl rfl rfl rfl rfl rfl rfl fun W8 hS=>aP (XF.thenN (bL (XF.res (eE (vs:=[_,_,_,_,_,_]) results75 isAgg46 sizeOf46 rfl (aC.own (j:=0) (m:=6) (hS.at_ 1 rfl) rfl)) ?_))))))))));exact ⟨v3,rfl,(hn3.agree (hS.since 0 rfl)).mono hsz,hS.below⟩
attribute [local go_sem ↓] Go.wp_at_zero Go.wp_at_succ
theorem D7 (t n:Int) (a:Option Addr) (l c0:Nat) (ht:t≠5) (w:World) :
  Calls prog 74 #[.agg #[.int .i64 t,.int .i64 n,.slice a l c0]] w fun e w'=>e = .returned (.agg #[.bool true,.int .i64 0,.int .u64 0,.slice none 0 0,.slice none 0 0,.slice none 0 0])∧Below w.heap.size w w':=xW t n a l c0 ht w
theorem Rx (w:World) :
  Calls prog 101 #[.agg #[.bool true,.int .i64 0,.int .u64 0,.slice none 0 0,.slice none 0 0,.slice none 0 0],.agg #[.bool true,.int .i64 0,.int .u64 0,.slice none 0 0,.slice none 0 0,.slice none 0 0]] w fun e w'=>∃ blk,e = .returned (.agg #[.bool false,.int .i64 0,.int .u64 0,.slice none 0 0,.slice none 0 0,.slice (some ⟨blk,0,none⟩) 2 2])∧W6 w' blk 0 tJ∧W6 w' blk 6 tJ∧w.heap.size≤blk∧Below w.heap.size w w':=On tJ tJ w
set_option maxHeartbeats 8000000 in
theorem Lz (d:Nat) (sa:Option Addr) (sc:Nat) (p q:SV) (w:World) (hsp:SIn w (d+1) (.mk ⟨5,0,sa,2,sc⟩ [p,q])) (hp:p.pl=true) (hq:q.pl=true) :
  Calls prog 74 #[.agg #[.int .i64 5,.int .i64 0,.slice sa 2 sc]] w (jO (.two p.f.tag p.f.dim q.f.tag q.f.dim) (.two dL dL) w):=by
 obtain ⟨_,b,off,ha,hb,hp3,hq3,_,_⟩:=hsp.two;obtain rfl:sa=some ⟨b,off,none⟩:=ha;obtain ⟨⟨pt,pn,pa,pl,pc⟩,pps⟩:=p;obtain ⟨⟨qt,qn,qa,ql,qc⟩,qps⟩:=q;have hp5:=Lib.hid (yZ (show bV pt pn pl=true from hp));have hq5:=Lib.hid (yZ (show bV qt qn ql=true from hq));obtain ⟨t0,t1⟩:=nA w #[.int .i64 5,.int .i64 0,.slice (some ⟨b,off,none⟩) 2 sc] #[.bool false,.int .i64 0,.int .u64 0,.slice none 0 0,.slice none 0 0,.slice none 0 0] 25 46;have T0:=Lib.hid t0;have T1:=Lib.hid t1;have hB:=Lib.hid (Rj w #[.int .i64 5,.int .i64 0,.slice (some ⟨b,off,none⟩) 2 sc] #[.bool false,.int .i64 0,.int .u64 0,.slice none 0 0,.slice none 0 0,.slice none 0 0] 25 46);have hsz:((w.alloc (.cells #[.int .i64 5,.int .i64 0,.slice (some ⟨b,off,none⟩) 2 sc] 25)).alloc (.cells #[.bool false,.int .i64 0,.int .u64 0,.slice none 0 0,.slice none 0 0,.slice none 0 0] 46)).heap.size=w.heap.size+1+1:=by simp
 have n1:¬ (w.heap.size+1=w.heap.size):=by omega
 have n2:¬ (w.heap.size+1=b):=by omega
 obtain ⟨W0,hW0⟩:∃ W,(w.alloc (.cells #[.int .i64 5,.int .i64 0,.slice (some ⟨b,off,none⟩) 2 sc] 25)).alloc (.cells #[.bool false,.int .i64 0,.int .u64 0,.slice none 0 0,.slice none 0 0,.slice none 0 0] 46)=W:=⟨_,rfl⟩;rw [hW0] at hB T0 T1 hsz;have HSZ:=Lib.hid hsz;have HP3:=Lib.hid (S3.below hp3 hB.out);have HQ3:=Lib.hid (S3.below hq3 hB.out);obtain ⟨x0,x1,x2⟩:=gK T0.out;obtain ⟨y0,y1,y2,y3,y4,y5⟩:=eZ T1.out;have EN:Hid (∀ W:World,Below W0.heap.size W0 W→W.cell? ⟨w.heap.size,2,none⟩=some (.slice (some ⟨b,off,none⟩) 2 sc)∧W.cell? ⟨b,off,none⟩=some (.int .i64 pt)∧W.cell? ⟨b,off+1,none⟩=some (.int .i64 pn)∧W.cell? ⟨b,off+2,none⟩=some (.slice pa pl pc)∧W.cell? ⟨b,off+3,none⟩=some (.int .i64 qt)∧W.cell? ⟨b,off+4,none⟩=some (.int .i64 qn)∧W.cell? ⟨b,off+5,none⟩=some (.slice qa ql qc)):=fun W h=>by obtain ⟨a0,a1,a2⟩:=gK (cP T0.out h);obtain ⟨d0,d1,d2⟩:=HP3.out.below h;obtain ⟨e0,e1,e2⟩:=HQ3.out.below h;exact ⟨a2,d0,d1,d2,e0,e1,e2⟩
 obtain ⟨m0,m1,m2,m3,m4,m5,m6⟩:=EN.out _ (Below.refl _ _);clear hsp hp hq hp3 hq3 t0 t1 hsz hb;have D0:Hid (Below W0.heap.size W0 W0.drew):=(Below.refl _ _).drew;go_enter func74,ntmps74;go_wp2_with fail;go_region_held3 (fun w'=>w'.cell? ⟨w.heap.size,2,none⟩=some (.slice (some ⟨b,off,none⟩) 2 sc)∧w'.cell? ⟨b,off,none⟩=some (.int .i64 pt)∧w'.cell? ⟨b,off+1,none⟩=some (.int .i64 pn)∧w'.cell? ⟨b,off+2,none⟩=some (.slice pa pl pc)∧w'.cell? ⟨b,off+3,none⟩=some (.int .i64 qt)∧w'.cell? ⟨b,off+4,none⟩=some (.int .i64 qn)∧w'.cell? ⟨b,off+5,none⟩=some (.slice qa ql qc))
  (first | (simp only [World.cell?_setCell_far,ne_eq,n1,n2,not_false_eq_true];with_reducible exact EN.out _ D3.out) | with_reducible exact EN.out _ D0.out | with_reducible exact EN.out _ D1.out | with_reducible exact EN.out _ D2.out | with_reducible exact EN.out _ D3.out | with_reducible exact EN.out _ (Below.refl _ _) | fail)
  (first | (go_at_call 74;with_reducible refine (D7 pt pn pa pl pc hp5.out W0.drew).mono ?_;rintro e z1 ⟨rfl,hz1⟩;have D1:=Lib.hid (D0.out.trans (hz1.mono D0.out.size))) | (go_at_call 74;with_reducible refine (D7 qt qn qa ql qc hq5.out z1).mono ?_;rintro e z2 ⟨rfl,hz2⟩;have D2:=Lib.hid (D1.out.trans (hz2.mono D1.out.size))) | (go_at_call 101;with_reducible refine (Rx z2).mono ?_;rintro e z3 ⟨blk,rfl,hx6,hy6,hge,hz3⟩;have D3:=Lib.hid (D2.out.trans (hz3.mono D2.out.size));have XO:=Lib.hid (cP T1.out D3.out);obtain ⟨o0,o1,o2,o3,o4,o5⟩:=eZ XO.out;have f0:=eK XO.out 0;have f1:=eK XO.out 1;have f2:=eK XO.out 2;have f3:=eK XO.out 3;have f4:=eK XO.out 4;have f5:=eK XO.out 5) | fail)
 all_goals
  have NS:=Lib.hid (Oo (v0:=.bool false) (v1:=.int .i64 0) (v2:=.int .u64 0) (v3:=.slice none 0 0) (v4:=.slice none 0 0) (v5:=.slice (some ⟨blk,0,none⟩) 2 2) XO.out);obtain ⟨s0,s1,s2,s3,s4,s5⟩:=eZ NS.out;have hle:=D2.out.size;have hge2:w.heap.size+1+1≤blk:=by have:=HSZ.out;omega
  have HX6:=Lib.hid hx6;have HY6:=Lib.hid hy6;have HB3:=Lib.hid (hB.out.trans (D3.out.mono hB.out.size));clear hx6 hy6 f0 f1 f2 f3 f4 f5 o0 o1 o2 o3 o4 o5;go_wp2_with fail;refine bodyPost_ret (v:=.agg #[.bool false,.int .i64 0,.int .u64 0,.slice none 0 0,.slice none 0 0,.slice (some ⟨blk,0,none⟩) 2 2]) ?_ rfl ⟨vE blk,rfl,?_,?_⟩
  rotate_left
  ·exact (Au (HX6.out.above (n:=w.heap.size+1+1) hge2 (uF _ _ _ _ _ _ (kP.refl _ _) (by omega))) (HY6.out.above (n:=w.heap.size+1+1) hge2 (uF _ _ _ _ _ _ (kP.refl _ _) (by omega))) hge2 (oX _ _ _ _) (oX _ _ _ _)).mono (by omega)
  ·exact As _ _ _ _ _ _ HB3.out (by omega)
  ·simp [results,results74,go_sem,s0,s1,s2,s3,s4,s5]
end
section
open Go.RowKit
theorem PIs.pw {w:World} {t n:Int} {f:WF} {x:PF} (h:PIs w t n f x):fO t n f=true:=by
 obtain ⟨ez,ec,eg,er,ex⟩:=mH h.pf;have hrl:=h.at_.rl;have hcl:=h.at_.cl;have hpl:=h.pl;rw [er] at hrl;rw [ex] at hcl;unfold fO iS iR;rw [ez,ec,eg,er,ex,hpl,← hrl,← hcl];cases h.ok with
 | zero=>simp [dL]
 | bool ht=>rw [ht];simp [pC]
 | cost c ht h0 h1=>rw [ht];simp [pC,h0,h1]
 | facts m g rows ht hn hg=>rw [ht,hn];simp [pF,uA hg]
 | cells m cs ht hn hv=>rw [ht,hn];simp [pX,hv.chk]
theorem SIs.sin {w:World} {S:PS} {f:SF} (h:SIs w S f) (hok:S.ok):∃ s:SV,s.f=f∧SIn w 2 s∧dR s=0:=by
 cases S with
 | one t n =>
  obtain ⟨a,c,rfl⟩:=h;exact ⟨.mk ⟨t,n,a,0,c⟩ [],rfl,⟨rfl,.inl rfl,by simp⟩,by
   show (if bV t n 0=true then (0:Int) else _)=0;rw [if_pos (show bV t n 0=true from hok)]⟩
 | two t n u m =>
  obtain ⟨b,off,c,a1,c1,a2,c2,rfl,h1,h2⟩:=h;refine ⟨.mk ⟨5,0,some ⟨b,off,none⟩,2,c⟩ [.mk ⟨t,n,a1,0,c1⟩ [],.mk ⟨u,m,a2,0,c2⟩ []],rfl,⟨rfl,.inr ⟨b,off,rfl,fun i p hi=>?_⟩,?_⟩,?_⟩
  ·match i,hi with
   | 0,hi=>simp at hi;subst hi;simpa [SV.f] using h1
   | 1,hi=>simp at hi;subst hi;simpa [SV.f] using h2
  ·intro p hp;simp at hp;rcases hp with rfl | rfl<;>exact ⟨rfl,.inl rfl,by simp⟩
  ·have e1:SV.pl (.mk ⟨t,n,a1,0,c1⟩ [])=true:=hok.1;have e2:SV.pl (.mk ⟨u,m,a2,0,c2⟩ [])=true:=hok.2;simp only [dR];rw [if_neg (by simp [bV]),if_pos ⟨trivial,trivial,rfl,by simp [e1,e2]⟩]
theorem XIs.two {w:World} {t n u m:Int} {f:WF} {a b:PF} (h:XIs w (.two t n u m) f (.two a b)):∃ (ra ca:Option Addr) (rc cc pc fb fo:Nat) (f1 f2:WF),f=⟨false,0,0,ra,0,rc,[],ca,0,cc,[],some ⟨fb,fo,none⟩,2,pc⟩∧W6 w fb fo f1∧W6 w fb (fo+6) f2∧PIs w t n f1 a∧PIs w u m f2 b:=by obtain ⟨h1,h2,h3,h4,blk,off,g,k,h5,h6,h7,h8,h9⟩:=h;obtain ⟨z,c,gg,ra,rl,rc,rows,ca,cl,cc,cells,pa,pl,pc⟩:=f;simp only [WF.pf,pC,PF.mk.injEq] at h1;obtain ⟨rfl,rfl,rfl,rfl,rfl⟩:=h1;dsimp only at h2 h3 h4 h5;subst h2;subst h3;subst h4;subst h5;exact ⟨ra,ca,rc,cc,pc,blk,off,g,k,rfl,h6,h7,h8,h9⟩
theorem pV {w:World} {t n u m:Int} {ra ca:Option Addr} {rc cc pc fb fo:Nat} {f1 f2:WF} {a b:PF} (h6:W6 w fb fo f1) (h7:W6 w fb (fo+6) f2) (h8:PIs w t n f1 a) (h9:PIs w u m f2 b) :
  WIn w 2 (.mk ⟨false,0,0,ra,0,rc,[],ca,0,cc,[],some ⟨fb,fo,none⟩,2,pc⟩ [.mk f1 [],.mk f2 []]):=by
 refine ⟨⟨.inl rfl,rfl,(by show (0:Nat) < _;decide),(fun r hr=>by cases hr),.inl rfl,rfl,(fun c hc=>by cases hc),(by show (0:Nat)≤_;decide)⟩,rfl,.inr ⟨fb,fo,rfl,fun i p hi=>?_⟩,fun p hp=>?_⟩
 ·match i,hi with
  | 0,hi=>simp at hi;subst hi;simpa [WV.f] using h6
  | 1,hi=>simp at hi;subst hi;simpa [WV.f] using h7
 ·simp at hp;rcases hp with rfl | rfl
  ·exact ⟨h8.at_,h8.pl.symm,.inl rfl,by simp⟩
  ·exact ⟨h9.at_,h9.pl.symm,.inl rfl,by simp⟩
theorem L0 {w:World} {t n u m:Int} {ra ca:Option Addr} {a1 a2:Option Addr} {c1 c2 rc cc pc fb fo:Nat} {f1 f2:WF} {a b:PF} (h8:PIs w t n f1 a) (h9:PIs w u m f2 b) :
  iD (.mk ⟨t,n,a1,0,c1⟩ []) (.mk ⟨u,m,a2,0,c2⟩ []) ⟨false,0,0,ra,0,rc,[],ca,0,cc,[],some ⟨fb,fo,none⟩,2,pc⟩ [.mk f1 [],.mk f2 []]=true:=by
 have e1:fO t n f1=true:=h8.pw;have e2:fO u m f2=true:=h9.pw;simp [iD,iS,iR,pwAt,SV.f,WV.f,e1,e2]
section
variable {w:World} {S:PS} {sf:SF} {f g:WF} {x y:PX}
theorem Oz {t n u m:Int} {b off sc:Nat} {a1 a2:Option Addr} {c1 c2:Nat} (h1:S3 w b off ⟨t,n,a1,0,c1⟩) (h2:S3 w b (off+3) ⟨u,m,a2,0,c2⟩):SIn w 2 (.mk ⟨5,0,some ⟨b,off,none⟩,2,sc⟩ [.mk ⟨t,n,a1,0,c1⟩ [],.mk ⟨u,m,a2,0,c2⟩ []]):=by
 refine ⟨rfl,.inr ⟨b,off,rfl,fun i p hi=>?_⟩,?_⟩
 ·match i,hi with
  | 0,hi=>simp at hi;subst hi;simpa [SV.f] using h1
  | 1,hi=>simp at hi;subst hi;simpa [SV.f] using h2
 ·intro p hp;simp at hp;rcases hp with rfl | rfl<;>exact ⟨rfl,.inl rfl,by simp⟩
theorem isA_ok (hs:SIs w S sf) (hok:S.ok) (hx:XIs w S f x):Calls prog 64 #[sf.val,f.val] w fun e w'=>e = .returned (.bool true)∧Below w.heap.size w w':=by
 cases S<;>cases x<;>first | exact hx.elim | skip
 ·obtain ⟨a,c,rfl⟩:=hs;exact nE _ _ _ _ _ _ hok (Nat.zero_le _) w (PIs.at_ hx) true (PIs.pw hx)
 ·obtain ⟨b,off,c,a1,c1,a2,c2,rfl,h1,h2⟩:=hs;obtain ⟨ra,ca,rc,cc,pc,fb,fo,f1,f2,rfl,h6,h7,h8,h9⟩:=hx.two;exact D5 1 _ _ _ _ _ _ w (Oz h1 h2) hok.1 hok.2 1 (pV h6 h7 h8 h9) (fun _ _=>Nat.zero_le _) true (L0 h8 h9)
theorem xC (hs:SIs w S sf) (hok:S.ok):Calls prog 12 #[sf.val] w fun e w'=>e = .returned (.int .i64 0)∧Below w.heap.size w w':=by obtain ⟨s,rfl,h1,h2⟩:=hs.sin hok;exact wX 2 s 0 w h1 h2
theorem wExt_is (hs:SIs w S sf) (hok:S.ok) (hx:XIs w S f x) (hy:XIs w S g y) (ht:Tabs w):Calls prog 131 #[sf.val,f.val,g.val] w (jO S (kZ S x y) w):=by
 cases S<;>cases x<;>cases y<;>first | exact hx.elim | exact hy.elim | skip
 ·obtain ⟨a,c,rfl⟩:=hs;exact uH _ _ _ _ _ _ _ _ _ hok hx hy ht
 ·obtain ⟨b,off,c,a1,c1,a2,c2,rfl,h1,h2⟩:=hs;obtain ⟨ra,ca,rc,cc,pc,fb,fo,f1,f2,rfl,h6,h7,h8,h9⟩:=hx.two;obtain ⟨ra',ca',rc',cc',pc',gb,go,g1,g2,rfl,h6',h7',h8',h9'⟩:=hy.two;exact Rv _ _ _ _ _ _ _ _ _ _ _ _ h1 h2 hok.1 hok.2 _ _ _ _ _ _ _ _ _ _ _ h6 h7 h8 h9 _ _ _ _ _ _ _ _ _ _ _ h6' h7' h8' h9' ht
theorem oneA_ok (hs:SIs w S sf) (hok:S.ok):Calls prog 116 #[sf.val] w (jO S (oW S) w):=by
 cases S with
 | one t n =>
  obtain ⟨a,c,rfl⟩:=hs;exact uI _ _ _ _ _ hok
 | two t n u m =>
  obtain ⟨b,off,c,a1,c1,a2,c2,rfl,h1,h2⟩:=hs;exact Rw _ _ _ _ _ _ _ _ _ _ _ _ h1 h2 hok.1 hok.2
theorem Io (hs:SIs w S sf) (hok:S.ok):Calls prog 74 #[sf.val] w (jO S (bU S) w):=by
 cases S with
 | one t n =>
  obtain ⟨a,c,rfl⟩:=hs;refine (xW t n a 0 c (yZ hok) w).mono ?_;rintro e w' ⟨rfl,hb⟩;exact ⟨tJ,rfl,oX _ _ _ _,hb⟩
 | two t n u m =>
  obtain ⟨b,off,c,a1,c1,a2,c2,rfl,h1,h2⟩:=hs;exact Lz 1 _ _ _ _ w (Oz h1 h2) hok.1 hok.2
end
end
end Go.Proofs.YtbmieipifgailaaGreatDoor
