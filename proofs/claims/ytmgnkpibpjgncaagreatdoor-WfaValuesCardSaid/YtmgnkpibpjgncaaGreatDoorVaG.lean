import Derived.Laws.BytesArg
import Derived.Maps.OwnSet
import Derived.Deep.AppendSrc
import Derived.Test.YtmgnkpibpjgncaaGreatDoorVaF
set_option maxRecDepth 100000
set_option maxHeartbeats 4000000
set_option linter.unusedVariables false
set_option linter.unusedVariables false
set_option linter.unusedSimpArgs false
set_option linter.unusedSectionVars false
set_option linter.unnecessarySimpa false
namespace Go.Proofs.YtmgnkpibpjgncaaGreatDoor
open Go.Proofs.Tryz
open Go Go.RowKit
theorem Pc:bH prog 66=true:=by kernel_rfl
theorem Gy:bH prog 94=true:=by kernel_rfl
theorem goes_95:bH prog 95=true:=by kernel_rfl
theorem Jx {O:Own} {j jx B:Nat} {cs vs:List Value} {U:TypeId} {ev:Option Value} {p:Nat×List Value×TypeId} (he:ev=none) (h:O[j]?=some p):(Gg O j jx B cs vs U ev)[j]?=some p:=by
 subst he;exact h
def hopX (S:PS) (bk:Bool) (py:TV→PX) (x:PX) (t:TV) (ys:List PX):List PX:=ys.set t.t.toNat (bZ S (ys.getD t.t.toNat (bP S)) (jX S bk x (py t)))
def mI (S:PS) (bk:Bool) (py:TV→PX) (ts:List TV) (x:PX) (js:List Int) (ys:List PX):List PX:=js.foldl (fun ys j=>match ts[j.toNat]? with | some t=>hopX S bk py x t ys | none=>ys) ys
def kS (S:PS) (bk:Bool) (py:TV→PX) (ts:List TV) (xs:List PX) (sym:Int) (l:List Nat) (ys:List PX):List PX:=l.foldl (fun ys s=>mI S bk py ts (xs.getD s (bP S)) (byT kSym ts 0 ((s:Int),sym)) ys) ys
theorem Rx {S:PS} {bk:Bool} {py:TV→PX} {ts:List TV} {x:PX} {js:List Int} {ys:List PX} {j tj:Nat} {t:TV} (h:js[j]?=some (tj:Int)) (ht:ts[tj]?=some t):mI S bk py ts x (js.take (j+1)) ys=hopX S bk py x t (mI S bk py ts x (js.take j) ys):=by
 rw [List.take_add_one,h]
 show mI S bk py ts x (js.take j++[(tj:Int)]) ys=_
 unfold mI
 rw [List.foldl_append]
 show (match ts[((tj:Int)).toNat]? with | some t=>_ | none=>_)=_
 rw [Int.toNat_natCast,ht]
theorem Ry {S:PS} {bk:Bool} {py:TV→PX} {ts:List TV} {xs:List PX} {sym:Int} {l:List Nat} {ys:List PX} {i y:Nat} {x:PX} (h:l[i]?=some y) (hx:xs[y]?=some x):kS S bk py ts xs sym (l.take (i+1)) ys=mI S bk py ts x (byT kSym ts 0 ((y:Int),sym)) (kS S bk py ts xs sym (l.take i) ys):=by
 rw [List.take_add_one,h]
 show kS S bk py ts xs sym (l.take i++[y]) ys=_
 unfold kS
 rw [List.foldl_append]
 show mI S bk py ts (xs.getD y (bP S)) _ _=_
 rw [List.getD_eq_getElem?_getD,hx];rfl
theorem hop_at {S:PS} {bk:Bool} {py:TV→PX} {x x5:PX} {rf rg:Int} {tN:Nat} {tx:WV} {ys:List PX} (h:ys[tN]?=some x5):hopX S bk py x ⟨rf,rg,(tN:Int),tx⟩ ys=ys.set tN (bZ S x5 (jX S bk x (py ⟨rf,rg,(tN:Int),tx⟩))):=by
 unfold hopX
 dsimp only
 rw [Int.toNat_natCast,List.getD_eq_getElem?_getD,h];rfl
theorem Jy {S:PS} {bk:Bool} {x y:PX} (hok:S.ok) (hx:OkX S x) (hy:OkX S y):OkX S (jX S bk x y):=by
 unfold jX
 split
 ·exact zA hok hy hx
 ·exact zA hok hx hy
theorem perm3 {α:Type} (x a b c:α) (l:List α):(x::a::b::c::l).Perm (a::b::c::x::l):=(List.perm_middle (l₁:=[a,b,c])).symm
theorem Pd {α:Type} (x a b c d:α) (l:List α):(x::a::b::c::d::l).Perm (a::b::c::d::x::l):=(List.perm_middle (l₁:=[a,b,c,d])).symm
theorem Rz (S:PS) (a:AV) (f0:WF) (bk:Bool) (bm VA VX RB IA WA IX WX n:Nat) (vx va:Value) (fx fs:List WF) (xx xs:List PX) (lx l:List Nat) (Ot:Own) (Gt:cU) (K:List (Nat×World)) (w0:World) (lo:Nat) (py:TV→PX) (sym:Int) (w:World) (hS0:St w0 ((RB,rdC f0 a bk bm VA VX,109)::(VX,gU vx n IX WX,139)::(IX,inC S xx,4)::(WX,wC fx,44)::(VA,gU va n IA WA,139)::(IA,inC S xs,4)::(WA,wC fs,44)::Ot) (⟨vx,lx.length,atC lx,3,1⟩::⟨va,l.length,atC l,3,1⟩::Gt) K w) (hVX:VecOk S w0 K n fx xx lx) (hVA:VecOk S w0 K n fs xs l) (hn:n≤4096) (hM:oG w0 K kSym lo a.ts bm) (htrow:nO w0 a.ta a.ts) (htlen:a.ts.length=a.tl) (htm:a.tl≤65536) (htq:∀ t∈a.ts,inQ t.t (n:Int)=true) (hpy:∀ t∈a.ts,XIs w0 S t.x.f (py t)) (hsy : -1≤sym∧sym≤1000000) (hsi:SIs w0 S a.s.f) (hok:S.ok) (ht:Tabs w0) (H0:mE w0 K (fun W=>XIs W S f0 (bP S))) :
  Calls prog 56 #[.pointer (some ⟨RB,0,none⟩),.int .i64 sym] w (fun e w'=>∃ (u v:Value) (l':List Nat) (fs':List WF) (Kn:List (Nat×World)),e = .returned (.tuple #[])∧(∀ q∈K,q∈Kn)∧VecOk S w0 Kn n fs' (kS S bk py a.ts xs sym l (List.replicate n (bP S))) l'∧St w0 ((RB,rdC f0 a bk bm VX VA,109)::(VX,gU u n IX WX,139)::(IX,inC S (kS S bk py a.ts xs sym l (List.replicate n (bP S))),4)::(WX,wC fs',44)::(VA,gU v n IA WA,139)::(IA,inC S xs,4)::(WA,wC fs,44)::Ot) (⟨u,l'.length,atC l',3,1⟩::⟨v,l.length,atC l,3,1⟩::Gt) Kn w'):=by
 refine cB (args:=[.pointer (some ⟨RB,0,none⟩),.int .i64 sym]) func56 rfl ntmps56 rfl ?_
 have hS:=hS0
 obtain ⟨aa,ac,hva,_⟩:=iB (hS.row 1 rfl)
 have hva:va = .slice aa l.length ac:=hva
 subst hva
 have hll:=hVA.len
 refine aJ (aQ (aE rfl rfl (cM rfl rfl (aO (o':=19) sC rfl rfl rfl (aT isAgg107 rfl (aH (hS.at_ 0 rfl) rfl) rfl (fY (vs:=[_]) goes_95 rfl (Jh S VX IX WX n vx fx xx lx _ _ _ w0 _ (hS.perm (perm3 _ _ _ _ _)) hVX hn) rfl ?_))))))
 rintro e W9 ⟨u9,rfl,hV9,hS9⟩
 refine ⟨_,rfl,?_⟩
 clear hS;have hS:=hS9.perm (perm3 _ _ _ _ _).symm;clear hS9
 refine aN (XF.thenN (aJ (aJ (aQ (aE rfl rfl (cM rfl rfl (aO (o':=18) kR rfl rfl rfl (aT isAgg107 rfl (aH (hS.at_ 0 rfl) rfl) rfl (cM rfl rfl (aO (o':=0) kQ rfl rfl rfl (aT isAgg26 rfl (aH (hS.at_ 4 rfl) rfl) rfl (cX underlying26 rfl rfl (aE rfl rfl (aN (XF.thenN (bQ (eI (fun m lf W=>∃ (i:Nat) (v9:Value) (f9s:List WF) (x9s:List PX) (l9:List Nat) (Kk:List (Nat×World)),i≤l.length∧m=l.length - i∧lf=[(0,.pointer (some ⟨RB,0,none⟩)),(1,.int .i64 sym),(20,.slice aa l.length ac),(21,.int .i64 (l.length:Int)),(22,.int .i64 (i:Int))]∧(∀ q∈K,q∈Kk)∧x9s=kS S bk py a.ts xs sym (l.take i) (List.replicate n (bP S))∧VecOk S w0 Kk n f9s x9s l9∧St w0 ((RB,rdC f0 a bk bm VA VX,109)::(VX,gU v9 n IX WX,139)::(IX,inC S x9s,4)::(WX,wC f9s,44)::(VA,gU (.slice aa l.length ac) n IA WA,139)::(IA,inC S xs,4)::(WA,wC fs,44)::Ot) (⟨v9,l9.length,atC l9,3,1⟩::⟨(.slice aa l.length ac),l.length,atC l,3,1⟩::Gt) Kk W) (l.length - 0) ([(0,_),(1,_),(20,_),(21,_),(22,_)]) ⟨rfl,rfl,rfl,rfl,rfl,trivial⟩ (⟨0,u9,fx,_,[],K,Nat.zero_le _,rfl,rfl,(fun q hq=>hq),rfl,hV9,hS⟩) ?_)))))))))))))))))
 clear hS
 rintro m lf W ⟨i,v9,f9s,x9s,l9,Kk,hi,rfl,rfl,hKk,hx9s,hV,hS⟩
 refine aJ (aQ (cY rfl rfl rfl (aN (XF.thenN (aJ (bA rfl (fun hc=>?_) (fun hc=>?_)))))))
 ·have hc23:=of_decide_eq_true hc;clear hc
  have hk:i < l.length:=by omega
  obtain ⟨y,hy⟩:∃ y,l[i]?=some y:=⟨l[i],List.getElem?_eq_getElem hk⟩
  obtain ⟨xy,hxy,hxz⟩:=(hVA.ats y).1 (List.mem_of_getElem? hy)
  have hyn:y < n:=by have:=(List.getElem?_eq_some_iff.1 hxy).1;rw [hVA.xl] at this;exact this
  obtain ⟨fy,hfy⟩:∃ fy,fs[y]?=some fy:=⟨fs[y]'(by rw [hVA.fl];exact hyn),List.getElem?_eq_getElem _⟩
  obtain ⟨b9,rfl,k9⟩:=jU (hS.row 1 rfl) (show (atC l)[i]?=some (.int .i64 (y:Int)) by rw [List.getElem?_map,hy];rfl)
  refine bM (XF.thenN (aJ (bQ (aJ (aQ (cK  underlying26 sizeOf3 rfl rfl rfl (by omega) rfl rfl (aT isAgg3 rfl (k9) rfl (aC rfl rfl (aN (XF.thenN (aJ ?_)))))))))))
  obtain ⟨Wf,hG,hH⟩:=hM
  have hH4:=hH hS hKk
  obtain ⟨v33,hlk,hrw⟩:=Grp.look hG Gv underlying106 zeroValue26 (k:=((y:Int),sym)) (Gw (wI (Int.natCast_nonneg _) (by omega)) (Gx hsy.1 hsy.2)) Gu
  obtain ⟨ra,rc,rfl,hrc⟩:=iB hrw
  obtain ⟨rl,hrl⟩:∃ m,m=(Bx kSym a.ts ((y:Int),sym)).length:=⟨_,rfl⟩
  rw [← hrl] at hlk hrw hrc
  have hlk4:=hlk _ hH4.1
  have hrl2:rl=(byT kSym a.ts 0 ((y:Int),sym)).length:=by rw [hrl,List.length_map]
  have hrl3:=qF kSym ((y:Int),sym) a.ts 0
  refine aQ (aE rfl rfl (cM rfl rfl (aO (o':=17) wJ rfl rfl rfl (aT isAgg106 rfl (aH (hS.at_ 0 rfl) rfl) rfl (aE rfl rfl (aE rfl rfl (cV (us:=[(0,.int .i64 _),(1,.int .i64 _)]) rfl (oF _ _) rfl (opV (Eh rfl rfl hlk4) rfl (cX underlying26 rfl rfl (aE rfl rfl (aN (XF.thenN (bQ (eI (fun m lf W=>∃ (j:Nat) (v7:Value) (f7:List WF) (x7:List PX) (l7:List Nat) (Kj:List (Nat×World)),j≤rl∧m=rl - j∧lf=[(0,.pointer (some ⟨RB,0,none⟩)),(1,.int .i64 sym),(5,.int .i64 (y:Int)),(20,.slice (some ⟨b9,0,none⟩) l.length ac),(21,.int .i64 (l.length:Int)),(22,.int .i64 (i:Int)),(33,.slice ra rl rc),(34,.int .i64 (rl:Int)),(35,.int .i64 (j:Int))]∧(∀ q∈K,q∈Kj)∧x7=mI S bk py a.ts xy ((byT kSym a.ts 0 ((y:Int),sym)).take j) x9s∧VecOk S w0 Kj n f7 x7 l7∧St w0 ((RB,rdC f0 a bk bm VA VX,109)::(VX,gU v7 n IX WX,139)::(IX,inC S x7,4)::(WX,wC f7,44)::(VA,gU (.slice (some ⟨b9,0,none⟩) l.length ac) n IA WA,139)::(IA,inC S xs,4)::(WA,wC fs,44)::Ot) (⟨v7,l7.length,atC l7,3,1⟩::⟨(.slice (some ⟨b9,0,none⟩) l.length ac),l.length,atC l,3,1⟩::Gt) Kj W) (rl - 0) ([(0,_),(1,_),(5,_),(20,_),(21,_),(22,_),(33,_),(34,_),(35,_)]) ⟨rfl,rfl,rfl,rfl,rfl,rfl,rfl,rfl,rfl,trivial⟩ (⟨0,v9,f9s,x9s,l9,Kk,Nat.zero_le _,rfl,rfl,hKk,rfl,hV,hS⟩) ?_))))))))))))))
  clear hS
  clear hV;rintro m lf W ⟨j,v7,f7,x7,l7,Kj,hj,rfl,rfl,hKj,hx7,hV,hS⟩
  refine aJ (aQ (cY rfl rfl rfl (aN (XF.thenN (aJ (bA rfl (fun hc=>?_) (fun hc=>?_)))))))
  ·have hc36:=of_decide_eq_true hc;clear hc
   have hkj:j < rl:=by omega
   obtain ⟨z,hz⟩:∃ z,(byT kSym a.ts 0 ((y:Int),sym))[j]?=some z:=⟨_,List.getElem?_eq_getElem (by omega)⟩
   obtain ⟨tj,t9,hz1,ht9,hkt⟩:=tC.1 (List.mem_of_getElem? hz)
   rw [Nat.zero_add] at hz1;subst hz1
   have hrwW:=dQ hrw (fun p hp=>(hH hS hKj).2 p (hrw.lt p hp).1 (hrw.lt p hp).2)
   obtain ⟨b6,rfl,k6⟩:=jU hrwW (show (Bx kSym a.ts ((y:Int),sym))[j]?=some (.int .i64 (tj:Int)) by rw [List.getElem?_map,hz];rfl)
   have htj:=(List.getElem?_eq_some_iff.1 ht9).1
   have hmt:=List.mem_of_getElem? ht9
   obtain ⟨rf,rg,rt,tx⟩:=t9
   obtain ⟨tN,htt,htN⟩:=fK (htq _ hmt)
   dsimp only at htt
   subst htt
   have hpt:=hpy _ hmt
   obtain ⟨bt,ot,hta,hcs⟩:=htrow.at_ ht9
   have kt:=aB.agree hS.agree (Nat.zero_le _) hcs
   obtain ⟨f5,x5,hf5,hx5,hok5⟩:=hV.at_ htN
   have hokx:OkX S (jX S bk xy (py ⟨rf,rg,(tN:Int),tx⟩)):=Jy hok (hVA.ok xy (List.mem_of_getElem? hxy)) hpt.ok
   refine bM (XF.thenN (aJ (bQ (aJ (aQ (cK  underlying26 sizeOf3 rfl rfl rfl (by omega) rfl rfl (aT isAgg3 rfl (k6) rfl (aC rfl rfl (aN (XF.thenN (aJ (aQ (aE rfl rfl (cM rfl rfl (aO (o':=9) sD rfl rfl rfl (aO (o':=15) gF rfl rfl rfl (aT isAgg27 rfl (aH (hS.at_ 0 rfl) rfl) rfl (aE rfl rfl ?_))))))))))))))))))
   refine cK (j:=tj) (b:=bt) (o:=ot) (m:=a.tl) (c:=a.tc) underlying27 sizeOf66 (by show some (Value.slice a.ta a.tl a.tc)=_;rw [hta]) rfl rfl (by omega) rfl rfl ?_
   refine aS (vs:=[_,_,_,_,_,_,_,_,_]) isAgg66 sizeOf66 rfl (kt) rfl (bB (cs:=[_,_,_,_,_,_,_,_,_]) hS zeroValue66 rfl rfl fun B1 W1 hS=>aU (i:=0) (vs:=[_,_,_,_,_,_,_,_,_]) (cs':=[_,_,_,_,_,_,_,_,_]) (O':=(_::_::_::_::_::_::_::_::Ot)) hS sizeOf66 rfl rfl rfl rfl rfl rfl rfl fun W2 hS=>aN (XF.thenN (Vn (ef:=21) (jy:=21) (ca:=pZ (fun _=>[])) (ta:=fun _=>0) (Os:=Vo _) (Gs:=tE _) (al:=[]) (k:=20) (ds:=[67]) cD rfl hS rfl (by kernel_rfl) (by kernel_rfl) rfl (by decide) rfl (fun _=>none) (.inr ⟨rfl,rfl,rfl⟩) rfl rfl (aW 1 rfl rfl (isV _) (fun hNo=>sgV [(0,_)] rfl rfl rfl rfl hNo (aR rfl) ⟨cF rfl,trivial⟩ (fun ev w he hw=>aY rfl) (aD rfl)) (aW 2 rfl rfl (isV _) (fun hNo=>sgV [(0,_)] rfl rfl rfl rfl hNo (aR rfl) ⟨cF rfl,trivial⟩ (fun ev w he hw=>aY rfl) (aD rfl)) (aW 3 rfl rfl (isV _) (fun hNo=>sgV [(48,_)] rfl rfl rfl rfl hNo (aR rfl) ⟨aL 1 (aA rfl rfl rfl),trivial⟩ (fun ev w he hw=>cT rfl) (aD rfl)) (aW 4 rfl rfl (isV _) (fun hNo=>sgV [(49,_)] rfl rfl rfl rfl hNo (aR rfl) ⟨aL 2 (aA rfl rfl rfl),trivial⟩ (fun ev w he hw=>aV (o':=19) sC rfl rfl) (aD rfl)) (aW 5 rfl rfl (isV _) (fun hNo=>sgV [(50,_)] rfl rfl rfl rfl hNo (aR rfl) ⟨aL 3 (aA rfl rfl rfl),trivial⟩ (fun ev w he hw=>bC isAgg107 rfl ((aH (hw.at_ 1 rfl) rfl))) (aD rfl)) (aW 6 rfl rfl (isV _) (fun hNo=>sgV [(8,_)] rfl rfl rfl rfl hNo (aR rfl) ⟨cF rfl,trivial⟩ (fun ev w he hw=>aV (o':=2) mS rfl rfl) (aD rfl)) (aW 7 rfl rfl (isV _) (fun hNo=>sgV [(52,_)] rfl rfl rfl rfl hNo (aR rfl) ⟨aL 5 (aA rfl rfl rfl),trivial⟩ (fun ev w he hw=>bC isAgg3 rfl ((aH (hw.at_ 0 rfl) rfl))) (aD rfl)) (aW 8 rfl rfl (isV _) (fun hNo=>sgV [(0,_)] rfl rfl rfl rfl hNo (aR rfl) ⟨cF rfl,trivial⟩ (fun ev w he hw=>aY rfl) (aD rfl)) (aW 9 rfl rfl (isV _) (fun hNo=>sgV [(0,_)] rfl rfl rfl rfl hNo (aR rfl) ⟨cF rfl,trivial⟩ (fun ev w he hw=>aY rfl) (aD rfl)) (aW 10 rfl rfl (isV _) (fun hNo=>sgV [(55,_)] rfl rfl rfl rfl hNo (aR rfl) ⟨aL 8 (aA rfl rfl rfl),trivial⟩ (fun ev w he hw=>cT rfl) (aD rfl)) (aW 11 rfl rfl (isV _) (fun hNo=>sgV [(56,_)] rfl rfl rfl rfl hNo (aR rfl) ⟨aL 9 (aA rfl rfl rfl),trivial⟩ (fun ev w he hw=>aV (o':=18) kR rfl rfl) (aD rfl)) (aW 12 rfl rfl (isV _) (fun hNo=>sgV [(57,_)] rfl rfl rfl rfl hNo (aR rfl) ⟨aL 10 (aA rfl rfl rfl),trivial⟩ (fun ev w he hw=>bC isAgg107 rfl ((aH (hw.at_ 1 rfl) rfl))) (aD rfl)) (aW 13 rfl rfl (isV _) (fun hNo=>sgV [(58,_)] rfl rfl rfl rfl hNo (aR rfl) ⟨aL 11 (aA rfl rfl rfl),trivial⟩ (fun ev w he hw=>cT rfl) (aD rfl)) (aW 14 rfl rfl (isV _) (fun hNo=>sgV [(59,_)] rfl rfl rfl rfl hNo (aR rfl) ⟨aL 12 (aA rfl rfl rfl),trivial⟩ (fun ev w he hw=>aV (o':=2) nS rfl rfl) (aD rfl)) (aW 15 rfl rfl (isV _) (fun hNo=>sgV [(60,_)] rfl rfl rfl rfl hNo (aR rfl) ⟨aL 13 (aA rfl rfl rfl),trivial⟩ (fun ev w he hw=>bC isAgg42 rfl ((aH (hw.at_ 5 rfl) rfl))) (aD rfl)) (aW 16 rfl rfl (isV _) (fun hNo=>sgV [(5,_)] rfl rfl rfl rfl hNo (aR rfl) ⟨cF rfl,trivial⟩ (fun ev w he hw=>aY rfl) (aD rfl)) ?_)))))))))))))))))))
   refine aW 17 rfl rfl (isV _) (fun hNo=>sgV [(61,_),(62,_)] rfl rfl rfl rfl hNo (aR rfl) ⟨aL 14 (aA rfl rfl rfl),aL 15 (aA rfl rfl rfl),trivial⟩ (fun ev w he hw=>bE (j:=y) underlying42 sizeOf44 rfl rfl (rfl) (hyn) rfl) (aD rfl)) (aW 18 rfl rfl (isV _) (fun hNo=>sgV [(63,_)] rfl rfl rfl rfl hNo (aR rfl) ⟨aL 16 (aA rfl rfl rfl),trivial⟩ (fun ev w he hw=>aX (vs:=[_,_,_,_,_,_]) isAgg44 sizeOf44 rfl ((aB.own (j:=0+y * 6) (m:=6) (hw.at_ 7 rfl) (Jg hfy)))) (aD rfl)) (aW 19 rfl rfl (isV _) (fun hNo=>sgV [(8,_)] rfl rfl rfl rfl hNo (aR rfl) ⟨cF rfl,trivial⟩ (fun ev w he hw=>aX (vs:=[_,_,_,_,_,_,_,_,_]) isAgg66 sizeOf66 rfl ((aB.own (j:=0) (m:=9) (hw.at_ 0 rfl) rfl))) (aD rfl)) ?_))
   refine aW 20 rfl rfl (dH W2.heap.size S (jX S bk xy (py ⟨rf,rg,(tN:Int),tx⟩))) (fun hNo=>vV [isV _,isV _,isV _] rfl rfl rfl rfl hNo Pc (aR rfl) ⟨bU (aL 7 (aA rfl rfl rfl)),bU (aL 17 (aA rfl rfl rfl)),bU (aL 18 (aA rfl rfl rfl)),trivial⟩ (fun vs ev w' he hSt hlo hh=>by
    have e:=cA (us:=[_,_,_]) hh
    subst e
    exact nK hlo (Ep S a f0 bk bm VA VX RB fy tx.f xy (py ⟨rf,rg,(tN:Int),tx⟩) rf rg (tN:Int) w' (hSt.at_ 1 rfl) (hsi.below hSt.below) hok (ht.below hSt.below) (hVA.held y fy xy hfy hxy hxz hSt (fun q hq=>hKj q hq)) (hpt.below hSt.below))) (aD rfl)) ?_
   refine mP ?_
   intro Bf3 y3 W3 Ks3 hsz3 hKs3 hS' hcov3
   clear hS;have hS:=hS'.castO (O':=(_::_::_::_::_::_::_::_::Ot)) rfl;clear hS'
   refine tM (L':=[AwS _ _ (isV _),AwS _ _ (isV _),AwS _ _ (isV _),AwS _ _ (isV _),AwS _ _ (isV _),AwS _ _ (isV _),AwS _ _ (isV _),AwS _ _ (isV _),AwS _ _ (isV _),AwS _ _ (isV _),AwS _ _ (isV _),AwS _ _ (isV _),AwS _ _ (isV _),AwS _ _ (isV _),AwS _ _ (isV _),AwS _ _ (isV _),AwS _ _ (isV _),AwS _ _ (isV _),AwS _ _ (isV _),AwS _ _ (dH W2.heap.size S (jX S bk xy (py ⟨rf,rg,(tN:Int),tx⟩)))]) rfl (bG (bG (bG (bG (bG (bG (bG (bG (bG (bG (bG (bG (bG (bG (bG (bG (bG (bG (bG ?_)))))))))))))))))))
   refine dE ?_;rintro vP h8p;obtain ⟨f9,rfl,hn9⟩:=h8p.here
   have HX9:mE w0 (Ks3++Kj) (fun W2=>XIs W2 S f9 (jX S bk xy (py ⟨rf,rg,(tN:Int),tx⟩))):=fun h2 hk=>(newS hn9 h8p (hcov3 h2 (fun q hq=>hk q (List.mem_append_left _ hq))) (Nat.le_refl _)).is
   obtain ⟨K8,hK8⟩:∃ x,x=Ks3++Kj:=⟨_,rfl⟩
   have hK9:∀ q∈Kj,q∈K8:=fun q hq=>by rw [hK8];exact List.mem_append_right _ hq
   rw [← hK8] at HX9 hS
   refine cO (fY (vs:=[_,_,_,_]) Gy rfl (Bu S a f0 bk bm VA VX RB VX IX WX n v7 f7 x7 l7 _ _ K8 K8 w0 tN f9 (jX S bk xy (py ⟨rf,rg,(tN:Int),tx⟩)) x5 _ (hS.perm (Pd _ _ _ _ _ _)) (fun q hq=>hq) (hV.more hK9) hn htN hx5 hsi hok ht (H0.more (fun q hq=>hK9 q (hKj q hq))) HX9 hokx) rfl ?_)
   rintro e W9 ⟨u8,l8,fs8,Kw8,rfl,_,hV8,hl8,hS8⟩
   obtain ⟨Kn8,hKn8⟩:∃ x,x=Kw8++K8:=⟨_,rfl⟩
   rw [← hKn8] at hV8 hS8
   have hsub8:∀ q∈K8,q∈Kn8:=fun q hq=>by rw [hKn8];exact List.mem_append_right _ hq
   refine ⟨_,rfl,?_⟩
   clear hS;have hS:=hS8.perm (Pd _ _ _ _ _ _).symm;clear hS8
   refine aN (XF.blkN (XF.thenN (aQ (cZ rfl rfl (IntWalk.i64_in _ (by omega)) rfl (aE rfl rfl (aN ?_))))))
   exact XF.round (rl - (j+1)) [(0,_),(1,_),(5,_),(20,_),(21,_),(22,_),(33,_),(34,_),(35,_)] (by omega) ⟨rfl,rfl,rfl,rfl,rfl,rfl,rfl,rfl,rfl,trivial⟩ ⟨j+1,u8,fs8,_,l8,Kn8,by omega,rfl,rfl,(fun q hq=>hsub8 q (hK9 q (hKj q hq))),by rw [Rx hz ht9,← hx7,hop_at hx5],hV8,hS.tail⟩
  ·have hc36:=of_decide_eq_false hc;clear hc
   rw [List.take_of_length_le (by omega)] at hx7
   refine eF (XF.thenX (XF.thenX (XF.blkX (XF.blkN (XF.thenN (aQ (cZ rfl rfl (IntWalk.i64_in _ (by omega)) rfl (aE rfl rfl (aN ?_)))))))))
   exact XF.round (l.length - (i+1)) [(0,_),(1,_),(20,_),(21,_),(22,_)] (by omega) ⟨rfl,rfl,rfl,rfl,rfl,trivial⟩ ⟨i+1,v7,f7,x7,l7,Kj,by omega,rfl,rfl,hKj,by rw [Ry hy hxy,← hx9s];exact hx7,hV,hS⟩
 ·have hc23:=of_decide_eq_false hc;clear hc
  rw [List.take_of_length_le (by omega)] at hx9s
  subst hx9s
  refine eF (XF.thenX (XF.thenX (XF.blkX (XF.thenN (Vn (ef:=12) (jy:=16) (ca:=pZ (fun _=>[])) (ta:=fun _=>0) (Os:=Gg _ 0 18 RB (rdC f0 a bk bm VA VX) ([.pointer (some ⟨VX,0,none⟩)]) 109) (Gs:=tE _) (al:=[]) (k:=13) (ds:=[82,83]) cD rfl hS rfl (by kernel_rfl) (by kernel_rfl) rfl (by decide) rfl (some) (.inl ⟨rfl,rfl⟩) rfl rfl (aW 1 rfl rfl (isV _) (fun hNo=>sgV [(0,_)] rfl rfl rfl rfl hNo (aR rfl) ⟨cF rfl,trivial⟩ (fun ev w he hw=>aY rfl) (aD rfl)) (aW 2 rfl rfl (isV _) (fun hNo=>sgV [(0,_)] rfl rfl rfl rfl hNo (aR rfl) ⟨cF rfl,trivial⟩ (fun ev w he hw=>aY rfl) (aD rfl)) (aW 3 rfl rfl (isV _) (fun hNo=>sgV [(0,_)] rfl rfl rfl rfl hNo (aR rfl) ⟨cF rfl,trivial⟩ (fun ev w he hw=>aY rfl) (aD rfl)) (aW 4 rfl rfl (isV _) (fun hNo=>sgV [(72,_)] rfl rfl rfl rfl hNo (aR rfl) ⟨aL 2 (aA rfl rfl rfl),trivial⟩ (fun ev w he hw=>cT rfl) (aD rfl)) (aW 5 rfl rfl (isV _) (fun hNo=>sgV [(73,_)] rfl rfl rfl rfl hNo (aR rfl) ⟨aL 3 (aA rfl rfl rfl),trivial⟩ (fun ev w he hw=>aV (o':=19) sC rfl rfl) (aD rfl)) (aW 6 rfl rfl (isV _) (fun hNo=>sgV [(74,_)] rfl rfl rfl rfl hNo (aR rfl) ⟨aL 4 (aA rfl rfl rfl),trivial⟩ (fun ev w he hw=>bC isAgg107 rfl ((aH (hw.at_ 0 (Jx (he rfl) rfl)) rfl))) (aD rfl)) (aW 7 rfl rfl (isV _) (fun hNo=>sgV [(0,_)] rfl rfl rfl rfl hNo (aR rfl) ⟨cF rfl,trivial⟩ (fun ev w he hw=>aY rfl) (aD rfl)) (aW 8 rfl rfl (isV _) (fun hNo=>sgV [(76,_)] rfl rfl rfl rfl hNo (aR rfl) ⟨aL 6 (aA rfl rfl rfl),trivial⟩ (fun ev w he hw=>cT rfl) (aD rfl)) (aW 9 rfl rfl (isV _) (fun hNo=>sgV [(77,_)] rfl rfl rfl rfl hNo (aR rfl) ⟨aL 7 (aA rfl rfl rfl),trivial⟩ (fun ev w he hw=>aV (o':=18) kR rfl rfl) (aD rfl)) (aW 10 rfl rfl (isV _) (fun hNo=>sgV [(78,_)] rfl rfl rfl rfl hNo (aR rfl) ⟨aL 8 (aA rfl rfl rfl),trivial⟩ (fun ev w he hw=>bC isAgg107 rfl ((aH (hw.at_ 0 (Jx (he rfl) rfl)) rfl))) (aD rfl)) (aW 11 rfl rfl (isV _) (fun hNo=>sgV [(70,_)] rfl rfl rfl rfl hNo (aR rfl) ⟨aL 0 (aA rfl rfl rfl),trivial⟩ (fun ev w he hw=>cT rfl) (aD rfl)) (aW 12 rfl rfl (isV _) (fun hNo=>sgV [(80,_)] rfl rfl rfl rfl hNo (aR rfl) ⟨aL 10 (aA rfl rfl rfl),trivial⟩ (fun ev w he hw=>aV (o':=18) kR rfl rfl) (aD rfl)) ?_)))))))))))))))))
  refine vW 13 rfl (eff_stO (m:=1) 0 18 [(81,_),(75,_)] rfl rfl rfl rfl (fun j hj=>by rcases hj with h | rfl<;>first | (cases h<;>rfl) | rfl) ⟨aL 11 (aA rfl rfl rfl),aL 5 (aA rfl rfl rfl),trivial⟩ rfl rfl rfl sizeOf107 rfl rfl rfl rfl) ?_
  refine mP ?_
  intro Bf4 y4 W4 Ks4 hsz4 hKs4 hS' hcov4
  clear hS;have hS:=hS'.castO (O':=(_::_::_::_::_::_::_::Ot)) rfl;clear hS'
  refine tM (L':=[AwS _ _ (isV _),AwS _ _ (isV _),AwS _ _ (isV _),AwS _ _ (isV _),AwS _ _ (isV _),AwS _ _ (isV _),AwS _ _ (isV _),AwS _ _ (isV _),AwS _ _ (isV _),AwS _ _ (isV _),AwS _ _ (isV _),AwS _ _ (isV _),isV _]) rfl (bG (bG (bG (bG (bG (bG (bG (bG (bG (bG (bG (bG (I4 (cO (cM rfl rfl (aO (o':=19) sC rfl rfl rfl (dS (i:=0) (cs':=[_,_,_,_,_,_,_,_,_,_,_,_,_,_,_,_,_,_,_,_]) (O':=(_::_::_::_::_::_::_::Ot)) hS sizeOf107 rfl rfl (by first | rfl | exact (hS.oneV 0 _ rfl :) | exact (hS.oneV 1 _ rfl :) | exact (hS.oneV 2 _ rfl :) | exact (hS.oneV 3 _ rfl :)) rfl rfl rfl rfl fun W5 hS=>aN (XF.resN (Km results56) ?_))))))))))))))))))
  have hS9:=hS.castO (O':=(RB,rdC f0 a bk bm VX VA,109)::(VX,gU v9 n IX WX,139)::(IX,inC S (kS S bk py a.ts xs sym l (List.replicate n (bP S))),4)::(WX,wC f9s,44)::(VA,gU _ n IA WA,139)::(IA,inC S xs,4)::(WA,wC fs,44)::Ot) rfl
  refine ⟨v9,_,l9,f9s,_,rfl,?_,?_,hS9⟩
  ·exact fun q hq=>by simp [hKk q hq]
  ·exact hV.more (fun q hq=>by simp [hq])
def LeX (S:PS) (x z:PX):Prop:=bZ S z x=z
def dP (S:PS) (b:Bool) (x y:PX):PX:=if b then iW S y x else iW S x y
section
variable {S:PS} {b:Bool} {x y z u:PX}
theorem wL (h:S.ok) (hx:OkX S x):LeX S x x:=pS h hx
theorem wM (hx:OkX S x):LeX S (bP S) x:=mM hx
theorem eN (h:S.ok) (hx:OkX S x) (hy:OkX S y) (hz:OkX S z) (h1:LeX S x y) (h2:LeX S y z):LeX S x z:=by
 unfold LeX at *
 rw [← h2,jR h hz hy hx,h1]
theorem Wo (h:S.ok) (hx:OkX S x) (hy:OkX S y) (h1:LeX S x y) (h2:LeX S y x):x=y:=by
 unfold LeX at *
 rw [← h1,Az h hy hx,h2]
theorem sE (h:S.ok) (hx:OkX S x) (hy:OkX S y):LeX S x (bZ S y x):=by
 unfold LeX;rw [jR h hy hx hx,pS h hx]
theorem mZ (h:S.ok) (hx:OkX S x) (hy:OkX S y):LeX S y (bZ S y x):=by
 unfold LeX;rw [Az h hy hx,jR h hx hy hy,pS h hy]
theorem Wp (h:S.ok) (hx:OkX S x) (hy:OkX S y) (hz:OkX S z) (h1:LeX S x z) (h2:LeX S y z):LeX S (bZ S x y) z:=by
 unfold LeX at *
 rw [← jR h hz hx hy,h1,h2]
theorem eB (h:S.ok) (hx:OkX S x) (hy:OkX S y):OkX S (dP S b x y):=by
 unfold dP;split
 ·exact zA h hy hx
 ·exact zA h hx hy
theorem qG (h:S.ok) (hx:OkX S x) (hy:OkX S y) (hz:OkX S z):dP S b (dP S b x y) z=dP S b x (dP S b y z):=by
 unfold dP;cases b
 ·exact A3 h hx hy hz
 ·exact (A3 h hz hy hx).symm
theorem Wq (h:S.ok) (hx:OkX S x):dP S b (jW S) x=x:=by
 unfold dP;cases b
 ·exact Ig h hx
 ·exact Ih h hx
theorem Jz (h:S.ok) (hx:OkX S x):dP S b x (jW S)=x:=by
 unfold dP;cases b
 ·exact Ih h hx
 ·exact Ig h hx
theorem Wr (hx:OkX S x):dP S b (bP S) x=bP S:=by
 unfold dP;cases b
 ·exact Dz hx
 ·exact D4 hx
theorem R4 (hx:OkX S x):dP S b x (bP S)=bP S:=by
 unfold dP;cases b
 ·exact D4 hx
 ·exact Dz hx
theorem Ca (h:S.ok) (hx:OkX S x) (hy:OkX S y) (hz:OkX S z):dP S b (bZ S x y) z=bZ S (dP S b x z) (dP S b y z):=by
 unfold dP;cases b
 ·exact D6 h hx hy hz
 ·exact D5 h hz hx hy
theorem Cb (h:S.ok) (hx:OkX S x) (hy:OkX S y) (hz:OkX S z):dP S b x (bZ S y z)=bZ S (dP S b x y) (dP S b x z):=by
 unfold dP;cases b
 ·exact D5 h hx hy hz
 ·exact D6 h hy hz hx
theorem qH (h:S.ok) (hx:OkX S x) (hy:OkX S y) (hz:OkX S z) (h1:LeX S x y):LeX S (dP S b x z) (dP S b y z):=by
 unfold LeX at *
 rw [← Ca h hy hx hz,h1]
theorem Cc (h:S.ok) (hx:OkX S x) (hy:OkX S y) (hz:OkX S z) (h1:LeX S x y):LeX S (dP S b z x) (dP S b z y):=by
 unfold LeX at *
 rw [← Cb h hz hy hx,h1]
end
inductive Fs (S:PS) (A:PX→Prop):PX→Prop
 | zero:Fs S A (bP S)
 | add {z x:PX}:Fs S A z→A x→Fs S A (bZ S z x)
section
variable {S:PS} {b:Bool} {A A':PX→Prop} {x y z:PX}
theorem Fs.ok (h:S.ok) (hA:∀ x,A x→OkX S x) (hz:Fs S A z):OkX S z:=by
 induction hz with
 | zero=>exact lS
 | add _ h1 ih=>exact jG h ih (hA _ h1)
theorem Fs.mono (hA:∀ x,A x→A' x) (hz:Fs S A z):Fs S A' z:=by
 induction hz with
 | zero=>exact .zero
 | add _ h1 ih=>exact .add ih (hA _ h1)
theorem Fs.one (hx:A x) (ho:OkX S x):Fs S A x:=by
 have h:=Fs.add (S:=S) .zero hx
 rw [pT ho] at h;exact h
theorem Fs.plus (h:S.ok) (hA:∀ x,A x→OkX S x) (hy:Fs S A y) (hz:Fs S A z):Fs S A (bZ S y z):=by
 have hyo:=hy.ok h hA
 induction hz with
 | zero=>rw [mM hyo];exact hy
 | add h0 h1 ih =>
  rw [← jR h hyo (Fs.ok h hA h0) (hA _ h1)]
  exact .add ih h1
theorem Fs.extL (h:S.ok) (hA:∀ x,A x→OkX S x) (hy:OkX S y) (hz:Fs S A z) (hA':∀ x,A x→A' (dP S b x y)):Fs S A' (dP S b z y):=by
 induction hz with
 | zero=>rw [Wr hy];exact .zero
 | add h0 h1 ih =>
  rw [Ca h (Fs.ok h hA h0) (hA _ h1) hy]
  exact .add ih (hA' _ h1)
theorem Fs.extR (h:S.ok) (hA:∀ x,A x→OkX S x) (hy:OkX S y) (hz:Fs S A z) (hA':∀ x,A x→A' (dP S b y x)):Fs S A' (dP S b y z):=by
 induction hz with
 | zero=>rw [R4 hy];exact .zero
 | add h0 h1 ih =>
  rw [Cb h hy (Fs.ok h hA h0) (hA _ h1)]
  exact .add ih (hA' _ h1)
theorem Fs.le (h:S.ok) (hA:∀ x,A x→OkX S x) (hy:OkX S y) (hz:Fs S A z) (hl:∀ x,A x→LeX S x y):LeX S z y:=by
 induction hz with
 | zero=>exact wM hy
 | add h0 h1 ih=>exact Wp h (Fs.ok h hA h0) (hA _ h1) hy ih (hl _ h1)
end
structure LubX (S:PS) (A:PX→Prop) (z:PX):Prop where
 sum:Fs S A z
 top:∀ x,A x→LeX S x z
section
variable {S:PS} {A A':PX→Prop} {z z':PX}
theorem LubX.uniq (h:S.ok) (hA:∀ x,A x→OkX S x) (h1:LubX S A z) (h2:LubX S A z'):z=z' :=
 Wo h (h1.sum.ok h hA) (h2.sum.ok h hA) (h1.sum.le h hA (h2.sum.ok h hA) h2.top) (h2.sum.le h hA (h1.sum.ok h hA) h1.top)
theorem LubX.of (hA:∀ x,A x↔A' x) (h1:LubX S A z):LubX S A' z:=⟨h1.sum.mono fun x hx=>(hA x).1 hx,fun x hx=>h1.top x ((hA x).2 hx)⟩
theorem LubX.none (hA:∀ x,¬ A x):LubX S A (bP S):=⟨.zero,fun x hx=>absurd hx (hA x)⟩
end
structure Eg where
 f:Nat
 g:Int
 t:Nat
 y:PX
inductive Pth (S:PS) (b:Bool) (E:List Eg) (p:Nat):List Int→Nat→PX→Prop
 | nil:Pth S b E p [] p (jW S)
 | eps {u:List Int} {q:Nat} {x:PX} {e:Eg}:Pth S b E p u q x→e∈E→e.f=q→e.g = -1→Pth S b E p u e.t (dP S b x e.y)
 | sym {u:List Int} {q:Nat} {x:PX} {e:Eg}:Pth S b E p u q x→e∈E→e.f=q→e.g ≠ -1→Pth S b E p (u++[e.g]) e.t (dP S b x e.y)
inductive Ptb (S:PS) (b:Bool) (E:List Eg) (q:Nat):List Int→Nat→PX→Prop
 | nil:Ptb S b E q [] q (jW S)
 | eps {u:List Int} {p:Nat} {x:PX} {e:Eg}:Ptb S b E q u p x→e∈E→e.t=p→e.g = -1→Ptb S b E q u e.f (dP S b e.y x)
 | sym {u:List Int} {p:Nat} {x:PX} {e:Eg}:Ptb S b E q u p x→e∈E→e.t=p→e.g ≠ -1→Ptb S b E q (e.g::u) e.f (dP S b e.y x)
section
variable {S:PS} {b:Bool} {E E':List Eg} {p q:Nat} {u v:List Int} {x y:PX}
theorem Pth.ok (h:S.ok) (hE:∀ e∈E,OkX S e.y) (hp:Pth S b E p u q x):OkX S x:=by
 induction hp with
 | nil=>exact mL h
 | eps _ h1 _ _ ih=>exact eB h ih (hE _ h1)
 | sym _ h1 _ _ ih=>exact eB h ih (hE _ h1)
theorem Ptb.ok (h:S.ok) (hE:∀ e∈E,OkX S e.y) (hp:Ptb S b E q u p x):OkX S x:=by
 induction hp with
 | nil=>exact mL h
 | eps _ h1 _ _ ih=>exact eB h (hE _ h1) ih
 | sym _ h1 _ _ ih=>exact eB h (hE _ h1) ih
theorem Ptb.pre (h:S.ok) (hE:∀ e∈E,OkX S e.y) {r:Nat} (hv:Ptb S b E r v q y):∀ {u x},Pth S b E p u q x→Pth S b E p (u++v) r (dP S b x y):=by
 induction hv with
 | nil=>intro u x hu;rw [List.append_nil,Jz h (hu.ok h hE)];exact hu
 | eps h0 h1 h2 h3 ih =>
  intro u x hu
  rw [← qG h (hu.ok h hE) (hE _ h1) (h0.ok h hE)]
  exact ih (h2▸Pth.eps hu h1 rfl h3)
 | sym h0 h1 h2 h3 ih =>
  intro u x hu
  rw [← qG h (hu.ok h hE) (hE _ h1) (h0.ok h hE)]
  have:=ih (h2▸Pth.sym hu h1 rfl h3)
  rw [List.append_assoc] at this;exact this
theorem Pth.post (h:S.ok) (hE:∀ e∈E,OkX S e.y) {r:Nat} (hu:Pth S b E p u q x):∀ {v y},Ptb S b E r v q y→Ptb S b E r (u++v) p (dP S b x y):=by
 induction hu with
 | nil=>intro v y hv;rw [List.nil_append,Wq h (hv.ok h hE)];exact hv
 | eps h0 h1 h2 h3 ih =>
  intro v y hv
  rw [qG h (h0.ok h hE) (hE _ h1) (hv.ok h hE)]
  exact ih (h2▸Ptb.eps hv h1 rfl h3)
 | sym h0 h1 h2 h3 ih =>
  intro v y hv
  rw [qG h (h0.ok h hE) (hE _ h1) (hv.ok h hE),List.append_assoc]
  exact ih (h2▸Ptb.sym hv h1 rfl h3)
theorem Pe (h:S.ok) (hE:∀ e∈E,OkX S e.y):Pth S b E p u q x↔Ptb S b E q u p x:=by
 constructor
 ·intro hp
  have:=hp.post h hE (.nil (q:=q))
  rw [List.append_nil,Jz h (hp.ok h hE)] at this;exact this
 ·intro hp
  have:=hp.pre h hE (.nil (p:=p))
  rw [List.nil_append,Wq h (hp.ok h hE)] at this;exact this
end
def xP (S:PS) (b:Bool) (E:List Eg) (F:List Nat) (p:Nat) (u:List Int) (x:PX):Prop:=∃ q∈F,Pth S b E p u q x
theorem Gz {S:PS} {b:Bool} {E:List Eg} {F:List Nat} {p:Nat} {u:List Int} (h:S.ok) (hE:∀ e∈E,OkX S e.y):∀ x,xP S b E F p u x→OkX S x:=fun x ⟨q,_,hp⟩=>hp.ok h hE
abbrev AtX (xs:List PX) (s:Nat) (x:PX):Prop:=xs[s]?=some x
structure Full (S:PS) (b:Bool) (E:List Eg) (p:Nat) (u:List Int) (xs:List PX):Prop where
 sum:∀ s x,AtX xs s x→Fs S (Pth S b E p u s) x
 top:∀ s x y,AtX xs s x→Pth S b E p u s y→LeX S y x
structure Eps (S:PS) (b:Bool) (E:List Eg) (xs ys:List PX):Prop where
 len:ys.length=xs.length
 up:∀ s x y,AtX xs s x→AtX ys s y→LeX S x y
 sum:∀ A:Nat→PX→Prop,(∀ s x,A s x→OkX S x)→(∀ e∈E,e.g = -1→∀ x,A e.f x→A e.t (dP S b x e.y))→(∀ s x,AtX xs s x→Fs S (A s) x)→∀ s y,AtX ys s y→Fs S (A s) y
def xQ (S:PS) (b:Bool) (E:List Eg) (ys:List PX):Prop:=∀ e∈E,e.g = -1→∀ x y,AtX ys e.f x→AtX ys e.t y→LeX S (dP S b x e.y) y
section
variable {S:PS} {b:Bool} {E:List Eg} {p n:Nat} {u:List Int} {xs ys zs:List PX}
theorem Eps.refl (h:S.ok) (hx:∀ x∈xs,OkX S x):Eps S b E xs xs:=⟨rfl,fun s x y h1 h2=>by unfold AtX at h1 h2;rw [h1] at h2;cases h2;exact wL h (hx x (List.mem_of_getElem? h1)),fun A _ _ h3=>h3⟩
theorem Eps.step (h:S.ok) (hx:∀ x∈xs,OkX S x) (hy:∀ x∈ys,OkX S x) (hE:∀ e∈E,OkX S e.y) (h1:Eps S b E xs ys) {e:Eg} (he:e∈E) (hg:e.g = -1) {x y:PX} (hxf:AtX ys e.f x) (hyt:AtX ys e.t y):Eps S b E xs (ys.set e.t (bZ S y (dP S b x e.y))):=by
 have hxo:=hy x (List.mem_of_getElem? hxf)
 have hyo:=hy y (List.mem_of_getElem? hyt)
 have hlt:=(List.getElem?_eq_some_iff.1 hyt).1
 have hzo:=eB (b:=b) h hxo (hE e he)
 refine ⟨by rw [List.length_set];exact h1.len,fun s v z hv hz=>?_,fun A hA hc hs s z hz=>?_⟩
 ·rcases Nat.decEq s e.t with e1 | e1
  ·rw [AtX,List.getElem?_set_ne (Ne.symm e1)] at hz
   exact h1.up s v z hv hz
  ·subst e1
   rw [AtX,List.getElem?_set_self hlt] at hz
   cases hz
   have h2:=h1.up _ v y hv hyt
   exact eN h (hx v (List.mem_of_getElem? hv)) hyo (jG h hyo hzo) h2 (mZ h hzo hyo)
 ·rcases Nat.decEq s e.t with e1 | e1
  ·rw [AtX,List.getElem?_set_ne (Ne.symm e1)] at hz
   exact h1.sum A hA hc hs s z hz
  ·subst e1
   rw [AtX,List.getElem?_set_self hlt] at hz
   cases hz
   exact Fs.plus h (hA _) (h1.sum A hA hc hs _ y hyt) (Fs.extL h (hA _) (hE e he) (h1.sum A hA hc hs _ x hxf) (fun v hv=>hc e he hg v hv))
theorem Pf (h:S.ok) (hE:∀ e∈E,OkX S e.y) (hyo:∀ x∈ys,OkX S x) (hn:ys.length=n) (hb:∀ e∈E,e.f < n∧e.t < n) (hc:xQ S b E ys) (hs:∀ s x,AtX ys s x→Fs S (Pth S b E p u s) x)
  (hnil:u=[]→∀ x,AtX ys p x→LeX S (jW S) x) (hsym:∀ v q x (e:Eg),e∈E→e.f=q→e.g ≠ -1→u=v++[e.g]→Pth S b E p v q x→∀ z,AtX ys e.t z→LeX S (dP S b x e.y) z):Full S b E p u ys:=by
 refine ⟨hs,fun s x y hx hp=>?_⟩
 have key:∀ {v q y},Pth S b E p v q y→v=u→∀ x,AtX ys q x→LeX S y x:=by
  intro v q y hp
  induction hp with
  | nil=>intro hv x hx;exact hnil hv.symm x hx
  | @eps v q y e h0 h1 h2 h3 ih =>
   intro hv x hx
   subst hv
   have hlt:e.f < ys.length:=by rw [hn];exact (hb e h1).1
   have hxf:AtX ys e.f ys[e.f]:=List.getElem?_eq_getElem hlt
   have h4:=ih rfl ys[e.f] (by unfold AtX;rw [← h2];exact hxf)
   have ho:=hyo _ (List.getElem_mem hlt)
   exact eN h (eB h (h0.ok h hE) (hE e h1)) (eB h ho (hE e h1)) (hyo x (List.mem_of_getElem? hx)) (qH h (h0.ok h hE) ho (hE e h1) h4) (hc e h1 h3 _ x hxf hx)
  | @sym v q y e h0 h1 h2 h3 ih =>
   intro hv x hx
   exact hsym v q y e h1 h2 h3 hv.symm h0 x hx
 exact key hp rfl x hx
end
def Wt (S:PS) (b:Bool) (E:List Eg) (ys:List PX) (ws:List Nat) (dn:Eg→Prop):Prop:=∀ e∈E,e.g = -1→e.f∉ws→dn e→∀ x y,AtX ys e.f x→AtX ys e.t y→LeX S (dP S b x e.y) y
section
variable {S:PS} {b:Bool} {E:List Eg} {ys:List PX} {ws ws':List Nat} {dn dn':Eg→Prop}
theorem Wt.start (hy:∀ x∈ys,OkX S x) (hE:∀ e∈E,OkX S e.y) (hw:∀ i x,AtX ys i x→i∉ws→x=bP S):Wt S b E ys ws (fun _=>True):=fun e he _ hf _ x y hx hz=>by
 rw [hw _ _ hx hf,Wr (hE e he)]
 exact wM (hy y (List.mem_of_getElem? hz))
theorem Wt.weaken (h:Wt S b E ys ws dn) (hd:∀ e,e.f∉ws'→dn' e→e.f∉ws∧dn e):Wt S b E ys ws' dn':=fun e he hg hf hd'=>h e he hg (hd e hf hd').1 (hd e hf hd').2
theorem Wt.closed (h:Wt S b E ys [] (fun _=>True)):xQ S b E ys:=fun e he hg=>h e he hg (by simp) trivial
theorem set_atX {x:PX} {s:Nat} (h:AtX ys s x):ys.set s x=ys:=by
 apply List.ext_getElem?
 intro i
 rcases Nat.decEq i s with e | rfl
 ·rw [List.getElem?_set_ne (Ne.symm e)]
 ·rw [List.getElem?_set_self (List.getElem?_eq_some_iff.1 h).1];exact h.symm
theorem Wt.put (hS:S.ok) (hy:∀ x∈ys,OkX S x) (hE:∀ e∈E,OkX S e.y) (h:Wt S b E ys ws dn) {e:Eg} (he:e∈E) {x y:PX} (hx:AtX ys e.f x) (hyt:AtX ys e.t y) (hws:∀ i∈ws,i∈ws') (hin:bZ S y (dP S b x e.y)≠y→e.t∈ws') :
  Wt S b E (ys.set e.t (bZ S y (dP S b x e.y))) ws' (fun e'=>dn e'∨e'=e):=fun e' he' hg hf hd x' y' hx' hy'=>by
 have hxo:=hy x (List.mem_of_getElem? hx)
 have hyo:=hy y (List.mem_of_getElem? hyt)
 have hzo:=eB (b:=b) hS hxo (hE e he)
 have hlt:=(List.getElem?_eq_some_iff.1 hyt).1
 have hf0:e'.f∉ws:=fun h1=>hf (hws _ h1)
 by_cases c:bZ S y (dP S b x e.y)=y
 ·rw [c,set_atX hyt] at hx' hy'
  rcases hd with hd | rfl
  ·exact h e' he' hg hf0 hd x' y' hx' hy'
  ·unfold AtX at hx hyt hx' hy'
   rw [hx] at hx';rw [hyt] at hy'
   cases hx';cases hy'
   exact c
 ·have hne:e'.f≠e.t:=fun h1=>hf (by rw [h1];exact hin c)
  unfold AtX at hx'
  rw [List.getElem?_set_ne (Ne.symm hne)] at hx'
  rcases hd with hd | rfl
  ·rcases Nat.decEq e'.t e.t with e1 | e1
   ·unfold AtX at hy'
    rw [List.getElem?_set_ne (Ne.symm e1)] at hy'
    exact h e' he' hg hf0 hd x' y' hx' hy'
   ·unfold AtX at hy'
    rw [e1,List.getElem?_set_self hlt] at hy'
    cases hy'
    exact eN hS (eB hS (hy x' (List.mem_of_getElem? hx')) (hE e' he')) hyo (jG hS hyo hzo) (h e' he' hg hf0 hd x' y hx' (by rw [e1];exact hyt)) (mZ hS hzo hyo)
  ·unfold AtX at hx hy'
   rw [hx] at hx';cases hx'
   rw [List.getElem?_set_self hlt] at hy'
   cases hy'
   exact sE hS hzo hyo
end
def lH (S:PS) (ys:List PX):Nat:=(ys.map (fun x=>(Iv S).toNat - rkX S x)).sum
theorem Cd {S:PS} (hS:S.ok) {x y:PX} (hx:OkX S x) (hy:OkX S y) (hne:bZ S x y≠x):∀ {ys:List PX} {s:Nat},ys[s]?=some x→lH S (ys.set s (bZ S x y)) < lH S ys
 | [],s,h=>by simp at h
 | z::ys,0,h=>by
  simp at h;subst h
  have h1:=(rkX_up hS hx hy).resolve_left hne
  have h2:=rkX_le hS (jG hS hx hy)
  simp only [lH,List.set_cons_zero,List.map_cons,List.sum_cons]
  omega
 | z::ys,s+1,h=>by
  have ih:=Cd hS hx hy hne (ys:=ys) (s:=s) (by simpa using h)
  simp only [lH,List.set_cons_succ,List.map_cons,List.sum_cons] at ih ⊢
  omega
theorem Pg {S:PS}:∀ (ys:List PX),lH S ys≤ys.length * (Iv S).toNat
 | []=>by simp [lH]
 | z::ys=>by
  have ih:=Pg (S:=S) ys
  simp only [lH,List.map_cons,List.sum_cons,List.length_cons,Nat.succ_mul] at ih ⊢
  omega
end Go.Proofs.YtmgnkpibpjgncaaGreatDoor
namespace Go.Proofs.YtmgnkpibpjgncaaGreatDoor
open Go.Proofs.Tryz
open Go Go.RowKit
open Go.Maps
theorem St.setMap {w0 W W':World} {O:Own} {G:cU} {K:List (Nat×World)} {b:Nat} (h:St w0 O G K W) (hm:W.mapTurned W' b) (hwb:w0.heap.size≤b) (hK:∀ q∈K,b < q.1∨q.2.heap.size≤b):St w0 O G K W':=by
 have hg:=hm.grown
 obtain ⟨es,clock,_,_,hb,_⟩:=hm
 have ne:∀ (k:Nat) (cs:Array Value) (T:TypeId),W.heap[k]?=some (.cells cs T (0,0))→k≠b:=fun k cs T hk e=>by
  subst e
  rw [hb] at hk;cases hk
 have blk:∀ k,k < W.heap.size→k≠b→W'.heap[k]?=W.heap[k]?:=fun k hk hne=>hg.block _ hk (fun e=>hne (Option.some.inj e))
 refine ⟨h.below.grown hg h.below.size (fun k hk=>by cases hk;exact hwb),fun p hp=>?_,h.dist,fun q hq=>⟨⟨Nat.le_trans (h.kept q hq).1.1 hg.size,fun k h1 h2=>?_⟩,(h.kept q hq).2⟩,fun g hg'=>⟨dQ (h.rows g hg').1 fun k hk=>?_,(h.rows g hg').2⟩,h.gdist⟩
 ·obtain ⟨h1,h2⟩:=h.own p hp
  exact ⟨h1,(blk _ (bY h2) (ne _ _ _ h2)).trans h2⟩
 ·refine (blk k (Nat.lt_of_lt_of_le h2 (h.kept q hq).1.1) ?_).trans ((h.kept q hq).1.2 k h1 h2)
  rcases hK q hq with h3 | h3<;>omega
 ·exact blk k (((h.rows g hg').1.lt k hk).2) (lV (h.rows g hg').1 hb hk)
section
variable {n:Nat} {ops:Array Oper} {Q:Exit→Act→World→Prop} {l:Fr} {w0 W:World} {O:Own} {G:cU} {K:List (Nat×World)} {os:List Oper} {d b m:Nat} {ty:TypeId} {pos:String} {aft:Array Edge} {x y z:Operand} {ks:List (Int×List Int)} {k:Int×List Int}
end
theorem St.permG {w0 W:World} {O:Own} {G G':cU} {K:List (Nat×World)} (h:St w0 O G K W) (hp:G.Perm G'):St w0 O G' K W where
 below:=h.below
 own:=h.own
 dist:=h.dist
 kept:=h.kept
 rows:=fun g hg=>h.rows g (hp.mem_iff.2 hg)
 gdist:=(hp.pairwise_iff (fun {x y} (h:Value.apart x.v y.v) b hb hc=>h b hc hb)).1 h.gdist
theorem wN:Go.Maps.Keyed prog 3:=int_keyed underlying3
theorem G1 {x:Nat} (h:x≤1000000):keyOf prog 3 (.int .i64 (x:Int))=some (.int .i64 (x:Int)):=by
 refine keyOf_int_mk underlying3 ?_
 have e1:IntKind.i64.min = -9223372036854775808:=rfl
 have e2:IntKind.i64.max=9223372036854775807:=rfl
 simp [Lit.wf]
 omega
def jJ (b n:Nat) (ks:List Nat) (W:World):Prop:=∃ D:DataW Unit,W.ownsMap prog 3 unitElem b n D∧∀ x:Nat,x≤1000000→Maps.has D (.int .i64 (x:Int))=decide (x∈ks)
theorem jJ.same {b n:Nat} {ks:List Nat} {W W':World} (h:jJ b n ks W) (he:b < W.heap.size→W'.heap[b]?=W.heap[b]?):jJ b n ks W':=by
 obtain ⟨D,⟨es,clock,h1,h2⟩,h3⟩:=h
 exact ⟨D,⟨es,clock,(he (bY h1)).trans h1,h2⟩,h3⟩
theorem jJ.lt {b n:Nat} {ks:List Nat} {W:World} (h:jJ b n ks W):b < W.heap.size:=by
 obtain ⟨D,⟨es,clock,h1,h2⟩,h3⟩:=h
 exact bY h1
theorem jJ.fresh (W:World):jJ W.heap.size 0 [] (W.alloc (.map #[] 0)) :=
 ⟨.map [],World.ownsMap_made W _ _ _,fun x _=>by simp [Maps.has,DataW.atKey]⟩
theorem jJ.made {W:World} {b:Nat} (hb:W.heap[b]?=some (.map #[] 0)):jJ b 0 [] W:=by
 obtain ⟨D,⟨es,clock,h1,h2⟩,h3⟩:=jJ.fresh W
 have h4:=(heap_alloc_new W (.map #[] 0)).symm.trans h1
 injection h4 with h4
 injection h4 with h5 h6
 subst h5;subst h6
 exact ⟨D,⟨_,_,hb,h2⟩,h3⟩
theorem jJ.look {b n:Nat} {ks:List Nat} {W:World} (h:jJ b n ks W) {x:Nat} (hx:x≤1000000) (hz:∀ w,(zeroValue 141).run prog w = .ok (.agg #[]) w):(Instr.lookup 140 (.map (some b)) (.int .i64 (x:Int)) true).run prog W = .ok (.tuple #[.agg #[],.bool (decide (x∈ks))]) W:=by
 obtain ⟨D,h1,h2⟩:=h
 obtain ⟨v,ps,h3,h4⟩:=h1.look_ok wN underlying140 (hz W) unitElem_mk (G1 hx)
 obtain ⟨rfl,_⟩:=unitElem_inv h4
 rw [h3,h2 x hx]
theorem Ws {x y:Nat} (h:y≠x):(Lit.int .i64 (y:Int))≠.int .i64 (x:Int):=fun e=>by
 injection e with e1 e2
 exact h (Int.ofNat.inj e2)
theorem jJ.put {b n:Nat} {ks:List Nat} {W:World} (h:jJ b n ks W) {x:Nat} (hx:x≤1000000) (hn:n < maxLen):∃ w',(Instr.mapUpdate 140 (.map (some b)) (.int .i64 (x:Int)) (.agg #[])).run prog W = .ok () w'∧jJ b (n+1) (x::ks) w'∧W.mapTurned w' b:=by
 obtain ⟨D,h1,h2⟩:=h
 obtain ⟨w',h3,h4,h5⟩:=h1.store wN underlying140 hn (G1 hx) unitElem_mk
 refine ⟨w',h3,⟨_,h4,fun y hy=>?_⟩,h5⟩
 by_cases e:y=x
 ·subst e
  rw [has_put_same h1.isMap (wN.key (G1 hy))]
  simp
 ·rw [has_put_other (Ws e),h2 y hy]
  simp [e]
theorem jJ.drop {b n:Nat} {ks:List Nat} {W:World} (h:jJ b n ks W) {x:Nat} (hx:x≤1000000) (ty:TypeId):∃ w',(Builtin.delete_ #[140,3] ty #[.map (some b),.int .i64 (x:Int)]).run prog W = .ok (.tuple #[]) w'∧jJ b n (ks.filter (· ≠ x)) w'∧W.mapTurned w' b:=by
 obtain ⟨D,h1,h2⟩:=h
 obtain ⟨w',h3,h4,h5⟩:=h1.drop wN underlying140 (G1 hx) ty
 refine ⟨w',h3,⟨_,h4,fun y hy=>?_⟩,h5⟩
 by_cases e:y=x
 ·subst e
  rw [has_del_same]
  simp
 ·rw [has_del_other (Ws e),h2 y hy]
  simp [e]
section
variable {n:Nat} {ops:Array Oper} {Q:Exit→Act→World→Prop} {l:Fr} {w0 W:World} {O:Own} {G:cU} {K:List (Nat×World)} {os:List Oper} {d b m:Nat} {ty:TypeId} {pos:String} {aft:Array Edge} {x y z:Operand} {ks:List Nat} {k:Nat}
theorem J0 (hM:jJ b m ks W) (hk:k≤1000000) (hz:∀ w,(zeroValue 141).run prog w = .ok (.agg #[]) w) (hx:evL l x=some (.map (some b))) (hy:evL l y=some (.int .i64 (k:Int))) (hd:Nat.blt d n=true)
  (h:cS prog n ops Q os ((d,.tuple #[.agg #[],.bool (decide (k∈ks))])::l) W):cS prog n ops Q (⟨some d,.lookup 140 x y true,ty,pos,aft,none⟩::os) l W :=
 opV (fun ev he=>by
  unfold execOp;simp only [];rw [he x _ hx,he y _ hy]
  simp [hM.look hk hz,Result.andThen]) hd h
theorem Ce (hS:St w0 O G K W) (hM:jJ b m ks W) (hk:k≤1000000) (hm:m < maxLen) (hwb:w0.heap.size≤b) (hK:∀ q∈K,b < q.1∨q.2.heap.size≤b) (hx:evL l x=some (.map (some b))) (hy:evL l y=some (.int .i64 (k:Int))) (hz:evL l z=some (.agg #[]))
  (h:∀ W',St w0 O G K W'→jJ b (m+1) (k::ks) W'→cS prog n ops Q os l W'):cS prog n ops Q (⟨none,.mapUpdate 140 x y z,ty,pos,aft,none⟩::os) l W:=fun a ha=>by
 obtain ⟨W',h1,h2,h3⟩:=hM.put hk hm
 refine wpList_plain rfl fun K' hK'=>?_
 unfold Oper.wp execOp
 simp only []
 rw [ha.ev x _ hx,ha.ev y _ hy,ha.ev z _ hz]
 simp only [Sem.run_bind,h1,Result.andThen_ok,Sem.run_pure,Oper.upon_skip]
 exact hK' _ _ (h W' (hS.setMap h3 hwb hK) h2 a ha)
theorem J1 (hS:St w0 O G K W) (hM:jJ b m ks W) (hk:k≤1000000) (hwb:w0.heap.size≤b) (hK:∀ q∈K,b < q.1∨q.2.heap.size≤b) (hx:evL l x=some (.map (some b))) (hy:evL l y=some (.int .i64 (k:Int)))
  (h:∀ W',St w0 O G K W'→jJ b m (ks.filter (· ≠ k)) W'→cS prog n ops Q os l W'):cS prog n ops Q (⟨none,.call { callee:=.builtin .delete,args:=#[x,y],argTypes:=#[140,3] },ty,pos,aft,none⟩::os) l W:=fun a ha=>by
 obtain ⟨W',h1,h2,h3⟩:=hM.drop hk ty
 refine wpList_plain rfl fun K' hK'=>?_
 unfold Oper.wp
 simp [execOp,resolve,invoke,builtin,ha.ev x _ hx,ha.ev y _ hy,h1,Result.andThen]
 exact hK' _ _ (h W' (hS.setMap h3 hwb hK) h2 a ha)
theorem J2 {T kT eT:TypeId} {h9:Int} (hS:St w0 O G K W) (hT:prog.underlying T=some (.map kT eT)) (hy:evL l y=some (.int .i64 h9)) (hd:Nat.blt d n=true) (h:∀ B W',W'.heap[B]?=some (.map #[] 0)→W.heap.size≤B→St w0 O G ((W.heap.size,W')::K) W'→cS prog n ops Q os ((d,.map (some B))::l) W'):cS prog n ops Q (⟨some d,.makeMap T (some y),ty,pos,aft,none⟩::os) l W :=
 opV (W':=W.alloc (.map #[] 0)) (v:=.map (some W.heap.size)) (fun ev he=>by
  unfold execOp
  simp [he y _ hy,Instr.makeMap,run_underlying hT,asInt,asIntOf,Result.andThen]) hd (h _ _ (heap_alloc_new W _) (Nat.le_refl _) (hS.call ((Below.refl _ _).alloc (Nat.le_refl _) _)))
end
end Go.Proofs.YtmgnkpibpjgncaaGreatDoor
namespace Go.Proofs.YtmgnkpibpjgncaaGreatDoor
open Go.Proofs.Tryz
open Go Go.RowKit
def Qv (k:Nat) (g:GR) (q:Value):Prop:=k≤g.n∧∃ a c ad,g.v = .slice a g.n c∧q = .slice ad (g.n - k) (c - k)∧(c≠k→ad=a.map (·.add (k * 1)))
theorem Qv.start {w:World} {base:Nat} {g:GR} (h:w.ownsRow base g.e g.size g.v g.n g.xs):Qv 0 g g.v:=by
 obtain ⟨a,c,e,_⟩:=iB h
 refine ⟨Nat.zero_le _,a,c,a,e,by rw [e];rfl,fun _=>?_⟩
 cases a with
 | none=>rfl
 | some p=>simp [Addr.add]
theorem Qv.len {k:Nat} {g:GR} {q:Value} (h:Qv k g q):∃ ad c,q = .slice ad (g.n - k) c:=by
 obtain ⟨_,a,c,ad,_,h2,_⟩:=h
 exact ⟨ad,_,h2⟩
theorem Qv.next {k:Nat} {g:GR} {a9 ad:Option Addr} {m c9:Nat} (h:Qv k g (.slice a9 m c9)) (hk:k < g.n) (hmc:m≤c9) (hE:c9=1→ad=a9) (hN:c9≠1→ad=a9.map (·.add (1 * 1))):Qv (k+1) g (.slice ad (m - 1) (c9 - 1)):=by
 obtain ⟨h0,a,c,ad0,h1,h2,h3⟩:=h
 injection h2 with h5 h6 h7
 subst h5;subst h6;subst h7
 refine ⟨hk,a,c,ad,h1,by rw [Nat.sub_sub,Nat.sub_sub],fun hc=>?_⟩
 have h8:c≠k:=by omega
 rw [hN (by omega),h3 h8]
 cases a with
 | none=>rfl
 | some p=>by_cases hk0:k=0<;>simp [Addr.add,hk0]<;>omega
theorem Qv.cell {w:World} {base k:Nat} {g:GR} {q:Value} {x:Value} (h:Qv k g q) (hs:g.size=1) (ho:w.ownsRow base g.e g.size g.v g.n g.xs) (hx:g.xs[k]?=some x):∃ b c,q = .slice (some ⟨b,k * 1,none⟩) (g.n - k) c∧w.cell? ⟨b,k * 1+0 * 1,none⟩=some x:=by
 obtain ⟨h0,a,c,ad,h1,h2,h3⟩:=h
 have hl:=ho.1
 rw [hs,Nat.mul_one] at hl
 have hlt:=(List.getElem?_eq_some_iff.1 hx).1
 rw [h1] at ho
 rcases ho.2 with ⟨e1,e2⟩ | ⟨b,cap,cur,e1,hb,hh,hn,_⟩
 ·omega
 ·injection e1 with e1 _ e3
  subst e1;subst e3
  refine ⟨b,c - k,by rw [h2,h3 (by omega)];simp [Addr.add_lit],?_⟩
  have h9:=ho.cells (g:=b) rfl k x hx
  simpa [Addr.add_lit] using h9
theorem Wu {P:Program} {w:World} {base:Nat} {t ty e:TypeId} {i:TypeInfo} {z:Value} (ht:P.underlying t=some (.slice e)) (hi:P.info? e=some i) (hz:i.zero=some z) (hzs:z.cells.size=i.size) (hsz:i.size=1)
  {v q:Value} {n k:Nat} {xs:List Value} (hown:w.ownsRow base e 1 v n xs) (hq:Qv k ⟨v,n,xs,e,1⟩ q) {B:Nat} {x:Value} (hB:w.heap[B]?=some (.cells #[x] e (0,0))) (h1:x.oneCell'=true) (h63:n+1≤maxLen) (hbytes:(n+1) * i.bytes≤140737488355328) (hbase:base≤w.heap.size) :
  ∃ q' v' n' k' xs' w',(Builtin.append_ #[t,t] ty #[q,.slice (some ⟨B,0,none⟩) 1 1]).run P w = .ok q' w'∧w'.ownsRow base e 1 v' n' xs'∧w.grownBy w' v.ownBlock∧(v'.ownBlock=v.ownBlock∨v'.ownBlock=some w.heap.size)∧Qv k' ⟨v',n',xs',e,1⟩ q'∧xs'.drop k'=xs.drop k++[x]∧n' - k'=n - k+1∧n'≤n+1:=by
 have hcB:∀ (j:Nat) u,[x][j]?=some u→w.cell? ((⟨B,0,none⟩:Addr).add j)=some u:=fun j u hj=>by
  rw [Addr.add_lit,Nat.zero_add]
  simp only [World.cell?,hB]
  simpa using hj
 have hone:∀ u∈[x],u.oneCell'=true:=fun u hu=>by simp at hu;subst hu;exact h1
 have hl9:[x].length=1 * i.size:=by rw [hsz];rfl
 have hsrc:Src P i.size t (.slice (some ⟨B,0,none⟩) 1 1) 1 [x] w:=Src.ofSlice w ht ⟨B,0,none⟩ 1 1 [x] hl9 hcB hone
 obtain ⟨h0,a,c,ad,hv,hqv,h3⟩:=hq
 dsimp only at h0 hv hqv
 have hown':=hown
 rw [← hsz] at hown'
 obtain ⟨v1,w1,hr1,o1,g1,b1⟩:=lN (P:=P) (w:=w) base t ty e i z ht hi hz hzs (by omega) v n xs hown' ⟨B,0,none⟩ 1 1 [x] hl9 hcB hone h63 hbytes hbase
 rw [hsz] at o1
 have hlen:=hown.1
 rw [Nat.mul_one] at hlen
 have hnc:n≤c:=by
  obtain ⟨a2,c2,e2,h9⟩:=iB hown
  rw [hv] at e2
  injection e2 with _ _ e3
  rw [e3];exact h9
 by_cases hroom:n+1≤c
 ·-- there is room: the row itself grows in place
  have hown2:=hown.2
  rw [hv] at hown2
  rcases hown2 with ⟨e1,_⟩ | ⟨b,cap,cur,e1,hb,hh,hn,hm,hcs,htk⟩
  ·injection e1 with _ _ e3;omega
  ·injection e1 with e1 _ e3
   subst e1;subst e3
   rw [Nat.mul_one] at hcs
   have had:=h3 (by omega)
   simp [Addr.add_lit] at had
   subst had
   have hsome:∀ j,j < [x].length→(w.cell? ⟨b,0+n * i.size+j,none⟩).isSome=true:=fun j hj=>by
    have hj0:j=0:=by simpa using hj
    subst hj0
    simp only [World.cell?,hh,hsz]
    have:n < cur.size:=by omega
    simp [this]
   have hfroz:∀ j,j < [x].length→w.frozen? ⟨b,0+n * i.size+j,none⟩=false:=fun j _=>by
    simp [World.frozen?,hh]
   have rb:=run_append_room_src (P:=P) w t t ty e i ht hi b 0 n c (.slice (some ⟨B,0,none⟩) 1 1) 1 [x] hsrc hroom hsome hfroz
   have e9:k+(n - k) * i.size=0+n * i.size:=by rw [hsz];omega
   have rq:=run_append_room_src (P:=P) w t t ty e i ht hi b k (n - k) (c - k) (.slice (some ⟨B,0,none⟩) 1 1) 1 [x] hsrc (by omega) (fun j hj=>by rw [e9];exact hsome j hj) (fun j hj=>by rw [e9];exact hfroz j hj)
   rw [e9] at rq
   rw [hv] at hr1
   rw [hr1] at rb
   simp only [Result.ok.injEq] at rb
   obtain ⟨rfl,rfl⟩:=rb
   refine ⟨_,_,n+1,k,xs++[x],_,by rw [hqv];exact rq,o1,g1,b1,⟨by dsimp only;omega,some ⟨b,0,none⟩,c,some ⟨b,k,none⟩,rfl,by dsimp only;rw [show n - k+1=n+1 - k by omega],fun _=>by simp [Addr.add_lit]⟩,by rw [List.drop_append_of_le_length (by omega)],by omega,Nat.le_refl _⟩
 ·-- a new row
  have hcn:c=n:=by omega
  subst hcn
  have hge:=grownCap_ge w (c - k+1) (c - k) e
  have hcm:=grownCap_le_maxLen w (c - k+1) (c - k) e (by omega)
  have hold:(Builtin.firstCells i.size (c - k) (.slice ad (c - k) (c - k))).run P w.drew = .ok (xs.drop k).toArray w.drew:=by
   have hown2:=hown.2
   rw [hv] at hown2
   rcases hown2 with ⟨e1,e2⟩ | ⟨b,cap,cur,e1,hb,hh,hn,hm,hcs,htk⟩
   ·have:xs=[]:=List.eq_nil_of_length_eq_zero (by omega)
    subst this
    have e3:c - k=0:=by omega
    rw [e3]
    cases ad with
    | none=>simpa using run_firstCells_none (P:=P) w.drew i.size 0 0 0
    | some p=>simpa using run_firstCells_some (P:=P) w.drew i.size 0 p 0 0 [] (by simp) (by simp)
   ·injection e1 with e1 _ e3
    subst e1
    rcases Nat.lt_or_ge k c with hkc | hkc
    ·have had:=h3 (by omega)
     simp [Addr.add_lit] at had
     subst had
     refine run_firstCells_some (P:=P) w.drew i.size (c - k) ⟨b,k,none⟩ (c - k) (c - k) (xs.drop k) (by rw [List.length_drop,hsz];omega) (fun j u hj=>?_)
     rw [List.getElem?_drop] at hj
     have h9:=(show w.ownsRow base e 1 (.slice (some ⟨b,0,none⟩) c c) c xs from hv▸hown).cells (g:=b) rfl (k+j) u hj
     rw [Addr.add_lit] at h9 ⊢
     simpa using h9
    ·have e4:c - k=0:=by omega
     rw [e4,List.drop_eq_nil_of_le (by omega)]
     cases ad with
     | none=>simpa using run_firstCells_none (P:=P) w.drew i.size 0 0 0
     | some p=>simpa using run_firstCells_some (P:=P) w.drew i.size 0 p 0 0 [] (by simp) (by simp)
  have rq:=run_append_grow_src (P:=P) w t t ty e i z ht hi hz ad (c - k) (c - k) (xs.drop k) hold (.slice (some ⟨B,0,none⟩) 1 1) 1 [x] hsrc (by omega) (by simp only [maxLen] at h63;omega) (growslice_fits (by omega) (Nat.le_trans (Nat.mul_le_mul_right _ (by omega)) hbytes))
  refine ⟨_,.slice (some ⟨w.heap.size,0,none⟩) (c - k+1) (grownCap w (c - k+1) (c - k) e),c - k+1,0,xs.drop k++[x],_,by rw [hqv];exact rq,⟨by rw [List.length_append,List.length_drop];simp;omega,.inr ⟨w.heap.size,_,_,rfl,hbase,heap_alloc_new w.drew _,hge,hcm,?_,?_⟩⟩,⟨rfl,rfl,rfl,by simp,fun j hj _=>heap_alloc_old w.drew _ hj⟩,.inr rfl,⟨Nat.zero_le _,_,_,_,rfl,rfl,fun _=>by simp [Addr.add_lit]⟩,by simp,by omega,by omega⟩
  ·rw [Array.size_append,List.size_toArray,List.length_append,List.length_drop,size_zeroCells,hzs,hsz]
   simp only [List.length_cons,List.length_nil]
   omega
  ·rw [Array.toList_append,List.toList_toArray,Nat.mul_one]
   refine List.take_left' ?_
   rw [List.length_append,List.length_drop]
   simp;omega
section
variable {P:Program} {n:Nat} {Q:Exit→Act→World→Prop} {l:Fr} {w0 W:World} {ops:Array Oper} {os:List Oper} {O:Own} {G:cU} {K:List (Nat×World)} {d:Nat} {ty:TypeId} {pos:String} {aft:Array Edge}
theorem My {t e:TypeId} {x y:Operand} {gi k m:Nat} {v q u:Value} {xs:List Value} {B:Nat} {inf:TypeInfo} {z:Value} (hS:St w0 O G K W) (hU:P.underlying t=some (.slice e)) (hinf:P.info? e=some inf) (hz:inf.zero=some z) (hzs:z.cells.size=inf.size) (hsz:inf.size=1)
  (hi:G[gi]?=some ⟨v,m,xs,e,1⟩) (hq:Qv k ⟨v,m,xs,e,1⟩ q) (hx:evL l x=some q) (hy:evL l y=some (.slice (some ⟨B,0,none⟩) 1 1)) (hB:W.heap[B]?=some (.cells #[u] e (0,0))) (h1:u.oneCell'=true)
  (h63:m+1≤maxLen) (hbytes:(m+1) * inf.bytes≤140737488355328) (hd:Nat.blt d n=true)
  (h:∀ q' v' m' k' xs' W',St w0 O (G.set gi ⟨v',m',xs',e,1⟩) K W'→Qv k' ⟨v',m',xs',e,1⟩ q'→xs'.drop k'=xs.drop k++[u]→m' - k'=m - k+1→m'≤m+1→cS P n ops Q os ((d,q')::l) W') :
  cS P n ops Q (⟨some d,.call { callee:=.builtin .append,args:=#[x,y],argTypes:=#[t,t] },ty,pos,aft,none⟩::os) l W:=by
 have hrow:=hS.row gi hi
 obtain ⟨q',v',m',k',xs',W',hr,h2,h3,h4,h5,h6,h7,h8⟩:=Wu (P:=P) (w:=W) (t:=t) (ty:=ty) hU hinf hz hzs hsz hrow hq hB h1 h63 hbytes hS.below.size
 refine opV (W':=W') (v:=q') (fun ev hev=>?_) hd (h q' v' m' k' xs' W' (hS.setG gi hi h2 h3 h4) h5 h6 h7 h8)
 unfold execOp
 simp only [resolve,invoke,builtin,Sem.run_bind,Sem.run_pure,Result.andThen_ok,List.map_toArray,List.map_cons,List.map_nil,hev x _ hx,hev y _ hy,hr]
end
theorem row_src {w:World} {base n:Nat} {e:TypeId} {a:Option Addr} {c:Nat} {xs:List Value} (h:w.ownsRow base e 1 (.slice a n c) n xs):(a=none∧n=0)∨∃ p,a=some p∧∀ (j:Nat) u,xs[j]?=some u→w.cell? (p.add j)=some u:=by
 rcases slNil h with ⟨h1,h2,_⟩ | ⟨b,h1⟩
 ·exact .inl ⟨h1,h2⟩
 ·refine .inr ⟨_,h1,fun j u hj=>?_⟩
  obtain ⟨b',h2,h3⟩:=jU h hj
  rw [h1] at h2
  cases h2
  rw [Addr.add_lit]
  simpa using h3
def egX (kf:TV→Int×Int) (py:TV→PX) (t:TV):Eg:=⟨(kf t).1.toNat,(kf t).2,t.t.toNat,py t⟩
abbrev egsX (kf:TV→Int×Int) (py:TV→PX) (ts:List TV):List Eg:=ts.map (egX kf py)
def dnX (kf:TV→Int×Int) (py:TV→PX) (ts:List TV) (s:Nat) (js:List Int):Eg→Prop:=fun e=>e.f≠s∨∃ (j:Nat) (t:TV),(j:Int)∈js∧ts[j]?=some t∧e=egX kf py t
theorem dnX_all {kf:TV→Int×Int} {py:TV→PX} {ts:List TV} {s:Nat} (hkf:∀ t∈ts,∃ i:Nat,(kf t).1=(i:Int)) {e:Eg} (he:e∈egsX kf py ts) (hg:e.g = -1):dnX kf py ts s (byT kf ts 0 ((s:Int),-1)) e:=by
 obtain ⟨t,ht,rfl⟩:=List.mem_map.1 he
 rcases Nat.decEq (egX kf py t).f s with h | h
 ·exact .inl h
 ·obtain ⟨m,hm⟩:=List.getElem?_of_mem ht
  refine .inr ⟨m,t,tC.2 ⟨m,t,by rw [Nat.zero_add],hm,?_⟩,hm,rfl⟩
  obtain ⟨i,hi⟩:=hkf t ht
  have h1:(kf t).1.toNat=s:=h
  have h2:(kf t).2 = -1:=hg
  rw [hi,Int.toNat_natCast] at h1
  subst h1
  exact Prod.ext hi.symm h2.symm
theorem Cf {kf:TV→Int×Int} {py:TV→PX} {ts:List TV} {s j tj:Nat} {js:List Int} {t:TV} (h:js[j]?=some (tj:Int)) (ht:ts[tj]?=some t) (e:Eg) (hd:dnX kf py ts s (js.take (j+1)) e):dnX kf py ts s (js.take j) e∨e=egX kf py t:=by
 rcases hd with hd | ⟨m,t9,h1,h2,h3⟩
 ·exact .inl (.inl hd)
 ·rw [List.take_add_one,h] at h1
  rcases List.mem_append.1 h1 with h1 | h1
  ·exact .inl (.inr ⟨m,t9,h1,h2,h3⟩)
  ·have h4:(m:Int)=(tj:Int):=by simpa using h1
   have h5:m=tj:=by omega
   subst h5
   rw [ht] at h2;cases h2
   exact .inr h3
theorem Wt.pop {S:PS} {b:Bool} {kf:TV→Int×Int} {py:TV→PX} {ts:List TV} {ys:List PX} {ws:List Nat} {s:Nat} (h:Wt S b (egsX kf py ts) ys (s::ws) (fun _=>True)):Wt S b (egsX kf py ts) ys ws (dnX kf py ts s []):=h.weaken fun e hf hd=>by
 refine ⟨fun h1=>?_,trivial⟩
 rcases hd with hd | ⟨m,t,h2,_⟩
 ·rcases List.mem_cons.1 h1 with h3 | h3
  ·exact hd h3
  ·exact hf h3
 ·cases h2
theorem Wt.done {S:PS} {b:Bool} {kf:TV→Int×Int} {py:TV→PX} {ts:List TV} {ys:List PX} {ws:List Nat} {s:Nat} (hkf:∀ t∈ts,∃ i:Nat,(kf t).1=(i:Int)) (h:Wt S b (egsX kf py ts) ys ws (dnX kf py ts s (byT kf ts 0 ((s:Int),-1)))):Wt S b (egsX kf py ts) ys ws (fun _=>True):=fun e he hg hf _=>h e he hg hf (dnX_all hkf he hg)
theorem Ph:prog.built 141 []=some #[]:=by kernel_rfl
theorem St.restG {w0 W:World} {O:Own} {g:GR} {G:cU} {K:List (Nat×World)} (h:St w0 O (g::G) K W):St w0 O G K W:=⟨h.below,h.own,h.dist,h.kept,fun g hg=>h.rows g (List.mem_cons_of_mem _ hg),(List.pairwise_cons.1 h.gdist).2⟩
theorem Qv.cap {k:Nat} {g:GR} {ad:Option Addr} {m c base:Nat} {w:World} (h:Qv k g (.slice ad m c)) (ho:w.ownsRow base g.e g.size g.v g.n g.xs):m≤c:=by
 obtain ⟨h0,a,c0,ad0,h1,h2,h3⟩:=h
 injection h2 with _ e1 e2
 obtain ⟨a2,c2,e,hle⟩:=iB ho
 rw [h1] at e
 injection e with _ _ e3
 omega
theorem jJ.blk {b n:Nat} {ks:List Nat} {W:World} (h:jJ b n ks W):∃ es clock,W.heap[b]?=some (.map es clock):=by
 obtain ⟨D,⟨es,clock,h1,h2⟩,h3⟩:=h
 exact ⟨es,clock,h1⟩
theorem jJ.kept {w0 W W':World} {O:Own} {G:cU} {K:List (Nat×World)} {b n:Nat} {ks:List Nat} (h:jJ b n ks W) (hS:St w0 O G K W') (hq:(b,tF W b)∈K):jJ b n ks W':=h.same fun hlt=>((hS.kept _ hq).1.2 b (Nat.le_refl _) (qB hlt)).trans (qC hlt)
theorem Pi {w0 W W':World} {O:Own} {G:cU} {K:List (Nat×World)} {b:Nat} (hS:St w0 O G K W') (hq:(b,tF W b)∈K) (hb:b < W.heap.size):b < W'.heap.size:=Nat.lt_of_lt_of_le (qB hb) (hS.kept _ hq).1.1
theorem G3 {S:PS} {x0 x:PX} (hok:S.ok) (h0:OkX S x0) (hx:OkX S x) (h:bZ S x0 x≠x0):bZ S x0 x≠bP S:=by
 by_cases hz:x0=bP S
 ·rw [hz] at h ⊢;exact h
 ·exact Oz hok h0 hx hz
theorem yG (S:PS) (a:AV) (f0:WF) (bk:Bool) (bm VA VX RB IA WA n:Nat) (va:Value) (fs:List WF) (xs:List PX) (l:List Nat) (Ot:Own) (Gt:cU) (K:List (Nat×World)) (w0:World) (lo:Nat) (py:TV→PX) (kf:TV→Int×Int) (w:World) (hS0:St w0 ((RB,rdC f0 a bk bm VA VX,109)::(VA,gU va n IA WA,139)::(IA,inC S xs,4)::(WA,wC fs,44)::Ot) (⟨va,l.length,atC l,3,1⟩::Gt) K w) (hV:VecOk S w0 K n fs xs l) (hn:n≤4096) (hM:oG w0 K kf lo a.ts bm) (htrow:nO w0 a.ta a.ts) (htlen:a.ts.length=a.tl) (htm:a.tl≤65536) (htq:∀ t∈a.ts,inQ t.t (n:Int)=true) (hpy:∀ t∈a.ts,XIs w0 S t.x.f (py t)) (hkf:∀ t∈a.ts,∃ s:Nat,(kf t).1=(s:Int)∧s < n) (hht:Iv S≤4194304) (hsi:SIs w0 S a.s.f) (hok:S.ok) (ht:Tabs w0) (H0:mE w0 K (fun W=>XIs W S f0 (bP S))) :
  Calls prog 57 #[.pointer (some ⟨RB,0,none⟩)] w (fun e w'=>∃ (u:Value) (l':List Nat) (fs':List WF) (xs':List PX) (Kn:List (Nat×World)),e = .returned (.tuple #[])∧(∀ q∈K,q∈Kn)∧VecOk S w0 Kn n fs' xs' l'∧Eps S bk (egsX kf py a.ts) xs xs'∧xQ S bk (egsX kf py a.ts) xs'∧St w0 ((RB,rdC f0 a bk bm VA VX,109)::(VA,gU u n IA WA,139)::(IA,inC S xs',4)::(WA,wC fs',44)::Ot) (⟨u,l'.length,atC l',3,1⟩::Gt) Kn w'):=by
 refine cB (args:=[.pointer (some ⟨RB,0,none⟩)]) func57 rfl ntmps57 rfl ?_
 have hS:=hS0
 obtain ⟨aa,ac,hva,_⟩:=iB (hS.row 0 rfl)
 have hva:va = .slice aa l.length ac:=hva
 subst hva
 have hll:=hV.len
 have hEo:∀ e∈(egsX kf py a.ts),OkX S e.y:=fun e he=>by obtain ⟨t,ht9,rfl⟩:=List.mem_map.1 he;exact (hpy t ht9).ok
 refine aJ (aQ (aE rfl rfl (cM rfl rfl (aO (o':=18) kR rfl rfl rfl (aT isAgg107 rfl (aH (hS.at_ 0 rfl) rfl) rfl (aC rfl rfl (aN (XF.thenN (aJ (aQ (Rd hS underlying26 sizeOf3 rfl fun v1 W1 hS=>aE rfl rfl (cM rfl rfl (aO (o':=0) kQ rfl rfl rfl (aT isAgg26 rfl (aH (hS.at_ 1 rfl) rfl) rfl ?_))))))))))))))
 refine Mf (i:=0) (news:=atC l) hS underlying26 Hg rfl rfl (by show 0 < 1;decide) rfl rfl rfl rfl rfl (row_src (hS.row 1 rfl)) (by rw [atC_len];show _=l.length * 1;omega) (fun u hu=>by obtain ⟨i,_,rfl⟩:=List.mem_map.1 hu;rfl) (by dsimp only;simp only [maxLen];omega) (by show (0+l.length) * 8≤_;omega) rfl fun v2 W2 hS=>?_
 obtain ⟨a3,c3,hv3,_⟩:=iB (hS.row 0 rfl)
 have hv3:v2 = .slice a3 (0+l.length) c3:=hv3
 rw [Nat.zero_add] at hv3
 subst hv3
 have hS:=(hS.castG (G':=⟨(.slice a3 l.length c3),l.length,atC l,3,1⟩::⟨(.slice aa l.length ac),l.length,atC l,3,1⟩::Gt) (by show _::_=_;rw [Nat.zero_add];rfl)).permG (List.Perm.swap _ _ _)
 refine aC rfl rfl (aN (XF.thenN (aJ (aQ (aE rfl rfl (cX underlying26 rfl rfl (J2 hS underlying140 rfl rfl ?_)))))))
 have hsz2:=hS.below.size
 have hKs2:∀ q∈K,q.2.heap.size≤_:=fun q hq=>(hS.kept q hq).1.1
 clear hS;intro bS W8 hbS hlS hS
 have hmt:=jJ.made hbS
 have hS:=hS.keep K (fun q hq=>List.mem_cons_of_mem _ hq)
 have hKb:(∀ q∈K,bS < q.1∨q.2.heap.size≤bS):=fun q hq=>.inr (Nat.le_trans (hKs2 q hq) hlS)
 have hwb:w0.heap.size≤bS:=Nat.le_trans hsz2 hlS
 refine aC rfl rfl (aN (XF.thenN (aJ (aJ (aQ (aE rfl rfl (cX underlying26 rfl rfl (aE rfl rfl (aN (XF.thenN (bQ (eI (fun m lf W=>∃ i:Nat,i≤l.length∧m=l.length - i∧lf=[(0,.pointer (some ⟨RB,0,none⟩)),(2,.pointer (some ⟨VA,0,none⟩)),(3,.slice a3 l.length c3),(4,.map (some bS)),(26,.slice a3 l.length c3),(27,.int .i64 (l.length:Int)),(28,.int .i64 (i:Int))]∧jJ bS i (l.take i).reverse W∧St w0 ((RB,rdC f0 a bk bm VA VX,109)::(VA,gU (.slice aa l.length ac) n IA WA,139)::(IA,inC S xs,4)::(WA,wC fs,44)::Ot) (⟨(.slice aa l.length ac),l.length,atC l,3,1⟩::⟨(.slice a3 l.length c3),l.length,atC l,3,1⟩::Gt) K W) (l.length - 0) ([(0,_),(2,_),(3,_),(4,_),(26,_),(27,_),(28,_)]) ⟨rfl,rfl,rfl,rfl,rfl,rfl,rfl,trivial⟩ (⟨0,Nat.zero_le _,rfl,rfl,hmt,hS⟩) ?_))))))))))))
 clear hS
 rintro m lf W ⟨i,hi,rfl,rfl,hmt,hS⟩
 refine aJ (aQ (cY rfl rfl rfl (aN (XF.thenN (aJ (bA rfl (fun hc=>?_) (fun hc=>?_)))))))
 ·have hc29:=of_decide_eq_true hc;clear hc
  have hk:i < l.length:=by omega
  obtain ⟨y,hy⟩:∃ y,l[i]?=some y:=⟨l[i],List.getElem?_eq_getElem hk⟩
  obtain ⟨xy,hxy,hxz⟩:=(hV.ats y).1 (List.mem_of_getElem? hy)
  have hyn:y < n:=by have:=(List.getElem?_eq_some_iff.1 hxy).1;rw [hV.xl] at this;exact this
  obtain ⟨b9,rfl,k9⟩:=jU (hS.row 1 rfl) (show (atC l)[i]?=some (.int .i64 (y:Int)) by rw [List.getElem?_map,hy];rfl)
  refine bM (XF.thenN (aJ (bQ (aJ (aQ (cK  underlying26 sizeOf3 rfl rfl rfl (by omega) rfl rfl (aT isAgg3 rfl (k9) rfl (aC rfl rfl (aN (XF.thenN (aQ (aE rfl rfl (aE rfl rfl (cV (us:=[]) rfl (Ph) rfl ?_))))))))))))))
  refine Ce hS hmt (by omega) (by simp only [maxLen];omega) hwb hKb rfl rfl rfl ?_
  clear hS hmt;intro W7 hS hmt
  refine aN (XF.blkN (XF.thenN (aQ (cZ rfl rfl (IntWalk.i64_in _ (by omega)) rfl (aE rfl rfl (aN ?_))))))
  exact XF.round (l.length - (i+1)) [(0,_),(2,_),(3,_),(4,_),(26,_),(27,_),(28,_)] (by omega) ⟨rfl,rfl,rfl,rfl,rfl,rfl,rfl,trivial⟩ ⟨i+1,by omega,rfl,rfl,(by rw [List.take_add_one,hy,List.reverse_append];exact hmt),hS⟩
 ·have hc29:=of_decide_eq_false hc;clear hc
  rw [List.take_of_length_le (by omega)] at hmt
  have hil:i=l.length:=by omega
  subst hil
  have hB0:=Pg (S:=S) xs
  have hxl:=hV.xl
  obtain ⟨B0,hB⟩:∃ b,b=n+xs.length * (Iv S).toNat:=⟨_,rfl⟩
  have hB0le:B0≤4096+4096 * 4194304:=by rw [hB];exact Nat.add_le_add hn (Nat.mul_le_mul (by rw [hxl];exact hn) (by omega))
  have hq0:=Qv.start (hS.row 1 rfl)
  refine eF (XF.thenX (XF.thenX (XF.blkX (XF.thenN (bQ (eI (fun m lf W=>∃ (q vq:Value) (mq kq cnt:Nat) (xq:List Value) (ks ws:List Nat) (v9:Value) (f9s:List WF) (x9s:List PX) (l9:List Nat) (Kk:List (Nat×World)),m=lH S x9s+ws.length∧lf=[(0,.pointer (some ⟨RB,0,none⟩)),(2,.pointer (some ⟨VA,0,none⟩)),(3,q),(4,.map (some bS))]∧(∀ q∈K,q∈Kk)∧(∀ q∈Kk,bS < q.1∨q.2.heap.size≤bS)∧Qv kq ⟨vq,mq,xq,3,1⟩ q∧xq.drop kq=atC ws∧mq - kq=ws.length∧mq+lH S x9s≤B0∧cnt+lH S x9s≤B0∧jJ bS cnt ks W∧(∀ i,i∈ks↔i∈ws)∧ws.Nodup∧(∀ i∈ws,i∈l9)∧Eps S bk (egsX kf py a.ts) xs x9s∧Wt S bk (egsX kf py a.ts) x9s ws (fun _=>True)∧VecOk S w0 Kk n f9s x9s l9∧St w0 ((RB,rdC f0 a bk bm VA VX,109)::(VA,gU v9 n IA WA,139)::(IA,inC S x9s,4)::(WA,wC f9s,44)::Ot) (⟨v9,l9.length,atC l9,3,1⟩::⟨vq,mq,xq,3,1⟩::Gt) Kk W) (lH S xs+l.length) ([(0,_),(2,_),(3,_),(4,_)]) ⟨rfl,rfl,rfl,rfl,trivial⟩ (⟨_,_,_,0,l.length,_,l.reverse,l,_,fs,xs,l,K,rfl,rfl,(fun q hq=>hq),hKb,hq0,rfl,rfl,by omega,by omega,hmt,(fun i=>List.mem_reverse),hV.nd,(fun i hi=>hi),Eps.refl hok hV.ok,Wt.start hV.ok hEo (fun i x h1 h2=>Classical.byContradiction fun h3=>h2 ((hV.ats i).2 ⟨x,h1,h3⟩)),hV,hS⟩) ?_))))))
  clear hS
  clear hmt hq0 hS;rintro m lf W ⟨q,vq,mq,kq,cnt,xq,ks,ws,v9,f9s,x9s,l9,Kk,rfl,rfl,hKk,hKbk,hq,hxq,hmq,hd1,hd2,hmt,hks,hnd,hwn,hE,hW,hV9,hS⟩
  obtain ⟨adq,cq,hq9⟩:=hq.len
  have hq9:q = .slice adq ws.length cq:=by rw [hq9];show Value.slice adq (mq - kq) cq=_;rw [hmq]
  subst hq9
  refine aJ (aJ (aQ (aE rfl rfl (cX underlying26 rfl rfl (qW rfl rfl rfl (aN (XF.thenN (bA rfl (fun hc=>?_) (fun hc=>?_)))))))))
  ·have hc38:=of_decide_eq_true hc;clear hc
   obtain ⟨s,ws,rfl⟩:∃ y t,ws=y::t:=by
    cases ws with
    | nil=>exact absurd hc38 (by simp)
    | cons y t=>exact ⟨y,t,rfl⟩
   have hx9:(xq.drop kq)[0]?=some (.int .i64 (s:Int)):=by rw [hxq];rfl
   rw [List.getElem?_drop,Nat.add_zero] at hx9
   obtain ⟨bq,cq9,hqc,kqc⟩:=Qv.cell hq rfl (hS.row 1 rfl) hx9
   injection hqc with e1 e2 e3
   subst e1;subst e3
   have hsl9:s∈l9:=hwn s List.mem_cons_self
   obtain ⟨xs9,hxs9,hxsz⟩:=(hV9.ats s).1 hsl9
   have hsn:s < n:=by have:=(List.getElem?_eq_some_iff.1 hxs9).1;rw [hV9.xl] at this;exact this
   have hkq:kq < mq:=by rw [List.length_cons] at hmq;omega
   have hcap:=hq.cap (hS.row 1 rfl)
   obtain ⟨M0,hM0⟩:∃ m,m=lH S x9s+ws.length:=⟨_,rfl⟩
   rw [List.length_cons] at hmq
   refine bM (XF.thenN (bQ (aJ (aQ (aE rfl rfl (cK (j:=0) underlying26 sizeOf3 rfl rfl (rfl) (Nat.succ_pos _) rfl rfl (aT isAgg3 rfl (kqc) rfl (aC rfl rfl (aN (XF.thenN (aJ (aQ (aE rfl rfl (uU (j:=1) underlying26 sizeOf3 rfl rfl rfl (Nat.succ_le_succ (Nat.zero_le _)) rfl ?_))))))))))))))
   intro ad3 hadE3 hadN3
   have hqN:=Qv.next hq hkq hcap hadE3 hadN3
   refine aC rfl rfl (aN (XF.thenN (aJ (aQ (aE rfl rfl (aE rfl rfl (J1 hS hmt (by omega) hwb hKbk rfl rfl ?_)))))))
   clear hS hmt;intro W7 hS hmt
   refine aN (XF.thenN (aJ ?_))
   obtain ⟨Wf,hG,hH⟩:=hM
   have hH4:=hH hS hKk
   obtain ⟨v33,hlk,hrw⟩:=Grp.look hG Gv underlying106 zeroValue26 (k:=((s:Int),-1)) (Gw (wI (Int.natCast_nonneg _) (by omega)) (Gx (by decide) (by decide))) Gu
   obtain ⟨ra,rc,rfl,hrc⟩:=iB hrw
   obtain ⟨rl,hrl⟩:∃ m,m=(Bx kf a.ts ((s:Int),-1)).length:=⟨_,rfl⟩
   rw [← hrl] at hlk hrw hrc
   have hlk4:=hlk _ hH4.1
   have hrl2:rl=(byT kf a.ts 0 ((s:Int),-1)).length:=by rw [hrl,List.length_map]
   have hrl3:=qF kf ((s:Int),-1) a.ts 0
   refine aQ (aE rfl rfl (cM rfl rfl (aO (o':=17) wJ rfl rfl rfl (aT isAgg106 rfl (aH (hS.at_ 0 rfl) rfl) rfl (aE rfl rfl (cV (us:=[(0,.int .i64 _),(1,.int .i64 _)]) rfl (oF _ _) rfl (opV (Eh rfl rfl hlk4) rfl (cX underlying26 rfl rfl (aE rfl rfl (aN (XF.thenN (bQ ?_))))))))))))
   refine eI (fun m lf W=>∃ (j:Nat) (q vq:Value) (mq kq cnt:Nat) (xq:List Value) (ks ws9:List Nat) (v7:Value) (f7:List WF) (x7:List PX) (l7:List Nat) (Kj:List (Nat×World)),j≤rl∧m=rl - j∧lf=[(0,.pointer (some ⟨RB,0,none⟩)),(2,.pointer (some ⟨VA,0,none⟩)),(3,q),(4,.map (some bS)),(7,.int .i64 (s:Int)),(52,.slice ra rl rc),(53,.int .i64 (rl:Int)),(54,.int .i64 (j:Int))]∧(∀ q∈K,q∈Kj)∧(∀ q∈Kj,bS < q.1∨q.2.heap.size≤bS)∧Qv kq ⟨vq,mq,xq,3,1⟩ q∧xq.drop kq=atC ws9∧mq - kq=ws9.length∧mq+lH S x7≤B0∧cnt+lH S x7≤B0∧jJ bS cnt ks W∧(∀ i,i∈ks↔i∈ws9)∧ws9.Nodup∧(∀ i∈ws9,i∈l7)∧s∈l7∧Eps S bk (egsX kf py a.ts) xs x7∧Wt S bk (egsX kf py a.ts) x7 ws9 (dnX kf py a.ts s ((byT kf a.ts 0 ((s:Int),-1)).take j))∧lH S x7+ws9.length≤M0∧VecOk S w0 Kj n f7 x7 l7∧St w0 ((RB,rdC f0 a bk bm VA VX,109)::(VA,gU v7 n IA WA,139)::(IA,inC S x7,4)::(WA,wC f7,44)::Ot) (⟨v7,l7.length,atC l7,3,1⟩::⟨vq,mq,xq,3,1⟩::Gt) Kj W) (rl - 0) ([(0,_),(2,_),(3,_),(4,_),(7,_),(52,_),(53,_),(54,_)]) ⟨rfl,rfl,rfl,rfl,rfl,rfl,rfl,rfl,trivial⟩ (⟨0,_,vq,mq,kq+1,cnt,xq,_,ws,v9,f9s,x9s,l9,Kk,Nat.zero_le _,rfl,rfl,hKk,hKbk,hqN,(by have h:=congrArg List.tail hxq;rw [List.tail_drop] at h;exact h),by omega,hd1,hd2,hmt,(fun i=>by rw [List.mem_filter,hks i];have h9:=(List.nodup_cons.1 hnd).1;constructor<;>intro h<;>first | (rcases List.mem_cons.1 h.1 with rfl | h8;exact absurd h.2 (by simp);exact h8) | exact ⟨List.mem_cons_of_mem _ h,by simp;intro e;subst e;exact h9 h⟩),(List.nodup_cons.1 hnd).2,(fun i hi=>hwn i (List.mem_cons_of_mem _ hi)),hsl9,hE,hW.pop,Nat.le_of_eq hM0.symm,hV9,hS⟩) ?_
   clear hS
   clear hmt hq hqN hS hW hE hV9 hks hnd hwn hd1 hd2 hxq hmq hcap hxs9 kqc hx9 hkq;rintro m lf W ⟨j,q,vq,mq,kq,cnt,xq,ks,ws9,v7,f7,x7,l7,Kj,hj,rfl,rfl,hKj,hKbj,hq,hxq,hmq,hd1,hd2,hmt,hks,hnd,hwn,hsl7,hE,hW,hM7,hV7,hS⟩
   refine aJ (aQ (cY rfl rfl rfl (aN (XF.thenN (aJ (bA rfl (fun hc=>?_) (fun hc=>?_)))))))
   ·have hc55:=of_decide_eq_true hc;clear hc
    have hkj:j < rl:=by omega
    obtain ⟨xy,hxy,hxz⟩:=(hV7.ats s).1 hsl7
    obtain ⟨fy,hfy⟩:∃ fy,f7[s]?=some fy:=⟨f7[s]'(by rw [hV7.fl];exact hsn),List.getElem?_eq_getElem _⟩
    obtain ⟨z,hz⟩:∃ z,(byT kf a.ts 0 ((s:Int),-1))[j]?=some z:=⟨_,List.getElem?_eq_getElem (by omega)⟩
    obtain ⟨tj,t9,hz1,ht9,hkt⟩:=tC.1 (List.mem_of_getElem? hz)
    rw [Nat.zero_add] at hz1;subst hz1
    have hrwW:=dQ hrw (fun p hp=>(hH hS hKj).2 p (hrw.lt p hp).1 (hrw.lt p hp).2)
    obtain ⟨b6,rfl,k6⟩:=jU hrwW (show (Bx kf a.ts ((s:Int),-1))[j]?=some (.int .i64 (tj:Int)) by rw [List.getElem?_map,hz];rfl)
    have htj:=(List.getElem?_eq_some_iff.1 ht9).1
    have hmt9:=List.mem_of_getElem? ht9
    obtain ⟨rf,rg,rt,tx⟩:=t9
    obtain ⟨tN,htt,htN⟩:=fK (htq _ hmt9)
    dsimp only at htt
    subst htt
    have hpt:=hpy _ hmt9
    obtain ⟨bt,ot,hta,hcs⟩:=htrow.at_ ht9
    have kt:=aB.agree hS.agree (Nat.zero_le _) hcs
    obtain ⟨f5,x5,hf5,hx5,hok5⟩:=hV7.at_ htN
    have hokx:OkX S (jX S bk xy (py ⟨rf,rg,(tN:Int),tx⟩)):=Jy hok (hV7.ok xy (List.mem_of_getElem? hxy)) hpt.ok
    have heM:egX kf py ⟨rf,rg,(tN:Int),tx⟩∈(egsX kf py a.ts):=List.mem_map_of_mem hmt9
    have hef:(egX kf py ⟨rf,rg,(tN:Int),tx⟩).f=s:=by show (kf _).1.toNat=s;rw [← hkt];exact Int.toNat_natCast s
    have heg:(egX kf py ⟨rf,rg,(tN:Int),tx⟩).g = -1:=by show (kf _).2 = -1;rw [← hkt]
    obtain ⟨es9,ck9,hme⟩:=hmt.blk
    have hS:=hS.markMap hme
    have hlt7:=hmt.lt
    refine bM (XF.thenN (aJ (bQ (aJ (aQ (cK  underlying26 sizeOf3 rfl rfl rfl (by omega) rfl rfl (aT isAgg3 rfl (k6) rfl (aC rfl rfl (aN (XF.thenN (aJ (aQ (aE rfl rfl (cM rfl rfl (aO (o':=9) sD rfl rfl rfl (aO (o':=15) gF rfl rfl rfl (aT isAgg27 rfl (aH (hS.at_ 0 rfl) rfl) rfl (aE rfl rfl ?_))))))))))))))))))
    refine cK (j:=tj) (b:=bt) (o:=ot) (m:=a.tl) (c:=a.tc) underlying27 sizeOf66 (by show some (Value.slice a.ta a.tl a.tc)=_;rw [hta]) rfl rfl (by omega) rfl rfl ?_
    refine aS (vs:=[_,_,_,_,_,_,_,_,_]) isAgg66 sizeOf66 rfl (kt) rfl (bB (cs:=[_,_,_,_,_,_,_,_,_]) hS zeroValue66 rfl rfl fun B4 W4 hS=>aU (i:=0) (vs:=[_,_,_,_,_,_,_,_,_]) (cs':=[_,_,_,_,_,_,_,_,_]) (O':=(_::_::_::_::_::Ot)) hS sizeOf66 rfl rfl rfl rfl rfl rfl rfl fun W5 hS=>aN (XF.thenN (aJ (aJ ?_))))
    have hb15:=Pi hS List.mem_cons_self hlt7
    refine Vn (ef:=16) (jy:=16) (ca:=pZ (fun _=>[])) (ta:=fun _=>0) (Os:=Vo _) (Gs:=tE _) (al:=[]) (k:=14) (ds:=[80,81]) cD rfl hS rfl (by kernel_rfl) (by kernel_rfl) rfl (by decide) rfl (fun _=>none) (.inr ⟨rfl,rfl,rfl⟩) rfl rfl (aW 1 rfl rfl (isV _) (fun hNo=>sgV [(0,_)] rfl rfl rfl rfl hNo (aR rfl) ⟨cF rfl,trivial⟩ (fun ev w he hw=>aY rfl) (aD rfl)) (aW 2 rfl rfl (isV _) (fun hNo=>sgV [(2,_)] rfl rfl rfl rfl hNo (aR rfl) ⟨cF rfl,trivial⟩ (fun ev w he hw=>aY rfl) (aD rfl)) (aW 3 rfl rfl (isV _) (fun hNo=>sgV [(10,_)] rfl rfl rfl rfl hNo (aR rfl) ⟨cF rfl,trivial⟩ (fun ev w he hw=>aV (o':=2) mS rfl rfl) (aD rfl)) (aW 4 rfl rfl (isV _) (fun hNo=>sgV [(68,_)] rfl rfl rfl rfl hNo (aR rfl) ⟨aL 2 (aA rfl rfl rfl),trivial⟩ (fun ev w he hw=>bC isAgg3 rfl ((aH (hw.at_ 0 rfl) rfl))) (aD rfl)) (aW 5 rfl rfl (isV _) (fun hNo=>sgV [(0,_)] rfl rfl rfl rfl hNo (aR rfl) ⟨cF rfl,trivial⟩ (fun ev w he hw=>aY rfl) (aD rfl)) (aW 6 rfl rfl (isV _) (fun hNo=>sgV [(2,_)] rfl rfl rfl rfl hNo (aR rfl) ⟨cF rfl,trivial⟩ (fun ev w he hw=>aY rfl) (aD rfl)) (aW 7 rfl rfl (isV _) (fun hNo=>sgV [(71,_)] rfl rfl rfl rfl hNo (aR rfl) ⟨aL 5 (aA rfl rfl rfl),trivial⟩ (fun ev w he hw=>cT rfl) (aD rfl)) (aW 8 rfl rfl (isV _) (fun hNo=>sgV [(72,_)] rfl rfl rfl rfl hNo (aR rfl) ⟨aL 6 (aA rfl rfl rfl),trivial⟩ (fun ev w he hw=>aV (o':=2) nS rfl rfl) (aD rfl)) (aW 9 rfl rfl (isV _) (fun hNo=>sgV [(73,_)] rfl rfl rfl rfl hNo (aR rfl) ⟨aL 7 (aA rfl rfl rfl),trivial⟩ (fun ev w he hw=>bC isAgg42 rfl ((aH (hw.at_ 2 rfl) rfl))) (aD rfl)) (aW 10 rfl rfl (isV _) (fun hNo=>sgV [(7,_)] rfl rfl rfl rfl hNo (aR rfl) ⟨cF rfl,trivial⟩ (fun ev w he hw=>aY rfl) (aD rfl)) (aW 11 rfl rfl (isV _) (fun hNo=>sgV [(74,_),(75,_)] rfl rfl rfl rfl hNo (aR rfl) ⟨aL 8 (aA rfl rfl rfl),aL 9 (aA rfl rfl rfl),trivial⟩ (fun ev w he hw=>bE (j:=s) underlying42 sizeOf44 rfl rfl (rfl) (hsn) rfl) (aD rfl)) (aW 12 rfl rfl (isV _) (fun hNo=>sgV [(76,_)] rfl rfl rfl rfl hNo (aR rfl) ⟨aL 10 (aA rfl rfl rfl),trivial⟩ (fun ev w he hw=>aX (vs:=[_,_,_,_,_,_]) isAgg44 sizeOf44 rfl ((aB.own (j:=0+s * 6) (m:=6) (hw.at_ 4 rfl) (Jg hfy)))) (aD rfl)) (aW 13 rfl rfl (isV _) (fun hNo=>sgV [(10,_)] rfl rfl rfl rfl hNo (aR rfl) ⟨cF rfl,trivial⟩ (fun ev w he hw=>aX (vs:=[_,_,_,_,_,_,_,_,_]) isAgg66 sizeOf66 rfl ((aB.own (j:=0) (m:=9) (hw.at_ 0 rfl) rfl))) (aD rfl)) ?_)))))))))))))
    refine aW 14 rfl rfl (dH W5.heap.size S (jX S bk xy (py ⟨rf,rg,(tN:Int),tx⟩))) (fun hNo=>vV [isV _,isV _,isV _] rfl rfl rfl rfl hNo Pc (aR rfl) ⟨bU (aL 4 (aA rfl rfl rfl)),bU (aL 11 (aA rfl rfl rfl)),bU (aL 12 (aA rfl rfl rfl)),trivial⟩ (fun vs ev w' he hSt hlo hh=>by
     have e:=cA (us:=[_,_,_]) hh
     subst e
     exact nK hlo (Ep S a f0 bk bm VA VX RB fy tx.f xy (py ⟨rf,rg,(tN:Int),tx⟩) rf rg (tN:Int) w' (hSt.at_ 1 rfl) (hsi.below hSt.below) hok (ht.below hSt.below) (hV7.held s fy xy hfy hxy hxz hSt (fun q hq=>List.mem_cons_of_mem _ hq)) (hpt.below hSt.below))) (aD rfl)) ?_
    refine mP ?_
    intro Bf6 y6 W6 Ks6 hsz6 hKs6 hS' hcov6
    clear hS;have hS:=hS'.castO (O':=(_::_::_::_::_::Ot)) rfl;clear hS'
    refine tM (L':=[AwS _ _ (isV _),AwS _ _ (isV _),AwS _ _ (isV _),AwS _ _ (isV _),AwS _ _ (isV _),AwS _ _ (isV _),AwS _ _ (isV _),AwS _ _ (isV _),AwS _ _ (isV _),AwS _ _ (isV _),AwS _ _ (isV _),AwS _ _ (isV _),AwS _ _ (isV _),AwS _ _ (dH W5.heap.size S (jX S bk xy (py ⟨rf,rg,(tN:Int),tx⟩)))]) rfl (bG (bG (bG (bG (bG (bG (bG (bG (bG (bG (bG (bG (bG ?_)))))))))))))
    refine dE ?_;rintro vP h8p;obtain ⟨f9,rfl,hn9⟩:=h8p.here
    have HX9:mE w0 (Ks6++Kj) (fun W2=>XIs W2 S f9 (jX S bk xy (py ⟨rf,rg,(tN:Int),tx⟩))):=fun h2 hk=>(newS hn9 h8p (hcov6 h2 (fun q hq=>hk q (List.mem_append_left _ hq))) (Nat.le_refl _)).is
    have hKs8:=hKs6
    obtain ⟨K8,hK8⟩:∃ x,x=Ks6++Kj:=⟨_,rfl⟩
    have hK98:∀ q∈Kj,q∈K8:=fun q hq=>by rw [hK8];exact List.mem_append_right _ hq
    have hKv8:∀ q∈K8,q∈Ks6++((bS,tF W bS)::Kj):=fun q hq=>by rw [hK8] at hq;rcases List.mem_append.1 hq with h | h;exact List.mem_append_left _ h;exact List.mem_append_right _ (List.mem_cons_of_mem _ h)
    have hb16:=Pi hS (List.mem_append_right Ks6 List.mem_cons_self) hlt7
    rw [← hK8] at HX9
    refine cO (fY (vs:=[_,_,_,_]) Gy rfl (Bu S a f0 bk bm VA VX RB VA IA WA n v7 f7 x7 l7 _ _ _ K8 w0 tN f9 (jX S bk xy (py ⟨rf,rg,(tN:Int),tx⟩)) x5 _ (hS.perm (Pd _ _ _ _ _ _)) hKv8 (hV7.more hK98) hn htN hx5 hsi hok ht (H0.more (fun q hq=>hK98 q (hKj q hq))) HX9 hokx) rfl ?_)
    rintro e W9 ⟨u8,l8,fs8,Kw8,rfl,hnw8,hV8,hl8,hS8⟩
    obtain ⟨K9,hK9⟩:∃ x,x=Kw8++K8:=⟨_,rfl⟩
    have hsub9:∀ q∈Kj,q∈K9:=fun q hq=>by rw [hK9];exact List.mem_append_right _ (hK98 q hq)
    rw [← hK9] at hV8
    have hKb9:∀ q∈K9,bS < q.1∨q.2.heap.size≤bS:=fun q hq=>by
     rw [hK9,hK8] at hq
     rcases List.mem_append.1 hq with h | h
     ·exact .inl (Nat.lt_of_lt_of_le hb16 (hnw8 q h))
     ·rcases List.mem_append.1 h with h | h
      ·exact .inl (Nat.lt_of_lt_of_le hb15 (hKs8 q h))
      ·exact hKbj q h
    clear hS;have hS:=(hS8.perm (Pd _ _ _ _ _ _).symm).keep ((bS,tF W bS)::K9) (fun q hq=>by
     rw [hK9,hK8] at hq
     simp only [List.mem_cons,List.mem_append] at hq ⊢
     rcases hq with h | h | h | h<;>simp [h]);clear hS8
    have hE8:=hE.step hok hV.ok hV7.ok hEo heM heg (x:=xy) (y:=x5) (by rw [hef];exact hxy) hx5
    have hsl8:s∈l8:=by rcases hl8 with ⟨_,h⟩ | h | h<;>rw [h]<;>simp [hsl7]
    have hll8:∀ i∈l7,i∈l8:=fun i hi=>by rcases hl8 with ⟨_,h⟩ | h | h<;>rw [h]<;>simp [hi]
    refine ⟨_,rfl,?_⟩
    refine fS rfl rfl (aN (XF.thenN (bA rfl (fun hc=>?_) (fun hc=>?_))))
    ·have hc81:=hc;clear hc
     have hee:bZ S x5 (jX S bk xy (py ⟨rf,rg,(tN:Int),tx⟩))=x5:=by have h9:=hc81;rw [Bool.not_not] at h9;exact nN.1 h9
     have hd8:lH S (x7.set tN (bZ S x5 (jX S bk xy (py ⟨rf,rg,(tN:Int),tx⟩))))=lH S x7:=by rw [hee,Bt hx5]
     refine eF (XF.thenX (XF.blkX (XF.thenN (aQ (cZ rfl rfl (IntWalk.i64_in _ (by omega)) rfl (aE rfl rfl (aN ?_)))))))
     exact XF.round (rl - (j+1)) [(0,_),(2,_),(3,_),(4,_),(7,_),(52,_),(53,_),(54,_)] (by omega) ⟨rfl,rfl,rfl,rfl,rfl,rfl,rfl,rfl,trivial⟩ ⟨j+1,q,vq,mq,kq,cnt,xq,ks,ws9,u8,fs8,(x7.set tN (bZ S x5 (jX S bk xy (py ⟨rf,rg,(tN:Int),tx⟩)))),l8,K9,by omega,rfl,rfl,(fun q hq=>hsub9 q (hKj q hq)),hKb9,hq,hxq,hmq,by omega,by omega,hmt.kept hS List.mem_cons_self,hks,hnd,(fun i hi=>hll8 i (hwn i hi)),hsl8,hE8,(hW.put hok hV7.ok hEo heM (by rw [hef];exact hxy) hx5 (fun i hi=>hi) (fun h=>absurd hee h)).weaken (fun e hf hd=>⟨hf,Cf hz ht9 e hd⟩),by omega,hV8,(hS.keep K9 (fun q hq=>List.mem_cons_of_mem _ hq)).tail⟩
    ·have hc81:=hc;clear hc
     have hne:bZ S x5 (jX S bk xy (py ⟨rf,rg,(tN:Int),tx⟩))≠x5:=by have h9:=hc81;rw [Bool.not_not] at h9;exact pD.1 h9
     have hd8:lH S (x7.set tN (bZ S x5 (jX S bk xy (py ⟨rf,rg,(tN:Int),tx⟩)))) < lH S x7:=Cd hok hok5 hokx hne hx5
     have htl8:tN∈l8:=(hV8.ats tN).2 ⟨_,List.getElem?_set_self (by rw [hV7.xl];exact htN),G3 hok hok5 hokx hne⟩
     have hmt8:=hmt.kept hS List.mem_cons_self
     refine bM (XF.thenN (aJ (aQ (aE rfl rfl (aO (o':=2) mS rfl rfl rfl (aT isAgg3 rfl (aH (hS.at_ 0 rfl) rfl) rfl (J0 hmt8 (by omega) zeroValue141 rfl rfl rfl (aE rfl rfl (bJ rfl rfl rfl (bJ rfl rfl rfl (bB (cs:=[]) hS zeroValue141 rfl rfl fun B7 W7 hS=>aU (i:=0) (vs:=[]) (cs':=[]) (O':=(_::_::_::_::_::_::Ot)) hS sizeOf141 rfl rfl rfl rfl rfl rfl rfl fun W8 hS=>aC rfl rfl (aN (XF.thenN (aJ (aQ (aE rfl rfl (fS rfl rfl (aN (XF.thenN (bA rfl (fun hc=>?_) (fun hc=>?_)))))))))))))))))))))
     ·have hc90:=hc;clear hc
      have hnin:tN∉ks:=by have h9:=hc90;rw [Bool.not_eq_true'] at h9;exact of_decide_eq_false h9
      have hmt9w:=hmt.kept hS List.mem_cons_self
      have hnws:tN∉ws9:=fun h=>hnin ((hks tN).2 h)
      have hS:=hS.keep K9 (fun q hq=>List.mem_cons_of_mem _ hq)
      refine aJ (aQ (aE rfl rfl (aO (o':=2) mS rfl rfl rfl (aT isAgg3 rfl (aH (hS.at_ 1 rfl) rfl) rfl (cV (us:=[]) rfl (Ph) rfl ?_)))))
      refine Ce hS hmt9w (by omega) (by simp only [maxLen];omega) hwb hKb9 rfl rfl rfl ?_
      clear hS hmt9w;intro W19 hS hmt19
      obtain ⟨es19,ck19,hme19⟩:=hmt19.blk
      have hS:=hS.markMap hme19
      refine aN (XF.thenN (aQ (aE rfl rfl (aO (o':=2) mS rfl rfl rfl (aT isAgg3 rfl (aH (hS.at_ 1 rfl) rfl) rfl (cN (us:=[(0,.int .i64 _)]) hS underlying26 sizeOf3 zeroValue3 rfl rfl rfl (hQ _) rfl fun B9 W9 hS=>?_))))))
      refine My (gi:=1) hS underlying26 Hg rfl rfl rfl rfl hq rfl rfl (hS.at_ 0 rfl) rfl (by simp only [maxLen];omega) (by show (_+1) * 8≤_;omega) rfl ?_
      clear hS;intro q9 vq9 mq9 kq9 xq9 W20 hS hq9 hxq9 hmq9 hmq99
      have hmt20:=hmt19.kept hS List.mem_cons_self
      have hS:=(hS.keep K9 (fun q hq=>List.mem_cons_of_mem _ hq)).castG (G':=⟨u8,l8.length,atC l8,3,1⟩::⟨vq9,mq9,xq9,3,1⟩::Gt) rfl
      refine aC rfl rfl (aN (XF.blkN (XF.thenN (aQ (cZ rfl rfl (IntWalk.i64_in _ (by omega)) rfl (aE rfl rfl (aN ?_)))))))
      exact XF.round (rl - (j+1)) [(0,_),(2,_),(3,_),(4,_),(7,_),(52,_),(53,_),(54,_)] (by omega) ⟨rfl,rfl,rfl,rfl,rfl,rfl,rfl,rfl,trivial⟩ ⟨j+1,q9,vq9,mq9,kq9,cnt+1,xq9,tN::ks,ws9++[tN],u8,fs8,(x7.set tN (bZ S x5 (jX S bk xy (py ⟨rf,rg,(tN:Int),tx⟩)))),l8,K9,by omega,rfl,rfl,(fun q hq=>hsub9 q (hKj q hq)),hKb9,hq9,(by rw [hxq9,hxq];simp [atC]),(by rw [hmq9,hmq,List.length_append];rfl),by omega,by omega,hmt20,(fun i=>by rw [List.mem_cons,List.mem_append,List.mem_singleton,hks i];exact Or.comm),(by rw [List.nodup_append];exact ⟨hnd,by simp,fun a ha b hb=>by simp at hb;subst hb;intro e;subst e;exact hnws ha⟩),(fun i hi=>by rcases List.mem_append.1 hi with h | h;exact hll8 i (hwn i h);simp at h;subst h;exact htl8),hsl8,hE8,(hW.put hok hV7.ok hEo heM (by rw [hef];exact hxy) hx5 (fun i hi=>List.mem_append_left _ hi) (fun _=>by simp;exact .inr rfl)).weaken (fun e hf hd=>⟨hf,Cf hz ht9 e hd⟩),(by rw [List.length_append];simp only [List.length_cons,List.length_nil];omega),hV8,hS.tail.tail.tail⟩
     ·have hc90:=hc;clear hc
      have hin:tN∈ks:=by have h9:=hc90;rw [Bool.not_eq_false'] at h9;exact of_decide_eq_true h9
      have hmt9w:=hmt.kept hS List.mem_cons_self
      refine bM (XF.blkN (XF.thenN (aQ (cZ rfl rfl (IntWalk.i64_in _ (by omega)) rfl (aE rfl rfl (aN ?_))))))
      exact XF.round (rl - (j+1)) [(0,_),(2,_),(3,_),(4,_),(7,_),(52,_),(53,_),(54,_)] (by omega) ⟨rfl,rfl,rfl,rfl,rfl,rfl,rfl,rfl,trivial⟩ ⟨j+1,q,vq,mq,kq,cnt,xq,ks,ws9,u8,fs8,(x7.set tN (bZ S x5 (jX S bk xy (py ⟨rf,rg,(tN:Int),tx⟩)))),l8,K9,by omega,rfl,rfl,(fun q hq=>hsub9 q (hKj q hq)),hKb9,hq,hxq,hmq,by omega,by omega,hmt9w,hks,hnd,(fun i hi=>hll8 i (hwn i hi)),hsl8,hE8,(hW.put hok hV7.ok hEo heM (by rw [hef];exact hxy) hx5 (fun i hi=>hi) (fun _=>(hks tN).1 hin)).weaken (fun e hf hd=>⟨hf,Cf hz ht9 e hd⟩),by omega,hV8,(hS.keep K9 (fun q hq=>List.mem_cons_of_mem _ hq)).tail.tail⟩
   ·have hc55:=of_decide_eq_false hc;clear hc
    rw [List.take_of_length_le (by omega)] at hW
    have hW:=hW.done (fun t ht=>by obtain ⟨i,h1,_⟩:=hkf t ht;exact ⟨i,h1⟩)
    refine eF (XF.thenX (XF.thenX (XF.blkX (XF.blkN ?_))))
    exact XF.round (lH S x7+ws9.length) [(0,_),(2,_),(3,_),(4,_)] (by rw [List.length_cons];omega) ⟨rfl,rfl,rfl,rfl,trivial⟩ ⟨q,vq,mq,kq,cnt,xq,ks,ws9,v7,f7,x7,l7,Kj,rfl,rfl,hKj,hKbj,hq,hxq,hmq,hd1,hd2,hmt,hks,hnd,hwn,hE,hW,hV7,hS⟩
  ·have hc38:=of_decide_eq_false hc;clear hc
   have hws:ws=[]:=List.eq_nil_of_length_eq_zero (by omega)
   subst hws
   refine eF (XF.thenX (XF.thenX (XF.blkX (XF.resN (Km results57) ?_))))
   exact ⟨v9,l9,f9s,x9s,Kk,rfl,hKk,hV9,hE,hW.closed,(hS.permG (List.Perm.swap _ _ _)).restG⟩
section
variable {S:PS} {b:Bool} {A A':PX→Prop}
theorem Fs.bind (h:S.ok) (hA':∀ x,A' x→OkX S x) {z:PX} (hz:Fs S A z) (hA:∀ x,A x→Fs S A' x):Fs S A' z:=by
 induction hz with
 | zero=>exact .zero
 | add _ h1 ih=>exact Fs.plus h hA' ih (hA _ h1)
end
def StB (S:PS) (b:Bool) (E:List Eg) (xs:List PX) (sym:Int) (s:Nat) (y:PX):Prop:=∃ e∈E,e.g=sym∧e.t=s∧∃ x,AtX xs e.f x∧y=dP S b x e.y
structure StI (S:PS) (b:Bool) (E:List Eg) (xs:List PX) (sym:Int) (n:Nat) (ys:List PX):Prop where
 len:ys.length=n
 ok:∀ x∈ys,OkX S x
 sum:∀ s z,AtX ys s z→Fs S (StB S b E xs sym s) z
def UpX (S:PS) (ys zs:List PX):Prop:=∀ s x y,AtX ys s x→AtX zs s y→LeX S x y
section
variable {S:PS} {b:Bool} {E:List Eg} {xs ys zs us:List PX} {sym:Int} {n:Nat}
theorem UpX.refl (h:S.ok) (hx:∀ x∈xs,OkX S x):UpX S xs xs:=fun s x y h1 h2=>by
 unfold AtX at h1 h2;rw [h1] at h2;cases h2;exact wL h (hx x (List.mem_of_getElem? h1))
theorem UpX.trans (h:S.ok) (h1:UpX S ys zs) (h2:UpX S zs us) (hy:∀ x∈ys,OkX S x) (hz:∀ x∈zs,OkX S x) (hu:∀ x∈us,OkX S x) (hl:zs.length=ys.length):UpX S ys us:=fun s x y hx hv=>by
 have hlt:s < zs.length:=by rw [hl];exact (List.getElem?_eq_some_iff.1 hx).1
 have hm:AtX zs s zs[s]:=List.getElem?_eq_getElem hlt
 exact eN h (hy x (List.mem_of_getElem? hx)) (hz _ (List.mem_of_getElem? hm)) (hu y (List.mem_of_getElem? hv)) (h1 s x _ hx hm) (h2 s _ y hm hv)
theorem StI.zero (n:Nat):StI S b E xs sym n (List.replicate n (bP S)):=⟨by simp,fun x hx=>by rw [(List.mem_replicate.1 hx).2];exact lS,fun s z hz=>by
 have h4:=(List.getElem?_eq_some_iff.1 hz).2
 rw [List.getElem_replicate] at h4
 rw [← h4];exact .zero⟩
theorem StI.hop (h:S.ok) (hx:∀ x∈xs,OkX S x) (hE:∀ e∈E,OkX S e.y) (hi:StI S b E xs sym n ys) {e:Eg} (he:e∈E) (hg:e.g=sym) {x:PX} (hxf:AtX xs e.f x) (ht:e.t < n) :
  StI S b E xs sym n (ys.set e.t (bZ S (ys.getD e.t (bP S)) (dP S b x e.y)))∧UpX S ys (ys.set e.t (bZ S (ys.getD e.t (bP S)) (dP S b x e.y)))∧∀ z,AtX (ys.set e.t (bZ S (ys.getD e.t (bP S)) (dP S b x e.y))) e.t z→LeX S (dP S b x e.y) z:=by
 have hlt:e.t < ys.length:=by rw [hi.len];exact ht
 have hyt:AtX ys e.t ys[e.t]:=List.getElem?_eq_getElem hlt
 have hg9:ys.getD e.t (bP S)=ys[e.t]:=by rw [List.getD_eq_getElem?_getD,List.getElem?_eq_getElem hlt];rfl
 rw [hg9]
 have hyo:=hi.ok _ (List.mem_of_getElem? hyt)
 have hxo:=hx x (List.mem_of_getElem? hxf)
 have hzo:=eB (b:=b) h hxo (hE e he)
 have hco:=jG h hyo hzo
 refine ⟨⟨by rw [List.length_set];exact hi.len,fun z hz=>?_,fun s z hz=>?_⟩,fun s v z hv hz=>?_,fun z hz=>?_⟩
 ·rcases List.mem_or_eq_of_mem_set hz with h1 | rfl
  ·exact hi.ok z h1
  ·exact hco
 ·rcases Nat.decEq s e.t with e1 | e1
  ·rw [AtX,List.getElem?_set_ne (Ne.symm e1)] at hz
   exact hi.sum s z hz
  ·subst e1
   rw [AtX,List.getElem?_set_self hlt] at hz
   cases hz
   exact .add (hi.sum _ _ hyt) ⟨e,he,hg,rfl,x,hxf,rfl⟩
 ·rcases Nat.decEq s e.t with e1 | e1
  ·rw [AtX,List.getElem?_set_ne (Ne.symm e1)] at hz
   unfold AtX at hv
   rw [hv] at hz;cases hz
   exact wL h (hi.ok _ (List.mem_of_getElem? hv))
  ·subst e1
   rw [AtX,List.getElem?_set_self hlt] at hz
   cases hz
   unfold AtX at hv hyt
   rw [hyt] at hv;cases hv
   exact mZ h hzo hyo
 ·rw [AtX,List.getElem?_set_self hlt] at hz
  cases hz
  exact sE h hzo hyo
end
section
variable {S:PS} {b:Bool} {py:TV→PX} {ts:List TV} {xs:List PX} {sym:Int} {n:Nat}
theorem J3 (h:S.ok) (hx:∀ x∈xs,OkX S x) (hp:∀ t∈ts,OkX S (py t)) (hb:∀ t∈ts,t.t.toNat < n) {s:Nat} {x:PX} (hs:AtX xs s x):∀ (js:List Int) (ys:List PX),(∀ j∈js,∃ t,ts[j.toNat]?=some t∧kSym t=((s:Int),sym))→StI S b (egsX kSym py ts) xs sym n ys →
  StI S b (egsX kSym py ts) xs sym n (mI S b py ts x js ys)∧UpX S ys (mI S b py ts x js ys)∧∀ j∈js,∀ t,ts[j.toNat]?=some t→∀ z,AtX (mI S b py ts x js ys) t.t.toNat z→LeX S (dP S b x (py t)) z
 | [],ys,_,hi=>⟨hi,UpX.refl h hi.ok,fun j hj=>by cases hj⟩
 | j::js,ys,hj,hi=>by
  obtain ⟨t,ht,hk⟩:=hj j List.mem_cons_self
  have hm:=List.mem_of_getElem? ht
  have hf:t.f=(s:Int):=congrArg Prod.fst hk
  have hg:t.g=sym:=congrArg Prod.snd hk
  have he:egX kSym py t∈egsX kSym py ts:=List.mem_map_of_mem hm
  have hE:∀ e∈egsX kSym py ts,OkX S e.y:=fun e he=>by obtain ⟨u,hu,rfl⟩:=List.mem_map.1 he;exact hp u hu
  have hfn:(egX kSym py t).f=s:=by show t.f.toNat=s;rw [hf,Int.toNat_natCast]
  obtain ⟨h1,h2,h3⟩:=StI.hop h hx hE hi he hg (x:=x) (by rw [hfn];exact hs) (hb t hm)
  have e1:mI S b py ts x (j::js) ys=mI S b py ts x js (ys.set (egX kSym py t).t (bZ S (ys.getD (egX kSym py t).t (bP S)) (dP S b x (egX kSym py t).y))):=by
   unfold mI
   rw [List.foldl_cons,ht];rfl
  rw [e1]
  obtain ⟨k1,k2,k3⟩:=J3 h hx hp hb hs js _ (fun i hi=>hj i (List.mem_cons_of_mem _ hi)) h1
  refine ⟨k1,h2.trans h k2 hi.ok h1.ok k1.ok (by rw [h1.len,hi.len]),fun i hi9 u hu z hz=>?_⟩
  rcases List.mem_cons.1 hi9 with rfl | hi9
  ·rw [ht] at hu;cases hu
   have hlt:(egX kSym py t).t < (ys.set (egX kSym py t).t (bZ S (ys.getD (egX kSym py t).t (bP S)) (dP S b x (egX kSym py t).y))).length:=by rw [h1.len];exact hb t hm
   have hmid:=List.getElem?_eq_getElem hlt
   exact eN h (eB h (hx x (List.mem_of_getElem? hs)) (hp t hm)) (h1.ok _ (List.mem_of_getElem? hmid)) (k1.ok z (List.mem_of_getElem? hz)) (h3 _ hmid) (k2 _ _ _ hmid hz)
  ·exact k3 i hi9 u hu z hz
theorem byT_sym {s:Nat}:∀ j∈byT kSym ts 0 ((s:Int),sym),∃ t,ts[j.toNat]?=some t∧kSym t=((s:Int),sym):=fun j hj=>by
 obtain ⟨m,t,h1,h2,h3⟩:=tC.1 hj
 rw [Nat.zero_add] at h1;subst h1
 exact ⟨t,by rw [Int.toNat_natCast];exact h2,h3.symm⟩
theorem J4 (h:S.ok) (hx:∀ x∈xs,OkX S x) (hp:∀ t∈ts,OkX S (py t)) (hb:∀ t∈ts,t.t.toNat < n):∀ (l:List Nat) (ys:List PX),(∀ s∈l,s < xs.length)→StI S b (egsX kSym py ts) xs sym n ys →
  StI S b (egsX kSym py ts) xs sym n (kS S b py ts xs sym l ys)∧UpX S ys (kS S b py ts xs sym l ys)∧∀ s∈l,∀ x,AtX xs s x→∀ t∈ts,kSym t=((s:Int),sym)→∀ z,AtX (kS S b py ts xs sym l ys) t.t.toNat z→LeX S (dP S b x (py t)) z
 | [],ys,_,hi=>⟨hi,UpX.refl h hi.ok,fun j hj=>by cases hj⟩
 | s::l,ys,hl,hi=>by
  have hlt:=hl s List.mem_cons_self
  have hs:AtX xs s xs[s]:=List.getElem?_eq_getElem hlt
  obtain ⟨h1,h2,h3⟩:=J3 h hx hp hb hs (byT kSym ts 0 ((s:Int),sym)) ys byT_sym hi
  have e1:kS S b py ts xs sym (s::l) ys=kS S b py ts xs sym l (mI S b py ts xs[s] (byT kSym ts 0 ((s:Int),sym)) ys):=by
   show List.foldl _ _ _=_
   unfold kS
   rw [List.foldl_cons,List.getD_eq_getElem?_getD,List.getElem?_eq_getElem hlt];rfl
  rw [e1]
  obtain ⟨k1,k2,k3⟩:=J4 h hx hp hb l _ (fun i hi=>hl i (List.mem_cons_of_mem _ hi)) h1
  refine ⟨k1,h2.trans h k2 hi.ok h1.ok k1.ok (by rw [h1.len,hi.len]),fun i hi9 x hxi t ht hk z hz=>?_⟩
  rcases List.mem_cons.1 hi9 with rfl | hi9
  ·unfold AtX at hxi hs
   rw [hs] at hxi;cases hxi
   obtain ⟨m,hm⟩:=List.getElem?_of_mem ht
   have hj:((m:Nat):Int)∈byT kSym ts 0 ((i:Int),sym):=tC.2 ⟨m,t,by rw [Nat.zero_add],hm,hk.symm⟩
   have hlt2:t.t.toNat < (mI S b py ts xs[i] (byT kSym ts 0 ((i:Int),sym)) ys).length:=by rw [h1.len];exact hb t ht
   have hmid:=List.getElem?_eq_getElem hlt2
   exact eN h (eB h (hx _ (List.getElem_mem hlt)) (hp t ht)) (h1.ok _ (List.mem_of_getElem? hmid)) (k1.ok z (List.mem_of_getElem? hz)) (h3 _ hj t (by rw [Int.toNat_natCast];exact hm) _ hmid) (k2 _ _ _ hmid hz)
  ·exact k3 i hi9 x hxi t ht hk z hz
structure InN (n:Nat) (ts:List TV):Prop where
 f:∀ t∈ts,∃ i:Nat,t.f=(i:Int)∧i < n
 t:∀ t∈ts,∃ i:Nat,t.t=(i:Int)∧i < n
theorem InN.tn {t:TV} (h:InN n ts) (ht:t∈ts):t.t.toNat < n:=by obtain ⟨i,h1,h2⟩:=h.t t ht;rw [h1,Int.toNat_natCast];exact h2
theorem InN.fn {t:TV} (h:InN n ts) (ht:t∈ts):t.f.toNat < n:=by obtain ⟨i,h1,h2⟩:=h.f t ht;rw [h1,Int.toNat_natCast];exact h2
theorem lI {kf:TV→Int×Int} (hp:∀ t∈ts,OkX S (py t)):∀ e∈egsX kf py ts,OkX S e.y:=fun e he=>by obtain ⟨u,hu,rfl⟩:=List.mem_map.1 he;exact hp u hu
theorem yH {E:List Eg} {p:Nat} {ys:List PX} (h:S.ok) (hE:∀ e∈E,OkX S e.y) (hb:∀ e∈E,e.f < n∧e.t < n) (hp:p < n) (he:Eps S b E ((List.replicate n (bP S)).set p (jW S)) ys) (hyo:∀ x∈ys,OkX S x) (hc:xQ S b E ys):Full S b E p [] ys:=by
 have hl:ys.length=n:=by rw [he.len];simp
 refine Pf h hE hyo hl hb hc (fun s x hx=>he.sum (Pth S b E p [] ) (fun s x hx=>hx.ok h hE) (fun e he hg x hx=>.eps hx he rfl hg) (fun s x hx=>?_) s x hx) (fun _ x hx=>?_) (fun v q x e _ _ _ h1=>by simp at h1)
 ·rcases Nat.decEq s p with e | rfl
  ·rw [AtX,List.getElem?_set_ne (Ne.symm e)] at hx
   have h4:=(List.getElem?_eq_some_iff.1 hx).2
   rw [List.getElem_replicate] at h4
   rw [← h4];exact .zero
  ·rw [AtX,List.getElem?_set_self (by simp;exact hp)] at hx
   cases hx
   exact Fs.one .nil (mL h)
 ·exact he.up p _ x (by rw [AtX,List.getElem?_set_self (by simp;exact hp)]) hx
theorem Mz {p:Nat} {u:List Int} {ys:List PX} {l:List Nat} (h:S.ok) (hp:∀ t∈ts,OkX S (py t)) (hn:InN n ts) (hf:Full S b (egsX kSym py ts) p u xs) (hxo:∀ x∈xs,OkX S x) (hxl:xs.length=n) (hl:∀ i,i∈l↔∃ x,xs[i]?=some x∧x≠bP S) (hsy:sym ≠ -1)
  (he:Eps S b (egsX kSym py ts) (kS S b py ts xs sym l (List.replicate n (bP S))) ys) (hyo:∀ x∈ys,OkX S x) (hc:xQ S b (egsX kSym py ts) ys):Full S b (egsX kSym py ts) p (u++[sym]) ys:=by
 have hE:=lI (kf:=kSym) hp
 have hb:∀ e∈egsX kSym py ts,e.f < n∧e.t < n:=fun e he=>by
  obtain ⟨t,ht,rfl⟩:=List.mem_map.1 he
  exact ⟨hn.fn ht,hn.tn ht⟩
 obtain ⟨h1,h2,h3⟩:=J4 (sym:=sym) (b:=b) h hxo hp (fun t ht=>hn.tn ht) l (List.replicate n (bP S)) (fun s hs=>by obtain ⟨x,h9,_⟩:=(hl s).1 hs;exact (List.getElem?_eq_some_iff.1 h9).1) (StI.zero n)
 have hly:ys.length=n:=by rw [he.len];exact h1.len
 refine Pf h hE hyo hly hb hc (fun s x hx=>he.sum (Pth S b (egsX kSym py ts) p (u++[sym])) (fun s x hx=>hx.ok h hE) (fun e he hg x hx=>.eps hx he rfl hg) (fun s x hx=>?_) s x hx) (fun h9=>by simp at h9) (fun v q x e he9 hq hg hv hpth z hz=>?_)
 ·refine Fs.bind h (fun x hx=>hx.ok h hE) (h1.sum s x hx) ?_
  rintro y ⟨e,he9,hg,rfl,x9,hx9,rfl⟩
  refine Fs.extL h (fun x hx=>hx.ok h hE) (hE e he9) (hf.sum _ _ hx9) (fun v hv=>?_)
  rw [← hg]
  exact .sym hv he9 rfl (by rw [hg];exact hsy)
 ·obtain ⟨rfl,h9⟩:=List.append_inj' hv rfl
  have h9:sym=e.g:=by simpa using h9
  subst h9
  obtain ⟨t,ht,rfl⟩:=List.mem_map.1 he9
  obtain ⟨i,hi,hin⟩:=hn.f t ht
  have hfi:(egX kSym py t).f=i:=by show t.f.toNat=i;rw [hi,Int.toNat_natCast]
  have hlt:(egX kSym py t).f < xs.length:=by rw [hfi,hxl];exact hin
  have hx9:AtX xs (egX kSym py t).f xs[(egX kSym py t).f]:=List.getElem?_eq_getElem hlt
  have hle:LeX S x xs[(egX kSym py t).f]:=hf.top (egX kSym py t).f _ x hx9 (by rw [hq];exact hpth)
  have hlt2:t.t.toNat < (kS S b py ts xs (egX kSym py t).g l (List.replicate n (bP S))).length:=by rw [h1.len];exact hn.tn ht
  have hmid:=List.getElem?_eq_getElem hlt2
  have hxe:=hxo _ (List.getElem_mem hlt)
  have hmo:=h1.ok _ (List.mem_of_getElem? hmid)
  have hz0:=hyo z (List.mem_of_getElem? hz)
  have hpt:=hp t ht
  have key:LeX S (dP S b xs[(egX kSym py t).f] (py t)) (kS S b py ts xs (egX kSym py t).g l (List.replicate n (bP S)))[t.t.toNat]:=by
   by_cases hzz:xs[(egX kSym py t).f]=bP S
   ·have h8:LeX S (dP S b xs[(egX kSym py t).f] (py t)) (kS S b py ts xs (egX kSym py t).g l (List.replicate n (bP S)))[t.t.toNat]:=by
     rw [hzz,Wr hpt];exact wM hmo
    exact h8
   ·refine h3 (egX kSym py t).f ((hl _).2 ⟨_,hx9,hzz⟩) _ hx9 t ht ?_ _ hmid
    show (t.f,t.g)=_
    rw [hfi,hi];rfl
  have hm1:=qH (b:=b) h (hpth.ok h hE) hxe hpt hle
  have hxo9:=hpth.ok h hE
  exact eN h (eB h hxo9 hpt) (eB h hxe hpt) hz0 hm1 (eN h (eB h hxe hpt) hmo hz0 key (he.up _ _ _ hmid hz))
theorem Pj {E:List Eg} {p:Nat} {u:List Int} (h:S.ok) (hE:∀ e∈E,OkX S e.y) (hf:Full S b E p u xs) (hxo:∀ x∈xs,OkX S x) (fs:List Int) (hq:∀ s∈fs,s.toNat < xs.length):LubX S (xP S b E (fs.map Int.toNat) p u) (wK S xs fs):=by
 have hok:=Gz (b:=b) (F:=fs.map Int.toNat) (p:=p) (u:=u) h hE
 constructor
 ·unfold wK
  have:∀ (l:List Int) (z:PX),(∀ s∈l,s∈fs)→Fs S (xP S b E (fs.map Int.toNat) p u) z→Fs S (xP S b E (fs.map Int.toNat) p u) (l.foldl (fun z s=>bZ S z (xs.getD s.toNat (bP S))) z):=by
   intro l
   induction l with
   | nil=>intro z _ hz;exact hz
   | cons s l ih =>
    intro z hl hz
    refine ih _ (fun i hi=>hl i (List.mem_cons_of_mem _ hi)) (Fs.plus h hok hz ?_)
    have hs:=hl s List.mem_cons_self
    have hlt:=hq s hs
    rw [List.getD_eq_getElem?_getD,List.getElem?_eq_getElem hlt]
    exact (hf.sum s.toNat _ (List.getElem?_eq_getElem hlt)).mono fun x hx=>⟨_,List.mem_map_of_mem hs,hx⟩
  exact this fs _ (fun s hs=>hs) .zero
 ·rintro x ⟨q,hqm,hx⟩
  obtain ⟨s,hs,rfl⟩:=List.mem_map.1 hqm
  have hlt:=hq s hs
  have h1:=hf.top _ _ x (List.getElem?_eq_getElem hlt) hx
  have hxo1:=hx.ok h hE
  have hso:=hxo _ (List.getElem_mem hlt)
  have:∀ (l:List Int) (z:PX),(∀ s∈l,s∈fs)→OkX S z→(LeX S x z∨s∈l)→LeX S x (l.foldl (fun z s=>bZ S z (xs.getD s.toNat (bP S))) z):=by
   intro l
   induction l with
   | nil=>intro z _ _ hz;exact hz.resolve_right (by simp)
   | cons r l ih =>
    intro z hl hz hc
    have hr:=hl r List.mem_cons_self
    have hltr:=hq r hr
    have hg:xs.getD r.toNat (bP S)=xs[r.toNat]:=by rw [List.getD_eq_getElem?_getD,List.getElem?_eq_getElem hltr];rfl
    have hro:=hxo _ (List.getElem_mem hltr)
    have hco:OkX S (bZ S z (xs.getD r.toNat (bP S))):=by rw [hg];exact jG h hz hro
    refine ih _ (fun i hi=>hl i (List.mem_cons_of_mem _ hi)) hco ?_
    rcases hc with hc | hc
    ·refine .inl (eN h hxo1 hz hco hc ?_)
     show LeX S z (bZ S z (xs.getD r.toNat (bP S)))
     rw [hg];exact mZ h hro hz
    ·rcases List.mem_cons.1 hc with rfl | hc
     ·refine .inl (eN h hxo1 hso hco h1 ?_)
      show LeX S _ (bZ S z (xs.getD s.toNat (bP S)))
      rw [hg];exact sE h hso hz
     ·exact .inr hc
  exact this fs _ (fun s hs=>hs) lS (.inr hs)
end
theorem Cg {S:PS} (h:S.ok):Iv S≤4194304:=by
 cases S with
 | one t n =>
  have h1:=uL (l:=0) h
  show oY t n≤4194304;omega
 | two t n u m =>
  have h1:=uL (l:=0) h.1
  have h2:=uL (l:=0) h.2
  show oY t n+oY u m≤4194304;omega
structure AutoOk (w:World) (S:PS) (py:TV→PX) (n:Nat) (a:AV):Prop where
 ok:S.ok
 si:SIs w S a.s.f
 st:a.st=(n:Int)
 n4:n≤4096
 frow:Row w a.fa a.fs
 flen:a.fs.length=a.fl
 fmax:a.fl≤9223372036854775807
 trow:nO w a.ta a.ts
 tlen:a.ts.length=a.tl
 tl:a.tl≤65536
 fq:∀ s∈a.fs,inQ s (n:Int)=true
 tf:∀ t∈a.ts,inQ t.f (n:Int)=true
 tt:∀ t∈a.ts,inQ t.t (n:Int)=true
 tg:∀ t∈a.ts,-1≤t.g∧t.g < a.sy
 sy:0≤a.sy∧a.sy≤4096
 px:∀ t∈a.ts,XIs w S t.x.f (py t)
theorem AutoOk.below {w w':World} {S:PS} {py:TV→PX} {n:Nat} {a:AV} (h:AutoOk w S py n a) (hb:Below w.heap.size w w'):AutoOk w' S py n a :=
 ⟨h.ok,h.si.below hb,h.st,h.n4,h.frow.below hb,h.flen,h.fmax,h.trow.below hb,h.tlen,h.tl,h.fq,h.tf,h.tt,h.tg,h.sy,fun t ht=>(h.px t ht).below hb⟩
theorem AutoOk.inN {w:World} {S:PS} {py:TV→PX} {n:Nat} {a:AV} (h:AutoOk w S py n a):InN n a.ts:=⟨fun t ht=>fK (h.tf t ht),fun t ht=>fK (h.tt t ht)⟩
theorem AutoOk.py {w:World} {S:PS} {py:TV→PX} {n:Nat} {a:AV} (h:AutoOk w S py n a):∀ t∈a.ts,OkX S (py t):=fun t ht=>(h.px t ht).ok
theorem AutoOk.ky {w:World} {S:PS} {py:TV→PX} {n:Nat} {a:AV} (h:AutoOk w S py n a):∀ t∈a.ts,(0≤t.f∧t.f≤1000000)∧(-1≤t.g∧t.g≤1000000):=fun t ht=>by
 obtain ⟨i,h1,h2⟩:=fK (h.tf t ht)
 have h3:=h.tg t ht
 have h4:=h.sy
 have h5:=h.n4
 omega
theorem AutoOk.kf {w:World} {S:PS} {py:TV→PX} {n:Nat} {a:AV} (h:AutoOk w S py n a) (kf:TV→Int×Int) (hk:∀ t,(kf t).1=t.f):∀ t∈a.ts,∃ s:Nat,(kf t).1=(s:Int)∧s < n:=fun t ht=>by
 rw [hk t];exact fK (h.tf t ht)
theorem AutoOk.eb {w:World} {S:PS} {py:TV→PX} {n:Nat} {a:AV} (h:AutoOk w S py n a) (kf:TV→Int×Int) (hk:∀ t,(kf t).1=t.f):∀ e∈egsX kf py a.ts,e.f < n∧e.t < n:=fun e he=>by
 obtain ⟨t,ht,rfl⟩:=List.mem_map.1 he
 refine ⟨?_,h.inN.tn ht⟩
 show (kf t).1.toNat < n
 rw [hk t];exact h.inN.fn ht
theorem finB_in {st:Int} {fs:List Int} (h:Ml st fs=true):∀ s∈fs,inQ s st=true:=fun s hs=>by
 obtain ⟨i,hi⟩:=List.getElem?_of_mem hs
 have h1:=List.all_eq_true.1 h i (List.mem_range.2 (List.getElem?_eq_some_iff.1 hi).1)
 unfold nP at h1
 rw [wA hi,Bool.and_eq_true] at h1
 exact h1.1
theorem R5 {w:World} {ds d:Nat} {a:AV} (h:AIn w ds d a) (hE:fA a=0):∃ S py n,AutoOk w S py n a:=by
 unfold fA at hE
 by_cases h1:dW a.s≠0
 ·rw [if_pos h1] at hE;exact absurd hE h1
 rw [if_neg h1] at hE
 have h1:dW a.s=0:=Decidable.of_not_not h1
 by_cases h2:65536 < a.tl
 ·rw [if_pos h2] at hE;cases hE
 rw [if_neg h2] at hE
 by_cases h3:dI a.st a.sy a.fs a.ts=false
 ·rw [if_pos h3] at hE;cases hE
 rw [if_neg h3] at hE
 by_cases h4:¬ a.ts.all (fun t=>decide (lT a.s t.x=0))=true
 ·rw [if_neg h4] at hE;cases hE
 have h4:a.ts.all (fun t=>decide (lT a.s t.x=0))=true:=Decidable.of_not_not h4
 have h3:dI a.st a.sy a.fs a.ts=true:=by simpa using h3
 unfold dI at h3
 by_cases h5:a.st < 0∨4096 < a.st∨a.sy < 0∨4096 < a.sy
 ·rw [if_pos h5] at h3;cases h3
 rw [if_neg h5,Bool.and_eq_true] at h3
 obtain ⟨n,hn⟩:∃ n:Nat,a.st=(n:Int):=⟨a.st.toNat,by omega⟩
 obtain ⟨S,hok,hsi,hx⟩:=I5 h.s h1
 have hw:∀ t∈a.ts,∃ y,XIs w S t.x.f y:=fun t ht=>by
  have h6:=of_decide_eq_true (List.all_eq_true.1 h4 t ht)
  refine hx t.x d (h.tin t ht) ?_
  unfold lT at h6
  rw [if_pos h1] at h6
  by_cases h7:okW a.s t.x=true
  ·exact h7
  ·rw [if_neg h7] at h6;cases h6
 have htr:∀ t∈a.ts,inQ t.f a.st=true∧inQ t.t a.st=true ∧ -1≤t.g∧t.g < a.sy:=fun t ht=>by
  have h6:=List.all_eq_true.1 h3.2 t ht
  unfold trB at h6
  simp only [Bool.and_eq_true,decide_eq_true_eq] at h6
  exact h6
 have hcl:=fun t:TV=>Classical.propDecidable (∃ y,XIs w S t.x.f y)
 refine ⟨S,fun t=>@dite _ (∃ y,XIs w S t.x.f y) (hcl t) (fun h9=>h9.choose) (fun _=>bP S),n,hok,hsi,hn,by omega,h.frow,h.flen,h.fmax,h.trow,h.tlen,by omega,?_,?_,?_,?_,by omega,?_⟩
 ·rw [← hn];exact finB_in h3.1
 ·rw [← hn];exact fun t ht=>(htr t ht).1
 ·rw [← hn];exact fun t ht=>(htr t ht).2.1
 ·exact fun t ht=>(htr t ht).2.2
 ·intro t ht
  rw [dif_pos (hw t ht)]
  exact (hw t ht).choose_spec
theorem kU {a:AV} {fr ws:List Int} (h:eM a fr ws=0):fA a=0∧(∀ y∈fr,inQ y a.st=true)∧∀ y∈ws,inQ y a.sy=true:=by
 unfold eM at h
 by_cases h1:fA a≠0
 ·rw [if_pos h1] at h;exact absurd h h1
 rw [if_neg h1] at h
 by_cases h2:¬ fr.all (fun y=>inQ y a.st)=true
 ·rw [if_neg h2] at h;cases h
 have h2:fr.all (fun y=>inQ y a.st)=true:=Decidable.of_not_not h2
 rw [if_pos h2] at h
 by_cases h3:¬ ws.all (fun y=>inQ y a.sy)=true
 ·rw [if_neg h3] at h;cases h
 have h3:ws.all (fun y=>inQ y a.sy)=true:=Decidable.of_not_not h3
 exact ⟨Decidable.of_not_not h1,fun y hy=>List.all_eq_true.1 h2 y hy,fun y hy=>List.all_eq_true.1 h3 y hy⟩
theorem wO {a:AV} {fr ws:List Int} (h:eM a fr ws=0):eM a fr []=0:=by
 obtain ⟨h1,h2,_⟩:=kU h
 unfold eM
 rw [if_neg (fun h=>h h1),if_pos (List.all_eq_true.2 h2),if_pos (show ([]:List Int).all _=true from rfl)]
theorem Pk {a:AV} {fr ws:List Int} (h1:fA a=0) (h2:∀ y∈fr,inQ y a.st=true) (h3:∀ y∈ws,inQ y a.sy=true):eM a fr ws=0:=by
 unfold eM
 rw [if_neg (fun h=>h h1),if_pos (List.all_eq_true.2 h2),if_pos (List.all_eq_true.2 h3)]
theorem R6 {a:AV} {fr ws:List Int} (h:eM a fr []≠0):eM a fr ws=eM a fr []:=by
 unfold eM at h ⊢
 by_cases h1:fA a≠0
 ·rw [if_pos h1,if_pos h1]
 rw [if_neg h1] at h ⊢
 rw [if_neg h1]
 by_cases h2:fr.all (fun y=>inQ y a.st)=true
 ·rw [if_pos h2,if_pos (show ([]:List Int).all _=true from rfl)] at h;exact absurd rfl h
 ·rw [if_neg h2,if_neg h2]
theorem Et {a:AV} {fr ws:List Int} (h:eM a fr []=0) (h2:ws.all (fun y=>inQ y a.sy)=false):eM a fr ws=102:=by
 obtain ⟨h1,h3,_⟩:=kU h
 unfold eM
 rw [if_neg (fun h=>h h1),if_pos (List.all_eq_true.2 h3),if_neg (by rw [h2];decide)]
theorem perm33 {α:Type} (x a b c d e f:α) (l:List α):(x::a::b::c::d::e::f::l).Perm (x::d::e::f::a::b::c::l):=by
 refine List.Perm.cons x ?_
 have h:([a,b,c]++[d,e,f]).Perm ([d,e,f]++[a,b,c]):=List.perm_append_comm
 exact h.append_right l
theorem Wv {α:Type} (x a b c d e f:α) (l:List α):(a::b::c::d::e::f::x::l).Perm (x::a::b::c::d::e::f::l):=List.perm_middle (l₁:=[a,b,c,d,e,f])
def AcB (S:PS) (b:Bool) (E:List Eg) (F:List Nat) (u:List Int) (s:Nat) (x:PX):Prop:=∃ q∈F,Ptb S b E q u s x
structure FullB (S:PS) (b:Bool) (E:List Eg) (F:List Nat) (u:List Int) (xs:List PX):Prop where
 sum:∀ s x,AtX xs s x→Fs S (AcB S b E F u s) x
 top:∀ s x y,AtX xs s x→AcB S b E F u s y→LeX S y x
structure EpB (S:PS) (b:Bool) (E:List Eg) (xs ys:List PX):Prop where
 len:ys.length=xs.length
 up:∀ s x y,AtX xs s x→AtX ys s y→LeX S x y
 sum:∀ A:Nat→PX→Prop,(∀ s x,A s x→OkX S x)→(∀ e∈E,e.g = -1→∀ x,A e.t x→A e.f (dP S b e.y x))→(∀ s x,AtX xs s x→Fs S (A s) x)→∀ s y,AtX ys s y→Fs S (A s) y
def ClB (S:PS) (b:Bool) (E:List Eg) (ys:List PX):Prop:=∀ e∈E,e.g = -1→∀ x y,AtX ys e.t x→AtX ys e.f y→LeX S (dP S b e.y x) y
section
variable {S:PS} {b:Bool} {E:List Eg} {F:List Nat} {n:Nat} {u:List Int} {xs ys zs:List PX}
theorem G4 (h:S.ok) (hE:∀ e∈E,OkX S e.y):∀ s x,AcB S b E F u s x→OkX S x:=fun s x ⟨q,_,hp⟩=>hp.ok h hE
theorem EpB.refl (h:S.ok) (hx:∀ x∈xs,OkX S x):EpB S b E xs xs:=⟨rfl,UpX.refl h hx,fun A _ _ h3=>h3⟩
theorem EpB.step (h:S.ok) (hx:∀ x∈xs,OkX S x) (hy:∀ x∈ys,OkX S x) (hE:∀ e∈E,OkX S e.y) (h1:EpB S b E xs ys) {e:Eg} (he:e∈E) (hg:e.g = -1) {x y:PX} (hxt:AtX ys e.t x) (hyf:AtX ys e.f y):EpB S b E xs (ys.set e.f (bZ S y (dP S b e.y x))):=by
 have hxo:=hy x (List.mem_of_getElem? hxt)
 have hyo:=hy y (List.mem_of_getElem? hyf)
 have hlt:=(List.getElem?_eq_some_iff.1 hyf).1
 have hzo:=eB (b:=b) h (hE e he) hxo
 refine ⟨by rw [List.length_set];exact h1.len,fun s v z hv hz=>?_,fun A hA hc hs s z hz=>?_⟩
 ·rcases Nat.decEq s e.f with e1 | e1
  ·rw [AtX,List.getElem?_set_ne (Ne.symm e1)] at hz
   exact h1.up s v z hv hz
  ·subst e1
   rw [AtX,List.getElem?_set_self hlt] at hz
   cases hz
   have h2:=h1.up _ v y hv hyf
   exact eN h (hx v (List.mem_of_getElem? hv)) hyo (jG h hyo hzo) h2 (mZ h hzo hyo)
 ·rcases Nat.decEq s e.f with e1 | e1
  ·rw [AtX,List.getElem?_set_ne (Ne.symm e1)] at hz
   exact h1.sum A hA hc hs s z hz
  ·subst e1
   rw [AtX,List.getElem?_set_self hlt] at hz
   cases hz
   exact Fs.plus h (hA _) (h1.sum A hA hc hs _ y hyf) (Fs.extR h (hA _) (hE e he) (h1.sum A hA hc hs _ x hxt) (fun v hv=>hc e he hg v hv))
theorem J5 (h:S.ok) (hE:∀ e∈E,OkX S e.y) (hyo:∀ x∈ys,OkX S x) (hn:ys.length=n) (hb:∀ e∈E,e.f < n∧e.t < n) (hc:ClB S b E ys) (hs:∀ s x,AtX ys s x→Fs S (AcB S b E F u s) x)
  (hnil:u=[]→∀ q∈F,∀ x,AtX ys q x→LeX S (jW S) x) (hsym:∀ v q x (e:Eg),e∈E→e.g ≠ -1→u=e.g::v→q∈F→Ptb S b E q v e.t x→∀ z,AtX ys e.f z→LeX S (dP S b e.y x) z):FullB S b E F u ys:=by
 refine ⟨hs,fun s x y hx ⟨q,hq,hp⟩=>?_⟩
 have key:∀ {v s y},Ptb S b E q v s y→v=u→∀ x,AtX ys s x→LeX S y x:=by
  intro v s y hp
  induction hp with
  | nil=>intro hv x hx;exact hnil hv.symm q hq x hx
  | @eps v s y e h0 h1 h2 h3 ih =>
   intro hv x hx
   have hlt:e.t < ys.length:=by rw [hn];exact (hb e h1).2
   have hxt:AtX ys e.t ys[e.t]:=List.getElem?_eq_getElem hlt
   have h4:=ih hv ys[e.t] (by unfold AtX;rw [← h2];exact hxt)
   have ho:=hyo _ (List.getElem_mem hlt)
   exact eN h (eB h (hE e h1) (h0.ok h hE)) (eB h (hE e h1) ho) (hyo x (List.mem_of_getElem? hx)) (Cc h (h0.ok h hE) ho (hE e h1) h4) (hc e h1 h3 _ x hxt hx)
  | @sym v s y e h0 h1 h2 h3 ih =>
   intro hv x hx
   exact hsym v q y e h1 h3 hv.symm hq (by rw [h2];exact h0) x hx
 exact key hp rfl x hx
theorem yI {fs:List Int} (h:S.ok) (hE:∀ e∈E,OkX S e.y) (hb:∀ e∈E,e.f < n∧e.t < n) (hf:∀ s∈fs,0≤s) (he:EpB S b E (kW S fs n) ys) (hyo:∀ x∈ys,OkX S x) (hc:ClB S b E ys):FullB S b E (fs.map Int.toNat) [] ys:=by
 have hat:∀ s x,AtX (kW S fs n) s x→x=if Bp fs (s:Int) then jW S else bP S:=fun s x hx=>by
  unfold AtX kW at hx
  rw [List.getElem?_map] at hx
  have h9:=(List.getElem?_eq_some_iff.1 (show ((List.range n).map _)[s]?=some x by rw [List.getElem?_map];exact hx)).1
  simp at h9
  rw [List.getElem?_range h9] at hx
  simp at hx
  exact hx.symm
 have hl:ys.length=n:=by rw [he.len];simp [kW]
 refine J5 h hE hyo hl hb hc (fun s x hx=>he.sum (AcB S b E (fs.map Int.toNat) []) (G4 h hE) (fun e he hg x ⟨q,hq,hx⟩=>⟨q,hq,.eps hx he rfl hg⟩) (fun s x hx=>?_) s x hx) (fun _ q hq x hx=>?_) (fun v q x e _ _ h1=>by simp at h1)
 ·rw [hat s x hx]
  split
  ·rename_i hfin
   refine Fs.one ⟨s,?_,.nil⟩ (mL h)
   obtain ⟨y,hy,hys⟩:=List.any_eq_true.1 hfin
   have hys:y=(s:Int):=by simpa using hys
   exact List.mem_map.2 ⟨y,hy,by rw [hys,Int.toNat_natCast]⟩
  ·exact .zero
 ·obtain ⟨s,hs,rfl⟩:=List.mem_map.1 hq
  have hlt:s.toNat < (kW S fs n).length:=by rw [← he.len];exact (List.getElem?_eq_some_iff.1 hx).1
  have hm:AtX (kW S fs n) s.toNat (kW S fs n)[s.toNat]:=List.getElem?_eq_getElem hlt
  have h1:=hat _ _ hm
  have hfin:Bp fs ((s.toNat:Nat):Int)=true:=List.any_eq_true.2 ⟨s,hs,by have:=hf s hs;simp;omega⟩
  rw [if_pos hfin] at h1
  have h2:=he.up _ _ x hm hx
  rw [h1] at h2
  exact h2
end
section
variable {S:PS} {b:Bool} {py:TV→PX} {ts:List TV} {F:List Nat} {n:Nat} {u:List Int} {xs ys:List PX} {sym:Int}
def RsB (S:PS) (b:Bool) (E:List Eg) (xs:List PX) (sym:Int) (s:Nat) (y:PX):Prop:=∃ e∈E,e.g=sym∧e.f=s∧∃ x,AtX xs e.t x∧y=dP S b e.y x
theorem J6 (h:S.ok) (hx:∀ x∈xs,OkX S x) (hxl:xs.length=n) (hp:∀ t∈ts,OkX S (py t)) (hn:InN n ts):∀ (l:List TV) (acc:List PX),(∀ t∈l,t∈ts)→acc.length=n→(∀ x∈acc,OkX S x)→(∀ s z,AtX acc s z→Fs S (RsB S b (egsX kSym py ts) xs sym s) z) →
  (∀ x∈l.foldl (fun acc t=>stepF S b sym xs acc t.f t.g t.t (py t)) acc,OkX S x)∧(∀ s z,AtX (l.foldl (fun acc t=>stepF S b sym xs acc t.f t.g t.t (py t)) acc) s z→Fs S (RsB S b (egsX kSym py ts) xs sym s) z)∧UpX S acc (l.foldl (fun acc t=>stepF S b sym xs acc t.f t.g t.t (py t)) acc)∧∀ t∈l,t.g=sym→∀ x,AtX xs t.t.toNat x→∀ z,AtX (l.foldl (fun acc t=>stepF S b sym xs acc t.f t.g t.t (py t)) acc) t.f.toNat z→LeX S (dP S b (py t) x) z
 | [],acc,_,_,ho,hs=>⟨ho,hs,UpX.refl h ho,fun t ht=>by cases ht⟩
 | t::l,acc,hl,hal,ho,hs=>by
  have hm:=hl t List.mem_cons_self
  have hft:=hn.fn hm
  have htt:=hn.tn hm
  have hxt:AtX xs t.t.toNat xs[t.t.toNat]:=List.getElem?_eq_getElem (by rw [hxl];exact htt)
  have hac:AtX acc t.f.toNat acc[t.f.toNat]:=List.getElem?_eq_getElem (by rw [hal];exact hft)
  have hxo:=hx _ (List.mem_of_getElem? hxt)
  have hao:=ho _ (List.mem_of_getElem? hac)
  have hpo:=hp t hm
  have hzo:=eB (b:=b) h hpo hxo
  have hE:=lI (kf:=kSym) hp
  have hRo:∀ s x,RsB S b (egsX kSym py ts) xs sym s x→OkX S x:=fun s x ⟨e,he,_,_,y,hy,e9⟩=>by rw [e9];exact eB h (hE e he) (hx y (List.mem_of_getElem? hy))
  obtain ⟨acc2,h2⟩:∃ a,a=stepF S b sym xs acc t.f t.g t.t (py t):=⟨_,rfl⟩
  have hstep:acc2.length=n∧(∀ x∈acc2,OkX S x)∧(∀ s z,AtX acc2 s z→Fs S (RsB S b (egsX kSym py ts) xs sym s) z)∧UpX S acc acc2∧(t.g=sym→∀ x,AtX xs t.t.toNat x→∀ z,AtX acc2 t.f.toNat z→LeX S (dP S b (py t) x) z):=by
   by_cases hg:t.g=sym
   ·have e2:acc2=acc.set t.f.toNat (bZ S acc[t.f.toNat] (dP S b (py t) xs[t.t.toNat])):=by
     rw [h2];unfold stepF
     rw [if_pos hg,List.getD_eq_getElem?_getD,List.getD_eq_getElem?_getD,hac,hxt];rfl
    rw [e2]
    refine ⟨by rw [List.length_set];exact hal,fun x hx9=>?_,fun s z hz=>?_,fun s v z hv hz=>?_,fun _ x hx9 z hz=>?_⟩
    ·rcases List.mem_or_eq_of_mem_set hx9 with h1 | rfl
     ·exact ho x h1
     ·exact jG h hao hzo
    ·rcases Nat.decEq s t.f.toNat with e1 | rfl
     ·rw [AtX,List.getElem?_set_ne (Ne.symm e1)] at hz;exact hs s z hz
     ·rw [AtX,List.getElem?_set_self (by rw [hal];exact hft)] at hz
      cases hz
      exact .add (hs _ _ hac) ⟨egX kSym py t,List.mem_map_of_mem hm,hg,rfl,_,hxt,rfl⟩
    ·rcases Nat.decEq s t.f.toNat with e1 | rfl
     ·rw [AtX,List.getElem?_set_ne (Ne.symm e1)] at hz
      unfold AtX at hv;rw [hv] at hz;cases hz
      exact wL h (ho v (List.mem_of_getElem? hv))
     ·rw [AtX,List.getElem?_set_self (by rw [hal];exact hft)] at hz
      cases hz
      unfold AtX at hv hac;rw [hac] at hv;cases hv
      exact mZ h hzo hao
    ·rw [AtX,List.getElem?_set_self (by rw [hal];exact hft)] at hz
     cases hz
     unfold AtX at hx9 hxt;rw [hxt] at hx9;cases hx9
     exact sE h hzo hao
   ·have e2:acc2=acc:=by rw [h2];unfold stepF;rw [if_neg hg]
    rw [e2]
    exact ⟨hal,ho,hs,UpX.refl h ho,fun h9=>absurd h9 hg⟩
  obtain ⟨s1,s2,s3,s4,s5⟩:=hstep
  rw [List.foldl_cons,← h2]
  obtain ⟨k1,k2,k3,k4⟩:=J6 h hx hxl hp hn l acc2 (fun i hi=>hl i (List.mem_cons_of_mem _ hi)) s1 s2 s3
  refine ⟨k1,k2,s4.trans h k3 ho s2 k1 (by rw [s1,hal]),fun t9 ht9 hg9 x hx9 z hz=>?_⟩
  rcases List.mem_cons.1 ht9 with rfl | ht9
  ·have hlt:t9.f.toNat < acc2.length:=by rw [s1];exact hft
   have hmid:AtX acc2 t9.f.toNat acc2[t9.f.toNat]:=List.getElem?_eq_getElem hlt
   exact eN h (eB h hpo (hx x (List.mem_of_getElem? hx9))) (s2 _ (List.mem_of_getElem? hmid)) (k1 z (List.mem_of_getElem? hz)) (s5 hg9 x hx9 _ hmid) (k3 _ _ z hmid hz)
  ·exact k4 t9 ht9 hg9 x hx9 z hz
theorem M3 (h:S.ok) (hp:∀ t∈ts,OkX S (py t)) (hn:InN n ts) (hf:FullB S b (egsX kSym py ts) F u xs) (hxo:∀ x∈xs,OkX S x) (hxl:xs.length=n) (hsy:sym ≠ -1)
  (he:EpB S b (egsX kSym py ts) (nQ S b sym xs py n ts) ys) (hyo:∀ x∈ys,OkX S x) (hc:ClB S b (egsX kSym py ts) ys):FullB S b (egsX kSym py ts) F (sym::u) ys:=by
 have hE:=lI (kf:=kSym) hp
 have hb:∀ e∈egsX kSym py ts,e.f < n∧e.t < n:=fun e he=>by
  obtain ⟨t,ht,rfl⟩:=List.mem_map.1 he
  exact ⟨hn.fn ht,hn.tn ht⟩
 obtain ⟨k1,k2,_,k4⟩:=J6 (sym:=sym) (b:=b) h hxo hxl hp hn ts (List.replicate n (bP S)) (fun t ht=>ht) (by simp) (fun x hx=>by rw [(List.mem_replicate.1 hx).2];exact lS) (fun s z hz=>by
  have h4:=(List.getElem?_eq_some_iff.1 hz).2
  rw [List.getElem_replicate] at h4
  rw [← h4];exact .zero)
 have hrl:(nQ S b sym xs py n ts).length=n:=Rp
 have hly:ys.length=n:=by rw [he.len];exact hrl
 refine J5 h hE hyo hly hb hc (fun s x hx=>he.sum (AcB S b (egsX kSym py ts) F (sym::u)) (G4 h hE) (fun e he hg x ⟨q,hq,hx⟩=>⟨q,hq,.eps hx he rfl hg⟩) (fun s x hx=>?_) s x hx) (fun h9=>by simp at h9) (fun v q x e he9 hg hv hq hpth z hz=>?_)
 ·refine Fs.bind h (G4 h hE s) (k2 s x hx) ?_
  rintro y ⟨e,he9,hg,rfl,x9,hx9,rfl⟩
  refine Fs.extR h (G4 h hE e.t) (hE e he9) (hf.sum _ _ hx9) (fun v ⟨q,hq,hv⟩=>⟨q,hq,?_⟩)
  rw [← hg]
  exact .sym hv he9 rfl (by rw [hg];exact hsy)
 ·injection hv with h9 hv
  subst hv
  subst h9
  obtain ⟨t,ht,rfl⟩:=List.mem_map.1 he9
  have hlt:t.t.toNat < xs.length:=by rw [hxl];exact hn.tn ht
  have hx9:AtX xs t.t.toNat xs[t.t.toNat]:=List.getElem?_eq_getElem hlt
  have hle:=hf.top _ _ x hx9 ⟨q,hq,hpth⟩
  have hlt2:t.f.toNat < (nQ S b (egX kSym py t).g xs py n ts).length:=by rw [hrl];exact hn.fn ht
  have hmid:AtX (nQ S b (egX kSym py t).g xs py n ts) t.f.toNat (nQ S b (egX kSym py t).g xs py n ts)[t.f.toNat]:=List.getElem?_eq_getElem hlt2
  have hxe:=hxo _ (List.getElem_mem hlt)
  have hmo:=k1 _ (List.mem_of_getElem? hmid)
  have hz0:=hyo z (List.mem_of_getElem? hz)
  have hpt:=hp t ht
  have hxo9:=hpth.ok h hE
  have key:LeX S (dP S b (py t) xs[t.t.toNat]) _:=k4 t ht rfl _ hx9 _ hmid
  exact eN h (eB h hpt hxo9) (eB h hpt hxe) hz0 (Cc (b:=b) h hxo9 hxe hpt hle) (eN h (eB h hpt hxe) hmo hz0 key (he.up _ _ _ hmid hz))
theorem Eu {E:List Eg} {p:Nat} {x:PX} (h:S.ok) (hE:∀ e∈E,OkX S e.y) (hf:FullB S b E F u xs) (hx:AtX xs p x):LubX S (xP S b E F p u) x:=by
 have hiff:∀ y,AcB S b E F u p y↔xP S b E F p u y:=fun y=>⟨fun ⟨q,hq,hp⟩=>⟨q,hq,(Pe h hE).2 hp⟩,fun ⟨q,hq,hp⟩=>⟨q,hq,(Pe h hE).1 hp⟩⟩
 exact LubX.of hiff ⟨hf.sum p x hx,fun y hy=>hf.top p x y hx hy⟩
end
theorem Pn:bH prog 68=true:=by kernel_rfl
theorem Ch {w:World} {b:Nat} {x:Int} {T:TypeId} (h:w.heap[b]?=some (.cells (List.toArray [.int .i64 x]) T (0,0))):Row w (some ⟨b,0,none⟩) [x]:=by
 refine .inr ⟨b,0,rfl,fun i hi=>?_⟩
 have:i=0:=by simp at hi;omega
 subst this
 simp [World.cell?,h]
theorem xR:bH prog 60=true:=by kernel_rfl
section
variable {P:Program} {n:Nat} {Q:Exit→Act→World→Prop} {l:Fr} {w0 W:World} {ops opf:Array Oper} {K:List (Nat×World)} {L:List Asr} {i lo:Nat} {al:List AB} {Ob:Own} {G:Sy→cU} {E:List Nat}
variable {d:Nat} {ty:TypeId} {pos:String} {aft_:Array Edge} {gd:Option (Nat×Bool)}
end
section
variable {ops:Array Oper} {Q:Exit→Act→World→Prop} {n:Nat} {l:Fr} {W:World} {L:List Asr} {i:Nat} {d:Nat} {ty:TypeId} {pos:String} {aft_:Array Edge}
end
theorem St.adoptB {w0 W W':World} {O:Own} {G:cU} {K:List (Nat×World)} {B:Nat} {cs:List Value} {T:TypeId} (h:St w0 O G K W) (hb:Below W.heap.size W W') (hB:W.heap.size≤B) (hc:W'.heap[B]?=some (.cells cs.toArray T (0,0))):St w0 ((B,cs,T)::O) G K W':=by
 have h':=h.grow hb
 refine ⟨h'.below,fun p hp=>?_,List.Pairwise.cons (fun p hp e=>?_) h'.dist,fun q hq=>⟨(h'.kept q hq).1,fun p hp=>?_⟩,fun g hg=>⟨(h'.rows g hg).1,fun b e=>⟨fun p hp e2=>?_,((h'.rows g hg).2 b e).2⟩⟩,h'.gdist⟩
 ·rcases List.mem_cons.1 hp with rfl | hp
  ·exact ⟨Nat.le_trans h.below.size hB,hc⟩
  ·exact h'.own p hp
 ·have h2:=bY (h.own p hp).2
  dsimp only at e;omega
 ·rcases List.mem_cons.1 hp with rfl | hp
  ·exact .inr (Nat.le_trans (h.kept q hq).1.1 hB)
  ·exact (h'.kept q hq).2 p hp
 ·rcases List.mem_cons.1 hp with rfl | hp
  ·have h3:=(h.glt hg e).2
   dsimp only at e2;omega
  ·exact ((h'.rows g hg).2 b e).1 p hp e2
theorem M4 {P:Program} {Q:Exit→Act→World→Prop} {ops:Array Oper} {i d:Nat} {T:TypeId} {ty:TypeId} {pos:String} {aft:Array Edge} {a:Act} {w:World} {z:Value} {cs:List Value} {R:Act→World→Prop} (hi:ops[i]?=some ⟨some d,.alloc T,ty,pos,aft,none⟩) (hz:∀ w,(zeroValue T).run P w = .ok z w) (hc:z.cells=cs.toArray)
  (h:R (a.put (some d) (.pointer (some ⟨w.heap.size,0,none⟩))) (w.alloc (.cells cs.toArray T))):wpOp P ops Q i R a w :=
 Gc hi rfl (v:=.pointer (some ⟨w.heap.size,0,none⟩)) (w':=w.alloc (.cells cs.toArray T)) (by unfold execOp;simp only [];simp [Instr.alloc,newVar,newRow,hz,hc]) h
section
abbrev ZC6:List Value:=[.bool false,.int .i64 0,.int .u64 0,.slice none 0 0,.slice none 0 0,.slice none 0 0]
def PmS (i:Nat) (v:Value) (ON:Own):Prop:=(i=19→∃ B,v = .pointer (some ⟨B,0,none⟩)∧ON=[(B,ZC6,44)])∧(i≠19→ON=[(0,[v],0)])
def SnG (w0:World) (O:Own) (Kj:List (Nat×World)) (lo:Nat) (S:PS) (E Z:PX) (s:Mks) (w:World):Prop :=
 ∃ Kq:List (Nat×World),(∀ q∈Kq,lo≤q.1)∧lo≤w.heap.size∧St w0 O [] (Kq++Kj) w∧(∀ ON,(19,ON)∈s→St w0 (ON++O) [] (Kq++Kj) w)∧(∀ ON,(17,ON)∈s→∃ f:WF,ON=[(0,[f.val],0)]∧gR (MB w0 (Kq++Kj)) S f E)∧(∀ ON,(18,ON)∈s→∃ f:WF,ON=[(0,[f.val],0)]∧gR (MB w0 (Kq++Kj)) S f Z)
variable {w0 w w':World} {O:Own} {Kj:List (Nat×World)} {lo:Nat} {S:PS} {E Z:PX} {s:Mks}
theorem SnG.start (h:St w0 O [] Kj w):SnG w0 O Kj w.heap.size S E Z [] w.drew :=
 ⟨[],(fun q hq=>by cases hq),Nat.le_refl _,h.grow (Below.refl _ _).drew,(fun ON h=>by cases h),(fun ON h=>by cases h),fun ON h=>by cases h⟩
theorem SnG.st (h:SnG w0 O Kj lo S E Z s w):∃ K,St w0 O [] (K++Kj) w:=⟨_,h.choose_spec.2.2.1⟩
theorem gR.call {Kk:List (Nat×World)} {n:Nat} {f:WF} {x:PX} (h:gR (fun W=>MB w0 Kk W∧dD n w' W) S f x):gR (MB w0 ((n,w')::Kk)) S f x :=
 h.mono fun W hW=>⟨⟨hW.1,fun q hq=>hW.2 q (List.mem_cons_of_mem _ hq)⟩,hW.2 _ List.mem_cons_self⟩
theorem SnG.ext {P:Program} {f:FuncId} {vs:Array Value} (h:SnG w0 O Kj lo S E Z s w) (hnew:∀ ON,(17,ON)∉s) (hc:∀ K,St w0 O [] (K++Kj) w→Calls P f vs w (gH S E w)) :
  Calls P f vs w fun e w'=>∃ v ON,e = .returned v∧(fun v ON w'=>PmS 17 v ON∧SnG w0 O Kj lo S E Z ((17,ON)::s) w') v ON w':=by
 obtain ⟨Kq,h1,h2,h3,h4,h5,h6⟩:=h
 refine (hc _ h3).mono ?_
 rintro e w' ⟨g,rfl,hn,hb⟩
 refine ⟨_,[(0,[g.val],0)],rfl,⟨fun h=>(by cases h),fun _=>rfl⟩,(w.heap.size,w')::Kq,fun q hq=>?_,Nat.le_trans h2 hb.size,h3.call hb,fun ON hO=>?_,fun ON hO=>?_,fun ON hO=>?_⟩
 ·rcases List.mem_cons.1 hq with rfl | hq
  ·exact h2
  ·exact h1 q hq
 ·rcases List.mem_cons.1 hO with hO | hO
  ·cases hO
  ·exact (h4 ON hO).call hb
 ·rcases List.mem_cons.1 hO with hO | hO
  ·cases hO
   exact ⟨g,rfl,hn.far.mono fun W hW=>hW.2 _ List.mem_cons_self⟩
  ·exact absurd hO (hnew ON)
 ·rcases List.mem_cons.1 hO with hO | hO
  ·cases hO
  ·obtain ⟨g2,e2,hg2⟩:=h6 ON hO
   exact ⟨g2,e2,hg2.keep fun q hq=>List.mem_cons_of_mem _ hq⟩
theorem SnG.either {sf:SF} {f5:WF} {x5:PX} {v:Value} (h:SnG w0 O Kj lo S E (bZ S x5 E) s w) (hnew:∀ ON,(18,ON)∉s) (hs:SIs w0 S sf) (hok:S.ok) (hF:gR (MB w0 Kj) S f5 x5) (h17:∃ ON,(17,ON)∈s∧PmS 17 v ON) :
  Calls prog 44 #[sf.val,f5.val,v] w fun e w'=>∃ v ON,e = .returned v∧(fun v ON w'=>PmS 18 v ON∧SnG w0 O Kj lo S E (bZ S x5 E) ((18,ON)::s) w') v ON w':=by
 obtain ⟨Kq,h1,h2,h3,h4,h5,h6⟩:=h
 obtain ⟨ON,hON,hP⟩:=h17
 obtain ⟨g,eg,hg⟩:=h5 ON hON
 have ev:v=g.val:=by
  have h9:=hP.2 (by decide)
  rw [eg] at h9
  simp at h9
  exact h9.symm
 subst ev
 refine (Bg (M:=MB w0 (Kq++Kj)) (pA (mQ w0) _) (hs.below h3.below) hok (MB.of h3 (fun q hq=>hq)) (hF.keep fun q hq=>List.mem_append_right _ hq) hg).mono ?_
 rintro e w' ⟨f,rfl,hf,hb⟩
 refine ⟨_,[(0,[f.val],0)],rfl,⟨fun h=>(by cases h),fun _=>rfl⟩,(w.heap.size,w')::Kq,fun q hq=>?_,Nat.le_trans h2 hb.size,h3.call hb,fun ON hO=>?_,fun ON hO=>?_,fun ON hO=>?_⟩
 ·rcases List.mem_cons.1 hq with rfl | hq
  ·exact h2
  ·exact h1 q hq
 ·rcases List.mem_cons.1 hO with hO | hO
  ·cases hO
  ·exact (h4 ON hO).call hb
 ·rcases List.mem_cons.1 hO with hO | hO
  ·cases hO
  ·obtain ⟨g2,e2,hg2⟩:=h5 ON hO
   exact ⟨g2,e2,hg2.keep fun q hq=>List.mem_cons_of_mem _ hq⟩
 ·rcases List.mem_cons.1 hO with hO | hO
  ·cases hO
   exact ⟨f,rfl,hf.call⟩
  ·exact absurd hO (hnew ON)
theorem SnG.alloc (h:SnG w0 O Kj lo S E Z s w) (hnew:∀ ON,(19,ON)∉s):SnG w0 O Kj lo S E Z ((19,[(w.heap.size,ZC6,44)])::s) (w.alloc (.cells ZC6.toArray 44)):=by
 obtain ⟨Kq,h1,h2,h3,h4,h5,h6⟩:=h
 have hB:Below w.heap.size w (w.alloc (.cells ZC6.toArray 44)):=(Below.refl _ _).alloc (Nat.le_refl _) _
 refine ⟨Kq,h1,Nat.le_trans h2 hB.size,h3.grow hB,fun ON hO=>?_,fun ON hO=>?_,fun ON hO=>?_⟩
 ·rcases List.mem_cons.1 hO with hO | hO
  ·cases hO
   exact h3.adoptB hB (Nat.le_refl _) (heap_alloc_new w _)
  ·exact absurd hO (hnew ON)
 ·rcases List.mem_cons.1 hO with hO | hO
  ·cases hO
  ·exact h5 ON hO
 ·rcases List.mem_cons.1 hO with hO | hO
  ·cases hO
  ·exact h6 ON hO
theorem SnG.last {v8 v9:Value} (h:SnG w0 O Kj lo S E Z s w) (h18:∃ ON,(18,ON)∈s∧PmS 18 v8 ON) (h19:∃ ON,(19,ON)∈s∧PmS 19 v9 ON) :
  ∃ (B:Nat) (g:WF) (Kq:List (Nat×World)),v8=g.val∧v9 = .pointer (some ⟨B,0,none⟩)∧(∀ q∈Kq,lo≤q.1)∧gR (MB w0 (Kq++Kj)) S g Z∧St w0 ((B,ZC6,44)::O) [] (Kq++Kj) w:=by
 obtain ⟨Kq,h1,h2,h3,h4,h5,h6⟩:=h
 obtain ⟨O8,hO8,hP8⟩:=h18
 obtain ⟨O9,hO9,hP9⟩:=h19
 obtain ⟨g,eg,hg⟩:=h6 O8 hO8
 obtain ⟨B,e9,eO9⟩:=hP9.1 rfl
 subst eO9
 refine ⟨B,g,Kq,?_,e9,h1,hg,h4 _ hO9⟩
 have h9:=hP8.2 (by decide)
 rw [eg] at h9
 simp at h9
 exact h9.symm
end
def R7 (M:World→Prop) (S:PS) (w:World) (n:Nat) (xs:List PX) (e:Ending) (w':World):Prop:=∃ (b c9:Nat) (fs:List WF) (cs:List Value) (Kk:List (Nat×World)),e = .returned (.slice (some ⟨b,0,none⟩) n c9)∧fs.length=n∧w.heap.size≤b∧w'.heap[b]?=some (.cells (fs.flatMap WF.six++cs).toArray 44 (0,0))∧(∀ q∈Kk,w.heap.size≤q.1∧(b < q.1∨q.2.heap.size≤b)∧dD q.1 q.2 w')∧XLF (MK (MZ w M) Kk) S fs xs∧Below w.heap.size w w'
theorem Po {M:World→Prop} {S:PS} {w W:World} {n b c9:Nat} {xs:List PX} {fs:List WF} {cs:List Value} {O:Own} {Kk:List (Nat×World)} (hS:St w ((b,fs.flatMap WF.six++cs,44)::O) [] Kk W) (hfl:fs.length=n) (hKl:∀ q∈Kk,w.heap.size≤q.1) (hfs:XLF (MK (MZ w M) Kk) S fs xs):R7 M S w n xs (.returned (.slice (some ⟨b,0,none⟩) n c9)) W :=
 ⟨b,c9,fs,cs,Kk,rfl,hfl,(hS.own _ List.mem_cons_self).1,(hS.own _ List.mem_cons_self).2,fun q hq=>⟨hKl q hq,(hS.kept q hq).2 _ List.mem_cons_self,(hS.kept q hq).1⟩,hfs,hS.below⟩
theorem J7 (ds d:Nat) (s:SV) (n9:Nat) (sy:Int) (fa:Option Addr) (fl fc:Nat) (fs:List Int) (ta:Option Addr) (tl tc:Nat) (ts:List TV) (w:World) (hs:SIn w ds s) (hfrow:Row w fa fs) (hflen:fs.length=fl) (htrow:nO w ta ts) (htlen:ts.length=tl) (htin:∀ t∈ts,WIn w d t.x) (hfm:fl≤9223372036854775807) (htm:tl≤9223372036854775807) (M:World→Prop) (hM:mF M) (hMw:M w) (S:PS) (hsi:SIs w S s.f) (hok:S.ok) (h4:n9≤4096) (hn0:0 < n9) :
  Calls prog 61 #[.agg #[.int .i64 s.f.tag,.int .i64 s.f.dim,.slice s.f.a s.f.len s.f.cap,.int .i64 (n9:Int),.int .i64 sy,.slice fa fl fc,.slice ta tl tc]] w (R7 M S w n9 (kW S fs n9)):=by
 refine cB (args:=[.agg #[.int .i64 s.f.tag,.int .i64 s.f.dim,.slice s.f.a s.f.len s.f.cap,.int .i64 (n9:Int),.int .i64 sy,.slice fa fl fc,.slice ta tl tc]]) func61 rfl ntmps61 rfl ?_
 have hS:=St.start w
 refine aJ (aQ (bR (cs:=[_,_,_,_,_,_,_]) hS rfl rfl rfl fun B1 W1 hS=>aC rfl rfl (aN (XF.thenN (aJ (aQ (aC rfl rfl (aN (XF.thenN (aJ (aJ ?_)))))))))))
 have hS:=hS.newG 44 6
 refine aQ (aC rfl rfl (aN (XF.thenN (bQ (eI (fun m l W=>∃ (i:Nat) (v:Value) (fs9:List WF) (Kk:List (Nat×World)),i≤n9∧m=n9 - i∧l=[(1,.pointer (some ⟨B1,0,none⟩)),(3,v),(4,.int .i64 (i:Int))]∧(∀ q∈Kk,w.heap.size≤q.1)∧XLF (MK (MZ w M) Kk) S fs9 (kW S fs i)∧fs9.length=i∧St w [(B1,[.int .i64 s.f.tag,.int .i64 s.f.dim,.slice s.f.a s.f.len s.f.cap,.int .i64 (n9:Int),.int .i64 sy,.slice fa fl fc,.slice ta tl tc],29)] [⟨v,i,fs9.flatMap WF.six,44,6⟩] Kk W) (n9 - 0) ([(1,_),(3,_),(4,_)]) ⟨rfl,rfl,rfl,trivial⟩ (⟨0,_,[],_,Nat.zero_le _,rfl,rfl,(by simp),⟨rfl,fun i f x hf hx=>by simp at hf⟩,rfl,hS⟩) ?_)))))
 clear hS
 rintro m l W ⟨i,v,fs9,Kk,hi,rfl,rfl,hKl,hfs,hfl,hS⟩
 refine aJ (aJ (aQ (aE rfl rfl (aO (o':=3) kO rfl rfl rfl (aT isAgg3 rfl (aH (hS.at_ 0 rfl) rfl) rfl (cY rfl rfl rfl (aN (XF.thenN (bA rfl (fun hc=>?_) (fun hc=>?_))))))))))
 ·have hc8:=of_decide_eq_true hc;clear hc
  have hszW:=hS.below.size
  refine bM (XF.thenN (aJ (bQ (aJ (aQ (aS (vs:=[_,_,_,_,_,_,_]) isAgg29 sizeOf29 rfl (aB.own (j:=0) (m:=7) (hS.at_ 0 rfl) rfl) rfl (aE rfl rfl (cC (vs:=[_,_]) hS goes_69 rfl (Mx ds d ⟨s,(n9:Int),sy,fa,fl,fc,fs,ta,tl,tc,ts⟩ (i:Int) _ (AIn.below ⟨hs,hfrow,hflen,htrow,htlen,htin,hfm,htm⟩ hS.below)) rfl fun W2 hS=>aN (XF.thenN (bA rfl (fun hc=>?_) (fun hc=>?_)))))))))))
  ·have hc13:=hc;clear hc
   have hfin:Bp fs (i:Int)=true:=hc13
   refine aQ (aE rfl rfl (aO (o':=0) jL rfl rfl rfl (aS (vs:=[_,_,_]) isAgg25 sizeOf25 rfl (aB.own (j:=0) (m:=3) (hS.at_ 0 rfl) rfl) rfl ?_)))
   obtain ⟨lo9,hlo9⟩:∃ n,n=W2.heap.size:=⟨_,rfl⟩
   have hszw9:=hS.below.size
   refine cL (vs:=[_]) hS goes_67 rfl (Wn S s.f _ (hsi.below hS.below) hok) rfl ?_
   rintro e W3 ⟨f9,rfl,hn9,hb⟩
   refine ⟨_,rfl,hb,fun hS'=>?_⟩
   clear hS;have hS:=hS';clear hS'
   rw [← hlo9] at hn9
   have hlw9:w.heap.size≤lo9:=by rw [hlo9];exact hszw9
   have HX9:gR (MK (MZ w M) [(lo9,W3)]) S f9 (jW S):=hn9.far.mono (fun W2 hg=>hg.2 _ List.mem_cons_self)
   rw [← hlo9] at hS
   clear hb
   refine cN (us:=[(0,.agg (List.toArray [_,_,_,_,_,_]))]) hS underlying42 sizeOf44 zeroValue44 rfl rfl rfl (sH _ _ _ _ _ _) rfl fun B4 W4 hS=>?_
   refine mV (i:=0) (news:=[_,_,_,_,_,_]) hS underlying42 wT rfl rfl (by show 0 < 6;decide) rfl rfl rfl rfl rfl (aB.own (j:=0) (m:=6) (hS.at_ 0 rfl) rfl) rfl rfl (by dsimp only;simp only [maxLen];omega) (by dsimp only;show _ * 96≤_;omega) rfl fun v5 W5 hS=>?_
   refine aC rfl rfl (aN (XF.blkN (XF.thenN (aQ (aE rfl rfl (cZ rfl rfl (IntWalk.i64_in _ (by omega)) rfl (aC rfl rfl (aN ?_))))))))
   exact XF.round (n9 - (i+1)) [(1,_),(3,_),(4,_)] (by omega) ⟨rfl,rfl,rfl,trivial⟩ ⟨i+1,_,fs9++[f9],_,by omega,rfl,rfl,(fun q hq=>by simp only [List.mem_cons] at hq;rcases hq with rfl | rfl | hq;exact hlw9;exact hszW;exact hKl q hq),by rw [Bq,if_pos hfin];exact Gk (lX hfs (fun q hq=>by simp [hq])) (HX9.keepM (fun q hq=>by simp at hq;subst hq;simp)),by rw [List.length_append,hfl];rfl,hS.tail.castG (by simp)⟩
  ·have hc13:=hc;clear hc
   have hfin:¬ Bp fs (i:Int)=true:=by rw [show Bp fs (i:Int)=false from hc13];decide
   refine aQ (aE rfl rfl (aO (o':=0) jL rfl rfl rfl (aS (vs:=[_,_,_]) isAgg25 sizeOf25 rfl (aB.own (j:=0) (m:=3) (hS.at_ 0 rfl) rfl) rfl ?_)))
   obtain ⟨lo9,hlo9⟩:∃ n,n=W2.heap.size:=⟨_,rfl⟩
   have hszw9:=hS.below.size
   refine cL (vs:=[_]) hS Pb rfl (Es S s.f _ (hsi.below hS.below) hok) rfl ?_
   rintro e W6 ⟨f9,rfl,hn9,hb⟩
   refine ⟨_,rfl,hb,fun hS'=>?_⟩
   clear hS;have hS:=hS';clear hS'
   rw [← hlo9] at hn9
   have hlw9:w.heap.size≤lo9:=by rw [hlo9];exact hszw9
   have HX9:gR (MK (MZ w M) [(lo9,W6)]) S f9 (bP S):=hn9.far.mono (fun W2 hg=>hg.2 _ List.mem_cons_self)
   rw [← hlo9] at hS
   clear hb
   refine cN (us:=[(0,.agg (List.toArray [_,_,_,_,_,_]))]) hS underlying42 sizeOf44 zeroValue44 rfl rfl rfl (sH _ _ _ _ _ _) rfl fun B7 W7 hS=>?_
   refine mV (i:=0) (news:=[_,_,_,_,_,_]) hS underlying42 wT rfl rfl (by show 0 < 6;decide) rfl rfl rfl rfl rfl (aB.own (j:=0) (m:=6) (hS.at_ 0 rfl) rfl) rfl rfl (by dsimp only;simp only [maxLen];omega) (by dsimp only;show _ * 96≤_;omega) rfl fun v8 W8 hS=>?_
   refine aC rfl rfl (aN (XF.blkN (XF.thenN (aQ (aE rfl rfl (cZ rfl rfl (IntWalk.i64_in _ (by omega)) rfl (aC rfl rfl (aN ?_))))))))
   exact XF.round (n9 - (i+1)) [(1,_),(3,_),(4,_)] (by omega) ⟨rfl,rfl,rfl,trivial⟩ ⟨i+1,_,fs9++[f9],_,by omega,rfl,rfl,(fun q hq=>by simp only [List.mem_cons] at hq;rcases hq with rfl | rfl | hq;exact hlw9;exact hszW;exact hKl q hq),by rw [Bq,if_neg hfin];exact Gk (lX hfs (fun q hq=>by simp [hq])) (HX9.keepM (fun q hq=>by simp at hq;subst hq;simp)),by rw [List.length_append,hfl];rfl,hS.tail.castG (by simp)⟩
 ·have hc8:=of_decide_eq_false hc;clear hc
  have hin:i=n9:=by omega
  subst hin
  refine eF (XF.thenX (XF.thenX (XF.blkX (XF.thenN (aJ (aQ (aE rfl rfl (aC rfl rfl (aN (XF.thenN (bX (XF.res (cQ results61 rfl) ?_))))))))))))
  obtain ⟨a9,c9,rfl⟩:=hS.headSl
  obtain ⟨b9,cs9,rfl,hS9⟩:=hS.rowOwn hn0
  exact Po hS9 hfl hKl hfs
theorem Ww (ds d:Nat) (s:SV) (n9:Nat) (sy:Int) (fa:Option Addr) (fl fc:Nat) (fs:List Int) (ta:Option Addr) (tl tc:Nat) (ts:List TV) (w:World) (hs:SIn w ds s) (hfrow:Row w fa fs) (hflen:fs.length=fl) (htrow:nO w ta ts) (htlen:ts.length=tl) (htin:∀ t∈ts,WIn w d t.x) (hfm:fl≤9223372036854775807) (htm:tl≤9223372036854775807) (M:World→Prop) (hM:mF M) (hMw:M w) (S:PS) (hsi:SIs w S s.f) (hok:S.ok) (h4:n9≤4096) (bk:Bool) (sm:Int) (la:Option Addr) (lc:Nat) (fsl:List WF) (xl:List PX) (py:TV→PX) (hlr:qP w la fsl) (hlx:XLF M S fsl xl) (hln:xl.length=n9) (hgd:∀ t∈ts,inQ t.f (n9:Int)=true∧inQ t.t (n9:Int)=true) (hpy:∀ t∈ts,gR M S t.x.f (py t)) (hn0:0 < n9) :
  Calls prog 62 #[.agg #[.int .i64 s.f.tag,.int .i64 s.f.dim,.slice s.f.a s.f.len s.f.cap,.int .i64 (n9:Int),.int .i64 sy,.slice fa fl fc,.slice ta tl tc],.bool bk,.int .i64 sm,.slice la n9 lc] w (R7 M S w n9 (nQ S bk sm xl py n9 ts)):=by
 refine cB (args:=[.agg #[.int .i64 s.f.tag,.int .i64 s.f.dim,.slice s.f.a s.f.len s.f.cap,.int .i64 (n9:Int),.int .i64 sy,.slice fa fl fc,.slice ta tl tc],.bool bk,.int .i64 sm,.slice la n9 lc]) func62 rfl ntmps62 rfl ?_
 have hS:=St.start w
 refine aJ (aQ (bR (cs:=[_,_,_,_,_,_,_]) hS rfl rfl rfl fun B1 W1 hS=>aC rfl rfl (aN (XF.thenN (aJ (aQ (aC rfl rfl (aN (XF.thenN (aJ (aJ ?_)))))))))))
 have hS:=hS.newG 44 6
 refine aQ (aC rfl rfl (aN (XF.thenN (bQ (eI (fun m l W=>∃ (i:Nat) (v:Value) (fs9:List WF) (Kk:List (Nat×World)),i≤n9∧m=n9 - i∧l=[(1,.bool bk),(2,.int .i64 sm),(3,.slice la n9 lc),(4,.pointer (some ⟨B1,0,none⟩)),(9,v),(10,.int .i64 (i:Int))]∧(∀ q∈Kk,w.heap.size≤q.1)∧XLF (MK (MZ w M) Kk) S fs9 (List.replicate i (bP S))∧fs9.length=i∧St w [(B1,[.int .i64 s.f.tag,.int .i64 s.f.dim,.slice s.f.a s.f.len s.f.cap,.int .i64 (n9:Int),.int .i64 sy,.slice fa fl fc,.slice ta tl tc],29)] [⟨v,i,fs9.flatMap WF.six,44,6⟩] Kk W) (n9 - 0) ([(1,_),(2,_),(3,_),(4,_),(9,_),(10,_)]) ⟨rfl,rfl,rfl,rfl,rfl,rfl,trivial⟩ (⟨0,_,[],_,Nat.zero_le _,rfl,rfl,(by simp),⟨rfl,fun i f x hf hx=>by simp at hf⟩,rfl,hS⟩) ?_)))))
 clear hS
 rintro m l W ⟨i,v,fs9,Kk,hi,rfl,rfl,hKl,hfs,hfl,hS⟩
 refine aJ (aJ (aQ (aE rfl rfl (aO (o':=3) kO rfl rfl rfl (aT isAgg3 rfl (aH (hS.at_ 0 rfl) rfl) rfl (cY rfl rfl rfl (aN (XF.thenN (bA rfl (fun hc=>?_) (fun hc=>?_))))))))))
 ·have hc16:=of_decide_eq_true hc;clear hc
  refine bM (XF.thenN (aJ (bQ (aQ (aE rfl rfl (aO (o':=0) jL rfl rfl rfl (aS (vs:=[_,_,_]) isAgg25 sizeOf25 rfl (aB.own (j:=0) (m:=3) (hS.at_ 0 rfl) rfl) rfl ?_)))))))
  obtain ⟨lo9,hlo9⟩:∃ n,n=W.heap.size:=⟨_,rfl⟩
  have hszw9:=hS.below.size
  refine cL (vs:=[_]) hS Pb rfl (Es S s.f _ (hsi.below hS.below) hok) rfl ?_
  rintro e W2 ⟨f9,rfl,hn9,hb⟩
  refine ⟨_,rfl,hb,fun hS'=>?_⟩
  clear hS;have hS:=hS';clear hS'
  rw [← hlo9] at hn9
  have hlw9:w.heap.size≤lo9:=by rw [hlo9];exact hszw9
  have HX9:gR (MK (MZ w M) [(lo9,W2)]) S f9 (bP S):=hn9.far.mono (fun W2 hg=>hg.2 _ List.mem_cons_self)
  rw [← hlo9] at hS
  clear hb
  refine cN (us:=[(0,.agg (List.toArray [_,_,_,_,_,_]))]) hS underlying42 sizeOf44 zeroValue44 rfl rfl rfl (sH _ _ _ _ _ _) rfl fun B3 W3 hS=>?_
  refine mV (i:=0) (news:=[_,_,_,_,_,_]) hS underlying42 wT rfl rfl (by show 0 < 6;decide) rfl rfl rfl rfl rfl (aB.own (j:=0) (m:=6) (hS.at_ 0 rfl) rfl) rfl rfl (by dsimp only;simp only [maxLen];omega) (by dsimp only;show _ * 96≤_;omega) rfl fun v4 W4 hS=>?_
  refine aC rfl rfl (aN (XF.blkN (XF.thenN (aQ (aE rfl rfl (cZ rfl rfl (IntWalk.i64_in _ (by omega)) rfl (aC rfl rfl (aN ?_))))))))
  exact XF.round (n9 - (i+1)) [(1,_),(2,_),(3,_),(4,_),(9,_),(10,_)] (by omega) ⟨rfl,rfl,rfl,rfl,rfl,rfl,trivial⟩ ⟨i+1,_,fs9++[f9],_,by omega,rfl,rfl,(fun q hq=>by rcases List.mem_cons.1 hq with rfl | hq;exact hlw9;exact hKl q hq),by rw [List.replicate_succ'];exact Gk (lX hfs (fun q hq=>by simp [hq])) (HX9.keepM (fun q hq=>by simp at hq;subst hq;simp)),by rw [List.length_append,hfl];rfl,hS.tail.castG (by simp)⟩
 ·have hc16:=of_decide_eq_false hc;clear hc
  have hin:i=n9:=by omega
  subst hin
  obtain ⟨a9,c9,rfl⟩:=hS.headSl
  obtain ⟨b9,cs9,rfl,hS9⟩:=hS.rowOwn hn0
  clear hS;have hS:=hS9;clear hS9
  refine eF (XF.thenX (XF.thenX (XF.blkX (XF.thenN (aJ (aJ (aQ (aC rfl rfl (aN (XF.thenN (bQ (eI (fun m l W=>∃ (j:Nat) (gs:List WF) (Kj:List (Nat×World)),j≤tl∧m=tl - j∧l=[(1,.bool bk),(2,.int .i64 sm),(3,.slice la i lc),(4,.pointer (some ⟨B1,0,none⟩)),(9,.slice (some ⟨b9,0,none⟩) i c9),(11,.int .i64 (j:Int))]∧(∀ q∈Kj,w.heap.size≤q.1)∧XLF (MK (MZ w M) Kj) S gs (nQ S bk sm xl py i (ts.take j))∧gs.length=i∧St w [(b9,gs.flatMap WF.six++cs9,44),(B1,[.int .i64 s.f.tag,.int .i64 s.f.dim,.slice s.f.a s.f.len s.f.cap,.int .i64 (i:Int),.int .i64 sy,.slice fa fl fc,.slice ta tl tc],29)] [] Kj W) (tl - 0) ([(1,_),(2,_),(3,_),(4,_),(9,_),(11,_)]) ⟨rfl,rfl,rfl,rfl,rfl,rfl,trivial⟩ (⟨0,fs9,_,Nat.zero_le _,rfl,rfl,hKl,hfs,hfl,hS⟩) ?_))))))))))))
  clear hS
  clear hfs hfl hS hKl;rintro m l W ⟨j,gs,Kj,hj,rfl,rfl,hKl,hgs,hgl,hS⟩
  refine aJ (aJ (aQ (aE rfl rfl (aO (o':=6) gF rfl rfl rfl (aT isAgg27 rfl (aH (hS.at_ 1 rfl) rfl) rfl (cX underlying27 rfl rfl (cY rfl rfl rfl (aN (XF.thenN (bA rfl (fun hc=>?_) (fun hc=>?_)))))))))))
  ·have hc29:=of_decide_eq_true hc;clear hc
   have hk:j < tl:=by omega
   obtain ⟨r,hr⟩:∃ r,ts[j]?=some r:=⟨ts[j]'(by omega),by simp [show j < ts.length by omega]⟩
   obtain ⟨b,off,rfl,hcs⟩:=htrow.at_ hr
   have hmr:=List.mem_of_getElem? hr
   have hpr:=hpy r hmr
   obtain ⟨hg1,hg2⟩:=hgd r hmr
   obtain ⟨fN,hfN,hfN2⟩:=fK hg1
   obtain ⟨tN,htN,htN2⟩:=fK hg2
   obtain ⟨rf,rg,rt,rx⟩:=r
   dsimp only at hfN htN hpr
   subst hfN;subst htN
   dsimp only [TV.nine] at hcs
   have k1:=aB.agree hS.agree (Nat.zero_le _) hcs
   obtain ⟨f5,x50,hf5,hx50,hF50⟩:=hgs.at_ (k:=fN) (by omega)
   obtain ⟨fl5,x5,hfl5,hx5,hxi5⟩:=hlx.at_ (k:=tN) (by have:=hlx.1;omega)
   obtain ⟨lb,lo5,rfl,hlc⟩:∃ b o,la=some ⟨b,o,none⟩∧∀ (i:Nat) f,fsl[i]?=some f→W6 w b (o+i * 6) f:=by
    rcases hlr with h | h
    ·rw [h] at hfl5;simp at hfl5
    ·exact h
   have hlk:=Rv (hlc tN fl5 hfl5)
   refine bM (XF.thenN (aJ (bQ (aJ (aQ (aO (o':=6) gF rfl rfl rfl (aT isAgg27 rfl (aH (hS.at_ 1 rfl) rfl) rfl (aE rfl rfl (cK  underlying27 sizeOf66 rfl rfl rfl (by omega) rfl rfl (aS (vs:=[_,_,_,_,_,_,_,_,_]) isAgg66 sizeOf66 rfl (k1) rfl (bB (cs:=[_,_,_,_,_,_,_,_,_]) hS zeroValue66 rfl rfl fun B5 W5 hS=>aU (i:=0) (vs:=[_,_,_,_,_,_,_,_,_]) (cs':=[_,_,_,_,_,_,_,_,_]) (O':=[_,_,_]) hS sizeOf66 rfl rfl rfl rfl rfl rfl rfl fun W6 hS=>aN (XF.thenN (aJ (aQ (aO (o':=1) qD rfl rfl rfl (aT isAgg3 rfl (aH (hS.at_ 0 rfl) rfl) rfl (aE rfl rfl (cG rfl rfl rfl (aN (XF.thenN (bA rfl (fun hc=>?_) (fun hc=>?_))))))))))))))))))))))
   ·have hc40:=of_decide_eq_true hc;clear hc
    have hlt11:=hS.own_lt
    have hsz11:=hS.below.size
    have hMK:=pA (En (w:=w) hM) Kj
    have hZw:MZ w M w:=⟨hMw,Nat.le_refl _⟩
    refine Oq (ef:=23) (jy:=21) (ca:=pZ (fun _=>[])) (ta:=fun _=>0) (Os:=osY _ 1 (0+fN * 6) b9 (gs.flatMap WF.six++cs9) 44) (Gs:=tE _) (al:=[]) (k:=24) (ds:=[]) cD rfl hS rfl (by kernel_rfl) rfl (by decide) rfl rfl rfl rfl (aW 1 rfl rfl (isV _) (fun hNo=>sgV [(9,_)] rfl rfl rfl rfl hNo (aR rfl) ⟨cF rfl,trivial⟩ (fun ev w he hw=>aY rfl) (aD rfl)) (aW 2 rfl rfl (isV _) (fun hNo=>sgV [(12,_)] rfl rfl rfl rfl hNo (aR rfl) ⟨cF rfl,trivial⟩ (fun ev w he hw=>aV (o':=0) mR rfl rfl) (aD rfl)) (aW 3 rfl rfl (isV _) (fun hNo=>sgV [(42,_)] rfl rfl rfl rfl hNo (aR rfl) ⟨aL 1 (aA rfl rfl rfl),trivial⟩ (fun ev w he hw=>bC isAgg3 rfl ((aH (hw.at_ 0 (oM (i:=0) (j:=1) rfl rfl)) rfl))) (aD rfl)) (aW 4 rfl rfl (isV _) (fun hNo=>sgV [(4,_)] rfl rfl rfl rfl hNo (aR rfl) ⟨cF rfl,trivial⟩ (fun ev w he hw=>aV (o':=0) jL rfl rfl) (aD rfl)) (aW 5 rfl rfl (isV _) (fun hNo=>sgV [(44,_)] rfl rfl rfl rfl hNo (aR rfl) ⟨aL 3 (aA rfl rfl rfl),trivial⟩ (fun ev w he hw=>aX (vs:=[_,_,_]) isAgg25 sizeOf25 rfl ((aB.own (j:=0) (m:=3) (hw.at_ 2 (oM (i:=2) (j:=1) rfl rfl)) rfl))) (aD rfl)) (aW 6 rfl rfl (isV _) (fun hNo=>sgV [(9,_)] rfl rfl rfl rfl hNo (aR rfl) ⟨cF rfl,trivial⟩ (fun ev w he hw=>aY rfl) (aD rfl)) (aW 7 rfl rfl (isV _) (fun hNo=>sgV [(12,_)] rfl rfl rfl rfl hNo (aR rfl) ⟨cF rfl,trivial⟩ (fun ev w he hw=>aV (o':=0) mR rfl rfl) (aD rfl)) (aW 8 rfl rfl (isV _) (fun hNo=>sgV [(47,_)] rfl rfl rfl rfl hNo (aR rfl) ⟨aL 6 (aA rfl rfl rfl),trivial⟩ (fun ev w he hw=>bC isAgg3 rfl ((aH (hw.at_ 0 (oM (i:=0) (j:=1) rfl rfl)) rfl))) (aD rfl)) (aW 9 rfl rfl (isV _) (fun hNo=>sgV [(46,_),(48,_)] rfl rfl rfl rfl hNo (aR rfl) ⟨aL 5 (aA rfl rfl rfl),aL 7 (aA rfl rfl rfl),trivial⟩ (fun ev w he hw=>bE (j:=fN) underlying42 sizeOf44 rfl rfl (rfl) (by omega) rfl) (aD rfl)) (aW 10 rfl rfl (isV _) (fun hNo=>sgV [(49,_)] rfl rfl rfl rfl hNo (aR rfl) ⟨aL 8 (aA rfl rfl rfl),trivial⟩ (fun ev w he hw=>aX (vs:=[_,_,_,_,_,_]) isAgg44 sizeOf44 rfl ((aB.own (j:=0+fN * 6) (m:=6) (hw.at_ 1 (Ow (he rfl) rfl)) (lW hf5)))) (aD rfl)) (aW 11 rfl rfl (isV _) (fun hNo=>sgV [(4,_)] rfl rfl rfl rfl hNo (aR rfl) ⟨cF rfl,trivial⟩ (fun ev w he hw=>aV (o':=0) jL rfl rfl) (aD rfl)) (aW 12 rfl rfl (isV _) (fun hNo=>sgV [(51,_)] rfl rfl rfl rfl hNo (aR rfl) ⟨aL 10 (aA rfl rfl rfl),trivial⟩ (fun ev w he hw=>aX (vs:=[_,_,_]) isAgg25 sizeOf25 rfl ((aB.own (j:=0) (m:=3) (hw.at_ 2 (oM (i:=2) (j:=1) rfl rfl)) rfl))) (aD rfl)) (aW 13 rfl rfl (isV _) (fun hNo=>sgV [(1,_)] rfl rfl rfl rfl hNo (aR rfl) ⟨cF rfl,trivial⟩ (fun ev w he hw=>aY rfl) (aD rfl)) (aW 14 rfl rfl (isV _) (fun hNo=>sgV [(12,_)] rfl rfl rfl rfl hNo (aR rfl) ⟨cF rfl,trivial⟩ (fun ev w he hw=>aV (o':=3) sW rfl rfl) (aD rfl)) (aW 15 rfl rfl (isV _) (fun hNo=>sgV [(54,_)] rfl rfl rfl rfl hNo (aR rfl) ⟨aL 13 (aA rfl rfl rfl),trivial⟩ (fun ev w he hw=>aX (vs:=[_,_,_,_,_,_]) isAgg44 sizeOf44 rfl ((aB.own (j:=3) (m:=6) (hw.at_ 0 (oM (i:=0) (j:=1) rfl rfl)) rfl))) (aD rfl)) (aW 16 rfl rfl (isV _) (fun hNo=>sgV [(3,_)] rfl rfl rfl rfl hNo (aR rfl) ⟨cF rfl,trivial⟩ (fun ev w he hw=>aY rfl) (aD rfl)) (aW 17 rfl rfl (isV _) (fun hNo=>sgV [(12,_)] rfl rfl rfl rfl hNo (aR rfl) ⟨cF rfl,trivial⟩ (fun ev w he hw=>aV (o':=2) mS rfl rfl) (aD rfl)) (aW 18 rfl rfl (isV _) (fun hNo=>sgV [(57,_)] rfl rfl rfl rfl hNo (aR rfl) ⟨aL 16 (aA rfl rfl rfl),trivial⟩ (fun ev w he hw=>bC isAgg3 rfl ((aH (hw.at_ 0 (oM (i:=0) (j:=1) rfl rfl)) rfl))) (aD rfl)) (aW 19 rfl rfl (isV _) (fun hNo=>sgV [(56,_),(58,_)] rfl rfl rfl rfl hNo (aR rfl) ⟨aL 15 (aA rfl rfl rfl),aL 17 (aA rfl rfl rfl),trivial⟩ (fun ev w he hw=>bE (j:=tN) underlying42 sizeOf44 rfl rfl (rfl) (by omega) rfl) (aD rfl)) (aW 20 rfl rfl (isV _) (fun hNo=>sgV [(59,_)] rfl rfl rfl rfl hNo (aR rfl) ⟨aL 18 (aA rfl rfl rfl),trivial⟩ (fun ev w he hw=>aX (vs:=[_,_,_,_,_,_]) isAgg44 sizeOf44 rfl (aB.agree hw.agree (Nat.zero_le _) (hlk))) (aD rfl)) ?_))))))))))))))))))))
    refine aW 21 rfl rfl (dH W6.heap.size S (jX S bk (py ⟨(fN:Int),rg,(tN:Int),rx⟩) x5)) (fun hNo=>vV [isV _,isV _,isV _,isV _] rfl rfl rfl rfl hNo Pn (aR rfl) ⟨bU (aL 11 (aA rfl rfl rfl)),bU (aL 12 (aA rfl rfl rfl)),bU (aL 14 (aA rfl rfl rfl)),bU (aL 19 (aA rfl rfl rfl)),trivial⟩ (fun vs ev w' he hSt hlo hh=>by
     have e:=cA (us:=[_,_,_,_]) hh
     subst e
     exact wret_gA hlo (Jv S s.f bk rx.f fl5 (py ⟨(fN:Int),rg,(tN:Int),rx⟩) x5 w' (hsi.below hSt.below) hok (hpr.is (hM _ _ hMw hSt.below)) (hxi5.is (hM _ _ hMw hSt.below)))) (aD rfl)) ?_
    refine aW 22 rfl rfl (qN (MK (MZ w M) Kj) W6.heap.size S (bZ S x50 (jX S bk (py ⟨(fN:Int),rg,(tN:Int),rx⟩) x5))) (fun hNo=>Jc [isV _,isV _,dH W6.heap.size S (jX S bk (py ⟨(fN:Int),rg,(tN:Int),rx⟩) x5)] (osY_lt hlt11 (hlt11 _ (List.mem_cons_of_mem _ List.mem_cons_self))) rfl rfl rfl hNo By (aR rfl) ⟨bU (aL 4 (aA rfl rfl rfl)),bU (aL 9 (aA rfl rfl rfl)),bU (aL 20 (aA rfl rfl rfl)),trivial⟩ (fun vs ev w' he hSt hlo hh=>by
     obtain ⟨v1,v2,v3,rfl,e1,e2,g9,rfl,hg9⟩:=holds3 hh
     have e1:v1=_:=e1
     have e2:v2=_:=e2
     subst e1;subst e2
     exact eitherA hMK (hsi.below hSt.below) hok (hSt.stays (En hM) hZw) hF50 hg9 hlo) (aD rfl)) ?_
    refine aW 23 rfl rfl (isV _) (fun hNo=>sgV [(41,_),(43,_)] rfl rfl rfl rfl hNo (aR rfl) ⟨aL 0 (aA rfl rfl rfl),aL 2 (aA rfl rfl rfl),trivial⟩ (fun ev w he hw=>bE (j:=fN) underlying42 sizeOf44 rfl rfl (rfl) (by omega) rfl) (aD rfl)) ?_
    refine vW 24 rfl (zH (py:=qN (MK (MZ w M) Kj) W6.heap.size S (bZ S x50 (jX S bk (py ⟨(fN:Int),rg,(tN:Int),rx⟩) x5))) (m:=6) 1 (0+fN * 6) [(63,_)] rfl rfl rfl rfl (by kernel_rfl) rfl rfl (fun j hj=>by rcases hj with h | rfl<;>first | (cases h<;>rfl) | rfl) ⟨aL 22 (aA rfl rfl rfl),trivial⟩ rfl rfl sizeOf44 (fun v w ⟨h,e,_⟩=>by subst e;exact ⟨h.six,rfl,rfl,rfl⟩) (by rw [Nat.ble_eq];rw [List.length_append,sZ];omega)) ?_
    refine mP ?_
    intro Bf7 y7 W7 Ks7 hsz7 hKs7 hS' hcov7
    clear hS;have hS:=hS'.castO (O':=[_,_,_]) rfl;clear hS'
    refine tM (L':=[AwS _ _ (isV _),AwS _ _ (isV _),AwS _ _ (isV _),AwS _ _ (isV _),AwS _ _ (isV _),AwS _ _ (isV _),AwS _ _ (isV _),AwS _ _ (isV _),AwS _ _ (isV _),AwS _ _ (isV _),AwS _ _ (isV _),AwS _ _ (isV _),AwS _ _ (isV _),AwS _ _ (isV _),AwS _ _ (isV _),AwS _ _ (isV _),AwS _ _ (isV _),AwS _ _ (isV _),AwS _ _ (isV _),AwS _ _ (isV _),AwS _ _ (dH W6.heap.size S (jX S bk (py ⟨(fN:Int),rg,(tN:Int),rx⟩) x5)),(fun v0_ w0_=>v0_=_∧AwS _ _ (qN (MK (MZ w M) Kj) W6.heap.size S (bZ S x50 (jX S bk (py ⟨(fN:Int),rg,(tN:Int),rx⟩) x5))) v0_ w0_),AwS _ _ (isV _),isV _]) rfl (bG (bG (bG (bG (bG (bG (bG (bG (bG (bG (bG (bG (bG (bG (bG (bG (bG (bG (bG (bG ?_))))))))))))))))))))
    refine dE ?_;intro _ _
    refine dE ?_;rintro _ ⟨rfl,hA7⟩
    obtain ⟨f11,rfl,hF11⟩:=hA7.here
    have H11:=Mr hcov7 (xb_lt hlt11 (hlt11 _ (List.mem_cons_of_mem _ List.mem_cons_self))) hsz11 hKs7 hF11
    have hKs11:=hKs7
    refine bG (I4 (cO (aN (XF.blkN (XF.thenN (aQ (aE rfl rfl (cZ rfl rfl (IntWalk.i64_in _ (by omega)) rfl (aC rfl rfl (aN ?_))))))))))
    exact XF.round (tl - (j+1)) [(1,_),(2,_),(3,_),(4,_),(9,_),(11,_)] (by omega) ⟨rfl,rfl,rfl,rfl,rfl,rfl,trivial⟩ ⟨j+1,gs.set fN f11,_,by omega,rfl,rfl,(fun q hq=>by rcases List.mem_append.1 hq with hq | hq;exact Nat.le_trans hsz11 (hKs11 q hq);exact hKl q hq),by rw [Br hr];unfold stepF;dsimp only;rw [if_pos hc40,Int.toNat_natCast,Int.toNat_natCast,Bz hx50,Bz hx5];exact Ox (lX hgs (fun q hq=>by simp [hq])) H11,by rw [List.length_set];exact hgl,hS.tail.castO (by rw [← uQ (g:=f11) hf5];rfl)⟩
   ·have hc40:=of_decide_eq_false hc;clear hc
    refine bM (XF.blkN (XF.thenN (aQ (aE rfl rfl (cZ rfl rfl (IntWalk.i64_in _ (by omega)) rfl (aC rfl rfl (aN ?_)))))))
    exact XF.round (tl - (j+1)) [(1,_),(2,_),(3,_),(4,_),(9,_),(11,_)] (by omega) ⟨rfl,rfl,rfl,rfl,rfl,rfl,trivial⟩ ⟨j+1,gs,_,by omega,rfl,rfl,hKl,by rw [Br hr];unfold stepF;rw [if_neg (by dsimp only;exact hc40)];exact hgs,hgl,hS.tail⟩
  ·have hc29:=of_decide_eq_false hc;clear hc
   rw [List.take_of_length_le (by omega)] at hgs
   refine eF (XF.thenX (XF.thenX (XF.blkX (XF.thenN (aJ (aQ (aE rfl rfl (aC rfl rfl (aN (XF.thenN (bX (XF.res (cQ results62 rfl) ?_))))))))))))
   exact Po hS hgl hKl hgs
theorem M5 {w:World} {S:PS} {f g:WF} {x y:PX} (hx:XIs w S f x) (hy:XIs w S g y) (r:Bool) (hr:r=true↔x=y):Calls prog 20 #[f.val,g.val] w fun e w'=>e = .returned (.bool r)∧Below w.heap.size w w':=by
 cases S<;>cases x<;>cases y<;>first | exact hx.elim | exact hy.elim | skip
 ·refine (xH 2 4 (.mk f []) (.mk g []) w (zD hx 1) (zD hy 1) (oE hx 3) (oE hy 3)).mono fun e w' h=>⟨h.1.trans (bT (A9 hr ?_)),h.2⟩
  rw [mO]
  have h1:=(xL hx hy).symm
  rw [mO] at h1
  simp only [PX.one.injEq]
  exact h1
 ·obtain ⟨ra,ca,rc,cc,pc,fb,fo,f1,f2,rfl,h6,h7,h8,h9⟩:=hx.two
  obtain ⟨ra',ca',rc',cc',pc',gb,go,g1,g2,rfl,h6',h7',h8',h9'⟩:=hy.two
  have sm:∀ {t n u m:Int} {a b:PF} {f1 f2:WF} {ra ca:Option Addr} {rc cc pc fb fo:Nat},PIs w t n f1 a→PIs w u m f2 b→smN 4 (.mk ⟨false,0,0,ra,0,rc,[],ca,0,cc,[],some ⟨fb,fo,none⟩,2,pc⟩ [.mk f1 [],.mk f2 []])=true:=by
   intro t n u m a b f1 f2 ra ca rc cc pc fb fo ha hb
   have e1:=oE ha 2
   have e2:=oE hb 2
   show (decide _ && (decide _ && (decide _ && [WV.mk f1 [],WV.mk f2 []].all (smN 3))))=true
   simp [e1,e2]
  refine (xH 2 4 _ _ w (vQ h6 h7 h8 h9) (vQ h6' h7' h8' h9') (sm h8 h9) (sm h8' h9')).mono fun e w' h=>⟨h.1.trans (bT (A9 hr ?_)),h.2⟩
  rw [mO]
  have e1:=xL h8 h8'
  have e2:=xL h9 h9'
  simp [e1,e2]
theorem evl2 {a:Act} {t u:Nat} {v x:Value} (h:a.eval (.tmp t)=v) (k:a.eval (.tmp u)=x):∀ z y,evL [(t,v),(u,x)] z=some y→a.eval z=y:=by
 intro z y hz
 cases z with
 | tmp s =>
  simp only [evL,look] at hz
  cases hb:Nat.beq t s with
  | true=>simp [hb] at hz;rw [← Nat.eq_of_beq_eq_true hb,← hz];exact h
  | false =>
   cases hc:Nat.beq u s with
   | true=>simp [hb,hc] at hz;rw [← Nat.eq_of_beq_eq_true hc,← hz];exact k
   | false=>simp [hb,hc] at hz
 | const c=>exact Option.some.inj hz
 | global g=>exact Option.some.inj hz
 | func f=>exact Option.some.inj hz
def kfS (an:Bool) (t:TV):Int×Int:=(t.f,if an then -1 else t.g)
theorem uR {M:World→Prop} {W:World} {S:PS} {fs:List WF} {xs:List PX} (h:XLF M S fs xs) (hW:M W):∀ x∈xs,OkX S x:=fun x hx=>by
 obtain ⟨i,hi⟩:=List.getElem?_of_mem hx
 have hl:=(List.getElem?_eq_some_iff.1 hi).1
 obtain ⟨f,y,h1,h2,h3⟩:=h.at_ (k:=i) (by rw [h.1];exact hl)
 rw [hi] at h2;cases h2
 exact (h3.is hW).ok
def ClT (S:PS) (b an:Bool) (py:TV→PX) (ts:List TV) (k:Nat) (ys:List PX):Prop:=∀ (j:Nat) t,j < k→ts[j]?=some t→(kfS an t).2 = -1→∀ x y,AtX ys t.t.toNat x→AtX ys t.f.toNat y→LeX S (dP S b (py t) x) y
theorem ClT.start {S:PS} {b an:Bool} {py:TV→PX} {ts:List TV} {ys:List PX}:ClT S b an py ts 0 ys:=fun j t h=>by omega
theorem ClT.skip {S:PS} {b an:Bool} {py:TV→PX} {ts:List TV} {ys:List PX} {k:Nat} {t:TV} (h:ClT S b an py ts k ys) (ht:ts[k]?=some t) (hn:(kfS an t).2 ≠ -1):ClT S b an py ts (k+1) ys:=fun j t9 hj hj9 hk x y hx hy=>by
 rcases Nat.lt_or_ge j k with h1 | h1
 ·exact h j t9 h1 hj9 hk x y hx hy
 ·have e:j=k:=by omega
  subst e
  rw [ht] at hj9;cases hj9
  exact absurd hk hn
theorem ClT.next {S:PS} {b an:Bool} {py:TV→PX} {ts:List TV} {ys:List PX} {k:Nat} {t:TV} {x9 y9:PX} (h:ClT S b an py ts k ys) (ht:ts[k]?=some t) (hx9:AtX ys t.t.toNat x9) (hy9:AtX ys t.f.toNat y9) (hle:LeX S (dP S b (py t) x9) y9):ClT S b an py ts (k+1) ys:=fun j t9 hj hj9 hk x y hx hy=>by
 rcases Nat.lt_or_ge j k with h1 | h1
 ·exact h j t9 h1 hj9 hk x y hx hy
 ·have e:j=k:=by omega
  subst e
  rw [ht] at hj9;cases hj9
  unfold AtX at *
  rw [hx9] at hx;cases hx
  rw [hy9] at hy;cases hy
  exact hle
theorem ClT.all {S:PS} {b an:Bool} {py:TV→PX} {ts:List TV} {ys:List PX} {k:Nat} (h:ClT S b an py ts k ys) (hk:ts.length≤k):ClB S b (egsX (kfS an) py ts) ys:=fun e he hg x y hx hy=>by
 obtain ⟨t,ht,rfl⟩:=List.mem_map.1 he
 obtain ⟨j,hj⟩:=List.getElem?_of_mem ht
 exact h j t (Nat.lt_of_lt_of_le (List.getElem?_eq_some_iff.1 hj).1 hk) hj hg x y hx hy
theorem Wx {S:PS} {x y:PX} (hS:S.ok) (hx:OkX S x) (hy:OkX S y) (h:bZ S y x=y):LeX S x y:=by
 have h9:=sE hS hx hy
 rw [h] at h9
 exact h9
theorem uS (S:PS) (py:TV→PX) (n:Nat) (s:SV) (st sy:Int) (fa:Option Addr) (fl fc:Nat) (fs:List Int) (ta:Option Addr) (tl tc:Nat) (ts:List TV) (bk an:Bool) (LB cp:Nat) (gs:List WF) (cs9:List Value) (xs:List PX) (Ot:Own) (K:List (Nat×World)) (w0:World) (w:World) (hS0:St w0 ((LB,gs.flatMap WF.six++cs9,44)::Ot) [] K w) (hA:AutoOk w0 S py n ⟨s,st,sy,fa,fl,fc,fs,ta,tl,tc,ts⟩) (hgl:gs.length=n) (hgs:XLF (MB w0 K) S gs xs) :
  Calls prog 60 #[.agg #[.int .i64 s.f.tag,.int .i64 s.f.dim,.slice s.f.a s.f.len s.f.cap,.int .i64 st,.int .i64 sy,.slice fa fl fc,.slice ta tl tc],.bool bk,.bool an,.slice (some ⟨LB,0,none⟩) n cp] w (fun e w'=>∃ (gs':List WF) (ys:List PX) (Kn:List (Nat×World)),e = .returned (.slice (some ⟨LB,0,none⟩) n cp)∧(∀ q∈K,q∈Kn)∧gs'.length=n∧XLF (MB w0 Kn) S gs' ys∧EpB S bk (egsX (kfS an) py ts) xs ys∧ClB S bk (egsX (kfS an) py ts) ys∧St w0 ((LB,gs'.flatMap WF.six++cs9,44)::Ot) [] Kn w'):=by
 refine cB (args:=[.agg #[.int .i64 s.f.tag,.int .i64 s.f.dim,.slice s.f.a s.f.len s.f.cap,.int .i64 st,.int .i64 sy,.slice fa fl fc,.slice ta tl tc],.bool bk,.bool an,.slice (some ⟨LB,0,none⟩) n cp]) func60 rfl ntmps60 rfl ?_
 have hS:=hS0
 have htrow:nO w0 ta ts:=hA.trow
 have htlen:ts.length=tl:=hA.tlen
 have htl9:tl≤65536:=hA.tl
 have hE:=lI (kf:=kfS an) (py:=py) (ts:=ts) hA.py
 have hn4:=hA.n4
 have hxo:=uR hgs (MB.of hS (fun q hq=>hq))
 refine aJ (aQ (bR (cs:=[_,_,_,_,_,_,_]) hS rfl rfl rfl fun B1 W1 hS=>aC rfl rfl (aN (XF.thenN (aJ (aJ (aQ (aC rfl rfl (aN (XF.thenN (bQ (eI (fun m l W=>∃ (b0:Bool) (g7:List WF) (y7:List PX) (K7:List (Nat×World)),m=2 * lH S y7+(if b0 then 1 else 0)∧l=[(1,.bool bk),(2,.bool an),(3,.slice (some ⟨LB,0,none⟩) n cp),(4,.pointer (some ⟨B1,0,none⟩)),(9,.bool b0)]∧(∀ q∈K,q∈K7)∧g7.length=n∧XLF (MB w0 K7) S g7 y7∧EpB S bk (egsX (kfS an) py ts) xs y7∧(b0=false→ClB S bk (egsX (kfS an) py ts) y7)∧St w0 ((B1,[.int .i64 s.f.tag,.int .i64 s.f.dim,.slice s.f.a s.f.len s.f.cap,.int .i64 st,.int .i64 sy,.slice fa fl fc,.slice ta tl tc],29)::(LB,g7.flatMap WF.six++cs9,44)::Ot) [] K7 W) (2 * lH S xs+1) ([(1,_),(2,_),(3,_),(4,_),(9,_)]) ⟨rfl,rfl,rfl,rfl,rfl,trivial⟩ (⟨true,gs,xs,K,rfl,rfl,fun q hq=>hq,hgl,hgs,EpB.refl hA.ok (uR hgs (MB.of hS (fun q hq=>hq))),(fun h=>by cases h),hS⟩) ?_))))))))))))
 clear hS
 clear hS0 hgl hgs;rintro m l W ⟨b0,g7,y7,K7,rfl,rfl,hK7,hgl,hgs,hEp,hCl,hS⟩
 refine aJ (aJ (aQ (aE rfl rfl (aN (XF.thenN (bA rfl (fun hc=>?_) (fun hc=>?_)))))))
 ·have hc13:=hc;clear hc
  obtain rfl:b0=true:=hc13
  obtain ⟨D0,hD0⟩:∃ d,d=lH S y7:=⟨_,rfl⟩
  rw [← hD0]
  refine bM (XF.thenN (bQ (aJ (aQ (aC rfl rfl (aN (XF.thenN (aJ (aQ (aC rfl rfl (aN (XF.thenN (bQ (eI (fun m l W=>∃ (i:Nat) (b1:Bool) (g7:List WF) (y7:List PX) (K7:List (Nat×World)),i≤tl∧m=tl - i∧l=[(1,.bool bk),(2,.bool an),(3,.slice (some ⟨LB,0,none⟩) n cp),(4,.pointer (some ⟨B1,0,none⟩)),(9,.bool b1),(10,.int .i64 (i:Int))]∧(∀ q∈K,q∈K7)∧g7.length=n∧XLF (MB w0 K7) S g7 y7∧EpB S bk (egsX (kfS an) py ts) xs y7∧(b1=true→lH S y7 < D0)∧(b1=false→lH S y7≤D0∧ClT S bk an py ts i y7)∧St w0 ((B1,[.int .i64 s.f.tag,.int .i64 s.f.dim,.slice s.f.a s.f.len s.f.cap,.int .i64 st,.int .i64 sy,.slice fa fl fc,.slice ta tl tc],29)::(LB,g7.flatMap WF.six++cs9,44)::Ot) [] K7 W) (tl - 0) ([(1,_),(2,_),(3,_),(4,_),(9,_),(10,_)]) ⟨rfl,rfl,rfl,rfl,rfl,rfl,trivial⟩ (⟨0,false,g7,y7,K7,Nat.zero_le _,rfl,rfl,hK7,hgl,hgs,hEp,(fun h=>by cases h),fun _=>⟨Nat.le_of_eq hD0.symm,ClT.start⟩,hS⟩) ?_))))))))))))))
  clear hS
  clear hK7 hgl hgs hEp hCl hD0 g7 y7 K7;rintro m l W ⟨i,b1,g7,y7,K7,hi,rfl,rfl,hK7,hgl,hgs,hEp,hb1,hb0,hS⟩
  refine aJ (aJ (aQ (aE rfl rfl (aO (o':=6) gF rfl rfl rfl (aT isAgg27 rfl (aH (hS.at_ 0 rfl) rfl) rfl (cX underlying27 rfl rfl (cY rfl rfl rfl (aN (XF.thenN (bA rfl (fun hc=>?_) (fun hc=>?_)))))))))))
  ·have hc18:=of_decide_eq_true hc;clear hc
   have hk:i < tl:=by omega
   obtain ⟨r,hr⟩:∃ r,ts[i]?=some r:=⟨ts[i]'(by omega),by simp [show i < ts.length by omega]⟩
   obtain ⟨b,off,rfl,hcs⟩:=htrow.at_ hr
   have hmr:=List.mem_of_getElem? hr
   have hpr:=hA.px r hmr
   obtain ⟨fN,hfN,hfN2⟩:=fK (hA.tf r hmr)
   obtain ⟨tN,htN,htN2⟩:=fK (hA.tt r hmr)
   have hgm:=hA.tg r hmr
   obtain ⟨rf,rg,rt,rx⟩:=r
   dsimp only at hfN htN hpr hgm
   subst hfN;subst htN
   dsimp only [TV.nine] at hcs
   have k1:=aB.agree hS.agree (Nat.zero_le _) hcs
   refine bM (XF.thenN (aJ (bQ (aJ (aQ (aO (o':=6) gF rfl rfl rfl (aT isAgg27 rfl (aH (hS.at_ 0 rfl) rfl) rfl (aE rfl rfl (cK  underlying27 sizeOf66 rfl rfl rfl (by omega) rfl rfl (aS (vs:=[_,_,_,_,_,_,_,_,_]) isAgg66 sizeOf66 rfl (k1) rfl (bB (cs:=[_,_,_,_,_,_,_,_,_]) hS zeroValue66 rfl rfl fun B2 W2 hS=>aU (i:=0) (vs:=[_,_,_,_,_,_,_,_,_]) (cs':=[_,_,_,_,_,_,_,_,_]) (O':=(_::_::_::Ot)) hS sizeOf66 rfl rfl rfl rfl rfl rfl rfl fun W3 hS=>aN (XF.thenN (joinF (fun l W=>(kfS an ⟨(fN:Int),rg,(tN:Int),rx⟩).2 = -1∧l=[(1,.bool bk),(2,.bool an),(3,.slice (some ⟨LB,0,none⟩) n cp),(4,.pointer (some ⟨B1,0,none⟩)),(9,.bool b1),(10,.int .i64 (i:Int)),(11,.pointer (some ⟨B2,0,none⟩))]∧St w0 ((B2,TV.nine ⟨(fN:Int),rg,(tN:Int),rx⟩,66)::(B1,[.int .i64 s.f.tag,.int .i64 s.f.dim,.slice s.f.a s.f.len s.f.cap,.int .i64 st,.int .i64 sy,.slice fa fl fc,.slice (some ⟨b,off,none⟩) tl tc],29)::(LB,g7.flatMap WF.six++cs9,44)::Ot) [] K7 W) ?_ ?_)))))))))))))
   ·clear hS
    rintro l W ⟨hkf,rfl,hS⟩
    obtain ⟨f50,x50,hf50,hx50,hF50⟩:=hgs.at_ (k:=fN) (by omega)
    obtain ⟨f5,x5,hf5,hx5,hF5⟩:=hgs.at_ (k:=tN) (by omega)
    have hyo:=uR hgs (MB.of hS (fun q hq=>hq))
    have hd7:lH S y7≤D0:=by
     cases b1 with
     | true=>exact Nat.le_of_lt (hb1 rfl)
     | false=>exact (hb0 rfl).1
    refine aJ (Wg (mk:=[17,18,19]) (k:=20) (vals:=fun i=>match i with | 0=>.pointer (some ⟨B1,0,none⟩) | 1=>.agg #[.int .i64 s.f.tag,.int .i64 s.f.dim,.slice s.f.a s.f.len s.f.cap] | 2=>.slice (some ⟨LB,0,none⟩) n cp | 3=>.pointer (some ⟨B2,0,none⟩) | 4=>.int .i64 (fN:Int) | 5=>.pointer (some ⟨LB,0+fN * 6,none⟩) | 6=>.agg #[.bool f50.z,.int .i64 f50.c,.int .u64 (f50.g:Int),.slice f50.ra f50.rl f50.rc,.slice f50.ca f50.cl f50.cc,.slice f50.pa f50.pl f50.pc] | 7=>.pointer (some ⟨B1,0,none⟩) | 8=>.agg #[.int .i64 s.f.tag,.int .i64 s.f.dim,.slice s.f.a s.f.len s.f.cap] | 9=>.bool bk | 10=>.pointer (some ⟨B2,3,none⟩) | 11=>.agg #[.bool rx.f.z,.int .i64 rx.f.c,.int .u64 (rx.f.g:Int),.slice rx.f.ra rx.f.rl rx.f.rc,.slice rx.f.ca rx.f.cl rx.f.cc,.slice rx.f.pa rx.f.pl rx.f.pc] | 12=>.slice (some ⟨LB,0,none⟩) n cp | 13=>.pointer (some ⟨B2,2,none⟩) | 14=>.int .i64 (tN:Int) | 15=>.pointer (some ⟨LB,0+tN * 6,none⟩) | _=>.agg #[.bool f5.z,.int .i64 f5.c,.int .u64 (f5.g:Int),.slice f5.ra f5.rl f5.rc,.slice f5.ca f5.cl f5.cc,.slice f5.pa f5.pl f5.pc]) (Pm:=PmS) (SnG w0 _ _ _ S (dP S bk (py ⟨(fN:Int),rg,(tN:Int),rx⟩) x5) (bZ S x50 (dP S bk (py ⟨(fN:Int),rg,(tN:Int),rx⟩) x5))) cD (SnG.start hS) (Nat.le_of_ble_eq_true (by kernel_rfl)) (by kernel_rfl) (by kernel_rfl) ?_ ?_ (by decide) ?_)
    ·intro i hi hin s0 a0 ac w8 ha0 hF9 hG hD
     have hfr:∀ t v,freeT _ t=true→look _ t=some v→ac.eval (.tmp t)=v:=fun t v h1 h2=>(hF9 t h1).trans (ha0.at_ t v h2)
     obtain ⟨Kx,hS9⟩:=hG.st
     match i,hi,hin with
     | 0,_,_=>exact ⟨_,rfl,rfl,by
      have h4:=hfr 4 _ (by kernel_rfl) rfl
      exact aV (l:=[(4,_)]) (o':=0) jL rfl rfl ac.eval (iC h4)⟩
     | 1,_,_=>exact ⟨_,rfl,rfl,by
      have h33:ac.eval (.tmp 33) = .pointer (some ⟨B1,0,none⟩):=(hD 0 33 (by kernel_rfl)).1 (by decide)
      exact aX (l:=[(33,_)]) (vs:=[_,_,_]) isAgg25 sizeOf25 rfl ((aB.own (j:=0) (m:=3) (hS9.at_ 1 rfl) rfl)) ac.eval (iC h33)⟩
     | 2,_,_=>exact ⟨_,rfl,rfl,by
      have h3:=hfr 3 _ (by kernel_rfl) rfl
      exact aY (l:=[(3,_)]) rfl ac.eval (iC h3)⟩
     | 3,_,_=>exact ⟨_,rfl,rfl,by
      have h11:=hfr 11 _ (by kernel_rfl) rfl
      exact aV (l:=[(11,_)]) (o':=0) mR rfl rfl ac.eval (iC h11)⟩
     | 4,_,_=>exact ⟨_,rfl,rfl,by
      have h36:ac.eval (.tmp 36) = .pointer (some ⟨B2,0,none⟩):=(hD 3 36 (by kernel_rfl)).1 (by decide)
      exact bC (l:=[(36,_)]) isAgg3 rfl ((aH (hS9.at_ 0 rfl) rfl)) ac.eval (iC h36)⟩
     | 5,_,_=>exact ⟨_,rfl,rfl,by
      have h35:ac.eval (.tmp 35) = .slice (some ⟨LB,0,none⟩) n cp:=(hD 2 35 (by kernel_rfl)).1 (by decide)
      have h37:ac.eval (.tmp 37) = .int .i64 (fN:Int):=(hD 4 37 (by kernel_rfl)).1 (by decide)
      exact bE (l:=[(35,_),(37,_)]) (j:=fN) underlying42 sizeOf44 rfl rfl (rfl) (hfN2) rfl ac.eval (evl2 h35 h37)⟩
     | 6,_,_=>exact ⟨_,rfl,rfl,by
      have h38:ac.eval (.tmp 38) = .pointer (some ⟨LB,0+fN * 6,none⟩):=(hD 5 38 (by kernel_rfl)).1 (by decide)
      exact aX (l:=[(38,_)]) (vs:=[_,_,_,_,_,_]) isAgg44 sizeOf44 rfl ((aB.own (j:=0+fN * 6) (m:=6) (hS9.at_ 2 rfl) (lW hf50))) ac.eval (iC h38)⟩
     | 7,_,_=>exact ⟨_,rfl,rfl,by
      have h4:=hfr 4 _ (by kernel_rfl) rfl
      exact aV (l:=[(4,_)]) (o':=0) jL rfl rfl ac.eval (iC h4)⟩
     | 8,_,_=>exact ⟨_,rfl,rfl,by
      have h40:ac.eval (.tmp 40) = .pointer (some ⟨B1,0,none⟩):=(hD 7 40 (by kernel_rfl)).1 (by decide)
      exact aX (l:=[(40,_)]) (vs:=[_,_,_]) isAgg25 sizeOf25 rfl ((aB.own (j:=0) (m:=3) (hS9.at_ 1 rfl) rfl)) ac.eval (iC h40)⟩
     | 9,_,_=>exact ⟨_,rfl,rfl,by
      have h1:=hfr 1 _ (by kernel_rfl) rfl
      exact aY (l:=[(1,_)]) rfl ac.eval (iC h1)⟩
     | 10,_,_=>exact ⟨_,rfl,rfl,by
      have h11:=hfr 11 _ (by kernel_rfl) rfl
      exact aV (l:=[(11,_)]) (o':=3) sW rfl rfl ac.eval (iC h11)⟩
     | 11,_,_=>exact ⟨_,rfl,rfl,by
      have h43:ac.eval (.tmp 43) = .pointer (some ⟨B2,3,none⟩):=(hD 10 43 (by kernel_rfl)).1 (by decide)
      exact aX (l:=[(43,_)]) (vs:=[_,_,_,_,_,_]) isAgg44 sizeOf44 rfl ((aB.own (j:=3) (m:=6) (hS9.at_ 0 rfl) rfl)) ac.eval (iC h43)⟩
     | 12,_,_=>exact ⟨_,rfl,rfl,by
      have h3:=hfr 3 _ (by kernel_rfl) rfl
      exact aY (l:=[(3,_)]) rfl ac.eval (iC h3)⟩
     | 13,_,_=>exact ⟨_,rfl,rfl,by
      have h11:=hfr 11 _ (by kernel_rfl) rfl
      exact aV (l:=[(11,_)]) (o':=2) mS rfl rfl ac.eval (iC h11)⟩
     | 14,_,_=>exact ⟨_,rfl,rfl,by
      have h46:ac.eval (.tmp 46) = .pointer (some ⟨B2,2,none⟩):=(hD 13 46 (by kernel_rfl)).1 (by decide)
      exact bC (l:=[(46,_)]) isAgg3 rfl ((aH (hS9.at_ 0 rfl) rfl)) ac.eval (iC h46)⟩
     | 15,_,_=>exact ⟨_,rfl,rfl,by
      have h45:ac.eval (.tmp 45) = .slice (some ⟨LB,0,none⟩) n cp:=(hD 12 45 (by kernel_rfl)).1 (by decide)
      have h47:ac.eval (.tmp 47) = .int .i64 (tN:Int):=(hD 14 47 (by kernel_rfl)).1 (by decide)
      exact bE (l:=[(45,_),(47,_)]) (j:=tN) underlying42 sizeOf44 rfl rfl (rfl) (htN2) rfl ac.eval (evl2 h45 h47)⟩
     | 16,_,_=>exact ⟨_,rfl,rfl,by
      have h48:ac.eval (.tmp 48) = .pointer (some ⟨LB,0+tN * 6,none⟩):=(hD 15 48 (by kernel_rfl)).1 (by decide)
      exact aX (l:=[(48,_)]) (vs:=[_,_,_,_,_,_]) isAgg44 sizeOf44 rfl ((aB.own (j:=0+tN * 6) (m:=6) (hS9.at_ 2 rfl) (lW hf5))) ac.eval (iC h48)⟩
     | 17,_,h9=>exact absurd (by decide) h9
     | 18,_,h9=>exact absurd (by decide) h9
     | 19,_,h9=>exact absurd (by decide) h9
     | i+20,h9,_=>omega
    ·intro i him s0 a0 ac w8 ha0 hF9 hG hnew hD
     have hcase:i=17∨i=18∨i=19:=by simpa using him
     rcases hcase with rfl | rfl | rfl
     ·have e1:ac.eval (.tmp 41) = .agg #[.int .i64 s.f.tag,.int .i64 s.f.dim,.slice s.f.a s.f.len s.f.cap]:=(hD 8 41 (by kernel_rfl)).1 (by decide)
      have e2:ac.eval (.tmp 42) = .bool bk:=(hD 9 42 (by kernel_rfl)).1 (by decide)
      have e3:ac.eval (.tmp 44) = .agg #[.bool rx.f.z,.int .i64 rx.f.c,.int .u64 (rx.f.g:Int),.slice rx.f.ra rx.f.rl rx.f.rc,.slice rx.f.ca rx.f.cl rx.f.cc,.slice rx.f.pa rx.f.pl rx.f.pc]:=(hD 11 44 (by kernel_rfl)).1 (by decide)
      have e4:ac.eval (.tmp 49) = .agg #[.bool f5.z,.int .i64 f5.c,.int .u64 (f5.g:Int),.slice f5.ra f5.rl f5.rc,.slice f5.ca f5.cl f5.cc,.slice f5.pa f5.pl f5.pc]:=(hD 16 49 (by kernel_rfl)).1 (by decide)
      refine tA rfl Pn (vs:=[.agg #[.int .i64 s.f.tag,.int .i64 s.f.dim,.slice s.f.a s.f.len s.f.cap],.bool bk,.agg #[.bool rx.f.z,.int .i64 rx.f.c,.int .u64 (rx.f.g:Int),.slice rx.f.ra rx.f.rl rx.f.rc,.slice rx.f.ca rx.f.cl rx.f.cc,.slice rx.f.pa rx.f.pl rx.f.pc],.agg #[.bool f5.z,.int .i64 f5.c,.int .u64 (f5.g:Int),.slice f5.ra f5.rl f5.rc,.slice f5.ca f5.cl f5.cc,.slice f5.pa f5.pl f5.pc]]) (by simp only [List.map_cons,List.map_nil,e1,e2,e3,e4]) ?_
      exact hG.ext hnew fun Kx hSx=>Jv S s.f bk rx.f f5 (py ⟨(fN:Int),rg,(tN:Int),rx⟩) x5 w8 (hA.si.below hSx.below) hA.ok (hpr.below hSx.below) (hF5.is (MB.of hSx (fun q hq=>by simp [hq])))
     ·have e1:ac.eval (.tmp 34) = .agg #[.int .i64 s.f.tag,.int .i64 s.f.dim,.slice s.f.a s.f.len s.f.cap]:=(hD 1 34 (by kernel_rfl)).1 (by decide)
      have e2:ac.eval (.tmp 39) = .agg #[.bool f50.z,.int .i64 f50.c,.int .u64 (f50.g:Int),.slice f50.ra f50.rl f50.rc,.slice f50.ca f50.cl f50.cc,.slice f50.pa f50.pl f50.pc]:=(hD 6 39 (by kernel_rfl)).1 (by decide)
      refine tA rfl By (vs:=[.agg #[.int .i64 s.f.tag,.int .i64 s.f.dim,.slice s.f.a s.f.len s.f.cap],.agg #[.bool f50.z,.int .i64 f50.c,.int .u64 (f50.g:Int),.slice f50.ra f50.rl f50.rc,.slice f50.ca f50.cl f50.cc,.slice f50.pa f50.pl f50.pc],ac.eval (.tmp 50)]) (by simp only [List.map_cons,List.map_nil,e1,e2]) ?_
      exact hG.either hnew hA.si hA.ok hF50 ((hD 17 50 (by kernel_rfl)).2 (by decide))
     ·refine M4 rfl zeroValue44 rfl ?_
      exact ⟨_,_,rfl,⟨fun _=>⟨_,rfl,rfl⟩,fun h=>absurd rfl h⟩,hG.alloc hnew⟩
    ·intro s0 ac w8 hG hsz hdf hfr hval hin hmk hkeys hdist
     obtain ⟨B12,g9,Kq,e18,e19,hlq,hF9,hS⟩:=hG.last (hmk 18 51 (by decide) rfl) (hmk 19 12 (by decide) rfl)
     refine (show cS _ _ _ _ (List.drop 20 _) [(1,.bool bk),(2,.bool an),(3,.slice (some ⟨LB,0,none⟩) n cp),(4,.pointer (some ⟨B1,0,none⟩)),(9,.bool b1),(10,.int .i64 (i:Int)),(11,.pointer (some ⟨B2,0,none⟩)),(51,g9.val),(12,.pointer (some ⟨B12,0,none⟩))] w8 from ?_) ac (Jp.has hsz hdf ⟨hfr 1 _ (by kernel_rfl) rfl,hfr 2 _ (by kernel_rfl) rfl,hfr 3 _ (by kernel_rfl) rfl,hfr 4 _ (by kernel_rfl) rfl,hfr 9 _ (by kernel_rfl) rfl,hfr 10 _ (by kernel_rfl) rfl,hfr 11 _ (by kernel_rfl) rfl,e18,e19,trivial⟩)
     refine aU (i:=0) (vs:=[_,_,_,_,_,_]) (cs':=[_,_,_,_,_,_]) (O':=(_::_::_::_::Ot)) hS sizeOf44 rfl rfl rfl rfl rfl rfl rfl fun W4 hS=>aN (XF.thenN (aJ ?_))
     have hz9:=hF9.is (MB.of hS (fun q hq=>hq))
     have hx9:=hF50.is (MB.of hS (fun q hq=>by simp [hq]))
     have hoke:=eB (b:=bk) hA.ok hpr.ok (hF5.is (MB.of hS (fun q hq=>by simp [hq]))).ok
     have hok50:=hx9.ok
     refine mK (m:=8) cD hS (by kernel_rfl) (by kernel_rfl) rfl (cJ 1 rfl 12 rfl rfl (fun w hw=>aX (vs:=[_,_,_,_,_,_]) isAgg44 sizeOf44 rfl (aB.agree (aK hw 0) (Nat.zero_le _) (aB.own (j:=0) (m:=6) (hS.at_ 0 rfl) rfl))) rfl (cJ 2 rfl 3 rfl rfl (fun w hw=>aY rfl) rfl (cJ 3 rfl 11 rfl rfl (fun w hw=>aV (o':=0) mR rfl rfl) rfl (aZ 4 rfl 54 2 rfl rfl rfl (fun w hw=>bC isAgg3 rfl ((aK hw 0).cell (Nat.zero_le _) (aH (hS.at_ 1 rfl) rfl))) rfl (aI 5 rfl (isV _) (aF _) (rgV (li:=[(53,_),(55,_)]) rfl (aR rfl) ⟨aL 1 (aA rfl rfl rfl),aL 3 (aA rfl rfl rfl),trivial⟩ (fun w hw=>bE (j:=fN) underlying42 sizeOf44 rfl rfl (rfl) (hfN2) rfl) (aD rfl)) (aZ 6 rfl 56 4 rfl rfl rfl (fun w hw=>aX (vs:=[_,_,_,_,_,_]) isAgg44 sizeOf44 rfl (aB.agree (aK hw 0) (Nat.zero_le _) (aB.own (j:=0+fN * 6) (m:=6) (hS.at_ 3 rfl) (lW hf50)))) rfl ?_))))))
     refine aI 7 rfl (isV (.bool (eqX (bZ S x50 (dP S bk (py ⟨(fN:Int),rg,(tN:Int),rx⟩) x5)) x50))) (aF _) (cR [isV _,isV _] rfl yT (aR rfl) ⟨bU (aL 0 (aA rfl rfl rfl)),bU (aL 5 (aA rfl rfl rfl)),trivial⟩ (fun vs w' hb hh=>by have e:=cA (us:=[_,_]) hh;subst e;exact (M5 (hz9.below hb) (hx9.below hb) (eqX (bZ S x50 (dP S bk (py ⟨(fN:Int),rg,(tN:Int),rx⟩) x5)) x50) nN).mono fun e w2 h=>⟨_,h.1,rfl,h.2⟩) (aD rfl)) ?_
     refine aZ 8 rfl 58 6 rfl rfl rfl (fun w hw=>kX rfl) rfl (dV ?_)
     intro W5 hbR hS'
     clear hS;have hS:=hS';clear hS'
     refine aG (aG (aG (aG (aG (aG (aG (aG (cO (XF.thenN (bA rfl (fun hc=>?_) (fun hc=>?_)))))))))))
     ·have hc59:=hc;clear hc
      have hne:(bZ S x50 (dP S bk (py ⟨(fN:Int),rg,(tN:Int),rx⟩) x5))≠x50:=pD.1 (by simpa using hc59)
      have hd8:=Cd hA.ok hok50 hoke hne hx50
      refine aJ (aQ (aE rfl rfl (aO (o':=0) mR rfl rfl rfl (aT isAgg3 rfl (aH (hS.at_ 1 rfl) rfl) rfl (aS (vs:=[_,_,_,_,_,_]) isAgg44 sizeOf44 rfl (aB.own (j:=0) (m:=6) (hS.at_ 0 rfl) rfl) rfl (cK (j:=fN) underlying42 sizeOf44 rfl rfl (rfl) (hfN2) rfl rfl ?_))))))
      refine aU (i:=3) (vs:=g9.six) (cs':=(g7.set fN g9).flatMap WF.six++cs9) (O':=_::_::_::(LB,(g7.set fN g9).flatMap WF.six++cs9,44)::Ot) hS sizeOf44 rfl rfl rfl rfl (by rw [Nat.ble_eq,List.length_append,sZ];show 0+fN * 6+6≤_;omega) (uQ hf50) rfl fun W4 hS=>?_
      refine aN (XF.thenN (aQ (aC rfl rfl (aN (XF.blkN (XF.thenN (aQ (aE rfl rfl (cZ rfl rfl (IntWalk.i64_in _ (by omega)) rfl (aC rfl rfl (aN ?_)))))))))))
      exact XF.round (tl - (i+1)) [(1,_),(2,_),(3,_),(4,_),(9,_),(10,_)] (by omega) ⟨rfl,rfl,rfl,rfl,rfl,rfl,trivial⟩ ⟨i+1,true,g7.set fN g9,y7.set fN (bZ S x50 (dP S bk (py ⟨(fN:Int),rg,(tN:Int),rx⟩) x5)),_,by omega,rfl,rfl,(fun q hq=>by simp [hK7 q hq]),by rw [List.length_set];exact hgl,Ox (lX hgs (fun q hq=>by simp [hq])) (hF9.keep (fun q hq=>by rcases List.mem_append.1 hq with h | h<;>simp [h])),EpB.step hA.ok hxo hyo hE hEp (e:=egX (kfS an) py ⟨(fN:Int),rg,(tN:Int),rx⟩) (List.mem_map_of_mem hmr) hkf hx5 hx50,(fun _=>Nat.lt_of_lt_of_le hd8 hd7),(fun h=>by cases h),hS.tail.tail⟩
     ·have hc59:=hc;clear hc
      have hee:(bZ S x50 (dP S bk (py ⟨(fN:Int),rg,(tN:Int),rx⟩) x5))=x50:=nN.1 (by simpa using hc59)
      have hle:=Wx hA.ok hoke hok50 hee
      refine bM (XF.blkN (XF.thenN (aQ (aE rfl rfl (cZ rfl rfl (IntWalk.i64_in _ (by omega)) rfl (aC rfl rfl (aN ?_)))))))
      exact XF.round (tl - (i+1)) [(1,_),(2,_),(3,_),(4,_),(9,_),(10,_)] (by omega) ⟨rfl,rfl,rfl,rfl,rfl,rfl,trivial⟩ ⟨i+1,b1,g7,y7,_,by omega,rfl,rfl,(fun q hq=>by simp [hK7 q hq]),hgl,lX hgs (fun q hq=>by simp [hq]),hEp,hb1,(fun h=>⟨(hb0 h).1,(hb0 h).2.next hr hx5 hx50 hle⟩),hS.tail.tail⟩
   ·skip
    refine aJ (aQ (aO (o':=1) qD rfl rfl rfl (aT isAgg3 rfl (aH (hS.at_ 0 rfl) rfl) rfl (oH rfl rfl rfl (aE rfl rfl (cI (d:=29) rfl (fun hc=>?_) (fun hc=>?_)))))))
    ·have hg29:=of_decide_eq_true hc;clear hc
     refine aM (d:=29) rfl rfl (aE rfl rfl (aM (d:=29) rfl rfl (fS rfl rfl (bV rfl rfl rfl (aN (XF.thenN (bA rfl (fun hc=>?_) (fun hc=>?_))))))))
     ·have hc32:=hc;clear hc
      have hkn:(kfS an ⟨(fN:Int),rg,(tN:Int),rx⟩).2 ≠ -1:=by
       have h9:an=false:=by simpa using hc32
       rw [h9];show rg ≠ -1;omega
      refine eF (XF.thenX (XF.blkX (XF.thenN (aQ (aE rfl rfl (cZ rfl rfl (IntWalk.i64_in _ (by omega)) rfl (aC rfl rfl (aN ?_))))))))
      exact XF.round (tl - (i+1)) [(1,_),(2,_),(3,_),(4,_),(9,_),(10,_)] (by omega) ⟨rfl,rfl,rfl,rfl,rfl,rfl,trivial⟩ ⟨i+1,b1,g7,y7,K7,by omega,rfl,rfl,hK7,hgl,hgs,hEp,hb1,fun h=>⟨(hb0 h).1,(hb0 h).2.skip hr hkn⟩,hS.tail⟩
     ·have hc32:=hc;clear hc
      refine bM ?_
      have hkf:(kfS an ⟨(fN:Int),rg,(tN:Int),rx⟩).2 = -1:=by
       have h9:an=true:=by simpa using hc32
       rw [h9];rfl
      exact XF.join [(1,_),(2,_),(3,_),(4,_),(9,_),(10,_),(11,_)] ⟨rfl,rfl,rfl,rfl,rfl,rfl,rfl,trivial⟩ ⟨hkf,rfl,hS⟩
    ·have hg29:=of_decide_eq_false hc;clear hc
     refine aP (d:=29) rfl rfl rfl rfl (aP (d:=29) rfl rfl rfl rfl (cH rfl rfl rfl (aN (XF.thenN (Hc rfl (bM ?_))))))
     have hkf:(kfS an ⟨(fN:Int),rg,(tN:Int),rx⟩).2 = -1:=by
      show (if an then (-1:Int) else rg) = -1
      split<;>omega
     exact XF.join [(1,_),(2,_),(3,_),(4,_),(9,_),(10,_),(11,_)] ⟨rfl,rfl,rfl,rfl,rfl,rfl,rfl,trivial⟩ ⟨hkf,rfl,hS⟩
  ·have hc18:=of_decide_eq_false hc;clear hc
   have hit:i=tl:=by omega
   refine eF (XF.thenX (XF.thenX (XF.blkX (XF.blkN ?_))))
   exact XF.round (2 * lH S y7+(if b1 then 1 else 0)) [(1,_),(2,_),(3,_),(4,_),(9,_)] (by
    cases b1 with
    | true=>have:=hb1 rfl;simp;omega
    | false=>have:=(hb0 rfl).1;simp;omega) ⟨rfl,rfl,rfl,rfl,rfl,trivial⟩ ⟨b1,g7,y7,K7,rfl,rfl,hK7,hgl,hgs,hEp,(fun h=>(hb0 h).2.all (by omega)),hS⟩
 ·have hc13:=hc;clear hc
  obtain rfl:b0=false:=hc13
  refine eF (XF.thenX (XF.thenX (XF.blkX (XF.thenN (aJ (aQ (aE rfl rfl (aC rfl rfl (aN (XF.thenN (bX (XF.res (cQ results60 rfl) ?_))))))))))))
  exact ⟨g7,y7,K7,rfl,hK7,hgl,hgs,hEp,hCl rfl,hS.tail⟩
theorem zI:bH prog 59=true:=by kernel_rfl
theorem Pp:bH prog 61=true:=by kernel_rfl
theorem goes_62:bH prog 62=true:=by kernel_rfl
theorem Wy {w W W2:World} {O:Own} {G:cU} {K:List (Nat×World)} (hS:St w O G K W) (h1:Below w.heap.size w W2) (h2:dD w.heap.size W W2):MB w K W2:=⟨h1,fun q hq=>by
 obtain ⟨hk,_⟩:=hS.kept q hq
 refine ⟨Nat.le_trans hk.1 h2.1,fun k hk1 hk2=>?_⟩
 rcases Nat.lt_or_ge k w.heap.size with h | h
 ·exact (h1.block k h).trans ((hS.below.block k h).symm.trans (hk.2 k hk1 hk2))
 ·exact (h2.2 k h (Nat.lt_of_lt_of_le hk2 hk.1)).trans (hk.2 k hk1 hk2)⟩
theorem Ev:kfS false=kSym:=by funext t;simp [kfS]
theorem Wz:kfS true=qQ:=by funext t;simp [kfS]
theorem osNo_lt {O:Own} {lo:Nat} (h:∀ p∈O,p.1 < lo):∀ (ev:Option Value) b,lo≤b→¬ XB (Vo O ev) (tE [] ev) b:=by
 rintro ev b h1 (⟨p,hp,rfl⟩ | ⟨g,hg,_⟩)
 ·exact absurd (h p hp) (Nat.not_lt_of_le h1)
 ·cases hg
def xS (lo:Nat) (M:World→Prop) (S:PS) (n:Nat) (xs:List PX):Asr:=fun v W=>∃ (b c9:Nat) (fs:List WF) (cs:List Value) (Kk:List (Nat×World)),v = .slice (some ⟨b,0,none⟩) n c9∧fs.length=n∧lo≤b∧W.heap[b]?=some (.cells (fs.flatMap WF.six++cs).toArray 44 (0,0))∧(∀ q∈Kk,lo≤q.1∧(b < q.1∨q.2.heap.size≤b)∧dD q.1 q.2 W)∧XLF (MK M Kk) S fs xs
theorem sF {P:Program} {f:FuncId} {vs:Array Value} {M:World→Prop} {S:PS} {w:World} {n lo:Nat} {xs:List PX} (hlo:lo≤w.heap.size) (h:Calls P f vs w (R7 M S w n xs)):Calls P f vs w (rC (xS lo M S n xs) w):=h.mono fun e w' ⟨b,c9,fs,cs,Kk,h1,h2,h3,h4,h5,h6,h7⟩=>by
 refine ⟨_,h1,fun w2 hg=>⟨b,c9,fs,cs,(w.heap.size,w)::Kk,rfl,h2,Nat.le_trans hlo h3,(hg.2 b h3 (bY h4)).trans h4,fun q hq=>?_,Jd h6 fun W hW=>⟨⟨hW.1,(hW.2 _ List.mem_cons_self).1⟩,fun q hq=>hW.2 q (List.mem_cons_of_mem _ hq)⟩⟩,h7⟩
 rcases List.mem_cons.1 hq with rfl | hq
 ·exact ⟨hlo,.inr h3,(aK h7 _).trans hg⟩
 ·obtain ⟨k1,k2,k3⟩:=h5 q hq
  exact ⟨Nat.le_trans hlo k1,k2,k3.trans (hg.mono k1)⟩
theorem M6 {P:Program} {f:FuncId} {vs:Array Value} {M:World→Prop} {S:PS} {w:World} {n lo:Nat} {xs:List PX} (hlo:lo≤w.heap.size) (h:Calls P f vs w (R7 M S w n xs)):Calls P f vs w (Mp lo (xS lo M S n xs) w) :=
 (sF hlo h).mono fun e w' ⟨v,h1,h2,h3⟩=>⟨v,h1,fun w2 hg=>h2 w2 (hg.mono hlo),h3⟩
theorem St.adoptRow {w0 W0 W:World} {O:Own} {K Ks Kk:List (Nat×World)} {b:Nat} {cs:List Value} {T:TypeId} (h0:St w0 O [] K W0) (h:St w0 O [] Ks W) (hK:∀ q∈K,q∈Ks) (hlo:W0.heap.size≤b) (hb:W.heap[b]?=some (.cells cs.toArray T (0,0))) (hk:∀ q∈Kk,W0.heap.size≤q.1∧(b < q.1∨q.2.heap.size≤b)∧dD q.1 q.2 W):St w0 ((b,cs,T)::O) [] (Kk++K) W where
 below:=h.below
 own:=fun p hp=>by
  rcases List.mem_cons.1 hp with rfl | hp
  ·exact ⟨Nat.le_trans h0.below.size hlo,hb⟩
  ·exact h.own p hp
 dist:=List.Pairwise.cons (fun p hp e=>by have:=h0.own_lt p hp;dsimp only at e;omega) h.dist
 kept:=fun q hq=>by
  rcases List.mem_append.1 hq with hq | hq
  ·obtain ⟨k1,k2,k3⟩:=hk q hq
   refine ⟨k3,fun p hp=>?_⟩
   rcases List.mem_cons.1 hp with rfl | hp
   ·exact k2
   ·exact .inl (Nat.lt_of_lt_of_le (h0.own_lt p hp) k1)
  ·refine ⟨(h.kept q (hK q hq)).1,fun p hp=>?_⟩
   rcases List.mem_cons.1 hp with rfl | hp
   ·exact .inr (Nat.le_trans (h0.kept q hq).1.1 hlo)
   ·exact (h.kept q (hK q hq)).2 p hp
 rows:=fun g hg=>by cases hg
 gdist:=List.Pairwise.nil
theorem G5 {w0:World} {K Kk:List (Nat×World)} {S:PS} {fs:List WF} {xs:List PX} (h:XLF (MK (MB w0 K) Kk) S fs xs):XLF (MB w0 (Kk++K)) S fs xs:=Jd h fun W hW=>⟨⟨hW.1,fun q hq=>hW.2 q (List.mem_append_right _ hq)⟩,fun q hq=>hW.2 q (List.mem_append_left _ hq)⟩
theorem M7 (ds d n9:Nat) (a:AV) (S:PS) (py:TV→PX) (bk:Bool) (kf:Nat) (w:World) (hin:AIn w ds d a) (hA:AutoOk w S py n9 a) (hkf:kf < n9) (wa:Option Addr) (wl wc:Nat) (ws:List Int) (hwa:Row w wa ws) (hwl:ws.length=wl) (hwm:wl≤9223372036854775807) (hask:eM a [(kf:Int)] ws=0) :
  Calls prog 17 #[a.val,.bool bk,.int .i64 (kf:Int),.slice wa wl wc] w (fun e w'=>∃ (f:WF) (x:PX),e = .returned (.tuple #[f.val,.int .i64 0])∧gR (fun W2=>Below w.heap.size w W2∧dD w.heap.size w' W2) S f x∧LubX S (xP S bk (egsX kSym py a.ts) (a.fs.map Int.toNat) kf ws) x∧Below w.heap.size w w'):=by
 refine cB (args:=[a.val,.bool bk,.int .i64 (kf:Int),.slice wa wl wc]) func17 rfl ntmps17 rfl ?_
 have hS:=St.start w
 have hask9:=kU hask
 obtain ⟨s,st,sy,fa,fl,fc,fs,ta,tl,tc,ts⟩:=a
 obtain rfl:st=(n9:Int):=hA.st
 have hs:SIn w ds s:=hin.s
 have hfrow:Row w fa fs:=hin.frow
 have hflen:fs.length=fl:=hin.flen
 have htrow:nO w ta ts:=hin.trow
 have htlen:ts.length=tl:=hin.tlen
 have htin:∀ t∈ts,WIn w d t.x:=hin.tin
 have hfm:fl≤9223372036854775807:=hin.fmax
 have htm:tl≤9223372036854775807:=hin.tmax
 have hn0:0 < n9:=Nat.lt_of_le_of_lt (Nat.zero_le _) hkf
 have hok:=hA.ok
 have hsi:SIs w S s.f:=hA.si
 have h4:=hA.n4
 have hgd:∀ t∈ts,inQ t.f (n9:Int)=true∧inQ t.t (n9:Int)=true:=fun t ht=>⟨hA.tf t ht,hA.tt t ht⟩
 have hf0:∀ s∈fs,0≤s:=fun s hs=>by obtain ⟨k,hk,_⟩:=fK (hA.fq s hs);omega
 refine aJ (aQ (bR (cs:=[_,_,_,_,_,_,_]) hS rfl rfl rfl fun B1 W1 hS=>bB (cs:=[_,_,_,_,_,_]) hS zeroValue44 rfl rfl fun B2 W2 hS=>aC rfl rfl (aN (XF.thenN (aJ (aQ (aS (vs:=[_,_,_,_,_,_,_]) isAgg29 sizeOf29 rfl (aB.own (j:=0) (m:=7) (hS.at_ 1 rfl) rfl) rfl (aE rfl rfl (cN (us:=[(0,.int .i64 _)]) hS underlying26 sizeOf3 zeroValue3 rfl rfl rfl (hQ _) rfl fun B3 W3 hS=>aE rfl rfl (cC (vs:=[_,_,_]) hS zI rfl (tD ds d s (n9:Int) sy fa fl fc fs ta tl tc ts _ (SIn.below hS.below hs) (hfrow.below hS.below) hflen (htrow.below hS.below) htlen (fun t ht=>WIn.below hS.below (htin t ht)) hfm htm _ 1 1 [(kf:Int)] wa wl wc ws (Ch (hS.at_ 0 rfl)) rfl (by decide) (hwa.below hS.below) hwl hwm) rfl fun W4 hS=>aC rfl rfl (aN (XF.thenN (aJ (aJ (aQ (aE rfl rfl (dX rfl rfl rfl (aN (XF.thenN (bA rfl (fun hc=>absurd (of_decide_eq_true hc) (by exact fun h=>h hask)) (fun hc=>?_)))))))))))))))))))))
 have hc:=of_decide_eq_false hc
 refine bM (XF.thenN (aJ ?_))
 have hS4:=hS
 have hlt4:=hS.own_lt
 refine Vn (ef:=6) (jy:=6) (ca:=pZ (fun _=>[])) (ta:=fun _=>0) (Os:=Vo _) (Gs:=tE _) (al:=[]) (k:=4) (ds:=[11,26]) cD rfl hS rfl (by kernel_rfl) (by kernel_rfl) rfl (by decide) rfl (fun _=>none) (.inr ⟨rfl,rfl,rfl⟩) rfl rfl (aW 1 rfl rfl (isV _) (fun hNo=>sgV [(4,_)] rfl rfl rfl rfl hNo (aR rfl) ⟨cF rfl,trivial⟩ (fun ev w he hw=>aX (vs:=[_,_,_,_,_,_,_]) isAgg29 sizeOf29 rfl ((aB.own (j:=0) (m:=7) (hw.at_ 2 rfl) rfl))) (aD rfl)) (aW 2 rfl rfl (isV _) (fun hNo=>sgV [(1,_)] rfl rfl rfl rfl hNo (aR rfl) ⟨cF rfl,trivial⟩ (fun ev w he hw=>aY rfl) (aD rfl)) (aW 3 rfl rfl (isV _) (fun hNo=>sgV [(4,_)] rfl rfl rfl rfl hNo (aR rfl) ⟨cF rfl,trivial⟩ (fun ev w he hw=>aX (vs:=[_,_,_,_,_,_,_]) isAgg29 sizeOf29 rfl ((aB.own (j:=0) (m:=7) (hw.at_ 2 rfl) rfl))) (aD rfl)) ?_)))
 refine aW 4 rfl rfl (xS W4.heap.size (MB w []) S n9 (kW S fs n9)) (fun hNo=>Jc [isV _] (osNo_lt hlt4) rfl rfl rfl hNo Pp (aR rfl) ⟨bU (aL 2 (aA rfl rfl rfl)),trivial⟩ (fun vs ev w' he hSt hlo hh=>by
  have e:=cA (us:=[_]) hh
  subst e
  exact M6 hlo (J7 ds d s n9 sy fa fl fc fs ta tl tc ts w' (SIn.below hSt.below hs) (hfrow.below hSt.below) hflen (htrow.below hSt.below) htlen (fun t ht=>WIn.below hSt.below (htin t ht)) hfm htm (MB w []) (pA (mQ w) []) (MB.of hSt (fun q hq=>by cases hq)) S (hsi.below hSt.below) hok h4 hn0)) (aD rfl)) ?_
 refine mP ?_
 intro Bf5 y5 W5 Ks5 hsz5 hKs5 hS' hcov5
 clear hS;have hS:=hS'.castO (O':=[_,_,_]) rfl;clear hS'
 refine tM (L':=[AwS _ _ (isV _),AwS _ _ (isV _),AwS _ _ (isV _),AwS _ _ (xS W4.heap.size (MB w []) S n9 (kW S fs n9))]) rfl (bG (bG (bG ?_)))
 refine dE ?_;rintro _ hA5
 obtain ⟨LB,cp,g7,cs7,Kk,rfl,hgl7,hlo9,hhp9,hKk9,hgs7⟩:=hA5.here
 have hS9:=St.adoptRow hS4 hS (fun q hq=>by simp [hq]) hlo9 hhp9 hKk9
 clear hS;have hS:=hS9;clear hS9
 have hgs9:=fun Kx=>lX (G5 hgs7) (K2:=Kk++Kx) (fun q hq=>by simp at hq;exact List.mem_append_left _ hq)
 refine cO (fY (vs:=[_,_,_,_]) xR rfl (uS S py n9 s (n9:Int) sy fa fl fc fs ta tl tc ts bk false LB cp g7 cs7 (kW S fs n9) _ _ w _ hS hA hgl7 (hgs9 _)) rfl ?_)
 rintro e W9 ⟨g8,y8,K8,rfl,hK8,hgl8,hgs8,hEp8,hCl8,hS9⟩
 refine ⟨_,rfl,?_⟩
 clear hS;have hS:=(hS9.perm (List.Perm.swap _ _ _)).tail;clear hS9
 rw [Ev] at hEp8 hCl8
 have hyo8:=uR hgs8 (MB.of hS (fun q hq=>hq))
 refine aC rfl rfl (aN (XF.thenN (aJ (aJ (aQ (aE rfl rfl (cX underlying26 rfl rfl (Ku rfl rfl (IntWalk.i64_in _ (by omega)) rfl (aC rfl rfl (aN (XF.thenN (bQ ?_))))))))))))
 refine eI (fun m l W=>∃ (j LB cp:Nat) (g7:List WF) (cs7:List Value) (ys:List PX) (K7:List (Nat×World)),j≤wl∧m=j+0∧l=[(1,.bool bk),(2,.int .i64 (kf:Int)),(3,.slice wa wl wc),(4,.pointer (some ⟨B1,0,none⟩)),(8,.pointer (some ⟨B2,0,none⟩)),(11,.slice (some ⟨LB,0,none⟩) n9 cp),(12,.int .i64 ((j:Int) - 1))]∧g7.length=n9∧XLF (MB w K7) S g7 ys∧FullB S bk (egsX kSym py ts) (fs.map Int.toNat) (ws.drop j) ys∧St w [(LB,g7.flatMap WF.six++cs7,44),(B2,ZC6,44),(B1,[.int .i64 s.f.tag,.int .i64 s.f.dim,.slice s.f.a s.f.len s.f.cap,.int .i64 (n9:Int),.int .i64 sy,.slice fa fl fc,.slice ta tl tc],29)] [] K7 W) (wl+0) ([(1,_),(2,_),(3,_),(4,_),(8,_),(11,_),(12,_)]) ⟨rfl,rfl,rfl,rfl,rfl,rfl,rfl,trivial⟩ (⟨wl,LB,cp,g8,cs7,y8,K8,Nat.le_refl _,rfl,rfl,hgl8,hgs8,by rw [List.drop_of_length_le (by omega)];exact yI hok (lI hA.py) (hA.eb kSym (fun _=>rfl)) hf0 hEp8 hyo8 hCl8,hS⟩) ?_
 clear hS
 clear hgs8 hEp8 hCl8 hyo8 hgs9 hgs7 hS4 hlt4;rintro j l W ⟨j2,LB,cp,g7,cs7,ys,K7,hj,rfl,rfl,hgl7,hgs7,hF7,hS⟩
 refine aJ (aJ (aQ (aE rfl rfl (oH rfl rfl rfl (aN (XF.thenN (bA rfl (fun hc=>?_) (fun hc=>?_))))))))
 ·have hc31:=of_decide_eq_true hc;clear hc
  obtain ⟨k,rfl⟩:∃ k,j=k+1:=⟨j - 1,by omega⟩
  obtain ⟨b,off,y,rfl,hy,hyc⟩:=hwa.at1 (show k < ws.length by omega)
  have hyq:=hask9.2.2 y (List.mem_of_getElem? hy)
  obtain ⟨y0,hy0,_⟩:∃ m:Nat,y=(m:Int)∧True:=by
   simp only [inQ,Bool.and_eq_true,decide_eq_true_eq] at hyq
   exact ⟨y.toNat,by omega,trivial⟩
  have hdk:ws.drop k=y::ws.drop (k+1):=by
   obtain ⟨hl,he⟩:=List.getElem?_eq_some_iff.1 hy
   rw [List.drop_eq_getElem_cons hl,he]
  refine bM (XF.thenN (aJ (bQ ?_)))
  have hS8:=hS
  refine regY (al:=[]) (G:=fun _=>[]) (E:=[]) (k:=10) (ds:=[11,44]) cD rfl hS rfl rfl (by kernel_rfl) (by kernel_rfl) rfl (by decide) rfl (jI 1 rfl (isV _) (syV jH [(4,_)] rfl rfl (fun _=>(aR rfl)) (fun _=>⟨cF rfl,trivial⟩) (fun s w hw=>aX (vs:=[_,_,_,_,_,_,_]) isAgg29 sizeOf29 rfl ((aB.own (j:=0) (m:=7) (hw.at_ 2 rfl) rfl))) (aD rfl)) (jI 2 rfl (isV _) (syV jH [(1,_)] rfl rfl (fun _=>(aR rfl)) (fun _=>⟨cF rfl,trivial⟩) (fun s w hw=>aY rfl) (aD rfl)) (jI 3 rfl (isV _) (syV jH [(4,_)] rfl rfl (fun _=>(aR rfl)) (fun _=>⟨cF rfl,trivial⟩) (fun s w hw=>aX (vs:=[_,_,_,_,_,_,_]) isAgg29 sizeOf29 rfl ((aB.own (j:=0) (m:=7) (hw.at_ 2 rfl) rfl))) (aD rfl)) (jI 4 rfl (isV _) (syV jH [(1,_)] rfl rfl (fun _=>(aR rfl)) (fun _=>⟨cF rfl,trivial⟩) (fun s w hw=>aY rfl) (aD rfl)) (jI 5 rfl (isV _) (syV jH [(3,_)] rfl rfl (fun _=>(aR rfl)) (fun _=>⟨cF rfl,trivial⟩) (fun s w hw=>aY rfl) (aD rfl)) (jI 6 rfl (isV _) (syV jH [(12,_)] rfl rfl (fun _=>(aR rfl)) (fun _=>⟨cF rfl,trivial⟩) (fun s w hw=>aY rfl) (aD rfl)) (jI 7 rfl (isV _) (syV jH [(38,_),(39,_)] rfl rfl (fun _=>(aR rfl)) (fun _=>⟨aL 4 (Mk rfl rfl (aA rfl rfl rfl)),aL 5 (Mk rfl rfl (aA rfl rfl rfl)),trivial⟩) (fun s w hw=>bE (j:=k) underlying26 sizeOf3 rfl rfl (by omega) (by omega) rfl) (aD rfl)) (jI 8 rfl (isV _) (syV jH [(40,_)] rfl rfl (fun _=>(aR rfl)) (fun _=>⟨aL 6 (Mk rfl rfl (aA rfl rfl rfl)),trivial⟩) (fun s w hw=>bC isAgg3 rfl (hw.agree.cell (Nat.zero_le _) (hyc))) (aD rfl)) (jI 9 rfl (isV _) (syV jH [(11,_)] rfl rfl (fun _=>(aR rfl)) (fun _=>⟨cF rfl,trivial⟩) (fun s w hw=>aY rfl) (aD rfl)) ?_)))))))))
  refine jI 10 rfl (xS W.heap.size (MB w K7) S n9 (nQ S bk y ys py n9 ts)) (sy_call jH (fun s=>[isV _,isV _,isV _,isV _]) rfl rfl goes_62 (fun _=>aR rfl) (fun s=>⟨bU (aL 2 (Mk rfl rfl (aA rfl rfl rfl))),bU (aL 3 (Mk rfl rfl (aA rfl rfl rfl))),bU (aL 7 (Mk rfl rfl (aA rfl rfl rfl))),bU (aL 8 (Mk rfl rfl (aA rfl rfl rfl))),trivial⟩) (fun vs s0 w' hk hw hlo hh=>by
   have e:=cA (us:=[_,_,_,_]) hh
   subst e
   exact sF hlo (Ww ds d s n9 sy fa fl fc fs ta tl tc ts w' (SIn.below hw.below hs) (hfrow.below hw.below) hflen (htrow.below hw.below) htlen (fun t ht=>WIn.below hw.below (htin t ht)) hfm htm (MB w K7) (pA (mQ w) K7) (MB.of hw (fun q hq=>hq)) S (hsi.below hw.below) hok h4 bk y (some ⟨LB,0,none⟩) cp g7 ys py (Wa (hw.own _ List.mem_cons_self).2) hgs7 (by rw [← hgs7.1];exact hgl7) hgd (fun t ht=>(hA.px t ht).far.mono fun W h=>h.1) hn0)) (aD rfl)) ?_
  refine bly_nil ?_
  intro s6 W6 Ks6 hall6 hsz6 hKs6 hS' hcov6 hfx6 hno6
  clear hS;have hS:=hS'.castO (O':=[_,_,_]) rfl;clear hS'
  refine tM (L':=[AwS _ _ (isV _),AwS _ _ (isV _),AwS _ _ (isV _),AwS _ _ (isV _),AwS _ _ (isV _),AwS _ _ (isV _),AwS _ _ (isV _),AwS _ _ (isV _),AwS _ _ (isV _),AwS _ _ (xS W.heap.size (MB w K7) S n9 (nQ S bk y ys py n9 ts))]) rfl (bG (bG (bG (bG (bG (bG (bG (bG (bG ?_)))))))))
  refine dE ?_;rintro v8 h8
  obtain ⟨LN,cn,gN,csN,Kk,rfl,hglN,hloN,hhpN,hKkN,hgsN⟩:=h8.here
  have hS9:=St.adoptRow hS8 hS (fun q hq=>by simp [hq]) hloN hhpN hKkN
  clear hS;have hS:=hS9;clear hS9
  have hgs9:=G5 hgsN
  refine cO (fY (vs:=[_,_,_,_]) xR rfl (uS S py n9 s (n9:Int) sy fa fl fc fs ta tl tc ts bk false LN cn gN csN (nQ S bk y ys py n9 ts) _ _ w _ hS hA hglN hgs9) rfl ?_)
  rintro e W9 ⟨g8,y8,K8,rfl,hK8,hgl8,hgs8,hEp8,hCl8,hS9⟩
  refine ⟨_,rfl,?_⟩
  clear hS;have hS:=(hS9.perm (List.Perm.swap _ _ _)).tail;clear hS9
  rw [Ev] at hEp8 hCl8
  have hyo8:=uR hgs8 (MB.of hS (fun q hq=>hq))
  refine aC rfl rfl (aN (XF.blkN (XF.thenN (aQ (aE rfl rfl (Ku rfl rfl (IntWalk.i64_in _ (by omega)) rfl (aC rfl rfl (aN ?_))))))))
  exact XF.round (k+0) [(1,_),(2,_),(3,_),(4,_),(8,_),(11,_),(12,_)] (by omega) ⟨rfl,rfl,rfl,rfl,rfl,rfl,rfl,trivial⟩ ⟨k,LN,cn,g8,csN,y8,K8,by omega,rfl,by rw [show ((k+1:Nat):Int) - 1 - 1=(k:Int) - 1 by omega],hgl8,hgs8,by rw [hdk];exact M3 hok hA.py hA.inN hF7 (uR hgs7 (MB.of hS8 (fun q hq=>hq))) (by rw [← hgs7.1];exact hgl7) (by omega) hEp8 hyo8 hCl8,hS⟩
 ·have hc31:=of_decide_eq_false hc;clear hc
  obtain rfl:j=0:=by omega
  rw [List.drop_zero] at hF7
  obtain ⟨f9,x9,hf9,hx9,hF9⟩:=hgs7.at_ (k:=kf) (by omega)
  refine eF (XF.thenX (XF.thenX (XF.blkX (XF.thenN (aJ (aQ (aE rfl rfl (aE rfl rfl (cK (j:=kf) underlying42 sizeOf44 rfl rfl (rfl) (hkf) rfl rfl (aS (vs:=[_,_,_,_,_,_]) isAgg44 sizeOf44 rfl (aB.own (j:=0+kf * 6) (m:=6) (hS.at_ 0 rfl) (lW hf9)) rfl (aU (i:=1) (vs:=[_,_,_,_,_,_]) (cs':=[_,_,_,_,_,_]) (O':=[_,_,_]) hS sizeOf44 rfl rfl rfl rfl rfl rfl rfl fun W7 hS=>aC rfl rfl (aN (XF.thenN (bX (XF.res (mG (vs:=[_,_,_,_,_,_]) results17 isAgg44 sizeOf44 rfl (aB.own (j:=0) (m:=6) (hS.at_ 1 rfl) rfl) rfl) ?_)))))))))))))))
  exact ⟨f9,x9,rfl,hF9.mono (fun W2 hW=>Wy hS hW.1 hW.2),Eu hok (lI hA.py) hF7 hx9,hS.below⟩
def PmT (i:Nat) (v:Value) (ON:Own):Prop:=ON=[(0,[v],0)]
def TtG (w0:World) (O:Own) (K:List (Nat×World)) (S:PS) (n:Nat) (xs0:List PX) (Fin:List PX→Prop) (s:Mks) (w:World):Prop :=
 ∃ Kx:List (Nat×World),(∀ q∈K,q∈Kx)∧St w0 O [] Kx w∧(∀ ON,(4,ON)∈s→∃ ON',(3,ON')∈s)∧(∀ v,(3,[(0,[v],0)])∈s→(∀ ON,(4,ON)∉s)→∃ (b cp:Nat) (fs:List WF) (cs:List Value),v = .slice (some ⟨b,0,none⟩) n cp∧fs.length=n∧XLF (MB w0 Kx) S fs xs0∧St w0 ((b,fs.flatMap WF.six++cs,44)::O) [] Kx w) ∧
  (∀ v,(4,[(0,[v],0)])∈s→∃ (b cp:Nat) (fs:List WF) (cs:List Value) (ys:List PX),v = .slice (some ⟨b,0,none⟩) n cp∧fs.length=n∧XLF (MB w0 Kx) S fs ys∧Fin ys∧St w0 ((b,fs.flatMap WF.six++cs,44)::O) [] Kx w)
section
variable {w0 w w':World} {O:Own} {K:List (Nat×World)} {S:PS} {n:Nat} {xs0:List PX} {Fin:List PX→Prop} {s:Mks}
theorem TtG.start (h:St w0 O [] K w):TtG w0 O K S n xs0 Fin [] w.drew :=
 ⟨K,fun q hq=>hq,h.grow (Below.refl _ _).drew,(fun ON h=>by cases h),(fun v h=>by cases h),fun v h=>by cases h⟩
theorem TtG.st (h:TtG w0 O K S n xs0 Fin s w):∃ Kx,St w0 O [] Kx w:=⟨_,h.choose_spec.2.1⟩
theorem TtG.ends {P:Program} {f:FuncId} {vs:Array Value} (h:TtG w0 O K S n xs0 Fin s w) (hnew:∀ ON,(3,ON)∉s) (hc:∀ Kx,St w0 O [] Kx w→Calls P f vs w (R7 (MB w0 []) S w n xs0)) :
  Calls P f vs w fun e w'=>∃ v ON,e = .returned v∧(fun v ON w'=>PmT 3 v ON∧TtG w0 O K S n xs0 Fin ((3,ON)::s) w') v ON w':=by
 obtain ⟨Kx,h1,h2,h3,h4,h5⟩:=h
 refine (sF (Nat.le_refl _) (hc _ h2)).mono ?_
 rintro e w' ⟨v,rfl,hv,hb⟩
 obtain ⟨b,cp,fs,cs,Kk,rfl,hl,hlo,hh,hk,hx⟩:=hv w' (dD.refl _ _)
 have hS:=St.adoptRow h2 (h2.grow hb) (fun q hq=>hq) hlo hh hk
 have hx9:XLF (MB w0 (Kk++Kx)) S fs xs0:=lX (G5 hx) (fun q hq=>by simp at hq;exact List.mem_append_left _ hq)
 refine ⟨_,[(0,[.slice (some ⟨b,0,none⟩) n cp],0)],rfl,rfl,Kk++Kx,fun q hq=>List.mem_append_right _ (h1 q hq),hS.tail,fun ON hO=>?_,fun v hv hn=>?_,fun v hv=>?_⟩
 ·rcases List.mem_cons.1 hO with hO | hO
  ·cases hO
  ·exact absurd (h3 ON hO).choose_spec (hnew _)
 ·rcases List.mem_cons.1 hv with hv | hv
  ·cases hv
   exact ⟨b,cp,fs,cs,rfl,hl,hx9,hS⟩
  ·exact absurd hv (hnew _)
 ·rcases List.mem_cons.1 hv with hv | hv
  ·cases hv
  ·exact absurd (h3 _ hv).choose_spec (hnew _)
theorem TtG.still {P:Program} {f:FuncId} {v3:Value} {V:Value→Array Value} (h:TtG w0 O K S n xs0 Fin s w) (hnew:∀ ON,(4,ON)∉s) (h3v:∃ ON,(3,ON)∈s∧PmT 3 v3 ON)
  (hc:∀ (b cp:Nat) (fs:List WF) (cs:List Value) (Kx:List (Nat×World)),fs.length=n→XLF (MB w0 Kx) S fs xs0→St w0 ((b,fs.flatMap WF.six++cs,44)::O) [] Kx w→Calls P f (V (.slice (some ⟨b,0,none⟩) n cp)) w fun e w'=>∃ (gs':List WF) (ys:List PX) (Kn:List (Nat×World)),e = .returned (.slice (some ⟨b,0,none⟩) n cp)∧(∀ q∈Kx,q∈Kn)∧gs'.length=n∧XLF (MB w0 Kn) S gs' ys∧Fin ys∧St w0 ((b,gs'.flatMap WF.six++cs,44)::O) [] Kn w') :
  Calls P f (V v3) w fun e w'=>∃ v ON,e = .returned v∧(fun v ON w'=>PmT 4 v ON∧TtG w0 O K S n xs0 Fin ((4,ON)::s) w') v ON w':=by
 obtain ⟨Kx,h1,h2,h3,h4,h5⟩:=h
 obtain ⟨O3,hO3,e3⟩:=h3v
 subst e3
 obtain ⟨b,cp,fs,cs,rfl,hl,hx,hS⟩:=h4 v3 hO3 hnew
 refine (hc b cp fs cs Kx hl hx hS).mono ?_
 rintro e w' ⟨gs,ys,Kn,rfl,hk,hgl,hgs,hF,hS9⟩
 refine ⟨_,[(0,[.slice (some ⟨b,0,none⟩) n cp],0)],rfl,rfl,Kn,fun q hq=>hk q (h1 q hq),hS9.tail,fun ON hO=>⟨_,List.mem_cons_of_mem _ hO3⟩,fun v hv hn=>?_,fun v hv=>?_⟩
 ·exact absurd List.mem_cons_self (hn _)
 ·rcases List.mem_cons.1 hv with hv | hv
  ·cases hv
   exact ⟨b,cp,gs,cs,ys,rfl,hgl,hgs,hF,hS9⟩
  ·exact absurd hv (hnew _)
theorem TtG.last {v4:Value} (h:TtG w0 O K S n xs0 Fin s w) (h4v:∃ ON,(4,ON)∈s∧PmT 4 v4 ON):∃ (b cp:Nat) (fs:List WF) (cs:List Value) (ys:List PX) (Kx:List (Nat×World)),v4 = .slice (some ⟨b,0,none⟩) n cp∧fs.length=n∧XLF (MB w0 Kx) S fs ys∧Fin ys∧St w0 ((b,fs.flatMap WF.six++cs,44)::O) [] Kx w:=by
 obtain ⟨Kx,h1,h2,h3,h4,h5⟩:=h
 obtain ⟨O4,hO4,e4⟩:=h4v
 subst e4
 obtain ⟨b,cp,fs,cs,ys,k1,k2,k3,k4,k5⟩:=h5 v4 hO4
 exact ⟨b,cp,fs,cs,ys,Kx,k1,k2,k3,k4,k5⟩
end
theorem M8 (ds d n9:Nat) (a:AV) (S:PS) (py:TV→PX) (bk:Bool) (kf:Nat) (w:World) (hin:AIn w ds d a) (hA:AutoOk w S py n9 a) (hkf:kf < n9) (hask:eM a [(kf:Int)] []=0) :
  Calls prog 19 #[a.val,.bool bk,.int .i64 (kf:Int)] w (fun e w'=>∃ (f:WF) (x:PX),e = .returned (.tuple #[f.val,.int .i64 0])∧gR (fun W2=>Below w.heap.size w W2∧dD w.heap.size w' W2) S f x∧LubX S (xP S bk (egsX qQ py a.ts) (a.fs.map Int.toNat) kf []) x∧Below w.heap.size w w'):=by
 refine cB (args:=[a.val,.bool bk,.int .i64 (kf:Int)]) func19 rfl ntmps19 rfl ?_
 have hS:=St.start w
 have hask9:=kU hask
 obtain ⟨s,st,sy,fa,fl,fc,fs,ta,tl,tc,ts⟩:=a
 obtain rfl:st=(n9:Int):=hA.st
 have hs:SIn w ds s:=hin.s
 have hfrow:Row w fa fs:=hin.frow
 have hflen:fs.length=fl:=hin.flen
 have htrow:nO w ta ts:=hin.trow
 have htlen:ts.length=tl:=hin.tlen
 have htin:∀ t∈ts,WIn w d t.x:=hin.tin
 have hfm:fl≤9223372036854775807:=hin.fmax
 have htm:tl≤9223372036854775807:=hin.tmax
 have hn0:0 < n9:=Nat.lt_of_le_of_lt (Nat.zero_le _) hkf
 have hok:=hA.ok
 have hsi:SIs w S s.f:=hA.si
 have h4:=hA.n4
 have hgd:∀ t∈ts,inQ t.f (n9:Int)=true∧inQ t.t (n9:Int)=true:=fun t ht=>⟨hA.tf t ht,hA.tt t ht⟩
 have hf0:∀ s∈fs,0≤s:=fun s hs=>by obtain ⟨k,hk,_⟩:=fK (hA.fq s hs);omega
 refine aJ (aQ (bR (cs:=[_,_,_,_,_,_,_]) hS rfl rfl rfl fun B1 W1 hS=>bB (cs:=[_,_,_,_,_,_]) hS zeroValue44 rfl rfl fun B2 W2 hS=>aC rfl rfl (aN (XF.thenN (aJ (aQ (aS (vs:=[_,_,_,_,_,_,_]) isAgg29 sizeOf29 rfl (aB.own (j:=0) (m:=7) (hS.at_ 1 rfl) rfl) rfl (aE rfl rfl (cN (us:=[(0,.int .i64 _)]) hS underlying26 sizeOf3 zeroValue3 rfl rfl rfl (hQ _) rfl fun B3 W3 hS=>cC (vs:=[_,_,_]) hS zI rfl (tD ds d s (n9:Int) sy fa fl fc fs ta tl tc ts _ (SIn.below hS.below hs) (hfrow.below hS.below) hflen (htrow.below hS.below) htlen (fun t ht=>WIn.below hS.below (htin t ht)) hfm htm _ 1 1 [(kf:Int)] none 0 0 [] (Ch (hS.at_ 0 rfl)) rfl (by decide) (.inl rfl) rfl (by decide)) rfl fun W4 hS=>aC rfl rfl (aN (XF.thenN (aJ (aJ (aQ (aE rfl rfl (dX rfl rfl rfl (aN (XF.thenN (bA rfl (fun hc=>absurd (of_decide_eq_true hc) (by exact fun h=>h hask)) (fun hc=>?_))))))))))))))))))))
 have hc:=of_decide_eq_false hc
 refine bM (XF.thenN (aJ (Wg (mk:=[3,4]) (k:=6) (vals:=fun i=>match i with | 0=>.agg #[.int .i64 s.f.tag,.int .i64 s.f.dim,.slice s.f.a s.f.len s.f.cap,.int .i64 (n9:Int),.int .i64 sy,.slice fa fl fc,.slice ta tl tc] | 1=>.bool bk | 2=>.agg #[.int .i64 s.f.tag,.int .i64 s.f.dim,.slice s.f.a s.f.len s.f.cap,.int .i64 (n9:Int),.int .i64 sy,.slice fa fl fc,.slice ta tl tc] | _=>.int .i64 (kf:Int)) (Pm:=PmT) (TtG w _ _ S n9 (kW S fs n9) (fun ys=>EpB S bk (egsX (kfS true) py ts) (kW S fs n9) ys∧ClB S bk (egsX (kfS true) py ts) ys)) cD (TtG.start hS) (Nat.le_of_ble_eq_true (by kernel_rfl)) (by kernel_rfl) (by kernel_rfl) ?_ ?_ (by decide) ?_)))
 ·intro i hi hin9 s0 a0 ac w8 ha0 hF9 hG hD
  have hfr:∀ t v,freeT _ t=true→look _ t=some v→ac.eval (.tmp t)=v:=fun t v h1 h2=>(hF9 t h1).trans (ha0.at_ t v h2)
  obtain ⟨Kx,hS9⟩:=hG.st
  match i,hi,hin9 with
  | 0,_,_=>exact ⟨_,rfl,rfl,by
   exact aX (l:=[(3,_)]) (vs:=[_,_,_,_,_,_,_]) isAgg29 sizeOf29 rfl ((aB.own (j:=0) (m:=7) (hS9.at_ 2 rfl) rfl)) ac.eval (iC (hfr 3 _ (by kernel_rfl) rfl))⟩
  | 1,_,_=>exact ⟨_,rfl,rfl,by
   exact aY (l:=[(1,_)]) rfl ac.eval (iC (hfr 1 _ (by kernel_rfl) rfl))⟩
  | 2,_,_=>exact ⟨_,rfl,rfl,by
   exact aX (l:=[(3,_)]) (vs:=[_,_,_,_,_,_,_]) isAgg29 sizeOf29 rfl ((aB.own (j:=0) (m:=7) (hS9.at_ 2 rfl) rfl)) ac.eval (iC (hfr 3 _ (by kernel_rfl) rfl))⟩
  | 5,_,_=>exact ⟨_,rfl,rfl,by
   exact aY (l:=[(2,_)]) rfl ac.eval (iC (hfr 2 _ (by kernel_rfl) rfl))⟩
  | 3,_,h9=>exact absurd (by decide) h9
  | 4,_,h9=>exact absurd (by decide) h9
  | i+6,h9,_=>omega
 ·intro i him s0 a0 ac w8 ha0 hF9 hG hnew hD
  have hcase:i=3∨i=4:=by simpa using him
  rcases hcase with rfl | rfl
  ·have e1:ac.eval (.tmp 19) = .agg #[.int .i64 s.f.tag,.int .i64 s.f.dim,.slice s.f.a s.f.len s.f.cap,.int .i64 (n9:Int),.int .i64 sy,.slice fa fl fc,.slice ta tl tc]:=(hD 2 19 (by kernel_rfl)).1 (by decide)
   refine tA rfl Pp (vs:=[.agg #[.int .i64 s.f.tag,.int .i64 s.f.dim,.slice s.f.a s.f.len s.f.cap,.int .i64 (n9:Int),.int .i64 sy,.slice fa fl fc,.slice ta tl tc]]) (by simp only [List.map_cons,List.map_nil,e1]) ?_
   exact hG.ends hnew fun Kx hSt=>J7 ds d s n9 sy fa fl fc fs ta tl tc ts w8 (SIn.below hSt.below hs) (hfrow.below hSt.below) hflen (htrow.below hSt.below) htlen (fun t ht=>WIn.below hSt.below (htin t ht)) hfm htm (MB w []) (pA (mQ w) []) (MB.of hSt (fun q hq=>by cases hq)) S (hsi.below hSt.below) hok h4 hn0
  ·have e1:ac.eval (.tmp 17) = .agg #[.int .i64 s.f.tag,.int .i64 s.f.dim,.slice s.f.a s.f.len s.f.cap,.int .i64 (n9:Int),.int .i64 sy,.slice fa fl fc,.slice ta tl tc]:=(hD 0 17 (by kernel_rfl)).1 (by decide)
   have e2:ac.eval (.tmp 18) = .bool bk:=(hD 1 18 (by kernel_rfl)).1 (by decide)
   refine tA rfl xR (vs:=[.agg #[.int .i64 s.f.tag,.int .i64 s.f.dim,.slice s.f.a s.f.len s.f.cap,.int .i64 (n9:Int),.int .i64 sy,.slice fa fl fc,.slice ta tl tc],.bool bk,.bool true,ac.eval (.tmp 20)]) (by simp only [List.map_cons,List.map_nil,e1,e2];rfl) ?_
   refine TtG.still (V:=fun v=>#[.agg #[.int .i64 s.f.tag,.int .i64 s.f.dim,.slice s.f.a s.f.len s.f.cap,.int .i64 (n9:Int),.int .i64 sy,.slice fa fl fc,.slice ta tl tc],.bool bk,.bool true,v]) hG hnew ((hD 3 20 (by kernel_rfl)).2 (by decide)) fun b cp gs cs Kx hgl hgs hSt=>(uS S py n9 s (n9:Int) sy fa fl fc fs ta tl tc ts bk true b cp gs cs (kW S fs n9) _ _ w _ hSt hA hgl hgs).mono ?_
   rintro e w9 ⟨g8,y8,K8,h1,h2,h3,h4,h5,h6,h7⟩
   exact ⟨g8,y8,K8,h1,h2,h3,h4,⟨h5,h6⟩,h7⟩
 ·intro s0 ac w8 hG hsz hdf hfr hval hin9 hmk hkeys hdist
  obtain ⟨LB,cp,g8,cs8,y8,K8,e21,hgl8,hgs8,⟨hEp8,hCl8⟩,hS⟩:=hG.last (hmk 4 21 (by decide) rfl)
  refine (show cS _ _ _ _ (List.drop 6 _) [(6,.pointer (some ⟨B2,0,none⟩)),(21,.slice (some ⟨LB,0,none⟩) n9 cp),(22,.int .i64 (kf:Int))] w8 from ?_) ac (Jp.has hsz hdf ⟨hfr 6 _ (by kernel_rfl) rfl,e21,hval 5 22 (by decide) (by decide) rfl,trivial⟩)
  rw [Wz] at hEp8 hCl8
  have hyo8:=uR hgs8 (MB.of hS (fun q hq=>hq))
  have hF8:=yI hok (lI (kf:=qQ) hA.py) (hA.eb qQ (fun _=>rfl)) hf0 hEp8 hyo8 hCl8
  obtain ⟨f9,x9,hf9,hx9,hF9⟩:=hgs8.at_ (k:=kf) (by omega)
  refine cK (j:=kf) underlying42 sizeOf44 rfl rfl (rfl) (hkf) rfl rfl (aS (vs:=[_,_,_,_,_,_]) isAgg44 sizeOf44 rfl (aB.own (j:=0+kf * 6) (m:=6) (hS.at_ 0 rfl) (lW hf9)) rfl (aU (i:=2) (vs:=[_,_,_,_,_,_]) (cs':=[_,_,_,_,_,_]) (O':=[_,_,_,_]) hS sizeOf44 rfl rfl rfl rfl rfl rfl rfl fun W5 hS=>aC rfl rfl (aN (XF.thenN (bX (XF.res (mG (vs:=[_,_,_,_,_,_]) results19 isAgg44 sizeOf44 rfl (aB.own (j:=0) (m:=6) (hS.at_ 2 rfl) rfl) rfl) ?_))))))
  exact ⟨f9,x9,rfl,hF9.mono (fun W2 hW=>Wy hS hW.1 hW.2),Eu hok (lI hA.py) hF8 hx9,hS.below⟩
theorem Pq:bH prog 57=true:=by kernel_rfl
theorem Ci (S:PS) (a:AV) (f0:WF) (bk:Bool) (bm VA VX RB IA WA n:Nat) (va:Value) (fs:List WF) (p:Nat) (Ot:Own) (Gt:cU) (K:List (Nat×World)) (w0:World) (lo:Nat) (py:TV→PX) (kf:TV→Int×Int) (w:World) (hS0:St w0 ((RB,rdC f0 a bk bm VA VX,109)::(VA,gU va n IA WA,139)::(IA,inC S (List.replicate n (bP S)),4)::(WA,wC fs,44)::Ot) (⟨va,([]:List Nat).length,atC ([]:List Nat),3,1⟩::Gt) K w) (hV:VecOk S w0 K n fs (List.replicate n (bP S)) []) (hn:n≤4096) (hp:p < n) (hM:oG w0 K kf lo a.ts bm) (htrow:nO w0 a.ta a.ts) (htlen:a.ts.length=a.tl) (htm:a.tl≤65536) (htq:∀ t∈a.ts,inQ t.t (n:Int)=true) (hpy:∀ t∈a.ts,XIs w0 S t.x.f (py t)) (hkf:∀ t∈a.ts,∃ s:Nat,(kf t).1=(s:Int)∧s < n) (hht:Iv S≤4194304) (hsi:SIs w0 S a.s.f) (hok:S.ok) (ht:Tabs w0) (H0:mE w0 K (fun W=>XIs W S f0 (bP S))) :
  Calls prog 55 #[.pointer (some ⟨RB,0,none⟩),.int .i64 (p:Int)] w (fun e w'=>∃ (u:Value) (l':List Nat) (fs':List WF) (xs':List PX) (Kn:List (Nat×World)),e = .returned (.tuple #[])∧(∀ q∈K,q∈Kn)∧VecOk S w0 Kn n fs' xs' l'∧Eps S bk (egsX kf py a.ts) ((List.replicate n (bP S)).set p (jW S)) xs'∧xQ S bk (egsX kf py a.ts) xs'∧St w0 ((RB,rdC f0 a bk bm VA VX,109)::(VA,gU u n IA WA,139)::(IA,inC S xs',4)::(WA,wC fs',44)::Ot) (⟨u,l'.length,atC l',3,1⟩::Gt) Kn w'):=by
 refine cB (args:=[.pointer (some ⟨RB,0,none⟩),.int .i64 (p:Int)]) func55 rfl ntmps55 rfl ?_
 have hS:=hS0
 refine aJ (Vn (ef:=12) (jy:=12) (ca:=pZ (fun _=>[])) (ta:=fun _=>0) (Os:=Vo _) (Gs:=tE _) (al:=[]) (k:=11) (ds:=[15]) cD rfl hS rfl (by kernel_rfl) (by kernel_rfl) rfl (by decide) rfl (fun _=>none) (.inr ⟨rfl,rfl,rfl⟩) rfl rfl (aW 1 rfl rfl (isV _) (fun hNo=>sgV [(0,_)] rfl rfl rfl rfl hNo (aR rfl) ⟨cF rfl,trivial⟩ (fun ev w he hw=>aY rfl) (aD rfl)) (aW 2 rfl rfl (isV _) (fun hNo=>sgV [(0,_)] rfl rfl rfl rfl hNo (aR rfl) ⟨cF rfl,trivial⟩ (fun ev w he hw=>aY rfl) (aD rfl)) (aW 3 rfl rfl (isV _) (fun hNo=>sgV [(5,_)] rfl rfl rfl rfl hNo (aR rfl) ⟨aL 1 (aA rfl rfl rfl),trivial⟩ (fun ev w he hw=>cT rfl) (aD rfl)) (aW 4 rfl rfl (isV _) (fun hNo=>sgV [(6,_)] rfl rfl rfl rfl hNo (aR rfl) ⟨aL 2 (aA rfl rfl rfl),trivial⟩ (fun ev w he hw=>aV (o':=18) kR rfl rfl) (aD rfl)) (aW 5 rfl rfl (isV _) (fun hNo=>sgV [(7,_)] rfl rfl rfl rfl hNo (aR rfl) ⟨aL 3 (aA rfl rfl rfl),trivial⟩ (fun ev w he hw=>bC isAgg107 rfl ((aH (hw.at_ 0 rfl) rfl))) (aD rfl)) (aW 6 rfl rfl (isV _) (fun hNo=>sgV [(1,_)] rfl rfl rfl rfl hNo (aR rfl) ⟨cF rfl,trivial⟩ (fun ev w he hw=>aY rfl) (aD rfl)) (aW 7 rfl rfl (isV _) (fun hNo=>sgV [(0,_)] rfl rfl rfl rfl hNo (aR rfl) ⟨cF rfl,trivial⟩ (fun ev w he hw=>aY rfl) (aD rfl)) (aW 8 rfl rfl (isV _) (fun hNo=>sgV [(10,_)] rfl rfl rfl rfl hNo (aR rfl) ⟨aL 6 (aA rfl rfl rfl),trivial⟩ (fun ev w he hw=>cT rfl) (aD rfl)) (aW 9 rfl rfl (isV _) (fun hNo=>sgV [(11,_)] rfl rfl rfl rfl hNo (aR rfl) ⟨aL 7 (aA rfl rfl rfl),trivial⟩ (fun ev w he hw=>aV (o':=0) nR rfl rfl) (aD rfl)) (aW 10 rfl rfl (isV _) (fun hNo=>sgV [(12,_)] rfl rfl rfl rfl hNo (aR rfl) ⟨aL 8 (aA rfl rfl rfl),trivial⟩ (fun ev w he hw=>aX (vs:=[_,_,_,_,_,_,_,_,_]) isAgg76 sizeOf76 rfl ((aB.own (j:=0) (m:=9) (hw.at_ 0 rfl) rfl))) (aD rfl)) ?_)))))))))))
 refine aW 11 rfl rfl (dH w.heap.size S (jW S)) (fun hNo=>vV [isV _] rfl rfl rfl rfl hNo goes_65 (aR rfl) ⟨bU (aL 9 (aA rfl rfl rfl)),trivial⟩ (fun vs ev w' he hSt hlo hh=>by have e:=cA (us:=[_]) hh;subst e;exact nK hlo (Md S a.s.f f0 w' (hsi.below hSt.below) hok)) (aD rfl)) ?_
 refine mP ?_
 intro Bf1 y1 W1 Ks1 hsz1 hKs1 hS' hcov1
 clear hS;have hS:=hS'.castO (O':=(_::_::_::_::Ot)) rfl;clear hS'
 refine tM (L':=[AwS _ _ (isV _),AwS _ _ (isV _),AwS _ _ (isV _),AwS _ _ (isV _),AwS _ _ (isV _),AwS _ _ (isV _),AwS _ _ (isV _),AwS _ _ (isV _),AwS _ _ (isV _),AwS _ _ (isV _),AwS _ _ (dH w.heap.size S (jW S))]) rfl (bG (bG (bG (bG (bG (bG (bG (bG (bG (bG ?_))))))))))
 refine dE ?_;rintro vP h8p;obtain ⟨f9,rfl,hn9⟩:=h8p.here
 have HX9:mE w0 (Ks1++K) (fun W2=>XIs W2 S f9 (jW S)):=fun h2 hk=>(newS hn9 h8p (hcov1 h2 (fun q hq=>hk q (List.mem_append_left _ hq))) (Nat.le_refl _)).is
 obtain ⟨K8,hK8⟩:∃ x,x=Ks1++K:=⟨_,rfl⟩
 have hK98:∀ q∈K,q∈K8:=fun q hq=>by rw [hK8];exact List.mem_append_right _ hq
 rw [← hK8] at HX9 hS
 refine cO (fY (vs:=[_,_,_,_]) Gy rfl (Bu S a f0 bk bm VA VX RB VA IA WA n va fs (List.replicate n (bP S)) [] Ot Gt K8 K8 w0 p f9 (jW S) (bP S) _ hS (fun q hq=>hq) (hV.more hK98) hn hp (by rw [List.getElem?_replicate,if_pos hp]) hsi hok ht (H0.more hK98) HX9 (mL hok)) rfl ?_)
 rintro e W9 ⟨u8,l8,fs8,Kw8,rfl,_,hV8,hl8,hS8⟩
 rw [pT (mL hok)] at hV8 hS8
 obtain ⟨Kn8,hKn8⟩:∃ x,x=Kw8++K8:=⟨_,rfl⟩
 rw [← hKn8] at hV8 hS8
 have hsub8:∀ q∈K,q∈Kn8:=fun q hq=>by rw [hKn8];exact List.mem_append_right _ (hK98 q hq)
 refine ⟨_,rfl,?_⟩
 clear hS;have hS:=hS8;clear hS8
 refine aN (XF.thenN (aQ (aE rfl rfl (fY (vs:=[_]) Pq rfl (yG S a f0 bk bm VA VX RB IA WA n u8 fs8 ((List.replicate n (bP S)).set p (jW S)) l8 Ot Gt Kn8 w0 lo py kf _ hS hV8 hn (hM.more hsub8) htrow htlen htm htq hpy hkf hht hsi hok ht (H0.more hsub8)) rfl ?_))))
 rintro e W10 ⟨u9,l9,fs9,xs9,Kn9,rfl,hsub9,hV9,hE9,hC9,hS9⟩
 refine ⟨_,rfl,?_⟩
 clear hS;have hS:=hS9;clear hS9
 refine aN (XF.resN (Km results55) ?_)
 exact ⟨u9,l9,fs9,xs9,Kn9,rfl,(fun q hq=>hsub9 q (hsub8 q hq)),hV9,hE9,hC9,hS⟩
theorem J8 (ds d:Nat) (s:SV) (st sy:Int) (fa:Option Addr) (fl fc:Nat) (fs:List Int) (ta:Option Addr) (tl tc:Nat) (ts:List TV) (w:World) (hs:SIn w ds s) (hfrow:Row w fa fs) (hflen:fs.length=fl) (htrow:nO w ta ts) (htlen:ts.length=tl) (htin:∀ t∈ts,WIn w d t.x) (hfm:fl≤9223372036854775807) (htm:tl≤9223372036854775807) (ra:Option Addr) (rl rc:Nat) (fr:List Int) (hra:Row w ra fr) (hrl:fr.length=rl) (hrm:rl≤9223372036854775807) :
  Calls prog 52 #[.agg #[.int .i64 s.f.tag,.int .i64 s.f.dim,.slice s.f.a s.f.len s.f.cap,.int .i64 st,.int .i64 sy,.slice fa fl fc,.slice ta tl tc],.slice ra rl rc] w (fun e w'=>e = .returned (.int .i64 (eM ⟨s,st,sy,fa,fl,fc,fs,ta,tl,tc,ts⟩ fr []))∧Below w.heap.size w w'):=by
 refine cB (args:=[.agg #[.int .i64 s.f.tag,.int .i64 s.f.dim,.slice s.f.a s.f.len s.f.cap,.int .i64 st,.int .i64 sy,.slice fa fl fc,.slice ta tl tc],.slice ra rl rc]) func52 rfl ntmps52 rfl ?_
 have hS:=St.start w
 refine aJ (aQ (bR (cs:=[_,_,_,_,_,_,_]) hS rfl rfl rfl fun B1 W1 hS=>aC rfl rfl (aN (XF.thenN (aJ (aJ (aQ (aS (vs:=[_,_,_,_,_,_,_]) isAgg29 sizeOf29 rfl (aB.own (j:=0) (m:=7) (hS.at_ 0 rfl) rfl) rfl (cC (vs:=[_]) hS goes_8 rfl (V5 ds d ⟨s,st,sy,fa,fl,fc,fs,ta,tl,tc,ts⟩ _ (AIn.below ⟨hs,hfrow,hflen,htrow,htlen,htin,hfm,htm⟩ hS.below)) rfl fun W2 hS=>aC rfl rfl (aN (XF.thenN (aJ (aQ (aE rfl rfl (dX rfl rfl rfl (aN (XF.thenN (bA rfl (fun hc=>?_) (fun hc=>?_)))))))))))))))))))
 ·have hc11:=of_decide_eq_true hc;clear hc
  refine aJ (aQ (aE rfl rfl (aC rfl rfl (aN (XF.thenN (bX (XF.thenR (XF.res (cQ results52 rfl) ?_))))))))
  exact ⟨eK (by unfold eM;rw [if_pos hc11]),hS.below⟩
 ·have hc11:=of_decide_eq_false hc;clear hc
  have h0:¬ fA ⟨s,st,sy,fa,fl,fc,fs,ta,tl,tc,ts⟩≠0:=hc11
  refine bM (XF.thenN (aJ (aJ (aQ (aE rfl rfl (cX underlying26 rfl rfl (aE rfl rfl (aN (XF.thenN (bQ (eI (fun m l W=>∃ i:Nat,i≤rl∧m=rl - i∧l=[(2,.pointer (some ⟨B1,0,none⟩)),(13,.slice ra rl rc),(14,.int .i64 (rl:Int)),(15,.int .i64 (i:Int))]∧(fr.take i).all (fun y=>inQ y st)=true∧St w [(B1,[.int .i64 s.f.tag,.int .i64 s.f.dim,.slice s.f.a s.f.len s.f.cap,.int .i64 st,.int .i64 sy,.slice fa fl fc,.slice ta tl tc],29)] [] [] W) (rl - 0) ([(2,_),(13,_),(14,_),(15,_)]) ⟨rfl,rfl,rfl,rfl,trivial⟩ (⟨0,Nat.zero_le _,rfl,rfl,rfl,hS.clear⟩) ?_)))))))))))
  clear hS
  rintro m l W ⟨i,hi,rfl,rfl,hall,hS⟩
  refine aJ (aQ (cY rfl rfl rfl (aN (XF.thenN (aJ (bA rfl (fun hc=>?_) (fun hc=>?_)))))))
  ·have hc16:=of_decide_eq_true hc;clear hc
   have hk:i < rl:=by omega
   obtain ⟨b,off,y,rfl,hy,hyc⟩:=hra.at1 (show i < fr.length by omega)
   have k1:=hS.old hyc
   refine bM (XF.thenN (aJ (bQ (aJ (aQ (cK  underlying26 sizeOf3 rfl rfl rfl (by omega) rfl rfl (aT isAgg3 rfl (k1) rfl (aC rfl rfl (aN (XF.thenN (aJ (aQ (aS (vs:=[_,_,_,_,_,_,_]) isAgg29 sizeOf29 rfl (aB.own (j:=0) (m:=7) (hS.at_ 0 rfl) rfl) rfl (aE rfl rfl (cC (vs:=[_,_]) hS zG rfl (wD ⟨s,st,sy,fa,fl,fc,fs,ta,tl,tc,ts⟩ y _) rfl fun W3 hS=>fS rfl rfl (aN (XF.thenN (bA rfl (fun hc=>?_) (fun hc=>?_)))))))))))))))))))
   ·have hc22:=hc;clear hc
    refine aJ (aQ (aC rfl rfl (aN (XF.thenN (bX (XF.blkR (XF.thenR (XF.thenR (XF.blkR (XF.thenR (XF.res (cQ results52 rfl) ?_)))))))))))
    exact ⟨eK (by unfold eM;rw [if_neg h0,if_neg (by rw [dB hy (by have h9:=hc22;simpa using h9)];decide)]),hS.below⟩
   ·have hc22:=hc;clear hc
    refine bM (XF.blkN (XF.thenN (aQ (cZ rfl rfl (IntWalk.i64_in _ (by omega)) rfl (aE rfl rfl (aN ?_))))))
    exact XF.round (rl - (i+1)) [(2,_),(13,_),(14,_),(15,_)] (by omega) ⟨rfl,rfl,rfl,rfl,trivial⟩ ⟨i+1,by omega,rfl,rfl,fP hy hall (by have h9:=hc22;simpa using h9),hS.clear⟩
  ·have hc16:=of_decide_eq_false hc;clear hc
   rw [List.take_of_length_le (by omega)] at hall
   refine eF (XF.thenX (XF.thenX (XF.blkX (XF.thenN (aJ (aQ (aC rfl rfl (aN (XF.thenN (bX (XF.res (cQ results52 rfl) ?_)))))))))))
   exact ⟨eK (by unfold eM;rw [if_neg h0,if_pos hall,if_pos (show ([]:List Int).all _=true from rfl)]),hS.below⟩
theorem mU (ds d:Nat) (a:AV) (w:World) (h:AIn w ds d a) (ra:Option Addr) (rl rc:Nat) (fr:List Int) (hra:Row w ra fr) (hrl:fr.length=rl) (hrm:rl≤9223372036854775807):Calls prog 52 #[a.val,.slice ra rl rc] w (fun e w'=>e = .returned (.int .i64 (eM a fr []))∧Below w.heap.size w w'):=J8 ds d _ _ _ _ _ _ _ _ _ _ _ w h.s h.frow h.flen h.trow h.tlen h.tin h.fmax h.tmax ra rl rc fr hra hrl hrm
end Go.Proofs.YtmgnkpibpjgncaaGreatDoor
