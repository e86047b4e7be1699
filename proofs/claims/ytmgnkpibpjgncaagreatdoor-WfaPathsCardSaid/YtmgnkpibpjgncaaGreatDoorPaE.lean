import Derived.WideKeyEntry
import Derived.DeepKeys4
import Derived.Lib.AppendZeros
import Derived.Lib.ItoaLen
import Derived.Lib.UnsafeStr
import Derived.Lib.AppendIntMem
import Derived.Test.YtmgnkpibpjgncaaGreatDoorPaD
set_option maxRecDepth 100000
set_option maxHeartbeats 4000000
set_option linter.unusedVariables false
set_option linter.unusedVariables false
set_option linter.unusedSimpArgs false
set_option linter.unusedSectionVars false
set_option linter.unnecessarySimpa false
namespace Go.Proofs.YtmgnkpibpjgncaaGreatDoor
open Go Go.RowKit
def mD (lo:Nat) (S:PS) (x:PX):Asr:=fun v w=>∃ b,v = .slice (some ⟨b,0,none⟩) 2 2∧fU lo w S (rB b) x
theorem mU {lo:Nat} {S:PS} {x:PX}:iT (mD lo S x):=fun v w w' ⟨b,h1,h2⟩ hb=>⟨b,h1,h2.below hb⟩
theorem has_one {b:Act} {v:Value} (h:b.eval (.tmp 16)=v):∀ x u,evL [(16,v)] x=some u→b.eval x=u:=by
 intro x u hx
 cases x with
 | tmp t =>
  have hx':look [(16,v)] t=some u:=hx
  unfold look at hx'
  cases hb:Nat.beq 16 t with
  | true =>
   simp only [hb,cond_true,Option.some.injEq] at hx'
   rw [← Nat.eq_of_beq_eq_true hb,h,hx']
  | false =>
   simp only [hb,cond_false] at hx'
   cases hx'
 | const c=>exact Option.some.inj hx
 | global g=>exact Option.some.inj hx
 | func f=>exact Option.some.inj hx
section
variable {n:Nat} {Q:Exit→Act→World→Prop} {l:Fr} {W:World} {ops:Array Oper} {L:List Asr} {i d:Nat} {ty:TypeId} {pos:String} {aft:Array Edge} {gd:Option (Nat×Bool)} {t k u m:Int} {x y:PF} {p q:Operand}
theorem tZ (hi:ops[i]?=some ⟨some d,.buildSlice 42 2 (List.toArray [(0,p),(1,q)]),ty,pos,aft,gd⟩) (hw:gX ops L i ⟨some d,.buildSlice 42 2 (List.toArray [(0,p),(1,q)]),ty,pos,aft,gd⟩) (hp:wJ n ops l L i [p,q] [dL W.heap.size (.one t k) (.one x),dL W.heap.size (.one u m) (.one y)]) (hI:atI L i=mD W.heap.size (.two t k u m) (.two x y)):RG Tryz.prog n ops Q l W L i :=
 Ec [dL W.heap.size (.one t k) (.one x),dL W.heap.size (.one u m) (.one y)] hi hw Tryz.underlying42 Tryz.sizeOf44 Tryz.zeroValue44 rfl rfl hp fun vs w hb hh=>by
  obtain ⟨v1,v2,rfl,⟨f,rfl,hf⟩,g,rfl,hg⟩:=pM hh
  refine ⟨f.six++g.six,rT _ _ _ _ _ _ _ _ _ _ _ _,fun B w' hB h1 h2=>?_⟩
  rw [hI]
  rcases Do h1 with h | ⟨b,off,e,h3⟩
  ·cases h
  ·cases e
   exact ⟨B,rfl,Ap (h3 0 f rfl) (h3 1 g rfl) (by rw [← hB];exact hb.size) (PNew.below hf h2) (PNew.below hg h2)⟩
theorem Fy {lo:Nat} {S:PS} {z:PX} (hi:ops[i]?=some ⟨some d,.build 44 (List.toArray [(4,.tmp 16)]),ty,pos,aft,gd⟩) (hw:gX ops L i ⟨some d,.build 44 (List.toArray [(4,.tmp 16)]),ty,pos,aft,gd⟩) (hp:OpG n ops l L i 16 (mD lo S z)) (hI:atI L i=dL lo S z):RG Tryz.prog n ops Q l W L i:=fun a ha=>qI hi hw fun b w hF hG hD=>by
 obtain ⟨B,hv,hx⟩:=hp a ha b w hF hD
 refine ⟨(rB B).val,w,?_,by rw [hI];exact ⟨rB B,rfl,hx⟩,Below.refl _ _⟩
 rw [fZ b.eval _ _ _ _ pos _ #[] _ none]
 exact yZ (l:=[(16,.slice (some ⟨B,0,none⟩) 2 2)]) (us:=[(4,.slice (some ⟨B,0,none⟩) 2 2)]) rfl (Qr _ _ _) b.eval (has_one hv)
end
theorem rJ (t n:Int) (sa:Option Addr) (sc:Nat) (w:World) (hp:bL t n 0=true) :
  Calls Tryz.prog 102 #[.agg #[.int .i64 t,.int .i64 n,.slice sa 0 sc]] w (gN (.one t n) (.one dJ) w):=by
 refine cD (args:=[.agg #[.int .i64 t,.int .i64 n,.slice sa 0 sc]]) Tryz.func102 rfl Tryz.ntmps102 rfl ?_
 have hS:=St.start w
 refine aM (aQ (bT (cs:=[_,_,_]) hS rfl rfl rfl fun B1 W1 hS=>bC (cs:=[_,_,_,_,_,_]) hS Tryz.zeroValue44 rfl rfl fun B2 W2 hS=>aO (XF.thenN (aM (aM (aQ (aN (o':=0) eU rfl rfl rfl (aS Tryz.isAgg22 rfl (aJ (hS.at_ 1 rfl) rfl) rfl (cH rfl rfl rfl (aO (XF.thenN (bB rfl (fun hc=>absurd (of_decide_eq_true hc) (by exact kR hp)) (fun hc=>?_)))))))))))))
 have hc:=of_decide_eq_false hc
 refine bJ (XF.thenN (aM (aQ (cX (us:=[(0,.bool _)]) rfl (qN _) rfl (aU (i:=0) (vs:=[_,_,_,_,_,_]) (cs':=[_,_,_,_,_,_]) (O':=[_,_]) hS Tryz.sizeOf44 rfl rfl rfl rfl rfl rfl rfl fun W3 hS=>aO (XF.thenN (bR (XF.res (dP (vs:=[_,_,_,_,_,_]) Tryz.results102 Tryz.isAgg44 Tryz.sizeOf44 rfl (aD.own (j:=0) (m:=6) (hS.at_ 0 rfl) rfl)) ?_))))))))
 exact ⟨sT,rfl,oK _ _ _ _,hS.below⟩
theorem Kz (t n u m:Int) (a1 a2:Option Addr) (c1 c2 b off sc:Nat) (w:World) (hs1:S3 w b off ⟨t,n,a1,0,c1⟩) (hs2:S3 w b (off+3) ⟨u,m,a2,0,c2⟩) (hp1:bL t n 0=true) (hp2:bL u m 0=true) :
  Calls Tryz.prog 102 #[.agg #[.int .i64 5,.int .i64 0,.slice (some ⟨b,off,none⟩) 2 sc]] w (gN (.two t n u m) (.two dJ dJ) w):=by
 refine cD (args:=[.agg #[.int .i64 5,.int .i64 0,.slice (some ⟨b,off,none⟩) 2 sc]]) Tryz.func102 rfl Tryz.ntmps102 rfl ?_
 have hS:=St.start w
 refine aM (aQ (bT (cs:=[_,_,_]) hS rfl rfl rfl fun B1 W1 hS=>bC (cs:=[_,_,_,_,_,_]) hS Tryz.zeroValue44 rfl rfl fun B2 W2 hS=>aO (XF.thenN (aM (aM (aQ (aN (o':=0) eU rfl rfl rfl (aS Tryz.isAgg22 rfl (aJ (hS.at_ 1 rfl) rfl) rfl (cH rfl rfl rfl (aO (XF.thenN (bB rfl (fun hc=>?_) (fun hc=>absurd (of_decide_eq_false hc) (by omega))))))))))))))
 have hc:=of_decide_eq_true hc
 refine aM ?_
 have hsz:=hS.below.size
 have k1:=aD.agree hS.agree (Nat.zero_le _) hs1.cells
 have k2:=aD.agree hS.agree (Nat.zero_le _) hs2.cells
 refine qM bY 12 hS rfl rfl (by kernel_rfl) (by kernel_rfl) (by kernel_rfl) (fun d hd=>by cases hd) (cQ 1 rfl 1 rfl (by kernel_rfl) rfl (fun w hw=>aV (o':=2) fB rfl rfl) rfl (bI 2 rfl 6 0 rfl (by kernel_rfl) rfl rfl (fun w hw=>aZ Tryz.isAgg23 rfl ((aL hw 0).cell (Nat.zero_le _) (aJ (hS.at_ 1 rfl) rfl))) rfl (bI 3 rfl 7 1 rfl (by kernel_rfl) rfl rfl (fun w hw=>aX (j:=0) Tryz.underlying23 Tryz.sizeOf25 rfl rfl rfl (by omega) (Nat.add_zero _)) rfl (bI 4 rfl 8 2 rfl (by kernel_rfl) rfl rfl (fun w hw=>aY (vs:=[_,_,_]) Tryz.isAgg25 Tryz.sizeOf25 rfl (aD.agree (aL hw 0) (Nat.zero_le _) (by assumption))) rfl ?_))))
 refine aG 5 rfl (dL W2.heap.size (.one t n) (.one dJ)) (dO) (cP [isV _] rfl zD (aT rfl) ⟨bW (aP 3 (by kernel_rfl) (aA rfl rfl rfl)),trivial⟩ (fun vs w' hb hh=>by have e:=bZ (us:=[_]) hh;subst e;exact fF hb.size (rJ _ _ _ _ _ hp1)) (aE rfl)) ?_
 refine cQ 6 rfl 1 rfl (by kernel_rfl) rfl (fun w hw=>aV (o':=2) fB rfl rfl) rfl (bI 7 rfl 11 5 rfl (by kernel_rfl) rfl rfl (fun w hw=>aZ Tryz.isAgg23 rfl ((aL hw 0).cell (Nat.zero_le _) (aJ (hS.at_ 1 rfl) rfl))) rfl (bI 8 rfl 12 6 rfl (by kernel_rfl) rfl rfl (fun w hw=>aX (j:=1) Tryz.underlying23 Tryz.sizeOf25 rfl rfl rfl (by omega) rfl) rfl (bI 9 rfl 13 7 rfl (by kernel_rfl) rfl rfl (fun w hw=>aY (vs:=[_,_,_]) Tryz.isAgg25 Tryz.sizeOf25 rfl (aD.agree (aL hw 0) (Nat.zero_le _) (by assumption))) rfl ?_)))
 refine aG 10 rfl (dL W2.heap.size (.one u m) (.one dJ)) (dO) (cP [isV _] rfl zD (aT rfl) ⟨bW (aP 8 (by kernel_rfl) (aA rfl rfl rfl)),trivial⟩ (fun vs w' hb hh=>by have e:=bZ (us:=[_]) hh;subst e;exact fF hb.size (rJ _ _ _ _ _ hp2)) (aE rfl)) ?_
 refine aG 11 rfl (mD W2.heap.size (.two t n u m) (.two dJ dJ)) (mU) (tZ rfl (aT rfl) ⟨bW (aP 4 (by kernel_rfl) (aA rfl rfl rfl)),bW (aP 9 (by kernel_rfl) (aA rfl rfl rfl)),trivial⟩ (aE rfl)) (aG 12 rfl (dL W2.heap.size (.two t n u m) (.two dJ dJ)) (dO) (Fy rfl (aT rfl) (aP 10 (by kernel_rfl) (aA rfl rfl rfl)) (aE rfl)) (dE ?_))
 intro W3 hbR hS'
 clear hS;have hS:=hS';clear hS'
 refine aF (aF (aF (aF ?_)))
 refine dF ?_;rintro _ ⟨v1,rfl,hn1⟩
 refine aF (aF (aF (aF ?_)))
 refine dF ?_;rintro _ ⟨v2,rfl,hn2⟩
 refine dF ?_;rintro _ _
 refine dF ?_;rintro _ ⟨v3,rfl,hn3⟩
 refine cI (aU (i:=0) (vs:=[_,_,_,_,_,_]) (cs':=[_,_,_,_,_,_]) (O':=[_,_]) hS Tryz.sizeOf44 rfl rfl rfl rfl rfl rfl rfl fun W4 hS=>aO (XF.thenN (bR (XF.thenR (XF.res (dP (vs:=[_,_,_,_,_,_]) Tryz.results102 Tryz.isAgg44 Tryz.sizeOf44 rfl (aD.own (j:=0) (m:=6) (hS.at_ 0 rfl) rfl)) ?_)))))
 exact ⟨v3,rfl,(hn3.agree (hS.since 0 rfl)).mono hsz,hS.below⟩
theorem T6 {S:PS} {sf:SF} {w:World} (hs:SIs w S sf) (hok:S.ok):Calls Tryz.prog 102 #[sf.val] w (gN S (bX S) w):=by
 cases S with
 | one t n =>
  obtain ⟨a,c,rfl⟩:=hs
  exact rJ _ _ _ _ _ hok
 | two t n u m =>
  obtain ⟨b,off,c,a1,c1,a2,c2,rfl,h1,h2⟩:=hs
  exact Kz _ _ _ _ _ _ _ _ _ _ _ _ h1 h2 hok.1 hok.2
theorem Ps (t n:Int) (sa:Option Addr) (sc:Nat) (w:World) (hp:bL t n 0=true) (ht4:t≠4) :
  Calls Tryz.prog 127 #[.agg #[.int .i64 t,.int .i64 n,.slice sa 0 sc]] w (gN (.one t n) (.one (gU t n)) w):=by
 refine cD (args:=[.agg #[.int .i64 t,.int .i64 n,.slice sa 0 sc]]) Tryz.func127 rfl Tryz.ntmps127 rfl ?_
 have hS:=St.start w
 refine aM (aQ (bT (cs:=[_,_,_]) hS rfl rfl rfl fun B1 W1 hS=>bC (cs:=[_,_,_,_,_,_]) hS Tryz.zeroValue44 rfl rfl fun B2 W2 hS=>aO (XF.thenN (aM (aQ (cX (us:=[]) rfl (jG) rfl (bC (cs:=[_,_,_,_,_,_]) hS Tryz.zeroValue44 rfl rfl fun B3 W3 hS=>aU (i:=0) (vs:=[_,_,_,_,_,_]) (cs':=[_,_,_,_,_,_]) (O':=[_,_,_]) hS Tryz.sizeOf44 rfl rfl rfl rfl rfl rfl rfl fun W4 hS=>aO (XF.thenN (aM (aM (aQ (aN (o':=0) eU rfl rfl rfl (aS Tryz.isAgg22 rfl (aJ (hS.at_ 2 rfl) rfl) rfl (aO (XF.thenN (bP (aM (aQ (cH rfl rfl rfl (aB rfl rfl (aO (XF.thenN (bB rfl (fun hc=>?_) (fun hc=>?_))))))))))))))))))))))))
 ·have hc8:=of_decide_eq_true hc;clear hc
  have e3:t=3:=hc8
  subst e3
  obtain ⟨m,rfl,hm⟩:=yD hp (.inl rfl)
  refine aQ (aN (o':=1) eV rfl rfl rfl (aS Tryz.isAgg3 rfl (aJ (hS.at_ 2 rfl) rfl) rfl ?_))
  have hsz:=hS.below.size
  refine cK (vs:=[_]) hS Qz rfl ((oneR_is m _ _ (uZ hm).1 _ (uZ hm).2).mono fun _ _ h=>Hf.ret h) rfl ?_
  rintro e W5 ⟨a1,c1,rfl,hv,hl,hb⟩
  refine ⟨_,rfl,hb,fun hS'=>?_⟩
  clear hS;have hS:=hS';clear hS'
  refine aH rfl rfl (bE rfl rfl rfl (bE rfl rfl rfl (aN (o':=2) eB rfl rfl rfl (aU (i:=0) (vs:=[_,_]) (cs':=[_,_,_,_,_,_]) (O':=[_,_,_]) hS Tryz.sizeOf40 rfl rfl rfl rfl rfl rfl rfl fun W6 hS=>aO (XF.blkN (XF.thenN (aM (aQ (aR (vs:=[_,_,_,_,_,_]) Tryz.isAgg44 Tryz.sizeOf44 rfl (aD.own (j:=0) (m:=6) (hS.at_ 0 rfl) rfl) rfl (aU (i:=1) (vs:=[_,_,_,_,_,_]) (cs':=[_,_,_,_,_,_]) (O':=[_,_,_]) hS Tryz.sizeOf44 rfl rfl rfl rfl rfl rfl rfl fun W7 hS=>aO (XF.thenN (bR (XF.res (dP (vs:=[_,_,_,_,_,_]) Tryz.results127 Tryz.isAgg44 Tryz.sizeOf44 rfl (aD.own (j:=0) (m:=6) (hS.at_ 1 rfl) rfl)) ?_)))))))))))))
  exact eN (Td hm (hv.agree (fun ad e=>(hl ad e).1) (hS.since 0 rfl)) (fun ad e=>Nat.le_trans hsz (hl ad e).1)) hS.below
 ·have hc8:=of_decide_eq_false hc;clear hc
  refine aM (aQ (cH rfl rfl rfl (aB rfl rfl (aO (XF.thenN (bB rfl (fun hc=>absurd (of_decide_eq_true hc) (by exact ht4)) (fun hc=>?_)))))))
  have hc:=of_decide_eq_false hc
  refine aM (aQ (cH rfl rfl rfl (aB rfl rfl (aO (XF.thenN (bB rfl (fun hc=>absurd (of_decide_eq_true hc) (by exact kR hp)) (fun hc=>?_)))))))
  have hc:=of_decide_eq_false hc
  refine bJ (XF.blkN (XF.thenN (aM (aQ (aR (vs:=[_,_,_,_,_,_]) Tryz.isAgg44 Tryz.sizeOf44 rfl (aD.own (j:=0) (m:=6) (hS.at_ 0 rfl) rfl) rfl (aU (i:=1) (vs:=[_,_,_,_,_,_]) (cs':=[_,_,_,_,_,_]) (O':=[_,_,_]) hS Tryz.sizeOf44 rfl rfl rfl rfl rfl rfl rfl fun W8 hS=>aO (XF.thenN (bR (XF.res (dP (vs:=[_,_,_,_,_,_]) Tryz.results127 Tryz.isAgg44 Tryz.sizeOf44 rfl (aD.own (j:=0) (m:=6) (hS.at_ 1 rfl) rfl)) ?_)))))))))
  exact eN (Tc hp hc8 ht4) hS.below
theorem Pt (t n u m:Int) (a1 a2:Option Addr) (c1 c2 b off sc:Nat) (w:World) (hs1:S3 w b off ⟨t,n,a1,0,c1⟩) (hs2:S3 w b (off+3) ⟨u,m,a2,0,c2⟩) (hp1:bL t n 0=true) (hp2:bL u m 0=true) (ih10:∀ W:World,Calls Tryz.prog 127 #[.agg #[.int .i64 t,.int .i64 n,.slice a1 0 c1]] W (gN (.one t n) (.one (gU t n)) W)) (ih20:∀ W:World,Calls Tryz.prog 127 #[.agg #[.int .i64 u,.int .i64 m,.slice a2 0 c2]] W (gN (.one u m) (.one (gU u m)) W)) :
  Calls Tryz.prog 127 #[.agg #[.int .i64 5,.int .i64 0,.slice (some ⟨b,off,none⟩) 2 sc]] w (gN (.two t n u m) (.two (gU t n) (gU u m)) w):=by
 refine cD (args:=[.agg #[.int .i64 5,.int .i64 0,.slice (some ⟨b,off,none⟩) 2 sc]]) Tryz.func127 rfl Tryz.ntmps127 rfl ?_
 have hS:=St.start w
 refine aM (aQ (bT (cs:=[_,_,_]) hS rfl rfl rfl fun B1 W1 hS=>bC (cs:=[_,_,_,_,_,_]) hS Tryz.zeroValue44 rfl rfl fun B2 W2 hS=>aO (XF.thenN (aM (aQ (cX (us:=[]) rfl (jG) rfl (bC (cs:=[_,_,_,_,_,_]) hS Tryz.zeroValue44 rfl rfl fun B3 W3 hS=>aU (i:=0) (vs:=[_,_,_,_,_,_]) (cs':=[_,_,_,_,_,_]) (O':=[_,_,_]) hS Tryz.sizeOf44 rfl rfl rfl rfl rfl rfl rfl fun W4 hS=>aO (XF.thenN (aM (aM (aQ (aN (o':=0) eU rfl rfl rfl (aS Tryz.isAgg22 rfl (aJ (hS.at_ 2 rfl) rfl) rfl (aO (XF.thenN (bP (aM (aQ (cH rfl rfl rfl (aB rfl rfl (aO (XF.thenN (bB rfl (fun hc=>absurd (of_decide_eq_true hc) (by omega)) (fun hc=>?_))))))))))))))))))))))))
 have hc:=of_decide_eq_false hc
 refine aM (aQ (cH rfl rfl rfl (aB rfl rfl (aO (XF.thenN (bB rfl (fun hc=>absurd (of_decide_eq_true hc) (by omega)) (fun hc=>?_)))))))
 have hc:=of_decide_eq_false hc
 refine aM (aQ (cH rfl rfl rfl (aB rfl rfl (aO (XF.thenN (bB rfl (fun hc=>?_) (fun hc=>absurd (of_decide_eq_false hc) (by omega))))))))
 have hc:=of_decide_eq_true hc
 have hsz:=hS.below.size
 have k1:=aD.agree hS.agree (Nat.zero_le _) hs1.cells
 have k2:=aD.agree hS.agree (Nat.zero_le _) hs2.cells
 have ih1:=fun (W2:World) (_:Below W4.heap.size W4 W2)=>ih10 W2
 have ih2:=fun (W2:World) (_:Below W4.heap.size W4 W2)=>ih20 W2
 refine qM bY 12 hS rfl rfl (by kernel_rfl) (by kernel_rfl) (by kernel_rfl) (fun d hd=>by cases hd) (cQ 1 rfl 1 rfl (by kernel_rfl) rfl (fun w hw=>aV (o':=2) fB rfl rfl) rfl (bI 2 rfl 35 0 rfl (by kernel_rfl) rfl rfl (fun w hw=>aZ Tryz.isAgg23 rfl ((aL hw 0).cell (Nat.zero_le _) (aJ (hS.at_ 2 rfl) rfl))) rfl (bI 3 rfl 36 1 rfl (by kernel_rfl) rfl rfl (fun w hw=>aX (j:=0) Tryz.underlying23 Tryz.sizeOf25 rfl rfl rfl (by omega) (Nat.add_zero _)) rfl (bI 4 rfl 37 2 rfl (by kernel_rfl) rfl rfl (fun w hw=>aY (vs:=[_,_,_]) Tryz.isAgg25 Tryz.sizeOf25 rfl (aD.agree (aL hw 0) (Nat.zero_le _) (by assumption))) rfl ?_))))
 refine aG 5 rfl (dL W4.heap.size (.one t n) (.one (gU t n))) (dO) (cP [isV _] rfl zC (aT rfl) ⟨bW (aP 3 (by kernel_rfl) (aA rfl rfl rfl)),trivial⟩ (fun vs w' hb hh=>by have e:=bZ (us:=[_]) hh;subst e;exact fF hb.size (ih1 _ hb)) (aE rfl)) ?_
 refine cQ 6 rfl 1 rfl (by kernel_rfl) rfl (fun w hw=>aV (o':=2) fB rfl rfl) rfl (bI 7 rfl 40 5 rfl (by kernel_rfl) rfl rfl (fun w hw=>aZ Tryz.isAgg23 rfl ((aL hw 0).cell (Nat.zero_le _) (aJ (hS.at_ 2 rfl) rfl))) rfl (bI 8 rfl 41 6 rfl (by kernel_rfl) rfl rfl (fun w hw=>aX (j:=1) Tryz.underlying23 Tryz.sizeOf25 rfl rfl rfl (by omega) rfl) rfl (bI 9 rfl 42 7 rfl (by kernel_rfl) rfl rfl (fun w hw=>aY (vs:=[_,_,_]) Tryz.isAgg25 Tryz.sizeOf25 rfl (aD.agree (aL hw 0) (Nat.zero_le _) (by assumption))) rfl ?_)))
 refine aG 10 rfl (dL W4.heap.size (.one u m) (.one (gU u m))) (dO) (cP [isV _] rfl zC (aT rfl) ⟨bW (aP 8 (by kernel_rfl) (aA rfl rfl rfl)),trivial⟩ (fun vs w' hb hh=>by have e:=bZ (us:=[_]) hh;subst e;exact fF hb.size (ih2 _ hb)) (aE rfl)) ?_
 refine aG 11 rfl (mD W4.heap.size (.two t n u m) (.two (gU t n) (gU u m))) (mU) (tZ rfl (aT rfl) ⟨bW (aP 4 (by kernel_rfl) (aA rfl rfl rfl)),bW (aP 9 (by kernel_rfl) (aA rfl rfl rfl)),trivial⟩ (aE rfl)) (cQ 12 rfl 3 rfl (by kernel_rfl) rfl (fun w hw=>aV (o':=5) cN rfl rfl) rfl (dE ?_))
 intro W5 hbR hS'
 clear hS;have hS:=hS';clear hS'
 refine aF (aF (aF (aF ?_)))
 refine dF ?_;rintro _ ⟨v1,rfl,hn1⟩
 refine aF (aF (aF (aF ?_)))
 refine dF ?_;rintro _ ⟨v2,rfl,hn2⟩
 refine dF ?_;rintro _ ⟨b9,rfl,hn9⟩
 refine aF (cI (dT (i:=0) (cs':=[_,_,_,_,_,_]) (O':=[_,_,_]) hS Tryz.sizeOf42 rfl rfl rfl rfl rfl rfl rfl fun W6 hS=>aO (XF.blkN (XF.thenN (aM (aQ (aR (vs:=[_,_,_,_,_,_]) Tryz.isAgg44 Tryz.sizeOf44 rfl (aD.own (j:=0) (m:=6) (hS.at_ 0 rfl) rfl) rfl (aU (i:=1) (vs:=[_,_,_,_,_,_]) (cs':=[_,_,_,_,_,_]) (O':=[_,_,_]) hS Tryz.sizeOf44 rfl rfl rfl rfl rfl rfl rfl fun W7 hS=>aO (XF.thenN (bR (XF.res (dP (vs:=[_,_,_,_,_,_]) Tryz.results127 Tryz.isAgg44 Tryz.sizeOf44 rfl (aD.own (j:=0) (m:=6) (hS.at_ 1 rfl) rfl)) ?_)))))))))))
 exact ⟨rB b9,rfl,(hn9.agree (hS.since 0 rfl)).mono hsz,hS.below⟩
theorem oneR_4 (m:Nat) (sa:Option Addr) (sc:Nat) (w:World) (hm:m≤64) :
  Calls Tryz.prog 127 #[.agg #[.int .i64 4,.int .i64 (m:Int),.slice sa 0 sc]] w (gN (.one 4 m) (.one (gU 4 m)) w):=by
 refine cD (args:=[.agg #[.int .i64 4,.int .i64 (m:Int),.slice sa 0 sc]]) Tryz.func127 rfl Tryz.ntmps127 rfl ?_
 have hS:=St.start w
 refine aM (aQ (bT (cs:=[_,_,_]) hS rfl rfl rfl fun B1 W1 hS=>bC (cs:=[_,_,_,_,_,_]) hS Tryz.zeroValue44 rfl rfl fun B2 W2 hS=>aO (XF.thenN (aM (aQ (cX (us:=[]) rfl (jG) rfl (bC (cs:=[_,_,_,_,_,_]) hS Tryz.zeroValue44 rfl rfl fun B3 W3 hS=>aU (i:=0) (vs:=[_,_,_,_,_,_]) (cs':=[_,_,_,_,_,_]) (O':=[_,_,_]) hS Tryz.sizeOf44 rfl rfl rfl rfl rfl rfl rfl fun W4 hS=>aO (XF.thenN (aM (aM (aQ (aN (o':=0) eU rfl rfl rfl (aS Tryz.isAgg22 rfl (aJ (hS.at_ 2 rfl) rfl) rfl (aO (XF.thenN (bP (aM (aQ (cH rfl rfl rfl (aB rfl rfl (aO (XF.thenN (bB rfl (fun hc=>absurd (of_decide_eq_true hc) (by omega)) (fun hc=>?_))))))))))))))))))))))))
 have hc:=of_decide_eq_false hc
 refine aM (aQ (cH rfl rfl rfl (aB rfl rfl (aO (XF.thenN (bB rfl (fun hc=>?_) (fun hc=>absurd (of_decide_eq_false hc) (by omega))))))))
 have hc:=of_decide_eq_true hc
 refine aM (aQ (aB rfl rfl (aO (XF.thenN (bP (eA (fun q l W=>∃ (k:Nat) (v:Value),k≤m∧q=m - k∧l=[(1,.pointer (some ⟨B1,0,none⟩)),(2,.pointer (some ⟨B2,0,none⟩)),(3,.pointer (some ⟨B3,0,none⟩)),(4,.int .i64 (k:Int))]∧St w [(B3,[.bool false,.int .i64 0,.int .u64 0,.slice none 0 0,v,.slice none 0 0],44),(B2,[.bool false,.int .i64 0,.int .u64 0,.slice none 0 0,.slice none 0 0,.slice none 0 0],44),(B1,[.int .i64 4,.int .i64 (m:Int),.slice sa 0 sc],25)] [⟨v,k,flat ((fT m).take k),105,3⟩] [] W) (m - 0) ([(1,_),(2,_),(3,_),(4,_)]) ⟨rfl,rfl,rfl,rfl,trivial⟩ (⟨0,.slice none 0 0,Nat.zero_le _,rfl,rfl,hS.clear.newG _ _⟩) ?_))))))
 clear hS
 rintro q l W ⟨k,v,hkm,rfl,rfl,hS⟩
 refine aM (aM (aQ (aH rfl rfl (aN (o':=1) eV rfl rfl rfl (aS Tryz.isAgg3 rfl (aJ (hS.at_ 2 rfl) rfl) rfl (cS rfl rfl rfl (aO (XF.thenN (bB rfl (fun hc=>?_) (fun hc=>?_))))))))))
 ·have hc22:=of_decide_eq_true hc;clear hc
  have hk:k < m:=by omega
  refine bJ (XF.thenN (aM (bP ?_)))
  refine Rm (p:=6) (k:=8) (gi:=0) (m:=1) bY hS rfl rfl (by kernel_rfl) (by kernel_rfl) (by kernel_rfl) (fun d hd=>by cases hd) rfl rfl Tryz.underlying41 El rfl rfl (by show 0 < 3;decide) rfl rfl rfl (by dsimp only;simp only [maxLen];omega) (by dsimp only;show _ * 24≤_;omega) ?_
  refine gE 1 rfl rfl (by kernel_rfl) (rgV (li:=[(3,_)]) rfl (aT rfl) ⟨cU (by kernel_rfl) rfl,trivial⟩ (fun w hw=>aV (o':=4) cZ rfl rfl) (aE rfl)) (gE 2 rfl rfl (by kernel_rfl) (rgV (li:=[(25,_)]) rfl (aT rfl) ⟨aP 0 (by kernel_rfl) (aA rfl rfl rfl),trivial⟩ (fun w hw=>aZ Tryz.isAgg41 rfl ((aL hw 0).cell (Nat.zero_le _) (aJ (hS.at_ 0 rfl) rfl))) (aE rfl)) (gE 3 rfl rfl (by kernel_rfl) (rgV (li:=[(4,_)]) rfl (aT rfl) ⟨cU (by kernel_rfl) rfl,trivial⟩ (fun w hw=>aW rfl) (aE rfl)) ?_))
  refine gE 4 rfl rfl (by kernel_rfl) (cP [isV _] rfl Q9 (aT rfl) ⟨bW (aP 2 (by kernel_rfl) (aA rfl rfl rfl)),trivial⟩ (fun vs w' hb hh=>by have e:=bZ (us:=[_]) hh;subst e;exact (G0 (k:Int) k (2 ^ k) (by omega) rfl (by omega) _).mono fun e w2 h=>⟨_,h.1,rfl,h.2▸Below.refl _ _⟩) (aE rfl)) ?_
  refine gE 5 rfl rfl (by kernel_rfl) (rgV (li:=[(28,_)]) rfl (aT rfl) ⟨aP 3 (by kernel_rfl) (aA rfl rfl rfl),trivial⟩ (fun w hw=>yZ (us:=[(0,.int .u64 _)]) rfl (Nt _)) (aE rfl)) (Rl 6 rfl rfl (by kernel_rfl) (qL W.heap.size 1 105 _) (tG) (Ed (us:=[.agg (List.toArray [_,_,_])]) rfl (aT rfl) Tryz.underlying41 Tryz.sizeOf105 Tryz.zeroValue105 rfl rfl ⟨bW (aP 4 (by kernel_rfl) (aA rfl rfl rfl)),trivial⟩ (Ef _ _ _) (aE rfl)) (Es 7 rfl rfl (zL 8 rfl rfl (rgV (li:=[(3,_)]) rfl (aT rfl) ⟨cU (by kernel_rfl) rfl,trivial⟩ (fun w hw=>aV (o':=4) cZ rfl rfl) (aE rfl)) (lgV (li:=[(3,_)]) rfl (aT rfl) ⟨cU (by kernel_rfl) rfl,trivial⟩ (fun w=>aV (o':=4) cZ rfl rfl) (aE rfl) rfl) (Er ⟨_,_,aP 1 (by kernel_rfl) (aA rfl rfl rfl),aP 5 (by kernel_rfl) (aA rfl rfl rfl),qQ rfl rfl,?_⟩))))
  intro A5 v5 news5 W5 hbR hqA5 hS'
  clear hS;have hS:=hS';clear hS'
  cases hqA5
  refine aF (aF (aF (aF (aF ?_))))
  refine dF ?_;intro _ _
  refine aF (aF ?_)
  obtain ⟨g9,c9,e9,_,_⟩:=(hS.row 0 rfl).form (by show 0 < k+1;omega)
  dsimp only at e9
  subst e9
  refine cI (dT (i:=0) (cs':=[_,_,_,_,_,_]) (O':=[_,_,_]) hS Tryz.sizeOf41 rfl rfl rfl rfl rfl rfl rfl fun W6 hS=>aO (XF.blkN (XF.thenN (aQ (aH rfl rfl (cY rfl rfl (IntWalk.i64_in _ (by omega)) rfl (aB rfl rfl (aO ?_))))))))
  exact XF.round (m - (k+1)) [(1,_),(2,_),(3,_),(4,_)] (by omega) ⟨rfl,rfl,rfl,rfl,trivial⟩ ⟨k+1,_,by omega,rfl,rfl,by rw [Oq hk,C4];exact hS.clear⟩
 ·have hc22:=of_decide_eq_false hc;clear hc
  refine dX (XF.thenX (XF.thenX (XF.blkX (XF.blkN (XF.thenN (aM ?_))))))
  obtain rfl:k=m:=by omega
  have hrow:=hS.row 0 rfl
  have ht:(fT k).take k=fT k:=List.take_of_length_le (by rw [iG];exact Nat.le_refl _)
  simp only [ht] at hrow
  obtain ⟨hn,a9,c9,rfl,_,_⟩:=fL hrow
  clear hrow
  refine aQ (aR (vs:=[_,_,_,_,_,_]) Tryz.isAgg44 Tryz.sizeOf44 rfl (aD.own (j:=0) (m:=6) (hS.at_ 0 rfl) rfl) rfl (aU (i:=1) (vs:=[_,_,_,_,_,_]) (cs':=[_,_,_,_,_,_]) (O':=[_,_,_]) hS Tryz.sizeOf44 rfl rfl rfl rfl rfl rfl rfl fun W7 hS=>aO (XF.thenN (bR (XF.res (dP (vs:=[_,_,_,_,_,_]) Tryz.results127 Tryz.isAgg44 Tryz.sizeOf44 rfl (aD.own (j:=0) (m:=6) (hS.at_ 1 rfl) rfl)) ?_)))))
  have hrow:=hS.row 0 rfl
  simp only [ht] at hrow
  obtain ⟨_,a8,c8,e8,hr9,hf9⟩:=fL hrow
  cases e8
  have e9:(fT k).length=k:=iG k
  refine ⟨pL a9 c9 (fT k),?_,Te hm hr9 (fun ad e=>(hf9 ad e).1),hS.below⟩
  show _=Ending.returned (Value.agg #[.bool false,.int .i64 0,.int .u64 ((0:Nat):Int),.slice none 0 0,.slice a9 (fT k).length c9,.slice none 0 0])
  rw [e9]
  rfl
theorem uA (t n:Int) (sa:Option Addr) (sc:Nat) (w:World) (hp:bL t n 0=true):Calls Tryz.prog 127 #[.agg #[.int .i64 t,.int .i64 n,.slice sa 0 sc]] w (gN (.one t n) (.one (gU t n)) w):=by
 by_cases h4:t=4
 ·subst h4
  obtain ⟨m,rfl,hm⟩:=yD hp (.inr rfl)
  exact oneR_4 m sa sc w hm
 ·exact Ps t n sa sc w hp h4
theorem oneR_ok {S:PS} {sf:SF} {w:World} (hs:SIs w S sf) (hok:S.ok):Calls Tryz.prog 127 #[sf.val] w (gN S (jS S) w):=by
 cases S with
 | one t n =>
  obtain ⟨a,c,rfl⟩:=hs
  exact uA _ _ _ _ _ hok
 | two t n u m =>
  obtain ⟨b,off,c,a1,c1,a2,c2,rfl,h1,h2⟩:=hs
  exact Pt _ _ _ _ _ _ _ _ _ _ _ _ h1 h2 hok.1 hok.2 (fun W=>uA _ _ _ _ _ hok.1) (fun W=>uA _ _ _ _ _ hok.2)
theorem OneR_ok (S:PS) (sf:SF) (w:World) (hs:SIs w S sf) (hok:S.ok) :
  Calls Tryz.prog 99 #[sf.val] w (Hw S (jS S) 0 w):=by
 refine cD (args:=[sf.val]) Tryz.func99 rfl Tryz.ntmps99 rfl ?_
 have hS:=St.start w
 refine aM (aQ (bT (cs:=[_,_,_]) hS rfl rfl rfl fun B1 W1 hS=>bC (cs:=[_,_,_,_,_,_]) hS Tryz.zeroValue44 rfl rfl fun B2 W2 hS=>aB rfl rfl (aO (XF.thenN (aM (aM (aQ (aR (vs:=[_,_,_]) Tryz.isAgg25 Tryz.sizeOf25 rfl (aD.own (j:=0) (m:=3) (hS.at_ 1 rfl) rfl) rfl (cB (vs:=[_]) hS yG rfl (Dq (hs.below hS.below) hok) rfl fun W3 hS=>dD rfl rfl rfl (aO (XF.thenN (bB rfl (fun hc=>absurd (of_decide_eq_true hc) (by omega)) (fun hc=>?_)))))))))))))
 have hc:=of_decide_eq_false hc
 refine bJ (XF.thenN (aM (aQ (aR (vs:=[_,_,_]) Tryz.isAgg25 Tryz.sizeOf25 rfl (aD.own (j:=0) (m:=3) (hS.at_ 1 rfl) rfl) rfl ?_))))
 have hsz:=hS.below.size
 refine cK (vs:=[_]) hS zC rfl (oneR_ok (hs.below hS.below) hok) rfl ?_
 rintro e W4 ⟨f,rfl,hn,hb⟩
 refine ⟨_,rfl,hb,fun hS'=>?_⟩
 clear hS;have hS:=hS';clear hS'
 refine aU (i:=0) (vs:=[_,_,_,_,_,_]) (cs':=[_,_,_,_,_,_]) (O':=[_,_]) hS Tryz.sizeOf44 rfl rfl rfl rfl rfl rfl rfl fun W5 hS=>aB rfl rfl (aO (XF.thenN (bR (XF.res (xK (vs:=[_,_,_,_,_,_]) Tryz.results99 Tryz.isAgg44 Tryz.sizeOf44 rfl (aD.own (j:=0) (m:=6) (hS.at_ 0 rfl) rfl) rfl) ?_))))
 exact ⟨f,rfl,(hn.agree (hS.since 0 rfl)).mono hsz,hS.below⟩
section
variable {P:Program} {n:Nat} {Q:Exit→Act→World→Prop} {l:Fr} {W:World} {ops:Array Oper} {os:List Oper} {d:Nat} {ty:TypeId} {pos:String} {aft:Array Edge} {x y:Operand} {k:IntKind} {a b:Int} {ts:Array TypeId}
theorem rn_min (hx:evL l x=some (.int k a)) (hy:evL l y=some (.int k b)):iB P l ⟨some d,.call { callee:=.builtin .min,args:=#[x,y],argTypes:=ts },ty,pos,aft,none⟩ W (.int k (min a b)) W:=fun ev he=>by
 have e:(if b < a then b else a)=min a b:=by omega
 unfold execOp
 simp only [resolve,invoke,builtin,Sem.run_bind,Sem.run_pure,Result.andThen_ok,List.map_toArray,List.map_cons,List.map_nil,he x _ hx,he y _ hy,run_min_int2,e]
theorem T7 (hx:evL l x=some (.int k a)) (hy:evL l y=some (.int k b)) (hd:Nat.blt d n=true) (h:cW P n ops Q os ((d,.int k (min a b))::l) W):cW P n ops Q (⟨some d,.call { callee:=.builtin .min,args:=#[x,y],argTypes:=ts },ty,pos,aft,none⟩::os) l W:=opV (rn_min hx hy) hd h
end
theorem has_bit {f k:Nat} (hk:k < 64):By f (k:Int)=f.testBit k:=by
 unfold By
 rw [decide_eq_true (by omega),decide_eq_true (by omega),Int.toNat_natCast]
 rfl
theorem Dt {xs:List Cl} {k:Nat} {c:Cl} (h:xs[k]?=some c):flat (xs.take (k+1))=flat (xs.take k)++vals c:=by
 rw [List.take_add_one,h];exact C4 _ _
theorem K6 (a:Option Addr) (cap len:Nat) (row:List Cl) (c:Cl) (w:World) (hlen:row.length=len) (hm:len≤64) (hra:eY w a row) (hok:∀ (i:Nat) x,row[i]?=some x→x.ok) (hc:c.ok) :
  Calls Tryz.prog 129 #[.slice a len cap,c.val] w (fun e w'=>e = .returned (ofC row c).val∧Below w.heap.size w w'):=by
 refine cD (args:=[.slice a len cap,c.val]) Tryz.func129 rfl Tryz.ntmps129 rfl ?_
 have hS:=St.start w
 refine aM (aQ (bT (cs:=[_,_,_]) hS rfl rfl rfl fun B1 W1 hS=>bC (cs:=[_,_,_]) hS Tryz.zeroValue105 rfl rfl fun B2 W2 hS=>aO (XF.thenN (aM (aQ (aN (o':=1) Qt rfl rfl rfl (aS Tryz.isAgg103 rfl (aJ (hS.at_ 1 rfl) rfl) rfl (aN (o':=2) Qu rfl rfl rfl (aS Tryz.isAgg2 rfl (aJ (hS.at_ 1 rfl) rfl) rfl (cX (us:=[(1,.int .i64 _),(2,.int .i64 _)]) rfl (Gw _ _) rfl (bC (cs:=[_,_,_]) hS Tryz.zeroValue105 rfl rfl fun B3 W3 hS=>aU (i:=0) (vs:=[_,_,_]) (cs':=[_,_,_]) (O':=[_,_,_]) hS Tryz.sizeOf105 rfl rfl rfl rfl rfl rfl rfl fun W4 hS=>aO (XF.thenN (aM (aM (aQ (aB rfl rfl (aO (XF.thenN (bP (eA (fun q l W=>∃ k:Nat,k≤len∧q=len - k∧l=[(0,.slice a len cap),(3,.pointer (some ⟨B1,0,none⟩)),(4,.pointer (some ⟨B2,0,none⟩)),(5,.pointer (some ⟨B3,0,none⟩)),(6,.int .i64 (k:Int))]∧St w [(B3,[.int .u64 ((iM row c k).f:Int),.int .i64 (iM row c k).k,.int .i64 (iM row c k).v],105),(B2,[.int .u64 0,.int .i64 0,.int .i64 0],105),(B1,[.int .u64 (c.f:Int),.int .i64 c.k,.int .i64 c.v],105)] [] [] W) (len - 0) ([(0,_),(3,_),(4,_),(5,_),(6,_)]) ⟨rfl,rfl,rfl,rfl,rfl,trivial⟩ (⟨0,Nat.zero_le _,rfl,rfl,hS.clear⟩) ?_))))))))))))))))))))
 clear hS
 rintro q l W ⟨k,hkm,rfl,rfl,hS⟩
 refine aM (aM (aQ (aH rfl rfl (aH rfl rfl (cJ Tryz.underlying41 rfl rfl (cS rfl rfl rfl (aO (XF.thenN (bB rfl (fun hc=>?_) (fun hc=>?_))))))))))
 ·have hc15:=of_decide_eq_true hc;clear hc
  have hk:k < len:=by omega
  obtain ⟨ba,offa,x,rfl,hx,hba,a0,a1,a2⟩:=(hra.below hS.below).at_ (k:=k) (by omega)
  have k1:aD W ba (offa+k * 3) [.int .u64 (x.f:Int),.int .i64 x.k,.int .i64 x.v]:=⟨a0,a1,a2,trivial⟩
  refine bJ (XF.thenN (aM (bP (aM (aQ (aN (o':=0) Qs rfl rfl rfl (aS Tryz.isAgg37 rfl (aJ (hS.at_ 2 rfl) rfl) rfl (aH rfl rfl (cK (vs:=[_,_]) hS Ra rfl (Et c.f (k:Int) (c.f.testBit k) (has_bit (by omega)) hc.1 _) rfl ?_)))))))))
  rintro e W5 ⟨rfl,rfl⟩
  refine ⟨_,rfl,Below.refl _ _,fun hS'=>?_⟩
  clear hS;have hS:=hS';clear hS'
  refine aO (XF.thenN (bB rfl (fun hc=>?_) (fun hc=>?_)))
  ·have hc21:=hc;clear hc
   refine qM bY 6 hS rfl rfl (by kernel_rfl) (by kernel_rfl) (by kernel_rfl) (fun d hd=>by cases hd) (cQ 1 rfl 5 rfl (by kernel_rfl) rfl (fun w hw=>aY (vs:=[_,_,_]) Tryz.isAgg105 Tryz.sizeOf105 rfl (aD.agree (aL hw 0) (Nat.zero_le _) (aD.own (j:=0) (m:=3) (hS.at_ 0 rfl) rfl))) rfl (cQ 2 rfl 0 rfl (by kernel_rfl) rfl (fun w hw=>aW rfl) rfl (cQ 3 rfl 6 rfl (by kernel_rfl) rfl (fun w hw=>aW rfl) rfl (aG 4 rfl (isV _) (aC _) (rgV (li:=[(23,_),(24,_)]) rfl (aT rfl) ⟨aP 1 (by kernel_rfl) (aA rfl rfl rfl),aP 2 (by kernel_rfl) (aA rfl rfl rfl),trivial⟩ (fun w hw=>aX  Tryz.underlying41 Tryz.sizeOf105 rfl rfl rfl (by omega) rfl) (aE rfl)) (bI 5 rfl 25 3 rfl (by kernel_rfl) rfl rfl (fun w hw=>aY (vs:=[_,_,_]) Tryz.isAgg105 Tryz.sizeOf105 rfl (aD.agree (aL hw 0) (Nat.zero_le _) (by assumption))) rfl ?_)))))
   refine aG 6 rfl (isV (dW (iM row c k) x).val) (aC _) (cP [isV _,isV _] rfl Ly (aT rfl) ⟨bW (aP 0 (by kernel_rfl) (aA rfl rfl rfl)),bW (aP 4 (by kernel_rfl) (aA rfl rfl rfl)),trivial⟩ (fun vs w' hb hh=>by have e:=bZ (us:=[_,_]) hh;subst e;exact (T5 (iM row c k) x (kW hc hok k) (hok k x hx) _).mono fun e w2 h=>⟨_,h.1,rfl,h.2⟩) (aE rfl)) ?_
   refine dE ?_
   intro W6 hbR hS'
   clear hS;have hS:=hS';clear hS'
   refine aF (aF (aF (aF (aF (aF (cI (aU (i:=0) (vs:=[_,_,_]) (cs':=[_,_,_]) (O':=[_,_,_]) hS Tryz.sizeOf105 rfl rfl rfl rfl rfl rfl rfl fun W7 hS=>aO (XF.blkN (XF.thenN (aQ (aH rfl rfl (cY rfl rfl (IntWalk.i64_in _ (by omega)) rfl (aB rfl rfl (aO ?_))))))))))))))
   exact XF.round (len - (k+1)) [(0,_),(3,_),(4,_),(5,_),(6,_)] (by omega) ⟨rfl,rfl,rfl,rfl,rfl,trivial⟩ ⟨k+1,by omega,rfl,rfl,by rw [Ae hc21 hx];exact hS.clear⟩
  ·have hc21:=hc;clear hc
   refine bJ (XF.blkN (XF.thenN (aQ (aH rfl rfl (cY rfl rfl (IntWalk.i64_in _ (by omega)) rfl (aB rfl rfl (aO ?_)))))))
   exact XF.round (len - (k+1)) [(0,_),(3,_),(4,_),(5,_),(6,_)] (by omega) ⟨rfl,rfl,rfl,rfl,rfl,trivial⟩ ⟨k+1,by omega,rfl,rfl,by rw [Fg hc21];exact hS.clear⟩
 ·have hc15:=of_decide_eq_false hc;clear hc
  refine dX (XF.thenX (XF.thenX (XF.blkX (XF.thenN (aM (aQ (aR (vs:=[_,_,_]) Tryz.isAgg105 Tryz.sizeOf105 rfl (aD.own (j:=0) (m:=3) (hS.at_ 0 rfl) rfl) rfl (aU (i:=1) (vs:=[_,_,_]) (cs':=[_,_,_]) (O':=[_,_,_]) hS Tryz.sizeOf105 rfl rfl rfl rfl rfl rfl rfl fun W8 hS=>aO (XF.thenN (bR (XF.res (dP (vs:=[_,_,_]) Tryz.results129 Tryz.isAgg105 Tryz.sizeOf105 rfl (aD.own (j:=0) (m:=3) (hS.at_ 1 rfl) rfl)) ?_)))))))))))
  have e1:row.length=k:=by omega
  exact ⟨by unfold ofC;rw [e1],hS.below⟩
section
variable {w W:World} {k:Nat} {n:Int} {f g:WF} {x y:PF}
theorem ext_f2R (hx:PIs w 2 n f x) (hy:PIs w 2 n g y) (hf:f.z=false) (hg:g.z=false) (p0:0≤f.c) (p1:f.c≤n) (q0:0≤g.c) (q1:g.c≤n):PNew k W 2 n (xP (min (f.c+g.c) n)) (fO 2 n x y):=by
 obtain ⟨rfl,_,_⟩:=hx.k2 hf
 obtain ⟨rfl,_,_⟩:=hy.k2 hg
 rw [Ak]
 exact mQ (.cost _ rfl (by omega) (by omega))
theorem ext_f4C {m:Nat} {a:Option Addr} {cap:Nat} (hx:PIs w 4 m f x) (hy:PIs w 4 m g y) (hf:f.z=false) (hg:g.z=false) (hv:eY W a (eQ f.cells g.cells)) (hl:∀ ad,a=some ad→k≤ad.block):PNew k W 4 m (pL a cap (eQ f.cells g.cells)) (fO 4 m x y):=by
 obtain ⟨hx',h0⟩:=hx.k4 hf
 obtain ⟨hy',h1⟩:=hy.k4 hg
 have hv2:=Ah h0 h1
 rw [hx',hy',Al]
 exact oL (.cells m _ rfl rfl hv2) hv2.bits (by have:=hv2.le;have:=hv2.len;unfold maxLen;omega) hv hl
end
theorem rK (t n:Int) (sa:Option Addr) (sc:Nat) (f g:WF) (x y:PF) (w:World) (hp:bL t n 0=true) (hx:PIs w t n f x) (hy:PIs w t n g y) :
  Calls Tryz.prog 100 #[.agg #[.int .i64 t,.int .i64 n,.slice sa 0 sc],f.val,g.val] w (gN (.one t n) (.one (fO t n x y)) w):=by
 refine cD (args:=[.agg #[.int .i64 t,.int .i64 n,.slice sa 0 sc],f.val,g.val]) Tryz.func100 rfl Tryz.ntmps100 rfl ?_
 have hS:=St.start w
 refine aM (aQ (bT (cs:=[_,_,_]) hS rfl rfl rfl fun B1 W1 hS=>bT (cs:=[_,_,_,_,_,_]) hS rfl rfl rfl fun B2 W2 hS=>bT (cs:=[_,_,_,_,_,_]) hS rfl rfl rfl fun B3 W3 hS=>bC (cs:=[_,_,_,_,_,_]) hS Tryz.zeroValue44 rfl rfl fun B4 W4 hS=>aO (XF.thenN (aM (aM (aQ (aN (o':=0) dG rfl rfl rfl (aS Tryz.isAgg4 rfl (aJ (hS.at_ 2 rfl) rfl) rfl (aH rfl rfl (bV (d:=11) rfl (fun hc=>?_) (fun hc=>?_)))))))))))
 ·have hg11:=hc;clear hc
  have hz:=hg11
  refine aK (d:=11) rfl rfl rfl rfl (aK (d:=11) rfl rfl rfl rfl (bF rfl rfl rfl (aO (XF.thenN (eZ rfl (aM (aQ (cX (us:=[(0,.bool _)]) rfl (qN _) rfl (aU (i:=0) (vs:=[_,_,_,_,_,_]) (cs':=[_,_,_,_,_,_]) (O':=[_,_,_,_]) hS Tryz.sizeOf44 rfl rfl rfl rfl rfl rfl rfl fun W5 hS=>aO (XF.thenN (bR (XF.thenR (XF.res (dP (vs:=[_,_,_,_,_,_]) Tryz.results100 Tryz.isAgg44 Tryz.sizeOf44 rfl (aD.own (j:=0) (m:=6) (hS.at_ 0 rfl) rfl)) ?_)))))))))))))
  exact S7 hx hz hS.below
 ·have hg11:=hc;clear hc
  have hf:=hg11
  refine aI (d:=11) rfl rfl (aN (o':=0) dG rfl rfl rfl (aI (d:=11) rfl rfl (aS Tryz.isAgg4 rfl (aJ (hS.at_ 1 rfl) rfl) rfl (bU rfl rfl rfl (aO (XF.thenN (bB rfl (fun hc=>?_) (fun hc=>?_))))))))
  ·have hc14:=hc;clear hc
   refine aM (aQ (cX (us:=[(0,.bool _)]) rfl (qN _) rfl (aU (i:=0) (vs:=[_,_,_,_,_,_]) (cs':=[_,_,_,_,_,_]) (O':=[_,_,_,_]) hS Tryz.sizeOf44 rfl rfl rfl rfl rfl rfl rfl fun W6 hS=>aO (XF.thenN (bR (XF.thenR (XF.res (dP (vs:=[_,_,_,_,_,_]) Tryz.results100 Tryz.isAgg44 Tryz.sizeOf44 rfl (aD.own (j:=0) (m:=6) (hS.at_ 0 rfl) rfl)) ?_)))))))
   exact S8 hy hc14 hS.below
  ·have hc14:=hc;clear hc
   have hg:=hc14
   refine bJ (XF.thenN (aM (aQ (cX (us:=[]) rfl (jG) rfl (bC (cs:=[_,_,_,_,_,_]) hS Tryz.zeroValue44 rfl rfl fun B7 W7 hS=>aU (i:=0) (vs:=[_,_,_,_,_,_]) (cs':=[_,_,_,_,_,_]) (O':=[_,_,_,_,_]) hS Tryz.sizeOf44 rfl rfl rfl rfl rfl rfl rfl fun W8 hS=>aO (XF.thenN (aM (aM (aQ (aN (o':=0) eU rfl rfl rfl (aS Tryz.isAgg22 rfl (aJ (hS.at_ 4 rfl) rfl) rfl (aO (XF.thenN (bP (aM (aQ (cH rfl rfl rfl (aB rfl rfl (aO (XF.thenN (bB rfl (fun hc=>?_) (fun hc=>?_))))))))))))))))))))))
   ·have hc19:=of_decide_eq_true hc;clear hc
    have e2:t=2:=hc19
    subst e2
    obtain ⟨_,p0,p1⟩:=hx.k2 hf
    obtain ⟨_,q0,q1⟩:=hy.k2 hg
    obtain ⟨d0,d1,_⟩:=mM hp
    refine aQ (aN (o':=1) eG rfl rfl rfl (aS Tryz.isAgg3 rfl (aJ (hS.at_ 3 rfl) rfl) rfl (aN (o':=1) eG rfl rfl rfl (aS Tryz.isAgg3 rfl (aJ (hS.at_ 2 rfl) rfl) rfl (cY rfl rfl (IntWalk.i64_in _ (by omega)) rfl (aN (o':=1) eV rfl rfl rfl (aS Tryz.isAgg3 rfl (aJ (hS.at_ 4 rfl) rfl) rfl (T7 rfl rfl rfl (aN (o':=1) eG rfl rfl rfl (dT (i:=0) (cs':=[_,_,_,_,_,_]) (O':=[_,_,_,_,_]) hS Tryz.sizeOf3 rfl rfl rfl rfl rfl rfl rfl fun W9 hS=>aO (XF.blkN (XF.thenN (aM (aQ (aR (vs:=[_,_,_,_,_,_]) Tryz.isAgg44 Tryz.sizeOf44 rfl (aD.own (j:=0) (m:=6) (hS.at_ 0 rfl) rfl) rfl (aU (i:=1) (vs:=[_,_,_,_,_,_]) (cs':=[_,_,_,_,_,_]) (O':=[_,_,_,_,_]) hS Tryz.sizeOf44 rfl rfl rfl rfl rfl rfl rfl fun W10 hS=>aO (XF.thenN (bR (XF.res (dP (vs:=[_,_,_,_,_,_]) Tryz.results100 Tryz.isAgg44 Tryz.sizeOf44 rfl (aD.own (j:=0) (m:=6) (hS.at_ 1 rfl) rfl)) ?_)))))))))))))))))))
    exact eN (ext_f2R hx hy hf hg p0 p1 q0 q1) hS.below
   ·have hc19:=of_decide_eq_false hc;clear hc
    refine aM (aQ (cH rfl rfl rfl (aB rfl rfl (aO (XF.thenN (bB rfl (fun hc=>?_) (fun hc=>?_)))))))
    ·have hc30:=of_decide_eq_true hc;clear hc
     have e3:t=3:=hc30
     subst e3
     obtain ⟨m,rfl,hm⟩:=yD hp (.inl rfl)
     refine aQ (aN (o':=1) eV rfl rfl rfl (aS Tryz.isAgg3 rfl (aJ (hS.at_ 4 rfl) rfl) rfl (aN (o':=2) eB rfl rfl rfl (aR (vs:=[_,_]) Tryz.isAgg40 Tryz.sizeOf40 rfl (aD.own (j:=2) (m:=2) (hS.at_ 3 rfl) rfl) rfl (aN (o':=2) eB rfl rfl rfl (aR (vs:=[_,_]) Tryz.isAgg40 Tryz.sizeOf40 rfl (aD.own (j:=2) (m:=2) (hS.at_ 2 rfl) rfl) rfl ?_))))))
     have hsz:=hS.below.size
     refine cK (vs:=[_,_,_]) hS Rc rfl (extR_is _ _ _ _ _ _ _ _ _ _ (hx.at_.fat (by have:=hx.rows64 (l:=0);omega) |>.below hS.below) (hy.at_.fat (by have:=hy.rows64 (l:=0);omega) |>.below hS.below) _ rfl _ rfl _ rfl _ _ hx.at_.rl hy.at_.rl) rfl ?_
     rintro e W11 ⟨a1,c1,rfl,hv,hl,hb⟩
     refine ⟨_,rfl,hb,fun hS'=>?_⟩
     clear hS;have hS:=hS';clear hS'
     refine aH rfl rfl (bE rfl rfl rfl (bE rfl rfl rfl (aN (o':=2) eB rfl rfl rfl (aU (i:=0) (vs:=[_,_]) (cs':=[_,_,_,_,_,_]) (O':=[_,_,_,_,_]) hS Tryz.sizeOf40 rfl rfl rfl rfl rfl rfl rfl fun W12 hS=>aO (XF.blkN (XF.thenN (aM (aQ (aR (vs:=[_,_,_,_,_,_]) Tryz.isAgg44 Tryz.sizeOf44 rfl (aD.own (j:=0) (m:=6) (hS.at_ 0 rfl) rfl) rfl (aU (i:=1) (vs:=[_,_,_,_,_,_]) (cs':=[_,_,_,_,_,_]) (O':=[_,_,_,_,_]) hS Tryz.sizeOf44 rfl rfl rfl rfl rfl rfl rfl fun W13 hS=>aO (XF.thenN (bR (XF.res (dP (vs:=[_,_,_,_,_,_]) Tryz.results100 Tryz.isAgg44 Tryz.sizeOf44 rfl (aD.own (j:=0) (m:=6) (hS.at_ 1 rfl) rfl)) ?_)))))))))))))
     exact eN (Tb hx hy hf hg (hv.agree (fun ad e=>(hl ad e).1) (hS.since 0 rfl)) (fun ad e=>Nat.le_trans hsz (hl ad e).1)) hS.below
    ·have hc30:=of_decide_eq_false hc;clear hc
     refine aM (aQ (cH rfl rfl rfl (aB rfl rfl (aO (XF.thenN (bB rfl (fun hc=>?_) (fun hc=>?_)))))))
     ·have hc43:=of_decide_eq_true hc;clear hc
      have e4:t=4:=hc43
      subst e4
      obtain ⟨m,rfl,hm⟩:=yD hp (.inr rfl)
      obtain ⟨hpx,vx⟩:=hx.k4 hf
      obtain ⟨hpy,vy⟩:=hy.k4 hg
      refine aM (aQ (aB rfl rfl (aO (XF.thenN (bP (eA (fun q l W=>∃ (k:Nat) (v:Value),k≤m∧q=m - k∧l=[(3,.pointer (some ⟨B1,0,none⟩)),(4,.pointer (some ⟨B2,0,none⟩)),(5,.pointer (some ⟨B3,0,none⟩)),(6,.pointer (some ⟨B4,0,none⟩)),(7,.pointer (some ⟨B7,0,none⟩)),(8,.int .i64 (k:Int))]∧St w [(B7,[.bool false,.int .i64 0,.int .u64 0,.slice none 0 0,v,.slice none 0 0],44),(B4,[.bool false,.int .i64 0,.int .u64 0,.slice none 0 0,.slice none 0 0,.slice none 0 0],44),(B3,[.bool g.z,.int .i64 g.c,.int .u64 (g.g:Int),.slice g.ra g.rl g.rc,.slice g.ca g.cl g.cc,.slice g.pa g.pl g.pc],44),(B2,[.bool f.z,.int .i64 f.c,.int .u64 (f.g:Int),.slice f.ra f.rl f.rc,.slice f.ca f.cl f.cc,.slice f.pa f.pl f.pc],44),(B1,[.int .i64 4,.int .i64 (m:Int),.slice sa 0 sc],25)] [⟨v,k,flat ((eQ f.cells g.cells).take k),105,3⟩] [] W) (m - 0) ([(3,_),(4,_),(5,_),(6,_),(7,_),(8,_)]) ⟨rfl,rfl,rfl,rfl,rfl,rfl,trivial⟩ (⟨0,.slice none 0 0,Nat.zero_le _,rfl,rfl,hS.clear.newG _ _⟩) ?_))))))
      clear hS
      rintro q l W ⟨k,v,hkm,rfl,rfl,hS⟩
      refine aM (aM (aQ (aH rfl rfl (aN (o':=1) eV rfl rfl rfl (aS Tryz.isAgg3 rfl (aJ (hS.at_ 4 rfl) rfl) rfl (cS rfl rfl rfl (aO (XF.thenN (bB rfl (fun hc=>?_) (fun hc=>?_))))))))))
      ·have hc48:=of_decide_eq_true hc;clear hc
       have hk:k < m:=by omega
       have hlx:=vx.len
       have hly:=vy.len
       obtain ⟨ba,offa,y1,eca,hy1,hba,a0,a1,a2⟩:=(hy.at_.cells.below hS.below).at_ (k:=k) (by omega)
       have k1:aD W ba (offa+k * 3) [.int .u64 (y1.f:Int),.int .i64 y1.k,.int .i64 y1.v]:=⟨a0,a1,a2,trivial⟩
       have h1:(eQ f.cells g.cells)[k]?=some (ofC f.cells y1):=by unfold eQ;rw [List.getElem?_map,hy1];rfl
       have hcl:=hx.at_.cl
       have hclg:=hy.at_.cl
       simp only [eca] at hS
       refine bJ (XF.thenN (aM (bP ?_)))
       refine Rm (p:=11) (k:=13) (gi:=0) (m:=1) bY hS rfl rfl (by kernel_rfl) (by kernel_rfl) (by kernel_rfl) (fun d hd=>by cases hd) rfl rfl Tryz.underlying41 El rfl rfl (by show 0 < 3;decide) rfl rfl rfl (by dsimp only;simp only [maxLen];omega) (by dsimp only;show _ * 24≤_;omega) ?_
       refine gE 1 rfl rfl (by kernel_rfl) (rgV (li:=[(7,_)]) rfl (aT rfl) ⟨cU (by kernel_rfl) rfl,trivial⟩ (fun w hw=>aV (o':=4) cZ rfl rfl) (aE rfl)) (gE 2 rfl rfl (by kernel_rfl) (rgV (li:=[(51,_)]) rfl (aT rfl) ⟨aP 0 (by kernel_rfl) (aA rfl rfl rfl),trivial⟩ (fun w hw=>aZ Tryz.isAgg41 rfl ((aL hw 0).cell (Nat.zero_le _) (aJ (hS.at_ 0 rfl) rfl))) (aE rfl)) (gE 3 rfl rfl (by kernel_rfl) (rgV (li:=[(4,_)]) rfl (aT rfl) ⟨cU (by kernel_rfl) rfl,trivial⟩ (fun w hw=>aV (o':=4) cZ rfl rfl) (aE rfl)) (gE 4 rfl rfl (by kernel_rfl) (rgV (li:=[(53,_)]) rfl (aT rfl) ⟨aP 2 (by kernel_rfl) (aA rfl rfl rfl),trivial⟩ (fun w hw=>aZ Tryz.isAgg41 rfl ((aL hw 0).cell (Nat.zero_le _) (aJ (hS.at_ 3 rfl) rfl))) (aE rfl)) (gE 5 rfl rfl (by kernel_rfl) (rgV (li:=[(5,_)]) rfl (aT rfl) ⟨cU (by kernel_rfl) rfl,trivial⟩ (fun w hw=>aV (o':=4) cZ rfl rfl) (aE rfl)) (gE 6 rfl rfl (by kernel_rfl) (rgV (li:=[(55,_)]) rfl (aT rfl) ⟨aP 4 (by kernel_rfl) (aA rfl rfl rfl),trivial⟩ (fun w hw=>aZ Tryz.isAgg41 rfl ((aL hw 0).cell (Nat.zero_le _) (aJ (hS.at_ 2 rfl) rfl))) (aE rfl)) (gE 7 rfl rfl (by kernel_rfl) (rgV (li:=[(8,_)]) rfl (aT rfl) ⟨cU (by kernel_rfl) rfl,trivial⟩ (fun w hw=>aW rfl) (aE rfl)) (gE 8 rfl rfl (by kernel_rfl) (rgV (li:=[(56,_),(57,_)]) rfl (aT rfl) ⟨aP 5 (by kernel_rfl) (aA rfl rfl rfl),aP 6 (by kernel_rfl) (aA rfl rfl rfl),trivial⟩ (fun w hw=>aX  Tryz.underlying41 Tryz.sizeOf105 rfl rfl rfl (by omega) rfl) (aE rfl)) (gE 9 rfl rfl (by kernel_rfl) (rgV (li:=[(58,_)]) rfl (aT rfl) ⟨aP 7 (by kernel_rfl) (aA rfl rfl rfl),trivial⟩ (fun w hw=>aY (vs:=[_,_,_]) Tryz.isAgg105 Tryz.sizeOf105 rfl (aD.agree (aL hw 0) (Nat.zero_le _) (by assumption))) (aE rfl)) ?_))))))))
       refine gE 10 rfl rfl (by kernel_rfl) (cP [isV _,isV _] rfl Rd (aT rfl) ⟨bW (aP 3 (by kernel_rfl) (aA rfl rfl rfl)),bW (aP 8 (by kernel_rfl) (aA rfl rfl rfl)),trivial⟩ (fun vs w' hb hh=>by have e:=bZ (us:=[_,_]) hh;subst e;exact (K6 f.ca f.cc f.cl f.cells y1 _ hx.at_.cl (by omega) ((hx.at_.cells.below hS.below).below hb) vx.oks (vy.oks k y1 hy1)).mono fun e w2 h=>⟨_,h.1,rfl,h.2⟩) (aE rfl)) ?_
       refine Rl 11 rfl rfl (by kernel_rfl) (qL W.heap.size 1 105 _) (tG) (Ed (us:=[.agg (List.toArray [_,_,_])]) rfl (aT rfl) Tryz.underlying41 Tryz.sizeOf105 Tryz.zeroValue105 rfl rfl ⟨bW (aP 9 (by kernel_rfl) (aA rfl rfl rfl)),trivial⟩ (Ef _ _ _) (aE rfl)) (Es 12 rfl rfl (zL 13 rfl rfl (rgV (li:=[(7,_)]) rfl (aT rfl) ⟨cU (by kernel_rfl) rfl,trivial⟩ (fun w hw=>aV (o':=4) cZ rfl rfl) (aE rfl)) (lgV (li:=[(7,_)]) rfl (aT rfl) ⟨cU (by kernel_rfl) rfl,trivial⟩ (fun w=>aV (o':=4) cZ rfl rfl) (aE rfl) rfl) (Er ⟨_,_,aP 1 (by kernel_rfl) (aA rfl rfl rfl),aP 10 (by kernel_rfl) (aA rfl rfl rfl),qQ rfl rfl,?_⟩)))
       intro A14 v14 news14 W14 hbR hqA14 hS'
       clear hS;have hS:=hS';clear hS'
       cases hqA14
       refine aF (aF (aF (aF (aF (aF (aF (aF (aF (aF ?_)))))))))
       refine dF ?_;intro _ _
       refine aF (aF ?_)
       obtain ⟨g9,c9,e9,_,_⟩:=(hS.row 0 rfl).form (by show 0 < k+1;omega)
       dsimp only at e9
       subst e9
       refine cI (dT (i:=0) (cs':=[_,_,_,_,_,_]) (O':=[_,_,_,_,_]) hS Tryz.sizeOf41 rfl rfl rfl rfl rfl rfl rfl fun W15 hS=>aO (XF.blkN (XF.thenN (aQ (aH rfl rfl (cY rfl rfl (IntWalk.i64_in _ (by omega)) rfl (aB rfl rfl (aO ?_))))))))
       simp only [← eca] at hS
       exact XF.round (m - (k+1)) [(3,_),(4,_),(5,_),(6,_),(7,_),(8,_)] (by omega) ⟨rfl,rfl,rfl,rfl,rfl,rfl,trivial⟩ ⟨k+1,_,by omega,rfl,rfl,by rw [Dt h1];exact hS.clear⟩
      ·have hc48:=of_decide_eq_false hc;clear hc
       refine dX (XF.thenX (XF.thenX (XF.blkX (XF.blkN (XF.thenN (aM ?_))))))
       obtain rfl:k=m:=by omega
       have hrow:=hS.row 0 rfl
       have hln:(eQ f.cells g.cells).length=k:=by unfold eQ;rw [List.length_map];exact vy.len
       have ht0:(eQ f.cells g.cells).take k=eQ f.cells g.cells:=List.take_of_length_le (by rw [hln];exact Nat.le_refl _)
       simp only [ht0] at hrow
       obtain ⟨hn,a9,c9,rfl,_,_⟩:=fL hrow
       clear hrow
       refine aQ (aR (vs:=[_,_,_,_,_,_]) Tryz.isAgg44 Tryz.sizeOf44 rfl (aD.own (j:=0) (m:=6) (hS.at_ 0 rfl) rfl) rfl (aU (i:=1) (vs:=[_,_,_,_,_,_]) (cs':=[_,_,_,_,_,_]) (O':=[_,_,_,_,_]) hS Tryz.sizeOf44 rfl rfl rfl rfl rfl rfl rfl fun W16 hS=>aO (XF.thenN (bR (XF.res (dP (vs:=[_,_,_,_,_,_]) Tryz.results100 Tryz.isAgg44 Tryz.sizeOf44 rfl (aD.own (j:=0) (m:=6) (hS.at_ 1 rfl) rfl)) ?_)))))
       have hrow:=hS.row 0 rfl
       simp only [ht0] at hrow
       obtain ⟨_,a8,c8,e8,hr9,hf9⟩:=fL hrow
       cases e8
       refine ⟨pL a9 c9 (eQ f.cells g.cells),?_,ext_f4C hx hy hf hg hr9 (fun ad e=>(hf9 ad e).1),hS.below⟩
       show _=Ending.returned (Value.agg #[.bool false,.int .i64 0,.int .u64 ((0:Nat):Int),.slice none 0 0,.slice a9 (eQ f.cells g.cells).length c9,.slice none 0 0])
       rw [hln]
       rfl
     ·have hc43:=of_decide_eq_false hc;clear hc
      refine aM (aQ (cH rfl rfl rfl (aB rfl rfl (aO (XF.thenN (bB rfl (fun hc=>absurd (of_decide_eq_true hc) (by exact kR hp)) (fun hc=>?_)))))))
      have hc:=of_decide_eq_false hc
      refine bJ (XF.blkN (XF.thenN (aM (aQ (aR (vs:=[_,_,_,_,_,_]) Tryz.isAgg44 Tryz.sizeOf44 rfl (aD.own (j:=0) (m:=6) (hS.at_ 0 rfl) rfl) rfl (aU (i:=1) (vs:=[_,_,_,_,_,_]) (cs':=[_,_,_,_,_,_]) (O':=[_,_,_,_,_]) hS Tryz.sizeOf44 rfl rfl rfl rfl rfl rfl rfl fun W17 hS=>aO (XF.thenN (bR (XF.res (dP (vs:=[_,_,_,_,_,_]) Tryz.results100 Tryz.isAgg44 Tryz.sizeOf44 rfl (aD.own (j:=0) (m:=6) (hS.at_ 1 rfl) rfl)) ?_)))))))))
      have e1:t=1:=by
       have:=(fS hp).2
       omega
      subst e1
      exact eN (Ta hx hy hf hg) hS.below
theorem K7 (t n u m:Int) (a1 a2:Option Addr) (c1 c2 b off sc:Nat) (w:World) (hs1:S3 w b off ⟨t,n,a1,0,c1⟩) (hs2:S3 w b (off+3) ⟨u,m,a2,0,c2⟩) (hp1:bL t n 0=true) (hp2:bL u m 0=true)(fra fca:Option Addr) (frc fcc fpc fb fo:Nat) (f1 f2:WF) (x1 x2:PF) (hf6:W6 w fb fo f1) (hf7:W6 w fb (fo+6) f2) (hx1:PIs w t n f1 x1) (hx2:PIs w u m f2 x2)(gra gca:Option Addr) (grc gcc gpc gb go:Nat) (g1 g2:WF) (y1 y2:PF) (hg6:W6 w gb go g1) (hg7:W6 w gb (go+6) g2) (hy1:PIs w t n g1 y1) (hy2:PIs w u m g2 y2) :
  Calls Tryz.prog 100 #[.agg #[.int .i64 5,.int .i64 0,.slice (some ⟨b,off,none⟩) 2 sc],.agg #[.bool false,.int .i64 0,.int .u64 0,.slice fra 0 frc,.slice fca 0 fcc,.slice (some ⟨fb,fo,none⟩) 2 fpc],.agg #[.bool false,.int .i64 0,.int .u64 0,.slice gra 0 grc,.slice gca 0 gcc,.slice (some ⟨gb,go,none⟩) 2 gpc]] w (gN (.two t n u m) (.two (fO t n x1 y1) (fO u m x2 y2)) w):=by
 refine cD (args:=[.agg #[.int .i64 5,.int .i64 0,.slice (some ⟨b,off,none⟩) 2 sc],.agg #[.bool false,.int .i64 0,.int .u64 0,.slice fra 0 frc,.slice fca 0 fcc,.slice (some ⟨fb,fo,none⟩) 2 fpc],.agg #[.bool false,.int .i64 0,.int .u64 0,.slice gra 0 grc,.slice gca 0 gcc,.slice (some ⟨gb,go,none⟩) 2 gpc]]) Tryz.func100 rfl Tryz.ntmps100 rfl ?_
 have hS:=St.start w
 refine aM (aQ (bT (cs:=[_,_,_]) hS rfl rfl rfl fun B1 W1 hS=>bT (cs:=[_,_,_,_,_,_]) hS rfl rfl rfl fun B2 W2 hS=>bT (cs:=[_,_,_,_,_,_]) hS rfl rfl rfl fun B3 W3 hS=>bC (cs:=[_,_,_,_,_,_]) hS Tryz.zeroValue44 rfl rfl fun B4 W4 hS=>aO (XF.thenN (aM (aM (aQ (aN (o':=0) dG rfl rfl rfl (aS Tryz.isAgg4 rfl (aJ (hS.at_ 2 rfl) rfl) rfl (aH rfl rfl (bV (d:=11) rfl (fun hc=>absurd hc (by decide)) (fun hc=>?_)))))))))))
 skip
 refine aI (d:=11) rfl rfl (aN (o':=0) dG rfl rfl rfl (aI (d:=11) rfl rfl (aS Tryz.isAgg4 rfl (aJ (hS.at_ 1 rfl) rfl) rfl (bU rfl rfl rfl (aO (XF.thenN (bB rfl (fun hc=>absurd hc (by decide)) (fun hc=>?_))))))))
 skip
 refine bJ (XF.thenN (aM (aQ (cX (us:=[]) rfl (jG) rfl (bC (cs:=[_,_,_,_,_,_]) hS Tryz.zeroValue44 rfl rfl fun B5 W5 hS=>aU (i:=0) (vs:=[_,_,_,_,_,_]) (cs':=[_,_,_,_,_,_]) (O':=[_,_,_,_,_]) hS Tryz.sizeOf44 rfl rfl rfl rfl rfl rfl rfl fun W6 hS=>aO (XF.thenN (aM (aM (aQ (aN (o':=0) eU rfl rfl rfl (aS Tryz.isAgg22 rfl (aJ (hS.at_ 4 rfl) rfl) rfl (aO (XF.thenN (bP (aM (aQ (cH rfl rfl rfl (aB rfl rfl (aO (XF.thenN (bB rfl (fun hc=>absurd (of_decide_eq_true hc) (by omega)) (fun hc=>?_))))))))))))))))))))))
 have hc:=of_decide_eq_false hc
 refine aM (aQ (cH rfl rfl rfl (aB rfl rfl (aO (XF.thenN (bB rfl (fun hc=>absurd (of_decide_eq_true hc) (by omega)) (fun hc=>?_)))))))
 have hc:=of_decide_eq_false hc
 refine aM (aQ (cH rfl rfl rfl (aB rfl rfl (aO (XF.thenN (bB rfl (fun hc=>absurd (of_decide_eq_true hc) (by omega)) (fun hc=>?_)))))))
 have hc:=of_decide_eq_false hc
 refine aM (aQ (cH rfl rfl rfl (aB rfl rfl (aO (XF.thenN (bB rfl (fun hc=>?_) (fun hc=>absurd (of_decide_eq_false hc) (by omega))))))))
 have hc:=of_decide_eq_true hc
 have hsz:=hS.below.size
 have k1:=aD.agree hS.agree (Nat.zero_le _) hs1.cells
 have k2:=aD.agree hS.agree (Nat.zero_le _) hs2.cells
 have kf1:=aD.agree hS.agree (Nat.zero_le _) hf6.cells
 have kf2:=aD.agree hS.agree (Nat.zero_le _) hf7.cells
 have kg1:=aD.agree hS.agree (Nat.zero_le _) hg6.cells
 have kg2:=aD.agree hS.agree (Nat.zero_le _) hg7.cells
 refine qM bY 28 hS rfl rfl (by kernel_rfl) (by kernel_rfl) (by kernel_rfl) (fun d hd=>by cases hd) (cQ 1 rfl 3 rfl (by kernel_rfl) rfl (fun w hw=>aV (o':=2) fB rfl rfl) rfl (bI 2 rfl 66 0 rfl (by kernel_rfl) rfl rfl (fun w hw=>aZ Tryz.isAgg23 rfl ((aL hw 0).cell (Nat.zero_le _) (aJ (hS.at_ 4 rfl) rfl))) rfl (bI 3 rfl 67 1 rfl (by kernel_rfl) rfl rfl (fun w hw=>aX (j:=0) Tryz.underlying23 Tryz.sizeOf25 rfl rfl rfl (by omega) (Nat.add_zero _)) rfl (bI 4 rfl 68 2 rfl (by kernel_rfl) rfl rfl (fun w hw=>aY (vs:=[_,_,_]) Tryz.isAgg25 Tryz.sizeOf25 rfl (aD.agree (aL hw 0) (Nat.zero_le _) (by assumption))) rfl (cQ 5 rfl 4 rfl (by kernel_rfl) rfl (fun w hw=>aV (o':=5) cN rfl rfl) rfl (bI 6 rfl 70 4 rfl (by kernel_rfl) rfl rfl (fun w hw=>aZ Tryz.isAgg42 rfl ((aL hw 0).cell (Nat.zero_le _) (aJ (hS.at_ 3 rfl) rfl))) rfl (bI 7 rfl 71 5 rfl (by kernel_rfl) rfl rfl (fun w hw=>aX (j:=0) Tryz.underlying42 Tryz.sizeOf44 rfl rfl rfl (by omega) (Nat.add_zero _)) rfl (bI 8 rfl 72 6 rfl (by kernel_rfl) rfl rfl (fun w hw=>aY (vs:=[_,_,_,_,_,_]) Tryz.isAgg44 Tryz.sizeOf44 rfl (aD.agree (aL hw 0) (Nat.zero_le _) (by assumption))) rfl (cQ 9 rfl 5 rfl (by kernel_rfl) rfl (fun w hw=>aV (o':=5) cN rfl rfl) rfl (bI 10 rfl 74 8 rfl (by kernel_rfl) rfl rfl (fun w hw=>aZ Tryz.isAgg42 rfl ((aL hw 0).cell (Nat.zero_le _) (aJ (hS.at_ 2 rfl) rfl))) rfl (bI 11 rfl 75 9 rfl (by kernel_rfl) rfl rfl (fun w hw=>aX (j:=0) Tryz.underlying42 Tryz.sizeOf44 rfl rfl rfl (by omega) (Nat.add_zero _)) rfl (bI 12 rfl 76 10 rfl (by kernel_rfl) rfl rfl (fun w hw=>aY (vs:=[_,_,_,_,_,_]) Tryz.isAgg44 Tryz.sizeOf44 rfl (aD.agree (aL hw 0) (Nat.zero_le _) (by assumption))) rfl ?_))))))))))))
 refine aG 13 rfl (dL W6.heap.size (.one t n) (.one (fO t n x1 y1))) (dO) (cP [isV _,isV _,isV _] rfl uN (aT rfl) ⟨bW (aP 3 (by kernel_rfl) (aA rfl rfl rfl)),bW (aP 7 (by kernel_rfl) (aA rfl rfl rfl)),bW (aP 11 (by kernel_rfl) (aA rfl rfl rfl)),trivial⟩ (fun vs w' hb hh=>by have e:=bZ (us:=[_,_,_]) hh;subst e;exact fF hb.size (rK _ _ _ _ _ _ _ _ _ hp1 (hx1.below (hS.below.trans (hb.mono hS.below.size))) (hy1.below (hS.below.trans (hb.mono hS.below.size))))) (aE rfl)) ?_
 refine cQ 14 rfl 3 rfl (by kernel_rfl) rfl (fun w hw=>aV (o':=2) fB rfl rfl) rfl (bI 15 rfl 79 13 rfl (by kernel_rfl) rfl rfl (fun w hw=>aZ Tryz.isAgg23 rfl ((aL hw 0).cell (Nat.zero_le _) (aJ (hS.at_ 4 rfl) rfl))) rfl (bI 16 rfl 80 14 rfl (by kernel_rfl) rfl rfl (fun w hw=>aX (j:=1) Tryz.underlying23 Tryz.sizeOf25 rfl rfl rfl (by omega) rfl) rfl (bI 17 rfl 81 15 rfl (by kernel_rfl) rfl rfl (fun w hw=>aY (vs:=[_,_,_]) Tryz.isAgg25 Tryz.sizeOf25 rfl (aD.agree (aL hw 0) (Nat.zero_le _) (by assumption))) rfl (cQ 18 rfl 4 rfl (by kernel_rfl) rfl (fun w hw=>aV (o':=5) cN rfl rfl) rfl (bI 19 rfl 83 17 rfl (by kernel_rfl) rfl rfl (fun w hw=>aZ Tryz.isAgg42 rfl ((aL hw 0).cell (Nat.zero_le _) (aJ (hS.at_ 3 rfl) rfl))) rfl (bI 20 rfl 84 18 rfl (by kernel_rfl) rfl rfl (fun w hw=>aX (j:=1) Tryz.underlying42 Tryz.sizeOf44 rfl rfl rfl (by omega) rfl) rfl (bI 21 rfl 85 19 rfl (by kernel_rfl) rfl rfl (fun w hw=>aY (vs:=[_,_,_,_,_,_]) Tryz.isAgg44 Tryz.sizeOf44 rfl (aD.agree (aL hw 0) (Nat.zero_le _) (by assumption))) rfl (cQ 22 rfl 5 rfl (by kernel_rfl) rfl (fun w hw=>aV (o':=5) cN rfl rfl) rfl (bI 23 rfl 87 21 rfl (by kernel_rfl) rfl rfl (fun w hw=>aZ Tryz.isAgg42 rfl ((aL hw 0).cell (Nat.zero_le _) (aJ (hS.at_ 2 rfl) rfl))) rfl (bI 24 rfl 88 22 rfl (by kernel_rfl) rfl rfl (fun w hw=>aX (j:=1) Tryz.underlying42 Tryz.sizeOf44 rfl rfl rfl (by omega) rfl) rfl (bI 25 rfl 89 23 rfl (by kernel_rfl) rfl rfl (fun w hw=>aY (vs:=[_,_,_,_,_,_]) Tryz.isAgg44 Tryz.sizeOf44 rfl (aD.agree (aL hw 0) (Nat.zero_le _) (by assumption))) rfl ?_)))))))))))
 refine aG 26 rfl (dL W6.heap.size (.one u m) (.one (fO u m x2 y2))) (dO) (cP [isV _,isV _,isV _] rfl uN (aT rfl) ⟨bW (aP 16 (by kernel_rfl) (aA rfl rfl rfl)),bW (aP 20 (by kernel_rfl) (aA rfl rfl rfl)),bW (aP 24 (by kernel_rfl) (aA rfl rfl rfl)),trivial⟩ (fun vs w' hb hh=>by have e:=bZ (us:=[_,_,_]) hh;subst e;exact fF hb.size (rK _ _ _ _ _ _ _ _ _ hp2 (hx2.below (hS.below.trans (hb.mono hS.below.size))) (hy2.below (hS.below.trans (hb.mono hS.below.size))))) (aE rfl)) ?_
 refine aG 27 rfl (mD W6.heap.size (.two t n u m) (.two (fO t n x1 y1) (fO u m x2 y2))) (mU) (tZ rfl (aT rfl) ⟨bW (aP 12 (by kernel_rfl) (aA rfl rfl rfl)),bW (aP 25 (by kernel_rfl) (aA rfl rfl rfl)),trivial⟩ (aE rfl)) (cQ 28 rfl 7 rfl (by kernel_rfl) rfl (fun w hw=>aV (o':=5) cN rfl rfl) rfl (dE ?_))
 intro W7 hbR hS'
 clear hS;have hS:=hS';clear hS'
 refine aF (aF (aF (aF (aF (aF (aF (aF (aF (aF (aF (aF ?_)))))))))))
 refine dF ?_;rintro _ ⟨v1,rfl,hn1⟩
 refine aF (aF (aF (aF (aF (aF (aF (aF (aF (aF (aF (aF ?_)))))))))))
 refine dF ?_;rintro _ ⟨v2,rfl,hn2⟩
 refine dF ?_;rintro _ ⟨b9,rfl,hn9⟩
 refine aF (cI (dT (i:=0) (cs':=[_,_,_,_,_,_]) (O':=[_,_,_,_,_]) hS Tryz.sizeOf42 rfl rfl rfl rfl rfl rfl rfl fun W8 hS=>aO (XF.blkN (XF.thenN (aM (aQ (aR (vs:=[_,_,_,_,_,_]) Tryz.isAgg44 Tryz.sizeOf44 rfl (aD.own (j:=0) (m:=6) (hS.at_ 0 rfl) rfl) rfl (aU (i:=1) (vs:=[_,_,_,_,_,_]) (cs':=[_,_,_,_,_,_]) (O':=[_,_,_,_,_]) hS Tryz.sizeOf44 rfl rfl rfl rfl rfl rfl rfl fun W9 hS=>aO (XF.thenN (bR (XF.res (dP (vs:=[_,_,_,_,_,_]) Tryz.results100 Tryz.isAgg44 Tryz.sizeOf44 rfl (aD.own (j:=0) (m:=6) (hS.at_ 1 rfl) rfl)) ?_)))))))))))
 exact ⟨rB b9,rfl,(hn9.agree (hS.since 0 rfl)).mono hsz,hS.below⟩
theorem Ii {S:PS} {sf:SF} {f g:WF} {x y:PX} {w:World} (hs:SIs w S sf) (hok:S.ok) (hx:XIs w S f x) (hy:XIs w S g y):Calls Tryz.prog 100 #[sf.val,f.val,g.val] w (gN S (kC S x y) w):=by
 cases S<;>cases x<;>cases y<;>first | exact hx.elim | exact hy.elim | skip
 ·obtain ⟨a,c,rfl⟩:=hs
  exact rK _ _ _ _ _ _ _ _ _ hok hx hy
 ·obtain ⟨b,off,c,a1,c1,a2,c2,rfl,h1,h2⟩:=hs
  obtain ⟨ra,ca,rc,cc,pc,fb,fo,f1,f2,rfl,h6,h7,h8,h9⟩:=hx.two
  obtain ⟨ra',ca',rc',cc',pc',gb,go,g1,g2,rfl,h6',h7',h8',h9'⟩:=hy.two
  exact K7 _ _ _ _ _ _ _ _ _ _ _ _ h1 h2 hok.1 hok.2 _ _ _ _ _ _ _ _ _ _ _ h6 h7 h8 h9 _ _ _ _ _ _ _ _ _ _ _ h6' h7' h8' h9'
def rL (M:World→Prop):Prop:=∀ W W',M W→Below W.heap.size W W'→M W'
def uB (M:World→Prop) (t n:Int) (f:WF) (x:PF):Prop:=∀ W,M W→PIs W t n f x
def qD (M:World→Prop):PS→WF→PX→Prop
 | .one t n,f,.one a=>uB M t n f a
 | .two t n u m,f,.two a b=>f.pf=pC 0∧f.rl=0∧f.cl=0∧f.pl=2∧∃ blk off g h,f.pa=some ⟨blk,off,none⟩∧(∀ W,M W→W6 W blk off g∧W6 W blk (off+6) h)∧uB M t n g a∧uB M u m h b
 | _,_,_=>False
theorem qD.is {M:World→Prop} {S:PS} {f:WF} {x:PX} {w:World} (h:qD M S f x) (hM:M w):XIs w S f x:=by
 cases S<;>cases x<;>first | exact h.elim | exact (show uB M _ _ f _ from h) w hM | skip
 obtain ⟨h1,h2,h3,h4,blk,off,g,k,h5,h6,h7,h8⟩:=h
 exact ⟨h1,h2,h3,h4,blk,off,g,k,h5,(h6 w hM).1,(h6 w hM).2,h7 w hM,h8 w hM⟩
theorem qD.mono {M M':World→Prop} {S:PS} {f:WF} {x:PX} (h:qD M S f x) (hm:∀ W,M' W→M W):qD M' S f x:=by
 cases S<;>cases x<;>first | exact h.elim | exact (fun W hW=>(show uB M _ _ f _ from h) W (hm W hW)) | skip
 obtain ⟨h1,h2,h3,h4,blk,off,g,k,h5,h6,h7,h8⟩:=h
 exact ⟨h1,h2,h3,h4,blk,off,g,k,h5,fun W hW=>h6 W (hm W hW),fun W hW=>h7 W (hm W hW),fun W hW=>h8 W (hm W hW)⟩
theorem fU.far {lo:Nat} {A:World} {S:PS} {f:WF} {x:PX} (h:fU lo A S f x):qD (fun W=>dS lo A W) S f x:=by
 cases S<;>cases x<;>first | exact h.elim | exact (fun W hW=>(PNew.agree h hW).is) | skip
 obtain ⟨h1,h2,h3,h4,blk,g,k,h5,h0,h6,h7,h8,h9⟩:=h
 exact ⟨h1,h2,h3,h4,blk,0,g,k,h5,fun W hW=>⟨h6.agree h0 hW,h7.agree h0 hW⟩,fun W hW=>(h8.agree hW).is,fun W hW=>(h9.agree hW).is⟩
theorem XIs.far {w:World} {S:PS} {f:WF} {x:PX} (h:XIs w S f x):qD (fun W=>Below w.heap.size w W) S f x:=by
 cases S<;>cases x<;>first | exact h.elim | exact (fun W hW=>PIs.below h hW) | skip
 obtain ⟨h1,h2,h3,h4,blk,off,g,k,h5,h6,h7,h8,h9⟩:=h
 exact ⟨h1,h2,h3,h4,blk,off,g,k,h5,fun W hW=>⟨h6.below hW,h7.below hW⟩,fun W hW=>h8.below hW,fun W hW=>h9.below hW⟩
def T8 (M:World→Prop) (S:PS) (x:PX) (w:World) (e:Ending) (w':World):Prop:=∃ f:WF,e = .returned f.val∧qD (fun W=>M W∧dS w.heap.size w' W) S f x∧Below w.heap.size w w'
def vO (M:World→Prop) (lo:Nat) (S:PS) (x:PX):Asr:=fun v w=>∃ f:WF,v=f.val∧qD (fun W=>M W∧dS lo w W) S f x
theorem uC {M:World→Prop} {lo:Nat} {S:PS} {x:PX}:iT (vO M lo S x):=fun v w w' ⟨f,h1,h2⟩ hb=>⟨f,h1,h2.mono fun W hW=>⟨hW.1,(aL hb lo).trans hW.2⟩⟩
theorem uD {P:Program} {f:FuncId} {vs:Array Value} {M:World→Prop} {w:World} {S:PS} {x:PX} {lo:Nat} (hlo:lo≤w.heap.size) (h:Calls P f vs w (T8 M S x w)):Calls P f vs w (Ci (vO M lo S x) w):=h.mono fun e w' ⟨f,he,hn,hb⟩=>⟨f.val,he,⟨f,rfl,hn.mono fun W hW=>⟨hW.1,hW.2.mono hlo⟩⟩,hb⟩
theorem A4 {M:World→Prop} {w W:World} {t n:Int} {f:WF} {x:PF} (h:PNew w.heap.size W t n f x) (hb:Below w.heap.size w W):T8 M (.one t n) (.one x) w (.returned f.val) W:=⟨f,rfl,fun W2 hW=>(h.agree hW.2).is,hb⟩
section
variable {w W:World} {k:Nat} {n:Int} {f g:WF} {x y:PF}
theorem T9 (hx:PIs w 2 n f x) (hy:PIs w 2 n g y) (hf:f.z=false) (hg:g.z=false) (p0:0≤f.c) (p1:f.c≤n) (q0:0≤g.c) (q1:g.c≤n):PNew k W 2 n (xP (min f.c g.c)) (dK 2 n x y):=by
 obtain ⟨rfl,_,_⟩:=hx.k2 hf
 obtain ⟨rfl,_,_⟩:=hy.k2 hg
 rw [lQ]
 exact mQ (.cost _ rfl (by omega) (by omega))
theorem Ua {m:Nat} {a:Option Addr} {cap:Nat} (hx:PIs w 4 m f x) (hy:PIs w 4 m g y) (hf:f.z=false) (hg:g.z=false) (hv:eY W a (dB f.cells g.cells)) (hl:∀ ad,a=some ad→k≤ad.block):PNew k W 4 m (pL a cap (dB f.cells g.cells)) (dK 4 m x y):=by
 obtain ⟨hx',h0⟩:=hx.k4 hf
 obtain ⟨hy',h1⟩:=hy.k4 hg
 have hv2:=qY h0 h1
 rw [hx',hy',nR]
 exact oL (.cells m _ rfl rfl hv2) hv2.bits (by have:=hv2.le;have:=hv2.len;unfold maxLen;omega) hv hl
end
def A6 (M:World→Prop) (lo:Nat) (S:PS) (x:PX):Asr:=fun v w=>∃ b,v = .slice (some ⟨b,0,none⟩) 2 2∧qD (fun W=>M W∧dS lo w W) S (rB b) x
theorem Cd {M:World→Prop} {lo:Nat} {S:PS} {x:PX}:iT (A6 M lo S x):=fun v w w' ⟨b,h1,h2⟩ hb=>⟨b,h1,h2.mono fun W hW=>⟨hW.1,(aL hb lo).trans hW.2⟩⟩
section
variable {n:Nat} {Q:Exit→Act→World→Prop} {l:Fr} {W:World} {ops:Array Oper} {L:List Asr} {i d:Nat} {ty:TypeId} {pos:String} {aft:Array Edge} {gd:Option (Nat×Bool)} {t k u m:Int} {x y:PF} {p q:Operand} {M:World→Prop}
theorem Pu (hi:ops[i]?=some ⟨some d,.buildSlice 42 2 (List.toArray [(0,p),(1,q)]),ty,pos,aft,gd⟩) (hw:gX ops L i ⟨some d,.buildSlice 42 2 (List.toArray [(0,p),(1,q)]),ty,pos,aft,gd⟩) (hp:wJ n ops l L i [p,q] [vO M W.heap.size (.one t k) (.one x),vO M W.heap.size (.one u m) (.one y)]) (hI:atI L i=A6 M W.heap.size (.two t k u m) (.two x y)):RG Tryz.prog n ops Q l W L i :=
 Ec [vO M W.heap.size (.one t k) (.one x),vO M W.heap.size (.one u m) (.one y)] hi hw Tryz.underlying42 Tryz.sizeOf44 Tryz.zeroValue44 rfl rfl hp fun vs w hb hh=>by
  obtain ⟨v1,v2,rfl,⟨f,rfl,hf⟩,g,rfl,hg⟩:=pM hh
  refine ⟨f.six++g.six,rT _ _ _ _ _ _ _ _ _ _ _ _,fun B w' hB h1 h2=>?_⟩
  rw [hI]
  rcases Do h1 with h | ⟨b,off,e,h3⟩
  ·cases h
  ·cases e
   have hlo:W.heap.size≤B:=by rw [← hB];exact hb.size
   exact ⟨B,rfl,rfl,rfl,rfl,rfl,B,0,f,g,rfl,fun W2 hW=>⟨(h3 0 f rfl).agree hlo hW.2,(h3 1 g rfl).agree hlo hW.2⟩,fun W2 hW=>(show uB _ t k f x from hf) W2 ⟨hW.1,(aL h2 _).trans hW.2⟩,fun W2 hW=>(show uB _ u m g y from hg) W2 ⟨hW.1,(aL h2 _).trans hW.2⟩⟩
end
theorem nT (M:World→Prop) (t n:Int) (sa:Option Addr) (sc:Nat) (f g:WF) (x y:PF) (w:World) (hp:bL t n 0=true) (hw:M w) (hfx:uB M t n f x) (hfy:uB M t n g y) :
  Calls Tryz.prog 44 #[.agg #[.int .i64 t,.int .i64 n,.slice sa 0 sc],f.val,g.val] w (T8 M (.one t n) (.one (dK t n x y)) w):=by
 have hx:=hfx w hw
 have hy:=hfy w hw
 refine cD (args:=[.agg #[.int .i64 t,.int .i64 n,.slice sa 0 sc],f.val,g.val]) Tryz.func44 rfl Tryz.ntmps44 rfl ?_
 have hS:=St.start w
 refine aM (aQ (bT (cs:=[_,_,_]) hS rfl rfl rfl fun B1 W1 hS=>bT (cs:=[_,_,_,_,_,_]) hS rfl rfl rfl fun B2 W2 hS=>bT (cs:=[_,_,_,_,_,_]) hS rfl rfl rfl fun B3 W3 hS=>bC (cs:=[_,_,_,_,_,_]) hS Tryz.zeroValue44 rfl rfl fun B4 W4 hS=>aO (XF.thenN (aM (aM (aQ (aN (o':=0) dG rfl rfl rfl (aS Tryz.isAgg4 rfl (aJ (hS.at_ 2 rfl) rfl) rfl (aO (XF.thenN (bB rfl (fun hc=>?_) (fun hc=>?_))))))))))))
 ·have hc10:=hc;clear hc
  have hz:=hc10
  refine aM (aQ (aR (vs:=[_,_,_,_,_,_]) Tryz.isAgg44 Tryz.sizeOf44 rfl (aD.own (j:=0) (m:=6) (hS.at_ 1 rfl) rfl) rfl (aU (i:=0) (vs:=[_,_,_,_,_,_]) (cs':=[_,_,_,_,_,_]) (O':=[_,_,_,_]) hS Tryz.sizeOf44 rfl rfl rfl rfl rfl rfl rfl fun W5 hS=>aO (XF.thenN (bR (XF.thenR (XF.res (dP (vs:=[_,_,_,_,_,_]) Tryz.results44 Tryz.isAgg44 Tryz.sizeOf44 rfl (aD.own (j:=0) (m:=6) (hS.at_ 0 rfl) rfl)) ?_)))))))
  exact ⟨g,rfl,fun W hM=>by rw [hx.zero hc10,eD];exact hfy W hM.1,hS.below⟩
 ·have hc10:=hc;clear hc
  have hf:=hc10
  refine bJ (XF.thenN (aM (aM (aQ (aN (o':=0) dG rfl rfl rfl (aS Tryz.isAgg4 rfl (aJ (hS.at_ 1 rfl) rfl) rfl (aO (XF.thenN (bB rfl (fun hc=>?_) (fun hc=>?_))))))))))
  ·have hc13:=hc;clear hc
   refine aM (aQ (aR (vs:=[_,_,_,_,_,_]) Tryz.isAgg44 Tryz.sizeOf44 rfl (aD.own (j:=0) (m:=6) (hS.at_ 2 rfl) rfl) rfl (aU (i:=0) (vs:=[_,_,_,_,_,_]) (cs':=[_,_,_,_,_,_]) (O':=[_,_,_,_]) hS Tryz.sizeOf44 rfl rfl rfl rfl rfl rfl rfl fun W6 hS=>aO (XF.thenN (bR (XF.thenR (XF.res (dP (vs:=[_,_,_,_,_,_]) Tryz.results44 Tryz.isAgg44 Tryz.sizeOf44 rfl (aD.own (j:=0) (m:=6) (hS.at_ 0 rfl) rfl)) ?_)))))))
   exact ⟨f,rfl,fun W hM=>by rw [hy.zero hc13,eI hx.ok];exact hfx W hM.1,hS.below⟩
  ·have hc13:=hc;clear hc
   have hg:=hc13
   refine bJ (XF.thenN (aM (aQ (cX (us:=[]) rfl (jG) rfl (bC (cs:=[_,_,_,_,_,_]) hS Tryz.zeroValue44 rfl rfl fun B7 W7 hS=>aU (i:=0) (vs:=[_,_,_,_,_,_]) (cs':=[_,_,_,_,_,_]) (O':=[_,_,_,_,_]) hS Tryz.sizeOf44 rfl rfl rfl rfl rfl rfl rfl fun W8 hS=>aO (XF.thenN (aM (aM (aQ (aN (o':=0) eU rfl rfl rfl (aS Tryz.isAgg22 rfl (aJ (hS.at_ 4 rfl) rfl) rfl (aO (XF.thenN (bP (aM (aQ (cH rfl rfl rfl (aB rfl rfl (aO (XF.thenN (bB rfl (fun hc=>?_) (fun hc=>?_))))))))))))))))))))))
   ·have hc18:=of_decide_eq_true hc;clear hc
    have e2:t=2:=hc18
    subst e2
    obtain ⟨_,p0,p1⟩:=hx.k2 hf
    obtain ⟨_,q0,q1⟩:=hy.k2 hg
    refine aQ (aN (o':=1) eG rfl rfl rfl (aS Tryz.isAgg3 rfl (aJ (hS.at_ 3 rfl) rfl) rfl (aN (o':=1) eG rfl rfl rfl (aS Tryz.isAgg3 rfl (aJ (hS.at_ 2 rfl) rfl) rfl (T7 rfl rfl rfl (aN (o':=1) eG rfl rfl rfl (dT (i:=0) (cs':=[_,_,_,_,_,_]) (O':=[_,_,_,_,_]) hS Tryz.sizeOf3 rfl rfl rfl rfl rfl rfl rfl fun W9 hS=>aO (XF.blkN (XF.thenN (aM (aQ (aR (vs:=[_,_,_,_,_,_]) Tryz.isAgg44 Tryz.sizeOf44 rfl (aD.own (j:=0) (m:=6) (hS.at_ 0 rfl) rfl) rfl (aU (i:=1) (vs:=[_,_,_,_,_,_]) (cs':=[_,_,_,_,_,_]) (O':=[_,_,_,_,_]) hS Tryz.sizeOf44 rfl rfl rfl rfl rfl rfl rfl fun W10 hS=>aO (XF.thenN (bR (XF.res (dP (vs:=[_,_,_,_,_,_]) Tryz.results44 Tryz.isAgg44 Tryz.sizeOf44 rfl (aD.own (j:=0) (m:=6) (hS.at_ 1 rfl) rfl)) ?_))))))))))))))))
    exact A4 (T9 hx hy hf hg p0 p1 q0 q1) hS.below
   ·have hc18:=of_decide_eq_false hc;clear hc
    refine aM (aQ (cH rfl rfl rfl (aB rfl rfl (aO (XF.thenN (bB rfl (fun hc=>?_) (fun hc=>?_)))))))
    ·have hc26:=of_decide_eq_true hc;clear hc
     have e3:t=3:=hc26
     subst e3
     obtain ⟨m,rfl,hm⟩:=yD hp (.inl rfl)
     refine aQ (aN (o':=1) eV rfl rfl rfl (aS Tryz.isAgg3 rfl (aJ (hS.at_ 4 rfl) rfl) rfl (aN (o':=2) eB rfl rfl rfl (aR (vs:=[_,_]) Tryz.isAgg40 Tryz.sizeOf40 rfl (aD.own (j:=2) (m:=2) (hS.at_ 3 rfl) rfl) rfl (aN (o':=2) eB rfl rfl rfl (aR (vs:=[_,_]) Tryz.isAgg40 Tryz.sizeOf40 rfl (aD.own (j:=2) (m:=2) (hS.at_ 2 rfl) rfl) rfl ?_))))))
     have hsz:=hS.below.size
     refine cK (vs:=[_,_,_]) hS goes_87 rfl (Sh _ _ _ _ _ _ _ _ _ _ (hx.at_.fat (by have:=hx.rows64 (l:=0);omega) |>.below hS.below) (hy.at_.fat (by have:=hy.rows64 (l:=0);omega) |>.below hS.below) _ rfl _ rfl _ rfl _ _ hx.at_.rl hy.at_.rl) rfl ?_
     rintro e W11 ⟨a1,c1,rfl,hv,hl,hb⟩
     refine ⟨_,rfl,hb,fun hS'=>?_⟩
     clear hS;have hS:=hS';clear hS'
     refine aH rfl rfl (bE rfl rfl rfl (bE rfl rfl rfl (aN (o':=2) eB rfl rfl rfl (aU (i:=0) (vs:=[_,_]) (cs':=[_,_,_,_,_,_]) (O':=[_,_,_,_,_]) hS Tryz.sizeOf40 rfl rfl rfl rfl rfl rfl rfl fun W12 hS=>aO (XF.blkN (XF.thenN (aM (aQ (aR (vs:=[_,_,_,_,_,_]) Tryz.isAgg44 Tryz.sizeOf44 rfl (aD.own (j:=0) (m:=6) (hS.at_ 0 rfl) rfl) rfl (aU (i:=1) (vs:=[_,_,_,_,_,_]) (cs':=[_,_,_,_,_,_]) (O':=[_,_,_,_,_]) hS Tryz.sizeOf44 rfl rfl rfl rfl rfl rfl rfl fun W13 hS=>aO (XF.thenN (bR (XF.res (dP (vs:=[_,_,_,_,_,_]) Tryz.results44 Tryz.isAgg44 Tryz.sizeOf44 rfl (aD.own (j:=0) (m:=6) (hS.at_ 1 rfl) rfl)) ?_)))))))))))))
     exact A4 (Mt hx hy hf hg (hv.agree (fun ad e=>(hl ad e).1) (hS.since 0 rfl)) (fun ad e=>Nat.le_trans hsz (hl ad e).1)) hS.below
    ·have hc26:=of_decide_eq_false hc;clear hc
     refine aM (aQ (cH rfl rfl rfl (aB rfl rfl (aO (XF.thenN (bB rfl (fun hc=>?_) (fun hc=>?_)))))))
     ·have hc39:=of_decide_eq_true hc;clear hc
      have e4:t=4:=hc39
      subst e4
      obtain ⟨m,rfl,hm⟩:=yD hp (.inr rfl)
      obtain ⟨hpx,vx⟩:=hx.k4 hf
      obtain ⟨hpy,vy⟩:=hy.k4 hg
      refine aM (aQ (aB rfl rfl (aO (XF.thenN (bP (eA (fun q l W=>∃ (k:Nat) (v:Value),k≤m∧q=m - k∧l=[(3,.pointer (some ⟨B1,0,none⟩)),(4,.pointer (some ⟨B2,0,none⟩)),(5,.pointer (some ⟨B3,0,none⟩)),(6,.pointer (some ⟨B4,0,none⟩)),(7,.pointer (some ⟨B7,0,none⟩)),(8,.int .i64 (k:Int))]∧St w [(B7,[.bool false,.int .i64 0,.int .u64 0,.slice none 0 0,v,.slice none 0 0],44),(B4,[.bool false,.int .i64 0,.int .u64 0,.slice none 0 0,.slice none 0 0,.slice none 0 0],44),(B3,[.bool g.z,.int .i64 g.c,.int .u64 (g.g:Int),.slice g.ra g.rl g.rc,.slice g.ca g.cl g.cc,.slice g.pa g.pl g.pc],44),(B2,[.bool f.z,.int .i64 f.c,.int .u64 (f.g:Int),.slice f.ra f.rl f.rc,.slice f.ca f.cl f.cc,.slice f.pa f.pl f.pc],44),(B1,[.int .i64 4,.int .i64 (m:Int),.slice sa 0 sc],25)] [⟨v,k,flat ((dB f.cells g.cells).take k),105,3⟩] [] W) (m - 0) ([(3,_),(4,_),(5,_),(6,_),(7,_),(8,_)]) ⟨rfl,rfl,rfl,rfl,rfl,rfl,trivial⟩ (⟨0,.slice none 0 0,Nat.zero_le _,rfl,rfl,hS.clear.newG _ _⟩) ?_))))))
      clear hS
      rintro q l W ⟨k,v,hkm,rfl,rfl,hS⟩
      refine aM (aM (aQ (aH rfl rfl (aN (o':=1) eV rfl rfl rfl (aS Tryz.isAgg3 rfl (aJ (hS.at_ 4 rfl) rfl) rfl (cS rfl rfl rfl (aO (XF.thenN (bB rfl (fun hc=>?_) (fun hc=>?_))))))))))
      ·have hc44:=of_decide_eq_true hc;clear hc
       have hk:k < m:=by omega
       have hlx:=vx.len
       have hly:=vy.len
       obtain ⟨bx,offx,x1,ecx,hx1,hbx,c0,c1,c2⟩:=(hx.at_.cells.below hS.below).at_ (k:=k) (by omega)
       obtain ⟨ba,offa,y1,eca,hy1,hba,a0,a1,a2⟩:=(hy.at_.cells.below hS.below).at_ (k:=k) (by omega)
       have k0:aD W bx (offx+k * 3) [.int .u64 (x1.f:Int),.int .i64 x1.k,.int .i64 x1.v]:=⟨c0,c1,c2,trivial⟩
       have k1:aD W ba (offa+k * 3) [.int .u64 (y1.f:Int),.int .i64 y1.k,.int .i64 y1.v]:=⟨a0,a1,a2,trivial⟩
       have h1:(dB f.cells g.cells)[k]?=some (dW x1 y1):=by unfold dB;rw [List.getElem?_zipWith,hx1,hy1]
       have hcl:=hx.at_.cl
       have hclg:=hy.at_.cl
       simp only [ecx,eca] at hS
       refine bJ (XF.thenN (aM (bP ?_)))
       refine Rm (p:=14) (k:=16) (gi:=0) (m:=1) bY hS rfl rfl (by kernel_rfl) (by kernel_rfl) (by kernel_rfl) (fun d hd=>by cases hd) rfl rfl Tryz.underlying41 El rfl rfl (by show 0 < 3;decide) rfl rfl rfl (by dsimp only;simp only [maxLen];omega) (by dsimp only;show _ * 24≤_;omega) ?_
       refine gE 1 rfl rfl (by kernel_rfl) (rgV (li:=[(7,_)]) rfl (aT rfl) ⟨cU (by kernel_rfl) rfl,trivial⟩ (fun w hw=>aV (o':=4) cZ rfl rfl) (aE rfl)) (gE 2 rfl rfl (by kernel_rfl) (rgV (li:=[(47,_)]) rfl (aT rfl) ⟨aP 0 (by kernel_rfl) (aA rfl rfl rfl),trivial⟩ (fun w hw=>aZ Tryz.isAgg41 rfl ((aL hw 0).cell (Nat.zero_le _) (aJ (hS.at_ 0 rfl) rfl))) (aE rfl)) (gE 3 rfl rfl (by kernel_rfl) (rgV (li:=[(4,_)]) rfl (aT rfl) ⟨cU (by kernel_rfl) rfl,trivial⟩ (fun w hw=>aV (o':=4) cZ rfl rfl) (aE rfl)) (gE 4 rfl rfl (by kernel_rfl) (rgV (li:=[(49,_)]) rfl (aT rfl) ⟨aP 2 (by kernel_rfl) (aA rfl rfl rfl),trivial⟩ (fun w hw=>aZ Tryz.isAgg41 rfl ((aL hw 0).cell (Nat.zero_le _) (aJ (hS.at_ 3 rfl) rfl))) (aE rfl)) (gE 5 rfl rfl (by kernel_rfl) (rgV (li:=[(8,_)]) rfl (aT rfl) ⟨cU (by kernel_rfl) rfl,trivial⟩ (fun w hw=>aW rfl) (aE rfl)) (gE 6 rfl rfl (by kernel_rfl) (rgV (li:=[(50,_),(51,_)]) rfl (aT rfl) ⟨aP 3 (by kernel_rfl) (aA rfl rfl rfl),aP 4 (by kernel_rfl) (aA rfl rfl rfl),trivial⟩ (fun w hw=>aX  Tryz.underlying41 Tryz.sizeOf105 rfl rfl rfl (by omega) rfl) (aE rfl)) (gE 7 rfl rfl (by kernel_rfl) (rgV (li:=[(52,_)]) rfl (aT rfl) ⟨aP 5 (by kernel_rfl) (aA rfl rfl rfl),trivial⟩ (fun w hw=>aY (vs:=[_,_,_]) Tryz.isAgg105 Tryz.sizeOf105 rfl (aD.agree (aL hw 0) (Nat.zero_le _) (by assumption))) (aE rfl)) (gE 8 rfl rfl (by kernel_rfl) (rgV (li:=[(5,_)]) rfl (aT rfl) ⟨cU (by kernel_rfl) rfl,trivial⟩ (fun w hw=>aV (o':=4) cZ rfl rfl) (aE rfl)) (gE 9 rfl rfl (by kernel_rfl) (rgV (li:=[(54,_)]) rfl (aT rfl) ⟨aP 7 (by kernel_rfl) (aA rfl rfl rfl),trivial⟩ (fun w hw=>aZ Tryz.isAgg41 rfl ((aL hw 0).cell (Nat.zero_le _) (aJ (hS.at_ 2 rfl) rfl))) (aE rfl)) (gE 10 rfl rfl (by kernel_rfl) (rgV (li:=[(8,_)]) rfl (aT rfl) ⟨cU (by kernel_rfl) rfl,trivial⟩ (fun w hw=>aW rfl) (aE rfl)) (gE 11 rfl rfl (by kernel_rfl) (rgV (li:=[(55,_),(56,_)]) rfl (aT rfl) ⟨aP 8 (by kernel_rfl) (aA rfl rfl rfl),aP 9 (by kernel_rfl) (aA rfl rfl rfl),trivial⟩ (fun w hw=>aX  Tryz.underlying41 Tryz.sizeOf105 rfl rfl rfl (by omega) rfl) (aE rfl)) (gE 12 rfl rfl (by kernel_rfl) (rgV (li:=[(57,_)]) rfl (aT rfl) ⟨aP 10 (by kernel_rfl) (aA rfl rfl rfl),trivial⟩ (fun w hw=>aY (vs:=[_,_,_]) Tryz.isAgg105 Tryz.sizeOf105 rfl (aD.agree (aL hw 0) (Nat.zero_le _) (by assumption))) (aE rfl)) ?_)))))))))))
       refine gE 13 rfl rfl (by kernel_rfl) (cP [isV _,isV _] rfl Ly (aT rfl) ⟨bW (aP 6 (by kernel_rfl) (aA rfl rfl rfl)),bW (aP 11 (by kernel_rfl) (aA rfl rfl rfl)),trivial⟩ (fun vs w' hb hh=>by have e:=bZ (us:=[_,_]) hh;subst e;exact (T5 x1 y1 (vx.oks k x1 hx1) (vy.oks k y1 hy1) _).mono fun e w2 h=>⟨_,h.1,rfl,h.2⟩) (aE rfl)) ?_
       refine Rl 14 rfl rfl (by kernel_rfl) (qL W.heap.size 1 105 _) (tG) (Ed (us:=[.agg (List.toArray [_,_,_])]) rfl (aT rfl) Tryz.underlying41 Tryz.sizeOf105 Tryz.zeroValue105 rfl rfl ⟨bW (aP 12 (by kernel_rfl) (aA rfl rfl rfl)),trivial⟩ (Ef _ _ _) (aE rfl)) (Es 15 rfl rfl (zL 16 rfl rfl (rgV (li:=[(7,_)]) rfl (aT rfl) ⟨cU (by kernel_rfl) rfl,trivial⟩ (fun w hw=>aV (o':=4) cZ rfl rfl) (aE rfl)) (lgV (li:=[(7,_)]) rfl (aT rfl) ⟨cU (by kernel_rfl) rfl,trivial⟩ (fun w=>aV (o':=4) cZ rfl rfl) (aE rfl) rfl) (Er ⟨_,_,aP 1 (by kernel_rfl) (aA rfl rfl rfl),aP 13 (by kernel_rfl) (aA rfl rfl rfl),qQ rfl rfl,?_⟩)))
       intro A14 v14 news14 W14 hbR hqA14 hS'
       clear hS;have hS:=hS';clear hS'
       cases hqA14
       refine aF (aF (aF (aF (aF (aF (aF (aF (aF (aF (aF (aF (aF ?_))))))))))))
       refine dF ?_;intro _ _
       refine aF (aF ?_)
       obtain ⟨g9,c9,e9,_,_⟩:=(hS.row 0 rfl).form (by show 0 < k+1;omega)
       dsimp only at e9
       subst e9
       refine cI (dT (i:=0) (cs':=[_,_,_,_,_,_]) (O':=[_,_,_,_,_]) hS Tryz.sizeOf41 rfl rfl rfl rfl rfl rfl rfl fun W15 hS=>aO (XF.blkN (XF.thenN (aQ (aH rfl rfl (cY rfl rfl (IntWalk.i64_in _ (by omega)) rfl (aB rfl rfl (aO ?_))))))))
       simp only [← ecx,← eca] at hS
       exact XF.round (m - (k+1)) [(3,_),(4,_),(5,_),(6,_),(7,_),(8,_)] (by omega) ⟨rfl,rfl,rfl,rfl,rfl,rfl,trivial⟩ ⟨k+1,_,by omega,rfl,rfl,by rw [Dt h1];exact hS.clear⟩
      ·have hc44:=of_decide_eq_false hc;clear hc
       refine dX (XF.thenX (XF.thenX (XF.blkX (XF.blkN (XF.thenN (aM ?_))))))
       obtain rfl:k=m:=by omega
       have hrow:=hS.row 0 rfl
       have hln:(dB f.cells g.cells).length=k:=by unfold dB;rw [List.length_zipWith,vx.len,vy.len,Nat.min_self]
       have ht0:(dB f.cells g.cells).take k=dB f.cells g.cells:=List.take_of_length_le (by rw [hln];exact Nat.le_refl _)
       simp only [ht0] at hrow
       obtain ⟨hn,a9,c9,rfl,_,_⟩:=fL hrow
       clear hrow
       refine aQ (aR (vs:=[_,_,_,_,_,_]) Tryz.isAgg44 Tryz.sizeOf44 rfl (aD.own (j:=0) (m:=6) (hS.at_ 0 rfl) rfl) rfl (aU (i:=1) (vs:=[_,_,_,_,_,_]) (cs':=[_,_,_,_,_,_]) (O':=[_,_,_,_,_]) hS Tryz.sizeOf44 rfl rfl rfl rfl rfl rfl rfl fun W16 hS=>aO (XF.thenN (bR (XF.res (dP (vs:=[_,_,_,_,_,_]) Tryz.results44 Tryz.isAgg44 Tryz.sizeOf44 rfl (aD.own (j:=0) (m:=6) (hS.at_ 1 rfl) rfl)) ?_)))))
       have hrow:=hS.row 0 rfl
       simp only [ht0] at hrow
       obtain ⟨_,a8,c8,e8,hr9,hf9⟩:=fL hrow
       cases e8
       refine ⟨pL a9 c9 (dB f.cells g.cells),?_,fun W2 hW=>((Ua (k:=w.heap.size) hx hy hf hg hr9 (fun ad e=>(hf9 ad e).1)).agree hW.2).is,hS.below⟩
       show _=Ending.returned (Value.agg #[.bool false,.int .i64 0,.int .u64 ((0:Nat):Int),.slice none 0 0,.slice a9 (dB f.cells g.cells).length c9,.slice none 0 0])
       rw [hln]
       rfl
     ·have hc39:=of_decide_eq_false hc;clear hc
      refine aM (aQ (cH rfl rfl rfl (aB rfl rfl (aO (XF.thenN (bB rfl (fun hc=>absurd (of_decide_eq_true hc) (by exact kR hp)) (fun hc=>?_)))))))
      have hc:=of_decide_eq_false hc
      refine bJ (XF.blkN (XF.thenN (aM (aQ (aR (vs:=[_,_,_,_,_,_]) Tryz.isAgg44 Tryz.sizeOf44 rfl (aD.own (j:=0) (m:=6) (hS.at_ 0 rfl) rfl) rfl (aU (i:=1) (vs:=[_,_,_,_,_,_]) (cs':=[_,_,_,_,_,_]) (O':=[_,_,_,_,_]) hS Tryz.sizeOf44 rfl rfl rfl rfl rfl rfl rfl fun W17 hS=>aO (XF.thenN (bR (XF.res (dP (vs:=[_,_,_,_,_,_]) Tryz.results44 Tryz.isAgg44 Tryz.sizeOf44 rfl (aD.own (j:=0) (m:=6) (hS.at_ 1 rfl) rfl)) ?_)))))))))
      have e1:t=1:=by
       have:=(fS hp).2
       omega
      subst e1
      exact A4 (Ms hx hy hf hg) hS.below
theorem Fz (M:World→Prop) (hM:rL M) (t n u m:Int) (a1 a2:Option Addr) (c1 c2 b off sc:Nat) (w:World) (hs1:S3 w b off ⟨t,n,a1,0,c1⟩) (hs2:S3 w b (off+3) ⟨u,m,a2,0,c2⟩) (hp1:bL t n 0=true) (hp2:bL u m 0=true)(fra fca:Option Addr) (frc fcc fpc fb fo:Nat) (f1 f2:WF) (x1 x2:PF) (hf6:W6 w fb fo f1) (hf7:W6 w fb (fo+6) f2) (hx1:uB M t n f1 x1) (hx2:uB M u m f2 x2)(gra gca:Option Addr) (grc gcc gpc gb go:Nat) (g1 g2:WF) (y1 y2:PF) (hg6:W6 w gb go g1) (hg7:W6 w gb (go+6) g2) (hy1:uB M t n g1 y1) (hy2:uB M u m g2 y2) (hw:M w) :
  Calls Tryz.prog 44 #[.agg #[.int .i64 5,.int .i64 0,.slice (some ⟨b,off,none⟩) 2 sc],.agg #[.bool false,.int .i64 0,.int .u64 0,.slice fra 0 frc,.slice fca 0 fcc,.slice (some ⟨fb,fo,none⟩) 2 fpc],.agg #[.bool false,.int .i64 0,.int .u64 0,.slice gra 0 grc,.slice gca 0 gcc,.slice (some ⟨gb,go,none⟩) 2 gpc]] w (T8 M (.two t n u m) (.two (dK t n x1 y1) (dK u m x2 y2)) w):=by
 refine cD (args:=[.agg #[.int .i64 5,.int .i64 0,.slice (some ⟨b,off,none⟩) 2 sc],.agg #[.bool false,.int .i64 0,.int .u64 0,.slice fra 0 frc,.slice fca 0 fcc,.slice (some ⟨fb,fo,none⟩) 2 fpc],.agg #[.bool false,.int .i64 0,.int .u64 0,.slice gra 0 grc,.slice gca 0 gcc,.slice (some ⟨gb,go,none⟩) 2 gpc]]) Tryz.func44 rfl Tryz.ntmps44 rfl ?_
 have hS:=St.start w
 refine aM (aQ (bT (cs:=[_,_,_]) hS rfl rfl rfl fun B1 W1 hS=>bT (cs:=[_,_,_,_,_,_]) hS rfl rfl rfl fun B2 W2 hS=>bT (cs:=[_,_,_,_,_,_]) hS rfl rfl rfl fun B3 W3 hS=>bC (cs:=[_,_,_,_,_,_]) hS Tryz.zeroValue44 rfl rfl fun B4 W4 hS=>aO (XF.thenN (aM (aM (aQ (aN (o':=0) dG rfl rfl rfl (aS Tryz.isAgg4 rfl (aJ (hS.at_ 2 rfl) rfl) rfl (aO (XF.thenN (bB rfl (fun hc=>absurd hc (by decide)) (fun hc=>?_))))))))))))
 skip
 refine bJ (XF.thenN (aM (aM (aQ (aN (o':=0) dG rfl rfl rfl (aS Tryz.isAgg4 rfl (aJ (hS.at_ 1 rfl) rfl) rfl (aO (XF.thenN (bB rfl (fun hc=>absurd hc (by decide)) (fun hc=>?_))))))))))
 skip
 refine bJ (XF.thenN (aM (aQ (cX (us:=[]) rfl (jG) rfl (bC (cs:=[_,_,_,_,_,_]) hS Tryz.zeroValue44 rfl rfl fun B5 W5 hS=>aU (i:=0) (vs:=[_,_,_,_,_,_]) (cs':=[_,_,_,_,_,_]) (O':=[_,_,_,_,_]) hS Tryz.sizeOf44 rfl rfl rfl rfl rfl rfl rfl fun W6 hS=>aO (XF.thenN (aM (aM (aQ (aN (o':=0) eU rfl rfl rfl (aS Tryz.isAgg22 rfl (aJ (hS.at_ 4 rfl) rfl) rfl (aO (XF.thenN (bP (aM (aQ (cH rfl rfl rfl (aB rfl rfl (aO (XF.thenN (bB rfl (fun hc=>absurd (of_decide_eq_true hc) (by omega)) (fun hc=>?_))))))))))))))))))))))
 have hc:=of_decide_eq_false hc
 refine aM (aQ (cH rfl rfl rfl (aB rfl rfl (aO (XF.thenN (bB rfl (fun hc=>absurd (of_decide_eq_true hc) (by omega)) (fun hc=>?_)))))))
 have hc:=of_decide_eq_false hc
 refine aM (aQ (cH rfl rfl rfl (aB rfl rfl (aO (XF.thenN (bB rfl (fun hc=>absurd (of_decide_eq_true hc) (by omega)) (fun hc=>?_)))))))
 have hc:=of_decide_eq_false hc
 refine aM (aQ (cH rfl rfl rfl (aB rfl rfl (aO (XF.thenN (bB rfl (fun hc=>?_) (fun hc=>absurd (of_decide_eq_false hc) (by omega))))))))
 have hc:=of_decide_eq_true hc
 have hsz:=hS.below.size
 have k1:=aD.agree hS.agree (Nat.zero_le _) hs1.cells
 have k2:=aD.agree hS.agree (Nat.zero_le _) hs2.cells
 have kf1:=aD.agree hS.agree (Nat.zero_le _) hf6.cells
 have kf2:=aD.agree hS.agree (Nat.zero_le _) hf7.cells
 have kg1:=aD.agree hS.agree (Nat.zero_le _) hg6.cells
 have kg2:=aD.agree hS.agree (Nat.zero_le _) hg7.cells
 refine qM bY 28 hS rfl rfl (by kernel_rfl) (by kernel_rfl) (by kernel_rfl) (fun d hd=>by cases hd) (cQ 1 rfl 3 rfl (by kernel_rfl) rfl (fun w hw=>aV (o':=2) fB rfl rfl) rfl (bI 2 rfl 65 0 rfl (by kernel_rfl) rfl rfl (fun w hw=>aZ Tryz.isAgg23 rfl ((aL hw 0).cell (Nat.zero_le _) (aJ (hS.at_ 4 rfl) rfl))) rfl (bI 3 rfl 66 1 rfl (by kernel_rfl) rfl rfl (fun w hw=>aX (j:=0) Tryz.underlying23 Tryz.sizeOf25 rfl rfl rfl (by omega) (Nat.add_zero _)) rfl (bI 4 rfl 67 2 rfl (by kernel_rfl) rfl rfl (fun w hw=>aY (vs:=[_,_,_]) Tryz.isAgg25 Tryz.sizeOf25 rfl (aD.agree (aL hw 0) (Nat.zero_le _) (by assumption))) rfl (cQ 5 rfl 4 rfl (by kernel_rfl) rfl (fun w hw=>aV (o':=5) cN rfl rfl) rfl (bI 6 rfl 69 4 rfl (by kernel_rfl) rfl rfl (fun w hw=>aZ Tryz.isAgg42 rfl ((aL hw 0).cell (Nat.zero_le _) (aJ (hS.at_ 3 rfl) rfl))) rfl (bI 7 rfl 70 5 rfl (by kernel_rfl) rfl rfl (fun w hw=>aX (j:=0) Tryz.underlying42 Tryz.sizeOf44 rfl rfl rfl (by omega) (Nat.add_zero _)) rfl (bI 8 rfl 71 6 rfl (by kernel_rfl) rfl rfl (fun w hw=>aY (vs:=[_,_,_,_,_,_]) Tryz.isAgg44 Tryz.sizeOf44 rfl (aD.agree (aL hw 0) (Nat.zero_le _) (by assumption))) rfl (cQ 9 rfl 5 rfl (by kernel_rfl) rfl (fun w hw=>aV (o':=5) cN rfl rfl) rfl (bI 10 rfl 73 8 rfl (by kernel_rfl) rfl rfl (fun w hw=>aZ Tryz.isAgg42 rfl ((aL hw 0).cell (Nat.zero_le _) (aJ (hS.at_ 2 rfl) rfl))) rfl (bI 11 rfl 74 9 rfl (by kernel_rfl) rfl rfl (fun w hw=>aX (j:=0) Tryz.underlying42 Tryz.sizeOf44 rfl rfl rfl (by omega) (Nat.add_zero _)) rfl (bI 12 rfl 75 10 rfl (by kernel_rfl) rfl rfl (fun w hw=>aY (vs:=[_,_,_,_,_,_]) Tryz.isAgg44 Tryz.sizeOf44 rfl (aD.agree (aL hw 0) (Nat.zero_le _) (by assumption))) rfl ?_))))))))))))
 refine aG 13 rfl (vO M W6.heap.size (.one t n) (.one (dK t n x1 y1))) (uC) (cP [isV _,isV _,isV _] rfl Em (aT rfl) ⟨bW (aP 3 (by kernel_rfl) (aA rfl rfl rfl)),bW (aP 7 (by kernel_rfl) (aA rfl rfl rfl)),bW (aP 11 (by kernel_rfl) (aA rfl rfl rfl)),trivial⟩ (fun vs w' hb hh=>by have e:=bZ (us:=[_,_,_]) hh;subst e;exact uD hb.size (nT M _ _ _ _ _ _ _ _ _ hp1 (hM _ _ hw (hS.below.trans (hb.mono hS.below.size))) hx1 hy1)) (aE rfl)) ?_
 refine cQ 14 rfl 3 rfl (by kernel_rfl) rfl (fun w hw=>aV (o':=2) fB rfl rfl) rfl (bI 15 rfl 78 13 rfl (by kernel_rfl) rfl rfl (fun w hw=>aZ Tryz.isAgg23 rfl ((aL hw 0).cell (Nat.zero_le _) (aJ (hS.at_ 4 rfl) rfl))) rfl (bI 16 rfl 79 14 rfl (by kernel_rfl) rfl rfl (fun w hw=>aX (j:=1) Tryz.underlying23 Tryz.sizeOf25 rfl rfl rfl (by omega) rfl) rfl (bI 17 rfl 80 15 rfl (by kernel_rfl) rfl rfl (fun w hw=>aY (vs:=[_,_,_]) Tryz.isAgg25 Tryz.sizeOf25 rfl (aD.agree (aL hw 0) (Nat.zero_le _) (by assumption))) rfl (cQ 18 rfl 4 rfl (by kernel_rfl) rfl (fun w hw=>aV (o':=5) cN rfl rfl) rfl (bI 19 rfl 82 17 rfl (by kernel_rfl) rfl rfl (fun w hw=>aZ Tryz.isAgg42 rfl ((aL hw 0).cell (Nat.zero_le _) (aJ (hS.at_ 3 rfl) rfl))) rfl (bI 20 rfl 83 18 rfl (by kernel_rfl) rfl rfl (fun w hw=>aX (j:=1) Tryz.underlying42 Tryz.sizeOf44 rfl rfl rfl (by omega) rfl) rfl (bI 21 rfl 84 19 rfl (by kernel_rfl) rfl rfl (fun w hw=>aY (vs:=[_,_,_,_,_,_]) Tryz.isAgg44 Tryz.sizeOf44 rfl (aD.agree (aL hw 0) (Nat.zero_le _) (by assumption))) rfl (cQ 22 rfl 5 rfl (by kernel_rfl) rfl (fun w hw=>aV (o':=5) cN rfl rfl) rfl (bI 23 rfl 86 21 rfl (by kernel_rfl) rfl rfl (fun w hw=>aZ Tryz.isAgg42 rfl ((aL hw 0).cell (Nat.zero_le _) (aJ (hS.at_ 2 rfl) rfl))) rfl (bI 24 rfl 87 22 rfl (by kernel_rfl) rfl rfl (fun w hw=>aX (j:=1) Tryz.underlying42 Tryz.sizeOf44 rfl rfl rfl (by omega) rfl) rfl (bI 25 rfl 88 23 rfl (by kernel_rfl) rfl rfl (fun w hw=>aY (vs:=[_,_,_,_,_,_]) Tryz.isAgg44 Tryz.sizeOf44 rfl (aD.agree (aL hw 0) (Nat.zero_le _) (by assumption))) rfl ?_)))))))))))
 refine aG 26 rfl (vO M W6.heap.size (.one u m) (.one (dK u m x2 y2))) (uC) (cP [isV _,isV _,isV _] rfl Em (aT rfl) ⟨bW (aP 16 (by kernel_rfl) (aA rfl rfl rfl)),bW (aP 20 (by kernel_rfl) (aA rfl rfl rfl)),bW (aP 24 (by kernel_rfl) (aA rfl rfl rfl)),trivial⟩ (fun vs w' hb hh=>by have e:=bZ (us:=[_,_,_]) hh;subst e;exact uD hb.size (nT M _ _ _ _ _ _ _ _ _ hp2 (hM _ _ hw (hS.below.trans (hb.mono hS.below.size))) hx2 hy2)) (aE rfl)) ?_
 refine aG 27 rfl (A6 M W6.heap.size (.two t n u m) (.two (dK t n x1 y1) (dK u m x2 y2))) (Cd) (Pu rfl (aT rfl) ⟨bW (aP 12 (by kernel_rfl) (aA rfl rfl rfl)),bW (aP 25 (by kernel_rfl) (aA rfl rfl rfl)),trivial⟩ (aE rfl)) (cQ 28 rfl 7 rfl (by kernel_rfl) rfl (fun w hw=>aV (o':=5) cN rfl rfl) rfl (dE ?_))
 intro W7 hbR hS'
 clear hS;have hS:=hS';clear hS'
 refine aF (aF (aF (aF (aF (aF (aF (aF (aF (aF (aF (aF ?_)))))))))))
 refine dF ?_;rintro _ ⟨v1,rfl,hn1⟩
 refine aF (aF (aF (aF (aF (aF (aF (aF (aF (aF (aF (aF ?_)))))))))))
 refine dF ?_;rintro _ ⟨v2,rfl,hn2⟩
 refine dF ?_;rintro _ ⟨b9,rfl,hn9⟩
 refine aF (cI (dT (i:=0) (cs':=[_,_,_,_,_,_]) (O':=[_,_,_,_,_]) hS Tryz.sizeOf42 rfl rfl rfl rfl rfl rfl rfl fun W8 hS=>aO (XF.blkN (XF.thenN (aM (aQ (aR (vs:=[_,_,_,_,_,_]) Tryz.isAgg44 Tryz.sizeOf44 rfl (aD.own (j:=0) (m:=6) (hS.at_ 0 rfl) rfl) rfl (aU (i:=1) (vs:=[_,_,_,_,_,_]) (cs':=[_,_,_,_,_,_]) (O':=[_,_,_,_,_]) hS Tryz.sizeOf44 rfl rfl rfl rfl rfl rfl rfl fun W9 hS=>aO (XF.thenN (bR (XF.res (dP (vs:=[_,_,_,_,_,_]) Tryz.results44 Tryz.isAgg44 Tryz.sizeOf44 rfl (aD.own (j:=0) (m:=6) (hS.at_ 1 rfl) rfl)) ?_)))))))))))
 exact ⟨rB b9,rfl,hn9.mono fun W hW=>⟨hW.1,(hS.since 0 rfl).trans (hW.2.mono hsz)⟩,hS.below⟩
theorem qD.two {M:World→Prop} {t n u m:Int} {f:WF} {a b:PF} (h:qD M (.two t n u m) f (.two a b)):∃ (ra ca:Option Addr) (rc cc pc fb fo:Nat) (f1 f2:WF),f=⟨false,0,0,ra,0,rc,[],ca,0,cc,[],some ⟨fb,fo,none⟩,2,pc⟩∧(∀ W,M W→W6 W fb fo f1∧W6 W fb (fo+6) f2)∧uB M t n f1 a∧uB M u m f2 b:=by
 obtain ⟨h1,h2,h3,h4,blk,off,g,k,h5,h6,h7,h8⟩:=h
 obtain ⟨z,c,gg,ra,rl,rc,rows,ca,cl,cc,cells,pa,pl,pc⟩:=f
 simp only [WF.pf,pC,PF.mk.injEq] at h1
 obtain ⟨rfl,rfl,rfl,rfl,rfl⟩:=h1
 dsimp only at h2 h3 h4 h5
 subst h2;subst h3;subst h4;subst h5
 exact ⟨ra,ca,rc,cc,pc,blk,off,g,k,rfl,h6,h7,h8⟩
theorem La {M:World→Prop} {S:PS} {sf:SF} {f g:WF} {x y:PX} {w:World} (hM:rL M) (hs:SIs w S sf) (hok:S.ok) (hw:M w) (hx:qD M S f x) (hy:qD M S g y):Calls Tryz.prog 44 #[sf.val,f.val,g.val] w (T8 M S (cF S x y) w):=by
 cases S<;>cases x<;>cases y<;>first | exact hx.elim | exact hy.elim | skip
 ·obtain ⟨a,c,rfl⟩:=hs
  exact nT M _ _ _ _ _ _ _ _ _ hok hw hx hy
 ·obtain ⟨b,off,c,a1,c1,a2,c2,rfl,h1,h2⟩:=hs
  obtain ⟨ra,ca,rc,cc,pc,fb,fo,f1,f2,rfl,h6,h8,h9⟩:=hx.two
  obtain ⟨ra',ca',rc',cc',pc',gb,go,g1,g2,rfl,h6',h8',h9'⟩:=hy.two
  exact Fz M hM _ _ _ _ _ _ _ _ _ _ _ _ h1 h2 hok.1 hok.2 _ _ _ _ _ _ _ _ _ _ _ (h6 w hw).1 (h6 w hw).2 h8 h9 _ _ _ _ _ _ _ _ _ _ _ (h6' w hw).1 (h6' w hw).2 h8' h9' hw
def MK (M:World→Prop) (K:List (Nat×World)) (W:World):Prop:=M W∧∀ q∈K,dS q.1 q.2 W
theorem MK.head {M:World→Prop} {W:World} {q:Nat×World} {K:List (Nat×World)} (h:MK M (q::K) W):dS q.1 q.2 W:=h.2 q List.mem_cons_self
theorem MK.tail {M:World→Prop} {W:World} {q:Nat×World} {K:List (Nat×World)} (h:MK M (q::K) W):MK M K W:=⟨h.1,fun r hr=>h.2 r (List.mem_cons_of_mem _ hr)⟩
theorem MK.keep {M:World→Prop} {W W':World} {K:List (Nat×World)} (h:MK M K W) (hM:rL M) (hb:Below W.heap.size W W'):MK M K W':=⟨hM _ _ h.1 hb,fun q hq=>(h.2 q hq).trans (aL hb _)⟩
theorem Pv {M:World→Prop} (hM:rL M) (K:List (Nat×World)):rL (MK M K):=fun W W' h hb=>h.keep hM hb
theorem St.stays {M:World→Prop} {w0 W:World} {O:Own} {G:dC} {K:List (Nat×World)} (h:St w0 O G K W) (hM:rL M) (hw:M w0):MK M K W:=⟨hM _ _ hw h.below,fun q hq=>(h.kept q hq).1⟩
theorem one_le {lo n:Nat} {A:World} (h:lo≤n):∀ q∈[(n,A)],lo≤q.1:=fun q hq=>by
 simp only [List.mem_cons,List.not_mem_nil,or_false] at hq
 subst hq;exact h
theorem St.keep1 {w0 W:World} {O:Own} {G:dC} {q:Nat×World} {K:List (Nat×World)} (h:St w0 O G (q::K) W):St w0 O G [q] W:=h.keep [q] (fun r hr=>by
 simp only [List.mem_cons,List.not_mem_nil,or_false] at hr
 subst hr;exact List.mem_cons_self)
def XRet2 (M:World→Prop) (S:PS) (x:PX) (e0:Int) (w:World) (e:Ending) (w':World):Prop:=∃ f:WF,e = .returned (.tuple #[f.val,.int .i64 e0])∧qD (fun W=>M W∧dS w.heap.size w' W) S f x∧Below w.heap.size w w'
def XLF (M:World→Prop) (S:PS) (fs:List WF) (xs:List PX):Prop:=fs.length=xs.length∧∀ (i:Nat) f x,fs[i]?=some f→xs[i]?=some x→qD M S f x
theorem XLF.is {M:World→Prop} {w:World} {S:PS} {fs:List WF} {xs:List PX} (h:XLF M S fs xs) (hw:M w):XL w S fs xs:=⟨h.1,fun i f x hf hx=>(h.2 i f x hf hx).is hw⟩
theorem XLF.at_ {M:World→Prop} {S:PS} {fs:List WF} {xs:List PX} (h:XLF M S fs xs) {k:Nat} (hk:k < fs.length):∃ f x,fs[k]?=some f∧xs[k]?=some x∧qD M S f x :=
 ⟨fs[k],xs[k]'(by have:=h.1;omega),by simp [hk],by have:=h.1;simp [show k < xs.length by omega],h.2 k _ _ (by simp [hk]) (by have:=h.1;simp [show k < xs.length by omega])⟩
theorem XL.far {w:World} {S:PS} {fs:List WF} {xs:List PX} (h:XL w S fs xs):XLF (fun W=>Below w.heap.size w W) S fs xs:=⟨h.1,fun i f x hf hx=>(h.2 i f x hf hx).far⟩
theorem F3 (w:World):rL (fun W=>Below w.heap.size w W):=fun W W' h hb=>h.trans (hb.mono h.size)
theorem Ub {S:PS} {x y:PX} (hx:OkX S x):[x,y].foldl (cF S) (bX S)=cF S x y:=by
 simp only [List.foldl_cons,List.foldl_nil,pK hx]
theorem isR_ok {w:World} {S:PS} {sf:SF} {f:WF} {x:PX} (hs:SIs w S sf) (hok:S.ok) (hx:XIs w S f x):Calls Tryz.prog 78 #[sf.val,f.val] w fun e w'=>e = .returned (.bool true)∧Below w.heap.size w w':=by
 cases S<;>cases x<;>first | exact hx.elim | skip
 ·obtain ⟨a,c,rfl⟩:=hs
  exact mS _ _ _ _ _ _ hok (Nat.zero_le _) w (PIs.at_ hx) true (PIs.pw hx)
 ·obtain ⟨b,off,c,a1,c1,a2,c2,rfl,h1,h2⟩:=hs
  obtain ⟨ra,ca,rc,cc,pc,fb,fo,f1,f2,rfl,h6,h7,h8,h9⟩:=hx.two
  exact Dl 1 _ _ _ _ _ _ w (Fn h1 h2) hok.1 hok.2 1 (yP h6 h7 h8 h9) (fun _ _=>Nat.zero_le _) true (Ar h8 h9)
theorem Lb {w:World} {t n:Int} {f g:WF} {x y:PF} (hx:PIs w t n f x) (hy:PIs w t n g y):eqW 1 (.mk f []) (.mk g [])=true↔x=y:=by
 rw [sE,← hx.pf,← hy.pf]
 simp [WF.pf]
theorem Mx {w:World} {t n:Int} {f:WF} {x:PF} (hx:PIs w t n f x) (d:Nat):WIn w (d+1) (.mk f []):=⟨hx.at_,hx.pl.symm,.inl rfl,by simp⟩
theorem yQ {w:World} {t n:Int} {f:WF} {x:PF} (hx:PIs w t n f x) (k:Nat):smN (k+1) (.mk f [])=true:=by
 have h:=hx.rows64 (l:=0)
 simp only [smN,Bool.and_eq_true,decide_eq_true_eq,List.all_nil]
 exact ⟨by omega,by omega,by rw [hx.pl];decide,trivial⟩
theorem Ij {w:World} {S:PS} {f g:WF} {x y:PX} (hx:XIs w S f x) (hy:XIs w S g y) (r:Bool) (hr:r=true↔x=y):Calls Tryz.prog 48 #[f.val,g.val] w fun e w'=>e = .returned (.bool r)∧Below w.heap.size w w':=by
 cases S<;>cases x<;>cases y<;>first | exact hx.elim | exact hy.elim | skip
 ·refine (wZ 2 4 (.mk f []) (.mk g []) w (Mx hx 1) (Mx hy 1) (yQ hx 3) (yQ hy 3)).mono fun e w' h=>⟨h.1.trans (bQ (Ku hr ?_)),h.2⟩
  rw [sE]
  have h1:=(Lb hx hy).symm
  rw [sE] at h1
  simp only [PX.one.injEq]
  exact h1
 ·obtain ⟨ra,ca,rc,cc,pc,fb,fo,f1,f2,rfl,h6,h7,h8,h9⟩:=hx.two
  obtain ⟨ra',ca',rc',cc',pc',gb,go,g1,g2,rfl,h6',h7',h8',h9'⟩:=hy.two
  have sm:∀ {t n u m:Int} {a b:PF} {f1 f2:WF} {ra ca:Option Addr} {rc cc pc fb fo:Nat},PIs w t n f1 a→PIs w u m f2 b→smN 4 (.mk ⟨false,0,0,ra,0,rc,[],ca,0,cc,[],some ⟨fb,fo,none⟩,2,pc⟩ [.mk f1 [],.mk f2 []])=true:=by
   intro t n u m a b f1 f2 ra ca rc cc pc fb fo ha hb
   have e1:=yQ ha 2
   have e2:=yQ hb 2
   show (decide _ && (decide _ && (decide _ && [WV.mk f1 [],WV.mk f2 []].all (smN 3))))=true
   simp [e1,e2]
  refine (wZ 2 4 _ _ w (yP h6 h7 h8 h9) (yP h6' h7' h8' h9') (sm h8 h9) (sm h8' h9')).mono fun e w' h=>⟨h.1.trans (bQ (Ku hr ?_)),h.2⟩
  rw [sE]
  have e1:=Lb h8 h8'
  have e2:=Lb h9 h9'
  simp [e1,e2]
theorem allR_ok (S:PS) (sf:SF) (w:World) (hs:SIs w S sf) (hok:S.ok) (a:Option Addr) (c m:Nat) (fs:List WF) (xs:List PX) (hr:qC w a fs) (hx:XL w S fs xs) (hm:fs.length=m) (hmx:m≤9223372036854775807) :
  Calls Tryz.prog 101 #[sf.val,.slice a m c] w (fun e w'=>e = .returned (.int .i64 0)∧Below w.heap.size w w'):=by
 refine cD (args:=[sf.val,.slice a m c]) Tryz.func101 rfl Tryz.ntmps101 rfl ?_
 have hS:=St.start w
 refine aM (aQ (bT (cs:=[_,_,_]) hS rfl rfl rfl fun B1 W1 hS=>aB rfl rfl (aO (XF.thenN (aM (aM (aQ (aR (vs:=[_,_,_]) Tryz.isAgg25 Tryz.sizeOf25 rfl (aD.own (j:=0) (m:=3) (hS.at_ 0 rfl) rfl) rfl (cB (vs:=[_]) hS yG rfl (Dq (hs.below hS.below) hok) rfl fun W2 hS=>dD rfl rfl rfl (aO (XF.thenN (bB rfl (fun hc=>absurd (of_decide_eq_true hc) (by omega)) (fun hc=>?_)))))))))))))
 have hc:=of_decide_eq_false hc
 refine bJ (XF.thenN (aM (aM (aQ (aB rfl rfl (aO (XF.thenN (bP (eA (fun q l W=>∃ k:Nat,k≤m∧q=m - k∧l=[(1,.slice a m c),(2,.pointer (some ⟨B1,0,none⟩)),(5,.int .i64 (k:Int))]∧St w [(B1,[.int .i64 sf.tag,.int .i64 sf.dim,.slice sf.a sf.len sf.cap],25)] [] [] W) (m - 0) ([(1,_),(2,_),(5,_)]) ⟨rfl,rfl,rfl,trivial⟩ (⟨0,Nat.zero_le _,rfl,rfl,hS.clear⟩) ?_)))))))))
 clear hS
 rintro q l W ⟨k,hkm,rfl,rfl,hS⟩
 refine aM (aM (aQ (aH rfl rfl (aH rfl rfl (cJ Tryz.underlying42 rfl rfl (cS rfl rfl rfl (aO (XF.thenN (bB rfl (fun hc=>?_) (fun hc=>?_))))))))))
 ·have hc12:=of_decide_eq_true hc;clear hc
  have hk:k < m:=by omega
  obtain ⟨f,x,hf,hxk,hxx⟩:=hx.at_ (k:=k) (by omega)
  obtain ⟨b,off,rfl,h6⟩:=hr.at_ hf
  have k1:=aD.agree hS.agree (Nat.zero_le _) h6.cells
  refine bJ (XF.thenN (aM (bP (aM (iV (m:=7) bY hS (by kernel_rfl) (by kernel_rfl) rfl (cQ 1 rfl 2 rfl (by kernel_rfl) rfl (fun w hw=>aY (vs:=[_,_,_]) Tryz.isAgg25 Tryz.sizeOf25 rfl (aD.agree (aL hw 0) (Nat.zero_le _) (aD.own (j:=0) (m:=3) (hS.at_ 0 rfl) rfl))) rfl (cQ 2 rfl 1 rfl (by kernel_rfl) rfl (fun w hw=>aW rfl) rfl (cQ 3 rfl 5 rfl (by kernel_rfl) rfl (fun w hw=>aW rfl) rfl (aG 4 rfl (isV _) (aC _) (rgV (li:=[(16,_),(17,_)]) rfl (aT rfl) ⟨aP 1 (by kernel_rfl) (aA rfl rfl rfl),aP 2 (by kernel_rfl) (aA rfl rfl rfl),trivial⟩ (fun w hw=>aX  Tryz.underlying42 Tryz.sizeOf44 rfl rfl rfl (by omega) rfl) (aE rfl)) (bI 5 rfl 18 3 rfl (by kernel_rfl) rfl rfl (fun w hw=>aY (vs:=[_,_,_,_,_,_]) Tryz.isAgg44 Tryz.sizeOf44 rfl (aD.agree (aL hw 0) (Nat.zero_le _) (by assumption))) rfl ?_))))))))))
  refine aG 6 rfl (isV (.bool true)) (aC _) (cP [isV _,isV _] rfl uM (aT rfl) ⟨bW (aP 0 (by kernel_rfl) (aA rfl rfl rfl)),bW (aP 4 (by kernel_rfl) (aA rfl rfl rfl)),trivial⟩ (fun vs w' hb hh=>by have e:=bZ (us:=[_,_]) hh;subst e;exact (isR_ok (hs.below (hS.below.trans (hb.mono hS.below.size))) hok (hxx.below (hS.below.trans (hb.mono hS.below.size)))).mono fun e w2 h=>⟨_,h.1,rfl,h.2⟩) (aE rfl)) ?_
  refine aG 7 rfl (isV (.bool false)) (aC _) (jQ (li:=[(20,_)]) rfl (aT rfl) ⟨aP 5 (by kernel_rfl) (aA rfl rfl rfl),trivial⟩ (fun w hw=>jD rfl) (rfl) (aE rfl)) (dE ?_)
  intro W3 hbR hS'
  clear hS;have hS:=hS';clear hS'
  refine aF (aF (aF (aF (aF (aF (aF (cI (XF.thenN (yV rfl (bJ (XF.blkN (XF.thenN (aQ (aH rfl rfl (cY rfl rfl (IntWalk.i64_in _ (by omega)) rfl (aB rfl rfl (aO ?_)))))))))))))))))
  exact XF.round (m - (k+1)) [(1,_),(2,_),(5,_)] (by omega) ⟨rfl,rfl,rfl,trivial⟩ ⟨k+1,by omega,rfl,rfl,hS.clear⟩
 ·have hc12:=of_decide_eq_false hc;clear hc
  refine dX (XF.thenX (XF.thenX (XF.blkX (XF.thenN (aM (aQ (aB rfl rfl (aO (XF.thenN (bR (XF.res (cO Tryz.results101 rfl) ?_)))))))))))
  exact ⟨rfl,hS.below⟩
theorem Ik (S:PS) (sf:SF) (w:World) (hs:SIs w S sf) (hok:S.ok) (M:World→Prop) (hM:rL M) (hw:M w) (a:Option Addr) (c m:Nat) (fs:List WF) (xs:List PX) (hr:qC w a fs) (hx:XLF M S fs xs) (hm:fs.length=m) (hmx:m≤9223372036854775807) :
  Calls Tryz.prog 70 #[sf.val,.slice a m c] w (XRet2 M S (xs.foldl (cF S) (bX S)) 0 w):=by
 refine cD (args:=[sf.val,.slice a m c]) Tryz.func70 rfl Tryz.ntmps70 rfl ?_
 have hS:=St.start w
 refine aM (aQ (bT (cs:=[_,_,_]) hS rfl rfl rfl fun B1 W1 hS=>bC (cs:=[_,_,_,_,_,_]) hS Tryz.zeroValue44 rfl rfl fun B2 W2 hS=>aB rfl rfl (aO (XF.thenN (aM (aQ (aR (vs:=[_,_,_]) Tryz.isAgg25 Tryz.sizeOf25 rfl (aD.own (j:=0) (m:=3) (hS.at_ 1 rfl) rfl) rfl (aH rfl rfl (cB (vs:=[_,_]) hS Rb rfl (allR_ok S sf _ (hs.below hS.below) hok a c m fs xs (hr.below hS.below) ((hx.is hw).below hS.below) hm hmx) rfl fun W3 hS=>aB rfl rfl (aO (XF.thenN (aM (aM (aQ (aH rfl rfl (dD rfl rfl rfl (aO (XF.thenN (bB rfl (fun hc=>absurd (of_decide_eq_true hc) (by omega)) (fun hc=>?_))))))))))))))))))))
 have hc:=of_decide_eq_false hc
 refine bJ (XF.thenN (aM (aQ (aR (vs:=[_,_,_]) Tryz.isAgg25 Tryz.sizeOf25 rfl (aD.own (j:=0) (m:=3) (hS.at_ 1 rfl) rfl) rfl ?_))))
 have hsz0:=hS.below.size
 refine cK (vs:=[_]) hS zD rfl (T6 (hs.below hS.below) hok) rfl ?_
 rintro e W4 ⟨f0,rfl,hn,hb⟩
 refine ⟨_,rfl,hb,fun hS'=>?_⟩
 clear hS;have hS:=hS';clear hS'
 refine bC (cs:=[_,_,_,_,_,_]) hS Tryz.zeroValue44 rfl rfl fun B5 W5 hS=>aU (i:=0) (vs:=[_,_,_,_,_,_]) (cs':=[_,_,_,_,_,_]) (O':=[_,_,_]) hS Tryz.sizeOf44 rfl rfl rfl rfl rfl rfl rfl fun W6 hS=>aO (XF.thenN (aM (aM (aQ (aB rfl rfl (aO (XF.thenN (bP (eA (fun q l W=>∃ (k:Nat) (f0:WF) (K:List (Nat×World)),k≤m∧q=m - k∧l=[(1,.slice a m c),(2,.pointer (some ⟨B1,0,none⟩)),(4,.pointer (some ⟨B2,0,none⟩)),(7,.pointer (some ⟨B5,0,none⟩)),(8,.int .i64 (k:Int))]∧qD (MK M K) S f0 ((xs.take k).foldl (cF S) (bX S))∧(∀ q∈K,w.heap.size≤q.1)∧St w [(B5,f0.six,44),(B2,[.bool false,.int .i64 0,.int .u64 0,.slice none 0 0,.slice none 0 0,.slice none 0 0],44),(B1,[.int .i64 sf.tag,.int .i64 sf.dim,.slice sf.a sf.len sf.cap],25)] [] K W) (m - 0) ([(1,_),(2,_),(4,_),(7,_),(8,_)]) ⟨rfl,rfl,rfl,rfl,rfl,trivial⟩ (⟨0,f0,_,Nat.zero_le _,rfl,rfl,hn.far.mono (fun W2 h2=>h2.2 _ (List.mem_of_getElem? (i:=0) rfl)),one_le hsz0,hS.keep1⟩) ?_)))))))))
 clear hS
 rintro q l W ⟨k,f0,K,hkm,rfl,rfl,hn0,hK,hS⟩
 refine aM (aM (aQ (aH rfl rfl (aH rfl rfl (cJ Tryz.underlying42 rfl rfl (cS rfl rfl rfl (aO (XF.thenN (bB rfl (fun hc=>?_) (fun hc=>?_))))))))))
 ·have hc21:=of_decide_eq_true hc;clear hc
  have hk:k < m:=by omega
  obtain ⟨f,x,hf,hxk,hxx⟩:=hx.at_ (k:=k) (by omega)
  obtain ⟨b,off,rfl,h6⟩:=hr.at_ hf
  have k1:=aD.agree hS.agree (Nat.zero_le _) h6.cells
  have hsz2:=hS.below.size
  refine bJ (XF.thenN (aM (bP (qM bY 7 hS rfl rfl (by kernel_rfl) (by kernel_rfl) (by kernel_rfl) (fun d hd=>by cases hd) (cQ 1 rfl 2 rfl (by kernel_rfl) rfl (fun w hw=>aY (vs:=[_,_,_]) Tryz.isAgg25 Tryz.sizeOf25 rfl (aD.agree (aL hw 0) (Nat.zero_le _) (aD.own (j:=0) (m:=3) (hS.at_ 2 rfl) rfl))) rfl (cQ 2 rfl 7 rfl (by kernel_rfl) rfl (fun w hw=>aY (vs:=[_,_,_,_,_,_]) Tryz.isAgg44 Tryz.sizeOf44 rfl (aD.agree (aL hw 0) (Nat.zero_le _) (aD.own (j:=0) (m:=6) (hS.at_ 0 rfl) rfl))) rfl (cQ 3 rfl 1 rfl (by kernel_rfl) rfl (fun w hw=>aW rfl) rfl (cQ 4 rfl 8 rfl (by kernel_rfl) rfl (fun w hw=>aW rfl) rfl (aG 5 rfl (isV _) (aC _) (rgV (li:=[(26,_),(27,_)]) rfl (aT rfl) ⟨aP 2 (by kernel_rfl) (aA rfl rfl rfl),aP 3 (by kernel_rfl) (aA rfl rfl rfl),trivial⟩ (fun w hw=>aX  Tryz.underlying42 Tryz.sizeOf44 rfl rfl rfl (by omega) rfl) (aE rfl)) (bI 6 rfl 28 4 rfl (by kernel_rfl) rfl rfl (fun w hw=>aY (vs:=[_,_,_,_,_,_]) Tryz.isAgg44 Tryz.sizeOf44 rfl (aD.agree (aL hw 0) (Nat.zero_le _) (by assumption))) rfl ?_))))))))))
  refine aG 7 rfl (vO (MK M K) W.heap.size S (cF S ((xs.take k).foldl (cF S) (bX S)) x)) (uC) (cP [isV _,isV _,isV _] rfl Em (aT rfl) ⟨bW (aP 0 (by kernel_rfl) (aA rfl rfl rfl)),bW (aP 1 (by kernel_rfl) (aA rfl rfl rfl)),bW (aP 5 (by kernel_rfl) (aA rfl rfl rfl)),trivial⟩ (fun vs w' hb hh=>by have e:=bZ (us:=[_,_,_]) hh;subst e;exact uD hb.size (La (Pv hM K) (hs.below (hS.below.trans (hb.mono hS.below.size))) hok ((hS.stays hM hw).keep hM hb) hn0 (hxx.mono fun W2 h2=>h2.1))) (aE rfl)) ?_
  refine dE ?_
  intro W7 hbR hS'
  clear hS;have hS:=hS';clear hS'
  refine aF (aF (aF (aF (aF (aF ?_)))))
  refine dF ?_;rintro _ ⟨f2,rfl,hn2⟩;have hn2:=hn2.mono (M':=MK M ((_,W7)::K)) (fun W2 h2=>⟨h2.tail,h2.head⟩)
  refine cI (aU (i:=0) (vs:=[_,_,_,_,_,_]) (cs':=[_,_,_,_,_,_]) (O':=[_,_,_]) hS Tryz.sizeOf44 rfl rfl rfl rfl rfl rfl rfl fun W8 hS=>aO (XF.blkN (XF.thenN (aQ (aH rfl rfl (cY rfl rfl (IntWalk.i64_in _ (by omega)) rfl (aB rfl rfl (aO ?_))))))))
  exact XF.round (m - (k+1)) [(1,_),(2,_),(4,_),(7,_),(8,_)] (by omega) ⟨rfl,rfl,rfl,rfl,rfl,trivial⟩ ⟨k+1,f2,_,by omega,rfl,rfl,by rw [wY hxk];exact hn2,(fun q hq=>by rcases List.mem_cons.1 hq with rfl | hq;exact hsz2;exact hK q hq),hS⟩
 ·have hc21:=of_decide_eq_false hc;clear hc
  refine dX (XF.thenX (XF.thenX (XF.blkX (XF.thenN (aM (aQ (aR (vs:=[_,_,_,_,_,_]) Tryz.isAgg44 Tryz.sizeOf44 rfl (aD.own (j:=0) (m:=6) (hS.at_ 0 rfl) rfl) rfl (aU (i:=1) (vs:=[_,_,_,_,_,_]) (cs':=[_,_,_,_,_,_]) (O':=[_,_,_]) hS Tryz.sizeOf44 rfl rfl rfl rfl rfl rfl rfl fun W9 hS=>aB rfl rfl (aO (XF.thenN (bR (XF.res (xK (vs:=[_,_,_,_,_,_]) Tryz.results70 Tryz.isAgg44 Tryz.sizeOf44 rfl (aD.own (j:=0) (m:=6) (hS.at_ 1 rfl) rfl) rfl) ?_))))))))))))
  have e1:xs.take k=xs:=List.take_of_length_le (by have:=hx.1;omega)
  rw [e1] at hn0
  exact ⟨f0,rfl,hn0.mono (fun W2 h2=>⟨h2.1,fun q hq=>((hS.kept q hq).1).trans (h2.2.mono (hK q hq))⟩),hS.below⟩
theorem Du (S:PS) (sf:SF) (f g:WF) (x y:PX) (w:World) (hs:SIs w S sf) (hok:S.ok) (hx:XIs w S f x) (hy:XIs w S g y) (r:Bool) (hr:r=true↔cF S x y=y) :
  Calls Tryz.prog 24 #[sf.val,f.val,g.val] w (fun e w'=>e = .returned (.tuple #[.bool r,.int .i64 0])∧Below w.heap.size w w'):=by
 refine cD (args:=[sf.val,f.val,g.val]) Tryz.func24 rfl Tryz.ntmps24 rfl ?_
 have hS:=St.start w
 refine aM (aQ (bT (cs:=[_,_,_]) hS rfl rfl rfl fun B1 W1 hS=>bT (cs:=[_,_,_,_,_,_]) hS rfl rfl rfl fun B2 W2 hS=>bT (cs:=[_,_,_,_,_,_]) hS rfl rfl rfl fun B3 W3 hS=>aB rfl rfl (aB rfl rfl (aO (XF.thenN (aM (aQ (aR (vs:=[_,_,_]) Tryz.isAgg25 Tryz.sizeOf25 rfl (aD.own (j:=0) (m:=3) (hS.at_ 2 rfl) rfl) rfl (aR (vs:=[_,_,_,_,_,_]) Tryz.isAgg44 Tryz.sizeOf44 rfl (aD.own (j:=0) (m:=6) (hS.at_ 1 rfl) rfl) rfl (aR (vs:=[_,_,_,_,_,_]) Tryz.isAgg44 Tryz.sizeOf44 rfl (aD.own (j:=0) (m:=6) (hS.at_ 0 rfl) rfl) rfl (cT (us:=[(0,.agg (List.toArray [_,_,_,_,_,_])),(1,.agg (List.toArray [_,_,_,_,_,_]))]) hS Tryz.underlying42 Tryz.sizeOf44 Tryz.zeroValue44 rfl rfl rfl (rT _ _ _ _ _ _ _ _ _ _ _ _) rfl fun B4 W4 hS=>cK (vs:=[_,_]) hS goes_70 rfl (Ik S sf _ (hs.below hS.below) hok _ (F3 w) hS.below _ 2 2 [f,g] [x,y] (Do (hS.at_ 0 rfl)) (nI hx (nI hy Fo)).far rfl (by decide)) rfl ?_)))))))))))
 rintro e W5 ⟨f2,rfl,hf2,hb⟩
 refine ⟨_,rfl,hb,fun hS'=>?_⟩
 clear hS;have hS:=hS';clear hS' hb
 refine aH rfl rfl (bE rfl rfl rfl (bE rfl rfl rfl (bC (cs:=[_,_,_,_,_,_]) hS Tryz.zeroValue44 rfl rfl fun B6 W6 hS=>aU (i:=0) (vs:=[_,_,_,_,_,_]) (cs':=[_,_,_,_,_,_]) (O':=[_,_,_,_,_]) hS Tryz.sizeOf44 rfl rfl rfl rfl rfl rfl rfl fun W7 hS=>aB rfl rfl (aO (XF.thenN (aM (aQ (aH rfl rfl (cH rfl rfl rfl (aH rfl rfl (bV (d:=20) rfl (fun hc=>?_) (fun hc=>absurd (of_decide_eq_false hc) (by decide)))))))))))))
 have hc:=of_decide_eq_true hc
 refine aI (d:=20) rfl rfl (aR (vs:=[_,_,_,_,_,_]) Tryz.isAgg44 Tryz.sizeOf44 rfl (aD.own (j:=0) (m:=6) (hS.at_ 0 rfl) rfl) rfl (aI (d:=20) rfl rfl (aR (vs:=[_,_,_,_,_,_]) Tryz.isAgg44 Tryz.sizeOf44 rfl (aD.own (j:=0) (m:=6) (hS.at_ 2 rfl) rfl) rfl (aI (d:=20) rfl rfl (cB (vs:=[_,_]) hS rU rfl (Hz (hf2.is ⟨hS.below,hS.since 0 rfl⟩) (hy.below hS.below) r (by rw [hr,Ub hx.ok])) rfl fun W8 hS=>bF rfl rfl rfl (aH rfl rfl (aB rfl rfl (aB rfl rfl (aO (XF.thenN (bR (XF.res (res2 Tryz.results24 rfl rfl) ?_))))))))))))
 exact ⟨rfl,hS.below⟩
section
variable {P:Program} {n:Nat} {Q:Exit→Act→World→Prop} {l:Fr} {w0 W:World} {ops:Array Oper} {os:List Oper} {K:List (Nat×World)} {L:List Asr} {i:Nat}
variable {O:Own} {Gs:List Value→dC} {efs:List Nat} {lo:Nat} {s:List Value}
variable {d:Nat} {op:Op} {ty:TypeId} {pos:String} {aft_:Array Edge} {v:Value} {gd:Option (Nat×Bool)}
variable {Goal:List Asr→Prop}
theorem hg0 {Gs:List Value→dC} {gi:Nat} {g:GR} (h:(Gs [])[gi]?=some g):∀ s,s.length=0→(Gs s)[gi]?=some g:=fun s hs=>by rw [List.eq_nil_of_length_eq_zero hs];exact h
theorem hg1 {Gs:List Value→dC} {gi:Nat} {g:GR} (h:∀ a,(Gs [a])[gi]?=some g):∀ s,s.length=1→(Gs s)[gi]?=some g:=fun s hs=>by obtain ⟨a,rfl⟩:=List.length_eq_one_iff.1 hs;exact h a
end
section
variable {P:Program} {ops:Array Oper} {Q:Exit→Act→World→Prop} {σ:Type}
end
abbrev Sy:=Nat→Option Value
structure AB where
 a:Nat
 T:TypeId
 zs:List Value
 st:Nat
def blkNo:Value→Nat
 | .pointer (some p)=>p.block
 | _=>0
def AB.cs (q:AB) (s:Sy):List Value:=match s q.st with | none=>q.zs | some y=>jE q.zs 0 y.cells.toList
def AS (al:List AB) (s:Sy):Own:=al.flatMap fun q=>match s q.a with | some v=>[(blkNo v,q.cs s,q.T)] | none=>[]
section
variable {P:Program} {n:Nat} {Q:Exit→Act→World→Prop} {l:Fr} {w0 W:World} {ops opf:Array Oper} {os:List Oper} {K:List (Nat×World)} {L:List Asr} {i:Nat}
variable {Ob:Own} {al:List AB} {G:Sy→dC} {E:List Nat} {lo:Nat} {s:Sy}
abbrev OY (al:List AB) (Ob:Own) (s:Sy):Own:=AS al s++Ob
structure Kn (ops:Array Oper) (E:List Nat) (i:Nat) (s:Sy):Prop where
 yes:∀ e,E.contains e=true→(earlyL ops i).contains e=true→∃ v,s e=some v
 no:∀ e,(earlyL ops e).contains i=true→s e=none
 out:∀ e,E.contains e=false→s e=none
 self:s i=none
variable {d:Nat} {op:Op} {ty:TypeId} {pos:String} {aft_:Array Edge} {v:Value} {gd:Option (Nat×Bool)}
variable {Goal:List Asr→Prop}
end
section
variable {P:Program} {n:Nat} {ops:Array Oper} {Q:Exit→Act→World→Prop} {l:Fr} {w0 W:World} {os:List Oper} {d:Nat} {ty:TypeId} {pos:String} {aft:Array Edge}
theorem cV {x:Operand} {p:Addr} (hx:evL l x=some (.pointer (some p))):iB P l ⟨some d,.nilCheck x,ty,pos,aft,none⟩ W (.pointer (some p)) W:=fun ev he=>by
 unfold execOp;simp only [];rw [he x _ hx];rfl
theorem cL {x:Operand} {p:Addr} (hx:evL l x=some (.pointer (some p))) (hd:Nat.blt d n=true) (h:cW P n ops Q os ((d,.pointer (some p))::l) W):cW P n ops Q (⟨some d,.nilCheck x,ty,pos,aft,none⟩::os) l W:=opV (cV hx) hd h
end
section
variable {P:Program} {n:Nat} {Q:Exit→Act→World→Prop} {l:Fr} {W:World} {ops:Array Oper} {os:List Oper} {d:Nat} {ty:TypeId} {pos:String} {aft:Array Edge} {x y:Operand} {k:IntKind} {a b:Int} {ts:Array TypeId}
end
def Uc:List (Nat×Nat×Asr)→(Operand→Value)→World→Prop
 | [],_,_=>True
 | x::xs,ev,w=>x.2.2 (ev (.tmp x.2.1)) w∧Uc xs ev w
def Ud (ops:Array Oper) (L:List Asr) (i:Nat):List (Nat×Nat×Asr)→Prop
 | []=>True
 | x::xs=>(bM ops i x.1 x.2.1=true∧atI L x.1=x.2.2)∧Ud ops L i xs
section
variable {P:Program} {ops opf:Array Oper} {Q:Exit→Act→World→Prop} {n:Nat} {l:Fr} {w0 W:World} {K:List (Nat×World)} {lo:Nat} {al:List AB} {Ob:Own} {G:Sy→dC} {E:List Nat} {L:List Asr} {i:Nat}
variable {d:Nat} {op:Op} {ty:TypeId} {pos:String} {aft_:Array Edge}
end
end Go.Proofs.YtmgnkpibpjgncaaGreatDoor
namespace Go.Proofs.YtmgnkpibpjgncaaGreatDoor
open Go Go.RowKit
open Go.WideMaps (KeyLaw)
open Go.ChangeMaps (setBlock)
section
variable {α:Type} {P:Program} {K E S T:TypeId} {κ:α→Value} {W:World} {lo b:Nat} {f:α→List Value}
structure GrpE (P:Program) (K E:TypeId) (κ:α→Value) (lo:Nat) (f:α→List Value) (W:World) (es:Array MapEntry) (clock:Nat):Prop where
 born:∀ x∈es.toList,x.born < clock
 nodup:(es.toList.map (·.born)).Nodup
 keys:es.toList.Pairwise (fun x y=>x.key≠y.key)
 is:∀ x∈es.toList,∃ k,x.key=κ k∧(∃ l,keyOf P K (κ k)=some l)∧W.ownsRow lo E 1 x.val (f k).length (f k)
 all:∀ k,f k≠[]→∃ x∈es.toList,x.key=κ k
 apart:∀ x∈es.toList,∀ y∈es.toList,x.key≠y.key→Value.apart x.val y.val
def Grp (P:Program) (K E:TypeId) (κ:α→Value) (lo:Nat) (f:α→List Value) (b:Nat) (W:World):Prop :=
 ∃ es clock,W.heap[b]?=some (.map es clock)∧GrpE P K E κ lo f W es clock
theorem A7 {l:List MapEntry} (h:l.Pairwise (fun x y=>x.key≠y.key)) {x y:MapEntry} (hx:x∈l) (hy:y∈l) (e:x.key=y.key):x=y:=by
 induction h with
 | nil=>cases hx
 | cons a _ ih =>
  rcases List.mem_cons.1 hx with hx1 | hx1
  ·rcases List.mem_cons.1 hy with hy1 | hy1
   ·rw [hx1,hy1]
   ·subst hx1;exact absurd e (a _ hy1)
  ·rcases List.mem_cons.1 hy with hy1 | hy1
   ·subst hy1;exact absurd e.symm (a _ hx1)
   ·exact ih hx1 hy1
theorem GrpE.valid {es:Array MapEntry} {clock:Nat} (h:GrpE P K E κ lo f W es clock):∀ e∈es.toList,∃ l,keyOf P K e.key=some l:=fun e he=>by
 obtain ⟨k,h1,h2,_⟩:=h.is e he
 rw [h1];exact h2
theorem GrpE.nil_of {es:Array MapEntry} {clock:Nat} (h:GrpE P K E κ lo f W es clock) {k:α} (hn:∀ x∈es.toList,x.key≠κ k):f k=[] :=
 Decidable.byContradiction fun hne=>by
  obtain ⟨x,hx,hk⟩:=h.all k hne
  exact hn x hx hk
theorem GrpE.at_ {es:Array MapEntry} {clock:Nat} (h:GrpE P K E κ lo f W es clock) (hinj:∀ x y,κ x=κ y→x=y) {x:MapEntry} {k:α} (hx:x∈es.toList) (hk:x.key=κ k):W.ownsRow lo E 1 x.val (f k).length (f k):=by
 obtain ⟨k2,h1,_,h2⟩:=h.is x hx
 obtain rfl:=hinj _ _ (h1.symm.trans hk)
 exact h2
theorem lJ {w:World} {base n p:Nat} {e:TypeId} {size:Nat} {v:Value} {xs:List Value} (h:w.ownsRow base e size v n xs) {es:Array MapEntry} {clock:Nat} (hb:w.heap[b]?=some (.map es clock)) (hp:v.ownBlock=some p):p≠b:=by
 rcases h.2 with ⟨rfl,_⟩ | ⟨g,cap,cur,rfl,_,h4,_⟩
 ·cases hp
 ·intro e1
  have:g=p:=Option.some.inj hp
  rw [this,e1,hb] at h4;cases h4
theorem Grp.same {W':World} (h:Grp P K E κ lo f b W) (hb:b < W.heap.size→W'.heap[b]?=W.heap[b]?) (hs:∀ p,lo≤p→p < W.heap.size→W'.heap[p]?=W.heap[p]?):Grp P K E κ lo f b W':=by
 obtain ⟨es,clock,h1,h2⟩:=h
 refine ⟨es,clock,(hb (cC h1)).trans h1,⟨h2.born,h2.nodup,h2.keys,fun x hx=>?_,h2.all,h2.apart⟩⟩
 obtain ⟨k,h3,h4,h5⟩:=h2.is x hx
 exact ⟨k,h3,h4,dQ h5 fun p hp=>hs p (h5.lt p hp).1 (h5.lt p hp).2⟩
theorem Grp.below {W':World} (h:Grp P K E κ lo f b W) (hb:Below W.heap.size W W'):Grp P K E κ lo f b W':=h.same (fun h1=>hb.block _ h1) (fun p _ h1=>hb.block _ h1)
theorem Grp.fresh (lo:Nat) (hb:W.heap[b]?=some (.map #[] 0)):Grp P K E κ lo (fun _=>[]) b W :=
 ⟨#[],0,hb,⟨by simp,by simp,by simp,by simp,fun k h=>absurd rfl h,by simp⟩⟩
theorem Grp.look (h:Grp P K E κ lo f b W) (L:KeyLaw P K) (ht:P.underlying T=some (.map K S)) (hz:∀ w,(zeroValue S).run P w = .ok (.slice none 0 0) w) {k:α} (hk:∃ l,keyOf P K (κ k)=some l) (hinj:∀ x y,κ x=κ y→x=y) :
  ∃ v,(∀ W',W'.heap[b]?=W.heap[b]?→(Instr.lookup T (.map (some b)) (κ k) false).run P W' = .ok v W')∧W.ownsRow lo E 1 v (f k).length (f k):=by
 obtain ⟨es,clock,hb,hE⟩:=h
 obtain ⟨l,hl⟩:=hk
 by_cases hx:∃ x∈es.toList,x.key=κ k
 ·obtain ⟨x,hx,hxk⟩:=hx
  refine ⟨x.val,fun W' hW'=>?_,hE.at_ hinj hx hxk⟩
  rcases L.find W' hl es.toList hE.valid with ⟨_,h2⟩ | ⟨j,e0,h1,h2,h3⟩
  ·exact absurd hxk (h2 x hx)
  ·obtain rfl:e0=x:=A7 hE.keys (List.mem_of_getElem? h2) hx (h3.trans hxk.symm)
   simp [Instr.lookup,run_underlying ht,MapKept.run_getObj_map (hW'.trans hb),L.check W' _ hl,h1,Result.andThen]
 ·have hn:∀ x∈es.toList,x.key≠κ k:=fun x h1 h2=>hx ⟨x,h1,h2⟩
  refine ⟨.slice none 0 0,fun W' hW'=>?_,?_⟩
  ·rcases L.find W' hl es.toList hE.valid with ⟨h1,_⟩ | ⟨j,e0,_,h2,h3⟩
   ·simp [Instr.lookup,run_underlying ht,MapKept.run_getObj_map (hW'.trans hb),L.check W' _ hl,h1,hz,Result.andThen]
   ·exact absurd ⟨e0,List.mem_of_getElem? h2,h3⟩ hx
  ·rw [hE.nil_of hn];exact World.ownsRow_nil _ _ _ _
theorem rM {w:World} {o o':Obj} (hb:w.heap[b]?=some o):(setBlock w b o').heap[b]?=some o':=(MapKept.heap_set hb).1
theorem eR {w:World} {o o':Obj} (hb:w.heap[b]?=some o) {p:Nat} (hp:p≠b):(setBlock w b o').heap[p]?=w.heap[p]?:=(MapKept.heap_set hb).2 p hp
theorem mV {w:World} {o o':Obj} (hb:w.heap[b]?=some o):w.grownBy (setBlock w b o') (some b) :=
 ⟨rfl,rfl,rfl,by simp [setBlock],fun k _ hk=>eR hb (fun e=>hk (by rw [e]))⟩
theorem A8 {es:Array MapEntry} {j:Nat} {e0 x:MapEntry} {g:MapEntry→MapEntry} (hj:es.toList[j]?=some e0) (hx:x∈(es.modify j g).toList):x=g e0∨∃ i,i≠j∧es.toList[i]?=some x:=by
 obtain ⟨i,hi⟩:=List.getElem?_of_mem hx
 rw [Array.toList_modify,List.getElem?_modify] at hi
 by_cases hij:j=i
 ·subst hij
  rw [hj] at hi
  simp at hi
  exact .inl hi.symm
 ·refine .inr ⟨i,fun e=>hij e.symm,?_⟩
  simpa [hij] using hi
theorem A9 {es:Array MapEntry} {j i:Nat} {x:MapEntry} {g:MapEntry→MapEntry} (hx:es.toList[i]?=some x):(if j=i then g x else x)∈(es.modify j g).toList:=by
 refine List.mem_of_getElem? (i:=i) ?_
 rw [Array.toList_modify,List.getElem?_modify,hx]
 by_cases hij:j=i<;>simp [hij]
theorem Ba {β:Type} {es:Array MapEntry} {j:Nat} {g:MapEntry→MapEntry} {p:MapEntry→β} (h:∀ x,p (g x)=p x):(es.modify j g).toList.map p=es.toList.map p:=by
 apply List.ext_getElem?
 intro i
 rw [Array.toList_modify,List.getElem?_map,List.getElem?_map,List.getElem?_modify]
 cases es.toList[i]? with
 | none=>rfl
 | some x =>
  by_cases hij:j=i
  ·simp [hij,h]
  ·simp [hij]
theorem pw_map {β:Type} {r:β→β→Prop} {p:MapEntry→β} {l l':List MapEntry} (h:l.Pairwise (fun x y=>r (p x) (p y))) (e:l'.map p=l.map p):l'.Pairwise (fun x y=>r (p x) (p y)):=by
 rw [← List.pairwise_map] at h ⊢
 rw [e];exact h
variable {n:Nat} {ops:Array Oper} {Q:Exit→Act→World→Prop} {os:List Oper} {l:Fr} {w0:World} {O:Own} {G:dC} {Kk:List (Nat×World)} {d:Nat} {ty:TypeId} {pos:String} {aft:Array Edge}
theorem Dv {m x:Operand} {v u:Value} {w:World} {key:Value} (hm:evL l m=some u) (hx:evL l x=some key) (hr:(Instr.lookup T u key false).run P w = .ok v w):iB P l ⟨some d,.lookup T m x false,ty,pos,aft,none⟩ w v w:=fun ev he=>by
 unfold execOp;simp only [];rw [he m _ hm,he x _ hx]
 simp [hr,Result.andThen]
theorem Pw {T e:TypeId} {x y:Operand} {kk:IntKind} {j:Int} {s:Nat} (hU:P.underlying T=some (.slice e)) (hs:∀ w,(sizeOf e).run P w = .ok s w) (hx:evL l x=some (.slice none 0 0)) (hy:evL l y=some (.int kk j)) (hj:j=0) (hd:Nat.blt d n=true)
  (h:cW P n ops Q os ((d,.slice none 0 0)::l) W):cW P n ops Q (⟨some d,.slice T x none (some y) none,ty,pos,aft,none⟩::os) l W :=
 opV (v:=.slice none 0 0) (fun ev he=>by
  subst hj
  unfold execOp;simp only [Option.map_some,Option.map_none];rw [he x _ hx,he y _ hy]
  simp [Instr.sliceAt,Instr.slice,Instr.sliceBounds,Instr.sliceBound,run_underlying hU,asIntOf,hs,Result.andThen]) hd h
theorem yR {es:Array MapEntry} {clock:Nat} (hS:St w0 O G Kk W) (hb:W.heap[b]?=some (.map es clock)):∀ p∈O,p.1≠b∧p.1 < W.heap.size:=fun p hp=>by
 refine ⟨fun e=>?_,hS.own_lt p hp⟩
 have h1:=(hS.own p hp).2
 rw [e,hb] at h1
 cases h1
theorem Grp.lt (h:Grp P K E κ lo f b W):b < W.heap.size:=by
 obtain ⟨es,clock,h1,_⟩:=h
 exact cC h1
def sO (W:World) (b:Nat):World:={ W with heap:=W.heap.extract 0 (b+1) }
theorem jO (h:b < W.heap.size):(sO W b).heap.size=b+1:=by simp [sO];omega
theorem pQ (h:b < W.heap.size):b < (sO W b).heap.size:=by rw [jO h];exact Nat.lt_succ_self _
theorem pR (h:b < W.heap.size):(sO W b).heap[b]?=W.heap[b]?:=by
 rw [Array.getElem?_eq_getElem (pQ h),Array.getElem?_eq_getElem h]
 simp [sO]
theorem St.markAt {b:Nat} (h:St w0 O [] Kk W) (hb:b < W.heap.size) (hO:∀ p∈O,p.1≠b):St w0 O [] ((b,sO W b)::Kk) W where
 below:=h.below
 own:=h.own
 dist:=h.dist
 kept:=fun q hq=>by
  rcases List.mem_cons.1 hq with rfl | hq
  ·refine ⟨⟨by show (sO W b).heap.size≤_;rw [jO hb];exact hb,fun x h1 h2=>?_⟩,fun p hp=>?_⟩
   ·have h3:x < b+1:=by rw [← jO hb];exact h2
    have h4:b≤x:=h1
    obtain rfl:x=b:=by omega
    exact (pR hb).symm
   ·have:=hO p hp
    show p.1 < b∨(sO W b).heap.size≤p.1
    rw [jO hb];omega
  ·exact h.kept q hq
 rows:=fun g hg=>by cases hg
 gdist:=List.Pairwise.nil
end
end Go.Proofs.YtmgnkpibpjgncaaGreatDoor
namespace Go.Proofs.YtmgnkpibpjgncaaGreatDoor
open Go Go.RowKit
theorem St.headSl {w0 W:World} {O:Own} {G:dC} {K:List (Nat×World)} {v:Value} {n size:Nat} {xs:List Value} {e:TypeId} (h:St w0 O (⟨v,n,xs,e,size⟩::G) K W):∃ a c,v = .slice a n c:=by
 obtain ⟨a,c,e9,_⟩:=gV (h.row 0 rfl)
 exact ⟨a,c,e9⟩
section
variable {w0 W:World} {O:Own} {G:dC} {K:List (Nat×World)}
variable {P:Program} {n:Nat} {ops:Array Oper} {Q:Exit→Act→World→Prop} {l:Fr} {os:List Oper} {d:Nat} {ty:TypeId} {pos:String} {aft:Array Edge}
theorem St.markMap {b:Nat} {es:Array MapEntry} {clock:Nat} (h:St w0 O G K W) (hb:W.heap[b]?=some (.map es clock)):St w0 O G ((b,sO W b)::K) W where
 below:=h.below
 own:=h.own
 dist:=h.dist
 kept:=fun q hq=>by
  rcases List.mem_cons.1 hq with rfl | hq
  ·have hlt:=cC hb
   refine ⟨⟨by show (sO W b).heap.size≤_;rw [jO hlt];exact hlt,fun x h1 h2=>?_⟩,fun p hp=>?_⟩
   ·have h3:x < b+1:=by rw [← jO hlt];exact h2
    have h4:b≤x:=h1
    obtain rfl:x=b:=by omega
    exact (pR hlt).symm
   ·have:p.1≠b:=fun e=>by
     have h5:=(h.own p hp).2
     rw [e,hb] at h5;cases h5
    show p.1 < b∨(sO W b).heap.size≤p.1
    rw [jO hlt];omega
  ·exact h.kept q hq
 rows:=fun g hg=>by
  obtain ⟨h1,h2⟩:=h.rows g hg
  refine ⟨h1,fun k hk=>⟨(h2 k hk).1,fun q hq=>?_⟩⟩
  rcases List.mem_cons.1 hq with rfl | hq
  ·have:k≠b:=lJ h1 hb hk
   show k < b∨(sO W b).heap.size≤k
   rw [jO (cC hb)];omega
  ·exact (h2 k hk).2 q hq
 gdist:=h.gdist
theorem St.oneV (h:St w0 O G K W) (i:Nat) (g:GR) (hi:G[i]?=some g):g.v.oneCell'=true:=by
 rcases (h.rows g (List.mem_of_getElem? hi)).1.2 with ⟨h1,_⟩ | ⟨_,_,_,h1,_⟩<;>rw [h1]<;>rfl
end
section
variable {P:Program} {ops opf:Array Oper} {Q:Exit→Act→World→Prop} {n:Nat} {l:Fr} {w0 W:World} {K:List (Nat×World)} {lo:Nat} {al:List AB} {Ob:Own} {G:Sy→dC} {E:List Nat} {L:List Asr} {i:Nat}
variable {d:Nat} {op:Op} {ty:TypeId} {pos:String} {aft_:Array Edge}
end
structure Ready (w:World) (S:PS) (px:RV→PX) (p:PV) (c:CV):Prop where
 chk:Tu p c=0
 ok:S.ok
 si:SIs w S p.s.f
 w4:∀ r∈p.rs,r.wl≤4096
 c4:c.wl≤4096
 x:∀ r∈p.rs,XIs w S r.x.f (px r)
theorem ready {w:World} {ds d:Nat} {p:PV} {c:CV} (hp:PvIn w ds d p) (h:Tu p c=0):∃ S px,Ready w S px p c:=by
 classical
 have h1:pdsE p=0∧Tt p c=true:=by
  unfold Tu at h
  split at h
  ·rename_i hn;exact absurd h hn
  ·rename_i hn
   split at h
   ·rename_i hc;exact ⟨Decidable.of_not_not hn,hc⟩
   ·cases h
 obtain ⟨hd,hc⟩:=h1
 have h2:dV p.s=0∧p.rs.all (Ts p.st p.sy)=true∧wtE p.s p.rs=0:=by
  unfold pdsE at hd
  split at hd
  ·rename_i hn;exact absurd hd hn
  ·rename_i hn
   split at hd
   ·cases hd
   ·split at hd
    ·cases hd
    ·split at hd
     ·rename_i ha;exact ⟨Decidable.of_not_not hn,ha,hd⟩
     ·cases hd
 obtain ⟨hs,hr,hw⟩:=h2
 obtain ⟨S,hok,hsi,hx⟩:=Ig hp.s hs
 have hall:∀ r∈p.rs,lI p.s r.x=0:=by
  have key:∀ rs:List RV,wtE p.s rs=0→∀ r∈rs,lI p.s r.x=0:=by
   intro rs
   induction rs with
   | nil=>intro _ r hr;cases hr
   | cons a rs ih =>
    intro hz r hr
    unfold wtE at hz
    split at hz
    ·rename_i h0
     rcases List.mem_cons.1 hr with rfl | hr
     ·exact h0
     ·exact ih hz r hr
    ·rename_i h0;exact absurd hz h0
  exact key _ hw
 have hex:∀ r,∃ x,r∈p.rs→XIs w S r.x.f x:=fun r=>by
  by_cases hm:r∈p.rs
  ·have h0:=hall r hm
   have hokw:okW p.s r.x=true:=by
    unfold lI at h0
    rw [if_pos hs] at h0
    split at h0
    ·assumption
    ·cases h0
   obtain ⟨x,hxx⟩:=hx r.x d (hp.rin r hm).x hokw
   exact ⟨x,fun _=>hxx⟩
  ·exact ⟨bX S,fun h=>absurd h hm⟩
 refine ⟨S,fun r=>Classical.choose (hex r),h,hok,hsi,fun r hm=>?_,?_,fun r hm=>Classical.choose_spec (hex r) hm⟩
 ·have:=List.all_eq_true.1 hr r hm
  unfold Ts at this
  simp only [Bool.and_eq_true,decide_eq_true_eq] at this
  exact this.2.2.2.1
 ·unfold Tt at hc
  simp only [Bool.and_eq_true,decide_eq_true_eq] at hc
  exact hc.2.1
section
variable {w:World} {ds d:Nat} {S:PS} {px:RV→PX} {p:PV} {c:CV} {la:Option Addr} {ll lc:Nat} {is:List Int} {R:Option StT×Int×Int}
end
theorem My:bK Tryz.prog 39=true:=by kernel_rfl
theorem fa_76_1 (w:World) (b o:Nat):(Instr.fieldAt 76 (.pointer (some ⟨b,o,none⟩)) 1).run Tryz.prog w = .ok (.pointer (some ⟨b,o+3,none⟩)) w:=by
 simp [Instr.fieldAt,run_underlying Tryz.underlying76,Instr.sureAddr,go_sem,Addr.add_lit]
noncomputable def nzX (S:PS) (x:PX):Bool:=@decide (x≠bX S) (Classical.propDecidable _)
theorem oO {S:PS} {x:PX}:nzX S x=true↔x≠bX S:=by unfold nzX;exact @decide_eq_true_iff _ (Classical.propDecidable _)
theorem kU {S:PS} {x:PX}:nzX S x=false↔x=bX S:=by
 unfold nzX
 rw [@decide_eq_false_iff_not _ (Classical.propDecidable _)]
 exact Classical.not_not
noncomputable def eqX (x y:PX):Bool:=@decide (x=y) (Classical.propDecidable _)
theorem rN {x y:PX}:eqX x y=true↔x=y:=by unfold eqX;exact @decide_eq_true_iff _ (Classical.propDecidable _)
theorem sH {x y:PX}:eqX x y=false↔x≠y:=by unfold eqX;exact @decide_eq_false_iff_not _ (Classical.propDecidable _)
theorem Ce (S:PS) (sf:SF) (f0 f:WF) (x:PX) (w:World) (h0:XIs w S f0 (bX S)) (hx:XIs w S f x) :
  Calls Tryz.prog 38 #[jN sf f0,f.val] w (fun e w'=>e = .returned (.bool (!nzX S x))∧Below w.heap.size w w'):=by
 refine cD (args:=[jN sf f0,f.val]) Tryz.func38 rfl Tryz.ntmps38 rfl ?_
 have hS:=St.start w
 refine aM (aQ (bT (cs:=[_,_,_,_,_,_,_,_,_]) hS rfl rfl rfl fun B1 W1 hS=>bT (cs:=[_,_,_,_,_,_]) hS rfl rfl rfl fun B2 W2 hS=>aB rfl rfl (aO (XF.thenN (aM (aQ (aR (vs:=[_,_,_,_,_,_]) Tryz.isAgg44 Tryz.sizeOf44 rfl (aD.own (j:=0) (m:=6) (hS.at_ 0 rfl) rfl) rfl (aN (o':=3) fa_76_1 rfl rfl rfl (aR (vs:=[_,_,_,_,_,_]) Tryz.isAgg44 Tryz.sizeOf44 rfl (aD.own (j:=3) (m:=6) (hS.at_ 1 rfl) rfl) rfl (cB (vs:=[_,_]) hS Ei rfl (Ij (hx.below hS.below) (h0.below hS.below) (!nzX S x) (by rw [Bool.not_eq_true',kU])) rfl fun W3 hS=>aB rfl rfl (aO (XF.thenN (bR (XF.res (cO Tryz.results38 rfl) ?_))))))))))))))
 exact ⟨rfl,hS.below⟩
theorem Il (S:PS) (sf:SF) (f0:WF) (w:World) (hs:SIs w S sf) (hok:S.ok) :
  Calls Tryz.prog 96 #[jN sf f0] w (gN S (bX S) w):=by
 refine cD (args:=[jN sf f0]) Tryz.func96 rfl Tryz.ntmps96 rfl ?_
 have hS:=St.start w
 refine aM (aQ (bT (cs:=[_,_,_,_,_,_,_,_,_]) hS rfl rfl rfl fun B1 W1 hS=>bC (cs:=[_,_,_,_,_,_]) hS Tryz.zeroValue44 rfl rfl fun B2 W2 hS=>aO (XF.thenN (aM (aQ (aN (o':=0) yH rfl rfl rfl (aR (vs:=[_,_,_]) Tryz.isAgg25 Tryz.sizeOf25 rfl (aD.own (j:=0) (m:=3) (hS.at_ 1 rfl) rfl) rfl ?_)))))))
 have hsz9:=hS.below.size
 refine cK (vs:=[_]) hS Lw rfl (Hy S sf _ (hs.below hS.below) hok) rfl ?_
 rintro e W3 ⟨f9,rfl,hn9,hb⟩
 refine ⟨_,rfl,hb,fun hS'=>?_⟩
 clear hS;have hS:=hS';clear hS'
 refine aH rfl rfl (bE rfl rfl rfl (bE rfl rfl rfl (bC (cs:=[_,_,_,_,_,_]) hS Tryz.zeroValue44 rfl rfl fun B4 W4 hS=>aU (i:=0) (vs:=[_,_,_,_,_,_]) (cs':=[_,_,_,_,_,_]) (O':=[_,_,_]) hS Tryz.sizeOf44 rfl rfl rfl rfl rfl rfl rfl fun W5 hS=>aB rfl rfl (aO (XF.thenN (aM (aQ (aR (vs:=[_,_,_,_,_,_]) Tryz.isAgg44 Tryz.sizeOf44 rfl (aD.own (j:=0) (m:=6) (hS.at_ 0 rfl) rfl) rfl (aU (i:=1) (vs:=[_,_,_,_,_,_]) (cs':=[_,_,_,_,_,_]) (O':=[_,_,_]) hS Tryz.sizeOf44 rfl rfl rfl rfl rfl rfl rfl fun W6 hS=>aO (XF.thenN (bR (XF.res (dP (vs:=[_,_,_,_,_,_]) Tryz.results96 Tryz.isAgg44 Tryz.sizeOf44 rfl (aD.own (j:=0) (m:=6) (hS.at_ 1 rfl) rfl)) ?_))))))))))))
 exact ⟨f9,rfl,(hn9.agree (hS.since 0 rfl)).mono hsz9,hS.below⟩
theorem vQ (S:PS) (sf:SF) (f0:WF) (w:World) (hs:SIs w S sf) (hok:S.ok) (a:Option Addr) (c m:Nat) (fs:List WF) (xs:List PX) (hr:qC w a fs) (hx:XL w S fs xs) (hm:fs.length=m) (hmx:m≤9223372036854775807) (ht:Tabs w) :
  Calls Tryz.prog 39 #[jN sf f0,.slice a m c] w (gN S (xs.foldl (cF S) (bX S)) w):=by
 refine cD (args:=[jN sf f0,.slice a m c]) Tryz.func39 rfl Tryz.ntmps39 rfl ?_
 have hS:=St.start w
 refine aM (aQ (bT (cs:=[_,_,_,_,_,_,_,_,_]) hS rfl rfl rfl fun B1 W1 hS=>bC (cs:=[_,_,_,_,_,_]) hS Tryz.zeroValue44 rfl rfl fun B2 W2 hS=>aO (XF.thenN (aM (aQ (aN (o':=0) yH rfl rfl rfl (aR (vs:=[_,_,_]) Tryz.isAgg25 Tryz.sizeOf25 rfl (aD.own (j:=0) (m:=3) (hS.at_ 1 rfl) rfl) rfl (aH rfl rfl ?_))))))))
 have hsz9:=hS.below.size
 refine cK (vs:=[_,_]) hS goes_82 rfl (Hx S sf _ (hs.below hS.below) hok a c m fs xs (hr.below hS.below) (hx.below hS.below) hm hmx (ht.below hS.below)) rfl ?_
 rintro e W3 ⟨f9,rfl,hn9,hb⟩
 refine ⟨_,rfl,hb,fun hS'=>?_⟩
 clear hS;have hS:=hS';clear hS'
 refine aH rfl rfl (bE rfl rfl rfl (bE rfl rfl rfl (bC (cs:=[_,_,_,_,_,_]) hS Tryz.zeroValue44 rfl rfl fun B4 W4 hS=>aU (i:=0) (vs:=[_,_,_,_,_,_]) (cs':=[_,_,_,_,_,_]) (O':=[_,_,_]) hS Tryz.sizeOf44 rfl rfl rfl rfl rfl rfl rfl fun W5 hS=>aB rfl rfl (aO (XF.thenN (aM (aQ (aR (vs:=[_,_,_,_,_,_]) Tryz.isAgg44 Tryz.sizeOf44 rfl (aD.own (j:=0) (m:=6) (hS.at_ 0 rfl) rfl) rfl (aU (i:=1) (vs:=[_,_,_,_,_,_]) (cs':=[_,_,_,_,_,_]) (O':=[_,_,_]) hS Tryz.sizeOf44 rfl rfl rfl rfl rfl rfl rfl fun W6 hS=>aO (XF.thenN (bR (XF.res (dP (vs:=[_,_,_,_,_,_]) Tryz.results39 Tryz.isAgg44 Tryz.sizeOf44 rfl (aD.own (j:=0) (m:=6) (hS.at_ 1 rfl) rfl)) ?_))))))))))))
 exact ⟨f9,rfl,(hn9.agree (hS.since 0 rfl)).mono hsz9,hS.below⟩
theorem plus2N {w:World} {S:PS} {sf:SF} {f0:WF} {x y:PX} {vs:List Value} {lo:Nat} (hh:nX [isV (jN sf f0),mT S [x,y]] vs w) (hs:SIs w S sf) (hok:S.ok) (hx:OkX S x) (ht:Tabs w) (hlo:lo≤w.heap.size):Calls Tryz.prog 39 vs.toArray w (zJ (dL lo S (cF S x y)) w):=by
 obtain ⟨v1,v2,rfl,rfl,b,fs,rfl,hr,hxl⟩:=pM hh
 refine kS hlo ?_
 have h9:=vQ S sf f0 w hs hok _ 2 2 fs [x,y] hr hxl (by have:=hxl.1;simpa using this) (by decide) ht
 rw [Ub hx] at h9
 exact h9
section
variable {P:Program} {n:Nat} {ops:Array Oper} {Q:Exit→Act→World→Prop} {l:Fr} {W:World} {os:List Oper}
theorem rO {dst:Nat} {op:Op} {ty:TypeId} {pos:String} {aft:Array Edge} {g d:Nat} {b:Bool} (hd:(ops[g]?).bind (·.dst)=some d) (hv:look l d=some undef) (hn:Nat.blt dst n=true)
  (h:cW P n ops Q os ((dst,undef)::l) W):cW P n ops Q (⟨some dst,op,ty,pos,aft,some (g,b)⟩::os) l W:=fun a ha=>by
 have h2:=ha.at_ d _ hv
 have hw:Region.wanted ⟨some dst,op,ty,pos,aft,some (g,b)⟩ (yielded ops a.tmps)=false:=by
  cases hx:a.tmps[d]? with
  | none=>simp [Region.wanted,yielded,hd,hx]
  | some x =>
   simp only [Act.eval,Array.getD_eq_getD_getElem?,hx] at h2
   simp at h2
   subst h2
   simp [Region.wanted,yielded,hd,hx,undef]
 unfold wpList
 rw [hw]
 exact h _ (ha.put hn)
end
structure TV where
 f:Int
 g:Int
 t:Int
 x:WV
abbrev TV.nine (r:TV):List Value:=[.int .i64 r.f,.int .i64 r.g,.int .i64 r.t,.bool r.x.f.z,.int .i64 r.x.f.c,.int .u64 (r.x.f.g:Int),.slice r.x.f.ra r.x.f.rl r.x.f.rc,.slice r.x.f.ca r.x.f.cl r.x.f.cc,.slice r.x.f.pa r.x.f.pl r.x.f.pc]
def qE (w:World) (a:Option Addr) (ts:List TV):Prop :=
 ts=[]∨∃ b off,a=some ⟨b,off,none⟩∧∀ (i:Nat) r,ts[i]?=some r→aD w b (off+i * 9) r.nine
structure AV where
 s:SV
 st:Int
 sy:Int
 fa:Option Addr
 fl:Nat
 fc:Nat
 fs:List Int
 ta:Option Addr
 tl:Nat
 tc:Nat
 ts:List TV
abbrev AV.seven (a:AV):List Value:=[.int .i64 a.s.f.tag,.int .i64 a.s.f.dim,.slice a.s.f.a a.s.f.len a.s.f.cap,.int .i64 a.st,.int .i64 a.sy,.slice a.fa a.fl a.fc,.slice a.ta a.tl a.tc]
abbrev AV.val (a:AV):Value:=.agg #[.int .i64 a.s.f.tag,.int .i64 a.s.f.dim,.slice a.s.f.a a.s.f.len a.s.f.cap,.int .i64 a.st,.int .i64 a.sy,.slice a.fa a.fl a.fc,.slice a.ta a.tl a.tc]
structure AIn (w:World) (ds d:Nat) (a:AV):Prop where
 s:SIn w ds a.s
 frow:Row w a.fa a.fs
 flen:a.fs.length=a.fl
 trow:qE w a.ta a.ts
 tlen:a.ts.length=a.tl
 tin:∀ t∈a.ts,WIn w d t.x
 fmax:a.fl≤9223372036854775807
 tmax:a.tl≤9223372036854775807
theorem qE.at_ {w:World} {a:Option Addr} {rs:List TV} (h:qE w a rs) {i:Nat} {r:TV} (hi:rs[i]?=some r):∃ b off,a=some ⟨b,off,none⟩∧aD w b (off+i * 9) r.nine:=by
 rcases h with rfl | ⟨b,off,ha,hc⟩
 ·simp at hi
 ·exact ⟨b,off,ha,hc i r hi⟩
theorem qE.below {w w':World} {a:Option Addr} {rs:List TV} (h:qE w a rs) (hb:Below w.heap.size w w'):qE w' a rs:=by
 rcases h with h | ⟨b,off,rfl,hc⟩
 ·exact .inl h
 ·exact .inr ⟨b,off,rfl,fun i r hi=>aD.agree (aL hb 0) (Nat.zero_le _) (hc i r hi)⟩
theorem AIn.below {w w':World} {ds d:Nat} {a:AV} (h:AIn w ds d a) (hb:Below w.heap.size w w'):AIn w' ds d a:=⟨SIn.below hb h.s,h.frow.below hb,h.flen,h.trow.below hb,h.tlen,fun t ht=>WIn.below hb (h.tin t ht),h.fmax,h.tmax⟩
def mW (st:Int) (fs:List Int) (i:Nat):Bool:=inQ (fs.getD i 0) st && (decide (i=0) || decide (fs.getD (i - 1) 0 < fs.getD i 0))
def Lc (st:Int) (fs:List Int):Bool:=(List.range fs.length).all (mW st fs)
theorem Mz {st:Int} {fs:List Int} (h:∀ j,j < fs.length→mW st fs j=true):Lc st fs=true:=List.all_eq_true.2 fun j hj=>h j (List.mem_range.1 hj)
theorem yS {st:Int} {fs:List Int} {i:Nat} (hi:i < fs.length) (h:mW st fs i=false):Lc st fs=false:=by
 cases hb:Lc st fs with
 | false=>rfl
 | true =>
  have:=List.all_eq_true.1 hb i (List.mem_range.2 hi)
  rw [h] at this;cases this
theorem vR {fs:List Int} {i:Nat} {y:Int} (h:fs[i]?=some y):fs.getD i 0=y:=by
 rw [List.getD_eq_getElem?_getD,h];rfl
theorem Dw {st:Int} {fs:List Int} {i:Nat} {y:Int} (h:fs[i]?=some y) (hq:inQ y st=false):mW st fs i=false:=by
 unfold mW;rw [vR h,hq];rfl
theorem Bb {st:Int} {fs:List Int} {i:Nat} {y:Int} (h:fs[i]?=some y) (hq:inQ y st=true) (hi:i=0):mW st fs i=true:=by
 unfold mW;rw [vR h,hq,decide_eq_true hi];rfl
theorem sI {st:Int} {fs:List Int} {i:Nat} {y z:Int} (h:fs[i]?=some y) (hz:fs[i - 1]?=some z) (hq:inQ y st=true) (hi:0 < i):mW st fs i=decide (z < y):=by
 unfold mW;rw [vR h,vR hz,hq,decide_eq_false (show ¬ i=0 by omega)];rfl
theorem vS {st:Int} {fs:List Int} {i:Nat} (h:∀ j,j < i→mW st fs j=true) (hi:mW st fs i=true):∀ j,j < i+1→mW st fs j=true:=fun j hj=>by
 rcases Nat.lt_or_ge j i with h1 | h1
 ·exact h j h1
 ·rw [show j=i by omega];exact hi
def trB (st sy:Int) (t:TV):Bool:=inQ t.f st && (inQ t.t st && (decide (-1≤t.g) && decide (t.g < sy)))
def dI (st sy:Int) (fs:List Int) (ts:List TV):Bool:=if st < 0∨4096 < st∨sy < 0∨4096 < sy then false else Lc st fs && ts.all (trB st sy)
def fE (a:AV):Int :=
 if dV a.s≠0 then dV a.s else if 65536 < a.tl then 3 else if dI a.st a.sy a.fs a.ts=false then 100 else if a.ts.all (fun t=>decide (lI a.s t.x=0))=true then 0 else 51
theorem chkW_51 {s:SV} {x:WV} (hs:dV s=0) (h:lI s x≠0):lI s x=51:=by
 unfold lI at h ⊢
 rw [if_pos hs] at h ⊢
 split
 ·rename_i h2;rw [if_pos h2] at h;exact absurd rfl h
 ·rfl
end Go.Proofs.YtmgnkpibpjgncaaGreatDoor
