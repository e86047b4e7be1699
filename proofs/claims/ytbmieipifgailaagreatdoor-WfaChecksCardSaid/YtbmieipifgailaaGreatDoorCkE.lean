import Derived.Lib.ItoaLen
import Derived.Lib.UnsafeStr
import Derived.Lib.AppendIntMem
import Derived.Test.YtbmieipifgailaaGreatDoorCkD
set_option maxRecDepth 100000
set_option maxHeartbeats 4000000
set_option linter.unusedVariables false
set_option linter.unusedSimpArgs false
set_option linter.unusedSectionVars false
set_option linter.unnecessarySimpa false
namespace Go.Proofs.YtbmieipifgailaaGreatDoor
open Go.Proofs.Tryz
section
open Go.RowKit
def sR (lo:Nat) (S:PS) (x:PX):Asr:=fun v w=>∃ b,v = .slice (some ⟨b,0,none⟩) 2 2∧gY lo w S (vE b) x
theorem Bg {lo:Nat} {S:PS} {x:PX}:gQ (sR lo S x):=fun v w w' ⟨b,h1,h2⟩ hb=>⟨b,h1,h2.below hb⟩
theorem has_one {b:Act} {v:Value} (h:b.eval (.tmp 16)=v):∀ x u,evL [(16,v)] x=some u→b.eval x=u:=by
 intro x u hx;cases x with
 | tmp t =>
  have hx':look [(16,v)] t=some u:=hx;unfold look at hx';cases hb:Nat.beq 16 t with
  | true =>
   simp only [hb,cond_true,Option.some.injEq] at hx';rw [← Nat.eq_of_beq_eq_true hb,h,hx']
  | false =>
   simp only [hb,cond_false] at hx';cases hx'
 | const c=>exact Option.some.inj hx
 | global g=>exact Option.some.inj hx
 | func f=>exact Option.some.inj hx
section
variable {n:Nat} {Q:Exit→Act→World→Prop} {l:Fr} {W:World} {ops:Array Oper} {L:List Asr} {i d:Nat} {ty:TypeId} {pos:String} {aft:Array Edge} {gd:Option (Nat×Bool)} {t k u m:Int} {x y:PF} {p q:Operand}
theorem Mj (hi:ops[i]?=some ⟨some d,.buildSlice 44 2 (List.toArray [(0,p),(1,q)]),ty,pos,aft,gd⟩) (hw:fT ops L i ⟨some d,.buildSlice 44 2 (List.toArray [(0,p),(1,q)]),ty,pos,aft,gd⟩) (hp:tC n ops l L i [p,q] [dP W.heap.size (.one t k) (.one x),dP W.heap.size (.one u m) (.one y)]) (hI:atI L i=sR W.heap.size (.two t k u m) (.two x y)):RG prog n ops Q l W L i :=
 Fv [dP W.heap.size (.one t k) (.one x),dP W.heap.size (.one u m) (.one y)] hi hw underlying44 sizeOf46 zeroValue46 rfl rfl hp fun vs w hb hh=>by
  obtain ⟨v1,v2,rfl,⟨f,rfl,hf⟩,g,rfl,hg⟩:=nD hh;refine ⟨f.six++g.six,uX _ _ _ _ _ _ _ _ _ _ _ _,fun B w' hB h1 h2=>?_⟩;rw [hI];rcases Is h1 with h | ⟨b,off,e,h3⟩
  ·cases h
  ·cases e;exact ⟨B,rfl,Au (h3 0 f rfl) (h3 1 g rfl) (by rw [← hB];exact hb.size) (PNew.below hf h2) (PNew.below hg h2)⟩
theorem Gq {lo:Nat} {S:PS} {z:PX} (hi:ops[i]?=some ⟨some d,.build 46 (List.toArray [(4,.tmp 16)]),ty,pos,aft,gd⟩) (hw:fT ops L i ⟨some d,.build 46 (List.toArray [(4,.tmp 16)]),ty,pos,aft,gd⟩) (hp:OpG n ops l L i 16 (sR lo S z)) (hI:atI L i=dP lo S z):RG prog n ops Q l W L i:=fun a ha=>oU hi hw fun b w hF hG hD=>by obtain ⟨B,hv,hx⟩:=hp a ha b w hF hD;refine ⟨(vE B).val,w,?_,by rw [hI];exact ⟨vE B,rfl,hx⟩,Below.refl _ _⟩;rw [eR b.eval _ _ _ _ pos _ #[] _ none];exact Ia (l:=[(16,.slice (some ⟨B,0,none⟩) 2 2)]) (us:=[(4,.slice (some ⟨B,0,none⟩) 2 2)]) rfl (Uh _ _ _) b.eval (has_one hv)
end
theorem rO (t n:Int) (sa:Option Addr) (sc:Nat) (w:World) (hp:bV t n 0=true) :
  Calls prog 111 #[.agg #[.int .i64 t,.int .i64 n,.slice sa 0 sc]] w (jO (.one t n) (.one dL) w):=by
 refine cG (args:=[.agg #[.int .i64 t,.int .i64 n,.slice sa 0 sc]]) func111 rfl ntmps111 rfl ?_;have hS:=St.start w;refine aO (aQ (bY (cs:=[_,_,_]) hS rfl rfl rfl fun B1 W1 hS=>bF (cs:=[_,_,_,_,_,_]) hS zeroValue46 rfl rfl fun B2 W2 hS=>aP (XF.thenN (aO (aO (aQ (aN (o':=0) eS rfl rfl rfl (aR isAgg22 rfl (aK (hS.at_ 1 rfl) rfl) rfl (cR rfl rfl rfl (aP (XF.thenN (bB rfl (fun hc=>absurd (of_decide_eq_true hc) (by exact oZ hp)) (fun hc=>?_)))))))))))));have hc:=of_decide_eq_false hc;refine bP (XF.thenN (aO (aQ (dY (us:=[(0,.bool _)]) rfl (Ac _) rfl (aU (i:=0) (vs:=[_,_,_,_,_,_]) (cs':=[_,_,_,_,_,_]) (O':=[_,_]) hS sizeOf46 rfl rfl rfl rfl rfl rfl rfl fun W3 hS=>aP (XF.thenN (bL (XF.res (eE (vs:=[_,_,_,_,_,_]) results111 isAgg46 sizeOf46 rfl (aC.own (j:=0) (m:=6) (hS.at_ 0 rfl) rfl)) ?_))))))));exact ⟨tJ,rfl,oX _ _ _ _,hS.below⟩
theorem Mk (t n u m:Int) (a1 a2:Option Addr) (c1 c2 b off sc:Nat) (w:World) (hs1:S3 w b off ⟨t,n,a1,0,c1⟩) (hs2:S3 w b (off+3) ⟨u,m,a2,0,c2⟩) (hp1:bV t n 0=true) (hp2:bV u m 0=true) :
  Calls prog 111 #[.agg #[.int .i64 5,.int .i64 0,.slice (some ⟨b,off,none⟩) 2 sc]] w (jO (.two t n u m) (.two dL dL) w):=by
 refine cG (args:=[.agg #[.int .i64 5,.int .i64 0,.slice (some ⟨b,off,none⟩) 2 sc]]) func111 rfl ntmps111 rfl ?_;have hS:=St.start w;refine aO (aQ (bY (cs:=[_,_,_]) hS rfl rfl rfl fun B1 W1 hS=>bF (cs:=[_,_,_,_,_,_]) hS zeroValue46 rfl rfl fun B2 W2 hS=>aP (XF.thenN (aO (aO (aQ (aN (o':=0) eS rfl rfl rfl (aR isAgg22 rfl (aK (hS.at_ 1 rfl) rfl) rfl (cR rfl rfl rfl (aP (XF.thenN (bB rfl (fun hc=>?_) (fun hc=>absurd (of_decide_eq_false hc) (by omega))))))))))))));have hc:=of_decide_eq_true hc;refine aO ?_;have hsz:=hS.below.size;have k1:=aC.agree hS.agree (Nat.zero_le _) hs1.cells;have k2:=aC.agree hS.agree (Nat.zero_le _) hs2.cells;refine xU cC 12 hS rfl rfl (by kernel_rfl) (by kernel_rfl) (by kernel_rfl) (fun d hd=>by cases hd) (cE 1 rfl 1 rfl rfl (fun w hw=>aV (o':=2) dW rfl rfl) rfl (aZ 2 rfl 6 0 rfl rfl rfl (fun w hw=>bA isAgg23 rfl ((aL hw 0).cell (Nat.zero_le _) (aK (hS.at_ 1 rfl) rfl))) rfl (aZ 3 rfl 7 1 rfl rfl rfl (fun w hw=>bE (j:=0) underlying23 sizeOf25 rfl rfl rfl (by omega) (Nat.add_zero _)) rfl (aZ 4 rfl 8 2 rfl rfl rfl (fun w hw=>aY (vs:=[_,_,_]) isAgg25 sizeOf25 rfl (aC.agree (aL hw 0) (Nat.zero_le _) (by assumption))) rfl ?_))));refine aJ 5 rfl (dP W2.heap.size (.one t n) (.one dL)) (dU) (cN [isV _] rfl Af (aS rfl) ⟨bT (aM 3 (aA rfl rfl rfl)),trivial⟩ (fun vs w' hb hh=>by have e:=bW (us:=[_]) hh;subst e;exact gT hb.size (rO _ _ _ _ _ hp1)) (aF rfl)) ?_;refine cE 6 rfl 1 rfl rfl (fun w hw=>aV (o':=2) dW rfl rfl) rfl (aZ 7 rfl 11 5 rfl rfl rfl (fun w hw=>bA isAgg23 rfl ((aL hw 0).cell (Nat.zero_le _) (aK (hS.at_ 1 rfl) rfl))) rfl (aZ 8 rfl 12 6 rfl rfl rfl (fun w hw=>bE (j:=1) underlying23 sizeOf25 rfl rfl rfl (by omega) rfl) rfl (aZ 9 rfl 13 7 rfl rfl rfl (fun w hw=>aY (vs:=[_,_,_]) isAgg25 sizeOf25 rfl (aC.agree (aL hw 0) (Nat.zero_le _) (by assumption))) rfl ?_)));refine aJ 10 rfl (dP W2.heap.size (.one u m) (.one dL)) (dU) (cN [isV _] rfl Af (aS rfl) ⟨bT (aM 8 (aA rfl rfl rfl)),trivial⟩ (fun vs w' hb hh=>by have e:=bW (us:=[_]) hh;subst e;exact gT hb.size (rO _ _ _ _ _ hp2)) (aF rfl)) ?_;refine aJ 11 rfl (sR W2.heap.size (.two t n u m) (.two dL dL)) (Bg) (Mj rfl (aS rfl) ⟨bT (aM 4 (aA rfl rfl rfl)),bT (aM 9 (aA rfl rfl rfl)),trivial⟩ (aF rfl)) (aJ 12 rfl (dP W2.heap.size (.two t n u m) (.two dL dL)) (dU) (Gq rfl (aS rfl) (aM 10 (aA rfl rfl rfl)) (aF rfl)) (dI ?_));intro W3 hbR;clear hS;intro hS;refine aG (aG (aG (aG ?_)));refine dF ?_;rintro _ ⟨v1,rfl,hn1⟩;refine aG (aG (aG (aG ?_)));refine dF ?_;rintro _ ⟨v2,rfl,hn2⟩;refine dF ?_;rintro _ _;refine dF ?_;rintro _ ⟨v3,rfl,hn3⟩;refine cM (aU (i:=0) (vs:=[_,_,_,_,_,_]) (cs':=[_,_,_,_,_,_]) (O':=[_,_]) hS sizeOf46 rfl rfl rfl rfl rfl rfl rfl fun W4 hS=>aP (XF.thenN (bL (XF.thenR (XF.res (eE (vs:=[_,_,_,_,_,_]) results111 isAgg46 sizeOf46 rfl (aC.own (j:=0) (m:=6) (hS.at_ 0 rfl) rfl)) ?_)))));exact ⟨v3,rfl,(hn3.agree (hS.since 0 rfl)).mono hsz,hS.below⟩
theorem Vs {S:PS} {sf:SF} {w:World} (hs:SIs w S sf) (hok:S.ok):Calls prog 111 #[sf.val] w (jO S (bU S) w):=by
 cases S with
 | one t n =>
  obtain ⟨a,c,rfl⟩:=hs;exact rO _ _ _ _ _ hok
 | two t n u m =>
  obtain ⟨b,off,c,a1,c1,a2,c2,rfl,h1,h2⟩:=hs;exact Mk _ _ _ _ _ _ _ _ _ _ _ _ h1 h2 hok.1 hok.2
theorem I8 (S:PS) (sf:SF) (w:World) (hs:SIs w S sf) (hok:S.ok) :
  Calls prog 90 #[sf.val] w (Iq S (bU S) 0 w):=by
 refine cG (args:=[sf.val]) func90 rfl ntmps90 rfl ?_;have hS:=St.start w;refine aO (aQ (bY (cs:=[_,_,_]) hS rfl rfl rfl fun B1 W1 hS=>bF (cs:=[_,_,_,_,_,_]) hS zeroValue46 rfl rfl fun B2 W2 hS=>aB rfl rfl (aP (XF.thenN (aO (aO (aQ (aT (vs:=[_,_,_]) isAgg25 sizeOf25 rfl (aC.own (j:=0) (m:=3) (hS.at_ 1 rfl) rfl) rfl (cH (vs:=[_]) hS Fx rfl (R4 (hs.below hS.below) hok) rfl fun W3 hS=>dG rfl rfl rfl (aP (XF.thenN (bB rfl (fun hc=>absurd (of_decide_eq_true hc) (by omega)) (fun hc=>?_)))))))))))));have hc:=of_decide_eq_false hc;refine bP (XF.thenN (aO (aQ (aT (vs:=[_,_,_]) isAgg25 sizeOf25 rfl (aC.own (j:=0) (m:=3) (hS.at_ 1 rfl) rfl) rfl ?_))));have hsz:=hS.below.size;refine cS (vs:=[_]) hS Af rfl (Vs (hs.below hS.below) hok) rfl ?_;rintro e W4 ⟨f,rfl,hn,hb⟩;refine ⟨_,rfl,hb,?_⟩;clear hS;intro hS;refine aU (i:=0) (vs:=[_,_,_,_,_,_]) (cs':=[_,_,_,_,_,_]) (O':=[_,_]) hS sizeOf46 rfl rfl rfl rfl rfl rfl rfl fun W5 hS=>aB rfl rfl (aP (XF.thenN (bL (XF.res (rB (vs:=[_,_,_,_,_,_]) results90 isAgg46 sizeOf46 rfl (aC.own (j:=0) (m:=6) (hS.at_ 0 rfl) rfl) rfl) ?_))))
 exact ⟨f,rfl,(hn.agree (hS.since 0 rfl)).mono hsz,hS.below⟩
theorem jn_00 (f f2:Int) (w:World):Calls prog 57 #[.agg #[.int .u64 f,.int .i64 0,.int .i64 0],.agg #[.int .u64 f2,.int .i64 0,.int .i64 0]] w fun e w'=>e = .returned (.agg #[.int .u64 (bits .or .u64 f f2),.int .i64 0,.int .i64 0])∧Below w.heap.size w w':=by
 go_enter func57,ntmps57;go_wp2
 all_goals (try go_region)
 all_goals go_wp2
 all_goals refine bodyPost_ret (v:=.agg #[.int .u64 (bits .or .u64 f f2),.int .i64 0,.int .i64 0]) (by simp [results,results57,go_sem]) rfl ⟨rfl,?_⟩
 all_goals repeat (first | exact Below.refl _ _ | refine Below.drew ?_ | (refine Below.setCell ?_ (by simp) _) | (refine Below.alloc ?_ (by simp;try omega) _))
theorem jn_01 (f f2:Int) (v2:Int) (w:World):Calls prog 57 #[.agg #[.int .u64 f,.int .i64 0,.int .i64 0],.agg #[.int .u64 f2,.int .i64 1,.int .i64 v2]] w fun e w'=>e = .returned (.agg #[.int .u64 (bits .or .u64 f f2),.int .i64 1,.int .i64 v2])∧Below w.heap.size w w':=by
 go_enter func57,ntmps57;go_wp2
 all_goals (try go_region)
 all_goals go_wp2
 all_goals refine bodyPost_ret (v:=.agg #[.int .u64 (bits .or .u64 f f2),.int .i64 1,.int .i64 v2]) (by simp [results,results57,go_sem]) rfl ⟨rfl,?_⟩
 all_goals repeat (first | exact Below.refl _ _ | refine Below.drew ?_ | (refine Below.setCell ?_ (by simp) _) | (refine Below.alloc ?_ (by simp;try omega) _))
theorem jn_02 (f f2:Int) (w:World):Calls prog 57 #[.agg #[.int .u64 f,.int .i64 0,.int .i64 0],.agg #[.int .u64 f2,.int .i64 2,.int .i64 0]] w fun e w'=>e = .returned (.agg #[.int .u64 0,.int .i64 2,.int .i64 0])∧Below w.heap.size w w':=by
 go_enter func57,ntmps57;go_wp2
 all_goals (try go_region)
 all_goals go_wp2
 all_goals refine bodyPost_ret (v:=.agg #[.int .u64 0,.int .i64 2,.int .i64 0]) (by simp [results,results57,go_sem]) rfl ⟨rfl,?_⟩
 all_goals repeat (first | exact Below.refl _ _ | refine Below.drew ?_ | (refine Below.setCell ?_ (by simp) _) | (refine Below.alloc ?_ (by simp;try omega) _))
theorem jn_10 (f f2:Int) (v:Int) (w:World):Calls prog 57 #[.agg #[.int .u64 f,.int .i64 1,.int .i64 v],.agg #[.int .u64 f2,.int .i64 0,.int .i64 0]] w fun e w'=>e = .returned (.agg #[.int .u64 (bits .or .u64 f f2),.int .i64 1,.int .i64 v])∧Below w.heap.size w w':=by
 go_enter func57,ntmps57;go_wp2
 all_goals (try go_region)
 all_goals go_wp2
 all_goals refine bodyPost_ret (v:=.agg #[.int .u64 (bits .or .u64 f f2),.int .i64 1,.int .i64 v]) (by simp [results,results57,go_sem]) rfl ⟨rfl,?_⟩
 all_goals repeat (first | exact Below.refl _ _ | refine Below.drew ?_ | (refine Below.setCell ?_ (by simp) _) | (refine Below.alloc ?_ (by simp;try omega) _))
theorem jn_11 (f f2:Int) (v:Int) (w:World):Calls prog 57 #[.agg #[.int .u64 f,.int .i64 1,.int .i64 v],.agg #[.int .u64 f2,.int .i64 1,.int .i64 v]] w fun e w'=>e = .returned (.agg #[.int .u64 (bits .or .u64 f f2),.int .i64 1,.int .i64 v])∧Below w.heap.size w w':=by
 go_enter func57,ntmps57;go_wp2
 all_goals (try go_region)
 all_goals go_wp2
 all_goals refine bodyPost_ret (v:=.agg #[.int .u64 (bits .or .u64 f f2),.int .i64 1,.int .i64 v]) (by simp [results,results57,go_sem]) rfl ⟨rfl,?_⟩
 all_goals repeat (first | exact Below.refl _ _ | refine Below.drew ?_ | (refine Below.setCell ?_ (by simp) _) | (refine Below.alloc ?_ (by simp;try omega) _))
theorem jn_1x (f f2:Int) (v v2:Int) (hv:(v == v2)=false) (w:World):Calls prog 57 #[.agg #[.int .u64 f,.int .i64 1,.int .i64 v],.agg #[.int .u64 f2,.int .i64 1,.int .i64 v2]] w fun e w'=>e = .returned (.agg #[.int .u64 0,.int .i64 2,.int .i64 0])∧Below w.heap.size w w':=by
 go_enter func57,ntmps57;go_wp2
 all_goals (try go_region)
 all_goals go_wp2
 all_goals refine bodyPost_ret (v:=.agg #[.int .u64 0,.int .i64 2,.int .i64 0]) (by simp [results,results57,go_sem]) rfl ⟨rfl,?_⟩
 all_goals repeat (first | exact Below.refl _ _ | refine Below.drew ?_ | (refine Below.setCell ?_ (by simp) _) | (refine Below.alloc ?_ (by simp;try omega) _))
theorem jn_12 (f f2:Int) (v:Int) (w:World):Calls prog 57 #[.agg #[.int .u64 f,.int .i64 1,.int .i64 v],.agg #[.int .u64 f2,.int .i64 2,.int .i64 0]] w fun e w'=>e = .returned (.agg #[.int .u64 0,.int .i64 2,.int .i64 0])∧Below w.heap.size w w':=by
 go_enter func57,ntmps57;go_wp2
 all_goals (try go_region)
 all_goals go_wp2
 all_goals refine bodyPost_ret (v:=.agg #[.int .u64 0,.int .i64 2,.int .i64 0]) (by simp [results,results57,go_sem]) rfl ⟨rfl,?_⟩
 all_goals repeat (first | exact Below.refl _ _ | refine Below.drew ?_ | (refine Below.setCell ?_ (by simp) _) | (refine Below.alloc ?_ (by simp;try omega) _))
theorem jn_20 (f f2:Int) (w:World):Calls prog 57 #[.agg #[.int .u64 f,.int .i64 2,.int .i64 0],.agg #[.int .u64 f2,.int .i64 0,.int .i64 0]] w fun e w'=>e = .returned (.agg #[.int .u64 0,.int .i64 2,.int .i64 0])∧Below w.heap.size w w':=by
 go_enter func57,ntmps57;go_wp2
 all_goals (try go_region)
 all_goals go_wp2
 all_goals refine bodyPost_ret (v:=.agg #[.int .u64 0,.int .i64 2,.int .i64 0]) (by simp [results,results57,go_sem]) rfl ⟨rfl,?_⟩
 all_goals repeat (first | exact Below.refl _ _ | refine Below.drew ?_ | (refine Below.setCell ?_ (by simp) _) | (refine Below.alloc ?_ (by simp;try omega) _))
theorem jn_21 (f f2:Int) (v2:Int) (w:World):Calls prog 57 #[.agg #[.int .u64 f,.int .i64 2,.int .i64 0],.agg #[.int .u64 f2,.int .i64 1,.int .i64 v2]] w fun e w'=>e = .returned (.agg #[.int .u64 0,.int .i64 2,.int .i64 0])∧Below w.heap.size w w':=by
 go_enter func57,ntmps57;go_wp2
 all_goals (try go_region)
 all_goals go_wp2
 all_goals refine bodyPost_ret (v:=.agg #[.int .u64 0,.int .i64 2,.int .i64 0]) (by simp [results,results57,go_sem]) rfl ⟨rfl,?_⟩
 all_goals repeat (first | exact Below.refl _ _ | refine Below.drew ?_ | (refine Below.setCell ?_ (by simp) _) | (refine Below.alloc ?_ (by simp;try omega) _))
theorem jn_22 (f f2:Int) (w:World):Calls prog 57 #[.agg #[.int .u64 f,.int .i64 2,.int .i64 0],.agg #[.int .u64 f2,.int .i64 2,.int .i64 0]] w fun e w'=>e = .returned (.agg #[.int .u64 0,.int .i64 2,.int .i64 0])∧Below w.heap.size w w':=by
 go_enter func57,ntmps57;go_wp2
 all_goals (try go_region)
 all_goals go_wp2
 all_goals refine bodyPost_ret (v:=.agg #[.int .u64 0,.int .i64 2,.int .i64 0]) (by simp [results,results57,go_sem]) rfl ⟨rfl,?_⟩
 all_goals repeat (first | exact Below.refl _ _ | refine Below.drew ?_ | (refine Below.setCell ?_ (by simp) _) | (refine Below.alloc ?_ (by simp;try omega) _))
theorem jn_any (a b:Cl) (ha:a.ok) (hb:b.ok) (w:World):Calls prog 57 #[a.val,b.val] w (zR a b w):=by
 obtain ⟨f,k,v⟩:=a;obtain ⟨f2,k2,v2⟩:=b;obtain ⟨hf,hk⟩:=ha;obtain ⟨hf2,hk2⟩:=hb;simp only at hf hk hf2 hk2;have ho:=Nr f f2 hf hf2;rcases lD hk with ⟨rfl,rfl⟩ | rfl | ⟨rfl,rfl⟩<;>rcases lD hk2 with ⟨rfl,rfl⟩ | rfl | ⟨rfl,rfl⟩
 ·exact (jn_00 f f2 w).mono (eY (by simp [joinK,ho]) (by simp [joinK]) (by simp [dV]))
 ·exact (jn_01 f f2 v2 w).mono (eY (by simp [joinK,ho]) (by simp [joinK]) (by simp [dV]))
 ·exact (jn_02 f f2 w).mono (eY (by simp [joinK]) (by simp [joinK]) (by simp [dV]))
 ·exact (jn_10 f f2 v w).mono (eY (by simp [joinK,ho]) (by simp [joinK]) (by simp [dV]))
 ·by_cases hv:v=v2
  ·subst hv;exact (jn_11 f f2 v w).mono (eY (by simp [joinK,ho]) (by simp [joinK]) (by simp [dV]))
  ·exact (jn_1x f f2 v v2 (by simp [hv]) w).mono (eY (by simp [joinK,hv]) (by simp [joinK,hv]) (by simp [dV,hv]))
 ·exact (jn_12 f f2 v w).mono (eY (by simp [joinK]) (by simp [joinK]) (by simp [dV]))
 ·exact (jn_20 f f2 w).mono (eY (by simp [joinK]) (by simp [joinK]) (by simp [dV]))
 ·exact (jn_21 f f2 v2 w).mono (eY (by simp [joinK]) (by simp [joinK]) (by simp [dV]))
 ·exact (jn_22 f f2 w).mono (eY (by simp [joinK]) (by simp [joinK]) (by simp [dV]))
theorem R8 {xs:List Cl} {k:Nat} {c:Cl} (h:xs[k]?=some c):flat (xs.take (k+1))=flat (xs.take k)++vals c:=by rw [List.take_add_one,h];exact Q1 _ _
section
variable {P:Program} {n:Nat} {ops:Array Oper} {Q:Exit→Act→World→Prop} {l:Fr} {w0 W:World} {O:Own} {G:cV} {K:List (Nat×World)} {os:List Oper} {d:Nat} {ty:TypeId} {pos:String} {aft:Array Edge}
theorem Ml {T e:TypeId} {x y:Operand} {kk:IntKind} {a:Option Addr} {m c k s:Nat} {j:Int} (hU:P.underlying T=some (.slice e)) (hs:∀ w,(sizeOf e).run P w = .ok s w) (hx:evL l x=some (.slice a m c)) (hy:evL l y=some (.int kk j)) (hj:j=(k:Int)) (hk:k≤c) (h0:c≠0) (ha:∀ p,a=some p→∃ b o,p=⟨b,o,none⟩) :
  gA P l ⟨some d,.slice T x none (some y) none,ty,pos,aft,none⟩ W (.slice a k c) W:=fun ev he=>by
 subst hj;have h1:(0:Int)≤(k:Int):=by omega
 have h2:(k:Int)≤(c:Int):=by omega
 have hm:a.map (·.add 0)=a:=by
  cases a with
  | none=>rfl
  | some p=>obtain ⟨b,o,rfl⟩:=ha p rfl;rfl
 unfold execOp;simp only [Option.map_some,Option.map_none];rw [he x _ hx,he y _ hy];simp [Instr.sliceAt,Instr.slice,Instr.sliceBounds,Instr.sliceBound,run_underlying hU,asIntOf,hk,hs,h0];exact hm
theorem Bh {T e:TypeId} {x y:Operand} {kk:IntKind} {a:Option Addr} {m c k s:Nat} {j:Int} (hU:P.underlying T=some (.slice e)) (hs:∀ w,(sizeOf e).run P w = .ok s w) (hx:evL l x=some (.slice a m c)) (hy:evL l y=some (.int kk j)) (hj:j=(k:Int)) (hk:k≤c) (h0:c≠0) (ha:∀ p,a=some p→∃ b o,p=⟨b,o,none⟩) (hd:Nat.blt d n=true)
  (h:cO P n ops Q os ((d,.slice a k c)::l) W):cO P n ops Q (⟨some d,.slice T x none (some y) none,ty,pos,aft,none⟩::os) l W:=opV (Ml hU hs hx hy hj hk h0 ha) hd h
end
structure Ready (w:World) (S:PS) (px:RV→PX) (p:PV) (c:CV):Prop where
 chk:Vn p c=0
 ok:S.ok
 si:SIs w S p.s.f
 w4:∀ r∈p.rs,r.wl≤4096
 c4:c.wl≤4096
 x:∀ r∈p.rs,XIs w S r.x.f (px r)
theorem ready {w:World} {ds d:Nat} {p:PV} {c:CV} (hp:PvIn w ds d p) (h:Vn p c=0):∃ S px,Ready w S px p c:=by
 classical
 have h1:pdsE p=0∧Vm p c=true:=by
  unfold Vn at h;split at h
  ·rename_i hn;exact absurd h hn
  ·rename_i hn;split at h
   ·rename_i hc;exact ⟨Decidable.of_not_not hn,hc⟩
   ·cases h
 obtain ⟨hd,hc⟩:=h1;have h2:dR p.s=0∧p.rs.all (Vl p.st p.sy)=true∧wtE p.s p.rs=0:=by
  unfold pdsE at hd;split at hd
  ·rename_i hn;exact absurd hd hn
  ·rename_i hn;split at hd
   ·cases hd
   ·split at hd
    ·cases hd
    ·split at hd
     ·rename_i ha;exact ⟨Decidable.of_not_not hn,ha,hd⟩
     ·cases hd
 obtain ⟨hs,hr,hw⟩:=h2;obtain ⟨S,hok,hsi,hx⟩:=I1 hp.s hs;have hall:∀ r∈p.rs,lY p.s r.x=0:=by
  have key:∀ rs:List RV,wtE p.s rs=0→∀ r∈rs,lY p.s r.x=0:=by
   intro rs
   induction rs with
   | nil=>intro _ r hr;cases hr
   | cons a rs ih =>
    intro hz r hr;unfold wtE at hz;split at hz
    ·rename_i h0;rcases List.mem_cons.1 hr with rfl | hr
     ·exact h0
     ·exact ih hz r hr
    ·rename_i h0;exact absurd hz h0
  exact key _ hw
 have hex:∀ r,∃ x,r∈p.rs→XIs w S r.x.f x:=fun r=>by
  by_cases hm:r∈p.rs
  ·have h0:=hall r hm;have hokw:okW p.s r.x=true:=by
    unfold lY at h0;rw [if_pos hs] at h0;split at h0
    ·assumption
    ·cases h0
   obtain ⟨x,hxx⟩:=hx r.x d (hp.rin r hm).x hokw;exact ⟨x,fun _=>hxx⟩
  ·exact ⟨bU S,fun h=>absurd h hm⟩
 refine ⟨S,fun r=>Classical.choose (hex r),h,hok,hsi,fun r hm=>?_,?_,fun r hm=>Classical.choose_spec (hex r) hm⟩
 ·have:=List.all_eq_true.1 hr r hm;unfold Vl at this;simp only [Bool.and_eq_true,decide_eq_true_eq] at this;exact this.2.2.2.1
 ·unfold Vm at hc;simp only [Bool.and_eq_true,decide_eq_true_eq] at hc;exact hc.2.1
section
variable {w:World} {ds d:Nat} {S:PS} {px:RV→PX} {p:PV} {c:CV} {la:Option Addr} {ll lc:Nat} {is:List Int} {R:Option StT×Int×Int}
end
theorem R9 (wa va:Option Addr) (wl wc vl vc:Nat) (ws vs:List Int) (w:World) (hrow:Row w wa ws) (hlen:ws.length=wl) (hrov:Row w va vs) (hlev:vs.length=vl) (hmx:wl≤9223372036854775807) :
  Calls prog 35 #[.slice wa wl wc,.slice va vl vc] w (fun e w'=>e = .returned (.bool (decide (ws=vs)))∧Below w.heap.size w w'):=by
 refine cG (args:=[.slice wa wl wc,.slice va vl vc]) func35 rfl ntmps35 rfl ?_;have hS:=St.start w;refine aO (aQ (aB rfl rfl (aP (XF.thenN (aO (aO (aQ (aH rfl rfl (cL underlying26 rfl rfl (aH rfl rfl (cL underlying26 rfl rfl (dG rfl rfl rfl (aP (XF.thenN (bB rfl (fun hc=>?_) (fun hc=>?_))))))))))))))))
 ·have hc10:=of_decide_eq_true hc;clear hc;refine aO (aQ (aB rfl rfl (aP (XF.thenN (bL (XF.thenR (XF.res (cI results35 rfl) ?_)))))));exact ⟨bG (decide_eq_false (fun h=>absurd (congrArg List.length h) (by omega))).symm,hS.below⟩
 ·have hc10:=of_decide_eq_false hc;clear hc;have hll:wl=vl:=by omega
  refine bP (XF.thenN (aO (aO (aQ (aH rfl rfl (cL underlying26 rfl rfl (aH rfl rfl (aP (XF.thenN (bX (eJ (fun m l W=>∃ i:Nat,i≤wl∧m=wl - i∧l=[(0,.slice wa wl wc),(1,.slice va vl vc),(12,.int .i64 (wl:Int)),(13,.int .i64 (i:Int))]∧ws.take i=vs.take i∧St w [] [] [] W) (wl - 0) ([(0,_),(1,_),(12,_),(13,_)]) ⟨rfl,rfl,rfl,rfl,trivial⟩ (⟨0,Nat.zero_le _,rfl,rfl,rfl,hS.clear⟩) ?_)))))))))));clear hS;rintro m l W ⟨i,hi,rfl,rfl,hall,hS⟩;refine aO (aQ (cT rfl rfl rfl (aP (XF.thenN (aO (bB rfl (fun hc=>?_) (fun hc=>?_)))))))
  ·have hc14:=of_decide_eq_true hc;clear hc;have hk:i < wl:=by omega
   obtain ⟨b,off,y,rfl,hy,hyc⟩:=hrow.at1 (show i < ws.length by omega);obtain ⟨b2,off2,z,rfl,hz,hzc⟩:=hrov.at1 (show i < vs.length by omega);have k1:=hS.old hyc;have k2:=hS.old hzc;refine bP (XF.thenN (aO (bX (aO (aQ (aH rfl rfl (aB rfl rfl (aP (XF.thenN (aO (iX (m:=9) cC hS (by kernel_rfl) (by kernel_rfl) rfl (cE 1 rfl 0 rfl rfl (fun w hw=>aW rfl) rfl (cE 2 rfl 5 rfl rfl (fun w hw=>aW rfl) rfl (aJ 3 rfl (isV _) (aE _) (rgV (li:=[(16,_),(17,_)]) rfl (aS rfl) ⟨aM 0 (aA rfl rfl rfl),aM 1 (aA rfl rfl rfl),trivial⟩ (fun w hw=>bE  underlying26 sizeOf3 rfl rfl rfl (by omega) rfl) (aF rfl)) (aZ 4 rfl 18 2 rfl rfl rfl (fun w hw=>bA isAgg3 rfl ((aL hw 0).cell (Nat.zero_le _) (by assumption))) rfl (cE 5 rfl 1 rfl rfl (fun w hw=>aW rfl) rfl (cE 6 rfl 5 rfl rfl (fun w hw=>aW rfl) rfl (aJ 7 rfl (isV _) (aE _) (rgV (li:=[(20,_),(21,_)]) rfl (aS rfl) ⟨aM 4 (aA rfl rfl rfl),aM 5 (aA rfl rfl rfl),trivial⟩ (fun w hw=>bE  underlying26 sizeOf3 rfl rfl rfl (by omega) rfl) (aF rfl)) (aZ 8 rfl 22 6 rfl rfl rfl (fun w hw=>bA isAgg3 rfl ((aL hw 0).cell (Nat.zero_le _) (by assumption))) rfl (aJ 9 rfl (isV _) (aE _) (rgV (li:=[(19,_),(23,_)]) rfl (aS rfl) ⟨aM 3 (aA rfl rfl rfl),aM 7 (aA rfl rfl rfl),trivial⟩ (fun w hw=>Ab rfl rfl) (aF rfl)) (dI ?_)))))))))))))))))))));intro W1 hbR;clear hS;intro hS;refine aG (aG (aG (aG (aG (aG (aG (aG (aG (cM (XF.thenN (bB rfl (fun hc=>?_) (fun hc=>?_))))))))))))
   ·have hc24:=hc;clear hc;refine aO (aQ (aB rfl rfl (aP (XF.thenN (bL (XF.blkR (XF.thenR (XF.thenR (XF.blkR (XF.thenR (XF.res (cI results35 rfl) ?_)))))))))));exact ⟨bG (decide_eq_false (fun h=>absurd (show y=z by have e:=h▸hy;rw [hz] at e;exact (Option.some.inj e).symm) (by simpa using hc24))).symm,hS.below⟩
   ·have hc24:=hc;clear hc;refine bP (XF.blkN (XF.thenN (aQ (cY rfl rfl (IntWalk.i64_in _ (by omega)) rfl (aH rfl rfl (aP ?_))))));exact XF.round (wl - (i+1)) [(0,_),(1,_),(12,_),(13,_)] (by omega) ⟨rfl,rfl,rfl,rfl,trivial⟩ ⟨i+1,by omega,rfl,rfl,R7 hall hy hz (by simpa using hc24),hS.clear⟩
  ·have hc14:=of_decide_eq_false hc;clear hc;refine dT (XF.thenX (XF.thenX (XF.blkX (XF.thenN (aO (aQ (aB rfl rfl (aP (XF.thenN (bL (XF.res (cI results35 rfl) ?_)))))))))));rw [List.take_of_length_le (by omega),List.take_of_length_le (by omega)] at hall;exact ⟨bG (decide_eq_true hall).symm,hS.below⟩
section
variable {P:Program} {n:Nat} {ops:Array Oper} {Q:Exit→Act→World→Prop} {l:Fr} {W:World} {os:List Oper}
theorem rP {dst:Nat} {op:Op} {ty:TypeId} {pos:String} {aft:Array Edge} {g d:Nat} {b:Bool} (hd:(ops[g]?).bind (·.dst)=some d) (hv:look l d=some undef) (hn:Nat.blt dst n=true)
  (h:cO P n ops Q os ((dst,undef)::l) W):cO P n ops Q (⟨some dst,op,ty,pos,aft,some (g,b)⟩::os) l W:=fun a ha=>by
 have h2:=ha.at_ d _ hv;have hw:Region.wanted ⟨some dst,op,ty,pos,aft,some (g,b)⟩ (yielded ops a.tmps)=false:=by
  cases hx:a.tmps[d]? with
  | none=>simp [Region.wanted,yielded,hd,hx]
  | some x =>
   simp only [Act.eval,Array.getD_eq_getD_getElem?,hx] at h2;simp at h2;subst h2;simp [Region.wanted,yielded,hd,hx,undef]
 unfold wpList;rw [hw];exact h _ (ha.put hn)
end
structure TV where
 f:Int
 g:Int
 t:Int
 x:WV
abbrev TV.nine (r:TV):List Value:=[.int .i64 r.f,.int .i64 r.g,.int .i64 r.t,.bool r.x.f.z,.int .i64 r.x.f.c,.int .u64 (r.x.f.g:Int),.slice r.x.f.ra r.x.f.rl r.x.f.rc,.slice r.x.f.ca r.x.f.cl r.x.f.cc,.slice r.x.f.pa r.x.f.pl r.x.f.pc]
def mQ (w:World) (a:Option Addr) (ts:List TV):Prop :=
 ts=[]∨∃ b off,a=some ⟨b,off,none⟩∧∀ (i:Nat) r,ts[i]?=some r→aC w b (off+i * 9) r.nine
structure AV where
 s:SV
 st:Int
 sy:Int
 fa:Option Addr
 fl:Nat
 fc:Nat
 fs:List Int
 ta:Option Addr
 tl:Nat
 tc:Nat
 ts:List TV
abbrev AV.seven (a:AV):List Value:=[.int .i64 a.s.f.tag,.int .i64 a.s.f.dim,.slice a.s.f.a a.s.f.len a.s.f.cap,.int .i64 a.st,.int .i64 a.sy,.slice a.fa a.fl a.fc,.slice a.ta a.tl a.tc]
abbrev AV.val (a:AV):Value:=.agg #[.int .i64 a.s.f.tag,.int .i64 a.s.f.dim,.slice a.s.f.a a.s.f.len a.s.f.cap,.int .i64 a.st,.int .i64 a.sy,.slice a.fa a.fl a.fc,.slice a.ta a.tl a.tc]
structure AIn (w:World) (ds d:Nat) (a:AV):Prop where
 s:SIn w ds a.s
 frow:Row w a.fa a.fs
 flen:a.fs.length=a.fl
 trow:mQ w a.ta a.ts
 tlen:a.ts.length=a.tl
 tin:∀ t∈a.ts,WIn w d t.x
 fmax:a.fl≤9223372036854775807
 tmax:a.tl≤9223372036854775807
theorem mQ.at_ {w:World} {a:Option Addr} {rs:List TV} (h:mQ w a rs) {i:Nat} {r:TV} (hi:rs[i]?=some r):∃ b off,a=some ⟨b,off,none⟩∧aC w b (off+i * 9) r.nine:=by
 rcases h with rfl | ⟨b,off,ha,hc⟩
 ·simp at hi
 ·exact ⟨b,off,ha,hc i r hi⟩
theorem mQ.below {w w':World} {a:Option Addr} {rs:List TV} (h:mQ w a rs) (hb:Below w.heap.size w w'):mQ w' a rs:=by
 rcases h with h | ⟨b,off,rfl,hc⟩
 ·exact .inl h
 ·exact .inr ⟨b,off,rfl,fun i r hi=>aC.agree (aL hb 0) (Nat.zero_le _) (hc i r hi)⟩
theorem AIn.below {w w':World} {ds d:Nat} {a:AV} (h:AIn w ds d a) (hb:Below w.heap.size w w'):AIn w' ds d a:=⟨SIn.below hb h.s,h.frow.below hb,h.flen,h.trow.below hb,h.tlen,fun t ht=>WIn.below hb (h.tin t ht),h.fmax,h.tmax⟩
def mB (st:Int) (fs:List Int) (i:Nat):Bool:=inQ (fs.getD i 0) st && (decide (i=0) || decide (fs.getD (i - 1) 0 < fs.getD i 0))
def Gr (st:Int) (fs:List Int):Bool:=(List.range fs.length).all (mB st fs)
theorem O8 {st:Int} {fs:List Int} (h:∀ j,j < fs.length→mB st fs j=true):Gr st fs=true:=List.all_eq_true.2 fun j hj=>h j (List.mem_range.1 hj)
theorem zB {st:Int} {fs:List Int} {i:Nat} (hi:i < fs.length) (h:mB st fs i=false):Gr st fs=false:=by
 cases hb:Gr st fs with
 | false=>rfl
 | true =>
  have:=List.all_eq_true.1 hb i (List.mem_range.2 hi);rw [h] at this;cases this
theorem vV {fs:List Int} {i:Nat} {y:Int} (h:fs[i]?=some y):fs.getD i 0=y:=by rw [List.getD_eq_getElem?_getD,h];rfl
theorem Ei {st:Int} {fs:List Int} {i:Nat} {y:Int} (h:fs[i]?=some y) (hq:inQ y st=false):mB st fs i=false:=by unfold mB;rw [vV h,hq];rfl
theorem Bi {st:Int} {fs:List Int} {i:Nat} {y:Int} (h:fs[i]?=some y) (hq:inQ y st=true) (hi:i=0):mB st fs i=true:=by unfold mB;rw [vV h,hq,decide_eq_true hi];rfl
theorem sS {st:Int} {fs:List Int} {i:Nat} {y z:Int} (h:fs[i]?=some y) (hz:fs[i - 1]?=some z) (hq:inQ y st=true) (hi:0 < i):mB st fs i=decide (z < y):=by unfold mB;rw [vV h,vV hz,hq,decide_eq_false (show ¬ i=0 by omega)];rfl
theorem vW {st:Int} {fs:List Int} {i:Nat} (h:∀ j,j < i→mB st fs j=true) (hi:mB st fs i=true):∀ j,j < i+1→mB st fs j=true:=fun j hj=>by
 rcases Nat.lt_or_ge j i with h1 | h1
 ·exact h j h1
 ·rw [show j=i by omega];exact hi
def trB (st sy:Int) (t:TV):Bool:=inQ t.f st && (inQ t.t st && (decide (-1≤t.g) && decide (t.g < sy)))
def dE (st sy:Int) (fs:List Int) (ts:List TV):Bool:=if st < 0∨4096 < st∨sy < 0∨4096 < sy then false else Gr st fs && ts.all (trB st sy)
def dJ (a:AV):Int :=
 if dR a.s≠0 then dR a.s else if 65536 < a.tl then 3 else if dE a.st a.sy a.fs a.ts=false then 100 else if a.ts.all (fun t=>decide (lY a.s t.x=0))=true then 0 else 51
theorem chkW_51 {s:SV} {x:WV} (hs:dR s=0) (h:lY s x≠0):lY s x=51:=by
 unfold lY at h ⊢;rw [if_pos hs] at h ⊢;split
 ·rename_i h2;rw [if_pos h2] at h;exact absurd rfl h
 ·rfl
theorem sameSp9 {w:World} {S T:PS} {f g:SF} (h:SIs w S f) (h2:SIs w T g):∃ s t:SV,s.f=f∧t.f=g∧SIn w 2 s∧SIn w 2 t∧smS 3 s=true∧(eqS 2 s t=true↔S=T):=by
 have one:∀ {t n:Int} {f:SF},SIs w (.one t n) f→∃ (a:Option Addr) (c:Nat),f=⟨t,n,a,0,c⟩∧SIn w 2 (.mk ⟨t,n,a,0,c⟩ []):=by rintro t n f ⟨a,c,rfl⟩;exact ⟨a,c,rfl,rfl,.inl rfl,by simp⟩
 have key:∀ {t n u m:Int} {f:SF},SIs w (.two t n u m) f→∃ (b off c c1 c2:Nat) (a1 a2:Option Addr),f=⟨5,0,some ⟨b,off,none⟩,2,c⟩∧SIn w 2 (.mk ⟨5,0,some ⟨b,off,none⟩,2,c⟩ [.mk ⟨t,n,a1,0,c1⟩ [],.mk ⟨u,m,a2,0,c2⟩ []]):=by
  rintro t n u m f ⟨b,off,c,a1,c1,a2,c2,rfl,h1,h2⟩;refine ⟨b,off,c,c1,c2,a1,a2,rfl,rfl,.inr ⟨b,off,rfl,fun i p hi=>?_⟩,?_⟩
  ·match i,hi with
   | 0,hi=>simp at hi;subst hi;simpa [SV.f] using h1
   | 1,hi=>simp at hi;subst hi;simpa [SV.f] using h2
  ·intro p hp;simp at hp;rcases hp with rfl | rfl<;>exact ⟨rfl,.inl rfl,by simp⟩
 cases S with
 | one t n =>
  obtain ⟨a,c,rfl,k1⟩:=one h;cases T with
  | one t2 n2 =>
   obtain ⟨a',c',rfl,k2⟩:=one h2;exact ⟨_,_,rfl,rfl,k1,k2,by simp [smS,SV.f],by simp [eqS]⟩
  | two t2 n2 u2 m2 =>
   obtain ⟨b',off',c',c1',c2',a1',a2',rfl,k2⟩:=key h2;exact ⟨_,_,rfl,rfl,k1,k2,by simp [smS,SV.f],by simp [eqS]⟩
 | two t n u m =>
  obtain ⟨b,off,c,c1,c2,a1,a2,rfl,k1⟩:=key h;cases T with
  | one t2 n2 =>
   obtain ⟨a',c',rfl,k2⟩:=one h2;exact ⟨_,_,rfl,rfl,k1,k2,by simp [smS,SV.f],by simp [eqS]⟩
  | two t2 n2 u2 m2 =>
   obtain ⟨b',off',c',c1',c2',a1',a2',rfl,k2⟩:=key h2;refine ⟨_,_,rfl,rfl,k1,k2,by simp [smS,SV.f],?_⟩;simp [eqS,and_assoc]
end
section
open Go.RowKit Go.ChangeShapes Go.WideShapes Go.Deep Go.Joins
theorem Sa {cs:List Value} (h:cs.length=9):∃ a b c d e f g i j,cs=[a,b,c,d,e,f,g,i,j]:=by
 match cs,h with
 | [a,b,c,d,e,f,g,i,j],_=>exact ⟨a,b,c,d,e,f,g,i,j,rfl⟩
theorem Mm {cs:List Value} (h:cs.length=7):∃ a b c d e f g,cs=[a,b,c,d,e,f,g]:=by
 match cs,h with
 | [a,b,c,d,e,f,g],_=>exact ⟨a,b,c,d,e,f,g,rfl⟩
section
variable {H:Type} {enc:TypeId×Value→H} {w:World} {base:Nat} {spare:Nat→Bool} {held:Bool}
end
theorem rQ:∀ {j k:Nat} {s:SV},j≤k→mxS j s=true→mxS k s=true
 | 0,_,_,_,h=>by simp [mxS] at h
 | j+1,0,_,hk,_=>by omega
 | j+1,k+1,.mk f ps,hk,h=>by simp only [mxS,Bool.and_eq_true,decide_eq_true_eq,List.all_eq_true] at h ⊢;exact ⟨h.1,fun p hp=>rQ (by omega) (h.2 p hp)⟩
theorem rR:∀ {j k:Nat} {s:WV},j≤k→mxN j s=true→mxN k s=true
 | 0,_,_,_,h=>by simp [mxN] at h
 | j+1,0,_,hk,_=>by omega
 | j+1,k+1,.mk f ps,hk,h=>by simp only [mxN,Bool.and_eq_true,decide_eq_true_eq,List.all_eq_true] at h ⊢;exact ⟨h.1,h.2.1,h.2.2.1,fun p hp=>rR (by omega) (h.2.2.2 p hp)⟩
structure ACap (n:Nat) (a:AV):Prop where
 s:mxS n a.s=true
 t:∀ t∈a.ts,mxN n t.x=true
section
variable {H:Type} {enc:TypeId×Value→H} {w:World} {base:Nat} {spare:Nat→Bool} {held:Bool}
theorem Sb:∀ (fuel:Nat) {cs:List Value} {x:DataW H×List MemPlace},DataW.trod enc prog w base spare held fuel 25 cs=some x→∃ s:SV,cs=[.int .i64 s.f.tag,.int .i64 s.f.dim,.slice s.f.a s.f.len s.f.cap]∧SIn w fuel s∧mxS fuel s=true:=by
 intro fuel
 induction fuel using Nat.strongRecOn with
 | _ fuel ih =>
 intro cs x h;obtain ⟨xs,n,hn,_,hl,hlen,hg⟩:=DataW.trod_struct underlying25 h;rw [show prog.cellsOf 25=3 by kernel_rfl] at hl;obtain ⟨a,b,c,rfl⟩:=De hl;have hlen3:xs.length=3:=hlen;have g0:=hg 0 _ rfl;have g1:=hg 1 _ rfl;have g2:=hg 2 _ rfl;rw [show prog.cellsOf _=1 by kernel_rfl,List.getElem?_eq_getElem (by omega)] at g0 g1 g2;obtain ⟨z0,e0,_,w0⟩:=DataW.trod_int (k:=.i64) (by kernel_rfl) g0;obtain ⟨z1,e1,_,w1⟩:=DataW.trod_int (k:=.i64) (by kernel_rfl) g1;simp at e0 e1;subst e0 e1;rcases DataW.trod_slice underlying23 g2 with ⟨hcs,_⟩ | ⟨ad,len,cap,elems,rest,n',hn',hcs,_,hb,hle,hcap,hel,hi,_,_⟩
 ·simp at hcs;subst hcs;subst hn;exact ⟨.mk ⟨z0,z1,none,0,0⟩ [],rfl,⟨rfl,.inl rfl,fun p hp=>by cases hp⟩,by simp [mxS]⟩
 ·simp at hcs;subst hcs;subst hn;rw [show prog.cellsOf 25=3 by kernel_rfl] at hi;obtain ⟨ps,hpl,hps⟩:=oS len (fun i (p:SV)=>(w.cell? (ad.add (i * 3))=some (.int .i64 p.f.tag)∧w.cell? (ad.add (i * 3+1))=some (.int .i64 p.f.dim)∧w.cell? (ad.add (i * 3+2))=some (.slice p.f.a p.f.len p.f.cap))∧SIn w n' p∧mxS n' p=true) (fun i hil=>by
   have hii:=hi i hil;rw [List.getElem?_eq_getElem (by omega)] at hii;obtain ⟨cs',hc,ht⟩:=Option.bind_eq_some_iff.1 hii;obtain ⟨_,hcl,hat⟩:=World.cells?_some hc;obtain ⟨s,rfl,hs⟩:=ih n' (by omega) ht;have e0:=hat 0 (by omega);have e1:=hat 1 (by omega);have e2:=hat 2 (by omega);rw [Go.Deep.add_add] at e0 e1 e2;exact ⟨s,⟨e0,e1,e2⟩,hs⟩)
  refine ⟨.mk ⟨z0,z1,some ad,len,cap⟩ ps,rfl,⟨hpl,?_,fun p hp=>?_⟩,?_⟩
  ·rcases Nat.eq_zero_or_pos len with h0 | h0
   ·exact .inl (List.length_eq_zero_iff.1 (by omega))
   ·obtain ⟨b,off,spot⟩:=ad;obtain ⟨⟨h1,_,_⟩,_⟩:=hps 0 (ps[0]'(by omega)) (List.getElem?_eq_getElem (by omega));have hspot:spot=none:=by simpa [Addr.add] using World.cell?_spot h1
    subst hspot;refine .inr ⟨b,off,rfl,fun i c hic=>?_⟩;have e:∀ k,({ block:=b,off:=off }:Addr).add k=⟨b,off+k,none⟩:=fun k=>by simp [Addr.add]
    have h3:=(hps i c hic).1;rw [e,e,e,← Nat.add_assoc,← Nat.add_assoc] at h3;exact h3
  ·obtain ⟨i,hi',hic⟩:=List.mem_iff_getElem.1 hp;exact (hps i p (by rw [← hic];exact List.getElem?_eq_getElem hi')).2.1.more (by omega)
  ·simp only [mxS,Bool.and_eq_true,decide_eq_true_eq,List.all_eq_true];refine ⟨by simp only [maxLen] at hcap hle;omega,fun p hp=>?_⟩;obtain ⟨i,hi',hic⟩:=List.mem_iff_getElem.1 hp;exact rQ (by omega) (hps i p (by rw [← hic];exact List.getElem?_eq_getElem hi')).2.2
theorem Mn {n:Nat} {v:Value} {x:DataW H×List MemPlace} (h:DataW.trod enc prog w base spare held n 40 [v]=some x) :
  ∃ (a:Option Addr) (len cap:Nat) (rows:List Nat),v = .slice a len cap∧fL w a (u64s rows)∧rows.length=len∧len≤9223372036854775807∧∀ r∈rows,r < 18446744073709551616:=by
 rcases open_ints (t:=40) (e:=39) (k:=.u64) (by kernel_rfl) (by kernel_rfl) (by kernel_rfl) h with ⟨hcs,_⟩ | ⟨x,len,cap,zs,hcs,_,hl,hm,hz,_,hcell,hwz⟩
 ·have hcs':v = .slice none 0 0:=by simpa using hcs
  subst hcs';exact ⟨none,0,0,[],rfl,.inl rfl,rfl,Nat.zero_le _,fun r hr=>by cases hr⟩
 ·have hcs':v = .slice (some x) len cap:=by simpa using hcs
  subst hcs';have hzl:len≤zs.length:=by rw [hz];split<;>omega
  refine ⟨some x,len,cap,(zs.take len).map Int.toNat,rfl,?_,?_,by simp only [maxLen] at hm;omega,?_⟩
  ·rcases Nat.eq_zero_or_pos len with h0 | h0
   ·subst h0;exact .inl (by simp [u64s])
   ·obtain ⟨b,off,spot⟩:=x;have hc0:=hcell 0 (by omega);have hspot:spot=none:=by simpa [Addr.add] using World.cell?_spot hc0
    subst hspot;refine .inr ⟨b,off,rfl,fun i v hi=>?_⟩;obtain ⟨q,hq,rfl⟩:=E9 hi;rw [List.getElem?_map,List.getElem?_take] at hq;split at hq
    ·rename_i hlt;have hi2:i < zs.length:=by omega
     rw [List.getElem?_eq_getElem hi2] at hq;have hq':(zs[i]).toNat=q:=by simpa using hq
     obtain ⟨m,hm1,hm2⟩:=Fk (hwz _ (List.getElem_mem hi2));have hc:=hcell i hi2;have e:({ block:=b,off:=off }:Addr).add i=⟨b,off+i,none⟩:=by simp [Addr.add]
     rw [e] at hc;rw [hc]
     have:zs.getD i 0=zs[i]:=by simp [List.getD,List.getElem?_eq_getElem hi2]
     rw [this,hm1,← hq',hm1];rfl
    ·cases hq
  ·simp;omega
  ·intro r hr;obtain ⟨z,hz1,rfl⟩:=List.mem_map.1 hr;obtain ⟨m,hm1,hm2⟩:=Fk (hwz z (List.mem_of_mem_take hz1));rw [hm1];exact hm2
theorem Sc {n:Nat} {a b:Value} {x:DataW H×List MemPlace} (h:DataW.trod enc prog w base spare held n 42 [a,b]=some x) :
  ∃ (g:Nat) (ra:Option Addr) (rl rc:Nat) (rows:List Nat),a = .int .u64 (g:Int)∧b = .slice ra rl rc∧g < 18446744073709551616∧fL w ra (u64s rows)∧rows.length=rl∧rl≤9223372036854775807∧∀ r∈rows,r < 18446744073709551616:=by
 obtain ⟨xs,n',_,_,hl,hlen,hg⟩:=DataW.trod_struct underlying42 h;have hlen2:xs.length=2:=hlen;have g0:=hg 0 _ rfl;have g1:=hg 1 _ rfl;rw [show prog.cellsOf _=1 by kernel_rfl,List.getElem?_eq_getElem (by omega)] at g0 g1;obtain ⟨z0,e0,_,w0⟩:=DataW.trod_int (k:=.u64) (by kernel_rfl) g0;simp at e0;subst e0;obtain ⟨g,rfl,hg64⟩:=Fk w0;obtain ⟨ra,rl,rc,rows,e1,h1,h2,hm,h3⟩:=Mn (v:=b) g1;exact ⟨g,ra,rl,rc,rows,rfl,e1,hg64,h1,h2,hm,h3⟩
theorem Mo:∀ (fuel:Nat) {cs:List Value} {x:DataW H×List MemPlace},DataW.trod enc prog w base spare held fuel 46 cs=some x→∃ s:WV,cs=s.f.six∧WIn w fuel s∧mxN fuel s=true:=by
 intro fuel
 induction fuel using Nat.strongRecOn with
 | _ fuel ih =>
 intro cs x h;obtain ⟨xs,n,hn,_,hl,hlen,hg⟩:=DataW.trod_struct underlying46 h;rw [show prog.cellsOf 46=6 by kernel_rfl] at hl;obtain ⟨a,b,c,d,e,f,rfl⟩:=six_len hl;have hlen5:xs.length=5:=hlen;have g0:=hg 0 _ rfl;have g1:=hg 1 _ rfl;have g2:=hg 2 _ rfl;have g3:=hg 3 _ rfl;have g4:=hg 4 _ rfl;rw [show prog.cellsOf _=1 by kernel_rfl,List.getElem?_eq_getElem (by omega)] at g0 g1 g3 g4;rw [show prog.cellsOf _=2 by kernel_rfl,List.getElem?_eq_getElem (by omega)] at g2;obtain ⟨z0,e0,_⟩:=DataW.trod_bool (by kernel_rfl) g0;obtain ⟨z1,e1,_,w1⟩:=DataW.trod_int (k:=.i64) (by kernel_rfl) g1;simp at e0 e1;subst e0 e1;obtain ⟨gg,ra,rl,rc,rows,rfl,rfl,hg64,hrow,hrl,hrm,hr64⟩:=Sc (a:=c) (b:=d) g2;obtain ⟨ca,cl,cc,e3⟩:=Lg g3;have e3':e = .slice ca cl cc:=by simpa using e3
 subst e3';obtain ⟨cells,hcl,hcm,hcrow,hcbits⟩:=Lf (a:=ca) (len:=cl) (cap:=cc) g3;rcases DataW.trod_slice underlying44 g4 with ⟨hcs,_⟩ | ⟨ad,len,cap,elems,rest,n',hn',hcs,_,hb,hle,hcap,hel,hi,_,_⟩
 ·simp at hcs;subst hcs;subst hn;exact ⟨.mk ⟨z0,z1,gg,ra,rl,rc,rows,ca,cl,cc,cells,none,0,0⟩ [],rfl,⟨⟨hrow,hrl,hg64,hr64,hcrow,hcl.symm,hcbits,by dsimp only;omega⟩,rfl,.inl rfl,fun p hp=>by cases hp⟩,by
   simp only [mxN,Bool.and_eq_true,decide_eq_true_eq,List.all_nil,and_true];exact ⟨hrm,by simp only [maxLen] at hcm;omega,Nat.zero_le _⟩⟩
 ·simp at hcs;subst hcs;subst hn;rw [show prog.cellsOf 46=6 by kernel_rfl] at hi;obtain ⟨ps,hpl,hps⟩:=oS len (fun i (p:WV)=>(w.cell? (ad.add (i * 6))=some (.bool p.f.z)∧w.cell? (ad.add (i * 6+1))=some (.int .i64 p.f.c)∧w.cell? (ad.add (i * 6+2))=some (.int .u64 (p.f.g:Int))∧w.cell? (ad.add (i * 6+3))=some (.slice p.f.ra p.f.rl p.f.rc)∧w.cell? (ad.add (i * 6+4))=some (.slice p.f.ca p.f.cl p.f.cc)∧w.cell? (ad.add (i * 6+5))=some (.slice p.f.pa p.f.pl p.f.pc))∧WIn w n' p∧mxN n' p=true) (fun i hil=>by
   have hii:=hi i hil;rw [List.getElem?_eq_getElem (by omega)] at hii;obtain ⟨cs',hc,ht⟩:=Option.bind_eq_some_iff.1 hii;obtain ⟨_,hcl,hat⟩:=World.cells?_some hc;obtain ⟨s,rfl,hs⟩:=ih n' (by omega) ht;have e0:=hat 0 (by omega);have e1:=hat 1 (by omega);have e2:=hat 2 (by omega);have e3:=hat 3 (by omega);have e4:=hat 4 (by omega);have e5:=hat 5 (by omega);rw [Go.Deep.add_add] at e0 e1 e2 e3 e4 e5;exact ⟨s,⟨e0,e1,e2,e3,e4,e5⟩,hs⟩)
  refine ⟨.mk ⟨z0,z1,gg,ra,rl,rc,rows,ca,cl,cc,cells,some ad,len,cap⟩ ps,rfl,⟨⟨hrow,hrl,hg64,hr64,hcrow,hcl.symm,hcbits,by dsimp only;omega⟩,hpl,?_,fun p hp=>?_⟩,?_⟩
  ·rcases Nat.eq_zero_or_pos len with h0 | h0
   ·exact .inl (List.length_eq_zero_iff.1 (by omega))
   ·obtain ⟨b,off,spot⟩:=ad;obtain ⟨⟨h1,_⟩,_⟩:=hps 0 (ps[0]'(by omega)) (List.getElem?_eq_getElem (by omega));have hspot:spot=none:=by simpa [Addr.add] using World.cell?_spot h1
    subst hspot;refine .inr ⟨b,off,rfl,fun i c hic=>?_⟩;have e:∀ k,({ block:=b,off:=off }:Addr).add k=⟨b,off+k,none⟩:=fun k=>by simp [Addr.add]
    have h3:=(hps i c hic).1;rw [e,e,e,e,e,e,← Nat.add_assoc,← Nat.add_assoc,← Nat.add_assoc,← Nat.add_assoc,← Nat.add_assoc] at h3;exact h3
  ·obtain ⟨i,hi',hic⟩:=List.mem_iff_getElem.1 hp;exact (hps i p (by rw [← hic];exact List.getElem?_eq_getElem hi')).2.1.more (by omega)
  ·simp only [mxN,Bool.and_eq_true,decide_eq_true_eq,List.all_eq_true];refine ⟨hrm,by simp only [maxLen] at hcm;omega,by simp only [maxLen] at hcap hle;omega,fun p hp=>?_⟩;obtain ⟨i,hi',hic⟩:=List.mem_iff_getElem.1 hp;exact rR (by omega) (hps i p (by rw [← hic];exact List.getElem?_eq_getElem hi')).2.2
theorem Sd {n:Nat} {cs:List Value} {x:DataW H×List MemPlace} (h:DataW.trod enc prog w base spare held n 48 cs=some x):∃ r:TV,cs=r.nine∧WIn w n r.x∧mxN n r.x=true:=by
 obtain ⟨xs,n',hn,_,hl,hlen,hg⟩:=DataW.trod_struct underlying48 h;rw [show prog.cellsOf 48=9 by kernel_rfl] at hl;obtain ⟨a,b,c,e,f,g,i,j,k,rfl⟩:=Sa hl;have hlen4:xs.length=4:=hlen;have g0:=hg 0 _ rfl;have g1:=hg 1 _ rfl;have g2:=hg 2 _ rfl;have g4:=hg 3 _ rfl;rw [show prog.cellsOf _=1 by kernel_rfl,List.getElem?_eq_getElem (by omega)] at g0 g1 g2;rw [show prog.cellsOf _=6 by kernel_rfl,List.getElem?_eq_getElem (by omega)] at g4;obtain ⟨z0,e0,_,w0⟩:=DataW.trod_int (k:=.i64) (by kernel_rfl) g0;obtain ⟨z1,e1,_,w1⟩:=DataW.trod_int (k:=.i64) (by kernel_rfl) g1;obtain ⟨z2,e2,_,w2⟩:=DataW.trod_int (k:=.i64) (by kernel_rfl) g2;simp at e0 e1 e2;subst e0 e1 e2;obtain ⟨s,e4,hs,hm⟩:=Mo n' g4;have e4':[e,f,g,i,j,k]=s.f.six:=by simpa using e4
 simp only [List.cons.injEq,and_true] at e4';obtain ⟨rfl,rfl,rfl,rfl,rfl,rfl⟩:=e4';exact ⟨⟨z0,z1,z2,s⟩,rfl,hs.more (by omega),rR (by omega) hm⟩
theorem Vt {n:Nat} {cs:List Value} {x:DataW H×List MemPlace} (h:DataW.trod enc prog w base spare held n 29 cs=some x):∃ p:AV,cs=p.seven∧AIn w n n p∧ACap n p:=by
 obtain ⟨xs,n',hn,_,hl,hlen,hg⟩:=DataW.trod_struct underlying29 h;rw [show prog.cellsOf 29=7 by kernel_rfl] at hl;obtain ⟨a,b,c,d,e,f,g,rfl⟩:=Mm hl;have hlen5:xs.length=5:=hlen;have g0:=hg 0 _ rfl;have g1:=hg 1 _ rfl;have g2:=hg 2 _ rfl;have g3:=hg 3 _ rfl;have g4:=hg 4 _ rfl;rw [show prog.cellsOf _=3 by kernel_rfl,List.getElem?_eq_getElem (by omega)] at g0;rw [show prog.cellsOf _=1 by kernel_rfl,List.getElem?_eq_getElem (by omega)] at g1 g2 g3 g4;obtain ⟨s,es,hs,hsm⟩:=Sb n' g0;have es':[a,b,c]=[.int .i64 s.f.tag,.int .i64 s.f.dim,.slice s.f.a s.f.len s.f.cap]:=by simpa using es
 simp only [List.cons.injEq,and_true] at es';obtain ⟨rfl,rfl,rfl⟩:=es';obtain ⟨z1,e1,_,w1⟩:=DataW.trod_int (k:=.i64) (by kernel_rfl) g1;obtain ⟨z2,e2,_,w2⟩:=DataW.trod_int (k:=.i64) (by kernel_rfl) g2;simp at e1 e2;subst e1 e2;obtain ⟨fa,fl,fc,fs,rfl,hfrow,hfl,hfc,hfm⟩:=ints_in (v:=f) g3;have hfm9:fl≤9223372036854775807:=by simp only [maxLen] at hfm;omega
 rcases DataW.trod_slice underlying27 g4 with ⟨hcs,_⟩ | ⟨ad,len,cap,elems,rest,n2,hn2,hcs,_,hb,hle,hcap,hel,hi,_,_⟩
 ·simp at hcs;subst hcs;exact ⟨⟨s,z1,z2,fa,fl,fc,fs,none,0,0,[]⟩,rfl,⟨hs.more (by omega),hfrow,hfl,.inl rfl,rfl,(fun r hr=>by cases hr),hfm9,Nat.zero_le _⟩,rQ (by omega) hsm,fun r hr=>by cases hr⟩
 ·simp at hcs;subst hcs;rw [show prog.cellsOf 48=9 by kernel_rfl] at hi;obtain ⟨rs,hrl,hrs⟩:=oS len (fun i (r:TV)=>(∀ (j:Nat) u,r.nine[j]?=some u→w.cell? (ad.add (i * 9+j))=some u)∧WIn w n2 r.x∧mxN n2 r.x=true) (fun i hil=>by
   have hii:=hi i hil;rw [List.getElem?_eq_getElem (by omega)] at hii;obtain ⟨cs',hc,ht⟩:=Option.bind_eq_some_iff.1 hii;obtain ⟨_,hcl,hat⟩:=World.cells?_some hc;obtain ⟨r,rfl,hr,hr9⟩:=Sd ht;refine ⟨r,fun j u hj=>?_,hr,hr9⟩;have hj9:j < 9:=(List.getElem?_eq_some_iff.1 hj).1;have h0:=hat j (by omega);rw [Go.Deep.add_add] at h0;rw [h0];exact hj)
  refine ⟨⟨s,z1,z2,fa,fl,fc,fs,some ad,len,cap,rs⟩,rfl,⟨hs.more (by omega),hfrow,hfl,?_,hrl,fun r hr=>?_,hfm9,by simp only [maxLen] at hcap hle;dsimp only;omega⟩,rQ (by omega) hsm,fun r hr=>?_⟩
  ·rcases Nat.eq_zero_or_pos len with h0 | h0
   ·exact .inl (List.length_eq_zero_iff.1 (by dsimp only;omega))
   ·obtain ⟨b,off,spot⟩:=ad;have h1:=(hrs 0 (rs[0]'(by omega)) (List.getElem?_eq_getElem (by omega))).1 0 _ rfl;have hspot:spot=none:=by simpa [Addr.add] using World.cell?_spot h1
    subst hspot;refine .inr ⟨b,off,rfl,fun i r hir=>A4 _ _ fun j u hj=>?_⟩;have h3:=(hrs i r hir).1 j u hj;have e:∀ k,({ block:=b,off:=off }:Addr).add k=⟨b,off+k,none⟩:=fun k=>by simp [Addr.add]
    rw [e,← Nat.add_assoc] at h3;exact h3
  ·obtain ⟨i,hi',hic⟩:=List.mem_iff_getElem.1 hr;exact (hrs i r (by rw [← hic];exact List.getElem?_eq_getElem hi')).2.1.more (by omega)
  ·obtain ⟨i,hi',hic⟩:=List.mem_iff_getElem.1 hr;exact rR (by omega) (hrs i r (by rw [← hic];exact List.getElem?_eq_getElem hi')).2.2
theorem Bj {r:Reach} {b0:Nat} {v:Value} {d:DataW H} {p:List MemPlace} (hv:Value.okWide prog w r b0 29 v) (h:DataW.Trod enc prog w base spare held 29 v d p) :
  ∃ (n:Nat) (s:AV),v=s.val∧AIn w n n s∧ACap n s:=by
 obtain ⟨cs,rfl,_⟩:=okWide_struct underlying29 hv;obtain ⟨n,h⟩:=h;obtain ⟨s,e,hs⟩:=Vt (n:=n) h;have e':cs.toList=_:=e;exact ⟨n,s,by show Value.agg cs=Value.agg _;congr 1;exact Array.ext' e',hs⟩
end
end
section
open Go.RowKit
theorem bs_23_1 (v00:Value) (v01:Value) (v02:Value):Instr.fill (fun i=>some (i * 3,3)) ((Array.range (1 * 3)).map ((Value.cells (.agg #[.int .i64 0,.int .i64 0,.slice none 0 0]))[· % (Value.cells (.agg #[.int .i64 0,.int .i64 0,.slice none 0 0])).size]!)) [(0,.agg #[v00,v01,v02])]=some (List.toArray [v00,v01,v02]):=by kernel_rfl
theorem O9:bJ prog 49=true:=by kernel_rfl
theorem zC:bJ prog 23=true:=by kernel_rfl
theorem inf_25:prog.info? 25=some Tryz.t25:=by kernel_rfl
theorem w6_at9 {w:World} {B:Nat} {f:WF} {o:Nat} (h:aC w B o f.six):W6 w B o f:=⟨h.1,h.2.1,h.2.2.1,h.2.2.2.1,h.2.2.2.2.1,h.2.2.2.2.2.1⟩
abbrev Pa (q:SF):List Value:=[.int .i64 q.tag,.int .i64 q.dim,.slice none 0 0]
theorem I9 (S:PS) (sf:SF) (f0 f:WF) (x:PX) (B:Nat) (w:World) (hs:SIs w S sf) (hok:S.ok) (hB:w.heap[B]?=some (.cells f.six.toArray 46 (0,0))) (hx:XIs w S f x) (ht:Tabs w) :
  Calls prog 23 #[gR sf f0,.slice (some ⟨B,0,none⟩) 1 1] w (jO S x w):=by
 refine cG (args:=[gR sf f0,.slice (some ⟨B,0,none⟩) 1 1]) func23 rfl ntmps23 rfl ?_;have hS:=St.start w;refine aO (aQ (bY (cs:=[_,_,_,_,_,_,_,_,_]) hS rfl rfl rfl fun B1 W1 hS=>bF (cs:=[_,_,_,_,_,_]) hS zeroValue46 rfl rfl fun B2 W2 hS=>aP (XF.thenN (aO (aQ (aN (o':=0) vJ rfl rfl rfl (aT (vs:=[_,_,_]) isAgg25 sizeOf25 rfl (aC.own (j:=0) (m:=3) (hS.at_ 1 rfl) rfl) rfl (aH rfl rfl ?_))))))));have hsz9:=hS.below.size;have hB9:=(hS.below.block B (cA hB)).trans hB;refine cS (vs:=[_,_]) hS N4 rfl (xY S sf _ (hs.below hS.below) hok (some ⟨B,0,none⟩) 1 1 [f] [x] (.inr ⟨B,0,rfl,fun i g hg=>by
  cases i with
  | zero=>cases hg;exact w6_at9 (aC.own (j:=0) (m:=6) hB9 rfl)
  | succ i=>simp at hg⟩) ⟨rfl,fun i g y hg hy=>by
  cases i with
  | zero=>cases hg;cases hy;exact hx.below hS.below
  | succ i=>simp at hg⟩ rfl (by decide) (ht.below hS.below)) rfl ?_
 rintro e W3 ⟨f9,rfl,hn9,hb⟩;refine ⟨_,rfl,hb,?_⟩;clear hS;intro hS;refine aH rfl rfl (bZ rfl rfl rfl (bZ rfl rfl rfl (bF (cs:=[_,_,_,_,_,_]) hS zeroValue46 rfl rfl fun B4 W4 hS=>aU (i:=0) (vs:=[_,_,_,_,_,_]) (cs':=[_,_,_,_,_,_]) (O':=[_,_,_]) hS sizeOf46 rfl rfl rfl rfl rfl rfl rfl fun W5 hS=>aB rfl rfl (aP (XF.thenN (aO (aQ (aT (vs:=[_,_,_,_,_,_]) isAgg46 sizeOf46 rfl (aC.own (j:=0) (m:=6) (hS.at_ 0 rfl) rfl) rfl (aU (i:=1) (vs:=[_,_,_,_,_,_]) (cs':=[_,_,_,_,_,_]) (O':=[_,_,_]) hS sizeOf46 rfl rfl rfl rfl rfl rfl rfl fun W6 hS=>aP (XF.thenN (bL (XF.res (eE (vs:=[_,_,_,_,_,_]) results23 isAgg46 sizeOf46 rfl (aC.own (j:=0) (m:=6) (hS.at_ 1 rfl) rfl)) ?_))))))))))));have e9:[x].foldl (cD S) (bU S)=x:=lJ hx.ok;rw [e9] at hn9;exact ⟨f9,rfl,(hn9.agree (hS.since 0 rfl)).mono hsz9,hS.below⟩
theorem Ja (S:PS) (sf:SF) (f0 f:WF) (x:PX) (w:World) (hs:SIs w S sf) (hok:S.ok) (hx:XIs w S f x) (ht:Tabs w) :
  Calls prog 24 #[gR sf f0,f.val] w (jO S x w):=by
 refine cG (args:=[gR sf f0,f.val]) func24 rfl ntmps24 rfl ?_;have hS:=St.start w;refine aO (aQ (bY (cs:=[_,_,_,_,_,_,_,_,_]) hS rfl rfl rfl fun B1 W1 hS=>bY (cs:=[_,_,_,_,_,_]) hS rfl rfl rfl fun B2 W2 hS=>bF (cs:=[_,_,_,_,_,_]) hS zeroValue46 rfl rfl fun B3 W3 hS=>aP (XF.thenN (aO (aQ (aT (vs:=[_,_,_,_,_,_,_,_,_]) isAgg57 sizeOf57 rfl (aC.own (j:=0) (m:=9) (hS.at_ 2 rfl) rfl) rfl (aT (vs:=[_,_,_,_,_,_]) isAgg46 sizeOf46 rfl (aC.own (j:=0) (m:=6) (hS.at_ 1 rfl) rfl) rfl (cX (us:=[(0,.agg (List.toArray [_,_,_,_,_,_]))]) hS underlying44 sizeOf46 zeroValue46 rfl rfl rfl (yT _ _ _ _ _ _) rfl fun B4 W4 hS=>?_))))))));have hsz9:=hS.below.size;refine cS (vs:=[_,_]) hS zC rfl (I9 S sf f0 f x B4 _ (hs.below hS.below) hok (hS.at_ 0 rfl) (hx.below hS.below) (ht.below hS.below)) rfl ?_;rintro e W5 ⟨f9,rfl,hn9,hb⟩;refine ⟨_,rfl,hb,?_⟩;clear hS;intro hS;refine aU (i:=1) (vs:=[_,_,_,_,_,_]) (cs':=[_,_,_,_,_,_]) (O':=[_,_,_,_]) hS sizeOf46 rfl rfl rfl rfl rfl rfl rfl fun W6 hS=>aP (XF.thenN (bL (XF.res (eE (vs:=[_,_,_,_,_,_]) results24 isAgg46 sizeOf46 rfl (aC.own (j:=0) (m:=6) (hS.at_ 1 rfl) rfl)) ?_)))
 exact ⟨f9,rfl,(hn9.agree (hS.since 0 rfl)).mono hsz9,hS.below⟩
theorem Bk (t n:Int) (a:Option Addr) (c:Nat) (w:World) :
  Calls prog 49 #[.agg #[.int .i64 t,.int .i64 n,.slice a 0 c]] w (fun e w'=>e = .returned (.agg #[.int .i64 t,.int .i64 n,.slice none 0 0])∧Below w.heap.size w w'):=by
 refine cG (args:=[.agg #[.int .i64 t,.int .i64 n,.slice a 0 c]]) func49 rfl ntmps49 rfl ?_;have hS:=St.start w;refine aO (aQ (bY (cs:=[_,_,_]) hS rfl rfl rfl fun B1 W1 hS=>bF (cs:=[_,_,_]) hS zeroValue25 rfl rfl fun B2 W2 hS=>aP (XF.thenN (aO (aQ (aB rfl rfl (aP (XF.thenN (aO (aO (aQ (aN (o':=2) dW rfl rfl rfl (aR isAgg23 rfl (aK (hS.at_ 1 rfl) rfl) rfl (cL underlying23 rfl rfl (aH rfl rfl (aP (XF.thenN (bX (eJ (fun m l W=>l=[(1,.pointer (some ⟨B1,0,none⟩)),(2,.pointer (some ⟨B2,0,none⟩)),(3,.slice none 0 0),(8,.int .i64 0),(9,.int .i64 0)]∧St w [(B2,[.int .i64 0,.int .i64 0,.slice none 0 0],25),(B1,[.int .i64 t,.int .i64 n,.slice a 0 c],25)] [] [] W) (0) ([(1,_),(2,_),(3,_),(8,_),(9,_)]) ⟨rfl,rfl,rfl,rfl,rfl,trivial⟩ (⟨rfl,hS.clear⟩) ?_)))))))))))))))))));clear hS;rintro m l W ⟨rfl,hS⟩;refine aO (aQ (cT rfl rfl rfl (aP (XF.thenN (aO (bB rfl (fun hc=>absurd (of_decide_eq_true hc) (by decide)) (fun hc=>?_)))))));have hc:=of_decide_eq_false hc;refine dT (XF.thenX (XF.thenX (XF.blkX (XF.thenN (aO (aQ (aH rfl rfl (aN (o':=2) dW rfl rfl rfl (dK (i:=1) (cs':=[_,_,_]) (O':=[_,_]) hS sizeOf23 rfl rfl rfl rfl rfl rfl rfl fun W3 hS=>aP (XF.thenN (aO (aQ (aT (vs:=[_,_,_]) isAgg25 sizeOf25 rfl (aC.own (j:=0) (m:=3) (hS.at_ 1 rfl) rfl) rfl (aU (i:=0) (vs:=[_,_,_]) (cs':=[_,_,_]) (O':=[_,_]) hS sizeOf25 rfl rfl rfl rfl rfl rfl rfl fun W4 hS=>aP (XF.thenN (bL (XF.res (eE (vs:=[_,_,_]) results49 isAgg25 sizeOf25 rfl (aC.own (j:=0) (m:=3) (hS.at_ 0 rfl) rfl)) ?_)))))))))))))))));exact ⟨rfl,hS.below⟩
theorem Mp (tag dim:Int) (sa:Option Addr) (slen scap:Nat) (fs:List SF) (w:World) (hrow:∀ (i:Nat) q,fs[i]?=some q→∃ b off,sa=some ⟨b,off,none⟩∧S3 w b (off+i * 3) q) (hlen:fs.length=slen) (h0:∀ q∈fs,q.len=0) (hm:slen≤2) :
  Calls prog 49 #[.agg #[.int .i64 tag,.int .i64 dim,.slice sa slen scap]] w (fun e w'=>∃ v,e = .returned (.agg #[.int .i64 tag,.int .i64 dim,v])∧w'.ownsRow w.heap.size 25 3 v slen (fs.flatMap Pa)∧Below w.heap.size w w'):=by
 refine cG (args:=[.agg #[.int .i64 tag,.int .i64 dim,.slice sa slen scap]]) func49 rfl ntmps49 rfl ?_;have hS:=St.start w;refine aO (aQ (bY (cs:=[_,_,_]) hS rfl rfl rfl fun B1 W1 hS=>bF (cs:=[_,_,_]) hS zeroValue25 rfl rfl fun B2 W2 hS=>aP (XF.thenN (aO (aQ (aB rfl rfl (aP (XF.thenN (aO (aO ?_))))))))));have hS:=hS.newG 25 3;refine aQ (aN (o':=2) dW rfl rfl rfl (aR isAgg23 rfl (aK (hS.at_ 1 rfl) rfl) rfl (cL underlying23 rfl rfl (aH rfl rfl (aP (XF.thenN (bX (eJ (fun m l W=>∃ (i:Nat) (v:Value),i≤slen∧m=slen - i∧l=[(1,.pointer (some ⟨B1,0,none⟩)),(2,.pointer (some ⟨B2,0,none⟩)),(3,v),(7,.slice sa slen scap),(8,.int .i64 (slen:Int)),(9,.int .i64 (i:Int))]∧St w [(B2,[.int .i64 0,.int .i64 0,.slice none 0 0],25),(B1,[.int .i64 tag,.int .i64 dim,.slice sa slen scap],25)] [⟨v,i,(fs.take i).flatMap Pa,25,3⟩] [] W) (slen - 0) ([(1,_),(2,_),(3,_),(7,_),(8,_),(9,_)]) ⟨rfl,rfl,rfl,rfl,rfl,rfl,trivial⟩ (⟨0,_,Nat.zero_le _,rfl,rfl,hS.clear⟩) ?_))))))));clear hS;rintro m l W ⟨i,v,hi,rfl,rfl,hS⟩;refine aO (aQ (cT rfl rfl rfl (aP (XF.thenN (aO (bB rfl (fun hc=>?_) (fun hc=>?_)))))))
 ·have hc10:=of_decide_eq_true hc;clear hc;have hk:i < slen:=by omega
  obtain ⟨q,hq⟩:∃ q,fs[i]?=some q:=⟨fs[i]'(by omega),by simp [show i < fs.length by omega]⟩;obtain ⟨b,off,rfl,hs3⟩:=hrow i q hq;obtain ⟨t9,d9,a9,l9,c9⟩:=q;obtain rfl:l9=0:=h0 _ (List.mem_of_getElem? hq);have k1:aC W b (off+i * 3) [.int .i64 t9,.int .i64 d9,.slice a9 0 c9]:=aC.agree hS.agree (Nat.zero_le _) hs3.cells;refine bP (XF.thenN (aO (bX (aO (aQ (cK  underlying23 sizeOf25 rfl rfl rfl (by omega) rfl rfl (aT (vs:=[_,_,_]) isAgg25 sizeOf25 rfl (k1) rfl (bF (cs:=[_,_,_]) hS zeroValue25 rfl rfl fun B3 W3 hS=>aU (i:=0) (vs:=[_,_,_]) (cs':=[_,_,_]) (O':=[_,_,_]) hS sizeOf25 rfl rfl rfl rfl rfl rfl rfl fun W4 hS=>aP (XF.thenN (aQ (aH rfl rfl (aT (vs:=[_,_,_]) isAgg25 sizeOf25 rfl (aC.own (j:=0) (m:=3) (hS.at_ 0 rfl) rfl) rfl (cH (vs:=[_]) hS O9 rfl (Bk t9 d9 a9 c9 _) rfl fun W5 hS=>cX (us:=[(0,.agg (List.toArray [_,_,_]))]) hS underlying23 sizeOf25 zeroValue25 rfl rfl rfl (bs_23_1 _ _ _) rfl fun B6 W6 hS=>?_)))))))))))));refine jS (i:=0) (news:=[_,_,_]) hS underlying23 inf_25 rfl rfl (by show 0 < 3;decide) rfl rfl rfl rfl rfl (aC.own (j:=0) (m:=3) (hS.at_ 0 rfl) rfl) rfl rfl (by dsimp only;simp only [maxLen];omega) (by dsimp only;show _ * 40≤_;omega) rfl fun v7 W7 hS=>?_
  refine aB rfl rfl (aP (XF.blkN (XF.thenN (aQ (cY rfl rfl (IntWalk.i64_in _ (by omega)) rfl (aH rfl rfl (aP ?_)))))));exact XF.round (slen - (i+1)) [(1,_),(2,_),(3,_),(7,_),(8,_),(9,_)] (by omega) ⟨rfl,rfl,rfl,rfl,rfl,rfl,trivial⟩ ⟨i+1,_,by omega,rfl,rfl,hS.tail.tail.clear.castG (by simp [List.take_add_one,hq,Pa])⟩
 ·have hc10:=of_decide_eq_false hc;clear hc;have hil:i=slen:=by omega
  rw [List.take_of_length_le (by omega),hil] at hS;obtain ⟨a9,c9,rfl⟩:=hS.headSl;refine dT (XF.thenX (XF.thenX (XF.blkX (XF.thenN (aO (aQ (aH rfl rfl (aN (o':=2) dW rfl rfl rfl (dK (i:=1) (cs':=[_,_,_]) (O':=[_,_]) hS sizeOf23 rfl rfl rfl rfl rfl rfl rfl fun W8 hS=>aP (XF.thenN (aO (aQ (aT (vs:=[_,_,_]) isAgg25 sizeOf25 rfl (aC.own (j:=0) (m:=3) (hS.at_ 1 rfl) rfl) rfl (aU (i:=0) (vs:=[_,_,_]) (cs':=[_,_,_]) (O':=[_,_]) hS sizeOf25 rfl rfl rfl rfl rfl rfl rfl fun W9 hS=>aP (XF.thenN (bL (XF.res (eE (vs:=[_,_,_]) results49 isAgg25 sizeOf25 rfl (aC.own (j:=0) (m:=3) (hS.at_ 0 rfl) rfl)) ?_)))))))))))))))));exact ⟨_,rfl,hS.row 0 rfl,hS.below⟩
theorem inf_4:prog.info? 4=some Tryz.t4:=by kernel_rfl
theorem goes_24:bJ prog 24=true:=by kernel_rfl
def Jb (lo:Nat) (S:PS):Asr:=fun v w=>∃ s2:SF,v=s2.val∧∀ W2,dD lo w W2→SIs W2 S s2
theorem Se (S:PS) (sf:SF) (w:World) (hs:SIs w S sf) {lo:Nat} (hlo:lo≤w.heap.size):Calls prog 49 #[sf.val] w (wW (Jb lo S) w):=by
 cases S with
 | one t n =>
  obtain ⟨a,c,rfl⟩:=hs;refine (Bk t n a c w).mono fun e w' ⟨he,hb⟩=>⟨_,he,fun w3 hg=>⟨⟨t,n,none,0,0⟩,rfl,fun W2 h2=>⟨none,0,rfl⟩⟩,hb⟩
 | two t n u m =>
  obtain ⟨b,off,c,a1,c1,a2,c2,rfl,h1,h2⟩:=hs;refine (Mp 5 0 (some ⟨b,off,none⟩) 2 c [⟨t,n,a1,0,c1⟩,⟨u,m,a2,0,c2⟩] w (fun i q hq=>?_) rfl (fun q hq=>?_) (Nat.le_refl _)).mono ?_
  ·match i,hq with
   | 0,hq=>cases hq;exact ⟨b,off,rfl,by rw [Nat.zero_mul,Nat.add_zero];exact h1⟩
   | 1,hq=>cases hq;exact ⟨b,off,rfl,by rw [Nat.one_mul];exact h2⟩
   | i+2,hq=>simp at hq
  ·simp at hq;rcases hq with rfl | rfl<;>rfl
  ·rintro e w' ⟨v,he,hr,hb⟩;refine ⟨_,he,fun w3 hg=>?_,hb⟩;obtain ⟨b9,c9,rfl,_⟩:=Mf hr (by omega);refine ⟨⟨5,0,some ⟨b9,0,none⟩,2,c9⟩,rfl,fun W2 h3=>?_⟩;have h4:=fJ (vT (fJ hr hg) hlo) h3;have hc:∀ (j:Nat) x,([SF.mk t n a1 0 c1,⟨u,m,a2,0,c2⟩].flatMap Pa)[j]?=some x→W2.cell? ⟨b9,j,none⟩=some x:=fun j x hj=>I7 h4 hj
   exact ⟨b9,0,c9,none,0,none,0,rfl,⟨hc 0 _ rfl,hc 1 _ rfl,hc 2 _ rfl⟩,⟨hc 3 _ rfl,hc 4 _ rfl,hc 5 _ rfl⟩⟩
def Spc:Option PS→World→SF→Prop
 | none,_,f=>f=⟨0,0,none,0,0⟩
 | some S,w,f=>S.ok∧SIs w S f
section
variable {P:Program} {ops:Array Oper} {Q:Exit→Act→World→Prop} {n:Nat} {l:Fr} {W:World} {L:List Asr} {i:Nat}
variable {d:Nat} {op:Op} {ty:TypeId} {pos:String} {aft_:Array Edge}
theorem rgPs (ds:List (Nat×Nat×Asr)) (hi:ops[i]?=some ⟨some d,op,ty,pos,aft_,none⟩) {q:Asr} (hds:I6 ops L i ds)
  (hr:∀ (ev:Operand→Value) w,Below W.heap.size W w→Ee ds ev w→∃ v,(execOp ev ⟨some d,op,ty,pos,#[],none⟩).run P w = .ok (.value v) w∧q v w) (hI:atI L i=q):RG P n ops Q l W L i :=
 fun a ha=>oU hi (aS rfl) fun b w hF hG hD=>by
  have key:∀ (ds:List (Nat×Nat×Asr)),I6 ops L i ds→Ee ds b.eval w:=by
   intro ds
   induction ds with
   | nil=>intro _;trivial
   | cons x xs ih =>
    intro h;refine ⟨?_,ih h.2⟩;have h1:=hD x.1 x.2.1 h.1.1;rw [h.1.2] at h1;exact h1
  obtain ⟨v,h2,h3⟩:=hr b.eval w hG (key ds hds);exact ⟨v,w,by rw [eR b.eval _ _ _ _ pos _ #[] _ none];exact h2,by rw [hI];exact h3,Below.refl _ _⟩
end
section
variable {ops:Array Oper} {Q:Exit→Act→World→Prop} {n:Nat} {l:Fr} {W:World} {L:List Asr} {i:Nat} {d:Nat} {ty:TypeId} {pos:String} {aft_:Array Edge}
end
abbrev Pb (f g t:Int) (x:WF):List Value:=[.int .i64 f,.int .i64 g,.int .i64 t,.bool x.z,.int .i64 x.c,.int .u64 (x.g:Int),.slice x.ra x.rl x.rc,.slice x.ca x.cl x.cc,.slice x.pa x.pl x.pc]
section
variable {ops:Array Oper} {Q:Exit→Act→World→Prop} {n:Nat} {l:Fr} {W:World} {L:List Asr} {i:Nat} {d:Nat} {ty:TypeId} {pos:String} {aft_:Array Edge}
end
def uL (M:World→Prop):Prop:=∀ W W',M W→Below W.heap.size W W'→M W'
def uM (M:World→Prop) (t n:Int) (f:WF) (x:PF):Prop:=∀ W,M W→PIs W t n f x
def jZ (M:World→Prop):PS→WF→PX→Prop
 | .one t n,f,.one a=>uM M t n f a
 | .two t n u m,f,.two a b=>f.pf=pC 0∧f.rl=0∧f.cl=0∧f.pl=2∧∃ blk off g h,f.pa=some ⟨blk,off,none⟩∧(∀ W,M W→W6 W blk off g∧W6 W blk (off+6) h)∧uM M t n g a∧uM M u m h b
 | _,_,_=>False
theorem jZ.is {M:World→Prop} {S:PS} {f:WF} {x:PX} {w:World} (h:jZ M S f x) (hM:M w):XIs w S f x:=by cases S<;>cases x<;>first | exact h.elim | exact (show uM M _ _ f _ from h) w hM | skip;obtain ⟨h1,h2,h3,h4,blk,off,g,k,h5,h6,h7,h8⟩:=h;exact ⟨h1,h2,h3,h4,blk,off,g,k,h5,(h6 w hM).1,(h6 w hM).2,h7 w hM,h8 w hM⟩
theorem jZ.mono {M M':World→Prop} {S:PS} {f:WF} {x:PX} (h:jZ M S f x) (hm:∀ W,M' W→M W):jZ M' S f x:=by cases S<;>cases x<;>first | exact h.elim | exact (fun W hW=>(show uM M _ _ f _ from h) W (hm W hW)) | skip;obtain ⟨h1,h2,h3,h4,blk,off,g,k,h5,h6,h7,h8⟩:=h;exact ⟨h1,h2,h3,h4,blk,off,g,k,h5,fun W hW=>h6 W (hm W hW),fun W hW=>h7 W (hm W hW),fun W hW=>h8 W (hm W hW)⟩
theorem gY.far {lo:Nat} {A:World} {S:PS} {f:WF} {x:PX} (h:gY lo A S f x):jZ (fun W=>dD lo A W) S f x:=by cases S<;>cases x<;>first | exact h.elim | exact (fun W hW=>(PNew.agree h hW).is) | skip;obtain ⟨h1,h2,h3,h4,blk,g,k,h5,h0,h6,h7,h8,h9⟩:=h;exact ⟨h1,h2,h3,h4,blk,0,g,k,h5,fun W hW=>⟨h6.agree h0 hW,h7.agree h0 hW⟩,fun W hW=>(h8.agree hW).is,fun W hW=>(h9.agree hW).is⟩
theorem XIs.far {w:World} {S:PS} {f:WF} {x:PX} (h:XIs w S f x):jZ (fun W=>Below w.heap.size w W) S f x:=by cases S<;>cases x<;>first | exact h.elim | exact (fun W hW=>PIs.below h hW) | skip;obtain ⟨h1,h2,h3,h4,blk,off,g,k,h5,h6,h7,h8,h9⟩:=h;exact ⟨h1,h2,h3,h4,blk,off,g,k,h5,fun W hW=>⟨h6.below hW,h7.below hW⟩,fun W hW=>h8.below hW,fun W hW=>h9.below hW⟩
def Vu (M:World→Prop) (S:PS) (x:PX) (w:World) (e:Ending) (w':World):Prop:=∃ f:WF,e = .returned f.val∧jZ (fun W=>M W∧dD w.heap.size w' W) S f x∧Below w.heap.size w w'
def qL (M:World→Prop) (lo:Nat) (S:PS) (x:PX):Asr:=fun v w=>∃ f:WF,v=f.val∧jZ (fun W=>M W∧dD lo w W) S f x
theorem Bl {M:World→Prop} {lo:Nat} {S:PS} {x:PX}:gQ (qL M lo S x):=fun v w w' ⟨f,h1,h2⟩ hb=>⟨f,h1,h2.mono fun W hW=>⟨hW.1,(aL hb lo).trans hW.2⟩⟩
theorem Bm {P:Program} {f:FuncId} {vs:Array Value} {M:World→Prop} {w:World} {S:PS} {x:PX} {lo:Nat} (hlo:lo≤w.heap.size) (h:Calls P f vs w (Vu M S x w)):Calls P f vs w (zY (qL M lo S x) w):=h.mono fun e w' ⟨f,he,hn,hb⟩=>⟨f.val,he,⟨f,rfl,hn.mono fun W hW=>⟨hW.1,hW.2.mono hlo⟩⟩,hb⟩
theorem Bn {M:World→Prop} {w W:World} {t n:Int} {f:WF} {x:PF} (h:PNew w.heap.size W t n f x) (hb:Below w.heap.size w W):Vu M (.one t n) (.one x) w (.returned f.val) W:=⟨f,rfl,fun W2 hW=>(h.agree hW.2).is,hb⟩
section
variable {w W:World} {k:Nat} {n:Int} {f g:WF} {x y:PF}
theorem Vv (hx:PIs w 2 n f x) (hy:PIs w 2 n g y) (hf:f.z=false) (hg:g.z=false) (p0:0≤f.c) (p1:f.c≤n) (q0:0≤g.c) (q1:g.c≤n):PNew k W 2 n (Av (min f.c g.c)) (dM 2 n x y):=by obtain ⟨rfl,_,_⟩:=hx.k2 hf;obtain ⟨rfl,_,_⟩:=hy.k2 hg;rw [mG];exact oY (.cost _ rfl (by omega) (by omega))
theorem Vw {m:Nat} {a:Option Addr} {cap:Nat} (hx:PIs w 4 m f x) (hy:PIs w 4 m g y) (hf:f.z=false) (hg:g.z=false) (hv:fA W a (dA f.cells g.cells)) (hl:∀ ad,a=some ad→k≤ad.block):PNew k W 4 m (xA a cap (dA f.cells g.cells)) (dM 4 m x y):=by obtain ⟨hx',h0⟩:=hx.k4 hf;obtain ⟨hy',h1⟩:=hy.k4 hg;have hv2:=qX h0 h1;rw [hx',hy',oE];exact sL (.cells m _ rfl rfl hv2) hv2.bits (by have:=hv2.le;have:=hv2.len;unfold maxLen;omega) hv hl
end
def Bo (M:World→Prop) (lo:Nat) (S:PS) (x:PX):Asr:=fun v w=>∃ b,v = .slice (some ⟨b,0,none⟩) 2 2∧jZ (fun W=>M W∧dD lo w W) S (vE b) x
theorem Cr {M:World→Prop} {lo:Nat} {S:PS} {x:PX}:gQ (Bo M lo S x):=fun v w w' ⟨b,h1,h2⟩ hb=>⟨b,h1,h2.mono fun W hW=>⟨hW.1,(aL hb lo).trans hW.2⟩⟩
section
variable {n:Nat} {Q:Exit→Act→World→Prop} {l:Fr} {W:World} {ops:Array Oper} {L:List Asr} {i d:Nat} {ty:TypeId} {pos:String} {aft:Array Edge} {gd:Option (Nat×Bool)} {t k u m:Int} {x y:PF} {p q:Operand} {M:World→Prop}
theorem Sf (hi:ops[i]?=some ⟨some d,.buildSlice 44 2 (List.toArray [(0,p),(1,q)]),ty,pos,aft,gd⟩) (hw:fT ops L i ⟨some d,.buildSlice 44 2 (List.toArray [(0,p),(1,q)]),ty,pos,aft,gd⟩) (hp:tC n ops l L i [p,q] [qL M W.heap.size (.one t k) (.one x),qL M W.heap.size (.one u m) (.one y)]) (hI:atI L i=Bo M W.heap.size (.two t k u m) (.two x y)):RG prog n ops Q l W L i :=
 Fv [qL M W.heap.size (.one t k) (.one x),qL M W.heap.size (.one u m) (.one y)] hi hw underlying44 sizeOf46 zeroValue46 rfl rfl hp fun vs w hb hh=>by
  obtain ⟨v1,v2,rfl,⟨f,rfl,hf⟩,g,rfl,hg⟩:=nD hh;refine ⟨f.six++g.six,uX _ _ _ _ _ _ _ _ _ _ _ _,fun B w' hB h1 h2=>?_⟩;rw [hI];rcases Is h1 with h | ⟨b,off,e,h3⟩
  ·cases h
  ·cases e;have hlo:W.heap.size≤B:=by rw [← hB];exact hb.size
   exact ⟨B,rfl,rfl,rfl,rfl,rfl,B,0,f,g,rfl,fun W2 hW=>⟨(h3 0 f rfl).agree hlo hW.2,(h3 1 g rfl).agree hlo hW.2⟩,fun W2 hW=>(show uM _ t k f x from hf) W2 ⟨hW.1,(aL h2 _).trans hW.2⟩,fun W2 hW=>(show uM _ u m g y from hg) W2 ⟨hW.1,(aL h2 _).trans hW.2⟩⟩
end
theorem oJ (M:World→Prop) (t n:Int) (sa:Option Addr) (sc:Nat) (f g:WF) (x y:PF) (w:World) (hp:bV t n 0=true) (hw:M w) (hfx:uM M t n f x) (hfy:uM M t n g y) :
  Calls prog 28 #[.agg #[.int .i64 t,.int .i64 n,.slice sa 0 sc],f.val,g.val] w (Vu M (.one t n) (.one (dM t n x y)) w):=by
 have hx:=hfx w hw;have hy:=hfy w hw;refine cG (args:=[.agg #[.int .i64 t,.int .i64 n,.slice sa 0 sc],f.val,g.val]) func28 rfl ntmps28 rfl ?_;have hS:=St.start w;refine aO (aQ (bY (cs:=[_,_,_]) hS rfl rfl rfl fun B1 W1 hS=>bY (cs:=[_,_,_,_,_,_]) hS rfl rfl rfl fun B2 W2 hS=>bY (cs:=[_,_,_,_,_,_]) hS rfl rfl rfl fun B3 W3 hS=>bF (cs:=[_,_,_,_,_,_]) hS zeroValue46 rfl rfl fun B4 W4 hS=>aP (XF.thenN (aO (aO (aQ (aN (o':=0) eF rfl rfl rfl (aR isAgg4 rfl (aK (hS.at_ 2 rfl) rfl) rfl (aP (XF.thenN (bB rfl (fun hc=>?_) (fun hc=>?_))))))))))))
 ·have hc10:=hc;clear hc;have hz:=hc10;refine aO (aQ (aT (vs:=[_,_,_,_,_,_]) isAgg46 sizeOf46 rfl (aC.own (j:=0) (m:=6) (hS.at_ 1 rfl) rfl) rfl (aU (i:=0) (vs:=[_,_,_,_,_,_]) (cs':=[_,_,_,_,_,_]) (O':=[_,_,_,_]) hS sizeOf46 rfl rfl rfl rfl rfl rfl rfl fun W5 hS=>aP (XF.thenN (bL (XF.thenR (XF.res (eE (vs:=[_,_,_,_,_,_]) results28 isAgg46 sizeOf46 rfl (aC.own (j:=0) (m:=6) (hS.at_ 0 rfl) rfl)) ?_)))))));exact ⟨g,rfl,fun W hM=>by rw [hx.zero hc10,dZ];exact hfy W hM.1,hS.below⟩
 ·have hc10:=hc;clear hc;have hf:=hc10;refine bP (XF.thenN (aO (aO (aQ (aN (o':=0) eF rfl rfl rfl (aR isAgg4 rfl (aK (hS.at_ 1 rfl) rfl) rfl (aP (XF.thenN (bB rfl (fun hc=>?_) (fun hc=>?_))))))))))
  ·have hc13:=hc;clear hc;refine aO (aQ (aT (vs:=[_,_,_,_,_,_]) isAgg46 sizeOf46 rfl (aC.own (j:=0) (m:=6) (hS.at_ 2 rfl) rfl) rfl (aU (i:=0) (vs:=[_,_,_,_,_,_]) (cs':=[_,_,_,_,_,_]) (O':=[_,_,_,_]) hS sizeOf46 rfl rfl rfl rfl rfl rfl rfl fun W6 hS=>aP (XF.thenN (bL (XF.thenR (XF.res (eE (vs:=[_,_,_,_,_,_]) results28 isAgg46 sizeOf46 rfl (aC.own (j:=0) (m:=6) (hS.at_ 0 rfl) rfl)) ?_)))))));exact ⟨f,rfl,fun W hM=>by rw [hy.zero hc13,eI hx.ok];exact hfx W hM.1,hS.below⟩
  ·have hc13:=hc;clear hc;have hg:=hc13;refine bP (XF.thenN (aO (aQ (dY (us:=[]) rfl (Ug) rfl (bF (cs:=[_,_,_,_,_,_]) hS zeroValue46 rfl rfl fun B7 W7 hS=>aU (i:=0) (vs:=[_,_,_,_,_,_]) (cs':=[_,_,_,_,_,_]) (O':=[_,_,_,_,_]) hS sizeOf46 rfl rfl rfl rfl rfl rfl rfl fun W8 hS=>aP (XF.thenN (aO (aO (aQ (aN (o':=0) eS rfl rfl rfl (aR isAgg22 rfl (aK (hS.at_ 4 rfl) rfl) rfl (aP (XF.thenN (bX (aO (aQ (cR rfl rfl rfl (aB rfl rfl (aP (XF.thenN (bB rfl (fun hc=>?_) (fun hc=>?_))))))))))))))))))))))
   ·have hc18:=of_decide_eq_true hc;clear hc;have e2:t=2:=hc18;subst e2;obtain ⟨_,p0,p1⟩:=hx.k2 hf;obtain ⟨_,q0,q1⟩:=hy.k2 hg;refine aQ (aN (o':=1) fQ rfl rfl rfl (aR isAgg3 rfl (aK (hS.at_ 3 rfl) rfl) rfl (aN (o':=1) fQ rfl rfl rfl (aR isAgg3 rfl (aK (hS.at_ 2 rfl) rfl) rfl (op_min rfl rfl rfl (aN (o':=1) fQ rfl rfl rfl (dK (i:=0) (cs':=[_,_,_,_,_,_]) (O':=[_,_,_,_,_]) hS sizeOf3 rfl rfl rfl rfl rfl rfl rfl fun W9 hS=>aP (XF.blkN (XF.thenN (aO (aQ (aT (vs:=[_,_,_,_,_,_]) isAgg46 sizeOf46 rfl (aC.own (j:=0) (m:=6) (hS.at_ 0 rfl) rfl) rfl (aU (i:=1) (vs:=[_,_,_,_,_,_]) (cs':=[_,_,_,_,_,_]) (O':=[_,_,_,_,_]) hS sizeOf46 rfl rfl rfl rfl rfl rfl rfl fun W10 hS=>aP (XF.thenN (bL (XF.res (eE (vs:=[_,_,_,_,_,_]) results28 isAgg46 sizeOf46 rfl (aC.own (j:=0) (m:=6) (hS.at_ 1 rfl) rfl)) ?_))))))))))))))));exact Bn (Vv hx hy hf hg p0 p1 q0 q1) hS.below
   ·have hc18:=of_decide_eq_false hc;clear hc;refine aO (aQ (cR rfl rfl rfl (aB rfl rfl (aP (XF.thenN (bB rfl (fun hc=>?_) (fun hc=>?_)))))))
    ·have hc26:=of_decide_eq_true hc;clear hc;have e3:t=3:=hc26;subst e3;obtain ⟨m,rfl,hm⟩:=Im hp (.inl rfl);refine aQ (aN (o':=1) eU rfl rfl rfl (aR isAgg3 rfl (aK (hS.at_ 4 rfl) rfl) rfl (aN (o':=2) fR rfl rfl rfl (aT (vs:=[_,_]) isAgg42 sizeOf42 rfl (aC.own (j:=2) (m:=2) (hS.at_ 3 rfl) rfl) rfl (aN (o':=2) fR rfl rfl rfl (aT (vs:=[_,_]) isAgg42 sizeOf42 rfl (aC.own (j:=2) (m:=2) (hS.at_ 2 rfl) rfl) rfl ?_))))));have hsz:=hS.below.size;refine cS (vs:=[_,_,_]) hS goes_56 rfl (Ts _ _ _ _ _ _ _ _ _ _ (hx.at_.fat (by have:=hx.rows64 (l:=0);omega) |>.below hS.below) (hy.at_.fat (by have:=hy.rows64 (l:=0);omega) |>.below hS.below) _ rfl _ rfl _ rfl _ _ hx.at_.rl hy.at_.rl) rfl ?_;rintro e W11 ⟨a1,c1,rfl,hv,hl,hb⟩;refine ⟨_,rfl,hb,?_⟩;clear hS;intro hS;refine aH rfl rfl (bZ rfl rfl rfl (bZ rfl rfl rfl (aN (o':=2) fR rfl rfl rfl (aU (i:=0) (vs:=[_,_]) (cs':=[_,_,_,_,_,_]) (O':=[_,_,_,_,_]) hS sizeOf42 rfl rfl rfl rfl rfl rfl rfl fun W12 hS=>aP (XF.blkN (XF.thenN (aO (aQ (aT (vs:=[_,_,_,_,_,_]) isAgg46 sizeOf46 rfl (aC.own (j:=0) (m:=6) (hS.at_ 0 rfl) rfl) rfl (aU (i:=1) (vs:=[_,_,_,_,_,_]) (cs':=[_,_,_,_,_,_]) (O':=[_,_,_,_,_]) hS sizeOf46 rfl rfl rfl rfl rfl rfl rfl fun W13 hS=>aP (XF.thenN (bL (XF.res (eE (vs:=[_,_,_,_,_,_]) results28 isAgg46 sizeOf46 rfl (aC.own (j:=0) (m:=6) (hS.at_ 1 rfl) rfl)) ?_)))))))))))));exact Bn (Ox hx hy hf hg (hv.agree (fun ad e=>(hl ad e).1) (hS.since 0 rfl)) (fun ad e=>Nat.le_trans hsz (hl ad e).1)) hS.below
    ·have hc26:=of_decide_eq_false hc;clear hc;refine aO (aQ (cR rfl rfl rfl (aB rfl rfl (aP (XF.thenN (bB rfl (fun hc=>?_) (fun hc=>?_)))))))
     ·have hc39:=of_decide_eq_true hc;clear hc;have e4:t=4:=hc39;subst e4;obtain ⟨m,rfl,hm⟩:=Im hp (.inr rfl);obtain ⟨hpx,vx⟩:=hx.k4 hf;obtain ⟨hpy,vy⟩:=hy.k4 hg;refine aO (aQ (aB rfl rfl (aP (XF.thenN (bX (eJ (fun q l W=>∃ (k:Nat) (v:Value),k≤m∧q=m - k∧l=[(3,.pointer (some ⟨B1,0,none⟩)),(4,.pointer (some ⟨B2,0,none⟩)),(5,.pointer (some ⟨B3,0,none⟩)),(6,.pointer (some ⟨B4,0,none⟩)),(7,.pointer (some ⟨B7,0,none⟩)),(8,.int .i64 (k:Int))]∧St w [(B7,[.bool false,.int .i64 0,.int .u64 0,.slice none 0 0,v,.slice none 0 0],46),(B4,[.bool false,.int .i64 0,.int .u64 0,.slice none 0 0,.slice none 0 0,.slice none 0 0],46),(B3,[.bool g.z,.int .i64 g.c,.int .u64 (g.g:Int),.slice g.ra g.rl g.rc,.slice g.ca g.cl g.cc,.slice g.pa g.pl g.pc],46),(B2,[.bool f.z,.int .i64 f.c,.int .u64 (f.g:Int),.slice f.ra f.rl f.rc,.slice f.ca f.cl f.cc,.slice f.pa f.pl f.pc],46),(B1,[.int .i64 4,.int .i64 (m:Int),.slice sa 0 sc],25)] [⟨v,k,flat ((dA f.cells g.cells).take k),96,3⟩] [] W) (m - 0) ([(3,_),(4,_),(5,_),(6,_),(7,_),(8,_)]) ⟨rfl,rfl,rfl,rfl,rfl,rfl,trivial⟩ (⟨0,.slice none 0 0,Nat.zero_le _,rfl,rfl,hS.clear.newG _ _⟩) ?_))))));clear hS;rintro q l W ⟨k,v,hkm,rfl,rfl,hS⟩;refine aO (aO (aQ (aH rfl rfl (aN (o':=1) eU rfl rfl rfl (aR isAgg3 rfl (aK (hS.at_ 4 rfl) rfl) rfl (cT rfl rfl rfl (aP (XF.thenN (bB rfl (fun hc=>?_) (fun hc=>?_))))))))))
      ·have hc44:=of_decide_eq_true hc;clear hc;have hk:k < m:=by omega
       have hlx:=vx.len;have hly:=vy.len;obtain ⟨bx,offx,x1,ecx,hx1,hbx,c0,c1,c2⟩:=(hx.at_.cells.below hS.below).at_ (k:=k) (by omega);obtain ⟨ba,offa,y1,eca,hy1,hba,a0,a1,a2⟩:=(hy.at_.cells.below hS.below).at_ (k:=k) (by omega);have k0:aC W bx (offx+k * 3) [.int .u64 (x1.f:Int),.int .i64 x1.k,.int .i64 x1.v]:=⟨c0,c1,c2,trivial⟩;have k1:aC W ba (offa+k * 3) [.int .u64 (y1.f:Int),.int .i64 y1.k,.int .i64 y1.v]:=⟨a0,a1,a2,trivial⟩;have h1:(dA f.cells g.cells)[k]?=some (dX x1 y1):=by unfold dA;rw [List.getElem?_zipWith,hx1,hy1]
       have hcl:=hx.at_.cl;have hclg:=hy.at_.cl;simp only [ecx,eca] at hS;refine bP (XF.thenN (aO (bX ?_)));refine regBP (p:=14) (k:=16) (gi:=0) (m:=1) cC hS rfl rfl (by kernel_rfl) (by kernel_rfl) (by kernel_rfl) (fun d hd=>by cases hd) rfl rfl underlying43 inf_96 rfl rfl (by show 0 < 3;decide) rfl rfl rfl (by dsimp only;simp only [maxLen];omega) (by dsimp only;show _ * 24≤_;omega) ?_;refine kM 1 rfl rfl (by kernel_rfl) (rgV (li:=[(7,_)]) rfl (aS rfl) ⟨cJ rfl,trivial⟩ (fun w hw=>aV (o':=4) eG rfl rfl) (aF rfl)) (kM 2 rfl rfl (by kernel_rfl) (rgV (li:=[(47,_)]) rfl (aS rfl) ⟨aM 0 (aA rfl rfl rfl),trivial⟩ (fun w hw=>bA isAgg43 rfl ((aL hw 0).cell (Nat.zero_le _) (aK (hS.at_ 0 rfl) rfl))) (aF rfl)) (kM 3 rfl rfl (by kernel_rfl) (rgV (li:=[(4,_)]) rfl (aS rfl) ⟨cJ rfl,trivial⟩ (fun w hw=>aV (o':=4) eG rfl rfl) (aF rfl)) (kM 4 rfl rfl (by kernel_rfl) (rgV (li:=[(49,_)]) rfl (aS rfl) ⟨aM 2 (aA rfl rfl rfl),trivial⟩ (fun w hw=>bA isAgg43 rfl ((aL hw 0).cell (Nat.zero_le _) (aK (hS.at_ 3 rfl) rfl))) (aF rfl)) (kM 5 rfl rfl (by kernel_rfl) (rgV (li:=[(8,_)]) rfl (aS rfl) ⟨cJ rfl,trivial⟩ (fun w hw=>aW rfl) (aF rfl)) (kM 6 rfl rfl (by kernel_rfl) (rgV (li:=[(50,_),(51,_)]) rfl (aS rfl) ⟨aM 3 (aA rfl rfl rfl),aM 4 (aA rfl rfl rfl),trivial⟩ (fun w hw=>bE  underlying43 sizeOf96 rfl rfl rfl (by omega) rfl) (aF rfl)) (kM 7 rfl rfl (by kernel_rfl) (rgV (li:=[(52,_)]) rfl (aS rfl) ⟨aM 5 (aA rfl rfl rfl),trivial⟩ (fun w hw=>aY (vs:=[_,_,_]) isAgg96 sizeOf96 rfl (aC.agree (aL hw 0) (Nat.zero_le _) (by assumption))) (aF rfl)) (kM 8 rfl rfl (by kernel_rfl) (rgV (li:=[(5,_)]) rfl (aS rfl) ⟨cJ rfl,trivial⟩ (fun w hw=>aV (o':=4) eG rfl rfl) (aF rfl)) (kM 9 rfl rfl (by kernel_rfl) (rgV (li:=[(54,_)]) rfl (aS rfl) ⟨aM 7 (aA rfl rfl rfl),trivial⟩ (fun w hw=>bA isAgg43 rfl ((aL hw 0).cell (Nat.zero_le _) (aK (hS.at_ 2 rfl) rfl))) (aF rfl)) (kM 10 rfl rfl (by kernel_rfl) (rgV (li:=[(8,_)]) rfl (aS rfl) ⟨cJ rfl,trivial⟩ (fun w hw=>aW rfl) (aF rfl)) (kM 11 rfl rfl (by kernel_rfl) (rgV (li:=[(55,_),(56,_)]) rfl (aS rfl) ⟨aM 8 (aA rfl rfl rfl),aM 9 (aA rfl rfl rfl),trivial⟩ (fun w hw=>bE  underlying43 sizeOf96 rfl rfl rfl (by omega) rfl) (aF rfl)) (kM 12 rfl rfl (by kernel_rfl) (rgV (li:=[(57,_)]) rfl (aS rfl) ⟨aM 10 (aA rfl rfl rfl),trivial⟩ (fun w hw=>aY (vs:=[_,_,_]) isAgg96 sizeOf96 rfl (aC.agree (aL hw 0) (Nat.zero_le _) (by assumption))) (aF rfl)) ?_)))))))))));refine kM 13 rfl rfl (by kernel_rfl) (cN [isV _,isV _] rfl goes_57 (aS rfl) ⟨bT (aM 6 (aA rfl rfl rfl)),bT (aM 11 (aA rfl rfl rfl)),trivial⟩ (fun vs w' hb hh=>by have e:=bW (us:=[_,_]) hh;subst e;exact (jn_any x1 y1 (vx.oks k x1 hx1) (vy.oks k y1 hy1) _).mono fun e w2 h=>⟨_,h.1,rfl,h.2⟩) (aF rfl)) ?_;refine blp_q 14 rfl rfl (by kernel_rfl) (oV W.heap.size 1 96 _) (tX) (Nw (us:=[.agg (List.toArray [_,_,_])]) rfl (aS rfl) underlying43 sizeOf96 zeroValue96 rfl rfl ⟨bT (aM 12 (aA rfl rfl rfl)),trivial⟩ (bs_43_1 _ _ _) (aF rfl)) (Oe 15 rfl rfl (Id 16 rfl rfl (rgV (li:=[(7,_)]) rfl (aS rfl) ⟨cJ rfl,trivial⟩ (fun w hw=>aV (o':=4) eG rfl rfl) (aF rfl)) (lgV (li:=[(7,_)]) rfl (aS rfl) ⟨cJ rfl,trivial⟩ (fun w=>aV (o':=4) eG rfl rfl) (aF rfl) rfl) (Od ⟨_,_,aM 1 (aA rfl rfl rfl),aM 13 (aA rfl rfl rfl),xV rfl rfl,?_⟩)));intro A14 v14 news14 W14 hbR hqA14;clear hS;intro hS;cases hqA14;refine aG (aG (aG (aG (aG (aG (aG (aG (aG (aG (aG (aG (aG ?_))))))))))));refine dF ?_;intro _ _;refine aG (aG ?_);obtain ⟨g9,c9,e9,_,_⟩:=(hS.row 0 rfl).form (by show 0 < k+1;omega);dsimp only at e9;subst e9;refine cM (dK (i:=0) (cs':=[_,_,_,_,_,_]) (O':=[_,_,_,_,_]) hS sizeOf43 rfl rfl rfl rfl rfl rfl rfl fun W15 hS=>aP (XF.blkN (XF.thenN (aQ (aH rfl rfl (cY rfl rfl (IntWalk.i64_in _ (by omega)) rfl (aB rfl rfl (aP ?_))))))));simp only [← ecx,← eca] at hS;exact XF.round (m - (k+1)) [(3,_),(4,_),(5,_),(6,_),(7,_),(8,_)] (by omega) ⟨rfl,rfl,rfl,rfl,rfl,rfl,trivial⟩ ⟨k+1,_,by omega,rfl,rfl,by rw [R8 h1];exact hS.clear⟩
      ·have hc44:=of_decide_eq_false hc;clear hc;refine dT (XF.thenX (XF.thenX (XF.blkX (XF.blkN (XF.thenN (aO ?_))))));obtain rfl:k=m:=by omega
       have hrow:=hS.row 0 rfl;have hln:(dA f.cells g.cells).length=k:=by unfold dA;rw [List.length_zipWith,vx.len,vy.len,Nat.min_self]
       have ht0:(dA f.cells g.cells).take k=dA f.cells g.cells:=List.take_of_length_le (by rw [hln];exact Nat.le_refl _);simp only [ht0] at hrow;obtain ⟨hn,a9,c9,rfl,_,_⟩:=jQ hrow;clear hrow;refine aQ (aT (vs:=[_,_,_,_,_,_]) isAgg46 sizeOf46 rfl (aC.own (j:=0) (m:=6) (hS.at_ 0 rfl) rfl) rfl (aU (i:=1) (vs:=[_,_,_,_,_,_]) (cs':=[_,_,_,_,_,_]) (O':=[_,_,_,_,_]) hS sizeOf46 rfl rfl rfl rfl rfl rfl rfl fun W16 hS=>aP (XF.thenN (bL (XF.res (eE (vs:=[_,_,_,_,_,_]) results28 isAgg46 sizeOf46 rfl (aC.own (j:=0) (m:=6) (hS.at_ 1 rfl) rfl)) ?_)))));have hrow:=hS.row 0 rfl;simp only [ht0] at hrow;obtain ⟨_,a8,c8,e8,hr9,hf9⟩:=jQ hrow;cases e8;refine ⟨xA a9 c9 (dA f.cells g.cells),?_,fun W2 hW=>((Vw (k:=w.heap.size) hx hy hf hg hr9 (fun ad e=>(hf9 ad e).1)).agree hW.2).is,hS.below⟩;show _=Ending.returned (Value.agg #[.bool false,.int .i64 0,.int .u64 ((0:Nat):Int),.slice none 0 0,.slice a9 (dA f.cells g.cells).length c9,.slice none 0 0]);rw [hln];rfl
     ·have hc39:=of_decide_eq_false hc;clear hc;refine aO (aQ (cR rfl rfl rfl (aB rfl rfl (aP (XF.thenN (bB rfl (fun hc=>absurd (of_decide_eq_true hc) (by exact oZ hp)) (fun hc=>?_)))))));have hc:=of_decide_eq_false hc;refine bP (XF.blkN (XF.thenN (aO (aQ (aT (vs:=[_,_,_,_,_,_]) isAgg46 sizeOf46 rfl (aC.own (j:=0) (m:=6) (hS.at_ 0 rfl) rfl) rfl (aU (i:=1) (vs:=[_,_,_,_,_,_]) (cs':=[_,_,_,_,_,_]) (O':=[_,_,_,_,_]) hS sizeOf46 rfl rfl rfl rfl rfl rfl rfl fun W17 hS=>aP (XF.thenN (bL (XF.res (eE (vs:=[_,_,_,_,_,_]) results28 isAgg46 sizeOf46 rfl (aC.own (j:=0) (m:=6) (hS.at_ 1 rfl) rfl)) ?_)))))))));have e1:t=1:=by have:=(gC hp).2;omega
      subst e1;exact Bn (Ow hx hy hf hg) hS.below
theorem Gu (M:World→Prop) (hM:uL M) (t n u m:Int) (a1 a2:Option Addr) (c1 c2 b off sc:Nat) (w:World) (hs1:S3 w b off ⟨t,n,a1,0,c1⟩) (hs2:S3 w b (off+3) ⟨u,m,a2,0,c2⟩) (hp1:bV t n 0=true) (hp2:bV u m 0=true)(fra fca:Option Addr) (frc fcc fpc fb fo:Nat) (f1 f2:WF) (x1 x2:PF) (hf6:W6 w fb fo f1) (hf7:W6 w fb (fo+6) f2) (hx1:uM M t n f1 x1) (hx2:uM M u m f2 x2)(gra gca:Option Addr) (grc gcc gpc gb go:Nat) (g1 g2:WF) (y1 y2:PF) (hg6:W6 w gb go g1) (hg7:W6 w gb (go+6) g2) (hy1:uM M t n g1 y1) (hy2:uM M u m g2 y2) (hw:M w) :
  Calls prog 28 #[.agg #[.int .i64 5,.int .i64 0,.slice (some ⟨b,off,none⟩) 2 sc],.agg #[.bool false,.int .i64 0,.int .u64 0,.slice fra 0 frc,.slice fca 0 fcc,.slice (some ⟨fb,fo,none⟩) 2 fpc],.agg #[.bool false,.int .i64 0,.int .u64 0,.slice gra 0 grc,.slice gca 0 gcc,.slice (some ⟨gb,go,none⟩) 2 gpc]] w (Vu M (.two t n u m) (.two (dM t n x1 y1) (dM u m x2 y2)) w):=by
 refine cG (args:=[.agg #[.int .i64 5,.int .i64 0,.slice (some ⟨b,off,none⟩) 2 sc],.agg #[.bool false,.int .i64 0,.int .u64 0,.slice fra 0 frc,.slice fca 0 fcc,.slice (some ⟨fb,fo,none⟩) 2 fpc],.agg #[.bool false,.int .i64 0,.int .u64 0,.slice gra 0 grc,.slice gca 0 gcc,.slice (some ⟨gb,go,none⟩) 2 gpc]]) func28 rfl ntmps28 rfl ?_;have hS:=St.start w;refine aO (aQ (bY (cs:=[_,_,_]) hS rfl rfl rfl fun B1 W1 hS=>bY (cs:=[_,_,_,_,_,_]) hS rfl rfl rfl fun B2 W2 hS=>bY (cs:=[_,_,_,_,_,_]) hS rfl rfl rfl fun B3 W3 hS=>bF (cs:=[_,_,_,_,_,_]) hS zeroValue46 rfl rfl fun B4 W4 hS=>aP (XF.thenN (aO (aO (aQ (aN (o':=0) eF rfl rfl rfl (aR isAgg4 rfl (aK (hS.at_ 2 rfl) rfl) rfl (aP (XF.thenN (bB rfl (fun hc=>absurd hc (by decide)) (fun hc=>?_))))))))))));skip;refine bP (XF.thenN (aO (aO (aQ (aN (o':=0) eF rfl rfl rfl (aR isAgg4 rfl (aK (hS.at_ 1 rfl) rfl) rfl (aP (XF.thenN (bB rfl (fun hc=>absurd hc (by decide)) (fun hc=>?_))))))))));skip;refine bP (XF.thenN (aO (aQ (dY (us:=[]) rfl (Ug) rfl (bF (cs:=[_,_,_,_,_,_]) hS zeroValue46 rfl rfl fun B5 W5 hS=>aU (i:=0) (vs:=[_,_,_,_,_,_]) (cs':=[_,_,_,_,_,_]) (O':=[_,_,_,_,_]) hS sizeOf46 rfl rfl rfl rfl rfl rfl rfl fun W6 hS=>aP (XF.thenN (aO (aO (aQ (aN (o':=0) eS rfl rfl rfl (aR isAgg22 rfl (aK (hS.at_ 4 rfl) rfl) rfl (aP (XF.thenN (bX (aO (aQ (cR rfl rfl rfl (aB rfl rfl (aP (XF.thenN (bB rfl (fun hc=>absurd (of_decide_eq_true hc) (by omega)) (fun hc=>?_))))))))))))))))))))));have hc:=of_decide_eq_false hc;refine aO (aQ (cR rfl rfl rfl (aB rfl rfl (aP (XF.thenN (bB rfl (fun hc=>absurd (of_decide_eq_true hc) (by omega)) (fun hc=>?_)))))));have hc:=of_decide_eq_false hc;refine aO (aQ (cR rfl rfl rfl (aB rfl rfl (aP (XF.thenN (bB rfl (fun hc=>absurd (of_decide_eq_true hc) (by omega)) (fun hc=>?_)))))));have hc:=of_decide_eq_false hc;refine aO (aQ (cR rfl rfl rfl (aB rfl rfl (aP (XF.thenN (bB rfl (fun hc=>?_) (fun hc=>absurd (of_decide_eq_false hc) (by omega))))))));have hc:=of_decide_eq_true hc;have hsz:=hS.below.size;have k1:=aC.agree hS.agree (Nat.zero_le _) hs1.cells;have k2:=aC.agree hS.agree (Nat.zero_le _) hs2.cells;have kf1:=aC.agree hS.agree (Nat.zero_le _) hf6.cells;have kf2:=aC.agree hS.agree (Nat.zero_le _) hf7.cells;have kg1:=aC.agree hS.agree (Nat.zero_le _) hg6.cells;have kg2:=aC.agree hS.agree (Nat.zero_le _) hg7.cells;refine xU cC 28 hS rfl rfl (by kernel_rfl) (by kernel_rfl) (by kernel_rfl) (fun d hd=>by cases hd) (cE 1 rfl 3 rfl rfl (fun w hw=>aV (o':=2) dW rfl rfl) rfl (aZ 2 rfl 65 0 rfl rfl rfl (fun w hw=>bA isAgg23 rfl ((aL hw 0).cell (Nat.zero_le _) (aK (hS.at_ 4 rfl) rfl))) rfl (aZ 3 rfl 66 1 rfl rfl rfl (fun w hw=>bE (j:=0) underlying23 sizeOf25 rfl rfl rfl (by omega) (Nat.add_zero _)) rfl (aZ 4 rfl 67 2 rfl rfl rfl (fun w hw=>aY (vs:=[_,_,_]) isAgg25 sizeOf25 rfl (aC.agree (aL hw 0) (Nat.zero_le _) (by assumption))) rfl (cE 5 rfl 4 rfl rfl (fun w hw=>aV (o':=5) dH rfl rfl) rfl (aZ 6 rfl 69 4 rfl rfl rfl (fun w hw=>bA isAgg44 rfl ((aL hw 0).cell (Nat.zero_le _) (aK (hS.at_ 3 rfl) rfl))) rfl (aZ 7 rfl 70 5 rfl rfl rfl (fun w hw=>bE (j:=0) underlying44 sizeOf46 rfl rfl rfl (by omega) (Nat.add_zero _)) rfl (aZ 8 rfl 71 6 rfl rfl rfl (fun w hw=>aY (vs:=[_,_,_,_,_,_]) isAgg46 sizeOf46 rfl (aC.agree (aL hw 0) (Nat.zero_le _) (by assumption))) rfl (cE 9 rfl 5 rfl rfl (fun w hw=>aV (o':=5) dH rfl rfl) rfl (aZ 10 rfl 73 8 rfl rfl rfl (fun w hw=>bA isAgg44 rfl ((aL hw 0).cell (Nat.zero_le _) (aK (hS.at_ 2 rfl) rfl))) rfl (aZ 11 rfl 74 9 rfl rfl rfl (fun w hw=>bE (j:=0) underlying44 sizeOf46 rfl rfl rfl (by omega) (Nat.add_zero _)) rfl (aZ 12 rfl 75 10 rfl rfl rfl (fun w hw=>aY (vs:=[_,_,_,_,_,_]) isAgg46 sizeOf46 rfl (aC.agree (aL hw 0) (Nat.zero_le _) (by assumption))) rfl ?_))))))))))))
 refine aJ 13 rfl (qL M W6.heap.size (.one t n) (.one (dM t n x1 y1))) (Bl) (cN [isV _,isV _,isV _] rfl N6 (aS rfl) ⟨bT (aM 3 (aA rfl rfl rfl)),bT (aM 7 (aA rfl rfl rfl)),bT (aM 11 (aA rfl rfl rfl)),trivial⟩ (fun vs w' hb hh=>by have e:=bW (us:=[_,_,_]) hh;subst e;exact Bm hb.size (oJ M _ _ _ _ _ _ _ _ _ hp1 (hM _ _ hw (hS.below.trans (hb.mono hS.below.size))) hx1 hy1)) (aF rfl)) ?_;refine cE 14 rfl 3 rfl rfl (fun w hw=>aV (o':=2) dW rfl rfl) rfl (aZ 15 rfl 78 13 rfl rfl rfl (fun w hw=>bA isAgg23 rfl ((aL hw 0).cell (Nat.zero_le _) (aK (hS.at_ 4 rfl) rfl))) rfl (aZ 16 rfl 79 14 rfl rfl rfl (fun w hw=>bE (j:=1) underlying23 sizeOf25 rfl rfl rfl (by omega) rfl) rfl (aZ 17 rfl 80 15 rfl rfl rfl (fun w hw=>aY (vs:=[_,_,_]) isAgg25 sizeOf25 rfl (aC.agree (aL hw 0) (Nat.zero_le _) (by assumption))) rfl (cE 18 rfl 4 rfl rfl (fun w hw=>aV (o':=5) dH rfl rfl) rfl (aZ 19 rfl 82 17 rfl rfl rfl (fun w hw=>bA isAgg44 rfl ((aL hw 0).cell (Nat.zero_le _) (aK (hS.at_ 3 rfl) rfl))) rfl (aZ 20 rfl 83 18 rfl rfl rfl (fun w hw=>bE (j:=1) underlying44 sizeOf46 rfl rfl rfl (by omega) rfl) rfl (aZ 21 rfl 84 19 rfl rfl rfl (fun w hw=>aY (vs:=[_,_,_,_,_,_]) isAgg46 sizeOf46 rfl (aC.agree (aL hw 0) (Nat.zero_le _) (by assumption))) rfl (cE 22 rfl 5 rfl rfl (fun w hw=>aV (o':=5) dH rfl rfl) rfl (aZ 23 rfl 86 21 rfl rfl rfl (fun w hw=>bA isAgg44 rfl ((aL hw 0).cell (Nat.zero_le _) (aK (hS.at_ 2 rfl) rfl))) rfl (aZ 24 rfl 87 22 rfl rfl rfl (fun w hw=>bE (j:=1) underlying44 sizeOf46 rfl rfl rfl (by omega) rfl) rfl (aZ 25 rfl 88 23 rfl rfl rfl (fun w hw=>aY (vs:=[_,_,_,_,_,_]) isAgg46 sizeOf46 rfl (aC.agree (aL hw 0) (Nat.zero_le _) (by assumption))) rfl ?_)))))))))));refine aJ 26 rfl (qL M W6.heap.size (.one u m) (.one (dM u m x2 y2))) (Bl) (cN [isV _,isV _,isV _] rfl N6 (aS rfl) ⟨bT (aM 16 (aA rfl rfl rfl)),bT (aM 20 (aA rfl rfl rfl)),bT (aM 24 (aA rfl rfl rfl)),trivial⟩ (fun vs w' hb hh=>by have e:=bW (us:=[_,_,_]) hh;subst e;exact Bm hb.size (oJ M _ _ _ _ _ _ _ _ _ hp2 (hM _ _ hw (hS.below.trans (hb.mono hS.below.size))) hx2 hy2)) (aF rfl)) ?_;refine aJ 27 rfl (Bo M W6.heap.size (.two t n u m) (.two (dM t n x1 y1) (dM u m x2 y2))) (Cr) (Sf rfl (aS rfl) ⟨bT (aM 12 (aA rfl rfl rfl)),bT (aM 25 (aA rfl rfl rfl)),trivial⟩ (aF rfl)) (cE 28 rfl 7 rfl rfl (fun w hw=>aV (o':=5) dH rfl rfl) rfl (dI ?_));intro W7 hbR;clear hS;intro hS;refine aG (aG (aG (aG (aG (aG (aG (aG (aG (aG (aG (aG ?_)))))))))));refine dF ?_;rintro _ ⟨v1,rfl,hn1⟩;refine aG (aG (aG (aG (aG (aG (aG (aG (aG (aG (aG (aG ?_)))))))))));refine dF ?_;rintro _ ⟨v2,rfl,hn2⟩;refine dF ?_;rintro _ ⟨b9,rfl,hn9⟩;refine aG (cM (dK (i:=0) (cs':=[_,_,_,_,_,_]) (O':=[_,_,_,_,_]) hS sizeOf44 rfl rfl rfl rfl rfl rfl rfl fun W8 hS=>aP (XF.blkN (XF.thenN (aO (aQ (aT (vs:=[_,_,_,_,_,_]) isAgg46 sizeOf46 rfl (aC.own (j:=0) (m:=6) (hS.at_ 0 rfl) rfl) rfl (aU (i:=1) (vs:=[_,_,_,_,_,_]) (cs':=[_,_,_,_,_,_]) (O':=[_,_,_,_,_]) hS sizeOf46 rfl rfl rfl rfl rfl rfl rfl fun W9 hS=>aP (XF.thenN (bL (XF.res (eE (vs:=[_,_,_,_,_,_]) results28 isAgg46 sizeOf46 rfl (aC.own (j:=0) (m:=6) (hS.at_ 1 rfl) rfl)) ?_)))))))))));exact ⟨vE b9,rfl,hn9.mono fun W hW=>⟨hW.1,(hS.since 0 rfl).trans (hW.2.mono hsz)⟩,hS.below⟩
theorem jZ.two {M:World→Prop} {t n u m:Int} {f:WF} {a b:PF} (h:jZ M (.two t n u m) f (.two a b)):∃ (ra ca:Option Addr) (rc cc pc fb fo:Nat) (f1 f2:WF),f=⟨false,0,0,ra,0,rc,[],ca,0,cc,[],some ⟨fb,fo,none⟩,2,pc⟩∧(∀ W,M W→W6 W fb fo f1∧W6 W fb (fo+6) f2)∧uM M t n f1 a∧uM M u m f2 b:=by obtain ⟨h1,h2,h3,h4,blk,off,g,k,h5,h6,h7,h8⟩:=h;obtain ⟨z,c,gg,ra,rl,rc,rows,ca,cl,cc,cells,pa,pl,pc⟩:=f;simp only [WF.pf,pC,PF.mk.injEq] at h1;obtain ⟨rfl,rfl,rfl,rfl,rfl⟩:=h1;dsimp only at h2 h3 h4 h5;subst h2;subst h3;subst h4;subst h5;exact ⟨ra,ca,rc,cc,pc,blk,off,g,k,rfl,h6,h7,h8⟩
theorem Mq {M:World→Prop} {S:PS} {sf:SF} {f g:WF} {x y:PX} {w:World} (hM:uL M) (hs:SIs w S sf) (hok:S.ok) (hw:M w) (hx:jZ M S f x) (hy:jZ M S g y):Calls prog 28 #[sf.val,f.val,g.val] w (Vu M S (cD S x y) w):=by
 cases S<;>cases x<;>cases y<;>first | exact hx.elim | exact hy.elim | skip
 ·obtain ⟨a,c,rfl⟩:=hs;exact oJ M _ _ _ _ _ _ _ _ _ hok hw hx hy
 ·obtain ⟨b,off,c,a1,c1,a2,c2,rfl,h1,h2⟩:=hs;obtain ⟨ra,ca,rc,cc,pc,fb,fo,f1,f2,rfl,h6,h8,h9⟩:=hx.two;obtain ⟨ra',ca',rc',cc',pc',gb,go,g1,g2,rfl,h6',h8',h9'⟩:=hy.two;exact Gu M hM _ _ _ _ _ _ _ _ _ _ _ _ h1 h2 hok.1 hok.2 _ _ _ _ _ _ _ _ _ _ _ (h6 w hw).1 (h6 w hw).2 h8 h9 _ _ _ _ _ _ _ _ _ _ _ (h6' w hw).1 (h6' w hw).2 h8' h9' hw
def MK (M:World→Prop) (K:List (Nat×World)) (W:World):Prop:=M W∧∀ q∈K,dD q.1 q.2 W
theorem MK.keep {M:World→Prop} {W W':World} {K:List (Nat×World)} (h:MK M K W) (hM:uL M) (hb:Below W.heap.size W W'):MK M K W':=⟨hM _ _ h.1 hb,fun q hq=>(h.2 q hq).trans (aL hb _)⟩
theorem Sh {M:World→Prop} (hM:uL M) (K:List (Nat×World)):uL (MK M K):=fun W W' h hb=>h.keep hM hb
theorem Gv (w:World):uL (fun W=>Below w.heap.size w W):=fun W W' h hb=>h.trans (hb.mono h.size)
theorem Vx {S:PS} {x y:PX} (hx:OkX S x):[x,y].foldl (cD S) (bU S)=cD S x y:=by simp only [List.foldl_cons,List.foldl_nil,lJ hx]
theorem qC {w:World} {t n:Int} {f g:WF} {x y:PF} (hx:PIs w t n f x) (hy:PIs w t n g y):eqW 1 (.mk f []) (.mk g [])=true↔x=y:=by rw [jG,← hx.pf,← hy.pf];simp [WF.pf]
theorem sT {w:World} {t n:Int} {f:WF} {x:PF} (hx:PIs w t n f x) (d:Nat):WIn w (d+1) (.mk f []):=⟨hx.at_,hx.pl.symm,.inl rfl,by simp⟩
theorem jH {w:World} {t n:Int} {f:WF} {x:PF} (hx:PIs w t n f x) (k:Nat):smN (k+1) (.mk f [])=true:=by have h:=hx.rows64 (l:=0);simp only [smN,Bool.and_eq_true,decide_eq_true_eq,List.all_nil];exact ⟨by omega,by omega,by rw [hx.pl];decide,trivial⟩
theorem Jc {w:World} {S:PS} {f g:WF} {x y:PX} (hx:XIs w S f x) (hy:XIs w S g y) (r:Bool) (hr:r=true↔x=y):Calls prog 33 #[f.val,g.val] w fun e w'=>e = .returned (.bool r)∧Below w.heap.size w w':=by
 cases S<;>cases x<;>cases y<;>first | exact hx.elim | exact hy.elim | skip
 ·refine (Ea 2 4 (.mk f []) (.mk g []) w (sT hx 1) (sT hy 1) (jH hx 3) (jH hy 3)).mono fun e w' h=>⟨h.1.trans (bG (A3 hr ?_)),h.2⟩
  rw [jG];have h1:=(qC hx hy).symm;rw [jG] at h1;simp only [PX.one.injEq];exact h1
 ·obtain ⟨ra,ca,rc,cc,pc,fb,fo,f1,f2,rfl,h6,h7,h8,h9⟩:=hx.two;obtain ⟨ra',ca',rc',cc',pc',gb,go,g1,g2,rfl,h6',h7',h8',h9'⟩:=hy.two;have sm:∀ {t n u m:Int} {a b:PF} {f1 f2:WF} {ra ca:Option Addr} {rc cc pc fb fo:Nat},PIs w t n f1 a→PIs w u m f2 b→smN 4 (.mk ⟨false,0,0,ra,0,rc,[],ca,0,cc,[],some ⟨fb,fo,none⟩,2,pc⟩ [.mk f1 [],.mk f2 []])=true:=by intro t n u m a b f1 f2 ra ca rc cc pc fb fo ha hb;have e1:=jH ha 2;have e2:=jH hb 2;show (decide _ && (decide _ && (decide _ && [WV.mk f1 [],WV.mk f2 []].all (smN 3))))=true;simp [e1,e2]
  refine (Ea 2 4 _ _ w (pV h6 h7 h8 h9) (pV h6' h7' h8' h9') (sm h8 h9) (sm h8' h9')).mono fun e w' h=>⟨h.1.trans (bG (A3 hr ?_)),h.2⟩
  rw [jG];have e1:=qC h8 h8';have e2:=qC h9 h9';simp [e1,e2]
theorem fa_57_1 (w:World) (b o:Nat):(Instr.fieldAt 57 (.pointer (some ⟨b,o,none⟩)) 1).run prog w = .ok (.pointer (some ⟨b,o+3,none⟩)) w:=by simp [Instr.fieldAt,run_underlying underlying57,Instr.sureAddr,go_sem,Addr.add_lit]
noncomputable def nzX (S:PS) (x:PX):Bool:=@decide (x≠bU S) (Classical.propDecidable _)
theorem jD {S:PS} {x:PX}:nzX S x=true↔x≠bU S:=by unfold nzX;exact @decide_eq_true_iff _ (Classical.propDecidable _)
theorem iC {S:PS} {x:PX}:nzX S x=false↔x=bU S:=by unfold nzX;rw [@decide_eq_false_iff_not _ (Classical.propDecidable _)];exact Classical.not_not
noncomputable def eqX (x y:PX):Bool:=@decide (x=y) (Classical.propDecidable _)
theorem nH {x y:PX}:eqX x y=true↔x=y:=by unfold eqX;exact @decide_eq_true_iff _ (Classical.propDecidable _)
theorem pB {x y:PX}:eqX x y=false↔x≠y:=by unfold eqX;exact @decide_eq_false_iff_not _ (Classical.propDecidable _)
theorem tM (S:PS) (sf:SF) (f0 f:WF) (x:PX) (w:World) (h0:XIs w S f0 (bU S)) (hx:XIs w S f x) :
  Calls prog 22 #[gR sf f0,f.val] w (fun e w'=>e = .returned (.bool (!nzX S x))∧Below w.heap.size w w'):=by
 refine cG (args:=[gR sf f0,f.val]) func22 rfl ntmps22 rfl ?_;have hS:=St.start w;refine aO (aQ (bY (cs:=[_,_,_,_,_,_,_,_,_]) hS rfl rfl rfl fun B1 W1 hS=>bY (cs:=[_,_,_,_,_,_]) hS rfl rfl rfl fun B2 W2 hS=>aB rfl rfl (aP (XF.thenN (aO (aQ (aT (vs:=[_,_,_,_,_,_]) isAgg46 sizeOf46 rfl (aC.own (j:=0) (m:=6) (hS.at_ 0 rfl) rfl) rfl (aN (o':=3) fa_57_1 rfl rfl rfl (aT (vs:=[_,_,_,_,_,_]) isAgg46 sizeOf46 rfl (aC.own (j:=3) (m:=6) (hS.at_ 1 rfl) rfl) rfl (cH (vs:=[_,_]) hS yV rfl (Jc (hx.below hS.below) (h0.below hS.below) (!nzX S x) (by rw [Bool.not_eq_true',iC])) rfl fun W3 hS=>aB rfl rfl (aP (XF.thenN (bL (XF.res (cI results22 rfl) ?_))))))))))))));exact ⟨rfl,hS.below⟩
theorem Jd (S:PS) (sf:SF) (f0:WF) (w:World) (hs:SIs w S sf) (hok:S.ok) :
  Calls prog 73 #[gR sf f0] w (jO S (bU S) w):=by
 refine cG (args:=[gR sf f0]) func73 rfl ntmps73 rfl ?_;have hS:=St.start w;refine aO (aQ (bY (cs:=[_,_,_,_,_,_,_,_,_]) hS rfl rfl rfl fun B1 W1 hS=>bF (cs:=[_,_,_,_,_,_]) hS zeroValue46 rfl rfl fun B2 W2 hS=>aP (XF.thenN (aO (aQ (aN (o':=0) vJ rfl rfl rfl (aT (vs:=[_,_,_]) isAgg25 sizeOf25 rfl (aC.own (j:=0) (m:=3) (hS.at_ 1 rfl) rfl) rfl ?_)))))));have hsz9:=hS.below.size;refine cS (vs:=[_]) hS Ny rfl (Ir S sf _ (hs.below hS.below) hok) rfl ?_;rintro e W3 ⟨f9,rfl,hn9,hb⟩;refine ⟨_,rfl,hb,?_⟩;clear hS;intro hS;refine aH rfl rfl (bZ rfl rfl rfl (bZ rfl rfl rfl (bF (cs:=[_,_,_,_,_,_]) hS zeroValue46 rfl rfl fun B4 W4 hS=>aU (i:=0) (vs:=[_,_,_,_,_,_]) (cs':=[_,_,_,_,_,_]) (O':=[_,_,_]) hS sizeOf46 rfl rfl rfl rfl rfl rfl rfl fun W5 hS=>aB rfl rfl (aP (XF.thenN (aO (aQ (aT (vs:=[_,_,_,_,_,_]) isAgg46 sizeOf46 rfl (aC.own (j:=0) (m:=6) (hS.at_ 0 rfl) rfl) rfl (aU (i:=1) (vs:=[_,_,_,_,_,_]) (cs':=[_,_,_,_,_,_]) (O':=[_,_,_]) hS sizeOf46 rfl rfl rfl rfl rfl rfl rfl fun W6 hS=>aP (XF.thenN (bL (XF.res (eE (vs:=[_,_,_,_,_,_]) results73 isAgg46 sizeOf46 rfl (aC.own (j:=0) (m:=6) (hS.at_ 1 rfl) rfl)) ?_))))))))))));exact ⟨f9,rfl,(hn9.agree (hS.since 0 rfl)).mono hsz9,hS.below⟩
theorem qD (S:PS) (sf:SF) (f0:WF) (w:World) (hs:SIs w S sf) (hok:S.ok) (a:Option Addr) (c m:Nat) (fs:List WF) (xs:List PX) (hr:tD w a fs) (hx:XL w S fs xs) (hm:fs.length=m) (hmx:m≤9223372036854775807) (ht:Tabs w) :
  Calls prog 23 #[gR sf f0,.slice a m c] w (jO S (xs.foldl (cD S) (bU S)) w):=by
 refine cG (args:=[gR sf f0,.slice a m c]) func23 rfl ntmps23 rfl ?_;have hS:=St.start w;refine aO (aQ (bY (cs:=[_,_,_,_,_,_,_,_,_]) hS rfl rfl rfl fun B1 W1 hS=>bF (cs:=[_,_,_,_,_,_]) hS zeroValue46 rfl rfl fun B2 W2 hS=>aP (XF.thenN (aO (aQ (aN (o':=0) vJ rfl rfl rfl (aT (vs:=[_,_,_]) isAgg25 sizeOf25 rfl (aC.own (j:=0) (m:=3) (hS.at_ 1 rfl) rfl) rfl (aH rfl rfl ?_))))))));have hsz9:=hS.below.size;refine cS (vs:=[_,_]) hS N4 rfl (xY S sf _ (hs.below hS.below) hok a c m fs xs (hr.below hS.below) (hx.below hS.below) hm hmx (ht.below hS.below)) rfl ?_;rintro e W3 ⟨f9,rfl,hn9,hb⟩;refine ⟨_,rfl,hb,?_⟩;clear hS;intro hS;refine aH rfl rfl (bZ rfl rfl rfl (bZ rfl rfl rfl (bF (cs:=[_,_,_,_,_,_]) hS zeroValue46 rfl rfl fun B4 W4 hS=>aU (i:=0) (vs:=[_,_,_,_,_,_]) (cs':=[_,_,_,_,_,_]) (O':=[_,_,_]) hS sizeOf46 rfl rfl rfl rfl rfl rfl rfl fun W5 hS=>aB rfl rfl (aP (XF.thenN (aO (aQ (aT (vs:=[_,_,_,_,_,_]) isAgg46 sizeOf46 rfl (aC.own (j:=0) (m:=6) (hS.at_ 0 rfl) rfl) rfl (aU (i:=1) (vs:=[_,_,_,_,_,_]) (cs':=[_,_,_,_,_,_]) (O':=[_,_,_]) hS sizeOf46 rfl rfl rfl rfl rfl rfl rfl fun W6 hS=>aP (XF.thenN (bL (XF.res (eE (vs:=[_,_,_,_,_,_]) results23 isAgg46 sizeOf46 rfl (aC.own (j:=0) (m:=6) (hS.at_ 1 rfl) rfl)) ?_))))))))))));exact ⟨f9,rfl,(hn9.agree (hS.since 0 rfl)).mono hsz9,hS.below⟩
theorem plus2 {w:World} {S:PS} {sf:SF} {f0:WF} {x y:PX} {vs:List Value} {lo:Nat} (hh:lV [isV (gR sf f0),kU S [x,y]] vs w) (hs:SIs w S sf) (hok:S.ok) (hx:OkX S x) (ht:Tabs w) (hlo:lo≤w.heap.size):Calls prog 23 vs.toArray w (zY (dP lo S (cD S x y)) w):=by obtain ⟨v1,v2,rfl,rfl,b,fs,rfl,hr,hxl⟩:=nD hh;refine (qD S sf f0 w hs hok _ 2 2 fs [x,y] hr hxl (by have:=hxl.1;simpa using this) (by decide) ht).mono ?_;rintro e w' ⟨f,rfl,hn,hb⟩;rw [Vx hx] at hn;exact ⟨_,rfl,⟨f,rfl,hn.mono hlo⟩,hb⟩
theorem plus2N {w:World} {S:PS} {sf:SF} {f0:WF} {x y:PX} {vs:List Value} {lo:Nat} (hh:lV [isV (gR sf f0),kU S [x,y]] vs w) (hs:SIs w S sf) (hok:S.ok) (hx:OkX S x) (ht:Tabs w) (hlo:lo≤w.heap.size):Calls prog 23 vs.toArray w (wW (dP lo S (cD S x y)) w):=by obtain ⟨v1,v2,rfl,rfl,b,fs,rfl,hr,hxl⟩:=nD hh;refine nG hlo ?_;have h9:=qD S sf f0 w hs hok _ 2 2 fs [x,y] hr hxl (by have:=hxl.1;simpa using this) (by decide) ht;rw [Vx hx] at h9;exact h9
theorem jI (w:World) (b o:Nat):(Instr.fieldAt 48 (.pointer (some ⟨b,o,none⟩)) 0).run prog w = .ok (.pointer (some ⟨b,o+0,none⟩)) w:=by simp [Instr.fieldAt,run_underlying underlying48,Instr.sureAddr,go_sem,Addr.add_lit]
theorem iF (w:World) (b o:Nat):(Instr.fieldAt 48 (.pointer (some ⟨b,o,none⟩)) 1).run prog w = .ok (.pointer (some ⟨b,o+1,none⟩)) w:=by simp [Instr.fieldAt,run_underlying underlying48,Instr.sureAddr,go_sem,Addr.add_lit]
theorem iG (w:World) (b o:Nat):(Instr.fieldAt 48 (.pointer (some ⟨b,o,none⟩)) 2).run prog w = .ok (.pointer (some ⟨b,o+2,none⟩)) w:=by simp [Instr.fieldAt,run_underlying underlying48,Instr.sureAddr,go_sem,Addr.add_lit]
theorem fS (w:World) (b o:Nat):(Instr.fieldAt 48 (.pointer (some ⟨b,o,none⟩)) 3).run prog w = .ok (.pointer (some ⟨b,o+3,none⟩)) w:=by simp [Instr.fieldAt,run_underlying underlying48,Instr.sureAddr,go_sem,Addr.add_lit]
theorem iQ (w:World) (b o:Nat):(Instr.fieldAt 29 (.pointer (some ⟨b,o,none⟩)) 0).run prog w = .ok (.pointer (some ⟨b,o+0,none⟩)) w:=by simp [Instr.fieldAt,run_underlying underlying29,Instr.sureAddr,go_sem,Addr.add_lit]
theorem iH (w:World) (b o:Nat):(Instr.fieldAt 29 (.pointer (some ⟨b,o,none⟩)) 1).run prog w = .ok (.pointer (some ⟨b,o+3,none⟩)) w:=by simp [Instr.fieldAt,run_underlying underlying29,Instr.sureAddr,go_sem,Addr.add_lit]
theorem jJ (w:World) (b o:Nat):(Instr.fieldAt 29 (.pointer (some ⟨b,o,none⟩)) 2).run prog w = .ok (.pointer (some ⟨b,o+4,none⟩)) w:=by simp [Instr.fieldAt,run_underlying underlying29,Instr.sureAddr,go_sem,Addr.add_lit]
theorem eV (w:World) (b o:Nat):(Instr.fieldAt 29 (.pointer (some ⟨b,o,none⟩)) 3).run prog w = .ok (.pointer (some ⟨b,o+5,none⟩)) w:=by simp [Instr.fieldAt,run_underlying underlying29,Instr.sureAddr,go_sem,Addr.add_lit]
theorem dB (w:World) (b o:Nat):(Instr.fieldAt 29 (.pointer (some ⟨b,o,none⟩)) 4).run prog w = .ok (.pointer (some ⟨b,o+6,none⟩)) w:=by simp [Instr.fieldAt,run_underlying underlying29,Instr.sureAddr,go_sem,Addr.add_lit]
theorem goes_13:bJ prog 13=true:=by kernel_rfl
theorem vX:bJ prog 16=true:=by kernel_rfl
theorem zD:bJ prog 38=true:=by kernel_rfl
theorem vY (a:AV) (n:Int) (w:World) :
  Calls prog 38 #[a.val,.int .i64 n] w (fun e w'=>e = .returned (.bool (inQ n a.st))∧Below w.heap.size w w'):=by
 refine cG (args:=[a.val,.int .i64 n]) func38 rfl ntmps38 rfl ?_;have hS:=St.start w;refine aO (aQ (bY (cs:=[_,_,_,_,_,_,_]) hS rfl rfl rfl fun B1 W1 hS=>aB rfl rfl (aP (XF.thenN (aO (aQ (aH rfl rfl (tV rfl rfl rfl (aH rfl rfl (cB (d:=7) rfl (fun hc=>?_) (fun hc=>?_)))))))))))
 ·have hg7:=of_decide_eq_true hc;clear hc;refine aI (d:=7) rfl rfl (aH rfl rfl (aI (d:=7) rfl rfl (aN (o':=3) iH rfl rfl rfl (aI (d:=7) rfl rfl (aR isAgg3 rfl (aK (hS.at_ 0 rfl) rfl) rfl (aI (d:=7) rfl rfl (cT rfl rfl rfl (bC rfl rfl rfl (aB rfl rfl (aP (XF.thenN (bL (XF.res (cI results38 rfl) ?_)))))))))))));exact ⟨bG (by simp [inQ,show 0≤n from hg7]),hS.below⟩
 ·have hg7:=of_decide_eq_false hc;clear hc;refine aD (d:=7) rfl rfl rfl rfl (aD (d:=7) rfl rfl rfl rfl (aD (d:=7) rfl rfl rfl rfl (aD (d:=7) rfl rfl rfl rfl (bR rfl rfl rfl (aB rfl rfl (aP (XF.thenN (bL (XF.res (cI results38 rfl) ?_)))))))));exact ⟨bG (by simp [inQ];omega),hS.below⟩
theorem Bp (a:AV) (n:Int) (w:World) :
  Calls prog 16 #[a.val,.int .i64 n] w (fun e w'=>e = .returned (.bool (inQ n a.st))∧Below w.heap.size w w'):=by
 refine cG (args:=[a.val,.int .i64 n]) func16 rfl ntmps16 rfl ?_;have hS:=St.start w;refine aO (aQ (bY (cs:=[_,_,_,_,_,_,_]) hS rfl rfl rfl fun B1 W1 hS=>aB rfl rfl (aP (XF.thenN (aO (aQ (aH rfl rfl (tV rfl rfl rfl (aH rfl rfl (cB (d:=7) rfl (fun hc=>?_) (fun hc=>?_)))))))))))
 ·have hg7:=of_decide_eq_true hc;clear hc;refine aI (d:=7) rfl rfl (aH rfl rfl (aI (d:=7) rfl rfl (aN (o':=3) iH rfl rfl rfl (aI (d:=7) rfl rfl (aR isAgg3 rfl (aK (hS.at_ 0 rfl) rfl) rfl (aI (d:=7) rfl rfl (cT rfl rfl rfl (bC rfl rfl rfl (aB rfl rfl (aP (XF.thenN (bL (XF.res (cI results16 rfl) ?_)))))))))))));exact ⟨bG (by simp [inQ,show 0≤n from hg7]),hS.below⟩
 ·have hg7:=of_decide_eq_false hc;clear hc;refine aD (d:=7) rfl rfl rfl rfl (aD (d:=7) rfl rfl rfl rfl (aD (d:=7) rfl rfl rfl rfl (aD (d:=7) rfl rfl rfl rfl (bR rfl rfl rfl (aB rfl rfl (aP (XF.thenN (bL (XF.res (cI results16 rfl) ?_)))))))));exact ⟨bG (by simp [inQ];omega),hS.below⟩
theorem Si (ds d:Nat) (s:SV) (st sy:Int) (fa:Option Addr) (fl fc:Nat) (fs:List Int) (ta:Option Addr) (tl tc:Nat) (ts:List TV) (w:World) (hs:SIn w ds s) (hfrow:Row w fa fs) (hflen:fs.length=fl) (htrow:mQ w ta ts) (htlen:ts.length=tl) (htin:∀ t∈ts,WIn w d t.x) (hfm:fl≤9223372036854775807) (htm:tl≤9223372036854775807) :
  Calls prog 13 #[.agg #[.int .i64 s.f.tag,.int .i64 s.f.dim,.slice s.f.a s.f.len s.f.cap,.int .i64 st,.int .i64 sy,.slice fa fl fc,.slice ta tl tc]] w (fun e w'=>e = .returned (.bool (dE st sy fs ts))∧Below w.heap.size w w'):=by
 refine cG (args:=[.agg #[.int .i64 s.f.tag,.int .i64 s.f.dim,.slice s.f.a s.f.len s.f.cap,.int .i64 st,.int .i64 sy,.slice fa fl fc,.slice ta tl tc]]) func13 rfl ntmps13 rfl ?_;have hS:=St.start w;refine aO (aQ (bY (cs:=[_,_,_,_,_,_,_]) hS rfl rfl rfl fun B1 W1 hS=>aB rfl rfl (aP (XF.thenN (aO (aO (aQ (aN (o':=3) iH rfl rfl rfl (aR isAgg3 rfl (aK (hS.at_ 0 rfl) rfl) rfl (cT rfl rfl rfl (aH rfl rfl (cB (d:=10) rfl (fun hc=>?_) (fun hc=>?_)))))))))))))
 ·have hg10:=of_decide_eq_true hc;clear hc;refine aD (d:=10) rfl rfl rfl rfl (aD (d:=10) rfl rfl rfl rfl (aD (d:=10) rfl rfl rfl rfl (bC rfl rfl rfl (aH rfl rfl (aD (d:=15) rfl rfl rfl rfl (aD (d:=15) rfl rfl rfl rfl (aD (d:=15) rfl rfl rfl rfl (bC rfl rfl rfl (aH rfl rfl (aD (d:=20) rfl rfl rfl rfl (aD (d:=20) rfl rfl rfl rfl (aD (d:=20) rfl rfl rfl rfl (bC rfl rfl rfl (aP (XF.thenN (fD rfl (aO (aQ (aB rfl rfl (aP (XF.thenN (bL (XF.thenR (XF.res (cI results13 rfl) ?_))))))))))))))))))))))));exact ⟨bG (by unfold dE;rw [if_pos (by omega)]),hS.below⟩
 ·have hg10:=of_decide_eq_false hc;clear hc;refine aI (d:=10) rfl rfl (aN (o':=3) iH rfl rfl rfl (aI (d:=10) rfl rfl (aR isAgg3 rfl (aK (hS.at_ 0 rfl) rfl) rfl (aI (d:=10) rfl rfl (nZ rfl rfl rfl (bR rfl rfl rfl (aH rfl rfl (cB (d:=15) rfl (fun hc=>?_) (fun hc=>?_)))))))))
  ·have hg15:=of_decide_eq_true hc;clear hc;refine aD (d:=15) rfl rfl rfl rfl (aD (d:=15) rfl rfl rfl rfl (aD (d:=15) rfl rfl rfl rfl (bC rfl rfl rfl (aH rfl rfl (aD (d:=20) rfl rfl rfl rfl (aD (d:=20) rfl rfl rfl rfl (aD (d:=20) rfl rfl rfl rfl (bC rfl rfl rfl (aP (XF.thenN (fD rfl (aO (aQ (aB rfl rfl (aP (XF.thenN (bL (XF.thenR (XF.res (cI results13 rfl) ?_)))))))))))))))))));exact ⟨bG (by unfold dE;rw [if_pos (by omega)]),hS.below⟩
  ·have hg15:=of_decide_eq_false hc;clear hc;refine aI (d:=15) rfl rfl (aN (o':=4) jJ rfl rfl rfl (aI (d:=15) rfl rfl (aR isAgg3 rfl (aK (hS.at_ 0 rfl) rfl) rfl (aI (d:=15) rfl rfl (cT rfl rfl rfl (bR rfl rfl rfl (aH rfl rfl (cB (d:=20) rfl (fun hc=>?_) (fun hc=>?_)))))))))
   ·have hg20:=of_decide_eq_true hc;clear hc;refine aD (d:=20) rfl rfl rfl rfl (aD (d:=20) rfl rfl rfl rfl (aD (d:=20) rfl rfl rfl rfl (bC rfl rfl rfl (aP (XF.thenN (fD rfl (aO (aQ (aB rfl rfl (aP (XF.thenN (bL (XF.thenR (XF.res (cI results13 rfl) ?_))))))))))))));exact ⟨bG (by unfold dE;rw [if_pos (by omega)]),hS.below⟩
   ·have hg20:=of_decide_eq_false hc;clear hc;refine aI (d:=20) rfl rfl (aN (o':=4) jJ rfl rfl rfl (aI (d:=20) rfl rfl (aR isAgg3 rfl (aK (hS.at_ 0 rfl) rfl) rfl (aI (d:=20) rfl rfl (nZ rfl rfl rfl (bR rfl rfl rfl (aP (XF.thenN (bB rfl (fun hc=>?_) (fun hc=>?_))))))))))
    ·have hc24:=of_decide_eq_true hc;clear hc;refine aO (aQ (aB rfl rfl (aP (XF.thenN (bL (XF.thenR (XF.res (cI results13 rfl) ?_)))))));exact ⟨bG (by unfold dE;rw [if_pos (by omega)]),hS.below⟩
    ·have hc24:=of_decide_eq_false hc;clear hc;have h2:¬ (st < 0∨4096 < st∨sy < 0∨4096 < sy):=by omega
     refine bP (XF.thenN (aO (aO (aQ (aN (o':=5) eV rfl rfl rfl (aR isAgg26 rfl (aK (hS.at_ 0 rfl) rfl) rfl (cL underlying26 rfl rfl (aH rfl rfl (aP (XF.thenN (bX (eJ (fun m l W=>∃ i:Nat,i≤fl∧m=fl - i∧l=[(1,.pointer (some ⟨B1,0,none⟩)),(26,.slice fa fl fc),(27,.int .i64 (fl:Int)),(28,.int .i64 (i:Int))]∧(∀ j,j < i→mB st fs j=true)∧St w [(B1,[.int .i64 s.f.tag,.int .i64 s.f.dim,.slice s.f.a s.f.len s.f.cap,.int .i64 st,.int .i64 sy,.slice fa fl fc,.slice ta tl tc],29)] [] [] W) (fl - 0) ([(1,_),(26,_),(27,_),(28,_)]) ⟨rfl,rfl,rfl,rfl,trivial⟩ (⟨0,Nat.zero_le _,rfl,rfl,fun j hj=>absurd hj (Nat.not_lt_zero _),hS.clear⟩) ?_))))))))))));clear hS;rintro m l W ⟨i,hi,rfl,rfl,hall,hS⟩;refine aO (aQ (cT rfl rfl rfl (aP (XF.thenN (aO (bB rfl (fun hc=>?_) (fun hc=>?_)))))))
     ·have hc29:=of_decide_eq_true hc;clear hc;have hk:i < fl:=by omega
      obtain ⟨b,off,y,rfl,hy,hyc⟩:=hfrow.at1 (show i < fs.length by omega);have k1:=hS.old hyc;refine bP (XF.thenN (aO (bX (aO (aQ (aH rfl rfl (cK  underlying26 sizeOf3 rfl rfl rfl (by omega) rfl rfl (aR isAgg3 rfl (k1) rfl (aB rfl rfl (aB rfl rfl (aP (XF.thenN (aO (aQ (aT (vs:=[_,_,_,_,_,_,_]) isAgg29 sizeOf29 rfl (aC.own (j:=0) (m:=7) (hS.at_ 0 rfl) rfl) rfl (aH rfl rfl (cH (vs:=[_,_]) hS zD rfl (vY ⟨s,st,sy,_,fl,fc,fs,ta,tl,tc,ts⟩ y _) rfl fun W2 hS=>fB rfl rfl (aH rfl rfl (cB (d:=37) rfl (fun hc=>?_) (fun hc=>?_))))))))))))))))))))
      ·have hg37:=hc;clear hc;have e1:inQ y st=false:=by simpa using hg37
       refine aD (d:=37) rfl rfl rfl rfl (aD (d:=37) rfl rfl rfl rfl (aD (d:=37) rfl rfl rfl rfl (rP (d:=40) rfl rfl rfl (rP (d:=40) rfl rfl rfl (rP (d:=40) rfl rfl rfl (rP (d:=40) rfl rfl rfl (rP (d:=40) rfl rfl rfl (rP (d:=40) rfl rfl rfl (rP (d:=40) rfl rfl rfl (rP (d:=40) rfl rfl rfl (aD (d:=37) rfl rfl rfl rfl (bC rfl rfl rfl (aP (XF.thenN (fD rfl (aO (aQ (aB rfl rfl (aP (XF.thenN (bL (XF.blkR (XF.thenR (XF.thenR (XF.blkR (XF.thenR (XF.res (cI results13 rfl) ?_)))))))))))))))))))))))))));exact ⟨bG (by unfold dE;rw [if_neg h2,zB (i:=i) (by omega) (Ei hy e1),Bool.false_and]),hS.below⟩
      ·have hg37:=hc;clear hc;have e1:inQ y st=true:=by simpa using hg37
       refine aI (d:=37) rfl rfl (aH rfl rfl (aI (d:=37) rfl rfl (nZ rfl rfl rfl (aI (d:=37) rfl rfl (aH rfl rfl (cB (d:=40) rfl (fun hc=>?_) (fun hc=>?_)))))))
       ·have hg40:=of_decide_eq_true hc;clear hc;obtain ⟨b2,off2,z,e2,hz,hzc⟩:=hfrow.at1 (show i - 1 < fs.length by omega);cases e2;have k2:=hS.old hzc;refine aI (d:=40) rfl rfl (aH rfl rfl (aI (d:=40) rfl rfl (aN (o':=5) eV rfl rfl rfl (aI (d:=40) rfl rfl (aR isAgg26 rfl (aK (hS.at_ 0 rfl) rfl) rfl (aI (d:=40) rfl rfl (aH rfl rfl (aI (d:=40) rfl rfl (op_sub rfl rfl (IntWalk.i64_in _ (by omega)) rfl (aI (d:=40) rfl rfl (cK (j:=(i - 1)) underlying26 sizeOf3 rfl rfl (by omega) (by omega) rfl rfl (aI (d:=40) rfl rfl (aR isAgg3 rfl (k2) rfl (aI (d:=40) rfl rfl (wU rfl rfl rfl (aI (d:=37) rfl rfl (bC rfl rfl rfl (bR rfl rfl rfl (aP (XF.thenN (bB rfl (fun hc=>?_) (fun hc=>?_))))))))))))))))))))))
        ·have hc50:=of_decide_eq_true hc;clear hc;refine aO (aQ (aB rfl rfl (aP (XF.thenN (bL (XF.blkR (XF.thenR (XF.thenR (XF.blkR (XF.thenR (XF.res (cI results13 rfl) ?_)))))))))));exact ⟨bG (by unfold dE;rw [if_neg h2,zB (i:=i) (by omega) (by rw [sS hy hz e1 (by omega)];exact decide_eq_false (by omega)),Bool.false_and]),hS.below⟩
        ·have hc50:=of_decide_eq_false hc;clear hc;refine bP (XF.blkN (XF.thenN (aQ (cY rfl rfl (IntWalk.i64_in _ (by omega)) rfl (aH rfl rfl (aP ?_))))));exact XF.round (fl - (i+1)) [(1,_),(26,_),(27,_),(28,_)] (by omega) ⟨rfl,rfl,rfl,rfl,trivial⟩ ⟨i+1,by omega,rfl,rfl,vW hall (by rw [sS hy hz e1 (by omega)];exact decide_eq_true (by omega)),hS.clear⟩
       ·have hg40:=of_decide_eq_false hc;clear hc;refine aD (d:=40) rfl rfl rfl rfl (aD (d:=40) rfl rfl rfl rfl (aD (d:=40) rfl rfl rfl rfl (aD (d:=40) rfl rfl rfl rfl (aD (d:=40) rfl rfl rfl rfl (aD (d:=40) rfl rfl rfl rfl (aD (d:=40) rfl rfl rfl rfl (aD (d:=40) rfl rfl rfl rfl (aI (d:=37) rfl rfl (bR rfl rfl rfl (bR rfl rfl rfl (aP (XF.thenN (tI rfl (bP (XF.blkN (XF.thenN (aQ (cY rfl rfl (IntWalk.i64_in _ (by omega)) rfl (aH rfl rfl (aP ?_))))))))))))))))))));exact XF.round (fl - (i+1)) [(1,_),(26,_),(27,_),(28,_)] (by omega) ⟨rfl,rfl,rfl,rfl,trivial⟩ ⟨i+1,by omega,rfl,rfl,vW hall (Bi hy e1 (by omega)),hS.clear⟩
     ·have hc29:=of_decide_eq_false hc;clear hc;have hfb:Gr st fs=true:=O8 fun j hj=>hall j (by omega)
      refine dT (XF.thenX (XF.thenX (XF.blkX (XF.thenN (aO (aO (aQ (aN (o':=6) dB rfl rfl rfl (aR isAgg27 rfl (aK (hS.at_ 0 rfl) rfl) rfl (cL underlying27 rfl rfl (aH rfl rfl (aP (XF.thenN (bX (eJ (fun m l W=>∃ i:Nat,i≤tl∧m=tl - i∧l=[(1,.pointer (some ⟨B1,0,none⟩)),(53,.slice ta tl tc),(54,.int .i64 (tl:Int)),(55,.int .i64 (i:Int))]∧(ts.take i).all (trB st sy)=true∧St w [(B1,[.int .i64 s.f.tag,.int .i64 s.f.dim,.slice s.f.a s.f.len s.f.cap,.int .i64 st,.int .i64 sy,.slice fa fl fc,.slice ta tl tc],29)] [] [] W) (tl - 0) ([(1,_),(53,_),(54,_),(55,_)]) ⟨rfl,rfl,rfl,rfl,trivial⟩ (⟨0,Nat.zero_le _,rfl,rfl,rfl,hS.clear⟩) ?_)))))))))))))));clear hS;rintro m l W ⟨i,hi,rfl,rfl,hall,hS⟩;refine aO (aQ (cT rfl rfl rfl (aP (XF.thenN (aO (bB rfl (fun hc=>?_) (fun hc=>?_)))))))
      ·have hc56:=of_decide_eq_true hc;clear hc;have hk:i < tl:=by omega
       obtain ⟨r,hr⟩:∃ r,ts[i]?=some r:=⟨ts[i]'(by omega),by simp [show i < ts.length by omega]⟩;obtain ⟨b,off,rfl,hcs⟩:=htrow.at_ hr;have k1:=aC.agree hS.agree (Nat.zero_le _) hcs;have hri:=htin r (List.mem_of_getElem? hr);refine bP (XF.thenN (aO (bX (aO (aQ (cK  underlying27 sizeOf48 rfl rfl rfl (by omega) rfl rfl (aT (vs:=[_,_,_,_,_,_,_,_,_]) isAgg48 sizeOf48 rfl (k1) rfl (bF (cs:=[_,_,_,_,_,_,_,_,_]) hS zeroValue48 rfl rfl fun B3 W3 hS=>aU (i:=0) (vs:=[_,_,_,_,_,_,_,_,_]) (cs':=[_,_,_,_,_,_,_,_,_]) (O':=[_,_]) hS sizeOf48 rfl rfl rfl rfl rfl rfl rfl fun W4 hS=>aP (XF.thenN (aO (aQ (aT (vs:=[_,_,_,_,_,_,_]) isAgg29 sizeOf29 rfl (aC.own (j:=0) (m:=7) (hS.at_ 1 rfl) rfl) rfl (aN (o':=0) jI rfl rfl rfl (aR isAgg3 rfl (aK (hS.at_ 0 rfl) rfl) rfl (cH (vs:=[_,_]) hS zD rfl (vY ⟨s,st,sy,fa,fl,fc,fs,_,tl,tc,ts⟩ r.f _) rfl fun W5 hS=>fB rfl rfl (aH rfl rfl (cB (d:=64) rfl (fun hc=>?_) (fun hc=>?_))))))))))))))))))
       ·have hg64:=hc;clear hc;have e1:inQ r.f st=false:=by simpa using hg64
        refine aD (d:=64) rfl rfl rfl rfl (aD (d:=64) rfl rfl rfl rfl (aD (d:=64) rfl rfl rfl rfl (aD (d:=64) rfl rfl rfl rfl (aD (d:=64) rfl rfl rfl rfl (bC rfl rfl rfl (aH rfl rfl (aD (d:=71) rfl rfl rfl rfl (aD (d:=71) rfl rfl rfl rfl (aD (d:=71) rfl rfl rfl rfl (bC rfl rfl rfl (aH rfl rfl (aD (d:=76) rfl rfl rfl rfl (aD (d:=76) rfl rfl rfl rfl (aD (d:=76) rfl rfl rfl rfl (aD (d:=76) rfl rfl rfl rfl (aD (d:=76) rfl rfl rfl rfl (bC rfl rfl rfl (aP (XF.thenN (fD rfl (aO (aQ (aB rfl rfl (aP (XF.thenN (bL (XF.blkR (XF.thenR (XF.thenR (XF.blkR (XF.thenR (XF.res (cI results13 rfl) ?_))))))))))))))))))))))))))))))));exact ⟨bG (by unfold dE;rw [if_neg h2,cW hr (by simp [trB,e1]),Bool.and_false]),hS.below⟩
       ·have hg64:=hc;clear hc;have e1:inQ r.f st=true:=by simpa using hg64
        refine aI (d:=64) rfl rfl (aT (vs:=[_,_,_,_,_,_,_]) isAgg29 sizeOf29 rfl (aC.own (j:=0) (m:=7) (hS.at_ 1 rfl) rfl) rfl (aI (d:=64) rfl rfl (aN (o':=2) iG rfl rfl rfl (aI (d:=64) rfl rfl (aR isAgg3 rfl (aK (hS.at_ 0 rfl) rfl) rfl (aI (d:=64) rfl rfl (cH (vs:=[_,_]) hS zD rfl (vY ⟨s,st,sy,fa,fl,fc,fs,_,tl,tc,ts⟩ r.t _) rfl fun W6 hS=>aI (d:=64) rfl rfl (fB rfl rfl (bR rfl rfl rfl (aH rfl rfl (cB (d:=71) rfl (fun hc=>?_) (fun hc=>?_))))))))))))
        ·have hg71:=hc;clear hc;have e3:inQ r.t st=false:=by simpa using hg71
         refine aD (d:=71) rfl rfl rfl rfl (aD (d:=71) rfl rfl rfl rfl (aD (d:=71) rfl rfl rfl rfl (bC rfl rfl rfl (aH rfl rfl (aD (d:=76) rfl rfl rfl rfl (aD (d:=76) rfl rfl rfl rfl (aD (d:=76) rfl rfl rfl rfl (aD (d:=76) rfl rfl rfl rfl (aD (d:=76) rfl rfl rfl rfl (bC rfl rfl rfl (aP (XF.thenN (fD rfl (aO (aQ (aB rfl rfl (aP (XF.thenN (bL (XF.blkR (XF.thenR (XF.thenR (XF.blkR (XF.thenR (XF.res (cI results13 rfl) ?_)))))))))))))))))))))))));exact ⟨bG (by unfold dE;rw [if_neg h2,cW hr (by simp [trB,e3]),Bool.and_false]),hS.below⟩
        ·have hg71:=hc;clear hc;have e3:inQ r.t st=true:=by simpa using hg71
         refine aI (d:=71) rfl rfl (aN (o':=1) iF rfl rfl rfl (aI (d:=71) rfl rfl (aR isAgg3 rfl (aK (hS.at_ 0 rfl) rfl) rfl (aI (d:=71) rfl rfl (cT rfl rfl rfl (bR rfl rfl rfl (aH rfl rfl (cB (d:=76) rfl (fun hc=>?_) (fun hc=>?_)))))))))
         ·have hg76:=of_decide_eq_true hc;clear hc;refine aD (d:=76) rfl rfl rfl rfl (aD (d:=76) rfl rfl rfl rfl (aD (d:=76) rfl rfl rfl rfl (aD (d:=76) rfl rfl rfl rfl (aD (d:=76) rfl rfl rfl rfl (bC rfl rfl rfl (aP (XF.thenN (fD rfl (aO (aQ (aB rfl rfl (aP (XF.thenN (bL (XF.blkR (XF.thenR (XF.thenR (XF.blkR (XF.thenR (XF.res (cI results13 rfl) ?_))))))))))))))))))));exact ⟨bG (by unfold dE;rw [if_neg h2,cW hr (by simp [trB,show ¬ (-1≤r.g) by omega]),Bool.and_false]),hS.below⟩
         ·have hg76:=of_decide_eq_false hc;clear hc;refine aI (d:=76) rfl rfl (aN (o':=1) iF rfl rfl rfl (aI (d:=76) rfl rfl (aR isAgg3 rfl (aK (hS.at_ 0 rfl) rfl) rfl (aI (d:=76) rfl rfl (aN (o':=4) jJ rfl rfl rfl (aI (d:=76) rfl rfl (aR isAgg3 rfl (aK (hS.at_ 1 rfl) rfl) rfl (aI (d:=76) rfl rfl (tV rfl rfl rfl (bR rfl rfl rfl (aP (XF.thenN (bB rfl (fun hc=>?_) (fun hc=>?_))))))))))))))
          ·have hc82:=of_decide_eq_true hc;clear hc;refine aO (aQ (aB rfl rfl (aP (XF.thenN (bL (XF.blkR (XF.thenR (XF.thenR (XF.blkR (XF.thenR (XF.res (cI results13 rfl) ?_)))))))))));exact ⟨bG (by unfold dE;rw [if_neg h2,cW hr (by simp [trB,show ¬ (r.g < sy) by omega]),Bool.and_false]),hS.below⟩
          ·have hc82:=of_decide_eq_false hc;clear hc;refine bP (XF.blkN (XF.thenN (aQ (cY rfl rfl (IntWalk.i64_in _ (by omega)) rfl (aH rfl rfl (aP ?_))))));exact XF.round (tl - (i+1)) [(1,_),(53,_),(54,_),(55,_)] (by omega) ⟨rfl,rfl,rfl,rfl,trivial⟩ ⟨i+1,by omega,rfl,rfl,eX hr hall (by simp only [trB,e1,e3,Bool.true_and];rw [decide_eq_true (show -1≤r.g by omega),decide_eq_true (show r.g < sy by omega)];rfl),hS.tail.clear⟩
      ·have hc56:=of_decide_eq_false hc;clear hc;rw [List.take_of_length_le (by omega)] at hall;refine dT (XF.thenX (XF.thenX (XF.blkX (XF.thenN (aO (aQ (aB rfl rfl (aP (XF.thenN (bL (XF.res (cI results13 rfl) ?_)))))))))));exact ⟨bG (by unfold dE;rw [if_neg h2,hfb,hall,Bool.true_and]),hS.below⟩
theorem Mr (ds d:Nat) (a:AV) (w:World) (h:AIn w ds d a):Calls prog 13 #[a.val] w (fun e w'=>e = .returned (.bool (dE a.st a.sy a.fs a.ts))∧Below w.heap.size w w'):=Si ds d _ _ _ _ _ _ _ _ _ _ _ w h.s h.frow h.flen h.trow h.tlen h.tin h.fmax h.tmax
theorem autoA_c (ds d:Nat) (s:SV) (st sy:Int) (fa:Option Addr) (fl fc:Nat) (fs:List Int) (ta:Option Addr) (tl tc:Nat) (ts:List TV) (w:World) (hs:SIn w ds s) (hfrow:Row w fa fs) (hflen:fs.length=fl) (htrow:mQ w ta ts) (htlen:ts.length=tl) (htin:∀ t∈ts,WIn w d t.x) (hfm:fl≤9223372036854775807) (htm:tl≤9223372036854775807) :
  Calls prog 4 #[.agg #[.int .i64 s.f.tag,.int .i64 s.f.dim,.slice s.f.a s.f.len s.f.cap,.int .i64 st,.int .i64 sy,.slice fa fl fc,.slice ta tl tc]] w (fun e w'=>e = .returned (.int .i64 (dJ ⟨s,st,sy,fa,fl,fc,fs,ta,tl,tc,ts⟩))∧Below w.heap.size w w'):=by
 refine cG (args:=[.agg #[.int .i64 s.f.tag,.int .i64 s.f.dim,.slice s.f.a s.f.len s.f.cap,.int .i64 st,.int .i64 sy,.slice fa fl fc,.slice ta tl tc]]) func4 rfl ntmps4 rfl ?_;have hS:=St.start w;refine aO (aQ (bY (cs:=[_,_,_,_,_,_,_]) hS rfl rfl rfl fun B1 W1 hS=>aB rfl rfl (aP (XF.thenN (aO (aO (aQ (aN (o':=0) iQ rfl rfl rfl (aT (vs:=[_,_,_]) isAgg25 sizeOf25 rfl (aC.own (j:=0) (m:=3) (hS.at_ 0 rfl) rfl) rfl (cH (vs:=[_]) hS uY rfl (wX ds s _ _ (SIn.below hS.below hs) rfl) rfl fun W2 hS=>aB rfl rfl (aP (XF.thenN (aO (aQ (aH rfl rfl (dG rfl rfl rfl (aP (XF.thenN (bB rfl (fun hc=>?_) (fun hc=>?_))))))))))))))))))))
 ·have hc11:=of_decide_eq_true hc;clear hc;refine aO (aQ (aH rfl rfl (aB rfl rfl (aP (XF.thenN (bL (XF.thenR (XF.res (cI results4 rfl) ?_))))))));exact ⟨eM (by unfold dJ;dsimp only;rw [if_pos hc11]),hS.below⟩
 ·have hc11:=of_decide_eq_false hc;clear hc;have h0:¬ dR s≠0:=hc11;have hse:dR s=0:=by omega
  refine bP (XF.thenN (aO (aO (aQ (aN (o':=6) dB rfl rfl rfl (aR isAgg27 rfl (aK (hS.at_ 0 rfl) rfl) rfl (cL underlying27 rfl rfl (nZ rfl rfl rfl (aP (XF.thenN (bB rfl (fun hc=>?_) (fun hc=>?_))))))))))))
  ·have hc16:=of_decide_eq_true hc;clear hc;refine aO (aQ (aB rfl rfl (aP (XF.thenN (bL (XF.thenR (XF.res (cI results4 rfl) ?_)))))));exact ⟨eM (by unfold dJ;dsimp only;rw [if_neg h0,if_pos (by omega)]),hS.below⟩
  ·have hc16:=of_decide_eq_false hc;clear hc;have h1:¬ 65536 < tl:=by omega
   refine bP (XF.thenN (aO (aO (aQ (aT (vs:=[_,_,_,_,_,_,_]) isAgg29 sizeOf29 rfl (aC.own (j:=0) (m:=7) (hS.at_ 0 rfl) rfl) rfl (cH (vs:=[_]) hS goes_13 rfl (Mr ds d ⟨s,st,sy,fa,fl,fc,fs,ta,tl,tc,ts⟩ _ (AIn.below ⟨hs,hfrow,hflen,htrow,htlen,htin,hfm,htm⟩ hS.below)) rfl fun W3 hS=>fB rfl rfl (aP (XF.thenN (bB rfl (fun hc=>?_) (fun hc=>?_))))))))))
   ·have hc19:=hc;clear hc;refine aO (aQ (aB rfl rfl (aP (XF.thenN (bL (XF.thenR (XF.res (cI results4 rfl) ?_)))))));exact ⟨eM (by unfold dJ;dsimp only;rw [if_neg h0,if_neg h1,if_pos (by simpa using hc19)]),hS.below⟩
   ·have hc19:=hc;clear hc;have h3:¬ dE st sy fs ts=false:=by simpa using hc19
    refine bP (XF.thenN (aO (aO (aQ (aN (o':=6) dB rfl rfl rfl (aR isAgg27 rfl (aK (hS.at_ 0 rfl) rfl) rfl (cL underlying27 rfl rfl (aH rfl rfl (aP (XF.thenN (bX (eJ (fun m l W=>∃ i:Nat,i≤tl∧m=tl - i∧l=[(1,.pointer (some ⟨B1,0,none⟩)),(21,.slice ta tl tc),(22,.int .i64 (tl:Int)),(23,.int .i64 (i:Int))]∧(ts.take i).all (fun t=>decide (lY s t.x=0))=true∧St w [(B1,[.int .i64 s.f.tag,.int .i64 s.f.dim,.slice s.f.a s.f.len s.f.cap,.int .i64 st,.int .i64 sy,.slice fa fl fc,.slice ta tl tc],29)] [] [] W) (tl - 0) ([(1,_),(21,_),(22,_),(23,_)]) ⟨rfl,rfl,rfl,rfl,trivial⟩ (⟨0,Nat.zero_le _,rfl,rfl,rfl,hS.clear⟩) ?_))))))))))));clear hS;rintro m l W ⟨i,hi,rfl,rfl,hall,hS⟩;refine aO (aQ (cT rfl rfl rfl (aP (XF.thenN (aO (bB rfl (fun hc=>?_) (fun hc=>?_)))))))
    ·have hc24:=of_decide_eq_true hc;clear hc;have hk:i < tl:=by omega
     obtain ⟨r,hr⟩:∃ r,ts[i]?=some r:=⟨ts[i]'(by omega),by simp [show i < ts.length by omega]⟩;obtain ⟨b,off,rfl,hcs⟩:=htrow.at_ hr;have k1:=aC.agree hS.agree (Nat.zero_le _) hcs;have hri:=htin r (List.mem_of_getElem? hr);refine bP (XF.thenN (aO (bX (aO (aQ (cK  underlying27 sizeOf48 rfl rfl rfl (by omega) rfl rfl (aT (vs:=[_,_,_,_,_,_,_,_,_]) isAgg48 sizeOf48 rfl (k1) rfl (bF (cs:=[_,_,_,_,_,_,_,_,_]) hS zeroValue48 rfl rfl fun B4 W4 hS=>aU (i:=0) (vs:=[_,_,_,_,_,_,_,_,_]) (cs':=[_,_,_,_,_,_,_,_,_]) (O':=[_,_]) hS sizeOf48 rfl rfl rfl rfl rfl rfl rfl fun W5 hS=>aP (XF.thenN (aO (aQ (aN (o':=0) iQ rfl rfl rfl (aT (vs:=[_,_,_]) isAgg25 sizeOf25 rfl (aC.own (j:=0) (m:=3) (hS.at_ 1 rfl) rfl) rfl (aN (o':=3) fS rfl rfl rfl (aT (vs:=[_,_,_,_,_,_]) isAgg46 sizeOf46 rfl (aC.own (j:=3) (m:=6) (hS.at_ 0 rfl) rfl) rfl (cH (vs:=[_,_]) hS goes_14 rfl (Iz ds d s r.x _ (SIn.below hS.below hs) (WIn.below hS.below hri)) rfl fun W6 hS=>aB rfl rfl (aP (XF.thenN (aO (aQ (aH rfl rfl (dG rfl rfl rfl (aP (XF.thenN (bB rfl (fun hc=>?_) (fun hc=>?_))))))))))))))))))))))))))
     ·have hc33:=of_decide_eq_true hc;clear hc;refine aO (aQ (aH rfl rfl (aB rfl rfl (aP (XF.thenN (bL (XF.blkR (XF.thenR (XF.thenR (XF.blkR (XF.thenR (XF.res (cI results4 rfl) ?_))))))))))));exact ⟨eM (by unfold dJ;dsimp only;rw [if_neg h0,if_neg h1,if_neg h3,if_neg (by rw [cW hr (decide_eq_false hc33)];decide),chkW_51 hse hc33]),hS.below⟩
     ·have hc33:=of_decide_eq_false hc;clear hc;refine bP (XF.blkN (XF.thenN (aQ (cY rfl rfl (IntWalk.i64_in _ (by omega)) rfl (aH rfl rfl (aP ?_))))));exact XF.round (tl - (i+1)) [(1,_),(21,_),(22,_),(23,_)] (by omega) ⟨rfl,rfl,rfl,rfl,trivial⟩ ⟨i+1,by omega,rfl,rfl,eX hr hall (by simpa using hc33),hS.tail.clear⟩
    ·have hc24:=of_decide_eq_false hc;clear hc;rw [List.take_of_length_le (by omega)] at hall;refine dT (XF.thenX (XF.thenX (XF.blkX (XF.thenN (aO (aQ (aB rfl rfl (aP (XF.thenN (bL (XF.res (cI results4 rfl) ?_)))))))))));exact ⟨eM (by unfold dJ;dsimp only;rw [if_neg h0,if_neg h1,if_neg h3,if_pos hall]),hS.below⟩
theorem Bq (ds d:Nat) (a:AV) (w:World) (h:AIn w ds d a):Calls prog 4 #[a.val] w (fun e w'=>e = .returned (.int .i64 (dJ a))∧Below w.heap.size w w'):=autoA_c ds d _ _ _ _ _ _ _ _ _ _ _ w h.s h.frow h.flen h.trow h.tlen h.tin h.fmax h.tmax
theorem autoR_c (ds d:Nat) (s:SV) (st sy:Int) (fa:Option Addr) (fl fc:Nat) (fs:List Int) (ta:Option Addr) (tl tc:Nat) (ts:List TV) (w:World) (hs:SIn w ds s) (hfrow:Row w fa fs) (hflen:fs.length=fl) (htrow:mQ w ta ts) (htlen:ts.length=tl) (htin:∀ t∈ts,WIn w d t.x) (hfm:fl≤9223372036854775807) (htm:tl≤9223372036854775807) :
  Calls prog 5 #[.agg #[.int .i64 s.f.tag,.int .i64 s.f.dim,.slice s.f.a s.f.len s.f.cap,.int .i64 st,.int .i64 sy,.slice fa fl fc,.slice ta tl tc]] w (fun e w'=>e = .returned (.int .i64 (dJ ⟨s,st,sy,fa,fl,fc,fs,ta,tl,tc,ts⟩))∧Below w.heap.size w w'):=by
 refine cG (args:=[.agg #[.int .i64 s.f.tag,.int .i64 s.f.dim,.slice s.f.a s.f.len s.f.cap,.int .i64 st,.int .i64 sy,.slice fa fl fc,.slice ta tl tc]]) func5 rfl ntmps5 rfl ?_;have hS:=St.start w;refine aO (aQ (bY (cs:=[_,_,_,_,_,_,_]) hS rfl rfl rfl fun B1 W1 hS=>aB rfl rfl (aP (XF.thenN (aO (aQ (aN (o':=0) iQ rfl rfl rfl (aT (vs:=[_,_,_]) isAgg25 sizeOf25 rfl (aC.own (j:=0) (m:=3) (hS.at_ 0 rfl) rfl) rfl (cH (vs:=[_]) hS Fx rfl (wY ds s _ _ (SIn.below hS.below hs) rfl) rfl fun W2 hS=>aB rfl rfl (aP (XF.thenN (aO (aO (aQ (aH rfl rfl (dG rfl rfl rfl (aP (XF.thenN (bB rfl (fun hc=>?_) (fun hc=>?_))))))))))))))))))))
 ·have hc12:=of_decide_eq_true hc;clear hc;refine aO (aQ (aH rfl rfl (aB rfl rfl (aP (XF.thenN (bL (XF.thenR (XF.res (cI results5 rfl) ?_))))))));exact ⟨eM (by unfold dJ;dsimp only;rw [if_pos hc12]),hS.below⟩
 ·have hc12:=of_decide_eq_false hc;clear hc;have h0:¬ dR s≠0:=hc12;have hse:dR s=0:=by omega
  refine bP (XF.thenN (aO (aO (aQ (aN (o':=6) dB rfl rfl rfl (aR isAgg27 rfl (aK (hS.at_ 0 rfl) rfl) rfl (cL underlying27 rfl rfl (nZ rfl rfl rfl (aP (XF.thenN (bB rfl (fun hc=>?_) (fun hc=>?_))))))))))))
  ·have hc17:=of_decide_eq_true hc;clear hc;refine aO (aQ (aB rfl rfl (aP (XF.thenN (bL (XF.thenR (XF.res (cI results5 rfl) ?_)))))));exact ⟨eM (by unfold dJ;dsimp only;rw [if_neg h0,if_pos (by omega)]),hS.below⟩
  ·have hc17:=of_decide_eq_false hc;clear hc;have h1:¬ 65536 < tl:=by omega
   refine bP (XF.thenN (aO (aO (aQ (aN (o':=3) iH rfl rfl rfl (aR isAgg3 rfl (aK (hS.at_ 0 rfl) rfl) rfl (cT rfl rfl rfl (aH rfl rfl (cB (d:=21) rfl (fun hc=>?_) (fun hc=>?_))))))))))
   ·have hg21:=of_decide_eq_true hc;clear hc;refine aD (d:=21) rfl rfl rfl rfl (aD (d:=21) rfl rfl rfl rfl (aD (d:=21) rfl rfl rfl rfl (bC rfl rfl rfl (aH rfl rfl (aD (d:=26) rfl rfl rfl rfl (aD (d:=26) rfl rfl rfl rfl (aD (d:=26) rfl rfl rfl rfl (bC rfl rfl rfl (aH rfl rfl (aD (d:=31) rfl rfl rfl rfl (aD (d:=31) rfl rfl rfl rfl (aD (d:=31) rfl rfl rfl rfl (bC rfl rfl rfl (aP (XF.thenN (fD rfl (aO (aQ (aB rfl rfl (aP (XF.thenN (bL (XF.thenR (XF.res (cI results5 rfl) ?_))))))))))))))))))))))));exact ⟨eM (by unfold dJ;dsimp only;rw [if_neg h0,if_neg h1,if_pos (by unfold dE;rw [if_pos (by omega)])]),hS.below⟩
   ·have hg21:=of_decide_eq_false hc;clear hc;refine aI (d:=21) rfl rfl (aN (o':=3) iH rfl rfl rfl (aI (d:=21) rfl rfl (aR isAgg3 rfl (aK (hS.at_ 0 rfl) rfl) rfl (aI (d:=21) rfl rfl (nZ rfl rfl rfl (bR rfl rfl rfl (aH rfl rfl (cB (d:=26) rfl (fun hc=>?_) (fun hc=>?_)))))))))
    ·have hg26:=of_decide_eq_true hc;clear hc;refine aD (d:=26) rfl rfl rfl rfl (aD (d:=26) rfl rfl rfl rfl (aD (d:=26) rfl rfl rfl rfl (bC rfl rfl rfl (aH rfl rfl (aD (d:=31) rfl rfl rfl rfl (aD (d:=31) rfl rfl rfl rfl (aD (d:=31) rfl rfl rfl rfl (bC rfl rfl rfl (aP (XF.thenN (fD rfl (aO (aQ (aB rfl rfl (aP (XF.thenN (bL (XF.thenR (XF.res (cI results5 rfl) ?_)))))))))))))))))));exact ⟨eM (by unfold dJ;dsimp only;rw [if_neg h0,if_neg h1,if_pos (by unfold dE;rw [if_pos (by omega)])]),hS.below⟩
    ·have hg26:=of_decide_eq_false hc;clear hc;refine aI (d:=26) rfl rfl (aN (o':=4) jJ rfl rfl rfl (aI (d:=26) rfl rfl (aR isAgg3 rfl (aK (hS.at_ 0 rfl) rfl) rfl (aI (d:=26) rfl rfl (cT rfl rfl rfl (bR rfl rfl rfl (aH rfl rfl (cB (d:=31) rfl (fun hc=>?_) (fun hc=>?_)))))))))
     ·have hg31:=of_decide_eq_true hc;clear hc;refine aD (d:=31) rfl rfl rfl rfl (aD (d:=31) rfl rfl rfl rfl (aD (d:=31) rfl rfl rfl rfl (bC rfl rfl rfl (aP (XF.thenN (fD rfl (aO (aQ (aB rfl rfl (aP (XF.thenN (bL (XF.thenR (XF.res (cI results5 rfl) ?_))))))))))))));exact ⟨eM (by unfold dJ;dsimp only;rw [if_neg h0,if_neg h1,if_pos (by unfold dE;rw [if_pos (by omega)])]),hS.below⟩
     ·have hg31:=of_decide_eq_false hc;clear hc;refine aI (d:=31) rfl rfl (aN (o':=4) jJ rfl rfl rfl (aI (d:=31) rfl rfl (aR isAgg3 rfl (aK (hS.at_ 0 rfl) rfl) rfl (aI (d:=31) rfl rfl (nZ rfl rfl rfl (bR rfl rfl rfl (aP (XF.thenN (bB rfl (fun hc=>?_) (fun hc=>?_))))))))))
      ·have hc35:=of_decide_eq_true hc;clear hc;refine aO (aQ (aB rfl rfl (aP (XF.thenN (bL (XF.thenR (XF.res (cI results5 rfl) ?_)))))));exact ⟨eM (by unfold dJ;dsimp only;rw [if_neg h0,if_neg h1,if_pos (by unfold dE;rw [if_pos (by omega)])]),hS.below⟩
      ·have hc35:=of_decide_eq_false hc;clear hc;have h2:¬ (st < 0∨4096 < st∨sy < 0∨4096 < sy):=by omega
       refine bP (XF.thenN (aO (aO (aQ (aB rfl rfl (aP (XF.thenN (bX (eJ (fun m l W=>∃ i:Nat,i≤fl∧m=fl - i∧l=[(1,.pointer (some ⟨B1,0,none⟩)),(4,.int .i64 (i:Int))]∧(∀ j,j < i→mB st fs j=true)∧St w [(B1,[.int .i64 s.f.tag,.int .i64 s.f.dim,.slice s.f.a s.f.len s.f.cap,.int .i64 st,.int .i64 sy,.slice fa fl fc,.slice ta tl tc],29)] [] [] W) (fl - 0) ([(1,_),(4,_)]) ⟨rfl,rfl,trivial⟩ (⟨0,Nat.zero_le _,rfl,rfl,fun j hj=>absurd hj (Nat.not_lt_zero _),hS.clear⟩) ?_)))))))));clear hS;rintro m l W ⟨i,hi,rfl,rfl,hall,hS⟩;refine aO (aO (aQ (aH rfl rfl (aN (o':=5) eV rfl rfl rfl (aR isAgg26 rfl (aK (hS.at_ 0 rfl) rfl) rfl (cL underlying26 rfl rfl (cT rfl rfl rfl (aP (XF.thenN (bB rfl (fun hc=>?_) (fun hc=>?_)))))))))))
       ·have hc40:=of_decide_eq_true hc;clear hc;have hk:i < fl:=by omega
        obtain ⟨b,off,y,rfl,hy,hyc⟩:=hfrow.at1 (show i < fs.length by omega);have k1:=hS.old hyc;refine bP (XF.thenN (aO (bX (aO ?_))));rcases (show inQ y st=false∨(inQ y st=true∧i=0)∨(inQ y st=true∧0 < i) by cases inQ y st<;>simp<;>omega) with e1 | ⟨e1,h9⟩ | ⟨e1,h9⟩
        ·skip;refine iX (m:=26) cC hS (by kernel_rfl) (by kernel_rfl) rfl (cE 1 rfl 1 rfl rfl (fun w hw=>aY (vs:=[_,_,_,_,_,_,_]) isAgg29 sizeOf29 rfl (aC.agree (aL hw 0) (Nat.zero_le _) (aC.own (j:=0) (m:=7) (hS.at_ 0 rfl) rfl))) rfl (cE 2 rfl 1 rfl rfl (fun w hw=>aV (o':=5) eV rfl rfl) rfl (aZ 3 rfl 44 1 rfl rfl rfl (fun w hw=>bA isAgg26 rfl ((aL hw 0).cell (Nat.zero_le _) (aK (hS.at_ 0 rfl) rfl))) rfl (cE 4 rfl 4 rfl rfl (fun w hw=>aW rfl) rfl (aJ 5 rfl (isV _) (aE _) (rgV (li:=[(45,_),(46,_)]) rfl (aS rfl) ⟨aM 2 (aA rfl rfl rfl),aM 3 (aA rfl rfl rfl),trivial⟩ (fun w hw=>bE  underlying26 sizeOf3 rfl rfl rfl (by omega) rfl) (aF rfl)) (aZ 6 rfl 47 4 rfl rfl rfl (fun w hw=>bA isAgg3 rfl ((aL hw 0).cell (Nat.zero_le _) (k1))) rfl ?_))))));refine aJ 7 rfl (isV (.bool false)) (aE _) (cN [isV _,isV _] rfl vX (aS rfl) ⟨bT (aM 0 (aA rfl rfl rfl)),bT (aM 5 (aA rfl rfl rfl)),trivial⟩ (fun vs w' hb hh=>by have e:=bW (us:=[_,_]) hh;subst e;exact (Bp ⟨s,st,sy,_,fl,fc,fs,ta,tl,tc,ts⟩ y _).mono fun e w2 h=>⟨_,by rw [h.1,e1],rfl,h.2⟩) (aF rfl)) ?_;refine aJ 8 rfl (isV (.bool true)) (aE _) (lG (li:=[(49,_)]) rfl (aS rfl) ⟨aM 6 (aA rfl rfl rfl),trivial⟩ (fun w hw=>jN rfl) (rfl) (aF rfl)) (aZ 9 rfl 50 7 rfl rfl rfl (fun w hw=>aW rfl) rfl (aJ 10 rfl (isV undef) (aE _) (bI rfl (bK 51 rfl (aA rfl rfl rfl) rfl) (aF rfl)) (aJ 11 rfl (isV undef) (aE _) (bI rfl (bK 51 rfl (aA rfl rfl rfl) rfl) (aF rfl)) (aJ 12 rfl (isV undef) (aE _) (bI rfl (bK 51 rfl (aA rfl rfl rfl) rfl) (aF rfl)) (aJ 13 rfl (isV undef) (aE _) (bI rfl (qJ 54 rfl (aA rfl rfl rfl)) (aF rfl)) (aJ 14 rfl (isV undef) (aE _) (bI rfl (qJ 54 rfl (aA rfl rfl rfl)) (aF rfl)) (aJ 15 rfl (isV undef) (aE _) (bI rfl (qJ 54 rfl (aA rfl rfl rfl)) (aF rfl)) (aJ 16 rfl (isV undef) (aE _) (bI rfl (qJ 54 rfl (aA rfl rfl rfl)) (aF rfl)) (aJ 17 rfl (isV undef) (aE _) (bI rfl (qJ 54 rfl (aA rfl rfl rfl)) (aF rfl)) (aJ 18 rfl (isV undef) (aE _) (bI rfl (qJ 54 rfl (aA rfl rfl rfl)) (aF rfl)) (aJ 19 rfl (isV undef) (aE _) (bI rfl (qJ 54 rfl (aA rfl rfl rfl)) (aF rfl)) (aJ 20 rfl (isV undef) (aE _) (bI rfl (qJ 54 rfl (aA rfl rfl rfl)) (aF rfl)) (aJ 21 rfl (isV undef) (aE _) (bI rfl (qJ 54 rfl (aA rfl rfl rfl)) (aF rfl)) (aJ 22 rfl (isV undef) (aE _) (bI rfl (qJ 54 rfl (aA rfl rfl rfl)) (aF rfl)) (aJ 23 rfl (isV undef) (aE _) (bI rfl (qJ 54 rfl (aA rfl rfl rfl)) (aF rfl)) (aJ 24 rfl (isV undef) (aE _) (bI rfl (qJ 54 rfl (aA rfl rfl rfl)) (aF rfl)) (aJ 25 rfl (isV undef) (aE _) (bI rfl (bK 51 rfl (aA rfl rfl rfl) rfl) (aF rfl)) (aZ 26 rfl 51 8 rfl rfl rfl (fun w hw=>eC rfl rfl) rfl (dI ?_)))))))))))))))))));intro W3 hbR;clear hS;intro hS;refine aG (aG (aG (aG (aG (aG (aG (aG (aG (aG (aG (aG (aG (aG (aG (aG (aG (aG (aG (aG (aG (aG (aG (aG (aG (aG (cM (XF.thenN (fD rfl (aO (aQ (aB rfl rfl (aP (XF.thenN (bL ?_))))))))))))))))))))))))))))))))));refine XF.blkR (XF.thenR (XF.thenR (XF.blkR (XF.thenR (XF.res (cI results5 rfl) ?_)))));exact ⟨eM (by unfold dJ;dsimp only;rw [if_neg h0,if_neg h1,if_pos (by unfold dE;rw [if_neg h2,zB (i:=i) (by omega) (Ei hy e1),Bool.false_and])]),hS.below⟩
        ·skip;refine iX (m:=26) cC hS (by kernel_rfl) (by kernel_rfl) rfl (cE 1 rfl 1 rfl rfl (fun w hw=>aY (vs:=[_,_,_,_,_,_,_]) isAgg29 sizeOf29 rfl (aC.agree (aL hw 0) (Nat.zero_le _) (aC.own (j:=0) (m:=7) (hS.at_ 0 rfl) rfl))) rfl (cE 2 rfl 1 rfl rfl (fun w hw=>aV (o':=5) eV rfl rfl) rfl (aZ 3 rfl 44 1 rfl rfl rfl (fun w hw=>bA isAgg26 rfl ((aL hw 0).cell (Nat.zero_le _) (aK (hS.at_ 0 rfl) rfl))) rfl (cE 4 rfl 4 rfl rfl (fun w hw=>aW rfl) rfl (aJ 5 rfl (isV _) (aE _) (rgV (li:=[(45,_),(46,_)]) rfl (aS rfl) ⟨aM 2 (aA rfl rfl rfl),aM 3 (aA rfl rfl rfl),trivial⟩ (fun w hw=>bE  underlying26 sizeOf3 rfl rfl rfl (by omega) rfl) (aF rfl)) (aZ 6 rfl 47 4 rfl rfl rfl (fun w hw=>bA isAgg3 rfl ((aL hw 0).cell (Nat.zero_le _) (k1))) rfl ?_))))));refine aJ 7 rfl (isV (.bool true)) (aE _) (cN [isV _,isV _] rfl vX (aS rfl) ⟨bT (aM 0 (aA rfl rfl rfl)),bT (aM 5 (aA rfl rfl rfl)),trivial⟩ (fun vs w' hb hh=>by have e:=bW (us:=[_,_]) hh;subst e;exact (Bp ⟨s,st,sy,_,fl,fc,fs,ta,tl,tc,ts⟩ y _).mono fun e w2 h=>⟨_,by rw [h.1,e1],rfl,h.2⟩) (aF rfl)) ?_;refine aJ 8 rfl (isV (.bool false)) (aE _) (lG (li:=[(49,_)]) rfl (aS rfl) ⟨aM 6 (aA rfl rfl rfl),trivial⟩ (fun w hw=>jN rfl) (rfl) (aF rfl)) (aZ 9 rfl 50 7 rfl rfl rfl (fun w hw=>aW rfl) rfl (aJ 10 rfl (isV _) (aE _) (rgV (li:=[(4,_)]) rfl (bD 51 rfl (aA rfl rfl rfl)) ⟨cJ rfl,trivial⟩ (fun w hw=>aW rfl) (aF rfl)) (aJ 11 rfl (isV (.bool false)) (aE _) (lG (li:=[(52,_)]) rfl (bD 51 rfl (aA rfl rfl rfl)) ⟨aM 9 (aA rfl rfl rfl),trivial⟩ (fun w hw=>Lk rfl rfl) (by rw [decide_eq_false (by omega)]) (aF rfl)) (aJ 12 rfl (isV _) (aE _) (rgV (li:=[(53,_)]) rfl (bD 51 rfl (aA rfl rfl rfl)) ⟨aM 10 (aA rfl rfl rfl),trivial⟩ (fun w hw=>aW rfl) (aF rfl)) (aJ 13 rfl (isV undef) (aE _) (bI rfl (bK 54 rfl (aA rfl rfl rfl) rfl) (aF rfl)) (aJ 14 rfl (isV undef) (aE _) (bI rfl (bK 54 rfl (aA rfl rfl rfl) rfl) (aF rfl)) (aJ 15 rfl (isV undef) (aE _) (bI rfl (bK 54 rfl (aA rfl rfl rfl) rfl) (aF rfl)) (aJ 16 rfl (isV undef) (aE _) (bI rfl (bK 54 rfl (aA rfl rfl rfl) rfl) (aF rfl)) (aJ 17 rfl (isV undef) (aE _) (bI rfl (bK 54 rfl (aA rfl rfl rfl) rfl) (aF rfl)) (aJ 18 rfl (isV undef) (aE _) (bI rfl (bK 54 rfl (aA rfl rfl rfl) rfl) (aF rfl)) (aJ 19 rfl (isV undef) (aE _) (bI rfl (bK 54 rfl (aA rfl rfl rfl) rfl) (aF rfl)) (aJ 20 rfl (isV undef) (aE _) (bI rfl (bK 54 rfl (aA rfl rfl rfl) rfl) (aF rfl)) (aJ 21 rfl (isV undef) (aE _) (bI rfl (bK 54 rfl (aA rfl rfl rfl) rfl) (aF rfl)) (aJ 22 rfl (isV undef) (aE _) (bI rfl (bK 54 rfl (aA rfl rfl rfl) rfl) (aF rfl)) (aJ 23 rfl (isV undef) (aE _) (bI rfl (bK 54 rfl (aA rfl rfl rfl) rfl) (aF rfl)) (aJ 24 rfl (isV undef) (aE _) (bI rfl (bK 54 rfl (aA rfl rfl rfl) rfl) (aF rfl)) (aJ 25 rfl (isV _) (aE _) (rgV (li:=[(54,_)]) rfl (bD 51 rfl (aA rfl rfl rfl)) ⟨aM 11 (aA rfl rfl rfl),trivial⟩ (fun w hw=>eD rfl rfl) (aF rfl)) (aJ 26 rfl (isV _) (aE _) (rgV (li:=[(51,_),(67,_)]) rfl (aS rfl) ⟨aM 8 (aA rfl rfl rfl),aM 24 (aA rfl rfl rfl),trivial⟩ (fun w hw=>eD rfl rfl) (aF rfl)) (dI ?_)))))))))))))))))));intro W4 hbR;clear hS;intro hS;refine aG (aG (aG (aG (aG (aG (aG (aG (aG (aG (aG (aG (aG (aG (aG (aG (aG (aG (aG (aG (aG (aG (aG (aG (aG (aG (cM (XF.thenN (tI rfl (bP (XF.blkN (XF.thenN (aQ ?_))))))))))))))))))))))))))))))));refine aH rfl rfl (cY rfl rfl (IntWalk.i64_in _ (by omega)) rfl (aB rfl rfl (aP ?_)));exact XF.round (fl - (i+1)) [(1,_),(4,_)] (by omega) ⟨rfl,rfl,trivial⟩ ⟨i+1,by omega,rfl,rfl,vW hall (Bi hy e1 h9),hS.clear⟩
        ·obtain ⟨b2,off2,z,e2,hz,hzc⟩:=hfrow.at1 (show i - 1 < fs.length by omega);cases e2;have k2:=hS.old hzc;refine iX (m:=26) cC hS (by kernel_rfl) (by kernel_rfl) rfl (cE 1 rfl 1 rfl rfl (fun w hw=>aY (vs:=[_,_,_,_,_,_,_]) isAgg29 sizeOf29 rfl (aC.agree (aL hw 0) (Nat.zero_le _) (aC.own (j:=0) (m:=7) (hS.at_ 0 rfl) rfl))) rfl (cE 2 rfl 1 rfl rfl (fun w hw=>aV (o':=5) eV rfl rfl) rfl (aZ 3 rfl 44 1 rfl rfl rfl (fun w hw=>bA isAgg26 rfl ((aL hw 0).cell (Nat.zero_le _) (aK (hS.at_ 0 rfl) rfl))) rfl (cE 4 rfl 4 rfl rfl (fun w hw=>aW rfl) rfl (aJ 5 rfl (isV _) (aE _) (rgV (li:=[(45,_),(46,_)]) rfl (aS rfl) ⟨aM 2 (aA rfl rfl rfl),aM 3 (aA rfl rfl rfl),trivial⟩ (fun w hw=>bE  underlying26 sizeOf3 rfl rfl rfl (by omega) rfl) (aF rfl)) (aZ 6 rfl 47 4 rfl rfl rfl (fun w hw=>bA isAgg3 rfl ((aL hw 0).cell (Nat.zero_le _) (k1))) rfl ?_))))));refine aJ 7 rfl (isV (.bool true)) (aE _) (cN [isV _,isV _] rfl vX (aS rfl) ⟨bT (aM 0 (aA rfl rfl rfl)),bT (aM 5 (aA rfl rfl rfl)),trivial⟩ (fun vs w' hb hh=>by have e:=bW (us:=[_,_]) hh;subst e;exact (Bp ⟨s,st,sy,_,fl,fc,fs,ta,tl,tc,ts⟩ y _).mono fun e w2 h=>⟨_,by rw [h.1,e1],rfl,h.2⟩) (aF rfl)) ?_
         refine aJ 8 rfl (isV (.bool false)) (aE _) (lG (li:=[(49,_)]) rfl (aS rfl) ⟨aM 6 (aA rfl rfl rfl),trivial⟩ (fun w hw=>jN rfl) (rfl) (aF rfl)) (aZ 9 rfl 50 7 rfl rfl rfl (fun w hw=>aW rfl) rfl (aJ 10 rfl (isV _) (aE _) (rgV (li:=[(4,_)]) rfl (bD 51 rfl (aA rfl rfl rfl)) ⟨cJ rfl,trivial⟩ (fun w hw=>aW rfl) (aF rfl)) (aJ 11 rfl (isV (.bool true)) (aE _) (lG (li:=[(52,_)]) rfl (bD 51 rfl (aA rfl rfl rfl)) ⟨aM 9 (aA rfl rfl rfl),trivial⟩ (fun w hw=>Lk rfl rfl) (by rw [decide_eq_true (by omega)]) (aF rfl)) (aJ 12 rfl (isV _) (aE _) (rgV (li:=[(53,_)]) rfl (bD 51 rfl (aA rfl rfl rfl)) ⟨aM 10 (aA rfl rfl rfl),trivial⟩ (fun w hw=>aW rfl) (aF rfl)) (aJ 13 rfl (isV _) (aE _) (rgV (li:=[(1,_)]) rfl (bD 54 rfl (aA rfl rfl rfl)) ⟨cJ rfl,trivial⟩ (fun w hw=>aV (o':=5) eV rfl rfl) (aF rfl)) (aJ 14 rfl (isV _) (aE _) (rgV (li:=[(55,_)]) rfl (bD 54 rfl (aA rfl rfl rfl)) ⟨aM 12 (aA rfl rfl rfl),trivial⟩ (fun w hw=>bA isAgg26 rfl ((aL hw 0).cell (Nat.zero_le _) (aK (hS.at_ 0 rfl) rfl))) (aF rfl)) (aJ 15 rfl (isV _) (aE _) (rgV (li:=[(4,_)]) rfl (bD 54 rfl (aA rfl rfl rfl)) ⟨cJ rfl,trivial⟩ (fun w hw=>aW rfl) (aF rfl)) (aJ 16 rfl (isV _) (aE _) (rgV (li:=[(56,_),(57,_)]) rfl (bD 54 rfl (aA rfl rfl rfl)) ⟨aM 13 (aA rfl rfl rfl),aM 14 (aA rfl rfl rfl),trivial⟩ (fun w hw=>bE  underlying26 sizeOf3 rfl rfl rfl (by omega) rfl) (aF rfl)) (aJ 17 rfl (isV _) (aE _) (rgV (li:=[(58,_)]) rfl (bD 54 rfl (aA rfl rfl rfl)) ⟨aM 15 (aA rfl rfl rfl),trivial⟩ (fun w hw=>bA isAgg3 rfl ((aL hw 0).cell (Nat.zero_le _) (k1))) (aF rfl)) (aJ 18 rfl (isV _) (aE _) (rgV (li:=[(1,_)]) rfl (bD 54 rfl (aA rfl rfl rfl)) ⟨cJ rfl,trivial⟩ (fun w hw=>aV (o':=5) eV rfl rfl) (aF rfl)) (aJ 19 rfl (isV _) (aE _) (rgV (li:=[(60,_)]) rfl (bD 54 rfl (aA rfl rfl rfl)) ⟨aM 17 (aA rfl rfl rfl),trivial⟩ (fun w hw=>bA isAgg26 rfl ((aL hw 0).cell (Nat.zero_le _) (aK (hS.at_ 0 rfl) rfl))) (aF rfl)) (aJ 20 rfl (isV _) (aE _) (rgV (li:=[(4,_)]) rfl (bD 54 rfl (aA rfl rfl rfl)) ⟨cJ rfl,trivial⟩ (fun w hw=>aW rfl) (aF rfl)) (aJ 21 rfl (isV _) (aE _) (rgV (li:=[(62,_)]) rfl (bD 54 rfl (aA rfl rfl rfl)) ⟨aM 19 (aA rfl rfl rfl),trivial⟩ (fun w hw=>Ue rfl rfl (IntWalk.i64_in _ (by omega))) (aF rfl)) (aJ 22 rfl (isV _) (aE _) (rgV (li:=[(61,_),(63,_)]) rfl (bD 54 rfl (aA rfl rfl rfl)) ⟨aM 18 (aA rfl rfl rfl),aM 20 (aA rfl rfl rfl),trivial⟩ (fun w hw=>bE (j:=(i - 1)) underlying26 sizeOf3 rfl rfl (by omega) (by omega) rfl) (aF rfl)) (aJ 23 rfl (isV _) (aE _) (rgV (li:=[(64,_)]) rfl (bD 54 rfl (aA rfl rfl rfl)) ⟨aM 21 (aA rfl rfl rfl),trivial⟩ (fun w hw=>bA isAgg3 rfl ((aL hw 0).cell (Nat.zero_le _) (k2))) (aF rfl)) (aJ 24 rfl (isV _) (aE _) (rgV (li:=[(59,_),(65,_)]) rfl (bD 54 rfl (aA rfl rfl rfl)) ⟨aM 16 (aA rfl rfl rfl),aM 22 (aA rfl rfl rfl),trivial⟩ (fun w hw=>Ud rfl rfl) (aF rfl)) (aJ 25 rfl (isV _) (aE _) (rgV (li:=[(54,_),(66,_)]) rfl (bD 51 rfl (aA rfl rfl rfl)) ⟨aM 11 (aA rfl rfl rfl),aM 23 (aA rfl rfl rfl),trivial⟩ (fun w hw=>eC rfl rfl) (aF rfl)) (aJ 26 rfl (isV _) (aE _) (rgV (li:=[(51,_),(67,_)]) rfl (aS rfl) ⟨aM 8 (aA rfl rfl rfl),aM 24 (aA rfl rfl rfl),trivial⟩ (fun w hw=>eD rfl rfl) (aF rfl)) (dI ?_)))))))))))))))))));intro W5 hbR;clear hS;intro hS;refine aG (aG (aG (aG (aG (aG (aG (aG (aG (aG (aG (aG (aG (aG (aG (aG (aG (aG (aG (aG (aG (aG (aG (aG (aG (aG (cM (XF.thenN (bB rfl (fun hc=>?_) (fun hc=>?_)))))))))))))))))))))))))))))
         ·have hc68:=hc;clear hc;have hyz:=of_decide_eq_true hc68;refine aO (aQ (aB rfl rfl (aP (XF.thenN (bL (XF.blkR (XF.thenR (XF.thenR (XF.blkR (XF.thenR (XF.res (cI results5 rfl) ?_)))))))))));exact ⟨eM (by unfold dJ;dsimp only;rw [if_neg h0,if_neg h1,if_pos (by unfold dE;rw [if_neg h2,zB (i:=i) (by omega) (by rw [sS hy hz e1 h9];exact decide_eq_false (by omega)),Bool.false_and])]),hS.below⟩
         ·have hc68:=hc;clear hc;have hyz:=of_decide_eq_false hc68;refine bP (XF.blkN (XF.thenN (aQ (aH rfl rfl (cY rfl rfl (IntWalk.i64_in _ (by omega)) rfl (aB rfl rfl (aP ?_)))))));exact XF.round (fl - (i+1)) [(1,_),(4,_)] (by omega) ⟨rfl,rfl,trivial⟩ ⟨i+1,by omega,rfl,rfl,vW hall (by rw [sS hy hz e1 h9];exact decide_eq_true (by omega)),hS.clear⟩
       ·have hc40:=of_decide_eq_false hc;clear hc;have hfb:Gr st fs=true:=O8 fun j hj=>hall j (by omega)
        refine dT (XF.thenX (XF.thenX (XF.blkX (XF.thenN (aO (aO (aQ (aB rfl rfl (aP (XF.thenN (bX (eJ (fun m l W=>∃ i:Nat,i≤tl∧m=tl - i∧l=[(1,.pointer (some ⟨B1,0,none⟩)),(5,.int .i64 (i:Int))]∧(ts.take i).all (trB st sy)=true∧St w [(B1,[.int .i64 s.f.tag,.int .i64 s.f.dim,.slice s.f.a s.f.len s.f.cap,.int .i64 st,.int .i64 sy,.slice fa fl fc,.slice ta tl tc],29)] [] [] W) (tl - 0) ([(1,_),(5,_)]) ⟨rfl,rfl,trivial⟩ (⟨0,Nat.zero_le _,rfl,rfl,rfl,hS.clear⟩) ?_))))))))))));clear hS;rintro m l W ⟨i,hi,rfl,rfl,hall,hS⟩;refine aO (aO (aQ (aH rfl rfl (aN (o':=6) dB rfl rfl rfl (aR isAgg27 rfl (aK (hS.at_ 0 rfl) rfl) rfl (cL underlying27 rfl rfl (cT rfl rfl rfl (aP (XF.thenN (bB rfl (fun hc=>?_) (fun hc=>?_)))))))))))
        ·have hc73:=of_decide_eq_true hc;clear hc;have hk:i < tl:=by omega
         obtain ⟨r,hr⟩:∃ r,ts[i]?=some r:=⟨ts[i]'(by omega),by simp [show i < ts.length by omega]⟩;obtain ⟨b,off,rfl,hcs⟩:=htrow.at_ hr;have k1:=aC.agree hS.agree (Nat.zero_le _) hcs;have hri:=htin r (List.mem_of_getElem? hr);refine bP (XF.thenN (aO (bX (aO (aQ (aN (o':=6) dB rfl rfl rfl (aR isAgg27 rfl (aK (hS.at_ 0 rfl) rfl) rfl (aH rfl rfl (cK  underlying27 sizeOf48 rfl rfl rfl (by omega) rfl rfl (aT (vs:=[_,_,_,_,_,_,_,_,_]) isAgg48 sizeOf48 rfl (k1) rfl (bF (cs:=[_,_,_,_,_,_,_,_,_]) hS zeroValue48 rfl rfl fun B6 W6 hS=>aU (i:=0) (vs:=[_,_,_,_,_,_,_,_,_]) (cs':=[_,_,_,_,_,_,_,_,_]) (O':=[_,_]) hS sizeOf48 rfl rfl rfl rfl rfl rfl rfl fun W7 hS=>aP (XF.thenN (aO (aQ (aT (vs:=[_,_,_,_,_,_,_]) isAgg29 sizeOf29 rfl (aC.own (j:=0) (m:=7) (hS.at_ 1 rfl) rfl) rfl (aN (o':=0) jI rfl rfl rfl (aR isAgg3 rfl (aK (hS.at_ 0 rfl) rfl) rfl (cH (vs:=[_,_]) hS vX rfl (Bp ⟨s,st,sy,fa,fl,fc,fs,_,tl,tc,ts⟩ r.f _) rfl fun W8 hS=>fB rfl rfl (aH rfl rfl (cB (d:=86) rfl (fun hc=>?_) (fun hc=>?_)))))))))))))))))))))
         ·have hg86:=hc;clear hc;have e1:inQ r.f st=false:=by simpa using hg86
          refine aD (d:=86) rfl rfl rfl rfl (aD (d:=86) rfl rfl rfl rfl (aD (d:=86) rfl rfl rfl rfl (aD (d:=86) rfl rfl rfl rfl (aD (d:=86) rfl rfl rfl rfl (bC rfl rfl rfl (aH rfl rfl (aD (d:=93) rfl rfl rfl rfl (aD (d:=93) rfl rfl rfl rfl (aD (d:=93) rfl rfl rfl rfl (bC rfl rfl rfl (aH rfl rfl (aD (d:=98) rfl rfl rfl rfl (aD (d:=98) rfl rfl rfl rfl (aD (d:=98) rfl rfl rfl rfl (aD (d:=98) rfl rfl rfl rfl (aD (d:=98) rfl rfl rfl rfl (bC rfl rfl rfl (aP (XF.thenN (fD rfl (aO (aQ (aB rfl rfl (aP (XF.thenN (bL (XF.blkR (XF.thenR (XF.thenR (XF.blkR (XF.thenR (XF.res (cI results5 rfl) ?_))))))))))))))))))))))))))))))));exact ⟨eM (by unfold dJ;dsimp only;rw [if_neg h0,if_neg h1,if_pos (by unfold dE;rw [if_neg h2,cW hr (by simp [trB,e1]),Bool.and_false])]),hS.below⟩
         ·have hg86:=hc;clear hc;have e1:inQ r.f st=true:=by simpa using hg86
          refine aI (d:=86) rfl rfl (aT (vs:=[_,_,_,_,_,_,_]) isAgg29 sizeOf29 rfl (aC.own (j:=0) (m:=7) (hS.at_ 1 rfl) rfl) rfl (aI (d:=86) rfl rfl (aN (o':=2) iG rfl rfl rfl (aI (d:=86) rfl rfl (aR isAgg3 rfl (aK (hS.at_ 0 rfl) rfl) rfl (aI (d:=86) rfl rfl (cH (vs:=[_,_]) hS vX rfl (Bp ⟨s,st,sy,fa,fl,fc,fs,_,tl,tc,ts⟩ r.t _) rfl fun W9 hS=>aI (d:=86) rfl rfl (fB rfl rfl (bR rfl rfl rfl (aH rfl rfl (cB (d:=93) rfl (fun hc=>?_) (fun hc=>?_))))))))))))
          ·have hg93:=hc;clear hc;have e3:inQ r.t st=false:=by simpa using hg93
           refine aD (d:=93) rfl rfl rfl rfl (aD (d:=93) rfl rfl rfl rfl (aD (d:=93) rfl rfl rfl rfl (bC rfl rfl rfl (aH rfl rfl (aD (d:=98) rfl rfl rfl rfl (aD (d:=98) rfl rfl rfl rfl (aD (d:=98) rfl rfl rfl rfl (aD (d:=98) rfl rfl rfl rfl (aD (d:=98) rfl rfl rfl rfl (bC rfl rfl rfl (aP (XF.thenN (fD rfl (aO (aQ (aB rfl rfl (aP (XF.thenN (bL (XF.blkR (XF.thenR (XF.thenR (XF.blkR (XF.thenR (XF.res (cI results5 rfl) ?_)))))))))))))))))))))))));exact ⟨eM (by unfold dJ;dsimp only;rw [if_neg h0,if_neg h1,if_pos (by unfold dE;rw [if_neg h2,cW hr (by simp [trB,e3]),Bool.and_false])]),hS.below⟩
          ·have hg93:=hc;clear hc;have e3:inQ r.t st=true:=by simpa using hg93
           refine aI (d:=93) rfl rfl (aN (o':=1) iF rfl rfl rfl (aI (d:=93) rfl rfl (aR isAgg3 rfl (aK (hS.at_ 0 rfl) rfl) rfl (aI (d:=93) rfl rfl (cT rfl rfl rfl (bR rfl rfl rfl (aH rfl rfl (cB (d:=98) rfl (fun hc=>?_) (fun hc=>?_)))))))))
           ·have hg98:=of_decide_eq_true hc;clear hc;refine aD (d:=98) rfl rfl rfl rfl (aD (d:=98) rfl rfl rfl rfl (aD (d:=98) rfl rfl rfl rfl (aD (d:=98) rfl rfl rfl rfl (aD (d:=98) rfl rfl rfl rfl (bC rfl rfl rfl (aP (XF.thenN (fD rfl (aO (aQ (aB rfl rfl (aP (XF.thenN (bL (XF.blkR (XF.thenR (XF.thenR (XF.blkR (XF.thenR (XF.res (cI results5 rfl) ?_))))))))))))))))))));exact ⟨eM (by unfold dJ;dsimp only;rw [if_neg h0,if_neg h1,if_pos (by unfold dE;rw [if_neg h2,cW hr (by simp [trB,show ¬ (-1≤r.g) by omega]),Bool.and_false])]),hS.below⟩
           ·have hg98:=of_decide_eq_false hc;clear hc;refine aI (d:=98) rfl rfl (aN (o':=1) iF rfl rfl rfl (aI (d:=98) rfl rfl (aR isAgg3 rfl (aK (hS.at_ 0 rfl) rfl) rfl (aI (d:=98) rfl rfl (aN (o':=4) jJ rfl rfl rfl (aI (d:=98) rfl rfl (aR isAgg3 rfl (aK (hS.at_ 1 rfl) rfl) rfl (aI (d:=98) rfl rfl (tV rfl rfl rfl (bR rfl rfl rfl (aP (XF.thenN (bB rfl (fun hc=>?_) (fun hc=>?_))))))))))))))
            ·have hc104:=of_decide_eq_true hc;clear hc;refine aO (aQ (aB rfl rfl (aP (XF.thenN (bL (XF.blkR (XF.thenR (XF.thenR (XF.blkR (XF.thenR (XF.res (cI results5 rfl) ?_)))))))))));exact ⟨eM (by unfold dJ;dsimp only;rw [if_neg h0,if_neg h1,if_pos (by unfold dE;rw [if_neg h2,cW hr (by simp [trB,show ¬ (r.g < sy) by omega]),Bool.and_false])]),hS.below⟩
            ·have hc104:=of_decide_eq_false hc;clear hc;refine bP (XF.blkN (XF.thenN (aQ (aH rfl rfl (cY rfl rfl (IntWalk.i64_in _ (by omega)) rfl (aB rfl rfl (aP ?_)))))));exact XF.round (tl - (i+1)) [(1,_),(5,_)] (by omega) ⟨rfl,rfl,trivial⟩ ⟨i+1,by omega,rfl,rfl,eX hr hall (by simp only [trB,e1,e3,Bool.true_and];rw [decide_eq_true (show -1≤r.g by omega),decide_eq_true (show r.g < sy by omega)];rfl),hS.tail.clear⟩
        ·have hc73:=of_decide_eq_false hc;clear hc;rw [List.take_of_length_le (by omega)] at hall;have h3:¬ dE st sy fs ts=false:=by unfold dE;rw [if_neg h2,hfb,hall];decide
         refine dT (XF.thenX (XF.thenX (XF.blkX (XF.thenN (aO (aO (aQ (aB rfl rfl (aP (XF.thenN (bX (eJ (fun m l W=>∃ i:Nat,i≤tl∧m=tl - i∧l=[(1,.pointer (some ⟨B1,0,none⟩)),(7,.int .i64 (i:Int))]∧(ts.take i).all (fun t=>decide (lY s t.x=0))=true∧St w [(B1,[.int .i64 s.f.tag,.int .i64 s.f.dim,.slice s.f.a s.f.len s.f.cap,.int .i64 st,.int .i64 sy,.slice fa fl fc,.slice ta tl tc],29)] [] [] W) (tl - 0) ([(1,_),(7,_)]) ⟨rfl,rfl,trivial⟩ (⟨0,Nat.zero_le _,rfl,rfl,rfl,hS.clear⟩) ?_))))))))))));clear hS;rintro m l W ⟨i,hi,rfl,rfl,hall2,hS⟩;refine aO (aO (aQ (aH rfl rfl (aN (o':=6) dB rfl rfl rfl (aR isAgg27 rfl (aK (hS.at_ 0 rfl) rfl) rfl (cL underlying27 rfl rfl (cT rfl rfl rfl (aP (XF.thenN (bB rfl (fun hc=>?_) (fun hc=>?_)))))))))))
         ·have hc109:=of_decide_eq_true hc;clear hc;have hk:i < tl:=by omega
          obtain ⟨r,hr⟩:∃ r,ts[i]?=some r:=⟨ts[i]'(by omega),by simp [show i < ts.length by omega]⟩;obtain ⟨b,off,rfl,hcs⟩:=htrow.at_ hr;have k1:=aC.agree hS.agree (Nat.zero_le _) hcs;have hri:=htin r (List.mem_of_getElem? hr);have k2:aC W b (off+i * 9+3) r.x.f.six:=k1.2.2.2;refine bP (XF.thenN (aO (bX (aO (iX (m:=10) cC hS (by kernel_rfl) (by kernel_rfl) rfl (cE 1 rfl 1 rfl rfl (fun w hw=>aV (o':=0) iQ rfl rfl) rfl (aZ 2 rfl 112 0 rfl rfl rfl (fun w hw=>aY (vs:=[_,_,_]) isAgg25 sizeOf25 rfl (aC.agree (aL hw 0) (Nat.zero_le _) (aC.own (j:=0) (m:=3) (hS.at_ 0 rfl) rfl))) rfl (cE 3 rfl 1 rfl rfl (fun w hw=>aV (o':=6) dB rfl rfl) rfl (aZ 4 rfl 114 2 rfl rfl rfl (fun w hw=>bA isAgg27 rfl ((aL hw 0).cell (Nat.zero_le _) (aK (hS.at_ 0 rfl) rfl))) rfl (cE 5 rfl 7 rfl rfl (fun w hw=>aW rfl) rfl (aJ 6 rfl (isV _) (aE _) (rgV (li:=[(115,_),(116,_)]) rfl (aS rfl) ⟨aM 3 (aA rfl rfl rfl),aM 4 (aA rfl rfl rfl),trivial⟩ (fun w hw=>bE  underlying27 sizeOf48 rfl rfl rfl (by omega) rfl) (aF rfl)) (aZ 7 rfl 117 5 rfl rfl rfl (fun w hw=>aV fS rfl rfl) rfl (aZ 8 rfl 118 6 rfl rfl rfl (fun w hw=>aY (vs:=[_,_,_,_,_,_]) isAgg46 sizeOf46 rfl (aC.agree (aL hw 0) (Nat.zero_le _) (k2))) rfl ?_)))))))))))));refine aJ 9 rfl (isV (.int .i64 (lY s r.x))) (aE _) (cN [isV _,isV _] rfl goes_17 (aS rfl) ⟨bT (aM 1 (aA rfl rfl rfl)),bT (aM 7 (aA rfl rfl rfl)),trivial⟩ (fun vs w' hb hh=>by have e:=bW (us:=[_,_]) hh;subst e;exact (I0 ds d s r.x _ (SIn.below (hS.below.trans (hb.mono hS.below.size)) hs) (WIn.below (hS.below.trans (hb.mono hS.below.size)) hri)).mono fun e w2 h=>⟨_,h.1,rfl,h.2⟩) (aF rfl)) ?_;refine aZ 10 rfl 120 8 rfl rfl rfl (fun w hw=>Ab rfl rfl) rfl (dI ?_);intro W10 hbR;clear hS;intro hS;refine aG (aG (aG (aG (aG (aG (aG (aG (aG (aG (cM (XF.thenN (bB rfl (fun hc=>?_) (fun hc=>?_)))))))))))))
          ·have hc121:=hc;clear hc;refine aO (aQ (aB rfl rfl (aP (XF.thenN (bL (XF.blkR (XF.thenR (XF.thenR (XF.blkR (XF.thenR (XF.res (cI results5 rfl) ?_)))))))))));exact ⟨eM (by unfold dJ;dsimp only;rw [if_neg h0,if_neg h1,if_neg h3,if_neg (by rw [cW hr (decide_eq_false (by simpa using hc121))];decide)]),hS.below⟩
          ·have hc121:=hc;clear hc;refine bP (XF.blkN (XF.thenN (aQ (aH rfl rfl (cY rfl rfl (IntWalk.i64_in _ (by omega)) rfl (aB rfl rfl (aP ?_)))))));exact XF.round (tl - (i+1)) [(1,_),(7,_)] (by omega) ⟨rfl,rfl,trivial⟩ ⟨i+1,by omega,rfl,rfl,eX hr hall2 (by simpa using hc121),hS.clear⟩
         ·have hc109:=of_decide_eq_false hc;clear hc;rw [List.take_of_length_le (by omega)] at hall2;refine dT (XF.thenX (XF.thenX (XF.blkX (XF.thenN (aO (aQ (aB rfl rfl (aP (XF.thenN (bL (XF.res (cI results5 rfl) ?_)))))))))));exact ⟨eM (by unfold dJ;dsimp only;rw [if_neg h0,if_neg h1,if_neg h3,if_pos hall2]),hS.below⟩
theorem Je (ds d:Nat) (a:AV) (w:World) (h:AIn w ds d a):Calls prog 5 #[a.val] w (fun e w'=>e = .returned (.int .i64 (dJ a))∧Below w.heap.size w w'):=autoR_c ds d _ _ _ _ _ _ _ _ _ _ _ w h.s h.frow h.flen h.trow h.tlen h.tin h.fmax h.tmax
theorem Ms:bJ prog 4=true:=by kernel_rfl
theorem Vy:bJ prog 5=true:=by kernel_rfl
theorem own_sl9 {w:World} {lo n size:Nat} {e:TypeId} {v:Value} {xs:List Value} (h:w.ownsRow lo e size v n xs):∃ a c,v = .slice a n c:=by
 rcases h.2 with ⟨h1,h2⟩ | ⟨g,c,_,h1,_⟩
 ·subst h2;exact ⟨none,0,h1⟩
 ·exact ⟨_,c,h1⟩
section
variable {P:Program} {ops:Array Oper} {Q:Exit→Act→World→Prop} {σ:Type}
theorem Ej {ops:Array Oper} {k:Nat} (hk:ops.size=k):Ec ops k=true:=List.all_eq_true.2 fun j hj=>by rw [decide_eq_true (show j < k by have:=List.mem_range.1 hj;omega)];rfl
theorem Jf {L:Array Bool} {i:Nat} (h:L.size≤i):L.getD i false=false:=by rw [Array.getD_eq_getD_getElem?,Array.getElem?_eq_none (by omega)];rfl
theorem Cs {t0:Array Value} {d0:List Deferred} {G:σ→World→Prop} {I:σ→Nat→Value→World→Prop} {V:σ→Array Bool→Prop} {k:Nat} (hk:ops.size=k) (ht:dO ops t0.size=true)
  (hstep:∀ i,i < k→Vo P ops Q t0 G I V i)
  (hfin:∀ s L a w,RInvG ops t0 d0 G I V s L a w→(∀ i,i < k→L.getD i false=true)→wpList P ops Q (ops.toList.drop k) a w) :
  ∀ (fuel:Nat) (s:σ) (L:Array Bool) (a:Act) (w:World),L.size=ops.size→L.toList.count false≤fuel→lL ops L→RInvG ops t0 d0 G I V s L a w→wpAny P .any ops Q fuel L a w:=by
 intro fuel
 induction fuel with
 | zero =>
  intro s L a w hs hc hcl h;have hall:∀ i,i < k→L.getD i false=true:=fun i hi=>by
   cases hb:L.getD i false with
   | true=>rfl
   | false =>
    have:=fF _ _ (rI (by omega) hb);omega
  exact vM (fun _ _=>trivial) (Ej hk) ht 0 k 0 L a w (by omega) (Nat.le_refl _) (Nat.le_refl _) hs hcl hall (fun i hi=>Jf (by omega)) (hfin s L a w h hall)
 | succ fuel ih =>
  intro s L a w hs hc hcl h;by_cases hall:∀ i,i < k→L.getD i false=true
  ·exact vM (fun _ _=>trivial) (Ej hk) ht 0 k (fuel+1) L a w (by omega) (Nat.le_refl _) (Nat.zero_le _) hs hcl hall (fun i hi=>Jf (by omega)) (hfin s L a w h hall)
  ·refine ⟨fun hr=>?_,fun i hi=>?_⟩
   ·exfalso;apply hall;intro i hi;have h1:=gI ht hs hr i (by omega);rw [Array.getD_eq_getD_getElem?,Array.getElem?_eq_getElem (by omega)] at h1 ⊢;simpa using h1
   ·obtain ⟨his,hr⟩:=vL hi hs;have hik:i < k:=by omega
    have hc1:=fF _ _ (rI (by omega) hr.1);refine wpOp_mono ?_ (hstep i hik s L a w (fun t ht=>h.frame t ht) h.glob h.cons hs hcl hr (fun j d hw=>?_))
    ·rintro a' w' ⟨s',v,rfl,hV,hG,hI,hst⟩;refine ih s' _ _ _ (by simpa using hs) ?_ (hcl.next hr (by omega)) ⟨by rw [mX];exact h.size,by rw [jM];exact h.defers,fun t hf=>?_,hG,hV,fun j d hd hj=>?_⟩
     ·rw [Array.toList_setIfInBounds];omega
     ·rw [fK ?_]
      ·exact h.frame t hf
      ·intro hd;obtain ⟨o,ho,hd⟩:=Option.bind_eq_some_iff.1 hd;have:=Array.all_eq_true'.1 hf o (Array.mem_of_getElem? ho);simp [hd] at this
     ·by_cases hji:j=i
      ·subst hji;rw [tS hd (by rw [h.size];exact (gX ht hd).1)];exact hI d hd
      ·rw [getD_set_ne false (Ne.symm hji)] at hj;rw [fK (fun e=>hji ((gX ht e).2 j hd))];exact hst j d hd (h.done j d hd hj)
    ·have:j∈aft ops i:=by
      unfold bH at hw;unfold aft;cases ho:ops[i]? with
      | none=>simp [ho] at hw
      | some o =>
       simp only [ho,Bool.and_eq_true,beq_iff_eq] at hw;obtain ⟨e,he,h2⟩:=Array.any_eq_true'.1 hw.1;simp only [Bool.and_eq_true,beq_iff_eq] at h2;exact List.mem_map.2 ⟨e,List.mem_filter.2 ⟨Array.mem_toList_iff.2 he,h2.2⟩,h2.1⟩
     have hd:(ops[j]?).bind (·.dst)=some d:=by unfold bH at hw;simp only [Bool.and_eq_true,beq_iff_eq] at hw;exact hw.2
     exact h.done j d hd (hr.2 j this)
end
section
variable {P:Program} {n:Nat} {Q:Exit→Act→World→Prop} {l:Fr} {w0 W:World} {ops:Array Oper} {os:List Oper} {K:List (Nat×World)} {L:List Asr} {i:Nat}
variable {al:List Nat} {ca:Nat→Option Value→List Value} {ta:Nat→TypeId} {Os:Option Value→Own} {Gs:Option Value→cV} {lo ef jy:Nat} {s:Sg}
variable {d:Nat} {op:Op} {ty:TypeId} {pos:String} {aft_:Array Edge} {v:Value} {gd:Option (Nat×Bool)}
theorem Pc {id k:Nat} {ds:List Nat} (hm:P.follows .mixedOrders=true) (hlo:lo=W.heap.size) (hS:St w0 (Os none) (Gs none) K W) (hk:os.length=k) (ht:dO os.toArray n=true) (hal:al.all (fun a=>Nat.blt a k)=true) (hnd:al.Nodup) (hea:al.contains ef=false)
  (hev:Nat.blt ef k=true) (hdst:(List.range k).all (fun j=>Nat.beq j ef || ((os.toArray[j]?).bind (·.dst)).isSome)=true) (hds:(os.drop k).all (fun o=>match o.dst with | some d=>ds.contains d | none=>true)=true)
  (h:BLS P n os.toArray Q l w0 K lo al ef jy ca ta Os Gs (fun Lr=>∀ (Bf:Nat→Nat) (y:Value) (W':World) (Ks:List (Nat×World)),W.heap.size≤W'.heap.size→(∀ q∈Ks,lo≤q.1)→St w0 (al.map (fun a=>(Bf a,ca a (some y),ta a))++Os (some y)) (Gs (some y)) (Ks++K) W' →
   (∀ {O2 G2 K2 W2},St w0 O2 G2 K2 W2→(∀ q∈Ks,q∈K2)→iW lo (XB (al.map (fun a=>(Bf a,ca a (some y),ta a))++Os (some y)) (Gs (some y))) W' W2) →
   jY (os.take k) (Me al ef jy lo (XB (al.map (fun a=>(Bf a,ca a (some y),ta a))++Os (some y)) (Gs (some y))) Bf y 0 Lr.reverse) (tK ds l) (fun l' W'=>cO P n os.toArray Q (os.drop k) l' W') W') k [] 0):eW P n (.region id os.toArray true) Q l W:=by
 obtain ⟨Lr,h1,h2,hfin⟩:=Gj ht k 0 [] rfl (fun j _=>by rfl) (fun i hi=>by omega) h;rw [Nat.zero_add] at h1 h2;have hal':∀ a∈al,a < k:=fun a ha=>Nat.lt_of_lt_of_le (Nat.lt_succ_self _) (Nat.le_of_ble_eq_true (List.all_eq_true.1 hal a ha))
 have hea':ef∉al:=fun h=>by rw [List.contains_iff_mem.2 h] at hea;cases hea
 intro a ha;refine wp_region_any hm (Cs (t0:=a.tmps) (d0:=a.defers) (V:=VG al ef) (I:=IG al ef jy lo ca ta Os Gs Lr.reverse) (G:=GG w0 K lo ca ta Os Gs) (k:=k) (by simpa using hk) (by rw [ha.size];exact ht) (fun i hi=>(h2 i hi).step a ha) ?_ _ ⟨none,[]⟩ _ _ _ (by simp) (iP _) (fun j hj=>by rw [Array.getD_eq_getD_getElem?,Array.getElem?_replicate] at hj;split at hj<;>simp at hj) ⟨rfl,rfl,fun _ _=>rfl,⟨by unfold OE;exact hS.drew,by rw [hlo];exact Nat.le_refl _,(fun q hq=>by cases hq)⟩,⟨fun a _=>?_,(fun q hq=>by cases hq),List.Pairwise.nil,?_⟩,fun i d _ hj=>?_⟩)
 ·intro s LB a' W' hR hdone;obtain ⟨hG,hG2,hG3⟩:=hR.glob;obtain ⟨v1,v2,v3,v4⟩:=hR.cons;obtain ⟨ev,bs⟩:=s;have hall:∀ x∈al,(x,bAt bs x)∈bs:=fun x hx=>Gk ((v1 x hx).1 (hdone x (hal' x hx)))
  obtain ⟨y,hy⟩:∃ y,ev=some y:=by have h3:ev.isSome=true:=v4.1 (hdone ef (Nat.lt_of_lt_of_le (Nat.lt_succ_self _) (Nat.le_of_ble_eq_true hev)));exact Option.isSome_iff_exists.1 h3
  subst hy;have hperm:bs.Perm (al.map (fun x=>(x,bAt bs x))):=by
   refine (List.perm_ext_iff_of_nodup (v3.imp (fun h e=>h (by rw [e]))) ?_).2 fun q=>?_
   ·refine List.Pairwise.map _ (fun x y (hxy:x≠y)=>?_) hnd;intro e;exact hxy (congrArg Prod.fst e)
   ·constructor
    ·intro hq;have h3:=hall q.1 (v2 q hq);have h4:=vS v3 hq h3 rfl;rw [h4];exact List.mem_map.2 ⟨q.1,v2 q hq,rfl⟩
    ·intro hq;obtain ⟨x,hx,rfl⟩:=List.mem_map.1 hq;exact hall x hx
  have hO:(OE ca ta Os ⟨some y,bs⟩).Perm (al.map (fun a=>(bAt bs a,ca a (some y),ta a))++Os (some y)):=by unfold OE;refine List.Perm.append_right _ ?_;have:=hperm.map (fun q:Nat×Nat=>(q.2,ca q.1 (some y),ta q.1));rw [List.map_map] at this;exact this
  have hG':=hG.perm hO;have hX:∀ b,XB (OE ca ta Os ⟨some y,bs⟩) (Gs (some y)) b↔XB (al.map (fun a=>(bAt bs a,ca a (some y),ta a))++Os (some y)) (Gs (some y)) b:=fun b=>by
   unfold XB;constructor
   ·rintro (⟨p,hp,e⟩ | h);exact .inl ⟨p,hO.mem_iff.1 hp,e⟩;exact .inr h
   ·rintro (⟨p,hp,e⟩ | h);exact .inl ⟨p,hO.mem_iff.2 hp,e⟩;exact .inr h
  obtain ⟨Ks,c1,⟨qw,c2,c3⟩,c4⟩:=Vp (((al.map (fun a=>(bAt bs a,ca a (some y),ta a))++Os (some y)).map (·.1))++(Gs (some y)).filterMap (fun g=>g.v.ownBlock)) lo W';have hG4:=hG'.more Ks (fun q hq=>⟨(c1 q hq).2.1,fun p hp=>(c1 q hq).2.2 p.1 (List.mem_append_left _ (List.mem_map.2 ⟨p,hp,rfl⟩)),fun g hg b hb=>(c1 q hq).2.2 b (List.mem_append_right _ (List.mem_filterMap.2 ⟨g,hg,hb⟩))⟩);have hcov:∀ {O2 G2 K2 W2},St w0 O2 G2 K2 W2→(∀ q∈Ks,q∈K2)→iW lo (XB (al.map (fun a=>(bAt bs a,ca a (some y),ta a))++Os (some y)) (Gs (some y))) W' W2:=fun {O2 G2 K2 W2} h2 hq=>by
   refine ⟨⟨h2.below.os.trans hG.below.os.symm,h2.below.tape.trans hG.below.tape.symm,h2.below.output.trans hG.below.output.symm⟩,?_,fun b b1 b2 b3=>?_⟩
   ·have:=(h2.kept qw (hq qw c2)).1.1;rw [c3] at this;exact this
   ·obtain ⟨q,q1,q2,q3⟩:=c4 b b1 b2 (fun hb=>b3 (by
     rcases List.mem_append.1 hb with hb | hb
     ·obtain ⟨p,hp,rfl⟩:=List.mem_map.1 hb;exact .inl ⟨p,hp,rfl⟩
     ·obtain ⟨g,hg,e⟩:=List.mem_filterMap.1 hb;exact .inr ⟨g,hg,e⟩))
    exact ((h2.kept q (hq q q1)).1.2 b q2 q3).trans ((c1 q q1).2.1.2 b q2 q3).symm
  have htk:(os.take k).length=k:=by simp;omega
  refine vR (os.take k) (Me al ef jy lo (XB (al.map (fun a=>(bAt bs a,ca a (some y),ta a))++Os (some y)) (Gs (some y))) (bAt bs) y 0 Lr.reverse) (tK ds l) (fun i d hi hd'=>?_) (fun i hi hd'=>?_) (hR.size.trans ha.size) (hR.defers.trans ha.defers) ?_ (fun l' h ha'=>?_) (hfin (bAt bs) y W' Ks (by rw [← hlo];exact hG2) (fun q hq=>(c1 q hq).1) hG4 hcov)
  ·have hik:i < k:=by omega
   have hd2:(os.toArray[i]?).bind (·.dst)=some d:=by rw [List.getElem?_take,if_pos hik] at hd';simpa using hd'
   obtain ⟨i1,i2,i3,i4⟩:=hR.done i d hd2 (hdone i hik);rw [rL Lr.reverse 0 i (by simp;omega),Nat.add_zero];cases hc1:al.contains i with
   | true =>
    rw [cond_true];obtain ⟨B,hB,e⟩:=i1 (List.contains_iff_mem.1 hc1);have:=vS v3 hB (hall i (List.contains_iff_mem.1 hc1)) rfl;show _=_;rw [e,show B=bAt bs i from congrArg Prod.snd this]
   | false =>
    rw [cond_false];have hni:i∉al:=fun hm'=>by rw [List.contains_iff_mem.2 hm'] at hc1;cases hc1
    cases hc2:Nat.beq i ef with
    | true =>
     rw [cond_true];have h5:=i2 (Nat.eq_of_beq_eq_true hc2);exact (Option.some.inj h5).symm
    | false =>
     rw [cond_false];have hne:i≠ef:=fun e=>by rw [e,Nat.beq_refl] at hc2;cases hc2
     have h6:AwS lo (XB (al.map (fun a=>(bAt bs a,ca a (some y),ta a))++Os (some y)) (Gs (some y))) (atI Lr.reverse i) (a'.tmps.getD d undef) W':=fun w2 hw2=>i4 hni hne w2 ⟨hw2.1,hw2.2.1,fun b b1 b2 b3=>hw2.2.2 b b1 b2 (fun hb=>b3 ((hX b).2 hb))⟩
     cases hc3:Nat.beq i jy with
     | true =>
      rw [cond_true];refine ⟨?_,h6⟩;exact i3 (Nat.eq_of_beq_eq_true hc3) y rfl
     | false=>rw [cond_false];exact h6
  ·have hik:i < k:=by omega
   have h3:=List.all_eq_true.1 hdst i (List.mem_range.2 hik);rw [Bool.or_eq_true] at h3;have hd2:(os.toArray[i]?).bind (·.dst)=none:=by rw [List.getElem?_take,if_pos hik] at hd';simpa using hd'
   rcases h3 with h3 | h3
   ·rw [rL Lr.reverse 0 i (by simp;omega),Nat.add_zero];have hc1:al.contains i=false:=by rw [Nat.eq_of_beq_eq_true h3];exact hea
    rw [hc1,cond_false,h3,cond_true];exact ⟨y,rfl⟩
   ·rw [hd2] at h3;cases h3
  ·intro t v hv hno;have hl:=pZ hv (gM hv);have hnt:=gM hv;rw [hR.frame t ?_]
   ·exact ha.at_ t v hl
   ·unfold freeT;rw [Array.all_eq_true'];intro o' ho';have ho2:o'∈os:=by simpa using ho'
    rw [← List.take_append_drop k os] at ho2;rcases List.mem_append.1 ho2 with ho2 | ho2
    ·simpa using hno o' ho2
    ·have h5:=List.all_eq_true.1 hds o' ho2;cases hx:o'.dst with
     | none=>simp
     | some d =>
      rw [hx] at h5;simp;intro e;subst e;exact hnt (List.contains_iff_mem.1 h5)
  ·have:=h a' ha';simpa using this
 ·rw [Array.getD_eq_getD_getElem?,Array.getElem?_replicate];constructor
  ·intro h3;split at h3<;>simp at h3
  ·rintro ⟨B,hB⟩;cases hB
 ·rw [Array.getD_eq_getD_getElem?,Array.getElem?_replicate];constructor
  ·intro h3;split at h3<;>simp at h3
  ·intro h3;cases h3
 ·rw [Array.getD_eq_getD_getElem?,Array.getElem?_replicate] at hj;split at hj<;>simp at hj
end
section
variable {P:Program} {n:Nat} {Q:Exit→Act→World→Prop} {l:Fr} {w0 W:World} {ops:Array Oper} {os:List Oper} {K:List (Nat×World)} {L:List Asr} {i:Nat} {O:Own} {G:cV}
variable {al:List Nat} {zc:Nat→List Value} {ta:Nat→TypeId} {lo ef jy:Nat} {d:Nat} {ty:TypeId} {pos:String} {aft_:Array Edge} {v:Value}
def osY (O:Own) (j jx B:Nat) (cs:List Value) (U:TypeId):Option Value→Own
 | none=>O
 | some y=>O.set j (B,eQ cs jx y.cells.toList,U)
theorem xH {O:Own} {j jx B i:Nat} {cs:List Value} {U:TypeId} {ev:Option Value} {p:Nat×List Value×TypeId} (h:O[i]?=some p) (hij:Nat.beq i j=false):(osY O j jx B cs U ev)[i]?=some p:=by
 cases ev with
 | none=>exact h
 | some y =>
  show (O.set j _)[i]?=_;rw [List.getElem?_set_ne (fun e=>by rw [e,Nat.beq_refl] at hij;cases hij)];exact h
theorem zE {T U:TypeId} {x:Operand} {tyy B m:Nat} {cs:List Value} {py:Asr} (j jx:Nat) (li:Fr) (hal:al.contains ef=false) (hij:Nat.beq ef jy=false) (hi:ops[ef]?=some ⟨none,.store T x (.tmp tyy),ty,pos,aft_,none⟩) (hjy:(ops[jy]?).bind (·.dst)=some tyy) (hwy:bH ops ef jy tyy=true) (hja:al.contains jy=false) (hLy:atI L jy=py) (hNo:rJ al ef L) (hli:wV n ops l L ef li) (hx:evL li x=some (.pointer (some ⟨B,jx,none⟩)))
  (hO:O[j]?=some (B,cs,U)) (hsz:∀ w,(sizeOf T).run P w = .ok m w) (hpy:∀ v w,py v w→∃ vs:List Value,v.cells=vs.toArray∧vs.length=m∧vs.all Value.oneCell'=true) (hjm:Nat.ble (jx+m) cs.length=true):SG P n ops Q l w0 K lo al ef jy (qN zc) ta (osY O j jx B cs U) (rM G) L ef :=
 Md hal hij hi fun t0 a bs w h0 hF hG hbs hD=>by
  have hD':=vQ h0 hF hD (fun j d _ hj=>hNo j hj);have ex:=jA h0 hF hD' hli x _ hx;have hy:=((hD jy tyy hwy).2.2.2 (fun h=>by rw [List.contains_iff_mem.2 h] at hja;cases hja) (fun e=>by rw [e,Nat.beq_refl] at hij;cases hij)).here;rw [hLy] at hy;obtain ⟨vs,hc,hl,h1⟩:=hpy _ _ hy;have hcl:(a.eval (.tmp tyy)).cells.toList=vs:=by rw [hc]
  have hOk:(OE (qN zc) ta (osY O j jx B cs U) ⟨none,bs⟩)[bs.length+j]?=some (B,cs,U):=by unfold OE;rw [List.getElem?_append_right (by simp)];simpa [osY] using hO
  have hXB:XB (OE (qN zc) ta (osY O j jx B cs U) ⟨none,bs⟩) (rM G none) B:=.inl ⟨_,List.mem_of_getElem? hOk,rfl⟩;have hrun:=qB (P:=P) hsz hc hl h1 (hG.1.at_ _ hOk) (j:=jx) (Nat.le_of_ble_eq_true hjm);have hO':OE (qN zc) ta (osY O j jx B cs U) ⟨some (a.eval (.tmp tyy)),bs⟩=(OE (qN zc) ta (osY O j jx B cs U) ⟨none,bs⟩).set (bs.length+j) (B,eQ cs jx vs,U):=by unfold OE;rw [List.set_append_right _ _ (by simp)];congr 1;simp [osY,hcl]
  refine Ba hi rfl rfl rfl (by rw [ex];exact hrun) ⟨undef,a.eval (.tmp tyy),rfl,(fun d hd=>by cases hd),?_,oH hXB,?_,fun d hd=>?_⟩
  ·rw [hO'];exact hG.1.setMany _ vs jx hOk
  ·rintro b (⟨p,hp,rfl⟩ | h)
   ·rw [hO'] at hp;rcases List.mem_or_eq_of_mem_set hp with hp | rfl
    ·exact .inl (.inl ⟨p,hp,rfl⟩)
    ·exact .inl hXB
   ·exact .inl (.inr h)
  ·rw [hjy] at hd;cases hd;rfl
end
section
variable {P:Program} {n:Nat} {Q:Exit→Act→World→Prop} {l:Fr} {w0 W:World} {ops:Array Oper} {os:List Oper} {K:List (Nat×World)} {L:List Asr} {i:Nat}
variable {al:List Nat} {ca:Nat→Option Value→List Value} {ta:Nat→TypeId} {Os:Option Value→Own} {Gs:Option Value→cV} {lo ef jy:Nat} {s:Sg}
variable {d:Nat} {op:Op} {ty:TypeId} {pos:String} {aft_:Array Edge} {v:Value} {gd:Option (Nat×Bool)}
end
theorem bs_26_3 (v0:Int) (v1:Int) (v2:Int):Instr.fill (fun i=>some (i * 1,1)) ((Array.range (3 * 1)).map ((Value.cells (.int .i64 0))[· % (Value.cells (.int .i64 0)).size]!)) [(0,.int .i64 v0),(1,.int .i64 v1),(2,.int .i64 v2)]=some (List.toArray [.int .i64 v0,.int .i64 v1,.int .i64 v2]):=by kernel_rfl
abbrev MB (w0:World) (Kk:List (Nat×World)):World→Prop:=MK (fun W=>Below w0.heap.size w0 W) Kk
theorem MB.of {w0 W:World} {O:Own} {G:cV} {K Kk:List (Nat×World)} (h:St w0 O G K W) (hk:∀ q∈Kk,q∈K):MB w0 Kk W:=⟨h.below,fun q hq=>(h.kept q (hk q hq)).1⟩
theorem MB.st {w0 W:World} {K:List (Nat×World)} (h:MB w0 K W):St w0 [] [] K W:=⟨h.1,(fun p h=>by cases h),List.Pairwise.nil,(fun q hq=>⟨h.2 q hq,fun p hp=>by cases hp⟩),(fun q h=>by cases h),List.Pairwise.nil⟩
theorem jZ.keep {w0:World} {K1 K2:List (Nat×World)} {S:PS} {f:WF} {x:PX} (h:jZ (MB w0 K1) S f x) (hk:∀ q∈K1,q∈K2):jZ (MB w0 K2) S f x:=h.mono fun W hW=>⟨hW.1,fun q hq=>hW.2 q (hk q hq)⟩
theorem Vz {lo lo':Nat} {A W:World} (h:dD lo A W) (hl:lo≤lo'):dD lo' A W:=⟨h.1,fun k h1 h2=>h.2 k (Nat.le_trans hl h1) h2⟩
section
variable {P:Program} {d td:Nat} {ty:TypeId} {pos:String}
end
theorem Pd {O:Own} {j jx B:Nat} {cs:List Value} {U:TypeId} {ev:Option Value} {p:Nat×List Value×TypeId} (he:ev=none) (h:O[j]?=some p):(osY O j jx B cs U ev)[j]?=some p:=by subst he;exact h
theorem xb_lt {O:Own} {j jx B lo hi:Nat} {cs:List Value} {U:TypeId} {y:Value} (h:∀ p∈O,p.1 < lo) (hB:B < lo):∀ b,lo≤b→b < hi→¬ XB (osY O j jx B cs U (some y)) (rM [] (some y)) b:=by
 rintro b h1 _ (⟨p,hp,rfl⟩ | ⟨g,hg,_⟩)
 ·rcases List.mem_or_eq_of_mem_set (show p∈O.set j (B,eQ cs jx y.cells.toList,U) from hp) with hp | rfl
  ·exact absurd (h p hp) (Nat.not_lt_of_le h1)
  ·exact absurd hB (Nat.not_lt_of_le h1)
 ·cases hg
theorem Sj {w0 W':World} {Ks Kk:List (Nat×World)} {lo:Nat} {X:Nat→Prop} {S:PS} {f:WF} {z:PX} (hcov:∀ {O2:Own} {G2:cV} {K2:List (Nat×World)} {W2:World},St w0 O2 G2 K2 W2→(∀ q∈Ks,q∈K2)→iW lo X W' W2) (hX:∀ b,lo≤b→b < W'.heap.size→¬ X b) (h:jZ (fun W=>MB w0 Kk W∧dD lo W' W) S f z):jZ (MB w0 (Ks++Kk)) S f z :=
 h.mono fun W hW=>by have hs:=hcov (MB.st hW) (fun q hq=>List.mem_append_left _ hq);exact ⟨⟨hW.1,fun q hq=>hW.2 q (List.mem_append_right _ hq)⟩,hs.2.1,fun b h1 h2=>hs.2.2 b h1 h2 (hX b h1 h2)⟩
def V3 (lo:Nat) (p:Asr) (w:World):Ending→World→Prop:=fun e w'=>∃ v,e = .returned v∧(∀ w2,dD lo w' w2→p v w2)∧Below w.heap.size w w'
section
variable {P:Program} {n:Nat} {Q:Exit→Act→World→Prop} {l:Fr} {w0 W:World} {ops:Array Oper} {os:List Oper} {K:List (Nat×World)} {L:List Asr} {i:Nat}
variable {ca:Nat→Option Value→List Value} {ta:Nat→TypeId} {Os:Option Value→Own} {Gs:Option Value→cV} {lo ef jy:Nat} {s:Sg}
variable {d:Nat} {op:Op} {ty:TypeId} {pos:String} {aft_:Array Edge} {v:Value} {gd:Option (Nat×Bool)}
theorem V4 {f:FuncId} {xs:List Operand} {ts:Array TypeId} (ps:List Asr) (hX:∀ ev b,lo≤b→¬ XB (Os ev) (Gs ev) b) (hie:Nat.beq i ef=false) (hij:xF ops ef jy i=true) (hi:ops[i]?=some ⟨some d,.call { callee:=.value (.func f),args:=xs.toArray,argTypes:=ts },ty,pos,aft_,gd⟩) (hNo:rJ [] ef L) (hgo:bJ P f=true)
  (hw:fT ops L i ⟨some d,.call { callee:=.value (.func f),args:=xs.toArray,argTypes:=ts },ty,pos,aft_,gd⟩) (hp:tC n ops l L i xs ps)
  {p:Asr} (hc:∀ vs ev w,(oG ops ef i=true→ev=none)→St w0 (Os ev) (Gs ev) K w→lo≤w.heap.size→lV ps vs w→Calls P f vs.toArray w (V3 lo p w)) (hI:atI L i=p):SG P n ops Q l w0 K lo [] ef jy ca ta Os Gs L i:=fun t0 h0 s LB a w hF hG hV hs hcl hr hD=>by
 have hnil:s.bs=[]:=by
  cases hb:s.bs with
  | nil=>rfl
  | cons q r=>have:=hV.2.1 q (by rw [hb];exact List.mem_cons_self);cases this
 have hD':=vQ h0 hF hD (fun j d _ hj=>hNo j hj);have hS:St w0 (Os s.ev) (Gs s.ev) K w:=St.drops _ hG.1;have h1:=hc (xs.map a.eval) s.ev w (fun he=>vO hV hs hcl hr.1 he) hS hG.2.1 (gB h0 hF hD' hp);rw [show (xs.map a.eval).toArray=xs.toArray.map a.eval by simp] at h1;unfold wpOp;simp only [hi,hw.yes hD',if_true];refine .inl ?_;unfold Oper.wp;rw [lT P a.eval w f xs.toArray ts _ rfl rfl hgo,Oper.upon_enter];refine h1.mono ?_;rintro e w' ⟨v,rfl,hv,hb⟩;have hA:AwS lo (XB (OE ca ta Os s) (Gs s.ev)) (atI L i) v w':=by rw [hI];intro w2 h2;refine hv w2 ⟨h2.2.1,fun b h3 h4=>h2.2.2 b h3 h4 (fun hx=>hX s.ev b h3 ?_)⟩;unfold OE at hx;rw [hnil] at hx;exact hx
 have hie':i≠ef:=fun e=>by rw [e,Nat.beq_refl] at hie;cases hie
 refine ⟨s,v,by simp,I4 hV (List.not_mem_nil) hie',⟨hG.1.grow hb,Nat.le_trans hG.2.1 hb.size,hG.2.2⟩,Tr.refl hb,fun _ _=>⟨(fun h=>absurd h List.not_mem_nil),(fun e=>absurd e hie'),(fun h y hy=>by rw [vO hV hs hcl hr.1 (sO hij h)] at hy;cases hy),fun _ _=>hA⟩⟩
end
theorem osY_lt {O:Own} {j jx B lo:Nat} {cs:List Value} {U:TypeId} (h:∀ p∈O,p.1 < lo) (hB:B < lo):∀ (ev:Option Value) b,lo≤b→¬ XB (osY O j jx B cs U ev) (rM [] ev) b:=by
 intro ev b h1 hx;cases ev with
 | none =>
  rcases hx with ⟨p,hp,rfl⟩ | ⟨g,hg,_⟩
  ·exact absurd (h p hp) (Nat.not_lt_of_le h1)
  ·cases hg
 | some y=>exact xb_lt (hi:=b+1) h hB b h1 (Nat.lt_succ_self b) hx
theorem uN:∀ (A old new B:List Value),old.length=new.length→eQ (A++old++B) A.length new=A++new++B
 | A,[],[],B,_=>by simp [eQ]
 | A,[],_::_,B,h=>by simp at h
 | A,_::_,[],B,h=>by simp at h
 | A,o::old,v::new,B,h=>by
  have h9:=uN (A++[v]) old new B (by simpa using h);simp only [eQ];have e:(A++o::old++B).set A.length v=(A++[v])++old++B:=by simp [List.set_append]
  rw [e];simpa using h9
theorem Ek (fs:List WF):(fs.flatMap WF.six).length=fs.length * 6:=by
 induction fs with
 | nil=>rfl
 | cons f r ih=>rw [List.flatMap_cons,List.length_append,ih];simp only [List.length_cons,List.length_nil];omega
theorem rS {fs:List WF} {i:Nat} {f:WF} (h:fs[i]?=some f):fs.flatMap WF.six=(fs.take i).flatMap WF.six++f.six++(fs.drop (i+1)).flatMap WF.six:=by
 have hl:=(List.getElem?_eq_some_iff.1 h).1;have e:fs=fs.take i++f::fs.drop (i+1):=by have h1:=(List.take_append_drop i fs).symm;rw [List.drop_eq_getElem_cons hl,(List.getElem?_eq_some_iff.1 h).2] at h1;exact h1
 have e2:=congrArg (fun l=>List.flatMap WF.six l) e;simp only [List.flatMap_append,List.flatMap_cons] at e2;rw [List.append_assoc];exact e2
theorem El {fs:List WF} {i:Nat} (h:i < fs.length):((fs.take i).flatMap WF.six).length=0+i * 6:=by rw [Ek,List.length_take];omega
theorem V5 {fs:List WF} {cs:List Value} {i:Nat} {f:WF} (h:fs[i]?=some f):((fs.flatMap WF.six++cs).drop (0+i * 6)).take 6=f.six:=by rw [rS h,← El (List.getElem?_eq_some_iff.1 h).1,List.append_assoc,List.append_assoc,List.drop_left];rfl
theorem Mt {fs:List WF} {cs:List Value} {i:Nat} {f g:WF} (h:fs[i]?=some f):eQ (fs.flatMap WF.six++cs) (0+i * 6) g.six=(fs.set i g).flatMap WF.six++cs:=by
 have hl:=(List.getElem?_eq_some_iff.1 h).1;have h2:(fs.set i g)[i]?=some g:=by rw [List.getElem?_set_self hl]
 rw [rS h,rS h2,← El hl,List.append_assoc _ _ cs,uN _ f.six g.six _ rfl];rw [List.take_set_of_le (Nat.le_refl _),List.drop_set_of_lt (Nat.lt_succ_self _)];simp [List.append_assoc]
theorem St.rowOwn {w0 W:World} {O:Own} {K:List (Nat×World)} {a:Option Addr} {n c:Nat} {xs:List Value} {T:TypeId} {sz:Nat} (h:St w0 O [⟨.slice a n c,n,xs,T,sz⟩] K W) (hn:0 < n):∃ (b:Nat) (cs:List Value),a=some ⟨b,0,none⟩∧St w0 ((b,xs++cs,T)::O) [] K W:=by
 obtain ⟨hrow,hap⟩:=h.rows _ List.mem_cons_self;dsimp only at hrow hap;rcases hrow.2 with ⟨_,e2⟩ | ⟨g,cap,cur,e1,hg,hh,hn2,hm,hs,ht⟩
 ·omega
 ·injection e1 with e1 _ _
  subst e1;obtain ⟨ho,hq⟩:=hap g rfl;refine ⟨g,cur.toList.drop (n * sz),rfl,h.below,fun p hp=>?_,List.Pairwise.cons (fun p hp e=>ho p hp e.symm) h.dist,fun q hq'=>⟨(h.kept q hq').1,fun p hp=>?_⟩,(fun g hg=>by cases hg),List.Pairwise.nil⟩
  ·rcases List.mem_cons.1 hp with rfl | hp
   ·refine ⟨hg,?_⟩;dsimp only;rw [← ht,List.take_append_drop,Array.toArray_toList];exact hh
   ·exact h.own p hp
  ·rcases List.mem_cons.1 hp with rfl | hp
   ·exact hq q hq'
   ·exact (h.kept q hq').2 p hp
def nQ (S:PS) (b:Bool) (x y:PX):PX:=if b then kZ S y x else kZ S x y
abbrev rdC (f0:WF) (a:AV) (bk:Bool) (bm VA VX:Nat):List Value:=[.int .i64 a.s.f.tag,.int .i64 a.s.f.dim,.slice a.s.f.a a.s.f.len a.s.f.cap,.bool f0.z,.int .i64 f0.c,.int .u64 (f0.g:Int),.slice f0.ra f0.rl f0.rc,.slice f0.ca f0.cl f0.cc,.slice f0.pa f0.pl f0.pc,.int .i64 a.s.f.tag,.int .i64 a.s.f.dim,.slice a.s.f.a a.s.f.len a.s.f.cap,.int .i64 a.st,.int .i64 a.sy,.slice a.fa a.fl a.fc,.slice a.ta a.tl a.tc,.bool bk,.map (some bm),.pointer (some ⟨VA,0,none⟩),.pointer (some ⟨VX,0,none⟩)]
abbrev gZ (v:Value) (n IB WB:Nat):List Value:=[v,.slice (some ⟨IB,0,none⟩) n n,.slice (some ⟨WB,0,none⟩) n n]
noncomputable abbrev inC (S:PS) (xs:List PX):List Value:=xs.map (fun x=>.bool (nzX S x))
abbrev wC (fs:List WF):List Value:=fs.flatMap WF.six
abbrev atC (l:List Nat):List Value:=l.map (fun (i:Nat)=>Value.int .i64 (i:Int))
structure VecOk (S:PS) (w0:World) (K:List (Nat×World)) (n:Nat) (fs:List WF) (xs:List PX) (l:List Nat):Prop where
 fl:fs.length=n
 xl:xs.length=n
 held:∀ (i:Nat) f x,fs[i]?=some f→xs[i]?=some x→x≠bU S→jC w0 K (fun W=>XIs W S f x)
 ok:∀ x∈xs,OkX S x
 ats:∀ i,i∈l↔∃ x,xs[i]?=some x∧x≠bU S
 nd:l.Nodup
section
variable {S:PS} {w0:World} {K K':List (Nat×World)} {n s:Nat} {fs:List WF} {xs:List PX} {l:List Nat} {f:WF} {x x0:PX}
theorem nd_len:∀ (n:Nat) (l:List Nat),l.Nodup→(∀ i∈l,i < n)→l.length≤n:=by
 intro n
 induction n with
 | zero =>
  intro l _ h;cases l with
  | nil=>exact Nat.le_refl _
  | cons a t=>exact absurd (h a List.mem_cons_self) (Nat.not_lt_zero _)
 | succ n ih =>
  intro l hl h;have h1:=ih (l.filter (· ≠ n)) (hl.filter _) (fun i hi=>by
   simp at hi;have:=h i hi.1;omega)
  have h2:l.length≤(l.filter (· ≠ n)).length+1:=by
   clear ih h h1
   induction l with
   | nil=>simp
   | cons a t iht =>
    have hn:=List.nodup_cons.1 hl;by_cases e:a=n
    ·subst e
     have:t.filter (· ≠ a)=t:=by rw [List.filter_eq_self];intro b hb;simp;intro e;subst e;exact hn.1 hb
     rw [List.filter_cons_of_neg (by simp),this];simp
    ·rw [List.filter_cons_of_pos (by simpa using e)];have:=iht hn.2;simp only [List.length_cons];omega
  omega
theorem VecOk.len (h:VecOk S w0 K n fs xs l):l.length≤n:=nd_len n l h.nd fun i hi=>by obtain ⟨y,h1,_⟩:=(h.ats i).1 hi;have:=(List.getElem?_eq_some_iff.1 h1).1;rw [h.xl] at this;exact this
theorem VecOk.more (h:VecOk S w0 K n fs xs l) (hk:∀ q∈K,q∈K'):VecOk S w0 K' n fs xs l:=⟨h.fl,h.xl,fun i f x h1 h2 h3=>jC.more (h.held i f x h1 h2 h3) hk,h.ok,h.ats,h.nd⟩
theorem VecOk.emptied (h:fs.length=n):VecOk S w0 K n fs (List.replicate n (bU S)) []:=⟨h,by simp,fun i f x h1 h2 h3=>by
 have h4:=(List.getElem?_eq_some_iff.1 h2).2;rw [List.getElem_replicate] at h4;exfalso;exact h3 h4.symm,fun x hx=>by rw [(List.mem_replicate.1 hx).2];exact nC,fun i=>⟨fun h=>(by cases h),fun ⟨y,h1,h2⟩=>by
 have h4:=(List.getElem?_eq_some_iff.1 h1).2;rw [List.getElem_replicate] at h4;exact absurd h4.symm h2⟩,List.nodup_nil⟩
theorem VecOk.at_ (h:VecOk S w0 K n fs xs l) (hs:s < n):∃ f x,fs[s]?=some f∧xs[s]?=some x∧OkX S x:=by
 have h1:s < fs.length:=by rw [h.fl];exact hs
 have h2:s < xs.length:=by rw [h.xl];exact hs
 exact ⟨fs[s],xs[s],List.getElem?_eq_getElem h1,List.getElem?_eq_getElem h2,h.ok _ (List.getElem_mem h2)⟩
theorem V6 (h:xs[s]?=some x):(inC S xs)[0+s * 1]?=some (.bool (nzX S x)):=by rw [Nat.zero_add,Nat.mul_one,List.getElem?_map,h];rfl
theorem inC_lt (h:xs[s]?=some x):Nat.blt (0+s * 1) (inC S xs).length=true:=by rw [Nat.blt_eq,List.length_map];have:=(List.getElem?_eq_some_iff.1 h).1;omega
theorem Pe (x:PX):(inC S xs).set (0+s * 1) (.bool (nzX S x))=inC S (xs.set s x):=by rw [Nat.zero_add,Nat.mul_one];exact List.map_set.symm
theorem Jg (h:fs[s]?=some f):((wC fs).drop (0+s * 6)).take 6=f.six:=by have h9:=V5 (cs:=[]) h;rw [List.append_nil] at h9;exact h9
theorem wC_le (h:fs[s]?=some f):Nat.ble (0+s * 6+6) (wC fs).length=true:=by rw [Nat.ble_eq,Ek];have:=(List.getElem?_eq_some_iff.1 h).1;omega
theorem Em {g:WF} (h:fs[s]?=some f):eQ (wC fs) (0+s * 6) g.six=wC (fs.set s g):=by have h9:=Mt (cs:=[]) (g:=g) h;rw [List.append_nil,List.append_nil] at h9;exact h9
theorem VecOk.put {K':List (Nat×World)} {l':List Nat} {g:WF} {y:PX} (h:VecOk S w0 K n fs xs l) (hs:s < n) (hx0:xs[s]?=some x0) (hk:∀ q∈K,q∈K') (hg:jC w0 K' (fun W=>XIs W S g y)) (hy:OkX S y) (hy0:y≠bU S) (hl:(x0≠bU S∧l'=l)∨(x0=bU S∧l'=l++[s])):VecOk S w0 K' n (fs.set s g) (xs.set s y) l':=by
 have hsl:s < xs.length:=by rw [h.xl];exact hs
 refine ⟨by rw [List.length_set];exact h.fl,by rw [List.length_set];exact h.xl,fun i f x h1 h2 h3=>?_,fun x hx=>?_,fun i=>?_,?_⟩
 ·rcases Nat.decEq i s with e | rfl
  ·rw [List.getElem?_set_ne (Ne.symm e)] at h1 h2;exact jC.more (h.held i f x h1 h2 h3) hk
  ·rw [List.getElem?_set_self (by rw [h.fl];exact hs)] at h1;rw [List.getElem?_set_self hsl] at h2;cases h1;cases h2;exact hg
 ·rcases List.mem_or_eq_of_mem_set hx with h1 | rfl
  ·exact h.ok x h1
  ·exact hy
 ·rcases Nat.decEq i s with e | rfl
  ·rw [List.getElem?_set_ne (Ne.symm e)];rcases hl with ⟨_,rfl⟩ | ⟨_,rfl⟩
   ·exact h.ats i
   ·rw [List.mem_append];exact ⟨fun h1=>(h.ats i).1 (h1.resolve_right (by simpa using e)),fun h1=>.inl ((h.ats i).2 h1)⟩
  ·rw [List.getElem?_set_self hsl];refine ⟨fun _=>⟨y,rfl,hy0⟩,fun _=>?_⟩;rcases hl with ⟨h1,rfl⟩ | ⟨_,rfl⟩
   ·exact (h.ats i).2 ⟨x0,hx0,h1⟩
   ·simp
 ·rcases hl with ⟨_,rfl⟩ | ⟨h1,rfl⟩
  ·exact h.nd
  ·rw [List.nodup_append];refine ⟨h.nd,by simp,fun a ha b hb=>?_⟩;simp at hb;subst hb;intro e;subst e;obtain ⟨y',h2,h3⟩:=(h.ats a).1 ha;rw [hx0] at h2;cases h2;exact h3 h1
theorem Sk {α:Type} {l:List α} {s:Nat} {x:α} (h:l[s]?=some x):l.set s x=l:=by
 apply List.ext_getElem?;intro i;rcases Nat.decEq i s with e | rfl
 ·rw [List.getElem?_set_ne (Ne.symm e)]
 ·rw [List.getElem?_set_self (List.getElem?_eq_some_iff.1 h).1,h]
theorem Br (h:xs[s]?=some x):xs.set s x=xs:=by
 apply List.ext_getElem?;intro i;rcases Nat.decEq i s with e | rfl
 ·rw [List.getElem?_set_ne (Ne.symm e)]
 ·rw [List.getElem?_set_self (List.getElem?_eq_some_iff.1 h).1,h]
theorem zF (hok:S.ok) (hx:OkX S x0) (hy:OkX S x) (h:x0≠bU S):cD S x0 x≠bU S:=fun e=>h (by
 have h1:=jU hok hx hx hy;rw [pT hok hx,e,kO hx] at h1;exact h1.symm)
theorem atC_len (l:List Nat):(atC l).length=l.length:=by simp
end
theorem Pf {f g:WF} (h:f.val=g.val) (hp:f.pf=g.pf):f=g:=by obtain ⟨z,c,g1,ra,rl,rc,rows,ca,cl,cc,cells,pa,pl,pc⟩:=f;obtain ⟨z',c',g',ra',rl',rc',rows',ca',cl',cc',cells',pa',pl',pc'⟩:=g;simp [WF.val,WF.pf] at h hp;obtain ⟨h1,h2,h3,h4,h5,h6⟩:=h;obtain ⟨p1,p2,p3,p4,p5⟩:=hp;obtain ⟨e1,e2,e3⟩:=h4;obtain ⟨e4,e5,e6⟩:=h5;obtain ⟨e7,e8,e9⟩:=h6;subst h1;subst h2;subst p3;subst p4;subst p5;subst e1;subst e2;subst e3;subst e4;subst e5;subst e6;subst e7;subst e8;subst e9;rfl
theorem gY.samepf {lo lo':Nat} {w w':World} {S:PS} {f g:WF} {x:PX} (h:gY lo w S f x) (k:gY lo' w' S g x):f.pf=g.pf:=by
 cases S<;>cases x<;>first | exact h.elim | skip
 ·exact h.is.pf.trans k.is.pf.symm
 ·exact h.1.trans k.1.symm
theorem newOff {lo B:Nat} {A W:World} {S:PS} {f:WF} {x:PX} (hn:Aw (some B) (dP lo S x) f.val A) (hf:gY lo A S f x) (hlo:lo≤A.heap.size) (hx:Ln lo B A W):gY lo W S f x:=by obtain ⟨w',⟨g,hg,hgn⟩,ha⟩:=Aw.mid hn hlo hx;obtain rfl:=Pf hg (hf.samepf hgn);exact hgn.agree ha
theorem Pg {f g:WF} (h:f.val=g.val):f.six=g.six:=congrArg (fun v:Value=>v.cells.toList) h
section
variable {n:Nat} {Q:Exit→Act→World→Prop} {l:Fr} {W:World} {ops:Array Oper} {L:List Asr} {i d:Nat} {ty:TypeId} {pos:String} {aft:Array Edge} {gd:Option (Nat×Bool)} {S:PS} {x y z:PX} {p q r:Operand}
theorem V7 (hi:ops[i]?=some ⟨some d,.buildSlice 44 2 (List.toArray [(0,p),(1,q)]),ty,pos,aft,gd⟩) (hw:fT ops L i ⟨some d,.buildSlice 44 2 (List.toArray [(0,p),(1,q)]),ty,pos,aft,gd⟩) (hp:tC n ops l L i [p,q] [isX S x,isX S y]) (hI:atI L i=kU S [x,y]):RGA prog n ops Q l W L i :=
 ag_row [isX S x,isX S y] hi hw underlying44 sizeOf46 zeroValue46 rfl rfl hp fun β vs w hb hh=>by obtain ⟨v1,v2,rfl,⟨f,rfl,hf⟩,g,rfl,hg⟩:=nD (hh w (Off.refl _ _));refine ⟨f.six++g.six,uX _ _ _ _ _ _ _ _ _ _ _ _,fun B w' hB h1 ho=>?_⟩;obtain ⟨v1,v2,hv,⟨f',hv1,hf'⟩,g',hv2,hg'⟩:=nD (hh w' ho);simp only [List.cons.injEq,and_true] at hv;obtain ⟨e1,e2⟩:=hv;rw [Pg (e1.trans hv1),Pg (e2.trans hv2)] at h1;rw [hI];exact ⟨B,[f',g'],rfl,Is h1,sM hf' (sM hg' L5)⟩
end
end
end Go.Proofs.YtbmieipifgailaaGreatDoor
