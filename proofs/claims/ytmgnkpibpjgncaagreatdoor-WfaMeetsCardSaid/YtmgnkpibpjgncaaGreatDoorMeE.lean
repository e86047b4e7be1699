import Derived.Deep.Slices
import Derived.Deep.Fields
import Derived.ChangeSame
import Derived.Lib.SmallJoins
import Derived.ChangeSlices
import Derived.ProofKit
import Derived.Test.YtmgnkpibpjgncaaGreatDoorMeD
set_option maxRecDepth 100000
set_option maxHeartbeats 4000000
set_option linter.unusedVariables false
set_option linter.unusedVariables false
set_option linter.unusedSimpArgs false
set_option linter.unusedSectionVars false
set_option linter.unnecessarySimpa false
namespace Go.Proofs.YtmgnkpibpjgncaaGreatDoor
open Go.Proofs.Tryz
open Go Go.RowKit
def Hy (w:World) (a:Option Addr) (fs:List Bool):Prop:=∀ (i:Nat) f,fs[i]?=some f→∃ b off,a=some ⟨b,off,none⟩∧w.cell? ⟨b,off+i * 1,none⟩=some (.bool f)
theorem Hy.below {w w':World} {a:Option Addr} {fs:List Bool} (h:Hy w a fs) (hb:Below w.heap.size w w'):Hy w' a fs:=fun i f hi=>by
 obtain ⟨b,off,e,h1⟩:=h i f hi
 exact ⟨b,off,e,(hb.cell (World.block_lt_of_cell? _ _ h1)).trans h1⟩
def Spc:Option PS→World→SF→Prop
 | none,_,f=>f=⟨0,0,none,0,0⟩
 | some S,w,f=>S.ok∧SIs w S f
theorem Spc.below {o:Option PS} {w w':World} {f:SF} (h:Spc o w f) (hb:Below w.heap.size w w'):Spc o w' f:=by
 cases o with
 | none=>exact h
 | some S=>exact ⟨h.1,h.2.below hb⟩
theorem Spc.sin {o:Option PS} {w:World} {f g:SF} (h:Spc o w f) (h2:Spc o w g):∃ s t:SV,s.f=f∧t.f=g∧SIn w 2 s∧SIn w 2 t∧smS 3 s=true∧eqS 2 s t=true:=by
 cases o with
 | none =>
  cases h;cases h2
  exact ⟨.mk ⟨0,0,none,0,0⟩ [],.mk ⟨0,0,none,0,0⟩ [],rfl,rfl,⟨rfl,.inl rfl,by simp⟩,⟨rfl,.inl rfl,by simp⟩,rfl,by simp [eqS]⟩
 | some S =>
  obtain ⟨hok,h⟩:=h
  obtain ⟨_,h2⟩:=h2
  cases S with
  | one t n =>
   obtain ⟨a,c,rfl⟩:=h
   obtain ⟨a',c',rfl⟩:=h2
   exact ⟨.mk ⟨t,n,a,0,c⟩ [],.mk ⟨t,n,a',0,c'⟩ [],rfl,rfl,⟨rfl,.inl rfl,by simp⟩,⟨rfl,.inl rfl,by simp⟩,by simp [smS,SV.f],by simp [eqS]⟩
  | two t n u m =>
   have key:∀ {f:SF},SIs w (.two t n u m) f→∃ (b off c c1 c2:Nat) (a1 a2:Option Addr),f=⟨5,0,some ⟨b,off,none⟩,2,c⟩∧SIn w 2 (.mk ⟨5,0,some ⟨b,off,none⟩,2,c⟩ [.mk ⟨t,n,a1,0,c1⟩ [],.mk ⟨u,m,a2,0,c2⟩ []]):=by
    rintro f ⟨b,off,c,a1,c1,a2,c2,rfl,h1,h2⟩
    refine ⟨b,off,c,c1,c2,a1,a2,rfl,rfl,.inr ⟨b,off,rfl,fun i p hi=>?_⟩,?_⟩
    ·match i,hi with
     | 0,hi=>simp at hi;subst hi;simpa [SV.f] using h1
     | 1,hi=>simp at hi;subst hi;simpa [SV.f] using h2
    ·intro p hp
     simp at hp
     rcases hp with rfl | rfl<;>exact ⟨rfl,.inl rfl,by simp⟩
   obtain ⟨b,off,c,c1,c2,a1,a2,rfl,k1⟩:=key h
   obtain ⟨b',off',c',c1',c2',a1',a2',rfl,k2⟩:=key h2
   exact ⟨_,_,rfl,rfl,k1,k2,by simp [smS,SV.f],by simp [eqS]⟩
theorem sameSpc {o:Option PS} {w:World} {f g:SF} (h:Spc o w f) (h2:Spc o w g):Calls prog 46 #[f.val,g.val] w fun e w'=>e = .returned (.bool true)∧Below w.heap.size w w':=by
 obtain ⟨s,t,rfl,rfl,k1,k2,k3,k4⟩:=h.sin h2
 have h9:=sH 2 3 s t w k1 k2 k3
 rw [k4] at h9
 exact h9
section
variable {P:Program} {ops:Array Oper} {Q:Exit→Act→World→Prop} {n:Nat} {l:Fr} {W:World} {L:List Asr} {i:Nat}
variable {d:Nat} {op:Op} {ty:TypeId} {pos:String} {aft_:Array Edge}
theorem rgPs (ds:List (Nat×Nat×Asr)) (hi:ops[i]?=some ⟨some d,op,ty,pos,aft_,none⟩) {q:Asr} (hds:Hs ops L i ds)
  (hr:∀ (ev:Operand→Value) w,Below W.heap.size W w→zR ds ev w→∃ v,(execOp ev ⟨some d,op,ty,pos,#[],none⟩).run P w = .ok (.value v) w∧q v w) (hI:atI L i=q):RG P n ops Q l W L i :=
 fun a ha=>nS hi (aS rfl) fun b w hF hG hD=>by
  have key:∀ (ds:List (Nat×Nat×Asr)),Hs ops L i ds→zR ds b.eval w:=by
   intro ds
   induction ds with
   | nil=>intro _;trivial
   | cons x xs ih =>
    intro h
    refine ⟨?_,ih h.2⟩
    have h1:=hD x.1 x.2.1 h.1.1
    rw [h.1.2] at h1
    exact h1
  obtain ⟨v,h2,h3⟩:=hr b.eval w hG (key ds hds)
  exact ⟨v,w,by rw [eP b.eval _ _ _ _ pos _ #[] _ none];exact h2,by rw [hI];exact h3,Below.refl _ _⟩
end
section
variable {ops:Array Oper} {Q:Exit→Act→World→Prop} {n:Nat} {l:Fr} {W:World} {L:List Asr} {i:Nat} {d:Nat} {ty:TypeId} {pos:String} {aft_:Array Edge}
end
abbrev sK (f g t:Int) (x:WF):List Value:=[.int .i64 f,.int .i64 g,.int .i64 t,.bool x.z,.int .i64 x.c,.int .u64 (x.g:Int),.slice x.ra x.rl x.rc,.slice x.ca x.cl x.cc,.slice x.pa x.pl x.pc]
def Hz (lo:Nat) (f g t:Int) (S:PS) (x:PX):Asr:=fun v w=>∃ wf:WF,v = .agg (sK f g t wf).toArray∧gA lo w S wf x
def xO (lo:Nat) (f g t:Int) (S:PS) (x:PX):Asr:=fun v w=>∃ (wf:WF) (B:Nat),v = .slice (some ⟨B,0,none⟩) 1 1∧w.heap[B]?=some (.cells (sK f g t wf).toArray 66 (0,0))∧gA lo w S wf x
theorem Ti {lo:Nat} {f g t:Int} {S:PS} {x:PX}:iD (Hz lo f g t S x):=fun v w w' ⟨wf,h1,h2⟩ hb=>⟨wf,h1,h2.below hb⟩
theorem Ko {lo:Nat} {f g t:Int} {S:PS} {x:PX}:iD (xO lo f g t S x):=fun v w w' ⟨wf,B,h1,h2,h3⟩ hb=>⟨wf,B,h1,(hb.block B (bV h2)).trans h2,h3.below hb⟩
theorem bldT9 (f g t:Int) (x:WF):prog.built 66 [(0,.int .i64 f),(1,.int .i64 g),(2,.int .i64 t),(3,x.val)]=some (sK f g t x).toArray:=by kernel_rfl
theorem bld_trP {d j1 j2 j3 j4 t1 t2 t3 t4 lo:Nat} {W:World} {ty:TypeId} {pos:String} {f g t:Int} {S:PS} {x:PX}:∀ (ev:Operand→Value) (w:World),Below W.heap.size W w→zR [(j1,t1,isV (.int .i64 f)),(j2,t2,isV (.int .i64 g)),(j3,t3,isV (.int .i64 t)),(j4,t4,dL lo S x)] ev w →
  ∃ v,(execOp ev ⟨some d,.build 66 #[(0,.tmp t1),(1,.tmp t2),(2,.tmp t3),(3,.tmp t4)],ty,pos,#[],none⟩).run prog w = .ok (.value v) w∧Hz lo f g t S x v w:=fun ev w _ ⟨h1,h2,h3,⟨wf,h4,h5⟩,_⟩=>by
 have e1:ev (.tmp t1)=_:=h1
 have e2:ev (.tmp t2)=_:=h2
 have e3:ev (.tmp t3)=_:=h3
 have e4:ev (.tmp t4)=_:=h4
 refine ⟨.agg (sK f g t wf).toArray,?_,wf,rfl,h5⟩
 have hr:=run_build w 66 #[(0,.int .i64 f),(1,.int .i64 g),(2,.int .i64 t),(3,wf.val)] _ (P:=prog) (bldT9 f g t wf)
 unfold execOp
 simp only [List.map_toArray,List.map_cons,List.map_nil,e1,e2,e3,e4]
 simp [hr]
theorem Py {lo:Nat} {f g t:Int} {S:PS} {x:PX}:Ra 1 9 (fun cs w=>∃ wf:WF,cs=sK f g t wf∧gA lo w S wf x) (xO lo f g t S x):=fun v w ⟨wf,B,h1,h2,h3⟩ =>
 ⟨B,0,1,_,h1,aF.own (j:=0) (m:=9) h2 rfl,rfl,rfl,wf,rfl,h3⟩
theorem bs_tr9 (f g t:Int) (x:WF):Instr.fill (fun i=>some (i * 9,9)) ((Array.range (1 * 9)).map ((Value.cells (.agg #[.int .i64 0,.int .i64 0,.int .i64 0,.bool false,.int .i64 0,.int .u64 0,.slice none 0 0,.slice none 0 0,.slice none 0 0]))[· % (Value.cells (.agg #[.int .i64 0,.int .i64 0,.int .i64 0,.bool false,.int .i64 0,.int .u64 0,.slice none 0 0,.slice none 0 0,.slice none 0 0])).size]!)) [(0,.agg (sK f g t x).toArray)]=some (sK f g t x).toArray:=by kernel_rfl
section
variable {ops:Array Oper} {Q:Exit→Act→World→Prop} {n:Nat} {l:Fr} {W:World} {L:List Asr} {i:Nat} {d:Nat} {ty:TypeId} {pos:String} {aft_:Array Edge}
theorem Tj {tt lo:Nat} {f g t:Int} {S:PS} {x:PX} (hi:ops[i]?=some ⟨some d,.buildSlice 27 1 #[(0,.tmp tt)],ty,pos,aft_,none⟩) (hp:OpG n ops l L i tt (Hz lo f g t S x)) (hI:atI L i=xO lo f g t S x):RG prog n ops Q l W L i :=
 Dg (xs:=[(0,.tmp tt)]) [Hz lo f g t S x] hi (aS rfl) underlying27 sizeOf66 zeroValue66 rfl rfl ⟨cH hp,trivial⟩ fun vs w hb hh=>by
  match vs,hh with
  | [v],⟨⟨wf,h1,h2⟩,_⟩ =>
   subst h1
   exact ⟨sK f g t wf,bs_tr9 f g t wf,fun B2 w' hB h4 h5=>by rw [hI];exact ⟨wf,B2,rfl,h4,h2.below h5⟩⟩
end
def Tk (M:World→Prop) (t n:Int) (f:WF) (x:PF):Prop:=∀ W,M W→PIs W t n f x
def Aa (M:World→Prop):PS→WF→PX→Prop
 | .one t n,f,.one a=>Tk M t n f a
 | .two t n u m,f,.two a b=>f.pf=pC 0∧f.rl=0∧f.cl=0∧f.pl=2∧∃ blk off g h,f.pa=some ⟨blk,off,none⟩∧(∀ W,M W→W6 W blk off g∧W6 W blk (off+6) h)∧Tk M t n g a∧Tk M u m h b
 | _,_,_=>False
theorem Aa.is {M:World→Prop} {S:PS} {f:WF} {x:PX} {w:World} (h:Aa M S f x) (hM:M w):XIs w S f x:=by
 cases S<;>cases x<;>first | exact h.elim | exact (show Tk M _ _ f _ from h) w hM | skip
 obtain ⟨h1,h2,h3,h4,blk,off,g,k,h5,h6,h7,h8⟩:=h
 exact ⟨h1,h2,h3,h4,blk,off,g,k,h5,(h6 w hM).1,(h6 w hM).2,h7 w hM,h8 w hM⟩
theorem Aa.mono {M M':World→Prop} {S:PS} {f:WF} {x:PX} (h:Aa M S f x) (hm:∀ W,M' W→M W):Aa M' S f x:=by
 cases S<;>cases x<;>first | exact h.elim | exact (fun W hW=>(show Tk M _ _ f _ from h) W (hm W hW)) | skip
 obtain ⟨h1,h2,h3,h4,blk,off,g,k,h5,h6,h7,h8⟩:=h
 exact ⟨h1,h2,h3,h4,blk,off,g,k,h5,fun W hW=>h6 W (hm W hW),fun W hW=>h7 W (hm W hW),fun W hW=>h8 W (hm W hW)⟩
theorem gA.far {lo:Nat} {A:World} {S:PS} {f:WF} {x:PX} (h:gA lo A S f x):Aa (fun W=>dG lo A W) S f x:=by
 cases S<;>cases x<;>first | exact h.elim | exact (fun W hW=>(PNew.agree h hW).is) | skip
 obtain ⟨h1,h2,h3,h4,blk,g,k,h5,h0,h6,h7,h8,h9⟩:=h
 exact ⟨h1,h2,h3,h4,blk,0,g,k,h5,fun W hW=>⟨h6.agree h0 hW,h7.agree h0 hW⟩,fun W hW=>(h8.agree hW).is,fun W hW=>(h9.agree hW).is⟩
theorem XIs.far {w:World} {S:PS} {f:WF} {x:PX} (h:XIs w S f x):Aa (fun W=>Below w.heap.size w W) S f x:=by
 cases S<;>cases x<;>first | exact h.elim | exact (fun W hW=>PIs.below h hW) | skip
 obtain ⟨h1,h2,h3,h4,blk,off,g,k,h5,h6,h7,h8,h9⟩:=h
 exact ⟨h1,h2,h3,h4,blk,off,g,k,h5,fun W hW=>⟨h6.below hW,h7.below hW⟩,fun W hW=>h8.below hW,fun W hW=>h9.below hW⟩
section
variable {w W:World} {k:Nat} {n:Int} {f g:WF} {x y:PF}
end
section
variable {n:Nat} {Q:Exit→Act→World→Prop} {l:Fr} {W:World} {ops:Array Oper} {L:List Asr} {i d:Nat} {ty:TypeId} {pos:String} {aft:Array Edge} {gd:Option (Nat×Bool)} {t k u m:Int} {x y:PF} {p q:Operand} {M:World→Prop}
end
def MK (M:World→Prop) (K:List (Nat×World)) (W:World):Prop:=M W∧∀ q∈K,dG q.1 q.2 W
theorem comb2 {S:PS} {x y:PX} (hx:OkX S x):[x,y].foldl (cB S) (bW S)=cB S x y:=by
 simp only [List.foldl_cons,List.foldl_nil,mM hx]
theorem wA {w:World} {t n:Int} {f g:WF} {x y:PF} (hx:PIs w t n f x) (hy:PIs w t n g y):eqW 1 (.mk f []) (.mk g [])=true↔x=y:=by
 rw [mA,← hx.pf,← hy.pf]
 simp [WF.pf]
theorem uP {w:World} {t n:Int} {f:WF} {x:PF} (hx:PIs w t n f x) (d:Nat):WIn w (d+1) (.mk f []):=⟨hx.at_,hx.pl.symm,.inl rfl,by simp⟩
theorem nJ {w:World} {t n:Int} {f:WF} {x:PF} (hx:PIs w t n f x) (k:Nat):smN (k+1) (.mk f [])=true:=by
 have h:=hx.rows64 (l:=0)
 simp only [smN,Bool.and_eq_true,decide_eq_true_eq,List.all_nil]
 exact ⟨by omega,by omega,by rw [hx.pl];decide,trivial⟩
theorem H3 {w:World} {S:PS} {f g:WF} {x y:PX} (hx:XIs w S f x) (hy:XIs w S g y) (r:Bool) (hr:r=true↔x=y):Calls prog 48 #[f.val,g.val] w fun e w'=>e = .returned (.bool r)∧Below w.heap.size w w':=by
 cases S<;>cases x<;>cases y<;>first | exact hx.elim | exact hy.elim | skip
 ·refine (vX 2 4 (.mk f []) (.mk g []) w (uP hx 1) (uP hy 1) (nJ hx 3) (nJ hy 3)).mono fun e w' h=>⟨h.1.trans (bT (zI hr ?_)),h.2⟩
  rw [mA]
  have h1:=(wA hx hy).symm
  rw [mA] at h1
  simp only [PX.one.injEq]
  exact h1
 ·obtain ⟨ra,ca,rc,cc,pc,fb,fo,f1,f2,rfl,h6,h7,h8,h9⟩:=hx.two
  obtain ⟨ra',ca',rc',cc',pc',gb,go,g1,g2,rfl,h6',h7',h8',h9'⟩:=hy.two
  have sm:∀ {t n u m:Int} {a b:PF} {f1 f2:WF} {ra ca:Option Addr} {rc cc pc fb fo:Nat},PIs w t n f1 a→PIs w u m f2 b→smN 4 (.mk ⟨false,0,0,ra,0,rc,[],ca,0,cc,[],some ⟨fb,fo,none⟩,2,pc⟩ [.mk f1 [],.mk f2 []])=true:=by
   intro t n u m a b f1 f2 ra ca rc cc pc fb fo ha hb
   have e1:=nJ ha 2
   have e2:=nJ hb 2
   show (decide _ && (decide _ && (decide _ && [WV.mk f1 [],WV.mk f2 []].all (smN 3))))=true
   simp [e1,e2]
  refine (vX 2 4 _ _ w (rR h6 h7 h8 h9) (rR h6' h7' h8' h9') (sm h8 h9) (sm h8' h9')).mono fun e w' h=>⟨h.1.trans (bT (zI hr ?_)),h.2⟩
  rw [mA]
  have e1:=wA h8 h8'
  have e2:=wA h9 h9'
  simp [e1,e2]
theorem fa_76_1 (w:World) (b o:Nat):(Instr.fieldAt 76 (.pointer (some ⟨b,o,none⟩)) 1).run prog w = .ok (.pointer (some ⟨b,o+3,none⟩)) w:=by
 simp [Instr.fieldAt,run_underlying underlying76,Instr.sureAddr,go_sem,Addr.add_lit]
noncomputable def nzX (S:PS) (x:PX):Bool:=@decide (x≠bW S) (Classical.propDecidable _)
theorem oI {S:PS} {x:PX}:nzX S x=true↔x≠bW S:=by unfold nzX;exact @decide_eq_true_iff _ (Classical.propDecidable _)
theorem kU {S:PS} {x:PX}:nzX S x=false↔x=bW S:=by
 unfold nzX
 rw [@decide_eq_false_iff_not _ (Classical.propDecidable _)]
 exact Classical.not_not
noncomputable def eqX (x y:PX):Bool:=@decide (x=y) (Classical.propDecidable _)
theorem rC {x y:PX}:eqX x y=true↔x=y:=by unfold eqX;exact @decide_eq_true_iff _ (Classical.propDecidable _)
theorem rW {x y:PX}:eqX x y=false↔x≠y:=by unfold eqX;exact @decide_eq_false_iff_not _ (Classical.propDecidable _)
theorem Ba (S:PS) (sf:SF) (f0 f:WF) (x:PX) (w:World) (h0:XIs w S f0 (bW S)) (hx:XIs w S f x) :
  Calls prog 38 #[iA sf f0,f.val] w (fun e w'=>e = .returned (.bool (!nzX S x))∧Below w.heap.size w w'):=by
 refine cD (args:=[iA sf f0,f.val]) func38 rfl ntmps38 rfl ?_
 have hS:=St.start w
 refine aM (aQ (bY (cs:=[_,_,_,_,_,_,_,_,_]) hS rfl rfl rfl fun B1 W1 hS=>bY (cs:=[_,_,_,_,_,_]) hS rfl rfl rfl fun B2 W2 hS=>aC rfl rfl (aN (XF.thenN (aM (aQ (aT (vs:=[_,_,_,_,_,_]) isAgg44 sizeOf44 rfl (aF.own (j:=0) (m:=6) (hS.at_ 0 rfl) rfl) rfl (aK (o':=3) fa_76_1 rfl rfl rfl (aT (vs:=[_,_,_,_,_,_]) isAgg44 sizeOf44 rfl (aF.own (j:=3) (m:=6) (hS.at_ 1 rfl) rfl) rfl (cA (vs:=[_,_]) hS Dj rfl (H3 (hx.below hS.below) (h0.below hS.below) (!nzX S x) (by rw [Bool.not_eq_true',kU])) rfl fun W3 hS=>aC rfl rfl (aN (XF.thenN (bL (XF.res (cE results38 rfl) ?_))))))))))))))
 exact ⟨rfl,hS.below⟩
theorem H4 (S:PS) (sf:SF) (f0:WF) (w:World) (hs:SIs w S sf) (hok:S.ok) :
  Calls prog 96 #[iA sf f0] w (jE S (bW S) w):=by
 refine cD (args:=[iA sf f0]) func96 rfl ntmps96 rfl ?_
 have hS:=St.start w
 refine aM (aQ (bY (cs:=[_,_,_,_,_,_,_,_,_]) hS rfl rfl rfl fun B1 W1 hS=>bE (cs:=[_,_,_,_,_,_]) hS zeroValue44 rfl rfl fun B2 W2 hS=>aN (XF.thenN (aM (aQ (aK (o':=0) tR rfl rfl rfl (aT (vs:=[_,_,_]) isAgg25 sizeOf25 rfl (aF.own (j:=0) (m:=3) (hS.at_ 1 rfl) rfl) rfl ?_)))))))
 have hsz9:=hS.below.size
 refine cN (vs:=[_]) hS Lw rfl (Hc S sf _ (hs.below hS.below) hok) rfl ?_
 rintro e W3 ⟨f9,rfl,hn9,hb⟩
 refine ⟨_,rfl,hb,fun hS'=>?_⟩
 clear hS;have hS:=hS';clear hS'
 refine aE rfl rfl (bU rfl rfl rfl (bU rfl rfl rfl (bE (cs:=[_,_,_,_,_,_]) hS zeroValue44 rfl rfl fun B4 W4 hS=>aU (i:=0) (vs:=[_,_,_,_,_,_]) (cs':=[_,_,_,_,_,_]) (O':=[_,_,_]) hS sizeOf44 rfl rfl rfl rfl rfl rfl rfl fun W5 hS=>aC rfl rfl (aN (XF.thenN (aM (aQ (aT (vs:=[_,_,_,_,_,_]) isAgg44 sizeOf44 rfl (aF.own (j:=0) (m:=6) (hS.at_ 0 rfl) rfl) rfl (aU (i:=1) (vs:=[_,_,_,_,_,_]) (cs':=[_,_,_,_,_,_]) (O':=[_,_,_]) hS sizeOf44 rfl rfl rfl rfl rfl rfl rfl fun W6 hS=>aN (XF.thenN (bL (XF.res (eM (vs:=[_,_,_,_,_,_]) results96 isAgg44 sizeOf44 rfl (aF.own (j:=0) (m:=6) (hS.at_ 1 rfl) rfl)) ?_))))))))))))
 exact ⟨f9,rfl,(hn9.agree (hS.since 0 rfl)).mono hsz9,hS.below⟩
theorem uQ (S:PS) (sf:SF) (f0:WF) (w:World) (hs:SIs w S sf) (hok:S.ok) (a:Option Addr) (c m:Nat) (fs:List WF) (xs:List PX) (hr:sB w a fs) (hx:XL w S fs xs) (hm:fs.length=m) (hmx:m≤9223372036854775807) (ht:Tabs w) :
  Calls prog 39 #[iA sf f0,.slice a m c] w (jE S (xs.foldl (cB S) (bW S)) w):=by
 refine cD (args:=[iA sf f0,.slice a m c]) func39 rfl ntmps39 rfl ?_
 have hS:=St.start w
 refine aM (aQ (bY (cs:=[_,_,_,_,_,_,_,_,_]) hS rfl rfl rfl fun B1 W1 hS=>bE (cs:=[_,_,_,_,_,_]) hS zeroValue44 rfl rfl fun B2 W2 hS=>aN (XF.thenN (aM (aQ (aK (o':=0) tR rfl rfl rfl (aT (vs:=[_,_,_]) isAgg25 sizeOf25 rfl (aF.own (j:=0) (m:=3) (hS.at_ 1 rfl) rfl) rfl (aE rfl rfl ?_))))))))
 have hsz9:=hS.below.size
 refine cN (vs:=[_,_]) hS Ly rfl (wP S sf _ (hs.below hS.below) hok a c m fs xs (hr.below hS.below) (hx.below hS.below) hm hmx (ht.below hS.below)) rfl ?_
 rintro e W3 ⟨f9,rfl,hn9,hb⟩
 refine ⟨_,rfl,hb,fun hS'=>?_⟩
 clear hS;have hS:=hS';clear hS'
 refine aE rfl rfl (bU rfl rfl rfl (bU rfl rfl rfl (bE (cs:=[_,_,_,_,_,_]) hS zeroValue44 rfl rfl fun B4 W4 hS=>aU (i:=0) (vs:=[_,_,_,_,_,_]) (cs':=[_,_,_,_,_,_]) (O':=[_,_,_]) hS sizeOf44 rfl rfl rfl rfl rfl rfl rfl fun W5 hS=>aC rfl rfl (aN (XF.thenN (aM (aQ (aT (vs:=[_,_,_,_,_,_]) isAgg44 sizeOf44 rfl (aF.own (j:=0) (m:=6) (hS.at_ 0 rfl) rfl) rfl (aU (i:=1) (vs:=[_,_,_,_,_,_]) (cs':=[_,_,_,_,_,_]) (O':=[_,_,_]) hS sizeOf44 rfl rfl rfl rfl rfl rfl rfl fun W6 hS=>aN (XF.thenN (bL (XF.res (eM (vs:=[_,_,_,_,_,_]) results39 isAgg44 sizeOf44 rfl (aF.own (j:=0) (m:=6) (hS.at_ 1 rfl) rfl)) ?_))))))))))))
 exact ⟨f9,rfl,(hn9.agree (hS.since 0 rfl)).mono hsz9,hS.below⟩
theorem plus2N {w:World} {S:PS} {sf:SF} {f0:WF} {x y:PX} {vs:List Value} {lo:Nat} (hh:nU [isV (iA sf f0),mO S [x,y]] vs w) (hs:SIs w S sf) (hok:S.ok) (hx:OkX S x) (ht:Tabs w) (hlo:lo≤w.heap.size):Calls prog 39 vs.toArray w (vJ (dL lo S (cB S x y)) w):=by
 obtain ⟨v1,v2,rfl,rfl,b,fs,rfl,hr,hxl⟩:=qQ hh
 refine mR hlo ?_
 have h9:=uQ S sf f0 w hs hok _ 2 2 fs [x,y] hr hxl (by have:=hxl.1;simpa using this) (by decide) ht
 rw [comb2 hx] at h9
 exact h9
theorem pJ (w:World) (b o:Nat):(Instr.fieldAt 66 (.pointer (some ⟨b,o,none⟩)) 0).run prog w = .ok (.pointer (some ⟨b,o+0,none⟩)) w:=by
 simp [Instr.fieldAt,run_underlying underlying66,Instr.sureAddr,go_sem,Addr.add_lit]
theorem iM (w:World) (b o:Nat):(Instr.fieldAt 66 (.pointer (some ⟨b,o,none⟩)) 1).run prog w = .ok (.pointer (some ⟨b,o+1,none⟩)) w:=by
 simp [Instr.fieldAt,run_underlying underlying66,Instr.sureAddr,go_sem,Addr.add_lit]
theorem kE (w:World) (b o:Nat):(Instr.fieldAt 66 (.pointer (some ⟨b,o,none⟩)) 2).run prog w = .ok (.pointer (some ⟨b,o+2,none⟩)) w:=by
 simp [Instr.fieldAt,run_underlying underlying66,Instr.sureAddr,go_sem,Addr.add_lit]
theorem nK (w:World) (b o:Nat):(Instr.fieldAt 66 (.pointer (some ⟨b,o,none⟩)) 3).run prog w = .ok (.pointer (some ⟨b,o+3,none⟩)) w:=by
 simp [Instr.fieldAt,run_underlying underlying66,Instr.sureAddr,go_sem,Addr.add_lit]
theorem kF (w:World) (b o:Nat):(Instr.fieldAt 29 (.pointer (some ⟨b,o,none⟩)) 0).run prog w = .ok (.pointer (some ⟨b,o+0,none⟩)) w:=by
 simp [Instr.fieldAt,run_underlying underlying29,Instr.sureAddr,go_sem,Addr.add_lit]
theorem fQ (w:World) (b o:Nat):(Instr.fieldAt 29 (.pointer (some ⟨b,o,none⟩)) 1).run prog w = .ok (.pointer (some ⟨b,o+3,none⟩)) w:=by
 simp [Instr.fieldAt,run_underlying underlying29,Instr.sureAddr,go_sem,Addr.add_lit]
theorem iB (w:World) (b o:Nat):(Instr.fieldAt 29 (.pointer (some ⟨b,o,none⟩)) 2).run prog w = .ok (.pointer (some ⟨b,o+4,none⟩)) w:=by
 simp [Instr.fieldAt,run_underlying underlying29,Instr.sureAddr,go_sem,Addr.add_lit]
theorem eE (w:World) (b o:Nat):(Instr.fieldAt 29 (.pointer (some ⟨b,o,none⟩)) 3).run prog w = .ok (.pointer (some ⟨b,o+5,none⟩)) w:=by
 simp [Instr.fieldAt,run_underlying underlying29,Instr.sureAddr,go_sem,Addr.add_lit]
theorem dR (w:World) (b o:Nat):(Instr.fieldAt 29 (.pointer (some ⟨b,o,none⟩)) 4).run prog w = .ok (.pointer (some ⟨b,o+6,none⟩)) w:=by
 simp [Instr.fieldAt,run_underlying underlying29,Instr.sureAddr,go_sem,Addr.add_lit]
theorem goes_30:bP prog 30=true:=by kernel_rfl
theorem uR:bP prog 33=true:=by kernel_rfl
theorem xP:bP prog 76=true:=by kernel_rfl
theorem uS (a:AV) (n:Int) (w:World) :
  Calls prog 76 #[a.val,.int .i64 n] w (fun e w'=>e = .returned (.bool (inQ n a.st))∧Below w.heap.size w w'):=by
 refine cD (args:=[a.val,.int .i64 n]) func76 rfl ntmps76 rfl ?_
 have hS:=St.start w
 refine aM (aQ (bY (cs:=[_,_,_,_,_,_,_]) hS rfl rfl rfl fun B1 W1 hS=>aC rfl rfl (aN (XF.thenN (aM (aQ (aE rfl rfl (lO rfl rfl rfl (aE rfl rfl (bH (d:=7) rfl (fun hc=>?_) (fun hc=>?_)))))))))))
 ·have hg7:=of_decide_eq_true hc;clear hc
  refine aB (d:=7) rfl rfl (aE rfl rfl (aB (d:=7) rfl rfl (aK (o':=3) fQ rfl rfl rfl (aB (d:=7) rfl rfl (aR isAgg3 rfl (aH (hS.at_ 0 rfl) rfl) rfl (aB (d:=7) rfl rfl (cK rfl rfl rfl (aW rfl rfl rfl (aC rfl rfl (aN (XF.thenN (bL (XF.res (cE results76 rfl) ?_)))))))))))))
  exact ⟨bT (by simp [inQ,show 0≤n from hg7]),hS.below⟩
 ·have hg7:=of_decide_eq_false hc;clear hc
  refine aD (d:=7) rfl rfl rfl rfl (aD (d:=7) rfl rfl rfl rfl (aD (d:=7) rfl rfl rfl rfl (aD (d:=7) rfl rfl rfl rfl (bF rfl rfl rfl (aC rfl rfl (aN (XF.thenN (bL (XF.res (cE results76 rfl) ?_)))))))))
  exact ⟨bT (by simp [inQ];omega),hS.below⟩
theorem Ab (a:AV) (n:Int) (w:World) :
  Calls prog 33 #[a.val,.int .i64 n] w (fun e w'=>e = .returned (.bool (inQ n a.st))∧Below w.heap.size w w'):=by
 refine cD (args:=[a.val,.int .i64 n]) func33 rfl ntmps33 rfl ?_
 have hS:=St.start w
 refine aM (aQ (bY (cs:=[_,_,_,_,_,_,_]) hS rfl rfl rfl fun B1 W1 hS=>aC rfl rfl (aN (XF.thenN (aM (aQ (aE rfl rfl (lO rfl rfl rfl (aE rfl rfl (bH (d:=7) rfl (fun hc=>?_) (fun hc=>?_)))))))))))
 ·have hg7:=of_decide_eq_true hc;clear hc
  refine aB (d:=7) rfl rfl (aE rfl rfl (aB (d:=7) rfl rfl (aK (o':=3) fQ rfl rfl rfl (aB (d:=7) rfl rfl (aR isAgg3 rfl (aH (hS.at_ 0 rfl) rfl) rfl (aB (d:=7) rfl rfl (cK rfl rfl rfl (aW rfl rfl rfl (aC rfl rfl (aN (XF.thenN (bL (XF.res (cE results33 rfl) ?_)))))))))))))
  exact ⟨bT (by simp [inQ,show 0≤n from hg7]),hS.below⟩
 ·have hg7:=of_decide_eq_false hc;clear hc
  refine aD (d:=7) rfl rfl rfl rfl (aD (d:=7) rfl rfl rfl rfl (aD (d:=7) rfl rfl rfl rfl (aD (d:=7) rfl rfl rfl rfl (bF rfl rfl rfl (aC rfl rfl (aN (XF.thenN (bL (XF.res (cE results33 rfl) ?_)))))))))
  exact ⟨bT (by simp [inQ];omega),hS.below⟩
theorem Pz (ds d:Nat) (s:SV) (st sy:Int) (fa:Option Addr) (fl fc:Nat) (fs:List Int) (ta:Option Addr) (tl tc:Nat) (ts:List TV) (w:World) (hs:SIn w ds s) (hfrow:Row w fa fs) (hflen:fs.length=fl) (htrow:pU w ta ts) (htlen:ts.length=tl) (htin:∀ t∈ts,WIn w d t.x) (hfm:fl≤9223372036854775807) (htm:tl≤9223372036854775807) :
  Calls prog 30 #[.agg #[.int .i64 s.f.tag,.int .i64 s.f.dim,.slice s.f.a s.f.len s.f.cap,.int .i64 st,.int .i64 sy,.slice fa fl fc,.slice ta tl tc]] w (fun e w'=>e = .returned (.bool (cZ st sy fs ts))∧Below w.heap.size w w'):=by
 refine cD (args:=[.agg #[.int .i64 s.f.tag,.int .i64 s.f.dim,.slice s.f.a s.f.len s.f.cap,.int .i64 st,.int .i64 sy,.slice fa fl fc,.slice ta tl tc]]) func30 rfl ntmps30 rfl ?_
 have hS:=St.start w
 refine aM (aQ (bY (cs:=[_,_,_,_,_,_,_]) hS rfl rfl rfl fun B1 W1 hS=>aC rfl rfl (aN (XF.thenN (aM (aM (aQ (aK (o':=3) fQ rfl rfl rfl (aR isAgg3 rfl (aH (hS.at_ 0 rfl) rfl) rfl (cK rfl rfl rfl (aE rfl rfl (bH (d:=10) rfl (fun hc=>?_) (fun hc=>?_)))))))))))))
 ·have hg10:=of_decide_eq_true hc;clear hc
  refine aD (d:=10) rfl rfl rfl rfl (aD (d:=10) rfl rfl rfl rfl (aD (d:=10) rfl rfl rfl rfl (aW rfl rfl rfl (aE rfl rfl (aD (d:=15) rfl rfl rfl rfl (aD (d:=15) rfl rfl rfl rfl (aD (d:=15) rfl rfl rfl rfl (aW rfl rfl rfl (aE rfl rfl (aD (d:=20) rfl rfl rfl rfl (aD (d:=20) rfl rfl rfl rfl (aD (d:=20) rfl rfl rfl rfl (aW rfl rfl rfl (aN (XF.thenN (dT rfl (aM (aQ (aC rfl rfl (aN (XF.thenN (bL (XF.thenR ?_)))))))))))))))))))))))
  refine XF.res (cE results30 rfl) ?_
  exact ⟨bT (by unfold cZ;rw [if_pos (by omega)]),hS.below⟩
 ·have hg10:=of_decide_eq_false hc;clear hc
  refine aB (d:=10) rfl rfl (aK (o':=3) fQ rfl rfl rfl (aB (d:=10) rfl rfl (aR isAgg3 rfl (aH (hS.at_ 0 rfl) rfl) rfl (aB (d:=10) rfl rfl (gI rfl rfl rfl (bF rfl rfl rfl (aE rfl rfl (bH (d:=15) rfl (fun hc=>?_) (fun hc=>?_)))))))))
  ·have hg15:=of_decide_eq_true hc;clear hc
   refine aD (d:=15) rfl rfl rfl rfl (aD (d:=15) rfl rfl rfl rfl (aD (d:=15) rfl rfl rfl rfl (aW rfl rfl rfl (aE rfl rfl (aD (d:=20) rfl rfl rfl rfl (aD (d:=20) rfl rfl rfl rfl (aD (d:=20) rfl rfl rfl rfl (aW rfl rfl rfl (aN (XF.thenN (dT rfl (aM (aQ (aC rfl rfl (aN (XF.thenN (bL (XF.thenR (XF.res (cE results30 rfl) ?_)))))))))))))))))))
   exact ⟨bT (by unfold cZ;rw [if_pos (by omega)]),hS.below⟩
  ·have hg15:=of_decide_eq_false hc;clear hc
   refine aB (d:=15) rfl rfl (aK (o':=4) iB rfl rfl rfl (aB (d:=15) rfl rfl (aR isAgg3 rfl (aH (hS.at_ 0 rfl) rfl) rfl (aB (d:=15) rfl rfl (cK rfl rfl rfl (bF rfl rfl rfl (aE rfl rfl (bH (d:=20) rfl (fun hc=>?_) (fun hc=>?_)))))))))
   ·have hg20:=of_decide_eq_true hc;clear hc
    refine aD (d:=20) rfl rfl rfl rfl (aD (d:=20) rfl rfl rfl rfl (aD (d:=20) rfl rfl rfl rfl (aW rfl rfl rfl (aN (XF.thenN (dT rfl (aM (aQ (aC rfl rfl (aN (XF.thenN (bL (XF.thenR (XF.res (cE results30 rfl) ?_))))))))))))))
    exact ⟨bT (by unfold cZ;rw [if_pos (by omega)]),hS.below⟩
   ·have hg20:=of_decide_eq_false hc;clear hc
    refine aB (d:=20) rfl rfl (aK (o':=4) iB rfl rfl rfl (aB (d:=20) rfl rfl (aR isAgg3 rfl (aH (hS.at_ 0 rfl) rfl) rfl (aB (d:=20) rfl rfl (gI rfl rfl rfl (bF rfl rfl rfl (aN (XF.thenN (bB rfl (fun hc=>?_) (fun hc=>?_))))))))))
    ·have hc24:=of_decide_eq_true hc;clear hc
     refine aM (aQ (aC rfl rfl (aN (XF.thenN (bL (XF.thenR (XF.res (cE results30 rfl) ?_)))))))
     exact ⟨bT (by unfold cZ;rw [if_pos (by omega)]),hS.below⟩
    ·have hc24:=of_decide_eq_false hc;clear hc
     have h2:¬ (st < 0∨4096 < st∨sy < 0∨4096 < sy):=by omega
     refine bI (XF.thenN (aM (aM (aQ (aK (o':=5) eE rfl rfl rfl (aR isAgg26 rfl (aH (hS.at_ 0 rfl) rfl) rfl (cC underlying26 rfl rfl (aE rfl rfl (aN (XF.thenN (bK (dQ (fun m l W=>∃ i:Nat,i≤fl∧m=fl - i∧l=[(1,.pointer (some ⟨B1,0,none⟩)),(26,.slice fa fl fc),(27,.int .i64 (fl:Int)),(28,.int .i64 (i:Int))]∧(∀ j,j < i→jL st fs j=true)∧St w [(B1,[.int .i64 s.f.tag,.int .i64 s.f.dim,.slice s.f.a s.f.len s.f.cap,.int .i64 st,.int .i64 sy,.slice fa fl fc,.slice ta tl tc],29)] [] [] W) (fl - 0) ([(1,_),(26,_),(27,_),(28,_)]) ⟨rfl,rfl,rfl,rfl,trivial⟩ (⟨0,Nat.zero_le _,rfl,rfl,fun j hj=>absurd hj (Nat.not_lt_zero _),hS.clear⟩) ?_))))))))))))
     clear hS
     rintro m l W ⟨i,hi,rfl,rfl,hall,hS⟩
     refine aM (aQ (cK rfl rfl rfl (aN (XF.thenN (aM (bB rfl (fun hc=>?_) (fun hc=>?_)))))))
     ·have hc29:=of_decide_eq_true hc;clear hc
      have hk:i < fl:=by omega
      obtain ⟨b,off,y,rfl,hy,hyc⟩:=hfrow.at1 (show i < fs.length by omega)
      have k1:=hS.old hyc
      refine bI (XF.thenN (aM (bK (aM (aQ (aE rfl rfl (bZ  underlying26 sizeOf3 rfl rfl rfl (by omega) rfl rfl (aR isAgg3 rfl (k1) rfl (aC rfl rfl (aC rfl rfl (aN (XF.thenN (aM (aQ (aT (vs:=[_,_,_,_,_,_,_]) isAgg29 sizeOf29 rfl (aF.own (j:=0) (m:=7) (hS.at_ 0 rfl) rfl) rfl (aE rfl rfl (cA (vs:=[_,_]) hS xP rfl (uS ⟨s,st,sy,_,fl,fc,fs,ta,tl,tc,ts⟩ y _) rfl fun W2 hS=>eS rfl rfl (aE rfl rfl (bH (d:=37) rfl (fun hc=>?_) (fun hc=>?_))))))))))))))))))))
      ·have hg37:=hc;clear hc
       have e1:inQ y st=false:=by simpa using hg37
       refine aD (d:=37) rfl rfl rfl rfl (aD (d:=37) rfl rfl rfl rfl (aD (d:=37) rfl rfl rfl rfl (rB (d:=40) rfl rfl rfl (rB (d:=40) rfl rfl rfl (rB (d:=40) rfl rfl rfl (rB (d:=40) rfl rfl rfl (rB (d:=40) rfl rfl rfl (rB (d:=40) rfl rfl rfl (rB (d:=40) rfl rfl rfl (rB (d:=40) rfl rfl rfl (aD (d:=37) rfl rfl rfl rfl (aW rfl rfl rfl (aN (XF.thenN (dT rfl (aM (aQ (aC rfl rfl (aN (XF.thenN (bL (XF.blkR (XF.thenR ?_)))))))))))))))))))))))
       refine XF.thenR (XF.blkR (XF.thenR (XF.res (cE results30 rfl) ?_)))
       exact ⟨bT (by unfold cZ;rw [if_neg h2,xN (i:=i) (by omega) (C1 hy e1),Bool.false_and]),hS.below⟩
      ·have hg37:=hc;clear hc
       have e1:inQ y st=true:=by simpa using hg37
       refine aB (d:=37) rfl rfl (aE rfl rfl (aB (d:=37) rfl rfl (gI rfl rfl rfl (aB (d:=37) rfl rfl (aE rfl rfl (bH (d:=40) rfl (fun hc=>?_) (fun hc=>?_)))))))
       ·have hg40:=of_decide_eq_true hc;clear hc
        obtain ⟨b2,off2,z,e2,hz,hzc⟩:=hfrow.at1 (show i - 1 < fs.length by omega)
        cases e2
        have k2:=hS.old hzc
        refine aB (d:=40) rfl rfl (aE rfl rfl (aB (d:=40) rfl rfl (aK (o':=5) eE rfl rfl rfl (aB (d:=40) rfl rfl (aR isAgg26 rfl (aH (hS.at_ 0 rfl) rfl) rfl (aB (d:=40) rfl rfl (aE rfl rfl (aB (d:=40) rfl rfl (op_sub rfl rfl (IntWalk.i64_in _ (by omega)) rfl (aB (d:=40) rfl rfl (bZ (j:=(i - 1)) underlying26 sizeOf3 rfl rfl (by omega) (by omega) rfl rfl (aB (d:=40) rfl rfl (aR isAgg3 rfl (k2) rfl (aB (d:=40) rfl rfl (vG rfl rfl rfl (aB (d:=37) rfl rfl (aW rfl rfl rfl (bF rfl rfl rfl (aN (XF.thenN (bB rfl (fun hc=>?_) (fun hc=>?_))))))))))))))))))))))
        ·have hc50:=of_decide_eq_true hc;clear hc
         refine aM (aQ (aC rfl rfl (aN (XF.thenN (bL (XF.blkR (XF.thenR (XF.thenR (XF.blkR (XF.thenR (XF.res (cE results30 rfl) ?_)))))))))))
         exact ⟨bT (by unfold cZ;rw [if_neg h2,xN (i:=i) (by omega) (by rw [rV hy hz e1 (by omega)];exact decide_eq_false (by omega)),Bool.false_and]),hS.below⟩
        ·have hc50:=of_decide_eq_false hc;clear hc
         refine bI (XF.blkN (XF.thenN (aQ (cP rfl rfl (IntWalk.i64_in _ (by omega)) rfl (aE rfl rfl (aN ?_))))))
         exact XF.round (fl - (i+1)) [(1,_),(26,_),(27,_),(28,_)] (by omega) ⟨rfl,rfl,rfl,rfl,trivial⟩ ⟨i+1,by omega,rfl,rfl,uO hall (by rw [rV hy hz e1 (by omega)];exact decide_eq_true (by omega)),hS.clear⟩
       ·have hg40:=of_decide_eq_false hc;clear hc
        refine aD (d:=40) rfl rfl rfl rfl (aD (d:=40) rfl rfl rfl rfl (aD (d:=40) rfl rfl rfl rfl (aD (d:=40) rfl rfl rfl rfl (aD (d:=40) rfl rfl rfl rfl (aD (d:=40) rfl rfl rfl rfl (aD (d:=40) rfl rfl rfl rfl (aD (d:=40) rfl rfl rfl rfl (aB (d:=37) rfl rfl (bF rfl rfl rfl (bF rfl rfl rfl (aN (XF.thenN (Fu rfl (bI (XF.blkN (XF.thenN (aQ (cP rfl rfl (IntWalk.i64_in _ (by omega)) rfl (aE rfl rfl (aN ?_))))))))))))))))))))
        exact XF.round (fl - (i+1)) [(1,_),(26,_),(27,_),(28,_)] (by omega) ⟨rfl,rfl,rfl,rfl,trivial⟩ ⟨i+1,by omega,rfl,rfl,uO hall (zY hy e1 (by omega)),hS.clear⟩
     ·have hc29:=of_decide_eq_false hc;clear hc
      have hfb:zX st fs=true:=E0 fun j hj=>hall j (by omega)
      refine dP (XF.thenX (XF.thenX (XF.blkX (XF.thenN (aM (aM (aQ (aK (o':=6) dR rfl rfl rfl (aR isAgg27 rfl (aH (hS.at_ 0 rfl) rfl) rfl (cC underlying27 rfl rfl (aE rfl rfl (aN (XF.thenN (bK (dQ (fun m l W=>∃ i:Nat,i≤tl∧m=tl - i∧l=[(1,.pointer (some ⟨B1,0,none⟩)),(53,.slice ta tl tc),(54,.int .i64 (tl:Int)),(55,.int .i64 (i:Int))]∧(ts.take i).all (trB st sy)=true∧St w [(B1,[.int .i64 s.f.tag,.int .i64 s.f.dim,.slice s.f.a s.f.len s.f.cap,.int .i64 st,.int .i64 sy,.slice fa fl fc,.slice ta tl tc],29)] [] [] W) (tl - 0) ([(1,_),(53,_),(54,_),(55,_)]) ⟨rfl,rfl,rfl,rfl,trivial⟩ (⟨0,Nat.zero_le _,rfl,rfl,rfl,hS.clear⟩) ?_)))))))))))))))
      clear hS
      rintro m l W ⟨i,hi,rfl,rfl,hall,hS⟩
      refine aM (aQ (cK rfl rfl rfl (aN (XF.thenN (aM (bB rfl (fun hc=>?_) (fun hc=>?_)))))))
      ·have hc56:=of_decide_eq_true hc;clear hc
       have hk:i < tl:=by omega
       obtain ⟨r,hr⟩:∃ r,ts[i]?=some r:=⟨ts[i]'(by omega),by simp [show i < ts.length by omega]⟩
       obtain ⟨b,off,rfl,hcs⟩:=htrow.at_ hr
       have k1:=aF.agree hS.agree (Nat.zero_le _) hcs
       have hri:=htin r (List.mem_of_getElem? hr)
       refine bI (XF.thenN (aM (bK (aM (aQ (bZ  underlying27 sizeOf66 rfl rfl rfl (by omega) rfl rfl (aT (vs:=[_,_,_,_,_,_,_,_,_]) isAgg66 sizeOf66 rfl (k1) rfl (bE (cs:=[_,_,_,_,_,_,_,_,_]) hS zeroValue66 rfl rfl fun B3 W3 hS=>aU (i:=0) (vs:=[_,_,_,_,_,_,_,_,_]) (cs':=[_,_,_,_,_,_,_,_,_]) (O':=[_,_]) hS sizeOf66 rfl rfl rfl rfl rfl rfl rfl fun W4 hS=>aN (XF.thenN (aM (aQ (aT (vs:=[_,_,_,_,_,_,_]) isAgg29 sizeOf29 rfl (aF.own (j:=0) (m:=7) (hS.at_ 1 rfl) rfl) rfl (aK (o':=0) pJ rfl rfl rfl (aR isAgg3 rfl (aH (hS.at_ 0 rfl) rfl) rfl (cA (vs:=[_,_]) hS xP rfl (uS ⟨s,st,sy,fa,fl,fc,fs,_,tl,tc,ts⟩ r.f _) rfl fun W5 hS=>eS rfl rfl (aE rfl rfl (bH (d:=64) rfl (fun hc=>?_) (fun hc=>?_))))))))))))))))))
       ·have hg64:=hc;clear hc
        have e1:inQ r.f st=false:=by simpa using hg64
        refine aD (d:=64) rfl rfl rfl rfl (aD (d:=64) rfl rfl rfl rfl (aD (d:=64) rfl rfl rfl rfl (aD (d:=64) rfl rfl rfl rfl (aD (d:=64) rfl rfl rfl rfl (aW rfl rfl rfl (aE rfl rfl (aD (d:=71) rfl rfl rfl rfl (aD (d:=71) rfl rfl rfl rfl (aD (d:=71) rfl rfl rfl rfl (aW rfl rfl rfl (aE rfl rfl (aD (d:=76) rfl rfl rfl rfl (aD (d:=76) rfl rfl rfl rfl (aD (d:=76) rfl rfl rfl rfl (aD (d:=76) rfl rfl rfl rfl (aD (d:=76) rfl rfl rfl rfl (aW rfl rfl rfl (aN (XF.thenN (dT rfl (aM (aQ ?_))))))))))))))))))))))
        refine aC rfl rfl (aN (XF.thenN (bL (XF.blkR (XF.thenR (XF.thenR (XF.blkR (XF.thenR (XF.res (cE results30 rfl) ?_)))))))))
        exact ⟨bT (by unfold cZ;rw [if_neg h2,cJ hr (by simp [trB,e1]),Bool.and_false]),hS.below⟩
       ·have hg64:=hc;clear hc
        have e1:inQ r.f st=true:=by simpa using hg64
        refine aB (d:=64) rfl rfl (aT (vs:=[_,_,_,_,_,_,_]) isAgg29 sizeOf29 rfl (aF.own (j:=0) (m:=7) (hS.at_ 1 rfl) rfl) rfl (aB (d:=64) rfl rfl (aK (o':=2) kE rfl rfl rfl (aB (d:=64) rfl rfl (aR isAgg3 rfl (aH (hS.at_ 0 rfl) rfl) rfl (aB (d:=64) rfl rfl (cA (vs:=[_,_]) hS xP rfl (uS ⟨s,st,sy,fa,fl,fc,fs,_,tl,tc,ts⟩ r.t _) rfl fun W6 hS=>aB (d:=64) rfl rfl (eS rfl rfl (bF rfl rfl rfl (aE rfl rfl (bH (d:=71) rfl (fun hc=>?_) (fun hc=>?_))))))))))))
        ·have hg71:=hc;clear hc
         have e3:inQ r.t st=false:=by simpa using hg71
         refine aD (d:=71) rfl rfl rfl rfl (aD (d:=71) rfl rfl rfl rfl (aD (d:=71) rfl rfl rfl rfl (aW rfl rfl rfl (aE rfl rfl (aD (d:=76) rfl rfl rfl rfl (aD (d:=76) rfl rfl rfl rfl (aD (d:=76) rfl rfl rfl rfl (aD (d:=76) rfl rfl rfl rfl (aD (d:=76) rfl rfl rfl rfl (aW rfl rfl rfl (aN (XF.thenN (dT rfl (aM (aQ (aC rfl rfl (aN (XF.thenN (bL (XF.blkR (XF.thenR (XF.thenR (XF.blkR ?_)))))))))))))))))))))))
         refine XF.thenR (XF.res (cE results30 rfl) ?_)
         exact ⟨bT (by unfold cZ;rw [if_neg h2,cJ hr (by simp [trB,e3]),Bool.and_false]),hS.below⟩
        ·have hg71:=hc;clear hc
         have e3:inQ r.t st=true:=by simpa using hg71
         refine aB (d:=71) rfl rfl (aK (o':=1) iM rfl rfl rfl (aB (d:=71) rfl rfl (aR isAgg3 rfl (aH (hS.at_ 0 rfl) rfl) rfl (aB (d:=71) rfl rfl (cK rfl rfl rfl (bF rfl rfl rfl (aE rfl rfl (bH (d:=76) rfl (fun hc=>?_) (fun hc=>?_)))))))))
         ·have hg76:=of_decide_eq_true hc;clear hc
          refine aD (d:=76) rfl rfl rfl rfl (aD (d:=76) rfl rfl rfl rfl (aD (d:=76) rfl rfl rfl rfl (aD (d:=76) rfl rfl rfl rfl (aD (d:=76) rfl rfl rfl rfl (aW rfl rfl rfl (aN (XF.thenN (dT rfl (aM (aQ (aC rfl rfl (aN (XF.thenN (bL (XF.blkR (XF.thenR (XF.thenR (XF.blkR (XF.thenR (XF.res (cE results30 rfl) ?_))))))))))))))))))))
          exact ⟨bT (by unfold cZ;rw [if_neg h2,cJ hr (by simp [trB,show ¬ (-1≤r.g) by omega]),Bool.and_false]),hS.below⟩
         ·have hg76:=of_decide_eq_false hc;clear hc
          refine aB (d:=76) rfl rfl (aK (o':=1) iM rfl rfl rfl (aB (d:=76) rfl rfl (aR isAgg3 rfl (aH (hS.at_ 0 rfl) rfl) rfl (aB (d:=76) rfl rfl (aK (o':=4) iB rfl rfl rfl (aB (d:=76) rfl rfl (aR isAgg3 rfl (aH (hS.at_ 1 rfl) rfl) rfl (aB (d:=76) rfl rfl (lO rfl rfl rfl (bF rfl rfl rfl (aN (XF.thenN (bB rfl (fun hc=>?_) (fun hc=>?_))))))))))))))
          ·have hc82:=of_decide_eq_true hc;clear hc
           refine aM (aQ (aC rfl rfl (aN (XF.thenN (bL (XF.blkR (XF.thenR (XF.thenR (XF.blkR (XF.thenR (XF.res (cE results30 rfl) ?_)))))))))))
           exact ⟨bT (by unfold cZ;rw [if_neg h2,cJ hr (by simp [trB,show ¬ (r.g < sy) by omega]),Bool.and_false]),hS.below⟩
          ·have hc82:=of_decide_eq_false hc;clear hc
           refine bI (XF.blkN (XF.thenN (aQ (cP rfl rfl (IntWalk.i64_in _ (by omega)) rfl (aE rfl rfl (aN ?_))))))
           exact XF.round (tl - (i+1)) [(1,_),(53,_),(54,_),(55,_)] (by omega) ⟨rfl,rfl,rfl,rfl,trivial⟩ ⟨i+1,by omega,rfl,rfl,eC hr hall (by simp only [trB,e1,e3,Bool.true_and];rw [decide_eq_true (show -1≤r.g by omega),decide_eq_true (show r.g < sy by omega)];rfl),hS.tail.clear⟩
      ·have hc56:=of_decide_eq_false hc;clear hc
       rw [List.take_of_length_le (by omega)] at hall
       refine dP (XF.thenX (XF.thenX (XF.blkX (XF.thenN (aM (aQ (aC rfl rfl (aN (XF.thenN (bL (XF.res (cE results30 rfl) ?_)))))))))))
       exact ⟨bT (by unfold cZ;rw [if_neg h2,hfb,hall,Bool.true_and]),hS.below⟩
theorem Kp (ds d:Nat) (a:AV) (w:World) (h:AIn w ds d a):Calls prog 30 #[a.val] w (fun e w'=>e = .returned (.bool (cZ a.st a.sy a.fs a.ts))∧Below w.heap.size w w'):=Pz ds d _ _ _ _ _ _ _ _ _ _ _ w h.s h.frow h.flen h.trow h.tlen h.tin h.fmax h.tmax
theorem autoA_c (ds d:Nat) (s:SV) (st sy:Int) (fa:Option Addr) (fl fc:Nat) (fs:List Int) (ta:Option Addr) (tl tc:Nat) (ts:List TV) (w:World) (hs:SIn w ds s) (hfrow:Row w fa fs) (hflen:fs.length=fl) (htrow:pU w ta ts) (htlen:ts.length=tl) (htin:∀ t∈ts,WIn w d t.x) (hfm:fl≤9223372036854775807) (htm:tl≤9223372036854775807) :
  Calls prog 8 #[.agg #[.int .i64 s.f.tag,.int .i64 s.f.dim,.slice s.f.a s.f.len s.f.cap,.int .i64 st,.int .i64 sy,.slice fa fl fc,.slice ta tl tc]] w (fun e w'=>e = .returned (.int .i64 (dD ⟨s,st,sy,fa,fl,fc,fs,ta,tl,tc,ts⟩))∧Below w.heap.size w w'):=by
 refine cD (args:=[.agg #[.int .i64 s.f.tag,.int .i64 s.f.dim,.slice s.f.a s.f.len s.f.cap,.int .i64 st,.int .i64 sy,.slice fa fl fc,.slice ta tl tc]]) func8 rfl ntmps8 rfl ?_
 have hS:=St.start w
 refine aM (aQ (bY (cs:=[_,_,_,_,_,_,_]) hS rfl rfl rfl fun B1 W1 hS=>aC rfl rfl (aN (XF.thenN (aM (aM (aQ (aK (o':=0) kF rfl rfl rfl (aT (vs:=[_,_,_]) isAgg25 sizeOf25 rfl (aF.own (j:=0) (m:=3) (hS.at_ 0 rfl) rfl) rfl (cA (vs:=[_]) hS tQ rfl (vM ds s _ _ (SIn.below hS.below hs) rfl) rfl fun W2 hS=>aC rfl rfl (aN (XF.thenN (aM (aQ (aE rfl rfl (dA rfl rfl rfl (aN (XF.thenN (bB rfl (fun hc=>?_) (fun hc=>?_))))))))))))))))))))
 ·have hc11:=of_decide_eq_true hc;clear hc
  refine aM (aQ (aE rfl rfl (aC rfl rfl (aN (XF.thenN (bL (XF.thenR (XF.res (cE results8 rfl) ?_))))))))
  exact ⟨dM (by unfold dD;dsimp only;rw [if_pos hc11]),hS.below⟩
 ·have hc11:=of_decide_eq_false hc;clear hc
  have h0:¬ dE s≠0:=hc11
  have hse:dE s=0:=by omega
  refine bI (XF.thenN (aM (aM (aQ (aK (o':=6) dR rfl rfl rfl (aR isAgg27 rfl (aH (hS.at_ 0 rfl) rfl) rfl (cC underlying27 rfl rfl (gI rfl rfl rfl (aN (XF.thenN (bB rfl (fun hc=>?_) (fun hc=>?_))))))))))))
  ·have hc16:=of_decide_eq_true hc;clear hc
   refine aM (aQ (aC rfl rfl (aN (XF.thenN (bL (XF.thenR (XF.res (cE results8 rfl) ?_)))))))
   exact ⟨dM (by unfold dD;dsimp only;rw [if_neg h0,if_pos (by omega)]),hS.below⟩
  ·have hc16:=of_decide_eq_false hc;clear hc
   have h1:¬ 65536 < tl:=by omega
   refine bI (XF.thenN (aM (aM (aQ (aT (vs:=[_,_,_,_,_,_,_]) isAgg29 sizeOf29 rfl (aF.own (j:=0) (m:=7) (hS.at_ 0 rfl) rfl) rfl (cA (vs:=[_]) hS goes_30 rfl (Kp ds d ⟨s,st,sy,fa,fl,fc,fs,ta,tl,tc,ts⟩ _ (AIn.below ⟨hs,hfrow,hflen,htrow,htlen,htin,hfm,htm⟩ hS.below)) rfl fun W3 hS=>eS rfl rfl (aN (XF.thenN (bB rfl (fun hc=>?_) (fun hc=>?_))))))))))
   ·have hc19:=hc;clear hc
    refine aM (aQ (aC rfl rfl (aN (XF.thenN (bL (XF.thenR (XF.res (cE results8 rfl) ?_)))))))
    exact ⟨dM (by unfold dD;dsimp only;rw [if_neg h0,if_neg h1,if_pos (by simpa using hc19)]),hS.below⟩
   ·have hc19:=hc;clear hc
    have h3:¬ cZ st sy fs ts=false:=by simpa using hc19
    refine bI (XF.thenN (aM (aM (aQ (aK (o':=6) dR rfl rfl rfl (aR isAgg27 rfl (aH (hS.at_ 0 rfl) rfl) rfl (cC underlying27 rfl rfl (aE rfl rfl (aN (XF.thenN (bK (dQ (fun m l W=>∃ i:Nat,i≤tl∧m=tl - i∧l=[(1,.pointer (some ⟨B1,0,none⟩)),(21,.slice ta tl tc),(22,.int .i64 (tl:Int)),(23,.int .i64 (i:Int))]∧(ts.take i).all (fun t=>decide (kM s t.x=0))=true∧St w [(B1,[.int .i64 s.f.tag,.int .i64 s.f.dim,.slice s.f.a s.f.len s.f.cap,.int .i64 st,.int .i64 sy,.slice fa fl fc,.slice ta tl tc],29)] [] [] W) (tl - 0) ([(1,_),(21,_),(22,_),(23,_)]) ⟨rfl,rfl,rfl,rfl,trivial⟩ (⟨0,Nat.zero_le _,rfl,rfl,rfl,hS.clear⟩) ?_))))))))))))
    clear hS
    rintro m l W ⟨i,hi,rfl,rfl,hall,hS⟩
    refine aM (aQ (cK rfl rfl rfl (aN (XF.thenN (aM (bB rfl (fun hc=>?_) (fun hc=>?_)))))))
    ·have hc24:=of_decide_eq_true hc;clear hc
     have hk:i < tl:=by omega
     obtain ⟨r,hr⟩:∃ r,ts[i]?=some r:=⟨ts[i]'(by omega),by simp [show i < ts.length by omega]⟩
     obtain ⟨b,off,rfl,hcs⟩:=htrow.at_ hr
     have k1:=aF.agree hS.agree (Nat.zero_le _) hcs
     have hri:=htin r (List.mem_of_getElem? hr)
     refine bI (XF.thenN (aM (bK (aM (aQ (bZ  underlying27 sizeOf66 rfl rfl rfl (by omega) rfl rfl (aT (vs:=[_,_,_,_,_,_,_,_,_]) isAgg66 sizeOf66 rfl (k1) rfl (bE (cs:=[_,_,_,_,_,_,_,_,_]) hS zeroValue66 rfl rfl fun B4 W4 hS=>aU (i:=0) (vs:=[_,_,_,_,_,_,_,_,_]) (cs':=[_,_,_,_,_,_,_,_,_]) (O':=[_,_]) hS sizeOf66 rfl rfl rfl rfl rfl rfl rfl fun W5 hS=>aN (XF.thenN (aM (aQ (aK (o':=0) kF rfl rfl rfl (aT (vs:=[_,_,_]) isAgg25 sizeOf25 rfl (aF.own (j:=0) (m:=3) (hS.at_ 1 rfl) rfl) rfl (aK (o':=3) nK rfl rfl rfl (aT (vs:=[_,_,_,_,_,_]) isAgg44 sizeOf44 rfl (aF.own (j:=3) (m:=6) (hS.at_ 0 rfl) rfl) rfl (cA (vs:=[_,_]) hS goes_31 rfl (Hm ds d s r.x _ (SIn.below hS.below hs) (WIn.below hS.below hri)) rfl fun W6 hS=>aC rfl rfl (aN (XF.thenN (aM (aQ (aE rfl rfl (dA rfl rfl rfl ?_))))))))))))))))))))))
     refine aN (XF.thenN (bB rfl (fun hc=>?_) (fun hc=>?_)))
     ·have hc33:=of_decide_eq_true hc;clear hc
      refine aM (aQ (aE rfl rfl (aC rfl rfl (aN (XF.thenN (bL (XF.blkR (XF.thenR (XF.thenR (XF.blkR (XF.thenR (XF.res (cE results8 rfl) ?_))))))))))))
      exact ⟨dM (by unfold dD;dsimp only;rw [if_neg h0,if_neg h1,if_neg h3,if_neg (by rw [cJ hr (decide_eq_false hc33)];decide),chkW_51 hse hc33]),hS.below⟩
     ·have hc33:=of_decide_eq_false hc;clear hc
      refine bI (XF.blkN (XF.thenN (aQ (cP rfl rfl (IntWalk.i64_in _ (by omega)) rfl (aE rfl rfl (aN ?_))))))
      exact XF.round (tl - (i+1)) [(1,_),(21,_),(22,_),(23,_)] (by omega) ⟨rfl,rfl,rfl,rfl,trivial⟩ ⟨i+1,by omega,rfl,rfl,eC hr hall (by simpa using hc33),hS.tail.clear⟩
    ·have hc24:=of_decide_eq_false hc;clear hc
     rw [List.take_of_length_le (by omega)] at hall
     refine dP (XF.thenX (XF.thenX (XF.blkX (XF.thenN (aM (aQ (aC rfl rfl (aN (XF.thenN (bL (XF.res (cE results8 rfl) ?_)))))))))))
     exact ⟨dM (by unfold dD;dsimp only;rw [if_neg h0,if_neg h1,if_neg h3,if_pos hall]),hS.below⟩
theorem H5 (ds d:Nat) (a:AV) (w:World) (h:AIn w ds d a):Calls prog 8 #[a.val] w (fun e w'=>e = .returned (.int .i64 (dD a))∧Below w.heap.size w w'):=autoA_c ds d _ _ _ _ _ _ _ _ _ _ _ w h.s h.frow h.flen h.trow h.tlen h.tin h.fmax h.tmax
theorem autoR_c (ds d:Nat) (s:SV) (st sy:Int) (fa:Option Addr) (fl fc:Nat) (fs:List Int) (ta:Option Addr) (tl tc:Nat) (ts:List TV) (w:World) (hs:SIn w ds s) (hfrow:Row w fa fs) (hflen:fs.length=fl) (htrow:pU w ta ts) (htlen:ts.length=tl) (htin:∀ t∈ts,WIn w d t.x) (hfm:fl≤9223372036854775807) (htm:tl≤9223372036854775807) :
  Calls prog 9 #[.agg #[.int .i64 s.f.tag,.int .i64 s.f.dim,.slice s.f.a s.f.len s.f.cap,.int .i64 st,.int .i64 sy,.slice fa fl fc,.slice ta tl tc]] w (fun e w'=>e = .returned (.int .i64 (dD ⟨s,st,sy,fa,fl,fc,fs,ta,tl,tc,ts⟩))∧Below w.heap.size w w'):=by
 refine cD (args:=[.agg #[.int .i64 s.f.tag,.int .i64 s.f.dim,.slice s.f.a s.f.len s.f.cap,.int .i64 st,.int .i64 sy,.slice fa fl fc,.slice ta tl tc]]) func9 rfl ntmps9 rfl ?_
 have hS:=St.start w
 refine aM (aQ (bY (cs:=[_,_,_,_,_,_,_]) hS rfl rfl rfl fun B1 W1 hS=>aC rfl rfl (aN (XF.thenN (aM (aQ (aK (o':=0) kF rfl rfl rfl (aT (vs:=[_,_,_]) isAgg25 sizeOf25 rfl (aF.own (j:=0) (m:=3) (hS.at_ 0 rfl) rfl) rfl (cA (vs:=[_]) hS Di rfl (vR ds s _ _ (SIn.below hS.below hs) rfl) rfl fun W2 hS=>aC rfl rfl (aN (XF.thenN (aM (aM (aQ (aE rfl rfl (dA rfl rfl rfl (aN (XF.thenN (bB rfl (fun hc=>?_) (fun hc=>?_))))))))))))))))))))
 ·have hc12:=of_decide_eq_true hc;clear hc
  refine aM (aQ (aE rfl rfl (aC rfl rfl (aN (XF.thenN (bL (XF.thenR (XF.res (cE results9 rfl) ?_))))))))
  exact ⟨dM (by unfold dD;dsimp only;rw [if_pos hc12]),hS.below⟩
 ·have hc12:=of_decide_eq_false hc;clear hc
  have h0:¬ dE s≠0:=hc12
  have hse:dE s=0:=by omega
  refine bI (XF.thenN (aM (aM (aQ (aK (o':=6) dR rfl rfl rfl (aR isAgg27 rfl (aH (hS.at_ 0 rfl) rfl) rfl (cC underlying27 rfl rfl (gI rfl rfl rfl (aN (XF.thenN (bB rfl (fun hc=>?_) (fun hc=>?_))))))))))))
  ·have hc17:=of_decide_eq_true hc;clear hc
   refine aM (aQ (aC rfl rfl (aN (XF.thenN (bL (XF.thenR (XF.res (cE results9 rfl) ?_)))))))
   exact ⟨dM (by unfold dD;dsimp only;rw [if_neg h0,if_pos (by omega)]),hS.below⟩
  ·have hc17:=of_decide_eq_false hc;clear hc
   have h1:¬ 65536 < tl:=by omega
   refine bI (XF.thenN (aM (aM (aQ (aK (o':=3) fQ rfl rfl rfl (aR isAgg3 rfl (aH (hS.at_ 0 rfl) rfl) rfl (cK rfl rfl rfl (aE rfl rfl (bH (d:=21) rfl (fun hc=>?_) (fun hc=>?_))))))))))
   ·have hg21:=of_decide_eq_true hc;clear hc
    refine aD (d:=21) rfl rfl rfl rfl (aD (d:=21) rfl rfl rfl rfl (aD (d:=21) rfl rfl rfl rfl (aW rfl rfl rfl (aE rfl rfl (aD (d:=26) rfl rfl rfl rfl (aD (d:=26) rfl rfl rfl rfl (aD (d:=26) rfl rfl rfl rfl (aW rfl rfl rfl (aE rfl rfl (aD (d:=31) rfl rfl rfl rfl (aD (d:=31) rfl rfl rfl rfl (aD (d:=31) rfl rfl rfl rfl (aW rfl rfl rfl (aN (XF.thenN (dT rfl (aM (aQ (aC rfl rfl (aN (XF.thenN (bL (XF.thenR ?_)))))))))))))))))))))))
    refine XF.res (cE results9 rfl) ?_
    exact ⟨dM (by unfold dD;dsimp only;rw [if_neg h0,if_neg h1,if_pos (by unfold cZ;rw [if_pos (by omega)])]),hS.below⟩
   ·have hg21:=of_decide_eq_false hc;clear hc
    refine aB (d:=21) rfl rfl (aK (o':=3) fQ rfl rfl rfl (aB (d:=21) rfl rfl (aR isAgg3 rfl (aH (hS.at_ 0 rfl) rfl) rfl (aB (d:=21) rfl rfl (gI rfl rfl rfl (bF rfl rfl rfl (aE rfl rfl (bH (d:=26) rfl (fun hc=>?_) (fun hc=>?_)))))))))
    ·have hg26:=of_decide_eq_true hc;clear hc
     refine aD (d:=26) rfl rfl rfl rfl (aD (d:=26) rfl rfl rfl rfl (aD (d:=26) rfl rfl rfl rfl (aW rfl rfl rfl (aE rfl rfl (aD (d:=31) rfl rfl rfl rfl (aD (d:=31) rfl rfl rfl rfl (aD (d:=31) rfl rfl rfl rfl (aW rfl rfl rfl (aN (XF.thenN (dT rfl (aM (aQ (aC rfl rfl (aN (XF.thenN (bL (XF.thenR (XF.res (cE results9 rfl) ?_)))))))))))))))))))
     exact ⟨dM (by unfold dD;dsimp only;rw [if_neg h0,if_neg h1,if_pos (by unfold cZ;rw [if_pos (by omega)])]),hS.below⟩
    ·have hg26:=of_decide_eq_false hc;clear hc
     refine aB (d:=26) rfl rfl (aK (o':=4) iB rfl rfl rfl (aB (d:=26) rfl rfl (aR isAgg3 rfl (aH (hS.at_ 0 rfl) rfl) rfl (aB (d:=26) rfl rfl (cK rfl rfl rfl (bF rfl rfl rfl (aE rfl rfl (bH (d:=31) rfl (fun hc=>?_) (fun hc=>?_)))))))))
     ·have hg31:=of_decide_eq_true hc;clear hc
      refine aD (d:=31) rfl rfl rfl rfl (aD (d:=31) rfl rfl rfl rfl (aD (d:=31) rfl rfl rfl rfl (aW rfl rfl rfl (aN (XF.thenN (dT rfl (aM (aQ (aC rfl rfl (aN (XF.thenN (bL (XF.thenR (XF.res (cE results9 rfl) ?_))))))))))))))
      exact ⟨dM (by unfold dD;dsimp only;rw [if_neg h0,if_neg h1,if_pos (by unfold cZ;rw [if_pos (by omega)])]),hS.below⟩
     ·have hg31:=of_decide_eq_false hc;clear hc
      refine aB (d:=31) rfl rfl (aK (o':=4) iB rfl rfl rfl (aB (d:=31) rfl rfl (aR isAgg3 rfl (aH (hS.at_ 0 rfl) rfl) rfl (aB (d:=31) rfl rfl (gI rfl rfl rfl (bF rfl rfl rfl (aN (XF.thenN (bB rfl (fun hc=>?_) (fun hc=>?_))))))))))
      ·have hc35:=of_decide_eq_true hc;clear hc
       refine aM (aQ (aC rfl rfl (aN (XF.thenN (bL (XF.thenR (XF.res (cE results9 rfl) ?_)))))))
       exact ⟨dM (by unfold dD;dsimp only;rw [if_neg h0,if_neg h1,if_pos (by unfold cZ;rw [if_pos (by omega)])]),hS.below⟩
      ·have hc35:=of_decide_eq_false hc;clear hc
       have h2:¬ (st < 0∨4096 < st∨sy < 0∨4096 < sy):=by omega
       refine bI (XF.thenN (aM (aM (aQ (aC rfl rfl (aN (XF.thenN (bK (dQ (fun m l W=>∃ i:Nat,i≤fl∧m=fl - i∧l=[(1,.pointer (some ⟨B1,0,none⟩)),(4,.int .i64 (i:Int))]∧(∀ j,j < i→jL st fs j=true)∧St w [(B1,[.int .i64 s.f.tag,.int .i64 s.f.dim,.slice s.f.a s.f.len s.f.cap,.int .i64 st,.int .i64 sy,.slice fa fl fc,.slice ta tl tc],29)] [] [] W) (fl - 0) ([(1,_),(4,_)]) ⟨rfl,rfl,trivial⟩ (⟨0,Nat.zero_le _,rfl,rfl,fun j hj=>absurd hj (Nat.not_lt_zero _),hS.clear⟩) ?_)))))))))
       clear hS
       rintro m l W ⟨i,hi,rfl,rfl,hall,hS⟩
       refine aM (aM (aQ (aE rfl rfl (aK (o':=5) eE rfl rfl rfl (aR isAgg26 rfl (aH (hS.at_ 0 rfl) rfl) rfl (cC underlying26 rfl rfl (cK rfl rfl rfl (aN (XF.thenN (bB rfl (fun hc=>?_) (fun hc=>?_)))))))))))
       ·have hc40:=of_decide_eq_true hc;clear hc
        have hk:i < fl:=by omega
        obtain ⟨b,off,y,rfl,hy,hyc⟩:=hfrow.at1 (show i < fs.length by omega)
        have k1:=hS.old hyc
        refine bI (XF.thenN (aM (bK (aM ?_))))
        rcases (show inQ y st=false∨(inQ y st=true∧i=0)∨(inQ y st=true∧0 < i) by cases inQ y st<;>simp<;>omega) with e1 | ⟨e1,h9⟩ | ⟨e1,h9⟩
        ·skip
         refine lQ (m:=26) cF hS (by kernel_rfl) (by kernel_rfl) rfl (cL 1 rfl 1 rfl rfl (fun w hw=>bD (vs:=[_,_,_,_,_,_,_]) isAgg29 sizeOf29 rfl (aF.agree (aP hw 0) (Nat.zero_le _) (aF.own (j:=0) (m:=7) (hS.at_ 0 rfl) rfl))) rfl (cL 2 rfl 1 rfl rfl (fun w hw=>aV (o':=5) eE rfl rfl) rfl (bC 3 rfl 44 1 rfl rfl rfl (fun w hw=>aZ isAgg26 rfl ((aP hw 0).cell (Nat.zero_le _) (aH (hS.at_ 0 rfl) rfl))) rfl (cL 4 rfl 4 rfl rfl (fun w hw=>bA rfl) rfl (aL 5 rfl (isV _) (aI _) (rgV (li:=[(45,_),(46,_)]) rfl (aS rfl) ⟨aO 2 (aA rfl rfl rfl),aO 3 (aA rfl rfl rfl),trivial⟩ (fun w hw=>bG  underlying26 sizeOf3 rfl rfl rfl (by omega) rfl) (aG rfl)) (bC 6 rfl 47 4 rfl rfl rfl (fun w hw=>aZ isAgg3 rfl ((aP hw 0).cell (Nat.zero_le _) (k1))) rfl ?_))))))
         refine aL 7 rfl (isV (.bool false)) (aI _) (dB [isV _,isV _] rfl uR (aS rfl) ⟨cH (aO 0 (aA rfl rfl rfl)),cH (aO 5 (aA rfl rfl rfl)),trivial⟩ (fun vs w' hb hh=>by have e:=cI (us:=[_,_]) hh;subst e;exact (Ab ⟨s,st,sy,_,fl,fc,fs,ta,tl,tc,ts⟩ y _).mono fun e w2 h=>⟨_,by rw [h.1,e1],rfl,h.2⟩) (aG rfl)) ?_
         refine aL 8 rfl (isV (.bool true)) (aI _) (qB (li:=[(49,_)]) rfl (aS rfl) ⟨aO 6 (aA rfl rfl rfl),trivial⟩ (fun w hw=>lN rfl) (rfl) (aG rfl)) (bC 9 rfl 50 7 rfl rfl rfl (fun w hw=>bA rfl) rfl (aL 10 rfl (isV undef) (aI _) (bQ rfl (bX 51 rfl (aA rfl rfl rfl) rfl) (aG rfl)) (aL 11 rfl (isV undef) (aI _) (bQ rfl (bX 51 rfl (aA rfl rfl rfl) rfl) (aG rfl)) (aL 12 rfl (isV undef) (aI _) (bQ rfl (bX 51 rfl (aA rfl rfl rfl) rfl) (aG rfl)) (aL 13 rfl (isV undef) (aI _) (bQ rfl (pP 54 rfl (aA rfl rfl rfl)) (aG rfl)) (aL 14 rfl (isV undef) (aI _) (bQ rfl (pP 54 rfl (aA rfl rfl rfl)) (aG rfl)) (aL 15 rfl (isV undef) (aI _) (bQ rfl (pP 54 rfl (aA rfl rfl rfl)) (aG rfl)) (aL 16 rfl (isV undef) (aI _) (bQ rfl (pP 54 rfl (aA rfl rfl rfl)) (aG rfl)) (aL 17 rfl (isV undef) (aI _) (bQ rfl (pP 54 rfl (aA rfl rfl rfl)) (aG rfl)) (aL 18 rfl (isV undef) (aI _) (bQ rfl (pP 54 rfl (aA rfl rfl rfl)) (aG rfl)) (aL 19 rfl (isV undef) (aI _) (bQ rfl (pP 54 rfl (aA rfl rfl rfl)) (aG rfl)) (aL 20 rfl (isV undef) (aI _) (bQ rfl (pP 54 rfl (aA rfl rfl rfl)) (aG rfl)) (aL 21 rfl (isV undef) (aI _) (bQ rfl (pP 54 rfl (aA rfl rfl rfl)) (aG rfl)) (aL 22 rfl (isV undef) (aI _) (bQ rfl (pP 54 rfl (aA rfl rfl rfl)) (aG rfl)) (aL 23 rfl (isV undef) (aI _) (bQ rfl (pP 54 rfl (aA rfl rfl rfl)) (aG rfl)) (aL 24 rfl (isV undef) (aI _) (bQ rfl (pP 54 rfl (aA rfl rfl rfl)) (aG rfl)) (aL 25 rfl (isV undef) (aI _) (bQ rfl (bX 51 rfl (aA rfl rfl rfl) rfl) (aG rfl)) (bC 26 rfl 51 8 rfl rfl rfl (fun w hw=>eX rfl rfl) rfl (dW ?_)))))))))))))))))))
         intro W3 hbR hS'
         clear hS;have hS:=hS';clear hS'
         refine aJ (aJ (aJ (aJ (aJ (aJ (aJ (aJ (aJ (aJ (aJ (aJ (aJ (aJ (aJ (aJ (aJ (aJ (aJ (aJ (aJ ?_))))))))))))))))))))
         refine aJ (aJ (aJ (aJ (aJ (cQ (XF.thenN (dT rfl (aM (aQ (aC rfl rfl (aN (XF.thenN (bL (XF.blkR (XF.thenR (XF.thenR (XF.blkR (XF.thenR (XF.res (cE results9 rfl) ?_)))))))))))))))))))
         exact ⟨dM (by unfold dD;dsimp only;rw [if_neg h0,if_neg h1,if_pos (by unfold cZ;rw [if_neg h2,xN (i:=i) (by omega) (C1 hy e1),Bool.false_and])]),hS.below⟩
        ·skip
         refine lQ (m:=26) cF hS (by kernel_rfl) (by kernel_rfl) rfl (cL 1 rfl 1 rfl rfl (fun w hw=>bD (vs:=[_,_,_,_,_,_,_]) isAgg29 sizeOf29 rfl (aF.agree (aP hw 0) (Nat.zero_le _) (aF.own (j:=0) (m:=7) (hS.at_ 0 rfl) rfl))) rfl (cL 2 rfl 1 rfl rfl (fun w hw=>aV (o':=5) eE rfl rfl) rfl (bC 3 rfl 44 1 rfl rfl rfl (fun w hw=>aZ isAgg26 rfl ((aP hw 0).cell (Nat.zero_le _) (aH (hS.at_ 0 rfl) rfl))) rfl (cL 4 rfl 4 rfl rfl (fun w hw=>bA rfl) rfl (aL 5 rfl (isV _) (aI _) (rgV (li:=[(45,_),(46,_)]) rfl (aS rfl) ⟨aO 2 (aA rfl rfl rfl),aO 3 (aA rfl rfl rfl),trivial⟩ (fun w hw=>bG  underlying26 sizeOf3 rfl rfl rfl (by omega) rfl) (aG rfl)) (bC 6 rfl 47 4 rfl rfl rfl (fun w hw=>aZ isAgg3 rfl ((aP hw 0).cell (Nat.zero_le _) (k1))) rfl ?_))))))
         refine aL 7 rfl (isV (.bool true)) (aI _) (dB [isV _,isV _] rfl uR (aS rfl) ⟨cH (aO 0 (aA rfl rfl rfl)),cH (aO 5 (aA rfl rfl rfl)),trivial⟩ (fun vs w' hb hh=>by have e:=cI (us:=[_,_]) hh;subst e;exact (Ab ⟨s,st,sy,_,fl,fc,fs,ta,tl,tc,ts⟩ y _).mono fun e w2 h=>⟨_,by rw [h.1,e1],rfl,h.2⟩) (aG rfl)) ?_
         refine aL 8 rfl (isV (.bool false)) (aI _) (qB (li:=[(49,_)]) rfl (aS rfl) ⟨aO 6 (aA rfl rfl rfl),trivial⟩ (fun w hw=>lN rfl) (rfl) (aG rfl)) (bC 9 rfl 50 7 rfl rfl rfl (fun w hw=>bA rfl) rfl (aL 10 rfl (isV _) (aI _) (rgV (li:=[(4,_)]) rfl (bR 51 rfl (aA rfl rfl rfl)) ⟨cG rfl,trivial⟩ (fun w hw=>bA rfl) (aG rfl)) (aL 11 rfl (isV (.bool false)) (aI _) (qB (li:=[(52,_)]) rfl (bR 51 rfl (aA rfl rfl rfl)) ⟨aO 9 (aA rfl rfl rfl),trivial⟩ (fun w hw=>I6 rfl rfl) (by rw [decide_eq_false (by omega)]) (aG rfl)) (aL 12 rfl (isV _) (aI _) (rgV (li:=[(53,_)]) rfl (bR 51 rfl (aA rfl rfl rfl)) ⟨aO 10 (aA rfl rfl rfl),trivial⟩ (fun w hw=>bA rfl) (aG rfl)) (aL 13 rfl (isV undef) (aI _) (bQ rfl (bX 54 rfl (aA rfl rfl rfl) rfl) (aG rfl)) (aL 14 rfl (isV undef) (aI _) (bQ rfl (bX 54 rfl (aA rfl rfl rfl) rfl) (aG rfl)) (aL 15 rfl (isV undef) (aI _) (bQ rfl (bX 54 rfl (aA rfl rfl rfl) rfl) (aG rfl)) (aL 16 rfl (isV undef) (aI _) (bQ rfl (bX 54 rfl (aA rfl rfl rfl) rfl) (aG rfl)) (aL 17 rfl (isV undef) (aI _) (bQ rfl (bX 54 rfl (aA rfl rfl rfl) rfl) (aG rfl)) (aL 18 rfl (isV undef) (aI _) (bQ rfl (bX 54 rfl (aA rfl rfl rfl) rfl) (aG rfl)) (aL 19 rfl (isV undef) (aI _) (bQ rfl (bX 54 rfl (aA rfl rfl rfl) rfl) (aG rfl)) (aL 20 rfl (isV undef) (aI _) (bQ rfl (bX 54 rfl (aA rfl rfl rfl) rfl) (aG rfl)) (aL 21 rfl (isV undef) (aI _) (bQ rfl (bX 54 rfl (aA rfl rfl rfl) rfl) (aG rfl)) (aL 22 rfl (isV undef) (aI _) (bQ rfl (bX 54 rfl (aA rfl rfl rfl) rfl) (aG rfl)) (aL 23 rfl (isV undef) (aI _) (bQ rfl (bX 54 rfl (aA rfl rfl rfl) rfl) (aG rfl)) (aL 24 rfl (isV undef) (aI _) (bQ rfl (bX 54 rfl (aA rfl rfl rfl) rfl) (aG rfl)) (aL 25 rfl (isV _) (aI _) (rgV (li:=[(54,_)]) rfl (bR 51 rfl (aA rfl rfl rfl)) ⟨aO 11 (aA rfl rfl rfl),trivial⟩ (fun w hw=>eY rfl rfl) (aG rfl)) (aL 26 rfl (isV _) (aI _) (rgV (li:=[(51,_),(67,_)]) rfl (aS rfl) ⟨aO 8 (aA rfl rfl rfl),aO 24 (aA rfl rfl rfl),trivial⟩ (fun w hw=>eY rfl rfl) (aG rfl)) (dW ?_)))))))))))))))))))
         intro W4 hbR hS'
         clear hS;have hS:=hS';clear hS'
         refine aJ (aJ (aJ (aJ (aJ (aJ (aJ (aJ (aJ (aJ (aJ (aJ (aJ (aJ (aJ (aJ (aJ (aJ (aJ (aJ (aJ ?_))))))))))))))))))))
         refine aJ (aJ (aJ (aJ (aJ (cQ (XF.thenN (Fu rfl (bI (XF.blkN (XF.thenN (aQ (aE rfl rfl (cP rfl rfl (IntWalk.i64_in _ (by omega)) rfl (aC rfl rfl (aN ?_)))))))))))))))
         exact XF.round (fl - (i+1)) [(1,_),(4,_)] (by omega) ⟨rfl,rfl,trivial⟩ ⟨i+1,by omega,rfl,rfl,uO hall (zY hy e1 h9),hS.clear⟩
        ·obtain ⟨b2,off2,z,e2,hz,hzc⟩:=hfrow.at1 (show i - 1 < fs.length by omega)
         cases e2
         have k2:=hS.old hzc
         refine lQ (m:=26) cF hS (by kernel_rfl) (by kernel_rfl) rfl (cL 1 rfl 1 rfl rfl (fun w hw=>bD (vs:=[_,_,_,_,_,_,_]) isAgg29 sizeOf29 rfl (aF.agree (aP hw 0) (Nat.zero_le _) (aF.own (j:=0) (m:=7) (hS.at_ 0 rfl) rfl))) rfl (cL 2 rfl 1 rfl rfl (fun w hw=>aV (o':=5) eE rfl rfl) rfl (bC 3 rfl 44 1 rfl rfl rfl (fun w hw=>aZ isAgg26 rfl ((aP hw 0).cell (Nat.zero_le _) (aH (hS.at_ 0 rfl) rfl))) rfl (cL 4 rfl 4 rfl rfl (fun w hw=>bA rfl) rfl (aL 5 rfl (isV _) (aI _) (rgV (li:=[(45,_),(46,_)]) rfl (aS rfl) ⟨aO 2 (aA rfl rfl rfl),aO 3 (aA rfl rfl rfl),trivial⟩ (fun w hw=>bG  underlying26 sizeOf3 rfl rfl rfl (by omega) rfl) (aG rfl)) (bC 6 rfl 47 4 rfl rfl rfl (fun w hw=>aZ isAgg3 rfl ((aP hw 0).cell (Nat.zero_le _) (k1))) rfl ?_))))))
         refine aL 7 rfl (isV (.bool true)) (aI _) (dB [isV _,isV _] rfl uR (aS rfl) ⟨cH (aO 0 (aA rfl rfl rfl)),cH (aO 5 (aA rfl rfl rfl)),trivial⟩ (fun vs w' hb hh=>by have e:=cI (us:=[_,_]) hh;subst e;exact (Ab ⟨s,st,sy,_,fl,fc,fs,ta,tl,tc,ts⟩ y _).mono fun e w2 h=>⟨_,by rw [h.1,e1],rfl,h.2⟩) (aG rfl)) ?_
         refine aL 8 rfl (isV (.bool false)) (aI _) (qB (li:=[(49,_)]) rfl (aS rfl) ⟨aO 6 (aA rfl rfl rfl),trivial⟩ (fun w hw=>lN rfl) (rfl) (aG rfl)) (bC 9 rfl 50 7 rfl rfl rfl (fun w hw=>bA rfl) rfl (aL 10 rfl (isV _) (aI _) (rgV (li:=[(4,_)]) rfl (bR 51 rfl (aA rfl rfl rfl)) ⟨cG rfl,trivial⟩ (fun w hw=>bA rfl) (aG rfl)) (aL 11 rfl (isV (.bool true)) (aI _) (qB (li:=[(52,_)]) rfl (bR 51 rfl (aA rfl rfl rfl)) ⟨aO 9 (aA rfl rfl rfl),trivial⟩ (fun w hw=>I6 rfl rfl) (by rw [decide_eq_true (by omega)]) (aG rfl)) (aL 12 rfl (isV _) (aI _) (rgV (li:=[(53,_)]) rfl (bR 51 rfl (aA rfl rfl rfl)) ⟨aO 10 (aA rfl rfl rfl),trivial⟩ (fun w hw=>bA rfl) (aG rfl)) (aL 13 rfl (isV _) (aI _) (rgV (li:=[(1,_)]) rfl (bR 54 rfl (aA rfl rfl rfl)) ⟨cG rfl,trivial⟩ (fun w hw=>aV (o':=5) eE rfl rfl) (aG rfl)) (aL 14 rfl (isV _) (aI _) (rgV (li:=[(55,_)]) rfl (bR 54 rfl (aA rfl rfl rfl)) ⟨aO 12 (aA rfl rfl rfl),trivial⟩ (fun w hw=>aZ isAgg26 rfl ((aP hw 0).cell (Nat.zero_le _) (aH (hS.at_ 0 rfl) rfl))) (aG rfl)) (aL 15 rfl (isV _) (aI _) (rgV (li:=[(4,_)]) rfl (bR 54 rfl (aA rfl rfl rfl)) ⟨cG rfl,trivial⟩ (fun w hw=>bA rfl) (aG rfl)) (aL 16 rfl (isV _) (aI _) (rgV (li:=[(56,_),(57,_)]) rfl (bR 54 rfl (aA rfl rfl rfl)) ⟨aO 13 (aA rfl rfl rfl),aO 14 (aA rfl rfl rfl),trivial⟩ (fun w hw=>bG  underlying26 sizeOf3 rfl rfl rfl (by omega) rfl) (aG rfl)) (aL 17 rfl (isV _) (aI _) (rgV (li:=[(58,_)]) rfl (bR 54 rfl (aA rfl rfl rfl)) ⟨aO 15 (aA rfl rfl rfl),trivial⟩ (fun w hw=>aZ isAgg3 rfl ((aP hw 0).cell (Nat.zero_le _) (k1))) (aG rfl)) (aL 18 rfl (isV _) (aI _) (rgV (li:=[(1,_)]) rfl (bR 54 rfl (aA rfl rfl rfl)) ⟨cG rfl,trivial⟩ (fun w hw=>aV (o':=5) eE rfl rfl) (aG rfl)) (aL 19 rfl (isV _) (aI _) (rgV (li:=[(60,_)]) rfl (bR 54 rfl (aA rfl rfl rfl)) ⟨aO 17 (aA rfl rfl rfl),trivial⟩ (fun w hw=>aZ isAgg26 rfl ((aP hw 0).cell (Nat.zero_le _) (aH (hS.at_ 0 rfl) rfl))) (aG rfl)) (aL 20 rfl (isV _) (aI _) (rgV (li:=[(4,_)]) rfl (bR 54 rfl (aA rfl rfl rfl)) ⟨cG rfl,trivial⟩ (fun w hw=>bA rfl) (aG rfl)) (aL 21 rfl (isV _) (aI _) (rgV (li:=[(62,_)]) rfl (bR 54 rfl (aA rfl rfl rfl)) ⟨aO 19 (aA rfl rfl rfl),trivial⟩ (fun w hw=>Qo rfl rfl (IntWalk.i64_in _ (by omega))) (aG rfl)) (aL 22 rfl (isV _) (aI _) (rgV (li:=[(61,_),(63,_)]) rfl (bR 54 rfl (aA rfl rfl rfl)) ⟨aO 18 (aA rfl rfl rfl),aO 20 (aA rfl rfl rfl),trivial⟩ (fun w hw=>bG (j:=(i - 1)) underlying26 sizeOf3 rfl rfl (by omega) (by omega) rfl) (aG rfl)) (aL 23 rfl (isV _) (aI _) (rgV (li:=[(64,_)]) rfl (bR 54 rfl (aA rfl rfl rfl)) ⟨aO 21 (aA rfl rfl rfl),trivial⟩ (fun w hw=>aZ isAgg3 rfl ((aP hw 0).cell (Nat.zero_le _) (k2))) (aG rfl)) (aL 24 rfl (isV _) (aI _) (rgV (li:=[(59,_),(65,_)]) rfl (bR 54 rfl (aA rfl rfl rfl)) ⟨aO 16 (aA rfl rfl rfl),aO 22 (aA rfl rfl rfl),trivial⟩ (fun w hw=>Qn rfl rfl) (aG rfl)) (aL 25 rfl (isV _) (aI _) (rgV (li:=[(54,_),(66,_)]) rfl (bR 51 rfl (aA rfl rfl rfl)) ⟨aO 11 (aA rfl rfl rfl),aO 23 (aA rfl rfl rfl),trivial⟩ (fun w hw=>eX rfl rfl) (aG rfl)) (aL 26 rfl (isV _) (aI _) (rgV (li:=[(51,_),(67,_)]) rfl (aS rfl) ⟨aO 8 (aA rfl rfl rfl),aO 24 (aA rfl rfl rfl),trivial⟩ (fun w hw=>eY rfl rfl) (aG rfl)) (dW ?_)))))))))))))))))))
         intro W5 hbR hS'
         clear hS;have hS:=hS';clear hS'
         refine aJ (aJ (aJ (aJ (aJ (aJ (aJ (aJ (aJ (aJ (aJ (aJ (aJ (aJ (aJ (aJ (aJ (aJ (aJ (aJ (aJ ?_))))))))))))))))))))
         refine aJ (aJ (aJ (aJ (aJ (cQ (XF.thenN (bB rfl (fun hc=>?_) (fun hc=>?_))))))))
         ·have hc68:=hc;clear hc
          have hyz:=of_decide_eq_true hc68
          refine aM (aQ (aC rfl rfl (aN (XF.thenN (bL (XF.blkR (XF.thenR (XF.thenR (XF.blkR (XF.thenR (XF.res (cE results9 rfl) ?_)))))))))))
          exact ⟨dM (by unfold dD;dsimp only;rw [if_neg h0,if_neg h1,if_pos (by unfold cZ;rw [if_neg h2,xN (i:=i) (by omega) (by rw [rV hy hz e1 h9];exact decide_eq_false (by omega)),Bool.false_and])]),hS.below⟩
         ·have hc68:=hc;clear hc
          have hyz:=of_decide_eq_false hc68
          refine bI (XF.blkN (XF.thenN (aQ (aE rfl rfl (cP rfl rfl (IntWalk.i64_in _ (by omega)) rfl (aC rfl rfl (aN ?_)))))))
          exact XF.round (fl - (i+1)) [(1,_),(4,_)] (by omega) ⟨rfl,rfl,trivial⟩ ⟨i+1,by omega,rfl,rfl,uO hall (by rw [rV hy hz e1 h9];exact decide_eq_true (by omega)),hS.clear⟩
       ·have hc40:=of_decide_eq_false hc;clear hc
        have hfb:zX st fs=true:=E0 fun j hj=>hall j (by omega)
        refine dP (XF.thenX (XF.thenX (XF.blkX (XF.thenN (aM (aM (aQ (aC rfl rfl (aN (XF.thenN (bK (dQ (fun m l W=>∃ i:Nat,i≤tl∧m=tl - i∧l=[(1,.pointer (some ⟨B1,0,none⟩)),(5,.int .i64 (i:Int))]∧(ts.take i).all (trB st sy)=true∧St w [(B1,[.int .i64 s.f.tag,.int .i64 s.f.dim,.slice s.f.a s.f.len s.f.cap,.int .i64 st,.int .i64 sy,.slice fa fl fc,.slice ta tl tc],29)] [] [] W) (tl - 0) ([(1,_),(5,_)]) ⟨rfl,rfl,trivial⟩ (⟨0,Nat.zero_le _,rfl,rfl,rfl,hS.clear⟩) ?_))))))))))))
        clear hS
        rintro m l W ⟨i,hi,rfl,rfl,hall,hS⟩
        refine aM (aM (aQ (aE rfl rfl (aK (o':=6) dR rfl rfl rfl (aR isAgg27 rfl (aH (hS.at_ 0 rfl) rfl) rfl (cC underlying27 rfl rfl (cK rfl rfl rfl (aN (XF.thenN (bB rfl (fun hc=>?_) (fun hc=>?_)))))))))))
        ·have hc73:=of_decide_eq_true hc;clear hc
         have hk:i < tl:=by omega
         obtain ⟨r,hr⟩:∃ r,ts[i]?=some r:=⟨ts[i]'(by omega),by simp [show i < ts.length by omega]⟩
         obtain ⟨b,off,rfl,hcs⟩:=htrow.at_ hr
         have k1:=aF.agree hS.agree (Nat.zero_le _) hcs
         have hri:=htin r (List.mem_of_getElem? hr)
         refine bI (XF.thenN (aM (bK (aM (aQ (aK (o':=6) dR rfl rfl rfl (aR isAgg27 rfl (aH (hS.at_ 0 rfl) rfl) rfl (aE rfl rfl (bZ  underlying27 sizeOf66 rfl rfl rfl (by omega) rfl rfl (aT (vs:=[_,_,_,_,_,_,_,_,_]) isAgg66 sizeOf66 rfl (k1) rfl (bE (cs:=[_,_,_,_,_,_,_,_,_]) hS zeroValue66 rfl rfl fun B6 W6 hS=>aU (i:=0) (vs:=[_,_,_,_,_,_,_,_,_]) (cs':=[_,_,_,_,_,_,_,_,_]) (O':=[_,_]) hS sizeOf66 rfl rfl rfl rfl rfl rfl rfl fun W7 hS=>aN (XF.thenN (aM (aQ (aT (vs:=[_,_,_,_,_,_,_]) isAgg29 sizeOf29 rfl (aF.own (j:=0) (m:=7) (hS.at_ 1 rfl) rfl) rfl (aK (o':=0) pJ rfl rfl rfl (aR isAgg3 rfl (aH (hS.at_ 0 rfl) rfl) rfl (cA (vs:=[_,_]) hS uR rfl (Ab ⟨s,st,sy,fa,fl,fc,fs,_,tl,tc,ts⟩ r.f _) rfl fun W8 hS=>eS rfl rfl (aE rfl rfl (bH (d:=86) rfl (fun hc=>?_) (fun hc=>?_)))))))))))))))))))))
         ·have hg86:=hc;clear hc
          have e1:inQ r.f st=false:=by simpa using hg86
          refine aD (d:=86) rfl rfl rfl rfl (aD (d:=86) rfl rfl rfl rfl (aD (d:=86) rfl rfl rfl rfl (aD (d:=86) rfl rfl rfl rfl (aD (d:=86) rfl rfl rfl rfl (aW rfl rfl rfl (aE rfl rfl (aD (d:=93) rfl rfl rfl rfl (aD (d:=93) rfl rfl rfl rfl (aD (d:=93) rfl rfl rfl rfl (aW rfl rfl rfl (aE rfl rfl (aD (d:=98) rfl rfl rfl rfl (aD (d:=98) rfl rfl rfl rfl (aD (d:=98) rfl rfl rfl rfl (aD (d:=98) rfl rfl rfl rfl (aD (d:=98) rfl rfl rfl rfl (aW rfl rfl rfl (aN (XF.thenN (dT rfl (aM (aQ ?_))))))))))))))))))))))
          refine aC rfl rfl (aN (XF.thenN (bL (XF.blkR (XF.thenR (XF.thenR (XF.blkR (XF.thenR (XF.res (cE results9 rfl) ?_)))))))))
          exact ⟨dM (by unfold dD;dsimp only;rw [if_neg h0,if_neg h1,if_pos (by unfold cZ;rw [if_neg h2,cJ hr (by simp [trB,e1]),Bool.and_false])]),hS.below⟩
         ·have hg86:=hc;clear hc
          have e1:inQ r.f st=true:=by simpa using hg86
          refine aB (d:=86) rfl rfl (aT (vs:=[_,_,_,_,_,_,_]) isAgg29 sizeOf29 rfl (aF.own (j:=0) (m:=7) (hS.at_ 1 rfl) rfl) rfl (aB (d:=86) rfl rfl (aK (o':=2) kE rfl rfl rfl (aB (d:=86) rfl rfl (aR isAgg3 rfl (aH (hS.at_ 0 rfl) rfl) rfl (aB (d:=86) rfl rfl (cA (vs:=[_,_]) hS uR rfl (Ab ⟨s,st,sy,fa,fl,fc,fs,_,tl,tc,ts⟩ r.t _) rfl fun W9 hS=>aB (d:=86) rfl rfl (eS rfl rfl (bF rfl rfl rfl (aE rfl rfl (bH (d:=93) rfl (fun hc=>?_) (fun hc=>?_))))))))))))
          ·have hg93:=hc;clear hc
           have e3:inQ r.t st=false:=by simpa using hg93
           refine aD (d:=93) rfl rfl rfl rfl (aD (d:=93) rfl rfl rfl rfl (aD (d:=93) rfl rfl rfl rfl (aW rfl rfl rfl (aE rfl rfl (aD (d:=98) rfl rfl rfl rfl (aD (d:=98) rfl rfl rfl rfl (aD (d:=98) rfl rfl rfl rfl (aD (d:=98) rfl rfl rfl rfl (aD (d:=98) rfl rfl rfl rfl (aW rfl rfl rfl (aN (XF.thenN (dT rfl (aM (aQ (aC rfl rfl (aN (XF.thenN (bL (XF.blkR (XF.thenR (XF.thenR (XF.blkR ?_)))))))))))))))))))))))
           refine XF.thenR (XF.res (cE results9 rfl) ?_)
           exact ⟨dM (by unfold dD;dsimp only;rw [if_neg h0,if_neg h1,if_pos (by unfold cZ;rw [if_neg h2,cJ hr (by simp [trB,e3]),Bool.and_false])]),hS.below⟩
          ·have hg93:=hc;clear hc
           have e3:inQ r.t st=true:=by simpa using hg93
           refine aB (d:=93) rfl rfl (aK (o':=1) iM rfl rfl rfl (aB (d:=93) rfl rfl (aR isAgg3 rfl (aH (hS.at_ 0 rfl) rfl) rfl (aB (d:=93) rfl rfl (cK rfl rfl rfl (bF rfl rfl rfl (aE rfl rfl (bH (d:=98) rfl (fun hc=>?_) (fun hc=>?_)))))))))
           ·have hg98:=of_decide_eq_true hc;clear hc
            refine aD (d:=98) rfl rfl rfl rfl (aD (d:=98) rfl rfl rfl rfl (aD (d:=98) rfl rfl rfl rfl (aD (d:=98) rfl rfl rfl rfl (aD (d:=98) rfl rfl rfl rfl (aW rfl rfl rfl (aN (XF.thenN (dT rfl (aM (aQ (aC rfl rfl (aN (XF.thenN (bL (XF.blkR (XF.thenR (XF.thenR (XF.blkR (XF.thenR (XF.res (cE results9 rfl) ?_))))))))))))))))))))
            exact ⟨dM (by unfold dD;dsimp only;rw [if_neg h0,if_neg h1,if_pos (by unfold cZ;rw [if_neg h2,cJ hr (by simp [trB,show ¬ (-1≤r.g) by omega]),Bool.and_false])]),hS.below⟩
           ·have hg98:=of_decide_eq_false hc;clear hc
            refine aB (d:=98) rfl rfl (aK (o':=1) iM rfl rfl rfl (aB (d:=98) rfl rfl (aR isAgg3 rfl (aH (hS.at_ 0 rfl) rfl) rfl (aB (d:=98) rfl rfl (aK (o':=4) iB rfl rfl rfl (aB (d:=98) rfl rfl (aR isAgg3 rfl (aH (hS.at_ 1 rfl) rfl) rfl (aB (d:=98) rfl rfl (lO rfl rfl rfl (bF rfl rfl rfl (aN (XF.thenN (bB rfl (fun hc=>?_) (fun hc=>?_))))))))))))))
            ·have hc104:=of_decide_eq_true hc;clear hc
             refine aM (aQ (aC rfl rfl (aN (XF.thenN (bL (XF.blkR (XF.thenR (XF.thenR (XF.blkR (XF.thenR (XF.res (cE results9 rfl) ?_)))))))))))
             exact ⟨dM (by unfold dD;dsimp only;rw [if_neg h0,if_neg h1,if_pos (by unfold cZ;rw [if_neg h2,cJ hr (by simp [trB,show ¬ (r.g < sy) by omega]),Bool.and_false])]),hS.below⟩
            ·have hc104:=of_decide_eq_false hc;clear hc
             refine bI (XF.blkN (XF.thenN (aQ (aE rfl rfl (cP rfl rfl (IntWalk.i64_in _ (by omega)) rfl (aC rfl rfl (aN ?_)))))))
             exact XF.round (tl - (i+1)) [(1,_),(5,_)] (by omega) ⟨rfl,rfl,trivial⟩ ⟨i+1,by omega,rfl,rfl,eC hr hall (by simp only [trB,e1,e3,Bool.true_and];rw [decide_eq_true (show -1≤r.g by omega),decide_eq_true (show r.g < sy by omega)];rfl),hS.tail.clear⟩
        ·have hc73:=of_decide_eq_false hc;clear hc
         rw [List.take_of_length_le (by omega)] at hall
         have h3:¬ cZ st sy fs ts=false:=by unfold cZ;rw [if_neg h2,hfb,hall];decide
         refine dP (XF.thenX (XF.thenX (XF.blkX (XF.thenN (aM (aM (aQ (aC rfl rfl (aN (XF.thenN (bK (dQ (fun m l W=>∃ i:Nat,i≤tl∧m=tl - i∧l=[(1,.pointer (some ⟨B1,0,none⟩)),(7,.int .i64 (i:Int))]∧(ts.take i).all (fun t=>decide (kM s t.x=0))=true∧St w [(B1,[.int .i64 s.f.tag,.int .i64 s.f.dim,.slice s.f.a s.f.len s.f.cap,.int .i64 st,.int .i64 sy,.slice fa fl fc,.slice ta tl tc],29)] [] [] W) (tl - 0) ([(1,_),(7,_)]) ⟨rfl,rfl,trivial⟩ (⟨0,Nat.zero_le _,rfl,rfl,rfl,hS.clear⟩) ?_))))))))))))
         clear hS
         rintro m l W ⟨i,hi,rfl,rfl,hall2,hS⟩
         refine aM (aM (aQ (aE rfl rfl (aK (o':=6) dR rfl rfl rfl (aR isAgg27 rfl (aH (hS.at_ 0 rfl) rfl) rfl (cC underlying27 rfl rfl (cK rfl rfl rfl (aN (XF.thenN (bB rfl (fun hc=>?_) (fun hc=>?_)))))))))))
         ·have hc109:=of_decide_eq_true hc;clear hc
          have hk:i < tl:=by omega
          obtain ⟨r,hr⟩:∃ r,ts[i]?=some r:=⟨ts[i]'(by omega),by simp [show i < ts.length by omega]⟩
          obtain ⟨b,off,rfl,hcs⟩:=htrow.at_ hr
          have k1:=aF.agree hS.agree (Nat.zero_le _) hcs
          have hri:=htin r (List.mem_of_getElem? hr)
          have k2:aF W b (off+i * 9+3) r.x.f.six:=k1.2.2.2
          refine bI (XF.thenN (aM (bK (aM (lQ (m:=10) cF hS (by kernel_rfl) (by kernel_rfl) rfl (cL 1 rfl 1 rfl rfl (fun w hw=>aV (o':=0) kF rfl rfl) rfl (bC 2 rfl 112 0 rfl rfl rfl (fun w hw=>bD (vs:=[_,_,_]) isAgg25 sizeOf25 rfl (aF.agree (aP hw 0) (Nat.zero_le _) (aF.own (j:=0) (m:=3) (hS.at_ 0 rfl) rfl))) rfl (cL 3 rfl 1 rfl rfl (fun w hw=>aV (o':=6) dR rfl rfl) rfl (bC 4 rfl 114 2 rfl rfl rfl (fun w hw=>aZ isAgg27 rfl ((aP hw 0).cell (Nat.zero_le _) (aH (hS.at_ 0 rfl) rfl))) rfl (cL 5 rfl 7 rfl rfl (fun w hw=>bA rfl) rfl (aL 6 rfl (isV _) (aI _) (rgV (li:=[(115,_),(116,_)]) rfl (aS rfl) ⟨aO 3 (aA rfl rfl rfl),aO 4 (aA rfl rfl rfl),trivial⟩ (fun w hw=>bG  underlying27 sizeOf66 rfl rfl rfl (by omega) rfl) (aG rfl)) (bC 7 rfl 117 5 rfl rfl rfl (fun w hw=>aV nK rfl rfl) rfl (bC 8 rfl 118 6 rfl rfl rfl (fun w hw=>bD (vs:=[_,_,_,_,_,_]) isAgg44 sizeOf44 rfl (aF.agree (aP hw 0) (Nat.zero_le _) (k2))) rfl ?_)))))))))))))
          refine aL 9 rfl (isV (.int .i64 (kM s r.x))) (aI _) (dB [isV _,isV _] rfl goes_34 (aS rfl) ⟨cH (aO 1 (aA rfl rfl rfl)),cH (aO 7 (aA rfl rfl rfl)),trivial⟩ (fun vs w' hb hh=>by have e:=cI (us:=[_,_]) hh;subst e;exact (Hn ds d s r.x _ (SIn.below (hS.below.trans (hb.mono hS.below.size)) hs) (WIn.below (hS.below.trans (hb.mono hS.below.size)) hri)).mono fun e w2 h=>⟨_,h.1,rfl,h.2⟩) (aG rfl)) ?_
          refine bC 10 rfl 120 8 rfl rfl rfl (fun w hw=>Dc rfl rfl) rfl (dW ?_)
          intro W10 hbR hS'
          clear hS;have hS:=hS';clear hS'
          refine aJ (aJ (aJ (aJ (aJ (aJ (aJ (aJ (aJ (aJ (cQ (XF.thenN (bB rfl (fun hc=>?_) (fun hc=>?_)))))))))))))
          ·have hc121:=hc;clear hc
           refine aM (aQ (aC rfl rfl (aN (XF.thenN (bL (XF.blkR (XF.thenR (XF.thenR (XF.blkR (XF.thenR (XF.res (cE results9 rfl) ?_)))))))))))
           exact ⟨dM (by unfold dD;dsimp only;rw [if_neg h0,if_neg h1,if_neg h3,if_neg (by rw [cJ hr (decide_eq_false (by simpa using hc121))];decide)]),hS.below⟩
          ·have hc121:=hc;clear hc
           refine bI (XF.blkN (XF.thenN (aQ (aE rfl rfl (cP rfl rfl (IntWalk.i64_in _ (by omega)) rfl (aC rfl rfl (aN ?_)))))))
           exact XF.round (tl - (i+1)) [(1,_),(7,_)] (by omega) ⟨rfl,rfl,trivial⟩ ⟨i+1,by omega,rfl,rfl,eC hr hall2 (by simpa using hc121),hS.clear⟩
         ·have hc109:=of_decide_eq_false hc;clear hc
          rw [List.take_of_length_le (by omega)] at hall2
          refine dP (XF.thenX (XF.thenX (XF.blkX (XF.thenN (aM (aQ (aC rfl rfl (aN (XF.thenN (bL (XF.res (cE results9 rfl) ?_)))))))))))
          exact ⟨dM (by unfold dD;dsimp only;rw [if_neg h0,if_neg h1,if_neg h3,if_pos hall2]),hS.below⟩
theorem Tl (ds d:Nat) (a:AV) (w:World) (h:AIn w ds d a):Calls prog 9 #[a.val] w (fun e w'=>e = .returned (.int .i64 (dD a))∧Below w.heap.size w w'):=autoR_c ds d _ _ _ _ _ _ _ _ _ _ _ w h.s h.frow h.flen h.trow h.tlen h.tin h.fmax h.tmax
theorem Tm:bP prog 8=true:=by kernel_rfl
theorem goes_9:bP prog 9=true:=by kernel_rfl
theorem own_sl9 {w:World} {lo n size:Nat} {e:TypeId} {v:Value} {xs:List Value} (h:w.ownsRow lo e size v n xs):∃ a c,v = .slice a n c:=by
 rcases h.2 with ⟨h1,h2⟩ | ⟨g,c,_,h1,_⟩
 ·subst h2;exact ⟨none,0,h1⟩
 ·exact ⟨_,c,h1⟩
section
variable {P:Program} {ops:Array Oper} {Q:Exit→Act→World→Prop} {σ:Type}
theorem C2 {ops:Array Oper} {k:Nat} (hk:ops.size=k):wQ ops k=true:=List.all_eq_true.2 fun j hj=>by
 rw [decide_eq_true (show j < k by have:=List.mem_range.1 hj;omega)];rfl
theorem H6 {L:Array Bool} {i:Nat} (h:L.size≤i):L.getD i false=false:=by
 rw [Array.getD_eq_getD_getElem?,Array.getElem?_eq_none (by omega)];rfl
theorem Bb {t0:Array Value} {d0:List Deferred} {G:σ→World→Prop} {I:σ→Nat→Value→World→Prop} {V:σ→Array Bool→Prop} {k:Nat} (hk:ops.size=k) (ht:dO ops t0.size=true)
  (hstep:∀ i,i < k→S8 P ops Q t0 G I V i)
  (hfin:∀ s L a w,RInvG ops t0 d0 G I V s L a w→(∀ i,i < k→L.getD i false=true)→wpList P ops Q (ops.toList.drop k) a w) :
  ∀ (fuel:Nat) (s:σ) (L:Array Bool) (a:Act) (w:World),L.size=ops.size→L.toList.count false≤fuel→gZ ops L→RInvG ops t0 d0 G I V s L a w→wpAny P .any ops Q fuel L a w:=by
 intro fuel
 induction fuel with
 | zero =>
  intro s L a w hs hc hcl h
  have hall:∀ i,i < k→L.getD i false=true:=fun i hi=>by
   cases hb:L.getD i false with
   | true=>rfl
   | false =>
    have:=fA _ _ (lL (by omega) hb)
    omega
  exact qV (fun _ _=>trivial) (C2 hk) ht 0 k 0 L a w (by omega) (Nat.le_refl _) (Nat.le_refl _) hs hcl hall (fun i hi=>H6 (by omega)) (hfin s L a w h hall)
 | succ fuel ih =>
  intro s L a w hs hc hcl h
  by_cases hall:∀ i,i < k→L.getD i false=true
  ·exact qV (fun _ _=>trivial) (C2 hk) ht 0 k (fuel+1) L a w (by omega) (Nat.le_refl _) (Nat.zero_le _) hs hcl hall (fun i hi=>H6 (by omega)) (hfin s L a w h hall)
  ·refine ⟨fun hr=>?_,fun i hi=>?_⟩
   ·exfalso;apply hall
    intro i hi
    have h1:=fV ht hs hr i (by omega)
    rw [Array.getD_eq_getD_getElem?,Array.getElem?_eq_getElem (by omega)] at h1 ⊢
    simpa using h1
   ·obtain ⟨his,hr⟩:=rT hi hs
    have hik:i < k:=by omega
    have hc1:=fA _ _ (lL (by omega) hr.1)
    refine wpOp_mono ?_ (hstep i hik s L a w (fun t ht=>h.frame t ht) h.glob h.cons hs hcl hr (fun j d hw=>?_))
    ·rintro a' w' ⟨s',v,rfl,hV,hG,hI,hst⟩
     refine ih s' _ _ _ (by simpa using hs) ?_ (hcl.next hr (by omega)) ⟨by rw [lB];exact h.size,by rw [iF];exact h.defers,fun t hf=>?_,hG,hV,fun j d hd hj=>?_⟩
     ·rw [Array.toList_setIfInBounds];omega
     ·rw [eL ?_]
      ·exact h.frame t hf
      ·intro hd
       obtain ⟨o,ho,hd⟩:=Option.bind_eq_some_iff.1 hd
       have:=Array.all_eq_true'.1 hf o (Array.mem_of_getElem? ho)
       simp [hd] at this
     ·by_cases hji:j=i
      ·subst hji
       rw [pV hd (by rw [h.size];exact (fK ht hd).1)]
       exact hI d hd
      ·rw [getD_set_ne false (Ne.symm hji)] at hj
       rw [eL (fun e=>hji ((fK ht e).2 j hd))]
       exact hst j d hd (h.done j d hd hj)
    ·have:j∈aft ops i:=by
      unfold aY at hw
      unfold aft
      cases ho:ops[i]? with
      | none=>simp [ho] at hw
      | some o =>
       simp only [ho,Bool.and_eq_true,beq_iff_eq] at hw
       obtain ⟨e,he,h2⟩:=Array.any_eq_true'.1 hw.1
       simp only [Bool.and_eq_true,beq_iff_eq] at h2
       exact List.mem_map.2 ⟨e,List.mem_filter.2 ⟨Array.mem_toList_iff.2 he,h2.2⟩,h2.1⟩
     have hd:(ops[j]?).bind (·.dst)=some d:=by
      unfold aY at hw
      simp only [Bool.and_eq_true,beq_iff_eq] at hw
      exact hw.2
     exact h.done j d hd (hr.2 j this)
end
section
variable {P:Program} {n:Nat} {Q:Exit→Act→World→Prop} {l:Fr} {w0 W:World} {ops:Array Oper} {os:List Oper} {K:List (Nat×World)} {L:List Asr} {i:Nat}
variable {al:List Nat} {ca:Nat→Option Value→List Value} {ta:Nat→TypeId} {Os:Option Value→Own} {Gs:Option Value→cU} {lo ef jy:Nat} {s:Sg}
variable {d:Nat} {op:Op} {ty:TypeId} {pos:String} {aft_:Array Edge} {v:Value} {gd:Option (Nat×Bool)}
theorem Tn {id k:Nat} {ds:List Nat} (hm:P.follows .mixedOrders=true) (hlo:lo=W.heap.size) (hS:St w0 (Os none) (Gs none) K W) (hk:os.length=k) (ht:dO os.toArray n=true) (hal:al.all (fun a=>Nat.blt a k)=true) (hnd:al.Nodup) (hea:al.contains ef=false)
  (hev:Nat.blt ef k=true) (hdst:(List.range k).all (fun j=>Nat.beq j ef || ((os.toArray[j]?).bind (·.dst)).isSome)=true) (hds:(os.drop k).all (fun o=>match o.dst with | some d=>ds.contains d | none=>true)=true)
  (h:BLS P n os.toArray Q l w0 K lo al ef jy ca ta Os Gs (fun Lr=>∀ (Bf:Nat→Nat) (y:Value) (W':World) (Ks:List (Nat×World)),W.heap.size≤W'.heap.size→(∀ q∈Ks,lo≤q.1)→St w0 (al.map (fun a=>(Bf a,ca a (some y),ta a))++Os (some y)) (Gs (some y)) (Ks++K) W' →
   (∀ {O2 G2 K2 W2},St w0 O2 G2 K2 W2→(∀ q∈Ks,q∈K2)→hZ lo (XB (al.map (fun a=>(Bf a,ca a (some y),ta a))++Os (some y)) (Gs (some y))) W' W2) →
   kO (os.take k) (J9 al ef jy lo (XB (al.map (fun a=>(Bf a,ca a (some y),ta a))++Os (some y)) (Gs (some y))) Bf y 0 Lr.reverse) (pS ds l) (fun l' W'=>cR P n os.toArray Q (os.drop k) l' W') W') k [] 0):eR P n (.region id os.toArray true) Q l W:=by
 obtain ⟨Lr,h1,h2,hfin⟩:=Eu ht k 0 [] rfl (fun j _=>by rfl) (fun i hi=>by omega) h
 rw [Nat.zero_add] at h1 h2
 have hal':∀ a∈al,a < k:=fun a ha=>Nat.lt_of_lt_of_le (Nat.lt_succ_self _) (Nat.le_of_ble_eq_true (List.all_eq_true.1 hal a ha))
 have hea':ef∉al:=fun h=>by rw [List.contains_iff_mem.2 h] at hea;cases hea
 intro a ha
 refine wp_region_any hm (Bb (t0:=a.tmps) (d0:=a.defers) (V:=VG al ef) (I:=IG al ef jy lo ca ta Os Gs Lr.reverse) (G:=GG w0 K lo ca ta Os Gs) (k:=k) (by simpa using hk) (by rw [ha.size];exact ht) (fun i hi=>(h2 i hi).step a ha) ?_ _ ⟨none,[]⟩ _ _ _ (by simp) (iK _) (fun j hj=>by rw [Array.getD_eq_getD_getElem?,Array.getElem?_replicate] at hj;split at hj<;>simp at hj) ⟨rfl,rfl,fun _ _=>rfl,⟨by unfold OE;exact hS.drew,by rw [hlo];exact Nat.le_refl _,(fun q hq=>by cases hq)⟩,⟨fun a _=>?_,(fun q hq=>by cases hq),List.Pairwise.nil,?_⟩,fun i d _ hj=>?_⟩)
 ·intro s LB a' W' hR hdone
  obtain ⟨hG,hG2,hG3⟩:=hR.glob
  obtain ⟨v1,v2,v3,v4⟩:=hR.cons
  obtain ⟨ev,bs⟩:=s
  have hall:∀ x∈al,(x,bAt bs x)∈bs:=fun x hx=>Ev ((v1 x hx).1 (hdone x (hal' x hx)))
  obtain ⟨y,hy⟩:∃ y,ev=some y:=by
   have h3:ev.isSome=true:=v4.1 (hdone ef (Nat.lt_of_lt_of_le (Nat.lt_succ_self _) (Nat.le_of_ble_eq_true hev)))
   exact Option.isSome_iff_exists.1 h3
  subst hy
  have hperm:bs.Perm (al.map (fun x=>(x,bAt bs x))):=by
   refine (List.perm_ext_iff_of_nodup (v3.imp (fun h e=>h (by rw [e]))) ?_).2 fun q=>?_
   ·refine List.Pairwise.map _ (fun x y (hxy:x≠y)=>?_) hnd
    intro e;exact hxy (congrArg Prod.fst e)
   ·constructor
    ·intro hq
     have h3:=hall q.1 (v2 q hq)
     have h4:=uI v3 hq h3 rfl
     rw [h4]
     exact List.mem_map.2 ⟨q.1,v2 q hq,rfl⟩
    ·intro hq
     obtain ⟨x,hx,rfl⟩:=List.mem_map.1 hq
     exact hall x hx
  have hO:(OE ca ta Os ⟨some y,bs⟩).Perm (al.map (fun a=>(bAt bs a,ca a (some y),ta a))++Os (some y)):=by
   unfold OE
   refine List.Perm.append_right _ ?_
   have:=hperm.map (fun q:Nat×Nat=>(q.2,ca q.1 (some y),ta q.1))
   rw [List.map_map] at this
   exact this
  have hG':=hG.perm hO
  have hX:∀ b,XB (OE ca ta Os ⟨some y,bs⟩) (Gs (some y)) b↔XB (al.map (fun a=>(bAt bs a,ca a (some y),ta a))++Os (some y)) (Gs (some y)) b:=fun b=>by
   unfold XB
   constructor
   ·rintro (⟨p,hp,e⟩ | h);exact .inl ⟨p,hO.mem_iff.1 hp,e⟩;exact .inr h
   ·rintro (⟨p,hp,e⟩ | h);exact .inl ⟨p,hO.mem_iff.2 hp,e⟩;exact .inr h
  obtain ⟨Ks,c1,⟨qw,c2,c3⟩,c4⟩:=Pu (((al.map (fun a=>(bAt bs a,ca a (some y),ta a))++Os (some y)).map (·.1))++(Gs (some y)).filterMap (fun g=>g.v.ownBlock)) lo W'
  have hG4:=hG'.more Ks (fun q hq=>⟨(c1 q hq).2.1,fun p hp=>(c1 q hq).2.2 p.1 (List.mem_append_left _ (List.mem_map.2 ⟨p,hp,rfl⟩)),fun g hg b hb=>(c1 q hq).2.2 b (List.mem_append_right _ (List.mem_filterMap.2 ⟨g,hg,hb⟩))⟩)
  have hcov:∀ {O2 G2 K2 W2},St w0 O2 G2 K2 W2→(∀ q∈Ks,q∈K2)→hZ lo (XB (al.map (fun a=>(bAt bs a,ca a (some y),ta a))++Os (some y)) (Gs (some y))) W' W2:=fun {O2 G2 K2 W2} h2 hq=>by
   refine ⟨⟨h2.below.os.trans hG.below.os.symm,h2.below.tape.trans hG.below.tape.symm,h2.below.output.trans hG.below.output.symm⟩,?_,fun b b1 b2 b3=>?_⟩
   ·have:=(h2.kept qw (hq qw c2)).1.1;rw [c3] at this;exact this
   ·obtain ⟨q,q1,q2,q3⟩:=c4 b b1 b2 (fun hb=>b3 (by
     rcases List.mem_append.1 hb with hb | hb
     ·obtain ⟨p,hp,rfl⟩:=List.mem_map.1 hb
      exact .inl ⟨p,hp,rfl⟩
     ·obtain ⟨g,hg,e⟩:=List.mem_filterMap.1 hb
      exact .inr ⟨g,hg,e⟩))
    exact ((h2.kept q (hq q q1)).1.2 b q2 q3).trans ((c1 q q1).2.1.2 b q2 q3).symm
  have htk:(os.take k).length=k:=by simp;omega
  refine qX (os.take k) (J9 al ef jy lo (XB (al.map (fun a=>(bAt bs a,ca a (some y),ta a))++Os (some y)) (Gs (some y))) (bAt bs) y 0 Lr.reverse) (pS ds l) (fun i d hi hd'=>?_) (fun i hi hd'=>?_) (hR.size.trans ha.size) (hR.defers.trans ha.defers) ?_ (fun l' h ha'=>?_) (hfin (bAt bs) y W' Ks (by rw [← hlo];exact hG2) (fun q hq=>(c1 q hq).1) hG4 hcov)
  ·have hik:i < k:=by omega
   have hd2:(os.toArray[i]?).bind (·.dst)=some d:=by rw [List.getElem?_take,if_pos hik] at hd';simpa using hd'
   obtain ⟨i1,i2,i3,i4⟩:=hR.done i d hd2 (hdone i hik)
   rw [qW Lr.reverse 0 i (by simp;omega),Nat.add_zero]
   cases hc1:al.contains i with
   | true =>
    rw [cond_true]
    obtain ⟨B,hB,e⟩:=i1 (List.contains_iff_mem.1 hc1)
    have:=uI v3 hB (hall i (List.contains_iff_mem.1 hc1)) rfl
    show _=_
    rw [e,show B=bAt bs i from congrArg Prod.snd this]
   | false =>
    rw [cond_false]
    have hni:i∉al:=fun hm'=>by rw [List.contains_iff_mem.2 hm'] at hc1;cases hc1
    cases hc2:Nat.beq i ef with
    | true =>
     rw [cond_true]
     have h5:=i2 (Nat.eq_of_beq_eq_true hc2)
     exact (Option.some.inj h5).symm
    | false =>
     rw [cond_false]
     have hne:i≠ef:=fun e=>by rw [e,Nat.beq_refl] at hc2;cases hc2
     have h6:AwS lo (XB (al.map (fun a=>(bAt bs a,ca a (some y),ta a))++Os (some y)) (Gs (some y))) (atI Lr.reverse i) (a'.tmps.getD d undef) W':=fun w2 hw2=>i4 hni hne w2 ⟨hw2.1,hw2.2.1,fun b b1 b2 b3=>hw2.2.2 b b1 b2 (fun hb=>b3 ((hX b).2 hb))⟩
     cases hc3:Nat.beq i jy with
     | true =>
      rw [cond_true]
      refine ⟨?_,h6⟩
      exact i3 (Nat.eq_of_beq_eq_true hc3) y rfl
     | false=>rw [cond_false];exact h6
  ·have hik:i < k:=by omega
   have h3:=List.all_eq_true.1 hdst i (List.mem_range.2 hik)
   rw [Bool.or_eq_true] at h3
   have hd2:(os.toArray[i]?).bind (·.dst)=none:=by rw [List.getElem?_take,if_pos hik] at hd';simpa using hd'
   rcases h3 with h3 | h3
   ·rw [qW Lr.reverse 0 i (by simp;omega),Nat.add_zero]
    have hc1:al.contains i=false:=by rw [Nat.eq_of_beq_eq_true h3];exact hea
    rw [hc1,cond_false,h3,cond_true]
    exact ⟨y,rfl⟩
   ·rw [hd2] at h3;cases h3
  ·intro t v hv hno
   have hl:=mP hv (fG hv)
   have hnt:=fG hv
   rw [hR.frame t ?_]
   ·exact ha.at_ t v hl
   ·unfold freeT;rw [Array.all_eq_true'];intro o' ho'
    have ho2:o'∈os:=by simpa using ho'
    rw [← List.take_append_drop k os] at ho2
    rcases List.mem_append.1 ho2 with ho2 | ho2
    ·simpa using hno o' ho2
    ·have h5:=List.all_eq_true.1 hds o' ho2
     cases hx:o'.dst with
     | none=>simp
     | some d =>
      rw [hx] at h5
      simp
      intro e;subst e
      exact hnt (List.contains_iff_mem.1 h5)
  ·have:=h a' ha'
   simpa using this
 ·rw [Array.getD_eq_getD_getElem?,Array.getElem?_replicate]
  constructor
  ·intro h3;split at h3<;>simp at h3
  ·rintro ⟨B,hB⟩;cases hB
 ·rw [Array.getD_eq_getD_getElem?,Array.getElem?_replicate]
  constructor
  ·intro h3;split at h3<;>simp at h3
  ·intro h3;cases h3
 ·rw [Array.getD_eq_getD_getElem?,Array.getElem?_replicate] at hj
  split at hj<;>simp at hj
end
section
variable {P:Program} {n:Nat} {Q:Exit→Act→World→Prop} {l:Fr} {w0 W:World} {ops:Array Oper} {os:List Oper} {K:List (Nat×World)} {L:List Asr} {i:Nat} {O:Own} {G:cU}
variable {al:List Nat} {zc:Nat→List Value} {ta:Nat→TypeId} {lo ef jy:Nat} {d:Nat} {ty:TypeId} {pos:String} {aft_:Array Edge} {v:Value}
def osY (O:Own) (j jx B:Nat) (cs:List Value) (U:TypeId):Option Value→Own
 | none=>O
 | some y=>O.set j (B,gH cs jx y.cells.toList,U)
theorem E2 {O:Own} {j jx B i:Nat} {cs:List Value} {U:TypeId} {ev:Option Value} {p:Nat×List Value×TypeId} (h:O[i]?=some p) (hij:Nat.beq i j=false):(osY O j jx B cs U ev)[i]?=some p:=by
 cases ev with
 | none=>exact h
 | some y =>
  show (O.set j _)[i]?=_
  rw [List.getElem?_set_ne (fun e=>by rw [e,Nat.beq_refl] at hij;cases hij)];exact h
theorem E3 {T U:TypeId} {x:Operand} {tyy B m:Nat} {cs:List Value} {py:Asr} (j jx:Nat) (li:Fr) (hal:al.contains ef=false) (hij:Nat.beq ef jy=false) (hi:ops[ef]?=some ⟨none,.store T x (.tmp tyy),ty,pos,aft_,none⟩) (hjy:(ops[jy]?).bind (·.dst)=some tyy) (hwy:aY ops ef jy tyy=true) (hja:al.contains jy=false) (hLy:atI L jy=py) (hNo:sI al ef L) (hli:vI n ops l L ef li) (hx:evL li x=some (.pointer (some ⟨B,jx,none⟩)))
  (hO:O[j]?=some (B,cs,U)) (hsz:∀ w,(sizeOf T).run P w = .ok m w) (hpy:∀ v w,py v w→∃ vs:List Value,v.cells=vs.toArray∧vs.length=m∧vs.all Value.oneCell'=true) (hjm:Nat.ble (jx+m) cs.length=true):SG P n ops Q l w0 K lo al ef jy (qY zc) ta (osY O j jx B cs U) (uJ G) L ef :=
 J8 hal hij hi fun t0 a bs w h0 hF hG hbs hD=>by
  have hD':=zM h0 hF hD (fun j d _ hj=>hNo j hj)
  have ex:=iW h0 hF hD' hli x _ hx
  have hy:=((hD jy tyy hwy).2.2.2 (fun h=>by rw [List.contains_iff_mem.2 h] at hja;cases hja) (fun e=>by rw [e,Nat.beq_refl] at hij;cases hij)).here
  rw [hLy] at hy
  obtain ⟨vs,hc,hl,h1⟩:=hpy _ _ hy
  have hcl:(a.eval (.tmp tyy)).cells.toList=vs:=by rw [hc]
  have hOk:(OE (qY zc) ta (osY O j jx B cs U) ⟨none,bs⟩)[bs.length+j]?=some (B,cs,U):=by
   unfold OE
   rw [List.getElem?_append_right (by simp)]
   simpa [osY] using hO
  have hXB:XB (OE (qY zc) ta (osY O j jx B cs U) ⟨none,bs⟩) (uJ G none) B:=.inl ⟨_,List.mem_of_getElem? hOk,rfl⟩
  have hrun:=pI (P:=P) hsz hc hl h1 (hG.1.at_ _ hOk) (j:=jx) (Nat.le_of_ble_eq_true hjm)
  have hO':OE (qY zc) ta (osY O j jx B cs U) ⟨some (a.eval (.tmp tyy)),bs⟩=(OE (qY zc) ta (osY O j jx B cs U) ⟨none,bs⟩).set (bs.length+j) (B,gH cs jx vs,U):=by
   unfold OE
   rw [List.set_append_right _ _ (by simp)]
   congr 1
   simp [osY,hcl]
  refine zP hi rfl rfl rfl (by rw [ex];exact hrun) ⟨undef,a.eval (.tmp tyy),rfl,(fun d hd=>by cases hd),?_,nQ hXB,?_,fun d hd=>?_⟩
  ·rw [hO']
   exact hG.1.setMany _ vs jx hOk
  ·rintro b (⟨p,hp,rfl⟩ | h)
   ·rw [hO'] at hp
    rcases List.mem_or_eq_of_mem_set hp with hp | rfl
    ·exact .inl (.inl ⟨p,hp,rfl⟩)
    ·exact .inl hXB
   ·exact .inl (.inr h)
  ·rw [hjy] at hd;cases hd;rfl
end
section
variable {P:Program} {n:Nat} {Q:Exit→Act→World→Prop} {l:Fr} {w0 W:World} {ops:Array Oper} {os:List Oper} {K:List (Nat×World)} {L:List Asr} {i:Nat}
variable {al:List Nat} {ca:Nat→Option Value→List Value} {ta:Nat→TypeId} {Os:Option Value→Own} {Gs:Option Value→cU} {lo ef jy:Nat} {s:Sg}
variable {d:Nat} {op:Op} {ty:TypeId} {pos:String} {aft_:Array Edge} {v:Value} {gd:Option (Nat×Bool)}
end
end Go.Proofs.YtmgnkpibpjgncaaGreatDoor
namespace Go.Proofs.YtmgnkpibpjgncaaGreatDoor
open Go.Proofs.Tryz
open Go.RowKit Go.ChangeShapes Go.WideShapes Go.Deep
section
variable {H:Type} {enc:TypeId×Value→H} {w:World} {base:Nat} {spare:Nat→Bool} {held:Bool}
theorem C3 {cs:List Value} (h:cs.length=3):∃ a b c,cs=[a,b,c]:=by
 match cs,h with
 | [a,b,c],_=>exact ⟨a,b,c,rfl⟩
theorem P0 {n:Nat} {cs:List Value} {x:DataW H×List MemPlace} (hl:cs.length=3) (h:DataW.trod enc prog w base spare held n 105 cs=some x) :
  ∃ c:Cl,c.f < 18446744073709551616∧cs=[.int .u64 (c.f:Int),.int .i64 c.k,.int .i64 c.v]:=by
 obtain ⟨xs,n',_,hx,_,hlen,hg⟩:=DataW.trod_struct underlying105 h
 obtain ⟨a,b,c,rfl⟩:=C3 hl
 ·skip
  have hlen3:xs.length=3:=hlen
  have g0:=hg 0 _ rfl
  have g1:=hg 1 _ rfl
  have g2:=hg 2 _ rfl
  rw [show prog.cellsOf _=1 by kernel_rfl,List.getElem?_eq_getElem (by omega)] at g0 g1 g2
  obtain ⟨z0,e0,_,w0⟩:=DataW.trod_int underlying37 g0
  obtain ⟨z1,e1,_,w1⟩:=DataW.trod_int (k:=.i64) (by kernel_rfl) g1
  obtain ⟨z2,e2,_,w2⟩:=DataW.trod_int (k:=.i64) (by kernel_rfl) g2
  simp at e0 e1 e2
  subst e0 e1 e2
  have hw:0≤z0∧z0≤18446744073709551615:=by simpa [Lit.wf,IntKind.signed,IntKind.bits,IntKind.min,IntKind.max] using w0
  exact ⟨⟨z0.toNat,z1,z2⟩,by show z0.toNat < _;omega,by simp;omega⟩
theorem M5:∀ (n:Nat) (p:Nat→Cl→Prop),(∀ i,i < n→∃ c,p i c)→∃ xs:List Cl,xs.length=n∧∀ i c,xs[i]?=some c→p i c
 | 0,p,h=>⟨[],rfl,fun i c hi=>by simp at hi⟩
 | n+1,p,h=>by
  obtain ⟨xs,hl,hp⟩:=M5 n p (fun i hi=>h i (by omega))
  obtain ⟨c,hc⟩:=h n (by omega)
  refine ⟨xs++[c],by simp [hl],fun i d hi=>?_⟩
  rcases Nat.lt_or_ge i n with h1 | h1
  ·rw [List.getElem?_append_left (by omega)] at hi
   exact hp i d hi
  ·obtain ⟨h2,_⟩:=List.getElem?_eq_some_iff.1 hi
   simp [hl] at h2
   obtain rfl:i=n:=by omega
   rw [List.getElem?_append_right (by omega),hl,Nat.sub_self] at hi
   simp at hi
   subst hi
   exact hc
theorem Kt {n:Nat} {a:Option Addr} {len cap:Nat} {x:DataW H×List MemPlace} (h:DataW.trod enc prog w base spare held n 41 [.slice a len cap]=some x) :
  ∃ xs,IsCells w a len cap xs:=by
 rcases open_slice underlying41 h with ⟨hcs,_⟩ | ⟨ad,len',cap',m,n',D,Pl,hcs,hb,hl,hm,hmm,hx,hi⟩
 ·simp at hcs
  obtain ⟨rfl,rfl,rfl⟩:=hcs
  exact ⟨[],rfl,by simp,.inl rfl,fun c hc=>by simp at hc⟩
 ·simp at hcs
  obtain ⟨rfl,rfl,rfl⟩:=hcs
  rw [show prog.cellsOf 105=3 by kernel_rfl] at hi
  obtain ⟨xs,hxl,hxs⟩:=M5 len (fun i c=>c.f < 18446744073709551616∧w.cell? (ad.add (i * 3))=some (.int .u64 (c.f:Int))∧w.cell? (ad.add (i * 3+1))=some (.int .i64 c.k)∧w.cell? (ad.add (i * 3+2))=some (.int .i64 c.v)) (fun i hil=>by
   obtain ⟨cs',hc,ht⟩:=hi i (by rw [hmm];split<;>omega)
   obtain ⟨_,hcl,hat⟩:=World.cells?_some hc
   obtain ⟨c,hf,rfl⟩:=P0 hcl ht
   have e0:=hat 0 (by omega)
   have e1:=hat 1 (by omega)
   have e2:=hat 2 (by omega)
   rw [add_add] at e0 e1 e2
   exact ⟨c,hf,e0,e1,e2⟩)
  refine ⟨xs,hxl.symm,by omega,?_,fun c hc=>?_⟩
  ·rcases Nat.eq_zero_or_pos len with h0 | h0
   ·exact .inl (List.length_eq_zero_iff.1 (by omega))
   ·obtain ⟨b,off,spot⟩:=ad
    obtain ⟨_,h1,_,_⟩:=hxs 0 (xs[0]'(by omega)) (List.getElem?_eq_getElem (by omega))
    have hspot:spot=none:=by simpa [Addr.add] using World.cell?_spot h1
    subst hspot
    refine .inr ⟨b,off,rfl,fun i c hic=>?_⟩
    have e:∀ k,({ block:=b,off:=off }:Addr).add k=⟨b,off+k,none⟩:=fun k=>by simp [Addr.add]
    have h3:=(hxs i c hic).2
    rw [e,e,e,← Nat.add_assoc,← Nat.add_assoc] at h3
    exact h3
  ·obtain ⟨i,hi',hic⟩:=List.mem_iff_getElem.1 hc
   exact (hxs i c (by rw [← hic];exact List.getElem?_eq_getElem hi')).1
end
section
variable {H:Type} {enc:TypeId×Value→H} {w:World} {base:Nat} {spare:Nat→Bool} {held:Bool}
theorem Ku {n:Nat} {cs:List Value} {x:DataW H×List MemPlace} (h:DataW.trod enc prog w base spare held n 41 cs=some x):∃ a len cap,cs=[.slice a len cap]:=by
 rcases open_slice underlying41 h with ⟨hcs,_⟩ | ⟨ad,len',cap',m,n',D,Pl,hcs,_⟩
 ·exact ⟨_,_,_,hcs⟩
 ·exact ⟨_,_,_,hcs⟩
end
end Go.Proofs.YtmgnkpibpjgncaaGreatDoor
namespace Go.Proofs.YtmgnkpibpjgncaaGreatDoor
open Go.Proofs.Tryz
open Go.RowKit Go.ChangeShapes Go.WideShapes Go.Deep Go.Joins
theorem oJ {α:Type}:∀ (n:Nat) (p:Nat→α→Prop),(∀ i,i < n→∃ c,p i c)→∃ xs:List α,xs.length=n∧∀ i c,xs[i]?=some c→p i c
 | 0,p,h=>⟨[],rfl,fun i c hi=>by simp at hi⟩
 | n+1,p,h=>by
  obtain ⟨xs,hl,hp⟩:=oJ n p (fun i hi=>h i (by omega))
  obtain ⟨c,hc⟩:=h n (by omega)
  refine ⟨xs++[c],by simp [hl],fun i d hi=>?_⟩
  rcases Nat.lt_or_ge i n with h1 | h1
  ·rw [List.getElem?_append_left (by omega)] at hi
   exact hp i d hi
  ·obtain ⟨h2,_⟩:=List.getElem?_eq_some_iff.1 hi
   simp [hl] at h2
   obtain rfl:i=n:=by omega
   rw [List.getElem?_append_right (by omega),hl,Nat.sub_self] at hi
   simp at hi
   subst hi
   exact hc
theorem SIn.more {w:World}:∀ {d e:Nat} {s:SV},d≤e→SIn w d s→SIn w e s
 | 0,_,_,_,h=>h.elim
 | d+1,0,_,hl,_=>by omega
 | d+1,e+1,.mk f ps,hl,⟨h1,h2,h3⟩=>⟨h1,h2,fun p hp=>SIn.more (by omega) (h3 p hp)⟩
theorem WIn.more {w:World}:∀ {d e:Nat} {s:WV},d≤e→WIn w d s→WIn w e s
 | 0,_,_,_,h=>h.elim
 | d+1,0,_,hl,_=>by omega
 | d+1,e+1,.mk f ps,hl,⟨h0,h1,h2,h3⟩=>⟨h0,h1,h2,fun p hp=>WIn.more (by omega) (h3 p hp)⟩
theorem six_len {cs:List Value} (h:cs.length=6):∃ a b c d e f,cs=[a,b,c,d,e,f]:=by
 match cs,h with
 | [a,b,c,d,e,f],_=>exact ⟨a,b,c,d,e,f,rfl⟩
section
variable {H:Type} {enc:TypeId×Value→H} {w:World} {base:Nat} {spare:Nat→Bool} {held:Bool}
theorem To:∀ (fuel:Nat) {cs:List Value} {x:DataW H×List MemPlace},DataW.trod enc prog w base spare held fuel 25 cs=some x→∃ s:SV,cs=[.int .i64 s.f.tag,.int .i64 s.f.dim,.slice s.f.a s.f.len s.f.cap]∧SIn w fuel s:=by
 intro fuel
 induction fuel using Nat.strongRecOn with
 | _ fuel ih =>
 intro cs x h
 obtain ⟨xs,n,hn,_,hl,hlen,hg⟩:=DataW.trod_struct underlying25 h
 rw [show prog.cellsOf 25=3 by kernel_rfl] at hl
 obtain ⟨a,b,c,rfl⟩:=C3 hl
 have hlen3:xs.length=3:=hlen
 have g0:=hg 0 _ rfl
 have g1:=hg 1 _ rfl
 have g2:=hg 2 _ rfl
 rw [show prog.cellsOf _=1 by kernel_rfl,List.getElem?_eq_getElem (by omega)] at g0 g1 g2
 obtain ⟨z0,e0,_,w0⟩:=DataW.trod_int (k:=.i64) (by kernel_rfl) g0
 obtain ⟨z1,e1,_,w1⟩:=DataW.trod_int (k:=.i64) (by kernel_rfl) g1
 simp at e0 e1
 subst e0 e1
 rcases DataW.trod_slice underlying23 g2 with ⟨hcs,_⟩ | ⟨ad,len,cap,elems,rest,n',hn',hcs,_,hb,hle,hcap,hel,hi,_,_⟩
 ·simp at hcs
  subst hcs
  subst hn
  exact ⟨.mk ⟨z0,z1,none,0,0⟩ [],rfl,rfl,.inl rfl,fun p hp=>by cases hp⟩
 ·simp at hcs
  subst hcs
  subst hn
  rw [show prog.cellsOf 25=3 by kernel_rfl] at hi
  obtain ⟨ps,hpl,hps⟩:=oJ len (fun i (p:SV)=>(w.cell? (ad.add (i * 3))=some (.int .i64 p.f.tag)∧w.cell? (ad.add (i * 3+1))=some (.int .i64 p.f.dim)∧w.cell? (ad.add (i * 3+2))=some (.slice p.f.a p.f.len p.f.cap))∧SIn w n' p) (fun i hil=>by
   have hii:=hi i hil
   rw [List.getElem?_eq_getElem (by omega)] at hii
   obtain ⟨cs',hc,ht⟩:=Option.bind_eq_some_iff.1 hii
   obtain ⟨_,hcl,hat⟩:=World.cells?_some hc
   obtain ⟨s,rfl,hs⟩:=ih n' (by omega) ht
   have e0:=hat 0 (by omega)
   have e1:=hat 1 (by omega)
   have e2:=hat 2 (by omega)
   rw [Go.Deep.add_add] at e0 e1 e2
   exact ⟨s,⟨e0,e1,e2⟩,hs⟩)
  refine ⟨.mk ⟨z0,z1,some ad,len,cap⟩ ps,rfl,hpl,?_,fun p hp=>?_⟩
  ·rcases Nat.eq_zero_or_pos len with h0 | h0
   ·exact .inl (List.length_eq_zero_iff.1 (by omega))
   ·obtain ⟨b,off,spot⟩:=ad
    obtain ⟨⟨h1,_,_⟩,_⟩:=hps 0 (ps[0]'(by omega)) (List.getElem?_eq_getElem (by omega))
    have hspot:spot=none:=by simpa [Addr.add] using World.cell?_spot h1
    subst hspot
    refine .inr ⟨b,off,rfl,fun i c hic=>?_⟩
    have e:∀ k,({ block:=b,off:=off }:Addr).add k=⟨b,off+k,none⟩:=fun k=>by simp [Addr.add]
    have h3:=(hps i c hic).1
    rw [e,e,e,← Nat.add_assoc,← Nat.add_assoc] at h3
    exact h3
  ·obtain ⟨i,hi',hic⟩:=List.mem_iff_getElem.1 hp
   exact (hps i p (by rw [← hic];exact List.getElem?_eq_getElem hi')).2.more (by omega)
theorem P1 {n:Nat} {v:Value} {x:DataW H×List MemPlace} (h:DataW.trod enc prog w base spare held n 38 [v]=some x) :
  ∃ (a:Option Addr) (len cap:Nat) (rows:List Nat),v = .slice a len cap∧fH w a (u64s rows)∧rows.length=len∧∀ r∈rows,r < 18446744073709551616:=by
 rcases open_ints (t:=38) (e:=37) (k:=.u64) (by kernel_rfl) (by kernel_rfl) (by kernel_rfl) h with ⟨hcs,_⟩ | ⟨x,len,cap,zs,hcs,_,hl,hm,hz,_,hcell,hwz⟩
 ·have hcs':v = .slice none 0 0:=by simpa using hcs
  subst hcs'
  exact ⟨none,0,0,[],rfl,.inl rfl,rfl,fun r hr=>by cases hr⟩
 ·have hcs':v = .slice (some x) len cap:=by simpa using hcs
  subst hcs'
  have hzl:len≤zs.length:=by rw [hz];split<;>omega
  refine ⟨some x,len,cap,(zs.take len).map Int.toNat,rfl,?_,?_,?_⟩
  ·rcases Nat.eq_zero_or_pos len with h0 | h0
   ·subst h0;exact .inl (by simp [u64s])
   ·obtain ⟨b,off,spot⟩:=x
    have hc0:=hcell 0 (by omega)
    have hspot:spot=none:=by simpa [Addr.add] using World.cell?_spot hc0
    subst hspot
    refine .inr ⟨b,off,rfl,fun i v hi=>?_⟩
    obtain ⟨q,hq,rfl⟩:=Dv hi
    rw [List.getElem?_map,List.getElem?_take] at hq
    split at hq
    ·rename_i hlt
     have hi2:i < zs.length:=by omega
     rw [List.getElem?_eq_getElem hi2] at hq
     have hq':(zs[i]).toNat=q:=by simpa using hq
     obtain ⟨m,hm1,hm2⟩:=Eb (hwz _ (List.getElem_mem hi2))
     have hc:=hcell i hi2
     have e:({ block:=b,off:=off }:Addr).add i=⟨b,off+i,none⟩:=by simp [Addr.add]
     rw [e] at hc
     rw [hc]
     have:zs.getD i 0=zs[i]:=by simp [List.getD,List.getElem?_eq_getElem hi2]
     rw [this,hm1,← hq',hm1]
     rfl
    ·cases hq
  ·simp;omega
  ·intro r hr
   obtain ⟨z,hz1,rfl⟩:=List.mem_map.1 hr
   obtain ⟨m,hm1,hm2⟩:=Eb (hwz z (List.mem_of_mem_take hz1))
   rw [hm1];exact hm2
theorem Tp {n:Nat} {a b:Value} {x:DataW H×List MemPlace} (h:DataW.trod enc prog w base spare held n 40 [a,b]=some x) :
  ∃ (g:Nat) (ra:Option Addr) (rl rc:Nat) (rows:List Nat),a = .int .u64 (g:Int)∧b = .slice ra rl rc∧g < 18446744073709551616∧fH w ra (u64s rows)∧rows.length=rl∧∀ r∈rows,r < 18446744073709551616:=by
 obtain ⟨xs,n',_,_,hl,hlen,hg⟩:=DataW.trod_struct underlying40 h
 have hlen2:xs.length=2:=hlen
 have g0:=hg 0 _ rfl
 have g1:=hg 1 _ rfl
 rw [show prog.cellsOf _=1 by kernel_rfl,List.getElem?_eq_getElem (by omega)] at g0 g1
 obtain ⟨z0,e0,_,w0⟩:=DataW.trod_int (k:=.u64) (by kernel_rfl) g0
 simp at e0
 subst e0
 obtain ⟨g,rfl,hg64⟩:=Eb w0
 obtain ⟨ra,rl,rc,rows,e1,h1,h2,h3⟩:=P1 (v:=b) g1
 exact ⟨g,ra,rl,rc,rows,rfl,e1,hg64,h1,h2,h3⟩
theorem P2:∀ (fuel:Nat) {cs:List Value} {x:DataW H×List MemPlace},DataW.trod enc prog w base spare held fuel 44 cs=some x→∃ s:WV,cs=s.f.six∧WIn w fuel s:=by
 intro fuel
 induction fuel using Nat.strongRecOn with
 | _ fuel ih =>
 intro cs x h
 obtain ⟨xs,n,hn,_,hl,hlen,hg⟩:=DataW.trod_struct underlying44 h
 rw [show prog.cellsOf 44=6 by kernel_rfl] at hl
 obtain ⟨a,b,c,d,e,f,rfl⟩:=six_len hl
 have hlen5:xs.length=5:=hlen
 have g0:=hg 0 _ rfl
 have g1:=hg 1 _ rfl
 have g2:=hg 2 _ rfl
 have g3:=hg 3 _ rfl
 have g4:=hg 4 _ rfl
 rw [show prog.cellsOf _=1 by kernel_rfl,List.getElem?_eq_getElem (by omega)] at g0 g1 g3 g4
 rw [show prog.cellsOf _=2 by kernel_rfl,List.getElem?_eq_getElem (by omega)] at g2
 obtain ⟨z0,e0,_⟩:=DataW.trod_bool (by kernel_rfl) g0
 obtain ⟨z1,e1,_,w1⟩:=DataW.trod_int (k:=.i64) (by kernel_rfl) g1
 simp at e0 e1
 subst e0 e1
 obtain ⟨gg,ra,rl,rc,rows,rfl,rfl,hg64,hrow,hrl,hr64⟩:=Tp (a:=c) (b:=d) g2
 obtain ⟨ca,cl,cc,e3⟩:=Ku g3
 have e3':e = .slice ca cl cc:=by simpa using e3
 subst e3'
 obtain ⟨cells,hcl,hcm,hcrow,hcbits⟩:=Kt (a:=ca) (len:=cl) (cap:=cc) g3
 rcases DataW.trod_slice underlying42 g4 with ⟨hcs,_⟩ | ⟨ad,len,cap,elems,rest,n',hn',hcs,_,hb,hle,hcap,hel,hi,_,_⟩
 ·simp at hcs
  subst hcs
  subst hn
  exact ⟨.mk ⟨z0,z1,gg,ra,rl,rc,rows,ca,cl,cc,cells,none,0,0⟩ [],rfl,⟨hrow,hrl,hg64,hr64,hcrow,hcl.symm,hcbits,by dsimp only;omega⟩,rfl,.inl rfl,fun p hp=>by cases hp⟩
 ·simp at hcs
  subst hcs
  subst hn
  rw [show prog.cellsOf 44=6 by kernel_rfl] at hi
  obtain ⟨ps,hpl,hps⟩:=oJ len (fun i (p:WV)=>(w.cell? (ad.add (i * 6))=some (.bool p.f.z)∧w.cell? (ad.add (i * 6+1))=some (.int .i64 p.f.c)∧w.cell? (ad.add (i * 6+2))=some (.int .u64 (p.f.g:Int))∧w.cell? (ad.add (i * 6+3))=some (.slice p.f.ra p.f.rl p.f.rc)∧w.cell? (ad.add (i * 6+4))=some (.slice p.f.ca p.f.cl p.f.cc)∧w.cell? (ad.add (i * 6+5))=some (.slice p.f.pa p.f.pl p.f.pc))∧WIn w n' p) (fun i hil=>by
   have hii:=hi i hil
   rw [List.getElem?_eq_getElem (by omega)] at hii
   obtain ⟨cs',hc,ht⟩:=Option.bind_eq_some_iff.1 hii
   obtain ⟨_,hcl,hat⟩:=World.cells?_some hc
   obtain ⟨s,rfl,hs⟩:=ih n' (by omega) ht
   have e0:=hat 0 (by omega)
   have e1:=hat 1 (by omega)
   have e2:=hat 2 (by omega)
   have e3:=hat 3 (by omega)
   have e4:=hat 4 (by omega)
   have e5:=hat 5 (by omega)
   rw [Go.Deep.add_add] at e0 e1 e2 e3 e4 e5
   exact ⟨s,⟨e0,e1,e2,e3,e4,e5⟩,hs⟩)
  refine ⟨.mk ⟨z0,z1,gg,ra,rl,rc,rows,ca,cl,cc,cells,some ad,len,cap⟩ ps,rfl,⟨hrow,hrl,hg64,hr64,hcrow,hcl.symm,hcbits,by dsimp only;omega⟩,hpl,?_,fun p hp=>?_⟩
  ·rcases Nat.eq_zero_or_pos len with h0 | h0
   ·exact .inl (List.length_eq_zero_iff.1 (by omega))
   ·obtain ⟨b,off,spot⟩:=ad
    obtain ⟨⟨h1,_⟩,_⟩:=hps 0 (ps[0]'(by omega)) (List.getElem?_eq_getElem (by omega))
    have hspot:spot=none:=by simpa [Addr.add] using World.cell?_spot h1
    subst hspot
    refine .inr ⟨b,off,rfl,fun i c hic=>?_⟩
    have e:∀ k,({ block:=b,off:=off }:Addr).add k=⟨b,off+k,none⟩:=fun k=>by simp [Addr.add]
    have h3:=(hps i c hic).1
    rw [e,e,e,e,e,e,← Nat.add_assoc,← Nat.add_assoc,← Nat.add_assoc,← Nat.add_assoc,← Nat.add_assoc] at h3
    exact h3
  ·obtain ⟨i,hi',hic⟩:=List.mem_iff_getElem.1 hp
   exact (hps i p (by rw [← hic];exact List.getElem?_eq_getElem hi')).2.more (by omega)
end
theorem Ac {w:World} {b:Nat}:∀ (vs:List Value) (o:Nat),(∀ (j:Nat) u,vs[j]?=some u→w.cell? ⟨b,o+j,none⟩=some u)→aF w b o vs
 | [],_,_=>trivial
 | v::vs,o,h=>⟨h 0 v rfl,Ac vs (o+1) fun j u hj=>by have:=h (j+1) u (by simpa using hj);rwa [show o+1+j=o+(j+1) by omega]⟩
section
variable {H:Type} {enc:TypeId×Value→H} {w:World} {base:Nat} {spare:Nat→Bool} {held:Bool}
theorem E4 {n:Nat} {v:Value} {x:DataW H×List MemPlace} (h:DataW.trod enc prog w base spare held n 26 [v]=some x) :
  ∃ (a:Option Addr) (len cap:Nat) (zs:List Int),v = .slice a len cap∧Row w a zs∧zs.length=len∧len≤cap∧cap≤maxLen:=by
 rcases open_ints (t:=26) (e:=3) (k:=.i64) (by kernel_rfl) (by kernel_rfl) (by kernel_rfl) h with ⟨hcs,_⟩ | ⟨x,len,cap,zs,hcs,_,hl,hm,hz,_,hcell,hwz⟩
 ·have hcs':v = .slice none 0 0:=by simpa using hcs
  subst hcs'
  exact ⟨none,0,0,[],rfl,.inl rfl,rfl,Nat.le_refl _,Nat.zero_le _⟩
 ·have hcs':v = .slice (some x) len cap:=by simpa using hcs
  subst hcs'
  have hzl:len≤zs.length:=by rw [hz];split<;>omega
  refine ⟨some x,len,cap,zs.take len,rfl,?_,by simp;omega,hl,hm⟩
  rcases Nat.eq_zero_or_pos len with h0 | h0
  ·subst h0;exact .inl (by simp)
  ·obtain ⟨b,off,spot⟩:=x
   have hc0:=hcell 0 (by omega)
   have hspot:spot=none:=by simpa [Addr.add] using World.cell?_spot hc0
   subst hspot
   refine .inr ⟨b,off,rfl,fun i hi=>?_⟩
   have hi1:i < len:=by simp at hi;omega
   have hi2:i < zs.length:=by omega
   have hc:=hcell i hi2
   have e:({ block:=b,off:=off }:Addr).add i=⟨b,off+i,none⟩:=by simp [Addr.add]
   rw [e] at hc
   rw [hc]
   simp [List.getD,List.getElem?_take,hi1]
theorem P3 {n:Nat} {a:Option Addr} {len cap:Nat} {x:DataW H×List MemPlace} (h:DataW.trod enc prog w base spare held n 26 [.slice a len cap]=some x):∃ zs:List Int,Row w a zs∧zs.length=len∧len≤cap∧len≤9223372036854775807:=by
 obtain ⟨a',len',cap',zs,e,h1,h2,h3,h4⟩:=E4 h
 cases e
 exact ⟨zs,h1,h2,h3,by simp only [maxLen] at h4;omega⟩
end
end Go.Proofs.YtmgnkpibpjgncaaGreatDoor
namespace Go.Proofs.YtmgnkpibpjgncaaGreatDoor
open Go.Proofs.Tryz
open Go Go.RowKit
abbrev MB (w0:World) (Kk:List (Nat×World)):World→Prop:=MK (fun W=>Below w0.heap.size w0 W) Kk
theorem MB.st {w0 W:World} {K:List (Nat×World)} (h:MB w0 K W):St w0 [] [] K W:=⟨h.1,(fun p h=>by cases h),List.Pairwise.nil,(fun q hq=>⟨h.2 q hq,fun p hp=>by cases hp⟩),(fun q h=>by cases h),List.Pairwise.nil⟩
section
variable {P:Program} {d td:Nat} {ty:TypeId} {pos:String}
end
theorem osY_at0 {O:Own} {j jx B:Nat} {cs:List Value} {U:TypeId} {ev:Option Value} {p:Nat×List Value×TypeId} (he:ev=none) (h:O[j]?=some p):(osY O j jx B cs U ev)[j]?=some p:=by
 subst he;exact h
section
variable {P:Program} {n:Nat} {Q:Exit→Act→World→Prop} {l:Fr} {w0 W:World} {ops:Array Oper} {os:List Oper} {K:List (Nat×World)} {L:List Asr} {i:Nat}
variable {ca:Nat→Option Value→List Value} {ta:Nat→TypeId} {Os:Option Value→Own} {Gs:Option Value→cU} {lo ef jy:Nat} {s:Sg}
variable {d:Nat} {op:Op} {ty:TypeId} {pos:String} {aft_:Array Edge} {v:Value} {gd:Option (Nat×Bool)}
end
theorem Ad:∀ (A old new B:List Value),old.length=new.length→gH (A++old++B) A.length new=A++new++B
 | A,[],[],B,_=>by simp [gH]
 | A,[],_::_,B,h=>by simp at h
 | A,_::_,[],B,h=>by simp at h
 | A,o::old,v::new,B,h=>by
  have h9:=Ad (A++[v]) old new B (by simpa using h)
  simp only [gH]
  have e:(A++o::old++B).set A.length v=(A++[v])++old++B:=by simp [List.set_append]
  rw [e]
  simpa using h9
theorem C4 (fs:List WF):(fs.flatMap WF.six).length=fs.length * 6:=by
 induction fs with
 | nil=>rfl
 | cons f r ih=>rw [List.flatMap_cons,List.length_append,ih];simp only [List.length_cons,List.length_nil];omega
theorem rD {fs:List WF} {i:Nat} {f:WF} (h:fs[i]?=some f):fs.flatMap WF.six=(fs.take i).flatMap WF.six++f.six++(fs.drop (i+1)).flatMap WF.six:=by
 have hl:=(List.getElem?_eq_some_iff.1 h).1
 have e:fs=fs.take i++f::fs.drop (i+1):=by
  have h1:=(List.take_append_drop i fs).symm
  rw [List.drop_eq_getElem_cons hl,(List.getElem?_eq_some_iff.1 h).2] at h1
  exact h1
 have e2:=congrArg (fun l=>List.flatMap WF.six l) e
 simp only [List.flatMap_append,List.flatMap_cons] at e2
 rw [List.append_assoc]
 exact e2
theorem C5 {fs:List WF} {i:Nat} (h:i < fs.length):((fs.take i).flatMap WF.six).length=0+i * 6:=by
 rw [C4,List.length_take];omega
theorem Tq {fs:List WF} {cs:List Value} {i:Nat} {f:WF} (h:fs[i]?=some f):((fs.flatMap WF.six++cs).drop (0+i * 6)).take 6=f.six:=by
 rw [rD h,← C5 (List.getElem?_eq_some_iff.1 h).1,List.append_assoc,List.append_assoc,List.drop_left]
 rfl
theorem Kx {fs:List WF} {cs:List Value} {i:Nat} {f g:WF} (h:fs[i]?=some f):gH (fs.flatMap WF.six++cs) (0+i * 6) g.six=(fs.set i g).flatMap WF.six++cs:=by
 have hl:=(List.getElem?_eq_some_iff.1 h).1
 have h2:(fs.set i g)[i]?=some g:=by rw [List.getElem?_set_self hl]
 rw [rD h,rD h2,← C5 hl,List.append_assoc _ _ cs,Ad _ f.six g.six _ rfl]
 rw [List.take_set_of_le (Nat.le_refl _),List.drop_set_of_lt (Nat.lt_succ_self _)]
 simp [List.append_assoc]
def mX (S:PS) (b:Bool) (x y:PX):PX:=if b then kL S y x else kL S x y
abbrev rdC (f0:WF) (a:AV) (bk:Bool) (bm VA VX:Nat):List Value:=[.int .i64 a.s.f.tag,.int .i64 a.s.f.dim,.slice a.s.f.a a.s.f.len a.s.f.cap,.bool f0.z,.int .i64 f0.c,.int .u64 (f0.g:Int),.slice f0.ra f0.rl f0.rc,.slice f0.ca f0.cl f0.cc,.slice f0.pa f0.pl f0.pc,.int .i64 a.s.f.tag,.int .i64 a.s.f.dim,.slice a.s.f.a a.s.f.len a.s.f.cap,.int .i64 a.st,.int .i64 a.sy,.slice a.fa a.fl a.fc,.slice a.ta a.tl a.tc,.bool bk,.map (some bm),.pointer (some ⟨VA,0,none⟩),.pointer (some ⟨VX,0,none⟩)]
abbrev gT (v:Value) (n IB WB:Nat):List Value:=[v,.slice (some ⟨IB,0,none⟩) n n,.slice (some ⟨WB,0,none⟩) n n]
noncomputable abbrev inC (S:PS) (xs:List PX):List Value:=xs.map (fun x=>.bool (nzX S x))
abbrev wC (fs:List WF):List Value:=fs.flatMap WF.six
abbrev atC (l:List Nat):List Value:=l.map (fun (i:Nat)=>Value.int .i64 (i:Int))
structure VecOk (S:PS) (w0:World) (K:List (Nat×World)) (n:Nat) (fs:List WF) (xs:List PX) (l:List Nat):Prop where
 fl:fs.length=n
 xl:xs.length=n
 held:∀ (i:Nat) f x,fs[i]?=some f→xs[i]?=some x→x≠bW S→jF w0 K (fun W=>XIs W S f x)
 ok:∀ x∈xs,OkX S x
 ats:∀ i,i∈l↔∃ x,xs[i]?=some x∧x≠bW S
 nd:l.Nodup
section
variable {S:PS} {w0:World} {K K':List (Nat×World)} {n s:Nat} {fs:List WF} {xs:List PX} {l:List Nat} {f:WF} {x x0:PX}
theorem nd_len:∀ (n:Nat) (l:List Nat),l.Nodup→(∀ i∈l,i < n)→l.length≤n:=by
 intro n
 induction n with
 | zero =>
  intro l _ h
  cases l with
  | nil=>exact Nat.le_refl _
  | cons a t=>exact absurd (h a List.mem_cons_self) (Nat.not_lt_zero _)
 | succ n ih =>
  intro l hl h
  have h1:=ih (l.filter (· ≠ n)) (hl.filter _) (fun i hi=>by
   simp at hi
   have:=h i hi.1
   omega)
  have h2:l.length≤(l.filter (· ≠ n)).length+1:=by
   clear ih h h1
   induction l with
   | nil=>simp
   | cons a t iht =>
    have hn:=List.nodup_cons.1 hl
    by_cases e:a=n
    ·subst e
     have:t.filter (· ≠ a)=t:=by
      rw [List.filter_eq_self]
      intro b hb
      simp
      intro e
      subst e
      exact hn.1 hb
     rw [List.filter_cons_of_neg (by simp),this]
     simp
    ·rw [List.filter_cons_of_pos (by simpa using e)]
     have:=iht hn.2
     simp only [List.length_cons]
     omega
  omega
theorem VecOk.len (h:VecOk S w0 K n fs xs l):l.length≤n:=nd_len n l h.nd fun i hi=>by
 obtain ⟨y,h1,_⟩:=(h.ats i).1 hi
 have:=(List.getElem?_eq_some_iff.1 h1).1
 rw [h.xl] at this;exact this
theorem VecOk.more (h:VecOk S w0 K n fs xs l) (hk:∀ q∈K,q∈K'):VecOk S w0 K' n fs xs l:=⟨h.fl,h.xl,fun i f x h1 h2 h3=>jF.more (h.held i f x h1 h2 h3) hk,h.ok,h.ats,h.nd⟩
theorem VecOk.emptied (h:fs.length=n):VecOk S w0 K n fs (List.replicate n (bW S)) []:=⟨h,by simp,fun i f x h1 h2 h3=>by
 have h4:=(List.getElem?_eq_some_iff.1 h2).2
 rw [List.getElem_replicate] at h4
 exfalso;exact h3 h4.symm,fun x hx=>by rw [(List.mem_replicate.1 hx).2];exact mL,fun i=>⟨fun h=>(by cases h),fun ⟨y,h1,h2⟩=>by
 have h4:=(List.getElem?_eq_some_iff.1 h1).2
 rw [List.getElem_replicate] at h4
 exact absurd h4.symm h2⟩,List.nodup_nil⟩
theorem VecOk.at_ (h:VecOk S w0 K n fs xs l) (hs:s < n):∃ f x,fs[s]?=some f∧xs[s]?=some x∧OkX S x:=by
 have h1:s < fs.length:=by rw [h.fl];exact hs
 have h2:s < xs.length:=by rw [h.xl];exact hs
 exact ⟨fs[s],xs[s],List.getElem?_eq_getElem h1,List.getElem?_eq_getElem h2,h.ok _ (List.getElem_mem h2)⟩
theorem Ts (h:xs[s]?=some x):(inC S xs)[0+s * 1]?=some (.bool (nzX S x)):=by
 rw [Nat.zero_add,Nat.mul_one,List.getElem?_map,h];rfl
theorem inC_lt (h:xs[s]?=some x):Nat.blt (0+s * 1) (inC S xs).length=true:=by
 rw [Nat.blt_eq,List.length_map]
 have:=(List.getElem?_eq_some_iff.1 h).1
 omega
theorem M6 (x:PX):(inC S xs).set (0+s * 1) (.bool (nzX S x))=inC S (xs.set s x):=by
 rw [Nat.zero_add,Nat.mul_one]
 exact List.map_set.symm
theorem H7 (h:fs[s]?=some f):((wC fs).drop (0+s * 6)).take 6=f.six:=by
 have h9:=Tq (cs:=[]) h
 rw [List.append_nil] at h9;exact h9
theorem wC_le (h:fs[s]?=some f):Nat.ble (0+s * 6+6) (wC fs).length=true:=by
 rw [Nat.ble_eq,C4]
 have:=(List.getElem?_eq_some_iff.1 h).1
 omega
theorem C6 {g:WF} (h:fs[s]?=some f):gH (wC fs) (0+s * 6) g.six=wC (fs.set s g):=by
 have h9:=Kx (cs:=[]) (g:=g) h
 rw [List.append_nil,List.append_nil] at h9;exact h9
theorem VecOk.put {K':List (Nat×World)} {l':List Nat} {g:WF} {y:PX} (h:VecOk S w0 K n fs xs l) (hs:s < n) (hx0:xs[s]?=some x0) (hk:∀ q∈K,q∈K') (hg:jF w0 K' (fun W=>XIs W S g y)) (hy:OkX S y) (hy0:y≠bW S) (hl:(x0≠bW S∧l'=l)∨(x0=bW S∧l'=l++[s])):VecOk S w0 K' n (fs.set s g) (xs.set s y) l':=by
 have hsl:s < xs.length:=by rw [h.xl];exact hs
 refine ⟨by rw [List.length_set];exact h.fl,by rw [List.length_set];exact h.xl,fun i f x h1 h2 h3=>?_,fun x hx=>?_,fun i=>?_,?_⟩
 ·rcases Nat.decEq i s with e | rfl
  ·rw [List.getElem?_set_ne (Ne.symm e)] at h1 h2
   exact jF.more (h.held i f x h1 h2 h3) hk
  ·rw [List.getElem?_set_self (by rw [h.fl];exact hs)] at h1
   rw [List.getElem?_set_self hsl] at h2
   cases h1;cases h2;exact hg
 ·rcases List.mem_or_eq_of_mem_set hx with h1 | rfl
  ·exact h.ok x h1
  ·exact hy
 ·rcases Nat.decEq i s with e | rfl
  ·rw [List.getElem?_set_ne (Ne.symm e)]
   rcases hl with ⟨_,rfl⟩ | ⟨_,rfl⟩
   ·exact h.ats i
   ·rw [List.mem_append]
    exact ⟨fun h1=>(h.ats i).1 (h1.resolve_right (by simpa using e)),fun h1=>.inl ((h.ats i).2 h1)⟩
  ·rw [List.getElem?_set_self hsl]
   refine ⟨fun _=>⟨y,rfl,hy0⟩,fun _=>?_⟩
   rcases hl with ⟨h1,rfl⟩ | ⟨_,rfl⟩
   ·exact (h.ats i).2 ⟨x0,hx0,h1⟩
   ·simp
 ·rcases hl with ⟨_,rfl⟩ | ⟨h1,rfl⟩
  ·exact h.nd
  ·rw [List.nodup_append]
   refine ⟨h.nd,by simp,fun a ha b hb=>?_⟩
   simp at hb;subst hb
   intro e;subst e
   obtain ⟨y',h2,h3⟩:=(h.ats a).1 ha
   rw [hx0] at h2;cases h2;exact h3 h1
theorem P4 {α:Type} {l:List α} {s:Nat} {x:α} (h:l[s]?=some x):l.set s x=l:=by
 apply List.ext_getElem?
 intro i
 rcases Nat.decEq i s with e | rfl
 ·rw [List.getElem?_set_ne (Ne.symm e)]
 ·rw [List.getElem?_set_self (List.getElem?_eq_some_iff.1 h).1,h]
theorem Ae (h:xs[s]?=some x):xs.set s x=xs:=by
 apply List.ext_getElem?
 intro i
 rcases Nat.decEq i s with e | rfl
 ·rw [List.getElem?_set_ne (Ne.symm e)]
 ·rw [List.getElem?_set_self (List.getElem?_eq_some_iff.1 h).1,h]
theorem M7 (hok:S.ok) (hx:OkX S x0) (hy:OkX S x) (h:x0≠bW S):cB S x0 x≠bW S:=fun e=>h (by
 have h1:=jJ hok hx hx hy
 rw [pB hok hx,e,lY hx] at h1
 exact h1.symm)
theorem atC_len (l:List Nat):(atC l).length=l.length:=by simp
end
theorem M8 {f g:WF} (h:f.val=g.val) (hp:f.pf=g.pf):f=g:=by
 obtain ⟨z,c,g1,ra,rl,rc,rows,ca,cl,cc,cells,pa,pl,pc⟩:=f
 obtain ⟨z',c',g',ra',rl',rc',rows',ca',cl',cc',cells',pa',pl',pc'⟩:=g
 simp [WF.val,WF.pf] at h hp
 obtain ⟨h1,h2,h3,h4,h5,h6⟩:=h
 obtain ⟨p1,p2,p3,p4,p5⟩:=hp
 obtain ⟨e1,e2,e3⟩:=h4
 obtain ⟨e4,e5,e6⟩:=h5
 obtain ⟨e7,e8,e9⟩:=h6
 subst h1;subst h2;subst p3;subst p4;subst p5;subst e1;subst e2;subst e3;subst e4;subst e5;subst e6;subst e7;subst e8;subst e9
 rfl
theorem gA.samepf {lo lo':Nat} {w w':World} {S:PS} {f g:WF} {x:PX} (h:gA lo w S f x) (k:gA lo' w' S g x):f.pf=g.pf:=by
 cases S<;>cases x<;>first | exact h.elim | skip
 ·exact h.is.pf.trans k.is.pf.symm
 ·exact h.1.trans k.1.symm
theorem newOff {lo B:Nat} {A W:World} {S:PS} {f:WF} {x:PX} (hn:Aw (some B) (dL lo S x) f.val A) (hf:gA lo A S f x) (hlo:lo≤A.heap.size) (hx:Jd lo B A W):gA lo W S f x:=by
 obtain ⟨w',⟨g,hg,hgn⟩,ha⟩:=Aw.mid hn hlo hx
 obtain rfl:=M8 hg (hf.samepf hgn)
 exact hgn.agree ha
theorem Na {f g:WF} (h:f.val=g.val):f.six=g.six:=congrArg (fun v:Value=>v.cells.toList) h
section
variable {n:Nat} {Q:Exit→Act→World→Prop} {l:Fr} {W:World} {ops:Array Oper} {L:List Asr} {i d:Nat} {ty:TypeId} {pos:String} {aft:Array Edge} {gd:Option (Nat×Bool)} {S:PS} {x y z:PX} {p q r:Operand}
theorem Tt (hi:ops[i]?=some ⟨some d,.buildSlice 42 2 (List.toArray [(0,p),(1,q)]),ty,pos,aft,gd⟩) (hw:gE ops L i ⟨some d,.buildSlice 42 2 (List.toArray [(0,p),(1,q)]),ty,pos,aft,gd⟩) (hp:wW n ops l L i [p,q] [isX S x,isX S y]) (hI:atI L i=mO S [x,y]):RGA prog n ops Q l W L i :=
 ag_row [isX S x,isX S y] hi hw underlying42 sizeOf44 zeroValue44 rfl rfl hp fun β vs w hb hh=>by
  obtain ⟨v1,v2,rfl,⟨f,rfl,hf⟩,g,rfl,hg⟩:=qQ (hh w (Off.refl _ _))
  refine ⟨f.six++g.six,xD _ _ _ _ _ _ _ _ _ _ _ _,fun B w' hB h1 ho=>?_⟩
  obtain ⟨v1,v2,hv,⟨f',hv1,hf'⟩,g',hv2,hg'⟩:=qQ (hh w' ho)
  simp only [List.cons.injEq,and_true] at hv
  obtain ⟨e1,e2⟩:=hv
  rw [Na (e1.trans hv1),Na (e2.trans hv2)] at h1
  rw [hI]
  exact ⟨B,[f',g'],rfl,Mw h1,rS hf' (rS hg' J5)⟩
end
theorem mS (w:World) (b o:Nat):(Instr.fieldAt 109 (.pointer (some ⟨b,o,none⟩)) 0).run prog w = .ok (.pointer (some ⟨b,o+0,none⟩)) w:=by
 simp [Instr.fieldAt,run_underlying underlying109,Instr.sureAddr,go_sem,Addr.add_lit]
theorem kG (w:World) (b o:Nat):(Instr.fieldAt 139 (.pointer (some ⟨b,o,none⟩)) 0).run prog w = .ok (.pointer (some ⟨b,o+0,none⟩)) w:=by
 simp [Instr.fieldAt,run_underlying underlying139,Instr.sureAddr,go_sem,Addr.add_lit]
theorem uT (w:World) (b o:Nat):(Instr.fieldAt 139 (.pointer (some ⟨b,o,none⟩)) 1).run prog w = .ok (.pointer (some ⟨b,o+1,none⟩)) w:=by
 simp [Instr.fieldAt,run_underlying underlying139,Instr.sureAddr,go_sem,Addr.add_lit]
theorem mT (w:World) (b o:Nat):(Instr.fieldAt 139 (.pointer (some ⟨b,o,none⟩)) 2).run prog w = .ok (.pointer (some ⟨b,o+2,none⟩)) w:=by
 simp [Instr.fieldAt,run_underlying underlying139,Instr.sureAddr,go_sem,Addr.add_lit]
theorem goes_38:bP prog 38=true:=by kernel_rfl
theorem St.mark0 {w0 W:World} {O:Own} {G:cU} {K:List (Nat×World)} (h:St w0 O G K W):St w0 O G ((W.heap.size,W)::K) W where
 below:=h.below
 own:=h.own
 dist:=h.dist
 kept:=fun q hq=>by
  rcases List.mem_cons.1 hq with rfl | hq
  ·exact ⟨dG.refl _ _,fun p hp=>.inl (bV (h.own p hp).2)⟩
  ·exact h.kept q hq
 rows:=fun g hg=>⟨(h.rows g hg).1,fun b hb=>⟨((h.rows g hg).2 b hb).1,fun q hq=>by
  rcases List.mem_cons.1 hq with rfl | hq
  ·exact .inl (h.glt hg hb).2
  ·exact ((h.rows g hg).2 b hb).2 q hq⟩⟩
 gdist:=h.gdist
theorem Af (S:PS) (a:AV) (f0:WF) (bk:Bool) (bm VA VX RB VB IB WB n:Nat) (v:Value) (fs:List WF) (xs:List PX) (l:List Nat) (Ot:Own) (Gt:cU) (K Kv:List (Nat×World)) (w0:World) (s:Nat) (f:WF) (x x0:PX) (w:World) (hS0:St w0 ((RB,rdC f0 a bk bm VA VX,109)::(VB,gT v n IB WB,139)::(IB,inC S xs,4)::(WB,wC fs,44)::Ot) (⟨v,l.length,atC l,3,1⟩::Gt) K w) (hKv:∀ q∈Kv,q∈K) (hV:VecOk S w0 Kv n fs xs l) (hn:n≤4096) (hs:s < n) (hx0:xs[s]?=some x0) (hsi:SIs w0 S a.s.f) (hok:S.ok) (ht:Tabs w0) (H0:jF w0 Kv (fun W=>XIs W S f0 (bW S))) (HX:jF w0 Kv (fun W=>XIs W S f x)) (hx:OkX S x) :
  Calls prog 94 #[.pointer (some ⟨RB,0,none⟩),.pointer (some ⟨VB,0,none⟩),.int .i64 (s:Int),f.val] w (fun e w'=>∃ (u:Value) (l':List Nat) (fs':List WF) (Kw:List (Nat×World)),e = .returned (.bool (!eqX (cB S x0 x) x0))∧(∀ q∈Kw,w.heap.size≤q.1)∧VecOk S w0 (Kw++Kv) n fs' (xs.set s (cB S x0 x)) l'∧((cB S x0 x=x0∧l'=l)∨l'=l∨l'=l++[s])∧St w0 ((RB,rdC f0 a bk bm VA VX,109)::(VB,gT u n IB WB,139)::(IB,inC S (xs.set s (cB S x0 x)),4)::(WB,wC fs',44)::Ot) (⟨u,l'.length,atC l',3,1⟩::Gt) (Kw++K) w'):=by
 refine cD (args:=[.pointer (some ⟨RB,0,none⟩),.pointer (some ⟨VB,0,none⟩),.int .i64 (s:Int),f.val]) func94 rfl ntmps94 rfl ?_
 have hS:=hS0
 have hS:=hS.mark0
 obtain ⟨g0,x9,hg0,hx9,hok0⟩:=hV.at_ hs
 rw [hx0] at hx9;cases hx9
 have hll:=hV.len
 have hzz:OkX S (bW S):=mL
 refine aM (aQ (bY (cs:=[_,_,_,_,_,_]) hS rfl rfl rfl fun B1 W1 hS=>aC rfl rfl (aN (XF.thenN (aM (aM (aQ (aE rfl rfl (cM rfl rfl (aK (o':=1) uT rfl rfl rfl (aR isAgg58 rfl (aH (hS.at_ 2 rfl) rfl) rfl (aE rfl rfl (bZ (j:=s) underlying58 sizeOf4 rfl rfl (rfl) (hs) rfl rfl (aR isAgg4 rfl (aH (hS.at_ 3 rfl) (Ts hx0)) rfl (eS rfl rfl (aN (XF.thenN (bB rfl (fun hc=>?_) (fun hc=>?_)))))))))))))))))))
 ·have hc17:=hc;clear hc
  have hz:x0=bW S:=by simpa [kU] using hc17
  have h0w:=H0 hS (fun q hq=>by simp [hKv q hq])
  have hxw:=HX hS (fun q hq=>by simp [hKv q hq])
  have hcx:cB S x0 x=x:=by rw [hz];exact mM hx
  refine aM (aM (lQ (m:=6) cF hS (by kernel_rfl) (by kernel_rfl) rfl (cL 1 rfl 0 rfl rfl (fun w hw=>bA rfl) rfl (bC 2 rfl 18 0 rfl rfl rfl (fun w hw=>cT rfl) rfl (bC 3 rfl 19 1 rfl rfl rfl (fun w hw=>aV (o':=0) mS rfl rfl) rfl (bC 4 rfl 20 2 rfl rfl rfl (fun w hw=>bD (vs:=[_,_,_,_,_,_,_,_,_]) isAgg76 sizeOf76 rfl (aF.agree (aP hw 0) (Nat.zero_le _) (aF.own (j:=0) (m:=9) (hS.at_ 1 rfl) rfl))) rfl (cL 5 rfl 7 rfl rfl (fun w hw=>bD (vs:=[_,_,_,_,_,_]) isAgg44 sizeOf44 rfl (aF.agree (aP hw 0) (Nat.zero_le _) (aF.own (j:=0) (m:=6) (hS.at_ 0 rfl) rfl))) rfl ?_)))))))
  refine aL 6 rfl (isV (.bool (!nzX S x))) (aI _) (dB [isV _,isV _] rfl goes_38 (aS rfl) ⟨cH (aO 3 (aA rfl rfl rfl)),cH (aO 4 (aA rfl rfl rfl)),trivial⟩ (fun vs w' hb hh=>by have e:=cI (us:=[_,_]) hh;subst e;exact (Ba S a.s.f f0 f x w' (h0w.below hb) (hxw.below hb)).mono fun e w2 h=>⟨_,h.1,rfl,h.2⟩) (aG rfl)) ?_
  refine dW ?_
  intro W2 hbR hS'
  clear hS;have hS:=hS';clear hS'
  refine aJ (aJ (aJ (aJ (aJ (aJ (cQ (XF.thenN (bB rfl (fun hc=>?_) (fun hc=>?_)))))))))
  ·have hc23:=hc;clear hc
   have hxz:x=bW S:=by simpa [kU] using hc23
   have hee:cB S x0 x=x0:=by rw [hcx,hxz,hz]
   refine aM (aQ (aC rfl rfl (aN (XF.thenN (bL (XF.thenR (XF.thenR (XF.res (cE results94 rfl) ?_))))))))
   have hS9:=hS.tail
   have hxs:xs.set s (cB S x0 x)=xs:=by rw [hee,Ae hx0]
   refine ⟨v,l,fs,[],?_,?_,?_,?_,by rw [hxs];exact hS9.keep K (fun q hq=>by simp [hq])⟩
   ·rw [rC.2 hee];rfl
   ·exact fun q hq=>by cases hq
   ·rw [hxs];exact hV
   ·exact .inl ⟨hee,rfl⟩
  ·have hc23:=hc;clear hc
   have hnz:x≠bW S:=by simpa [oI] using hc23
   have hnx:nzX S x=true:=oI.2 hnz
   have hne:cB S x0 x≠x0:=by rw [hcx,hz];exact hnz
   refine bI (XF.thenN (aM (aQ (aE rfl rfl (cM rfl rfl (aK (o':=1) uT rfl rfl rfl (aR isAgg58 rfl (aH (hS.at_ 2 rfl) rfl) rfl (aE rfl rfl (bZ (j:=s) underlying58 sizeOf4 rfl rfl (rfl) (hs) rfl rfl (dN (i:=3) (cs':=(inC S xs).set (0+s * 1) (.bool true)) (O':=_::_::_::_::_::Ot) hS sizeOf4 rfl rfl rfl rfl (inC_lt hx0) rfl rfl fun W4 hS=>?_))))))))))
   have hS:=hS.castO (O':=_::_::_::(IB,inC S (xs.set s x),4)::_::Ot) (by rw [← M6,hnx])
   refine aN (XF.thenN (aM (aQ (aE rfl rfl (aE rfl rfl (cM rfl rfl (aK (o':=0) kG rfl rfl rfl (aR isAgg26 rfl (aH (hS.at_ 2 rfl) rfl) rfl (aE rfl rfl (cW (us:=[(0,.int .i64 _)]) hS underlying26 sizeOf3 zeroValue3 rfl rfl rfl (kV _) rfl fun B3 W3 hS=>?_))))))))))
   refine mB (i:=0) (news:=[_]) hS underlying26 Bg rfl rfl (by show 0 < 1;decide) rfl rfl rfl rfl rfl (aF.own (j:=0) (m:=1) (hS.at_ 0 rfl) rfl) rfl rfl (by dsimp only;simp only [maxLen];omega) (by dsimp only;show _ * 8≤_;omega) rfl fun v4 W4 hS=>?_
   refine cM rfl rfl (aK (o':=0) kG rfl rfl rfl (dN (i:=3) (cs':=[_,_,_]) (O':=(_::_::_::_::_::_::Ot)) hS sizeOf26 rfl rfl (by first | rfl | exact (hS.oneV 0 _ rfl :) | exact (hS.oneV 1 _ rfl :) | exact (hS.oneV 2 _ rfl :) | exact (hS.oneV 3 _ rfl :)) rfl rfl rfl rfl fun W5 hS=>aN (XF.thenN (aM (Tn (ef:=7) (jy:=5) (ca:=qY (fun _=>[])) (ta:=fun _=>0) (Os:=osY _ 5 (0+s * 6) WB (wC fs) 44) (Gs:=uJ _) (al:=[]) (k:=8) (ds:=[]) cF rfl hS rfl (by kernel_rfl) rfl (by decide) rfl rfl rfl rfl (aX 1 rfl rfl (isV _) (fun hNo=>sgV [(1,_)] rfl rfl rfl rfl hNo (aS rfl) ⟨cG rfl,trivial⟩ (fun ev w he hw=>bA rfl) (aG rfl)) (aX 2 rfl rfl (isV _) (fun hNo=>sgV [(40,_)] rfl rfl rfl rfl hNo (aS rfl) ⟨aO 0 (aA rfl rfl rfl),trivial⟩ (fun ev w he hw=>cT rfl) (aG rfl)) (aX 3 rfl rfl (isV _) (fun hNo=>sgV [(41,_)] rfl rfl rfl rfl hNo (aS rfl) ⟨aO 1 (aA rfl rfl rfl),trivial⟩ (fun ev w he hw=>aV (o':=2) mT rfl rfl) (aG rfl)) (aX 4 rfl rfl (isV _) (fun hNo=>sgV [(42,_)] rfl rfl rfl rfl hNo (aS rfl) ⟨aO 2 (aA rfl rfl rfl),trivial⟩ (fun ev w he hw=>aZ isAgg42 rfl ((aH (hw.at_ 3 (E2 (i:=3) (j:=5) rfl rfl)) rfl))) (aG rfl)) (aX 5 rfl rfl (isV _) (fun hNo=>sgV [(2,_)] rfl rfl rfl rfl hNo (aS rfl) ⟨cG rfl,trivial⟩ (fun ev w he hw=>bA rfl) (aG rfl)) (aX 6 rfl rfl (isV _) (fun hNo=>sgV [(7,_)] rfl rfl rfl rfl hNo (aS rfl) ⟨cG rfl,trivial⟩ (fun ev w he hw=>bD (vs:=[_,_,_,_,_,_]) isAgg44 sizeOf44 rfl ((aF.own (j:=0) (m:=6) (hw.at_ 1 (E2 (i:=1) (j:=5) rfl rfl)) rfl))) (aG rfl)) (aX 7 rfl rfl (isV _) (fun hNo=>sgV [(43,_),(44,_)] rfl rfl rfl rfl hNo (aS rfl) ⟨aO 3 (aA rfl rfl rfl),aO 4 (aA rfl rfl rfl),trivial⟩ (fun ev w he hw=>bG (j:=s) underlying42 sizeOf44 rfl rfl (rfl) (hs) rfl) (aG rfl)) ?_))))))))))))
   refine pG 8 rfl (E3 (py:=isV _) (m:=6) 5 (0+s * 6) [(46,_)] rfl rfl rfl rfl (by kernel_rfl) rfl rfl (fun j hj=>by rcases hj with h | rfl<;>first | (cases h<;>rfl) | rfl) ⟨aO 6 (aA rfl rfl rfl),trivial⟩ rfl rfl sizeOf44 (fun v w h=>by subst h;exact ⟨_,rfl,rfl,rfl⟩) (wC_le hg0)) ?_
   refine nH ?_
   intro Bf6 y6 W6 Ks6 hsz6 hKs6 hS' hcov6
   clear hS;have hS:=hS'.castO (O':=(_::_::_::_::_::_::Ot)) rfl;clear hS'
   refine uL (L':=[AwS _ _ (isV _),AwS _ _ (isV _),AwS _ _ (isV _),AwS _ _ (isV _),AwS _ _ (isV _),(fun v0_ w0_=>v0_=_∧AwS _ _ (isV _) v0_ w0_),AwS _ _ (isV _),isV _]) rfl (bM (bM (bM (bM (bM ?_)))))
   refine dH ?_;rintro _ ⟨rfl,hA6⟩;have hA6:=hA6.here;cases hA6
   refine bM (Hr (cQ (aN (XF.thenN (aM (aQ (aC rfl rfl (aN (XF.thenN (bL (XF.thenR (XF.res (cE results94 rfl) ?_))))))))))))
   have hS9:=(hS.tail.tail.castO (O':=_::_::_::(WB,wC (fs.set s f),44)::Ot) (by rw [← C6 (g:=f) hg0];rfl)).castG (G':=⟨_,(l++[s]).length,atC (l++[s]),3,1⟩::Gt) (by rw [show atC (l++[s])=atC l++[Value.int .i64 (s:Int)] by simp [atC],List.length_append];rfl)
   refine ⟨_,l++[s],fs.set s f,[],?_,?_,?_,?_,by rw [hcx];exact hS9.keep K (fun q hq=>by simp [hq])⟩
   ·rw [rW.2 hne];rfl
   ·exact fun q hq=>by cases hq
   ·rw [hcx];exact hV.put hs hx0 (fun q hq=>hq) HX hx hnz (.inr ⟨hz,rfl⟩)
   ·exact .inr (.inr rfl)
 ·have hc17:=hc;clear hc
  have hnz0:x0≠bW S:=by simpa [oI] using hc17
  have hxw:=HX hS (fun q hq=>by simp [hKv q hq])
  have hx0w:=(hV.held s g0 x0 hg0 hx0 hnz0) hS (fun q hq=>by simp [hKv q hq])
  have hsz8:=hS.below.size
  have hq8:w.heap.size≤W1.heap.size:=(hS.kept (w.heap.size,w) (by simp)).1.1
  have hcz:cB S x0 x≠bW S:=M7 hok hok0 hx hnz0
  have hcok:OkX S (cB S x0 x):=lK hok hok0 hx
  refine bI (XF.thenN (aM (regBA (cs:=[_,_,_,_,_,_]) cF 15 14 hS rfl rfl rfl rfl zeroValue44 rfl (by kernel_rfl) (by kernel_rfl) (by kernel_rfl) (fun d hd=>by cases hd) (fO 1 rfl rfl (isV _) (aI _) (agV (li:=[(0,_)]) rfl (aS rfl) ⟨cG rfl,trivial⟩ (fun w hw=>bA rfl) (aG rfl)) (fO 2 rfl rfl (isV _) (aI _) (agV (li:=[(47,_)]) rfl (aS rfl) ⟨aO 0 (aA rfl rfl rfl),trivial⟩ (fun w hw=>cT rfl) (aG rfl)) (fO 3 rfl rfl (isV _) (aI _) (agV (li:=[(48,_)]) rfl (aS rfl) ⟨aO 1 (aA rfl rfl rfl),trivial⟩ (fun w hw=>aV (o':=0) mS rfl rfl) (aG rfl)) (fO 4 rfl rfl (isV _) (aI _) (agV (li:=[(49,_)]) rfl (aS rfl) ⟨aO 2 (aA rfl rfl rfl),trivial⟩ (fun w hw=>bD (vs:=[_,_,_,_,_,_,_,_,_]) isAgg76 sizeOf76 rfl (aF.agree (aP hw 0) (Nat.zero_le _) (aF.own (j:=0) (m:=9) (hS.at_ 1 rfl) rfl))) (aG rfl)) (fO 5 rfl rfl (isV _) (aI _) (agV (li:=[(1,_)]) rfl (aS rfl) ⟨cG rfl,trivial⟩ (fun w hw=>bA rfl) (aG rfl)) (fO 6 rfl rfl (isV _) (aI _) (agV (li:=[(51,_)]) rfl (aS rfl) ⟨aO 4 (aA rfl rfl rfl),trivial⟩ (fun w hw=>cT rfl) (aG rfl)) (fO 7 rfl rfl (isV _) (aI _) (agV (li:=[(52,_)]) rfl (aS rfl) ⟨aO 5 (aA rfl rfl rfl),trivial⟩ (fun w hw=>aV (o':=2) mT rfl rfl) (aG rfl)) (fO 8 rfl rfl (isV _) (aI _) (agV (li:=[(53,_)]) rfl (aS rfl) ⟨aO 6 (aA rfl rfl rfl),trivial⟩ (fun w hw=>aZ isAgg42 rfl ((aP hw 0).cell (Nat.zero_le _) (aH (hS.at_ 2 rfl) rfl))) (aG rfl)) (fO 9 rfl rfl (isV _) (aI _) (agV (li:=[(2,_)]) rfl (aS rfl) ⟨cG rfl,trivial⟩ (fun w hw=>bA rfl) (aG rfl)) (fO 10 rfl rfl (isV _) (aI _) (agV (li:=[(54,_),(55,_)]) rfl (aS rfl) ⟨aO 7 (aA rfl rfl rfl),aO 8 (aA rfl rfl rfl),trivial⟩ (fun w hw=>bG (j:=s) underlying42 sizeOf44 rfl rfl (rfl) (hs) rfl) (aG rfl)) (fO 11 rfl rfl (isX S x0) (oH) (agP (li:=[(56,_)]) rfl (aS rfl) ⟨aO 9 (aA rfl rfl rfl),trivial⟩ (fun w hw=>bD (vs:=[_,_,_,_,_,_]) isAgg44 sizeOf44 rfl (aF.agree (aP hw 0) (Nat.zero_le _) (aF.own (j:=0+s * 6) (m:=6) (hS.at_ 4 rfl) (H7 hg0)))) (fun w hw=>⟨g0,rfl,hx0w.below hw⟩) (aG rfl)) (fO 12 rfl rfl (isX S x) (oH) (agP (li:=[(7,_)]) rfl (aS rfl) ⟨cG rfl,trivial⟩ (fun w hw=>bD (vs:=[_,_,_,_,_,_]) isAgg44 sizeOf44 rfl (aF.agree (aP hw 0) (Nat.zero_le _) (aF.own (j:=0) (m:=6) (hS.at_ 0 rfl) rfl))) (fun w hw=>⟨f,rfl,hxw.below hw⟩) (aG rfl)) (fO 13 rfl rfl (mO S [x0,x]) (qT) (Tt rfl (aS rfl) ⟨cH (aO 10 (aA rfl rfl rfl)),cH (aO 11 (aA rfl rfl rfl)),trivial⟩ (aG rfl)) (fO 14 rfl rfl (dL W1.heap.size S (cB S x0 x)) (dS) (ag_call [isV (iA a.s.f f0),mO S [x0,x]] rfl E1 (aS rfl) ⟨cH (aO 3 (aA rfl rfl rfl)),cH (aO 12 (aA rfl rfl rfl)),trivial⟩ (fun vs w' hb hh=>plus2N hh (hsi.below (hS.below.trans (hb.mono hS.below.size))) hok hok0 (ht.below (hS.below.trans (hb.mono hS.below.size))) hb.size) (aG rfl)) (Nu 15 rfl rfl (bla_nil ?_)))))))))))))))))))
  intro B7 AB7 W7 hbR hA1 hA2 hBlo hBhi hS'
  clear hS;have hS:=hS';clear hS'
  refine nM (nM (nM (nM (nM (nM (nM (nM (nM (nM ?_)))))))))
  refine dH ?_;intro _ _
  refine dH ?_;intro _ _
  refine dH ?_;intro _ _
  refine dH ?_;rintro _ hn9;obtain ⟨f9,e9,hf9⟩:=hn9.here;subst e9
  refine aJ ?_
  obtain ⟨Kw,hKw⟩:∃ k,k=[(W1.heap.size,AB7),(B7+1,W7)]:=⟨_,rfl⟩
  have hnw:∀ q∈Kw,w.heap.size≤q.1:=fun q hq=>by
   rw [hKw] at hq
   simp only [List.mem_cons,List.not_mem_nil,or_false] at hq
   rcases hq with rfl | rfl
   ·exact hq8
   ·dsimp only;omega
  have HX9:jF w0 (Kw++Kv) (fun W2=>XIs W2 S f9 (cB S x0 x)):=fun h2 hk=>(newOff hn9 hf9 hbR.size (Nt hA1 hA2 (h2.kept (W1.heap.size,AB7) (hk _ (by rw [hKw];simp))).1 (h2.kept (B7+1,W7) (hk _ (by rw [hKw];simp))).1)).is
  refine cQ (aU (i:=0) (vs:=[_,_,_,_,_,_]) (cs':=[_,_,_,_,_,_]) (O':=(_::_::_::_::_::_::Ot)) hS sizeOf44 rfl rfl rfl rfl rfl rfl rfl fun W8 hS=>aN (XF.thenN (aM (aM ?_))))
  have hx9w:=HX9 hS (fun q hq=>by
   rw [hKw] at hq
   simp only [List.cons_append,List.nil_append,List.mem_cons] at hq
   rcases hq with rfl | rfl | hq
   ·simp
   ·simp
   ·simp [hKv q hq])
  have hx0v:=(hV.held s g0 x0 hg0 hx0 hnz0) hS (fun q hq=>by simp [hKv q hq])
  refine lQ (m:=9) cF hS (by kernel_rfl) (by kernel_rfl) rfl (cL 1 rfl 9 rfl rfl (fun w hw=>bD (vs:=[_,_,_,_,_,_]) isAgg44 sizeOf44 rfl (aF.agree (aP hw 0) (Nat.zero_le _) (aF.own (j:=0) (m:=6) (hS.at_ 0 rfl) rfl))) rfl (cL 2 rfl 1 rfl rfl (fun w hw=>bA rfl) rfl (bC 3 rfl 62 1 rfl rfl rfl (fun w hw=>cT rfl) rfl (bC 4 rfl 63 2 rfl rfl rfl (fun w hw=>aV (o':=2) mT rfl rfl) rfl (bC 5 rfl 64 3 rfl rfl rfl (fun w hw=>aZ isAgg42 rfl ((aP hw 0).cell (Nat.zero_le _) (aH (hS.at_ 3 rfl) rfl))) rfl (cL 6 rfl 2 rfl rfl (fun w hw=>bA rfl) rfl (aL 7 rfl (isV _) (aI _) (rgV (li:=[(65,_),(66,_)]) rfl (aS rfl) ⟨aO 4 (aA rfl rfl rfl),aO 5 (aA rfl rfl rfl),trivial⟩ (fun w hw=>bG (j:=s) underlying42 sizeOf44 rfl rfl (rfl) (hs) rfl) (aG rfl)) (bC 8 rfl 67 6 rfl rfl rfl (fun w hw=>bD (vs:=[_,_,_,_,_,_]) isAgg44 sizeOf44 rfl (aF.agree (aP hw 0) (Nat.zero_le _) (aF.own (j:=0+s * 6) (m:=6) (hS.at_ 5 rfl) (H7 hg0)))) rfl ?_))))))))
  refine aL 9 rfl (isV (.bool (eqX (cB S x0 x) x0))) (aI _) (dB [isV _,isV _] rfl Dj (aS rfl) ⟨cH (aO 0 (aA rfl rfl rfl)),cH (aO 7 (aA rfl rfl rfl)),trivial⟩ (fun vs w' hb hh=>by have e:=cI (us:=[_,_]) hh;subst e;exact (H3 (hx9w.below hb) (hx0v.below hb) (eqX (cB S x0 x) x0) rC).mono fun e w2 h=>⟨_,h.1,rfl,h.2⟩) (aG rfl)) ?_
  refine dW ?_
  intro W9 hbR hS'
  clear hS;have hS:=hS';clear hS'
  refine aJ (aJ (aJ (aJ (aJ (aJ (aJ (aJ (aJ (cQ (XF.thenN (bB rfl (fun hc=>?_) (fun hc=>?_))))))))))))
  ·have hc69:=hc;clear hc
   have hee:cB S x0 x=x0:=rC.1 hc69
   refine aM (aQ (aC rfl rfl (aN (XF.thenN (bL (XF.thenR (XF.res (cE results94 rfl) ?_)))))))
   have hS9:=hS.tail.tail
   have hxs:xs.set s (cB S x0 x)=xs:=by rw [hee,Ae hx0]
   refine ⟨v,l,fs,[],?_,?_,?_,?_,by rw [hxs];exact hS9.keep K (fun q hq=>by simp [hq])⟩
   ·rw [rC.2 hee];rfl
   ·exact fun q hq=>by cases hq
   ·rw [hxs];exact hV
   ·exact .inl ⟨hee,rfl⟩
  ·have hc69:=hc;clear hc
   have hne:cB S x0 x≠x0:=rW.1 hc69
   refine bI (XF.thenN (aM (Tn (ef:=7) (jy:=5) (ca:=qY (fun _=>[])) (ta:=fun _=>0) (Os:=osY _ 5 (0+s * 6) WB (wC fs) 44) (Gs:=uJ _) (al:=[]) (k:=8) (ds:=[]) cF rfl hS rfl (by kernel_rfl) rfl (by decide) rfl rfl rfl rfl (aX 1 rfl rfl (isV _) (fun hNo=>sgV [(1,_)] rfl rfl rfl rfl hNo (aS rfl) ⟨cG rfl,trivial⟩ (fun ev w he hw=>bA rfl) (aG rfl)) (aX 2 rfl rfl (isV _) (fun hNo=>sgV [(70,_)] rfl rfl rfl rfl hNo (aS rfl) ⟨aO 0 (aA rfl rfl rfl),trivial⟩ (fun ev w he hw=>cT rfl) (aG rfl)) (aX 3 rfl rfl (isV _) (fun hNo=>sgV [(71,_)] rfl rfl rfl rfl hNo (aS rfl) ⟨aO 1 (aA rfl rfl rfl),trivial⟩ (fun ev w he hw=>aV (o':=2) mT rfl rfl) (aG rfl)) (aX 4 rfl rfl (isV _) (fun hNo=>sgV [(72,_)] rfl rfl rfl rfl hNo (aS rfl) ⟨aO 2 (aA rfl rfl rfl),trivial⟩ (fun ev w he hw=>aZ isAgg42 rfl ((aH (hw.at_ 3 (E2 (i:=3) (j:=5) rfl rfl)) rfl))) (aG rfl)) (aX 5 rfl rfl (isV _) (fun hNo=>sgV [(2,_)] rfl rfl rfl rfl hNo (aS rfl) ⟨cG rfl,trivial⟩ (fun ev w he hw=>bA rfl) (aG rfl)) (aX 6 rfl rfl (isV _) (fun hNo=>sgV [(9,_)] rfl rfl rfl rfl hNo (aS rfl) ⟨cG rfl,trivial⟩ (fun ev w he hw=>bD (vs:=[_,_,_,_,_,_]) isAgg44 sizeOf44 rfl ((aF.own (j:=0) (m:=6) (hw.at_ 0 (E2 (i:=0) (j:=5) rfl rfl)) rfl))) (aG rfl)) (aX 7 rfl rfl (isV _) (fun hNo=>sgV [(73,_),(74,_)] rfl rfl rfl rfl hNo (aS rfl) ⟨aO 3 (aA rfl rfl rfl),aO 4 (aA rfl rfl rfl),trivial⟩ (fun ev w he hw=>bG (j:=s) underlying42 sizeOf44 rfl rfl (rfl) (hs) rfl) (aG rfl)) ?_))))))))))
   refine pG 8 rfl (E3 (py:=isV _) (m:=6) 5 (0+s * 6) [(76,_)] rfl rfl rfl rfl (by kernel_rfl) rfl rfl (fun j hj=>by rcases hj with h | rfl<;>first | (cases h<;>rfl) | rfl) ⟨aO 6 (aA rfl rfl rfl),trivial⟩ rfl rfl sizeOf44 (fun v w h=>by subst h;exact ⟨_,rfl,rfl,rfl⟩) (wC_le hg0)) ?_
   refine nH ?_
   intro Bf10 y10 W10 Ks10 hsz10 hKs10 hS' hcov10
   clear hS;have hS:=hS'.castO (O':=(_::_::_::_::_::_::Ot)) rfl;clear hS'
   refine uL (L':=[AwS _ _ (isV _),AwS _ _ (isV _),AwS _ _ (isV _),AwS _ _ (isV _),AwS _ _ (isV _),(fun v0_ w0_=>v0_=_∧AwS _ _ (isV _) v0_ w0_),AwS _ _ (isV _),isV _]) rfl (bM (bM (bM (bM (bM ?_)))))
   refine dH ?_;rintro _ ⟨rfl,hA10⟩;have hA10:=hA10.here;cases hA10
   refine bM (Hr (cQ (aN (XF.thenN (aM (aQ (aC rfl rfl (aN (XF.thenN (bL (XF.res (cE results94 rfl) ?_)))))))))))
   have hin9:inC S (xs.set s (cB S x0 x))=inC S xs:=by rw [← M6,oI.2 hcz,Nat.zero_add,Nat.mul_one];exact P4 (by rw [List.getElem?_map,hx0];show some (Value.bool (nzX S x0))=_;rw [oI.2 hnz0])
   have hS9:=hS.tail.tail.castO (O':=_::_::_::(WB,wC (fs.set s f9),44)::Ot) (by rw [← C6 (g:=f9) hg0];rfl)
   refine ⟨v,l,fs.set s f9,Kw,?_,?_,?_,?_,by rw [hin9];exact hS9.keep (Kw++K) (fun q hq=>by
    rw [hKw] at hq
    simp only [List.cons_append,List.nil_append,List.mem_cons] at hq
    rcases hq with rfl | rfl | hq
    ·simp
    ·simp
    ·simp [hq])⟩
   ·rw [rW.2 hne];rfl
   ·exact hnw
   ·exact hV.put hs hx0 (fun q hq=>List.mem_append_right _ hq) HX9 hcok hcz (.inl ⟨hnz0,rfl⟩)
   ·exact .inr (.inl rfl)
theorem Tu (w:World) (b o:Nat):(Instr.fieldAt 109 (.pointer (some ⟨b,o,none⟩)) 2).run prog w = .ok (.pointer (some ⟨b,o+16,none⟩)) w:=by
 simp [Instr.fieldAt,run_underlying underlying109,Instr.sureAddr,go_sem,Addr.add_lit]
theorem C7 (S:PS) (a:AV) (f0:WF) (bk:Bool) (bm VA VX RB:Nat) (f g:WF) (x y:PX) (tf tg tt:Int) (w:World) (hrb:w.heap[RB]?=some (.cells (rdC f0 a bk bm VA VX).toArray 109 (0,0))) (hsi:SIs w S a.s.f) (hok:S.ok) (ht:Tabs w) (hx:XIs w S f x) (hy:XIs w S g y) :
  Calls prog 66 #[.pointer (some ⟨RB,0,none⟩),f.val,.agg #[.int .i64 tf,.int .i64 tg,.int .i64 tt,.bool g.z,.int .i64 g.c,.int .u64 (g.g:Int),.slice g.ra g.rl g.rc,.slice g.ca g.cl g.cc,.slice g.pa g.pl g.pc]] w (jE S (mX S bk x y) w):=by
 refine cD (args:=[.pointer (some ⟨RB,0,none⟩),f.val,.agg #[.int .i64 tf,.int .i64 tg,.int .i64 tt,.bool g.z,.int .i64 g.c,.int .u64 (g.g:Int),.slice g.ra g.rl g.rc,.slice g.ca g.cl g.cc,.slice g.pa g.pl g.pc]]) func66 rfl ntmps66 rfl ?_
 have hS:=St.start w
 refine aM (aQ (bY (cs:=[_,_,_,_,_,_]) hS rfl rfl rfl fun B1 W1 hS=>bY (cs:=[_,_,_,_,_,_,_,_,_]) hS rfl rfl rfl fun B2 W2 hS=>bE (cs:=[_,_,_,_,_,_]) hS zeroValue44 rfl rfl fun B3 W3 hS=>aN (XF.thenN (aM (aM ?_)))))
 have hring:=aF.own (j:=0) (m:=9) (vs:=[.int .i64 a.s.f.tag,.int .i64 a.s.f.dim,.slice a.s.f.a a.s.f.len a.s.f.cap,.bool f0.z,.int .i64 f0.c,.int .u64 (f0.g:Int),.slice f0.ra f0.rl f0.rc,.slice f0.ca f0.cl f0.cc,.slice f0.pa f0.pl f0.pc]) hrb rfl
 have hbk0:=aH (j:=16) hrb rfl
 have hsz:=hS.below.size
 refine aQ (aE rfl rfl (cM rfl rfl (aK Tu rfl rfl rfl (aR isAgg4 rfl (hS.old hbk0) rfl (aN (XF.thenN (bB rfl (fun hc=>?_) (fun hc=>?_))))))))
 ·have hc10:=hc;clear hc
  refine aM ?_
  have hxw:=hx.below hS.below
  have hyw:=hy.below hS.below
  have k9:=aF.agree hS.agree (Nat.zero_le _) hring
  refine xV cF 9 hS rfl rfl (by kernel_rfl) (by kernel_rfl) (by kernel_rfl) (fun d hd=>by cases hd) (cL 1 rfl 0 rfl rfl (fun w hw=>bA rfl) rfl (bC 2 rfl 11 0 rfl rfl rfl (fun w hw=>cT rfl) rfl (bC 3 rfl 12 1 rfl rfl rfl (fun w hw=>aV mS rfl (Nat.add_zero _)) rfl (bC 4 rfl 13 2 rfl rfl rfl (fun w hw=>bD (vs:=[_,_,_,_,_,_,_,_,_]) isAgg76 sizeOf76 rfl (aF.agree (aP hw 0) (Nat.zero_le _) (k9))) rfl (cL 5 rfl 5 rfl rfl (fun w hw=>aV (o':=3) nK rfl rfl) rfl (aL 6 rfl (isX S y) (oH) (rgP (li:=[(15,_)]) rfl (aS rfl) ⟨aO 4 (aA rfl rfl rfl),trivial⟩ (fun w hw=>bD (vs:=[_,_,_,_,_,_]) isAgg44 sizeOf44 rfl (aF.agree (aP hw 0) (Nat.zero_le _) (aF.own (j:=3) (m:=6) (hS.at_ 1 rfl) rfl))) (fun w hw=>⟨g,rfl,hyw.below hw⟩) (aG rfl)) (aL 7 rfl (isX S x) (oH) (rgP (li:=[(4,_)]) rfl (aS rfl) ⟨cG rfl,trivial⟩ (fun w hw=>bD (vs:=[_,_,_,_,_,_]) isAgg44 sizeOf44 rfl (aF.agree (aP hw 0) (Nat.zero_le _) (aF.own (j:=0) (m:=6) (hS.at_ 2 rfl) rfl))) (fun w hw=>⟨f,rfl,hxw.below hw⟩) (aG rfl)) (aL 8 rfl (mO S [y,x]) (qT) (Hp rfl (aS rfl) ⟨cH (aO 5 (aA rfl rfl rfl)),cH (aO 6 (aA rfl rfl rfl)),trivial⟩ (aG rfl)) (aL 9 rfl (dL W3.heap.size S (kL S y x)) (dS) (dB [isV (iA a.s.f f0),mO S [y,x]] rfl L0 (aS rfl) ⟨cH (aO 3 (aA rfl rfl rfl)),cH (aO 7 (aA rfl rfl rfl)),trivial⟩ (fun vs w' hb hh=>Tg hh (hsi.below (hS.below.trans (hb.mono hS.below.size))) hok (ht.below (hS.below.trans (hb.mono hS.below.size))) hb.size) (aG rfl)) (dW ?_))))))))))
  intro W4 hbR hS'
  clear hS;have hS:=hS';clear hS'
  refine aJ (aJ (aJ (aJ (aJ ?_))))
  refine dH ?_;rintro _ _
  refine dH ?_;rintro _ _
  refine dH ?_;rintro _ _
  refine dH ?_;rintro _ ⟨f2,rfl,hn2⟩
  refine cQ (aU (i:=0) (vs:=[_,_,_,_,_,_]) (cs':=[_,_,_,_,_,_]) (O':=[_,_,_]) hS sizeOf44 rfl rfl rfl rfl rfl rfl rfl fun W5 hS=>aN (XF.thenN (bL (XF.thenR (XF.res (eM (vs:=[_,_,_,_,_,_]) results66 isAgg44 sizeOf44 rfl (aF.own (j:=0) (m:=6) (hS.at_ 0 rfl) rfl)) ?_)))))
  have e9:bk=true:=hc10
  subst e9
  exact ⟨f2,rfl,(hn2.agree (hS.since 0 rfl)).mono (by simpa using hsz),hS.below⟩
 ·have hc10:=hc;clear hc
  refine bI (XF.thenN (aM ?_))
  have hxw:=hx.below hS.below
  have hyw:=hy.below hS.below
  have k9:=aF.agree hS.agree (Nat.zero_le _) hring
  refine xV cF 9 hS rfl rfl (by kernel_rfl) (by kernel_rfl) (by kernel_rfl) (fun d hd=>by cases hd) (cL 1 rfl 0 rfl rfl (fun w hw=>bA rfl) rfl (bC 2 rfl 20 0 rfl rfl rfl (fun w hw=>cT rfl) rfl (bC 3 rfl 21 1 rfl rfl rfl (fun w hw=>aV mS rfl (Nat.add_zero _)) rfl (bC 4 rfl 22 2 rfl rfl rfl (fun w hw=>bD (vs:=[_,_,_,_,_,_,_,_,_]) isAgg76 sizeOf76 rfl (aF.agree (aP hw 0) (Nat.zero_le _) (k9))) rfl (aL 5 rfl (isX S x) (oH) (rgP (li:=[(4,_)]) rfl (aS rfl) ⟨cG rfl,trivial⟩ (fun w hw=>bD (vs:=[_,_,_,_,_,_]) isAgg44 sizeOf44 rfl (aF.agree (aP hw 0) (Nat.zero_le _) (aF.own (j:=0) (m:=6) (hS.at_ 2 rfl) rfl))) (fun w hw=>⟨f,rfl,hxw.below hw⟩) (aG rfl)) (cL 6 rfl 5 rfl rfl (fun w hw=>aV (o':=3) nK rfl rfl) rfl (aL 7 rfl (isX S y) (oH) (rgP (li:=[(25,_)]) rfl (aS rfl) ⟨aO 5 (aA rfl rfl rfl),trivial⟩ (fun w hw=>bD (vs:=[_,_,_,_,_,_]) isAgg44 sizeOf44 rfl (aF.agree (aP hw 0) (Nat.zero_le _) (aF.own (j:=3) (m:=6) (hS.at_ 1 rfl) rfl))) (fun w hw=>⟨g,rfl,hyw.below hw⟩) (aG rfl)) (aL 8 rfl (mO S [x,y]) (qT) (Hp rfl (aS rfl) ⟨cH (aO 4 (aA rfl rfl rfl)),cH (aO 6 (aA rfl rfl rfl)),trivial⟩ (aG rfl)) (aL 9 rfl (dL W3.heap.size S (kL S x y)) (dS) (dB [isV (iA a.s.f f0),mO S [x,y]] rfl L0 (aS rfl) ⟨cH (aO 3 (aA rfl rfl rfl)),cH (aO 7 (aA rfl rfl rfl)),trivial⟩ (fun vs w' hb hh=>Tg hh (hsi.below (hS.below.trans (hb.mono hS.below.size))) hok (ht.below (hS.below.trans (hb.mono hS.below.size))) hb.size) (aG rfl)) (dW ?_))))))))))
  intro W6 hbR hS'
  clear hS;have hS:=hS';clear hS'
  refine aJ (aJ (aJ (aJ ?_)))
  refine dH ?_;rintro _ _
  refine aJ ?_
  refine dH ?_;rintro _ _
  refine dH ?_;rintro _ _
  refine dH ?_;rintro _ ⟨f2,rfl,hn2⟩
  refine cQ (aU (i:=0) (vs:=[_,_,_,_,_,_]) (cs':=[_,_,_,_,_,_]) (O':=[_,_,_]) hS sizeOf44 rfl rfl rfl rfl rfl rfl rfl fun W7 hS=>aN (XF.thenN (bL (XF.res (eM (vs:=[_,_,_,_,_,_]) results66 isAgg44 sizeOf44 rfl (aF.own (j:=0) (m:=6) (hS.at_ 0 rfl) rfl)) ?_))))
  have e9:bk=false:=hc10
  subst e9
  exact ⟨f2,rfl,(hn2.agree (hS.since 0 rfl)).mono (by simpa using hsz),hS.below⟩
theorem slNil {w:World} {base n size:Nat} {e:TypeId} {a:Option Addr} {c:Nat} {xs:List Value} (h:w.ownsRow base e size (.slice a n c) n xs):(a=none∧n=0∧c=0)∨∃ b,a=some ⟨b,0,none⟩:=by
 rcases h.2 with ⟨e1,e2⟩ | ⟨g,cap,cur,e1,_⟩
 ·cases e1;exact .inl ⟨rfl,rfl,rfl⟩
 ·cases e1;exact .inr ⟨_,rfl⟩
theorem jM {w:World} {base n:Nat} {e:TypeId} {a:Option Addr} {c i:Nat} {xs:List Value} {x:Value} (h:w.ownsRow base e 1 (.slice a n c) n xs) (hi:xs[i]?=some x):∃ b,a=some ⟨b,0,none⟩∧w.cell? ⟨b,0+i * 1,none⟩=some x:=by
 rcases lA h with ⟨h1,h0⟩ | ⟨b,h1,_,h3⟩
 ·have h4:=h.1
  have:=(List.getElem?_eq_some_iff.1 hi).1
  omega
 ·exact ⟨b,h1,by rw [Nat.zero_add,Nat.mul_one];exact h3 i x hi⟩
theorem H8 (S:PS) (VB IB WB n:Nat) (v:Value) (fs:List WF) (xs:List PX) (l:List Nat) (Ot:Own) (Gt:cU) (K:List (Nat×World)) (w0:World) (w:World) (hS0:St w0 ((VB,gT v n IB WB,139)::(IB,inC S xs,4)::(WB,wC fs,44)::Ot) (⟨v,l.length,atC l,3,1⟩::Gt) K w) (hV:VecOk S w0 K n fs xs l) (hn:n≤4096) :
  Calls prog 95 #[.pointer (some ⟨VB,0,none⟩)] w (fun e w'=>∃ (u:Value),e = .returned (.tuple #[])∧VecOk S w0 K n fs (List.replicate n (bW S)) []∧St w0 ((VB,gT u n IB WB,139)::(IB,inC S (List.replicate n (bW S)),4)::(WB,wC fs,44)::Ot) (⟨u,([]:List Nat).length,atC [],3,1⟩::Gt) K w'):=by
 refine cD (args:=[.pointer (some ⟨VB,0,none⟩)]) func95 rfl ntmps95 rfl ?_
 have hS:=hS0
 have hll:=hV.len
 obtain ⟨va,vc,rfl⟩:=hS.headSl
 refine aM (aM (aQ (aE rfl rfl (cM rfl rfl (aK (o':=0) kG rfl rfl rfl (aR isAgg26 rfl (aH (hS.at_ 0 rfl) rfl) rfl (cC underlying26 rfl rfl (aE rfl rfl (aN (XF.thenN (bK ?_)))))))))))
 refine dQ (fun m lf W=>∃ (i:Nat) (bs:List Bool),i≤l.length∧m=l.length - i∧lf=[(0,.pointer (some ⟨VB,0,none⟩)),(7,.slice va l.length vc),(8,.int .i64 (l.length:Int)),(9,.int .i64 (i:Int))]∧bs.length=n∧(∀ (j:Nat) (b:Bool),bs[j]?=some b→b=(nzX S (xs.getD j (bW S)) && !(l.take i).contains j))∧St w0 ((VB,gT (.slice va l.length vc) n IB WB,139)::(IB,bs.map Value.bool,4)::(WB,wC fs,44)::Ot) (⟨.slice va l.length vc,l.length,atC l,3,1⟩::Gt) K W) (l.length - 0) ([(0,_),(7,_),(8,_),(9,_)]) ⟨rfl,rfl,rfl,rfl,trivial⟩ (⟨0,xs.map (nzX S),Nat.zero_le _,rfl,rfl,by rw [List.length_map];exact hV.xl,(fun j b hb=>by
  rw [List.getElem?_map] at hb
  cases hx:xs[j]? with
  | none=>rw [hx] at hb;cases hb
  | some x=>rw [hx] at hb;cases hb;simp [List.getD_eq_getElem?_getD,hx]),hS.castO (by rw [List.map_map];rfl)⟩) ?_
 clear hS
 rintro m lf W ⟨i,bs,hi,rfl,rfl,hbl,hbs,hS⟩
 refine aM (aQ (cK rfl rfl rfl (aN (XF.thenN (aM (bB rfl (fun hc=>?_) (fun hc=>?_)))))))
 ·have hc10:=of_decide_eq_true hc;clear hc
  have hk:i < l.length:=by omega
  obtain ⟨y,hy⟩:∃ y,l[i]?=some y:=⟨l[i],List.getElem?_eq_getElem hk⟩
  obtain ⟨xy,hxy,hxz⟩:=(hV.ats y).1 (List.mem_of_getElem? hy)
  have hyn:y < n:=by have:=(List.getElem?_eq_some_iff.1 hxy).1;rw [hV.xl] at this;exact this
  obtain ⟨b9,rfl,k9⟩:=jM (hS.row 0 rfl) (show (atC l)[i]?=some (.int .i64 (y:Int)) by rw [List.getElem?_map,hy];rfl)
  refine bI (XF.thenN (aM (bK (aM (aQ (bZ  underlying26 sizeOf3 rfl rfl rfl (by omega) rfl rfl (aR isAgg3 rfl (k9) rfl (aC rfl rfl (aN (XF.thenN (aQ (aE rfl rfl (cM rfl rfl (aK (o':=1) uT rfl rfl rfl (aR isAgg58 rfl (aH (hS.at_ 0 rfl) rfl) rfl (aE rfl rfl (bZ (j:=y) underlying58 sizeOf4 rfl rfl (rfl) (hyn) rfl rfl ?_)))))))))))))))))
  refine dN (i:=1) (cs':=(bs.map Value.bool).set (0+y * 1) (.bool false)) (O':=_::_::_::Ot) hS sizeOf4 rfl rfl rfl rfl (by rw [Nat.blt_eq,List.length_map,hbl];omega) rfl rfl fun W4 hS=>?_
  refine aN (XF.blkN (XF.thenN (aQ (cP rfl rfl (IntWalk.i64_in _ (by omega)) rfl (aE rfl rfl (aN ?_))))))
  exact XF.round (l.length - (i+1)) [(0,_),(7,_),(8,_),(9,_)] (by omega) ⟨rfl,rfl,rfl,rfl,trivial⟩ ⟨i+1,bs.set y false,by omega,rfl,rfl,by rw [List.length_set];exact hbl,(fun j b hb=>by
   rw [List.take_add_one,hy]
   rcases Nat.decEq j y with e | rfl
   ·rw [List.getElem?_set_ne (Ne.symm e)] at hb
    rw [hbs j b hb]
    simp [e]
   ·rw [List.getElem?_set_self (by rw [hbl];exact hyn)] at hb
    cases hb
    simp),hS.castO (by rw [Nat.zero_add,Nat.mul_one,List.map_set])⟩
 ·have hc10:=of_decide_eq_false hc;clear hc
  have hbz:bs=List.replicate n false:=by
   apply List.ext_getElem?
   intro j
   rw [List.take_of_length_le (by omega)] at hbs
   rcases Nat.lt_or_ge j n with hj | hj
   ·have h1:j < bs.length:=by omega
    have h2:=hbs j bs[j] (List.getElem?_eq_getElem h1)
    rw [List.getElem?_eq_getElem h1,h2,List.getElem?_replicate,if_pos hj]
    congr 1
    obtain ⟨f9,x9,_,hx9,_⟩:=hV.at_ hj
    rw [List.getD_eq_getElem?_getD,hx9]
    by_cases hz:x9=bW S
    ·simp [kU.2 hz]
    ·have:j∈l:=(hV.ats j).2 ⟨x9,hx9,hz⟩
     simp [this]
   ·rw [List.getElem?_eq_none (by omega),List.getElem?_replicate,if_neg (by omega)]
  subst hbz
  have hinz:inC S (List.replicate n (bW S))=(List.replicate n false).map Value.bool:=by simp [inC,kU.2 rfl]
  refine dP (XF.thenX (XF.thenX (XF.blkX (XF.thenN ?_))))
  rcases slNil (hS.row 0 rfl) with ⟨h1,h2,h3⟩ | ⟨b5,h1⟩
  ·obtain rfl:=h1
   obtain rfl:l=[]:=List.eq_nil_of_length_eq_zero h2
   obtain rfl:=h3
   refine aQ (aE rfl rfl (aE rfl rfl (cM rfl rfl (aK (o':=0) kG rfl rfl rfl (aR isAgg26 rfl (aH (hS.at_ 0 rfl) rfl) rfl (Pw underlying26 sizeOf3 rfl rfl rfl rfl (cM rfl rfl (aK (o':=0) kG rfl rfl rfl (dN (i:=0) (cs':=[_,_,_]) (O':=(_::_::_::Ot)) hS sizeOf26 rfl rfl (by first | rfl | exact (hS.oneV 0 _ rfl :) | exact (hS.oneV 1 _ rfl :) | exact (hS.oneV 2 _ rfl :) | exact (hS.oneV 3 _ rfl :)) rfl rfl rfl rfl fun W1 hS=>aN (XF.resN (Nq results95) ?_))))))))))
   have hS9:=(hS.castO (O':=_::(IB,inC S (List.replicate n (bW S)),4)::_::Ot) (by rw [hinz])).castG (G':=⟨_,([]:List Nat).length,atC [],3,1⟩::Gt) rfl
   exact ⟨_,rfl,VecOk.emptied hV.fl,hS9⟩
  ·obtain rfl:=h1
   refine aQ (aE rfl rfl (aE rfl rfl (cM rfl rfl (aK (o':=0) kG rfl rfl rfl (aR isAgg26 rfl (aH (hS.at_ 0 rfl) rfl) rfl (op_cut (k:=0) hS 0 underlying26 sizeOf3 rfl rfl rfl (rfl) (Nat.zero_le _) rfl ?_))))))
   intro hS';clear hS;have hS:=hS';clear hS'
   refine cM rfl rfl (aK (o':=0) kG rfl rfl rfl (dN (i:=0) (cs':=[_,_,_]) (O':=(_::_::_::Ot)) hS sizeOf26 rfl rfl (by first | rfl | exact (hS.oneV 0 _ rfl :) | exact (hS.oneV 1 _ rfl :) | exact (hS.oneV 2 _ rfl :) | exact (hS.oneV 3 _ rfl :)) rfl rfl rfl rfl fun W2 hS=>aN (XF.resN (Nq results95) ?_)))
   have hS9:=(hS.castO (O':=_::(IB,inC S (List.replicate n (bW S)),4)::_::Ot) (by rw [hinz])).castG (G':=⟨_,([]:List Nat).length,atC [],3,1⟩::Gt) rfl
   exact ⟨_,rfl,VecOk.emptied hV.fl,hS9⟩
section
variable {P:Program} {ops:Array Oper} {Q:Exit→Act→World→Prop} {n:Nat} {l:Fr} {W:World} {L:List Asr} {i:Nat}
variable {d:Nat} {op:Op} {ty:TypeId} {pos:String} {aft_:Array Edge}
theorem E5 (ds:List (Nat×Nat×Asr)) (hi:ops[i]?=some ⟨some d,op,ty,pos,aft_,none⟩) {q:Asr} (hds:Hs ops L i ds)
  (hr:∀ (ev:Operand→Value) w,Below W.heap.size W w→zR ds ev w→∃ v w',(execOp ev ⟨some d,op,ty,pos,#[],none⟩).run P w = .ok (.value v) w'∧q v w'∧Below w.heap.size w w') (hI:atI L i=q):RG P n ops Q l W L i :=
 fun a ha=>nS hi (aS rfl) fun b w hF hG hD=>by
  have key:∀ (ds:List (Nat×Nat×Asr)),Hs ops L i ds→zR ds b.eval w:=by
   intro ds
   induction ds with
   | nil=>intro _;trivial
   | cons x xs ih =>
    intro h
    refine ⟨?_,ih h.2⟩
    have h1:=hD x.1 x.2.1 h.1.1
    rw [h.1.2] at h1
    exact h1
  obtain ⟨v,w',h2,h3,h4⟩:=hr b.eval w hG (key ds hds)
  exact ⟨v,w',by rw [eP b.eval _ _ _ _ pos _ #[] _ none];exact h2,by rw [hI];exact h3,h4⟩
end
def wB (lo m:Nat) (e:TypeId) (cs:List Value):Asr:=fun v w=>∃ B,v = .slice (some ⟨B,0,none⟩) m m∧lo≤B∧w.heap[B]?=some (.cells cs.toArray e (0,0))
theorem wR {lo m:Nat} {e:TypeId} {cs:List Value}:iD (wB lo m e cs):=fun v w w' ⟨B,h1,h2,h3⟩ hb=>⟨B,h1,h2,(hb.block B (bV h3)).trans h3⟩
theorem Ia {P:Program} {W:World} {T e:TypeId} {inf:TypeInfo} {z:Value} {m d:Nat} {cs:List Value} {x y:Operand} {ty:TypeId} {pos:String} {ev:Operand→Value} (hU:P.underlying T=some (.slice e)) (hinf:P.info? e=some inf) (hz:inf.zero=some z) (hx:ev x = .int .i64 (m:Int)) (hy:ev y = .int .i64 (m:Int))
  (hcs:madeCells z.cells (m * inf.size)=cs.toArray) (hb:(inf.bytes:Int) * m≤281474976710656) (h63:(m:Int)≤9223372036854775807) {lo:Nat} (hlo:lo≤W.heap.size):∃ v w',(execOp ev ⟨some d,.makeSlice T x y,ty,pos,#[],none⟩).run P W = .ok (.value v) w'∧wB lo m e cs v w'∧Below W.heap.size W w':=by
 have hr:=run_make (P:=P) W T e inf z hU hinf hz .i64 .i64 m m (by omega) (by omega) hb h63
 rw [Int.toNat_natCast,hcs] at hr
 refine ⟨.slice (some ⟨W.heap.size,0,none⟩) m m,W.alloc (.cells cs.toArray e),?_,⟨W.heap.size,rfl,hlo,heap_alloc_new W _⟩,(Below.refl _ _).alloc (Nat.le_refl _) _⟩
 unfold execOp;simp only [];rw [hx,hy]
 simp [hr,Result.andThen]
theorem St.adoptL {w0 W W':World} {O N:Own} {G:cU} {K:List (Nat×World)} (h:St w0 O G K W) (h':St w0 O G K W') (hN:∀ p∈N,W.heap.size≤p.1∧W'.heap[p.1]?=some (.cells p.2.1.toArray p.2.2 (0,0))) (hd:N.Pairwise (fun p q=>p.1≠q.1)):St w0 (N++O) G K W' where
 below:=h'.below
 own:=fun p hp=>by
  rcases List.mem_append.1 hp with hp | hp
  ·exact ⟨Nat.le_trans h.below.size (hN p hp).1,(hN p hp).2⟩
  ·exact h'.own p hp
 dist:=by
  rw [List.pairwise_append]
  refine ⟨hd,h'.dist,fun p hp q hq e=>?_⟩
  have h1:=(hN p hp).1
  have h2:=bV (h.own q hq).2
  omega
 kept:=fun q hq=>⟨(h'.kept q hq).1,fun p hp=>by
  rcases List.mem_append.1 hp with hp | hp
  ·exact .inr (Nat.le_trans (h.kept q hq).1.1 (hN p hp).1)
  ·exact (h'.kept q hq).2 p hp⟩
 rows:=fun g hg=>⟨(h'.rows g hg).1,fun b hb=>⟨fun p hp=>by
  rcases List.mem_append.1 hp with hp | hp
  ·have h1:=(hN p hp).1
   have h2:=((h.rows g hg).1.lt b hb).2
   omega
  ·exact ((h'.rows g hg).2 b hb).1 p hp,((h'.rows g hg).2 b hb).2⟩⟩
 gdist:=h'.gdist
theorem Ib (v1a:Option Addr) (v1l:Nat) (v1c:Nat) (v2a:Option Addr) (v2l:Nat) (v2c:Nat):prog.built 139 [(1,.slice v1a v1l v1c),(2,.slice v2a v2l v2c)]=some #[.slice none 0 0,.slice v1a v1l v1c,.slice v2a v2l v2c]:=by kernel_rfl
theorem Ky (n:Nat):madeCells (Value.bool false).cells (n * 1)=(List.replicate n (Value.bool false)).toArray:=by
 apply Array.ext'
 rw [Nat.mul_one]
 exact toList_madeCells_one _ n
theorem Bc (n:Nat):(madeCells (Value.agg #[.bool false,.int .i64 0,.int .u64 0,.slice none 0 0,.slice none 0 0,.slice none 0 0]).cells (n * 6)).toList=wC (List.replicate n (⟨false,0,0,none,0,0,[],none,0,0,[],none,0,0⟩:WF)):=by
 induction n with
 | zero=>simp [madeCells]
 | succ n ih =>
  rw [show (n+1) * 6=n * 6+6 by omega,List.replicate_succ',wC,List.flatMap_append]
  show _=wC (List.replicate n (⟨false,0,0,none,0,0,[],none,0,0,[],none,0,0⟩:WF))++_
  rw [← ih]
  unfold madeCells
  simp only [Array.toList_map,Array.toList_range,List.range_succ,List.map_append,List.map_cons,List.map_nil,List.append_assoc]
  have h:∀ k,k < 6→(n * 6+k) % (Value.agg #[.bool false,.int .i64 0,.int .u64 0,.slice none 0 0,.slice none 0 0,.slice none 0 0]).cells.size=k:=fun k hk=>by
   show (n * 6+k) % 6=k
   omega
  rw [show (n * 6) % (Value.agg #[.bool false,.int .i64 0,.int .u64 0,.slice none 0 0,.slice none 0 0,.slice none 0 0]).cells.size=0 from h 0 (by omega),h 1 (by omega),h 2 (by omega),h 3 (by omega),h 4 (by omega),h 5 (by omega)]
  rfl
theorem E6 (n:Nat):madeCells (Value.agg #[.bool false,.int .i64 0,.int .u64 0,.slice none 0 0,.slice none 0 0,.slice none 0 0]).cells (n * 6)=(wC (List.replicate n (⟨false,0,0,none,0,0,[],none,0,0,[],none,0,0⟩:WF))).toArray:=by
 apply Array.ext'
 rw [Bc]
def Kz (lo n:Nat):Asr:=fun v w=>∃ IB WB,v = .agg #[.slice none 0 0,.slice (some ⟨IB,0,none⟩) n n,.slice (some ⟨WB,0,none⟩) n n]∧lo≤IB∧lo≤WB∧w.heap[IB]?=some (.cells (List.replicate n (Value.bool false)).toArray 4 (0,0))∧w.heap[WB]?=some (.cells (wC (List.replicate n (⟨false,0,0,none,0,0,[],none,0,0,[],none,0,0⟩:WF))).toArray 44 (0,0))
theorem Ic {lo n:Nat}:iD (Kz lo n):=fun v w w' ⟨IB,WB,h1,h2,h3,h4,h5⟩ hb=>⟨IB,WB,h1,h2,h3,(hb.block _ (bV h4)).trans h4,(hb.block _ (bV h5)).trans h5⟩
def E7 (lo n:Nat):Asr:=fun v w=>∃ VB IB WB,v = .pointer (some ⟨VB,0,none⟩)∧lo≤VB∧lo≤IB∧lo≤WB∧w.heap[VB]?=some (.cells (gT (.slice none 0 0) n IB WB).toArray 139 (0,0))∧w.heap[IB]?=some (.cells (List.replicate n (Value.bool false)).toArray 4 (0,0))∧w.heap[WB]?=some (.cells (wC (List.replicate n (⟨false,0,0,none,0,0,[],none,0,0,[],none,0,0⟩:WF))).toArray 44 (0,0))
theorem wS {lo n:Nat}:iD (E7 lo n):=fun v w w' ⟨VB,IB,WB,h1,h2,h3,h4,h5,h6,h7⟩ hb=>⟨VB,IB,WB,h1,h2,h3,h4,(hb.block _ (bV h5)).trans h5,(hb.block _ (bV h6)).trans h6,(hb.block _ (bV h7)).trans h7⟩
theorem vec_own {w0 W W':World} {O:Own} {G:cU} {K:List (Nat×World)} {n VB IB WB:Nat} (h:St w0 O G K W) (h':St w0 O G K W') (l1:W.heap.size≤VB) (l2:W.heap.size≤IB) (l3:W.heap.size≤WB) (h1:W'.heap[VB]?=some (.cells (gT (.slice none 0 0) n IB WB).toArray 139 (0,0))) (h2:W'.heap[IB]?=some (.cells (List.replicate n (Value.bool false)).toArray 4 (0,0))) (h3:W'.heap[WB]?=some (.cells (wC (List.replicate n (⟨false,0,0,none,0,0,[],none,0,0,[],none,0,0⟩:WF))).toArray 44 (0,0))) :
  St w0 ((VB,gT (.slice none 0 0) n IB WB,139)::(IB,List.replicate n (Value.bool false),4)::(WB,wC (List.replicate n (⟨false,0,0,none,0,0,[],none,0,0,[],none,0,0⟩:WF)),44)::O) G K W':=by
 have n1:VB≠IB:=fun e=>by rw [e,h2] at h1;injection h1 with h1;injection h1 with _ h1 _;exact absurd h1 (by decide)
 have n2:VB≠WB:=fun e=>by rw [e,h3] at h1;injection h1 with h1;injection h1 with _ h1 _;exact absurd h1 (by decide)
 have n3:IB≠WB:=fun e=>by rw [e,h3] at h2;injection h2 with h2;injection h2 with _ h2 _;exact absurd h2 (by decide)
 exact h.adoptL (N:=[(VB,_,139),(IB,_,4),(WB,_,44)]) h' (fun p hp=>by
  simp only [List.mem_cons,List.not_mem_nil,or_false] at hp
  rcases hp with rfl | rfl | rfl
  ·exact ⟨l1,h1⟩
  ·exact ⟨l2,h2⟩
  ·exact ⟨l3,h3⟩) (by simp [n1,n2,n3])
theorem P5 (n:Nat) (w:World) (hn:n≤4096) :
  Calls prog 93 #[.int .i64 (n:Int)] w (fun e w'=>∃ (VB IB WB:Nat),e = .returned (.pointer (some ⟨VB,0,none⟩))∧w.heap.size≤VB∧w.heap.size≤IB∧w.heap.size≤WB∧w'.heap[VB]?=some (.cells (gT (.slice none 0 0) n IB WB).toArray 139 (0,0))∧w'.heap[IB]?=some (.cells (List.replicate n (Value.bool false)).toArray 4 (0,0))∧w'.heap[WB]?=some (.cells (wC (List.replicate n (⟨false,0,0,none,0,0,[],none,0,0,[],none,0,0⟩:WF))).toArray 44 (0,0))∧Below w.heap.size w w'):=by
 refine cD (args:=[.int .i64 (n:Int)]) func93 rfl ntmps93 rfl ?_
 have hS:=St.start w
 refine aM (aQ (aC rfl rfl (aN (XF.thenN (aM (lQ (m:=7) cF hS (by kernel_rfl) (by kernel_rfl) rfl (cL 1 rfl 0 rfl rfl (fun w hw=>bA rfl) rfl ?_)))))))
 refine aL 2 rfl (wB w.heap.size n 4 (List.replicate n (Value.bool false))) (wR) (E5 [(0,3,isV (.int .i64 (n:Int)))] rfl ⟨⟨by kernel_rfl,aA rfl rfl rfl⟩,trivial⟩ (fun ev w9 hb9 hd9=>Ia (cs:=List.replicate n (Value.bool false)) underlying58 inf_4 rfl hd9.1 hd9.1 (Ky n) (by show (1:Int) * n≤_;omega) (by omega) hb9.size) (aG rfl)) ?_
 refine cL 3 rfl 0 rfl rfl (fun w hw=>bA rfl) rfl ?_
 refine aL 4 rfl (wB w.heap.size n 44 (wC (List.replicate n (⟨false,0,0,none,0,0,[],none,0,0,[],none,0,0⟩:WF)))) (wR) (E5 [(2,5,isV (.int .i64 (n:Int)))] rfl ⟨⟨by kernel_rfl,aA rfl rfl rfl⟩,trivial⟩ (fun ev w9 hb9 hd9=>Ia (cs:=wC (List.replicate n (⟨false,0,0,none,0,0,[],none,0,0,[],none,0,0⟩:WF))) underlying42 Jb rfl hd9.1 hd9.1 (E6 n) (by show (96:Int) * n≤_;omega) (by omega) hb9.size) (aG rfl)) ?_
 refine aL 5 rfl (Kz w.heap.size n) (Ic) (E5 [(1,4,wB w.heap.size n 4 (List.replicate n (Value.bool false))),(3,6,wB w.heap.size n 44 (wC (List.replicate n (⟨false,0,0,none,0,0,[],none,0,0,[],none,0,0⟩:WF))))] rfl ⟨⟨by kernel_rfl,aA rfl rfl rfl⟩,⟨by kernel_rfl,aA rfl rfl rfl⟩,trivial⟩ (fun ev w9 hb9 hd9=>by
  obtain ⟨⟨IB,e1,l1,h1⟩,⟨WB,e2,l2,h2⟩,_⟩:=hd9
  have hr9:=run_build w9 139 #[(1,.slice (some ⟨IB,0,none⟩) n n),(2,.slice (some ⟨WB,0,none⟩) n n)] _ (P:=prog) (Ib (some ⟨IB,0,none⟩) n n (some ⟨WB,0,none⟩) n n)
  exact ⟨_,w9,by unfold execOp;simp only [List.map_toArray,List.map_cons,List.map_nil,e1,e2];simp [hr9],⟨IB,WB,rfl,l1,l2,h1,h2⟩,Below.refl _ _⟩) (aG rfl)) ?_
 refine aL 6 rfl (E7 w.heap.size n) (wS) (E5 [(4,7,Kz w.heap.size n)] rfl ⟨⟨by kernel_rfl,aA rfl rfl rfl⟩,trivial⟩ (fun ev w9 hb9 hd9=>by
  obtain ⟨⟨IB,WB,e1,l1,l2,h1,h2⟩,_⟩:=hd9
  exact ⟨.pointer (some ⟨w9.heap.size,0,none⟩),w9.alloc (.cells (gT (.slice none 0 0) n IB WB).toArray 139),by unfold execOp;simp only [];rw [e1];simp [Instr.box,newVar,newRow];rfl,⟨w9.heap.size,IB,WB,rfl,hb9.size,l1,l2,heap_alloc_new w9 _,(Below.heap_alloc w9 _ _ (bV h1)).trans h1,(Below.heap_alloc w9 _ _ (bV h2)).trans h2⟩,(Below.refl _ _).alloc (Nat.le_refl _) _⟩) (aG rfl)) ?_
 refine aL 7 rfl (E7 w.heap.size n) (wS) (E5 [(5,8,E7 w.heap.size n)] rfl ⟨⟨by kernel_rfl,aA rfl rfl rfl⟩,trivial⟩ (fun ev w9 hb9 hd9=>⟨ev (.tmp 8),w9,by unfold execOp;rfl,hd9.1,Below.refl _ _⟩) (aG rfl)) ?_
 refine dW ?_
 intro W1 hbR hS'
 clear hS;have hS:=hS';clear hS'
 refine aJ ?_
 refine dH ?_;intro _ _
 refine aJ ?_
 refine dH ?_;intro _ _
 refine dH ?_;intro _ _
 refine dH ?_;intro _ _
 refine dH ?_;rintro _ ⟨VB,IB,WB,rfl,l1,l2,l3,h1,h2,h3⟩
 refine cQ (XF.thenN (bL (XF.res (cE results93 rfl) ?_)))
 exact ⟨VB,IB,WB,rfl,l1,l2,l3,h1,h2,h3,hS.below⟩
end Go.Proofs.YtmgnkpibpjgncaaGreatDoor
namespace Go.Proofs.YtmgnkpibpjgncaaGreatDoor
open Go.Proofs.Tryz
open Go Go.RowKit
open Go.WideMaps (KeyLaw)
open Go.ChangeMaps (setBlock)
section
variable {P:Program} {ops:Array Oper} {Q:Exit→Act→World→Prop} {t0:Array Value} {d0:List Deferred} {GL:Array Bool→World→Prop} {R:Nat→World→World→Prop} {I:Nat→Value→World→Prop}
abbrev C8 (ops:Array Oper) (t0:Array Value) (d0:List Deferred) (I:Nat→Value→World→Prop) (L:Array Bool) (a:Act) (w:World):Prop:=RInv ops t0 d0 (fun _=>True) I L a w
def pK (P:Program) (ops:Array Oper) (Q:Exit→Act→World→Prop) (t0:Array Value) (GL:Array Bool→World→Prop) (R:Nat→World→World→Prop) (I:Nat→Value→World→Prop) (i:Nat):Prop :=
 ∀ (L:Array Bool) (a:Act) (w:World),L.size=ops.size→L.getD i true=false→(∀ j d,aY ops i j d=true→L.getD j false=true)→(∀ t,freeT ops t=true→a.eval (.tmp t)=t0.getD t undef)→GL L w→(∀ j d,aY ops i j d=true→I j (a.eval (.tmp d)) w) →
  wpOp P ops Q i (fun a' w'=>(∃ v,a'=a.put ((ops[i]?).bind (·.dst)) v∧(∀ d,(ops[i]?).bind (·.dst)=some d→I i v w'))∧GL (L.setIfInBounds i true) w'∧R i w w') a w
theorem C8.next {L:Array Bool} {a:Act} {w w':World} {i:Nat} {v:Value} (h:C8 ops t0 d0 I L a w) (ht:dO ops t0.size=true) (hst:∀ i j v w w',i≠j→I i v w→R j w w'→I i v w') (hI:∀ d,(ops[i]?).bind (·.dst)=some d→I i v w') (hR:R i w w') :
  C8 ops t0 d0 I (L.setIfInBounds i true) (a.put ((ops[i]?).bind (·.dst)) v) w' where
 size:=by rw [lB];exact h.size
 defers:=by rw [iF];exact h.defers
 frame:=fun t hf=>by
  rw [eL ?_]
  ·exact h.frame t hf
  ·intro hd
   obtain ⟨o,ho,hd⟩:=Option.bind_eq_some_iff.1 hd
   have:=Array.all_eq_true'.1 hf o (Array.mem_of_getElem? ho)
   simp [hd] at this
 glob:=trivial
 done:=fun j d hd hj=>by
  by_cases hji:j=i
  ·subst hji
   rw [pV hd (by rw [h.size];exact (fK ht hd).1)]
   exact hI d hd
  ·rw [getD_set_ne false (Ne.symm hji)] at hj
   rw [eL (fun e=>hji ((fK ht e).2 j hd))]
   exact hst _ _ _ _ _ hji (h.done j d hd hj) hR
theorem Id {L:Array Bool} {i:Nat} (hi:i∈Region.ready .any ops L):∀ j d,aY ops i j d=true→L.getD j false=true:=fun j d hw=>by
 obtain ⟨_,o,ho,hall⟩:=mem_ready.1 hi
 simp only [aY,ho,Bool.and_eq_true,beq_iff_eq] at hw
 obtain ⟨e,he,h1⟩:=Array.any_eq_true'.1 hw.1
 simp only [Bool.and_eq_true,beq_iff_eq] at h1
 have:=hall e he h1.2
 rw [h1.1] at this
 exact this
theorem P6 (ht:dO ops t0.size=true) (hst:∀ i j v w w',i≠j→I i v w→R j w w'→I i v w') (hstep:∀ i,i < ops.size→pK P ops Q t0 GL R I i)
  (hfin:∀ (L:Array Bool) (a:Act) (w:World),a.tmps.size=t0.size→a.defers=d0→(∀ t,freeT ops t=true→a.tmps.getD t undef=t0.getD t undef)→(∀ i,i < ops.size→L.getD i true=true)→L.size=ops.size→GL L w→(∀ i d,i < ops.size→(ops[i]?).bind (·.dst)=some d→I i (a.tmps.getD d undef) w)→Q .normal a w) :
  ∀ (fuel:Nat) (L:Array Bool) (a:Act) (w:World),L.size=ops.size→L.toList.count false≤fuel→GL L w→C8 ops t0 d0 I L a w→wpAny P .any ops Q fuel L a w:=by
 have fin:∀ (L:Array Bool) (a:Act) (w:World),(∀ i,i < ops.size→L.getD i true=true)→L.size=ops.size→GL L w→C8 ops t0 d0 I L a w→Q .normal a w:=fun L a w hall hs hG h =>
  hfin L a w h.size h.defers h.frame hall hs hG fun i d hi hd=>h.done i d hd (by
   have:=hall i hi
   rw [Array.getD_eq_getD_getElem?] at this ⊢
   rw [Array.getElem?_eq_getElem (by omega)] at this ⊢
   simpa using this)
 intro fuel
 induction fuel with
 | zero =>
  intro L a w hs hc hG h
  have hall:∀ i,i < ops.size→L.getD i true=true:=fun i hi=>by
   have hn:false∉L.toList:=List.count_eq_zero.1 (by omega)
   cases hL:L.getD i true with
   | true=>rfl
   | false =>
    rw [Array.getD_eq_getD_getElem?,Array.getElem?_eq_getElem (by omega)] at hL
    exact absurd (by rw [← show L[i]=false by simpa using hL];exact Array.mem_toList_iff.2 (Array.getElem_mem _)) hn
  refine ⟨?_,fin L a w hall hs hG h⟩
  cases hr:Region.ready .any ops L with
  | nil=>rfl
  | cons i rest =>
   have hi:i∈Region.ready .any ops L:=by rw [hr];exact List.mem_cons_self
   obtain ⟨h1,o,ho,_⟩:=mem_ready.1 hi
   rw [hall i (Array.getElem?_eq_some_iff.1 ho).1] at h1
   cases h1
 | succ fuel ih =>
  intro L a w hs hc hG h
  refine ⟨fun hr=>fin L a w (fV ht hs hr) hs hG h,fun i hi=>?_⟩
  obtain ⟨h1,o,ho,_⟩:=mem_ready.1 hi
  have his:i < ops.size:=(Array.getElem?_eq_some_iff.1 ho).1
  refine wpOp_mono ?_ (hstep i his L a w hs h1 (Id hi) h.frameE hG (h.deps hi))
  rintro a' w' ⟨⟨v,rfl,hI⟩,hG',hR⟩
  refine ih _ _ _ (by simpa using hs) ?_ hG' (C8.next h ht hst hI hR)
  have:L.toList[i]?=some false:=by
   rw [Array.getD_eq_getD_getElem?,Array.getElem?_eq_getElem (by omega)] at h1
   rw [Array.getElem?_toList,Array.getElem?_eq_getElem (by omega)]
   simpa using h1
  have:=fA _ _ this
  rw [Array.toList_setIfInBounds]
  omega
theorem E8 {id:Nat} {a:Act} {w:World} (hm:P.follows .mixedOrders=true) (hG:GL (Array.replicate ops.size false) w.drew) (ht:dO ops a.tmps.size=true) (hst:∀ i j v w w',i≠j→I i v w→R j w w'→I i v w') (hstep:∀ i,i < ops.size→pK P ops Q a.tmps GL R I i)
  (hfin:∀ (L:Array Bool) (a':Act) (w:World),a'.tmps.size=a.tmps.size→a'.defers=a.defers→(∀ t,freeT ops t=true→a'.tmps.getD t undef=a.tmps.getD t undef)→(∀ i,i < ops.size→L.getD i true=true)→L.size=ops.size→GL L w→(∀ i d,i < ops.size→(ops[i]?).bind (·.dst)=some d→I i (a'.tmps.getD d undef) w)→Q .normal a' w) :
  (Code.region id ops true).wp P Q a w :=
 wp_region_any hm (P6 ht hst hstep hfin _ _ _ _ (by simp) (iK _) hG (pW trivial))
theorem pK.value {i:Nat} {o:Oper} (hi:ops[i]?=some o) (hgd:o.guard=none)
  (h:∀ (L:Array Bool) (a:Act) (w:World),L.size=ops.size→L.getD i true=false→(∀ j d,aY ops i j d=true→L.getD j false=true)→(∀ t,freeT ops t=true→a.eval (.tmp t)=t0.getD t undef)→GL L w→(∀ j d,aY ops i j d=true→I j (a.eval (.tmp d)) w) →
   ∃ v w',(execOp a.eval o).run P w = .ok (.value v) w'∧I i v w'∧GL (L.setIfInBounds i true) w'∧R i w w'):pK P ops Q t0 GL R I i:=fun L a w hs hL hW hF hG hD=>by
 obtain ⟨v,w',hr,hI,hG',hR⟩:=h L a w hs hL hW hF hG hD
 unfold wpOp
 simp only [hi,fC hgd,if_true]
 refine .inl ?_
 unfold Oper.wp
 rw [hr]
 exact ⟨⟨v,by simp,fun _ _=>hI⟩,hG',hR⟩
end
section
variable {α:Type} {P:Program} {K E S T:TypeId} {κ:α→Value} {W:World} {lo b:Nat} {f:α→List Value}
theorem Grp.entryW [DecidableEq α] (h:Grp P K E κ lo f b W) (L:KeyLaw P K) (ht:P.underlying T=some (.map K S)) (hz:∀ w,(zeroValue S).run P w = .ok (.slice none 0 0) w) {k:α} (hk:∃ l,keyOf P K (κ k)=some l) (hinj:∀ x y,κ x=κ y→x=y) :
  ∃ v0 st o1,(∀ w,w.heap[b]?=W.heap[b]?→(Instr.mapEntry T (.map (some b)) (κ k)).run P w = .ok (.tuple #[v0,st]) (setBlock w b o1))∧W.ownsRow lo E 1 v0 (f k).length (f k)∧(∀ p,v0.ownBlock=some p→p≠b) ∧
   ∀ W2 v' zs,W2.heap[b]?=some o1→W.heap.size≤W2.heap.size→(∀ p,p < W.heap.size→p≠b→v0.ownBlock≠some p→W2.heap[p]?=W.heap[p]?)→W2.ownsRow lo E 1 v' zs.length zs→(v'.ownBlock=v0.ownBlock∨∃ p,v'.ownBlock=some p∧W.heap.size≤p)→∃ W3,(Instr.entryStore T (.map (some b)) st v').run P W2 = .ok () W3∧W2.grownBy W3 (some b)∧Grp P K E κ lo (fun x=>if x=k then zs else f x) b W3:=by
 obtain ⟨es,clock,hb,hE⟩:=h
 obtain ⟨l,hl⟩:=hk
 have hold:∀ x∈es.toList,∀ p,x.val.ownBlock=some p→p < W.heap.size∧p≠b:=fun x hx p hp=>by
  obtain ⟨k2,_,_,h2⟩:=hE.is x hx
  exact ⟨(h2.lt p hp).2,lM h2 hb hp⟩
 rcases L.find W hl es.toList hE.valid with ⟨h1,h2⟩ | ⟨j,e0,h1,h2,h3⟩
 ·have hnil:=hE.nil_of h2
  refine ⟨.slice none 0 0,goInt clock,.map (es.push ⟨κ k,.slice none 0 0,clock⟩) (clock+1),fun w hw=>?_,by rw [hnil];exact World.ownsRow_nil _ _ _ _,(fun p hp=>by cases hp),fun W2 v' zs hb2 hsz hg hr hv=>?_⟩
  ·have hbw:=hw.trans hb
   rcases L.find w hl es.toList hE.valid with ⟨h1w,_⟩ | ⟨j,e0,_,h2w,h3w⟩
   ·simp [Instr.mapEntry,run_underlying ht,MapKept.run_getObj_map hbw,L.check w _ hl,h1w,hz,MapKept.run_setObj_map _ hbw,setBlock,Result.andThen]
   ·exact absurd h3w (h2 e0 (List.mem_of_getElem? h2w))
  ·have hidx:(es.push ⟨κ k,.slice none 0 0,clock⟩).findIdx? (fun e=>((e.born:Nat):Int) == ((clock:Nat):Int))=some es.size:=by
    rw [WideElems.findIdx_arr]
    refine WideElems.findIdx_born (e0:=⟨κ k,.slice none 0 0,clock⟩) ?_ (by simp)
    rw [Array.toList_push,List.map_append,List.nodup_append]
    refine ⟨hE.nodup,by simp,fun a ha c hc e1=>?_⟩
    obtain ⟨x,hx,rfl⟩:=List.mem_map.1 ha
    have:=hE.born x hx
    simp at hc;omega
   have hmod:(es.push ⟨κ k,.slice none 0 0,clock⟩).modify es.size (fun e=>{ e with val:=v' })=es.push ⟨κ k,v',clock⟩:=by
    apply Array.ext'
    rw [Array.toList_modify,Array.toList_push,Array.toList_push,← Array.length_toList,WideElems.modify_last]
   refine ⟨setBlock W2 b (.map (es.push ⟨κ k,v',clock⟩) (clock+1)),?_,mQ hb2,⟨_,_,qZ hb2,?_⟩⟩
   ·simp [Instr.entryStore,MapKept.run_getObj_map hb2,asInt,asIntOf,goInt,hidx,hmod,MapKept.run_setObj_map _ hb2,setBlock,Result.andThen]
   ·have hmem:∀ x,x∈(es.push ⟨κ k,v',clock⟩).toList↔x∈es.toList∨x=⟨κ k,v',clock⟩:=fun x=>by simp
    have hrow:∀ x∈es.toList,∀ p,x.val.ownBlock=some p→(setBlock W2 b (.map (es.push ⟨κ k,v',clock⟩) (clock+1))).heap[p]?=W.heap[p]?:=fun x hx p hp=>by
     obtain ⟨p1,p2⟩:=hold x hx p hp
     rw [eI hb2 p2,hg p p1 p2 (fun e=>by cases e)]
    refine ⟨fun x hx=>?_,?_,?_,fun x hx=>?_,fun k2 hk2=>?_,fun x hx y hy hne=>?_⟩
    ·rcases (hmem x).1 hx with hx | rfl
     ·have:=hE.born x hx;omega
     ·exact Nat.lt_succ_self _
    ·rw [Array.toList_push,List.map_append,List.nodup_append]
     refine ⟨hE.nodup,by simp,fun a ha c hc e1=>?_⟩
     obtain ⟨x,hx,rfl⟩:=List.mem_map.1 ha
     have:=hE.born x hx
     simp at hc;omega
    ·rw [Array.toList_push,List.pairwise_append]
     refine ⟨hE.keys,by simp,fun x hx y hy=>?_⟩
     simp at hy;subst hy;exact h2 x hx
    ·rcases (hmem x).1 hx with hx | rfl
     ·obtain ⟨k2,e1,e2,e3⟩:=hE.is x hx
      refine ⟨k2,e1,e2,?_⟩
      rw [if_neg (fun e=>h2 x hx (by rw [e1,e]))]
      exact dI e3 (hrow x hx)
     ·refine ⟨k,rfl,⟨l,hl⟩,?_⟩
      rw [if_pos rfl]
      exact dI hr fun p hp=>eI hb2 (lM hr hb2 hp)
    ·by_cases e:k2=k
     ·exact ⟨⟨κ k,v',clock⟩,(hmem _).2 (.inr rfl),by rw [e]⟩
     ·rw [if_neg e] at hk2
      obtain ⟨x,hx,hxk⟩:=hE.all k2 hk2
      exact ⟨x,(hmem x).2 (.inl hx),hxk⟩
    ·have hnew:∀ x∈es.toList,∀ p,x.val.ownBlock=some p→v'.ownBlock≠some p:=fun x hx p hp e=>by
      rcases hv with hv | ⟨q,hv,hq⟩
      ·rw [hv] at e;cases e
      ·rw [hv] at e
       have:=(hold x hx p hp).1
       have:=Option.some.inj e
       omega
     rcases (hmem x).1 hx with hx | rfl
     ·rcases (hmem y).1 hy with hy | rfl
      ·exact hE.apart x hx y hy hne
      ·exact fun p hp=>hnew x hx p hp
     ·rcases (hmem y).1 hy with hy | rfl
      ·exact fun p hp e=>hnew y hy p e hp
      ·exact absurd rfl hne
 ·have hm0:=List.mem_of_getElem? h2
  have hj:es[j]?=some e0:=by simpa using h2
  have hsame:es.modify j (fun e=>{ e with key:=κ k })=es:=by
   apply Array.ext'
   apply List.ext_getElem?
   intro i
   rw [Array.toList_modify,List.getElem?_modify]
   by_cases hij:j=i
   ·subst hij
    rw [h2]
    simp [← h3]
   ·simp [hij]
  refine ⟨e0.val,goInt e0.born,.map es clock,fun w hw=>?_,hE.at_ hinj hm0 h3,(fun p hp=>(hold e0 hm0 p hp).2),fun W2 v' zs hb2 hsz hg hr hv=>?_⟩
  ·have hbw:=hw.trans hb
   rcases L.find w hl es.toList hE.valid with ⟨_,h2w⟩ | ⟨j',e0',h1w,h2w,h3w⟩
   ·exact absurd h3 (h2w e0 hm0)
   ·have he:e0'=e0:=zS hE.keys (List.mem_of_getElem? h2w) hm0 (h3w.trans h3.symm)
    subst he
    have hjj:j'=j:=by
     have hbn:=hE.nodup
     obtain ⟨a1,a2⟩:=List.getElem?_eq_some_iff.1 h2w
     obtain ⟨c1,c2⟩:=List.getElem?_eq_some_iff.1 h2
     exact (List.getElem_inj (i:=j') (j:=j) (h₀:=by rw [List.length_map];exact a1) (h₁:=by rw [List.length_map];exact c1) hbn).1 (by rw [List.getElem_map,List.getElem_map,a2,c2])
    subst hjj
    simp [Instr.mapEntry,run_underlying ht,MapKept.run_getObj_map hbw,L.check w _ hl,h1w,hj,h3,L.stays w hl,hsame,MapKept.run_setObj_map _ hbw,setBlock,Result.andThen]
  ·have hidx:es.findIdx? (fun e=>((e.born:Nat):Int) == ((e0.born:Nat):Int))=some j:=by
    rw [WideElems.findIdx_arr]
    exact WideElems.findIdx_born hE.nodup h2
   refine ⟨setBlock W2 b (.map (es.modify j fun e=>{ e with val:=v' }) clock),?_,mQ hb2,⟨_,_,qZ hb2,?_⟩⟩
   ·simp [Instr.entryStore,MapKept.run_getObj_map hb2,asInt,asIntOf,goInt,hidx,MapKept.run_setObj_map _ hb2,setBlock,Result.andThen]
   ·have hrow:∀ x∈es.toList,x.key≠κ k→∀ p,x.val.ownBlock=some p→(setBlock W2 b (.map (es.modify j fun e=>{ e with val:=v' }) clock)).heap[p]?=W.heap[p]?:=fun x hx hne p hp=>by
     obtain ⟨p1,p2⟩:=hold x hx p hp
     rw [eI hb2 p2,hg p p1 p2 (fun e=>hE.apart x hx e0 hm0 (by rw [h3];exact hne) p hp e)]
    have hcs:∀ x∈(es.modify j fun e=>{ e with val:=v' }).toList,(x.key=κ k∧x.val=v')∨(x∈es.toList∧x.key≠κ k):=fun x hx=>by
     rcases zT h2 hx with rfl | ⟨i,hij,hi⟩
     ·exact .inl ⟨h3,rfl⟩
     ·refine .inr ⟨List.mem_of_getElem? hi,fun e=>hij ?_⟩
      have hx0:=zS hE.keys (List.mem_of_getElem? hi) hm0 (e.trans h3.symm)
      subst hx0
      have hbn:=hE.nodup
      obtain ⟨a1,a2⟩:=List.getElem?_eq_some_iff.1 hi
      obtain ⟨c1,c2⟩:=List.getElem?_eq_some_iff.1 h2
      exact (List.getElem_inj (i:=i) (j:=j) (h₀:=by rw [List.length_map];exact a1) (h₁:=by rw [List.length_map];exact c1) hbn).1 (by rw [List.getElem_map,List.getElem_map,a2,c2])
    refine ⟨fun x hx=>?_,?_,?_,fun x hx=>?_,fun k2 hk2=>?_,fun x hx y hy hne=>?_⟩
    ·rcases zT h2 hx with rfl | ⟨i,_,hi⟩
     ·exact hE.born e0 hm0
     ·exact hE.born x (List.mem_of_getElem? hi)
    ·exact (zV (es:=es) (j:=j) (g:=fun e=>{ e with val:=v' }) (p:=fun x=>x.born) (fun _=>rfl))▸hE.nodup
    ·exact pw_map (p:=fun x=>x.key) (r:=fun x y=>x≠y) hE.keys (zV (es:=es) (j:=j) (g:=fun e=>{ e with val:=v' }) (p:=fun x=>x.key) (fun _=>rfl))
    ·rcases hcs x hx with ⟨e1,e2⟩ | ⟨e1,e2⟩
     ·refine ⟨k,e1,⟨l,hl⟩,?_⟩
      rw [if_pos rfl,e2]
      exact dI hr fun p hp=>eI hb2 (lM hr hb2 hp)
     ·obtain ⟨k2,a1,a2,a3⟩:=hE.is x e1
      refine ⟨k2,a1,a2,?_⟩
      rw [if_neg (fun e=>e2 (by rw [a1,e]))]
      exact dI a3 (hrow x e1 e2)
    ·by_cases e:k2=k
     ·refine ⟨_,zU h2,?_⟩
      rw [if_pos rfl,e];exact h3
     ·rw [if_neg e] at hk2
      obtain ⟨x,hx,hxk⟩:=hE.all k2 hk2
      obtain ⟨i,hi⟩:=List.getElem?_of_mem hx
      refine ⟨_,zU (j:=j) (g:=fun e=>{ e with val:=v' }) hi,?_⟩
      by_cases hij:j=i
      ·rw [if_pos hij];exact hxk
      ·rw [if_neg hij];exact hxk
    ·have hnew:∀ x∈es.toList,x.key≠κ k→∀ p,x.val.ownBlock=some p→v'.ownBlock≠some p:=fun x hx hne p hp e=>by
      rcases hv with hv | ⟨q,hv,hq⟩
      ·rw [hv] at e;exact hE.apart x hx e0 hm0 (by rw [h3];exact hne) p hp e
      ·rw [hv] at e
       have:=(hold x hx p hp).1
       have:=Option.some.inj e
       omega
     rcases hcs x hx with ⟨e1,e2⟩ | ⟨e1,e2⟩
     ·rcases hcs y hy with ⟨d1,d2⟩ | ⟨d1,d2⟩
      ·exact absurd (e1.trans d1.symm) hne
      ·exact fun p hp e=>hnew y d1 d2 p e (by rw [← e2];exact hp)
     ·rcases hcs y hy with ⟨d1,d2⟩ | ⟨d1,d2⟩
      ·exact fun p hp=>by rw [d2];exact hnew x e1 e2 p hp
      ·exact hE.apart x e1 y d1 hne
theorem St.foreignK {w0 W W':World} {O:Own} {Kk:List (Nat×World)} {row:Option Nat} (h:St w0 O [] Kk W) (hg:W.grownBy W' row) (hb:∀ k,row=some k→w0.heap.size≤k∧(∀ p∈O,p.1≠k)∧∀ q∈Kk,k < q.1∨q.2.heap.size≤k):St w0 O [] Kk W' where
 below:=h.below.grown hg h.below.size (fun k hk=>(hb k hk).1)
 own:=fun p hp=>by
  obtain ⟨h1,h2⟩:=h.own p hp
  exact ⟨h1,(hg.block _ (bV h2) (fun e=>(hb _ e.symm).2.1 p hp rfl)).trans h2⟩
 dist:=h.dist
 kept:=fun q hq=>by
  obtain ⟨⟨h1,h2⟩,h3⟩:=h.kept q hq
  refine ⟨⟨Nat.le_trans h1 hg.size,fun k hk hk2=>(hg.block k (Nat.lt_of_lt_of_le hk2 h1) (fun e=>?_)).trans (h2 k hk hk2)⟩,h3⟩
  rcases (hb k e.symm).2.2 q hq with h4 | h4<;>omega
 rows:=fun g hg=>by cases hg
 gdist:=List.Pairwise.nil
theorem uU {a:Act} {t:Nat} {v:Value} (h:a.eval (.tmp t)=v):∀ x u,evL [(t,v)] x=some u→a.eval x=u:=by
 intro x u hx
 cases x with
 | tmp s =>
  unfold evL look at hx
  cases hb:Nat.beq t s with
  | true=>simp only [hb,cond_true,Option.some.injEq] at hx;rw [← Nat.eq_of_beq_eq_true hb,← hx];exact h
  | false=>simp only [hb,cond_false] at hx;cases hx
 | const c=>exact Option.some.inj hx
 | global g=>exact Option.some.inj hx
 | func f=>exact Option.some.inj hx
structure GrpG (P:Program) (K E:TypeId) (κ:α→Value) (lo:Nat) (f':α→List Value) (b:Nat) (W w0:World) (O:Own) (Kk:List (Nat×World)) (v0:Value) (o1:Obj) (L:Array Bool) (w:World):Prop where
 st:St w0 O [] Kk w
 sz:W.heap.size≤w.heap.size
 c11:L.getD 11 false=true→L.getD 9 false=true∧L.getD 10 false=true
 c10:L.getD 10 false=true→L.getD 7 false=true
 c9:L.getD 9 false=true→L.getD 8 false=true
 c8:L.getD 8 false=true→L.getD 7 false=true
 m0:L.getD 7 false=false→w.heap[b]?=W.heap[b]?
 m1:L.getD 7 false=true→L.getD 11 false=false→w.heap[b]?=some o1
 old:∀ p,p < W.heap.size→p≠b→v0.ownBlock≠some p→w.heap[p]?=W.heap[p]?
 row0:L.getD 9 false=false→∀ p,v0.ownBlock=some p→w.heap[p]?=W.heap[p]?
 fin:L.getD 11 false=true→Grp P K E κ lo f' b w
def GrpI (E:TypeId) (lo:Nat) (W:World) (vals:Nat→Value) (x v0 st:Value) (xs:List Value) (i:Nat) (v:Value) (w:World):Prop :=
 (i < 6→v=vals i)∧(i=6→∃ B,v = .slice (some ⟨B,0,none⟩) 1 1∧W.heap.size≤B∧w.heap[B]?=some (.cells #[x] E (0,0)))∧(i=7→v = .tuple #[v0,st])∧(i=8→v=v0)∧(i=9→w.ownsRow lo E 1 v (xs.length+1) (xs++[x])∧(v.ownBlock=v0.ownBlock∨∃ p,v.ownBlock=some p∧W.heap.size≤p))∧(i=10→v=st)
theorem oK {L:Array Bool} {i:Nat} (h:i < L.size):(L.setIfInBounds i true).getD i false=true:=by
 rw [Array.getD_eq_getD_getElem?,Array.getElem?_setIfInBounds_self_of_lt h];rfl
theorem cX {L:Array Bool} {i j:Nat} (h:i≠j):(L.setIfInBounds i true).getD j false=L.getD j false:=getD_set_ne false h
theorem E9 {L:Array Bool} {i:Nat} (h:L.getD i true=false):L.getD i false=false:=by
 rw [Array.getD_eq_getD_getElem?] at h ⊢
 cases hL:L[i]? with
 | none=>rfl
 | some b=>rw [hL] at h;simpa using h
theorem Tv [DecidableEq α] {id n:Nat} {ops:Array Oper} {Q:Exit→Act→World→Prop} {l:Fr} {w0:World} {O:Own} {Kk:List (Nat×World)} {vals:Nat→Value} {k:α} {x:Value} {t:TypeId} {inf:TypeInfo} {z:Value} {d3 d4 d5 d6 d7 d8 d9 d10:Nat} {ty6 ty7 ty8 ty9 ty10 ty11:TypeId} {p6 p7 p8 p9 p10 p11:String} {a6 a7 a8 a9 a10 a11:Array Edge}
  (hm:P.follows .mixedOrders=true) (hS:St w0 O [] Kk W) (hM:Grp P K E κ lo f b W) (hO:∀ p∈O,p.1≠b∧(p.1 < lo∨p.2.2≠E)) (hwb:w0.heap.size≤b) (hwl:w0.heap.size≤lo) (hlo:lo≤W.heap.size) (hK:∀ q∈Kk,q.2.heap.size≤lo∧(b < q.1∨q.2.heap.size≤b))
  (LW:KeyLaw P K) (ht:P.underlying T=some (.map K S)) (hz:∀ w,(zeroValue S).run P w = .ok (.slice none 0 0) w) (hk:∃ l,keyOf P K (κ k)=some l) (hinj:∀ x y,κ x=κ y→x=y)
  (hU:P.underlying t=some (.slice E)) (hinf:P.info? E=some inf) (hzi:inf.zero=some z) (hzs:z.cells.size=inf.size) (hsz:inf.size=1) (hx1:x.oneCell'=true) (hrow1:∀ (ev:Operand→Value) w,ev (.tmp d5)=x→(execOp ev ⟨some d6,.buildSlice t 1 #[(0,.tmp d5)],ty6,p6,a6,none⟩).run P w = .ok (.value (.slice (some ⟨w.heap.size,0,none⟩) 1 1)) (w.alloc (.cells #[x] E)))
  (h63:(f k).length+1≤maxLen) (hbytes:((f k).length+1) * inf.bytes≤140737488355328)
  (hsize:ops.size=12) (htidy:dO ops n=true)
  (hv3:vals 3 = .map (some b)) (hv4:vals 4=κ k) (hv5:vals 5=x)
  (hpure:∀ i,i < 6→∀ (a0 a:Act) (w:World),Has n l a0→(∀ t,freeT ops t=true→a.eval (.tmp t)=a0.tmps.getD t undef)→St w0 O [] Kk w→(∀ j d,aY ops i j d=true→a.eval (.tmp d)=vals j)→∃ o,ops[i]?=some o∧o.guard=none∧(execOp a.eval o).run P w = .ok (.value (vals i)) w)
  (hi6:ops[6]?=some ⟨some d6,.buildSlice t 1 #[(0,.tmp d5)],ty6,p6,a6,none⟩) (hi7:ops[7]?=some ⟨some d7,.mapEntry T (.tmp d3) (.tmp d4),ty7,p7,a7,none⟩) (hi8:ops[8]?=some ⟨some d8,.extract (.tmp d7) 0,ty8,p8,a8,none⟩) (hi9:ops[9]?=some ⟨some d9,.call { callee:=.builtin .append,args:=#[.tmp d8,.tmp d6],argTypes:=#[t,t] },ty9,p9,a9,none⟩) (hi10:ops[10]?=some ⟨some d10,.extract (.tmp d7) 1,ty10,p10,a10,none⟩) (hi11:ops[11]?=some ⟨none,.entryStore T (.tmp d3) (.tmp d10) (.tmp d9),ty11,p11,a11,none⟩)
  (w65:aY ops 6 5 d5=true) (w73:aY ops 7 3 d3=true) (w74:aY ops 7 4 d4=true) (w87:aY ops 8 7 d7=true) (w98:aY ops 9 8 d8=true) (w96:aY ops 9 6 d6=true) (w107:aY ops 10 7 d7=true) (w113:aY ops 11 3 d3=true) (w1110:aY ops 11 10 d10=true) (w119:aY ops 11 9 d9=true)
  (h:∀ W',St w0 O [] Kk W'→Grp P K E κ lo (fun y=>if y=k then f k++[x] else f y) b W'→W.heap.size≤W'.heap.size→∀ a,a.tmps.size=n→a.defers=[]→(∀ t,freeT ops t=true→∀ v,look l t=some v→a.tmps.getD t undef=v)→Q .normal a W'):eR P n (.region id ops true) Q l W:=fun a0 ha0=>by
 obtain ⟨v0,st,o1,hrun,hown,hnb,back⟩:=hM.entryW LW ht hz hk hinj
 have hbm:=hM.lt
 have hrl:∀ p,v0.ownBlock=some p→p < W.heap.size:=fun p hp=>(hown.lt p hp).2
 have hrlo:∀ p,v0.ownBlock=some p→lo≤p:=fun p hp=>(hown.lt p hp).1
 refine E8 (GL:=GrpG P K E κ lo (fun y=>if y=k then f k++[x] else f y) b W w0 O Kk v0 o1)
  (R:=fun j w w'=>w.heap.size≤w'.heap.size∧(∀ p,W.heap.size≤p→p < w.heap.size→w'.heap[p]?=w.heap[p]?)∧(j≠9→∀ p,v0.ownBlock=some p→w'.heap[p]?=w.heap[p]?))
  (I:=GrpI E lo W vals x v0 st (f k)) hm ?_ ?_ ?_ ?_ ?_
 ·have hf:∀ j,(Array.replicate ops.size false).getD j false=false:=fun j=>by
   rw [Array.getD_eq_getD_getElem?,Array.getElem?_replicate]
   split<;>rfl
  refine ⟨hS.grow (Below.refl _ _).drew,Nat.le_refl _,?_,?_,?_,?_,fun _=>rfl,?_,fun _ _ _ _=>rfl,fun _ _ _=>rfl,?_⟩<;>(intro h1;rw [hf] at h1;cases h1)
 ·rw [ha0.size];exact htidy
 ·rintro i j v w w' hij ⟨h1,h2,h3,h4,h5,h6⟩ ⟨r1,r2,r3⟩
  refine ⟨h1,fun e=>?_,h3,h4,fun e=>?_,h6⟩
  ·obtain ⟨B,e1,e2,e3⟩:=h2 e
   exact ⟨B,e1,e2,(r2 B e2 (bV e3)).trans e3⟩
  ·obtain ⟨e1,e2⟩:=h5 e
   refine ⟨dI e1 fun p hp=>?_,e2⟩
   rcases e2 with e2 | ⟨p2,e2,e3⟩
   ·exact r3 (fun e4=>hij (e.trans e4.symm)) p (by rw [← e2];exact hp)
   ·rw [e2] at hp
    cases hp
    exact r2 _ e3 (e1.lt _ e2).2
 ·intro i hi
  rw [hsize] at hi
  by_cases hi6':i < 6
  ·-- what is pure
   intro L a w hs hL hW hF hG hD
   obtain ⟨o,ho,hgd,hr⟩:=hpure i hi6' a0 a w ha0 hF hG.st (fun j d hw=>by
    have hji:j < i:=by
     cases ho:ops[i]? with
     | none=>simp [aY,ho] at hw
     | some o =>
      simp only [aY,ho,Bool.and_eq_true,beq_iff_eq] at hw
      obtain ⟨e,he,h1⟩:=Array.any_eq_true'.1 hw.1
      simp only [Bool.and_eq_true,beq_iff_eq] at h1
      have:=jC htidy ho e he h1.2
      omega
    exact (hD j d hw).1 (by omega))
   unfold wpOp
   simp only [ho,fC hgd,if_true]
   refine .inl ?_
   unfold Oper.wp
   rw [hr]
   have n7:=cX (L:=L) (show i≠7 by omega);have n8:=cX (L:=L) (show i≠8 by omega);have n9:=cX (L:=L) (show i≠9 by omega);have n10:=cX (L:=L) (show i≠10 by omega);have n11:=cX (L:=L) (show i≠11 by omega)
   refine ⟨⟨_,rfl,fun d _=>⟨fun _=>rfl,fun e=>by omega,fun e=>by omega,fun e=>by omega,fun e=>by omega,fun e=>by omega⟩⟩,⟨hG.st,hG.sz,by rw [n11,n9,n10];exact hG.c11,by rw [n10,n7];exact hG.c10,by rw [n9,n8];exact hG.c9,by rw [n8,n7];exact hG.c8,by rw [n7];exact hG.m0,by rw [n7,n11];exact hG.m1,hG.old,by rw [n9];exact hG.row0,by rw [n11];exact hG.fin⟩,Nat.le_refl _,fun _ _ _=>rfl,fun _ _ _=>rfl⟩
  have hcase:i=6∨i=7∨i=8∨i=9∨i=10∨i=11:=by omega
  rcases hcase with rfl | rfl | rfl | rfl | rfl | rfl
  ·-- the row
   refine pK.value hi6 rfl fun L a w hs hL hW hF hG hD=>?_
   have e5:=(hD 5 d5 w65).1 (by omega)
   rw [hv5] at e5
   have n7:=cX (L:=L) (show 6≠7 by omega);have n8:=cX (L:=L) (show 6≠8 by omega);have n9:=cX (L:=L) (show 6≠9 by omega);have n10:=cX (L:=L) (show 6≠10 by omega);have n11:=cX (L:=L) (show 6≠11 by omega)
   have hal:∀ p,p < w.heap.size→(w.alloc (.cells #[x] E)).heap[p]?=w.heap[p]?:=fun p hp=>Below.heap_alloc w _ _ hp
   have hbw:b < w.heap.size:=Nat.lt_of_lt_of_le hbm hG.sz
   refine ⟨.slice (some ⟨w.heap.size,0,none⟩) 1 1,w.alloc (.cells #[x] E),?_,⟨fun e=>by omega,fun _=>⟨w.heap.size,rfl,hG.sz,heap_alloc_new w _⟩,fun e=>by omega,fun e=>by omega,fun e=>by omega,fun e=>by omega⟩,⟨(hG.st.alloc [x] E).tail,by simp;have:=hG.sz;omega,by rw [n11,n9,n10];exact hG.c11,by rw [n10,n7];exact hG.c10,by rw [n9,n8];exact hG.c9,by rw [n8,n7];exact hG.c8,by rw [n7];exact fun h1=>(hal b hbw).trans (hG.m0 h1),by rw [n7,n11];exact fun h1 h2=>(hal b hbw).trans (hG.m1 h1 h2),fun p hp h1 h2=>(hal p (Nat.lt_of_lt_of_le hp hG.sz)).trans (hG.old p hp h1 h2),by rw [n9];exact fun h1 p hp=>(hal p (Nat.lt_of_lt_of_le (hrl p hp) hG.sz)).trans (hG.row0 h1 p hp),by rw [n11];exact fun h1=>(hG.fin h1).below ((Below.refl _ _).alloc (Nat.le_refl _) _)⟩,by simp,fun p _ hp=>hal p hp,fun _ p hp=>hal p (Nat.lt_of_lt_of_le (hrl p hp) hG.sz)⟩
   exact hrow1 a.eval w e5
  ·-- the entry
   refine pK.value hi7 rfl fun L a w hs hL hW hF hG hD=>?_
   have hL:=E9 hL
   have e3:=(hD 3 d3 w73).1 (by omega)
   have e4:=(hD 4 d4 w74).1 (by omega)
   rw [hv3] at e3
   rw [hv4] at e4
   have hbw:=hG.m0 hL
   have h11:L.getD 11 false=false:=by
    cases h9:L.getD 11 false with
    | false=>rfl
    | true=>rw [hG.c10 (hG.c11 h9).2] at hL;cases hL
   have h9:L.getD 9 false=false:=by
    cases h9:L.getD 9 false with
    | false=>rfl
    | true=>rw [hG.c8 (hG.c9 h9)] at hL;cases hL
   obtain ⟨ob,hob⟩:∃ ob,w.heap[b]?=some ob:=⟨_,Array.getElem?_eq_getElem (Nat.lt_of_lt_of_le hbm hG.sz)⟩
   have hgr:=mQ (o':=o1) hob
   have n8:=cX (L:=L) (show 7≠8 by omega);have n9:=cX (L:=L) (show 7≠9 by omega);have n10:=cX (L:=L) (show 7≠10 by omega);have n11:=cX (L:=L) (show 7≠11 by omega)
   have n7:(L.setIfInBounds 7 true).getD 7 false=true:=oK (by omega)
   refine ⟨.tuple #[v0,st],setBlock w b o1,?_,⟨fun e=>by omega,fun e=>by omega,fun _=>rfl,fun e=>by omega,fun e=>by omega,fun e=>by omega⟩,⟨hG.st.foreignK hgr (fun k hk=>by cases hk;exact ⟨hwb,fun p hp=>(hO p hp).1,fun q hq=>(hK q hq).2⟩),by simp [setBlock];exact hG.sz,(by rw [n11,h11];intro h;cases h),fun _=>n7,(by rw [n9,h9];intro h;cases h),fun _=>n7,(by rw [n7];intro h;cases h),fun _ _=>qZ hob,fun p hp h1 h2=>(eI hob h1).trans (hG.old p hp h1 h2),fun _ p hp=>(eI hob (hnb p hp)).trans (hG.row0 h9 p hp),(by rw [n11,h11];intro h;cases h)⟩,by simp [setBlock],fun p hp _=>eI hob (by omega),fun _ p hp=>eI hob (hnb p hp)⟩
   unfold execOp
   simp only []
   rw [e3,e4]
   simp [hrun w hbw,Result.andThen]
  ·-- its row
   refine pK.value hi8 rfl fun L a w hs hL hW hF hG hD=>?_
   have e7:=(hD 7 d7 w87).2.2.1 rfl
   have h7:=hW 7 d7 w87
   have n7:=cX (L:=L) (show 8≠7 by omega);have n9:=cX (L:=L) (show 8≠9 by omega);have n10:=cX (L:=L) (show 8≠10 by omega);have n11:=cX (L:=L) (show 8≠11 by omega)
   have n8:(L.setIfInBounds 8 true).getD 8 false=true:=oK (by omega)
   refine ⟨v0,w,?_,⟨fun e=>by omega,fun e=>by omega,fun e=>by omega,fun _=>rfl,fun e=>by omega,fun e=>by omega⟩,⟨hG.st,hG.sz,by rw [n11,n9,n10];exact hG.c11,by rw [n10,n7];exact hG.c10,fun _=>n8,fun _=>by rw [n7];exact h7,by rw [n7];exact hG.m0,by rw [n7,n11];exact hG.m1,hG.old,by rw [n9];exact hG.row0,by rw [n11];exact hG.fin⟩,Nat.le_refl _,fun _ _ _=>rfl,fun _ _ _=>rfl⟩
   unfold execOp
   simp only []
   rw [e7]
   simp [Instr.extract]
  ·-- one more
   refine pK.value hi9 rfl fun L a w hs hL hW hF hG hD=>?_
   have hL:=E9 hL
   have e8:=(hD 8 d8 w98).2.2.2.1 rfl
   obtain ⟨B,e6,hB1,hB2⟩:=(hD 6 d6 w96).2.1 rfl
   have h8:=hW 8 d8 w98
   have h7:=hG.c8 h8
   have h11:L.getD 11 false=false:=by
    cases h9:L.getD 11 false with
    | false=>rfl
    | true=>rw [(hG.c11 h9).1] at hL;cases hL
   have hrw:w.ownsRow lo E inf.size v0 (f k).length (f k):=by rw [hsz];exact dI hown fun p hp=>hG.row0 hL p hp
   obtain ⟨v',w',hr,o9,g9,b9⟩:=lD (P:=P) (w:=w) lo t ty9 E inf z hU hinf hzi hzs (by omega) v0 _ _ hrw ⟨B,0,none⟩ 1 1 [x] (by rw [hsz];rfl) (fun j u hj=>by
    rw [Addr.add_lit,Nat.zero_add]
    simp only [World.cell?,hB2]
    simpa using hj) (fun u hu=>by simp at hu;subst hu;exact hx1) h63 hbytes (Nat.le_trans hlo hG.sz)
   rw [hsz] at o9
   have n7:=cX (L:=L) (show 9≠7 by omega);have n8:=cX (L:=L) (show 9≠8 by omega);have n10:=cX (L:=L) (show 9≠10 by omega);have n11:=cX (L:=L) (show 9≠11 by omega)
   have n9:(L.setIfInBounds 9 true).getD 9 false=true:=oK (by omega)
   have hne:∀ p,v0.ownBlock≠some p→p < w.heap.size→w'.heap[p]?=w.heap[p]?:=fun p h1 h2=>g9.block p h2 (fun e=>h1 e.symm)
   have hnbm:v0.ownBlock≠some b:=fun e=>hnb b e rfl
   refine ⟨v',w',?_,⟨fun e=>by omega,fun e=>by omega,fun e=>by omega,fun e=>by omega,fun _=>⟨o9,b9.imp_right (fun h=>⟨_,h,hG.sz⟩)⟩,fun e=>by omega⟩,⟨hG.st.foreignK g9 (fun k hk=>⟨Nat.le_trans hwl (hrlo k hk),fun p hp e=>by
    rcases (hO p hp).2 with h5 | h5
    ·have:=hrlo k hk;omega
    ·have h6:=(hG.st.own p hp).2
     rcases hrw.2 with ⟨e7,_⟩ | ⟨g,cap,cur,e7,_,h7,_⟩
     ·rw [e7] at hk;cases hk
     ·rw [e7] at hk
      have h8:g=k:=Option.some.inj hk
      rw [e,← h8,h7] at h6
      injection h6 with h6
      injection h6 with _ h6 _
      exact h5 h6.symm,fun q hq=>.inr (Nat.le_trans (hK q hq).1 (hrlo k hk))⟩),Nat.le_trans hG.sz g9.size,(by rw [n11,h11];intro h;cases h),by rw [n10,n7];exact hG.c10,fun _=>by rw [n8];exact h8,by rw [n8,n7];exact hG.c8,(by rw [n7,h7];intro h;cases h),by rw [n7,n11];exact fun h1 h2=>(hne b hnbm (Nat.lt_of_lt_of_le hbm hG.sz)).trans (hG.m1 h1 h2),fun p hp h1 h2=>(hne p h2 (Nat.lt_of_lt_of_le hp hG.sz)).trans (hG.old p hp h1 h2),(by rw [n9];intro h;cases h),(by rw [n11,h11];intro h;cases h)⟩,g9.size,fun p h1 h2=>hne p (fun e=>by have:=hrl p e;omega) h2,fun h=>absurd rfl h⟩
   unfold execOp
   simp only [resolve,invoke,builtin,Sem.run_bind,Sem.run_pure,Result.andThen_ok,List.map_toArray,List.map_cons,List.map_nil,e8,e6,hr]
  ·-- the way back
   refine pK.value hi10 rfl fun L a w hs hL hW hF hG hD=>?_
   have e7:=(hD 7 d7 w107).2.2.1 rfl
   have h7:=hW 7 d7 w107
   have n7:=cX (L:=L) (show 10≠7 by omega);have n8:=cX (L:=L) (show 10≠8 by omega);have n9:=cX (L:=L) (show 10≠9 by omega);have n11:=cX (L:=L) (show 10≠11 by omega)
   have n10:(L.setIfInBounds 10 true).getD 10 false=true:=oK (by omega)
   refine ⟨st,w,?_,⟨fun e=>by omega,fun e=>by omega,fun e=>by omega,fun e=>by omega,fun e=>by omega,fun _=>rfl⟩,⟨hG.st,hG.sz,by rw [n11,n9];exact fun h=>⟨(hG.c11 h).1,n10⟩,fun _=>by rw [n7];exact h7,by rw [n9,n8];exact hG.c9,by rw [n8,n7];exact hG.c8,by rw [n7];exact hG.m0,by rw [n7,n11];exact hG.m1,hG.old,by rw [n9];exact hG.row0,by rw [n11];exact hG.fin⟩,Nat.le_refl _,fun _ _ _=>rfl,fun _ _ _=>rfl⟩
   unfold execOp
   simp only []
   rw [e7]
   simp [Instr.extract]
  ·-- the entry's store
   intro L a w hs hL hW hF hG hD
   have hL:=E9 hL
   have e3:=(hD 3 d3 w113).1 (by omega)
   rw [hv3] at e3
   have e10:=(hD 10 d10 w1110).2.2.2.2.2 rfl
   obtain ⟨o9,b9⟩:=(hD 9 d9 w119).2.2.2.2.1 rfl
   have h10:=hW 10 d10 w1110
   have h9:=hW 9 d9 w119
   have h7:=hG.c10 h10
   have hbo:=hG.m1 h7 hL
   obtain ⟨W3,r3,g3,m3⟩:=back w (a.eval (.tmp d9)) (f k++[x]) hbo hG.sz hG.old (by rw [List.length_append];exact o9) b9
   have hob3:W.heap.size≤W3.heap.size:=Nat.le_trans hG.sz g3.size
   have n7:=cX (L:=L) (show 11≠7 by omega);have n8:=cX (L:=L) (show 11≠8 by omega);have n9:=cX (L:=L) (show 11≠9 by omega);have n10:=cX (L:=L) (show 11≠10 by omega)
   have n11:(L.setIfInBounds 11 true).getD 11 false=true:=oK (by omega)
   have hne:∀ p,p≠b→p < w.heap.size→W3.heap[p]?=w.heap[p]?:=fun p h1 h2=>g3.block p h2 (fun e=>h1 (Option.some.inj e))
   unfold wpOp
   simp only [hi11,fC (show (⟨none,.entryStore T (.tmp d3) (.tmp d10) (.tmp d9),ty11,p11,a11,none⟩:Oper).guard=none from rfl),if_true]
   refine .inl ?_
   unfold Oper.wp execOp
   simp only []
   rw [e3,e10]
   simp only [Sem.run_bind,r3,Result.andThen_ok,Sem.run_pure,Oper.upon_skip]
   refine ⟨⟨undef,by simp,fun d hd=>by cases hd⟩,⟨hG.st.foreignK g3 (fun k hk=>by cases hk;exact ⟨hwb,fun p hp=>(hO p hp).1,fun q hq=>(hK q hq).2⟩),hob3,fun _=>⟨by rw [n9];exact h9,by rw [n10];exact h10⟩,by rw [n10,n7];exact hG.c10,by rw [n9,n8];exact hG.c9,by rw [n8,n7];exact hG.c8,(by rw [n7,h7];intro h;cases h),(by rw [n11];intro _ h;cases h),fun p hp h1 h2=>(hne p h1 (Nat.lt_of_lt_of_le hp hG.sz)).trans (hG.old p hp h1 h2),(by rw [n9,h9];intro h;cases h),fun _=>m3⟩,g3.size,fun p h1 h2=>hne p (by omega) h2,fun _ p hp=>hne p (hnb p hp) (Nat.lt_of_lt_of_le (hrl p hp) hG.sz)⟩
 ·intro L a w h1 h2 h3 hall hs hG _
  have h11:L.getD 11 false=true:=by
   have:=hall 11 (by omega)
   rw [Array.getD_eq_getD_getElem?] at this ⊢
   rw [Array.getElem?_eq_getElem (by omega)] at this ⊢
   simpa using this
  exact h w hG.st (hG.fin h11) hG.sz a (by rw [h1,ha0.size]) (by rw [h2,ha0.defers]) (fun t ht v hv=>by rw [h3 t ht];exact ha0.at_ t v hv)
end
end Go.Proofs.YtmgnkpibpjgncaaGreatDoor
