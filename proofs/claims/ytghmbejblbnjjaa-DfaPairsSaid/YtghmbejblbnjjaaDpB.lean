import Derived.Laws.IdiomStrings
import Derived.Lib.ItoaLen
import Derived.Lib.UnsafeStr
import Derived.Lib.AppendIntMem
import Derived.Laws.BytesArg
import Derived.Test.YtghmbejblbnjjaaProg
import Derived.Lib.TrailingZeros
import Derived.Test.YtghmbejblbnjjaaRows
import Derived.Lib.LaidTab
import Derived.Lib.ItoaNum
import Derived.Stop.LaidErr
import Derived.WalkSmall
import Derived.LaidMore
import Derived.Shelf.Spec.TrailingZeros
import Derived.Laws.BitsAllLaws
import Derived.Laws.Bits64
import Derived.Deep.QuietTactic
import Derived.BigQuiet
import Derived.RegionTactic
import Derived.BigRegion
import Derived.Deep.RegionHeld3
import Derived.ChangeAlike
import Derived.RangeFuncNested
import Derived.RangeFuncBound
import Derived.RangeFuncCalls
import Derived.RangeFuncLeaves
import Derived.Shelf.Abstract
import Derived.Shelf.RegionOpen
import Derived.OwnWalkIn
import Derived.TacticsInMore
import Derived.LoopNIn
import Derived.LoopIn
import Derived.Sort.Grow
import Derived.Maps.AppendAt
import Derived.Deep.AppendLies
import Derived.Laws.Bits128
import Derived.Shelf.Lay
import Derived.Shelf.LaySoft
import Derived.Lib.OthersKept
import Derived.Laws.OwnMore
import Derived.OwnWalk
import Derived.Deep.RegionWith
import Derived.Laws.Bits64b
import Derived.WalkSpells
import Derived.Lib.Join
import Derived.StillTailTactics
import Derived.Deep.RegionLaw
import Derived.Deep.DeepCutAuto
import Derived.Deep.CutRange
import Derived.Lib.SliceRun
import Derived.Deep.DrawnRows
import Derived.Test.YtghmbejblbnjjaaDpA
set_option maxRecDepth 100000
set_option maxHeartbeats 4000000
set_option linter.unusedVariables false
set_option linter.unusedSimpArgs false
set_option linter.unusedSectionVars false
set_option linter.unnecessarySimpa false
namespace Go.Proofs.Ytghmbejblbnjjaa
open Go.Proofs.Try
section
open Go.RowKit
section
variable {P:Program} {n:Nat} {Q:Exit→Act→World→Prop} {l:Fr} {w0 W:World} {ops opf:Array Oper} {os:List Oper} {K:List (Nat×World)} {L:List Asr} {i:Nat}
variable {Ob:Own} {al:List AB} {G:Sy→bN} {E:List Nat} {lo:Nat} {s:Sy}
variable {d:Nat} {op:Op} {ty:TypeId} {pos:String} {aft_:Array Edge} {v:Value} {gd:Option (Nat×Bool)}
theorem Aa (hf:Fst ops opf) (li:Fr) (hie:E.contains i=false) (hi:ops[i]?=some ⟨some d,op,ty,pos,aft_,gd⟩) (hw:∀ s,gP ops (LS E s 0 L) i ⟨some d,op,ty,pos,aft_,gd⟩) (hli:∀ s,qY n opf l (LS E s 0 L) i li)
  (hr:∀ s w,Kn ops E i s→St w0 Ob (G s) K w→dT P li ⟨some d,op,ty,pos,#[],none⟩ w v w) (hI:atI L i=isV v):SY P n ops opf Q l w0 K lo al Ob G E L i :=
 sN hie hi fun t0 a s w h0 hF hG hk hD hD'=>by
  exact iY hi ((hw s).yes hD') (by rw [gJ a.eval _ _ _ _ pos _ #[] _ none];exact hr s w hk (St.drops _ hG.1) a.eval (jQ h0 hF (fun j d h=>hD' j d (hf.waits h)) (hli s))) ⟨v,rfl,by rw [hI];exact sI,Below.refl _ _⟩
def gZ:Asr:=fun v _=>∃ a m c,v = .slice a m c
theorem lO {t e:TypeId} {tyy tx jx jy m gi gn size:Nat} {v0:Value} {gxs news:List Value} {py:Asr} {inf:TypeInfo} {z:Value} (hie:E.contains i=true) (hi:ops[i]?=some ⟨some d,.call { callee:=.builtin .append,args:=#[.tmp tx,.tmp tyy],argTypes:=#[t,t] },ty,pos,aft_,none⟩)
  (hU:P.underlying t=some (.slice e)) (hinf:P.info? e=some inf) (hz:inf.zero=some z) (hzs:z.cells.size=inf.size) (hsz:0 < inf.size) (hsize:size=inf.size) (hwx:bG ops i jx tx=true) (hLx:atI L jx=isV v0) (hwy:bG ops i jy tyy=true) (hLy:atI L jy=py)
  (hA_:al.all (fun q => !Nat.beq q.a i)=true) (hst_:al.all (fun q => !Nat.beq q.st i)=true)
  (hG:∀ s,Kn ops E i s→(G s)[gi]?=some ⟨v0,gn,gxs,e,size⟩∧∀ v',G (upd s i v')=(G s).set gi ⟨v',gn+m,gxs++news,e,size⟩)
  (hc:∀ v w,py v w→∃ ad c,v = .slice ad m c∧((ad=none∧m=0)∨∃ p,ad=some p∧∀ (j:Nat) u,news[j]?=some u→w.cell? (p.add j)=some u)) (hl:news.length=m * inf.size) (h1:∀ u∈news,u.oneCell'=true) (h63:gn+m≤maxLen) (hbytes:(gn+m) * inf.bytes≤140737488355328) (hL:atI L i=gZ):SY P n ops opf Q l w0 K lo al Ob G E L i :=
 nZ hie hi fun t0 a s w h0 hF hg hk hD hD'=>by
  subst hsize
  have hA:=a_ne hA_
  have hst:=rH hst_
  have hx1:=(hD jx tx hwx).2
  rw [hLx] at hx1
  have ex:a.eval (.tmp tx)=v0:=hx1.here
  obtain ⟨hgi,hset⟩:=hG s hk
  rw [← ex] at hgi
  have hp1:=(hD jy tyy hwy).2
  rw [hLy] at hp1
  obtain ⟨ad,c,ey,hcc9⟩:=hc _ _ hp1.here
  have hO:∀ v,OY al Ob (upd s i v)=OY al Ob s:=fun v=>by unfold OY;rw [kT hA hst]
  have hrow:=hg.1.row gi hgi
  have fin:∀ v' W',(Builtin.append_ #[t,t] ty #[a.eval (.tmp tx),.slice ad m c]).run P w = .ok v' W'→W'.ownsRow w0.heap.size e inf.size v' (gn+m) (gxs++news)→w.grownBy W' (a.eval (.tmp tx)).ownBlock→(v'.ownBlock=(a.eval (.tmp tx)).ownBlock∨v'.ownBlock=some w.heap.size) →
    wpOp P ops Q i (fun a' w'=>∃ v y,a'=a.put (some d) v∧(∀ d',some d=some d'→v=y)∧St w0 (OY al Ob (upd s i y)) (G (upd s i y)) K w'∧eQ 0 (XB (OY al Ob s) (G s)) w w'∧(∀ b,XB (OY al Ob (upd s i y)) (G (upd s i y)) b→XB (OY al Ob s) (G s) b∨w.heap.size≤b)∧AwS lo (XB (OY al Ob (upd s i y)) (G (upd s i y))) (atI L i) y w') a w:=fun v' W' hr h2 h3 h4=>by
   have hXg:∀ b,(a.eval (.tmp tx)).ownBlock=some b→XB (OY al Ob s) (G s) b:=fun b hb=>.inr ⟨_,List.mem_of_getElem? hgi,hb⟩
   refine iY (w':=W') (v:=v') hi (dV rfl) ?_ ⟨v',v',rfl,fun _ _=>rfl,?_,⟨⟨h3.os,h3.tape,h3.output⟩,h3.size,fun b _ hb hx=>h3.block b hb (fun e=>hx (hXg b e.symm))⟩,fun b hb=>?_,?_⟩
   ·unfold execOp
    simp only [resolve,invoke,builtin,Sem.run_bind,Sem.run_pure,Result.andThen_ok,List.map_toArray,List.map_cons,List.map_nil,ey,hr]
   ·rw [hO,hset]
    exact hg.1.setG gi hgi h2 h3 h4
   ·rw [hO,hset] at hb
    rcases hb with h | ⟨g,hg2,e1⟩
    ·exact .inl (.inl h)
    ·rcases List.mem_or_eq_of_mem_set hg2 with hg2 | rfl
     ·exact .inl (.inr ⟨g,hg2,e1⟩)
     ·rcases h4 with h5 | h5
      ·exact .inl (hXg b (h5▸e1))
      ·have e2:v'.ownBlock=some b:=e1
       rw [h5] at e2;exact .inr (Nat.le_of_eq (Option.some.inj e2))
   ·rw [hL]
    obtain ⟨a9,c9,e9,_⟩:=bQ h2
    exact fun _ _=>⟨a9,_,c9,e9⟩
  rcases hcc9 with ⟨rfl,rfl⟩ | ⟨p,rfl,hcc⟩
  ·have hr:=jS (P:=P) (w:=w) w0.heap.size t ty e inf inf.size hU hinf (a.eval (.tmp tx)) gn gxs c hrow
   have hn:news=[]:=List.eq_nil_of_length_eq_zero (by simpa using hl)
   subst hn
   refine fin _ w hr (by rw [List.append_nil,Nat.add_zero];exact hrow) ⟨rfl,rfl,rfl,Nat.le_refl _,fun _ _ _=>rfl⟩ (.inl rfl)
  ·obtain ⟨v',W',hr,h2,h3,h4⟩:=gW (P:=P) (w:=w) w0.heap.size t ty e inf z hU hinf hz hzs hsz (a.eval (.tmp tx)) gn gxs hrow p m c news hl hcc h1 h63 hbytes hg.1.below.size
   exact fin v' W' hr h2 h3 h4
theorem lP {T e:TypeId} {tx tyy ja jy b off nn c gi:Nat} (hie:E.contains i=true) (hi:ops[i]?=some ⟨none,.store T (.tmp tx) (.tmp tyy),ty,pos,aft_,none⟩)
  (hA_:al.all (fun q => !Nat.beq q.a i)=true) (hst_:al.all (fun q => !Nat.beq q.st i)=true)
  (hwx:bG ops i ja tx=true) (hLa:atI L ja=isV (.pointer (some ⟨b,off,none⟩))) (hwy:bG ops i jy tyy=true) (hLy:atI L jy=gZ) (hL:atI L i=gZ) (hjy:E.contains jy=true)
  (hsz:∀ w,(sizeOf T).run P w = .ok 1 w) (hoff:Nat.ble (off+1) (nn * 1)=true)
  (hG:∀ s y,Kn ops E i s→s jy=some y→∃ gxs,(G s)[gi]?=some ⟨.slice (some ⟨b,0,none⟩) nn c,nn,gxs,e,1⟩∧G (upd s i y)=(G s).set gi ⟨.slice (some ⟨b,0,none⟩) nn c,nn,fR gxs off [y],e,1⟩):SY P n ops opf Q l w0 K lo al Ob G E L i :=
 nZ hie hi fun t0 a s w h0 hF hg hk hD hD'=>by
  have hA:=a_ne hA_
  have hst:=rH hst_
  have hO:∀ v,OY al Ob (upd s i v)=OY al Ob s:=fun v=>by unfold OY;rw [kT hA hst]
  have hx:=(hD ja tx hwx).2
  rw [hLa] at hx
  have ex:a.eval (.tmp tx) = .pointer (some ⟨b,off,none⟩):=hx.here
  have hy:=(hD jy tyy hwy).2
  have hsy:=(hD jy tyy hwy).1 (List.contains_iff_mem.1 hjy)
  rw [hLy] at hy
  obtain ⟨a9,m9,c9,hsl⟩:=hy.here
  have hc:(a.eval (.tmp tyy)).cells=[a.eval (.tmp tyy)].toArray:=by rw [hsl];rfl
  have h1:[a.eval (.tmp tyy)].all Value.oneCell'=true:=by rw [hsl];rfl
  obtain ⟨gxs,hgi,hset⟩:=hG s _ hk hsy
  have hoff':off+1≤nn * 1:=Nat.le_of_ble_eq_true hoff
  have hXB:XB (OY al Ob s) (G s) b:=.inr ⟨_,List.mem_of_getElem? hgi,rfl⟩
  obtain ⟨cs,hcs,hcl⟩:∃ cs:List Value,w.heap[b]?=some (.cells cs.toArray e (0,0))∧nn * 1≤cs.length:=by
   have hr:=(hg.1.rows _ (List.mem_of_getElem? hgi)).1
   rcases hr.2 with ⟨e1,e2⟩ | ⟨g,cap,cur,e1,hg',hh,hn2,hm,hs,ht⟩
   ·cases e1
   ·injection e1 with e1 _ _
    injection e1 with e1
    injection e1 with e1 _ _
    subst e1
    exact ⟨cur.toList,by simpa using hh,by
     have h9:=Nat.mul_le_mul_right 1 hn2
     simp only [Array.length_toList];dsimp only at hs h9;omega⟩
  have hrun:=nE (P:=P) hsz hc rfl h1 hcs (j:=off) (by omega)
  have hX:∀ b,XB (OY al Ob (upd s i (a.eval (.tmp tyy)))) (G (upd s i (a.eval (.tmp tyy)))) b→XB (OY al Ob s) (G s) b:=by
   intro b' hb
   rw [hO,hset] at hb
   rcases hb with h | ⟨g,hg2,e1⟩
   ·exact .inl h
   ·rcases List.mem_or_eq_of_mem_set hg2 with hg2 | rfl
    ·exact .inr ⟨g,hg2,e1⟩
    ·exact .inr ⟨_,List.mem_of_getElem? hgi,e1⟩
  have hsame:eQ 0 (XB (OY al Ob s) (G s)) w (setMany w b off [a.eval (.tmp tyy)]):=mD hXB
  refine uI hi rfl rfl rfl (by rw [ex];exact hrun) ⟨undef,a.eval (.tmp tyy),rfl,(fun d hd=>by cases hd),?_,hsame,fun b hb=>.inl (hX b hb),?_⟩
  ·rw [hO,hset]
   exact hg.1.setRowMany gi [a.eval (.tmp tyy)] off hgi (by show off+1≤nn * 1;omega)
  ·rw [hL]
   exact fun _ _=>⟨a9,m9,c9,hsl⟩
end
theorem jT {lo:Nat} {e:TypeId} {u:Value}:∀ v w,fQ lo 1 e [u] v w→∃ ad c,v = .slice ad 1 c∧((ad=none∧1=0)∨∃ p,ad=some p∧∀ (j:Nat) u',[u][j]?=some u'→w.cell? (p.add j)=some u'):=fun v w ⟨B,hv,_,hc⟩=>⟨_,_,hv,.inr ⟨_,rfl,fun j u' hj=>by
 cases j with
 | zero =>
  have e9:u=u':=by simpa using hj
  subst e9
  exact aD (j:=0) hc rfl
 | succ j=>simp at hj⟩⟩
def GA3 (base:bN) (pb:Nat) (T e:TypeId) (a0 a1 a2 v1 v2 v3:Value) (m:Nat) (x1 x2 x3:List Value) (u1 u2 u3:Value) (i1 i2 i3 j1 j2:Nat) (s:Sy):bN :=
 ⟨.slice (some ⟨pb,0,none⟩) 6 6,6,[a0,a1,a2,(match s j1 with | none=>v1 | some _=>(s i1).getD v1),(match s j2 with | none=>v2 | some _=>(s i2).getD v2),v3],T,1⟩ ::
 (match s i1 with | none=>⟨v1,m,x1,e,1⟩ | some v=>⟨v,m+1,x1++[u1],e,1⟩) ::
 (match s i2 with | none=>⟨v2,m,x2,e,1⟩ | some v=>⟨v,m+1,x2++[u2],e,1⟩) ::
 (match s i3 with | none=>⟨v3,m,x3,e,1⟩ | some v=>⟨v,m+1,x3++[u3],e,1⟩)::base
section
variable {base:bN} {pb:Nat} {T e:TypeId} {a0 a1 a2 v1 v2 v3:Value} {m:Nat} {x1 x2 x3:List Value} {u1 u2 u3:Value} {i1 i2 i3 j1 j2:Nat} {s:Sy}
theorem ga3_1 (h:s i1=none) (h2:i2≠i1) (h3:i3≠i1) (h4:j1≠i1) (h5:j2≠i1) (hj1:s j1=none):(GA3 base pb T e a0 a1 a2 v1 v2 v3 m x1 x2 x3 u1 u2 u3 i1 i2 i3 j1 j2 s)[1]?=some ⟨v1,m,x1,e,1⟩∧∀ v',GA3 base pb T e a0 a1 a2 v1 v2 v3 m x1 x2 x3 u1 u2 u3 i1 i2 i3 j1 j2 (upd s i1 v')=(GA3 base pb T e a0 a1 a2 v1 v2 v3 m x1 x2 x3 u1 u2 u3 i1 i2 i3 j1 j2 s).set 1 ⟨v',m+1,x1++[u1],e,1⟩:=by
 unfold GA3
 refine ⟨by rw [h];rfl,fun v'=>?_⟩
 rw [jJ,dE _ _ h2,dE _ _ h3,dE _ _ h4,dE _ _ h5,hj1];rfl
theorem ga3_2 (h:s i2=none) (h1:i1≠i2) (h3:i3≠i2) (h4:j1≠i2) (h5:j2≠i2) (hj2:s j2=none):(GA3 base pb T e a0 a1 a2 v1 v2 v3 m x1 x2 x3 u1 u2 u3 i1 i2 i3 j1 j2 s)[2]?=some ⟨v2,m,x2,e,1⟩∧∀ v',GA3 base pb T e a0 a1 a2 v1 v2 v3 m x1 x2 x3 u1 u2 u3 i1 i2 i3 j1 j2 (upd s i2 v')=(GA3 base pb T e a0 a1 a2 v1 v2 v3 m x1 x2 x3 u1 u2 u3 i1 i2 i3 j1 j2 s).set 2 ⟨v',m+1,x2++[u2],e,1⟩:=by
 unfold GA3
 refine ⟨by rw [h];rfl,fun v'=>?_⟩
 rw [jJ,dE _ _ h1,dE _ _ h3,dE _ _ h4,dE _ _ h5,hj2];rfl
theorem ga3_3 (h:s i3=none) (h1:i1≠i3) (h2:i2≠i3) (h4:j1≠i3) (h5:j2≠i3):(GA3 base pb T e a0 a1 a2 v1 v2 v3 m x1 x2 x3 u1 u2 u3 i1 i2 i3 j1 j2 s)[3]?=some ⟨v3,m,x3,e,1⟩∧∀ v',GA3 base pb T e a0 a1 a2 v1 v2 v3 m x1 x2 x3 u1 u2 u3 i1 i2 i3 j1 j2 (upd s i3 v')=(GA3 base pb T e a0 a1 a2 v1 v2 v3 m x1 x2 x3 u1 u2 u3 i1 i2 i3 j1 j2 s).set 3 ⟨v',m+1,x3++[u3],e,1⟩:=by
 unfold GA3
 refine ⟨by rw [h];rfl,fun v'=>?_⟩
 rw [jJ,dE _ _ h1,dE _ _ h2,dE _ _ h4,dE _ _ h5];rfl
theorem ga3_4 {y:Value} (hy:s i1=some y) (h:s j1=none) (h1:i1≠j1) (h2:i2≠j1) (h3:i3≠j1) (h5:j2≠j1):∃ gxs,(GA3 base pb T e a0 a1 a2 v1 v2 v3 m x1 x2 x3 u1 u2 u3 i1 i2 i3 j1 j2 s)[0]?=some ⟨.slice (some ⟨pb,0,none⟩) 6 6,6,gxs,T,1⟩∧GA3 base pb T e a0 a1 a2 v1 v2 v3 m x1 x2 x3 u1 u2 u3 i1 i2 i3 j1 j2 (upd s j1 y)=(GA3 base pb T e a0 a1 a2 v1 v2 v3 m x1 x2 x3 u1 u2 u3 i1 i2 i3 j1 j2 s).set 0 ⟨.slice (some ⟨pb,0,none⟩) 6 6,6,fR gxs 3 [y],T,1⟩:=by
 refine ⟨_,rfl,?_⟩
 unfold GA3
 rw [jJ,dE _ _ h1,dE _ _ h2,dE _ _ h3,dE _ _ h5,hy];rfl
theorem ga3_5 {y:Value} (hy:s i2=some y) (h:s j2=none) (h1:i1≠j2) (h2:i2≠j2) (h3:i3≠j2) (h5:j1≠j2):∃ gxs,(GA3 base pb T e a0 a1 a2 v1 v2 v3 m x1 x2 x3 u1 u2 u3 i1 i2 i3 j1 j2 s)[0]?=some ⟨.slice (some ⟨pb,0,none⟩) 6 6,6,gxs,T,1⟩∧GA3 base pb T e a0 a1 a2 v1 v2 v3 m x1 x2 x3 u1 u2 u3 i1 i2 i3 j1 j2 (upd s j2 y)=(GA3 base pb T e a0 a1 a2 v1 v2 v3 m x1 x2 x3 u1 u2 u3 i1 i2 i3 j1 j2 s).set 0 ⟨.slice (some ⟨pb,0,none⟩) 6 6,6,fR gxs 4 [y],T,1⟩:=by
 refine ⟨_,rfl,?_⟩
 unfold GA3
 rw [jJ,dE _ _ h1,dE _ _ h2,dE _ _ h3,dE _ _ h5,hy];rfl
theorem yG {y1 y2 y3 z1 z2:Value} (h1:s i1=some y1) (h2:s i2=some y2) (h3:s i3=some y3) (h4:s j1=some z1) (h5:s j2=some z2):GA3 base pb T e a0 a1 a2 v1 v2 v3 m x1 x2 x3 u1 u2 u3 i1 i2 i3 j1 j2 s=⟨.slice (some ⟨pb,0,none⟩) 6 6,6,[a0,a1,a2,y1,y2,v3],T,1⟩::⟨y1,m+1,x1++[u1],e,1⟩::⟨y2,m+1,x2++[u2],e,1⟩::⟨y3,m+1,x3++[u3],e,1⟩::base:=by
 unfold GA3
 rw [h1,h2,h3,h4,h5];rfl
end
end
section
structure FA where
 n:Nat
 k:Nat
 nx:Nat→Nat→Nat
 ac:Nat→Bool
structure FA.Ok (A:FA):Prop where
 pos:0 < A.n
 t0_:∀ s x,s < A.n→x < A.k→A.nx s x < A.n
def FA.run (A:FA):Nat→List Nat→Nat
 | s,[]=>s
 | s,x::u=>A.run (A.nx s x) u
def FA.acc (A:FA) (s:Nat) (u:List Nat):Bool:=A.ac (A.run s u)
def Wd (k:Nat) (u:List Nat):Prop:=∀ x∈u,x < k
theorem Wd.tail {k x:Nat} {u:List Nat} (h:Wd k (x::u)):Wd k u:=fun y hy=>h y (List.mem_cons_of_mem _ hy)
theorem Wd.head {k x:Nat} {u:List Nat} (h:Wd k (x::u)):x < k:=h x List.mem_cons_self
theorem Wd.cons {k x:Nat} {u:List Nat} (hx:x < k) (h:Wd k u):Wd k (x::u):=fun y hy=>by
 rcases List.mem_cons.1 hy with rfl | hy
 ·exact hx
 ·exact h y hy
theorem FA.run_lt {A:FA} (h:A.Ok):∀ {u:List Nat} {s:Nat},s < A.n→Wd A.k u→A.run s u < A.n
 | [],s,hs,_=>hs
 | x::u,s,hs,hu=>show A.run (A.nx s x) u < A.n from FA.run_lt h (h.t0_ s x hs hu.head) hu.tail
def Eqv (A:FA) (s:Nat) (B:FA) (t:Nat):Prop:=∀ u,Wd A.k u→A.acc s u=B.acc t u
theorem Eqv.nx {A B:FA} {s t x:Nat} (h:Eqv A s B t) (hx:x < A.k):Eqv A (A.nx s x) B (B.nx t x):=fun u hu=>h (x::u) (hu.cons hx)
theorem Eqv.symm {A B:FA} {s t:Nat} (hk:A.k=B.k) (h:Eqv A s B t):Eqv B t A s:=fun u hu=>(h u (by rw [hk];exact hu)).symm
theorem Eqv.trans {A B C:FA} {s t r:Nat} (hk:A.k=B.k) (h:Eqv A s B t) (h2:Eqv B t C r):Eqv A s C r:=fun u hu=>(h u hu).trans (h2 u (by rw [← hk];exact hu))
def mxF (f:Nat→Nat):Nat→Nat
 | 0=>0
 | p+1=>max (mxF f p) (f p)
theorem pZ {f:Nat→Nat} {p:Nat}:∀ {q:Nat},p≤q→mxF f p≤mxF f q
 | 0,h=>by rw [show p=0 by omega];exact Nat.le_refl _
 | q+1,h=>by
  rcases Nat.lt_or_ge q p with h1 | h1
  ·rw [show p=q+1 by omega];exact Nat.le_refl _
  ·exact Nat.le_trans (pZ h1) (Nat.le_max_left _ _)
theorem qA {f g:Nat→Nat}:∀ {p:Nat},(∀ q,q < p→f q=g q)→mxF f p=mxF g p
 | 0,_=>rfl
 | p+1,h=>by
  unfold mxF
  rw [qA (fun q hq=>h q (by omega)),h p (Nat.lt_succ_self _)]
theorem sP {f:Nat→Nat} {n:Nat} (hn:0 < n):∀ {p:Nat},(∀ q,q < p→f q < n)→mxF f p < n
 | 0,_=>hn
 | p+1,h=>by
  unfold mxF
  have h1:=sP hn (p:=p) (fun q hq=>h q (by omega))
  have h2:=h p (Nat.lt_succ_self _)
  exact Nat.max_lt.2 ⟨h1,h2⟩
def FA.fl (A:FA) (p:Nat):Nat:=A.nx (p / A.k) (p % A.k)
theorem dM {p n k:Nat} (h:p < n * k):p / k < n∧p % k < k∧p / k * k≤p:=by
 have hk:0 < k:=by
  rcases Nat.eq_zero_or_pos k with h0 | h0
  ·subst h0;omega
  ·exact h0
 exact ⟨(Nat.div_lt_iff_lt_mul hk).2 h,Nat.mod_lt _ hk,Nat.div_mul_le_self p k⟩
theorem dY {k i x:Nat} (hx:x < k):(i * k+x) / k=i∧(i * k+x) % k=x:=by
 have hk:0 < k:=by omega
 refine ⟨?_,?_⟩
 ·rw [Nat.add_comm,Nat.add_mul_div_right _ _ hk,Nat.div_eq_of_lt hx,Nat.zero_add]
 ·rw [Nat.add_comm,Nat.add_mul_mod_self_right,Nat.mod_eq_of_lt hx]
theorem iG {i n k x:Nat} (hi:i < n) (hx:x < k):i * k+x < n * k:=by
 have h1:(i+1) * k≤n * k:=Nat.mul_le_mul_right k hi
 rw [Nat.succ_mul] at h1;omega
theorem FA.fl_at {A:FA} {i x:Nat} (hx:x < A.k):A.fl (i * A.k+x)=A.nx i x:=by
 unfold FA.fl;rw [(dY hx).1,(dY hx).2]
theorem FA.fl_lt {A:FA} (h:A.Ok) {p:Nat} (hp:p < A.n * A.k):A.fl p < A.n:=by
 obtain ⟨h1,h2,_⟩:=dM hp
 exact h.t0_ _ _ h1 h2
structure FA.Ord (A:FA):Prop where
 one:∀ p,p < A.n * A.k→A.fl p≤mxF A.fl p+1
 row:∀ i,i < A.n→i≤mxF A.fl (i * A.k)
def FA.Red (A:FA):Prop:=∀ s t,s < A.n→t < A.n→Eqv A s A t→s=t
section
variable {A B:FA}
theorem oC (hA:A.Ok) (hB:B.Ok) (oA:A.Ord) (oB:B.Ord) (rA:A.Red) (rB:B.Red) (hk:A.k=B.k) (h0:Eqv A 0 B 0):∀ p,p≤A.n * A.k→p≤B.n * B.k→(∀ q,q < p→A.fl q=B.fl q)∧∀ i,i≤mxF A.fl p→Eqv A i B i
 | 0,_,_=>⟨fun q hq=>absurd hq (Nat.not_lt_zero _),fun i hi=>by rw [show i=0 from Nat.le_zero.1 hi];exact h0⟩
 | p+1,h1,h2=>by
  obtain ⟨e,ih⟩:=oC hA hB oA oB rA rB hk h0 p (by omega) (by omega)
  obtain ⟨hi,hx,hle⟩:=dM (show p < A.n * A.k by omega)
  have hm:mxF A.fl p=mxF B.fl p:=qA e
  have hst:Eqv A (p / A.k) B (p / A.k):=ih _ (Nat.le_trans (oA.row _ hi) (pZ hle))
  have hab:Eqv A (A.fl p) B (B.fl p):=by
   have h9:=hst.nx hx
   unfold FA.fl
   rw [← hk];exact h9
  have hmA:mxF A.fl p < A.n:=sP hA.pos fun q hq=>FA.fl_lt hA (by omega)
  have hmB:mxF A.fl p < B.n:=by rw [hm];exact sP hB.pos fun q hq=>FA.fl_lt hB (by omega)
  have oa:=oA.one p (by omega)
  have ob:=oB.one p (by omega)
  rw [← hm] at ob
  have hfA:=FA.fl_lt hA (show p < A.n * A.k by omega)
  have hfB:=FA.fl_lt hB (show p < B.n * B.k by omega)
  have hE:A.fl p=B.fl p:=by
   rcases Nat.lt_or_ge (mxF A.fl p) (A.fl p) with ha | ha
   ·rcases Nat.lt_or_ge (mxF A.fl p) (B.fl p) with hb | hb
    ·omega
    ·have h9:=ih _ hb
     exact rA _ _ hfA (by omega) (hab.trans hk (h9.symm hk))
   ·have h9:=ih _ ha
    exact rB _ _ (by omega) hfB ((h9.symm hk).trans hk.symm hab)
  refine ⟨fun q hq=>?_,fun i hi2=>?_⟩
  ·rcases Nat.lt_or_ge q p with h9 | h9
   ·exact e q h9
   ·rw [show q=p by omega];exact hE
  ·unfold mxF at hi2
   rcases Nat.lt_or_ge (mxF A.fl p) i with h9 | h9
   ·have h8:i=A.fl p:=by
     have:=Nat.le_max_left (mxF A.fl p) (A.fl p)
     have h7:max (mxF A.fl p) (A.fl p)=A.fl p:=Nat.max_eq_right (by omega)
     omega
    rw [h8]
    have h6:=hab
    rw [← hE] at h6
    exact h6
   ·exact ih i h9
theorem yH (hA:A.Ok) (hB:B.Ok) (oA:A.Ord) (oB:B.Ord) (rA:A.Red) (rB:B.Red) (hk:A.k=B.k) (h0:Eqv A 0 B 0):B.n≤A.n:=by
 rcases Nat.lt_or_ge A.n B.n with h | h
 ·have hle:A.n * A.k≤B.n * B.k:=by rw [← hk];exact Nat.mul_le_mul_right _ (by omega)
  obtain ⟨e,_⟩:=oC hA hB oA oB rA rB hk h0 (A.n * A.k) (Nat.le_refl _) hle
  have h1:=oB.row A.n h
  have h3:mxF A.fl (A.n * A.k)=mxF B.fl (A.n * A.k):=qA e
  rw [← hk,← h3] at h1
  have h2:=sP (f:=A.fl) hA.pos (p:=A.n * A.k) fun q hq=>FA.fl_lt hA hq
  omega
 ·exact h
theorem nH (hA:A.Ok) (hB:B.Ok) (oA:A.Ord) (oB:B.Ord) (rA:A.Red) (rB:B.Red) (hk:A.k=B.k) (h0:Eqv A 0 B 0):A.n=B.n∧(∀ p,p < A.n * A.k→A.fl p=B.fl p)∧∀ s,s < A.n→A.ac s=B.ac s:=by
 have h1:=yH hA hB oA oB rA rB hk h0
 have h2:=yH hB hA oB oA rB rA hk.symm (h0.symm hk)
 have hn:A.n=B.n:=by omega
 obtain ⟨e,ih⟩:=oC hA hB oA oB rA rB hk h0 (A.n * A.k) (Nat.le_refl _) (by rw [hn,hk];exact Nat.le_refl _)
 refine ⟨hn,e,fun s hs=>ih s (Nat.le_trans (oA.row s hs) (pZ (Nat.mul_le_mul_right _ (by omega)))) [] (fun x hx=>by cases hx)⟩
end
def qm (A:FA) (cls:Nat→Nat):Nat→List Nat
 | 0=>[0]
 | p+1=>if ((qm A cls p).map cls).contains (cls (A.nx ((qm A cls p).getD (p / A.k) 0) (p % A.k)))=true then qm A cls p else qm A cls p++[A.nx ((qm A cls p).getD (p / A.k) 0) (p % A.k)]
section
variable {A:FA} {cls:Nat→Nat}
theorem jK {p:Nat} (h:((qm A cls p).map cls).contains (cls (A.nx ((qm A cls p).getD (p / A.k) 0) (p % A.k)))=true):qm A cls (p+1)=qm A cls p:=by rw [qm,if_pos h]
theorem iZ {p:Nat} (h:¬ ((qm A cls p).map cls).contains (cls (A.nx ((qm A cls p).getD (p / A.k) 0) (p % A.k)))=true):qm A cls (p+1)=qm A cls p++[A.nx ((qm A cls p).getD (p / A.k) 0) (p % A.k)]:=by rw [qm,if_neg h]
theorem qB {p:Nat}:∀ {q:Nat},p≤q→qm A cls p <+: qm A cls q
 | 0,h=>by rw [show p=0 by omega];exact List.prefix_refl _
 | q+1,h=>by
  rcases Nat.lt_or_ge q p with h1 | h1
  ·rw [show p=q+1 by omega];exact List.prefix_refl _
  ·have h2:=qB (q:=q) h1
   by_cases h9:((qm A cls q).map cls).contains (cls (A.nx ((qm A cls q).getD (q / A.k) 0) (q % A.k)))=true
   ·rw [jK h9];exact h2
   ·rw [iZ h9];exact h2.trans (List.prefix_append _ _)
theorem dQ {p q:Nat} (h:p≤q):(qm A cls p).length≤(qm A cls q).length:=(qB h).length_le
theorem kC (p:Nat):0 < (qm A cls p).length:=by
 have:=dQ (A:=A) (cls:=cls) (Nat.zero_le p)
 have h1:(qm A cls 0).length=1:=rfl
 omega
theorem eB {p q i:Nat} (h:p≤q) (hi:i < (qm A cls p).length):(qm A cls q).getD i 0=(qm A cls p).getD i 0:=by
 obtain ⟨t,ht⟩:=qB (A:=A) (cls:=cls) h
 rw [← ht,List.getD_eq_getElem?_getD,List.getD_eq_getElem?_getD,List.getElem?_append_left hi]
def eR (A:FA) (cls:Nat→Nat) (p:Nat):Prop:=∀ q,q < p→q / A.k < (qm A cls q).length
theorem uL (h:A.Ok) (hk:0 < A.k):∀ {p:Nat},eR A cls p→∀ s∈qm A cls p,s < A.n
 | 0,_,s,hs=>by
  rw [List.mem_singleton.1 hs];exact h.pos
 | p+1,hr,s,hs=>by
  have ih:=uL h hk (p:=p) (fun q hq=>hr q (by omega))
  by_cases h9:((qm A cls p).map cls).contains (cls (A.nx ((qm A cls p).getD (p / A.k) 0) (p % A.k)))=true
  ·rw [jK h9] at hs;exact ih s hs
  ·rw [iZ h9] at hs
   rcases List.mem_append.1 hs with hs | hs
   ·exact ih s hs
   ·rw [List.mem_singleton.1 hs]
    have h1:=hr p (Nat.lt_succ_self _)
    refine h.t0_ _ _ (ih _ ?_) (Nat.mod_lt _ hk)
    rw [List.getD_eq_getElem?_getD,List.getElem?_eq_getElem h1]
    exact List.getElem_mem h1
theorem kU:∀ {p:Nat},((qm A cls p).map cls).Nodup
 | 0=>by unfold qm;simp
 | p+1=>by
  by_cases h:((qm A cls p).map cls).contains (cls (A.nx ((qm A cls p).getD (p / A.k) 0) (p % A.k)))=true
  ·rw [jK h];exact kU
  ·rw [iZ h,List.map_append,List.nodup_append]
   refine ⟨kU,by simp,fun a ha b hb e=>?_⟩
   rw [List.map_cons,List.map_nil,List.mem_singleton] at hb
   subst hb
   subst e
   exact h (by simpa using ha)
def qix (A:FA) (cls:Nat→Nat) (p c:Nat):Nat:=((qm A cls p).map cls).idxOf c
def qfl (A:FA) (cls:Nat→Nat) (p:Nat):Nat:=qix A cls (p+1) (cls (A.nx ((qm A cls p).getD (p / A.k) 0) (p % A.k)))
theorem qmem (p:Nat):cls (A.nx ((qm A cls p).getD (p / A.k) 0) (p % A.k))∈(qm A cls (p+1)).map cls:=by
 by_cases h:((qm A cls p).map cls).contains (cls (A.nx ((qm A cls p).getD (p / A.k) 0) (p % A.k)))=true
 ·rw [jK h];simpa using h
 ·rw [iZ h,List.map_append];exact List.mem_append_right _ (List.mem_singleton.2 rfl)
theorem Ac {l m:List Nat} {c:Nat} (h:l <+: m) (hc:c∈l):m.idxOf c=l.idxOf c:=by
 obtain ⟨t,rfl⟩:=h
 rw [List.idxOf_append,if_pos hc]
theorem qix_up {p q c:Nat} (h:p≤q) (hc:c∈(qm A cls p).map cls):qix A cls q c=qix A cls p c:=Ac ((qB h).map cls) hc
theorem wQ {p c:Nat} (hc:c∈(qm A cls p).map cls):qix A cls p c < (qm A cls p).length:=by
 have:=List.idxOf_lt_length_of_mem hc
 rw [List.length_map] at this;exact this
theorem qfl_new {p:Nat} (h:¬ ((qm A cls p).map cls).contains (cls (A.nx ((qm A cls p).getD (p / A.k) 0) (p % A.k)))=true):qfl A cls p=(qm A cls p).length:=by
 unfold qfl qix
 rw [iZ h,List.map_append,List.idxOf_append,if_neg (by simpa using h),List.map_cons,List.map_nil,List.idxOf_cons_self,List.length_map,Nat.zero_add]
theorem yI:∀ p,(qm A cls p).length=mxF (qfl A cls) p+1
 | 0=>rfl
 | p+1=>by
  have ih:=yI p
  unfold mxF
  by_cases h:((qm A cls p).map cls).contains (cls (A.nx ((qm A cls p).getD (p / A.k) 0) (p % A.k)))=true
  ·have h1:qfl A cls p < (qm A cls p).length:=by
    unfold qfl
    rw [qix_up (Nat.le_succ p) (by simpa using h)]
    exact wQ (by simpa using h)
   rw [jK h,Nat.max_eq_left (by omega)]
   exact ih
  ·rw [qfl_new h,iZ h,List.length_append,List.length_singleton,Nat.max_eq_right (by omega)]
def quo (A:FA) (cls:Nat→Nat) (N:Nat):FA:=⟨N,A.k,fun i x=>qfl A cls (i * A.k+x),fun i=>A.ac ((qm A cls (N * A.k)).getD i 0)⟩
structure QuoOk (A:FA) (cls:Nat→Nat) (N:Nat):Prop where
 ok:A.Ok
 len:(qm A cls (N * A.k)).length=N
 rows:∀ i,i < N→i < (qm A cls (i * A.k)).length
theorem QuoOk.pos {N:Nat} (h:QuoOk A cls N):0 < N:=by have:=kC (A:=A) (cls:=cls) (N * A.k);rw [h.len] at this;exact this
theorem QuoOk.rowsOk {N:Nat} (h:QuoOk A cls N):eR A cls (N * A.k):=fun q hq=>by
 obtain ⟨h1,_,h3⟩:=dM hq
 exact Nat.lt_of_lt_of_le (h.rows _ h1) (dQ h3)
theorem Bj {N p:Nat} (hk:0 < A.k):(quo A cls N).fl p=qfl A cls p:=by
 unfold FA.fl quo
 dsimp only
 congr 1
 rw [Nat.mul_comm];exact Nat.div_add_mod p A.k
theorem Bk {N p:Nat} (hk:0 < A.k):mxF (quo A cls N).fl p=mxF (qfl A cls) p:=qA fun q _=>Bj hk
theorem yJ {N:Nat} (h:QuoOk A cls N):(quo A cls N).Ord:=by
 rcases Nat.eq_zero_or_pos A.k with h0 | hk
 ·refine ⟨fun p hp=>?_,fun i hi=>?_⟩
  ·have:(quo A cls N).k=0:=h0
   rw [this] at hp;omega
  ·have h1:=h.rows i hi
   rw [h0,Nat.mul_zero] at h1
   have h2:(qm A cls 0).length=1:=rfl
   omega
 ·refine ⟨fun p hp=>?_,fun i hi=>?_⟩
  ·rw [Bj hk,Bk hk]
   have h1:=yI (A:=A) (cls:=cls) p
   have h2:=yI (A:=A) (cls:=cls) (p+1)
   have h3:(qm A cls (p+1)).length≤(qm A cls p).length+1:=by
    by_cases h9:((qm A cls p).map cls).contains (cls (A.nx ((qm A cls p).getD (p / A.k) 0) (p % A.k)))=true
    ·rw [jK h9];omega
    ·rw [iZ h9,List.length_append,List.length_singleton];omega
   unfold mxF at h2
   have h4:=Nat.le_max_right (mxF (qfl A cls) p) (qfl A cls p)
   omega
  ·rw [Bk hk]
   have h1:=h.rows i hi
   have h2:=yI (A:=A) (cls:=cls) (i * A.k)
   show i≤mxF (qfl A cls) (i * A.k)
   omega
theorem sQ {N:Nat} (h:QuoOk A cls N) {p:Nat} (hp:p < N * A.k):qfl A cls p < N:=by
 unfold qfl
 have h1:=wQ (qmem (A:=A) (cls:=cls) p)
 have h2:=dQ (A:=A) (cls:=cls) (show p+1≤N * A.k by omega)
 rw [h.len] at h2;omega
structure Cong (A:FA) (cls:Nat→Nat):Prop where
 ac:∀ s t,s < A.n→t < A.n→cls s=cls t→A.ac s=A.ac t
 nx:∀ s t x,s < A.n→t < A.n→x < A.k→cls s=cls t→cls (A.nx s x)=cls (A.nx t x)
theorem kV {l:List Nat} {i:Nat} (h:i < l.length):(l.map cls).getD i 0=cls (l.getD i 0):=by
 rw [List.getD_eq_getElem?_getD,List.getD_eq_getElem?_getD,List.getElem?_map,List.getElem?_eq_getElem h];rfl
theorem Bl {l:List Nat} {c:Nat} (h:c∈l):l.getD (l.idxOf c) 0=c:=by
 have h1:=List.idxOf_lt_length_of_mem h
 rw [List.getD_eq_getElem?_getD,List.getElem?_eq_getElem h1]
 exact List.getElem_idxOf h1
theorem quo_rep {N p:Nat} (h:QuoOk A cls N) (hp:p < N * A.k):cls ((qm A cls (N * A.k)).getD (qfl A cls p) 0)=cls (A.nx ((qm A cls (N * A.k)).getD (p / A.k) 0) (p % A.k)):=by
 obtain ⟨h1,_,h3⟩:=dM hp
 have h4:p / A.k < (qm A cls p).length:=h.rowsOk p hp
 rw [eB (by omega) h4]
 have hm:=qmem (A:=A) (cls:=cls) p
 have h5:qfl A cls p < (qm A cls (p+1)).length:=wQ hm
 rw [eB (show p+1≤N * A.k by omega) h5,← kV (cls:=cls) h5]
 exact Bl hm
theorem pA {N:Nat} (h:QuoOk A cls N) (hc:Cong A cls):∀ (u:List Nat),Wd A.k u→∀ i s,i < N→s < A.n→cls s=cls ((qm A cls (N * A.k)).getD i 0)→(quo A cls N).acc i u=A.acc s u
 | [],_,i,s,hi,hs,e=>by
  show A.ac ((qm A cls (N * A.k)).getD i 0)=A.ac s
  refine (hc.ac _ _ hs ?_ e).symm
  rcases Nat.eq_zero_or_pos A.k with h0 | hk
  ·have hl:=h.len
   rw [h0,Nat.mul_zero] at hl ⊢
   have hl2:(qm A cls 0).length=1:=rfl
   rw [show i=0 by omega]
   exact h.ok.pos
  ·refine uL h.ok hk h.rowsOk _ ?_
   have hi2:i < (qm A cls (N * A.k)).length:=by rw [h.len];exact hi
   rw [List.getD_eq_getElem?_getD,List.getElem?_eq_getElem hi2]
   exact List.getElem_mem hi2
 | x::u,hu,i,s,hi,hs,e=>by
  have hx:=hu.head
  have hp:=iG hi hx
  have hrl:(qm A cls (N * A.k)).getD i 0 < A.n:=by
   refine uL h.ok (by omega) h.rowsOk _ ?_
   have hi2:i < (qm A cls (N * A.k)).length:=by rw [h.len];exact hi
   rw [List.getD_eq_getElem?_getD,List.getElem?_eq_getElem hi2]
   exact List.getElem_mem hi2
  show (quo A cls N).acc (qfl A cls (i * A.k+x)) u=A.acc (A.nx s x) u
  refine pA h hc u hu.tail _ _ (sQ h hp) (h.ok.t0_ _ _ hs hx) ?_
  rw [quo_rep h hp,(dY hx).1,(dY hx).2]
  exact hc.nx _ _ _ hs hrl hx e
theorem Bm {N:Nat} (h:QuoOk A cls N):(qm A cls (N * A.k)).getD 0 0=0:=by
 rw [eB (Nat.zero_le _) (kC 0)];rfl
theorem nI {N:Nat} (h:QuoOk A cls N) (hc:Cong A cls):Eqv (quo A cls N) 0 A 0:=fun u hu=>pA h hc u hu 0 0 h.pos h.ok.pos (by rw [Bm h])
theorem mM {l:List Nat} (h:l.Nodup) {i j:Nat} (hi:i < l.length) (hj:j < l.length) (e:l.getD i 0=l.getD j 0):i=j:=by
 rw [List.getD_eq_getElem?_getD,List.getD_eq_getElem?_getD,List.getElem?_eq_getElem hi,List.getElem?_eq_getElem hj] at e
 have e':l[i]=l[j]:=e
 rcases Nat.lt_trichotomy i j with h1 | h1 | h1
 ·exact absurd e' (List.pairwise_iff_getElem.1 h i j hi hj h1)
 ·exact h1
 ·exact absurd e'.symm (List.pairwise_iff_getElem.1 h j i hj hi h1)
theorem yK {N:Nat} (h:QuoOk A cls N) (hc:Cong A cls) (hE:∀ s t,s < A.n→t < A.n→Eqv A s A t→cls s=cls t):(quo A cls N).Red:=fun i j hi hj he=>by
 have hi2:i < (qm A cls (N * A.k)).length:=by rw [h.len];exact hi
 have hj2:j < (qm A cls (N * A.k)).length:=by rw [h.len];exact hj
 have hlt:∀ k,k < N→(qm A cls (N * A.k)).getD k 0 < A.n:=fun k hk=>by
  rcases Nat.eq_zero_or_pos A.k with h0 | h0
  ·have hl:=h.len
   rw [h0,Nat.mul_zero] at hl ⊢
   have hl2:(qm A cls 0).length=1:=rfl
   rw [show k=0 by omega]
   exact h.ok.pos
  ·refine uL h.ok h0 h.rowsOk _ ?_
   have hk2:k < (qm A cls (N * A.k)).length:=by rw [h.len];exact hk
   rw [List.getD_eq_getElem?_getD,List.getElem?_eq_getElem hk2]
   exact List.getElem_mem hk2
 have h1:=hE _ _ (hlt i hi) (hlt j hj) fun u hu=>by
  rw [← pA h hc u hu i _ hi (hlt i hi) rfl,← pA h hc u hu j _ hj (hlt j hj) rfl]
  exact he u hu
 rw [← kV (cls:=cls) hi2,← kV (cls:=cls) hj2] at h1
 exact mM (kU (A:=A) (cls:=cls)) (by rw [List.length_map];exact hi2) (by rw [List.length_map];exact hj2) h1
end
def Sep (A:FA) (blk:Nat→Nat) (p q:Nat):Prop:=∃ S:Nat→Prop,((S p∧¬ S q)∨(S q∧¬ S p))∧(∀ s t,s < A.n→t < A.n→blk s=blk t→(S s↔S t))∧∀ x s t,x < A.k→s < A.n→t < A.n→blk s=blk t→(S (A.nx s x)↔S (A.nx t x))
structure HI (A:FA) (blk:Nat→Nat) (m:Nat) (W:List Nat) (S:Nat→Prop) (j:Nat):Prop where
 lt:∀ s,s < A.n→blk s < m
 ne:∀ b,b < m→∃ s,s < A.n∧blk s=b
 wlt:∀ b∈W,b < m
 eqv:∀ s t,s < A.n→t < A.n→Eqv A s A t→blk s=blk t
 ac:∀ s t,s < A.n→t < A.n→blk s=blk t→A.ac s=A.ac t
 sep:∀ p q,p < A.n→q < A.n→blk p≠blk q→Sep A blk p q∨blk p∈W∨blk q∈W∨(S p∧¬ S q)∨(S q∧¬ S p)
 un:∀ s t,s < A.n→t < A.n→blk s=blk t→(S s↔S t)
 hom:∀ x s t,x < j→s < A.n→t < A.n→blk s=blk t→(S (A.nx s x)↔S (A.nx t x))
def NoS:Nat→Prop:=fun _=>False
section
variable {A:FA} {blk blk':Nat→Nat} {m m':Nat} {W W':List Nat} {S:Nat→Prop} {j:Nat}
theorem HI.pop {b:Nat} (h:HI A blk m (W++[b]) NoS A.k):HI A blk m W (fun s=>blk s=b) 0 where
 lt:=h.lt
 ne:=h.ne
 wlt:=fun c hc=>h.wlt c (List.mem_append_left _ hc)
 eqv:=h.eqv
 ac:=h.ac
 sep:=fun p q hp hq hne=>by
  have key:∀ r,blk r∈W++[b]→blk r∈W∨blk r=b:=fun r hr=>by
   rcases List.mem_append.1 hr with hr | hr
   ·exact .inl hr
   ·exact .inr (List.mem_singleton.1 hr)
  rcases h.sep p q hp hq hne with h1 | h1 | h1 | h1 | h1
  ·exact .inl h1
  ·rcases key p h1 with h2 | h2
   ·exact .inr (.inl h2)
   ·exact .inr (.inr (.inr (.inl ⟨h2,fun h3=>hne (h2.trans h3.symm)⟩)))
  ·rcases key q h1 with h2 | h2
   ·exact .inr (.inr (.inl h2))
   ·exact .inr (.inr (.inr (.inr ⟨h2,fun h3=>hne (h3.trans h2.symm)⟩)))
  ·exact h1.1.elim
  ·exact h1.1.elim
 un:=fun s t _ _ e=>by rw [e]
 hom:=fun x s t hx=>absurd hx (Nat.not_lt_zero _)
theorem Sep.fine {p q:Nat} (h:Sep A blk p q) (hf:∀ s t,s < A.n→t < A.n→blk' s=blk' t→blk s=blk t):Sep A blk' p q:=by
 obtain ⟨T,h1,h2,h3⟩:=h
 exact ⟨T,h1,fun s t hs ht e=>h2 s t hs ht (hf s t hs ht e),fun x s t hx hs ht e=>h3 x s t hx hs ht (hf s t hs ht e)⟩
theorem HI.split (h:HI A blk m W S j) (hA:A.Ok) (hj:j < A.k)
  (ha:∀ s t,s < A.n→t < A.n→(blk' s=blk' t↔blk s=blk t∧(S (A.nx s j)↔S (A.nx t j))))
  (hb:∀ s,s < A.n→blk' s=blk s∨blk' s∈W') (hW:∀ b∈W,b∈W') (hlt:∀ s,s < A.n→blk' s < m') (hne:∀ b,b < m'→∃ s,s < A.n∧blk' s=b) (hwl:∀ b∈W',b < m'):HI A blk' m' W' S (j+1):=by
 have hf:∀ s t,s < A.n→t < A.n→blk' s=blk' t→blk s=blk t:=fun s t hs ht e=>((ha s t hs ht).1 e).1
 refine ⟨hlt,hne,hwl,fun s t hs ht e=>(ha s t hs ht).2 ⟨h.eqv s t hs ht e,?_⟩,fun s t hs ht e=>h.ac s t hs ht (hf s t hs ht e),fun p q hp hq hn=>?_,fun s t hs ht e=>h.un s t hs ht (hf s t hs ht e),fun x s t hx hs ht e=>?_⟩
 ·exact h.un _ _ (hA.t0_ s j hs hj) (hA.t0_ t j ht hj) (h.eqv _ _ (hA.t0_ s j hs hj) (hA.t0_ t j ht hj) (e.nx hj))
 ·rcases hb p hp with h1 | h1
  ·rcases hb q hq with h2 | h2
   ·rcases h.sep p q hp hq (by rw [← h1,← h2];exact hn) with h3 | h3 | h3 | h3
    ·exact .inl (h3.fine hf)
    ·exact .inr (.inl (by rw [h1];exact hW _ h3))
    ·exact .inr (.inr (.inl (by rw [h2];exact hW _ h3)))
    ·exact .inr (.inr (.inr h3))
   ·exact .inr (.inr (.inl h2))
  ·exact .inr (.inl h1)
 ·rcases Nat.lt_or_ge x j with h1 | h1
  ·exact h.hom x s t h1 hs ht (hf s t hs ht e)
  ·rw [show x=j by omega];exact ((ha s t hs ht).1 e).2
theorem HI.done (h:HI A blk m W S A.k):HI A blk m W NoS A.k where
 lt:=h.lt
 ne:=h.ne
 wlt:=h.wlt
 eqv:=h.eqv
 ac:=h.ac
 sep:=fun p q hp hq hne=>by
  rcases h.sep p q hp hq hne with h1 | h1 | h1 | h1
  ·exact .inl h1
  ·exact .inr (.inl h1)
  ·exact .inr (.inr (.inl h1))
  ·exact .inl ⟨S,h1,h.un,h.hom⟩
 un:=fun _ _ _ _ _=>Iff.rfl
 hom:=fun _ _ _ _ _ _ _=>Iff.rfl
theorem HI.end_ (h:HI A blk m [] NoS A.k) (hA:A.Ok):∀ (u:List Nat) (s t:Nat),Wd A.k u→s < A.n→t < A.n→blk s=blk t→A.acc s u=A.acc t u
 | [],s,t,_,hs,ht,e=>h.ac s t hs ht e
 | x::u,s,t,hu,hs,ht,e=>by
  have hx:=hu.head
  have h1:=hA.t0_ s x hs hx
  have h2:=hA.t0_ t x ht hx
  show A.acc (A.nx s x) u=A.acc (A.nx t x) u
  refine HI.end_ h hA u _ _ hu.tail h1 h2 ?_
  by_cases h9:blk (A.nx s x)=blk (A.nx t x)
  ·exact h9
  ·exfalso
   rcases h.sep _ _ h1 h2 h9 with h3 | h3 | h3 | h3 | h3
   ·obtain ⟨T,h4,_,h6⟩:=h3
    have h7:=h6 x s t hx hs ht e
    rcases h4 with ⟨h8,h10⟩ | ⟨h8,h10⟩
    ·exact h10 (h7.1 h8)
    ·exact h10 (h7.2 h8)
   ·cases h3
   ·cases h3
   ·exact h3.1
   ·exact h3.1
theorem HI.cong (h:HI A blk m [] NoS A.k) (hA:A.Ok):Cong A blk:=⟨fun s t hs ht e=>h.ac s t hs ht e,fun s t x hs ht hx e=>h.eqv _ _ (hA.t0_ s x hs hx) (hA.t0_ t x ht hx) fun u hu=>h.end_ hA (x::u) s t (hu.cons hx) hs ht e⟩
theorem kW:∀ {N:Nat} {l:List Nat},l.Nodup→(∀ x∈l,x < N)→l.length≤N
 | 0,l,_,h=>by
  cases l with
  | nil=>exact Nat.le_refl _
  | cons a l=>exact absurd (h a List.mem_cons_self) (Nat.not_lt_zero _)
 | N+1,l,hn,h=>by
  have h1:=kW (N:=N) (l:=l.erase N) (hn.erase N) fun x hx=>by
   have h2:=(List.Nodup.mem_erase_iff hn).1 hx
   have h3:=h x h2.2
   have:=h2.1
   omega
  have h4:l.length≤(l.erase N).length+1:=by
   rw [List.length_erase];split<;>omega
  omega
end
abbrev gN (l:List Nat) (i:Nat):Nat:=l.getD i 0
theorem kD {l:List Nat} {i v:Nat} (h:i < l.length) (j:Nat):gN (l.set i v) j=if j=i then v else gN l j:=by
 unfold gN
 rw [List.getD_eq_getElem?_getD,List.getD_eq_getElem?_getD]
 by_cases e:j=i
 ·subst e;rw [if_pos rfl,List.getElem?_set_self h];rfl
 ·rw [if_neg e,List.getElem?_set_ne (Ne.symm e)]
theorem wR {l:List Nat} {v i:Nat}:gN (l++[v]) i=if i < l.length then gN l i else if i=l.length then v else 0:=by
 unfold gN
 rw [List.getD_eq_getElem?_getD,List.getD_eq_getElem?_getD]
 by_cases h:i < l.length
 ·rw [if_pos h,List.getElem?_append_left h]
 ·rw [if_neg h,List.getElem?_append_right (by omega)]
  by_cases e:i=l.length
  ·rw [if_pos e,e,Nat.sub_self];rfl
  ·rw [if_neg e,List.getElem?_eq_none (by simp;omega)];rfl
structure PT where
 al:List Nat
 pl:List Nat
 bk:List Nat
 fs:List Nat
 sz:List Nat
 mr:List Nat
structure PInv (n:Nat) (P:PT):Prop where
 la:P.al.length=n
 lp:P.pl.length=n
 lb:P.bk.length=n
 lf:P.sz.length=P.fs.length
 lm:P.mr.length=P.fs.length
 pa:∀ s,s < n→gN P.pl s < n∧gN P.al (gN P.pl s)=s
 ap:∀ i,i < n→gN P.al i < n∧gN P.pl (gN P.al i)=i
 bl:∀ s,s < n→gN P.bk s < P.fs.length
 rg:∀ b,b < P.fs.length→1≤gN P.sz b∧gN P.fs b+gN P.sz b≤n∧gN P.mr b≤gN P.sz b
 bi:∀ s b,s < n→b < P.fs.length→(gN P.bk s=b↔gN P.fs b≤gN P.pl s∧gN P.pl s < gN P.fs b+gN P.sz b)
def PM (P:PT) (s:Nat):Prop:=gN P.pl s < gN P.fs (gN P.bk s)+gN P.mr (gN P.bk s)
instance (P:PT) (s:Nat):Decidable (PM P s):=by unfold PM;exact inferInstance
def pto (P:PT) (s:Nat):Nat:=gN P.fs (gN P.bk s)+gN P.mr (gN P.bk s)
def jG (P:PT) (s:Nat):PT:=if gN P.pl s < pto P s then P else
 ⟨(P.al.set (pto P s) s).set (gN P.pl s) (gN P.al (pto P s)),(P.pl.set s (pto P s)).set (gN P.al (pto P s)) (gN P.pl s),P.bk,P.fs,P.sz,P.mr.set (gN P.bk s) (gN P.mr (gN P.bk s)+1)⟩
section
variable {n:Nat} {P:PT} {s b:Nat}
theorem PInv.at_ (h:PInv n P) (hs:s < n):gN P.fs (gN P.bk s)≤gN P.pl s∧gN P.pl s < gN P.fs (gN P.bk s)+gN P.sz (gN P.bk s):=(h.bi s _ hs (h.bl s hs)).1 rfl
theorem PInv.to_lt (h:PInv n P) (hs:s < n) (hu:¬ gN P.pl s < pto P s):pto P s < gN P.fs (gN P.bk s)+gN P.sz (gN P.bk s)∧pto P s < n:=by
 have h1:=h.at_ hs
 have h2:=h.rg _ (h.bl s hs)
 omega
structure MkOk (n:Nat) (P:PT) (s:Nat) (Q:PT):Prop where
 inv:PInv n Q
 bk:Q.bk=P.bk
 fs:Q.fs=P.fs
 sz:Q.sz=P.sz
 m:∀ t,t < n→(PM Q t↔PM P t∨t=s)
 mr:∀ b,b < P.fs.length→gN Q.mr b=if b=gN P.bk s∧¬ PM P s then gN P.mr b+1 else gN P.mr b
theorem qC (h:PInv n P) (hs:s < n):MkOk n P s (jG P s):=by
 by_cases hu:gN P.pl s < pto P s
 ·have e:jG P s=P:=by unfold jG;rw [if_pos hu]
  rw [e]
  exact ⟨h,rfl,rfl,rfl,fun t ht=>⟨.inl,fun h9=>by rcases h9 with h9 | rfl;exact h9;exact hu⟩,fun b hb=>by rw [if_neg (fun h9=>h9.2 hu)]⟩
 ·have e:jG P s=⟨(P.al.set (pto P s) s).set (gN P.pl s) (gN P.al (pto P s)),(P.pl.set s (pto P s)).set (gN P.al (pto P s)) (gN P.pl s),P.bk,P.fs,P.sz,P.mr.set (gN P.bk s) (gN P.mr (gN P.bk s)+1)⟩:=by unfold jG;rw [if_neg hu]
  rw [e]
  obtain ⟨ht1,ht2⟩:=h.to_lt hs hu
  have hb:=h.bl s hs
  have hat:=h.at_ hs
  obtain ⟨hps,hpas⟩:=h.pa s hs
  obtain ⟨hos,hpos⟩:=h.ap (pto P s) ht2
  have hrg:=h.rg _ hb
  have hto:pto P s=gN P.fs (gN P.bk s)+gN P.mr (gN P.bk s):=rfl
  generalize htd:pto P s=t0_ at *
  generalize hod:gN P.al t0_=o at *
  generalize had:gN P.pl s=p at *
  have hob:gN P.bk o=gN P.bk s:=(h.bi o _ hos hb).2 (by rw [hpos];omega)
  have hos2:o=s↔t0_=p:=⟨fun e9=>by rw [← hpos,e9,had],fun e9=>by rw [← hod,e9,← hpas]⟩
  have hal:∀ i,gN ((P.al.set t0_ s).set p o) i=if i=p then o else if i=t0_ then s else gN P.al i:=fun i=>by
   rw [kD (by rw [List.length_set,h.la];exact hps),kD (by rw [h.la];exact ht2)]
  have hpl:∀ t,gN ((P.pl.set s t0_).set o p) t=if t=o then p else if t=s then t0_ else gN P.pl t:=fun t=>by
   rw [kD (by rw [List.length_set,h.lp];exact hos),kD (by rw [h.lp];exact hs)]
  have hmk:∀ c,gN (P.mr.set (gN P.bk s) (gN P.mr (gN P.bk s)+1)) c=if c=gN P.bk s then gN P.mr (gN P.bk s)+1 else gN P.mr c:=fun c=>kD (by rw [h.lm];exact hb) c
  have inv:PInv n ⟨(P.al.set t0_ s).set p o,(P.pl.set s t0_).set o p,P.bk,P.fs,P.sz,P.mr.set (gN P.bk s) (gN P.mr (gN P.bk s)+1)⟩:=by
   refine ⟨by simp [h.la],by simp [h.lp],h.lb,h.lf,by simp [h.lm],fun t ht=>?_,fun i hi=>?_,h.bl,fun c hc=>?_,fun t c ht hc=>?_⟩
   ·dsimp only
    rw [hpl t]
    by_cases e1:t=o
    ·rw [if_pos e1,hal p,if_pos rfl];exact ⟨hps,e1.symm⟩
    ·rw [if_neg e1]
     by_cases e2:t=s
     ·rw [if_pos e2,hal t0_,if_neg (fun e9=>e1 (e2.trans (hos2.2 e9).symm)),if_pos rfl];exact ⟨ht2,e2.symm⟩
     ·obtain ⟨h3,h4⟩:=h.pa t ht
      rw [if_neg e2,hal,if_neg (fun e9=>e2 (by rw [← h4,e9,hpas])),if_neg (fun e9=>e1 (by rw [← h4,e9,hod]))]
      exact ⟨h3,h4⟩
   ·dsimp only
    rw [hal i]
    by_cases e1:i=p
    ·rw [if_pos e1,hpl o,if_pos rfl];exact ⟨hos,e1.symm⟩
    ·rw [if_neg e1]
     by_cases e2:i=t0_
     ·rw [if_pos e2,hpl s,if_neg (fun e9=>e1 (e2.trans (hos2.1 e9.symm))),if_pos rfl];exact ⟨hs,e2.symm⟩
     ·obtain ⟨h3,h4⟩:=h.ap i hi
      rw [if_neg e2,hpl,if_neg (fun e9=>e2 (by rw [← h4,e9,hpos])),if_neg (fun e9=>e1 (by rw [← h4,e9,had]))]
      exact ⟨h3,h4⟩
   ·dsimp only
    obtain ⟨h3,h4,h5⟩:=h.rg c hc
    rw [hmk c]
    split
    ·rename_i e9;subst e9;exact ⟨h3,h4,by omega⟩
    ·exact ⟨h3,h4,h5⟩
   ·dsimp only at hc ⊢
    rw [hpl t]
    by_cases e1:t=o
    ·rw [if_pos e1,e1,hob,h.bi s c hs hc,had]
    ·rw [if_neg e1]
     by_cases e2:t=s
     ·rw [if_pos e2,e2,← hob,h.bi o c hos hc,hpos]
     ·rw [if_neg e2];exact h.bi t c ht hc
  refine ⟨inv,rfl,rfl,rfl,fun t ht=>?_,fun c hc=>?_⟩
  ·unfold PM
   dsimp only
   rw [hpl t,hmk]
   by_cases e2:t=s
   ·subst e2
    by_cases e1:t=o
    ·rw [if_pos e1,if_pos (rfl:gN P.bk t=gN P.bk t)]
     have:=hos2.1 e1.symm
     exact ⟨fun _=>.inr rfl,fun _=>by omega⟩
    ·rw [if_neg e1,if_pos (rfl:t=t),if_pos (rfl:gN P.bk t=gN P.bk t)]
     exact ⟨fun _=>.inr rfl,fun _=>by omega⟩
   ·by_cases e1:t=o
    ·subst e1
     rw [if_pos rfl,hob,if_pos rfl,hpos]
     have h9:t0_≠p:=fun e9=>e2 (hos2.2 e9)
     exact ⟨fun h8=>by omega,fun h8=>by rcases h8 with h8 | h8;omega;exact absurd h8 e2⟩
    ·rw [if_neg e1,if_neg e2]
     have h9:gN P.pl t≠t0_:=fun e9=>e1 (by rw [← (h.pa t ht).2,e9,hod])
     by_cases e3:gN P.bk t=gN P.bk s
     ·rw [if_pos e3,e3]
      exact ⟨fun h8=>.inl (by omega),fun h8=>by rcases h8 with h8 | h8;omega;exact absurd h8 e2⟩
     ·rw [if_neg e3]
      exact ⟨.inl,fun h8=>by rcases h8 with h8 | h8;exact h8;exact absurd h8 e2⟩
  ·dsimp only
   rw [hmk c]
   have hnm:¬ PM P s:=by unfold PM;rw [had];omega
   by_cases e1:c=gN P.bk s
   ·rw [if_pos e1,if_pos ⟨e1,hnm⟩,e1]
   ·rw [if_neg e1,if_neg (fun h9=>e1 h9.1)]
def gC (al:List Nat) (N from_:Nat) (bk:List Nat):Nat→List Nat
 | 0=>bk
 | k+1=>(gC al N from_ bk k).set (gN al (from_+k)) N
theorem jA {al:List Nat} {N f:Nat} {bk:List Nat}:∀ {k:Nat},(gC al N f bk k).length=bk.length
 | 0=>rfl
 | k+1=>by rw [gC,List.length_set,jA]
theorem rI (h:PInv n P) {N f:Nat} {t:Nat} (ht:t < n):∀ {k:Nat},f+k≤n→gN (gC P.al N f P.bk k) t=if f≤gN P.pl t∧gN P.pl t < f+k then N else gN P.bk t
 | 0,_=>by rw [gC,if_neg (by omega)]
 | k+1,hk=>by
  obtain ⟨h1,h2⟩:=h.ap (f+k) (by omega)
  rw [gC,kD (by rw [jA,h.lb];exact h1)]
  by_cases e:t=gN P.al (f+k)
  ·rw [if_pos e,e,h2,if_pos (by omega)]
  ·have h3:gN P.pl t≠f+k:=fun e9=>e (by rw [← (h.pa t ht).2,e9])
   rw [if_neg e,rI h ht (by omega)]
   by_cases h4:f≤gN P.pl t∧gN P.pl t < f+k
   ·rw [if_pos h4,if_pos (by omega)]
   ·rw [if_neg h4,if_neg (by omega)]
def iH (P:PT) (b:Nat):Nat:=gN P.sz b - gN P.mr b
def jL (P:PT) (b:Nat):Bool := !(decide (gN P.mr b=0) || decide (iH P b=0))
def eD (P:PT) (b:Nat):Nat:=if gN P.mr b≤iH P b then gN P.fs b else gN P.fs b+gN P.mr b
def jB (P:PT) (b:Nat):Nat:=if gN P.mr b≤iH P b then gN P.mr b else iH P b
def dK (P:PT) (b:Nat):PT:=if jL P b=true then
  ⟨P.al,P.pl,gC P.al P.fs.length (eD P b) P.bk (jB P b),(if gN P.mr b≤iH P b then P.fs.set b (gN P.fs b+gN P.mr b) else P.fs)++[eD P b],P.sz.set b (gN P.sz b - jB P b)++[jB P b],P.mr.set b 0++[0]⟩
 else ⟨P.al,P.pl,P.bk,P.fs,P.sz,P.mr.set b 0⟩
structure SpOk (n:Nat) (P:PT) (b:Nat) (Q:PT):Prop where
 inv:PInv n Q
 fl:Q.fs.length=if jL P b=true then P.fs.length+1 else P.fs.length
 rel:∀ s t,s < n→t < n→(gN Q.bk s=gN Q.bk t↔gN P.bk s=gN P.bk t∧(gN P.bk s=b→(PM P s↔PM P t)))
 num:∀ s,s < n→gN Q.bk s=gN P.bk s∨(jL P b=true∧gN P.bk s=b∧gN Q.bk s=P.fs.length)
 m:∀ s,s < n→(PM Q s↔PM P s∧gN P.bk s≠b)
theorem oD (h:PInv n P) (hb:b < P.fs.length):SpOk n P b (dK P b):=by
 obtain ⟨r1,r2,r3⟩:=h.rg b hb
 have hbi:∀ s,s < n→(gN P.bk s=b↔gN P.fs b≤gN P.pl s∧gN P.pl s < gN P.fs b+gN P.sz b):=fun s hs=>h.bi s b hs hb
 have hPM:∀ s,gN P.bk s=b→(PM P s↔gN P.pl s < gN P.fs b+gN P.mr b):=fun s e=>by unfold PM;rw [e]
 have hmk:∀ c,gN (P.mr.set b 0) c=if c=b then 0 else gN P.mr c:=fun c=>kD (by rw [h.lm];exact hb) c
 cases hc:jL P b with
 | false =>
  have e:dK P b=⟨P.al,P.pl,P.bk,P.fs,P.sz,P.mr.set b 0⟩:=by unfold dK;rw [if_neg (by rw [hc];decide)]
  rw [e]
  have hc2:gN P.mr b=0∨iH P b=0:=by
   unfold jL at hc
   simp only [Bool.not_eq_false',Bool.or_eq_true,decide_eq_true_eq] at hc
   exact hc
  refine ⟨⟨h.la,h.lp,h.lb,h.lf,by simp [h.lm],h.pa,h.ap,h.bl,fun c hc9=>?_,h.bi⟩,by rw [if_neg (by rw [hc];decide)],fun s t hs ht=>?_,fun s hs=>.inl rfl,fun s hs=>?_⟩
  ·obtain ⟨h3,h4,h5⟩:=h.rg c hc9
   dsimp only
   rw [hmk c]
   split
   ·exact ⟨h3,h4,Nat.zero_le _⟩
   ·exact ⟨h3,h4,h5⟩
  ·refine ⟨fun e9=>⟨e9,fun e8=>?_⟩,fun e9=>e9.1⟩
   rw [hPM s e8,hPM t (e9.symm.trans e8)]
   have h1:=(hbi s hs).1 e8
   have h2:=(hbi t ht).1 (e9.symm.trans e8)
   unfold iH at hc2
   omega
  ·unfold PM
   dsimp only
   rw [hmk]
   by_cases e9:gN P.bk s=b
   ·rw [if_pos e9]
    have h1:=(hbi s hs).1 e9
    rw [e9]
    exact ⟨fun h8=>by omega,fun h8=>absurd rfl h8.2⟩
   ·rw [if_neg e9]
    exact ⟨fun h8=>⟨h8,e9⟩,fun h8=>h8.1⟩
 | true =>
  obtain ⟨hm0,hr0⟩:gN P.mr b≠0∧iH P b≠0:=by
   unfold jL at hc
   simp only [Bool.not_eq_true',Bool.or_eq_false_iff,decide_eq_false_iff_not] at hc
   exact hc
  have e:dK P b=⟨P.al,P.pl,gC P.al P.fs.length (eD P b) P.bk (jB P b),(if gN P.mr b≤iH P b then P.fs.set b (gN P.fs b+gN P.mr b) else P.fs)++[eD P b],P.sz.set b (gN P.sz b - jB P b)++[jB P b],P.mr.set b 0++[0]⟩:=by unfold dK;rw [if_pos hc]
  rw [e]
  have hpr:iH P b=gN P.sz b - gN P.mr b:=rfl
  -- the place where the old class begins now, and what it holds
  obtain ⟨fo,hfo⟩:∃ x,x=(if gN P.mr b≤iH P b then gN P.fs b+gN P.mr b else gN P.fs b):=⟨_,rfl⟩
  have hfr:eD P b=if gN P.mr b≤iH P b then gN P.fs b else gN P.fs b+gN P.mr b:=rfl
  have hcn:jB P b=if gN P.mr b≤iH P b then gN P.mr b else iH P b:=rfl
  have hfl:(if gN P.mr b≤iH P b then P.fs.set b (gN P.fs b+gN P.mr b) else P.fs).length=P.fs.length:=by split<;>simp
  have hfs:∀ c,gN (if gN P.mr b≤iH P b then P.fs.set b (gN P.fs b+gN P.mr b) else P.fs) c=if c=b then fo else gN P.fs c:=fun c=>by
   by_cases h9:gN P.mr b≤iH P b
   ·rw [if_pos h9,kD hb,hfo,if_pos h9]
   ·rw [if_neg h9,hfo,if_neg h9]
    split
    ·rename_i e9;rw [e9]
    ·rfl
  have hsz:∀ c,gN (P.sz.set b (gN P.sz b - jB P b)) c=if c=b then gN P.sz b - jB P b else gN P.sz c:=fun c=>kD (by rw [h.lf];exact hb) c
  have hbk:∀ t,t < n→gN (gC P.al P.fs.length (eD P b) P.bk (jB P b)) t=if eD P b≤gN P.pl t∧gN P.pl t < eD P b+jB P b then P.fs.length else gN P.bk t:=fun t ht=>rI h ht (by rw [hfr,hcn];split<;>omega)
  -- in the new class just if marked (or not marked)
  have hin:∀ t,t < n→(eD P b≤gN P.pl t∧gN P.pl t < eD P b+jB P b→gN P.bk t=b):=fun t ht h9=>(hbi t ht).2 (by
   rw [hfr,hcn] at h9
   split at h9<;>omega)
  have hiff:∀ t,t < n→gN P.bk t=b→(eD P b≤gN P.pl t∧gN P.pl t < eD P b+jB P b↔(PM P t↔gN P.mr b≤iH P b)):=fun t ht h9=>by
   have h8:=(hbi t ht).1 h9
   rw [hPM t h9,hfr,hcn]
   by_cases h7:gN P.mr b≤iH P b
   ·rw [if_pos h7,if_pos h7]
    exact ⟨fun h6=>⟨fun _=>h7,fun _=>by omega⟩,fun h6=>⟨by omega,by have:=h6.2 h7;omega⟩⟩
   ·rw [if_neg h7,if_neg h7]
    exact ⟨fun h6=>⟨fun h5=>by omega,fun h5=>absurd h5 h7⟩,fun h6=>⟨by
     rcases Nat.lt_or_ge (gN P.pl t) (gN P.fs b+gN P.mr b) with h5 | h5
     ·exact absurd (h6.1 h5) h7
     ·exact h5,by omega⟩⟩
  have hlt:=h.bl
  refine ⟨⟨h.la,h.lp,by rw [jA,h.lb],?_,?_,h.pa,h.ap,fun t ht=>?_,fun c hc9=>?_,fun t c ht hc9=>?_⟩,?_,fun s t hs ht=>?_,fun s hs=>?_,fun s hs=>?_⟩
  ·simp only [List.length_append,List.length_set,List.length_singleton,hfl,h.lf]
  ·simp only [List.length_append,List.length_set,List.length_singleton,hfl,h.lm]
  ·dsimp only
   rw [hbk t ht,List.length_append,hfl,List.length_singleton]
   have:=h.bl t ht
   split<;>omega
  ·dsimp only at hc9 ⊢
   rw [List.length_append,hfl,List.length_singleton] at hc9
   rw [wR,wR,wR,hfl,List.length_set,List.length_set,h.lf,h.lm]
   rcases Nat.lt_or_ge c P.fs.length with h9 | h9
   ·rw [if_pos h9,if_pos h9,if_pos h9,hfs,hsz,hmk]
    obtain ⟨h3,h4,h5⟩:=h.rg c h9
    by_cases e9:c=b
    ·subst e9
     rw [if_pos rfl,if_pos rfl,if_pos rfl,hfo,hcn]
     split<;>omega
    ·rw [if_neg e9,if_neg e9,if_neg e9];exact ⟨h3,h4,h5⟩
   ·rw [if_neg (show ¬ c < P.fs.length by omega),if_neg (show ¬ c < P.fs.length by omega),if_neg (show ¬ c < P.fs.length by omega),if_pos (show c=P.fs.length by omega),if_pos (show c=P.fs.length by omega),if_pos (show c=P.fs.length by omega),hfr,hcn]
    split<;>omega
  ·dsimp only at hc9 ⊢
   rw [List.length_append,hfl,List.length_singleton] at hc9
   rw [hbk t ht,wR,wR,hfl,List.length_set,h.lf]
   have hbt:=h.bl t ht
   rcases Nat.lt_or_ge c P.fs.length with h9 | h9
   ·rw [if_pos h9,if_pos h9,hfs,hsz]
    by_cases e9:c=b
    ·subst e9
     rw [if_pos rfl,if_pos rfl]
     by_cases h8:eD P c≤gN P.pl t∧gN P.pl t < eD P c+jB P c
     ·rw [if_pos h8]
      rw [hfr,hcn] at h8
      refine ⟨fun h7=>by omega,fun h7=>?_⟩
      rw [hfo,hcn] at h7
      split at h8<;>rename_i h6
      ·rw [if_pos h6,if_pos h6] at h7;omega
      ·rw [if_neg h6,if_neg h6] at h7;omega
     ·rw [if_neg h8,hbi t ht]
      rw [hfr,hcn] at h8
      rw [hfo,hcn]
      split at h8<;>rename_i h6
      ·rw [if_pos h6,if_pos h6];omega
      ·rw [if_neg h6,if_neg h6];omega
    ·rw [if_neg e9,if_neg e9,← h.bi t c ht h9]
     by_cases h8:eD P b≤gN P.pl t∧gN P.pl t < eD P b+jB P b
     ·rw [if_pos h8]
      have:=hin t ht h8
      omega
     ·rw [if_neg h8]
   ·rw [if_neg (show ¬ c < P.fs.length by omega),if_neg (show ¬ c < P.fs.length by omega),if_pos (show c=P.fs.length by omega),if_pos (show c=P.fs.length by omega)]
    by_cases h8:eD P b≤gN P.pl t∧gN P.pl t < eD P b+jB P b
    ·rw [if_pos h8];exact ⟨fun _=>h8,fun _=>by omega⟩
    ·rw [if_neg h8];exact ⟨fun h7=>by omega,fun h7=>absurd h7 h8⟩
  ·rw [if_pos hc,List.length_append,hfl,List.length_singleton]
  ·dsimp only
   rw [hbk s hs,hbk t ht]
   have hbs:=h.bl s hs
   have hbt:=h.bl t ht
   by_cases h1:eD P b≤gN P.pl s∧gN P.pl s < eD P b+jB P b
   ·have e1:=hin s hs h1
    have i1:=(hiff s hs e1).1 h1
    rw [if_pos h1]
    by_cases h2:eD P b≤gN P.pl t∧gN P.pl t < eD P b+jB P b
    ·have e2:=hin t ht h2
     have i2:=(hiff t ht e2).1 h2
     rw [if_pos h2]
     exact ⟨fun _=>⟨e1.trans e2.symm,fun _=>i1.trans i2.symm⟩,fun _=>rfl⟩
    ·rw [if_neg h2]
     refine ⟨fun h9=>by omega,fun h9=>?_⟩
     have e2:gN P.bk t=b:=h9.1.symm.trans e1
     exact absurd ((hiff t ht e2).2 ((h9.2 e1).symm.trans i1)) h2
   ·rw [if_neg h1]
    by_cases h2:eD P b≤gN P.pl t∧gN P.pl t < eD P b+jB P b
    ·have e2:=hin t ht h2
     have i2:=(hiff t ht e2).1 h2
     rw [if_pos h2]
     refine ⟨fun h9=>by omega,fun h9=>?_⟩
     have e1:gN P.bk s=b:=h9.1.trans e2
     exact absurd ((hiff s hs e1).2 ((h9.2 e1).trans i2)) h1
    ·rw [if_neg h2]
     refine ⟨fun h9=>⟨h9,fun e1=>?_⟩,fun h9=>h9.1⟩
     have e2:gN P.bk t=b:=h9.symm.trans e1
     have i1:=fun h8=>h1 ((hiff s hs e1).2 h8)
     have i2:=fun h8=>h2 ((hiff t ht e2).2 h8)
     by_cases h7:gN P.mr b≤iH P b
     ·exact ⟨fun h6=>absurd ⟨fun _=>h7,fun _=>h6⟩ i1,fun h6=>absurd ⟨fun _=>h7,fun _=>h6⟩ i2⟩
     ·have j1:PM P s:=Classical.byContradiction fun h6=>i1 ⟨fun h5=>absurd h5 h6,fun h5=>absurd h5 h7⟩
      have j2:PM P t:=Classical.byContradiction fun h6=>i2 ⟨fun h5=>absurd h5 h6,fun h5=>absurd h5 h7⟩
      exact ⟨fun _=>j2,fun _=>j1⟩
  ·dsimp only
   rw [hbk s hs]
   by_cases h1:eD P b≤gN P.pl s∧gN P.pl s < eD P b+jB P b
   ·rw [if_pos h1];exact .inr ⟨hc,hin s hs h1,rfl⟩
   ·rw [if_neg h1];exact .inl rfl
  ·unfold PM
   dsimp only
   have hbs:=h.bl s hs
   have h0:∀ c,gN (P.mr.set b 0++[0]) c=if c < P.fs.length then (if c=b then 0 else gN P.mr c) else 0:=fun c=>by
    rw [wR,List.length_set,h.lm,hmk]
    split
    ·rfl
    ·split<;>rfl
   rw [hbk s hs,h0,wR,hfl,hfs]
   by_cases h1:eD P b≤gN P.pl s∧gN P.pl s < eD P b+jB P b
   ·rw [if_pos h1,if_neg (Nat.lt_irrefl _),if_pos rfl,if_neg (Nat.lt_irrefl _)]
    exact ⟨fun h9=>by omega,fun h9=>absurd (hin s hs h1) h9.2⟩
   ·rw [if_neg h1,if_pos hbs,if_pos hbs]
    by_cases e1:gN P.bk s=b
    ·rw [if_pos e1,if_pos e1]
     refine ⟨fun h9=>?_,fun h9=>absurd e1 h9.2⟩
     exfalso
     have h8:=(hbi s hs).1 e1
     rw [hfr,hcn] at h1
     rw [hfo] at h9
     split at h1<;>rename_i h6
     ·rw [if_pos h6] at h9;omega
     ·rw [if_neg h6] at h9;omega
    ·rw [if_neg e1,if_neg e1]
     exact ⟨fun h9=>⟨h9,e1⟩,fun h9=>h9.1⟩
end
end
section
open Go.RowKit
section
variable {P:Program} {n:Nat} {ops:Array Oper} {Q:Exit→Act→World→Prop} {l:Fr} {W:World} {os:List Oper} {d:Nat} {ty:TypeId} {pos:String} {aft:Array Edge} {x:Operand}
theorem iN {a:Int} {src dst:TypeId} (hs:P.underlying src=some (.int .i64)) (ht:P.underlying dst=some (.int .i32)) (hx:evL l x=some (.int .i64 a)) (h : -2147483648≤a∧a≤2147483647):dT P l ⟨some d,.convert src dst x,ty,pos,aft,none⟩ W (.int .i32 a) W:=fun ev he=>by
 unfold execOp;simp only [];rw [he x _ hx]
 simp [convert,run_underlying hs,run_underlying ht,Conv.intToInt,IntWalk.i32_in a h]
theorem eE {a:Int} {src dst:TypeId} (hs:P.underlying src=some (.int .i64)) (ht:P.underlying dst=some (.int .i32)) (hx:evL l x=some (.int .i64 a)) (hr : -2147483648≤a∧a≤2147483647) (hd:Nat.blt d n=true) (h:cJ P n ops Q os ((d,.int .i32 a)::l) W):cJ P n ops Q (⟨some d,.convert src dst x,ty,pos,aft,none⟩::os) l W:=opV (iN hs ht hx hr) hd h
theorem jU {a:Int} {src dst:TypeId} (hs:P.underlying src=some (.int .i32)) (ht:P.underlying dst=some (.int .i64)) (hx:evL l x=some (.int .i32 a)) (h : -9223372036854775808≤a∧a≤9223372036854775807):dT P l ⟨some d,.convert src dst x,ty,pos,aft,none⟩ W (.int .i64 a) W:=fun ev he=>by
 unfold execOp;simp only [];rw [he x _ hx]
 simp [convert,run_underlying hs,run_underlying ht,Conv.intToInt,IntWalk.i64_in a h]
theorem oE {a:Int} {src dst:TypeId} (hs:P.underlying src=some (.int .i32)) (ht:P.underlying dst=some (.int .i64)) (hx:evL l x=some (.int .i32 a)) (hr : -9223372036854775808≤a∧a≤9223372036854775807) (hd:Nat.blt d n=true) (h:cJ P n ops Q os ((d,.int .i64 a)::l) W):cJ P n ops Q (⟨some d,.convert src dst x,ty,pos,aft,none⟩::os) l W:=opV (jU hs ht hx hr) hd h
end
def i32 (l:List Nat):List Value:=l.map (fun (x:Nat)=>Value.int .i32 (x:Int))
theorem cB {l:List Nat}:(i32 l).length=l.length:=List.length_map _
theorem gU {l:List Nat} {i:Nat} (h:i < l.length):(i32 l)[0+i * 1]?=some (.int .i32 ((gN l i:Nat):Int)):=by
 unfold i32 gN
 rw [show 0+i * 1=i by omega,List.getElem?_map,List.getD_eq_getElem?_getD,List.getElem?_eq_getElem h];rfl
theorem fP {l:List Nat} {e:List Value} {i:Nat} (h:i < l.length):(i32 l++e)[0+i * 1]?=some (.int .i32 ((gN l i:Nat):Int)):=by
 rw [List.getElem?_append_left (by rw [cB];omega)];exact gU h
theorem fY {l:List Nat} {i v:Nat} {x:Int} (hx:x=(v:Int)):(i32 l).set (0+i * 1) (.int .i32 x)=i32 (l.set i v):=by
 subst hx
 unfold i32
 rw [show 0+i * 1=i by omega,List.map_set]
theorem kX {l:List Nat} {e:List Value} {i v:Nat} {x:Int} (h:i < l.length) (hx:x=(v:Int)):(i32 l++e).set (0+i * 1) (.int .i32 x)=i32 (l.set i v)++e:=by
 rw [List.set_append_left _ _ (by rw [cB];omega),fY hx]
theorem mN {l:List Nat} {i v:Nat} {x:Int} (hx:x=(v:Int)):fR (i32 l) (0+i * 1) [.int .i32 x]=i32 (l.set i v):=fY hx
theorem nJ {l:List Nat} {v:Nat}:i32 (l++[v])=i32 l++[.int .i32 (v:Int)]:=by simp [i32]
def R32 (w:World) (a:Option Addr) (xs:List Nat):Prop:=∀ (i:Nat) x,xs[i]?=some x→∃ b off,a=some ⟨b,off,none⟩∧w.cell? ⟨b,off+i * 1,none⟩=some (.int .i32 (x:Int))
theorem uM {l:List Nat} {i:Nat} (h:i < l.length):l[i]?=some (gN l i):=by
 unfold gN;rw [List.getD_eq_getElem?_getD,List.getElem?_eq_getElem h];rfl
theorem St.ownRowE {w0 W:World} {O:Own} {G:bN} {K:List (Nat×World)} {b n c sz:Nat} {xs cs:List Value} {T:TypeId} (h:St w0 ((b,xs++cs,T)::O) G K W) (hx:xs.length=n * sz) (hl:(xs++cs).length=c * sz) (hn:n≤c) (hm:c≤maxLen):St w0 O (⟨.slice (some ⟨b,0,none⟩) n c,n,xs,T,sz⟩::G) K W where
 below:=h.below
 own:=fun p hp=>h.own p (List.mem_cons_of_mem _ hp)
 dist:=(List.pairwise_cons.1 h.dist).2
 kept:=fun q hq=>⟨(h.kept q hq).1,fun p hp=>(h.kept q hq).2 p (List.mem_cons_of_mem _ hp)⟩
 rows:=fun g hg=>by
  rcases List.mem_cons.1 hg with rfl | hg
  ·obtain ⟨h1,h2⟩:=h.own _ List.mem_cons_self
   refine ⟨⟨hx,.inr ⟨b,c,(xs++cs).toArray,rfl,h1,h2,hn,hm,by simpa using hl,?_⟩⟩,fun b2 hb2=>?_⟩
   ·show (xs++cs).take (n * sz)=xs
    rw [← hx,List.take_left]
   ·cases hb2
    exact ⟨fun p hp e=>(List.pairwise_cons.1 h.dist).1 p hp e.symm,fun q hq=>(h.kept q hq).2 _ List.mem_cons_self⟩
  ·obtain ⟨h1,h2⟩:=h.rows g hg
   exact ⟨h1,fun b2 hb2=>⟨fun p hp=>(h2 b2 hb2).1 p (List.mem_cons_of_mem _ hp),(h2 b2 hb2).2⟩⟩
 gdist:=List.Pairwise.cons (fun g hg b2 hb2 e=>by
  cases hb2
  exact ((h.rows g hg).2 b e).1 _ List.mem_cons_self rfl) h.gdist
theorem St.rowOwnE {w0 W:World} {O:Own} {G:bN} {K:List (Nat×World)} {a:Option Addr} {n c:Nat} {xs:List Value} {T:TypeId} {sz:Nat} (h:St w0 O (⟨.slice a n c,n,xs,T,sz⟩::G) K W) (hn:0 < n):∃ (b:Nat) (cs:List Value),a=some ⟨b,0,none⟩∧(xs++cs).length=c * sz∧n≤c∧c≤maxLen∧St w0 ((b,xs++cs,T)::O) G K W:=by
 obtain ⟨hrow,hap⟩:=h.rows _ List.mem_cons_self
 dsimp only at hrow hap
 rcases hrow.2 with ⟨_,e2⟩ | ⟨g,cap,cur,e1,hg,hh,hn2,hm,hs,ht⟩
 ·omega
 ·injection e1 with e1 _ e3
  subst e1
  subst e3
  obtain ⟨ho,hq⟩:=hap g rfl
  have e9:xs++cur.toList.drop (n * sz)=cur.toList:=by rw [← ht,List.take_append_drop]
  refine ⟨g,cur.toList.drop (n * sz),rfl,by rw [e9];simpa using hs,hn2,hm,h.below,fun p hp=>?_,List.Pairwise.cons (fun p hp e=>ho p hp e.symm) h.dist,fun q hq'=>⟨(h.kept q hq').1,fun p hp=>?_⟩,fun g2 hg2=>?_,(List.pairwise_cons.1 h.gdist).2⟩
  ·rcases List.mem_cons.1 hp with rfl | hp
   ·refine ⟨hg,?_⟩
    dsimp only
    rw [e9,Array.toArray_toList]
    exact hh
   ·exact h.own p hp
  ·rcases List.mem_cons.1 hp with rfl | hp
   ·exact hq q hq'
   ·exact (h.kept q hq').2 p hp
  ·obtain ⟨h1,h2⟩:=h.rows g2 (List.mem_cons_of_mem _ hg2)
   refine ⟨h1,fun b2 hb2=>⟨fun p hp=>?_,(h2 b2 hb2).2⟩⟩
   rcases List.mem_cons.1 hp with rfl | hp
   ·intro e
    dsimp only at e
    subst e
    exact (List.pairwise_cons.1 h.gdist).1 g2 hg2 g rfl hb2
   ·exact (h2 b2 hb2).1 p hp
theorem uN {P:Program} {l:Fr} {W:World} {d:Nat} {ty:TypeId} {pos:String} {aft:Array Edge} {T e:TypeId} {x y z:Operand} {k1 k2:IntKind} {b o m c i j s:Nat} {i1 j1:Int} (hU:P.underlying T=some (.slice e)) (hs:∀ w,(sizeOf e).run P w = .ok s w) (hx:evL l x=some (.slice (some ⟨b,o,none⟩) m c)) (hy:evL l y=some (.int k1 i1)) (hz:evL l z=some (.int k2 j1)) (hi:i1=(i:Int)) (hj:j1=(j:Int)) (hij:i≤j) (hjc:j≤c) (hic:i < c) :
  dT P l ⟨some d,.slice T x (some y) (some z) none,ty,pos,aft,none⟩ W (.slice (some ⟨b,o+i * s,none⟩) (j - i) (c - i)) W:=fun ev he=>by
 subst hi;subst hj
 have h0:(0:Int)≤(i:Int):=by omega
 have h1:(i:Int)≤(j:Int):=by omega
 have h2:(j:Int)≤(c:Int):=by omega
 have h3:c≠i:=by omega
 have h4:i≤c:=by omega
 unfold execOp;simp only [Option.map_some,Option.map_none];rw [he x _ hx,he y _ hy,he z _ hz]
 simp [Instr.sliceAt,Instr.slice,Instr.sliceBounds,Instr.sliceBound,run_underlying hU,asIntOf,hij,hjc,h4,hs,h3,Addr.add_lit]
theorem yL {P:Program} {l:Fr} {W:World} {d:Nat} {ty:TypeId} {pos:String} {aft:Array Edge} {T e:TypeId} {x y z:Operand} {k1 k2:IntKind} {b o m c i L s:Nat} {i1 j1:Int} (hU:P.underlying T=some (.slice e)) (hs:∀ w,(sizeOf e).run P w = .ok s w) (hx:evL l x=some (.slice (some ⟨b,o,none⟩) m c)) (hy:evL l y=some (.int k1 i1)) (hz:evL l z=some (.int k2 j1)) (hi:i1=(i:Int)) (hj:j1=(i:Int)+(L:Int)) (hjc:i+L≤c) (hic:i < c) :
  dT P l ⟨some d,.slice T x (some y) (some z) none,ty,pos,aft,none⟩ W (.slice (some ⟨b,o+i * s,none⟩) L (c - i)) W:=by
 have h:=uN (d:=d) (ty:=ty) (pos:=pos) (aft:=aft) (W:=W) (i:=i) (j:=i+L) hU hs hx hy hz hi (by omega) (by omega) hjc hic
 rwa [Nat.add_sub_cancel_left] at h
section
variable {P:Program} {n:Nat} {Q:Exit→Act→World→Prop} {l:Fr} {w0 W w:World} {ops:Array Oper} {os:List Oper} {K:List (Nat×World)} {Ob:Own}
theorem yM {d:Nat} {ty:TypeId} {pos:String} {aft:Array Edge} {T e:TypeId} {x y z:Operand} {k1 k2:IntKind} {b o m c i L s:Nat} {i1 j1:Int} (hU:P.underlying T=some (.slice e)) (hs:∀ w,(sizeOf e).run P w = .ok s w) (hx:evL l x=some (.slice (some ⟨b,o,none⟩) m c)) (hy:evL l y=some (.int k1 i1)) (hz:evL l z=some (.int k2 j1)) (hi:i1=(i:Int)) (hj:j1=(i:Int)+(L:Int)) (hjc:i+L≤c) (hic:i < c) (hd:Nat.blt d n=true) (h:cJ P n ops Q os ((d,.slice (some ⟨b,o+i * s,none⟩) L (c - i))::l) W):cJ P n ops Q (⟨some d,.slice T x (some y) (some z) none,ty,pos,aft,none⟩::os) l W:=opV (yL hU hs hx hy hz hi hj hjc hic) hd h
theorem uO {α:Type} {a b c d e f g:α} {l:List α}:(a::b::c::d::e::f::g::l).Perm (g::f::e::a::b::c::d::l):=by
 have h1:(a::b::c::d::e::f::g::l)=[a,b,c,d]++([e,f,g]++l):=rfl
 have h2:(g::f::e::a::b::c::d::l)=[g,f,e]++([a,b,c,d]++l):=rfl
 rw [h1,h2]
 refine (List.perm_append_comm_assoc _ _ _).trans (List.Perm.append_right _ ?_)
 exact (List.Perm.swap f e [g]).trans ((List.Perm.cons f (List.Perm.swap g e [])).trans (List.Perm.swap g f [e]))
def kL (lo m:Nat):Asr:=fun v _=>∃ B,v = .slice (some ⟨B,0,none⟩) m m∧lo≤B
variable {opf:Array Oper} {L:List Asr} {i lo d:Nat} {al:List AB} {Gs:Sy→bN} {E:List Nat} {ty:TypeId} {pos:String} {aft_:Array Edge}
theorem sR {T e:TypeId} {inf:TypeInfo} {z:Value} {m tx jx:Nat} {cs:List Value} (q:AB) (hie:E.contains i=true) (hi:ops[i]?=some ⟨some d,.makeSlice T (.tmp tx) (.tmp tx),ty,pos,aft_,none⟩) (hU:P.underlying T=some (.slice e)) (hinf:P.info? e=some inf) (hz:inf.zero=some z) (hcs:madeCells z.cells (m * inf.size)=cs.toArray) (hb:(inf.bytes:Int) * m≤281474976710656) (h63:(m:Int)≤9223372036854775807)
  (hwx:bG ops i jx tx=true) (hLx:atI L jx=isV (.int .i64 (m:Int))) (hq:q∈al) (hqa:q.a=i) (hqT:q.T=e) (hqz:q.zs=cs) (hqs:(earlyL ops q.st).contains i=true∨E.contains q.st=false)
  (hn:(al.map (·.a)).Nodup) (hst_:al.all (fun q => !Nat.beq q.st i)=true) (hG:∀ s v,Gs (upd s i v)=Gs s) (hL:atI L i=kL lo m):SY P n ops opf Q l w0 K lo al Ob Gs E L i :=
 nZ hie hi fun t0 a s w h0 hF hg hk hD hD'=>by
  have hst:=rH hst_
  subst hqz
  have hc:q.cs s=q.zs:=by
   unfold AB.cs
   rw [show s q.st=none from hqs.elim (fun h=>hk.no _ h) (fun h=>hk.out _ h)]
  have hx1:=(hD jx tx hwx).2
  rw [hLx] at hx1
  have ex:a.eval (.tmp tx) = .int .i64 (m:Int):=hx1.here
  have hB:Below w.heap.size w (w.alloc (.cells q.zs.toArray e)):=(Below.refl _ _).alloc (Nat.le_refl _) _
  have hperm:=nG (v:=.slice (some ⟨w.heap.size,0,none⟩) m m) hk.self hq hqa hn hst
  rw [hc,hqT] at hperm
  have h1:=hg.1.alloc q.zs e
  have hSt:=h1.perm (O':=OY al Ob (upd s i (.slice (some ⟨w.heap.size,0,none⟩) m m))) (List.Perm.append_right Ob hperm)
  refine iY hi rfl (v:=.slice (some ⟨w.heap.size,0,none⟩) m m) (w':=w.alloc (.cells q.zs.toArray e)) ?_ ⟨_,_,rfl,fun _ _=>rfl,by rw [hG];exact hSt,kQ hB,fun b hb=>?_,by rw [hL];exact fun _ _=>⟨_,rfl,hg.2⟩⟩
  ·have hr:=run_make (P:=P) w T e inf z hU hinf hz .i64 .i64 m m (by omega) (by omega) hb h63
   rw [Int.toNat_natCast,hcs] at hr
   unfold execOp;simp only [];rw [ex]
   simp only [Sem.run_bind,hr,Result.andThen_ok,Sem.run_pure]
  ·rw [hG] at hb
   rcases hb with ⟨p,hp,rfl⟩ | h
   ·have hp2:=(List.Perm.append_right Ob hperm).mem_iff.2 hp
    rw [List.cons_append] at hp2
    rcases List.mem_cons.1 hp2 with rfl | hp2
    ·exact .inr (Nat.le_refl _)
    ·exact .inl (.inl ⟨p,hp2,rfl⟩)
   ·exact .inl (.inr h)
theorem sS (v:Value) (n:Nat):madeCells #[v] n=(List.replicate n v).toArray:=by
 unfold madeCells
 apply Array.ext
 ·simp
 ·intro i h1 h2
  simp [Nat.mod_one]
theorem mO (m:Nat):madeCells (Value.int .i32 0).cells (m * 1)=(i32 (List.replicate m 0)).toArray:=by
 unfold i32
 rw [List.map_replicate,Nat.mul_one];exact sS _ _
variable {base:bN} {pb:Nat} {T e:TypeId} {a0 a1 a2 v1 v2 v3:Value} {m:Nat} {x1 x2 x3:List Value} {u1 u2 u3:Value} {i1 i2 i3 j1 j2:Nat} {s:Sy}
theorem Bn (hw:St w0 Ob (GA3 base pb T e a0 a1 a2 v1 v2 v3 m x1 x2 x3 u1 u2 u3 i1 i2 i3 j1 j2 s) K w) (h:s j1=none):w.cell? ⟨pb,3,none⟩=some v1:=cX (hw.row 0 rfl) (k:=3) (by
 show some (match s j1 with | none=>v1 | some _=>(s i1).getD v1)=_
 rw [h])
theorem Bo (hw:St w0 Ob (GA3 base pb T e a0 a1 a2 v1 v2 v3 m x1 x2 x3 u1 u2 u3 i1 i2 i3 j1 j2 s) K w) (h:s j2=none):w.cell? ⟨pb,4,none⟩=some v2:=cX (hw.row 0 rfl) (k:=4) (by
 show some (match s j2 with | none=>v2 | some _=>(s i2).getD v2)=_
 rw [h])
theorem Bp (hw:St w0 Ob (GA3 base pb T e a0 a1 a2 v1 v2 v3 m x1 x2 x3 u1 u2 u3 i1 i2 i3 j1 j2 s) K w):w.cell? ⟨pb,5,none⟩=some v3:=cX (hw.row 0 rfl) (k:=5) rfl
end
end
section
open Go.RowKit
open Classical in
noncomputable def jH (base:bN) (i:Nat) (p:Sy→Prop) (s:Sy):bN:=if s i=none∨p s then base else ⟨.bool true,1,[],0,1⟩::base
theorem jV {base:bN} {i:Nat} {p:Sy→Prop} {s:Sy} (h:s i=none∨p s):jH base i p s=base:=by
 unfold jH;rw [if_pos h]
theorem Bq {base:bN} {i:Nat} {p:Sy→Prop} {s:Sy} {w0 W:World} {O:Own} {K:List (Nat×World)} {v:Value} (hS:St w0 O (jH base i p s) K W) (h:s i=some v):p s∧jH base i p s=base:=by
 by_cases hp:p s
 ·exact ⟨hp,jV (.inr hp)⟩
 ·have e:jH base i p s=⟨.bool true,1,[],0,1⟩::base:=by
   unfold jH;rw [if_neg (fun h9=>h9.elim (fun h8=>by rw [h] at h8;cases h8) hp)]
  rw [e] at hS
  have h1:=hS.row 0 rfl
  have h2:=h1.1
  simp at h2
section
variable {P:Program} {n:Nat} {Q:Exit→Act→World→Prop} {l:Fr} {w0 W w:World} {ops opf:Array Oper} {os:List Oper} {K:List (Nat×World)} {Ob:Own} {L:List Asr} {i lo d:Nat} {al:List AB} {Gs:Sy→bN} {E:List Nat} {ty:TypeId} {pos:String} {aft_:Array Edge}
theorem Br {T:TypeId} {f1 f2 t1 t2 j1 j2:Nat} {p1 p2:Asr} (hie:E.contains i=true) (hi:ops[i]?=some ⟨some d,.build T #[(f1,.tmp t1),(f2,.tmp t2)],ty,pos,aft_,none⟩)
  (hA_:al.all (fun q => !Nat.beq q.a i)=true) (hst_:al.all (fun q => !Nat.beq q.st i)=true)
  (hw1:bG ops i j1 t1=true) (h1e:E.contains j1=true) (hL1:atI L j1=p1) (hw2:bG ops i j2 t2=true) (h2e:E.contains j2=true) (hL2:atI L j2=p2)
  (hb:∀ v1 v2 w,p1 v1 w→p2 v2 w→P.built T [(f1,v1),(f2,v2)]=some #[v1,v2])
  (hG:∀ s v1 v2,Kn ops E i s→s j1=some v1→s j2=some v2→Gs (upd s i (.agg #[v1,v2]))=Gs s) (hL:atI L i=anyA):SY P n ops opf Q l w0 K lo al Ob Gs E L i :=
 nZ hie hi fun t0 a s w h0 hF hg hk hD hD'=>by
  have hA:=a_ne hA_
  have hst:=rH hst_
  have hO:∀ v,OY al Ob (upd s i v)=OY al Ob s:=fun v=>by unfold OY;rw [kT hA hst]
  have x1:=hD j1 t1 hw1
  have x2:=hD j2 t2 hw2
  have s1:=x1.1 (List.contains_iff_mem.1 h1e)
  have s2:=x2.1 (List.contains_iff_mem.1 h2e)
  have y1:=x1.2.here
  have y2:=x2.2.here
  rw [hL1] at y1
  rw [hL2] at y2
  have hg':=hG s _ _ hk s1 s2
  refine iY hi rfl (v:=.agg #[a.eval (.tmp t1),a.eval (.tmp t2)]) (w':=w) ?_ ⟨_,_,rfl,fun _ _=>rfl,?_,eQ.refl _ _ _,fun b hb9=>?_,?_⟩
  ·have hr:=run_build (P:=P) w T #[(f1,a.eval (.tmp t1)),(f2,a.eval (.tmp t2))] _ (hb _ _ _ y1 y2)
   unfold execOp;simp only [List.map_toArray,List.map_cons,List.map_nil]
   simp [hr]
  ·rw [hO,hg'];exact hg.1
  ·rw [hO,hg'] at hb9;exact .inl hb9
  ·rw [hL];exact fun _ _=>trivial
theorem uP {T e:TypeId} {inf:TypeInfo} {z:Value} {m tx jx:Nat} {cs:List Value} (q:AB) (hie:E.contains i=true) (hi:ops[i]?=some ⟨some d,.makeSlice T (.tmp tx) (.tmp tx),ty,pos,aft_,none⟩) (hU:P.underlying T=some (.slice e)) (hinf:P.info? e=some inf) (hz:inf.zero=some z) (hcs:madeCells z.cells (m * inf.size)=cs.toArray) (hb:(inf.bytes:Int) * m≤281474976710656) (h63:(m:Int)≤9223372036854775807)
  (hwx:bG ops i jx tx=true) (hLx:atI L jx=isV (.int .i64 (m:Int))) (hq:q∈al) (hqa:q.a=i) (hqT:q.T=e) (hqz:q.zs=cs) (hqs:(earlyL ops q.st).contains i=true∨E.contains q.st=false)
  (hn:(al.map (·.a)).Nodup) (hst_:al.all (fun q => !Nat.beq q.st i)=true) (hG:∀ s v,Kn ops E i s→Gs (upd s i v)=Gs s) (hL:atI L i=kL lo m):SY P n ops opf Q l w0 K lo al Ob Gs E L i :=
 nZ hie hi fun t0 a s w h0 hF hg hk hD hD'=>by
  have hst:=rH hst_
  subst hqz
  have hc:q.cs s=q.zs:=by
   unfold AB.cs
   rw [show s q.st=none from hqs.elim (fun h=>hk.no _ h) (fun h=>hk.out _ h)]
  have hx1:=(hD jx tx hwx).2
  rw [hLx] at hx1
  have ex:a.eval (.tmp tx) = .int .i64 (m:Int):=hx1.here
  have hB:Below w.heap.size w (w.alloc (.cells q.zs.toArray e)):=(Below.refl _ _).alloc (Nat.le_refl _) _
  have hperm:=nG (v:=.slice (some ⟨w.heap.size,0,none⟩) m m) hk.self hq hqa hn hst
  rw [hc,hqT] at hperm
  have h1:=hg.1.alloc q.zs e
  have hGk:=fun v=>hG s v hk
  have hSt:=h1.perm (O':=OY al Ob (upd s i (.slice (some ⟨w.heap.size,0,none⟩) m m))) (List.Perm.append_right Ob hperm)
  refine iY hi rfl (v:=.slice (some ⟨w.heap.size,0,none⟩) m m) (w':=w.alloc (.cells q.zs.toArray e)) ?_ ⟨_,_,rfl,fun _ _=>rfl,by rw [hGk];exact hSt,kQ hB,fun b hb=>?_,by rw [hL];exact fun _ _=>⟨_,rfl,hg.2⟩⟩
  ·have hr:=run_make (P:=P) w T e inf z hU hinf hz .i64 .i64 m m (by omega) (by omega) hb h63
   rw [Int.toNat_natCast,hcs] at hr
   unfold execOp;simp only [];rw [ex]
   simp only [Sem.run_bind,hr,Result.andThen_ok,Sem.run_pure]
  ·rw [hGk] at hb
   rcases hb with ⟨p,hp,rfl⟩ | h
   ·have hp2:=(List.Perm.append_right Ob hperm).mem_iff.2 hp
    rw [List.cons_append] at hp2
    rcases List.mem_cons.1 hp2 with rfl | hp2
    ·exact .inr (Nat.le_refl _)
    ·exact .inl (.inl ⟨p,hp2,rfl⟩)
   ·exact .inl (.inr h)
end
def uQ (j1 j2 i:Nat) (s:Sy):Prop:=∃ v1 v2,s j1=some v1∧s j2=some v2∧s i=some (.agg #[v1,v2])
theorem pr_self {base:bN} {s:Sy} {j1 j2 i:Nat} {v1 v2:Value} (h1:s j1=some v1) (h2:s j2=some v2) (h:s i=none) (n1:j1≠i) (n2:j2≠i):jH base i (uQ j1 j2 i) (upd s i (.agg #[v1,v2]))=jH base i (uQ j1 j2 i) s:=by
 rw [jV (.inl h),jV (.inr ⟨v1,v2,by rw [dE _ _ n1];exact h1,by rw [dE _ _ n2];exact h2,jJ _ _ _⟩)]
theorem uR {base:bN} {s:Sy} {j1 j2 i k:Nat} {v:Value} (h:s i=none) (n1:i≠k):jH base i (uQ j1 j2 i) (upd s k v)=jH base i (uQ j1 j2 i) s:=by
 rw [jV (.inl h),jV (.inl (by rw [dE _ _ n1];exact h))]
open Classical in
theorem pr_far {base:bN} {s:Sy} {j1 j2 i k:Nat} {v:Value} (n1:i≠k) (n2:j1≠k) (n3:j2≠k):jH base i (uQ j1 j2 i) (upd s k v)=jH base i (uQ j1 j2 i) s:=by
 unfold jH uQ
 rw [dE _ _ n1,dE _ _ n2,dE _ _ n3]
end
section
theorem PInv.ne {n:Nat} {P:PT} (h:PInv n P) {b:Nat} (hb:b < P.fs.length):∃ s,s < n∧gN P.bk s=b:=by
 obtain ⟨h1,h2,_⟩:=h.rg b hb
 obtain ⟨h3,h4⟩:=h.ap (gN P.fs b) (by omega)
 exact ⟨_,h3,(h.bi _ b h3 hb).2 (by rw [h4];omega)⟩
theorem PInv.mr_zero {n:Nat} {P:PT} (h:PInv n P) (hm:∀ s,s < n→¬ PM P s) {b:Nat} (hb:b < P.fs.length):gN P.mr b=0:=by
 obtain ⟨h1,h2,_⟩:=h.rg b hb
 obtain ⟨h3,h4⟩:=h.ap (gN P.fs b) (by omega)
 have h5:gN P.bk (gN P.al (gN P.fs b))=b:=(h.bi _ b h3 hb).2 (by rw [h4];omega)
 have h6:=hm _ h3
 unfold PM at h6
 rw [h4,h5] at h6
 omega
def oW (P:PT) (s:Nat):Bool := !(decide (PM P s)) && decide (gN P.mr (gN P.bk s)=0)
structure MI (n:Nat) (P0:PT) (X:Nat→Prop) (P:PT) (T:List Nat):Prop where
 inv:PInv n P
 bk:P.bk=P0.bk
 fs:P.fs=P0.fs
 sz:P.sz=P0.sz
 m:∀ t,t < n→(PM P t↔X t)
 nd:T.Nodup
 mem:∀ b,b < P0.fs.length→(b∈T↔gN P.mr b≠0)
 tlt:∀ b∈T,b < P0.fs.length
section
variable {n:Nat} {P0 P:PT} {X:Nat→Prop} {T W W0:List Nat}
theorem MI.start (h:PInv n P0) (hm:∀ s,s < n→¬ PM P0 s):MI n P0 (fun _=>False) P0 []:=⟨h,rfl,rfl,rfl,fun t ht=>⟨fun h9=>hm t ht h9,fun h9=>h9.elim⟩,List.nodup_nil,fun b hb=>⟨fun h9=>(by cases h9),fun h9=>absurd (h.mr_zero hm hb) h9⟩,fun b h9=>by cases h9⟩
theorem MI.step (h:MI n P0 X P T) {s:Nat} (hs:s < n):MI n P0 (fun t=>X t∨t=s) (jG P s) (if oW P s=true then T++[gN P.bk s] else T):=by
 have ho:=qC h.inv hs
 have hb:gN P.bk s < P0.fs.length:=by rw [← h.fs];exact h.inv.bl s hs
 by_cases hp:PM P s
 ·have e1:oW P s=false:=by unfold oW;rw [decide_eq_true hp];rfl
  rw [e1,if_neg Bool.false_ne_true]
  refine ⟨ho.inv,ho.bk.trans h.bk,ho.fs.trans h.fs,ho.sz.trans h.sz,fun t ht=>by rw [ho.m t ht,h.m t ht],h.nd,fun b hb2=>?_,h.tlt⟩
  rw [ho.mr b (by rw [h.fs];exact hb2),if_neg (fun h9=>h9.2 hp)]
  exact h.mem b hb2
 ·by_cases h0:gN P.mr (gN P.bk s)=0
  ·have e1:oW P s=true:=by unfold oW;rw [decide_eq_false hp,decide_eq_true h0];rfl
   have hn:gN P.bk s∉T:=fun h9=>(h.mem _ hb).1 h9 h0
   rw [e1,if_pos rfl]
   refine ⟨ho.inv,ho.bk.trans h.bk,ho.fs.trans h.fs,ho.sz.trans h.sz,fun t ht=>by rw [ho.m t ht,h.m t ht],?_,fun b hb2=>?_,fun b hb2=>?_⟩
   ·rw [List.nodup_append]
    exact ⟨h.nd,by simp,fun a ha b hb2 e=>hn (by rw [List.mem_singleton.1 hb2] at e;rw [← e];exact ha)⟩
   ·rw [ho.mr b (by rw [h.fs];exact hb2),List.mem_append,List.mem_singleton]
    by_cases e:b=gN P.bk s
    ·rw [if_pos ⟨e,hp⟩];exact ⟨fun _=>by omega,fun _=>.inr e⟩
    ·rw [if_neg (fun h9=>e h9.1),← h.mem b hb2]
     exact ⟨fun h9=>h9.elim id (fun h8=>absurd h8 e),.inl⟩
   ·rcases List.mem_append.1 hb2 with h9 | h9
    ·exact h.tlt b h9
    ·rw [List.mem_singleton.1 h9];exact hb
  ·have e1:oW P s=false:=by unfold oW;rw [decide_eq_false h0,Bool.and_false]
   rw [e1,if_neg Bool.false_ne_true]
   refine ⟨ho.inv,ho.bk.trans h.bk,ho.fs.trans h.fs,ho.sz.trans h.sz,fun t ht=>by rw [ho.m t ht,h.m t ht],h.nd,fun b hb2=>?_,h.tlt⟩
   rw [ho.mr b (by rw [h.fs];exact hb2)]
   by_cases e:b=gN P.bk s
   ·rw [if_pos ⟨e,hp⟩,h.mem b hb2,e];exact ⟨fun _=>by omega,fun _=>h0⟩
   ·rw [if_neg (fun h9=>e h9.1)];exact h.mem b hb2
theorem MI.imp (h:MI n P0 X P T) {Y:Nat→Prop} (he:∀ t,t < n→(X t↔Y t)):MI n P0 Y P T:=⟨h.inv,h.bk,h.fs,h.sz,fun t ht=>(h.m t ht).trans (he t ht),h.nd,h.mem,h.tlt⟩
structure JI (n:Nat) (P0:PT) (W0 T:List Nat) (P:PT) (W:List Nat):Prop where
 inv:PInv n P
 len:P0.fs.length≤P.fs.length
 rel:∀ s t,s < n→t < n→(gN P.bk s=gN P.bk t↔gN P0.bk s=gN P0.bk t∧(gN P0.bk s∈T→(PM P0 s↔PM P0 t)))
 num:∀ s,s < n→gN P.bk s=gN P0.bk s∨(P0.fs.length≤gN P.bk s∧gN P.bk s∈W)
 sub:∀ b∈W0,b∈W
 wlt:(∀ b∈W0,b < P0.fs.length)→∀ b∈W,b < P.fs.length
 m:∀ s,s < n→(PM P s↔PM P0 s∧gN P0.bk s∉T)
 keep:∀ s c,s < n→c < P0.fs.length→c∉T→(gN P.bk s=c↔gN P0.bk s=c)
theorem JI.start (h:PInv n P0):JI n P0 W0 [] P0 W0:=⟨h,Nat.le_refl _,fun s t hs ht=>⟨fun e=>⟨e,fun h9=>by cases h9⟩,fun e=>e.1⟩,fun s hs=>.inl rfl,fun b hb=>hb,fun h9=>h9,fun s hs=>⟨fun h9=>⟨h9,fun h8=>by cases h8⟩,fun h9=>h9.1⟩,fun s c _ _ _=>Iff.rfl⟩
theorem JI.step (h:JI n P0 W0 T P W) {c:Nat} (hc:c < P0.fs.length) (hn:c∉T):JI n P0 W0 (T++[c]) (dK P c) (if jL P c=true then W++[P.fs.length] else W):=by
 have hcl:c < P.fs.length:=Nat.lt_of_lt_of_le hc h.len
 have ho:=oD h.inv hcl
 have hkc:∀ s,s < n→(gN P.bk s=c↔gN P0.bk s=c):=fun s hs=>h.keep s c hs hc hn
 have hsub:∀ b∈W,b∈(if jL P c=true then W++[P.fs.length] else W):=fun b hb=>by
  split
  ·exact List.mem_append_left _ hb
  ·exact hb
 have hfl:=ho.fl
 refine ⟨ho.inv,?_,fun s t hs ht=>?_,fun s hs=>?_,fun b hb=>hsub b (h.sub b hb),fun h9 b hb=>?_,fun s hs=>?_,fun s d hs hd hdn=>?_⟩
 ·have:=h.len
  rw [hfl];split<;>omega
 ·rw [ho.rel s t hs ht,h.rel s t hs ht,hkc s hs]
  have hms:gN P0.bk s=c→(PM P s↔PM P0 s):=fun e=>by
   rw [h.m s hs,e];exact ⟨fun h9=>h9.1,fun h9=>⟨h9,hn⟩⟩
  have hmt:gN P0.bk t=c→(PM P t↔PM P0 t):=fun e=>by
   rw [h.m t ht,e];exact ⟨fun h9=>h9.1,fun h9=>⟨h9,hn⟩⟩
  constructor
  ·rintro ⟨⟨e,h1⟩,h2⟩
   refine ⟨e,fun h3=>?_⟩
   rcases List.mem_append.1 h3 with h4 | h4
   ·exact h1 h4
   ·have e2:=List.mem_singleton.1 h4
    exact ((hms e2).symm.trans (h2 e2)).trans (hmt (e.symm.trans e2))
  ·rintro ⟨e,h1⟩
   refine ⟨⟨e,fun h3=>h1 (List.mem_append_left _ h3)⟩,fun e2=>?_⟩
   exact ((hms e2).trans (h1 (List.mem_append_right _ (List.mem_singleton.2 e2)))).trans (hmt (e.symm.trans e2)).symm
 ·rcases ho.num s hs with h1 | ⟨h1,h2,h3⟩
  ·rw [h1]
   rcases h.num s hs with h4 | ⟨h4,h5⟩
   ·exact .inl h4
   ·exact .inr ⟨h4,hsub _ h5⟩
  ·refine .inr ⟨by rw [h3];exact h.len,?_⟩
   rw [h3,if_pos h1];exact List.mem_append_right _ (List.mem_singleton.2 rfl)
 ·have hw:=h.wlt h9
  rw [hfl]
  by_cases h1:jL P c=true
  ·rw [if_pos h1] at hb ⊢
   rcases List.mem_append.1 hb with h2 | h2
   ·have:=hw b h2;omega
   ·rw [List.mem_singleton.1 h2];omega
  ·rw [if_neg h1] at hb ⊢;exact hw b hb
 ·rw [ho.m s hs,h.m s hs,List.mem_append,List.mem_singleton]
  have hk9:=hkc s hs
  constructor
  ·rintro ⟨⟨h1,h2⟩,h3⟩
   exact ⟨h1,fun h4=>h4.elim h2 (fun h5=>h3 (hk9.2 h5))⟩
  ·rintro ⟨h1,h2⟩
   exact ⟨⟨h1,fun h4=>h2 (.inl h4)⟩,fun h4=>h2 (.inr (hk9.1 h4))⟩
 ·rw [List.mem_append,List.mem_singleton] at hdn
  have hk9:=h.keep s d hs hd (fun h9=>hdn (.inl h9))
  rw [← hk9]
  rcases ho.num s hs with h1 | ⟨h1,h2,h3⟩
  ·rw [h1]
  ·have:=h.len
   refine ⟨fun h4=>by omega,fun h4=>absurd (.inr (h4.symm.trans h2)) hdn⟩
theorem HI.round {A:FA} {S:Nat→Prop} {j:Nat} {Pm:PT} (hA:A.Ok) (h:HI A (gN P0.bk) P0.fs.length W0 S j) (hn:A.n=n) (hj:j < A.k) (hM:MI n P0 (fun s=>S (A.nx s j)) Pm T) (hJ:JI n Pm W0 T P W):HI A (gN P.bk) P.fs.length W S (j+1):=by
 subst hn
 have hbk:=hM.bk
 have hfs:=hM.fs
 have hfl:Pm.fs.length=P0.fs.length:=by rw [hfs]
 refine h.split hA hj (fun s t hs ht=>?_) (fun s hs=>?_) hJ.sub (fun s hs=>hJ.inv.bl s hs) (fun b hb=>hJ.inv.ne hb) (hJ.wlt (fun b hb=>by rw [hfl];exact h.wlt b hb))
 ·rw [hJ.rel s t hs ht,hbk,hM.m s hs,hM.m t ht]
  refine ⟨fun h9=>⟨h9.1,?_⟩,fun h9=>⟨h9.1,fun _=>h9.2⟩⟩
  by_cases hT:gN P0.bk s∈T
  ·exact h9.2 hT
  ·have key:∀ r,r < A.n→gN P0.bk r=gN P0.bk s→¬ S (A.nx r j):=fun r hr e h8=>by
    have h7:=(hM.m r hr).2 h8
    have h6:gN Pm.mr (gN P0.bk r)≠0:=fun h5=>by
     unfold PM at h7
     have h4:=hM.inv.at_ hr
     rw [hbk] at h7 h4
     rw [h5] at h7
     omega
    have hbr:gN P0.bk r < P0.fs.length:=by have:=hM.inv.bl r hr;rw [hbk,hfs] at this;exact this
    exact hT (by rw [← e];exact (hM.mem _ hbr).2 h6)
   exact ⟨fun h8=>absurd h8 (key s hs rfl),fun h8=>absurd h8 (key t ht h9.1.symm)⟩
 ·rcases hJ.num s hs with h1 | ⟨_,h1⟩
  ·exact .inl (by rw [h1,hbk])
  ·exact .inr h1
theorem qD {Pm:PT} (hM:MI n P0 X Pm T) (hJ:JI n Pm W0 T P W):∀ s,s < n→¬ PM P s:=fun s hs h9=>by
 obtain ⟨h1,h2⟩:=(hJ.m s hs).1 h9
 have hb:gN Pm.bk s < P0.fs.length:=by rw [← hM.fs];exact hM.inv.bl s hs
 refine h2 ((hM.mem _ hb).2 fun h3=>?_)
 unfold PM at h1
 have h4:=hM.inv.at_ hs
 rw [h3] at h1;omega
def kY (n:Nat):PT:=⟨List.range n,List.range n,List.replicate n 0,[0],[n],[0]⟩
theorem oF {n i:Nat} (h:i < n):gN (List.range n) i=i:=by
 unfold gN;rw [List.getD_eq_getElem?_getD,List.getElem?_range h];rfl
theorem oP {n i:Nat}:gN (List.replicate n 0) i=0:=by
 unfold gN;rw [List.getD_eq_getElem?_getD,List.getElem?_replicate];split<;>rfl
theorem pini_ok (hn:0 < n):PInv n (kY n):=by
 refine ⟨by simp [kY],by simp [kY],by simp [kY],rfl,rfl,fun s hs=>?_,fun s hs=>?_,fun s hs=>?_,fun b hb=>?_,fun s b hs hb=>?_⟩
 ·unfold kY;dsimp only;rw [oF hs,oF hs];exact ⟨hs,rfl⟩
 ·unfold kY;dsimp only;rw [oF hs,oF hs];exact ⟨hs,rfl⟩
 ·unfold kY;dsimp only;rw [oP];exact Nat.zero_lt_one
 ·have hb0:b=0:=by unfold kY at hb;simp at hb;exact hb
  subst hb0
  unfold kY;exact ⟨hn,by simp,Nat.zero_le _⟩
 ·have hb0:b=0:=by unfold kY at hb;simp at hb;exact hb
  subst hb0
  unfold kY
  dsimp only
  rw [oF hs,oP]
  exact ⟨fun _=>⟨Nat.zero_le _,by simpa using hs⟩,fun _=>rfl⟩
theorem pini_un:∀ s,¬ PM (kY n) s:=fun s h=>by
 unfold PM kY at h
 dsimp only at h
 rw [oP] at h
 simp at h
theorem init_HI {A:FA} (hA:A.Ok) (hM:MI A.n (kY A.n) (fun s=>A.ac s=true) P T):HI A (gN (dK P 0).bk) (dK P 0).fs.length (if 1 < (dK P 0).fs.length then [1] else []) NoS A.k∧(∀ s,s < A.n→¬ PM (dK P 0) s)∧PInv A.n (dK P 0):=by
 have hfl:P.fs.length=1:=by rw [hM.fs];rfl
 have hb0:∀ s,gN P.bk s=0:=fun s=>by rw [hM.bk];exact oP
 have ho:=oD hM.inv (b:=0) (by rw [hfl];exact Nat.zero_lt_one)
 have hrel:∀ s t,s < A.n→t < A.n→(gN (dK P 0).bk s=gN (dK P 0).bk t↔A.ac s=A.ac t):=fun s t hs ht=>by
  rw [ho.rel s t hs ht,hb0,hb0,hM.m s hs,hM.m t ht]
  refine ⟨fun h=>Bool.eq_iff_iff.2 (h.2 rfl),fun h=>⟨rfl,fun _=>by rw [h]⟩⟩
 have hlen:(dK P 0).fs.length=if jL P 0=true then 2 else 1:=by rw [ho.fl,hfl]
 have hnum:∀ s,s < A.n→gN (dK P 0).bk s=0∨(gN (dK P 0).bk s=1∧1 < (dK P 0).fs.length):=fun s hs=>by
  rcases ho.num s hs with h | ⟨h1,_,h3⟩
  ·exact .inl (h.trans (hb0 s))
  ·exact .inr ⟨h3.trans hfl,by rw [hlen,if_pos h1];exact Nat.lt_succ_self 1⟩
 refine ⟨⟨fun s hs=>ho.inv.bl s hs,fun b hb=>ho.inv.ne hb,fun b hb=>?_,fun s t hs ht e=>?_,fun s t hs ht e=>(hrel s t hs ht).1 e,fun p q hp hq hne=>?_,fun s t hs ht e=>Iff.rfl,fun x s t hx hs ht e=>Iff.rfl⟩,fun s hs h=>?_,ho.inv⟩
 ·split at hb
  ·rename_i h;rw [List.mem_singleton.1 hb];exact h
  ·cases hb
 ·exact (hrel s t hs ht).2 (e [] (fun x hx=>by cases hx))
 ·rcases hnum p hp with h1 | ⟨h1,h2⟩
  ·rcases hnum q hq with h3 | ⟨h3,h4⟩
   ·exact absurd (h1.trans h3.symm) hne
   ·exact .inr (.inr (.inl (by rw [h3,if_pos h4];exact List.mem_singleton.2 rfl)))
  ·exact .inr (.inl (by rw [h1,if_pos h2];exact List.mem_singleton.2 rfl))
 ·exact ((ho.m s hs).1 h).2 (hb0 s)
end
end
section
open Go.RowKit
theorem cA:prog.follows .mixedOrders=true:=by kernel_rfl
theorem fZ (v0:Int):Instr.fill (fun i=>some (i * 1,1)) ((Array.range (1 * 1)).map ((Value.cells (.int .i64 0))[· % (Value.cells (.int .i64 0)).size]!)) [(0,.int .i64 v0)]=some (List.toArray [.int .i64 v0]):=by kernel_rfl
theorem iD:prog.info? 3=some Try.t3:=by kernel_rfl
end
section
def Bt (c:Nat):Nat→Nat
 | 0=>0
 | m+1=>256 * Bt c m+c
def py (m x:Nat):Nat:=(x / 2 &&& Bt 85 m)+(x &&& Bt 85 m)
def y1 (b:Nat):Nat:=((b / 2) &&& 85)+(b &&& 85)
def z1 (b:Nat):Nat:=(y1 b / 4 &&& 51)+(y1 b &&& 51)
def v1 (b:Nat):Nat:=(z1 b / 16+z1 b) &&& 15
end
section
open Go.RowKit
theorem gO {k:IntKind} {a b:Int} (h:a=b):Ending.returned (.int k a) = .returned (.int k b):=by rw [h]
theorem kZ {a b:Bool} (h:a=b):Ending.returned (.bool a) = .returned (.bool b):=by rw [h]
end
section
open Go.RowKit Go.Shelf
attribute [local go_sem] Oper.semAt_some
def mem (s:Nat):List Nat:=(List.range 64).filter s.testBit
end
section
open Go.RowKit
structure Cl where
 f:Nat
 k:Int
 v:Int
structure WF where
 z:Bool
 c:Int
 g:Nat
 ra:Option Addr
 rl:Nat
 rc:Nat
 rows:List Nat
 ca:Option Addr
 cl:Nat
 cc:Nat
 cells:List Cl
 pa:Option Addr
 pl:Nat
 pc:Nat
def W6 (w:World) (b o:Nat) (f:WF):Prop:=w.cell? ⟨b,o,none⟩=some (.bool f.z)∧w.cell? ⟨b,o+1,none⟩=some (.int .i64 f.c)∧w.cell? ⟨b,o+2,none⟩=some (.int .u64 (f.g:Int))∧w.cell? ⟨b,o+3,none⟩=some (.slice f.ra f.rl f.rc)∧w.cell? ⟨b,o+4,none⟩=some (.slice f.ca f.cl f.cc)∧w.cell? ⟨b,o+5,none⟩=some (.slice f.pa f.pl f.pc)
def vals (c:Cl):List Value:=[.int .u64 (c.f:Int),.int .i64 c.k,.int .i64 c.v]
def z0:Cl:=⟨0,0,0⟩
def threeC:Cl:=⟨0,1,3⟩
def rA:List Cl:=[threeC,⟨2,0,0⟩]
def rB:List Cl:=[⟨1,0,0⟩,⟨1,0,0⟩]
def Row (w:World) (a:Option Addr) (zs:List Int):Prop :=
 zs=[]∨∃ b off,a=some ⟨b,off,none⟩∧∀ i,i < zs.length→w.cell? ⟨b,off+i,none⟩=some (.int .i64 (zs.getD i 0))
theorem wS {w:World} {a:Addr} {v:Value} (h:w.cell? a=some v):a.block < w.heap.size:=by
 rcases Nat.lt_or_ge a.block w.heap.size with h' | h'
 ·exact h'
 ·simp [World.cell?,Array.getElem?_eq_none h'] at h
theorem Row.below {w w':World} {a:Option Addr} {zs:List Int} (h:Row w a zs) (hb:Below w.heap.size w w'):Row w' a zs:=by
 rcases h with h | ⟨b,off,rfl,hc⟩
 ·exact .inl h
 ·refine .inr ⟨b,off,rfl,fun i hi=>?_⟩
  have h1:=hc i hi
  rw [hb.cell]
  ·exact h1
  ·exact wS h1
theorem dH {α:Type} {l:List α} {q:α→Bool} {i:Nat} {x:α} (h:l[i]?=some x) (hq:q x=false):l.all q=false:=by
 rw [List.all_eq_false];exact ⟨x,List.mem_of_getElem? h,by rw [hq];decide⟩
theorem hC {α:Type} {l:List α} {q:α→Bool} {i:Nat} {x:α} (h:l[i]?=some x) (ha:(l.take i).all q=true) (hq:q x=true):(l.take (i+1)).all q=true:=by
 rw [List.take_add_one,h];simp [ha,hq]
set_option linter.unusedSimpArgs false
def pc:Nat→Nat→Nat
 | 0,_=>0
 | n+1,f=>pc n f+(if f.testBit n then 1 else 0)
theorem Row.at1 {w:World} {a:Option Addr} {zs:List Int} (h:Row w a zs) {i:Nat} (hi:i < zs.length):∃ b off y,a=some ⟨b,off,none⟩∧zs[i]?=some y∧w.cell? ⟨b,off+i * 1,none⟩=some (.int .i64 y):=by
 rcases h with rfl | ⟨b,off,ha,hc⟩
 ·simp at hi
 ·refine ⟨b,off,zs[i],ha,by simp [hi],?_⟩
  rw [Nat.mul_one]
  have:=hc i hi
  rw [this];simp [List.getD,List.getElem?_eq_getElem hi]
def inQ (x n:Int):Bool:=decide (0≤x) && decide (x < n)
section
variable {P:Program} {n:Nat} {Q:Exit→Act→World→Prop} {l:Fr} {w0 W:World} {ops:Array Oper} {os:List Oper} {O:Own} {G:bN} {K:List (Nat×World)} {L L2:List Asr} {i:Nat} {ty:TypeId} {pos:String}
def qE (ops:Array Oper) (k:Nat):Bool:=decide (k+1=ops.size) && (List.range k).all fun j=>(earlyL ops k).contains j
theorem qF {k:Nat} (h:qE ops k=true):k+1=ops.size:=by
 unfold qE at h
 exact of_decide_eq_true (Bool.and_eq_true_iff.1 h).1
theorem rJ {k:Nat} {o:Oper} {LB:Array Bool} (h:qE ops k=true) (ho:ops[k]?=some o) (hdep:∀ e∈o.after,Region.binds .any e=true→LB.getD e.on false=true) (hcl:∀ j,LB.getD j false=true→∀ x∈aft ops j,LB.getD x false=true):∀ j,j < k→LB.getD j false=true:=fun j hj=>by
 unfold qE at h
 have h2:=List.all_eq_true.1 (Bool.and_eq_true_iff.1 h).2 j (List.mem_range.2 hj)
 refine gT (D:=fun x=>LB.getD x false=true) (fun x hx=>?_) hcl j (List.contains_iff_mem.1 h2)
 obtain ⟨e,he,h5,h6⟩:=jZ ho hx
 have h7:=hdep e he h6
 rw [h5] at h7
 exact h7
theorem oQ {o:Oper} {LB:Array Bool} (hi:i < LB.size) (ho:ops[i]?=some o) (hdep:∀ e∈o.after,Region.binds .any e=true→LB.getD e.on false=true) (hcl:∀ j,LB.getD j false=true→∀ x∈aft ops j,LB.getD x false=true):∀ j,(LB.setIfInBounds i true).getD j false=true→∀ x∈aft ops j,(LB.setIfInBounds i true).getD x false=true:=fun j hj x hx=>by
 have hx2:LB.getD x false=true:=by
  by_cases hji:j=i
  ·subst hji
   obtain ⟨e,he,h5,h6⟩:=jZ ho hx
   have h7:=hdep e he h6
   rw [h5] at h7
   exact h7
  ·rw [getD_set_ne false (Ne.symm hji)] at hj
   exact hcl j hj x hx
 by_cases hxi:x=i
 ·subst hxi
  rw [Array.getD_eq_getD_getElem?,Array.getElem?_setIfInBounds_self_of_lt hi];rfl
 ·rw [getD_set_ne false (Ne.symm hxi)];exact hx2
theorem rD {k:Nat} {dn:Nat→Bool} {t0:Array Value} {d0:List Deferred} {G:World→Prop} {I:Nat→Value→World→Prop} (hl:qE ops k=true) (ht:dG ops t0.size=true) (hst:∀ i v w w',G w→I i v w→Below w.heap.size w w'→I i v w')
  (hstep:∀ i,i < k→dn i=false→fH P ops Q t0 G I i) (hfin:qV ops t0 d0 G I k (wpOp P ops Q k (Q .normal))) :
  ∀ (fuel:Nat) (L:Array Bool) (a:Act) (w:World),L.size=ops.size→L.getD k true=false→(∀ i,dn i=true→L.getD i false=true)→L.toList.count false≤fuel→(∀ j,L.getD j false=true→∀ x∈aft ops j,L.getD x false=true)→RInv ops t0 d0 G I L a w→wpAny P .any ops Q fuel L a w:=by
 have hk:k+1=ops.size:=qF hl
 have cnt:∀ (L:Array Bool) i,L.getD i true=false→L.toList[i]?=some false:=fun L i h1=>by
  rw [Array.getD_eq_getD_getElem?] at h1
  rw [Array.getElem?_toList]
  cases hL:L[i]? with
  | none=>rw [hL] at h1;cases h1
  | some b=>rw [hL] at h1;simpa using h1
 intro fuel
 induction fuel with
 | zero =>
  intro L a w hs hlk hlp hc hcl h
  have:=eI _ _ (cnt L k hlk)
  omega
 | succ fuel ih =>
  intro L a w hs hlk hlp hc hcl h
  refine ⟨fun hr=>?_,fun i hi=>?_⟩
  ·rw [fL ht hs hr k (by omega)] at hlk
   cases hlk
  ·obtain ⟨h1,o,ho,hdep⟩:=mem_ready.1 hi
   have his:i < ops.size:=(Array.getElem?_eq_some_iff.1 ho).1
   have hc1:=eI _ _ (cnt L i h1)
   have hip:dn i=false:=by
    cases hd:dn i with
    | false=>rfl
    | true =>
     have h3:=hlp i hd
     have h2:=cnt L i h1
     rw [Array.getElem?_toList] at h2
     rw [Array.getD_eq_getD_getElem?,h2] at h3
     cases h3
   by_cases hik:i=k
   ·subst hik
    have hall:∀ j,j < i→L.getD j false=true:=rJ hl ho (fun e he hb=>hdep e he hb) hcl
    refine wpOp_mono ?_ (hfin a w h.size h.defers h.frame h.glob fun j d hj hd=>h.done j d hd (hall j hj))
    intro a' w' hq
    have hnil:Region.ready .any ops (L.setIfInBounds i true)=[]:=by
     cases hr:Region.ready .any ops (L.setIfInBounds i true) with
     | nil=>rfl
     | cons j rest =>
      have hj:j∈Region.ready .any ops (L.setIfInBounds i true):=by rw [hr];exact List.mem_cons_self
      obtain ⟨h5,o',ho',_⟩:=mem_ready.1 hj
      have hjs:j < ops.size:=(Array.getElem?_eq_some_iff.1 ho').1
      by_cases hji:j=i
      ·subst hji
       rw [Array.getD_eq_getD_getElem?,Array.getElem?_eq_getElem (by simpa using (by omega:j < L.size))] at h5
       simp at h5
      ·rw [getD_set_ne true (Ne.symm hji)] at h5
       have h6:=hall j (by omega)
       rw [Array.getD_eq_getD_getElem?] at h5 h6
       rw [Array.getElem?_eq_getElem (by omega)] at h5 h6
       simp at h5 h6
       rw [h5] at h6
       cases h6
    cases fuel with
    | zero=>exact ⟨hnil,hq⟩
    | succ fuel=>exact ⟨fun _=>hq,by rw [hnil];simp⟩
   ·refine wpOp_mono ?_ (hstep i (by omega) hip a w h.frameE h.glob (h.deps hi))
    rintro a' w' ⟨⟨v,rfl,hI⟩,hG,hB⟩
    refine ih _ _ _ (by simpa using hs) (by rw [getD_set_ne true hik];exact hlk) (fun j hj=>?_) ?_ (oQ (by omega) ho (fun e he hb=>hdep e he hb) hcl) (h.next ht h1 hst hI hG hB)
    ·have hij:i≠j:=fun e=>by subst e;rw [hip] at hj;cases hj
     rw [getD_set_ne false hij];exact hlp j hj
    ·rw [Array.toList_setIfInBounds]
     omega
theorem qG {k p dp:Nat} {t0:Array Value} {d0:List Deferred} {late:Nat→Bool} {o:Oper} {RA:World→Value→World→Prop} (hl:qE ops k=true) (ht:dG ops t0.size=true) (hst:kK L) (hst2:kK L2) (hpk:p < k) (hp:ops[p]?=some o) (hod:o.dst=some dp) (hog:o.guard=none)
  (hearly:∀ j,j < k→j≠p→late j=false→j∈earlyL ops p)
  (hstep:∀ i,i < k→i≠p→fH P ops Q t0 (fun w=>Below W.heap.size W w) (atI L) i)
  (happ:∀ (a:Act) (w:World),(∀ t,freeT ops t=true→a.eval (.tmp t)=t0.getD t undef)→Below W.heap.size W w→(∀ j d,bG ops p j d=true→atI L j (a.eval (.tmp d)) w)→∃ v w',(execOp a.eval o).run P w = .ok (.value v) w'∧RA w v w')
  (hL2p:atI L2 p=anyA) (hpure:∀ i,i < k→i≠p→∀ v w w',atI L i v w→atI L2 i v w')
  (hlate:∀ v' W2 i,i < k→i≠p→late i=true→fH P ops Q t0 (fun w=>w=W2) (IP L2 p v') i)
  (hfin:∀ A v' W2,Below W.heap.size W A→RA A v' W2→qV ops t0 d0 (fun w=>w=W2) (IP L2 p v') k (wpOp P ops Q k (Q .normal))) :
  ∀ (fuel:Nat) (LB:Array Bool) (a:Act) (w:World),LB.size=ops.size→LB.getD k true=false→LB.toList.count false≤fuel→LB.getD p true=false→(∀ j,LB.getD j false=true→∀ x∈aft ops j,LB.getD x false=true)→RInv ops t0 d0 (fun w=>Below W.heap.size W w) (atI L) LB a w→wpAny P .any ops Q fuel LB a w:=by
 have hl0:=hl
 have hk:k+1=ops.size:=qF hl
 have cnt:∀ (L:Array Bool) i,L.getD i true=false→L.toList[i]?=some false:=fun L i h1=>by
  rw [Array.getD_eq_getD_getElem?] at h1
  rw [Array.getElem?_toList]
  cases hL:L[i]? with
  | none=>rw [hL] at h1;cases h1
  | some b=>rw [hL] at h1;simpa using h1
 intro fuel
 induction fuel with
 | zero =>
  intro LB a w hs hlk hc hlp hcl h
  have:=eI _ _ (cnt LB k hlk)
  omega
 | succ fuel ih =>
  intro LB a w hs hlk hc hlp hcl h
  refine ⟨fun hr=>?_,fun i hi=>?_⟩
  ·rw [fL ht hs hr k (by omega)] at hlk
   cases hlk
  ·obtain ⟨h1,o',ho,hdep⟩:=mem_ready.1 hi
   have his:i < ops.size:=(Array.getElem?_eq_some_iff.1 ho).1
   have hc1:=eI _ _ (cnt LB i h1)
   by_cases hik:i=k
   ·subst hik
    have h3:=rJ hl ho (fun e he hb=>hdep e he hb) hcl p hpk
    have h4:=cnt LB p hlp
    rw [Array.getElem?_toList] at h4
    rw [Array.getD_eq_getD_getElem?,h4] at h3
    cases h3
   ·by_cases hip:i=p
    ·subst hip
     rw [hp] at ho
     have ho':=(Option.some.inj ho).symm
     subst ho'
     obtain ⟨v',w',hr,hRA⟩:=happ a w h.frameE h.glob (h.deps hi)
     have step:wpOp P ops Q i (fun a2 w2=>a2=a.put (some dp) v'∧w2=w') a w:=by
      unfold wpOp
      simp only [hp,dV hog,if_true]
      refine .inl ?_
      unfold Oper.wp
      rw [hr]
      exact ⟨by rw [hod],rfl⟩
     refine wpOp_mono ?_ step
     rintro a2 w2 ⟨rfl,rfl⟩
     have hdst:(ops[i]?).bind (·.dst)=some dp:=by rw [hp];exact hod
     refine rD (t0:=t0) (d0:=d0) (dn:=fun j=>decide (j=i) || (decide (j < k) && !late j)) (G:=fun w=>w=w2) (I:=IP L2 i v') hl0 ht ?_ ?_ (hfin _ _ _ h.glob hRA) fuel _ _ _ (by simpa using hs) (by rw [getD_set_ne true hik];exact hlk) ?_ ?_ (oQ (by omega) hp (fun e he hb=>hdep e he hb) hcl) ?_
     ·rintro j v w1 w3 _ ⟨h5,h6⟩ hb
      exact ⟨h5,iR hst2 _ _ _ _ h6 hb⟩
     ·intro j hj hd
      simp only [Bool.or_eq_false_iff,decide_eq_false_iff_not,Bool.and_eq_false_iff,Bool.not_eq_false'] at hd
      refine hlate v' w2 j hj hd.1 ?_
      rcases hd.2 with h5 | h5
      ·exact absurd hj h5
      ·exact h5
     ·intro j hd
      simp only [Bool.or_eq_true,decide_eq_true_eq,Bool.and_eq_true,Bool.not_eq_true'] at hd
      by_cases hji:j=i
      ·subst hji
       rw [Array.getD_eq_getD_getElem?,Array.getElem?_setIfInBounds_self_of_lt (by omega)];rfl
      ·rcases hd with hd | ⟨hd1,hd2⟩
       ·exact absurd hd hji
       ·rw [getD_set_ne false (Ne.symm hji)]
        refine gT (D:=fun x=>LB.getD x false=true) (fun x hx=>?_) (fun j hj x hx=>hcl j hj x hx) j (hearly j hd1 hji hd2)
        obtain ⟨e,he,h5,h6⟩:=jZ hp hx
        have h7:=hdep e he h6
        rw [h5] at h7
        exact h7
     ·rw [Array.toList_setIfInBounds];omega
     ·refine ⟨by rw [jO];exact h.size,by rw [gQ];exact h.defers,fun t hf=>?_,rfl,fun j d hd hj=>?_⟩
      ·rw [eJ ?_]
       ·exact h.frame t hf
       ·intro e
        have:=Array.all_eq_true'.1 hf _ (Array.mem_of_getElem? hp)
        simp at this
        exact this (hod.trans e)
      ·by_cases hji:j=i
       ·subst hji
        rw [hdst] at hd
        rw [nU hd (by rw [h.size];exact (fS ht (hdst.trans hd)).1)]
        exact ⟨fun _=>rfl,by rw [hL2p];trivial⟩
       ·rw [getD_set_ne false (Ne.symm hji)] at hj
        rw [eJ (fun e=>hji ((fS ht (hdst.trans e)).2 j hd))]
        have hjk:j < k:=by
         obtain ⟨o2,ho2,_⟩:=Option.bind_eq_some_iff.1 hd
         have h5:=(Array.getElem?_eq_some_iff.1 ho2).1
         have h6:j≠k:=fun e=>by
          subst e
          have h4:=cnt LB j hlk
          rw [Array.getElem?_toList] at h4
          rw [Array.getD_eq_getD_getElem?,h4] at hj
          cases hj
         omega
        exact ⟨fun e=>absurd e hji,hpure j hjk hji _ _ _ (h.done j d hd hj)⟩
    ·refine wpOp_mono ?_ (hstep i (by omega) hip a w h.frameE h.glob (h.deps hi))
     rintro a' w' ⟨⟨v,rfl,hI⟩,hG,hB⟩
     refine ih _ _ _ (by simpa using hs) (by rw [getD_set_ne true hik];exact hlk) ?_ (by rw [getD_set_ne true hip];exact hlp) (fun j hj x hx=>?_) (h.next ht h1 (fun i v w w' _ h hb=>iR hst i v w w' h hb) hI hG hB)
     ·rw [Array.toList_setIfInBounds]
      omega
     ·have hx2:LB.getD x false=true:=by
       by_cases hji:j=i
       ·subst hji
        obtain ⟨e,he,h5,h6⟩:=jZ ho hx
        have h7:=hdep e he h6
        rw [h5] at h7
        exact h7
       ·rw [getD_set_ne false (Ne.symm hji)] at hj
        exact hcl j hj x hx
      by_cases hxi:x=i
      ·subst hxi
       rw [Array.getD_eq_getD_getElem?,Array.getElem?_setIfInBounds_self_of_lt (by omega)];rfl
      ·rw [getD_set_ne false (Ne.symm hxi)];exact hx2
theorem regBPC {id dp p k:Nat} {o:Oper} {t e tx tz:TypeId} {inf:TypeInfo} {z:Value} {gi m:Nat} {g:GR} {aftp:Array Edge} (hm:P.follows .mixedOrders=true) (hS:St w0 O G K W) (hk:os[k]?=some o) (hlen:os.length=k+1) (hl:qE os.toArray k=true) (ht:dG os.toArray n=true) (hdst:(os.take k).all (fun o=>o.dst.isSome)=true) (hfree:∀ d,o.dst=some d→dO l d=none)
  (hp:os[p]?=some ⟨some dp,.call { callee:=.builtin .append,args:=#[.tmp tx,.tmp tz],argTypes:=#[t,t] },ty,pos,aftp,none⟩) (hpk:Nat.blt p k=true)
  (hU:P.underlying t=some (.slice e)) (hinf:P.info? e=some inf) (hz:inf.zero=some z) (hzs:z.cells.size=inf.size) (hsz:0 < inf.size)
  (hi:G[gi]?=some g) (he:g.e=e) (hgs:g.size=inf.size) (h63:g.n+m≤maxLen) (hbytes:(g.n+m) * inf.bytes≤140737488355328)
  (h:BLP P n os.toArray Q l W p (fun Lr L2r=>∃ (py:Asr) (q:List Value→World→Prop),OpG n os.toArray l Lr.reverse p tx (isV g.v)∧OpG n os.toArray l Lr.reverse p tz py∧A3 m inf.size q py ∧
   ∀ A v' news W',Below W.heap.size W A→q news A→St w0 O (G.set gi ⟨v',g.n+m,g.xs++news,e,g.size⟩) ((W.heap.size,A)::K) W'→iE (os.take k) (pvL v' p 0 L2r.reverse) l (fun l' W'=>cJ P n os.toArray Q [o] l' W') W') k [] [] 0):dS P n (.region id os.toArray true) Q l W:=by
 obtain ⟨Lr,L2r,h1,h2,h3,h4,h5,py,q,hx,hy,hpy,hfin⟩:=sH p ht k 0 [] [] rfl rfl (fun p hp=>by cases hp) (fun p hp=>by cases hp) (fun i hi=>by omega) h
 have hpk':p < k:=Nat.lt_of_lt_of_le (Nat.lt_succ_self _) (Nat.le_of_ble_eq_true hpk)
 subst he
 rw [Nat.zero_add] at h1 h2 h5
 have hpo:os.toArray[p]?=some ⟨some dp,.call { callee:=.builtin .append,args:=#[.tmp tx,.tmp tz],argTypes:=#[t,t] },ty,pos,aftp,none⟩:=by simpa using hp
 have hko:os.toArray[k]?=some o:=by simpa using hk
 have hL2p:atI L2r.reverse p=anyA:=by
  rcases (h5 p hpk').2 with h6 | h6
  ·exact h6.2
  ·exact absurd rfl h6.1
 intro a ha
 refine wp_region_any hm (qG (W:=W) (t0:=a.tmps) (d0:=a.defers) (L:=Lr.reverse) (L2:=L2r.reverse) (late:=fun j => !nY os.toArray p j)
  (RA:=fun A v' W'=>∃ news,q news A∧St w0 O (G.set gi ⟨v',g.n+m,g.xs++news,g.e,g.size⟩) ((W.heap.size,A)::K) W') hl (by rw [ha.size];exact ht) (iV fun q hq=>h3 q (List.mem_reverse.1 hq)) (iV fun q hq=>h4 q (List.mem_reverse.1 hq)) hpk' hpo rfl rfl ?_ ?_ ?_ hL2p ?_ ?_ ?_ _ _ _ _ (by simp) ?_ (gE _) ?_ (fun j hj=>by rw [Array.getD_eq_getD_getElem?,Array.getElem?_replicate] at hj;split at hj<;>simp at hj) (mT ((Below.refl _ _).drew)))
 ·intro j hj hjp he
  simp only [Bool.not_eq_false'] at he
  exact List.contains_iff_mem.1 he
 ·intro i hi hip
  rcases (h5 i hi).2 with h6 | h6
  ·exact absurd h6.1 hip
  ·exact h6.2.1 a ha
 ·intro b w hF hG hD
  have ex:b.eval (.tmp tx)=g.v:=hx a ha b w hF hD
  obtain ⟨bb,oo,c,cs,ey,hc,hcl,h1c,hq⟩:=hpy _ w (hy a ha b w hF hD)
  have hS2:=hS.call hG
  have hrow:=hS2.row gi hi
  rw [hgs] at hrow
  obtain ⟨v',W',hr,k2,k3,k4⟩:=gW (P:=P) (w:=w) w0.heap.size t ty g.e inf z hU hinf hz hzs hsz g.v g.n g.xs hrow ⟨bb,oo,none⟩ m c cs hcl (fun j u hj=>by rw [Addr.add_lit];exact hc.get j u hj) (fun u hu=>List.all_eq_true.1 h1c u hu) h63 hbytes hS2.below.size
  rw [← hgs] at k2
  refine ⟨v',W',?_,cs,hq,hS2.setG gi hi k2 k3 k4⟩
  unfold execOp
  simp only [resolve,invoke,builtin,Sem.run_bind,Sem.run_pure,Result.andThen_ok,List.map_toArray,List.map_cons,List.map_nil,ex,ey,hr]
 ·intro i hi hip v w w' hv
  exact (h5 i hi).1 v w w' hv
 ·intro v' W2 i hi hip hlt
  rcases (h5 i hi).2 with h6 | h6
  ·exact absurd h6.1 hip
  ·rcases h6.2.2 with h7 | h7
   ·rw [h7] at hlt;cases hlt
   ·exact h7 v' W2 a ha
 ·rintro A v' W2 hB ⟨news,hq,hS2⟩
  intro a' W' hs hd hf hG hI
  subst hG
  have hdst':∀ o∈os.take k,∃ d,o.dst=some d:=fun o ho=>Option.isSome_iff_exists.1 (List.all_eq_true.1 hdst o ho)
  have htk:(os.take k).length=k:=by simp;omega
  refine mW (os.take k) (pvL v' p 0 L2r.reverse) l (fun i d hi hd'=>?_) (hs.trans ha.size) (hd.trans ha.defers) ?_ hdst' (fun l' h ha'=>?_) (hfin A v' news W' hB hq hS2)
  ·have hik:i < k:=by omega
   have h6:=hI i d hik (by rw [List.getElem?_take,if_pos hik] at hd';simpa using hd')
   rw [sG L2r.reverse 0 i (by simp;omega)]
   by_cases hip:i+0=p
   ·rw [if_pos hip];exact h6.1 hip
   ·rw [if_neg hip];exact h6.2
  ·intro t' v hv hno
   rw [hf t' (by
    unfold freeT;rw [Array.all_eq_true'];intro o' ho'
    have ho2:o'∈os:=by simpa using ho'
    obtain ⟨j,hj⟩:=List.getElem?_of_mem ho2
    by_cases hjk:j < k
    ·have:o'∈os.take k:=List.mem_of_getElem? (by rw [List.getElem?_take,if_pos hjk];exact hj)
     simpa using hno o' this
    ·have hjl:=(List.getElem?_eq_some_iff.1 hj).1
     have:j=k:=by omega
     subst this
     rw [hk] at hj
     have e2:=Option.some.inj hj
     subst e2
     cases hx:o.dst with
     | none=>simp
     | some d=>simp;intro e;subst e;rw [hfree d hx] at hv;cases hv)]
   exact ha.at_ t' v hv
  ·have h6:=h a' ha'
   unfold wpOp
   rw [hko]
   exact h6
 ·rw [Array.getD_eq_getD_getElem?,Array.getElem?_replicate,if_pos (by simp;omega)];rfl
 ·rw [Array.getD_eq_getD_getElem?,Array.getElem?_replicate,if_pos (by simp;omega)];rfl
end
theorem eY (v0:Bool):Instr.fill (fun i=>some (i * 1,1)) ((Array.range (1 * 1)).map ((Value.cells (.bool false))[· % (Value.cells (.bool false)).size]!)) [(0,.bool v0)]=some (List.toArray [.bool v0]):=by kernel_rfl
theorem jC:prog.info? 4=some Try.t4:=by kernel_rfl
def fE (w:World) (a:Option Addr) (fs:List Bool):Prop:=∀ (i:Nat) f,fs[i]?=some f→∃ b off,a=some ⟨b,off,none⟩∧w.cell? ⟨b,off+i * 1,none⟩=some (.bool f)
theorem fE.below {w w':World} {a:Option Addr} {fs:List Bool} (h:fE w a fs) (hb:Below w.heap.size w w'):fE w' a fs:=fun i f hi=>by
 obtain ⟨b,off,e,h1⟩:=h i f hi
 exact ⟨b,off,e,(hb.cell (World.block_lt_of_cell? _ _ h1)).trans h1⟩
def cnt (f:Nat→Nat) (t:Nat):Nat→Nat
 | 0=>0
 | m+1=>cnt f t m+(if f m=t then 1 else 0)
def gD (f:Nat→Nat) (m:Nat):Nat→Nat
 | 0=>0
 | t+1=>gD f m t+cnt f t m
section
variable {f:Nat→Nat} {n m t u:Nat}
theorem lA:∀ {m':Nat},m≤m'→cnt f t m≤cnt f t m'
 | 0,h=>by rw [show m=0 by omega];exact Nat.le_refl _
 | m'+1,h=>by
  rcases Nat.lt_or_ge m' m with h1 | h1
  ·rw [show m=m'+1 by omega];exact Nat.le_refl _
  ·exact Nat.le_trans (lA h1) (Nat.le_add_right _ _)
theorem rK:∀ {T:Nat},gD f (m+1) T=gD f m T+(if f m < T then 1 else 0)
 | 0=>rfl
 | T+1=>by
  rw [gD,gD,rK,cnt]
  split<;>split<;>split<;>omega
theorem qH (h:∀ s,s < m→f s < n):gD f m n=m:=by
 induction m with
 | zero =>
  clear h
  induction n with
  | zero=>rfl
  | succ n ih=>rw [gD,ih];rfl
 | succ m ih=>rw [rK,ih (fun s hs=>h s (by omega)),if_pos (h m (Nat.lt_succ_self _))]
theorem iO:∀ {u:Nat},t≤u→gD f m t≤gD f m u
 | 0,h=>by rw [show t=0 by omega];exact Nat.le_refl _
 | u+1,h=>by
  rcases Nat.lt_or_ge u t with h1 | h1
  ·rw [show t=u+1 by omega];exact Nat.le_refl _
  ·exact Nat.le_trans (iO h1) (Nat.le_add_right _ _)
end
structure B1I (f:Nat→Nat) (n m:Nat) (L:List Nat):Prop where
 len:L.length=n+1
 zero:gN L 0=0
 at_:∀ t,t < n→gN L (t+1)=cnt f t m
structure B2I (f:Nat→Nat) (n s:Nat) (L:List Nat):Prop where
 len:L.length=n+1
 lo:∀ t,t≤s→gN L t=gD f n t
 hi:∀ t,s≤t→t < n→gN L (t+1)=cnt f t n
structure B3I (f:Nat→Nat) (n m:Nat) (U F:List Nat):Prop where
 lu:U.length=n
 lf:F.length=n
 u:∀ t,t < n→gN U t=cnt f t m
 v:∀ p,p < n→gN F p < n
 mem:∀ t j,t < n→j < cnt f t m→f (gN F (gD f n t+j))=t∧gN F (gD f n t+j) < m
 all:∀ s,s < m→∃ j,j < cnt f (f s) m∧gN F (gD f n (f s)+j)=s
structure BkOk (f:Nat→Nat) (n:Nat) (L F:List Nat):Prop where
 ll:L.length=n+1
 lf:F.length=n
 le:∀ t,t < n→gN L t≤gN L (t+1)∧gN L (t+1)≤n
 v:∀ p,p < n→gN F p < n
 mem:∀ t s,t < n→s < n→(f s=t↔∃ p,gN L t≤p∧p < gN L (t+1)∧gN F p=s)
section
variable {f:Nat→Nat} {n m t:Nat} {L U F:List Nat}
theorem B1I.start:B1I f n 0 (List.replicate (n+1) 0):=⟨by simp,oP,fun t ht=>oP⟩
theorem B1I.step (h:B1I f n m L) (hf:f m < n):B1I f n (m+1) (L.set (f m+1) (gN L (f m+1)+1)):=by
 have hl:=h.len
 refine ⟨by rw [List.length_set];exact hl,?_,fun t ht=>?_⟩
 ·rw [kD (by omega),if_neg (by omega)];exact h.zero
 ·rw [kD (by omega),cnt]
  by_cases e:f m=t
  ·rw [if_pos (by omega),if_pos e,e,h.at_ t ht]
  ·rw [if_neg (by omega),if_neg e,h.at_ t ht];rfl
theorem B2I.start (h:B1I f n n L):B2I f n 0 L:=⟨h.len,fun t ht=>by rw [show t=0 by omega];exact h.zero,fun t _ ht=>h.at_ t ht⟩
theorem B2I.step {s:Nat} (h:B2I f n s L) (hs:s < n):B2I f n (s+1) (L.set (s+1) (gN L (s+1)+gN L s)):=by
 have hl:=h.len
 refine ⟨by rw [List.length_set];exact hl,fun t ht=>?_,fun t ht htn=>?_⟩
 ·rw [kD (by omega)]
  by_cases e:t=s+1
  ·rw [if_pos e,e,h.hi s (Nat.le_refl _) hs,h.lo s (Nat.le_refl _),gD];omega
  ·rw [if_neg e];exact h.lo t (by omega)
 ·rw [kD (by omega),if_neg (by omega)];exact h.hi t (by omega) htn
theorem B2I.le (h:B2I f n n L) (hf:∀ s,s < n→f s < n):∀ t,t≤n→gN L t≤n:=fun t ht=>by
 rw [h.lo t ht]
 have h1:=iO (f:=f) (m:=n) ht
 rw [qH hf] at h1
 exact h1
theorem B3I.start (hn:0 < n):B3I f n 0 (List.replicate n 0) (List.replicate n 0):=⟨by simp,by simp,fun t ht=>oP,fun p hp=>by rw [oP];exact hn,fun t j _ h=>absurd h (Nat.not_lt_zero _),fun s h=>absurd h (Nat.not_lt_zero _)⟩
theorem B3I.at_ (h:B3I f n m U F) (hm:m < n) (hf:∀ s,s < n→f s < n):gD f n (f m)+gN U (f m) < n∧gN U (f m) < n:=by
 have h1:cnt f (f m) (m+1)=cnt f (f m) m+1:=by rw [cnt,if_pos rfl]
 have h2:=lA (f:=f) (t:=f m) (show m+1≤n by omega)
 have h3:=iO (f:=f) (m:=n) (show f m+1≤n from hf m hm)
 rw [qH hf,gD] at h3
 rw [h.u _ (hf m hm)]
 omega
theorem B3I.step (h:B3I f n m U F) (hm:m < n) (hf:∀ s,s < n→f s < n):B3I f n (m+1) (U.set (f m) (gN U (f m)+1)) (F.set (gD f n (f m)+gN U (f m)) m):=by
 obtain ⟨h1,h2⟩:=h.at_ hm hf
 have lu:=h.lu
 have lf:=h.lf
 have hfm:=hf m hm
 have hcm:gN U (f m)=cnt f (f m) m:=h.u _ hfm
 have hc1:cnt f (f m) (m+1)=cnt f (f m) m+1:=by rw [cnt,if_pos rfl]
 have hc2:=lA (f:=f) (t:=f m) (show m+1≤n by omega)
 -- the place is another one's
 have key:∀ t j,t < n→j < cnt f t m→gD f n t+j≠gD f n (f m)+gN U (f m):=fun t j ht hj=>by
  rw [hcm]
  rcases Nat.lt_trichotomy t (f m) with h3 | h3 | h3
  ·have h4:=iO (f:=f) (m:=n) (show t+1≤f m from h3)
   have h5:=lA (f:=f) (t:=t) (show m≤n by omega)
   rw [gD] at h4;omega
  ·rw [h3] at hj ⊢;omega
  ·have h4:=iO (f:=f) (m:=n) (show f m+1≤t from h3)
   rw [gD] at h4;omega
 refine ⟨by rw [List.length_set];exact lu,by rw [List.length_set];exact lf,fun t ht=>?_,fun p hp=>?_,fun t j ht hj=>?_,fun s hs=>?_⟩
 ·rw [kD (by omega),cnt]
  by_cases e:f m=t
  ·rw [if_pos e.symm,if_pos e,e,h.u t ht]
  ·rw [if_neg (Ne.symm e),if_neg e,h.u t ht];rfl
 ·rw [kD (by omega)]
  split
  ·exact hm
  ·exact h.v p hp
 ·rw [kD (by omega)]
  by_cases e:gD f n t+j=gD f n (f m)+gN U (f m)
  ·rw [if_pos e]
   refine ⟨?_,Nat.lt_succ_self _⟩
   rcases Nat.lt_or_ge j (cnt f t m) with h3 | h3
   ·exact absurd e (key t j ht h3)
   ·rw [cnt] at hj
    split at hj
    ·assumption
    ·omega
  ·rw [if_neg e]
   have h3:j < cnt f t m:=by
    rw [cnt] at hj
    split at hj
    ·rename_i e9
     rcases Nat.lt_or_ge j (cnt f t m) with h4 | h4
     ·exact h4
     ·exact absurd (by rw [hcm,e9];omega) e
    ·omega
   obtain ⟨h4,h5⟩:=h.mem t j ht h3
   exact ⟨h4,by omega⟩
 ·rcases Nat.lt_or_ge s m with h3 | h3
  ·obtain ⟨j,h4,h5⟩:=h.all s h3
   have h6:=hf s (by omega)
   refine ⟨j,Nat.lt_of_lt_of_le h4 (lA (Nat.le_succ _)),?_⟩
   rw [kD (by omega),if_neg (key _ _ h6 h4)];exact h5
  ·have e:s=m:=by omega
   subst e
   refine ⟨cnt f (f s) s,by omega,?_⟩
   rw [kD (by omega),if_pos (by rw [hcm])]
theorem B3I.ok (h:B3I f n n U F) (h2:B2I f n n L) (hf:∀ s,s < n→f s < n):BkOk f n L F:=by
 have hs:∀ t,t < n→gN L (t+1)=gN L t+cnt f t n:=fun t ht=>by rw [h2.lo (t+1) ht,h2.lo t (by omega),gD]
 refine ⟨h2.len,h.lf,fun t ht=>⟨by rw [hs t ht];omega,h2.le hf _ ht⟩,h.v,fun t s ht hs9=>⟨fun e=>?_,fun ⟨p,h3,h4,h5⟩=>?_⟩⟩
 ·obtain ⟨j,h3,h4⟩:=h.all s hs9
  rw [e] at h3 h4
  exact ⟨gD f n t+j,by rw [h2.lo t (by omega)];omega,by rw [hs t ht,h2.lo t (by omega)];omega,h4⟩
 ·rw [hs t ht] at h4
  rw [h2.lo t (by omega)] at h3 h4
  obtain ⟨h6,_⟩:=h.mem t (p - gD f n t) ht (by omega)
  rw [show gD f n t+(p - gD f n t)=p by omega,h5] at h6
  exact h6
end
structure TB where
 k:Nat
 n:Nat
 na:Option Addr
 nc:Nat
 xs:List Nat
 aa:Option Addr
 ac:Nat
 bs:List Bool
abbrev TB.cells (t:TB):List Value:=[.int .i64 (t.k:Int),.slice t.na (t.n * t.k) t.nc,.slice t.aa t.n t.ac]
abbrev TB.val (t:TB):Value:=.agg #[.int .i64 (t.k:Int),.slice t.na (t.n * t.k) t.nc,.slice t.aa t.n t.ac]
def TB.fa (t:TB):FA:=⟨t.n,t.k,fun s x=>gN t.xs (s * t.k+x),fun s=>t.bs.getD s false⟩
structure TOk (t:TB):Prop where
 len:t.xs.length=t.n * t.k
 bl:t.bs.length=t.n
 lt:∀ p,p < t.n * t.k→gN t.xs p < t.n
 pos:0 < t.n
 cap:t.n * t.k≤t.nc
 n1:t.n≤100000
 k1:t.k≤100000
def TAt (t:TB) (W:World):Prop:=R32 W t.na t.xs∧fE W t.aa t.bs
theorem TOk.ix {t:TB} (h:TOk t) {s x:Nat} (hs:s < t.n) (hx:x < t.k):s * t.k+x < t.n * t.k∧s * t.k+t.k≤t.n * t.k:=by
 have h1:(s+1) * t.k≤t.n * t.k:=Nat.mul_le_mul_right _ hs
 rw [Nat.succ_mul] at h1
 omega
theorem TOk.mul {t:TB} (h:TOk t) {s:Nat} (hs:s≤t.n):s * t.k≤t.n * t.k∧t.n * t.k≤10000000000:=⟨Nat.mul_le_mul_right _ hs,Nat.mul_le_mul h.n1 h.k1⟩
theorem TOk.fa {t:TB} (h:TOk t):t.fa.Ok:=⟨h.pos,fun s x hs hx=>h.lt _ (h.ix hs hx).1⟩
theorem R32.get {W:World} {a:Option Addr} {xs:List Nat} {i:Nat} (h:R32 W a xs) (hi:i < xs.length):∃ b off,a=some ⟨b,off,none⟩∧W.cell? ⟨b,off+i * 1,none⟩=some (.int .i32 ((gN xs i:Nat):Int)):=h i _ (uM hi)
abbrev fV (a:Option Addr) (c i s:Nat):Option Addr:=if c=i then a else a.map (·.add (i * s))
theorem yN {P:Program} {l:Fr} {W:World} {d:Nat} {ty:TypeId} {pos:String} {aft:Array Edge} {T e:TypeId} {x y z:Operand} {k1 k2:IntKind} {a:Option Addr} {m c i j s:Nat} {i1 j1:Int} (hU:P.underlying T=some (.slice e)) (hs:∀ w,(sizeOf e).run P w = .ok s w) (hx:evL l x=some (.slice a m c)) (hy:evL l y=some (.int k1 i1)) (hz:evL l z=some (.int k2 j1)) (hi:i1=(i:Int)) (hj:j1=(j:Int)) (hij:i≤j) (hjc:j≤c) :
  dT P l ⟨some d,.slice T x (some y) (some z) none,ty,pos,aft,none⟩ W (.slice (fV a c i s) (j - i) (c - i)) W:=fun ev he=>by
 subst hi;subst hj
 have h0:(0:Int)≤(i:Int):=by omega
 have h1:(i:Int)≤(j:Int):=by omega
 have h2:(j:Int)≤(c:Int):=by omega
 have h4:i≤c:=by omega
 unfold execOp;simp only [Option.map_some,Option.map_none];rw [he x _ hx,he y _ hy,he z _ hz]
 simp [Instr.sliceAt,Instr.slice,Instr.sliceBounds,Instr.sliceBound,run_underlying hU,asIntOf,hij,hjc,h4,hs]
theorem R32.cut {W:World} {a:Option Addr} {xs:List Nat} {c i L:Nat} (h:R32 W a xs) (hx:i+L≤xs.length) (hc:i+L≤c):R32 W (fV a c i 1) ((xs.drop i).take L):=fun j x hj=>by
 have hjL:j < L:=by
  have:=(List.getElem?_eq_some_iff.1 hj).1
  rw [List.length_take] at this;omega
 rw [List.getElem?_take,if_pos hjL,List.getElem?_drop] at hj
 obtain ⟨b,off,e,h1⟩:=h _ _ hj
 refine ⟨b,off+i,?_,?_⟩
 ·unfold fV
  rw [if_neg (by omega),e,Option.map_some,Addr.add_lit,Nat.mul_one]
 ·rw [← h1];congr 2;omega
theorem dU {xs:List Nat} {i L j:Nat} (h:j < L):gN ((xs.drop i).take L) j=gN xs (i+j):=by
 unfold gN
 rw [List.getD_eq_getElem?_getD,List.getElem?_take,if_pos h,List.getElem?_drop,← List.getD_eq_getElem?_getD]
section
variable {P:Program} {n:Nat} {Q:Exit→Act→World→Prop} {l:Fr} {w0 W w:World} {ops:Array Oper} {os:List Oper} {K:List (Nat×World)} {O:Own} {G:bN}
theorem uS {lo m c s:Nat} {e:TypeId} {a:Option Addr} {xs:List Value} (h:w.ownsRow lo e s (.slice a m c) m xs):(if c=0 then a else a.map (·.add (0 * s)))=a:=by
 split
 ·rfl
 ·rcases h.2 with ⟨e1,_⟩ | ⟨g,cap,cur,e1,_⟩
  ·injection e1 with e1 _ _;subst e1;rfl
  ·injection e1 with e1 _ _
   subst e1
   rw [Option.map_some,Nat.zero_mul,Addr.add_lit]
theorem yO {T e:TypeId} {x y:Operand} {kk:IntKind} {a:Option Addr} {m c s d:Nat} {j:Int} {ty:TypeId} {pos:String} {aft:Array Edge} (hU:P.underlying T=some (.slice e)) (hs:∀ w,(sizeOf e).run P w = .ok s w) (hx:evL l x=some (.slice a m c)) (hy:evL l y=some (.int kk j)) (hj:j=0) (he:(if c=0 then a else a.map (·.add (0 * s)))=a):dT P l ⟨some d,.slice T x none (some y) none,ty,pos,aft,none⟩ W (.slice a 0 c) W:=by
 have h:=uJ (d:=d) (ty:=ty) (pos:=pos) (aft:=aft) (W:=W) (k:=0) hU hs hx hy hj (Nat.zero_le _)
 rwa [he] at h
theorem op_zero {T e:TypeId} {x y:Operand} {kk:IntKind} {a:Option Addr} {m c s d:Nat} {j:Int} {ty:TypeId} {pos:String} {aft:Array Edge} (hU:P.underlying T=some (.slice e)) (hs:∀ w,(sizeOf e).run P w = .ok s w) (hx:evL l x=some (.slice a m c)) (hy:evL l y=some (.int kk j)) (hj:j=0) (he:(if c=0 then a else a.map (·.add (0 * s)))=a) (hd:Nat.blt d n=true) (h:cJ P n ops Q os ((d,.slice a 0 c)::l) W):cJ P n ops Q (⟨some d,.slice T x none (some y) none,ty,pos,aft,none⟩::os) l W:=opV (yO hU hs hx hy hj he) hd h
theorem St.zero (h:St w0 O G K W) (i:Nat) {a:Option Addr} {c nn:Nat} {xs:List Value} {e:TypeId} {size:Nat} (hi:G[i]?=some ⟨.slice a nn c,nn,xs,e,size⟩):St w0 O (G.set i ⟨.slice a 0 c,0,[],e,size⟩) K W:=by
 rcases (h.row i hi).2 with ⟨e1,e2⟩ | ⟨g,cap,cur,e1,_⟩
 ·injection e1 with e1 e3 e4
  subst e1;subst e3;subst e4
  have h9:=(h.row i hi).1
  have e5:xs=[]:=List.eq_nil_of_length_eq_zero (by simpa using h9)
  subst e5
  have hl:i < G.length:=(List.getElem?_eq_some_iff.1 hi).1
  rw [show (⟨.slice none 0 0,0,[],e,size⟩:GR)=G[i] from (Option.some.inj ((List.getElem?_eq_getElem hl).symm.trans hi)).symm,List.set_getElem_self]
  exact h
 ·injection e1 with e1 _ _
  subst e1
  have h9:=h.cut i hi (Nat.zero_le nn)
  rw [Nat.zero_mul,List.take_zero] at h9
  exact h9
theorem eG {lo m c s:Nat} {e:TypeId} {a:Option Addr} {xs:List Value} (h:w.ownsRow lo e s (.slice a m c) m xs) (hm:0 < m):∃ b,a=some ⟨b,0,none⟩:=by
 rcases mE h with ⟨h1,h0⟩ | ⟨b,h1,_,h3⟩
 ·have h4:=h.2
  rcases h4 with ⟨e1,_⟩ | ⟨g,cap,cur,e1,_⟩
  ·injection e1 with _ e3 _;omega
  ·injection e1 with e1 _ _;exact ⟨g,e1⟩
 ·exact ⟨b,h1⟩
theorem qI {α:Type} {f:α→List Value} {lo b c m i:Nat} {T:TypeId} {cs:List α} {x:α} (h:w.ownsRow lo T 2 (.slice (some ⟨b,0,none⟩) m c) m (cs.flatMap f)) (hf:∀ x,∃ u v,f x=[u,v]) (hx:cs[i]?=some x):aT w b (0+i * 2) (f x):=by
 have key:∀ (cs:List α) (i:Nat),cs[i]?=some x→∀ j v,(f x)[j]?=some v→(cs.flatMap f)[i * 2+j]?=some v:=by
  intro cs
  induction cs with
  | nil=>intro i hi;cases hi
  | cons y cs ih =>
   intro i hi j v hv
   obtain ⟨u1,u2,e2⟩:=hf y
   cases i with
   | zero =>
    have e:y=x:=by simpa using hi
    subst e
    rw [List.flatMap_cons,Nat.zero_mul,Nat.zero_add,List.getElem?_append_left (List.getElem?_eq_some_iff.1 hv).1]
    exact hv
   | succ i =>
    rw [List.flatMap_cons,List.getElem?_append_right (by rw [e2];simp;omega),e2]
    have:=ih i (by simpa using hi) j v hv
    rw [show (i+1) * 2+j - [u1,u2].length=i * 2+j by simp;omega]
    exact this
 refine aT.of fun j v hv=>?_
 rw [Nat.zero_add]
 exact cX h (key cs i hx j v hv)
end
end
section
open Go.RowKit
open Go.WideMaps (KeyLaw)
section
variable {P:Program} {n:Nat} {ops:Array Oper} {Q:Exit→Act→World→Prop} {l:Fr} {W:World} {L:List Asr} {i d:Nat} {ty:TypeId} {pos:String} {aft:Array Edge} {gd:Option (Nat×Bool)} {os:List Oper} {v:Value}
theorem uT {f:FuncId} {x:Nat} {xs:List Operand} {ts:Array TypeId} (ps:List Asr) (hi:ops[i]?=some ⟨some d,.call { callee:=.value (.tmp x),args:=xs.toArray,argTypes:=ts },ty,pos,aft,gd⟩) (hgo:cC P f=true)
  (hw:gP ops L i ⟨some d,.call { callee:=.value (.tmp x),args:=xs.toArray,argTypes:=ts },ty,pos,aft,gd⟩) (hx:OpG n ops l L i x (isV (.func (.func f) #[] #[]))) (hp:wH n ops l L i xs ps)
  {p:Asr} (hc:∀ vs w,Below W.heap.size W w→rF ps vs w→Calls P f vs.toArray w (Az p w)) (hI:atI L i=p):RG P n ops Q l W L i :=
 fun a ha=>fH.call hi fun b w hF hG hD=>by
  have h1:=hc (xs.map b.eval) w hG (iT ha hF hD hp)
  subst hI
  rw [show (xs.map b.eval).toArray=xs.toArray.map b.eval by simp] at h1
  have h2:b.eval (.tmp x) = .func (.func f) #[] #[]:=hx a ha b w hF hD
  exact ⟨hw.yes hD,f,xs.toArray.map b.eval,zZ P b.eval w (.tmp x) f xs.toArray ts _ rfl h2 hgo,h1.mono fun e w' ⟨v,h1,h2,h3⟩=>⟨v,h1,h2,hG.trans (h3.mono hG.size),h3⟩⟩
theorem eV {T e:TypeId} {x y:Operand} {b o m j k:Nat} {ki:IntKind} {i:Int} (hU:P.underlying T=some (.array m e)) (hS:∀ w,(sizeOf e).run P w = .ok k w) (hx:evL l x=some (.pointer (some ⟨b,o,none⟩))) (hy:evL l y=some (.int ki i)) (hi:i=(j:Int)) (hj:j < m) {o':Nat} (ho:o+j * k=o'):dT P l ⟨some d,.indexAddr T x y,ty,pos,aft,none⟩ W (.pointer (some ⟨b,o',none⟩)) W:=fun ev he=>by
  subst ho;subst hi
  unfold execOp;simp only [];rw [he x _ hx,he y _ hy]
  have h0:(0:Int)≤(j:Int):=by omega
  have h1:(j:Int) < (m:Int):=by omega
  simp [Instr.indexAt,asIntOf,run_underlying hU,Instr.sureAddr,h0,h1,hS,hj,Addr.add_lit]
end
section
variable {α:Type} {κ:α→Value} {P:Program} {l:Fr} {W:World} {d b:Nat} {ty T K S:TypeId} {pos:String} {aft:Array Edge} {x y:Operand} {m:List (α×Value)} {k:α} {v u:Value}
theorem Bu (hM:Mk P K κ m b W) (L:KeyLaw P K) (hinj:∀ x y,κ x=κ y→x=y) (ht:P.underlying T=some (.map K S)) (hm:(k,v)∈m) (hx:evL l x=some (.map (some b))) (hy:evL l y=some (κ k)):dT P l ⟨some d,.lookup T x y true,ty,pos,aft,none⟩ W (.tuple #[v,.bool true]) W:=fun ev he=>by
 unfold execOp;simp only [];rw [he x _ hx,he y _ hy]
 simp [hM.yes L hinj ht hm,Result.andThen]
theorem rn_mkNo (hM:Mk P K κ m b W) (L:KeyLaw P K) (hinj:∀ x y,κ x=κ y→x=y) (ht:P.underlying T=some (.map K S)) (hz:∀ w,(zeroValue S).run P w = .ok u w) (hn:∀ q∈m,q.1≠k) (hk:∃ l,keyOf P K (κ k)=some l) (hx:evL l x=some (.map (some b))) (hy:evL l y=some (κ k)):dT P l ⟨some d,.lookup T x y true,ty,pos,aft,none⟩ W (.tuple #[u,.bool false]) W:=fun ev he=>by
 unfold execOp;simp only [];rw [he x _ hx,he y _ hy]
 simp [hM.no L hinj ht hz hn hk,Result.andThen]
end
theorem St.markK {α:Type} {κ:α→Value} {P:Program} {K0:TypeId} {w0 W:World} {O:Own} {G:bN} {K:List (Nat×World)} {m:List (α×Value)} {b:Nat} (h:St w0 O G K W) (hM:Mk P K0 κ m b W):St w0 O G ((b,lX W b)::K) W:=by
 obtain ⟨es,clock,hb,_⟩:=hM
 exact h.markMap hb
theorem Mk.at_ {α:Type} {κ:α→Value} {P:Program} {K0:TypeId} {w0 W W2:World} {O:Own} {G:bN} {K:List (Nat×World)} {m:List (α×Value)} {b:Nat} (hM:Mk P K0 κ m b W) (h:St w0 O G K W2) (hk:(b,lX W b)∈K):Mk P K0 κ m b W2:=by
 have hlt:=hM.lt
 have h1:=(h.kept _ hk).1
 exact hM.same fun _=>(h1.2 b (Nat.le_refl _) (sO hlt)).trans (oZ hlt)
end
section
open Go.RowKit
section
variable {P:Program} {n:Nat} {ops:Array Oper} {Q:Exit→Act→World→Prop} {l:Fr} {W:World} {os:List Oper}
theorem mP {dst:Nat} {op:Op} {ty:TypeId} {pos:String} {aft:Array Edge} {g d:Nat} {b:Bool} (hd:(ops[g]?).bind (·.dst)=some d) (hv:dO l d=some undef) (hn:Nat.blt dst n=true)
  (h:cJ P n ops Q os ((dst,undef)::l) W):cJ P n ops Q (⟨some dst,op,ty,pos,aft,some (g,b)⟩::os) l W:=fun a ha=>by
 have h2:=ha.at_ d _ hv
 have hw:Region.wanted ⟨some dst,op,ty,pos,aft,some (g,b)⟩ (yielded ops a.tmps)=false:=by
  cases hx:a.tmps[d]? with
  | none=>simp [Region.wanted,yielded,hd,hx]
  | some x =>
   simp only [Act.eval,Array.getD_eq_getD_getElem?,hx] at h2
   simp at h2
   subst h2
   simp [Region.wanted,yielded,hd,hx,undef]
 unfold wpList
 rw [hw]
 exact h _ (ha.put hn)
end
structure IV where
 a:Option Addr
 l:Nat
 c:Nat
 xs:List Int
abbrev IV.val (r:IV):Value:=.slice r.a r.l r.c
structure DV where
 sy:Int
 na:Option Addr
 nl:Nat
 nc:Nat
 ns:List IV
 aa:Option Addr
 al:Nat
 ac:Nat
 bs:List Bool
abbrev DV.val (d:DV):Value:=.agg #[.int .i64 d.sy,.slice d.na d.nl d.nc,.slice d.aa d.al d.ac]
def oX (w:World) (a:Option Addr) (ns:List IV):Prop:=∀ (i:Nat) r,ns[i]?=some r→∃ b off,a=some ⟨b,off,none⟩∧w.cell? ⟨b,off+i * 1,none⟩=some r.val
theorem oX.below {w w':World} {a:Option Addr} {ns:List IV} (h:oX w a ns) (hb:Below w.heap.size w w'):oX w' a ns:=fun i r hi=>by
 obtain ⟨b,off,e,h1⟩:=h i r hi
 exact ⟨b,off,e,(hb.cell (World.block_lt_of_cell? _ _ h1)).trans h1⟩
structure DIn (w:World) (d:DV):Prop where
 nrow:oX w d.na d.ns
 nlen:d.ns.length=d.nl
 rin:∀ r∈d.ns,Row w r.a r.xs∧r.xs.length=r.l∧r.l≤9223372036854775807
 arow:fE w d.aa d.bs
 alen:d.bs.length=d.al
 nmax:d.nl≤9223372036854775807
 amax:d.al≤9223372036854775807
theorem DIn.below {w w':World} {d:DV} (h:DIn w d) (hb:Below w.heap.size w w'):DIn w' d:=⟨h.nrow.below hb,h.nlen,fun r hr=>⟨(h.rin r hr).1.below hb,(h.rin r hr).2⟩,h.arow.below hb,h.alen,h.nmax,h.amax⟩
def lY (sy:Int) (n:Nat) (r:IV):Bool:=decide ((r.l:Int)=sy) && r.xs.all (fun y=>inQ y (n:Int))
def cU (d:DV):Int:=if d.sy < 0∨4096 < d.sy∨d.nl < 1∨1024 < d.nl∨d.al≠d.nl∨65536 < (d.nl:Int) * d.sy then 90 else if d.ns.all (lY d.sy d.nl)=true then 0 else 90
theorem mulb9 {n:Nat} {s:Int} (h1:n≤1024) (h2:0≤s) (h3:s≤4096):0≤(n:Int) * s∧(n:Int) * s≤4194304:=by
 refine ⟨Int.mul_nonneg (by omega) h2,?_⟩
 have h4:(n:Int) * s≤1024 * 4096:=Int.mul_le_mul (by omega) h3 h2 (by decide)
 omega
theorem dC (w:World) (b o:Nat):(Instr.fieldAt 25 (.pointer (some ⟨b,o,none⟩)) 0).run prog w = .ok (.pointer (some ⟨b,o+0,none⟩)) w:=by
 simp [Instr.fieldAt,run_underlying underlying25,Instr.sureAddr,go_sem,Addr.add_lit]
theorem cO (w:World) (b o:Nat):(Instr.fieldAt 25 (.pointer (some ⟨b,o,none⟩)) 1).run prog w = .ok (.pointer (some ⟨b,o+1,none⟩)) w:=by
 simp [Instr.fieldAt,run_underlying underlying25,Instr.sureAddr,go_sem,Addr.add_lit]
theorem cT (w:World) (b o:Nat):(Instr.fieldAt 25 (.pointer (some ⟨b,o,none⟩)) 2).run prog w = .ok (.pointer (some ⟨b,o+2,none⟩)) w:=by
 simp [Instr.fieldAt,run_underlying underlying25,Instr.sureAddr,go_sem,Addr.add_lit]
theorem dfaA_c (sy:Int) (na:Option Addr) (nl nc:Nat) (ns:List IV) (aa:Option Addr) (al ac:Nat) (bs:List Bool) (w:World) (hnr:oX w na ns) (hnl:ns.length=nl) (hri:∀ r∈ns,Row w r.a r.xs∧r.xs.length=r.l∧r.l≤9223372036854775807) (hnm:nl≤9223372036854775807) (ham:al≤9223372036854775807) :
  Calls prog 15 #[.agg #[.int .i64 sy,.slice na nl nc,.slice aa al ac]] w (fun e w'=>e = .returned (.int .i64 (cU ⟨sy,na,nl,nc,ns,aa,al,ac,bs⟩))∧Below w.heap.size w w'):=by
 refine cP (args:=[.agg #[.int .i64 sy,.slice na nl nc,.slice aa al ac]]) func15 rfl ntmps15 rfl ?_
 have hS:=St.start w
 refine aH (aN (cI (cs:=[_,_,_]) hS rfl rfl rfl fun B1 W1 hS=>aB rfl rfl (aK (XF.thenN (aH (aN (aU (o':=1) cO rfl rfl rfl (aP isAgg22 rfl (aD (hS.at_ 0 rfl) rfl) rfl (bX underlying22 rfl rfl (aB rfl rfl (aK (XF.thenN (aH (aH (aN (aU (o':=0) dC rfl rfl rfl (aP isAgg3 rfl (aD (hS.at_ 0 rfl) rfl) rfl (cH rfl rfl rfl (aA rfl rfl (bZ (d:=14) rfl (fun hc=>?_) (fun hc=>?_)))))))))))))))))))))
 ·have hg14:=of_decide_eq_true hc;clear hc
  refine aQ (d:=14) rfl rfl rfl rfl (aQ (d:=14) rfl rfl rfl rfl (aQ (d:=14) rfl rfl rfl rfl (bI rfl rfl rfl (aA rfl rfl (aQ (d:=19) rfl rfl rfl rfl (aQ (d:=19) rfl rfl rfl rfl (bI rfl rfl rfl (aA rfl rfl (aQ (d:=23) rfl rfl rfl rfl (aQ (d:=23) rfl rfl rfl rfl (bI rfl rfl rfl (aA rfl rfl (aQ (d:=27) rfl rfl rfl rfl (aQ (d:=27) rfl rfl rfl rfl (aQ (d:=27) rfl rfl rfl rfl (aQ (d:=27) rfl rfl rfl rfl (aQ (d:=27) rfl rfl rfl rfl (bI rfl rfl rfl (aA rfl rfl (aQ (d:=34) rfl rfl rfl rfl (aQ (d:=34) rfl rfl rfl rfl (aQ (d:=34) rfl rfl rfl rfl (aQ (d:=34) rfl rfl rfl rfl (aQ (d:=34) rfl rfl rfl rfl (bI rfl rfl rfl (aK (XF.thenN (fT rfl (aH (aN (aB rfl rfl (aK (XF.thenN (cK (XF.thenR ?_)))))))))))))))))))))))))))))))))))
  refine XF.res (cZ results15 rfl) ?_
  exact ⟨gO (by unfold cU;dsimp only;rw [if_pos (by omega)]),hS.below⟩
 ·have hg14:=of_decide_eq_false hc;clear hc
  refine aE (d:=14) rfl rfl (aU (o':=0) dC rfl rfl rfl (aE (d:=14) rfl rfl (aP isAgg3 rfl (aD (hS.at_ 0 rfl) rfl) rfl (aE (d:=14) rfl rfl (gS rfl rfl rfl (cG rfl rfl rfl (aA rfl rfl (bZ (d:=19) rfl (fun hc=>?_) (fun hc=>?_)))))))))
  ·have hg19:=of_decide_eq_true hc;clear hc
   refine aQ (d:=19) rfl rfl rfl rfl (aQ (d:=19) rfl rfl rfl rfl (bI rfl rfl rfl (aA rfl rfl (aQ (d:=23) rfl rfl rfl rfl (aQ (d:=23) rfl rfl rfl rfl (bI rfl rfl rfl (aA rfl rfl (aQ (d:=27) rfl rfl rfl rfl (aQ (d:=27) rfl rfl rfl rfl (aQ (d:=27) rfl rfl rfl rfl (aQ (d:=27) rfl rfl rfl rfl (aQ (d:=27) rfl rfl rfl rfl (bI rfl rfl rfl (aA rfl rfl (aQ (d:=34) rfl rfl rfl rfl (aQ (d:=34) rfl rfl rfl rfl (aQ (d:=34) rfl rfl rfl rfl (aQ (d:=34) rfl rfl rfl rfl (aQ (d:=34) rfl rfl rfl rfl (bI rfl rfl rfl (aK (XF.thenN (fT rfl (aH (aN (aB rfl rfl (aK (XF.thenN (cK (XF.thenR (XF.res (cZ results15 rfl) ?_)))))))))))))))))))))))))))))))
   exact ⟨gO (by unfold cU;dsimp only;rw [if_pos (by omega)]),hS.below⟩
  ·have hg19:=of_decide_eq_false hc;clear hc
   refine aE (d:=19) rfl rfl (aA rfl rfl (aE (d:=19) rfl rfl (cH rfl rfl rfl (cG rfl rfl rfl (aA rfl rfl (bZ (d:=23) rfl (fun hc=>?_) (fun hc=>?_)))))))
   ·have hg23:=of_decide_eq_true hc;clear hc
    refine aQ (d:=23) rfl rfl rfl rfl (aQ (d:=23) rfl rfl rfl rfl (bI rfl rfl rfl (aA rfl rfl (aQ (d:=27) rfl rfl rfl rfl (aQ (d:=27) rfl rfl rfl rfl (aQ (d:=27) rfl rfl rfl rfl (aQ (d:=27) rfl rfl rfl rfl (aQ (d:=27) rfl rfl rfl rfl (bI rfl rfl rfl (aA rfl rfl (aQ (d:=34) rfl rfl rfl rfl (aQ (d:=34) rfl rfl rfl rfl (aQ (d:=34) rfl rfl rfl rfl (aQ (d:=34) rfl rfl rfl rfl (aQ (d:=34) rfl rfl rfl rfl (bI rfl rfl rfl (aK (XF.thenN (fT rfl (aH (aN (aB rfl rfl (aK (XF.thenN (cK (XF.thenR (XF.res (cZ results15 rfl) ?_)))))))))))))))))))))))))))
    exact ⟨gO (by unfold cU;dsimp only;rw [if_pos (by omega)]),hS.below⟩
   ·have hg23:=of_decide_eq_false hc;clear hc
    refine aE (d:=23) rfl rfl (aA rfl rfl (aE (d:=23) rfl rfl (gS rfl rfl rfl (cG rfl rfl rfl (aA rfl rfl (bZ (d:=27) rfl (fun hc=>?_) (fun hc=>?_)))))))
    ·have hg27:=of_decide_eq_true hc;clear hc
     refine aQ (d:=27) rfl rfl rfl rfl (aQ (d:=27) rfl rfl rfl rfl (aQ (d:=27) rfl rfl rfl rfl (aQ (d:=27) rfl rfl rfl rfl (aQ (d:=27) rfl rfl rfl rfl (bI rfl rfl rfl (aA rfl rfl (aQ (d:=34) rfl rfl rfl rfl (aQ (d:=34) rfl rfl rfl rfl (aQ (d:=34) rfl rfl rfl rfl (aQ (d:=34) rfl rfl rfl rfl (aQ (d:=34) rfl rfl rfl rfl (bI rfl rfl rfl (aK (XF.thenN (fT rfl (aH (aN (aB rfl rfl (aK (XF.thenN (cK (XF.thenR (XF.res (cZ results15 rfl) ?_)))))))))))))))))))))))
     exact ⟨gO (by unfold cU;dsimp only;rw [if_pos (by omega)]),hS.below⟩
    ·have hg27:=of_decide_eq_false hc;clear hc
     refine aE (d:=27) rfl rfl (aU (o':=2) cT rfl rfl rfl (aE (d:=27) rfl rfl (aP isAgg23 rfl (aD (hS.at_ 0 rfl) rfl) rfl (aE (d:=27) rfl rfl (bX underlying23 rfl rfl (aE (d:=27) rfl rfl (aA rfl rfl (aE (d:=27) rfl rfl (dR rfl rfl rfl (cG rfl rfl rfl (aA rfl rfl (bZ (d:=34) rfl (fun hc=>?_) (fun hc=>?_)))))))))))))
     ·have hg34:=of_decide_eq_true hc;clear hc
      refine aQ (d:=34) rfl rfl rfl rfl (aQ (d:=34) rfl rfl rfl rfl (aQ (d:=34) rfl rfl rfl rfl (aQ (d:=34) rfl rfl rfl rfl (aQ (d:=34) rfl rfl rfl rfl (bI rfl rfl rfl (aK (XF.thenN (fT rfl (aH (aN (aB rfl rfl (aK (XF.thenN (cK (XF.thenR (XF.res (cZ results15 rfl) ?_))))))))))))))))
      exact ⟨gO (by unfold cU;dsimp only;rw [if_pos (by omega)]),hS.below⟩
     ·have hg34:=of_decide_eq_false hc;clear hc
      refine aE (d:=34) rfl rfl (aA rfl rfl (aE (d:=34) rfl rfl (aU (o':=0) dC rfl rfl rfl (aE (d:=34) rfl rfl (aP isAgg3 rfl (aD (hS.at_ 0 rfl) rfl) rfl (aE (d:=34) rfl rfl ?_))))))
      refine nV rfl rfl (IntWalk.i64_in _ (by have h9:=mulb9 (n:=nl) (s:=sy) (by omega) (by omega) (by omega);omega)) rfl ?_
      refine aE (d:=34) rfl rfl (gS rfl rfl rfl (cG rfl rfl rfl (aK (XF.thenN (bS rfl (fun hc=>?_) (fun hc=>?_))))))
      ·have hc40:=of_decide_eq_true hc;clear hc
       refine aH (aN (aB rfl rfl (aK (XF.thenN (cK (XF.thenR (XF.res (cZ results15 rfl) ?_)))))))
       exact ⟨gO (by unfold cU;dsimp only;rw [if_pos (by omega)]),hS.below⟩
      ·have hc40:=of_decide_eq_false hc;clear hc
       have h2:¬ (sy < 0∨4096 < sy∨nl < 1∨1024 < nl∨al≠nl∨65536 < (nl:Int) * sy):=by omega
       refine bV (XF.thenN (aH (aH (aN (aU (o':=1) cO rfl rfl rfl (aP isAgg22 rfl (aD (hS.at_ 0 rfl) rfl) rfl (bX underlying22 rfl rfl (aA rfl rfl (aK (XF.thenN (bH (cW (fun m l W=>∃ i:Nat,i≤nl∧m=nl - i∧l=[(1,.pointer (some ⟨B1,0,none⟩)),(3,.int .i64 (nl:Int)),(42,.slice na nl nc),(43,.int .i64 (nl:Int)),(44,.int .i64 (i:Int))]∧(ns.take i).all (lY sy nl)=true∧St w [(B1,[.int .i64 sy,.slice na nl nc,.slice aa al ac],25)] [] [] W) (nl - 0) ([(1,_),(3,_),(42,_),(43,_),(44,_)]) ⟨rfl,rfl,rfl,rfl,rfl,trivial⟩ (⟨0,Nat.zero_le _,rfl,rfl,rfl,hS.clear⟩) ?_))))))))))))
       clear hS
       rintro m l W ⟨i,hi,rfl,rfl,hall,hS⟩
       refine aH (aN (cH rfl rfl rfl (aK (XF.thenN (aH (bS rfl (fun hc=>?_) (fun hc=>?_)))))))
       ·have hc45:=of_decide_eq_true hc;clear hc
        have hk:i < nl:=by omega
        obtain ⟨r,hr⟩:∃ r,ns[i]?=some r:=⟨ns[i]'(by omega),by simp [show i < ns.length by omega]⟩
        obtain ⟨b,off,rfl,hcs⟩:=hnr i r hr
        have k1:=hS.old hcs
        obtain ⟨hrr,hrl,hrm⟩:=hri r (List.mem_of_getElem? hr)
        obtain ⟨ra9,rl9,rc9,xs9⟩:=r
        dsimp only at hrr hrl hrm k1 hcs
        refine bV (XF.thenN (aH (bH (aH (aN (aX  underlying22 sizeOf36 rfl rfl rfl (by omega) rfl rfl (aP isAgg36 rfl (k1) rfl (aB rfl rfl (aK (XF.thenN (aH (aH (aN (aA rfl rfl (bX underlying36 rfl rfl (aU (o':=0) dC rfl rfl rfl (aP isAgg3 rfl (aD (hS.at_ 0 rfl) rfl) rfl (dR rfl rfl rfl (aK (XF.thenN (bS rfl (fun hc=>?_) (fun hc=>?_))))))))))))))))))))))
        ·have hc52:=of_decide_eq_true hc;clear hc
         refine aH (aN (aB rfl rfl (aK (XF.thenN (cK (XF.thenR (XF.blkR (XF.thenR (XF.thenR (XF.blkR (XF.thenR (XF.res (cZ results15 rfl) ?_))))))))))))
         exact ⟨gO (by unfold cU;dsimp only;rw [if_neg h2,if_neg (by rw [dH hr (by unfold lY;dsimp only;rw [decide_eq_false hc52];rfl)];decide)]),hS.below⟩
        ·have hc52:=of_decide_eq_false hc;clear hc
         have hls:(rl9:Int)=sy:=Decidable.of_not_not hc52
         refine bV (XF.thenN (aH (aN (aA rfl rfl (bX underlying36 rfl rfl (aA rfl rfl (aK (XF.thenN (bH (cW (fun m l W=>∃ j:Nat,j≤rl9∧m=rl9 - j∧l=[(1,.pointer (some ⟨B1,0,none⟩)),(3,.int .i64 (nl:Int)),(42,.slice (some ⟨b,off,none⟩) nl nc),(43,.int .i64 (nl:Int)),(44,.int .i64 (i:Int)),(53,.slice ra9 rl9 rc9),(54,.int .i64 (rl9:Int)),(55,.int .i64 (j:Int))]∧(xs9.take j).all (fun y=>inQ y (nl:Int))=true∧St w [(B1,[.int .i64 sy,.slice (some ⟨b,off,none⟩) nl nc,.slice aa al ac],25)] [] [] W) (rl9 - 0) ([(1,_),(3,_),(42,_),(43,_),(44,_),(53,_),(54,_),(55,_)]) ⟨rfl,rfl,rfl,rfl,rfl,rfl,rfl,rfl,trivial⟩ (⟨0,Nat.zero_le _,rfl,rfl,rfl,hS.clear⟩) ?_))))))))))
         clear hS
         rintro m l W ⟨j,hj,rfl,rfl,hrow,hS⟩
         refine aH (aN (cH rfl rfl rfl (aK (XF.thenN (aH (bS rfl (fun hc=>?_) (fun hc=>?_)))))))
         ·have hc56:=of_decide_eq_true hc;clear hc
          have hk2:j < rl9:=by omega
          obtain ⟨b2,off2,y,rfl,hy,hyc⟩:=hrr.at1 (show j < xs9.length by omega)
          have k2:=hS.old hyc
          refine bV (XF.thenN (aH (bH (aH (aN (aX  underlying36 sizeOf3 rfl rfl rfl (by omega) rfl rfl (aP isAgg3 rfl (k2) rfl (aB rfl rfl (aK (XF.thenN (aH (aN (aA rfl rfl (cH rfl rfl rfl (aA rfl rfl (bZ (d:=61) rfl (fun hc=>?_) (fun hc=>?_)))))))))))))))))
          ·have hg61:=of_decide_eq_true hc;clear hc
           refine aQ (d:=61) rfl rfl rfl rfl (aQ (d:=61) rfl rfl rfl rfl (aQ (d:=61) rfl rfl rfl rfl (bI rfl rfl rfl (aK (XF.thenN (fT rfl (aH (aN (aB rfl rfl (aK (XF.thenN (cK (XF.blkR (XF.thenR (XF.thenR (XF.blkR (XF.blkR (XF.thenR (XF.thenR (XF.blkR (XF.thenR (XF.res (cZ results15 rfl) ?_))))))))))))))))))))))
           exact ⟨gO (by unfold cU;dsimp only;rw [if_neg h2,if_neg (by rw [dH hr (by unfold lY;dsimp only;rw [dH hy (by simp [inQ];omega),Bool.and_false])];decide)]),hS.below⟩
          ·have hg61:=of_decide_eq_false hc;clear hc
           refine aE (d:=61) rfl rfl (aA rfl rfl (aE (d:=61) rfl rfl (aA rfl rfl (aE (d:=61) rfl rfl (sD rfl rfl rfl (cG rfl rfl rfl (aK (XF.thenN (bS rfl (fun hc=>?_) (fun hc=>?_))))))))))
           ·have hc65:=of_decide_eq_true hc;clear hc
            refine aH (aN (aB rfl rfl (aK (XF.thenN (cK (XF.blkR (XF.thenR (XF.thenR (XF.blkR (XF.blkR (XF.thenR (XF.thenR (XF.blkR (XF.thenR (XF.res (cZ results15 rfl) ?_)))))))))))))))
            exact ⟨gO (by unfold cU;dsimp only;rw [if_neg h2,if_neg (by rw [dH hr (by unfold lY;dsimp only;rw [dH hy (by simp [inQ];omega),Bool.and_false])];decide)]),hS.below⟩
           ·have hc65:=of_decide_eq_false hc;clear hc
            refine bV (XF.blkN (XF.thenN (aN (bY rfl rfl (IntWalk.i64_in _ (by omega)) rfl (aA rfl rfl (aK ?_))))))
            exact XF.round (rl9 - (j+1)) [(1,_),(3,_),(42,_),(43,_),(44,_),(53,_),(54,_),(55,_)] (by omega) ⟨rfl,rfl,rfl,rfl,rfl,rfl,rfl,rfl,trivial⟩ ⟨j+1,by omega,rfl,rfl,hC hy hrow (by simp [inQ];omega),hS.clear⟩
         ·have hc56:=of_decide_eq_false hc;clear hc
          rw [List.take_of_length_le (by omega)] at hrow
          refine cV (XF.thenX (XF.thenX (XF.blkX (XF.blkN (XF.thenN (aN (bY rfl rfl (IntWalk.i64_in _ (by omega)) rfl (aA rfl rfl (aK ?_)))))))))
          exact XF.round (nl - (i+1)) [(1,_),(3,_),(42,_),(43,_),(44,_)] (by omega) ⟨rfl,rfl,rfl,rfl,rfl,trivial⟩ ⟨i+1,by omega,rfl,rfl,hC hr hall (by unfold lY;dsimp only;rw [hrow,decide_eq_true hls];rfl),hS.clear⟩
       ·have hc45:=of_decide_eq_false hc;clear hc
        rw [List.take_of_length_le (by omega)] at hall
        refine cV (XF.thenX (XF.thenX (XF.blkX (XF.thenN (aH (aN (aB rfl rfl (aK (XF.thenN (cK (XF.res (cZ results15 rfl) ?_)))))))))))
        exact ⟨gO (by unfold cU;dsimp only;rw [if_neg h2,if_pos hall]),hS.below⟩
theorem lQ (d:DV) (w:World) (h:DIn w d):Calls prog 15 #[d.val] w (fun e w'=>e = .returned (.int .i64 (cU d))∧Below w.heap.size w w'):=dfaA_c _ _ _ _ _ _ _ _ d.bs w h.nrow h.nlen h.rin h.nmax h.amax
theorem dfaR_c (sy:Int) (na:Option Addr) (nl nc:Nat) (ns:List IV) (aa:Option Addr) (al ac:Nat) (bs:List Bool) (w:World) (hnr:oX w na ns) (hnl:ns.length=nl) (hri:∀ r∈ns,Row w r.a r.xs∧r.xs.length=r.l∧r.l≤9223372036854775807) (hnm:nl≤9223372036854775807) (ham:al≤9223372036854775807) :
  Calls prog 16 #[.agg #[.int .i64 sy,.slice na nl nc,.slice aa al ac]] w (fun e w'=>e = .returned (.int .i64 (cU ⟨sy,na,nl,nc,ns,aa,al,ac,bs⟩))∧Below w.heap.size w w'):=by
 refine cP (args:=[.agg #[.int .i64 sy,.slice na nl nc,.slice aa al ac]]) func16 rfl ntmps16 rfl ?_
 have hS:=St.start w
 refine aH (aN (cI (cs:=[_,_,_]) hS rfl rfl rfl fun B1 W1 hS=>aB rfl rfl (aK (XF.thenN (aH (aN (aU (o':=1) cO rfl rfl rfl (aP isAgg22 rfl (aD (hS.at_ 0 rfl) rfl) rfl (bX underlying22 rfl rfl (aB rfl rfl (aK (XF.thenN (aH (aH (aN (aU (o':=0) dC rfl rfl rfl (aP isAgg3 rfl (aD (hS.at_ 0 rfl) rfl) rfl (cH rfl rfl rfl (aA rfl rfl (bZ (d:=12) rfl (fun hc=>?_) (fun hc=>?_)))))))))))))))))))))
 ·have hg12:=of_decide_eq_true hc;clear hc
  refine aQ (d:=12) rfl rfl rfl rfl (aQ (d:=12) rfl rfl rfl rfl (aQ (d:=12) rfl rfl rfl rfl (bI rfl rfl rfl (aA rfl rfl (aQ (d:=17) rfl rfl rfl rfl (aQ (d:=17) rfl rfl rfl rfl (bI rfl rfl rfl (aA rfl rfl (aQ (d:=21) rfl rfl rfl rfl (aQ (d:=21) rfl rfl rfl rfl (bI rfl rfl rfl (aA rfl rfl (aQ (d:=25) rfl rfl rfl rfl (aQ (d:=25) rfl rfl rfl rfl (aQ (d:=25) rfl rfl rfl rfl (aQ (d:=25) rfl rfl rfl rfl (aQ (d:=25) rfl rfl rfl rfl (bI rfl rfl rfl (aA rfl rfl (aQ (d:=32) rfl rfl rfl rfl (aQ (d:=32) rfl rfl rfl rfl (aQ (d:=32) rfl rfl rfl rfl (aQ (d:=32) rfl rfl rfl rfl (aQ (d:=32) rfl rfl rfl rfl (bI rfl rfl rfl (aK (XF.thenN (fT rfl (aH (aN (aB rfl rfl (aK (XF.thenN (cK (XF.thenR ?_)))))))))))))))))))))))))))))))))))
  refine XF.res (cZ results16 rfl) ?_
  exact ⟨gO (by unfold cU;dsimp only;rw [if_pos (by omega)]),hS.below⟩
 ·have hg12:=of_decide_eq_false hc;clear hc
  refine aE (d:=12) rfl rfl (aU (o':=0) dC rfl rfl rfl (aE (d:=12) rfl rfl (aP isAgg3 rfl (aD (hS.at_ 0 rfl) rfl) rfl (aE (d:=12) rfl rfl (gS rfl rfl rfl (cG rfl rfl rfl (aA rfl rfl (bZ (d:=17) rfl (fun hc=>?_) (fun hc=>?_)))))))))
  ·have hg17:=of_decide_eq_true hc;clear hc
   refine aQ (d:=17) rfl rfl rfl rfl (aQ (d:=17) rfl rfl rfl rfl (bI rfl rfl rfl (aA rfl rfl (aQ (d:=21) rfl rfl rfl rfl (aQ (d:=21) rfl rfl rfl rfl (bI rfl rfl rfl (aA rfl rfl (aQ (d:=25) rfl rfl rfl rfl (aQ (d:=25) rfl rfl rfl rfl (aQ (d:=25) rfl rfl rfl rfl (aQ (d:=25) rfl rfl rfl rfl (aQ (d:=25) rfl rfl rfl rfl (bI rfl rfl rfl (aA rfl rfl (aQ (d:=32) rfl rfl rfl rfl (aQ (d:=32) rfl rfl rfl rfl (aQ (d:=32) rfl rfl rfl rfl (aQ (d:=32) rfl rfl rfl rfl (aQ (d:=32) rfl rfl rfl rfl (bI rfl rfl rfl (aK (XF.thenN (fT rfl (aH (aN (aB rfl rfl (aK (XF.thenN (cK (XF.thenR (XF.res (cZ results16 rfl) ?_)))))))))))))))))))))))))))))))
   exact ⟨gO (by unfold cU;dsimp only;rw [if_pos (by omega)]),hS.below⟩
  ·have hg17:=of_decide_eq_false hc;clear hc
   refine aE (d:=17) rfl rfl (aA rfl rfl (aE (d:=17) rfl rfl (cH rfl rfl rfl (cG rfl rfl rfl (aA rfl rfl (bZ (d:=21) rfl (fun hc=>?_) (fun hc=>?_)))))))
   ·have hg21:=of_decide_eq_true hc;clear hc
    refine aQ (d:=21) rfl rfl rfl rfl (aQ (d:=21) rfl rfl rfl rfl (bI rfl rfl rfl (aA rfl rfl (aQ (d:=25) rfl rfl rfl rfl (aQ (d:=25) rfl rfl rfl rfl (aQ (d:=25) rfl rfl rfl rfl (aQ (d:=25) rfl rfl rfl rfl (aQ (d:=25) rfl rfl rfl rfl (bI rfl rfl rfl (aA rfl rfl (aQ (d:=32) rfl rfl rfl rfl (aQ (d:=32) rfl rfl rfl rfl (aQ (d:=32) rfl rfl rfl rfl (aQ (d:=32) rfl rfl rfl rfl (aQ (d:=32) rfl rfl rfl rfl (bI rfl rfl rfl (aK (XF.thenN (fT rfl (aH (aN (aB rfl rfl (aK (XF.thenN (cK (XF.thenR (XF.res (cZ results16 rfl) ?_)))))))))))))))))))))))))))
    exact ⟨gO (by unfold cU;dsimp only;rw [if_pos (by omega)]),hS.below⟩
   ·have hg21:=of_decide_eq_false hc;clear hc
    refine aE (d:=21) rfl rfl (aA rfl rfl (aE (d:=21) rfl rfl (gS rfl rfl rfl (cG rfl rfl rfl (aA rfl rfl (bZ (d:=25) rfl (fun hc=>?_) (fun hc=>?_)))))))
    ·have hg25:=of_decide_eq_true hc;clear hc
     refine aQ (d:=25) rfl rfl rfl rfl (aQ (d:=25) rfl rfl rfl rfl (aQ (d:=25) rfl rfl rfl rfl (aQ (d:=25) rfl rfl rfl rfl (aQ (d:=25) rfl rfl rfl rfl (bI rfl rfl rfl (aA rfl rfl (aQ (d:=32) rfl rfl rfl rfl (aQ (d:=32) rfl rfl rfl rfl (aQ (d:=32) rfl rfl rfl rfl (aQ (d:=32) rfl rfl rfl rfl (aQ (d:=32) rfl rfl rfl rfl (bI rfl rfl rfl (aK (XF.thenN (fT rfl (aH (aN (aB rfl rfl (aK (XF.thenN (cK (XF.thenR (XF.res (cZ results16 rfl) ?_)))))))))))))))))))))))
     exact ⟨gO (by unfold cU;dsimp only;rw [if_pos (by omega)]),hS.below⟩
    ·have hg25:=of_decide_eq_false hc;clear hc
     refine aE (d:=25) rfl rfl (aU (o':=2) cT rfl rfl rfl (aE (d:=25) rfl rfl (aP isAgg23 rfl (aD (hS.at_ 0 rfl) rfl) rfl (aE (d:=25) rfl rfl (bX underlying23 rfl rfl (aE (d:=25) rfl rfl (aA rfl rfl (aE (d:=25) rfl rfl (dR rfl rfl rfl (cG rfl rfl rfl (aA rfl rfl (bZ (d:=32) rfl (fun hc=>?_) (fun hc=>?_)))))))))))))
     ·have hg32:=of_decide_eq_true hc;clear hc
      refine aQ (d:=32) rfl rfl rfl rfl (aQ (d:=32) rfl rfl rfl rfl (aQ (d:=32) rfl rfl rfl rfl (aQ (d:=32) rfl rfl rfl rfl (aQ (d:=32) rfl rfl rfl rfl (bI rfl rfl rfl (aK (XF.thenN (fT rfl (aH (aN (aB rfl rfl (aK (XF.thenN (cK (XF.thenR (XF.res (cZ results16 rfl) ?_))))))))))))))))
      exact ⟨gO (by unfold cU;dsimp only;rw [if_pos (by omega)]),hS.below⟩
     ·have hg32:=of_decide_eq_false hc;clear hc
      refine aE (d:=32) rfl rfl (aA rfl rfl (aE (d:=32) rfl rfl (aU (o':=0) dC rfl rfl rfl (aE (d:=32) rfl rfl (aP isAgg3 rfl (aD (hS.at_ 0 rfl) rfl) rfl (aE (d:=32) rfl rfl ?_))))))
      refine nV rfl rfl (IntWalk.i64_in _ (by have h9:=mulb9 (n:=nl) (s:=sy) (by omega) (by omega) (by omega);omega)) rfl ?_
      refine aE (d:=32) rfl rfl (gS rfl rfl rfl (cG rfl rfl rfl (aK (XF.thenN (bS rfl (fun hc=>?_) (fun hc=>?_))))))
      ·have hc38:=of_decide_eq_true hc;clear hc
       refine aH (aN (aB rfl rfl (aK (XF.thenN (cK (XF.thenR (XF.res (cZ results16 rfl) ?_)))))))
       exact ⟨gO (by unfold cU;dsimp only;rw [if_pos (by omega)]),hS.below⟩
      ·have hc38:=of_decide_eq_false hc;clear hc
       have h2:¬ (sy < 0∨4096 < sy∨nl < 1∨1024 < nl∨al≠nl∨65536 < (nl:Int) * sy):=by omega
       refine bV (XF.thenN (aH (aH (aN (aB rfl rfl (aK (XF.thenN (bH (cW (fun m l W=>∃ i:Nat,i≤nl∧m=nl - i∧l=[(1,.pointer (some ⟨B1,0,none⟩)),(3,.int .i64 (nl:Int)),(4,.int .i64 (i:Int))]∧(ns.take i).all (lY sy nl)=true∧St w [(B1,[.int .i64 sy,.slice na nl nc,.slice aa al ac],25)] [] [] W) (nl - 0) ([(1,_),(3,_),(4,_)]) ⟨rfl,rfl,rfl,trivial⟩ (⟨0,Nat.zero_le _,rfl,rfl,rfl,hS.clear⟩) ?_)))))))))
       clear hS
       rintro m l W ⟨i,hi,rfl,rfl,hall,hS⟩
       refine aH (aH (aN (aA rfl rfl (aA rfl rfl (cH rfl rfl rfl (aK (XF.thenN (bS rfl (fun hc=>?_) (fun hc=>?_)))))))))
       ·have hc41:=of_decide_eq_true hc;clear hc
        have hk:i < nl:=by omega
        obtain ⟨r,hr⟩:∃ r,ns[i]?=some r:=⟨ns[i]'(by omega),by simp [show i < ns.length by omega]⟩
        obtain ⟨b,off,rfl,hcs⟩:=hnr i r hr
        have k1:=hS.old hcs
        obtain ⟨hrr,hrl,hrm⟩:=hri r (List.mem_of_getElem? hr)
        obtain ⟨ra9,rl9,rc9,xs9⟩:=r
        dsimp only at hrr hrl hrm k1 hcs
        refine bV (XF.thenN (aH (bH (aH (aH (iF (m:=9) cA hS (by kernel_rfl) (by kernel_rfl) rfl (bR 1 rfl 1 rfl rfl (fun w hw=>bA (o':=1) cO rfl rfl) rfl (bF 2 rfl 44 0 rfl rfl rfl (fun w hw=>aY isAgg22 rfl ((aO hw 0).cell (Nat.zero_le _) (aD (hS.at_ 0 rfl) rfl))) rfl (bR 3 rfl 4 rfl rfl (fun w hw=>aV rfl) rfl (aZ 4 rfl (isV _) (aW _) (rgV (li:=[(45,_),(46,_)]) rfl (aL rfl) ⟨aJ 1 (aC rfl rfl rfl),aJ 2 (aC rfl rfl rfl),trivial⟩ (fun w hw=>bE  underlying22 sizeOf36 rfl rfl rfl (by omega) rfl) (aG rfl)) (bF 5 rfl 47 3 rfl rfl rfl (fun w hw=>aY isAgg36 rfl ((aO hw 0).cell (Nat.zero_le _) (k1))) rfl (bF 6 rfl 48 4 rfl rfl rfl (fun w hw=>iS underlying36 rfl) rfl (bR 7 rfl 1 rfl rfl (fun w hw=>bA (o':=0) dC rfl rfl) rfl (bF 8 rfl 50 6 rfl rfl rfl (fun w hw=>aY isAgg3 rfl ((aO hw 0).cell (Nat.zero_le _) (aD (hS.at_ 0 rfl) rfl))) rfl (aZ 9 rfl (isV _) (aW _) (rgV (li:=[(49,_),(51,_)]) rfl (aL rfl) ⟨aJ 5 (aC rfl rfl rfl),aJ 7 (aC rfl rfl rfl),trivial⟩ (fun w hw=>kN rfl rfl) (aG rfl)) (dJ ?_))))))))))))))))
        intro W2 hbR hS'
        clear hS;have hS:=hS';clear hS'
        refine aI (aI (aI (aI (aI (aI (aI (aI (aI (cN (XF.thenN (bS rfl (fun hc=>?_) (fun hc=>?_))))))))))))
        ·have hc52:=hc;clear hc
         have hls:=of_decide_eq_true hc52
         refine aH (aN (aB rfl rfl (aK (XF.thenN (cK (XF.thenR (XF.blkR (XF.thenR (XF.thenR (XF.blkR (XF.thenR (XF.res (cZ results16 rfl) ?_))))))))))))
         exact ⟨gO (by unfold cU;dsimp only;rw [if_neg h2,if_neg (by rw [dH hr (by unfold lY;dsimp only;rw [decide_eq_false hls];rfl)];decide)]),hS.below⟩
        ·have hc52:=hc;clear hc
         have hls:(rl9:Int)=sy:=Decidable.of_not_not (of_decide_eq_false hc52)
         refine bV (XF.thenN (aH (aN (aB rfl rfl (aK (XF.thenN (bH (cW (fun m l W=>∃ j:Nat,j≤rl9∧m=rl9 - j∧l=[(1,.pointer (some ⟨B1,0,none⟩)),(3,.int .i64 (nl:Int)),(4,.int .i64 (i:Int)),(5,.int .i64 (j:Int))]∧(xs9.take j).all (fun y=>inQ y (nl:Int))=true∧St w [(B1,[.int .i64 sy,.slice (some ⟨b,off,none⟩) nl nc,.slice aa al ac],25)] [] [] W) (rl9 - 0) ([(1,_),(3,_),(4,_),(5,_)]) ⟨rfl,rfl,rfl,rfl,trivial⟩ (⟨0,Nat.zero_le _,rfl,rfl,rfl,hS.clear⟩) ?_))))))))
         clear hS
         rintro m l W ⟨j,hj,rfl,rfl,hrow,hS⟩
         refine aH (aH (aN (aA rfl rfl (aU (o':=0) dC rfl rfl rfl (aP isAgg3 rfl (aD (hS.at_ 0 rfl) rfl) rfl (cH rfl rfl rfl (aK (XF.thenN (bS rfl (fun hc=>?_) (fun hc=>?_))))))))))
         ·have hc56:=of_decide_eq_true hc;clear hc
          have hk2:j < rl9:=by omega
          obtain ⟨b2,off2,y,rfl,hy,hyc⟩:=hrr.at1 (show j < xs9.length by omega)
          have k2:=hS.old hyc
          have k3:=hS.old hcs
          refine bV (XF.thenN (aH (bH (aH (aN (aU (o':=1) cO rfl rfl rfl (aP isAgg22 rfl (aD (hS.at_ 0 rfl) rfl) rfl (aA rfl rfl (aX  underlying22 sizeOf36 rfl rfl rfl (by omega) rfl rfl (aP isAgg36 rfl (k3) rfl (aA rfl rfl (aX  underlying36 sizeOf3 rfl rfl rfl (by omega) rfl rfl (aP isAgg3 rfl (k2) rfl (cH rfl rfl rfl (aA rfl rfl (bZ (d:=68) rfl (fun hc=>?_) (fun hc=>?_)))))))))))))))))
          ·have hg68:=of_decide_eq_true hc;clear hc
           refine aQ (d:=68) rfl rfl rfl rfl (aQ (d:=68) rfl rfl rfl rfl (aQ (d:=68) rfl rfl rfl rfl (aQ (d:=68) rfl rfl rfl rfl (aQ (d:=68) rfl rfl rfl rfl (aQ (d:=68) rfl rfl rfl rfl (aQ (d:=68) rfl rfl rfl rfl (aQ (d:=68) rfl rfl rfl rfl (aQ (d:=68) rfl rfl rfl rfl (aQ (d:=68) rfl rfl rfl rfl (bI rfl rfl rfl (aK (XF.thenN (fT rfl (aH (aN (aB rfl rfl (aK (XF.thenN (cK (XF.blkR (XF.thenR (XF.thenR (XF.blkR (XF.blkR (XF.thenR (XF.thenR (XF.blkR (XF.thenR (XF.res (cZ results16 rfl) ?_)))))))))))))))))))))))))))))
           exact ⟨gO (by unfold cU;dsimp only;rw [if_neg h2,if_neg (by rw [dH hr (by unfold lY;dsimp only;rw [dH hy (by simp [inQ];omega),Bool.and_false])];decide)]),hS.below⟩
          ·have hg68:=of_decide_eq_false hc;clear hc
           refine aE (d:=68) rfl rfl (aU (o':=1) cO rfl rfl rfl (aE (d:=68) rfl rfl (aP isAgg22 rfl (aD (hS.at_ 0 rfl) rfl) rfl (aE (d:=68) rfl rfl (aA rfl rfl (aE (d:=68) rfl rfl (aX  underlying22 sizeOf36 rfl rfl rfl (by omega) rfl rfl (aE (d:=68) rfl rfl (aP isAgg36 rfl (k3) rfl (aE (d:=68) rfl rfl (aA rfl rfl (aE (d:=68) rfl rfl (aX  underlying36 sizeOf3 rfl rfl rfl (by omega) rfl rfl (aE (d:=68) rfl rfl (aP isAgg3 rfl (k2) rfl (aE (d:=68) rfl rfl (aA rfl rfl (aE (d:=68) rfl rfl (sD rfl rfl rfl (cG rfl rfl rfl (aK (XF.thenN (bS rfl (fun hc=>?_) (fun hc=>?_))))))))))))))))))))))))
           ·have hc79:=of_decide_eq_true hc;clear hc
            refine aH (aN (aB rfl rfl (aK (XF.thenN (cK (XF.blkR (XF.thenR (XF.thenR (XF.blkR (XF.blkR (XF.thenR (XF.thenR (XF.blkR (XF.thenR (XF.res (cZ results16 rfl) ?_)))))))))))))))
            exact ⟨gO (by unfold cU;dsimp only;rw [if_neg h2,if_neg (by rw [dH hr (by unfold lY;dsimp only;rw [dH hy (by simp [inQ];omega),Bool.and_false])];decide)]),hS.below⟩
           ·have hc79:=of_decide_eq_false hc;clear hc
            refine bV (XF.blkN (XF.thenN (aN (aA rfl rfl (bY rfl rfl (IntWalk.i64_in _ (by omega)) rfl (aB rfl rfl (aK ?_)))))))
            exact XF.round (rl9 - (j+1)) [(1,_),(3,_),(4,_),(5,_)] (by omega) ⟨rfl,rfl,rfl,rfl,trivial⟩ ⟨j+1,by omega,rfl,rfl,hC hy hrow (by simp [inQ];omega),hS.clear⟩
         ·have hc56:=of_decide_eq_false hc;clear hc
          rw [List.take_of_length_le (by omega)] at hrow
          refine cV (XF.thenX (XF.thenX (XF.blkX (XF.blkN (XF.thenN (aN (aA rfl rfl (bY rfl rfl (IntWalk.i64_in _ (by omega)) rfl (aB rfl rfl (aK ?_))))))))))
          exact XF.round (nl - (i+1)) [(1,_),(3,_),(4,_)] (by omega) ⟨rfl,rfl,rfl,trivial⟩ ⟨i+1,by omega,rfl,rfl,hC hr hall (by unfold lY;dsimp only;rw [hrow,decide_eq_true hls];rfl),hS.clear⟩
       ·have hc41:=of_decide_eq_false hc;clear hc
        rw [List.take_of_length_le (by omega)] at hall
        refine cV (XF.thenX (XF.thenX (XF.blkX (XF.thenN (aH (aN (aB rfl rfl (aK (XF.thenN (cK (XF.res (cZ results16 rfl) ?_)))))))))))
        exact ⟨gO (by unfold cU;dsimp only;rw [if_neg h2,if_pos hall]),hS.below⟩
theorem pB (d:DV) (w:World) (h:DIn w d):Calls prog 16 #[d.val] w (fun e w'=>e = .returned (.int .i64 (cU d))∧Below w.heap.size w w'):=dfaR_c _ _ _ _ _ _ _ _ d.bs w h.nrow h.nlen h.rin h.nmax h.amax
def fJ (k:Nat) (os:List Oper):List Oper:=os.take k++(os.drop k).map fun o=>{ o with dst:=none }
def yP (k:Nat) (os:List Oper):Bool:=(os.take k).all fun o=>match o.guard with | none=>true | some (g,_)=>Nat.blt g k
section
variable {k:Nat} {os:List Oper}
theorem sT:(fJ k os).length=os.length:=by unfold fJ;simp;omega
theorem wT:(fJ k os).toArray.size=os.toArray.size:=by simp [sT]
theorem hY {i:Nat} (h:i < k):(fJ k os).toArray[i]?=os.toArray[i]?:=by
 simp only [List.getElem?_toArray]
 unfold fJ
 by_cases hi:i < os.length
 ·rw [List.getElem?_append_left (by simp;omega),List.getElem?_take,if_pos h]
 ·rw [List.getElem?_eq_none (by simp;omega),List.getElem?_eq_none (by omega)]
theorem uU {i:Nat} (h:k≤i):(fJ k os).toArray[i]?=(os.toArray[i]?).map fun o=>{ o with dst:=none }:=by
 simp only [List.getElem?_toArray]
 unfold fJ
 by_cases hi:i < os.length
 ·rw [List.getElem?_append_right (by simp;omega),List.getElem?_map,List.getElem?_drop]
  congr 2
  simp;omega
 ·rw [List.getElem?_eq_none (by simp;omega),List.getElem?_eq_none (by omega)];rfl
theorem rL (i:Nat):aft (fJ k os).toArray i=aft os.toArray i:=by
 unfold aft
 rcases Nat.lt_or_ge i k with h | h
 ·rw [hY h]
 ·rw [uU h]
  cases os.toArray[i]?<;>rfl
theorem Ad {j d:Nat} (h:((fJ k os).toArray[j]?).bind (·.dst)=some d):j < k∧(os.toArray[j]?).bind (·.dst)=some d:=by
 rcases Nat.lt_or_ge j k with hj | hj
 ·rw [hY hj] at h;exact ⟨hj,h⟩
 ·rw [uU hj] at h
  cases ho:os.toArray[j]? with
  | none=>rw [ho] at h;cases h
  | some o=>rw [ho] at h;cases h
theorem uV {i j d:Nat} (hi:i < k) (h:bG (fJ k os).toArray i j d=true):j < k∧bG os.toArray i j d=true:=by
 unfold bG at h ⊢
 rw [hY hi] at h
 rw [Bool.and_eq_true,beq_iff_eq] at h ⊢
 obtain ⟨h1,h2⟩:=Ad h.2
 exact ⟨h1,h.1,h2⟩
theorem Bv {i d:Nat} (hi:i < k) (h:(os.toArray[i]?).bind (·.dst)=some d):freeT (fJ k os).toArray d=false:=by
 cases hf:freeT (fJ k os).toArray d with
 | false=>rfl
 | true =>
  unfold freeT at hf
  obtain ⟨o,ho,hod⟩:=Option.bind_eq_some_iff.1 h
  have h2:=hY (os:=os) hi
  rw [ho] at h2
  have:=Array.all_eq_true'.1 hf o (Array.mem_of_getElem? h2)
  rw [hod] at this
  simp at this
variable {P:Program} {Q:Exit→Act→World→Prop} {σ:Type}
theorem wU {t0:Array Value} {G:σ→World→Prop} {I:σ→Nat→Value→World→Prop} {V:σ→Array Bool→Prop} {i:Nat} (hg:yP k os=true) (hi:i < k) (h:A7 P (fJ k os).toArray Q t0 G I V i) :
  wN P (freeT (fJ k os).toArray) os.toArray Q t0 G (fun s j v w=>j < k→I s j v w) V i:=fun s L a w hF hG hV hs hc hr hD=>by
 have key:=h s L a w hF hG hV (by rw [wT];exact hs) (fun j hj x hx=>hc j hj x (by rw [← rL (k:=k)];exact hx)) ⟨hr.1,fun x hx=>hr.2 x (by rw [← rL (k:=k)];exact hx)⟩ (fun j d hw=>by
  obtain ⟨h1,h2⟩:=uV hi hw
  exact hD j d h2 h1)
 have e:wpOp P (fJ k os).toArray Q i=wpOp P os.toArray Q i:=by
  funext K a w
  unfold wpOp
  rw [hY hi]
  cases ho:os.toArray[i]? with
  | none=>rfl
  | some o =>
   have hy:Region.wanted o (yielded (fJ k os).toArray a.tmps)=Region.wanted o (yielded os.toArray a.tmps):=by
    unfold Region.wanted
    cases hgd:o.guard with
    | none=>rfl
    | some g =>
     obtain ⟨g,b⟩:=g
     have hm:o∈os.take k:=List.mem_of_getElem? (i:=i) (by rw [List.getElem?_take,if_pos hi];simpa using ho)
     have h3:=List.all_eq_true.1 hg o hm
     rw [hgd] at h3
     have h4:g < k:=Nat.lt_of_lt_of_le (Nat.lt_succ_self _) (Nat.le_of_ble_eq_true h3)
     show (yielded (fJ k os).toArray a.tmps g == some b)=(yielded os.toArray a.tmps g == some b)
     unfold yielded
     rw [hY h4]
   show (if Region.wanted o (yielded (fJ k os).toArray a.tmps) then _ else _)=_
   rw [hy]
 rw [e] at key
 refine wpOp_mono ?_ key
 rintro a' w' ⟨s',v,h1,h2,h3,h4,h5⟩
 rw [hY hi] at h1 h4
 refine ⟨s',v,h1,h2,h3,fun d hd _=>h4 d hd,fun j d _ hd hI hj=>h5 j d (by rw [hY hj];exact hd) (hI hj)⟩
end
section
variable {P:Program} {n:Nat} {Q:Exit→Act→World→Prop} {l:Fr} {w0 W:World} {ops:Array Oper} {os:List Oper} {K:List (Nat×World)} {L:List Asr} {i:Nat}
variable {al:List Nat} {ca:Nat→Option Value→List Value} {ta:Nat→TypeId} {Os:Option Value→Own} {Gs:Option Value→bN} {lo ef jy:Nat} {s:Sg}
theorem regSF {id k:Nat} (hm:P.follows .mixedOrders=true) (hlo:lo=W.heap.size) (hS:St w0 (Os none) (Gs none) K W) (hk:Nat.blt k os.length=true) (htl:oN os.toArray k=true) (ht:dG os.toArray n=true) (ht2:dG (fJ k os).toArray n=true) (hgd:yP k os=true) (hal:al.all (fun a=>Nat.blt a k)=true) (hnd:al.Nodup) (hea:al.contains ef=false)
  (evE:Value→Option Value) (hev:(Nat.blt ef k=true∧evE=some)∨(Nat.ble os.length ef=true∧Nat.ble os.length jy=true∧evE=fun _=>none)) (hdst:(List.range k).all (fun j=>Nat.beq j ef || ((os.toArray[j]?).bind (·.dst)).isSome)=true)
  (h:BLS P n (fJ k os).toArray Q l w0 K lo al ef jy ca ta Os Gs (fun Lr=>∀ (Bf:Nat→Nat) (y:Value) (W':World) (Ks:List (Nat×World)),W.heap.size≤W'.heap.size→(∀ q∈Ks,lo≤q.1)→St w0 (al.map (fun a=>(Bf a,ca a (evE y),ta a))++Os (evE y)) (Gs (evE y)) (Ks++K) W' →
   (∀ {O2 G2 K2 W2},St w0 O2 G2 K2 W2→(∀ q∈Ks,q∈K2)→eQ lo (XB (al.map (fun a=>(Bf a,ca a (evE y),ta a))++Os (evE y)) (Gs (evE y))) W' W2) →
   iE (os.take k) (wL al ef jy lo (XB (al.map (fun a=>(Bf a,ca a (evE y),ta a))++Os (evE y)) (Gs (evE y))) Bf y 0 Lr.reverse) l (fun l' W'=>cJ P n os.toArray Q (os.drop k) l' W') W') k [] 0):dS P n (.region id os.toArray true) Q l W:=by
 obtain ⟨Lr,h1,h2,hfin⟩:=sL ht2 k 0 [] rfl (fun j _=>by rfl) (fun i hi=>by omega) h
 rw [Nat.zero_add] at h1 h2
 have hk':k < os.length:=Nat.lt_of_lt_of_le (Nat.lt_succ_self _) (Nat.le_of_ble_eq_true hk)
 have hal':∀ a∈al,a < k:=fun a ha=>Nat.lt_of_lt_of_le (Nat.lt_succ_self _) (Nat.le_of_ble_eq_true (List.all_eq_true.1 hal a ha))
 have hea':ef∉al:=fun h=>by rw [List.contains_iff_mem.2 h] at hea;cases hea
 intro a ha
 refine wp_region_any hm (mF (fr:=freeT (fJ k os).toArray) (t0:=a.tmps) (d0:=a.defers) (V:=VG al ef) (I:=fun s j v w=>j < k→IG al ef jy lo ca ta Os Gs Lr.reverse s j v w) (G:=GG w0 K lo ca ta Os Gs) (k:=k) (fun _ _ h1 h2=>Bv h1 h2) (by simpa using hk') htl (by rw [ha.size];exact ht) (fun i hi=>wU hgd hi ((h2 i hi).step a ha)) ?_ _ ⟨none,[]⟩ _ _ _ (by simp) (gE _) (fun j hj=>by rw [Array.getD_eq_getD_getElem?,Array.getElem?_replicate] at hj;split at hj<;>simp at hj) (fun i _=>by rw [Array.getD_eq_getD_getElem?,Array.getElem?_replicate];split<;>rfl) ⟨rfl,rfl,fun _ _=>rfl,⟨by unfold OE;exact hS.drew,by rw [hlo];exact Nat.le_refl _,(fun q hq=>by cases hq)⟩,⟨fun a _=>?_,(fun q hq=>by cases hq),List.Pairwise.nil,?_⟩,fun i d _ hj=>?_⟩)
 ·intro s LB a' W' hR hdone hnot
  obtain ⟨hG,hG2,hG3⟩:=hR.glob
  obtain ⟨v1,v2,v3,v4⟩:=hR.cons
  obtain ⟨ev,bs⟩:=s
  have hall:∀ x∈al,(x,bAt bs x)∈bs:=fun x hx=>sM ((v1 x hx).1 (hdone x (hal' x hx)))
  obtain ⟨y,hy⟩:∃ y,ev=evE y:=by
   rcases hev with ⟨e1,e2⟩ | ⟨e1,e3,e2⟩
   ·have h3:ev.isSome=true:=v4.1 (hdone ef (Nat.lt_of_lt_of_le (Nat.lt_succ_self _) (Nat.le_of_ble_eq_true e1)))
    obtain ⟨y,hy⟩:=Option.isSome_iff_exists.1 h3
    exact ⟨y,by rw [hy,e2]⟩
   ·refine ⟨undef,?_⟩
    rw [e2]
    have h3:=hnot ef (by have:=Nat.le_of_ble_eq_true e1;omega)
    cases ev with
    | none=>rfl
    | some v=>have:=v4.2 rfl;rw [h3] at this;cases this
  subst hy
  have hperm:bs.Perm (al.map (fun x=>(x,bAt bs x))):=by
   refine (List.perm_ext_iff_of_nodup (v3.imp (fun h e=>h (by rw [e]))) ?_).2 fun q=>?_
   ·refine List.Pairwise.map _ (fun x y (hxy:x≠y)=>?_) hnd
    intro e;exact hxy (congrArg Prod.fst e)
   ·constructor
    ·intro hq
     have h3:=hall q.1 (v2 q hq)
     have h4:=nD v3 hq h3 rfl
     rw [h4]
     exact List.mem_map.2 ⟨q.1,v2 q hq,rfl⟩
    ·intro hq
     obtain ⟨x,hx,rfl⟩:=List.mem_map.1 hq
     exact hall x hx
  have hO:(OE ca ta Os ⟨evE y,bs⟩).Perm (al.map (fun a=>(bAt bs a,ca a (evE y),ta a))++Os (evE y)):=by
   unfold OE
   refine List.Perm.append_right _ ?_
   have:=hperm.map (fun q:Nat×Nat=>(q.2,ca q.1 (evE y),ta q.1))
   rw [List.map_map] at this
   exact this
  have hG':=hG.perm hO
  have hX:∀ b,XB (OE ca ta Os ⟨evE y,bs⟩) (Gs (evE y)) b↔XB (al.map (fun a=>(bAt bs a,ca a (evE y),ta a))++Os (evE y)) (Gs (evE y)) b:=fun b=>by
   unfold XB
   constructor
   ·rintro (⟨p,hp,e⟩ | h);exact .inl ⟨p,hO.mem_iff.1 hp,e⟩;exact .inr h
   ·rintro (⟨p,hp,e⟩ | h);exact .inl ⟨p,hO.mem_iff.2 hp,e⟩;exact .inr h
  obtain ⟨Ks,c1,⟨qw,c2,c3⟩,c4⟩:=zX (((al.map (fun a=>(bAt bs a,ca a (evE y),ta a))++Os (evE y)).map (·.1))++(Gs (evE y)).filterMap (fun g=>g.v.ownBlock)) lo W'
  have hG4:=hG'.more Ks (fun q hq=>⟨(c1 q hq).2.1,fun p hp=>(c1 q hq).2.2 p.1 (List.mem_append_left _ (List.mem_map.2 ⟨p,hp,rfl⟩)),fun g hg b hb=>(c1 q hq).2.2 b (List.mem_append_right _ (List.mem_filterMap.2 ⟨g,hg,hb⟩))⟩)
  have hcov:∀ {O2 G2 K2 W2},St w0 O2 G2 K2 W2→(∀ q∈Ks,q∈K2)→eQ lo (XB (al.map (fun a=>(bAt bs a,ca a (evE y),ta a))++Os (evE y)) (Gs (evE y))) W' W2:=fun {O2 G2 K2 W2} h2 hq=>by
   refine ⟨⟨h2.below.os.trans hG.below.os.symm,h2.below.tape.trans hG.below.tape.symm,h2.below.output.trans hG.below.output.symm⟩,?_,fun b b1 b2 b3=>?_⟩
   ·have:=(h2.kept qw (hq qw c2)).1.1;rw [c3] at this;exact this
   ·obtain ⟨q,q1,q2,q3⟩:=c4 b b1 b2 (fun hb=>b3 (by
     rcases List.mem_append.1 hb with hb | hb
     ·obtain ⟨p,hp,rfl⟩:=List.mem_map.1 hb
      exact .inl ⟨p,hp,rfl⟩
     ·obtain ⟨g,hg,e⟩:=List.mem_filterMap.1 hb
      exact .inr ⟨g,hg,e⟩))
    exact ((h2.kept q (hq q q1)).1.2 b q2 q3).trans ((c1 q q1).2.1.2 b q2 q3).symm
  have htk:(os.take k).length=k:=by simp;omega
  refine kS (os.take k) (wL al ef jy lo (XB (al.map (fun a=>(bAt bs a,ca a (evE y),ta a))++Os (evE y)) (Gs (evE y))) (bAt bs) y 0 Lr.reverse) l (fun i d hi hd'=>?_) (fun i hi hd'=>?_) (hR.size.trans ha.size) (hR.defers.trans ha.defers) ?_ (fun l' h ha'=>?_) (hfin (bAt bs) y W' Ks (by rw [← hlo];exact hG2) (fun q hq=>(c1 q hq).1) hG4 hcov)
  ·have hik:i < k:=by omega
   have hd2:(os.toArray[i]?).bind (·.dst)=some d:=by rw [List.getElem?_take,if_pos hik] at hd';simpa using hd'
   obtain ⟨i1,i2,i3,i4⟩:=hR.done i d hd2 (hdone i hik) hik
   rw [kR Lr.reverse 0 i (by simp;omega),Nat.add_zero]
   cases hc1:al.contains i with
   | true =>
    rw [cond_true]
    obtain ⟨B,hB,e⟩:=i1 (List.contains_iff_mem.1 hc1)
    have:=nD v3 hB (hall i (List.contains_iff_mem.1 hc1)) rfl
    show _=_
    rw [e,show B=bAt bs i from congrArg Prod.snd this]
   | false =>
    rw [cond_false]
    have hni:i∉al:=fun hm'=>by rw [List.contains_iff_mem.2 hm'] at hc1;cases hc1
    cases hc2:Nat.beq i ef with
    | true =>
     rw [cond_true]
     have h5:=i2 (Nat.eq_of_beq_eq_true hc2)
     rcases hev with ⟨e1,e2⟩ | ⟨e1,e3,e2⟩
     ·rw [e2] at h5
      exact (Option.some.inj h5).symm
     ·rw [e2] at h5;cases h5
    | false =>
     rw [cond_false]
     have hne:i≠ef:=fun e=>by rw [e,Nat.beq_refl] at hc2;cases hc2
     have h6:AwS lo (XB (al.map (fun a=>(bAt bs a,ca a (evE y),ta a))++Os (evE y)) (Gs (evE y))) (atI Lr.reverse i) (a'.tmps.getD d undef) W':=fun w2 hw2=>i4 hni hne w2 ⟨hw2.1,hw2.2.1,fun b b1 b2 b3=>hw2.2.2 b b1 b2 (fun hb=>b3 ((hX b).2 hb))⟩
     cases hc3:Nat.beq i jy with
     | true =>
      rw [cond_true]
      refine ⟨?_,h6⟩
      rcases hev with ⟨e1,e2⟩ | ⟨e1,e3,e2⟩
      ·exact i3 (Nat.eq_of_beq_eq_true hc3) y (by rw [e2])
      ·have:=Nat.le_of_ble_eq_true e3
       have:=Nat.eq_of_beq_eq_true hc3
       omega
     | false=>rw [cond_false];exact h6
  ·have hik:i < k:=by omega
   have h3:=List.all_eq_true.1 hdst i (List.mem_range.2 hik)
   rw [Bool.or_eq_true] at h3
   have hd2:(os.toArray[i]?).bind (·.dst)=none:=by rw [List.getElem?_take,if_pos hik] at hd';simpa using hd'
   rcases h3 with h3 | h3
   ·rw [kR Lr.reverse 0 i (by simp;omega),Nat.add_zero]
    have hc1:al.contains i=false:=by rw [Nat.eq_of_beq_eq_true h3];exact hea
    rw [hc1,cond_false,h3,cond_true]
    exact ⟨y,rfl⟩
   ·rw [hd2] at h3;cases h3
  ·intro t v hv hno
   rw [hR.frame t ?_]
   ·exact ha.at_ t v hv
   ·unfold freeT;rw [Array.all_eq_true'];intro o' ho'
    have ho2:o'∈fJ k os:=by simpa using ho'
    unfold fJ at ho2
    rcases List.mem_append.1 ho2 with ho2 | ho2
    ·simpa using hno o' ho2
    ·obtain ⟨o2,_,rfl⟩:=List.mem_map.1 ho2
     simp
  ·have:=h a' ha'
   simpa using this
 ·rw [Array.getD_eq_getD_getElem?,Array.getElem?_replicate]
  constructor
  ·intro h3;split at h3<;>simp at h3
  ·rintro ⟨B,hB⟩;cases hB
 ·rw [Array.getD_eq_getD_getElem?,Array.getElem?_replicate]
  constructor
  ·intro h3;split at h3<;>simp at h3
  ·intro h3;cases h3
 ·rw [Array.getD_eq_getD_getElem?,Array.getElem?_replicate] at hj
  split at hj<;>simp at hj
end
section
variable {P:Program} {ops:Array Oper} {Q:Exit→Act→World→Prop} {σ:Type}
end
section
variable {P:Program} {n:Nat} {Q:Exit→Act→World→Prop} {l:Fr} {w0 W:World} {ops:Array Oper} {os:List Oper} {K:List (Nat×World)} {L:List Asr} {i:Nat}
variable {al:List Nat} {ca:Nat→Option Value→List Value} {ta:Nat→TypeId} {Os:Option Value→Own} {Gs:Option Value→bN} {lo ef jy:Nat} {s:Sg}
variable {d:Nat} {op:Op} {ty:TypeId} {pos:String} {aft_:Array Edge} {v:Value} {gd:Option (Nat×Bool)}
end
section
variable {P:Program} {n:Nat} {Q:Exit→Act→World→Prop} {l:Fr} {w0 W:World} {ops:Array Oper} {os:List Oper} {K:List (Nat×World)} {L:List Asr} {i:Nat} {O:Own} {G:bN}
variable {al:List Nat} {zc:Nat→List Value} {ta:Nat→TypeId} {lo ef jy:Nat} {d:Nat} {ty:TypeId} {pos:String} {aft_:Array Edge} {v:Value}
def osY (O:Own) (j jx B:Nat) (cs:List Value) (U:TypeId):Option Value→Own
 | none=>O
 | some y=>O.set j (B,fR cs jx y.cells.toList,U)
theorem oG {O:Own} {j jx B i:Nat} {cs:List Value} {U:TypeId} {ev:Option Value} {p:Nat×List Value×TypeId} (h:O[i]?=some p) (hij:Nat.beq i j=false):(osY O j jx B cs U ev)[i]?=some p:=by
 cases ev with
 | none=>exact h
 | some y =>
  show (O.set j _)[i]?=_
  rw [List.getElem?_set_ne (fun e=>by rw [e,Nat.beq_refl] at hij;cases hij)];exact h
theorem sU {T U:TypeId} {x:Operand} {tyy B m:Nat} {cs:List Value} {py:Asr} (j jx:Nat) (li:Fr) (hal:al.contains ef=false) (hij:Nat.beq ef jy=false) (hi:ops[ef]?=some ⟨none,.store T x (.tmp tyy),ty,pos,aft_,none⟩) (hjy:(ops[jy]?).bind (·.dst)=some tyy) (hwy:bG ops ef jy tyy=true) (hja:al.contains jy=false) (hLy:atI L jy=py) (hNo:pU al ef L) (hli:qY n ops l L ef li) (hx:evL li x=some (.pointer (some ⟨B,jx,none⟩)))
  (hO:O[j]?=some (B,cs,U)) (hsz:∀ w,(sizeOf T).run P w = .ok m w) (hpy:∀ v w,py v w→∃ vs:List Value,v.cells=vs.toArray∧vs.length=m∧vs.all Value.oneCell'=true) (hjm:Nat.ble (jx+m) cs.length=true):SG P n ops Q l w0 K lo al ef jy (rC zc) ta (osY O j jx B cs U) (wM G) L ef :=
 sg_eff hal hij hi fun t0 a bs w h0 hF hG hbs hD=>by
  have hD':=uH h0 hF hD (fun j d _ hj=>hNo j hj)
  have ex:=jQ h0 hF hD' hli x _ hx
  have hy:=((hD jy tyy hwy).2.2.2 (fun h=>by rw [List.contains_iff_mem.2 h] at hja;cases hja) (fun e=>by rw [e,Nat.beq_refl] at hij;cases hij)).here
  rw [hLy] at hy
  obtain ⟨vs,hc,hl,h1⟩:=hpy _ _ hy
  have hcl:(a.eval (.tmp tyy)).cells.toList=vs:=by rw [hc]
  have hOk:(OE (rC zc) ta (osY O j jx B cs U) ⟨none,bs⟩)[bs.length+j]?=some (B,cs,U):=by
   unfold OE
   rw [List.getElem?_append_right (by simp)]
   simpa [osY] using hO
  have hXB:XB (OE (rC zc) ta (osY O j jx B cs U) ⟨none,bs⟩) (wM G none) B:=.inl ⟨_,List.mem_of_getElem? hOk,rfl⟩
  have hrun:=nE (P:=P) hsz hc hl h1 (hG.1.at_ _ hOk) (j:=jx) (Nat.le_of_ble_eq_true hjm)
  have hO':OE (rC zc) ta (osY O j jx B cs U) ⟨some (a.eval (.tmp tyy)),bs⟩=(OE (rC zc) ta (osY O j jx B cs U) ⟨none,bs⟩).set (bs.length+j) (B,fR cs jx vs,U):=by
   unfold OE
   rw [List.set_append_right _ _ (by simp)]
   congr 1
   simp [osY,hcl]
  refine uI hi rfl rfl rfl (by rw [ex];exact hrun) ⟨undef,a.eval (.tmp tyy),rfl,(fun d hd=>by cases hd),?_,mD hXB,?_,fun d hd=>?_⟩
  ·rw [hO']
   exact hG.1.setMany _ vs jx hOk
  ·rintro b (⟨p,hp,rfl⟩ | h)
   ·rw [hO'] at hp
    rcases List.mem_or_eq_of_mem_set hp with hp | rfl
    ·exact .inl (.inl ⟨p,hp,rfl⟩)
    ·exact .inl hXB
   ·exact .inl (.inr h)
  ·rw [hjy] at hd;cases hd;rfl
end
section
variable {P:Program} {n:Nat} {Q:Exit→Act→World→Prop} {l:Fr} {w0 W:World} {ops:Array Oper} {os:List Oper} {K:List (Nat×World)} {L:List Asr} {i:Nat}
variable {al:List Nat} {ca:Nat→Option Value→List Value} {ta:Nat→TypeId} {Os:Option Value→Own} {Gs:Option Value→bN} {lo ef jy:Nat} {s:Sg}
variable {d:Nat} {op:Op} {ty:TypeId} {pos:String} {aft_:Array Edge} {v:Value} {gd:Option (Nat×Bool)}
end
theorem kE (w:World) (b o:Nat):(Instr.fieldAt 87 (.pointer (some ⟨b,o,none⟩)) 0).run prog w = .ok (.pointer (some ⟨b,o+0,none⟩)) w:=by
 simp [Instr.fieldAt,run_underlying underlying87,Instr.sureAddr,go_sem,Addr.add_lit]
theorem pC (w:World) (b o:Nat):(Instr.fieldAt 87 (.pointer (some ⟨b,o,none⟩)) 1).run prog w = .ok (.pointer (some ⟨b,o+1,none⟩)) w:=by
 simp [Instr.fieldAt,run_underlying underlying87,Instr.sureAddr,go_sem,Addr.add_lit]
theorem nK (w:World) (b o:Nat):(Instr.fieldAt 87 (.pointer (some ⟨b,o,none⟩)) 2).run prog w = .ok (.pointer (some ⟨b,o+2,none⟩)) w:=by
 simp [Instr.fieldAt,run_underlying underlying87,Instr.sureAddr,go_sem,Addr.add_lit]
theorem eC (w:World) (b o:Nat):(Instr.fieldAt 87 (.pointer (some ⟨b,o,none⟩)) 3).run prog w = .ok (.pointer (some ⟨b,o+3,none⟩)) w:=by
 simp [Instr.fieldAt,run_underlying underlying87,Instr.sureAddr,go_sem,Addr.add_lit]
theorem gV (w:World) (b o:Nat):(Instr.fieldAt 87 (.pointer (some ⟨b,o,none⟩)) 5).run prog w = .ok (.pointer (some ⟨b,o+5,none⟩)) w:=by
 simp [Instr.fieldAt,run_underlying underlying87,Instr.sureAddr,go_sem,Addr.add_lit]
theorem uW (n m:Nat) (P:PT) (PB Ab Lb Kb Fb Sb Mb cf cs cm:Nat) (e1 e2 e3:List Value) (Ot:Own) (G:bN) (K:List (Nat×World)) (w0 w:World) (s:Nat) (hS0:St w0 ((PB,[.slice (some ⟨Ab,0,none⟩) n n,.slice (some ⟨Lb,0,none⟩) n n,.slice (some ⟨Kb,0,none⟩) n n,.slice (some ⟨Fb,0,none⟩) m cf,.slice (some ⟨Sb,0,none⟩) m cs,.slice (some ⟨Mb,0,none⟩) m cm],87)::(Ab,i32 (P.al),21)::(Lb,i32 (P.pl),21)::(Kb,i32 (P.bk),21)::(Fb,i32 (P.fs)++e1,21)::(Sb,i32 (P.sz)++e2,21)::(Mb,i32 (P.mr)++e3,21)::Ot) G K w) (hP:PInv n P) (hm:P.fs.length=m) (hn:n≤100000) (hs:s < n) :
  Calls prog 61 #[.pointer (some ⟨PB,0,none⟩),.int .i32 (s:Int)] w (fun e w'=>e = .returned (.bool (oW P s))∧St w0 ((PB,[.slice (some ⟨Ab,0,none⟩) n n,.slice (some ⟨Lb,0,none⟩) n n,.slice (some ⟨Kb,0,none⟩) n n,.slice (some ⟨Fb,0,none⟩) m cf,.slice (some ⟨Sb,0,none⟩) m cs,.slice (some ⟨Mb,0,none⟩) m cm],87)::(Ab,i32 ((jG P s).al),21)::(Lb,i32 ((jG P s).pl),21)::(Kb,i32 (P.bk),21)::(Fb,i32 (P.fs)++e1,21)::(Sb,i32 (P.sz)++e2,21)::(Mb,i32 ((jG P s).mr)++e3,21)::Ot) G K w'):=by
 refine cP (args:=[.pointer (some ⟨PB,0,none⟩),.int .i32 (s:Int)]) func61 rfl ntmps61 rfl ?_
 have hS:=hS0
 have hla:=hP.la
 have hlp:=hP.lp
 have hlb:=hP.lb
 have hlf:=hP.lf
 have hlm:=hP.lm
 have hb:=hP.bl s hs
 have hat:=hP.at_ hs
 have hrg:=hP.rg _ hb
 have hps:=(hP.pa s hs).1
 refine aH (aN (aB rfl rfl (aK (XF.thenN (aH (aN (aA rfl rfl (bM rfl rfl (aU (o':=2) nK rfl rfl rfl (aP isAgg59 rfl (aD (hS.at_ 0 rfl) rfl) rfl (aA rfl rfl (aX (j:=s) underlying59 sizeOf21 rfl rfl (rfl) (by omega) rfl rfl (aP isAgg21 rfl (aD (hS.at_ 3 rfl) (gU (by omega))) rfl (aB rfl rfl (aK (XF.thenN (aH (iF (m:=24) cA hS (by kernel_rfl) (by kernel_rfl) rfl (bR 1 rfl 0 rfl rfl (fun w hw=>aV rfl) rfl (bF 2 rfl 16 0 rfl rfl rfl (fun w hw=>bP rfl) rfl (bF 3 rfl 17 1 rfl rfl rfl (fun w hw=>bA (o':=1) pC rfl rfl) rfl (bF 4 rfl 18 2 rfl rfl rfl (fun w hw=>aY isAgg59 rfl ((aO hw 0).cell (Nat.zero_le _) (aD (hS.at_ 0 rfl) rfl))) rfl (bR 5 rfl 1 rfl rfl (fun w hw=>aV rfl) rfl (aZ 6 rfl (isV _) (aW _) (rgV (li:=[(19,_),(20,_)]) rfl (aL rfl) ⟨aJ 3 (aC rfl rfl rfl),aJ 4 (aC rfl rfl rfl),trivial⟩ (fun w hw=>bE (j:=s) underlying59 sizeOf21 rfl rfl (rfl) (by omega) rfl) (aG rfl)) (bF 7 rfl 21 5 rfl rfl rfl (fun w hw=>aY isAgg21 rfl ((aO hw 0).cell (Nat.zero_le _) (aD (hS.at_ 2 rfl) (gU (by omega))))) rfl (bR 8 rfl 0 rfl rfl (fun w hw=>aV rfl) rfl (bF 9 rfl 23 7 rfl rfl rfl (fun w hw=>bP rfl) rfl (bF 10 rfl 24 8 rfl rfl rfl (fun w hw=>bA (o':=3) eC rfl rfl) rfl (bF 11 rfl 25 9 rfl rfl rfl (fun w hw=>aY isAgg59 rfl ((aO hw 0).cell (Nat.zero_le _) (aD (hS.at_ 0 rfl) rfl))) rfl (bR 12 rfl 5 rfl rfl (fun w hw=>aV rfl) rfl (aZ 13 rfl (isV _) (aW _) (rgV (li:=[(26,_),(27,_)]) rfl (aL rfl) ⟨aJ 10 (aC rfl rfl rfl),aJ 11 (aC rfl rfl rfl),trivial⟩ (fun w hw=>bE (j:=gN P.bk s) underlying59 sizeOf21 rfl rfl (rfl) (by omega) rfl) (aG rfl)) (bF 14 rfl 28 12 rfl rfl rfl (fun w hw=>aY isAgg21 rfl ((aO hw 0).cell (Nat.zero_le _) (aD (hS.at_ 4 rfl) (fP (by omega))))) rfl (bR 15 rfl 0 rfl rfl (fun w hw=>aV rfl) rfl (bF 16 rfl 30 14 rfl rfl rfl (fun w hw=>bP rfl) rfl (bF 17 rfl 31 15 rfl rfl rfl (fun w hw=>bA (o':=5) gV rfl rfl) rfl (bF 18 rfl 32 16 rfl rfl rfl (fun w hw=>aY isAgg59 rfl ((aO hw 0).cell (Nat.zero_le _) (aD (hS.at_ 0 rfl) rfl))) rfl ?_))))))))))))))))))))))))))))))))))))
 refine bR 19 rfl 5 rfl rfl (fun w hw=>aV rfl) rfl (aZ 20 rfl (isV _) (aW _) (rgV (li:=[(33,_),(34,_)]) rfl (aL rfl) ⟨aJ 17 (aC rfl rfl rfl),aJ 18 (aC rfl rfl rfl),trivial⟩ (fun w hw=>bE (j:=gN P.bk s) underlying59 sizeOf21 rfl rfl (rfl) (by omega) rfl) (aG rfl)) (bF 21 rfl 35 19 rfl rfl rfl (fun w hw=>aY isAgg21 rfl ((aO hw 0).cell (Nat.zero_le _) (aD (hS.at_ 6 rfl) (fP (by omega))))) rfl (aZ 22 rfl (isV _) (aW _) (rgV (li:=[(29,_),(36,_)]) rfl (aL rfl) ⟨aJ 13 (aC rfl rfl rfl),aJ 20 (aC rfl rfl rfl),trivial⟩ (fun w hw=>iB rfl rfl (IntWalk.i32_in _ (by omega))) (aG rfl)) (bF 23 rfl 22 6 rfl rfl rfl (fun w hw=>dI rfl) rfl (bF 24 rfl 37 21 rfl rfl rfl (fun w hw=>dI rfl) rfl (dJ ?_))))))
 intro W1 hbR hS'
 clear hS;have hS:=hS';clear hS'
 refine aI (aI (aI (aI (aI (aI (aI (aI (aI (aI (aI (aI (aI (aI (aI (aI (aI (aI (aI (aI (aI (aI (aI (aI (cN (XF.thenN (aH (aH (aN (aA rfl rfl (aA rfl rfl (cH rfl rfl rfl (aK (XF.thenN (bS rfl (fun hc=>?_) (fun hc=>?_)))))))))))))))))))))))))))))))))))
 ·have hc40:=of_decide_eq_true hc;clear hc
  have hu:gN P.pl s < pto P s:=by unfold pto;omega
  have e9:jG P s=P:=by unfold jG;rw [if_pos hu]
  have e8:oW P s=false:=by unfold oW;rw [decide_eq_true (show PM P s from hu)];rfl
  refine aH (aN (aB rfl rfl (aK (XF.thenN (cK (XF.thenR (XF.res (cZ results61 rfl) ?_)))))))
  exact ⟨by rw [e8],by rw [e9];exact hS.keep K (fun q hq=>by simp [hq])⟩
 ·have hc40:=of_decide_eq_false hc;clear hc
  have hu:¬ gN P.pl s < pto P s:=by unfold pto;omega
  obtain ⟨ht1,ht2⟩:=hP.to_lt hs hu
  have hpt:pto P s=gN P.fs (gN P.bk s)+gN P.mr (gN P.bk s):=rfl
  obtain ⟨hos,_⟩:=hP.ap (pto P s) ht2
  have e9:jG P s=⟨(P.al.set (pto P s) s).set (gN P.pl s) (gN P.al (pto P s)),(P.pl.set s (pto P s)).set (gN P.al (pto P s)) (gN P.pl s),P.bk,P.fs,P.sz,P.mr.set (gN P.bk s) (gN P.mr (gN P.bk s)+1)⟩:=by unfold jG;rw [if_neg hu]
  have e8:oW P s=decide (gN P.mr (gN P.bk s)=0):=by unfold oW;rw [decide_eq_false (show ¬ PM P s from hu)];rfl
  rw [e9,e8]
  refine bV (XF.thenN (aH (aN (aA rfl rfl (bM rfl rfl (aU (o':=0) kE rfl rfl rfl (aP isAgg59 rfl (aD (hS.at_ 0 rfl) rfl) rfl (aA rfl rfl (aX (j:=pto P s) underlying59 sizeOf21 rfl rfl (by omega) (by omega) rfl rfl (aP isAgg21 rfl (aD (hS.at_ 1 rfl) (gU (by omega))) rfl (aB rfl rfl (aK (XF.thenN (aH (regS (ef:=13) (jy:=10) (ca:=rC (fun _=>[])) (ta:=fun _=>0) (Os:=osY _ 1 (0+(pto P s) * 1) Ab (i32 P.al) 21) (Gs:=wM _) (al:=[]) (k:=14) (ds:=[61]) cA rfl hS rfl (by kernel_rfl) (by kernel_rfl) rfl (by decide) rfl some (.inl ⟨rfl,rfl⟩) rfl rfl (bD 1 rfl rfl (isV _) (fun hNo=>sgV [(0,_)] rfl rfl rfl rfl hNo (aL rfl) ⟨cD rfl,trivial⟩ (fun ev w he hw=>aV rfl) (aG rfl)) (bD 2 rfl rfl (isV _) (fun hNo=>sgV [(48,_)] rfl rfl rfl rfl hNo (aL rfl) ⟨aJ 0 (aC rfl rfl rfl),trivial⟩ (fun ev w he hw=>bP rfl) (aG rfl)) (bD 3 rfl rfl (isV _) (fun hNo=>sgV [(49,_)] rfl rfl rfl rfl hNo (aL rfl) ⟨aJ 1 (aC rfl rfl rfl),trivial⟩ (fun ev w he hw=>bA (o':=0) kE rfl rfl) (aG rfl)) (bD 4 rfl rfl (isV _) (fun hNo=>sgV [(50,_)] rfl rfl rfl rfl hNo (aL rfl) ⟨aJ 2 (aC rfl rfl rfl),trivial⟩ (fun ev w he hw=>aY isAgg59 rfl ((aD (hw.at_ 0 (oG (i:=0) (j:=1) rfl rfl)) rfl))) (aG rfl)) (bD 5 rfl rfl (isV _) (fun hNo=>sgV [(7,_)] rfl rfl rfl rfl hNo (aL rfl) ⟨cD rfl,trivial⟩ (fun ev w he hw=>aV rfl) (aG rfl)) (bD 6 rfl rfl (isV _) (fun hNo=>sgV [(0,_)] rfl rfl rfl rfl hNo (aL rfl) ⟨cD rfl,trivial⟩ (fun ev w he hw=>aV rfl) (aG rfl)) (bD 7 rfl rfl (isV _) (fun hNo=>sgV [(53,_)] rfl rfl rfl rfl hNo (aL rfl) ⟨aJ 5 (aC rfl rfl rfl),trivial⟩ (fun ev w he hw=>bP rfl) (aG rfl)) (bD 8 rfl rfl (isV _) (fun hNo=>sgV [(54,_)] rfl rfl rfl rfl hNo (aL rfl) ⟨aJ 6 (aC rfl rfl rfl),trivial⟩ (fun ev w he hw=>bA (o':=0) kE rfl rfl) (aG rfl)) (bD 9 rfl rfl (isV _) (fun hNo=>sgV [(55,_)] rfl rfl rfl rfl hNo (aL rfl) ⟨aJ 7 (aC rfl rfl rfl),trivial⟩ (fun ev w he hw=>aY isAgg59 rfl ((aD (hw.at_ 0 (oG (i:=0) (j:=1) rfl rfl)) rfl))) (aG rfl)) (bD 10 rfl rfl (isV _) (fun hNo=>sgV [(6,_)] rfl rfl rfl rfl hNo (aL rfl) ⟨cD rfl,trivial⟩ (fun ev w he hw=>aV rfl) (aG rfl)) (bD 11 rfl rfl (isV _) (fun hNo=>sgV [(1,_)] rfl rfl rfl rfl hNo (aL rfl) ⟨cD rfl,trivial⟩ (fun ev w he hw=>aV rfl) (aG rfl)) (bD 12 rfl rfl (isV _) (fun hNo=>sgV [(8,_)] rfl rfl rfl rfl hNo (aL rfl) ⟨cD rfl,trivial⟩ (fun ev w he hw=>aV rfl) (aG rfl)) (bD 13 rfl rfl (isV _) (fun hNo=>sgV [(51,_),(52,_)] rfl rfl rfl rfl hNo (aL rfl) ⟨aJ 3 (aC rfl rfl rfl),aJ 4 (aC rfl rfl rfl),trivial⟩ (fun ev w he hw=>bE (j:=pto P s) underlying59 sizeOf21 rfl rfl (by omega) (by omega) rfl) (aG rfl)) ?_))))))))))))))))))))))))))))
  refine sK 14 rfl (sU (py:=isV _) (m:=1) 1 (0+(pto P s) * 1) [(60,_)] rfl rfl rfl rfl (by kernel_rfl) rfl rfl (fun j hj=>by rcases hj with h | rfl<;>first | (cases h<;>rfl) | rfl) ⟨aJ 12 (aC rfl rfl rfl),trivial⟩ rfl rfl sizeOf21 (fun v w e=>⟨[v],by rw [show v=_ from e];rfl,rfl,by rw [show v=_ from e];rfl⟩) (Nat.ble_eq_true_of_le (by rw [cB];show _+1≤_;omega))) ?_
  refine nC ?_
  intro Bf2 y2 W2 Ks2 hsz2 hKs2 hS' hcov2
  clear hS;have hS:=hS'.castO (O':=(_::_::_::_::_::_::_::Ot)) rfl;clear hS'
  refine nF (L':=[AwS _ _ (isV _),AwS _ _ (isV _),AwS _ _ (isV _),AwS _ _ (isV _),AwS _ _ (isV _),AwS _ _ (isV _),AwS _ _ (isV _),AwS _ _ (isV _),AwS _ _ (isV _),AwS _ _ (isV _),(fun v0_ w0_=>v0_=_∧AwS _ _ (isV _) v0_ w0_),AwS _ _ (isV _),AwS _ _ (isV _),isV _]) rfl (bB (bB (bB (bB (bB (bB (bB (bB (bB (bB ?_))))))))))
  refine eO ?_;rintro _ ⟨rfl,hA2⟩;have hA2:=hA2.here;cases hA2
  refine bB (bB (pV ?_))
  have hS:=hS.castO (O':=(_::(Ab,i32 (P.al.set (pto P s) s),_)::_::_::_::_::_::Ot)) (by show (_::(Ab,fR _ _ [_],_)::_)=_;rw [mN rfl])
  refine cN (aX (j:=gN P.pl s) underlying59 sizeOf21 rfl rfl (rfl) (by omega) rfl rfl ?_)
  refine bL (i:=1) (cs':=i32 ((P.al.set (pto P s) s).set (gN P.pl s) (gN P.al (pto P s)))) (O':=(_::_::_::_::_::_::_::Ot)) hS sizeOf21 rfl rfl rfl rfl (Nat.ble_eq_true_of_le (by rw [cB,List.length_set];omega)) (fY rfl) rfl fun W62 hS=>?_
  refine aK (XF.thenN (aH (regS (ef:=13) (jy:=10) (ca:=rC (fun _=>[])) (ta:=fun _=>0) (Os:=osY _ 2 (0+(s) * 1) Lb (i32 P.pl) 21) (Gs:=wM _) (al:=[]) (k:=14) (ds:=[75]) cA rfl hS rfl (by kernel_rfl) (by kernel_rfl) rfl (by decide) rfl some (.inl ⟨rfl,rfl⟩) rfl rfl (bD 1 rfl rfl (isV _) (fun hNo=>sgV [(0,_)] rfl rfl rfl rfl hNo (aL rfl) ⟨cD rfl,trivial⟩ (fun ev w he hw=>aV rfl) (aG rfl)) (bD 2 rfl rfl (isV _) (fun hNo=>sgV [(62,_)] rfl rfl rfl rfl hNo (aL rfl) ⟨aJ 0 (aC rfl rfl rfl),trivial⟩ (fun ev w he hw=>bP rfl) (aG rfl)) (bD 3 rfl rfl (isV _) (fun hNo=>sgV [(63,_)] rfl rfl rfl rfl hNo (aL rfl) ⟨aJ 1 (aC rfl rfl rfl),trivial⟩ (fun ev w he hw=>bA (o':=1) pC rfl rfl) (aG rfl)) (bD 4 rfl rfl (isV _) (fun hNo=>sgV [(64,_)] rfl rfl rfl rfl hNo (aL rfl) ⟨aJ 2 (aC rfl rfl rfl),trivial⟩ (fun ev w he hw=>aY isAgg59 rfl ((aD (hw.at_ 0 (oG (i:=0) (j:=2) rfl rfl)) rfl))) (aG rfl)) (bD 5 rfl rfl (isV _) (fun hNo=>sgV [(1,_)] rfl rfl rfl rfl hNo (aL rfl) ⟨cD rfl,trivial⟩ (fun ev w he hw=>aV rfl) (aG rfl)) (bD 6 rfl rfl (isV _) (fun hNo=>sgV [(0,_)] rfl rfl rfl rfl hNo (aL rfl) ⟨cD rfl,trivial⟩ (fun ev w he hw=>aV rfl) (aG rfl)) (bD 7 rfl rfl (isV _) (fun hNo=>sgV [(67,_)] rfl rfl rfl rfl hNo (aL rfl) ⟨aJ 5 (aC rfl rfl rfl),trivial⟩ (fun ev w he hw=>bP rfl) (aG rfl)) (bD 8 rfl rfl (isV _) (fun hNo=>sgV [(68,_)] rfl rfl rfl rfl hNo (aL rfl) ⟨aJ 6 (aC rfl rfl rfl),trivial⟩ (fun ev w he hw=>bA (o':=1) pC rfl rfl) (aG rfl)) (bD 9 rfl rfl (isV _) (fun hNo=>sgV [(69,_)] rfl rfl rfl rfl hNo (aL rfl) ⟨aJ 7 (aC rfl rfl rfl),trivial⟩ (fun ev w he hw=>aY isAgg59 rfl ((aD (hw.at_ 0 (oG (i:=0) (j:=2) rfl rfl)) rfl))) (aG rfl)) (bD 10 rfl rfl (isV _) (fun hNo=>sgV [(8,_)] rfl rfl rfl rfl hNo (aL rfl) ⟨cD rfl,trivial⟩ (fun ev w he hw=>aV rfl) (aG rfl)) (bD 11 rfl rfl (isV _) (fun hNo=>sgV [(7,_)] rfl rfl rfl rfl hNo (aL rfl) ⟨cD rfl,trivial⟩ (fun ev w he hw=>aV rfl) (aG rfl)) (bD 12 rfl rfl (isV _) (fun hNo=>sgV [(6,_)] rfl rfl rfl rfl hNo (aL rfl) ⟨cD rfl,trivial⟩ (fun ev w he hw=>aV rfl) (aG rfl)) (bD 13 rfl rfl (isV _) (fun hNo=>sgV [(65,_),(66,_)] rfl rfl rfl rfl hNo (aL rfl) ⟨aJ 3 (aC rfl rfl rfl),aJ 4 (aC rfl rfl rfl),trivial⟩ (fun ev w he hw=>bE (j:=s) underlying59 sizeOf21 rfl rfl (rfl) (by omega) rfl) (aG rfl)) ?_))))))))))))))))
  refine sK 14 rfl (sU (py:=isV _) (m:=1) 2 (0+(s) * 1) [(74,_)] rfl rfl rfl rfl (by kernel_rfl) rfl rfl (fun j hj=>by rcases hj with h | rfl<;>first | (cases h<;>rfl) | rfl) ⟨aJ 12 (aC rfl rfl rfl),trivial⟩ rfl rfl sizeOf21 (fun v w e=>⟨[v],by rw [show v=_ from e];rfl,rfl,by rw [show v=_ from e];rfl⟩) (Nat.ble_eq_true_of_le (by rw [cB];show _+1≤_;omega))) ?_
  refine nC ?_
  intro Bf3 y3 W3 Ks3 hsz3 hKs3 hS' hcov3
  clear hS;have hS:=hS'.castO (O':=(_::_::_::_::_::_::_::Ot)) rfl;clear hS'
  refine nF (L':=[AwS _ _ (isV _),AwS _ _ (isV _),AwS _ _ (isV _),AwS _ _ (isV _),AwS _ _ (isV _),AwS _ _ (isV _),AwS _ _ (isV _),AwS _ _ (isV _),AwS _ _ (isV _),AwS _ _ (isV _),(fun v0_ w0_=>v0_=_∧AwS _ _ (isV _) v0_ w0_),AwS _ _ (isV _),AwS _ _ (isV _),isV _]) rfl (bB (bB (bB (bB (bB (bB (bB (bB (bB (bB ?_))))))))))
  refine eO ?_;rintro _ ⟨rfl,hA3⟩;have hA3:=hA3.here;cases hA3
  refine bB (bB (pV ?_))
  have hS:=hS.castO (O':=(_::_::(Lb,i32 (P.pl.set s (pto P s)),_)::_::_::_::_::Ot)) (by show (_::_::(Lb,fR _ _ [_],_)::_)=_;rw [mN (v:=pto P s) (by omega)])
  refine cN (aX (j:=gN P.al (pto P s)) underlying59 sizeOf21 rfl rfl (rfl) (by omega) rfl rfl ?_)
  refine bL (i:=2) (cs':=i32 ((P.pl.set s (pto P s)).set (gN P.al (pto P s)) (gN P.pl s))) (O':=(_::_::_::_::_::_::_::Ot)) hS sizeOf21 rfl rfl rfl rfl (Nat.ble_eq_true_of_le (by rw [cB,List.length_set];omega)) (fY rfl) rfl fun W72 hS=>?_
  refine aK (XF.thenN (aH (aN (aA rfl rfl (bM rfl rfl (aU (o':=5) gV rfl rfl rfl (aP isAgg59 rfl (aD (hS.at_ 0 rfl) rfl) rfl (aA rfl rfl (aX (j:=gN P.bk s) underlying59 sizeOf21 rfl rfl (rfl) (by omega) rfl rfl (aP isAgg21 rfl (aD (hS.at_ 6 rfl) (fP (by omega))) rfl (bY rfl rfl (IntWalk.i32_in _ (by omega)) rfl (aX (j:=gN P.bk s) underlying59 sizeOf21 rfl rfl (rfl) (by omega) rfl rfl ?_))))))))))))
  refine bL (i:=6) (cs':=i32 (P.mr.set (gN P.bk s) (gN P.mr (gN P.bk s)+1))++e3) (O':=(_::_::_::_::_::_::_::Ot)) hS sizeOf21 rfl rfl rfl rfl (Nat.ble_eq_true_of_le (by rw [List.length_append,cB];omega)) (kX (by omega) (by omega)) rfl fun W81 hS=>?_
  refine aK (XF.thenN (aH (aN (aA rfl rfl (bM rfl rfl (aU (o':=5) gV rfl rfl rfl (aP isAgg59 rfl (aD (hS.at_ 0 rfl) rfl) rfl (aA rfl rfl (aX (j:=gN P.bk s) underlying59 sizeOf21 rfl rfl (rfl) (by omega) rfl rfl ?_)))))))))
  refine aP isAgg21 rfl (aD (hS.at_ 6 rfl) (fP (by rw [List.length_set];omega))) rfl ?_
  refine fD rfl rfl rfl (aB rfl rfl (aK (XF.thenN (cK (XF.res (cZ results61 rfl) ?_)))))
  have h9:gN (P.mr.set (gN P.bk s) (gN P.mr (gN P.bk s)+1)) (gN P.bk s)=gN P.mr (gN P.bk s)+1:=by rw [kD (by omega),if_pos rfl]
  exact ⟨congrArg Ending.returned (congrArg Value.bool (decide_eq_decide.2 (by omega))),hS.keep K (fun q hq=>by simp [hq])⟩
end
end Go.Proofs.Ytghmbejblbnjjaa
