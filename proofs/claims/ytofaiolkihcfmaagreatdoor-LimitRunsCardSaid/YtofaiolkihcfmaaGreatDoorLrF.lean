import Derived.WideKeyEntry
import Derived.DeepKeys4
import Derived.Lib.AppendZeros
import Derived.Lib.ItoaLen
import Derived.Lib.UnsafeStr
import Derived.Lib.AppendIntMem
import Derived.Deep.Slices
import Derived.Deep.Fields
import Derived.ChangeSame
import Derived.Lib.SmallJoins
import Derived.ChangeSlices
import Derived.ProofKit
import Derived.Test.YtofaiolkihcfmaaGreatDoorLrE
set_option maxRecDepth 100000
set_option maxHeartbeats 4000000
set_option linter.unusedVariables false
set_option linter.unusedSimpArgs false
set_option linter.unusedSectionVars false
set_option linter.unnecessarySimpa false
namespace Go.Proofs.YtofaiolkihcfmaaGreatDoor
open Go.Proofs.Tryz
section
open Go.RowKit
open Go.WideMaps (KeyLaw)
open Go.ChangeMaps (setBlock)
section
variable {α:Type} {P:Program} {K E S T:TypeId} {κ:α→Value} {W:World} {lo b:Nat} {f:α→List Value}
structure GrpE (P:Program) (K E:TypeId) (κ:α→Value) (lo:Nat) (f:α→List Value) (W:World) (es:Array MapEntry) (clock:Nat):Prop where
 born:∀ x∈es.toList,x.born < clock
 nodup:(es.toList.map (·.born)).Nodup
 keys:es.toList.Pairwise (fun x y=>x.key≠y.key)
 is:∀ x∈es.toList,∃ k,x.key=κ k∧(∃ l,keyOf P K (κ k)=some l)∧W.ownsRow lo E 1 x.val (f k).length (f k)
 all:∀ k,f k≠[]→∃ x∈es.toList,x.key=κ k
 apart:∀ x∈es.toList,∀ y∈es.toList,x.key≠y.key→Value.apart x.val y.val
def Grp (P:Program) (K E:TypeId) (κ:α→Value) (lo:Nat) (f:α→List Value) (b:Nat) (W:World):Prop :=
 ∃ es clock,W.heap[b]?=some (.map es clock)∧GrpE P K E κ lo f W es clock
theorem Gk {l:List MapEntry} (h:l.Pairwise (fun x y=>x.key≠y.key)) {x y:MapEntry} (hx:x∈l) (hy:y∈l) (e:x.key=y.key):x=y:=by
 induction h with
 | nil=>cases hx
 | cons a _ ih =>
  rcases List.mem_cons.1 hx with hx1 | hx1
  ·rcases List.mem_cons.1 hy with hy1 | hy1
   ·rw [hx1,hy1]
   ·subst hx1;exact absurd e (a _ hy1)
  ·rcases List.mem_cons.1 hy with hy1 | hy1
   ·subst hy1;exact absurd e.symm (a _ hx1)
   ·exact ih hx1 hy1
theorem GrpE.valid {es:Array MapEntry} {clock:Nat} (h:GrpE P K E κ lo f W es clock):∀ e∈es.toList,∃ l,keyOf P K e.key=some l:=fun e he=>by
 obtain ⟨k,h1,h2,_⟩:=h.is e he
 rw [h1];exact h2
theorem GrpE.nil_of {es:Array MapEntry} {clock:Nat} (h:GrpE P K E κ lo f W es clock) {k:α} (hn:∀ x∈es.toList,x.key≠κ k):f k=[] :=
 Decidable.byContradiction fun hne=>by
  obtain ⟨x,hx,hk⟩:=h.all k hne
  exact hn x hx hk
theorem GrpE.at_ {es:Array MapEntry} {clock:Nat} (h:GrpE P K E κ lo f W es clock) (hinj:∀ x y,κ x=κ y→x=y) {x:MapEntry} {k:α} (hx:x∈es.toList) (hk:x.key=κ k):W.ownsRow lo E 1 x.val (f k).length (f k):=by
 obtain ⟨k2,h1,_,h2⟩:=h.is x hx
 obtain rfl:=hinj _ _ (h1.symm.trans hk)
 exact h2
theorem pO {w:World} {base n p:Nat} {e:TypeId} {size:Nat} {v:Value} {xs:List Value} (h:w.ownsRow base e size v n xs) {es:Array MapEntry} {clock:Nat} (hb:w.heap[b]?=some (.map es clock)) (hp:v.ownBlock=some p):p≠b:=by
 rcases h.2 with ⟨rfl,_⟩ | ⟨g,cap,cur,rfl,_,h4,_⟩
 ·cases hp
 ·intro e1
  have:g=p:=Option.some.inj hp
  rw [this,e1,hb] at h4;cases h4
theorem Grp.same {W':World} (h:Grp P K E κ lo f b W) (hb:b < W.heap.size→W'.heap[b]?=W.heap[b]?) (hs:∀ p,lo≤p→p < W.heap.size→W'.heap[p]?=W.heap[p]?):Grp P K E κ lo f b W':=by
 obtain ⟨es,clock,h1,h2⟩:=h
 refine ⟨es,clock,(hb (cQ h1)).trans h1,⟨h2.born,h2.nodup,h2.keys,fun x hx=>?_,h2.all,h2.apart⟩⟩
 obtain ⟨k,h3,h4,h5⟩:=h2.is x hx
 exact ⟨k,h3,h4,eJ h5 fun p hp=>hs p (h5.lt p hp).1 (h5.lt p hp).2⟩
theorem Grp.lower {lo':Nat} (h:Grp P K E κ lo f b W) (hl:lo'≤lo):Grp P K E κ lo' f b W:=by
 obtain ⟨es,clock,h1,h2⟩:=h
 refine ⟨es,clock,h1,⟨h2.born,h2.nodup,h2.keys,fun x hx=>?_,h2.all,h2.apart⟩⟩
 obtain ⟨k,h3,h4,h5,h6⟩:=h2.is x hx
 refine ⟨k,h3,h4,h5,?_⟩
 rcases h6 with h6 | ⟨g,cap,cur,h6,h7,h8⟩
 ·exact .inl h6
 ·exact .inr ⟨g,cap,cur,h6,Nat.le_trans hl h7,h8⟩
theorem Grp.fresh (lo:Nat) (hb:W.heap[b]?=some (.map #[] 0)):Grp P K E κ lo (fun _=>[]) b W :=
 ⟨#[],0,hb,⟨by simp,by simp,by simp,by simp,fun k h=>absurd rfl h,by simp⟩⟩
theorem Grp.look (h:Grp P K E κ lo f b W) (L:KeyLaw P K) (ht:P.underlying T=some (.map K S)) (hz:∀ w,(zeroValue S).run P w = .ok (.slice none 0 0) w) {k:α} (hk:∃ l,keyOf P K (κ k)=some l) (hinj:∀ x y,κ x=κ y→x=y) :
  ∃ v,(∀ W',W'.heap[b]?=W.heap[b]?→(Instr.lookup T (.map (some b)) (κ k) false).run P W' = .ok v W')∧W.ownsRow lo E 1 v (f k).length (f k):=by
 obtain ⟨es,clock,hb,hE⟩:=h
 obtain ⟨l,hl⟩:=hk
 by_cases hx:∃ x∈es.toList,x.key=κ k
 ·obtain ⟨x,hx,hxk⟩:=hx
  refine ⟨x.val,fun W' hW'=>?_,hE.at_ hinj hx hxk⟩
  rcases L.find W' hl es.toList hE.valid with ⟨_,h2⟩ | ⟨j,e0,h1,h2,h3⟩
  ·exact absurd hxk (h2 x hx)
  ·obtain rfl:e0=x:=Gk hE.keys (List.mem_of_getElem? h2) hx (h3.trans hxk.symm)
   simp [Instr.lookup,run_underlying ht,MapKept.run_getObj_map (hW'.trans hb),L.check W' _ hl,h1,Result.andThen]
 ·have hn:∀ x∈es.toList,x.key≠κ k:=fun x h1 h2=>hx ⟨x,h1,h2⟩
  refine ⟨.slice none 0 0,fun W' hW'=>?_,?_⟩
  ·rcases L.find W' hl es.toList hE.valid with ⟨h1,_⟩ | ⟨j,e0,_,h2,h3⟩
   ·simp [Instr.lookup,run_underlying ht,MapKept.run_getObj_map (hW'.trans hb),L.check W' _ hl,h1,hz,Result.andThen]
   ·exact absurd ⟨e0,List.mem_of_getElem? h2,h3⟩ hx
  ·rw [hE.nil_of hn];exact World.ownsRow_nil _ _ _ _
theorem mL {w:World} {o o':Obj} (hb:w.heap[b]?=some o):(setBlock w b o').heap[b]?=some o':=(MapKept.heap_set hb).1
theorem eT {w:World} {o o':Obj} (hb:w.heap[b]?=some o) {p:Nat} (hp:p≠b):(setBlock w b o').heap[p]?=w.heap[p]?:=(MapKept.heap_set hb).2 p hp
theorem jK {w:World} {o o':Obj} (hb:w.heap[b]?=some o):w.grownBy (setBlock w b o') (some b) :=
 ⟨rfl,rfl,rfl,by simp [setBlock],fun k _ hk=>eT hb (fun e=>hk (by rw [e]))⟩
theorem yL {es:Array MapEntry} {j:Nat} {e0 x:MapEntry} {g:MapEntry→MapEntry} (hj:es.toList[j]?=some e0) (hx:x∈(es.modify j g).toList):x=g e0∨∃ i,i≠j∧es.toList[i]?=some x:=by
 obtain ⟨i,hi⟩:=List.getElem?_of_mem hx
 rw [Array.toList_modify,List.getElem?_modify] at hi
 by_cases hij:j=i
 ·subst hij
  rw [hj] at hi
  simp at hi
  exact .inl hi.symm
 ·refine .inr ⟨i,fun e=>hij e.symm,?_⟩
  simpa [hij] using hi
theorem yM {es:Array MapEntry} {j i:Nat} {x:MapEntry} {g:MapEntry→MapEntry} (hx:es.toList[i]?=some x):(if j=i then g x else x)∈(es.modify j g).toList:=by
 refine List.mem_of_getElem? (i:=i) ?_
 rw [Array.toList_modify,List.getElem?_modify,hx]
 by_cases hij:j=i<;>simp [hij]
theorem yN {β:Type} {es:Array MapEntry} {j:Nat} {g:MapEntry→MapEntry} {p:MapEntry→β} (h:∀ x,p (g x)=p x):(es.modify j g).toList.map p=es.toList.map p:=by
 apply List.ext_getElem?
 intro i
 rw [Array.toList_modify,List.getElem?_map,List.getElem?_map,List.getElem?_modify]
 cases es.toList[i]? with
 | none=>rfl
 | some x =>
  by_cases hij:j=i
  ·simp [hij,h]
  ·simp [hij]
theorem pw_map {β:Type} {r:β→β→Prop} {p:MapEntry→β} {l l':List MapEntry} (h:l.Pairwise (fun x y=>r (p x) (p y))) (e:l'.map p=l.map p):l'.Pairwise (fun x y=>r (p x) (p y)):=by
 rw [← List.pairwise_map] at h ⊢
 rw [e];exact h
theorem Grp.entry [DecidableEq α] (h:Grp P K E κ lo f b W) (L:KeyLaw P K) (ht:P.underlying T=some (.map K S)) (hz:∀ w,(zeroValue S).run P w = .ok (.slice none 0 0) w) {k:α} (hk:∃ l,keyOf P K (κ k)=some l) (hinj:∀ x y,κ x=κ y→x=y) :
  ∃ v0 st W1,(Instr.mapEntry T (.map (some b)) (κ k)).run P W = .ok (.tuple #[v0,st]) W1∧W.grownBy W1 (some b)∧W1.heap.size=W.heap.size∧W1.ownsRow lo E 1 v0 (f k).length (f k)∧(∀ p,v0.ownBlock=some p→p≠b) ∧
   ∀ W2 v' zs,W1.grownBy W2 v0.ownBlock→W2.ownsRow lo E 1 v' zs.length zs→(v'.ownBlock=v0.ownBlock∨v'.ownBlock=some W1.heap.size)→∃ W3,(Instr.entryStore T (.map (some b)) st v').run P W2 = .ok () W3∧W2.grownBy W3 (some b)∧Grp P K E κ lo (fun x=>if x=k then zs else f x) b W3:=by
 obtain ⟨es,clock,hb,hE⟩:=h
 obtain ⟨l,hl⟩:=hk
 have hold:∀ x∈es.toList,∀ p,x.val.ownBlock=some p→p < W.heap.size∧p≠b:=fun x hx p hp=>by
  obtain ⟨k2,_,_,h2⟩:=hE.is x hx
  exact ⟨(h2.lt p hp).2,pO h2 hb hp⟩
 rcases L.find W hl es.toList hE.valid with ⟨h1,h2⟩ | ⟨j,e0,h1,h2,h3⟩
 ·have hnil:=hE.nil_of h2
  refine ⟨.slice none 0 0,goInt clock,setBlock W b (.map (es.push ⟨κ k,.slice none 0 0,clock⟩) (clock+1)),?_,jK hb,by simp [setBlock],by rw [hnil];exact World.ownsRow_nil _ _ _ _,(fun p hp=>by cases hp),fun W2 v' zs hg hr hv=>?_⟩
  ·simp [Instr.mapEntry,run_underlying ht,MapKept.run_getObj_map hb,L.check W _ hl,h1,hz,MapKept.run_setObj_map _ hb,setBlock,Result.andThen]
  ·have hb1:=mL (o':=.map (es.push ⟨κ k,.slice none 0 0,clock⟩) (clock+1)) hb
   have hb2:W2.heap[b]?=some (.map (es.push ⟨κ k,.slice none 0 0,clock⟩) (clock+1)):=(hg.block b (cQ hb1) (fun e=>by cases e)).trans hb1
   have hsz:(setBlock W b (.map (es.push ⟨κ k,.slice none 0 0,clock⟩) (clock+1))).heap.size=W.heap.size:=by simp [setBlock]
   have hidx:(es.push ⟨κ k,.slice none 0 0,clock⟩).findIdx? (fun e=>((e.born:Nat):Int) == ((clock:Nat):Int))=some es.size:=by
    rw [WideElems.findIdx_arr]
    refine WideElems.findIdx_born (e0:=⟨κ k,.slice none 0 0,clock⟩) ?_ (by simp)
    rw [Array.toList_push,List.map_append,List.nodup_append]
    refine ⟨hE.nodup,by simp,fun a ha c hc e1=>?_⟩
    obtain ⟨x,hx,rfl⟩:=List.mem_map.1 ha
    have:=hE.born x hx
    simp at hc;omega
   have hmod:(es.push ⟨κ k,.slice none 0 0,clock⟩).modify es.size (fun e=>{ e with val:=v' })=es.push ⟨κ k,v',clock⟩:=by
    apply Array.ext'
    rw [Array.toList_modify,Array.toList_push,Array.toList_push,← Array.length_toList,WideElems.modify_last]
   refine ⟨setBlock W2 b (.map (es.push ⟨κ k,v',clock⟩) (clock+1)),?_,jK hb2,⟨_,_,mL hb2,?_⟩⟩
   ·simp [Instr.entryStore,MapKept.run_getObj_map hb2,asInt,asIntOf,goInt,hidx,hmod,MapKept.run_setObj_map _ hb2,setBlock,Result.andThen]
   ·have hmem:∀ x,x∈(es.push ⟨κ k,v',clock⟩).toList↔x∈es.toList∨x=⟨κ k,v',clock⟩:=fun x=>by simp
    have hrow:∀ x∈es.toList,∀ p,x.val.ownBlock=some p→(setBlock W2 b (.map (es.push ⟨κ k,v',clock⟩) (clock+1))).heap[p]?=W.heap[p]?:=fun x hx p hp=>by
     obtain ⟨p1,p2⟩:=hold x hx p hp
     rw [eT hb2 p2,hg.block p (by rw [hsz];exact p1) (fun e=>by cases e),eT hb p2]
    refine ⟨fun x hx=>?_,?_,?_,fun x hx=>?_,fun k2 hk2=>?_,fun x hx y hy hne=>?_⟩
    ·rcases (hmem x).1 hx with hx | rfl
     ·have:=hE.born x hx;omega
     ·exact Nat.lt_succ_self _
    ·rw [Array.toList_push,List.map_append,List.nodup_append]
     refine ⟨hE.nodup,by simp,fun a ha c hc e1=>?_⟩
     obtain ⟨x,hx,rfl⟩:=List.mem_map.1 ha
     have:=hE.born x hx
     simp at hc;omega
    ·rw [Array.toList_push,List.pairwise_append]
     refine ⟨hE.keys,by simp,fun x hx y hy=>?_⟩
     simp at hy;subst hy;exact h2 x hx
    ·rcases (hmem x).1 hx with hx | rfl
     ·obtain ⟨k2,e1,e2,e3⟩:=hE.is x hx
      refine ⟨k2,e1,e2,?_⟩
      rw [if_neg (fun e=>h2 x hx (by rw [e1,e]))]
      exact eJ e3 (hrow x hx)
     ·refine ⟨k,rfl,⟨l,hl⟩,?_⟩
      rw [if_pos rfl]
      exact eJ hr fun p hp=>eT hb2 (pO hr hb2 hp)
    ·by_cases e:k2=k
     ·exact ⟨⟨κ k,v',clock⟩,(hmem _).2 (.inr rfl),by rw [e]⟩
     ·rw [if_neg e] at hk2
      obtain ⟨x,hx,hxk⟩:=hE.all k2 hk2
      exact ⟨x,(hmem x).2 (.inl hx),hxk⟩
    ·have hnew:∀ x∈es.toList,∀ p,x.val.ownBlock=some p→v'.ownBlock≠some p:=fun x hx p hp e=>by
      rcases hv with hv | hv
      ·rw [hv] at e;cases e
      ·rw [hv,hsz] at e
       have:=(hold x hx p hp).1
       have:=Option.some.inj e
       omega
     rcases (hmem x).1 hx with hx | rfl
     ·rcases (hmem y).1 hy with hy | rfl
      ·exact hE.apart x hx y hy hne
      ·exact fun p hp=>hnew x hx p hp
     ·rcases (hmem y).1 hy with hy | rfl
      ·exact fun p hp e=>hnew y hy p e hp
      ·exact absurd rfl hne
 ·have hm0:=List.mem_of_getElem? h2
  have hj:es[j]?=some e0:=by simpa using h2
  have hsame:es.modify j (fun e=>{ e with key:=κ k })=es:=by
   apply Array.ext'
   apply List.ext_getElem?
   intro i
   rw [Array.toList_modify,List.getElem?_modify]
   by_cases hij:j=i
   ·subst hij
    rw [h2]
    simp [← h3]
   ·simp [hij]
  refine ⟨e0.val,goInt e0.born,setBlock W b (.map es clock),?_,jK hb,by simp [setBlock],?_,(fun p hp=>(hold e0 hm0 p hp).2),fun W2 v' zs hg hr hv=>?_⟩
  ·simp [Instr.mapEntry,run_underlying ht,MapKept.run_getObj_map hb,L.check W _ hl,h1,hj,h3,L.stays W hl,hsame,MapKept.run_setObj_map _ hb,setBlock,Result.andThen]
  ·exact eJ (hE.at_ hinj hm0 h3) fun p hp=>eT hb (hold e0 hm0 p hp).2
  ·have hb1:=mL (o':=.map es clock) hb
   have hb2:W2.heap[b]?=some (.map es clock):=(hg.block b (cQ hb1) (fun e=>(hold e0 hm0 b e.symm).2 rfl)).trans hb1
   have hsz:(setBlock W b (.map es clock)).heap.size=W.heap.size:=by simp [setBlock]
   have hidx:es.findIdx? (fun e=>((e.born:Nat):Int) == ((e0.born:Nat):Int))=some j:=by
    rw [WideElems.findIdx_arr]
    exact WideElems.findIdx_born hE.nodup h2
   refine ⟨setBlock W2 b (.map (es.modify j fun e=>{ e with val:=v' }) clock),?_,jK hb2,⟨_,_,mL hb2,?_⟩⟩
   ·simp [Instr.entryStore,MapKept.run_getObj_map hb2,asInt,asIntOf,goInt,hidx,MapKept.run_setObj_map _ hb2,setBlock,Result.andThen]
   ·have hrow:∀ x∈es.toList,x.key≠κ k→∀ p,x.val.ownBlock=some p→(setBlock W2 b (.map (es.modify j fun e=>{ e with val:=v' }) clock)).heap[p]?=W.heap[p]?:=fun x hx hne p hp=>by
     obtain ⟨p1,p2⟩:=hold x hx p hp
     rw [eT hb2 p2,hg.block p (by rw [hsz];exact p1) (fun e=>hE.apart x hx e0 hm0 (by rw [h3];exact hne) p hp e.symm),eT hb p2]
    have hcs:∀ x∈(es.modify j fun e=>{ e with val:=v' }).toList,(x.key=κ k∧x.val=v')∨(x∈es.toList∧x.key≠κ k):=fun x hx=>by
     rcases yL h2 hx with rfl | ⟨i,hij,hi⟩
     ·exact .inl ⟨h3,rfl⟩
     ·refine .inr ⟨List.mem_of_getElem? hi,fun e=>hij ?_⟩
      have hx0:=Gk hE.keys (List.mem_of_getElem? hi) hm0 (e.trans h3.symm)
      subst hx0
      have hbn:=hE.nodup
      obtain ⟨a1,a2⟩:=List.getElem?_eq_some_iff.1 hi
      obtain ⟨c1,c2⟩:=List.getElem?_eq_some_iff.1 h2
      exact (List.getElem_inj (i:=i) (j:=j) (h₀:=by rw [List.length_map];exact a1) (h₁:=by rw [List.length_map];exact c1) hbn).1 (by rw [List.getElem_map,List.getElem_map,a2,c2])
    refine ⟨fun x hx=>?_,?_,?_,fun x hx=>?_,fun k2 hk2=>?_,fun x hx y hy hne=>?_⟩
    ·rcases yL h2 hx with rfl | ⟨i,_,hi⟩
     ·exact hE.born e0 hm0
     ·exact hE.born x (List.mem_of_getElem? hi)
    ·exact (yN (es:=es) (j:=j) (g:=fun e=>{ e with val:=v' }) (p:=fun x=>x.born) (fun _=>rfl))▸hE.nodup
    ·exact pw_map (p:=fun x=>x.key) (r:=fun x y=>x≠y) hE.keys (yN (es:=es) (j:=j) (g:=fun e=>{ e with val:=v' }) (p:=fun x=>x.key) (fun _=>rfl))
    ·rcases hcs x hx with ⟨e1,e2⟩ | ⟨e1,e2⟩
     ·refine ⟨k,e1,⟨l,hl⟩,?_⟩
      rw [if_pos rfl,e2]
      exact eJ hr fun p hp=>eT hb2 (pO hr hb2 hp)
     ·obtain ⟨k2,a1,a2,a3⟩:=hE.is x e1
      refine ⟨k2,a1,a2,?_⟩
      rw [if_neg (fun e=>e2 (by rw [a1,e]))]
      exact eJ a3 (hrow x e1 e2)
    ·by_cases e:k2=k
     ·refine ⟨_,yM h2,?_⟩
      rw [if_pos rfl,e];exact h3
     ·rw [if_neg e] at hk2
      obtain ⟨x,hx,hxk⟩:=hE.all k2 hk2
      obtain ⟨i,hi⟩:=List.getElem?_of_mem hx
      refine ⟨_,yM (j:=j) (g:=fun e=>{ e with val:=v' }) hi,?_⟩
      by_cases hij:j=i
      ·rw [if_pos hij];exact hxk
      ·rw [if_neg hij];exact hxk
    ·have hnew:∀ x∈es.toList,x.key≠κ k→∀ p,x.val.ownBlock=some p→v'.ownBlock≠some p:=fun x hx hne p hp e=>by
      rcases hv with hv | hv
      ·rw [hv] at e;exact hE.apart x hx e0 hm0 (by rw [h3];exact hne) p hp e
      ·rw [hv,hsz] at e
       have:=(hold x hx p hp).1
       have:=Option.some.inj e
       omega
     rcases hcs x hx with ⟨e1,e2⟩ | ⟨e1,e2⟩
     ·rcases hcs y hy with ⟨d1,d2⟩ | ⟨d1,d2⟩
      ·exact absurd (e1.trans d1.symm) hne
      ·exact fun p hp e=>hnew y d1 d2 p e (by rw [← e2];exact hp)
     ·rcases hcs y hy with ⟨d1,d2⟩ | ⟨d1,d2⟩
      ·exact fun p hp=>by rw [d2];exact hnew x e1 e2 p hp
      ·exact hE.apart x e1 y d1 hne
theorem St.foreign {w0 W':World} {O:Own} {row:Option Nat} (h:St w0 O [] [] W) (hg:W.grownBy W' row) (hb:∀ k,row=some k→w0.heap.size≤k∧∀ p∈O,p.1≠k):St w0 O [] [] W' where
 below:=h.below.grown hg h.below.size (fun k hk=>(hb k hk).1)
 own:=fun p hp=>by
  obtain ⟨h1,h2⟩:=h.own p hp
  exact ⟨h1,(hg.block _ (cQ h2) (fun e=>(hb _ e.symm).2 p hp rfl)).trans h2⟩
 dist:=h.dist
 kept:=fun q hq=>by cases hq
 rows:=fun g hg=>by cases hg
 gdist:=List.Pairwise.nil
variable {n:Nat} {ops:Array Oper} {Q:Exit→Act→World→Prop} {os:List Oper} {l:Fr} {w0:World} {O:Own} {G:cY} {Kk:List (Nat×World)} {d:Nat} {ty:TypeId} {pos:String} {aft:Array Edge}
theorem Iw (hS:St w0 O G Kk W) (hd:Nat.blt d n=true) (h:∀ B W',W'.heap[B]?=some (.map #[] 0)→W.heap.size≤B→St w0 O G ((W.heap.size,W')::Kk) W'→cX P n ops Q os ((d,.map (some B))::l) W'):cX P n ops Q (⟨some d,.makeMap T none,ty,pos,aft,none⟩::os) l W :=
 opV (W':=W.alloc (.map #[] 0)) (v:=.map (some W.heap.size)) (fun ev he=>by
  unfold execOp
  simp [Instr.makeMap,Result.andThen]) hd (h _ _ (heap_alloc_new W _) (Nat.le_refl _) (hS.call ((Below.refl _ _).alloc (Nat.le_refl _) _)))
theorem M7 {m x:Operand} {v u:Value} {w:World} {key:Value} (hm:evL l m=some u) (hx:evL l x=some key) (hr:(Instr.lookup T u key false).run P w = .ok v w):gF P l ⟨some d,.lookup T m x false,ty,pos,aft,none⟩ w v w:=fun ev he=>by
 unfold execOp;simp only [];rw [he m _ hm,he x _ hx]
 simp [hr,Result.andThen]
theorem Q4 {x:Operand} {t e:TypeId} {ad:Option Addr} {m c:Nat} (ht:P.underlying t=some (.slice e)) (hx:evL l x=some (.slice ad m c)):gF P l ⟨some d,.call { callee:=.builtin .cap,args:=#[x],argTypes:=#[t] },ty,pos,aft,none⟩ W (.int .i64 (c:Int)) W:=fun ev he=>by
 unfold execOp;simp [resolve,invoke,builtin,he x _ hx,Builtin.cap_,run_underlying ht,goInt]
theorem Q5 [DecidableEq α] {pos1 pos2 pos3 pos4 pos5:String} {ty1 ty2 ty3 ty4 ty5 t:TypeId} {af1 af2 af3 af4 af5:Array Edge} {d1 d2 d3 d4 B:Nat} {m kx y:Operand} {k:α} {u z:Value} {inf:TypeInfo} (hS:St w0 O [] [] W) (hM:Grp P K E κ lo f b W) (hO:∀ p∈O,p.1≠b∧p.1 < lo) (hwb:w0.heap.size≤b) (hwl:w0.heap.size≤lo) (hlo:lo≤W.heap.size)
  (L:KeyLaw P K) (ht:P.underlying T=some (.map K S)) (hz:∀ w,(zeroValue S).run P w = .ok (.slice none 0 0) w) (hk:∃ l,keyOf P K (κ k)=some l) (hinj:∀ x y,κ x=κ y→x=y)
  (hU:P.underlying t=some (.slice E)) (hinf:P.info? E=some inf) (hzi:inf.zero=some z) (hzs:z.cells.size=inf.size) (hsz:inf.size=1)
  (hm:evL l m=some (.map (some b))) (hkx:evL l kx=some (κ k)) (hy:evL l y=some (.slice (some ⟨B,0,none⟩) 1 1)) (hB:W.heap[B]?=some (.cells #[u] E (0,0))) (hu:u.oneCell'=true)
  (h63:(f k).length+1≤maxLen) (hbytes:((f k).length+1) * inf.bytes≤140737488355328)
  (hd1:Nat.blt d1 n=true) (hd2:Nat.blt d2 n=true) (hd3:Nat.blt d3 n=true) (hd4:Nat.blt d4 n=true)
  (hl1:∀ v1,evL ((d1,v1)::l) y=evL l y) (hl2:∀ v1 v2,evL ((d2,v2)::(d1,v1)::l) y=evL l y) (hl3:∀ v1 v2 v3,evL ((d3,v3)::(d2,v2)::(d1,v1)::l) (.tmp d1)=some v1) (hl4:∀ v1 v2 v3 v4,evL ((d4,v4)::(d3,v3)::(d2,v2)::(d1,v1)::l) m=evL l m∧evL ((d4,v4)::(d3,v3)::(d2,v2)::(d1,v1)::l) (.tmp d3)=some v3)
  (h:∀ v1 v2 v3 v4 W',St w0 O [] [] W'→Grp P K E κ lo (fun x=>if x=k then f k++[u] else f x) b W'→lo≤W'.heap.size→cX P n ops Q os ((d4,v4)::(d3,v3)::(d2,v2)::(d1,v1)::l) W') :
  cX P n ops Q (⟨some d1,.mapEntry T m kx,ty1,pos1,af1,none⟩::⟨some d2,.extract (.tmp d1) 0,ty2,pos2,af2,none⟩::⟨some d3,.call { callee:=.builtin .append,args:=#[.tmp d2,y],argTypes:=#[t,t] },ty3,pos3,af3,none⟩::⟨some d4,.extract (.tmp d1) 1,ty4,pos4,af4,none⟩::⟨none,.entryStore T m (.tmp d4) (.tmp d3),ty5,pos5,af5,none⟩::os) l W:=by
 obtain ⟨v0,st,W1,r1,g1,s1,o1,nb,back⟩:=hM.entry L ht hz hk hinj
 refine opV (W':=W1) (v:=.tuple #[v0,st]) (fun ev he=>by
  unfold execOp;simp only [];rw [he m _ hm,he kx _ hkx];simp [r1,Result.andThen]) hd1 ?_
 refine opV (W':=W1) (v:=v0) (gU (vs:=#[v0,st]) (by simp [evL,look]) rfl) hd2 ?_
 have hS1:=hS.foreign g1 (fun k hk=>by cases hk;exact ⟨hwb,fun p hp=>(hO p hp).1⟩)
 have hBb:B≠b:=fun e=>by
  obtain ⟨es,clock,hb,_⟩:=hM
  rw [e,hb] at hB;cases hB
 have hB1:W1.heap[B]?=some (.cells #[u] E (0,0)):=(g1.block B (cQ hB) (fun e=>hBb (Option.some.inj e))).trans hB
 rw [← hsz] at o1
 obtain ⟨v',W2,r2,o2,g2,e2⟩:=gV (P:=P) (w:=W1) lo t ty3 E inf z hU hinf hzi hzs (by omega) v0 _ _ o1 ⟨B,0,none⟩ 1 1 [u] (by simp [hsz]) (fun j x hj=>by
  rw [Addr.add_lit,Nat.zero_add]
  simp only [World.cell?,hB1]
  simpa using hj) (fun x hx=>by simp at hx;subst hx;exact hu) h63 hbytes (by omega)
 refine opV (W':=W2) (v:=v') (fun ev he=>?_) hd3 ?_
 ·have ex:=he (.tmp d2) v0 (by simp [evL,look])
  have ey:=he y _ ((hl2 _ _).trans hy)
  unfold execOp
  simp only [resolve,invoke,builtin,Sem.run_bind,Sem.run_pure,Result.andThen_ok,List.map_toArray,List.map_cons,List.map_nil,ex,ey,r2]
 have hS2:=hS1.foreign g2 (fun k hk=>⟨Nat.le_trans hwl (o1.lt k hk).1,fun p hp e=>by
  have:=(hO p hp).2
  have:=(o1.lt k hk).1
  omega⟩)
 refine opV (W':=W2) (v:=st) (gU (vs:=#[v0,st]) (hl3 _ _ _) rfl) hd4 ?_
 obtain ⟨W3,r3,g3,m3⟩:=back W2 v' (f k++[u]) g2 (by rw [← hsz,List.length_append];exact o2) e2
 have hS3:=hS2.foreign g3 (fun k hk=>by cases hk;exact ⟨hwb,fun p hp=>(hO p hp).1⟩)
 intro a ha
 refine wpList_plain rfl fun K' hK=>?_
 unfold Oper.wp execOp
 simp only []
 rw [ha.ev m _ ((hl4 _ _ _ _).1.trans hm),ha.ev (.tmp d4) st (by simp [evL,look]),ha.ev (.tmp d3) v' (hl4 _ _ _ _).2]
 simp only [Sem.run_bind,r3,Result.andThen_ok,Sem.run_pure,Oper.upon_skip]
 exact hK _ _ (h _ _ _ _ W3 hS3 m3 (by have a1:=g2.size;have a2:=g3.size;omega) _ ha)
theorem M8 {T e:TypeId} {x y:Operand} {kk:IntKind} {j:Int} {s:Nat} (hU:P.underlying T=some (.slice e)) (hs:∀ w,(sizeOf e).run P w = .ok s w) (hx:evL l x=some (.slice none 0 0)) (hy:evL l y=some (.int kk j)) (hj:j=0) (hd:Nat.blt d n=true)
  (h:cX P n ops Q os ((d,.slice none 0 0)::l) W):cX P n ops Q (⟨some d,.slice T x none (some y) none,ty,pos,aft,none⟩::os) l W :=
 opV (v:=.slice none 0 0) (fun ev he=>by
  subst hj
  unfold execOp;simp only [Option.map_some,Option.map_none];rw [he x _ hx,he y _ hy]
  simp [Instr.sliceAt,Instr.slice,Instr.sliceBounds,Instr.sliceBound,run_underlying hU,asIntOf,hs,Result.andThen]) hd h
theorem Ix {T e tn:TypeId} {inf:TypeInfo} {z:Value} {x y:Operand} {m:Nat} {i:Int} {kn:IntKind} (hS:St w0 O G Kk W) (hU:P.underlying T=some (.slice e)) (hUn:P.underlying tn=some (.int kn)) (hinf:P.info? e=some inf) (hz:inf.zero=some z) (hzs:z.cells.size=inf.size) (hsz:inf.size=1)
  (hx:evL l x=some (.slice none 0 0)) (hy:evL l y=some (.int .i64 i)) (hi:i=(m:Int)) (h0:0 < m) (h63:m≤maxLen) (hb:m * inf.bytes≤281474976710656) (hd:Nat.blt d n=true)
  (h:∀ B c xs W',xs.length=m→St w0 O (⟨.slice (some ⟨B,0,none⟩) m c,m,xs,e,1⟩::G) Kk W'→cX P n ops Q os ((d,.slice (some ⟨B,0,none⟩) m c)::l) W'):cX P n ops Q (⟨some d,.call { callee:=.builtin .append,args:=#[x,y],argTypes:=#[T,tn] },ty,pos,aft,none⟩::os) l W:=by
 subst hi
 have hr:=Lib.run_append_nil_zeros (P:=P) W T tn ty e inf z .i64 kn hU hUn hinf hz m h0 (by omega) (by simp only [maxLen] at h63;omega) hb
 have hge:=grownCap_ge W m 0 e
 have hle:=grownCap_le_maxLen W m 0 e h63
 obtain ⟨c,hc⟩:∃ c,c=grownCap W m 0 e:=⟨_,rfl⟩
 rw [← hc] at hr hge hle
 obtain ⟨cs,hcs⟩:∃ cs,cs=Builtin.zeroCells z.cells m++Builtin.zeroCells z.cells (c - m):=⟨_,rfl⟩
 rw [← hcs] at hr
 have hl:cs.size=c * 1:=by
  rw [hcs]
  simp [Builtin.zeroCells,hzs,hsz]
  omega
 refine opV (W':=W.drew.alloc (.cells cs e)) (v:=.slice (some ⟨W.heap.size,0,none⟩) m c) (fun ev he=>?_) hd (h W.heap.size c (cs.toList.take (m * 1)) _ (by rw [List.length_take,Array.length_toList];omega) ?_)
 ·unfold execOp
  simp only [resolve,invoke,builtin,Sem.run_bind,Sem.run_pure,Result.andThen_ok,List.map_toArray,List.map_cons,List.map_nil,he x _ hx,he y _ hy,hr]
 ·refine hS.adopt ((Below.refl _ _).drew.alloc (Nat.le_refl _) _) ⟨by rw [List.length_take,Array.length_toList];omega,.inr ⟨W.heap.size,c,cs,rfl,Nat.le_refl _,heap_alloc_new W.drew _,hge,hle,hl,rfl⟩⟩
theorem own_off {es:Array MapEntry} {clock:Nat} (hS:St w0 O G Kk W) (hb:W.heap[b]?=some (.map es clock)):∀ p∈O,p.1≠b∧p.1 < W.heap.size:=fun p hp=>by
 refine ⟨fun e=>?_,hS.own_lt p hp⟩
 have h1:=(hS.own p hp).2
 rw [e,hb] at h1
 cases h1
theorem Grp.lt (h:Grp P K E κ lo f b W):b < W.heap.size:=by
 obtain ⟨es,clock,h1,_⟩:=h
 exact cQ h1
def Gl (W:World) (b:Nat):World:={ W with heap:=W.heap.extract 0 (b+1) }
theorem qL (h:b < W.heap.size):(Gl W b).heap.size=b+1:=by simp [Gl];omega
theorem Dn (h:b < W.heap.size):b < (Gl W b).heap.size:=by rw [qL h];exact Nat.lt_succ_self _
theorem Do (h:b < W.heap.size):(Gl W b).heap[b]?=W.heap[b]?:=by
 rw [Array.getElem?_eq_getElem (Dn h),Array.getElem?_eq_getElem h]
 simp [Gl]
theorem St.markAt {b:Nat} (h:St w0 O [] Kk W) (hb:b < W.heap.size) (hO:∀ p∈O,p.1≠b):St w0 O [] ((b,Gl W b)::Kk) W where
 below:=h.below
 own:=h.own
 dist:=h.dist
 kept:=fun q hq=>by
  rcases List.mem_cons.1 hq with rfl | hq
  ·refine ⟨⟨by show (Gl W b).heap.size≤_;rw [qL hb];exact hb,fun x h1 h2=>?_⟩,fun p hp=>?_⟩
   ·have h3:x < b+1:=by rw [← qL hb];exact h2
    have h4:b≤x:=h1
    obtain rfl:x=b:=by omega
    exact (Do hb).symm
   ·have:=hO p hp
    show p.1 < b∨(Gl W b).heap.size≤p.1
    rw [qL hb];omega
  ·exact h.kept q hq
 rows:=fun g hg=>by cases hg
 gdist:=List.Pairwise.nil
end
end
section
open Go.RowKit
open Go.WideMaps (KeyLaw)
abbrev kv (k:Int×Int):Value:=.agg #[.int .i64 k.1,.int .i64 k.2]
theorem Q6 (x y:Int×Int) (h:kv x=kv y):x=y:=by
 obtain ⟨a,b⟩:=x
 obtain ⟨c,d⟩:=y
 simp at h
 rw [h.1,h.2]
theorem Q7:(116:TypeId) < prog.types.size:=of_decide_eq_true (by kernel_rfl)
theorem M9 {a b:Nat} (h:a < b):b=b - 1+1:=by omega
theorem topSize:prog.types.size=prog.types.size - 1+1:=M9 Q7
theorem topWide:(match prog.underlying 116 with | some (.array _ _) | some (.struct _)=>true | _=>false)=true:=by rw [underlying116]
theorem Q8:KeyLaw prog 116:=deep_law_laid (by kernel_rfl) (m:=2) (by omega) Q7 (by kernel_rfl) topWide
theorem Gm:prog.cellsOf 116=2:=by kernel_rfl
theorem Q9:prog.cellsOf 3=1:=by kernel_rfl
theorem Ra {p g:Int} (hp:(Lit.int .i64 p).wf=true) (hg:(Lit.int .i64 g).wf=true):∃ l,keyOf prog 116 (kv (p,g))=some l:=by
 have h1:prog.keyType 116=true:=by kernel_rfl
 have h2:(kv (p,g)).formed prog 116=true:=by simp [Value.formed,underlying116,Gm]
 have hi:∀ (d:Nat) (x:Int),(Lit.int .i64 x).wf=true→prog.keyLits (d+1) 3 [.int .i64 x]=some [.int .i64 x]:=fun d x hx=>by simp [Program.keyLits,underlying3,hx]
 obtain ⟨m,hm⟩:∃ m,prog.types.size=m+1:=⟨prog.types.size - 1,topSize⟩
 unfold keyOf
 rw [underlying116]
 simp only [h1,h2,Bool.and_self,if_true]
 rw [hm]
 simp [Program.keyLits,underlying116,Gm,Q9,hi m p hp,hi m g hg,Value.cells,hp,hg]
theorem tS {x:Int} (h0:0≤x) (h1:x≤1000000):(Lit.int .i64 x).wf=true:=by
 have e1:IntKind.i64.min = -9223372036854775808:=rfl
 have e2:IntKind.i64.max=9223372036854775807:=rfl
 simp [Lit.wf]
 omega
end
section
open Go.RowKit
theorem K6 (v0a:Option Addr) (v0l:Nat) (v0c:Nat) (v1a:Option Addr) (v1l:Nat) (v1c:Nat):Instr.fill (fun i=>some (i * 1,1)) ((Array.range (2 * 1)).map ((Value.cells (.slice none 0 0))[· % (Value.cells (.slice none 0 0)).size]!)) [(0,.slice v0a v0l v0c),(1,.slice v1a v1l v1c)]=some (List.toArray [.slice v0a v0l v0c,.slice v1a v1l v1c]):=by kernel_rfl
theorem K7:bW prog 17=true:=by kernel_rfl
theorem goes_30:bW prog 30=true:=by kernel_rfl
theorem grow_is (n:Nat) (w:World) (hn:n≤65536) :
  Calls prog 30 #[.slice none 0 0,.int .i64 (n:Int)] w (fun e w'=>∃ v,e = .returned v∧Below w.heap.size w w'∧w'.ownsRow w.heap.size 3 1 v 0 []):=by
 refine cH (args:=[.slice none 0 0,.int .i64 (n:Int)]) func30 rfl ntmps30 rfl ?_
 have hS:=St.start w
 refine aL (aR (aA rfl rfl (aQ (XF.thenN (aL (aL (aR (aG rfl rfl (cN rfl rfl rfl (aQ (XF.thenN (aZ rfl (fun hc=>absurd (of_decide_eq_true hc) (by omega)) (fun hc=>?_)))))))))))))
 have hc:=of_decide_eq_false hc
 refine bG (XF.thenN (aL (aL (aR (aG rfl rfl (aG rfl rfl (opV (Q4 underlying29 rfl) rfl (aG rfl rfl (bX underlying29 rfl rfl (rM rfl rfl (IntWalk.i64_in _ (by omega)) rfl (rM rfl rfl (IntWalk.i64_in _ (by omega)) rfl (aA rfl rfl (aQ (XF.thenN (aL (aR (aG rfl rfl (dM rfl rfl rfl (aQ (XF.thenN (aZ rfl (fun hc=>?_) (fun hc=>?_))))))))))))))))))))))
 ·have hc16:=of_decide_eq_true hc;clear hc
  have hn0:0 < n:=by omega
  refine aR (aG rfl rfl (aG rfl rfl (opV (Q4 underlying29 rfl) rfl (M8 underlying29 sizeOf3 rfl rfl rfl rfl (aG rfl rfl ?_)))))
  refine Ix (m:=n) hS underlying29 underlying3 qZ rfl rfl rfl rfl rfl (by omega) hn0 (by simp only [maxLen];omega) (by show n * 8≤_;omega) rfl fun B9 c9 xs9 W9 hx9 hS=>?_
  refine aG rfl rfl (bX underlying29 rfl rfl (Qr hS 0 (k:=0) underlying29 sizeOf3 rfl rfl rfl (by omega) (Nat.zero_le _) rfl ?_))
  clear hS;intro hS
  refine aA rfl rfl (aQ (XF.thenN (aL (aR (aG rfl rfl (aA rfl rfl (aQ (XF.thenN (bJ (XF.res (cJ results30 rfl) ?_))))))))))
  exact ⟨_,rfl,hS.below,by simpa using hS.row 0 rfl⟩
 ·have hc16:=of_decide_eq_false hc;clear hc
  have hn0:n=0:=by omega
  refine bG (XF.thenN (aL (aR (aG rfl rfl (aA rfl rfl (aQ (XF.thenN (bJ (XF.res (cJ results30 rfl) ?_)))))))))
  exact ⟨_,rfl,hS.below,World.ownsRow_nil _ _ _ _⟩
structure LV where
 a:Option Addr
 l:Nat
 c:Nat
 zs:List Int
abbrev LV.val (x:LV):Value:=.slice x.a x.l x.c
def rY (ls:List LV):Nat:=(ls.map (·.l)).sum
def oM (ls:List LV):List Int:=ls.flatMap (·.zs)
theorem Gn {ls:List LV} {i:Nat} {x:LV} (h:ls[i]?=some x):rY (ls.take (i+1))=rY (ls.take i)+x.l:=by
 unfold rY
 rw [List.take_add_one,h,List.map_append,List.sum_append]
 simp
theorem Rb {ls:List LV} {i:Nat}:rY (ls.take i)≤rY ls:=by
 have h:=congrArg (fun z=>(z.map (·.l)).sum) (List.take_append_drop i ls)
 simp only [List.map_append,List.sum_append] at h
 unfold rY;omega
theorem Na {ls:List LV} {i:Nat} {x:LV} (h:ls[i]?=some x):oM (ls.take (i+1))=oM (ls.take i)++x.zs:=by
 unfold oM
 rw [List.take_add_one,h,List.flatMap_append]
 simp
theorem Rc {ls:List LV} (h:∀ x∈ls,x.zs.length=x.l):(oM ls).length=rY ls:=by
 unfold oM rY
 rw [List.length_flatMap]
 congr 1
 exact List.map_congr_left h
theorem Aq (B:Nat) (T:TypeId) (ls:List LV) (w:World) (hB:w.heap[B]?=some (.cells (ls.map LV.val).toArray T (0,0))) (hin:∀ x∈ls,Row w x.a x.zs∧x.zs.length=x.l) (hsum:rY ls≤65536) (hlm:ls.length≤65536) :
  Calls prog 17 #[.slice (some ⟨B,0,none⟩) ls.length ls.length] w (fun e w'=>∃ a c,e = .returned (.slice a (oM ls).length c)∧fT w.heap.size w' a c (oM ls)∧Below w.heap.size w w'):=by
 refine cH (args:=[.slice (some ⟨B,0,none⟩) ls.length ls.length]) func17 rfl ntmps17 rfl ?_
 have hS:=St.start w
 refine aL (aR (aA rfl rfl (aQ (XF.thenN (aL (aR (aA rfl rfl (aQ (XF.thenN (aL (aL (aR (aG rfl rfl (bX underlying40 rfl rfl (aG rfl rfl (aQ (XF.thenN (bM (dK (fun m l W=>∃ i s:Nat,i≤ls.length∧m=ls.length - i∧l=[(0,.slice (some ⟨B,0,none⟩) ls.length ls.length),(3,.int .i64 (s:Int)),(9,.slice (some ⟨B,0,none⟩) ls.length ls.length),(10,.int .i64 (ls.length:Int)),(11,.int .i64 (i:Int))]∧s=rY (ls.take i)∧St w [] [] [] W) (ls.length - 0) ([(0,_),(3,_),(9,_),(10,_),(11,_)]) ⟨rfl,rfl,rfl,rfl,rfl,trivial⟩ (⟨0,0,Nat.zero_le _,rfl,rfl,rfl,hS.clear⟩) ?_)))))))))))))))))))
 clear hS
 rintro m l W ⟨i,s,hi,rfl,rfl,hs,hS⟩
 refine aL (aR (cN rfl rfl rfl (aQ (XF.thenN (aL (aZ rfl (fun hc=>?_) (fun hc=>?_)))))))
 ·have hc12:=of_decide_eq_true hc;clear hc
  have hk:i < ls.length:=by omega
  obtain ⟨x,hx⟩:∃ x,ls[i]?=some x:=⟨ls[i],by simp [hk]⟩
  have k1:W.cell? ⟨B,0+i * 1,none⟩=some x.val:=aK (cs:=ls.map LV.val) ((hS.below.block B (cQ hB)).trans hB) (by rw [Nat.zero_add,Nat.mul_one,List.getElem?_map,hx];rfl)
  have hsx:=Gn hx
  have hle:=Rb (ls:=ls) (i:=i+1)
  obtain ⟨hrx,hlx⟩:=hin x (List.mem_of_getElem? hx)
  refine bG (XF.thenN (aL (bM (aL (aR (cK  underlying40 sizeOf29 rfl rfl rfl (by omega) rfl rfl (aT isAgg29 rfl (k1) rfl (aA rfl rfl (aQ (XF.thenN (aL (aR (aG rfl rfl (aG rfl rfl (bX underlying29 rfl rfl (cR rfl rfl (IntWalk.i64_in _ (by omega)) rfl (aA rfl rfl (aQ (XF.thenN (aL (aR (aG rfl rfl (cN rfl rfl rfl (aQ (XF.thenN (aZ rfl (fun hc=>absurd (of_decide_eq_true hc) (by omega)) (fun hc=>?_)))))))))))))))))))))))))))
  have hc:=of_decide_eq_false hc
  refine bG (XF.blkN (XF.thenN (aR (cR rfl rfl (IntWalk.i64_in _ (by omega)) rfl (aG rfl rfl (aQ ?_))))))
  exact XF.round (ls.length - (i+1)) [(0,_),(3,_),(9,_),(10,_),(11,_)] (by omega) ⟨rfl,rfl,rfl,rfl,rfl,trivial⟩ ⟨i+1,s+x.l,by omega,rfl,rfl,by rw [hs,hsx],hS.clear⟩
 ·have hc12:=of_decide_eq_false hc;clear hc
  rw [List.take_of_length_le (by omega)] at hs
  refine dE (XF.thenX (XF.thenX (XF.blkX (XF.thenN (aL (aR (aG rfl rfl (xZ (vs:=[_,_]) (xs:=[]) (e1:=3) (size:=1) (m:=0) hS goes_30 rfl (grow_is s _ (by omega)) rfl (fun e W2 h=>h) fun v1 W1 hS=>aA rfl rfl (aQ (XF.thenN (aL (aL (aR (aG rfl rfl (bX underlying40 rfl rfl (aG rfl rfl (aQ (XF.thenN (bM (dK (fun m l W=>∃ (i:Nat) (v:Value),i≤ls.length∧m=ls.length - i∧l=[(6,v),(25,.slice (some ⟨B,0,none⟩) ls.length ls.length),(26,.int .i64 (ls.length:Int)),(27,.int .i64 (i:Int))]∧St w [] [⟨v,rY (ls.take i),(oM (ls.take i)).map (Value.int .i64),3,1⟩] [] W) (ls.length - 0) ([(6,_),(25,_),(26,_),(27,_)]) ⟨rfl,rfl,rfl,rfl,trivial⟩ (⟨0,_,Nat.zero_le _,rfl,rfl,hS.clear⟩) ?_))))))))))))))))))))
  clear hS
  rintro m l W ⟨i,v,hi,rfl,rfl,hS⟩
  refine aL (aR (cN rfl rfl rfl (aQ (XF.thenN (aL (aZ rfl (fun hc=>?_) (fun hc=>?_)))))))
  ·have hc28:=of_decide_eq_true hc;clear hc
   have hk:i < ls.length:=by omega
   obtain ⟨x,hx⟩:∃ x,ls[i]?=some x:=⟨ls[i],by simp [hk]⟩
   have k1:W.cell? ⟨B,0+i * 1,none⟩=some x.val:=aK (cs:=ls.map LV.val) ((hS.below.block B (cQ hB)).trans hB) (by rw [Nat.zero_add,Nat.mul_one,List.getElem?_map,hx];rfl)
   have hsx:=Gn hx
   have hle:=Rb (ls:=ls) (i:=i+1)
   obtain ⟨hrx,hlx⟩:=hin x (List.mem_of_getElem? hx)
   refine bG (XF.thenN (aL (bM (aL (aR (cK  underlying40 sizeOf29 rfl rfl rfl (by omega) rfl rfl (aT isAgg29 rfl (k1) rfl (aA rfl rfl (aQ (XF.thenN (aR (aG rfl rfl (aG rfl rfl ?_)))))))))))))
   refine iO (i:=0) (news:=x.zs.map (Value.int .i64)) hS underlying29 qZ rfl rfl (by show 0 < 1;decide) rfl rfl rfl rfl rfl (Row.app (hrx.below hS.below) hlx) (by show (x.zs.map (Value.int .i64)).length=x.l * 1;simpa using hlx) (tP x.zs) (by simp only [maxLen];omega) (by show (rY (ls.take i)+x.l) * 8≤_;omega) rfl fun v2 W2 hS=>?_
   refine aA rfl rfl (aQ (XF.blkN (XF.thenN (aR (cR rfl rfl (IntWalk.i64_in _ (by omega)) rfl (aG rfl rfl (aQ ?_)))))))
   exact XF.round (ls.length - (i+1)) [(6,_),(25,_),(26,_),(27,_)] (by omega) ⟨rfl,rfl,rfl,rfl,trivial⟩ ⟨i+1,_,by omega,rfl,rfl,hS.clear.castG (by rw [hsx,Na hx,List.map_append];rfl)⟩
  ·have hc28:=of_decide_eq_false hc;clear hc
   rw [List.take_of_length_le (by omega)] at hS
   obtain ⟨a9,c9,rfl,hac⟩:=eC (v:=v) (n:=rY ls) (hS.row 0 rfl)
   refine dE (XF.thenX (XF.thenX (XF.blkX (XF.thenN (aL (aR (aG rfl rfl (aA rfl rfl (aQ (XF.thenN (bJ (XF.res (cJ results17 rfl) ?_))))))))))))
   have hfl:=Rc (fun x hx=>(hin x hx).2)
   exact ⟨a9,c9,by rw [hfl],by unfold fT;rw [hfl];exact hS.row 0 rfl,hS.below⟩
theorem Row.dropN {w:World} {a ad:Option Addr} {zs:List Int} {l c k:Nat} (h:Row w a zs) (hl:zs.length=l) (hk:k≤l) (hlc:l≤c) (h1:c=k→ad=a) (h2:c≠k→ad=a.map (·.add (k * 1))):Row w ad (zs.drop k):=by
 by_cases e:c=k
 ·exact .inl (List.drop_eq_nil_of_le (by omega))
 ·rcases h with rfl | ⟨b,off,rfl,hc⟩
  ·exact .inl (by simp)
  ·refine .inr ⟨b,off+k,by rw [h2 e];simp [Addr.add_lit],fun i hi=>?_⟩
   rw [List.length_drop] at hi
   have:=hc (k+i) (by omega)
   rw [Nat.add_assoc,this]
   simp [List.getD,List.getElem?_drop]
def yO (R:Option (Int×List Int)) (w:World) (e:Ending) (w':World):Prop:=Below w.heap.size w w'∧match R with
 | none=>e = .returned (.tuple #[.agg #[.int .i64 0,.slice none 0 0],.bool false])
 | some (p,xs)=>∃ a c,e = .returned (.tuple #[.agg #[.int .i64 p,.slice a xs.length c],.bool true])∧fT w.heap.size w' a c xs
theorem Nb {R:Option (Int×List Int)} {w w':World} (hR:R=none) (hb:Below w.heap.size w w'):yO R w (.returned (.tuple #[.agg #[.int .i64 0,.slice none 0 0],.bool false])) w':=by subst hR;exact ⟨hb,rfl⟩
theorem Iy {R:Option (Int×List Int)} {w w':World} {p:Int} {xs:List Int} {a:Option Addr} {c:Nat} (hR:R=some (p,xs)) (hn:fT w.heap.size w' a c xs) (hb:Below w.heap.size w w'):yO R w (.returned (.tuple #[.agg #[.int .i64 p,.slice a xs.length c],.bool true])) w':=by subst hR;exact ⟨hb,a,c,rfl,hn⟩
theorem vH (p q:Int) (wa va:Option Addr) (wl wc vl vc k:Nat) (ws vs:List Int) (w:World) (hrow:Row w wa ws) (hlen:ws.length=wl) (hrov:Row w va vs) (hlev:vs.length=vl) (hkl:k≤vl) (hcv:vl≤vc) (hwm:wl≤8192) (hvm:vl≤8192) :
  Calls prog 49 #[.int .i64 p,.slice wa wl wc,.agg #[.int .i64 q,.slice va vl vc],.int .i64 (k:Int)] w (yO (if 4096+k < wl+vl then none else some (p,ws++vs.drop k)) w):=by
 refine cH (args:=[.int .i64 p,.slice wa wl wc,.agg #[.int .i64 q,.slice va vl vc],.int .i64 (k:Int)]) func49 rfl ntmps49 rfl ?_
 have hS:=St.start w
 refine aL (aR (bK (cs:=[_,_]) hS rfl rfl rfl fun B1 W1 hS=>bH (cs:=[_,_]) hS zeroValue36 rfl rfl fun B2 W2 hS=>aA rfl rfl (aQ (XF.thenN (aL (aL (aR (aG rfl rfl (bX underlying29 rfl rfl (aP (o':=1) dZ rfl rfl rfl (aT isAgg29 rfl (aK (hS.at_ 1 rfl) rfl) rfl (bX underlying29 rfl rfl (cR rfl rfl (IntWalk.i64_in _ (by omega)) rfl (aG rfl rfl (rM rfl rfl (IntWalk.i64_in _ (by omega)) rfl (dM rfl rfl rfl (aQ (XF.thenN (aZ rfl (fun hc=>?_) (fun hc=>?_))))))))))))))))))))
 ·have hc18:=of_decide_eq_true hc;clear hc
  refine aL (aR (cS (us:=[]) rfl (pE) rfl (aV (i:=0) (vs:=[_,_]) (cs':=[_,_]) (O':=[_,_]) hS sizeOf36 rfl rfl rfl rfl rfl rfl rfl fun W3 hS=>aA rfl rfl (aQ (XF.thenN (bJ (XF.thenR (XF.res (oK (vs:=[_,_]) results49 isAgg36 sizeOf36 rfl (aE.own (j:=0) (m:=2) (hS.at_ 0 rfl) rfl) rfl) ?_))))))))
  exact Nb (if_pos (by omega)) hS.below
 ·have hc18:=of_decide_eq_false hc;clear hc
  refine bG (XF.thenN (aL (aR (aG rfl rfl (aG rfl rfl (aP (o':=1) dZ rfl rfl rfl (aT isAgg29 rfl (aK (hS.at_ 1 rfl) rfl) rfl (aG rfl rfl (sZ  underlying29 sizeOf3 rfl rfl rfl (by omega) rfl ?_)))))))))
  intro ad4 hadE4 hadN4
  have hrd:=Row.dropN hrov hlev hkl hcv hadE4 hadN4
  clear hadE4 hadN4
  obtain ⟨ad9,had9⟩:∃ a,a=ad4:=⟨_,rfl⟩
  rw [← had9] at hrd ⊢
  refine cU (us:=[(0,.slice _ _ _),(1,.slice _ _ _)]) hS underlying40 sizeOf29 zeroValue29 rfl rfl rfl (K6 _ _ _ _ _ _) rfl fun B5 W5 hS=>?_
  have hsz3:=hS.below.size
  refine cO (vs:=[_]) hS K7 rfl (Aq _ _ [⟨wa,wl,wc,ws⟩,⟨ad9,vl - k,vc - k,vs.drop k⟩] _ (hS.at_ 0 rfl) (fun x hx=>by
   simp at hx
   rcases hx with rfl | rfl
   ·exact ⟨hrow.below hS.below,hlen⟩
   ·exact ⟨hrd.below hS.below,by rw [List.length_drop,hlev]⟩) (by show rY [_,_]≤_;unfold rY;simp;omega) (by simp)) rfl ?_
  rintro e W6 ⟨a9,c9,rfl,hn9,hb⟩
  refine ⟨_,rfl,hb,fun hS'=>?_⟩
  clear hS;have hS:=hS';clear hS' hb
  refine cS (us:=[(0,.int .i64 _),(1,.slice _ _ _)]) rfl (rP _ _ _ _) rfl (aV (i:=1) (vs:=[_,_]) (cs':=[_,_]) (O':=[_,_,_]) hS sizeOf36 rfl rfl rfl rfl rfl rfl rfl fun W7 hS=>aA rfl rfl (aQ (XF.thenN (bJ (XF.res (oK (vs:=[_,_]) results49 isAgg36 sizeOf36 rfl (aE.own (j:=0) (m:=2) (hS.at_ 1 rfl) rfl) rfl) ?_)))))
  have hn8:=(hn9.agree (hS.since 0 rfl)).mono hsz3
  rw [show oM [⟨wa,wl,wc,ws⟩,⟨ad9,vl - k,vc - k,vs.drop k⟩]=ws++vs.drop k by simp [oM]] at hn8 ⊢
  exact Iy (if_neg (by omega)) hn8 hS.below
theorem Iz (v0a:Option Addr) (v0l:Nat) (v0c:Nat) (v1:Option Nat):prog.built 99 [(0,.slice v0a v0l v0c),(1,.map v1)]=some #[.slice v0a v0l v0c,.map v1]:=by kernel_rfl
theorem vI (v0:Int) (v1:Int):prog.built 116 [(0,.int .i64 v0),(1,.int .i64 v1)]=some #[.int .i64 v0,.int .i64 v1]:=by kernel_rfl
theorem K8 (w:World) (b o:Nat):(Instr.fieldAt 99 (.pointer (some ⟨b,o,none⟩)) 1).run prog w = .ok (.pointer (some ⟨b,o+1,none⟩)) w:=by
 simp [Instr.fieldAt,run_underlying underlying99,Instr.sureAddr,go_sem,Addr.add_lit]
def byL:List RV→Nat→Int×Int→List Int
 | [],_,_=>[]
 | r::rs,i,k=>if k=(r.p,r.g) then (i:Int)::byL rs (i+1) k else byL rs (i+1) k
theorem La (r:RV) (k:Int×Int):∀ (rs:List RV) (i:Nat),byL (rs++[r]) i k=byL rs i k++(if k=(r.p,r.g) then [((i+rs.length:Nat):Int)] else [])
 | [],i=>by simp only [byL,List.nil_append,List.length_nil,Nat.add_zero]
 | x::rs,i=>by
  simp only [List.cons_append,byL,La r k rs (i+1),List.length_cons]
  rw [show i+1+rs.length=i+(rs.length+1) by omega]
  by_cases h:k=(x.p,x.g)
  ·rw [if_pos h,if_pos h];rfl
  ·rw [if_neg h,if_neg h]
theorem Rd {rs:List RV} {i:Nat} {r:RV} (h:rs[i]?=some r) (k:Int×Int):byL (rs.take (i+1)) 0 k=byL (rs.take i) 0 k++(if k=(r.p,r.g) then [(i:Int)] else []):=by
 rw [List.take_add_one,h]
 show byL (rs.take i++[r]) 0 k=_
 rw [La,List.length_take,Nat.min_eq_left (Nat.le_of_lt (List.getElem?_eq_some_iff.1 h).1),Nat.zero_add]
theorem wJ (k:Int×Int):∀ (rs:List RV) (i:Nat),(byL rs i k).length≤rs.length
 | [],_=>Nat.le_refl _
 | x::rs,i=>by
  have:=wJ k rs (i+1)
  unfold byL
  split<;>simp<;>omega
abbrev byV (rs:List RV) (k:Int×Int):List Value:=(byL rs 0 k).map (Value.int .i64)
theorem Re {rs:List RV} {i:Nat} {r:RV} (h:rs[i]?=some r):(fun x=>if x=(r.p,r.g) then byV (rs.take i) (r.p,r.g)++[.int .i64 (i:Int)] else byV (rs.take i) x)=byV (rs.take (i+1)):=by
 funext x
 unfold byV
 rw [Rd h x]
 by_cases e:x=(r.p,r.g)
 ·subst e
  rw [if_pos rfl,if_pos rfl,List.map_append];rfl
 ·rw [if_neg e,if_neg e,List.append_nil]
def GrpT (lo:Nat) (rs:List RV) (b:Nat) (W:World):Prop:=Grp prog 116 3 kv lo (byV rs) b W
def Keyed (rs:List RV):Prop:=∀ r∈rs,(0≤r.p∧r.p≤1000000)∧(0≤r.g∧r.g≤1000000)
theorem Gp (s:SV) (st sy:Int) (ra:Option Addr) (rl rc:Nat) (rs:List RV) (w:World) (hprow:lD w ra rs) (hplen:rs.length=rl) (hrm:rl≤16384) (hky:Keyed rs) :
  Calls prog 28 #[.agg #[.int .i64 s.f.tag,.int .i64 s.f.dim,.slice s.f.a s.f.len s.f.cap,.int .i64 st,.int .i64 sy,.slice ra rl rc]] w (fun e w'=>∃ b,e = .returned (.agg #[.slice ra rl rc,.map (some b)])∧w.heap.size≤b∧GrpT w.heap.size rs b w'∧Below w.heap.size w w'):=by
 refine cH (args:=[.agg #[.int .i64 s.f.tag,.int .i64 s.f.dim,.slice s.f.a s.f.len s.f.cap,.int .i64 st,.int .i64 sy,.slice ra rl rc]]) func28 rfl ntmps28 rfl ?_
 have hS:=St.start w
 refine aL (aR (bK (cs:=[_,_,_,_,_,_]) hS rfl rfl rfl fun B1 W1 hS=>bH (cs:=[_,_]) hS zeroValue99 rfl rfl fun B2 W2 hS=>aQ (XF.thenN (aL (aR (aP (o':=5) eX rfl rfl rfl (aT isAgg26 rfl (aK (hS.at_ 1 rfl) rfl) rfl ?_)))))))
 have hsz0:=hS.below.size
 refine Iw hS rfl fun bm Wm hbm hlm hS=>cS (us:=[(0,.slice _ _ _),(1,.map _)]) rfl (Iz _ _ _ _) rfl (bH (cs:=[_,_]) hS zeroValue99 rfl rfl fun B3 W3 hS=>aV (i:=0) (vs:=[_,_]) (cs':=[_,_]) (O':=[_,_,_]) hS sizeOf99 rfl rfl rfl rfl rfl rfl rfl fun W4 hS=>aQ (XF.thenN (aL (aL ?_))))
 have hbm2:=(hS.since 0 rfl).2 bm hlm (cQ hbm)
 rw [hbm] at hbm2
 have hwb:w.heap.size≤bm:=Nat.le_trans hsz0 hlm
 obtain ⟨lo,hlo⟩:∃ lo,lo=W4.heap.size:=⟨_,rfl⟩
 have hO:=own_off hS hbm2
 have hwl:=hS.below.size
 rw [← hlo] at hO hwl
 refine aR (aP (o':=5) eX rfl rfl rfl (aT isAgg26 rfl (aK (hS.at_ 2 rfl) rfl) rfl (bX underlying26 rfl rfl (aG rfl rfl (aQ (XF.thenN (bM (dK (fun m l W=>∃ i:Nat,i≤rl∧m=rl - i∧l=[(1,.pointer (some ⟨B1,0,none⟩)),(2,.pointer (some ⟨B2,0,none⟩)),(3,.pointer (some ⟨B3,0,none⟩)),(12,.slice ra rl rc),(13,.int .i64 (rl:Int)),(14,.int .i64 (i:Int))]∧Grp prog 116 3 kv lo (byV (rs.take i)) bm W∧lo≤W.heap.size∧St w [(B3,[.slice ra rl rc,.map (some bm)],99),(B2,[.slice none 0 0,.map none],99),(B1,[.int .i64 s.f.tag,.int .i64 s.f.dim,.slice s.f.a s.f.len s.f.cap,.int .i64 st,.int .i64 sy,.slice ra rl rc],28)] [] [] W) (rl - 0) ([(1,_),(2,_),(3,_),(12,_),(13,_),(14,_)]) ⟨rfl,rfl,rfl,rfl,rfl,rfl,trivial⟩ (⟨0,Nat.zero_le _,rfl,rfl,Grp.fresh lo hbm2,Nat.le_of_eq hlo,hS.clear⟩) ?_))))))))
 clear hS
 rintro m l W ⟨i,hi,rfl,rfl,hM,hlo9,hS⟩
 refine aL (aR (cN rfl rfl rfl (aQ (XF.thenN (aL (aZ rfl (fun hc=>?_) (fun hc=>?_)))))))
 ·have hc15:=of_decide_eq_true hc;clear hc
  have hk:i < rl:=by omega
  obtain ⟨r,hr⟩:∃ r,rs[i]?=some r:=⟨rs[i]'(by omega),by simp [show i < rs.length by omega]⟩
  obtain ⟨b,off,rfl,hcs⟩:=hprow.at_ hr
  have k1:=aE.agree hS.agree (Nat.zero_le _) hcs
  obtain ⟨hkp,hkg⟩:=hky r (List.mem_of_getElem? hr)
  have hS:=(hS.markAt (Grp.lt hM) (fun p hp=>(hO p hp).1)).mark lo (fun p hp=>(hO p hp).2) rfl
  refine bG (XF.thenN (aL (bM (aL (aR (aG rfl rfl (cK  underlying26 sizeOf62 rfl rfl rfl (by omega) rfl rfl (aS (vs:=[_,_,_,_,_,_,_,_,_,_]) isAgg62 sizeOf62 rfl (k1) rfl (bH (cs:=[_,_,_,_,_,_,_,_,_,_]) hS zeroValue62 rfl rfl fun B5 W5 hS=>aA rfl rfl (aV (i:=0) (vs:=[_,_,_,_,_,_,_,_,_,_]) (cs':=[_,_,_,_,_,_,_,_,_,_]) (O':=[_,_,_,_]) hS sizeOf62 rfl rfl rfl rfl rfl rfl rfl fun W6 hS=>aQ (XF.thenN (aL (aR (aP (o':=0) mJ rfl rfl rfl (aT isAgg3 rfl (aK (hS.at_ 0 rfl) rfl) rfl (aP (o':=1) tF rfl rfl rfl (aT isAgg3 rfl (aK (hS.at_ 0 rfl) rfl) rfl (cS (us:=[(0,.int .i64 _),(1,.int .i64 _)]) rfl (vI _ _) rfl (bH (cs:=[_,_]) hS zeroValue116 rfl rfl fun B7 W7 hS=>aV (i:=0) (vs:=[_,_]) (cs':=[_,_]) (O':=[_,_,_,_,_]) hS sizeOf116 rfl rfl rfl rfl rfl rfl rfl fun W8 hS=>aQ (XF.thenN ?_))))))))))))))))))))
  refine aR (aP (o':=1) K8 rfl rfl rfl (aT isAgg97 rfl (aK (hS.at_ 2 rfl) rfl) rfl (aS (vs:=[_,_]) isAgg116 sizeOf116 rfl (aE.own (j:=0) (m:=2) (hS.at_ 0 rfl) rfl) rfl (aG rfl rfl (cU (us:=[(0,.int .i64 _)]) hS underlying29 sizeOf3 zeroValue3 rfl rfl rfl (qI _) rfl fun B9 W9 hS=>?_)))))
  have hS9:=hS.tail.tail.tail.clear
  have hlo8:=(hS.since 0 rfl).1
  refine Q5 (k:=(r.p,r.g)) hS9 (Grp.same hM (fun h1=>((hS.since 1 rfl).2 bm (Nat.le_refl _) (Dn h1)).trans (Do h1)) (fun p h0 h1=>(hS.since 0 rfl).2 p h0 h1)) hO hwb hwl (Nat.le_trans hlo9 hlo8) Q8 underlying97 zeroValue29 (Ra (tS hkp.1 hkp.2) (tS hkg.1 hkg.2)) Q6 underlying29 qZ rfl rfl rfl rfl rfl rfl (hS.at_ 0 rfl) rfl (by have h9:=wJ (r.p,r.g) (rs.take i) 0;rw [List.length_take] at h9;rw [List.length_map];simp only [maxLen];omega) (by have h9:=wJ (r.p,r.g) (rs.take i) 0;rw [List.length_take] at h9;rw [List.length_map];show (_+1) * 8≤_;omega) rfl rfl rfl rfl (fun _=>rfl) (fun _ _=>rfl) (fun _ _ _=>rfl) (fun _ _ _ _=>⟨rfl,rfl⟩) ?_
  clear hS hS9 hM hlo9;intro v1 v2 v3 v4 W9 hS hM hlo9
  rw [Re hr] at hM
  refine aQ (XF.blkN (XF.thenN (aR (cR rfl rfl (IntWalk.i64_in _ (by omega)) rfl (aG rfl rfl (aQ ?_))))))
  exact XF.round (rl - (i+1)) [(1,_),(2,_),(3,_),(12,_),(13,_),(14,_)] (by omega) ⟨rfl,rfl,rfl,rfl,rfl,rfl,trivial⟩ ⟨i+1,by omega,rfl,rfl,hM,hlo9,hS⟩
 ·have hc15:=of_decide_eq_false hc;clear hc
  rw [List.take_of_length_le (by omega)] at hM
  have hS:=(hS.markAt (Grp.lt hM) (fun p hp=>(hO p hp).1)).mark lo (fun p hp=>(hO p hp).2) rfl
  refine dE (XF.thenX (XF.thenX (XF.blkX (XF.thenN (aL (aR (aS (vs:=[_,_]) isAgg99 sizeOf99 rfl (aE.own (j:=0) (m:=2) (hS.at_ 0 rfl) rfl) rfl (aV (i:=1) (vs:=[_,_]) (cs':=[_,_]) (O':=[_,_,_]) hS sizeOf99 rfl rfl rfl rfl rfl rfl rfl fun W10 hS=>aQ (XF.thenN (bJ (XF.res (dO (vs:=[_,_]) results28 isAgg99 sizeOf99 rfl (aE.own (j:=0) (m:=2) (hS.at_ 1 rfl) rfl)) ?_)))))))))))
  exact ⟨bm,rfl,hwb,Grp.lower (Grp.same hM (fun h1=>((hS.since 1 rfl).2 bm (Nat.le_refl _) (Dn h1)).trans (Do h1)) (fun p h0 h1=>(hS.since 0 rfl).2 p h0 h1)) hwl,hS.below⟩
theorem wK (w:World) (b o:Nat):(Instr.fieldAt 99 (.pointer (some ⟨b,o,none⟩)) 0).run prog w = .ok (.pointer (some ⟨b,o+0,none⟩)) w:=by
 simp [Instr.fieldAt,run_underlying underlying99,Instr.sureAddr,go_sem,Addr.add_lit]
theorem Lb:bW prog 49=true:=by kernel_rfl
def goL (rs:List RV) (ws:List Int):List Int→Option (List (Int×Int×List Int))
 | []=>some []
 | i::l=>match rs[i.toNat]? with
  | none=>none
  | some r=>if 4096 < r.wl+(ws.length - 1) then none else (goL rs ws l).map ((i,r.q,r.ws++ws.tail) :: ·)
theorem Rf {rs:List RV} {ws l:List Int} {n:Nat} {r:RV} (h:rs[n]?=some r):goL rs ws ((n:Int)::l)=if 4096 < r.wl+(ws.length - 1) then none else (goL rs ws l).map (((n:Int),r.q,r.ws++ws.tail) :: ·):=by
 simp only [goL,Int.toNat_natCast,h]
theorem Gq {rs:List RV} {p y:Int} {t:List Int}:∀ (xs:List RV) (i:Nat),(∀ (j:Nat) r,xs[j]?=some r→rs[i+j]?=some r)→eS p (y::t) xs i=goL rs (y::t) (byL xs i (p,y))
 | [],i,_=>rfl
 | x::xs,i,h=>by
  have ih:=Gq (rs:=rs) (p:=p) (y:=y) (t:=t) xs (i+1) (fun j r hr=>by
   have:=h (j+1) r (by simpa using hr)
   rw [show i+1+j=i+(j+1) by omega];exact this)
  have hx:=h 0 x rfl
  rw [Nat.add_zero] at hx
  have hb:kR x p (y::t)=decide ((p,y)=(x.p,x.g)):=by
   unfold kR
   show (decide (x.p=p) && decide (y=x.g))=_
   rw [Bool.eq_iff_iff,Bool.and_eq_true,decide_eq_true_iff,decide_eq_true_iff,decide_eq_true_iff,Prod.mk.injEq]
   exact ⟨fun h=>⟨h.1.symm,h.2⟩,fun h=>⟨h.1.symm,h.2⟩⟩
  simp only [eS,byL]
  rw [hb,ih]
  by_cases e:(p,y)=(x.p,x.g)
  ·rw [if_pos (decide_eq_true e),if_pos e,Rf hx]
  ·rw [if_neg (by simpa using e),if_neg e]
theorem Ar {p:Int}:∀ (xs:List RV) (i:Nat),eS p [] xs i=some []
 | [],i=>rfl
 | x::xs,i=>by
  have hb:kR x p []=false:=by simp [kR]
  simp only [eS]
  rw [hb,if_neg (by simp)]
  exact Ar xs (i+1)
theorem I0 {k:Int×Int}:∀ {rs:List RV} {i j:Nat} {x:Int},(byL rs i k)[j]?=some x→∃ (n:Nat) (r:RV),x=((i+n:Nat):Int)∧rs[n]?=some r∧k=(r.p,r.g)
 | [],i,j,x,h=>by simp [byL] at h
 | y::rs,i,j,x,h=>by
  unfold byL at h
  by_cases e:k=(y.p,y.g)
  ·rw [if_pos e] at h
   cases j with
   | zero =>
    simp at h
    exact ⟨0,y,by rw [Nat.add_zero];exact h.symm,rfl,e⟩
   | succ j =>
    obtain ⟨n,r,h1,h2,h3⟩:=I0 (by simpa using h)
    exact ⟨n+1,r,by rw [h1,show i+1+n=i+(n+1) by omega],by simpa using h2,h3⟩
  ·rw [if_neg e] at h
   obtain ⟨n,r,h1,h2,h3⟩:=I0 h
   exact ⟨n+1,r,by rw [h1,show i+1+n=i+(n+1) by omega],by simpa using h2,h3⟩
abbrev NxL:=List (Int×Int×List Int)
def dN (lo:Nat) (l:NxL):Asr:=fun v w=>w.ownsRow lo 3 1 v l.length ((l.map (·.1)).map (Value.int .i64))
def eF (lo:Nat) (l:NxL):Asr:=fun v w=>∃ cs:List CV,w.ownsRow lo 36 2 v cs.length (cs.flatMap pN)∧cs.map CV.pl=l.map (·.2)∧∀ c∈cs,Ap lo w c
theorem lG {lo:Nat} {l:NxL} {v:Value} {A W:World} (h:dN lo l v A) (hg:dD lo A W):dN lo l v W:=eG h hg
theorem tT {lo:Nat} {l:NxL} {v:Value} {A W:World} (h:eF lo l v A) (hg:dD lo A W):eF lo l v W:=by
 obtain ⟨cs,h1,h2,h3⟩:=h
 exact ⟨cs,eG h1 hg,h2,fun c hc=>⟨(h3 c hc).1.agree hg,(h3 c hc).2⟩⟩
theorem pP {lo lo':Nat} {l:NxL} {v:Value} {W:World} (h:dN lo l v W) (hl:lo'≤lo):dN lo' l v W:=lE h hl
theorem pQ {lo lo':Nat} {l:NxL} {v:Value} {W:World} (h:eF lo l v W) (hl:lo'≤lo):eF lo' l v W:=by
 obtain ⟨cs,h1,h2,h3⟩:=h
 exact ⟨cs,lE h1 hl,h2,fun c hc=>⟨(h3 c hc).1.mono hl,(h3 c hc).2⟩⟩
def Gr (R:Option NxL) (w:World) (e:Ending) (w':World):Prop:=Below w.heap.size w w'∧match R with
 | none=>e = .returned (.tuple #[.slice none 0 0,.slice none 0 0,.bool false])
 | some l=>∃ v8 v9:Value,e = .returned (.tuple #[v8,v9,.bool true])∧dN w.heap.size l v8 w'∧eF w.heap.size l v9 w'
theorem Rg {R:Option NxL} {w w':World} (hR:R=none) (hb:Below w.heap.size w w'):Gr R w (.returned (.tuple #[.slice none 0 0,.slice none 0 0,.bool false])) w':=by subst hR;exact ⟨hb,rfl⟩
theorem As {R:Option NxL} {w w':World} {l:NxL} {v8 v9:Value} (hR:R=some l) (h1:dN w.heap.size l v8 w') (h2:eF w.heap.size l v9 w') (hb:Below w.heap.size w w'):Gr R w (.returned (.tuple #[v8,v9,.bool true])) w':=by subst hR;exact ⟨hb,v8,v9,rfl,h1,h2⟩
def mT (lo:Nat) (q:Int) (xs:List Int):Asr:=fun v w=>∃ a c,v = .tuple #[.agg #[.int .i64 q,.slice a xs.length c],.bool true]∧fT lo w a c xs
theorem rpl_gN {P:Program} {f:FuncId} {vs:Array Value} {w:World} {q:Int} {xs:List Int} {R:Option (Int×List Int)} {lo:Nat} (hlo:lo≤w.heap.size) (hR:R=some (q,xs)) (h:Calls P f vs w (yO R w)):Calls P f vs w (lV (mT lo q xs) w):=by
 subst hR
 exact h.mono fun e w2 ⟨hb,a,c,he,hn⟩=>⟨_,he,fun w3 hg=>⟨a,c,rfl,(hn.agree hg).mono hlo⟩,hb⟩
theorem rpl_gN0 {P:Program} {f:FuncId} {vs:Array Value} {w:World} {R:Option (Int×List Int)} (hR:R=none) (h:Calls P f vs w (yO R w)):Calls P f vs w (lV (isV (.tuple #[.agg #[.int .i64 0,.slice none 0 0],.bool false])) w):=by
 subst hR
 exact h.mono fun e w2 ⟨hb,he⟩=>⟨_,he,fun _ _=>rfl,hb⟩
theorem qM {P:Program} {p:Asr} {d td:Nat} {ty:TypeId} {pos:String}:∀ (ev:Operand→Value) (w:World),p (ev (.tmp td)) w→∃ v,(execOp ev ⟨some d,.move (.tmp td),ty,pos,#[],none⟩).run P w = .ok (.value v) w∧∀ w2,p (ev (.tmp td)) w2→p v w2:=fun ev w h=>⟨ev (.tmp td),by unfold execOp;rfl,fun _ h=>h⟩
theorem gZ {P:Program} {p q:Asr} {d td k:Nat} {ty:TypeId} {pos:String} (hpq:∀ v w,p v w→∃ (vs:Array Value) (u:Value),v = .tuple vs∧vs[k]?=some u∧∀ w2,p v w2→q u w2):∀ (ev:Operand→Value) (w:World),p (ev (.tmp td)) w→∃ v,(execOp ev ⟨some d,.extract (.tmp td) k,ty,pos,#[],none⟩).run P w = .ok (.value v) w∧∀ w2,p (ev (.tmp td)) w2→q v w2:=fun ev w h=>by
 obtain ⟨vs,u,e,hu,h2⟩:=hpq _ _ h
 exact ⟨u,by unfold execOp;simp only [];rw [e];simp [Instr.extract,hu],h2⟩
theorem Rh {a b a2 b2:Value} (h:Value.tuple #[a,b] = .tuple #[a2,b2]):a=a2∧b=b2:=by
 simp at h;exact h
theorem tU {a b c a2 b2 c2:Value} (h:Value.tuple #[a,b,c] = .tuple #[a2,b2,c2]):a=a2∧b=b2∧c=c2:=by
 simp at h;exact h
theorem isRpl_0 {lo:Nat} {q:Int} {xs:List Int}:∀ v w,mT lo q xs v w→∃ (vs:Array Value) (u:Value),v = .tuple vs∧vs[0]?=some u∧∀ w2,mT lo q xs v w2→iD lo q xs u w2:=fun v w ⟨a,c,e,h1⟩=>by
 subst e
 exact ⟨_,_,rfl,rfl,fun w2 ⟨a2,c2,e2,h3⟩=>⟨a2,c2,(Rh e2).1,h3⟩⟩
theorem isRpl_1 {lo:Nat} {q:Int} {xs:List Int}:∀ v w,mT lo q xs v w→∃ (vs:Array Value) (u:Value),v = .tuple vs∧vs[1]?=some u∧∀ w2,mT lo q xs v w2→isV (.bool true) u w2:=fun v w ⟨a,c,e,h1⟩=>by
 subst e
 exact ⟨_,_,rfl,rfl,fun w2 _=>rfl⟩
theorem Jg {lo:Nat} {q:Int} {us:List Int} {a:Option Addr} {n c:Nat} {w:World} (h:iD lo q us (.agg #[.int .i64 q,.slice a n c]) w):fT lo w a c us:=by
 obtain ⟨a2,c2,e,h⟩:=h
 simp at e
 obtain ⟨rfl,_,rfl⟩:=e
 exact h
theorem Lc (ra:Option Addr) (rl rc:Nat) (rs:List RV) (lo bm:Nat) (p:Int) (wa:Option Addr) (wl wc:Nat) (ws:List Int) (w:World) (hprow:lD w ra rs) (hplen:rs.length=rl) (hin:∀ r∈rs,Row w r.wa r.ws∧r.ws.length=r.wl∧r.wl≤4096) (hrm:rl≤16384) (hM:GrpT lo rs bm w) (hrow:Row w wa ws) (hlen:ws.length=wl) (hcap:wl≤wc) (hw4:wl≤4096) (hp:0≤p∧p≤1000000) (hy:∀ y∈ws,0≤y∧y≤1000000) :
  Calls prog 29 #[.agg #[.slice ra rl rc,.map (some bm)],.agg #[.int .i64 p,.slice wa wl wc]] w (Gr (eS p ws rs 0) w):=by
 refine cH (args:=[.agg #[.slice ra rl rc,.map (some bm)],.agg #[.int .i64 p,.slice wa wl wc]]) func29 rfl ntmps29 rfl ?_
 have hS:=St.start w
 refine aL (aR (bK (cs:=[_,_]) hS rfl rfl rfl fun B1 W1 hS=>bK (cs:=[_,_]) hS rfl rfl rfl fun B2 W2 hS=>aA rfl rfl (aA rfl rfl (aA rfl rfl (aQ (XF.thenN (aL (aL (aR (aP (o':=1) dZ rfl rfl rfl (aT isAgg29 rfl (aK (hS.at_ 0 rfl) rfl) rfl (bX underlying29 rfl rfl (cM rfl rfl rfl (aQ (XF.thenN (aZ rfl (fun hc=>?_) (fun hc=>?_)))))))))))))))))
 ·have hc16:=of_decide_eq_true hc;clear hc
  obtain rfl:ws=[]:=List.eq_nil_of_length_eq_zero (by omega)
  refine aL (aR (aA rfl rfl (aA rfl rfl (aA rfl rfl (aQ (XF.thenN (bJ (XF.thenR (XF.res (Di results29 rfl rfl rfl) ?_)))))))))
  exact As (Ar _ _) (World.ownsRow_nil _ _ _ _) ⟨[],World.ownsRow_nil _ _ _ _,rfl,fun c hc=>by cases hc⟩ hS.below
 ·have hc16:=of_decide_eq_false hc;clear hc
  obtain ⟨y,t,rfl⟩:∃ y t,ws=y::t:=by
   cases ws with
   | nil=>exact absurd hlen (by simp;omega)
   | cons y t=>exact ⟨y,t,rfl⟩
  have hyy:=hy y List.mem_cons_self
  obtain ⟨v26,hlk,hrw26⟩:=Grp.look hM Q8 underlying97 zeroValue29 (k:=(p,y)) (Ra (tS hp.1 hp.2) (tS hyy.1 hyy.2)) Q6
  obtain ⟨la,lc,rfl,hlc⟩:=eC hrw26
  obtain ⟨ll,hll⟩:∃ n,n=(byV rs (p,y)).length:=⟨_,rfl⟩
  rw [← hll] at hlk hrw26 hlc
  have hbm:=Grp.lt hM
  have hll2:ll=(byL rs 0 (p,y)).length:=by rw [hll,List.length_map]
  have hlrs:=wJ (p,y) rs 0
  have hgo:=Gq (rs:=rs) (p:=p) (y:=y) (t:=t) rs 0 (fun j r h=>by rw [Nat.zero_add];exact h)
  obtain ⟨wb,wo,y0,rfl,hy0,hyc⟩:=hrow.at1 (show 0 < (y::t).length by simp)
  obtain rfl:y=y0:=Option.some.inj hy0
  have hyc1:w.cell? ⟨wb,wo,none⟩=some (.int .i64 y):=hyc
  refine bG (XF.thenN (aL ?_))
  have hS:=hS.newG 36 2
  refine aR (aA rfl rfl (aQ (XF.thenN (aL ?_))))
  have hS:=hS.newG 3 1
  refine aR (aA rfl rfl (aQ (XF.thenN (aL (aL ?_)))))
  have k1:=hS.old hyc1
  refine iE (m:=12) cE hS (by kernel_rfl) (by kernel_rfl) rfl (cC 1 rfl 2 rfl rfl (fun w hw=>aW (o':=1) K8 rfl rfl) rfl (aX 2 rfl 17 0 rfl rfl rfl (fun w hw=>bA isAgg97 rfl ((aN hw 0).cell (Nat.zero_le _) (aK (hS.at_ 1 rfl) rfl))) rfl (cC 3 rfl 3 rfl rfl (fun w hw=>aW (o':=0) iM rfl rfl) rfl (aX 4 rfl 19 2 rfl rfl rfl (fun w hw=>bA isAgg3 rfl ((aN hw 0).cell (Nat.zero_le _) (aK (hS.at_ 0 rfl) rfl))) rfl (cC 5 rfl 3 rfl rfl (fun w hw=>aW (o':=1) dZ rfl rfl) rfl (aX 6 rfl 21 4 rfl rfl rfl (fun w hw=>bA isAgg29 rfl ((aN hw 0).cell (Nat.zero_le _) (aK (hS.at_ 0 rfl) rfl))) rfl (aX 7 rfl 22 5 rfl rfl rfl (fun w hw=>bB (j:=0) underlying29 sizeOf3 rfl rfl rfl (by omega) (Nat.add_zero _)) rfl (aX 8 rfl 23 6 rfl rfl rfl (fun w hw=>bA isAgg3 rfl ((aN hw 0).cell (Nat.zero_le _) (k1))) rfl (aM 9 rfl (isV _) (aJ _) (rgV (li:=[(20,_),(24,_)]) rfl (aU rfl) ⟨aO 3 (aB rfl rfl rfl),aO 7 (aB rfl rfl rfl),trivial⟩ (fun w hw=>oY (us:=[(0,.int .i64 _),(1,.int .i64 _)]) rfl (vI _ _)) (aH rfl)) (aM 10 rfl (isV _) (aJ _) (rgV (li:=[(18,_),(25,_)]) rfl (aU rfl) ⟨aO 1 (aB rfl rfl rfl),aO 8 (aB rfl rfl rfl),trivial⟩ (fun w hw=>M7 rfl rfl (hlk w ((hw.block _ (Nat.lt_of_lt_of_le hbm hS.below.size)).trans (hS.below.block _ hbm)))) (aH rfl)) (aX 11 rfl 26 9 rfl rfl rfl (fun w hw=>kP underlying29 rfl) rfl (aM 12 rfl (isV _) (aJ _) (rgV (li:=[]) rfl (aU rfl) trivial (fun w hw=>bE rfl) (aH rfl)) (dC ?_)))))))))))))
  intro W3 hbR hS'
  clear hS;have hS:=hS';clear hS'
  refine aI (aI (aI (aI (aI (aI (aI (aI (aI (aI (aI (aI (cL (XF.thenN (bM ?_))))))))))))))
  refine dK (fun m l W=>∃ (i:Nat) (v8 v9:Value) (acc:NxL) (cs:List CV) (Kk:List (Nat×World)),i≤ll∧m=ll - i∧l=[(2,.pointer (some ⟨B1,0,none⟩)),(3,.pointer (some ⟨B2,0,none⟩)),(7,v8),(8,v9),(26,.slice la ll lc),(27,.int .i64 (ll:Int)),(28,.int .i64 (i:Int))]∧(goL rs (y::t) ((byL rs 0 (p,y)).drop i)).map (acc ++ ·)=eS p (y::t) rs 0∧acc.length=i∧cs.map CV.pl=acc.map (·.2)∧jJ w Kk (fun W2=>∀ c∈cs,Ap w.heap.size W2 c)∧St w [(B2,[.int .i64 p,.slice (some ⟨wb,wo,none⟩) wl wc],36),(B1,[.slice ra rl rc,.map (some bm)],99)] [⟨v8,acc.length,(acc.map (·.1)).map (Value.int .i64),3,1⟩,⟨v9,cs.length,cs.flatMap pN,36,2⟩] Kk W) (ll - 0) ([(2,_),(3,_),(7,_),(8,_),(26,_),(27,_),(28,_)]) ⟨rfl,rfl,rfl,rfl,rfl,rfl,rfl,trivial⟩ (⟨0,_,_,[],[],[],Nat.zero_le _,rfl,rfl,by rw [List.drop_zero,hgo];cases goL rs (y::t) (byL rs 0 (p,y))<;>rfl,rfl,rfl,(fun _ _ c hc=>by cases hc),hS.clear⟩) ?_
  clear hS
  rintro m l W ⟨i,v8,v9,acc,cs,Kk,hi,rfl,rfl,hrun,hacc,hcs9,hX,hS⟩
  refine aL (aR (cN rfl rfl rfl (aQ (XF.thenN (aL (aZ rfl (fun hc=>?_) (fun hc=>?_)))))))
  ·have hc29:=of_decide_eq_true hc;clear hc
   have hk:i < ll:=by omega
   obtain ⟨x,hx⟩:∃ x,(byL rs 0 (p,y))[i]?=some x:=⟨(byL rs 0 (p,y))[i]'(by omega),by simp⟩
   obtain ⟨nn,r,hxn,hr,_⟩:=I0 hx
   rw [Nat.zero_add] at hxn
   subst hxn
   have hnr:=(List.getElem?_eq_some_iff.1 hr).1
   obtain ⟨b,off,rfl,hcs⟩:=hprow.at_ hr
   have k1:=aE.agree hS.agree (Nat.zero_le _) hcs
   obtain ⟨_,h0⟩ | ⟨lb,rfl,_,hcell⟩:=iK hrw26
   ·omega
   have k2:W.cell? ⟨lb,0+i * 1,none⟩=some (.int .i64 (nn:Int)):=hS.old (by rw [Nat.zero_add,Nat.mul_one];exact hcell i _ (by rw [List.getElem?_map,hx];rfl))
   have hri:=hin r (List.mem_of_getElem? hr)
   have hcl:cs.length=acc.length:=by have:=congrArg List.length hcs9;simpa using this
   rw [yD hx,Rf hr] at hrun
   have htl:wl=t.length+1:=by rw [← hlen];rfl
   refine bG (XF.thenN (aL (bM (aL (aR (cK  underlying29 sizeOf3 rfl rfl rfl (by omega) rfl rfl (aT isAgg3 rfl (k2) rfl (aA rfl rfl (aQ (XF.thenN (aL ?_)))))))))))
   by_cases hlong:4096 < r.wl+((y::t).length - 1)
   ·rw [if_pos hlong] at hrun
    have hsz8:=hS.below.size
    have k3:w.cell? ⟨b,off+nn * 10+2,none⟩=some (.int .i64 r.q):=hcs.2.2.1
    have k4:w.cell? ⟨b,off+nn * 10+3,none⟩=some (.slice r.wa r.wl r.wc):=hcs.2.2.2.1
    refine Iu (al:=[⟨17,36,[.int .i64 0,.slice none 0 0],18⟩]) (G:=fun _=>[⟨v8,acc.length,(acc.map (·.1)).map (Value.int .i64),3,1⟩,⟨v9,cs.length,cs.flatMap pN,36,2⟩]) (E:=[17,18]) (k:=19) (ds:=[12]) cE rfl hS rfl rfl (by kernel_rfl) (by kernel_rfl) rfl (by decide) rfl (aY 1 rfl (isV _) (syV bD [(2,_)] rfl rfl (fun _=>(aU rfl)) (fun _=>⟨cI rfl,trivial⟩) (fun s w hw=>aW (o':=0) wK rfl rfl) (aH rfl)) (aY 2 rfl (isV _) (syV bD [(33,_)] rfl rfl (fun _=>(aU rfl)) (fun _=>⟨aO 0 (dF rfl rfl (aB rfl rfl rfl)),trivial⟩) (fun s w hw=>bA isAgg26 rfl ((aK (hw.at_ 1 rfl) rfl))) (aH rfl)) (aY 3 rfl (isV _) (syV bD [(10,_)] rfl rfl (fun _=>(aU rfl)) (fun _=>⟨cI rfl,trivial⟩) (fun s w hw=>bE rfl) (aH rfl)) (aY 4 rfl (isV _) (syV bD [(34,_),(35,_)] rfl rfl (fun _=>(aU rfl)) (fun _=>⟨aO 1 (dF rfl rfl (aB rfl rfl rfl)),aO 2 (dF rfl rfl (aB rfl rfl rfl)),trivial⟩) (fun s w hw=>bB (j:=nn) underlying26 sizeOf62 rfl rfl (rfl) (by omega) rfl) (aH rfl)) (aY 5 rfl (isV _) (syV bD [(36,_)] rfl rfl (fun _=>(aU rfl)) (fun _=>⟨aO 3 (dF rfl rfl (aB rfl rfl rfl)),trivial⟩) (fun s w hw=>aW qJ rfl rfl) (aH rfl)) (aY 6 rfl (isV _) (syV bD [(37,_)] rfl rfl (fun _=>(aU rfl)) (fun _=>⟨aO 4 (dF rfl rfl (aB rfl rfl rfl)),trivial⟩) (fun s w hw=>bA isAgg3 rfl (hw.agree.cell (Nat.zero_le _) (k3))) (aH rfl)) (aY 7 rfl (isV _) (syV bD [(2,_)] rfl rfl (fun _=>(aU rfl)) (fun _=>⟨cI rfl,trivial⟩) (fun s w hw=>aW (o':=0) wK rfl rfl) (aH rfl)) (aY 8 rfl (isV _) (syV bD [(39,_)] rfl rfl (fun _=>(aU rfl)) (fun _=>⟨aO 6 (dF rfl rfl (aB rfl rfl rfl)),trivial⟩) (fun s w hw=>bA isAgg26 rfl ((aK (hw.at_ 1 rfl) rfl))) (aH rfl)) (aY 9 rfl (isV _) (syV bD [(10,_)] rfl rfl (fun _=>(aU rfl)) (fun _=>⟨cI rfl,trivial⟩) (fun s w hw=>bE rfl) (aH rfl)) (aY 10 rfl (isV _) (syV bD [(40,_),(41,_)] rfl rfl (fun _=>(aU rfl)) (fun _=>⟨aO 7 (dF rfl rfl (aB rfl rfl rfl)),aO 8 (dF rfl rfl (aB rfl rfl rfl)),trivial⟩) (fun s w hw=>bB (j:=nn) underlying26 sizeOf62 rfl rfl (rfl) (by omega) rfl) (aH rfl)) (aY 11 rfl (isV _) (syV bD [(42,_)] rfl rfl (fun _=>(aU rfl)) (fun _=>⟨aO 9 (dF rfl rfl (aB rfl rfl rfl)),trivial⟩) (fun s w hw=>aW iC rfl rfl) (aH rfl)) (aY 12 rfl (isV _) (syV bD [(43,_)] rfl rfl (fun _=>(aU rfl)) (fun _=>⟨aO 10 (dF rfl rfl (aB rfl rfl rfl)),trivial⟩) (fun s w hw=>bA isAgg29 rfl (hw.agree.cell (Nat.zero_le _) (k4))) (aH rfl)) (aY 13 rfl (isV _) (syV bD [(3,_)] rfl rfl (fun _=>(aU rfl)) (fun _=>⟨cI rfl,trivial⟩) (fun s w hw=>bF (vs:=[_,_]) isAgg36 sizeOf36 rfl ((aE.own (j:=0) (m:=2) (hw.at_ 0 rfl) rfl))) (aH rfl)) ?_)))))))))))))
    refine aY 14 rfl (isV (.tuple #[.agg #[.int .i64 0,.slice none 0 0],.bool false])) (lF bD (fun s=>[isV _,isV _,isV _,isV _]) rfl rfl Lb (fun _=>aU rfl) (fun s=>⟨bZ (aO 5 (dF rfl rfl (aB rfl rfl rfl))),bZ (aO 11 (dF rfl rfl (aB rfl rfl rfl))),bZ (aO 12 (dF rfl rfl (aB rfl rfl rfl))),fL,trivial⟩) (fun vs s w' hk hw hlo hh=>by have e:=cB (us:=[_,_,_,_]) hh;subst e;exact rpl_gN0 (if_pos (by simp at hlong;omega)) (vH r.q p r.wa _ r.wl r.wc wl wc 1 r.ws (y::t) _ (hri.1.below hw.below) hri.2.1 (hrow.below hw.below) hlen (by omega) hcap (by omega) (by omega))) (aH rfl)) ?_
    refine aY 15 rfl (isV _) (syV bD [(46,_)] rfl rfl (fun _=>(aU rfl)) (fun _=>⟨aO 13 (dF rfl rfl (aB rfl rfl rfl)),trivial⟩) (fun s w hw=>bE rfl) (aH rfl)) (aY 16 rfl (isV _) (syV bD [(32,_)] rfl rfl (fun _=>(aU rfl)) (fun _=>⟨aO 14 (dF rfl rfl (aB rfl rfl rfl)),trivial⟩) (fun s w hw=>gU rfl rfl) (aH rfl)) (aY 17 rfl (isV _) (syV bD [(32,_)] rfl rfl (fun _=>(aU rfl)) (fun _=>⟨aO 14 (dF rfl rfl (aB rfl rfl rfl)),trivial⟩) (fun s w hw=>gU rfl rfl) (aH rfl)) (aY 18 rfl (An W.heap.size) (F9 ⟨17,36,[.int .i64 0,.slice none 0 0],18⟩ rfl rfl zeroValue36 List.mem_cons_self rfl rfl rfl (.inl (by kernel_rfl)) (by decide) rfl (fun _ _=>rfl) (aH rfl)) ?_)))
    refine aY 19 rfl (isV _) (Ga (jy:=15) (m:=2) ⟨17,36,[.int .i64 0,.slice none 0 0],18⟩ rfl rfl List.mem_cons_self rfl rfl (by kernel_rfl) (aB rfl rfl rfl) (by kernel_rfl) (aB rfl rfl rfl) (aH rfl) sizeOf36 rfl (fun v w h=>by subst h;exact ⟨_,rfl,rfl,rfl⟩) (by decide) rfl (fun _ _=>rfl)) ?_
    refine oH ?_
    intro s4 W4 Ks4 hall4 hsz4 hKs4 hS' hcov4 hfx4 hno4
    obtain ⟨v4_17,h4_17⟩:=hall4 17 rfl
    obtain ⟨v4_18,h4_18⟩:=hall4 18 rfl
    have f4_17:AwS _ _ (An W.heap.size) _ _:=hfx4 17 rfl _ h4_17
    obtain ⟨B4_17,rfl,hB4_17⟩:=f4_17.here
    have f4_18:AwS _ _ (isV _) _ _:=hfx4 18 rfl _ h4_18
    obtain rfl:=f4_18.here
    clear hS;have hS:=hS'.castO (O':=[(B4_17,_,36),_,_]) (by simp only [OY,mK,AB.cs,h4_17,h4_18];rfl);clear hS'
    refine nM (L':=[AwS _ _ (isV _),AwS _ _ (isV _),AwS _ _ (isV _),AwS _ _ (isV _),AwS _ _ (isV _),AwS _ _ (isV _),AwS _ _ (isV _),AwS _ _ (isV _),AwS _ _ (isV _),AwS _ _ (isV _),AwS _ _ (isV _),AwS _ _ (isV _),AwS _ _ (isV _),AwS _ _ (isV (.tuple #[.agg #[.int .i64 0,.slice none 0 0],.bool false])),AwS _ _ (isV _),AwS _ _ (isV _),AwS _ _ (isV _),isE s4 17,isE s4 18]) rfl (bP (bP (bP (bP (bP (bP (bP (bP (bP (bP (bP (bP (bP (bP (bP (bP (bP ?_)))))))))))))))))
    refine cW ?_;intro u hu;obtain rfl:=Option.some.inj (h4_17.symm.trans hu);clear hu
    refine Kt (cL (aA rfl rfl (aQ (XF.thenN (aL (aL (aR (aG rfl rfl (eA rfl rfl (aQ (XF.thenN (aZ rfl (fun hc=>?_) (fun hc=>absurd hc (by decide))))))))))))))
    skip
    refine aL (aR (aA rfl rfl (aA rfl rfl (aA rfl rfl (aQ (XF.thenN (bJ (XF.thenR (XF.blkR (XF.thenR (XF.thenR (XF.blkR (XF.thenR (XF.res (Di results29 rfl rfl rfl) ?_))))))))))))))
    exact Rg (by rw [← hrun];rfl) hS.below
   ·rw [if_neg hlong] at hrun
    have hsz8:=hS.below.size
    have k3:w.cell? ⟨b,off+nn * 10+2,none⟩=some (.int .i64 r.q):=hcs.2.2.1
    have k4:w.cell? ⟨b,off+nn * 10+3,none⟩=some (.slice r.wa r.wl r.wc):=hcs.2.2.2.1
    refine Iu (al:=[⟨17,36,[.int .i64 0,.slice none 0 0],18⟩]) (G:=fun _=>[⟨v8,acc.length,(acc.map (·.1)).map (Value.int .i64),3,1⟩,⟨v9,cs.length,cs.flatMap pN,36,2⟩]) (E:=[17,18]) (k:=19) (ds:=[12]) cE rfl hS rfl rfl (by kernel_rfl) (by kernel_rfl) rfl (by decide) rfl (aY 1 rfl (isV _) (syV bD [(2,_)] rfl rfl (fun _=>(aU rfl)) (fun _=>⟨cI rfl,trivial⟩) (fun s w hw=>aW (o':=0) wK rfl rfl) (aH rfl)) (aY 2 rfl (isV _) (syV bD [(33,_)] rfl rfl (fun _=>(aU rfl)) (fun _=>⟨aO 0 (dF rfl rfl (aB rfl rfl rfl)),trivial⟩) (fun s w hw=>bA isAgg26 rfl ((aK (hw.at_ 1 rfl) rfl))) (aH rfl)) (aY 3 rfl (isV _) (syV bD [(10,_)] rfl rfl (fun _=>(aU rfl)) (fun _=>⟨cI rfl,trivial⟩) (fun s w hw=>bE rfl) (aH rfl)) (aY 4 rfl (isV _) (syV bD [(34,_),(35,_)] rfl rfl (fun _=>(aU rfl)) (fun _=>⟨aO 1 (dF rfl rfl (aB rfl rfl rfl)),aO 2 (dF rfl rfl (aB rfl rfl rfl)),trivial⟩) (fun s w hw=>bB (j:=nn) underlying26 sizeOf62 rfl rfl (rfl) (by omega) rfl) (aH rfl)) (aY 5 rfl (isV _) (syV bD [(36,_)] rfl rfl (fun _=>(aU rfl)) (fun _=>⟨aO 3 (dF rfl rfl (aB rfl rfl rfl)),trivial⟩) (fun s w hw=>aW qJ rfl rfl) (aH rfl)) (aY 6 rfl (isV _) (syV bD [(37,_)] rfl rfl (fun _=>(aU rfl)) (fun _=>⟨aO 4 (dF rfl rfl (aB rfl rfl rfl)),trivial⟩) (fun s w hw=>bA isAgg3 rfl (hw.agree.cell (Nat.zero_le _) (k3))) (aH rfl)) (aY 7 rfl (isV _) (syV bD [(2,_)] rfl rfl (fun _=>(aU rfl)) (fun _=>⟨cI rfl,trivial⟩) (fun s w hw=>aW (o':=0) wK rfl rfl) (aH rfl)) (aY 8 rfl (isV _) (syV bD [(39,_)] rfl rfl (fun _=>(aU rfl)) (fun _=>⟨aO 6 (dF rfl rfl (aB rfl rfl rfl)),trivial⟩) (fun s w hw=>bA isAgg26 rfl ((aK (hw.at_ 1 rfl) rfl))) (aH rfl)) (aY 9 rfl (isV _) (syV bD [(10,_)] rfl rfl (fun _=>(aU rfl)) (fun _=>⟨cI rfl,trivial⟩) (fun s w hw=>bE rfl) (aH rfl)) (aY 10 rfl (isV _) (syV bD [(40,_),(41,_)] rfl rfl (fun _=>(aU rfl)) (fun _=>⟨aO 7 (dF rfl rfl (aB rfl rfl rfl)),aO 8 (dF rfl rfl (aB rfl rfl rfl)),trivial⟩) (fun s w hw=>bB (j:=nn) underlying26 sizeOf62 rfl rfl (rfl) (by omega) rfl) (aH rfl)) (aY 11 rfl (isV _) (syV bD [(42,_)] rfl rfl (fun _=>(aU rfl)) (fun _=>⟨aO 9 (dF rfl rfl (aB rfl rfl rfl)),trivial⟩) (fun s w hw=>aW iC rfl rfl) (aH rfl)) (aY 12 rfl (isV _) (syV bD [(43,_)] rfl rfl (fun _=>(aU rfl)) (fun _=>⟨aO 10 (dF rfl rfl (aB rfl rfl rfl)),trivial⟩) (fun s w hw=>bA isAgg29 rfl (hw.agree.cell (Nat.zero_le _) (k4))) (aH rfl)) (aY 13 rfl (isV _) (syV bD [(3,_)] rfl rfl (fun _=>(aU rfl)) (fun _=>⟨cI rfl,trivial⟩) (fun s w hw=>bF (vs:=[_,_]) isAgg36 sizeOf36 rfl ((aE.own (j:=0) (m:=2) (hw.at_ 0 rfl) rfl))) (aH rfl)) ?_)))))))))))))
    refine aY 14 rfl (mT W.heap.size r.q (r.ws++t)) (lF bD (fun s=>[isV _,isV _,isV _,isV _]) rfl rfl Lb (fun _=>aU rfl) (fun s=>⟨bZ (aO 5 (dF rfl rfl (aB rfl rfl rfl))),bZ (aO 11 (dF rfl rfl (aB rfl rfl rfl))),bZ (aO 12 (dF rfl rfl (aB rfl rfl rfl))),fL,trivial⟩) (fun vs s w' hk hw hlo hh=>by have e:=cB (us:=[_,_,_,_]) hh;subst e;exact rpl_gN hlo (by rw [if_neg (by simp at hlong;omega)];rfl) (vH r.q p r.wa _ r.wl r.wc wl wc 1 r.ws (y::t) _ (hri.1.below hw.below) hri.2.1 (hrow.below hw.below) hlen (by omega) hcap (by omega) (by omega))) (aH rfl)) ?_
    refine aY 15 rfl (mT W.heap.size r.q (r.ws++t)) (syP (q:=mT W.heap.size r.q (r.ws++t)) 13 46 rfl rfl (by kernel_rfl) (aB rfl rfl rfl) qM (aH rfl)) (aY 16 rfl (iD W.heap.size r.q (r.ws++t)) (syP (q:=iD W.heap.size r.q (r.ws++t)) 14 32 rfl rfl (by kernel_rfl) (aB rfl rfl rfl) (gZ isRpl_0) (aH rfl)) (aY 17 rfl (isV (.bool true)) (syP (q:=isV (.bool true)) 14 32 rfl rfl (by kernel_rfl) (aB rfl rfl rfl) (gZ isRpl_1) (aH rfl)) (aY 18 rfl (An W.heap.size) (F9 ⟨17,36,[.int .i64 0,.slice none 0 0],18⟩ rfl rfl zeroValue36 List.mem_cons_self rfl rfl rfl (.inl (by kernel_rfl)) (by decide) rfl (fun _ _=>rfl) (aH rfl)) ?_)))
    refine aY 19 rfl (iD W.heap.size r.q (r.ws++t)) (Ga (jy:=15) (m:=2) ⟨17,36,[.int .i64 0,.slice none 0 0],18⟩ rfl rfl List.mem_cons_self rfl rfl (by kernel_rfl) (aB rfl rfl rfl) (by kernel_rfl) (aB rfl rfl rfl) (aH rfl) sizeOf36 rfl (fun v w ⟨a,c,h,_⟩=>by subst h;exact ⟨_,rfl,rfl,rfl⟩) (by decide) rfl (fun _ _=>rfl)) ?_
    refine oH ?_
    intro s5 W5 Ks5 hall5 hsz5 hKs5 hS' hcov5 hfx5 hno5
    obtain ⟨v5_17,h5_17⟩:=hall5 17 rfl
    obtain ⟨v5_18,h5_18⟩:=hall5 18 rfl
    have f5_17:AwS _ _ (An W.heap.size) _ _:=hfx5 17 rfl _ h5_17
    obtain ⟨B5_17,rfl,hB5_17⟩:=f5_17.here
    have f5_18:AwS _ _ (iD W.heap.size r.q (r.ws++t)) _ _:=hfx5 18 rfl _ h5_18
    obtain ⟨aD,cD,rfl,hnD⟩:=f5_18.here
    clear hS;have hS:=hS'.castO (O':=[(B5_17,_,36),_,_]) (by simp only [OY,mK,AB.cs,h5_17,h5_18];rfl);clear hS'
    have HD:jJ w Ks5 (fun W2=>fT _ W2 aD cD (r.ws++t)):=fun h2 hk=>Jg (f5_18 _ (hcov5 h2 hk))
    refine nM (L':=[AwS _ _ (isV _),AwS _ _ (isV _),AwS _ _ (isV _),AwS _ _ (isV _),AwS _ _ (isV _),AwS _ _ (isV _),AwS _ _ (isV _),AwS _ _ (isV _),AwS _ _ (isV _),AwS _ _ (isV _),AwS _ _ (isV _),AwS _ _ (isV _),AwS _ _ (isV _),AwS _ _ (mT W.heap.size r.q (r.ws++t)),AwS _ _ (mT W.heap.size r.q (r.ws++t)),AwS _ _ (iD W.heap.size r.q (r.ws++t)),AwS _ _ (isV (.bool true)),isE s5 17,isE s5 18]) rfl (bP (bP (bP (bP (bP (bP (bP (bP (bP (bP (bP (bP (bP ?_)))))))))))))
    refine cW ?_;intro _ _
    refine cW ?_;intro _ _
    refine cW ?_;intro _ _
    refine bP ?_
    refine cW ?_;intro u hu;obtain rfl:=Option.some.inj (h5_17.symm.trans hu);clear hu
    refine Kt (cL (aA rfl rfl (aQ (XF.thenN (aL (aL (aR (aG rfl rfl (eA rfl rfl (aQ (XF.thenN (aZ rfl (fun hc=>absurd hc (by decide)) (fun hc=>?_)))))))))))))
    skip
    refine bG (XF.thenN (regCF (Gs:=gsC _ [(0,fun v=>⟨v,acc.length+1,(acc.map (·.1)).map (Value.int .i64)++[.int .i64 (nn:Int)],3,1⟩)]) (efs:=[3]) (k:=7) (ds:=[7,8,58]) cE rfl hS rfl (by kernel_rfl) (by kernel_rfl) rfl (by decide) rfl rfl (fO 1 rfl rfl (isV _) (fun hNo=>Gd bD [(7,_)] rfl rfl hNo (aU rfl) ⟨cI rfl,trivial⟩ (fun s w hw=>bE rfl) (aH rfl)) (fO 2 rfl rfl (isV _) (fun hNo=>Gd bD [(10,_)] rfl rfl hNo (aU rfl) ⟨cI rfl,trivial⟩ (fun s w hw=>bE rfl) (aH rfl)) (fO 3 rfl rfl (gR W5.heap.size 1 3 _) (fun hNo=>tR bD (us:=[.int .i64 _]) rfl rfl hNo (aU rfl) underlying29 sizeOf3 zeroValue3 rfl rfl ⟨bZ (aO 1 (aB rfl rfl rfl)),trivial⟩ (qI _) (aH rfl)) ?_)))))
    refine Gg 4 rfl (Ky (efs:=[3]) (jy:=2) (m:=1) bD 0 0 [(51,_)] rfl rfl (by decide) rfl (fun j hj=>by simp at hj;subst hj;rfl) underlying29 qZ rfl rfl (by show 0 < 1;decide) (hg0 rfl) (hgs0 (fun _=>rfl)) ⟨aO 0 (aB rfl rfl rfl),trivial⟩ rfl (by kernel_rfl) rfl rfl rfl rfl (by simp only [maxLen];omega) (by show (acc.length+1) * 8≤_;omega)) ?_
    refine fO 5 rfl rfl (isV _) (fun hNo=>Gd bD [(8,_)] rfl rfl hNo (aU rfl) ⟨cI rfl,trivial⟩ (fun s w hw=>bE rfl) (aH rfl)) (fO 6 rfl rfl (isV _) (fun hNo=>Gd bD [(11,_)] rfl rfl hNo (aU rfl) ⟨cI rfl,trivial⟩ (fun s w hw=>bF (vs:=[_,_]) isAgg36 sizeOf36 rfl ((aE.own (j:=0) (m:=2) (hw.at_ 0 rfl) rfl))) (aH rfl)) (fO 7 rfl rfl (gR W5.heap.size 1 36 _) (fun hNo=>tR bD (us:=[.agg (List.toArray [_,_])]) rfl rfl hNo (aU rfl) underlying71 sizeOf36 zeroValue36 rfl rfl ⟨bZ (aO 5 (aB rfl rfl rfl)),trivial⟩ (Kz _ _) (aH rfl)) (Gf ?_)))
    intro s6 W6 Ks6 hlen6 hsz6 hKs6 hS' hcov6
    obtain ⟨v6_3,rfl⟩:=List.length_eq_one_iff.1 hlen6
    clear hS;have hS:=hS'.castG (G':=[_,_]) rfl;clear hS'
    refine nM (L':=[AwS _ _ (isV _),AwS _ _ (isV _),AwS _ _ (gR W5.heap.size 1 3 _),isV _,AwS _ _ (isV _),AwS _ _ (isV _),AwS _ _ (gR W5.heap.size 1 36 _)]) rfl (bP (bP ?_))
    refine cW ?_;rintro _ hA6_2;obtain ⟨BR2,rfl,hlo2,hrow2⟩:=hA6_2.here
    refine aI (bP (bP ?_))
    refine cW ?_;rintro _ hA6_6;obtain ⟨BR6,rfl,hlo6,hrow6⟩:=hA6_6.here
    refine cL ?_
    refine iO (i:=1) (news:=[.int .i64 r.q,.slice aD (r.ws++t).length cD]) hS underlying71 Q2 rfl rfl (by show 0 < 2;decide) rfl rfl rfl rfl rfl (Qy hrow6) (rfl) (fun u hu=>by simp at hu;rcases hu with rfl | rfl<;>rfl) (by dsimp only;simp only [maxLen];omega) (by dsimp only;show (cs.length+1) * 32≤_;omega) rfl fun v7 W7 hS=>?_
    refine aA rfl rfl (aA rfl rfl (aQ (XF.blkN (XF.thenN (aR (cR rfl rfl (IntWalk.i64_in _ (by omega)) rfl (aG rfl rfl (aQ ?_))))))))
    exact XF.round (ll - (i+1)) [(2,_),(3,_),(7,_),(8,_),(26,_),(27,_),(28,_)] (by omega) ⟨rfl,rfl,rfl,rfl,rfl,rfl,rfl,trivial⟩ ⟨i+1,_,_,acc++[((nn:Int),r.q,r.ws++t)],cs++[⟨r.q,aD,(r.ws++t).length,cD,r.ws++t⟩],_,by omega,rfl,rfl,by rw [← hrun,Option.map_map];congr 1;funext z;simp,by simp;omega,by simp [hcs9,CV.pl],(fun h2 hk c hc=>by
      rcases List.mem_append.1 hc with hc | hc
      ·exact hX h2 (fun q hq=>hk q (by simp [hq])) c hc
      ·simp at hc;subst hc
       exact ⟨(HD h2 (fun q hq=>hk q (by simp [hq]))).mono hsz8,by simp⟩),hS.tail.castG (by simp [pN])⟩
  ·have hc29:=of_decide_eq_false hc;clear hc
   rw [List.drop_of_length_le (by omega)] at hrun
   refine dE (XF.thenX (XF.thenX (XF.blkX (XF.thenN (aL (aR (aG rfl rfl (aG rfl rfl (aA rfl rfl (aA rfl rfl (aA rfl rfl (aQ (XF.thenN (bJ (XF.res (Di results29 rfl rfl rfl) ?_)))))))))))))))
   exact As (by rw [← hrun];simp [goL]) (by have:=hS.row 0 rfl;exact this) ⟨cs,hS.row 1 rfl,hcs9,hX.now hS⟩ hS.below
section
variable {P:Program} {ops opf:Array Oper} {Q:Exit→Act→World→Prop} {n:Nat} {l:Fr} {w0 W:World} {K:List (Nat×World)} {lo:Nat} {al:List AB} {Ob:Own} {G:Sy→cY} {E:List Nat} {L:List Asr} {i:Nat}
variable {d:Nat} {op:Op} {ty:TypeId} {pos:String} {aft_:Array Edge} {v:Value} {gd:Option (Nat×Bool)}
theorem sy_rowV {T e:TypeId} {m sz:Nat} {xs:List (Nat×Operand)} {us:List Value} {z:Value} {cs:List Value} (hf0:Fst ops opf) (hie:E.contains i=false) (hi:ops[i]?=some ⟨some d,.buildSlice T m xs.toArray,ty,pos,aft_,gd⟩) (hw:∀ s,gG ops (LS E s 0 L) i ⟨some d,.buildSlice T m xs.toArray,ty,pos,aft_,gd⟩)
  (hU:P.underlying T=some (.slice e)) (hs:∀ w,(sizeOf e).run P w = .ok sz w) (hz:∀ w,(zeroValue e).run P w = .ok z w) (hm:Nat.ble (m * sz) 16777216=true) (hm0:Nat.beq (m * sz) 0=false) (hp:∀ s,uJ n opf l (LS E s 0 L) i (xs.map (·.2)) (us.map isV))
  (hf:Instr.fill (fun i=>some (i * sz,sz)) ((Array.range (m * sz)).map (z.cells[· % z.cells.size]!)) ((xs.map (·.1)).zip us)=some cs.toArray) (hI:atI L i=gR lo m e cs):SY P n ops opf Q l w0 K lo al Ob G E L i :=
 qK hie hi fun t0 a s w h0 hF hG hk hD hD'=>by
  have hv:=cB (gW h0 hF (fun j d h=>hD' j d (hf0.waits h)) (hp s))
  have h4:m * sz≤16777216:=Nat.le_of_ble_eq_true hm
  have h5:m * sz≠0:=fun e=>by rw [e] at hm0;cases hm0
  have h6:¬ (m * sz > 2 ^ 24):=by omega
  have h7:xs.map (fun p=>(p.1,a.eval p.2))=(xs.map (·.1)).zip us:=by
   rw [← hv]
   clear hi hw hp hv hf
   induction xs with
   | nil=>rfl
   | cons x xs ih=>simp only [List.map_cons,List.zip_cons_cons,← ih]
  have hB:Below w.heap.size w (w.alloc (.cells cs.toArray e)):=(Below.refl _ _).alloc (Nat.le_refl _) _
  refine gY hi ((hw s).yes hD') (v:=.slice (some ⟨w.heap.size,0,none⟩) m m) (w':=w.alloc (.cells cs.toArray e)) ?_ ⟨_,rfl,?_,hB⟩
  ·unfold execOp
   simp only []
   rw [show (Array.map (fun p=>(p.1,a.eval p.2)) xs.toArray)=(xs.map (fun p=>(p.1,a.eval p.2))).toArray by simp,h7]
   simp only [Instr.buildSlice,Sem.run_bind,run_underlying hU,Result.andThen_ok,hs,if_neg h6,if_neg h5,hz,Sem.run_pure,hf,newRow,run_newObj_alloc]
  ·rw [hI]
   intro w2 h2
   have hnew:=heap_alloc_new w (.cells cs.toArray e)
   refine ⟨w.heap.size,rfl,hG.2,(h2.2.2 _ hG.2 (cQ hnew) (fun hx=>?_)).trans hnew⟩
   rcases hx with ⟨q,hq,e1⟩ | ⟨g,hg,hgb⟩
   ·have:=cQ (hG.1.own q hq).2;omega
   ·have:=(hG.1.glt hg hgb).2;omega
end
theorem Ld:bW prog 28=true:=by kernel_rfl
theorem Le:bW prog 29=true:=by kernel_rfl
theorem ite9 {c x:Int} {p:Prop} [Decidable p] (h:(if p then x else c)=0) (hx:x≠0):¬ p∧c=0:=by
 by_cases hp:p
 ·rw [if_pos hp] at h;exact absurd h hx
 ·rw [if_neg hp] at h;exact ⟨hp,h⟩
theorem Dp {x n m:Int} (h:inQ x n=true) (hn:n≤m):0≤x∧x≤m:=by
 unfold inQ at h
 rw [Bool.and_eq_true,decide_eq_true_eq,decide_eq_true_eq] at h
 omega
structure StepOk (p:PV) (c:CV):Prop where
 rl:p.rl≤16384
 key:Keyed p.rs
 w4:∀ r∈p.rs,r.wl≤4096
 p:0≤c.p∧c.p≤1000000
 cw:c.wl≤4096
 ws:∀ y∈c.ws,0≤y∧y≤1000000
theorem Ri {p:PV} {c:CV} (h:stepE p c=0):StepOk p c:=by
 unfold stepE at h
 by_cases h0:gX p=0
 ·rw [if_neg (not_not_intro h0)] at h
  have hc:gH p c=true:=by
   by_cases h2:gH p c=true
   ·exact h2
   ·rw [if_neg h2] at h;cases h
  unfold gX at h0
  by_cases h1:eI p.s=0
  ·rw [if_neg (not_not_intro h1)] at h0
   obtain ⟨h2,h0⟩:=ite9 h0 (by decide)
   obtain ⟨h3,h0⟩:=ite9 h0 (by decide)
   have hall:p.rs.all (fB p.st p.sy)=true:=by
    by_cases h4:p.rs.all (fB p.st p.sy)=true
    ·exact h4
    ·rw [if_neg h4] at h0;cases h0
   have hst:p.st≤1000000:=by omega
   have hsy:p.sy≤1000000:=by omega
   unfold gH at hc
   rw [Bool.and_eq_true,Bool.and_eq_true,decide_eq_true_eq] at hc
   refine ⟨by omega,fun r hr=>?_,fun r hr=>?_,Dp hc.1 hst,hc.2.1,fun y hy=>Dp (List.all_eq_true.1 hc.2.2 y hy) hsy⟩
   ·have:=List.all_eq_true.1 hall r hr
    unfold fB at this
    simp only [Bool.and_eq_true] at this
    exact ⟨Dp this.1 hst,Dp this.2.2.1 hsy⟩
   ·have:=List.all_eq_true.1 hall r hr
    unfold fB at this
    simp only [Bool.and_eq_true,decide_eq_true_eq] at this
    exact this.2.2.2.1
  ·rw [if_pos h1] at h0;exact absurd h0 h1
 ·rw [if_pos h0] at h;exact absurd h h0
def nxE (R:Option NxL) (E:Int):NxL×Int:=if E≠0 then ([],E) else match R with
 | none=>([],2)
 | some l=>(l,0)
def NxU (X:NxL×Int) (w:World) (e:Ending) (w':World):Prop:=∃ v8 v9:Value,e = .returned (.tuple #[v8,v9,.int .i64 X.2])∧dN w.heap.size X.1 v8 w'∧eF w.heap.size X.1 v9 w'∧Below w.heap.size w w'
theorem Dq {R:Option NxL} {E c:Int} {w w':World} (h:nxE R E=([],c)) (hb:Below w.heap.size w w'):NxU (nxE R E) w (.returned (.tuple #[.slice none 0 0,.slice none 0 0,.int .i64 c])) w':=by
 rw [h]
 exact ⟨_,_,rfl,World.ownsRow_nil _ _ _ _,⟨[],World.ownsRow_nil _ _ _ _,rfl,fun c hc=>by cases hc⟩,hb⟩
theorem Lf {R:Option NxL} {E:Int} (h:E≠0):nxE R E=([],E):=by unfold nxE;rw [if_pos h]
theorem yP {R:Option NxL} {E:Int} (h:E=0) (hR:R=none):nxE R E=([],2):=by unfold nxE;rw [if_neg (not_not_intro h),hR]
theorem Gt {R:Option NxL} {E:Int} {l:NxL} (h:E=0) (hR:R=some l):nxE R E=(l,0):=by unfold nxE;rw [if_neg (not_not_intro h),hR]
theorem Lg {R:Option NxL} {E:Int} {l:NxL} {w w':World} {v8 v9:Value} (h:E=0) (hR:R=some l) (h1:dN w.heap.size l v8 w') (h2:eF w.heap.size l v9 w') (hb:Below w.heap.size w w'):NxU (nxE R E) w (.returned (.tuple #[v8,v9,.int .i64 0])) w':=by
 rw [Gt h hR];exact ⟨v8,v9,rfl,h1,h2,hb⟩
theorem nxU_ref {R:Option NxL} {E:Int} {w w':World} {e:Ending} (h:E=0) (hr:Dk R w e w'):NxU (nxE R E) w e w':=by
 cases R with
 | none =>
  obtain ⟨hb,he⟩:=hr
  have he:e = .returned (.tuple #[.slice none 0 0,.slice none 0 0,.int .i64 2]):=he
  subst he
  exact Dq (yP h rfl) hb
 | some l =>
  obtain ⟨hb,v8,v9,cs,he,h1,h2,h3,h4⟩:=hr
  subst he
  exact Lg h rfl h1 ⟨cs,h2,h3,h4⟩ hb
def yQ (ra:Option Addr) (rl rc:Nat) (lo:Nat) (rs:List RV):Asr:=fun v w=>∃ b,v = .agg #[.slice ra rl rc,.map (some b)]∧GrpT lo rs b w
theorem Gu {P:Program} {f:FuncId} {vs:Array Value} {w:World} {ra:Option Addr} {rl rc lo:Nat} {rs:List RV} (hlo:lo≤w.heap.size) (h:Calls P f vs w fun e w'=>∃ b,e = .returned (.agg #[.slice ra rl rc,.map (some b)])∧w.heap.size≤b∧GrpT w.heap.size rs b w'∧Below w.heap.size w w'):Calls P f vs w (lV (yQ ra rl rc lo rs) w) :=
 h.mono fun e w2 ⟨b,he,hl,hg,hb⟩=>⟨_,he,fun w3 h3=>⟨b,rfl,Grp.lower (Grp.same hg (fun h1=>h3.2 b hl h1) (fun p h0 h1=>h3.2 p h0 h1)) hlo⟩,hb⟩
def kS (lo:Nat) (l:NxL):Asr:=fun v w=>∃ v8 v9:Value,v = .tuple #[v8,v9,.bool true]∧dN lo l v8 w∧eF lo l v9 w
theorem mv_gN {P:Program} {f:FuncId} {vs:Array Value} {w:World} {R:Option NxL} {l:NxL} {lo:Nat} (hlo:lo≤w.heap.size) (hR:R=some l) (h:Calls P f vs w (Gr R w)):Calls P f vs w (lV (kS lo l) w):=by
 subst hR
 exact h.mono fun e w2 ⟨hb,v8,v9,he,h1,h2⟩=>⟨_,he,fun w3 hg=>⟨v8,v9,rfl,pP (lG h1 hg) hlo,pQ (tT h2 hg) hlo⟩,hb⟩
theorem mv_gN0 {P:Program} {f:FuncId} {vs:Array Value} {w:World} {R:Option NxL} (hR:R=none) (h:Calls P f vs w (Gr R w)):Calls P f vs w (lV (isV (.tuple #[.slice none 0 0,.slice none 0 0,.bool false])) w):=by
 subst hR
 exact h.mono fun e w2 ⟨hb,he⟩=>⟨_,he,fun _ _=>rfl,hb⟩
theorem iT {P:Program} {p:Asr} {d td:Nat} {ty:TypeId} {pos:String}:∀ (ev:Operand→Value) (w:World),p (ev (.tmp td)) w→∃ v,(execOp ev ⟨some d,.assign (.tmp td),ty,pos,#[],none⟩).run P w = .ok (.value v) w∧∀ w2,p (ev (.tmp td)) w2→p v w2:=fun ev w h=>⟨ev (.tmp td),by unfold execOp;rfl,fun _ h=>h⟩
theorem isMv_0 {lo:Nat} {l:NxL}:∀ v w,kS lo l v w→∃ (vs:Array Value) (u:Value),v = .tuple vs∧vs[0]?=some u∧∀ w2,kS lo l v w2→dN lo l u w2:=fun v w ⟨a,c,e,h1,h2⟩=>by
 subst e
 exact ⟨_,_,rfl,rfl,fun w2 ⟨a2,c2,e2,h3,h4⟩=>by rw [(tU e2).1];exact h3⟩
theorem isMv_1 {lo:Nat} {l:NxL}:∀ v w,kS lo l v w→∃ (vs:Array Value) (u:Value),v = .tuple vs∧vs[1]?=some u∧∀ w2,kS lo l v w2→eF lo l u w2:=fun v w ⟨a,c,e,h1,h2⟩=>by
 subst e
 exact ⟨_,_,rfl,rfl,fun w2 ⟨a2,c2,e2,h3,h4⟩=>by rw [(tU e2).2.1];exact h4⟩
theorem isMv_2 {lo:Nat} {l:NxL}:∀ v w,kS lo l v w→∃ (vs:Array Value) (u:Value),v = .tuple vs∧vs[2]?=some u∧∀ w2,kS lo l v w2→isV (.bool true) u w2:=fun v w ⟨a,c,e,h1,h2⟩=>by
 subst e
 exact ⟨_,_,rfl,rfl,fun w2 _=>rfl⟩
theorem nextA_c (ds d:Nat) (s:SV) (st sy:Int) (ra:Option Addr) (rl rc:Nat) (rs:List RV) (p:Int) (wa:Option Addr) (wl wc:Nat) (ws:List Int) (w:World) (hs:SIn w ds s) (hprow:lD w ra rs) (hplen:rs.length=rl) (hin:∀ r∈rs,RIn w d r) (hrow:Row w wa ws) (hlen:ws.length=wl) (hcap:wl≤wc) :
  Calls prog 16 #[.agg #[.int .i64 s.f.tag,.int .i64 s.f.dim,.slice s.f.a s.f.len s.f.cap,.int .i64 st,.int .i64 sy,.slice ra rl rc],.agg #[.int .i64 p,.slice wa wl wc]] w (NxU (nxE (eS p ws rs 0) (stepE ⟨s,st,sy,ra,rl,rc,rs⟩ ⟨p,wa,wl,wc,ws⟩)) w):=by
 refine cH (args:=[.agg #[.int .i64 s.f.tag,.int .i64 s.f.dim,.slice s.f.a s.f.len s.f.cap,.int .i64 st,.int .i64 sy,.slice ra rl rc],.agg #[.int .i64 p,.slice wa wl wc]]) func16 rfl ntmps16 rfl ?_
 have hS:=St.start w
 refine aL (aR (bK (cs:=[_,_,_,_,_,_]) hS rfl rfl rfl fun B1 W1 hS=>bK (cs:=[_,_]) hS rfl rfl rfl fun B2 W2 hS=>aA rfl rfl (aA rfl rfl (aA rfl rfl (aQ (XF.thenN (aL (aL (aR (aS (vs:=[_,_,_,_,_,_]) isAgg28 sizeOf28 rfl (aE.own (j:=0) (m:=6) (hS.at_ 1 rfl) rfl) rfl (aS (vs:=[_,_]) isAgg36 sizeOf36 rfl (aE.own (j:=0) (m:=2) (hS.at_ 0 rfl) rfl) rfl (cF (vs:=[_,_]) hS Cw rfl (xV ds d ⟨s,st,sy,ra,rl,rc,rs⟩ ⟨p,wa,wl,wc,ws⟩ _ (PvIn.below ⟨hs,hprow,hplen,hin⟩ hS.below) (CIn.below ⟨hrow,hlen⟩ hS.below)) rfl fun W3 hS=>aA rfl rfl (aQ (XF.thenN (aL (aR (aG rfl rfl (dA rfl rfl rfl (aQ (XF.thenN (aZ rfl (fun hc=>?_) (fun hc=>?_))))))))))))))))))))))
 ·have hc15:=of_decide_eq_true hc;clear hc
  refine aL (aR (aG rfl rfl (aA rfl rfl (aA rfl rfl (aA rfl rfl (aQ (XF.thenN (bJ (XF.thenR (XF.res (Di results16 rfl rfl rfl) ?_))))))))))
  exact Dq (Lf hc15) hS.below
 ·have hc15:=of_decide_eq_false hc;clear hc
  have hE:stepE ⟨s,st,sy,ra,rl,rc,rs⟩ ⟨p,wa,wl,wc,ws⟩=0:=Decidable.of_not_not hc15
  have ok:=Ri hE
  have hok1:rl≤16384:=ok.rl
  have hok2:wl≤4096:=ok.cw
  refine bG (XF.thenN (aL ?_))
  rcases hR:(eS p ws rs 0) with _ | l9
  ·skip
   have hszA:=hS.below.size
   refine Iu (al:=[]) (G:=fun _=>[]) (E:=[]) (k:=10) (ds:=[10]) cE rfl hS rfl rfl (by kernel_rfl) (by kernel_rfl) rfl (by decide) rfl (aY 1 rfl (isV _) (syV bD [(2,_)] rfl rfl (fun _=>(aU rfl)) (fun _=>⟨cI rfl,trivial⟩) (fun s w hw=>bF (vs:=[_,_,_,_,_,_]) isAgg28 sizeOf28 rfl ((aE.own (j:=0) (m:=6) (hw.at_ 1 rfl) rfl))) (aH rfl)) ?_)
   refine aY 2 rfl (yQ ra rl rc W3.heap.size rs) (lF bD (fun s=>[isV _]) rfl rfl Ld (fun _=>aU rfl) (fun s=>⟨bZ (aO 0 (dF rfl rfl (aB rfl rfl rfl))),trivial⟩) (fun vs s w' hk hw hlo hh=>by have e:=cB (us:=[_]) hh;subst e;exact Gu hlo (Gp _ _ _ _ _ _ _ w' (hprow.below hw.below) hplen hok1 ok.key)) (aH rfl)) ?_
   refine aY 3 rfl (isV _) (syV bD [(3,_)] rfl rfl (fun _=>(aU rfl)) (fun _=>⟨cI rfl,trivial⟩) (fun s w hw=>bF (vs:=[_,_]) isAgg36 sizeOf36 rfl ((aE.own (j:=0) (m:=2) (hw.at_ 0 rfl) rfl))) (aH rfl)) ?_
   refine aY 4 rfl (isV (.tuple #[.slice none 0 0,.slice none 0 0,.bool false])) (lF bD (fun s=>[yQ ra rl rc W3.heap.size rs,isV _]) rfl rfl Le (fun _=>aU rfl) (fun s=>⟨bZ (aO 1 (dF rfl rfl (aB rfl rfl rfl))),bZ (aO 2 (dF rfl rfl (aB rfl rfl rfl))),trivial⟩) (fun vs s w' hk hw hlo hh=>by obtain ⟨v1,v2,rfl,⟨b9,rfl,hg9⟩,e2⟩:=rR hh;have e2:v2=_:=e2;subst e2;exact mv_gN0 hR (Lc _ _ _ _ _ _ _ _ _ _ _ w' (hprow.below hw.below) hplen (fun r hr=>⟨((hin r hr).below hw.below).row,(hin r hr).len,ok.w4 r hr⟩) hok1 hg9 (hrow.below hw.below) hlen hcap hok2 ok.p ok.ws)) (aH rfl)) ?_
   refine aY 5 rfl (isV _) (syV bD [(21,_)] rfl rfl (fun _=>(aU rfl)) (fun _=>⟨aO 3 (dF rfl rfl (aB rfl rfl rfl)),trivial⟩) (fun s w hw=>bE rfl) (aH rfl)) (aY 6 rfl (isV _) (syV bD [(17,_)] rfl rfl (fun _=>(aU rfl)) (fun _=>⟨aO 4 (dF rfl rfl (aB rfl rfl rfl)),trivial⟩) (fun s w hw=>gU rfl rfl) (aH rfl)) (aY 7 rfl (isV _) (syV bD [(17,_)] rfl rfl (fun _=>(aU rfl)) (fun _=>⟨aO 4 (dF rfl rfl (aB rfl rfl rfl)),trivial⟩) (fun s w hw=>gU rfl rfl) (aH rfl)) (aY 8 rfl (isV _) (syV bD [(17,_)] rfl rfl (fun _=>(aU rfl)) (fun _=>⟨aO 4 (dF rfl rfl (aB rfl rfl rfl)),trivial⟩) (fun s w hw=>gU rfl rfl) (aH rfl)) (aY 9 rfl (isV _) (syV bD [(22,_)] rfl rfl (fun _=>(aU rfl)) (fun _=>⟨aO 5 (dF rfl rfl (aB rfl rfl rfl)),trivial⟩) (fun s w hw=>eM rfl) (aH rfl)) (aY 10 rfl (isV _) (syV bD [(23,_)] rfl rfl (fun _=>(aU rfl)) (fun _=>⟨aO 6 (dF rfl rfl (aB rfl rfl rfl)),trivial⟩) (fun s w hw=>eM rfl) (aH rfl)) (oH ?_))))))
   intro s4 W4 Ks4 hall4 hsz4 hKs4 hS' hcov4 hfx4 hno4
   clear hS;have hS:=hS'.castO (O':=[_,_]) rfl;clear hS'
   refine nM (L':=[AwS _ _ (isV _),AwS _ _ (yQ ra rl rc W3.heap.size rs),AwS _ _ (isV _),AwS _ _ (isV (.tuple #[.slice none 0 0,.slice none 0 0,.bool false])),AwS _ _ (isV _),AwS _ _ (isV _),AwS _ _ (isV _),AwS _ _ (isV _),AwS _ _ (isV _),AwS _ _ (isV _)]) rfl (bP ?_)
   refine cW ?_;intro _ _
   refine bP (bP (bP (bP (bP (bP (bP (bP (cL (aA rfl rfl (aQ (XF.thenN (aL (aL (aR (aG rfl rfl (eA rfl rfl (aQ (XF.thenN (aZ rfl (fun hc=>?_) (fun hc=>absurd hc (by decide)))))))))))))))))))))
   skip
   refine aL (aR (aA rfl rfl (aA rfl rfl (aA rfl rfl (aQ (XF.thenN (bJ (XF.thenR (XF.res (Di results16 rfl rfl rfl) ?_)))))))))
   exact Dq (yP hE rfl) hS.below
  ·skip
   have hszA:=hS.below.size
   refine Iu (al:=[]) (G:=fun _=>[]) (E:=[]) (k:=10) (ds:=[10]) cE rfl hS rfl rfl (by kernel_rfl) (by kernel_rfl) rfl (by decide) rfl (aY 1 rfl (isV _) (syV bD [(2,_)] rfl rfl (fun _=>(aU rfl)) (fun _=>⟨cI rfl,trivial⟩) (fun s w hw=>bF (vs:=[_,_,_,_,_,_]) isAgg28 sizeOf28 rfl ((aE.own (j:=0) (m:=6) (hw.at_ 1 rfl) rfl))) (aH rfl)) ?_)
   refine aY 2 rfl (yQ ra rl rc W3.heap.size rs) (lF bD (fun s=>[isV _]) rfl rfl Ld (fun _=>aU rfl) (fun s=>⟨bZ (aO 0 (dF rfl rfl (aB rfl rfl rfl))),trivial⟩) (fun vs s w' hk hw hlo hh=>by have e:=cB (us:=[_]) hh;subst e;exact Gu hlo (Gp _ _ _ _ _ _ _ w' (hprow.below hw.below) hplen hok1 ok.key)) (aH rfl)) ?_
   refine aY 3 rfl (isV _) (syV bD [(3,_)] rfl rfl (fun _=>(aU rfl)) (fun _=>⟨cI rfl,trivial⟩) (fun s w hw=>bF (vs:=[_,_]) isAgg36 sizeOf36 rfl ((aE.own (j:=0) (m:=2) (hw.at_ 0 rfl) rfl))) (aH rfl)) ?_
   refine aY 4 rfl (kS W3.heap.size l9) (lF bD (fun s=>[yQ ra rl rc W3.heap.size rs,isV _]) rfl rfl Le (fun _=>aU rfl) (fun s=>⟨bZ (aO 1 (dF rfl rfl (aB rfl rfl rfl))),bZ (aO 2 (dF rfl rfl (aB rfl rfl rfl))),trivial⟩) (fun vs s w' hk hw hlo hh=>by obtain ⟨v1,v2,rfl,⟨b9,rfl,hg9⟩,e2⟩:=rR hh;have e2:v2=_:=e2;subst e2;exact mv_gN hlo hR (Lc _ _ _ _ _ _ _ _ _ _ _ w' (hprow.below hw.below) hplen (fun r hr=>⟨((hin r hr).below hw.below).row,(hin r hr).len,ok.w4 r hr⟩) hok1 hg9 (hrow.below hw.below) hlen hcap hok2 ok.p ok.ws)) (aH rfl)) ?_
   refine aY 5 rfl (kS W3.heap.size l9) (syP (q:=kS W3.heap.size l9) 3 21 rfl rfl (by kernel_rfl) (aB rfl rfl rfl) qM (aH rfl)) (aY 6 rfl (dN W3.heap.size l9) (syP (q:=dN W3.heap.size l9) 4 17 rfl rfl (by kernel_rfl) (aB rfl rfl rfl) (gZ isMv_0) (aH rfl)) (aY 7 rfl (eF W3.heap.size l9) (syP (q:=eF W3.heap.size l9) 4 17 rfl rfl (by kernel_rfl) (aB rfl rfl rfl) (gZ isMv_1) (aH rfl)) (aY 8 rfl (isV (.bool true)) (syP (q:=isV (.bool true)) 4 17 rfl rfl (by kernel_rfl) (aB rfl rfl rfl) (gZ isMv_2) (aH rfl)) (aY 9 rfl (dN W3.heap.size l9) (syP (q:=dN W3.heap.size l9) 5 22 rfl rfl (by kernel_rfl) (aB rfl rfl rfl) iT (aH rfl)) (aY 10 rfl (eF W3.heap.size l9) (syP (q:=eF W3.heap.size l9) 6 23 rfl rfl (by kernel_rfl) (aB rfl rfl rfl) iT (aH rfl)) (oH ?_))))))
   intro s5 W5 Ks5 hall5 hsz5 hKs5 hS' hcov5 hfx5 hno5
   clear hS;have hS:=hS'.castO (O':=[_,_]) rfl;clear hS'
   refine nM (L':=[AwS _ _ (isV _),AwS _ _ (yQ ra rl rc W3.heap.size rs),AwS _ _ (isV _),AwS _ _ (kS W3.heap.size l9),AwS _ _ (kS W3.heap.size l9),AwS _ _ (dN W3.heap.size l9),AwS _ _ (eF W3.heap.size l9),AwS _ _ (isV (.bool true)),AwS _ _ (dN W3.heap.size l9),AwS _ _ (eF W3.heap.size l9)]) rfl (bP ?_)
   refine cW ?_;intro _ _
   refine bP ?_
   refine cW ?_;intro _ _
   refine cW ?_;intro _ _
   refine cW ?_;intro _ _
   refine cW ?_;intro _ _
   refine bP ?_
   refine cW ?_;intro v22 h22;have hn22:=pP h22.here hszA
   refine cW ?_;intro v23 h23;have hn23:=pQ h23.here hszA
   refine cL (aA rfl rfl (aQ (XF.thenN (aL (aL (aR (aG rfl rfl (eA rfl rfl (aQ (XF.thenN (aZ rfl (fun hc=>absurd hc (by decide)) (fun hc=>?_))))))))))))
   skip
   refine bG (XF.thenN (aL (aR (aG rfl rfl (aG rfl rfl (aA rfl rfl (aA rfl rfl (aA rfl rfl (aQ (XF.thenN (bJ (XF.res (Di results16 rfl rfl rfl) ?_))))))))))))
   exact Lg hE rfl hn22 hn23 hS.below
def lL (lo:Nat) (S:PS) (x:PX):Asr:=fun v w=>∃ b,v = .slice (some ⟨b,0,none⟩) 2 2∧jM lo w S (pH b) x
theorem mB {lo:Nat} {S:PS} {x:PX}:kY (lL lo S x):=fun v w w' ⟨b,h1,h2⟩ hb=>⟨b,h1,h2.below hb⟩
theorem has_one {b:Act} {v:Value} (h:b.eval (.tmp 16)=v):∀ x u,evL [(16,v)] x=some u→b.eval x=u:=by
 intro x u hx
 cases x with
 | tmp t =>
  have hx':look [(16,v)] t=some u:=hx
  unfold look at hx'
  cases hb:Nat.beq 16 t with
  | true =>
   simp only [hb,cond_true,Option.some.injEq] at hx'
   rw [← Nat.eq_of_beq_eq_true hb,h,hx']
  | false =>
   simp only [hb,cond_false] at hx'
   cases hx'
 | const c=>exact Option.some.inj hx
 | global g=>exact Option.some.inj hx
 | func f=>exact Option.some.inj hx
section
variable {n:Nat} {Q:Exit→Act→World→Prop} {l:Fr} {W:World} {ops:Array Oper} {L:List Asr} {i d:Nat} {ty:TypeId} {pos:String} {aft:Array Edge} {gd:Option (Nat×Bool)} {t k u m:Int} {x y:PF} {p q:Operand}
theorem rZ (hi:ops[i]?=some ⟨some d,.buildSlice 51 2 (List.toArray [(0,p),(1,q)]),ty,pos,aft,gd⟩) (hw:gG ops L i ⟨some d,.buildSlice 51 2 (List.toArray [(0,p),(1,q)]),ty,pos,aft,gd⟩) (hp:uJ n ops l L i [p,q] [dP W.heap.size (.one t k) (.one x),dP W.heap.size (.one u m) (.one y)]) (hI:atI L i=lL W.heap.size (.two t k u m) (.two x y)):RG prog n ops Q l W L i :=
 Cf [dP W.heap.size (.one t k) (.one x),dP W.heap.size (.one u m) (.one y)] hi hw underlying51 sizeOf53 zeroValue53 rfl rfl hp fun vs w hb hh=>by
  obtain ⟨v1,v2,rfl,⟨f,rfl,hf⟩,g,rfl,hg⟩:=rR hh
  refine ⟨f.six++g.six,vX _ _ _ _ _ _ _ _ _ _ _ _,fun B w' hB h1 h2=>?_⟩
  rw [hI]
  rcases Qh h1 with h | ⟨b,off,e,h3⟩
  ·cases h
  ·cases e
   exact ⟨B,rfl,xQ (h3 0 f rfl) (h3 1 g rfl) (by rw [← hB];exact hb.size) (PNew.below hf h2) (PNew.below hg h2)⟩
theorem Dr {lo:Nat} {S:PS} {z:PX} (hi:ops[i]?=some ⟨some d,.build 53 (List.toArray [(4,.tmp 16)]),ty,pos,aft,gd⟩) (hw:gG ops L i ⟨some d,.build 53 (List.toArray [(4,.tmp 16)]),ty,pos,aft,gd⟩) (hp:OpG n ops l L i 16 (lL lo S z)) (hI:atI L i=dP lo S z):RG prog n ops Q l W L i:=fun a ha=>sX hi hw fun b w hF hG hD=>by
 obtain ⟨B,hv,hx⟩:=hp a ha b w hF hD
 refine ⟨(pH B).val,w,?_,by rw [hI];exact ⟨pH B,rfl,hx⟩,Below.refl _ _⟩
 rw [eK b.eval _ _ _ _ pos _ #[] _ none]
 exact oY (l:=[(16,.slice (some ⟨B,0,none⟩) 2 2)]) (us:=[(4,.slice (some ⟨B,0,none⟩) 2 2)]) rfl (Pg _ _ _) b.eval (has_one hv)
end
theorem pR (t n:Int) (sa:Option Addr) (sc:Nat) (w:World) (hp:cA t n 0=true) :
  Calls prog 43 #[.agg #[.int .i64 t,.int .i64 n,.slice sa 0 sc]] w (gO (.one t n) (.one eW) w):=by
 refine cH (args:=[.agg #[.int .i64 t,.int .i64 n,.slice sa 0 sc]]) func43 rfl ntmps43 rfl ?_
 have hS:=St.start w
 refine aL (aR (bK (cs:=[_,_,_]) hS rfl rfl rfl fun B1 W1 hS=>bH (cs:=[_,_,_,_,_,_]) hS zeroValue53 rfl rfl fun B2 W2 hS=>aQ (XF.thenN (aL (aL (aR (aP (o':=0) dW rfl rfl rfl (aT isAgg22 rfl (aK (hS.at_ 1 rfl) rfl) rfl (cM rfl rfl rfl (aQ (XF.thenN (aZ rfl (fun hc=>absurd (of_decide_eq_true hc) (by exact jW hp)) (fun hc=>?_)))))))))))))
 have hc:=of_decide_eq_false hc
 refine bG (XF.thenN (aL (aR (cS (us:=[(0,.bool _)]) rfl (pD _) rfl (aV (i:=0) (vs:=[_,_,_,_,_,_]) (cs':=[_,_,_,_,_,_]) (O':=[_,_]) hS sizeOf53 rfl rfl rfl rfl rfl rfl rfl fun W3 hS=>aQ (XF.thenN (bJ (XF.res (dO (vs:=[_,_,_,_,_,_]) results43 isAgg53 sizeOf53 rfl (aE.own (j:=0) (m:=6) (hS.at_ 0 rfl) rfl)) ?_))))))))
 exact ⟨rA,rfl,nG _ _ _ _,hS.below⟩
theorem I1 (t n u m:Int) (a1 a2:Option Addr) (c1 c2 b off sc:Nat) (w:World) (hs1:S3 w b off ⟨t,n,a1,0,c1⟩) (hs2:S3 w b (off+3) ⟨u,m,a2,0,c2⟩) (hp1:cA t n 0=true) (hp2:cA u m 0=true) :
  Calls prog 43 #[.agg #[.int .i64 5,.int .i64 0,.slice (some ⟨b,off,none⟩) 2 sc]] w (gO (.two t n u m) (.two eW eW) w):=by
 refine cH (args:=[.agg #[.int .i64 5,.int .i64 0,.slice (some ⟨b,off,none⟩) 2 sc]]) func43 rfl ntmps43 rfl ?_
 have hS:=St.start w
 refine aL (aR (bK (cs:=[_,_,_]) hS rfl rfl rfl fun B1 W1 hS=>bH (cs:=[_,_,_,_,_,_]) hS zeroValue53 rfl rfl fun B2 W2 hS=>aQ (XF.thenN (aL (aL (aR (aP (o':=0) dW rfl rfl rfl (aT isAgg22 rfl (aK (hS.at_ 1 rfl) rfl) rfl (cM rfl rfl rfl (aQ (XF.thenN (aZ rfl (fun hc=>?_) (fun hc=>absurd (of_decide_eq_false hc) (by omega))))))))))))))
 have hc:=of_decide_eq_true hc
 refine aL ?_
 have hsz:=hS.below.size
 have k1:=aE.agree hS.agree (Nat.zero_le _) hs1.cells
 have k2:=aE.agree hS.agree (Nat.zero_le _) hs2.cells
 refine pB cE 12 hS rfl rfl (by kernel_rfl) (by kernel_rfl) (by kernel_rfl) (fun d hd=>by cases hd) (cC 1 rfl 1 rfl rfl (fun w hw=>aW (o':=2) dI rfl rfl) rfl (aX 2 rfl 6 0 rfl rfl rfl (fun w hw=>bA isAgg23 rfl ((aN hw 0).cell (Nat.zero_le _) (aK (hS.at_ 1 rfl) rfl))) rfl (aX 3 rfl 7 1 rfl rfl rfl (fun w hw=>bB (j:=0) underlying23 sizeOf25 rfl rfl rfl (by omega) (Nat.add_zero _)) rfl (aX 4 rfl 8 2 rfl rfl rfl (fun w hw=>bF (vs:=[_,_,_]) isAgg25 sizeOf25 rfl (aE.agree (aN hw 0) (Nat.zero_le _) (by assumption))) rfl ?_))))
 refine aM 5 rfl (dP W2.heap.size (.one t n) (.one eW)) (dQ) (cV [isV _] rfl Co (aU rfl) ⟨bZ (aO 3 (aB rfl rfl rfl)),trivial⟩ (fun vs w' hb hh=>by have e:=cB (us:=[_]) hh;subst e;exact eY hb.size (pR _ _ _ _ _ hp1)) (aH rfl)) ?_
 refine cC 6 rfl 1 rfl rfl (fun w hw=>aW (o':=2) dI rfl rfl) rfl (aX 7 rfl 11 5 rfl rfl rfl (fun w hw=>bA isAgg23 rfl ((aN hw 0).cell (Nat.zero_le _) (aK (hS.at_ 1 rfl) rfl))) rfl (aX 8 rfl 12 6 rfl rfl rfl (fun w hw=>bB (j:=1) underlying23 sizeOf25 rfl rfl rfl (by omega) rfl) rfl (aX 9 rfl 13 7 rfl rfl rfl (fun w hw=>bF (vs:=[_,_,_]) isAgg25 sizeOf25 rfl (aE.agree (aN hw 0) (Nat.zero_le _) (by assumption))) rfl ?_)))
 refine aM 10 rfl (dP W2.heap.size (.one u m) (.one eW)) (dQ) (cV [isV _] rfl Co (aU rfl) ⟨bZ (aO 8 (aB rfl rfl rfl)),trivial⟩ (fun vs w' hb hh=>by have e:=cB (us:=[_]) hh;subst e;exact eY hb.size (pR _ _ _ _ _ hp2)) (aH rfl)) ?_
 refine aM 11 rfl (lL W2.heap.size (.two t n u m) (.two eW eW)) (mB) (rZ rfl (aU rfl) ⟨bZ (aO 4 (aB rfl rfl rfl)),bZ (aO 9 (aB rfl rfl rfl)),trivial⟩ (aH rfl)) (aM 12 rfl (dP W2.heap.size (.two t n u m) (.two eW eW)) (dQ) (Dr rfl (aU rfl) (aO 10 (aB rfl rfl rfl)) (aH rfl)) (dC ?_))
 intro W3 hbR hS'
 clear hS;have hS:=hS';clear hS'
 refine aI (aI (aI (aI ?_)))
 refine cW ?_;rintro _ ⟨v1,rfl,hn1⟩
 refine aI (aI (aI (aI ?_)))
 refine cW ?_;rintro _ ⟨v2,rfl,hn2⟩
 refine cW ?_;rintro _ _
 refine cW ?_;rintro _ ⟨v3,rfl,hn3⟩
 refine cL (aV (i:=0) (vs:=[_,_,_,_,_,_]) (cs':=[_,_,_,_,_,_]) (O':=[_,_]) hS sizeOf53 rfl rfl rfl rfl rfl rfl rfl fun W4 hS=>aQ (XF.thenN (bJ (XF.thenR (XF.res (dO (vs:=[_,_,_,_,_,_]) results43 isAgg53 sizeOf53 rfl (aE.own (j:=0) (m:=6) (hS.at_ 0 rfl) rfl)) ?_)))))
 exact ⟨v3,rfl,(hn3.agree (hS.since 0 rfl)).mono hsz,hS.below⟩
theorem Rj {S:PS} {sf:SF} {w:World} (hs:SIs w S sf) (hok:S.ok):Calls prog 43 #[sf.val] w (gO S (kF S) w):=by
 cases S with
 | one t n =>
  obtain ⟨a,c,rfl⟩:=hs
  exact pR _ _ _ _ _ hok
 | two t n u m =>
  obtain ⟨b,off,c,a1,c1,a2,c2,rfl,h1,h2⟩:=hs
  exact I1 _ _ _ _ _ _ _ _ _ _ _ _ h1 h2 hok.1 hok.2
theorem Gv (S:PS) (sf:SF) (w:World) (hs:SIs w S sf) (hok:S.ok) :
  Calls prog 23 #[sf.val] w (xS S (kF S) 0 w):=by
 refine cH (args:=[sf.val]) func23 rfl ntmps23 rfl ?_
 have hS:=St.start w
 refine aL (aR (bK (cs:=[_,_,_]) hS rfl rfl rfl fun B1 W1 hS=>bH (cs:=[_,_,_,_,_,_]) hS zeroValue53 rfl rfl fun B2 W2 hS=>aA rfl rfl (aQ (XF.thenN (aL (aL (aR (aS (vs:=[_,_,_]) isAgg25 sizeOf25 rfl (aE.own (j:=0) (m:=3) (hS.at_ 1 rfl) rfl) rfl (cF (vs:=[_]) hS vY rfl (Ak (hs.below hS.below) hok) rfl fun W3 hS=>dA rfl rfl rfl (aQ (XF.thenN (aZ rfl (fun hc=>absurd (of_decide_eq_true hc) (by omega)) (fun hc=>?_)))))))))))))
 have hc:=of_decide_eq_false hc
 refine bG (XF.thenN (aL (aR (aS (vs:=[_,_,_]) isAgg25 sizeOf25 rfl (aE.own (j:=0) (m:=3) (hS.at_ 1 rfl) rfl) rfl ?_))))
 have hsz:=hS.below.size
 refine cO (vs:=[_]) hS Co rfl (Rj (hs.below hS.below) hok) rfl ?_
 rintro e W4 ⟨f,rfl,hn,hb⟩
 refine ⟨_,rfl,hb,fun hS'=>?_⟩
 clear hS;have hS:=hS';clear hS'
 refine aV (i:=0) (vs:=[_,_,_,_,_,_]) (cs':=[_,_,_,_,_,_]) (O':=[_,_]) hS sizeOf53 rfl rfl rfl rfl rfl rfl rfl fun W5 hS=>aA rfl rfl (aQ (XF.thenN (bJ (XF.res (oK (vs:=[_,_,_,_,_,_]) results23 isAgg53 sizeOf53 rfl (aE.own (j:=0) (m:=6) (hS.at_ 0 rfl) rfl) rfl) ?_))))
 exact ⟨f,rfl,(hn.agree (hS.since 0 rfl)).mono hsz,hS.below⟩
theorem Nc (t n:Int) (sa:Option Addr) (sc:Nat) (w:World) (hp:cA t n 0=true) (ht4:t≠4) :
  Calls prog 51 #[.agg #[.int .i64 t,.int .i64 n,.slice sa 0 sc]] w (gO (.one t n) (.one (gM t n)) w):=by
 refine cH (args:=[.agg #[.int .i64 t,.int .i64 n,.slice sa 0 sc]]) func51 rfl ntmps51 rfl ?_
 have hS:=St.start w
 refine aL (aR (bK (cs:=[_,_,_]) hS rfl rfl rfl fun B1 W1 hS=>bH (cs:=[_,_,_,_,_,_]) hS zeroValue53 rfl rfl fun B2 W2 hS=>aQ (XF.thenN (aL (aR (cS (us:=[]) rfl (iN) rfl (bH (cs:=[_,_,_,_,_,_]) hS zeroValue53 rfl rfl fun B3 W3 hS=>aV (i:=0) (vs:=[_,_,_,_,_,_]) (cs':=[_,_,_,_,_,_]) (O':=[_,_,_]) hS sizeOf53 rfl rfl rfl rfl rfl rfl rfl fun W4 hS=>aQ (XF.thenN (aL (aL (aR (aP (o':=0) dW rfl rfl rfl (aT isAgg22 rfl (aK (hS.at_ 2 rfl) rfl) rfl (aQ (XF.thenN (bM (aL (aR (cM rfl rfl rfl (aA rfl rfl (aQ (XF.thenN (aZ rfl (fun hc=>?_) (fun hc=>?_))))))))))))))))))))))))
 ·have hc8:=of_decide_eq_true hc;clear hc
  have e3:t=3:=hc8
  subst e3
  obtain ⟨m,rfl,hm⟩:=vQ hp (.inl rfl)
  refine aR (aP (o':=1) dX rfl rfl rfl (aT isAgg3 rfl (aK (hS.at_ 2 rfl) rfl) rfl ?_))
  have hsz:=hS.below.size
  refine cO (vs:=[_]) hS goes_71 rfl ((oneR_is m _ _ (sR hm).1 _ (sR hm).2).mono fun _ _ h=>Eu.ret h) rfl ?_
  rintro e W5 ⟨a1,c1,rfl,hv,hl,hb⟩
  refine ⟨_,rfl,hb,fun hS'=>?_⟩
  clear hS;have hS:=hS';clear hS'
  refine aG rfl rfl (bL rfl rfl rfl (bL rfl rfl rfl (aP (o':=2) dY rfl rfl rfl (aV (i:=0) (vs:=[_,_]) (cs':=[_,_,_,_,_,_]) (O':=[_,_,_]) hS sizeOf49 rfl rfl rfl rfl rfl rfl rfl fun W6 hS=>aQ (XF.blkN (XF.thenN (aL (aR (aS (vs:=[_,_,_,_,_,_]) isAgg53 sizeOf53 rfl (aE.own (j:=0) (m:=6) (hS.at_ 0 rfl) rfl) rfl (aV (i:=1) (vs:=[_,_,_,_,_,_]) (cs':=[_,_,_,_,_,_]) (O':=[_,_,_]) hS sizeOf53 rfl rfl rfl rfl rfl rfl rfl fun W7 hS=>aQ (XF.thenN (bJ (XF.res (dO (vs:=[_,_,_,_,_,_]) results51 isAgg53 sizeOf53 rfl (aE.own (j:=0) (m:=6) (hS.at_ 1 rfl) rfl)) ?_)))))))))))))
  exact eE (Qa hm (hv.agree (fun ad e=>(hl ad e).1) (hS.since 0 rfl)) (fun ad e=>Nat.le_trans hsz (hl ad e).1)) hS.below
 ·have hc8:=of_decide_eq_false hc;clear hc
  refine aL (aR (cM rfl rfl rfl (aA rfl rfl (aQ (XF.thenN (aZ rfl (fun hc=>absurd (of_decide_eq_true hc) (by exact ht4)) (fun hc=>?_)))))))
  have hc:=of_decide_eq_false hc
  refine aL (aR (cM rfl rfl rfl (aA rfl rfl (aQ (XF.thenN (aZ rfl (fun hc=>absurd (of_decide_eq_true hc) (by exact jW hp)) (fun hc=>?_)))))))
  have hc:=of_decide_eq_false hc
  refine bG (XF.blkN (XF.thenN (aL (aR (aS (vs:=[_,_,_,_,_,_]) isAgg53 sizeOf53 rfl (aE.own (j:=0) (m:=6) (hS.at_ 0 rfl) rfl) rfl (aV (i:=1) (vs:=[_,_,_,_,_,_]) (cs':=[_,_,_,_,_,_]) (O':=[_,_,_]) hS sizeOf53 rfl rfl rfl rfl rfl rfl rfl fun W8 hS=>aQ (XF.thenN (bJ (XF.res (dO (vs:=[_,_,_,_,_,_]) results51 isAgg53 sizeOf53 rfl (aE.own (j:=0) (m:=6) (hS.at_ 1 rfl) rfl)) ?_)))))))))
  exact eE (P7 hp hc8 ht4) hS.below
theorem Nd (t n u m:Int) (a1 a2:Option Addr) (c1 c2 b off sc:Nat) (w:World) (hs1:S3 w b off ⟨t,n,a1,0,c1⟩) (hs2:S3 w b (off+3) ⟨u,m,a2,0,c2⟩) (hp1:cA t n 0=true) (hp2:cA u m 0=true) (ih10:∀ W:World,Calls prog 51 #[.agg #[.int .i64 t,.int .i64 n,.slice a1 0 c1]] W (gO (.one t n) (.one (gM t n)) W)) (ih20:∀ W:World,Calls prog 51 #[.agg #[.int .i64 u,.int .i64 m,.slice a2 0 c2]] W (gO (.one u m) (.one (gM u m)) W)) :
  Calls prog 51 #[.agg #[.int .i64 5,.int .i64 0,.slice (some ⟨b,off,none⟩) 2 sc]] w (gO (.two t n u m) (.two (gM t n) (gM u m)) w):=by
 refine cH (args:=[.agg #[.int .i64 5,.int .i64 0,.slice (some ⟨b,off,none⟩) 2 sc]]) func51 rfl ntmps51 rfl ?_
 have hS:=St.start w
 refine aL (aR (bK (cs:=[_,_,_]) hS rfl rfl rfl fun B1 W1 hS=>bH (cs:=[_,_,_,_,_,_]) hS zeroValue53 rfl rfl fun B2 W2 hS=>aQ (XF.thenN (aL (aR (cS (us:=[]) rfl (iN) rfl (bH (cs:=[_,_,_,_,_,_]) hS zeroValue53 rfl rfl fun B3 W3 hS=>aV (i:=0) (vs:=[_,_,_,_,_,_]) (cs':=[_,_,_,_,_,_]) (O':=[_,_,_]) hS sizeOf53 rfl rfl rfl rfl rfl rfl rfl fun W4 hS=>aQ (XF.thenN (aL (aL (aR (aP (o':=0) dW rfl rfl rfl (aT isAgg22 rfl (aK (hS.at_ 2 rfl) rfl) rfl (aQ (XF.thenN (bM (aL (aR (cM rfl rfl rfl (aA rfl rfl (aQ (XF.thenN (aZ rfl (fun hc=>absurd (of_decide_eq_true hc) (by omega)) (fun hc=>?_))))))))))))))))))))))))
 have hc:=of_decide_eq_false hc
 refine aL (aR (cM rfl rfl rfl (aA rfl rfl (aQ (XF.thenN (aZ rfl (fun hc=>absurd (of_decide_eq_true hc) (by omega)) (fun hc=>?_)))))))
 have hc:=of_decide_eq_false hc
 refine aL (aR (cM rfl rfl rfl (aA rfl rfl (aQ (XF.thenN (aZ rfl (fun hc=>?_) (fun hc=>absurd (of_decide_eq_false hc) (by omega))))))))
 have hc:=of_decide_eq_true hc
 have hsz:=hS.below.size
 have k1:=aE.agree hS.agree (Nat.zero_le _) hs1.cells
 have k2:=aE.agree hS.agree (Nat.zero_le _) hs2.cells
 have ih1:=fun (W2:World) (_:Below W4.heap.size W4 W2)=>ih10 W2
 have ih2:=fun (W2:World) (_:Below W4.heap.size W4 W2)=>ih20 W2
 refine pB cE 12 hS rfl rfl (by kernel_rfl) (by kernel_rfl) (by kernel_rfl) (fun d hd=>by cases hd) (cC 1 rfl 1 rfl rfl (fun w hw=>aW (o':=2) dI rfl rfl) rfl (aX 2 rfl 35 0 rfl rfl rfl (fun w hw=>bA isAgg23 rfl ((aN hw 0).cell (Nat.zero_le _) (aK (hS.at_ 2 rfl) rfl))) rfl (aX 3 rfl 36 1 rfl rfl rfl (fun w hw=>bB (j:=0) underlying23 sizeOf25 rfl rfl rfl (by omega) (Nat.add_zero _)) rfl (aX 4 rfl 37 2 rfl rfl rfl (fun w hw=>bF (vs:=[_,_,_]) isAgg25 sizeOf25 rfl (aE.agree (aN hw 0) (Nat.zero_le _) (by assumption))) rfl ?_))))
 refine aM 5 rfl (dP W4.heap.size (.one t n) (.one (gM t n))) (dQ) (cV [isV _] rfl Cn (aU rfl) ⟨bZ (aO 3 (aB rfl rfl rfl)),trivial⟩ (fun vs w' hb hh=>by have e:=cB (us:=[_]) hh;subst e;exact eY hb.size (ih1 _ hb)) (aH rfl)) ?_
 refine cC 6 rfl 1 rfl rfl (fun w hw=>aW (o':=2) dI rfl rfl) rfl (aX 7 rfl 40 5 rfl rfl rfl (fun w hw=>bA isAgg23 rfl ((aN hw 0).cell (Nat.zero_le _) (aK (hS.at_ 2 rfl) rfl))) rfl (aX 8 rfl 41 6 rfl rfl rfl (fun w hw=>bB (j:=1) underlying23 sizeOf25 rfl rfl rfl (by omega) rfl) rfl (aX 9 rfl 42 7 rfl rfl rfl (fun w hw=>bF (vs:=[_,_,_]) isAgg25 sizeOf25 rfl (aE.agree (aN hw 0) (Nat.zero_le _) (by assumption))) rfl ?_)))
 refine aM 10 rfl (dP W4.heap.size (.one u m) (.one (gM u m))) (dQ) (cV [isV _] rfl Cn (aU rfl) ⟨bZ (aO 8 (aB rfl rfl rfl)),trivial⟩ (fun vs w' hb hh=>by have e:=cB (us:=[_]) hh;subst e;exact eY hb.size (ih2 _ hb)) (aH rfl)) ?_
 refine aM 11 rfl (lL W4.heap.size (.two t n u m) (.two (gM t n) (gM u m))) (mB) (rZ rfl (aU rfl) ⟨bZ (aO 4 (aB rfl rfl rfl)),bZ (aO 9 (aB rfl rfl rfl)),trivial⟩ (aH rfl)) (cC 12 rfl 3 rfl rfl (fun w hw=>aW (o':=5) cP rfl rfl) rfl (dC ?_))
 intro W5 hbR hS'
 clear hS;have hS:=hS';clear hS'
 refine aI (aI (aI (aI ?_)))
 refine cW ?_;rintro _ ⟨v1,rfl,hn1⟩
 refine aI (aI (aI (aI ?_)))
 refine cW ?_;rintro _ ⟨v2,rfl,hn2⟩
 refine cW ?_;rintro _ ⟨b9,rfl,hn9⟩
 refine aI (cL (fA (i:=0) (cs':=[_,_,_,_,_,_]) (O':=[_,_,_]) hS sizeOf51 rfl rfl rfl rfl rfl rfl rfl fun W6 hS=>aQ (XF.blkN (XF.thenN (aL (aR (aS (vs:=[_,_,_,_,_,_]) isAgg53 sizeOf53 rfl (aE.own (j:=0) (m:=6) (hS.at_ 0 rfl) rfl) rfl (aV (i:=1) (vs:=[_,_,_,_,_,_]) (cs':=[_,_,_,_,_,_]) (O':=[_,_,_]) hS sizeOf53 rfl rfl rfl rfl rfl rfl rfl fun W7 hS=>aQ (XF.thenN (bJ (XF.res (dO (vs:=[_,_,_,_,_,_]) results51 isAgg53 sizeOf53 rfl (aE.own (j:=0) (m:=6) (hS.at_ 1 rfl) rfl)) ?_)))))))))))
 exact ⟨pH b9,rfl,(hn9.agree (hS.since 0 rfl)).mono hsz,hS.below⟩
theorem oneR_4 (m:Nat) (sa:Option Addr) (sc:Nat) (w:World) (hm:m≤64) :
  Calls prog 51 #[.agg #[.int .i64 4,.int .i64 (m:Int),.slice sa 0 sc]] w (gO (.one 4 m) (.one (gM 4 m)) w):=by
 refine cH (args:=[.agg #[.int .i64 4,.int .i64 (m:Int),.slice sa 0 sc]]) func51 rfl ntmps51 rfl ?_
 have hS:=St.start w
 refine aL (aR (bK (cs:=[_,_,_]) hS rfl rfl rfl fun B1 W1 hS=>bH (cs:=[_,_,_,_,_,_]) hS zeroValue53 rfl rfl fun B2 W2 hS=>aQ (XF.thenN (aL (aR (cS (us:=[]) rfl (iN) rfl (bH (cs:=[_,_,_,_,_,_]) hS zeroValue53 rfl rfl fun B3 W3 hS=>aV (i:=0) (vs:=[_,_,_,_,_,_]) (cs':=[_,_,_,_,_,_]) (O':=[_,_,_]) hS sizeOf53 rfl rfl rfl rfl rfl rfl rfl fun W4 hS=>aQ (XF.thenN (aL (aL (aR (aP (o':=0) dW rfl rfl rfl (aT isAgg22 rfl (aK (hS.at_ 2 rfl) rfl) rfl (aQ (XF.thenN (bM (aL (aR (cM rfl rfl rfl (aA rfl rfl (aQ (XF.thenN (aZ rfl (fun hc=>absurd (of_decide_eq_true hc) (by omega)) (fun hc=>?_))))))))))))))))))))))))
 have hc:=of_decide_eq_false hc
 refine aL (aR (cM rfl rfl rfl (aA rfl rfl (aQ (XF.thenN (aZ rfl (fun hc=>?_) (fun hc=>absurd (of_decide_eq_false hc) (by omega))))))))
 have hc:=of_decide_eq_true hc
 refine aL (aR (aA rfl rfl (aQ (XF.thenN (bM (dK (fun q l W=>∃ (k:Nat) (v:Value),k≤m∧q=m - k∧l=[(1,.pointer (some ⟨B1,0,none⟩)),(2,.pointer (some ⟨B2,0,none⟩)),(3,.pointer (some ⟨B3,0,none⟩)),(4,.int .i64 (k:Int))]∧St w [(B3,[.bool false,.int .i64 0,.int .u64 0,.slice none 0 0,v,.slice none 0 0],53),(B2,[.bool false,.int .i64 0,.int .u64 0,.slice none 0 0,.slice none 0 0,.slice none 0 0],53),(B1,[.int .i64 4,.int .i64 (m:Int),.slice sa 0 sc],25)] [⟨v,k,flat ((gA m).take k),92,3⟩] [] W) (m - 0) ([(1,_),(2,_),(3,_),(4,_)]) ⟨rfl,rfl,rfl,rfl,trivial⟩ (⟨0,.slice none 0 0,Nat.zero_le _,rfl,rfl,hS.clear.newG _ _⟩) ?_))))))
 clear hS
 rintro q l W ⟨k,v,hkm,rfl,rfl,hS⟩
 refine aL (aL (aR (aG rfl rfl (aP (o':=1) dX rfl rfl rfl (aT isAgg3 rfl (aK (hS.at_ 2 rfl) rfl) rfl (cN rfl rfl rfl (aQ (XF.thenN (aZ rfl (fun hc=>?_) (fun hc=>?_))))))))))
 ·have hc22:=of_decide_eq_true hc;clear hc
  have hk:k < m:=by omega
  refine bG (XF.thenN (aL (bM ?_)))
  refine Ps (p:=6) (k:=8) (gi:=0) (m:=1) cE hS rfl rfl (by kernel_rfl) (by kernel_rfl) (by kernel_rfl) (fun d hd=>by cases hd) rfl rfl underlying50 H3 rfl rfl (by show 0 < 3;decide) rfl rfl rfl (by dsimp only;simp only [maxLen];omega) (by dsimp only;show _ * 24≤_;omega) ?_
  refine fU 1 rfl rfl (by kernel_rfl) (rgV (li:=[(3,_)]) rfl (aU rfl) ⟨cI rfl,trivial⟩ (fun w hw=>aW (o':=4) cZ rfl rfl) (aH rfl)) (fU 2 rfl rfl (by kernel_rfl) (rgV (li:=[(25,_)]) rfl (aU rfl) ⟨aO 0 (aB rfl rfl rfl),trivial⟩ (fun w hw=>bA isAgg50 rfl ((aN hw 0).cell (Nat.zero_le _) (aK (hS.at_ 0 rfl) rfl))) (aH rfl)) (fU 3 rfl rfl (by kernel_rfl) (rgV (li:=[(4,_)]) rfl (aU rfl) ⟨cI rfl,trivial⟩ (fun w hw=>bE rfl) (aH rfl)) ?_))
  refine fU 4 rfl rfl (by kernel_rfl) (cV [isV _] rfl goes_72 (aU rfl) ⟨bZ (aO 2 (aB rfl rfl rfl)),trivial⟩ (fun vs w' hb hh=>by have e:=cB (us:=[_]) hh;subst e;exact (Ei (k:Int) k (2 ^ k) (by omega) rfl (by omega) _).mono fun e w2 h=>⟨_,h.1,rfl,h.2▸Below.refl _ _⟩) (aH rfl)) ?_
  refine fU 5 rfl rfl (by kernel_rfl) (rgV (li:=[(28,_)]) rfl (aU rfl) ⟨aO 3 (aB rfl rfl rfl),trivial⟩ (fun w hw=>oY (us:=[(0,.int .u64 _)]) rfl (Pk _)) (aH rfl)) (Pr 6 rfl rfl (by kernel_rfl) (gR W.heap.size 1 92 _) (rO) (Cg (us:=[.agg (List.toArray [_,_,_])]) rfl (aU rfl) underlying50 sizeOf92 zeroValue92 rfl rfl ⟨bZ (aO 4 (aB rfl rfl rfl)),trivial⟩ (Cj _ _ _) (aH rfl)) (C1 7 rfl rfl (xN 8 rfl rfl (rgV (li:=[(3,_)]) rfl (aU rfl) ⟨cI rfl,trivial⟩ (fun w hw=>aW (o':=4) cZ rfl rfl) (aH rfl)) (lgV (li:=[(3,_)]) rfl (aU rfl) ⟨cI rfl,trivial⟩ (fun w=>aW (o':=4) cZ rfl rfl) (aH rfl) rfl) (C0 ⟨_,_,aO 1 (aB rfl rfl rfl),aO 5 (aB rfl rfl rfl),pG rfl rfl,?_⟩))))
  intro A5 v5 news5 W5 hbR hqA5 hS'
  clear hS;have hS:=hS';clear hS'
  cases hqA5
  refine aI (aI (aI (aI (aI ?_))))
  refine cW ?_;intro _ _
  refine aI (aI ?_)
  obtain ⟨g9,c9,e9,_,_⟩:=(hS.row 0 rfl).form (by show 0 < k+1;omega)
  dsimp only at e9
  subst e9
  refine cL (fA (i:=0) (cs':=[_,_,_,_,_,_]) (O':=[_,_,_]) hS sizeOf50 rfl rfl rfl rfl rfl rfl rfl fun W6 hS=>aQ (XF.blkN (XF.thenN (aR (aG rfl rfl (cR rfl rfl (IntWalk.i64_in _ (by omega)) rfl (aA rfl rfl (aQ ?_))))))))
  exact XF.round (m - (k+1)) [(1,_),(2,_),(3,_),(4,_)] (by omega) ⟨rfl,rfl,rfl,rfl,trivial⟩ ⟨k+1,_,by omega,rfl,rfl,by rw [Mm hk,zW];exact hS.clear⟩
 ·have hc22:=of_decide_eq_false hc;clear hc
  refine dE (XF.thenX (XF.thenX (XF.blkX (XF.blkN (XF.thenN (aL ?_))))))
  obtain rfl:k=m:=by omega
  have hrow:=hS.row 0 rfl
  have ht:(gA k).take k=gA k:=List.take_of_length_le (by rw [kE];exact Nat.le_refl _)
  simp only [ht] at hrow
  obtain ⟨hn,a9,c9,rfl,_,_⟩:=fF hrow
  clear hrow
  refine aR (aS (vs:=[_,_,_,_,_,_]) isAgg53 sizeOf53 rfl (aE.own (j:=0) (m:=6) (hS.at_ 0 rfl) rfl) rfl (aV (i:=1) (vs:=[_,_,_,_,_,_]) (cs':=[_,_,_,_,_,_]) (O':=[_,_,_]) hS sizeOf53 rfl rfl rfl rfl rfl rfl rfl fun W7 hS=>aQ (XF.thenN (bJ (XF.res (dO (vs:=[_,_,_,_,_,_]) results51 isAgg53 sizeOf53 rfl (aE.own (j:=0) (m:=6) (hS.at_ 1 rfl) rfl)) ?_)))))
  have hrow:=hS.row 0 rfl
  simp only [ht] at hrow
  obtain ⟨_,a8,c8,e8,hr9,hf9⟩:=fF hrow
  cases e8
  have e9:(gA k).length=k:=kE k
  refine ⟨oA a9 c9 (gA k),?_,Qb hm hr9 (fun ad e=>(hf9 ad e).1),hS.below⟩
  show _=Ending.returned (Value.agg #[.bool false,.int .i64 0,.int .u64 ((0:Nat):Int),.slice none 0 0,.slice a9 (gA k).length c9,.slice none 0 0])
  rw [e9]
  rfl
theorem sA (t n:Int) (sa:Option Addr) (sc:Nat) (w:World) (hp:cA t n 0=true):Calls prog 51 #[.agg #[.int .i64 t,.int .i64 n,.slice sa 0 sc]] w (gO (.one t n) (.one (gM t n)) w):=by
 by_cases h4:t=4
 ·subst h4
  obtain ⟨m,rfl,hm⟩:=vQ hp (.inr rfl)
  exact oneR_4 m sa sc w hm
 ·exact Nc t n sa sc w hp h4
theorem oneR_ok {S:PS} {sf:SF} {w:World} (hs:SIs w S sf) (hok:S.ok):Calls prog 51 #[sf.val] w (gO S (rH S) w):=by
 cases S with
 | one t n =>
  obtain ⟨a,c,rfl⟩:=hs
  exact sA _ _ _ _ _ hok
 | two t n u m =>
  obtain ⟨b,off,c,a1,c1,a2,c2,rfl,h1,h2⟩:=hs
  exact Nd _ _ _ _ _ _ _ _ _ _ _ _ h1 h2 hok.1 hok.2 (fun W=>sA _ _ _ _ _ hok.1) (fun W=>sA _ _ _ _ _ hok.2)
theorem OneR_ok (S:PS) (sf:SF) (w:World) (hs:SIs w S sf) (hok:S.ok) :
  Calls prog 32 #[sf.val] w (xS S (rH S) 0 w):=by
 refine cH (args:=[sf.val]) func32 rfl ntmps32 rfl ?_
 have hS:=St.start w
 refine aL (aR (bK (cs:=[_,_,_]) hS rfl rfl rfl fun B1 W1 hS=>bH (cs:=[_,_,_,_,_,_]) hS zeroValue53 rfl rfl fun B2 W2 hS=>aA rfl rfl (aQ (XF.thenN (aL (aL (aR (aS (vs:=[_,_,_]) isAgg25 sizeOf25 rfl (aE.own (j:=0) (m:=3) (hS.at_ 1 rfl) rfl) rfl (cF (vs:=[_]) hS vY rfl (Ak (hs.below hS.below) hok) rfl fun W3 hS=>dA rfl rfl rfl (aQ (XF.thenN (aZ rfl (fun hc=>absurd (of_decide_eq_true hc) (by omega)) (fun hc=>?_)))))))))))))
 have hc:=of_decide_eq_false hc
 refine bG (XF.thenN (aL (aR (aS (vs:=[_,_,_]) isAgg25 sizeOf25 rfl (aE.own (j:=0) (m:=3) (hS.at_ 1 rfl) rfl) rfl ?_))))
 have hsz:=hS.below.size
 refine cO (vs:=[_]) hS Cn rfl (oneR_ok (hs.below hS.below) hok) rfl ?_
 rintro e W4 ⟨f,rfl,hn,hb⟩
 refine ⟨_,rfl,hb,fun hS'=>?_⟩
 clear hS;have hS:=hS';clear hS'
 refine aV (i:=0) (vs:=[_,_,_,_,_,_]) (cs':=[_,_,_,_,_,_]) (O':=[_,_]) hS sizeOf53 rfl rfl rfl rfl rfl rfl rfl fun W5 hS=>aA rfl rfl (aQ (XF.thenN (bJ (XF.res (oK (vs:=[_,_,_,_,_,_]) results32 isAgg53 sizeOf53 rfl (aE.own (j:=0) (m:=6) (hS.at_ 0 rfl) rfl) rfl) ?_))))
 exact ⟨f,rfl,(hn.agree (hS.since 0 rfl)).mono hsz,hS.below⟩
set_option maxHeartbeats 1000000 in
theorem jn_00 (f f2:Int) (w:World):Calls prog 45 #[.agg #[.int .u64 f,.int .i64 0,.int .i64 0],.agg #[.int .u64 f2,.int .i64 0,.int .i64 0]] w fun e w'=>e = .returned (.agg #[.int .u64 (bits .or .u64 f f2),.int .i64 0,.int .i64 0])∧Below w.heap.size w w':=by
 go_enter func45,ntmps45
 go_wp2
 all_goals (try go_region)
 all_goals go_wp2
 all_goals refine bodyPost_ret (v:=.agg #[.int .u64 (bits .or .u64 f f2),.int .i64 0,.int .i64 0]) (by simp [results,results45,go_sem]) rfl ⟨rfl,?_⟩
 all_goals repeat (first | exact Below.refl _ _ | refine Below.drew ?_ | (refine Below.setCell ?_ (by simp) _) | (refine Below.alloc ?_ (by simp;try omega) _))
set_option maxHeartbeats 1000000 in
theorem jn_01 (f f2:Int) (v2:Int) (w:World):Calls prog 45 #[.agg #[.int .u64 f,.int .i64 0,.int .i64 0],.agg #[.int .u64 f2,.int .i64 1,.int .i64 v2]] w fun e w'=>e = .returned (.agg #[.int .u64 (bits .or .u64 f f2),.int .i64 1,.int .i64 v2])∧Below w.heap.size w w':=by
 go_enter func45,ntmps45
 go_wp2
 all_goals (try go_region)
 all_goals go_wp2
 all_goals refine bodyPost_ret (v:=.agg #[.int .u64 (bits .or .u64 f f2),.int .i64 1,.int .i64 v2]) (by simp [results,results45,go_sem]) rfl ⟨rfl,?_⟩
 all_goals repeat (first | exact Below.refl _ _ | refine Below.drew ?_ | (refine Below.setCell ?_ (by simp) _) | (refine Below.alloc ?_ (by simp;try omega) _))
set_option maxHeartbeats 1000000 in
theorem jn_02 (f f2:Int) (w:World):Calls prog 45 #[.agg #[.int .u64 f,.int .i64 0,.int .i64 0],.agg #[.int .u64 f2,.int .i64 2,.int .i64 0]] w fun e w'=>e = .returned (.agg #[.int .u64 0,.int .i64 2,.int .i64 0])∧Below w.heap.size w w':=by
 go_enter func45,ntmps45
 go_wp2
 all_goals (try go_region)
 all_goals go_wp2
 all_goals refine bodyPost_ret (v:=.agg #[.int .u64 0,.int .i64 2,.int .i64 0]) (by simp [results,results45,go_sem]) rfl ⟨rfl,?_⟩
 all_goals repeat (first | exact Below.refl _ _ | refine Below.drew ?_ | (refine Below.setCell ?_ (by simp) _) | (refine Below.alloc ?_ (by simp;try omega) _))
set_option maxHeartbeats 1000000 in
theorem jn_10 (f f2:Int) (v:Int) (w:World):Calls prog 45 #[.agg #[.int .u64 f,.int .i64 1,.int .i64 v],.agg #[.int .u64 f2,.int .i64 0,.int .i64 0]] w fun e w'=>e = .returned (.agg #[.int .u64 (bits .or .u64 f f2),.int .i64 1,.int .i64 v])∧Below w.heap.size w w':=by
 go_enter func45,ntmps45
 go_wp2
 all_goals (try go_region)
 all_goals go_wp2
 all_goals refine bodyPost_ret (v:=.agg #[.int .u64 (bits .or .u64 f f2),.int .i64 1,.int .i64 v]) (by simp [results,results45,go_sem]) rfl ⟨rfl,?_⟩
 all_goals repeat (first | exact Below.refl _ _ | refine Below.drew ?_ | (refine Below.setCell ?_ (by simp) _) | (refine Below.alloc ?_ (by simp;try omega) _))
set_option maxHeartbeats 1000000 in
theorem jn_11 (f f2:Int) (v:Int) (w:World):Calls prog 45 #[.agg #[.int .u64 f,.int .i64 1,.int .i64 v],.agg #[.int .u64 f2,.int .i64 1,.int .i64 v]] w fun e w'=>e = .returned (.agg #[.int .u64 (bits .or .u64 f f2),.int .i64 1,.int .i64 v])∧Below w.heap.size w w':=by
 go_enter func45,ntmps45
 go_wp2
 all_goals (try go_region)
 all_goals go_wp2
 all_goals refine bodyPost_ret (v:=.agg #[.int .u64 (bits .or .u64 f f2),.int .i64 1,.int .i64 v]) (by simp [results,results45,go_sem]) rfl ⟨rfl,?_⟩
 all_goals repeat (first | exact Below.refl _ _ | refine Below.drew ?_ | (refine Below.setCell ?_ (by simp) _) | (refine Below.alloc ?_ (by simp;try omega) _))
set_option maxHeartbeats 1000000 in
theorem jn_1x (f f2:Int) (v v2:Int) (hv:(v == v2)=false) (w:World):Calls prog 45 #[.agg #[.int .u64 f,.int .i64 1,.int .i64 v],.agg #[.int .u64 f2,.int .i64 1,.int .i64 v2]] w fun e w'=>e = .returned (.agg #[.int .u64 0,.int .i64 2,.int .i64 0])∧Below w.heap.size w w':=by
 go_enter func45,ntmps45
 go_wp2
 all_goals (try go_region)
 all_goals go_wp2
 all_goals refine bodyPost_ret (v:=.agg #[.int .u64 0,.int .i64 2,.int .i64 0]) (by simp [results,results45,go_sem]) rfl ⟨rfl,?_⟩
 all_goals repeat (first | exact Below.refl _ _ | refine Below.drew ?_ | (refine Below.setCell ?_ (by simp) _) | (refine Below.alloc ?_ (by simp;try omega) _))
set_option maxHeartbeats 1000000 in
theorem jn_12 (f f2:Int) (v:Int) (w:World):Calls prog 45 #[.agg #[.int .u64 f,.int .i64 1,.int .i64 v],.agg #[.int .u64 f2,.int .i64 2,.int .i64 0]] w fun e w'=>e = .returned (.agg #[.int .u64 0,.int .i64 2,.int .i64 0])∧Below w.heap.size w w':=by
 go_enter func45,ntmps45
 go_wp2
 all_goals (try go_region)
 all_goals go_wp2
 all_goals refine bodyPost_ret (v:=.agg #[.int .u64 0,.int .i64 2,.int .i64 0]) (by simp [results,results45,go_sem]) rfl ⟨rfl,?_⟩
 all_goals repeat (first | exact Below.refl _ _ | refine Below.drew ?_ | (refine Below.setCell ?_ (by simp) _) | (refine Below.alloc ?_ (by simp;try omega) _))
set_option maxHeartbeats 1000000 in
theorem jn_20 (f f2:Int) (w:World):Calls prog 45 #[.agg #[.int .u64 f,.int .i64 2,.int .i64 0],.agg #[.int .u64 f2,.int .i64 0,.int .i64 0]] w fun e w'=>e = .returned (.agg #[.int .u64 0,.int .i64 2,.int .i64 0])∧Below w.heap.size w w':=by
 go_enter func45,ntmps45
 go_wp2
 all_goals (try go_region)
 all_goals go_wp2
 all_goals refine bodyPost_ret (v:=.agg #[.int .u64 0,.int .i64 2,.int .i64 0]) (by simp [results,results45,go_sem]) rfl ⟨rfl,?_⟩
 all_goals repeat (first | exact Below.refl _ _ | refine Below.drew ?_ | (refine Below.setCell ?_ (by simp) _) | (refine Below.alloc ?_ (by simp;try omega) _))
set_option maxHeartbeats 1000000 in
theorem jn_21 (f f2:Int) (v2:Int) (w:World):Calls prog 45 #[.agg #[.int .u64 f,.int .i64 2,.int .i64 0],.agg #[.int .u64 f2,.int .i64 1,.int .i64 v2]] w fun e w'=>e = .returned (.agg #[.int .u64 0,.int .i64 2,.int .i64 0])∧Below w.heap.size w w':=by
 go_enter func45,ntmps45
 go_wp2
 all_goals (try go_region)
 all_goals go_wp2
 all_goals refine bodyPost_ret (v:=.agg #[.int .u64 0,.int .i64 2,.int .i64 0]) (by simp [results,results45,go_sem]) rfl ⟨rfl,?_⟩
 all_goals repeat (first | exact Below.refl _ _ | refine Below.drew ?_ | (refine Below.setCell ?_ (by simp) _) | (refine Below.alloc ?_ (by simp;try omega) _))
set_option maxHeartbeats 1000000 in
theorem jn_22 (f f2:Int) (w:World):Calls prog 45 #[.agg #[.int .u64 f,.int .i64 2,.int .i64 0],.agg #[.int .u64 f2,.int .i64 2,.int .i64 0]] w fun e w'=>e = .returned (.agg #[.int .u64 0,.int .i64 2,.int .i64 0])∧Below w.heap.size w w':=by
 go_enter func45,ntmps45
 go_wp2
 all_goals (try go_region)
 all_goals go_wp2
 all_goals refine bodyPost_ret (v:=.agg #[.int .u64 0,.int .i64 2,.int .i64 0]) (by simp [results,results45,go_sem]) rfl ⟨rfl,?_⟩
 all_goals repeat (first | exact Below.refl _ _ | refine Below.drew ?_ | (refine Below.setCell ?_ (by simp) _) | (refine Below.alloc ?_ (by simp;try omega) _))
theorem Rk (a b:Cl) (ha:a.ok) (hb:b.ok) (w:World):Calls prog 45 #[a.val,b.val] w (wU a b w):=by
 obtain ⟨f,k,v⟩:=a
 obtain ⟨f2,k2,v2⟩:=b
 obtain ⟨hf,hk⟩:=ha
 obtain ⟨hf2,hk2⟩:=hb
 simp only at hf hk hf2 hk2
 have ho:=Jx f f2 hf hf2
 rcases jP hk with ⟨rfl,rfl⟩ | rfl | ⟨rfl,rfl⟩<;>rcases jP hk2 with ⟨rfl,rfl⟩ | rfl | ⟨rfl,rfl⟩
 ·exact (jn_00 f f2 w).mono (eV (by simp [joinK,ho]) (by simp [joinK]) (by simp [gK]))
 ·exact (jn_01 f f2 v2 w).mono (eV (by simp [joinK,ho]) (by simp [joinK]) (by simp [gK]))
 ·exact (jn_02 f f2 w).mono (eV (by simp [joinK]) (by simp [joinK]) (by simp [gK]))
 ·exact (jn_10 f f2 v w).mono (eV (by simp [joinK,ho]) (by simp [joinK]) (by simp [gK]))
 ·by_cases hv:v=v2
  ·subst hv
   exact (jn_11 f f2 v w).mono (eV (by simp [joinK,ho]) (by simp [joinK]) (by simp [gK]))
  ·exact (jn_1x f f2 v v2 (by simp [hv]) w).mono (eV (by simp [joinK,hv]) (by simp [joinK,hv]) (by simp [gK,hv]))
 ·exact (jn_12 f f2 v w).mono (eV (by simp [joinK]) (by simp [joinK]) (by simp [gK]))
 ·exact (jn_20 f f2 w).mono (eV (by simp [joinK]) (by simp [joinK]) (by simp [gK]))
 ·exact (jn_21 f f2 v2 w).mono (eV (by simp [joinK]) (by simp [joinK]) (by simp [gK]))
 ·exact (jn_22 f f2 w).mono (eV (by simp [joinK]) (by simp [joinK]) (by simp [gK]))
section
variable {P:Program} {n:Nat} {Q:Exit→Act→World→Prop} {l:Fr} {W:World} {ops:Array Oper} {os:List Oper} {d:Nat} {ty:TypeId} {pos:String} {aft:Array Edge} {x y:Operand} {k:IntKind} {a b:Int} {ts:Array TypeId}
theorem rn_min (hx:evL l x=some (.int k a)) (hy:evL l y=some (.int k b)):gF P l ⟨some d,.call { callee:=.builtin .min,args:=#[x,y],argTypes:=ts },ty,pos,aft,none⟩ W (.int k (min a b)) W:=fun ev he=>by
 have e:(if b < a then b else a)=min a b:=by omega
 unfold execOp
 simp only [resolve,invoke,builtin,Sem.run_bind,Sem.run_pure,Result.andThen_ok,List.map_toArray,List.map_cons,List.map_nil,he x _ hx,he y _ hy,run_min_int2,e]
theorem Rl (hx:evL l x=some (.int k a)) (hy:evL l y=some (.int k b)) (hd:Nat.blt d n=true) (h:cX P n ops Q os ((d,.int k (min a b))::l) W):cX P n ops Q (⟨some d,.call { callee:=.builtin .min,args:=#[x,y],argTypes:=ts },ty,pos,aft,none⟩::os) l W:=opV (rn_min hx hy) hd h
end
theorem has_bit {f k:Nat} (hk:k < 64):zE f (k:Int)=f.testBit k:=by
 unfold zE
 rw [decide_eq_true (by omega),decide_eq_true (by omega),Int.toNat_natCast]
 rfl
theorem Au {xs:List Cl} {k:Nat} {c:Cl} (h:xs[k]?=some c):flat (xs.take (k+1))=flat (xs.take k)++vN c:=by
 rw [List.take_add_one,h];exact zW _ _
theorem I2 (a:Option Addr) (cap len:Nat) (row:List Cl) (c:Cl) (w:World) (hlen:row.length=len) (hm:len≤64) (hra:fN w a row) (hok:∀ (i:Nat) x,row[i]?=some x→x.ok) (hc:c.ok) :
  Calls prog 56 #[.slice a len cap,c.val] w (fun e w'=>e = .returned (ofC row c).val∧Below w.heap.size w w'):=by
 refine cH (args:=[.slice a len cap,c.val]) func56 rfl ntmps56 rfl ?_
 have hS:=St.start w
 refine aL (aR (bK (cs:=[_,_,_]) hS rfl rfl rfl fun B1 W1 hS=>bH (cs:=[_,_,_]) hS zeroValue92 rfl rfl fun B2 W2 hS=>aQ (XF.thenN (aL (aR (aP (o':=1) fa_92_1 rfl rfl rfl (aT isAgg90 rfl (aK (hS.at_ 1 rfl) rfl) rfl (aP (o':=2) fa_92_2 rfl rfl rfl (aT isAgg2 rfl (aK (hS.at_ 1 rfl) rfl) rfl (cS (us:=[(1,.int .i64 _),(2,.int .i64 _)]) rfl (H4 _ _) rfl (bH (cs:=[_,_,_]) hS zeroValue92 rfl rfl fun B3 W3 hS=>aV (i:=0) (vs:=[_,_,_]) (cs':=[_,_,_]) (O':=[_,_,_]) hS sizeOf92 rfl rfl rfl rfl rfl rfl rfl fun W4 hS=>aQ (XF.thenN (aL (aL (aR (aA rfl rfl (aQ (XF.thenN (bM (dK (fun q l W=>∃ k:Nat,k≤len∧q=len - k∧l=[(0,.slice a len cap),(3,.pointer (some ⟨B1,0,none⟩)),(4,.pointer (some ⟨B2,0,none⟩)),(5,.pointer (some ⟨B3,0,none⟩)),(6,.int .i64 (k:Int))]∧St w [(B3,[.int .u64 ((mN row c k).f:Int),.int .i64 (mN row c k).k,.int .i64 (mN row c k).v],92),(B2,[.int .u64 0,.int .i64 0,.int .i64 0],92),(B1,[.int .u64 (c.f:Int),.int .i64 c.k,.int .i64 c.v],92)] [] [] W) (len - 0) ([(0,_),(3,_),(4,_),(5,_),(6,_)]) ⟨rfl,rfl,rfl,rfl,rfl,trivial⟩ (⟨0,Nat.zero_le _,rfl,rfl,hS.clear⟩) ?_))))))))))))))))))))
 clear hS
 rintro q l W ⟨k,hkm,rfl,rfl,hS⟩
 refine aL (aL (aR (aG rfl rfl (aG rfl rfl (bX underlying50 rfl rfl (cN rfl rfl rfl (aQ (XF.thenN (aZ rfl (fun hc=>?_) (fun hc=>?_))))))))))
 ·have hc15:=of_decide_eq_true hc;clear hc
  have hk:k < len:=by omega
  obtain ⟨ba,offa,x,rfl,hx,hba,a0,a1,a2⟩:=(hra.below hS.below).at_ (k:=k) (by omega)
  have k1:aE W ba (offa+k * 3) [.int .u64 (x.f:Int),.int .i64 x.k,.int .i64 x.v]:=⟨a0,a1,a2,trivial⟩
  refine bG (XF.thenN (aL (bM (aL (aR (aP (o':=0) fa_92_0 rfl rfl rfl (aT isAgg46 rfl (aK (hS.at_ 2 rfl) rfl) rfl (aG rfl rfl (cO (vs:=[_,_]) hS goes_75 rfl (Bb c.f (k:Int) (c.f.testBit k) (has_bit (by omega)) hc.1 _) rfl ?_)))))))))
  rintro e W5 ⟨rfl,rfl⟩
  refine ⟨_,rfl,Below.refl _ _,fun hS'=>?_⟩
  clear hS;have hS:=hS';clear hS'
  refine aQ (XF.thenN (aZ rfl (fun hc=>?_) (fun hc=>?_)))
  ·have hc21:=hc;clear hc
   refine pB cE 6 hS rfl rfl (by kernel_rfl) (by kernel_rfl) (by kernel_rfl) (fun d hd=>by cases hd) (cC 1 rfl 5 rfl rfl (fun w hw=>bF (vs:=[_,_,_]) isAgg92 sizeOf92 rfl (aE.agree (aN hw 0) (Nat.zero_le _) (aE.own (j:=0) (m:=3) (hS.at_ 0 rfl) rfl))) rfl (cC 2 rfl 0 rfl rfl (fun w hw=>bE rfl) rfl (cC 3 rfl 6 rfl rfl (fun w hw=>bE rfl) rfl (aM 4 rfl (isV _) (aJ _) (rgV (li:=[(23,_),(24,_)]) rfl (aU rfl) ⟨aO 1 (aB rfl rfl rfl),aO 2 (aB rfl rfl rfl),trivial⟩ (fun w hw=>bB  underlying50 sizeOf92 rfl rfl rfl (by omega) rfl) (aH rfl)) (aX 5 rfl 25 3 rfl rfl rfl (fun w hw=>bF (vs:=[_,_,_]) isAgg92 sizeOf92 rfl (aE.agree (aN hw 0) (Nat.zero_le _) (by assumption))) rfl ?_)))))
   refine aM 6 rfl (isV (join (mN row c k) x).val) (aJ _) (cV [isV _,isV _] rfl J5 (aU rfl) ⟨bZ (aO 0 (aB rfl rfl rfl)),bZ (aO 4 (aB rfl rfl rfl)),trivial⟩ (fun vs w' hb hh=>by have e:=cB (us:=[_,_]) hh;subst e;exact (Rk (mN row c k) x (sS hc hok k) (hok k x hx) _).mono fun e w2 h=>⟨_,h.1,rfl,h.2⟩) (aH rfl)) ?_
   refine dC ?_
   intro W6 hbR hS'
   clear hS;have hS:=hS';clear hS'
   refine aI (aI (aI (aI (aI (aI (cL (aV (i:=0) (vs:=[_,_,_]) (cs':=[_,_,_]) (O':=[_,_,_]) hS sizeOf92 rfl rfl rfl rfl rfl rfl rfl fun W7 hS=>aQ (XF.blkN (XF.thenN (aR (aG rfl rfl (cR rfl rfl (IntWalk.i64_in _ (by omega)) rfl (aA rfl rfl (aQ ?_))))))))))))))
   exact XF.round (len - (k+1)) [(0,_),(3,_),(4,_),(5,_),(6,_)] (by omega) ⟨rfl,rfl,rfl,rfl,rfl,trivial⟩ ⟨k+1,by omega,rfl,rfl,by rw [E1 hc21 hx];exact hS.clear⟩
  ·have hc21:=hc;clear hc
   refine bG (XF.blkN (XF.thenN (aR (aG rfl rfl (cR rfl rfl (IntWalk.i64_in _ (by omega)) rfl (aA rfl rfl (aQ ?_)))))))
   exact XF.round (len - (k+1)) [(0,_),(3,_),(4,_),(5,_),(6,_)] (by omega) ⟨rfl,rfl,rfl,rfl,rfl,trivial⟩ ⟨k+1,by omega,rfl,rfl,by rw [Jy hc21];exact hS.clear⟩
 ·have hc15:=of_decide_eq_false hc;clear hc
  refine dE (XF.thenX (XF.thenX (XF.blkX (XF.thenN (aL (aR (aS (vs:=[_,_,_]) isAgg92 sizeOf92 rfl (aE.own (j:=0) (m:=3) (hS.at_ 0 rfl) rfl) rfl (aV (i:=1) (vs:=[_,_,_]) (cs':=[_,_,_]) (O':=[_,_,_]) hS sizeOf92 rfl rfl rfl rfl rfl rfl rfl fun W8 hS=>aQ (XF.thenN (bJ (XF.res (dO (vs:=[_,_,_]) results56 isAgg92 sizeOf92 rfl (aE.own (j:=0) (m:=3) (hS.at_ 1 rfl) rfl)) ?_)))))))))))
  have e1:row.length=k:=by omega
  exact ⟨by unfold ofC;rw [e1],hS.below⟩
section
variable {w W:World} {k:Nat} {n:Int} {f g:WF} {x y:PF}
theorem ext_f2R (hx:PIs w 2 n f x) (hy:PIs w 2 n g y) (hf:f.z=false) (hg:g.z=false) (p0:0≤f.c) (p1:f.c≤n) (q0:0≤g.c) (q1:g.c≤n):PNew k W 2 n (vD (min (f.c+g.c) n)) (gE 2 n x y):=by
 obtain ⟨rfl,_,_⟩:=hx.k2 hf
 obtain ⟨rfl,_,_⟩:=hy.k2 hg
 rw [O8]
 exact lW (.cost _ rfl (by omega) (by omega))
theorem ext_f4C {m:Nat} {a:Option Addr} {cap:Nat} (hx:PIs w 4 m f x) (hy:PIs w 4 m g y) (hf:f.z=false) (hg:g.z=false) (hv:fN W a (fZ f.cells g.cells)) (hl:∀ ad,a=some ad→k≤ad.block):PNew k W 4 m (oA a cap (fZ f.cells g.cells)) (gE 4 m x y):=by
 obtain ⟨hx',h0⟩:=hx.k4 hf
 obtain ⟨hy',h1⟩:=hy.k4 hg
 have hv2:=xE h0 h1
 rw [hx',hy',O9]
 exact nH (.cells m _ rfl rfl hv2) hv2.bits (by have:=hv2.le;have:=hv2.len;unfold maxLen;omega) hv hl
end
theorem pS (t n:Int) (sa:Option Addr) (sc:Nat) (f g:WF) (x y:PF) (w:World) (hp:cA t n 0=true) (hx:PIs w t n f x) (hy:PIs w t n g y) :
  Calls prog 34 #[.agg #[.int .i64 t,.int .i64 n,.slice sa 0 sc],f.val,g.val] w (gO (.one t n) (.one (gE t n x y)) w):=by
 refine cH (args:=[.agg #[.int .i64 t,.int .i64 n,.slice sa 0 sc],f.val,g.val]) func34 rfl ntmps34 rfl ?_
 have hS:=St.start w
 refine aL (aR (bK (cs:=[_,_,_]) hS rfl rfl rfl fun B1 W1 hS=>bK (cs:=[_,_,_,_,_,_]) hS rfl rfl rfl fun B2 W2 hS=>bK (cs:=[_,_,_,_,_,_]) hS rfl rfl rfl fun B3 W3 hS=>bH (cs:=[_,_,_,_,_,_]) hS zeroValue53 rfl rfl fun B4 W4 hS=>aQ (XF.thenN (aL (aL (aR (aP (o':=0) dL rfl rfl rfl (aT isAgg4 rfl (aK (hS.at_ 2 rfl) rfl) rfl (aG rfl rfl (bS (d:=11) rfl (fun hc=>?_) (fun hc=>?_)))))))))))
 ·have hg11:=hc;clear hc
  have hz:=hg11
  refine aF (d:=11) rfl rfl rfl rfl (aF (d:=11) rfl rfl rfl rfl (bC rfl rfl rfl (aQ (XF.thenN (dJ rfl (aL (aR (cS (us:=[(0,.bool _)]) rfl (pD _) rfl (aV (i:=0) (vs:=[_,_,_,_,_,_]) (cs':=[_,_,_,_,_,_]) (O':=[_,_,_,_]) hS sizeOf53 rfl rfl rfl rfl rfl rfl rfl fun W5 hS=>aQ (XF.thenN (bJ (XF.thenR (XF.res (dO (vs:=[_,_,_,_,_,_]) results34 isAgg53 sizeOf53 rfl (aE.own (j:=0) (m:=6) (hS.at_ 0 rfl) rfl)) ?_)))))))))))))
  exact P3 hx hz hS.below
 ·have hg11:=hc;clear hc
  have hf:=hg11
  refine aC (d:=11) rfl rfl (aP (o':=0) dL rfl rfl rfl (aC (d:=11) rfl rfl (aT isAgg4 rfl (aK (hS.at_ 1 rfl) rfl) rfl (bV rfl rfl rfl (aQ (XF.thenN (aZ rfl (fun hc=>?_) (fun hc=>?_))))))))
  ·have hc14:=hc;clear hc
   refine aL (aR (cS (us:=[(0,.bool _)]) rfl (pD _) rfl (aV (i:=0) (vs:=[_,_,_,_,_,_]) (cs':=[_,_,_,_,_,_]) (O':=[_,_,_,_]) hS sizeOf53 rfl rfl rfl rfl rfl rfl rfl fun W6 hS=>aQ (XF.thenN (bJ (XF.thenR (XF.res (dO (vs:=[_,_,_,_,_,_]) results34 isAgg53 sizeOf53 rfl (aE.own (j:=0) (m:=6) (hS.at_ 0 rfl) rfl)) ?_)))))))
   exact P4 hy hc14 hS.below
  ·have hc14:=hc;clear hc
   have hg:=hc14
   refine bG (XF.thenN (aL (aR (cS (us:=[]) rfl (iN) rfl (bH (cs:=[_,_,_,_,_,_]) hS zeroValue53 rfl rfl fun B7 W7 hS=>aV (i:=0) (vs:=[_,_,_,_,_,_]) (cs':=[_,_,_,_,_,_]) (O':=[_,_,_,_,_]) hS sizeOf53 rfl rfl rfl rfl rfl rfl rfl fun W8 hS=>aQ (XF.thenN (aL (aL (aR (aP (o':=0) dW rfl rfl rfl (aT isAgg22 rfl (aK (hS.at_ 4 rfl) rfl) rfl (aQ (XF.thenN (bM (aL (aR (cM rfl rfl rfl (aA rfl rfl (aQ (XF.thenN (aZ rfl (fun hc=>?_) (fun hc=>?_))))))))))))))))))))))
   ·have hc19:=of_decide_eq_true hc;clear hc
    have e2:t=2:=hc19
    subst e2
    obtain ⟨_,p0,p1⟩:=hx.k2 hf
    obtain ⟨_,q0,q1⟩:=hy.k2 hg
    obtain ⟨d0,d1,_⟩:=lR hp
    refine aR (aP (o':=1) eL rfl rfl rfl (aT isAgg3 rfl (aK (hS.at_ 3 rfl) rfl) rfl (aP (o':=1) eL rfl rfl rfl (aT isAgg3 rfl (aK (hS.at_ 2 rfl) rfl) rfl (cR rfl rfl (IntWalk.i64_in _ (by omega)) rfl (aP (o':=1) dX rfl rfl rfl (aT isAgg3 rfl (aK (hS.at_ 4 rfl) rfl) rfl (Rl rfl rfl rfl (aP (o':=1) eL rfl rfl rfl (fA (i:=0) (cs':=[_,_,_,_,_,_]) (O':=[_,_,_,_,_]) hS sizeOf3 rfl rfl rfl rfl rfl rfl rfl fun W9 hS=>aQ (XF.blkN (XF.thenN (aL (aR (aS (vs:=[_,_,_,_,_,_]) isAgg53 sizeOf53 rfl (aE.own (j:=0) (m:=6) (hS.at_ 0 rfl) rfl) rfl (aV (i:=1) (vs:=[_,_,_,_,_,_]) (cs':=[_,_,_,_,_,_]) (O':=[_,_,_,_,_]) hS sizeOf53 rfl rfl rfl rfl rfl rfl rfl fun W10 hS=>aQ (XF.thenN (bJ (XF.res (dO (vs:=[_,_,_,_,_,_]) results34 isAgg53 sizeOf53 rfl (aE.own (j:=0) (m:=6) (hS.at_ 1 rfl) rfl)) ?_)))))))))))))))))))
    exact eE (ext_f2R hx hy hf hg p0 p1 q0 q1) hS.below
   ·have hc19:=of_decide_eq_false hc;clear hc
    refine aL (aR (cM rfl rfl rfl (aA rfl rfl (aQ (XF.thenN (aZ rfl (fun hc=>?_) (fun hc=>?_)))))))
    ·have hc30:=of_decide_eq_true hc;clear hc
     have e3:t=3:=hc30
     subst e3
     obtain ⟨m,rfl,hm⟩:=vQ hp (.inl rfl)
     refine aR (aP (o':=1) dX rfl rfl rfl (aT isAgg3 rfl (aK (hS.at_ 4 rfl) rfl) rfl (aP (o':=2) dY rfl rfl rfl (aS (vs:=[_,_]) isAgg49 sizeOf49 rfl (aE.own (j:=2) (m:=2) (hS.at_ 3 rfl) rfl) rfl (aP (o':=2) dY rfl rfl rfl (aS (vs:=[_,_]) isAgg49 sizeOf49 rfl (aE.own (j:=2) (m:=2) (hS.at_ 2 rfl) rfl) rfl ?_))))))
     have hsz:=hS.below.size
     refine cO (vs:=[_,_,_]) hS goes_55 rfl (extR_is _ _ _ _ _ _ _ _ _ _ (hx.at_.fat (by have:=hx.rows64 (l:=0);omega) |>.below hS.below) (hy.at_.fat (by have:=hy.rows64 (l:=0);omega) |>.below hS.below) _ rfl _ rfl _ rfl _ _ hx.at_.rl hy.at_.rl) rfl ?_
     rintro e W11 ⟨a1,c1,rfl,hv,hl,hb⟩
     refine ⟨_,rfl,hb,fun hS'=>?_⟩
     clear hS;have hS:=hS';clear hS'
     refine aG rfl rfl (bL rfl rfl rfl (bL rfl rfl rfl (aP (o':=2) dY rfl rfl rfl (aV (i:=0) (vs:=[_,_]) (cs':=[_,_,_,_,_,_]) (O':=[_,_,_,_,_]) hS sizeOf49 rfl rfl rfl rfl rfl rfl rfl fun W12 hS=>aQ (XF.blkN (XF.thenN (aL (aR (aS (vs:=[_,_,_,_,_,_]) isAgg53 sizeOf53 rfl (aE.own (j:=0) (m:=6) (hS.at_ 0 rfl) rfl) rfl (aV (i:=1) (vs:=[_,_,_,_,_,_]) (cs':=[_,_,_,_,_,_]) (O':=[_,_,_,_,_]) hS sizeOf53 rfl rfl rfl rfl rfl rfl rfl fun W13 hS=>aQ (XF.thenN (bJ (XF.res (dO (vs:=[_,_,_,_,_,_]) results34 isAgg53 sizeOf53 rfl (aE.own (j:=0) (m:=6) (hS.at_ 1 rfl) rfl)) ?_)))))))))))))
     exact eE (P6 hx hy hf hg (hv.agree (fun ad e=>(hl ad e).1) (hS.since 0 rfl)) (fun ad e=>Nat.le_trans hsz (hl ad e).1)) hS.below
    ·have hc30:=of_decide_eq_false hc;clear hc
     refine aL (aR (cM rfl rfl rfl (aA rfl rfl (aQ (XF.thenN (aZ rfl (fun hc=>?_) (fun hc=>?_)))))))
     ·have hc43:=of_decide_eq_true hc;clear hc
      have e4:t=4:=hc43
      subst e4
      obtain ⟨m,rfl,hm⟩:=vQ hp (.inr rfl)
      obtain ⟨hpx,vx⟩:=hx.k4 hf
      obtain ⟨hpy,vy⟩:=hy.k4 hg
      refine aL (aR (aA rfl rfl (aQ (XF.thenN (bM (dK (fun q l W=>∃ (k:Nat) (v:Value),k≤m∧q=m - k∧l=[(3,.pointer (some ⟨B1,0,none⟩)),(4,.pointer (some ⟨B2,0,none⟩)),(5,.pointer (some ⟨B3,0,none⟩)),(6,.pointer (some ⟨B4,0,none⟩)),(7,.pointer (some ⟨B7,0,none⟩)),(8,.int .i64 (k:Int))]∧St w [(B7,[.bool false,.int .i64 0,.int .u64 0,.slice none 0 0,v,.slice none 0 0],53),(B4,[.bool false,.int .i64 0,.int .u64 0,.slice none 0 0,.slice none 0 0,.slice none 0 0],53),(B3,[.bool g.z,.int .i64 g.c,.int .u64 (g.g:Int),.slice g.ra g.rl g.rc,.slice g.ca g.cl g.cc,.slice g.pa g.pl g.pc],53),(B2,[.bool f.z,.int .i64 f.c,.int .u64 (f.g:Int),.slice f.ra f.rl f.rc,.slice f.ca f.cl f.cc,.slice f.pa f.pl f.pc],53),(B1,[.int .i64 4,.int .i64 (m:Int),.slice sa 0 sc],25)] [⟨v,k,flat ((fZ f.cells g.cells).take k),92,3⟩] [] W) (m - 0) ([(3,_),(4,_),(5,_),(6,_),(7,_),(8,_)]) ⟨rfl,rfl,rfl,rfl,rfl,rfl,trivial⟩ (⟨0,.slice none 0 0,Nat.zero_le _,rfl,rfl,hS.clear.newG _ _⟩) ?_))))))
      clear hS
      rintro q l W ⟨k,v,hkm,rfl,rfl,hS⟩
      refine aL (aL (aR (aG rfl rfl (aP (o':=1) dX rfl rfl rfl (aT isAgg3 rfl (aK (hS.at_ 4 rfl) rfl) rfl (cN rfl rfl rfl (aQ (XF.thenN (aZ rfl (fun hc=>?_) (fun hc=>?_))))))))))
      ·have hc48:=of_decide_eq_true hc;clear hc
       have hk:k < m:=by omega
       have hlx:=vx.len
       have hly:=vy.len
       obtain ⟨ba,offa,y1,eca,hy1,hba,a0,a1,a2⟩:=(hy.at_.cells.below hS.below).at_ (k:=k) (by omega)
       have k1:aE W ba (offa+k * 3) [.int .u64 (y1.f:Int),.int .i64 y1.k,.int .i64 y1.v]:=⟨a0,a1,a2,trivial⟩
       have h1:(fZ f.cells g.cells)[k]?=some (ofC f.cells y1):=by unfold fZ;rw [List.getElem?_map,hy1];rfl
       have hcl:=hx.at_.cl
       have hclg:=hy.at_.cl
       simp only [eca] at hS
       refine bG (XF.thenN (aL (bM ?_)))
       refine Ps (p:=11) (k:=13) (gi:=0) (m:=1) cE hS rfl rfl (by kernel_rfl) (by kernel_rfl) (by kernel_rfl) (fun d hd=>by cases hd) rfl rfl underlying50 H3 rfl rfl (by show 0 < 3;decide) rfl rfl rfl (by dsimp only;simp only [maxLen];omega) (by dsimp only;show _ * 24≤_;omega) ?_
       refine fU 1 rfl rfl (by kernel_rfl) (rgV (li:=[(7,_)]) rfl (aU rfl) ⟨cI rfl,trivial⟩ (fun w hw=>aW (o':=4) cZ rfl rfl) (aH rfl)) (fU 2 rfl rfl (by kernel_rfl) (rgV (li:=[(51,_)]) rfl (aU rfl) ⟨aO 0 (aB rfl rfl rfl),trivial⟩ (fun w hw=>bA isAgg50 rfl ((aN hw 0).cell (Nat.zero_le _) (aK (hS.at_ 0 rfl) rfl))) (aH rfl)) (fU 3 rfl rfl (by kernel_rfl) (rgV (li:=[(4,_)]) rfl (aU rfl) ⟨cI rfl,trivial⟩ (fun w hw=>aW (o':=4) cZ rfl rfl) (aH rfl)) (fU 4 rfl rfl (by kernel_rfl) (rgV (li:=[(53,_)]) rfl (aU rfl) ⟨aO 2 (aB rfl rfl rfl),trivial⟩ (fun w hw=>bA isAgg50 rfl ((aN hw 0).cell (Nat.zero_le _) (aK (hS.at_ 3 rfl) rfl))) (aH rfl)) (fU 5 rfl rfl (by kernel_rfl) (rgV (li:=[(5,_)]) rfl (aU rfl) ⟨cI rfl,trivial⟩ (fun w hw=>aW (o':=4) cZ rfl rfl) (aH rfl)) (fU 6 rfl rfl (by kernel_rfl) (rgV (li:=[(55,_)]) rfl (aU rfl) ⟨aO 4 (aB rfl rfl rfl),trivial⟩ (fun w hw=>bA isAgg50 rfl ((aN hw 0).cell (Nat.zero_le _) (aK (hS.at_ 2 rfl) rfl))) (aH rfl)) (fU 7 rfl rfl (by kernel_rfl) (rgV (li:=[(8,_)]) rfl (aU rfl) ⟨cI rfl,trivial⟩ (fun w hw=>bE rfl) (aH rfl)) (fU 8 rfl rfl (by kernel_rfl) (rgV (li:=[(56,_),(57,_)]) rfl (aU rfl) ⟨aO 5 (aB rfl rfl rfl),aO 6 (aB rfl rfl rfl),trivial⟩ (fun w hw=>bB  underlying50 sizeOf92 rfl rfl rfl (by omega) rfl) (aH rfl)) (fU 9 rfl rfl (by kernel_rfl) (rgV (li:=[(58,_)]) rfl (aU rfl) ⟨aO 7 (aB rfl rfl rfl),trivial⟩ (fun w hw=>bF (vs:=[_,_,_]) isAgg92 sizeOf92 rfl (aE.agree (aN hw 0) (Nat.zero_le _) (by assumption))) (aH rfl)) ?_))))))))
       refine fU 10 rfl rfl (by kernel_rfl) (cV [isV _,isV _] rfl goes_56 (aU rfl) ⟨bZ (aO 3 (aB rfl rfl rfl)),bZ (aO 8 (aB rfl rfl rfl)),trivial⟩ (fun vs w' hb hh=>by have e:=cB (us:=[_,_]) hh;subst e;exact (I2 f.ca f.cc f.cl f.cells y1 _ hx.at_.cl (by omega) ((hx.at_.cells.below hS.below).below hb) vx.oks (vy.oks k y1 hy1)).mono fun e w2 h=>⟨_,h.1,rfl,h.2⟩) (aH rfl)) ?_
       refine Pr 11 rfl rfl (by kernel_rfl) (gR W.heap.size 1 92 _) (rO) (Cg (us:=[.agg (List.toArray [_,_,_])]) rfl (aU rfl) underlying50 sizeOf92 zeroValue92 rfl rfl ⟨bZ (aO 9 (aB rfl rfl rfl)),trivial⟩ (Cj _ _ _) (aH rfl)) (C1 12 rfl rfl (xN 13 rfl rfl (rgV (li:=[(7,_)]) rfl (aU rfl) ⟨cI rfl,trivial⟩ (fun w hw=>aW (o':=4) cZ rfl rfl) (aH rfl)) (lgV (li:=[(7,_)]) rfl (aU rfl) ⟨cI rfl,trivial⟩ (fun w=>aW (o':=4) cZ rfl rfl) (aH rfl) rfl) (C0 ⟨_,_,aO 1 (aB rfl rfl rfl),aO 10 (aB rfl rfl rfl),pG rfl rfl,?_⟩)))
       intro A14 v14 news14 W14 hbR hqA14 hS'
       clear hS;have hS:=hS';clear hS'
       cases hqA14
       refine aI (aI (aI (aI (aI (aI (aI (aI (aI (aI ?_)))))))))
       refine cW ?_;intro _ _
       refine aI (aI ?_)
       obtain ⟨g9,c9,e9,_,_⟩:=(hS.row 0 rfl).form (by show 0 < k+1;omega)
       dsimp only at e9
       subst e9
       refine cL (fA (i:=0) (cs':=[_,_,_,_,_,_]) (O':=[_,_,_,_,_]) hS sizeOf50 rfl rfl rfl rfl rfl rfl rfl fun W15 hS=>aQ (XF.blkN (XF.thenN (aR (aG rfl rfl (cR rfl rfl (IntWalk.i64_in _ (by omega)) rfl (aA rfl rfl (aQ ?_))))))))
       simp only [← eca] at hS
       exact XF.round (m - (k+1)) [(3,_),(4,_),(5,_),(6,_),(7,_),(8,_)] (by omega) ⟨rfl,rfl,rfl,rfl,rfl,rfl,trivial⟩ ⟨k+1,_,by omega,rfl,rfl,by rw [Au h1];exact hS.clear⟩
      ·have hc48:=of_decide_eq_false hc;clear hc
       refine dE (XF.thenX (XF.thenX (XF.blkX (XF.blkN (XF.thenN (aL ?_))))))
       obtain rfl:k=m:=by omega
       have hrow:=hS.row 0 rfl
       have hln:(fZ f.cells g.cells).length=k:=by unfold fZ;rw [List.length_map];exact vy.len
       have ht0:(fZ f.cells g.cells).take k=fZ f.cells g.cells:=List.take_of_length_le (by rw [hln];exact Nat.le_refl _)
       simp only [ht0] at hrow
       obtain ⟨hn,a9,c9,rfl,_,_⟩:=fF hrow
       clear hrow
       refine aR (aS (vs:=[_,_,_,_,_,_]) isAgg53 sizeOf53 rfl (aE.own (j:=0) (m:=6) (hS.at_ 0 rfl) rfl) rfl (aV (i:=1) (vs:=[_,_,_,_,_,_]) (cs':=[_,_,_,_,_,_]) (O':=[_,_,_,_,_]) hS sizeOf53 rfl rfl rfl rfl rfl rfl rfl fun W16 hS=>aQ (XF.thenN (bJ (XF.res (dO (vs:=[_,_,_,_,_,_]) results34 isAgg53 sizeOf53 rfl (aE.own (j:=0) (m:=6) (hS.at_ 1 rfl) rfl)) ?_)))))
       have hrow:=hS.row 0 rfl
       simp only [ht0] at hrow
       obtain ⟨_,a8,c8,e8,hr9,hf9⟩:=fF hrow
       cases e8
       refine ⟨oA a9 c9 (fZ f.cells g.cells),?_,ext_f4C hx hy hf hg hr9 (fun ad e=>(hf9 ad e).1),hS.below⟩
       show _=Ending.returned (Value.agg #[.bool false,.int .i64 0,.int .u64 ((0:Nat):Int),.slice none 0 0,.slice a9 (fZ f.cells g.cells).length c9,.slice none 0 0])
       rw [hln]
       rfl
     ·have hc43:=of_decide_eq_false hc;clear hc
      refine aL (aR (cM rfl rfl rfl (aA rfl rfl (aQ (XF.thenN (aZ rfl (fun hc=>absurd (of_decide_eq_true hc) (by exact jW hp)) (fun hc=>?_)))))))
      have hc:=of_decide_eq_false hc
      refine bG (XF.blkN (XF.thenN (aL (aR (aS (vs:=[_,_,_,_,_,_]) isAgg53 sizeOf53 rfl (aE.own (j:=0) (m:=6) (hS.at_ 0 rfl) rfl) rfl (aV (i:=1) (vs:=[_,_,_,_,_,_]) (cs':=[_,_,_,_,_,_]) (O':=[_,_,_,_,_]) hS sizeOf53 rfl rfl rfl rfl rfl rfl rfl fun W17 hS=>aQ (XF.thenN (bJ (XF.res (dO (vs:=[_,_,_,_,_,_]) results34 isAgg53 sizeOf53 rfl (aE.own (j:=0) (m:=6) (hS.at_ 1 rfl) rfl)) ?_)))))))))
      have e1:t=1:=by
       have:=(fK hp).2
       omega
      subst e1
      exact eE (P5 hx hy hf hg) hS.below
theorem I3 (t n u m:Int) (a1 a2:Option Addr) (c1 c2 b off sc:Nat) (w:World) (hs1:S3 w b off ⟨t,n,a1,0,c1⟩) (hs2:S3 w b (off+3) ⟨u,m,a2,0,c2⟩) (hp1:cA t n 0=true) (hp2:cA u m 0=true)(fra fca:Option Addr) (frc fcc fpc fb fo:Nat) (f1 f2:WF) (x1 x2:PF) (hf6:W6 w fb fo f1) (hf7:W6 w fb (fo+6) f2) (hx1:PIs w t n f1 x1) (hx2:PIs w u m f2 x2)(gra gca:Option Addr) (grc gcc gpc gb go:Nat) (g1 g2:WF) (y1 y2:PF) (hg6:W6 w gb go g1) (hg7:W6 w gb (go+6) g2) (hy1:PIs w t n g1 y1) (hy2:PIs w u m g2 y2) :
  Calls prog 34 #[.agg #[.int .i64 5,.int .i64 0,.slice (some ⟨b,off,none⟩) 2 sc],.agg #[.bool false,.int .i64 0,.int .u64 0,.slice fra 0 frc,.slice fca 0 fcc,.slice (some ⟨fb,fo,none⟩) 2 fpc],.agg #[.bool false,.int .i64 0,.int .u64 0,.slice gra 0 grc,.slice gca 0 gcc,.slice (some ⟨gb,go,none⟩) 2 gpc]] w (gO (.two t n u m) (.two (gE t n x1 y1) (gE u m x2 y2)) w):=by
 refine cH (args:=[.agg #[.int .i64 5,.int .i64 0,.slice (some ⟨b,off,none⟩) 2 sc],.agg #[.bool false,.int .i64 0,.int .u64 0,.slice fra 0 frc,.slice fca 0 fcc,.slice (some ⟨fb,fo,none⟩) 2 fpc],.agg #[.bool false,.int .i64 0,.int .u64 0,.slice gra 0 grc,.slice gca 0 gcc,.slice (some ⟨gb,go,none⟩) 2 gpc]]) func34 rfl ntmps34 rfl ?_
 have hS:=St.start w
 refine aL (aR (bK (cs:=[_,_,_]) hS rfl rfl rfl fun B1 W1 hS=>bK (cs:=[_,_,_,_,_,_]) hS rfl rfl rfl fun B2 W2 hS=>bK (cs:=[_,_,_,_,_,_]) hS rfl rfl rfl fun B3 W3 hS=>bH (cs:=[_,_,_,_,_,_]) hS zeroValue53 rfl rfl fun B4 W4 hS=>aQ (XF.thenN (aL (aL (aR (aP (o':=0) dL rfl rfl rfl (aT isAgg4 rfl (aK (hS.at_ 2 rfl) rfl) rfl (aG rfl rfl (bS (d:=11) rfl (fun hc=>absurd hc (by decide)) (fun hc=>?_)))))))))))
 skip
 refine aC (d:=11) rfl rfl (aP (o':=0) dL rfl rfl rfl (aC (d:=11) rfl rfl (aT isAgg4 rfl (aK (hS.at_ 1 rfl) rfl) rfl (bV rfl rfl rfl (aQ (XF.thenN (aZ rfl (fun hc=>absurd hc (by decide)) (fun hc=>?_))))))))
 skip
 refine bG (XF.thenN (aL (aR (cS (us:=[]) rfl (iN) rfl (bH (cs:=[_,_,_,_,_,_]) hS zeroValue53 rfl rfl fun B5 W5 hS=>aV (i:=0) (vs:=[_,_,_,_,_,_]) (cs':=[_,_,_,_,_,_]) (O':=[_,_,_,_,_]) hS sizeOf53 rfl rfl rfl rfl rfl rfl rfl fun W6 hS=>aQ (XF.thenN (aL (aL (aR (aP (o':=0) dW rfl rfl rfl (aT isAgg22 rfl (aK (hS.at_ 4 rfl) rfl) rfl (aQ (XF.thenN (bM (aL (aR (cM rfl rfl rfl (aA rfl rfl (aQ (XF.thenN (aZ rfl (fun hc=>absurd (of_decide_eq_true hc) (by omega)) (fun hc=>?_))))))))))))))))))))))
 have hc:=of_decide_eq_false hc
 refine aL (aR (cM rfl rfl rfl (aA rfl rfl (aQ (XF.thenN (aZ rfl (fun hc=>absurd (of_decide_eq_true hc) (by omega)) (fun hc=>?_)))))))
 have hc:=of_decide_eq_false hc
 refine aL (aR (cM rfl rfl rfl (aA rfl rfl (aQ (XF.thenN (aZ rfl (fun hc=>absurd (of_decide_eq_true hc) (by omega)) (fun hc=>?_)))))))
 have hc:=of_decide_eq_false hc
 refine aL (aR (cM rfl rfl rfl (aA rfl rfl (aQ (XF.thenN (aZ rfl (fun hc=>?_) (fun hc=>absurd (of_decide_eq_false hc) (by omega))))))))
 have hc:=of_decide_eq_true hc
 have hsz:=hS.below.size
 have k1:=aE.agree hS.agree (Nat.zero_le _) hs1.cells
 have k2:=aE.agree hS.agree (Nat.zero_le _) hs2.cells
 have kf1:=aE.agree hS.agree (Nat.zero_le _) hf6.cells
 have kf2:=aE.agree hS.agree (Nat.zero_le _) hf7.cells
 have kg1:=aE.agree hS.agree (Nat.zero_le _) hg6.cells
 have kg2:=aE.agree hS.agree (Nat.zero_le _) hg7.cells
 refine pB cE 28 hS rfl rfl (by kernel_rfl) (by kernel_rfl) (by kernel_rfl) (fun d hd=>by cases hd) (cC 1 rfl 3 rfl rfl (fun w hw=>aW (o':=2) dI rfl rfl) rfl (aX 2 rfl 66 0 rfl rfl rfl (fun w hw=>bA isAgg23 rfl ((aN hw 0).cell (Nat.zero_le _) (aK (hS.at_ 4 rfl) rfl))) rfl (aX 3 rfl 67 1 rfl rfl rfl (fun w hw=>bB (j:=0) underlying23 sizeOf25 rfl rfl rfl (by omega) (Nat.add_zero _)) rfl (aX 4 rfl 68 2 rfl rfl rfl (fun w hw=>bF (vs:=[_,_,_]) isAgg25 sizeOf25 rfl (aE.agree (aN hw 0) (Nat.zero_le _) (by assumption))) rfl (cC 5 rfl 4 rfl rfl (fun w hw=>aW (o':=5) cP rfl rfl) rfl (aX 6 rfl 70 4 rfl rfl rfl (fun w hw=>bA isAgg51 rfl ((aN hw 0).cell (Nat.zero_le _) (aK (hS.at_ 3 rfl) rfl))) rfl (aX 7 rfl 71 5 rfl rfl rfl (fun w hw=>bB (j:=0) underlying51 sizeOf53 rfl rfl rfl (by omega) (Nat.add_zero _)) rfl (aX 8 rfl 72 6 rfl rfl rfl (fun w hw=>bF (vs:=[_,_,_,_,_,_]) isAgg53 sizeOf53 rfl (aE.agree (aN hw 0) (Nat.zero_le _) (by assumption))) rfl (cC 9 rfl 5 rfl rfl (fun w hw=>aW (o':=5) cP rfl rfl) rfl (aX 10 rfl 74 8 rfl rfl rfl (fun w hw=>bA isAgg51 rfl ((aN hw 0).cell (Nat.zero_le _) (aK (hS.at_ 2 rfl) rfl))) rfl (aX 11 rfl 75 9 rfl rfl rfl (fun w hw=>bB (j:=0) underlying51 sizeOf53 rfl rfl rfl (by omega) (Nat.add_zero _)) rfl (aX 12 rfl 76 10 rfl rfl rfl (fun w hw=>bF (vs:=[_,_,_,_,_,_]) isAgg53 sizeOf53 rfl (aE.agree (aN hw 0) (Nat.zero_le _) (by assumption))) rfl ?_))))))))))))
 refine aM 13 rfl (dP W6.heap.size (.one t n) (.one (gE t n x1 y1))) (dQ) (cV [isV _,isV _,isV _] rfl Cv (aU rfl) ⟨bZ (aO 3 (aB rfl rfl rfl)),bZ (aO 7 (aB rfl rfl rfl)),bZ (aO 11 (aB rfl rfl rfl)),trivial⟩ (fun vs w' hb hh=>by have e:=cB (us:=[_,_,_]) hh;subst e;exact eY hb.size (pS _ _ _ _ _ _ _ _ _ hp1 (hx1.below (hS.below.trans (hb.mono hS.below.size))) (hy1.below (hS.below.trans (hb.mono hS.below.size))))) (aH rfl)) ?_
 refine cC 14 rfl 3 rfl rfl (fun w hw=>aW (o':=2) dI rfl rfl) rfl (aX 15 rfl 79 13 rfl rfl rfl (fun w hw=>bA isAgg23 rfl ((aN hw 0).cell (Nat.zero_le _) (aK (hS.at_ 4 rfl) rfl))) rfl (aX 16 rfl 80 14 rfl rfl rfl (fun w hw=>bB (j:=1) underlying23 sizeOf25 rfl rfl rfl (by omega) rfl) rfl (aX 17 rfl 81 15 rfl rfl rfl (fun w hw=>bF (vs:=[_,_,_]) isAgg25 sizeOf25 rfl (aE.agree (aN hw 0) (Nat.zero_le _) (by assumption))) rfl (cC 18 rfl 4 rfl rfl (fun w hw=>aW (o':=5) cP rfl rfl) rfl (aX 19 rfl 83 17 rfl rfl rfl (fun w hw=>bA isAgg51 rfl ((aN hw 0).cell (Nat.zero_le _) (aK (hS.at_ 3 rfl) rfl))) rfl (aX 20 rfl 84 18 rfl rfl rfl (fun w hw=>bB (j:=1) underlying51 sizeOf53 rfl rfl rfl (by omega) rfl) rfl (aX 21 rfl 85 19 rfl rfl rfl (fun w hw=>bF (vs:=[_,_,_,_,_,_]) isAgg53 sizeOf53 rfl (aE.agree (aN hw 0) (Nat.zero_le _) (by assumption))) rfl (cC 22 rfl 5 rfl rfl (fun w hw=>aW (o':=5) cP rfl rfl) rfl (aX 23 rfl 87 21 rfl rfl rfl (fun w hw=>bA isAgg51 rfl ((aN hw 0).cell (Nat.zero_le _) (aK (hS.at_ 2 rfl) rfl))) rfl (aX 24 rfl 88 22 rfl rfl rfl (fun w hw=>bB (j:=1) underlying51 sizeOf53 rfl rfl rfl (by omega) rfl) rfl (aX 25 rfl 89 23 rfl rfl rfl (fun w hw=>bF (vs:=[_,_,_,_,_,_]) isAgg53 sizeOf53 rfl (aE.agree (aN hw 0) (Nat.zero_le _) (by assumption))) rfl ?_)))))))))))
 refine aM 26 rfl (dP W6.heap.size (.one u m) (.one (gE u m x2 y2))) (dQ) (cV [isV _,isV _,isV _] rfl Cv (aU rfl) ⟨bZ (aO 16 (aB rfl rfl rfl)),bZ (aO 20 (aB rfl rfl rfl)),bZ (aO 24 (aB rfl rfl rfl)),trivial⟩ (fun vs w' hb hh=>by have e:=cB (us:=[_,_,_]) hh;subst e;exact eY hb.size (pS _ _ _ _ _ _ _ _ _ hp2 (hx2.below (hS.below.trans (hb.mono hS.below.size))) (hy2.below (hS.below.trans (hb.mono hS.below.size))))) (aH rfl)) ?_
 refine aM 27 rfl (lL W6.heap.size (.two t n u m) (.two (gE t n x1 y1) (gE u m x2 y2))) (mB) (rZ rfl (aU rfl) ⟨bZ (aO 12 (aB rfl rfl rfl)),bZ (aO 25 (aB rfl rfl rfl)),trivial⟩ (aH rfl)) (cC 28 rfl 7 rfl rfl (fun w hw=>aW (o':=5) cP rfl rfl) rfl (dC ?_))
 intro W7 hbR hS'
 clear hS;have hS:=hS';clear hS'
 refine aI (aI (aI (aI (aI (aI (aI (aI (aI (aI (aI (aI ?_)))))))))))
 refine cW ?_;rintro _ ⟨v1,rfl,hn1⟩
 refine aI (aI (aI (aI (aI (aI (aI (aI (aI (aI (aI (aI ?_)))))))))))
 refine cW ?_;rintro _ ⟨v2,rfl,hn2⟩
 refine cW ?_;rintro _ ⟨b9,rfl,hn9⟩
 refine aI (cL (fA (i:=0) (cs':=[_,_,_,_,_,_]) (O':=[_,_,_,_,_]) hS sizeOf51 rfl rfl rfl rfl rfl rfl rfl fun W8 hS=>aQ (XF.blkN (XF.thenN (aL (aR (aS (vs:=[_,_,_,_,_,_]) isAgg53 sizeOf53 rfl (aE.own (j:=0) (m:=6) (hS.at_ 0 rfl) rfl) rfl (aV (i:=1) (vs:=[_,_,_,_,_,_]) (cs':=[_,_,_,_,_,_]) (O':=[_,_,_,_,_]) hS sizeOf53 rfl rfl rfl rfl rfl rfl rfl fun W9 hS=>aQ (XF.thenN (bJ (XF.res (dO (vs:=[_,_,_,_,_,_]) results34 isAgg53 sizeOf53 rfl (aE.own (j:=0) (m:=6) (hS.at_ 1 rfl) rfl)) ?_)))))))))))
 exact ⟨pH b9,rfl,(hn9.agree (hS.since 0 rfl)).mono hsz,hS.below⟩
theorem Rm {S:PS} {sf:SF} {f g:WF} {x y:PX} {w:World} (hs:SIs w S sf) (hok:S.ok) (hx:XIs w S f x) (hy:XIs w S g y):Calls prog 34 #[sf.val,f.val,g.val] w (gO S (kO S x y) w):=by
 cases S<;>cases x<;>cases y<;>first | exact hx.elim | exact hy.elim | skip
 ·obtain ⟨a,c,rfl⟩:=hs
  exact pS _ _ _ _ _ _ _ _ _ hok hx hy
 ·obtain ⟨b,off,c,a1,c1,a2,c2,rfl,h1,h2⟩:=hs
  obtain ⟨ra,ca,rc,cc,pc,fb,fo,f1,f2,rfl,h6,h7,h8,h9⟩:=hx.two
  obtain ⟨ra',ca',rc',cc',pc',gb,go,g1,g2,rfl,h6',h7',h8',h9'⟩:=hy.two
  exact I3 _ _ _ _ _ _ _ _ _ _ _ _ h1 h2 hok.1 hok.2 _ _ _ _ _ _ _ _ _ _ _ h6 h7 h8 h9 _ _ _ _ _ _ _ _ _ _ _ h6' h7' h8' h9'
theorem St.regrow {w0 W W':World} {v v':Value} {n n':Nat} {xs xs':List Value} {e:TypeId} {size:Nat} (h:St w0 [] [⟨v,n,xs,e,size⟩] [] W) (hb:Below w0.heap.size W W') (hr:W'.ownsRow w0.heap.size e size v' n' xs'):St w0 [] [⟨v',n',xs',e,size⟩] [] W' :=
 ⟨h.below.trans hb,(fun p hp=>by cases hp),List.Pairwise.nil,(fun q hq=>by cases hq),(fun g hg=>by
  rcases List.mem_cons.1 hg with rfl | hg
  ·exact ⟨hr,fun b hb=>⟨fun p hp=>(by cases hp),fun q hq=>(by cases hq)⟩⟩
  ·cases hg),List.pairwise_singleton _ _⟩
section
variable {P:Program} {n:Nat} {ops:Array Oper} {Q:Exit→Act→World→Prop} {l:Fr} {w0 W:World} {O:Own} {G:cY} {K:List (Nat×World)} {os:List Oper} {d:Nat} {ty:TypeId} {pos:String} {aft:Array Edge}
theorem Rn {src dst e:TypeId} {x:Operand} {base:Nat} {v:Value} {bs:List UInt8} (hs:P.underlying src=some (.slice e)) (he:P.underlying e=some (.int .u8)) (hdst:P.underlying dst=some .string) (hx:evL l x=some v) (hr:W.ownsRow base e 1 v bs.length (Lib.byteCells bs)) (h0:0 < bs.length) (hd:Nat.blt d n=true)
  (h:cX P n ops Q os ((d,.string ⟨bs.toArray⟩)::l) W):cX P n ops Q (⟨some d,.convert src dst x,ty,pos,aft,none⟩::os) l W :=
 opV (v:=.string ⟨bs.toArray⟩) (fun ev hev=>by
  obtain ⟨b,c,rfl,_⟩:=Ip hr h0
  have hc:∀ j (hj:j < bs.length),W.cell? (Addr.add ⟨b,0,none⟩ j)=some (.int .u8 (bs[j].toNat:Int)):=fun j hj=>by
   rcases iK hr with ⟨h1,_⟩ | ⟨b',h1,_,h2⟩
   ·cases h1
   ·cases h1
    rw [Addr.add_lit,Nat.zero_add]
    exact h2 j _ (by simp [Lib.byteCells,hj])
  have hr:=run_convert_bytes_back (P:=P) W src dst e ⟨b,0,none⟩ c bs hs he hdst hc
  unfold execOp;simp only [];rw [hev x _ hx]
  simp [hr]) hd h
end
def fV (p:Int) (ws:List Int):List UInt8:=Lib.itoa p++ws.flatMap (fun g=>32::Lib.itoa g)
theorem I4 {p:Int} {ws:List Int} {i:Nat} {y:Int} (h:ws[i]?=some y):fV p (ws.take (i+1))=fV p (ws.take i)++32::Lib.itoa y:=by
 unfold fV
 rw [List.take_add_one,h]
 simp [List.flatMap_append]
theorem Nf {p:Int} {ws:List Int} (hp : -9223372036854775808≤p∧p≤9223372036854775807) (hw:∀ y∈ws,-9223372036854775808≤y∧y≤9223372036854775807):(fV p ws).length≤21+22 * ws.length:=by
 unfold fV
 rw [List.length_append]
 have h1:=Lib.itoa_length_le p hp.1 hp.2
 have h2:(ws.flatMap (fun g=>32::Lib.itoa g)).length≤22 * ws.length:=by
  induction ws with
  | nil=>simp
  | cons y t ih =>
   have h3:=hw y List.mem_cons_self
   have h4:=Lib.itoa_length_le y h3.1 h3.2
   have h5:=ih (fun z hz=>hw z (List.mem_cons_of_mem _ hz))
   simp only [List.flatMap_cons,List.length_append,List.length_cons]
   omega
 omega
theorem text_c (p:Int) (wa:Option Addr) (wl wc:Nat) (ws:List Int) (w:World) (hrow:Row w wa ws) (hlen:ws.length=wl) (hm:wl≤4096) (hp : -9223372036854775808≤p∧p≤9223372036854775807) (hwr:∀ y∈ws,-9223372036854775808≤y∧y≤9223372036854775807) (hne:0 < (fV p ws).length) (ht:Tabs w) :
  Calls prog 15 #[.agg #[.int .i64 p,.slice wa wl wc]] w (fun e w'=>e = .returned (.string ⟨(fV p ws).toArray⟩)∧Below w.heap.size w w'):=by
 refine cH (args:=[.agg #[.int .i64 p,.slice wa wl wc]]) func15 rfl ntmps15 rfl ?_
 have hS:=St.start w
 refine aL (aR (bK (cs:=[_,_]) hS rfl rfl rfl fun B1 W1 hS=>aA rfl rfl (aQ (XF.thenN (aL ?_)))))
 have hRoot:=hS.below
 have c0:W1.cell? ⟨B1,0,none⟩=some (.int .i64 p):=aK (hS.at_ 0 rfl) rfl
 have c1:W1.cell? ⟨B1,1,none⟩=some (.slice wa wl wc):=aK (hS.at_ 0 rfl) rfl
 have hT:Lib.TabBelow prog W1.heap.size W1 "internal/strconv.uint64pow10" .u64 Lib.pow10Tab:=fun w2 hb2=>(ht.below (hRoot.trans (hb2.mono hRoot.size))).pow
 have hRoot0:=hRoot
 clear hS;have hS:=St.start W1
 refine aR (aP iM rfl (Nat.add_zero _) rfl (aT isAgg3 rfl (by first | assumption | exact hS.old (by assumption)) rfl (xZ (vs:=[_,_,_]) (xs:=[]++Lib.byteCells (Lib.itoa p)) (e1:=5) (size:=1) (m:=0+(Lib.itoa p).length) hS J8 rfl (Tryz.strconv_AppendInt_10 W1.heap.size 0 p hp.1 hp.2 _ [] _ (World.ownsRow_nil _ _ _ _) (Nat.le_refl _) (by decide) hT) rfl (fun e W2 ⟨v,h1,h2,h3,_⟩=>⟨v,h1,h3,h2⟩) fun v2 W2 hS=>aA rfl rfl (aQ (XF.thenN (aL (aL (aR (aP dZ rfl rfl rfl (aT isAgg29 rfl (by first | assumption | exact hS.old (by assumption)) rfl (bX underlying29 rfl rfl (aG rfl rfl (aQ (XF.thenN (bM (dK (fun m l W=>∃ (i:Nat) (v:Value),i≤wl∧m=wl - i∧l=[(3,v),(10,.slice wa wl wc),(11,.int .i64 (wl:Int)),(12,.int .i64 (i:Int))]∧St W1 [] [⟨v,(fV p (ws.take i)).length,Lib.byteCells (fV p (ws.take i)),5,1⟩] [] W) (wl - 0) ([(3,_),(10,_),(11,_),(12,_)]) ⟨rfl,rfl,rfl,rfl,trivial⟩ (⟨0,_,Nat.zero_le _,rfl,rfl,hS.castG (by simp [fV])⟩) ?_))))))))))))))))
 clear hS
 rintro m l W ⟨i,v,hi,rfl,rfl,hS⟩
 refine aL (aR (cN rfl rfl rfl (aQ (XF.thenN (aL (aZ rfl (fun hc=>?_) (fun hc=>?_)))))))
 ·have hc13:=of_decide_eq_true hc;clear hc
  have hk:i < wl:=by omega
  obtain ⟨b,off,y,rfl,hy,hyc⟩:=hrow.at1 (show i < ws.length by omega)
  have k1:=hS.old (iF hyc hRoot0)
  have hyr:=hwr y (List.mem_of_getElem? hy)
  have hTl:=Nf (ws:=ws.take i) hp (fun z hz=>hwr z (List.mem_of_mem_take hz))
  have hTl2:(ws.take i).length≤4096:=by rw [List.length_take];omega
  refine bG (XF.thenN (aL (bM (aL (aR (cK  underlying29 sizeOf3 rfl rfl rfl (by omega) rfl rfl (aT isAgg3 rfl (by first | assumption | exact hS.old (by assumption)) rfl (aA rfl rfl (aQ (XF.thenN (aL (aR (aG rfl rfl (cU (us:=[(0,.int .u8 _)]) hS underlying94 sizeOf5 zeroValue5 rfl rfl rfl (bs_94_1 _) rfl fun B3 W3 hS=>?_))))))))))))))
  refine iB (i:=0) (news:=[_]) hS underlying94 inf_5 rfl rfl (by show 0 < 1;decide) rfl rfl rfl rfl rfl (aE.own (j:=0) (m:=1) (hS.at_ 0 rfl) rfl) rfl rfl (by simp only [maxLen];omega) (by show ((fV p (ws.take i)).length+1) * 1≤_;omega) rfl fun v4 W4 hS=>?_
  refine aA rfl rfl (aQ (XF.thenN (aR (aG rfl rfl (aG rfl rfl (tO (vs:=[_,_,_]) J8 rfl (Tryz.strconv_AppendInt_10 W1.heap.size ((fV p (ws.take i)).length+1) y hyr.1 hyr.2 _ _ _ (hS.row 0 rfl) hS.below.size (by omega) (fun w2 hb2=>hT w2 (hS.below.trans hb2))) rfl ?_))))))
  rintro e W90 ⟨v90,rfl,hown90,hb90,_⟩
  refine ⟨_,rfl,?_⟩
  have hS:=(hS.tail.clear).regrow hb90 hown90
  refine aA rfl rfl (aQ (XF.blkN (XF.thenN (aR (cR rfl rfl (IntWalk.i64_in _ (by omega)) rfl (aG rfl rfl (aQ ?_)))))))
  exact XF.round (wl - (i+1)) [(3,_),(10,_),(11,_),(12,_)] (by omega) ⟨rfl,rfl,rfl,rfl,trivial⟩ ⟨i+1,v90,by omega,rfl,rfl,hS.castG (by rw [I4 hy];simp [Lib.byteCells,Nat.add_assoc,Nat.add_comm 1])⟩
 ·have hc13:=of_decide_eq_false hc;clear hc
  rw [List.take_of_length_le (by omega)] at hS
  refine dE (XF.thenX (XF.thenX (XF.blkX (XF.thenN (aL (aR (aG rfl rfl (Rn underlying94 underlying5 underlying9 rfl (hS.row 0 rfl) hne rfl (aA rfl rfl (aQ (XF.thenN (bJ (XF.res (cJ results15 rfl) ?_)))))))))))))
  exact ⟨rfl,hRoot0.trans (hS.below.mono hRoot0.size)⟩
structure Ready (w:World) (S:PS) (px:RV→PX) (p:PV) (c:CV):Prop where
 chk:stepE p c=0
 ok:S.ok
 si:SIs w S p.s.f
 w4:∀ r∈p.rs,r.wl≤4096
 c4:c.wl≤4096
 x:∀ r∈p.rs,XIs w S r.x.f (px r)
theorem ready {w:World} {ds d:Nat} {p:PV} {c:CV} (hp:PvIn w ds d p) (h:stepE p c=0):∃ S px,Ready w S px p c:=by
 classical
 have h1:gX p=0∧gH p c=true:=by
  unfold stepE at h
  split at h
  ·rename_i hn;exact absurd h hn
  ·rename_i hn
   split at h
   ·rename_i hc;exact ⟨Decidable.of_not_not hn,hc⟩
   ·cases h
 obtain ⟨hd,hc⟩:=h1
 have h2:eI p.s=0∧p.rs.all (fB p.st p.sy)=true∧wtE p.s p.rs=0:=by
  unfold gX at hd
  split at hd
  ·rename_i hn;exact absurd hd hn
  ·rename_i hn
   split at hd
   ·cases hd
   ·split at hd
    ·cases hd
    ·split at hd
     ·rename_i ha;exact ⟨Decidable.of_not_not hn,ha,hd⟩
     ·cases hd
 obtain ⟨hs,hr,hw⟩:=h2
 obtain ⟨S,hok,hsi,hx⟩:=Qu hp.s hs
 have hall:∀ r∈p.rs,kQ p.s r.x=0:=by
  have key:∀ rs:List RV,wtE p.s rs=0→∀ r∈rs,kQ p.s r.x=0:=by
   intro rs
   induction rs with
   | nil=>intro _ r hr;cases hr
   | cons a rs ih =>
    intro hz r hr
    unfold wtE at hz
    split at hz
    ·rename_i h0
     rcases List.mem_cons.1 hr with rfl | hr
     ·exact h0
     ·exact ih hz r hr
    ·rename_i h0;exact absurd hz h0
  exact key _ hw
 have hex:∀ r,∃ x,r∈p.rs→XIs w S r.x.f x:=fun r=>by
  by_cases hm:r∈p.rs
  ·have h0:=hall r hm
   have hokw:okW p.s r.x=true:=by
    unfold kQ at h0
    rw [if_pos hs] at h0
    split at h0
    ·assumption
    ·cases h0
   obtain ⟨x,hxx⟩:=hx r.x d (hp.rin r hm).x hokw
   exact ⟨x,fun _=>hxx⟩
  ·exact ⟨kF S,fun h=>absurd h hm⟩
 refine ⟨S,fun r=>Classical.choose (hex r),h,hok,hsi,fun r hm=>?_,?_,fun r hm=>Classical.choose_spec (hex r) hm⟩
 ·have:=List.all_eq_true.1 hr r hm
  unfold fB at this
  simp only [Bool.and_eq_true,decide_eq_true_eq] at this
  exact this.2.2.2.1
 ·unfold gH at hc
  simp only [Bool.and_eq_true,decide_eq_true_eq] at hc
  exact hc.2.1
section
variable {w:World} {ds d:Nat} {S:PS} {px:RV→PX} {p:PV} {c:CV} {la:Option Addr} {ll lc:Nat} {is:List Int} {R:Option StT×Int×Int}
theorem runA_is (hp:PvIn w ds d p) (hcf:CIn w c) (hcc:c.wl≤c.wc) (hrla:Row w la is) (hll:is.length=ll) (hlm:ll≤9223372036854775807) (hr:Ready w S px p c) (ht:Tabs w) (hR:rX S px p.rs is 0 (c.p,c.ws,rH S)=R):Calls prog 21 #[p.val,c.val,.slice la ll lc] w (yC S R w):=by
 subst hR
 exact runA_c ds d S px p.s p.st p.sy p.ra p.rl p.rc p.rs c.p c.wa c.wl c.wc c.ws la ll lc is w hp.s hp.row hp.len hp.rin hcf.row hcf.len hcc hrla hll hlm hr.si hr.ok hr.chk hr.w4 hr.c4 hr.x ht
theorem Ready.below {w':World} (h:Ready w S px p c) (hb:Below w.heap.size w w'):Ready w' S px p c:=⟨h.chk,h.ok,h.si.below hb,h.w4,h.c4,fun r hm=>(h.x r hm).below hb⟩
end
end
section
open Go.RowKit Go.ChangeShapes Go.WideShapes Go.Deep
section
variable {H:Type} {enc:TypeId×Value→H} {w:World} {base:Nat} {spare:Nat→Bool} {held:Bool}
theorem Av {cs:List Value} (h:cs.length=3):∃ a b c,cs=[a,b,c]:=by
 match cs,h with
 | [a,b,c],_=>exact ⟨a,b,c,rfl⟩
theorem Ng {n:Nat} {cs:List Value} {x:DataW H×List MemPlace} (hl:cs.length=3) (h:DataW.trod enc prog w base spare held n 92 cs=some x) :
  ∃ c:Cl,c.f < 18446744073709551616∧cs=[.int .u64 (c.f:Int),.int .i64 c.k,.int .i64 c.v]:=by
 obtain ⟨xs,n',_,hx,_,hlen,hg⟩:=DataW.trod_struct underlying92 h
 obtain ⟨a,b,c,rfl⟩:=Av hl
 ·skip
  have hlen3:xs.length=3:=hlen
  have g0:=hg 0 _ rfl
  have g1:=hg 1 _ rfl
  have g2:=hg 2 _ rfl
  rw [show prog.cellsOf _=1 by kernel_rfl,List.getElem?_eq_getElem (by omega)] at g0 g1 g2
  obtain ⟨z0,e0,_,w0⟩:=DataW.trod_int underlying46 g0
  obtain ⟨z1,e1,_,w1⟩:=DataW.trod_int (k:=.i64) (by kernel_rfl) g1
  obtain ⟨z2,e2,_,w2⟩:=DataW.trod_int (k:=.i64) (by kernel_rfl) g2
  simp at e0 e1 e2
  subst e0 e1 e2
  have hw:0≤z0∧z0≤18446744073709551615:=by simpa [Lit.wf,IntKind.signed,IntKind.bits,IntKind.min,IntKind.max] using w0
  exact ⟨⟨z0.toNat,z1,z2⟩,by show z0.toNat < _;omega,by simp;omega⟩
theorem Lh:∀ (n:Nat) (p:Nat→Cl→Prop),(∀ i,i < n→∃ c,p i c)→∃ xs:List Cl,xs.length=n∧∀ i c,xs[i]?=some c→p i c
 | 0,p,h=>⟨[],rfl,fun i c hi=>by simp at hi⟩
 | n+1,p,h=>by
  obtain ⟨xs,hl,hp⟩:=Lh n p (fun i hi=>h i (by omega))
  obtain ⟨c,hc⟩:=h n (by omega)
  refine ⟨xs++[c],by simp [hl],fun i d hi=>?_⟩
  rcases Nat.lt_or_ge i n with h1 | h1
  ·rw [List.getElem?_append_left (by omega)] at hi
   exact hp i d hi
  ·obtain ⟨h2,_⟩:=List.getElem?_eq_some_iff.1 hi
   simp [hl] at h2
   obtain rfl:i=n:=by omega
   rw [List.getElem?_append_right (by omega),hl,Nat.sub_self] at hi
   simp at hi
   subst hi
   exact hc
theorem I5 {n:Nat} {a:Option Addr} {len cap:Nat} {x:DataW H×List MemPlace} (h:DataW.trod enc prog w base spare held n 50 [.slice a len cap]=some x) :
  ∃ xs,IsCells w a len cap xs:=by
 rcases open_slice underlying50 h with ⟨hcs,_⟩ | ⟨ad,len',cap',m,n',D,Pl,hcs,hb,hl,hm,hmm,hx,hi⟩
 ·simp at hcs
  obtain ⟨rfl,rfl,rfl⟩:=hcs
  exact ⟨[],rfl,by simp,.inl rfl,fun c hc=>by simp at hc⟩
 ·simp at hcs
  obtain ⟨rfl,rfl,rfl⟩:=hcs
  rw [show prog.cellsOf 92=3 by kernel_rfl] at hi
  obtain ⟨xs,hxl,hxs⟩:=Lh len (fun i c=>c.f < 18446744073709551616∧w.cell? (ad.add (i * 3))=some (.int .u64 (c.f:Int))∧w.cell? (ad.add (i * 3+1))=some (.int .i64 c.k)∧w.cell? (ad.add (i * 3+2))=some (.int .i64 c.v)) (fun i hil=>by
   obtain ⟨cs',hc,ht⟩:=hi i (by rw [hmm];split<;>omega)
   obtain ⟨_,hcl,hat⟩:=World.cells?_some hc
   obtain ⟨c,hf,rfl⟩:=Ng hcl ht
   have e0:=hat 0 (by omega)
   have e1:=hat 1 (by omega)
   have e2:=hat 2 (by omega)
   rw [add_add] at e0 e1 e2
   exact ⟨c,hf,e0,e1,e2⟩)
  refine ⟨xs,hxl.symm,by omega,?_,fun c hc=>?_⟩
  ·rcases Nat.eq_zero_or_pos len with h0 | h0
   ·exact .inl (List.length_eq_zero_iff.1 (by omega))
   ·obtain ⟨b,off,spot⟩:=ad
    obtain ⟨_,h1,_,_⟩:=hxs 0 (xs[0]'(by omega)) (List.getElem?_eq_getElem (by omega))
    have hspot:spot=none:=by simpa [Addr.add] using World.cell?_spot h1
    subst hspot
    refine .inr ⟨b,off,rfl,fun i c hic=>?_⟩
    have e:∀ k,({ block:=b,off:=off }:Addr).add k=⟨b,off+k,none⟩:=fun k=>by simp [Addr.add]
    have h3:=(hxs i c hic).2
    rw [e,e,e,← Nat.add_assoc,← Nat.add_assoc] at h3
    exact h3
  ·obtain ⟨i,hi',hic⟩:=List.mem_iff_getElem.1 hc
   exact (hxs i c (by rw [← hic];exact List.getElem?_eq_getElem hi')).1
end
section
variable {H:Type} {enc:TypeId×Value→H} {w:World} {base:Nat} {spare:Nat→Bool} {held:Bool}
theorem I6 {n:Nat} {cs:List Value} {x:DataW H×List MemPlace} (h:DataW.trod enc prog w base spare held n 50 cs=some x):∃ a len cap,cs=[.slice a len cap]:=by
 rcases open_slice underlying50 h with ⟨hcs,_⟩ | ⟨ad,len',cap',m,n',D,Pl,hcs,_⟩
 ·exact ⟨_,_,_,hcs⟩
 ·exact ⟨_,_,_,hcs⟩
end
end
section
open Go.RowKit Go.ChangeShapes Go.WideShapes Go.Deep Go.Joins
theorem nO {α:Type}:∀ (n:Nat) (p:Nat→α→Prop),(∀ i,i < n→∃ c,p i c)→∃ xs:List α,xs.length=n∧∀ i c,xs[i]?=some c→p i c
 | 0,p,h=>⟨[],rfl,fun i c hi=>by simp at hi⟩
 | n+1,p,h=>by
  obtain ⟨xs,hl,hp⟩:=nO n p (fun i hi=>h i (by omega))
  obtain ⟨c,hc⟩:=h n (by omega)
  refine ⟨xs++[c],by simp [hl],fun i d hi=>?_⟩
  rcases Nat.lt_or_ge i n with h1 | h1
  ·rw [List.getElem?_append_left (by omega)] at hi
   exact hp i d hi
  ·obtain ⟨h2,_⟩:=List.getElem?_eq_some_iff.1 hi
   simp [hl] at h2
   obtain rfl:i=n:=by omega
   rw [List.getElem?_append_right (by omega),hl,Nat.sub_self] at hi
   simp at hi
   subst hi
   exact hc
theorem SIn.more {w:World}:∀ {d e:Nat} {s:SV},d≤e→SIn w d s→SIn w e s
 | 0,_,_,_,h=>h.elim
 | d+1,0,_,hl,_=>by omega
 | d+1,e+1,.mk f ps,hl,⟨h1,h2,h3⟩=>⟨h1,h2,fun p hp=>SIn.more (by omega) (h3 p hp)⟩
theorem WIn.more {w:World}:∀ {d e:Nat} {s:WV},d≤e→WIn w d s→WIn w e s
 | 0,_,_,_,h=>h.elim
 | d+1,0,_,hl,_=>by omega
 | d+1,e+1,.mk f ps,hl,⟨h0,h1,h2,h3⟩=>⟨h0,h1,h2,fun p hp=>WIn.more (by omega) (h3 p hp)⟩
theorem Li {cs:List Value} (h:cs.length=6):∃ a b c d e f,cs=[a,b,c,d,e,f]:=by
 match cs,h with
 | [a,b,c,d,e,f],_=>exact ⟨a,b,c,d,e,f,rfl⟩
theorem two_len {cs:List Value} (h:cs.length=2):∃ a b,cs=[a,b]:=by
 match cs,h with
 | [a,b],_=>exact ⟨a,b,rfl⟩
section
variable {H:Type} {enc:TypeId×Value→H} {w:World} {base:Nat} {spare:Nat→Bool} {held:Bool}
theorem Gw:∀ (fuel:Nat) {cs:List Value} {x:DataW H×List MemPlace},DataW.trod enc prog w base spare held fuel 25 cs=some x→∃ s:SV,cs=[.int .i64 s.f.tag,.int .i64 s.f.dim,.slice s.f.a s.f.len s.f.cap]∧SIn w fuel s:=by
 intro fuel
 induction fuel using Nat.strongRecOn with
 | _ fuel ih =>
 intro cs x h
 obtain ⟨xs,n,hn,_,hl,hlen,hg⟩:=DataW.trod_struct underlying25 h
 rw [show prog.cellsOf 25=3 by kernel_rfl] at hl
 obtain ⟨a,b,c,rfl⟩:=Av hl
 have hlen3:xs.length=3:=hlen
 have g0:=hg 0 _ rfl
 have g1:=hg 1 _ rfl
 have g2:=hg 2 _ rfl
 rw [show prog.cellsOf _=1 by kernel_rfl,List.getElem?_eq_getElem (by omega)] at g0 g1 g2
 obtain ⟨z0,e0,_,w0⟩:=DataW.trod_int (k:=.i64) (by kernel_rfl) g0
 obtain ⟨z1,e1,_,w1⟩:=DataW.trod_int (k:=.i64) (by kernel_rfl) g1
 simp at e0 e1
 subst e0 e1
 rcases DataW.trod_slice underlying23 g2 with ⟨hcs,_⟩ | ⟨ad,len,cap,elems,rest,n',hn',hcs,_,hb,hle,hcap,hel,hi,_,_⟩
 ·simp at hcs
  subst hcs
  subst hn
  exact ⟨.mk ⟨z0,z1,none,0,0⟩ [],rfl,rfl,.inl rfl,fun p hp=>by cases hp⟩
 ·simp at hcs
  subst hcs
  subst hn
  rw [show prog.cellsOf 25=3 by kernel_rfl] at hi
  obtain ⟨ps,hpl,hps⟩:=nO len (fun i (p:SV)=>(w.cell? (ad.add (i * 3))=some (.int .i64 p.f.tag)∧w.cell? (ad.add (i * 3+1))=some (.int .i64 p.f.dim)∧w.cell? (ad.add (i * 3+2))=some (.slice p.f.a p.f.len p.f.cap))∧SIn w n' p) (fun i hil=>by
   have hii:=hi i hil
   rw [List.getElem?_eq_getElem (by omega)] at hii
   obtain ⟨cs',hc,ht⟩:=Option.bind_eq_some_iff.1 hii
   obtain ⟨_,hcl,hat⟩:=World.cells?_some hc
   obtain ⟨s,rfl,hs⟩:=ih n' (by omega) ht
   have e0:=hat 0 (by omega)
   have e1:=hat 1 (by omega)
   have e2:=hat 2 (by omega)
   rw [Go.Deep.add_add] at e0 e1 e2
   exact ⟨s,⟨e0,e1,e2⟩,hs⟩)
  refine ⟨.mk ⟨z0,z1,some ad,len,cap⟩ ps,rfl,hpl,?_,fun p hp=>?_⟩
  ·rcases Nat.eq_zero_or_pos len with h0 | h0
   ·exact .inl (List.length_eq_zero_iff.1 (by omega))
   ·obtain ⟨b,off,spot⟩:=ad
    obtain ⟨⟨h1,_,_⟩,_⟩:=hps 0 (ps[0]'(by omega)) (List.getElem?_eq_getElem (by omega))
    have hspot:spot=none:=by simpa [Addr.add] using World.cell?_spot h1
    subst hspot
    refine .inr ⟨b,off,rfl,fun i c hic=>?_⟩
    have e:∀ k,({ block:=b,off:=off }:Addr).add k=⟨b,off+k,none⟩:=fun k=>by simp [Addr.add]
    have h3:=(hps i c hic).1
    rw [e,e,e,← Nat.add_assoc,← Nat.add_assoc] at h3
    exact h3
  ·obtain ⟨i,hi',hic⟩:=List.mem_iff_getElem.1 hp
   exact (hps i p (by rw [← hic];exact List.getElem?_eq_getElem hi')).2.more (by omega)
theorem Nh {n:Nat} {v:Value} {x:DataW H×List MemPlace} (h:DataW.trod enc prog w base spare held n 47 [v]=some x) :
  ∃ (a:Option Addr) (len cap:Nat) (rows:List Nat),v = .slice a len cap∧fP w a (u64s rows)∧rows.length=len∧∀ r∈rows,r < 18446744073709551616:=by
 rcases open_ints (t:=47) (e:=46) (k:=.u64) (by kernel_rfl) (by kernel_rfl) (by kernel_rfl) h with ⟨hcs,_⟩ | ⟨x,len,cap,zs,hcs,_,hl,hm,hz,_,hcell,hwz⟩
 ·have hcs':v = .slice none 0 0:=by simpa using hcs
  subst hcs'
  exact ⟨none,0,0,[],rfl,.inl rfl,rfl,fun r hr=>by cases hr⟩
 ·have hcs':v = .slice (some x) len cap:=by simpa using hcs
  subst hcs'
  have hzl:len≤zs.length:=by rw [hz];split<;>omega
  refine ⟨some x,len,cap,(zs.take len).map Int.toNat,rfl,?_,?_,?_⟩
  ·rcases Nat.eq_zero_or_pos len with h0 | h0
   ·subst h0;exact .inl (by simp [u64s])
   ·obtain ⟨b,off,spot⟩:=x
    have hc0:=hcell 0 (by omega)
    have hspot:spot=none:=by simpa [Addr.add] using World.cell?_spot hc0
    subst hspot
    refine .inr ⟨b,off,rfl,fun i v hi=>?_⟩
    obtain ⟨q,hq,rfl⟩:=Bh hi
    rw [List.getElem?_map,List.getElem?_take] at hq
    split at hq
    ·rename_i hlt
     have hi2:i < zs.length:=by omega
     rw [List.getElem?_eq_getElem hi2] at hq
     have hq':(zs[i]).toNat=q:=by simpa using hq
     obtain ⟨m,hm1,hm2⟩:=Bv (hwz _ (List.getElem_mem hi2))
     have hc:=hcell i hi2
     have e:({ block:=b,off:=off }:Addr).add i=⟨b,off+i,none⟩:=by simp [Addr.add]
     rw [e] at hc
     rw [hc]
     have:zs.getD i 0=zs[i]:=by simp [List.getD,List.getElem?_eq_getElem hi2]
     rw [this,hm1,← hq',hm1]
     rfl
    ·cases hq
  ·simp;omega
  ·intro r hr
   obtain ⟨z,hz1,rfl⟩:=List.mem_map.1 hr
   obtain ⟨m,hm1,hm2⟩:=Bv (hwz z (List.mem_of_mem_take hz1))
   rw [hm1];exact hm2
theorem Ro {n:Nat} {a b:Value} {x:DataW H×List MemPlace} (h:DataW.trod enc prog w base spare held n 49 [a,b]=some x) :
  ∃ (g:Nat) (ra:Option Addr) (rl rc:Nat) (rows:List Nat),a = .int .u64 (g:Int)∧b = .slice ra rl rc∧g < 18446744073709551616∧fP w ra (u64s rows)∧rows.length=rl∧∀ r∈rows,r < 18446744073709551616:=by
 obtain ⟨xs,n',_,_,hl,hlen,hg⟩:=DataW.trod_struct underlying49 h
 have hlen2:xs.length=2:=hlen
 have g0:=hg 0 _ rfl
 have g1:=hg 1 _ rfl
 rw [show prog.cellsOf _=1 by kernel_rfl,List.getElem?_eq_getElem (by omega)] at g0 g1
 obtain ⟨z0,e0,_,w0⟩:=DataW.trod_int (k:=.u64) (by kernel_rfl) g0
 simp at e0
 subst e0
 obtain ⟨g,rfl,hg64⟩:=Bv w0
 obtain ⟨ra,rl,rc,rows,e1,h1,h2,h3⟩:=Nh (v:=b) g1
 exact ⟨g,ra,rl,rc,rows,rfl,e1,hg64,h1,h2,h3⟩
theorem Aw:∀ (fuel:Nat) {cs:List Value} {x:DataW H×List MemPlace},DataW.trod enc prog w base spare held fuel 53 cs=some x→∃ s:WV,cs=s.f.six∧WIn w fuel s:=by
 intro fuel
 induction fuel using Nat.strongRecOn with
 | _ fuel ih =>
 intro cs x h
 obtain ⟨xs,n,hn,_,hl,hlen,hg⟩:=DataW.trod_struct underlying53 h
 rw [show prog.cellsOf 53=6 by kernel_rfl] at hl
 obtain ⟨a,b,c,d,e,f,rfl⟩:=Li hl
 have hlen5:xs.length=5:=hlen
 have g0:=hg 0 _ rfl
 have g1:=hg 1 _ rfl
 have g2:=hg 2 _ rfl
 have g3:=hg 3 _ rfl
 have g4:=hg 4 _ rfl
 rw [show prog.cellsOf _=1 by kernel_rfl,List.getElem?_eq_getElem (by omega)] at g0 g1 g3 g4
 rw [show prog.cellsOf _=2 by kernel_rfl,List.getElem?_eq_getElem (by omega)] at g2
 obtain ⟨z0,e0,_⟩:=DataW.trod_bool (by kernel_rfl) g0
 obtain ⟨z1,e1,_,w1⟩:=DataW.trod_int (k:=.i64) (by kernel_rfl) g1
 simp at e0 e1
 subst e0 e1
 obtain ⟨gg,ra,rl,rc,rows,rfl,rfl,hg64,hrow,hrl,hr64⟩:=Ro (a:=c) (b:=d) g2
 obtain ⟨ca,cl,cc,e3⟩:=I6 g3
 have e3':e = .slice ca cl cc:=by simpa using e3
 subst e3'
 obtain ⟨cells,hcl,hcm,hcrow,hcbits⟩:=I5 (a:=ca) (len:=cl) (cap:=cc) g3
 rcases DataW.trod_slice underlying51 g4 with ⟨hcs,_⟩ | ⟨ad,len,cap,elems,rest,n',hn',hcs,_,hb,hle,hcap,hel,hi,_,_⟩
 ·simp at hcs
  subst hcs
  subst hn
  exact ⟨.mk ⟨z0,z1,gg,ra,rl,rc,rows,ca,cl,cc,cells,none,0,0⟩ [],rfl,⟨hrow,hrl,hg64,hr64,hcrow,hcl.symm,hcbits,by dsimp only;omega⟩,rfl,.inl rfl,fun p hp=>by cases hp⟩
 ·simp at hcs
  subst hcs
  subst hn
  rw [show prog.cellsOf 53=6 by kernel_rfl] at hi
  obtain ⟨ps,hpl,hps⟩:=nO len (fun i (p:WV)=>(w.cell? (ad.add (i * 6))=some (.bool p.f.z)∧w.cell? (ad.add (i * 6+1))=some (.int .i64 p.f.c)∧w.cell? (ad.add (i * 6+2))=some (.int .u64 (p.f.g:Int))∧w.cell? (ad.add (i * 6+3))=some (.slice p.f.ra p.f.rl p.f.rc)∧w.cell? (ad.add (i * 6+4))=some (.slice p.f.ca p.f.cl p.f.cc)∧w.cell? (ad.add (i * 6+5))=some (.slice p.f.pa p.f.pl p.f.pc))∧WIn w n' p) (fun i hil=>by
   have hii:=hi i hil
   rw [List.getElem?_eq_getElem (by omega)] at hii
   obtain ⟨cs',hc,ht⟩:=Option.bind_eq_some_iff.1 hii
   obtain ⟨_,hcl,hat⟩:=World.cells?_some hc
   obtain ⟨s,rfl,hs⟩:=ih n' (by omega) ht
   have e0:=hat 0 (by omega)
   have e1:=hat 1 (by omega)
   have e2:=hat 2 (by omega)
   have e3:=hat 3 (by omega)
   have e4:=hat 4 (by omega)
   have e5:=hat 5 (by omega)
   rw [Go.Deep.add_add] at e0 e1 e2 e3 e4 e5
   exact ⟨s,⟨e0,e1,e2,e3,e4,e5⟩,hs⟩)
  refine ⟨.mk ⟨z0,z1,gg,ra,rl,rc,rows,ca,cl,cc,cells,some ad,len,cap⟩ ps,rfl,⟨hrow,hrl,hg64,hr64,hcrow,hcl.symm,hcbits,by dsimp only;omega⟩,hpl,?_,fun p hp=>?_⟩
  ·rcases Nat.eq_zero_or_pos len with h0 | h0
   ·exact .inl (List.length_eq_zero_iff.1 (by omega))
   ·obtain ⟨b,off,spot⟩:=ad
    obtain ⟨⟨h1,_⟩,_⟩:=hps 0 (ps[0]'(by omega)) (List.getElem?_eq_getElem (by omega))
    have hspot:spot=none:=by simpa [Addr.add] using World.cell?_spot h1
    subst hspot
    refine .inr ⟨b,off,rfl,fun i c hic=>?_⟩
    have e:∀ k,({ block:=b,off:=off }:Addr).add k=⟨b,off+k,none⟩:=fun k=>by simp [Addr.add]
    have h3:=(hps i c hic).1
    rw [e,e,e,e,e,e,← Nat.add_assoc,← Nat.add_assoc,← Nat.add_assoc,← Nat.add_assoc,← Nat.add_assoc] at h3
    exact h3
  ·obtain ⟨i,hi',hic⟩:=List.mem_iff_getElem.1 hp
   exact (hps i p (by rw [← hic];exact List.getElem?_eq_getElem hi')).2.more (by omega)
end
end
section
open Go.RowKit
def zvW:WV:=.mk ⟨false,0,0,none,0,0,[],none,0,0,[],none,0,0⟩ []
theorem zv_in (w:World):WIn w 1 zvW :=
 ⟨⟨.inl rfl,rfl,by decide,(fun r hr=>by cases hr),.inl rfl,rfl,(fun c hc=>by cases hc),by decide⟩,rfl,.inl rfl,fun p hp=>by cases hp⟩
theorem sameZ (w:World):Calls prog 11 #[.agg #[.bool false,.int .i64 0,.int .u64 0,.slice none 0 0,.slice none 0 0,.slice none 0 0],.agg #[.bool false,.int .i64 0,.int .u64 0,.slice none 0 0,.slice none 0 0,.slice none 0 0]] w fun e w'=>e = .returned (.bool true)∧Below w.heap.size w w' :=
 M1 1 1 zvW zvW w (zv_in w) (zv_in w) rfl rfl
theorem fT.lim {lo:Nat} {W:World} {a:Option Addr} {c:Nat} {xs:List Int} (h:fT lo W a c xs):xs.length≤maxLen:=by
 rcases h.2 with ⟨e1,e2⟩ | ⟨g,cap,cur,e1,_,_,hn,hm,_⟩
 ·omega
 ·omega
theorem goes_16:bW prog 16=true:=by kernel_rfl
theorem goes_33:bW prog 33=true:=by kernel_rfl
theorem Ni (ds d:Nat) (s:SV) (st sy:Int) (ra:Option Addr) (rl rc:Nat) (rs:List RV) (p:Int) (wa:Option Addr) (wl wc:Nat) (ws:List Int) (w:World) (hs:SIn w ds s) (hprow:lD w ra rs) (hplen:rs.length=rl) (hin:∀ r∈rs,RIn w d r) (hrow:Row w wa ws) (hlen:ws.length=wl) (hcap:wl≤wc) (hne:stepE ⟨s,st,sy,ra,rl,rc,rs⟩ ⟨p,wa,wl,wc,ws⟩≠0) :
  Calls prog 33 #[.agg #[.int .i64 s.f.tag,.int .i64 s.f.dim,.slice s.f.a s.f.len s.f.cap,.int .i64 st,.int .i64 sy,.slice ra rl rc],.agg #[.int .i64 p,.slice wa wl wc]] w (NxU (nxE (eS p ws rs 0) (stepE ⟨s,st,sy,ra,rl,rc,rs⟩ ⟨p,wa,wl,wc,ws⟩)) w):=by
 refine cH (args:=[.agg #[.int .i64 s.f.tag,.int .i64 s.f.dim,.slice s.f.a s.f.len s.f.cap,.int .i64 st,.int .i64 sy,.slice ra rl rc],.agg #[.int .i64 p,.slice wa wl wc]]) func33 rfl ntmps33 rfl ?_
 have hS:=St.start w
 refine aL (aR (bK (cs:=[_,_,_,_,_,_]) hS rfl rfl rfl fun B1 W1 hS=>bK (cs:=[_,_]) hS rfl rfl rfl fun B2 W2 hS=>aA rfl rfl (aA rfl rfl (aA rfl rfl (aQ (XF.thenN (aL (aR (aS (vs:=[_,_,_,_,_,_]) isAgg28 sizeOf28 rfl (aE.own (j:=0) (m:=6) (hS.at_ 1 rfl) rfl) rfl (aS (vs:=[_,_]) isAgg36 sizeOf36 rfl (aE.own (j:=0) (m:=2) (hS.at_ 0 rfl) rfl) rfl (cF (vs:=[_,_]) hS wC rfl (tK ds d ⟨s,st,sy,ra,rl,rc,rs⟩ ⟨p,wa,wl,wc,ws⟩ _ (PvIn.below ⟨hs,hprow,hplen,hin⟩ hS.below) (CIn.below ⟨hrow,hlen⟩ hS.below)) rfl fun W3 hS=>aA rfl rfl (aQ (XF.thenN (aL (aL (aR (aG rfl rfl (dA rfl rfl rfl (aQ (XF.thenN (aZ rfl (fun hc=>?_) (fun hc=>absurd (of_decide_eq_false hc) (by exact fun h=>h hne)))))))))))))))))))))))
 have hc:=of_decide_eq_true hc
 refine aL (aR (aG rfl rfl (aA rfl rfl (aA rfl rfl (aA rfl rfl (aQ (XF.thenN (bJ (XF.thenR (XF.res (Di results33 rfl rfl rfl) ?_))))))))))
 exact Dq (Lf hne) hS.below
theorem stNextA {ds d:Nat} {p:PV} {c:CV} {w:World} (hp:PvIn w ds d p) (hc:CIn w c) (hcc:c.wl≤c.wc):Calls prog 16 #[p.val,c.val] w (NxU (nxE (eS c.p c.ws p.rs 0) (stepE p c)) w) :=
 nextA_c ds d p.s p.st p.sy p.ra p.rl p.rc p.rs c.p c.wa c.wl c.wc c.ws w hp.s hp.row hp.len hp.rin hc.row hc.len hcc
theorem stNextR {ds d:Nat} {p:PV} {c:CV} {w:World} (hp:PvIn w ds d p) (hc:CIn w c) (hcc:c.wl≤c.wc):Calls prog 33 #[p.val,c.val] w (NxU (nxE (eS c.p c.ws p.rs 0) (stepE p c)) w) :=
 by
 by_cases h:stepE p c=0
 ·have ok:=Ri h
  exact (nextR_c ds d p.s p.st p.sy p.ra p.rl p.rc p.rs c.p c.wa c.wl c.wc c.ws w hp.s hp.row hp.len hp.rin hc.row hc.len hcc h ok.rl ok.w4 ok.cw).mono fun e w' hr=>nxU_ref h hr
 ·exact Ni ds d p.s p.st p.sy p.ra p.rl p.rc p.rs c.p c.wa c.wl c.wc c.ws w hp.s hp.row hp.len hp.rin hc.row hc.len hcc h
theorem St.ownG9 {w0 W:World} {O:Own} {G:cY} {K:List (Nat×World)} {B n size:Nat} {cs:List Value} {e:TypeId} (h:St w0 ((B,cs,e)::O) G K W) (hl:cs.length=n * size) (hm:n≤maxLen):St w0 O (⟨.slice (some ⟨B,0,none⟩) n n,n,cs,e,size⟩::G) K W:=by
 have hB:=h.own _ List.mem_cons_self
 have hd:=List.pairwise_cons.1 h.dist
 refine ⟨h.below,fun p hp=>h.own p (List.mem_cons_of_mem _ hp),hd.2,fun q hq=>⟨(h.kept q hq).1,fun p hp=>(h.kept q hq).2 p (List.mem_cons_of_mem _ hp)⟩,fun g hg=>?_,List.Pairwise.cons (fun q hq b e1 e2=>?_) h.gdist⟩
 ·rcases List.mem_cons.1 hg with rfl | hg
  ·refine ⟨⟨hl,.inr ⟨B,n,cs.toArray,rfl,hB.1,hB.2,Nat.le_refl _,hm,by simpa using hl,?_⟩⟩,fun b e1=>?_⟩
   ·show cs.take (n * size)=cs
    exact List.take_of_length_le (by omega)
   ·have e2:B=b:=Option.some.inj e1
    subst e2
    exact ⟨fun p hp=>Ne.symm (hd.1 p hp),fun q hq=>(h.kept q hq).2 _ List.mem_cons_self⟩
  ·exact ⟨(h.rows g hg).1,fun b e1=>⟨fun p hp=>((h.rows g hg).2 b e1).1 p (List.mem_cons_of_mem _ hp),((h.rows g hg).2 b e1).2⟩⟩
 ·have e3:B=b:=Option.some.inj e1
  exact ((h.rows q hq).2 b e2).1 _ List.mem_cons_self e3
section
variable {w0 W:World} {O:Own} {G:cY} {K:List (Nat×World)}
theorem dT {w:World} {base n b k:Nat} {e:TypeId} {size:Nat} {c:Nat} {xs:List Value} {x:Value} (h:w.ownsRow base e size (.slice (some ⟨b,0,none⟩) n c) n xs) (hk:xs[k]?=some x):w.cell? ⟨b,k,none⟩=some x:=by
 rcases iK h with ⟨h1,_⟩ | ⟨b2,h1,_,h3⟩
 ·cases h1
 ·cases h1;exact h3 k x hk
variable {P:Program} {n:Nat} {ops:Array Oper} {Q:Exit→Act→World→Prop} {l:Fr} {os:List Oper} {d:Nat} {ty:TypeId} {pos:String} {aft:Array Edge}
end
section
variable {P:Program} {ops opf:Array Oper} {Q:Exit→Act→World→Prop} {n:Nat} {l:Fr} {w0 W:World} {K:List (Nat×World)} {lo:Nat} {al:List AB} {Ob:Own} {G:Sy→cY} {E:List Nat} {L:List Asr} {i:Nat}
variable {d:Nat} {op:Op} {ty:TypeId} {pos:String} {aft_:Array Edge}
end
structure KC where
 ra:Option Addr
 rc:Nat
 rs:List Int
 c:CV
abbrev KC.c3 (x:KC):List Value:=[.slice x.ra x.rs.length x.rc,.int .i64 x.c.p,.slice x.c.wa x.c.wl x.c.wc]
abbrev KC.pl (x:KC):Crs:=(x.rs,x.c.p,x.c.ws)
structure KcOk (lo:Nat) (W:World) (x:KC):Prop where
 r:fT lo W x.ra x.rc x.rs
 c:CIn W x.c
 cc:x.c.wl≤x.c.wc
theorem yR {W:World} {lo b n c i:Nat} {T:TypeId} {ns:List KC} {r:KC} (h:W.ownsRow lo T 3 (.slice (some ⟨b,0,none⟩) n c) n (ns.flatMap KC.c3)) (hi:ns[i]?=some r):aE W b (i * 3) r.c3:=by
 have key:∀ (l:List KC) (i:Nat),l[i]?=some r→((l.flatMap KC.c3).drop (i * 3)).take 3=r.c3:=by
  intro l
  induction l with
  | nil=>intro i h;simp at h
  | cons z l ih =>
   intro i h
   cases i with
   | zero=>simp at h;subst h;rfl
   | succ i =>
    have e:(i+1) * 3=3+i * 3:=by omega
    rw [List.flatMap_cons,e,← List.drop_drop]
    exact ih i (by simpa using h)
 have e5:=key ns i hi
 refine aE.of fun j v hj=>dT h ?_
 rw [← e5,List.getElem?_take] at hj
 split at hj
 ·rw [List.getElem?_drop] at hj;exact hj
 ·cases hj
structure LI where
 a:Option Addr
 c:Nat
 xs:List Int
abbrev LI.val (x:LI):Value:=.slice x.a x.xs.length x.c
def tV (X:Int×List (List Int)) (w:World) (e:Ending) (w':World):Prop:=Below w.heap.size w w'∧∃ (v:Value) (ls:List LI),e = .returned (.tuple #[v,.int .i64 X.1])∧ls.map LI.xs=X.2∧ls.length≤10000∧w'.ownsRow w.heap.size 29 1 v ls.length (ls.map LI.val)∧∀ x∈ls,fT w.heap.size w' x.a x.c x.xs
theorem mM {X:Int×List (List Int)} {w w':World} {e:Int} (h:X=(e,[])) (hb:Below w.heap.size w w'):tV X w (.returned (.tuple #[.slice none 0 0,.int .i64 e])) w':=by
 subst h
 exact ⟨hb,.slice none 0 0,[],rfl,rfl,Nat.zero_le _,⟨rfl,.inl ⟨rfl,rfl⟩⟩,fun x hx=>by cases hx⟩
theorem Nj {r:RV} {p:Int} {ws:List Int} (h:kR r p ws=true):r.p=p∧∃ t,ws=r.g::t:=by
 unfold kR at h
 rw [Bool.and_eq_true,decide_eq_true_eq] at h
 cases ws with
 | nil=>simp at h
 | cons y t =>
  have h2:decide (y=r.g)=true:=h.2
  exact ⟨h.1,t,by rw [of_decide_eq_true h2]⟩
theorem pT {p:Int} {ws:List Int}:∀ {xs:List RV} {i:Nat} {l:NxL},eS p ws xs i=some l→∀ x∈l,∃ (n:Nat) (r:RV),xs[n]?=some r∧x=(((i+n:Nat):Int),r.q,r.ws++ws.tail)∧kR r p ws=true∧¬ 4096 < r.wl+(ws.length - 1)
 | [],i,l,h=>by simp only [eS,Option.some.injEq] at h;subst h;intro x hx;cases hx
 | r::xs,i,l,h=>by
  simp only [eS] at h
  by_cases ha:kR r p ws=true
  ·rw [if_pos ha] at h
   by_cases hl:4096 < r.wl+(ws.length - 1)
   ·rw [if_pos hl] at h;cases h
   ·rw [if_neg hl] at h
    cases h2:eS p ws xs (i+1) with
    | none=>rw [h2] at h;cases h
    | some l2 =>
     rw [h2] at h
     have e:=Option.some.inj h
     subst e
     intro x hx
     rcases List.mem_cons.1 hx with rfl | hx
     ·exact ⟨0,r,rfl,rfl,ha,hl⟩
     ·obtain ⟨n,r2,h3,h4,h5⟩:=pT h2 x hx
      exact ⟨n+1,r2,by simpa using h3,by rw [h4,show i+1+n=i+(n+1) by omega],h5⟩
  ·rw [if_neg ha] at h
   intro x hx
   obtain ⟨n,r2,h3,h4,h5⟩:=pT h x hx
   exact ⟨n+1,r2,by simpa using h3,by rw [h4,show i+1+n=i+(n+1) by omega],h5⟩
structure StepAll (p:PV) (c:CV):Prop where
 pd:gX p=0
 rule:∀ r∈p.rs,fB p.st p.sy r=true
 cp:inQ c.p p.st=true
 cw:c.wl≤4096
 cs:∀ y∈c.ws,inQ y p.sy=true
theorem wL {p:PV} {c:CV} (h:stepE p c=0):StepAll p c:=by
 unfold stepE at h
 by_cases h0:gX p=0
 ·rw [if_neg (not_not_intro h0)] at h
  have hc:gH p c=true:=by
   by_cases h2:gH p c=true
   ·exact h2
   ·rw [if_neg h2] at h;cases h
  have h00:=h0
  unfold gX at h0
  by_cases h1:eI p.s=0
  ·rw [if_neg (not_not_intro h1)] at h0
   obtain ⟨h2,h0⟩:=ite9 h0 (by decide)
   obtain ⟨h3,h0⟩:=ite9 h0 (by decide)
   have hall:p.rs.all (fB p.st p.sy)=true:=by
    by_cases h4:p.rs.all (fB p.st p.sy)=true
    ·exact h4
    ·rw [if_neg h4] at h0;cases h0
   unfold gH at hc
   rw [Bool.and_eq_true,Bool.and_eq_true,decide_eq_true_eq] at hc
   exact ⟨h00,fun r hr=>List.all_eq_true.1 hall r hr,hc.1,hc.2.1,fun y hy=>List.all_eq_true.1 hc.2.2 y hy⟩
  ·rw [if_pos h1] at h0;exact absurd h0 h1
 ·rw [if_pos h0] at h;exact absurd h h0
theorem Rp {p:PV} {c:CV} (h0:gX p=0) (h1:inQ c.p p.st=true) (h2:c.wl≤4096) (h3:∀ y∈c.ws,inQ y p.sy=true):stepE p c=0:=by
 unfold stepE
 rw [if_neg (not_not_intro h0),if_pos]
 unfold gH
 rw [h1,decide_eq_true h2,List.all_eq_true.2 h3];rfl
theorem yS {p:PV} {c cv:CV} {l:NxL} {x:Int×Int×List Int} (h:stepE p c=0) (hl:eS c.p c.ws p.rs 0=some l) (hx:x∈l) (hlen:∀ r∈p.rs,r.ws.length=r.wl) (hcv:cv.pl=x.2) (hcl:cv.wl=cv.ws.length):stepE p cv=0:=by
 have hs:=wL h
 obtain ⟨n,r,hn,rfl,ha,hlong⟩:=pT hl x hx
 obtain ⟨_,t,ht⟩:=Nj ha
 have hr:=List.mem_of_getElem? hn
 have hru:=hs.rule r hr
 unfold fB at hru
 simp only [Bool.and_eq_true] at hru
 have e1:cv.p=r.q:=congrArg (·.1) hcv
 have e2:cv.ws=r.ws++c.ws.tail:=congrArg (·.2) hcv
 refine Rp hs.pd (by rw [e1];exact hru.2.1) ?_ (fun y hy=>?_)
 ·rw [hcl,e2,List.length_append,List.length_tail,hlen r hr];omega
 ·rw [e2] at hy
  rcases List.mem_append.1 hy with hy | hy
  ·exact List.all_eq_true.1 hru.2.2.2.2 y hy
  ·exact hs.cs y (List.mem_of_mem_tail hy)
def kK (lo:Nat) (X:NxL×Int):Asr:=fun v w=>∃ v8 v9:Value,v = .tuple #[v8,v9,.int .i64 X.2]∧dN lo X.1 v8 w∧eF lo X.1 v9 w
theorem Rq {P:Program} {f:FuncId} {vs:Array Value} {w:World} {X Y:NxL×Int} {lo:Nat} (hlo:lo≤w.heap.size) (e:X=Y) (h:Calls P f vs w (NxU X w)):Calls P f vs w (lV (kK lo Y) w):=by
 subst e
 exact h.mono fun e w2 ⟨v8,v9,he,h1,h2,hb⟩=>⟨_,he,fun w3 hg=>⟨v8,v9,rfl,pP (lG h1 hg) hlo,pQ (tT h2 hg) hlo⟩,hb⟩
theorem Rr {lo:Nat} {X:NxL×Int}:∀ v w,kK lo X v w→∃ (vs:Array Value) (u:Value),v = .tuple vs∧vs[0]?=some u∧∀ w2,kK lo X v w2→dN lo X.1 u w2:=fun v w ⟨a,c,e,h1,h2⟩=>by
 subst e
 exact ⟨_,_,rfl,rfl,fun w2 ⟨a2,c2,e2,h3,h4⟩=>by rw [(tU e2).1];exact h3⟩
theorem Rs {lo:Nat} {X:NxL×Int}:∀ v w,kK lo X v w→∃ (vs:Array Value) (u:Value),v = .tuple vs∧vs[1]?=some u∧∀ w2,kK lo X v w2→eF lo X.1 u w2:=fun v w ⟨a,c,e,h1,h2⟩=>by
 subst e
 exact ⟨_,_,rfl,rfl,fun w2 ⟨a2,c2,e2,h3,h4⟩=>by rw [(tU e2).2.1];exact h4⟩
theorem Rt {lo:Nat} {X:NxL×Int}:∀ v w,kK lo X v w→∃ (vs:Array Value) (u:Value),v = .tuple vs∧vs[2]?=some u∧∀ w2,kK lo X v w2→isV (.int .i64 X.2) u w2:=fun v w ⟨a,c,e,h1,h2⟩=>by
 subst e
 exact ⟨_,_,rfl,rfl,fun w2 _=>rfl⟩
def yT (c:UInt8):Bool:=decide (48≤c.toNat) && decide (c.toNat≤57)
def Lj (l:List UInt8):Nat:=l.foldl (fun n c=>n * 10+(c.toNat - 48)) 0
theorem sB {d:Nat} (h:d < 10):(UInt8.ofNat (48+d)).toNat=48+d:=by
 rw [UInt8.toNat_ofNat'];omega
theorem yU {d:Nat} (h:d < 10):yT (UInt8.ofNat (48+d))=true:=by
 unfold yT
 rw [sB h,decide_eq_true (by omega:48≤48+d),decide_eq_true (by omega:48+d≤57)]
 rfl
theorem sC {u:Nat} (h:u < 10):Lib.decDigits u=[UInt8.ofNat (48+u)]:=by rw [Lib.decDigits,dif_pos h]
theorem yV {u:Nat} (h:¬ u < 10):Lib.decDigits u=Lib.decDigits (u / 10)++[UInt8.ofNat (48+u % 10)]:=by rw [Lib.decDigits,dif_neg h]
theorem Gx (u:Nat):(Lib.decDigits u).all yT=true:=by
 induction u using Nat.strongRecOn with
 | _ u ih =>
  by_cases h:u < 10
  ·rw [sC h,List.all_cons,yU h];rfl
  ·rw [yV h,List.all_append,ih (u / 10) (by omega),List.all_cons,yU (Nat.mod_lt u (by decide))];rfl
theorem Gy (u:Nat):Lj (Lib.decDigits u)=u:=by
 induction u using Nat.strongRecOn with
 | _ u ih =>
  by_cases h:u < 10
  ·rw [sC h]
   show 0 * 10+((UInt8.ofNat (48+u)).toNat - 48)=u
   rw [sB h];omega
  ·have e:Lj (Lib.decDigits (u / 10)++[UInt8.ofNat (48+u % 10)])=Lj (Lib.decDigits (u / 10)) * 10+((UInt8.ofNat (48+u % 10)).toNat - 48):=by
    unfold Lj;rw [List.foldl_append];rfl
   rw [yV h,e,ih (u / 10) (by omega),sB (Nat.mod_lt u (by decide))];omega
theorem Ax {a b:Int} (h:Lib.itoa a=Lib.itoa b):a=b:=by
 have hd:∀ u:Nat,∀ t:List UInt8,Lib.decDigits u≠45::t:=fun u t e=>by
  have h1:=Gx u
  rw [e] at h1
  simp [yT] at h1
 have hi:∀ u v:Nat,Lib.decDigits u=Lib.decDigits v→u=v:=fun u v e=>by
  rw [← Gy u,← Gy v,e]
 unfold Lib.itoa at h
 by_cases ha:a < 0
 ·rw [if_pos ha] at h
  by_cases hb:b < 0
  ·rw [if_pos hb] at h
   injection h with _ h
   have:=hi _ _ h
   omega
  ·rw [if_neg hb] at h
   exact absurd h.symm (hd _ _)
 ·rw [if_neg ha] at h
  by_cases hb:b < 0
  ·rw [if_pos hb] at h
   exact absurd h (hd _ _)
  ·rw [if_neg hb] at h
   have:=hi _ _ h
   omega
theorem qN (a:Int):∀ x∈Lib.itoa a,x≠32:=fun x hx e=>by
 subst e
 have hd:∀ u:Nat,(32:UInt8)∉Lib.decDigits u:=fun u hu=>by
  have h1:=List.all_eq_true.1 (Gx u) _ hu
  simp [yT] at h1
 unfold Lib.itoa at hx
 by_cases ha:a < 0
 ·rw [if_pos ha] at hx
  rcases List.mem_cons.1 hx with h | h
  ·cases h
  ·exact hd _ h
 ·rw [if_neg ha] at hx
  exact hd _ hx
theorem Ds:∀ {a b s t:List UInt8},a++s=b++t→(∀ x∈a,x≠32)→(∀ x∈b,x≠32)→(s=[]∨∃ u,s=32::u)→(t=[]∨∃ u,t=32::u)→a=b∧s=t
 | [],[],s,t,h,_,_,_,_=>⟨rfl,h⟩
 | [],y::b,s,t,h,_,hb,hs,_=>by
  rcases hs with rfl | ⟨u,rfl⟩
  ·cases h
  ·injection h with h1 _
   exact absurd h1.symm (hb y List.mem_cons_self)
 | x::a,[],s,t,h,ha,_,_,ht=>by
  rcases ht with rfl | ⟨u,rfl⟩
  ·cases h
  ·injection h with h1 _
   exact absurd h1 (ha x List.mem_cons_self)
 | x::a,y::b,s,t,h,ha,hb,hs,ht=>by
  injection h with h1 h2
  obtain ⟨e1,e2⟩:=Ds h2 (fun z hz=>ha z (List.mem_cons_of_mem _ hz)) (fun z hz=>hb z (List.mem_cons_of_mem _ hz)) hs ht
  exact ⟨by rw [h1,e1],e2⟩
theorem Dt (ws:List Int):ws.flatMap (fun g=>32::Lib.itoa g)=[]∨∃ u,ws.flatMap (fun g=>32::Lib.itoa g)=32::u:=by
 cases ws with
 | nil=>exact .inl rfl
 | cons x l=>exact .inr ⟨_,by rw [List.flatMap_cons];rfl⟩
theorem Ru:∀ {ws vs:List Int},ws.flatMap (fun g=>32::Lib.itoa g)=vs.flatMap (fun g=>32::Lib.itoa g)→ws=vs
 | [],[],_=>rfl
 | [],y::l,h=>by rw [List.flatMap_cons] at h;cases h
 | x::l,[],h=>by rw [List.flatMap_cons] at h;cases h
 | x::l,y::m,h=>by
  rw [List.flatMap_cons,List.flatMap_cons,List.cons_append,List.cons_append] at h
  injection h with _ h
  obtain ⟨h3,h4⟩:=Ds h (qN x) (qN y) (Dt l) (Dt m)
  rw [Ax h3,Ru h4]
theorem Nk {ws vs:List Int} {p q:Int} (h:fV p ws=fV q vs):p=q∧ws=vs:=by
 unfold fV at h
 obtain ⟨h1,h2⟩:=Ds h (qN p) (qN q) (Dt ws) (Dt vs)
 exact ⟨Ax h1,Ru h2⟩
theorem I7 (p:Int) (ws:List Int):0 < (fV p ws).length:=by
 have h1:∀ u:Nat,0 < (Lib.decDigits u).length:=fun u=>by
  by_cases h:u < 10
  ·rw [sC h];simp
  ·rw [yV h];simp
 unfold fV Lib.itoa
 rw [List.length_append]
 by_cases h:p < 0
 ·rw [if_pos h];simp;omega
 ·rw [if_neg h];have:=h1 p.toNat;omega
theorem yW (p:PV) (c:CV) (w:World) (hcf:CIn w c) (hok:stepE p c=0) (ht:Tabs w):Calls prog 15 #[c.val] w (fun e w'=>e = .returned (.string ⟨(fV c.p c.ws).toArray⟩)∧Below w.heap.size w w'):=by
 have ha:=wL hok
 have hb:p.st≤9223372036854775807∧p.sy≤9223372036854775807:=by
  have h:=ha.pd
  unfold gX at h
  exact ⟨by omega,by omega⟩
 have hq:∀ {y n:Int},inQ y n=true→0≤y∧y < n:=fun {y n} h=>by
  unfold inQ at h
  simp only [Bool.and_eq_true,decide_eq_true_eq] at h
  exact h
 have hp:=hq ha.cp
 exact text_c c.p c.wa c.wl c.wc c.ws w hcf.row hcf.len ha.cw ⟨by omega,by omega⟩ (fun y hy=>by have:=hq (ha.cs y hy);exact ⟨by omega,by omega⟩) (I7 _ _) ht
section
variable {P:Program} {n:Nat} {ops:Array Oper} {Q:Exit→Act→World→Prop} {l:Fr} {W:World} {os:List Oper}
theorem hQ {dst:Nat} {op:Op} {ty:TypeId} {pos:String} {aft:Array Edge} {g d:Nat} {b:Bool} (hd:(ops[g]?).bind (·.dst)=some d) (hv:look l d=some undef) (hn:Nat.blt dst n=true)
  (h:cX P n ops Q os ((dst,undef)::l) W):cX P n ops Q (⟨some dst,op,ty,pos,aft,some (g,b)⟩::os) l W:=fun a ha=>by
 have h2:=ha.at_ d _ hv
 have hw:Region.wanted ⟨some dst,op,ty,pos,aft,some (g,b)⟩ (yielded ops a.tmps)=false:=by
  cases hx:a.tmps[d]? with
  | none=>simp [Region.wanted,yielded,hd,hx]
  | some x =>
   simp only [Act.eval,Array.getD_eq_getD_getElem?,hx] at h2
   simp at h2
   subst h2
   simp [Region.wanted,yielded,hd,hx,undef]
 unfold wpList
 rw [hw]
 exact h _ (ha.put hn)
end
section
variable {P:Program} {n:Nat} {ops:Array Oper} {Q:Exit→Act→World→Prop} {l:Fr} {w0 W:World} {os:List Oper} {d:Nat} {ty:TypeId} {pos:String} {aft:Array Edge}
end
section
variable {P:Program} {n:Nat} {Q:Exit→Act→World→Prop} {l:Fr} {W:World} {ops:Array Oper} {os:List Oper} {d:Nat} {ty:TypeId} {pos:String} {aft:Array Edge} {x y:Operand} {k:IntKind} {a b:Int} {ts:Array TypeId}
end
def kU:List (Nat×Nat×Asr)→(Operand→Value)→World→Prop
 | [],_,_=>True
 | x::xs,ev,w=>x.2.2 (ev (.tmp x.2.1)) w∧kU xs ev w
def yX (ops:Array Oper) (L:List Asr) (i:Nat):List (Nat×Nat×Asr)→Prop
 | []=>True
 | x::xs=>(bI ops i x.1 x.2.1=true∧atI L x.1=x.2.2)∧yX ops L i xs
section
variable {P:Program} {ops opf:Array Oper} {Q:Exit→Act→World→Prop} {n:Nat} {l:Fr} {w0 W:World} {K:List (Nat×World)} {lo:Nat} {al:List AB} {Ob:Own} {G:Sy→cY} {E:List Nat} {L:List Asr} {i:Nat}
variable {d:Nat} {op:Op} {ty:TypeId} {pos:String} {aft_:Array Edge}
theorem syPs (ds:List (Nat×Nat×Asr)) (hie:E.contains i=false) (hi:ops[i]?=some ⟨some d,op,ty,pos,aft_,none⟩) {q:Asr} (hds:yX ops L i ds)
  (hr:∀ (ev:Operand→Value) w,kU ds ev w→∃ v,(execOp ev ⟨some d,op,ty,pos,#[],none⟩).run P w = .ok (.value v) w∧∀ w2,kU ds ev w2→q v w2) (hI:atI L i=q):SY P n ops opf Q l w0 K lo al Ob G E L i :=
 qK hie hi fun t0 a s w h0 hF hG hk hD hD'=>by
  have key:∀ (ds:List (Nat×Nat×Asr)),yX ops L i ds→∀ w2,eQ lo (XB (OY al Ob s) (G s)) w w2→kU ds a.eval w2:=by
   intro ds
   induction ds with
   | nil=>intro _ w2 _;trivial
   | cons x xs ih =>
    intro h w2 h2
    refine ⟨?_,ih h.2 w2 h2⟩
    have h1:=(hD x.1 x.2.1 h.1.1).2
    rw [h.1.2] at h1
    exact h1 w2 h2
  obtain ⟨v,h2,h3⟩:=hr a.eval w (key ds hds w (eQ.refl _ _ _))
  exact gY hi (fR rfl) (by rw [eK a.eval _ _ _ _ pos _ #[] _ none];exact h2) ⟨v,rfl,by rw [hI];exact fun w2 h4=>h3 w2 (key ds hds w2 h4),Below.refl _ _⟩
theorem syNews (ds:List (Nat×Nat×Asr)) (hie:E.contains i=false) (hi:ops[i]?=some ⟨some d,op,ty,pos,aft_,none⟩) {q:Asr} (hds:yX ops L i ds)
  (hr:∀ (ev:Operand→Value) w,lo≤w.heap.size→kU ds ev w→∃ v cs T,(execOp ev ⟨some d,op,ty,pos,#[],none⟩).run P w = .ok (.value v) (w.alloc (.cells cs T))∧∀ w2,kU ds ev w2→w2.heap[w.heap.size]?=some (.cells cs T (0,0))→q v w2) (hI:atI L i=q):SY P n ops opf Q l w0 K lo al Ob G E L i :=
 qK hie hi fun t0 a s w h0 hF hG hk hD hD'=>by
  have key:∀ (ds:List (Nat×Nat×Asr)),yX ops L i ds→∀ w2,eQ lo (XB (OY al Ob s) (G s)) w w2→kU ds a.eval w2:=by
   intro ds
   induction ds with
   | nil=>intro _ w2 _;trivial
   | cons x xs ih =>
    intro h w2 h2
    refine ⟨?_,ih h.2 w2 h2⟩
    have h1:=(hD x.1 x.2.1 h.1.1).2
    rw [h.1.2] at h1
    exact h1 w2 h2
  obtain ⟨v,cs,T,h2,h3⟩:=hr a.eval w hG.2 (key ds hds w (eQ.refl _ _ _))
  have hB:Below w.heap.size w (w.alloc (.cells cs T)):=(Below.refl _ _).alloc (Nat.le_refl _) _
  refine gY hi (fR rfl) (by rw [eK a.eval _ _ _ _ pos _ #[] _ none];exact h2) ⟨v,rfl,?_,hB⟩
  rw [hI]
  have hnew:=heap_alloc_new w (.cells cs T)
  have hX:¬ XB (OY al Ob s) (G s) w.heap.size:=fun hx=>by
   rcases hx with ⟨q,hq,e1⟩ | ⟨g,hg,hgb⟩
   ·have:=cQ (hG.1.own q hq).2;omega
   ·have:=(hG.1.glt hg hgb).2;omega
  exact fun w2 h4=>h3 w2 (key ds hds w2 ((kJ hB).trans h4 (fun b hb=>.inl hb))) ((h4.2.2 _ hG.2 (cQ hnew) hX).trans hnew)
end
theorem lH {lo:Nat} {X:Nat→Prop} {w w':World} (h:eQ lo X w w') (hx:∀ b,lo≤b→¬ X b):dD lo w w':=⟨h.2.1,fun b h1 h2=>h.2.2 b h1 h2 (hx b h1)⟩
theorem Du {w0 W:World} {O:Own} {G:cY} {K:List (Nat×World)} {b:Nat} (h:St w0 O G K W) (hx:XB O G b):b < W.heap.size:=by
 rcases hx with ⟨p,hp,rfl⟩ | ⟨g,hg,hb⟩
 ·exact cQ (h.own p hp).2
 ·exact (h.glt hg hb).2
theorem goes_22:bW prog 22=true:=by kernel_rfl
def jL (lo:Nat) (zs:List Int):Asr:=fun v w=>∃ a c,v = .slice a zs.length c∧fT lo w a c zs
section
variable {n:Nat} {Q:Exit→Act→World→Prop} {l:Fr} {w0 W:World} {ops:Array Oper} {os:List Oper} {K:List (Nat×World)} {L:List Asr} {i:Nat}
variable {al:List Nat} {ca:Nat→Option Value→List Value} {ta:Nat→TypeId} {Os:Option Value→Own} {Gs:Option Value→cY} {lo ef jy:Nat} {s:Sg}
variable {d:Nat} {ty:TypeId} {pos:String} {aft_:Array Edge}
theorem sg_ofs {P:Program} {op:Op} (dd:List (Nat×Nat×Asr)) (hal:al.contains i=false) (hie:Nat.beq i ef=false) (hij:rW ops ef jy i=true) (hi:ops[i]?=some ⟨some d,op,ty,pos,aft_,none⟩) (hNo:pK al ef L) {q:Asr} (hds:yX ops L i dd) (hnd:dd.all (fun x => !(al.contains x.1) && !(Nat.beq x.1 ef))=true)
  (hr:∀ (ev:Operand→Value) w,kU dd ev w→∃ v,(execOp ev ⟨some d,op,ty,pos,#[],none⟩).run P w = .ok (.value v) w∧∀ w2,kU dd ev w2→q v w2) (hI:atI L i=q):SG P n ops Q l w0 K lo al ef jy ca ta Os Gs L i :=
 tM (fun h=>by rw [List.contains_iff_mem.2 h] at hal;cases hal) (fun e=>by rw [e,Nat.beq_refl] at hie;cases hie) (nK hij) hi hNo fun t0 a s w h0 hF hG he hD hD'=>by
  have key:∀ (dd:List (Nat×Nat×Asr)),yX ops L i dd→dd.all (fun x => !(al.contains x.1) && !(Nat.beq x.1 ef))=true→∀ w2,eQ lo (XB (OE ca ta Os s) (Gs s.ev)) w w2→kU dd a.eval w2:=by
   intro dd
   induction dd with
   | nil=>intro _ _ w2 _;trivial
   | cons x xs ih =>
    intro h hn w2 h2
    simp only [List.all_cons,Bool.and_eq_true,Bool.not_eq_true'] at hn
    refine ⟨?_,ih h.2 hn.2 w2 h2⟩
    have hA:=(hD x.1 x.2.1 h.1.1).2.2.2 (fun h9=>by rw [List.contains_iff_mem.2 h9] at hn;cases hn.1.1) (fun e=>by rw [e,Nat.beq_refl] at hn;cases hn.1.2)
    rw [h.1.2] at hA
    exact hA w2 h2
  obtain ⟨v,h1,h2⟩:=hr a.eval w (key dd hds hnd w (eQ.refl _ _ _))
  exact gY hi rfl (by rw [eK a.eval _ _ _ _ pos _ #[] _ none];exact h1) ⟨v,rfl,by rw [hI];exact fun w2 hw2=>h2 w2 (key dd hds hnd w2 hw2),Below.refl _ _⟩
end
end
end Go.Proofs.YtofaiolkihcfmaaGreatDoor
