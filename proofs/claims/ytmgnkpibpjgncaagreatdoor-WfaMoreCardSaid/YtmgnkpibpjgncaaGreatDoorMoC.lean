import Derived.Test.YtmgnkpibpjgncaaGreatDoorMoB
set_option maxRecDepth 100000
set_option maxHeartbeats 4000000
set_option linter.unusedVariables false
set_option linter.unusedVariables false
set_option linter.unusedSimpArgs false
set_option linter.unusedSectionVars false
set_option linter.unnecessarySimpa false
namespace Go.Proofs.YtmgnkpibpjgncaaGreatDoor
open Go.RowKit
def tQ (blk:Nat):WF:=⟨false,0,0,none,0,0,[],none,0,0,[],some ⟨blk,0,none⟩,2,2⟩
def rO:WF:=⟨true,0,0,none,0,0,[],none,0,0,[],none,0,0⟩
set_option maxHeartbeats 2000000 in
theorem Km (f g:WF) (w:World) :
  Calls Tryz.prog 136 #[f.val,g.val] w fun e w'=>∃ blk,e = .returned (tQ blk).val∧W6 w' blk 0 f∧W6 w' blk 6 g∧w.heap.size≤blk∧Below w.heap.size w w':=by
 obtain ⟨z,c,g0,ra,rl,rc,rows,ca,cl,cc,cells,pa,pl,pc⟩:=f
 obtain ⟨z2,c2,g2,ra2,rl2,rc2,rows2,ca2,cl2,cc2,cells2,pa2,pl2,pc2⟩:=g
 show Calls Tryz.prog 136 #[.agg #[.bool z,.int .i64 c,.int .u64 (g0:Int),.slice ra rl rc,.slice ca cl cc,.slice pa pl pc],.agg #[.bool z2,.int .i64 c2,.int .u64 (g2:Int),.slice ra2 rl2 rc2,.slice ca2 cl2 cc2,.slice pa2 pl2 pc2]] w _
 obtain ⟨W2,hW2⟩:∃ W,(w.alloc (.cells #[.bool z,.int .i64 c,.int .u64 (g0:Int),.slice ra rl rc,.slice ca cl cc,.slice pa pl pc] 44)).alloc (.cells #[.bool z2,.int .i64 c2,.int .u64 (g2:Int),.slice ra2 rl2 rc2,.slice ca2 cl2 cc2,.slice pa2 pl2 pc2] 44)=W:=⟨_,rfl⟩
 have hs2:W2.heap.size=w.heap.size+1+1:=by rw [← hW2];simp
 have B2:Below w.heap.size w W2:=by rw [← hW2];exact Mh _ _ _ _ _
 obtain ⟨t0,t1⟩:=lO W2 #[.bool false,.int .i64 0,.int .u64 0,.slice none 0 0,.slice none 0 0,.slice (some ⟨w.heap.size+1+1+1,0,none⟩) 2 2] #[.bool z,.int .i64 c,.int .u64 (g0:Int),.slice ra rl rc,.slice ca cl cc,.slice pa pl pc,.bool z2,.int .i64 c2,.int .u64 (g2:Int),.slice ra2 rl2 rc2,.slice ca2 cl2 cc2,.slice pa2 pl2 pc2] 44 44
 have B4:Below w.heap.size w ((W2.alloc (.cells #[.bool false,.int .i64 0,.int .u64 0,.slice none 0 0,.slice none 0 0,.slice (some ⟨w.heap.size+1+1+1,0,none⟩) 2 2] 44)).alloc (.cells #[.bool z,.int .i64 c,.int .u64 (g0:Int),.slice ra rl rc,.slice ca cl cc,.slice pa pl pc,.bool z2,.int .i64 c2,.int .u64 (g2:Int),.slice ra2 rl2 rc2,.slice ca2 cl2 cc2,.slice pa2 pl2 pc2] 44)):=B2.trans ((Mh _ _ _ _ _).mono B2.size)
 rw [hs2] at t0 t1
 obtain ⟨s0,s1,s2,s3,s4,s5⟩:=eP t0
 have T1:=Lib.hid t1
 have HB4:=Lib.hid B4
 clear t0 t1 B2 B4 hs2
 subst hW2
 go_enter Tryz.func136,Tryz.ntmps136
 go_wp2_with fail
 refine bodyPost_ret (v:=.agg #[.bool false,.int .i64 0,.int .u64 0,.slice none 0 0,.slice none 0 0,.slice (some ⟨w.heap.size+1+1+1,0,none⟩) 2 2]) ?_ rfl ?_
 rotate_left
 ·exact ⟨w.heap.size+1+1+1,rfl,⟨iM T1.out rfl,iM T1.out rfl,iM T1.out rfl,iM T1.out rfl,iM T1.out rfl,iM T1.out rfl⟩,⟨iM T1.out rfl,iM T1.out rfl,iM T1.out rfl,iM T1.out rfl,iM T1.out rfl,iM T1.out rfl⟩,by omega,HB4.out⟩
 simp [results,Tryz.results136,go_sem,s0,s1,s2,s3,s4,s5]
set_option maxHeartbeats 2000000 in
theorem vX (t n:Int) (a:Option Addr) (l c0:Nat) (ht:t≠5) (w:World) :
  Calls Tryz.prog 107 #[.agg #[.int .i64 t,.int .i64 n,.slice a l c0]] w fun e w'=>e = .returned rO.val∧Below w.heap.size w w':=by
 have e5:(t == 5)=false:=by simp [ht]
 clear ht
 obtain ⟨t0,t1⟩:=lO w #[.int .i64 t,.int .i64 n,.slice a l c0] #[.bool true,.int .i64 0,.int .u64 0,.slice none 0 0,.slice none 0 0,.slice none 0 0] 25 44
 obtain ⟨s0,s1,s2,s3,s4,s5⟩:=eP t1
 clear t0 t1
 go_enter Tryz.func107,Tryz.ntmps107
 go_wp2_with fail
 refine bodyPost_ret (v:=.agg #[.bool true,.int .i64 0,.int .u64 0,.slice none 0 0,.slice none 0 0,.slice none 0 0]) ?_ rfl ⟨rfl,Mh _ _ _ _ _⟩
 simp [results,Tryz.results107,go_sem,s0,s1,s2,s3,s4,s5]
theorem wT {t n:Int} {l:Nat} (h:bE t n l=true):t≠5:=by
 rintro rfl;simp [bE] at h
set_option maxHeartbeats 2000000 in
theorem vD (d:Nat) (s:SV) (e0:Int) (w:World) (hs:SIn w d s) (he:dP s=e0) :
  Calls Tryz.prog 32 #[s.f.val] w fun e w'=>e = .returned (.int .i64 e0)∧Below w.heap.size w w':=by
 match d,s,hs with
 | d+1,.mk ⟨t,n,a,l,c⟩ ps,hs =>
 show Calls Tryz.prog 32 #[.agg #[.int .i64 t,.int .i64 n,.slice a l c]] w _
 have hl:ps.length=l:=hs.1
 by_cases ht:t=5
 ·subst ht
  have hB:=Lib.hid (Ae w #[.int .i64 5,.int .i64 n,.slice a l c] 25)
  have BX:=Lib.hid (dU w (.cells #[.int .i64 5,.int .i64 n,.slice a l c] 25))
  have hpl:bE 5 n l=false:=by simp [bE]
  by_cases h0:n=0∧l=2
  ·obtain ⟨rfl,rfl⟩:=h0
   obtain ⟨p,q,rfl⟩:=rZ hl
   obtain ⟨_,b,off,ha,hb,hp,hq,_,_⟩:=hs.two
   obtain rfl:a=some ⟨b,off,none⟩:=ha
   obtain ⟨⟨pt,pn,pa,pl,pc⟩,pps⟩:=p
   obtain ⟨⟨qt,qn,qa,ql,qc⟩,qps⟩:=q
   have HP:=Lib.hid (hp.below hB.out);have HQ:=Lib.hid (hq.below hB.out)
   obtain ⟨r1,hr1⟩:∃ r,bE pt pn pl=r:=⟨_,rfl⟩
   obtain ⟨r2,hr2⟩:∃ r,bE qt qn ql=r:=⟨_,rfl⟩
   have HR1:=Lib.hid hr1;have HR2:=Lib.hid hr2
   have HE:Hid ((if r1=true∧r2=true then (0:Int) else 50)=e0):=by
    show _=_
    rw [← he];simp [dP,hpl,SV.pl,SV.f,hr1,hr2]
   obtain ⟨W0,hW0⟩:∃ W,w.alloc (.cells #[.int .i64 5,.int .i64 0,.slice (some ⟨b,off,none⟩) 2 c] 25)=W:=⟨_,rfl⟩
   rw [hW0] at BX HP HQ hB
   clear hs hl hp hq hr1 hr2 he hpl
   have NX:∀ W:World,Below W0.heap.size W0 W→Hid (W.cell? ⟨w.heap.size,0,none⟩=some (.int .i64 5)∧W.cell? ⟨w.heap.size,1,none⟩=some (.int .i64 0)∧W.cell? ⟨w.heap.size,2,none⟩=some (.slice (some ⟨b,off,none⟩) 2 c)):=fun _ h=>fX (cF BX.out h)
   have NNX:=Lib.hid NX
   clear NX
   obtain ⟨z0,z1,z2⟩:=(NNX.out _ (Below.refl _ _)).out
   go_enter Tryz.func32,Tryz.ntmps32
   go_wp2_with fail
   clear z0 z1 z2
   go_loopw [3,4] (fun o i wr=>Below W0.heap.size W0 wr∧((i = .int .i64 0∧o = .bool true)∨(i = .int .i64 1∧o = .bool r1)∨(i = .int .i64 2∧r1=true∧o = .bool r2))) (fun _ i _=>2 - (intOf i).toNat)
   case atStart=>exact ⟨Below.refl _ _,.inl ⟨rfl,rfl⟩⟩
   case round =>
    obtain ⟨hb1,hrel⟩:=hrel
    obtain ⟨x0,x1,x2⟩:=(NNX.out _ hb1).out
    obtain ⟨y0,y1,y2⟩:=HP.out.below hb1
    obtain ⟨v0,v1,v2⟩:=HQ.out.below hb1
    dsimp only [SV.f] at y0 y1 y2 v0 v1 v2
    simp only [Nat.add_assoc,Nat.reduceAdd] at v1 v2
    rcases hrel with ⟨rfl,rfl⟩ | ⟨rfl,rfl⟩ | ⟨rfl,hr,rfl⟩
    ·by_cases hp5:pt=5
     ·subst hp5
      have HF:Hid (r1=false):=by show _=_;rw [← HR1.out];simp [bE]
      go_wp2_with fail
      go_roundw
      case rel=>exact ⟨hb1,.inr (.inl ⟨rfl,by rw [HF.out]⟩)⟩
      case measure=>simp [intOf]
     ·have hp6:(pt != 5)=true:=by simp [hp5]
      go_wp2_with fail
      refine (pN pt pn pa pl pc hp5 r1 HR1.out _).mono ?_
      rintro e w3 ⟨rfl,hb3⟩
      cases r1
      all_goals
       simp only [Bool.false_eq_true,if_false,if_true]
       go_wp2_with fail
       go_roundw
       case rel=>exact ⟨hb1.trans (hb3.mono hb1.size),.inr (.inl ⟨rfl,rfl⟩)⟩
       case measure=>simp [intOf]
    ·cases r1
     ·have HE2:Hid ((50:Int)=e0):=by show _=_;rw [← HE.out];simp
      go_wp2_with fail
      go_ret
      exact ⟨eK HE2.out,hB.out.trans (hb1.mono hB.out.size)⟩
     ·by_cases hp5:qt=5
      ·subst hp5
       have HF:Hid (r2=false):=by show _=_;rw [← HR2.out];simp [bE]
       go_wp2_with fail
       go_roundw
       case rel=>exact ⟨hb1,.inr (.inr ⟨by first | rfl | trivial,by first | rfl | trivial,by first | rfl | (rw [HF.out])⟩)⟩
       case measure=>simp [intOf]
      ·have hp6:(qt != 5)=true:=by simp [hp5]
       go_wp2_with fail
       refine (pN qt qn qa ql qc hp5 r2 HR2.out _).mono ?_
       rintro e w3 ⟨rfl,hb3⟩
       cases r2
       all_goals
        simp only [Bool.false_eq_true,if_false,if_true]
        go_wp2_with fail
        go_roundw
        case rel=>exact ⟨hb1.trans (hb3.mono hb1.size),.inr (.inr ⟨by first | rfl | trivial,by first | rfl | trivial,by first | rfl | trivial⟩)⟩
        case measure=>simp [intOf]
    ·have HE2:Hid ((if r2=true then (0:Int) else 50)=e0):=by show _=_;rw [← HE.out,hr];simp
     cases r2
     all_goals
      go_wp2_with fail
      go_ret
      exact ⟨eK HE2.out,hB.out.trans (hb1.mono hB.out.size)⟩
  ·have HE:Hid ((50:Int)=e0):=by
    show _=_
    rw [← he,dP,hpl,if_neg (by simp),if_neg]
    rintro ⟨_,h1,h2,_⟩
    exact h0 ⟨h1,by omega⟩
   obtain ⟨W0,hW0⟩:∃ W,w.alloc (.cells #[.int .i64 5,.int .i64 n,.slice a l c] 25)=W:=⟨_,rfl⟩
   rw [hW0] at BX hB
   obtain ⟨x0,x1,x2⟩:=fX BX.out
   clear hs hl he hpl
   have hc:(n=0∧((n == 0)=true)∧((l:Int) == 2)=false)∨((n == 0)=false):=by
    by_cases hn:n=0
    ·exact .inl ⟨hn,by simp [hn],by simp;omega⟩
    ·exact .inr (by simp [hn])
   clear h0
   rcases hc with ⟨rfl,c1,c2⟩ | c1
   all_goals
    go_enter Tryz.func32,Tryz.ntmps32
    go_wp2_with fail
    go_loopw [3,4] (fun o i wr=>i = .int .i64 0∧o = .bool false∧W0=wr) (fun _ i _=>0)
    case atStart=>exact ⟨rfl,rfl,rfl⟩
    case round =>
     obtain ⟨rfl,rfl,rfl⟩:=hrel
     by_cases hl0:0 < l
     ·have g1:(0:Int) < (l:Int):=by omega
      go_wp2_with fail
      go_ret
      exact ⟨eK HE.out,hB.out⟩
     ·obtain rfl:l=0:=by omega
      go_wp2_with fail
      go_ret
      exact ⟨eK HE.out,hB.out⟩
 ·obtain ⟨r,hr⟩:∃ r,bE t n l=r:=⟨_,rfl⟩
  refine (pN t n a l c ht r hr w).mono ?_
  rintro e w1 ⟨rfl,hb⟩
  refine ⟨?_,hb⟩
  rw [← he,Ff ht,hr]
theorem dZ {w:World} {B:Nat} {cs:Array Value} {T:TypeId} (h:w.heap[B]?=some (.cells cs T (0,0))) (j:Nat):w.frozen? ⟨B,j,none⟩=false:=by
 unfold World.frozen?;simp [h]
theorem Ko {w:World} {B:Nat} {a b c d e f v0 v1 v2 v3 v4 v5:Value} {T:TypeId} (h:w.heap[B]?=some (.cells #[a,b,c,d,e,f] T (0,0))) :
  ((((((w.setCell ⟨B,0,none⟩ v0).setCell ⟨B,1,none⟩ v1).setCell ⟨B,2,none⟩ v2).setCell ⟨B,3,none⟩ v3).setCell ⟨B,4,none⟩ v4).setCell ⟨B,5,none⟩ v5).heap[B]?=some (.cells #[v0,v1,v2,v3,v4,v5] T (0,0)) :=
 heap_setCell_same _ B 5 _ _ _ (heap_setCell_same _ B 4 _ _ _ (heap_setCell_same _ B 3 _ _ _ (heap_setCell_same _ B 2 _ _ _ (heap_setCell_same _ B 1 _ _ _ (heap_setCell_same w B 0 _ _ _ h)))))
theorem yL {n:Nat} {w0 w:World} {B:Nat} (v0 v1 v2 v3 v4 v5:Value) (h:Below n w0 w) (hB:n≤B) :
  Below n w0 ((((((w.setCell ⟨B,0,none⟩ v0).setCell ⟨B,1,none⟩ v1).setCell ⟨B,2,none⟩ v2).setCell ⟨B,3,none⟩ v3).setCell ⟨B,4,none⟩ v4).setCell ⟨B,5,none⟩ v5) :=
 (((((h.setCell (p:=⟨B,0,none⟩) hB _).setCell (p:=⟨B,1,none⟩) hB _).setCell (p:=⟨B,2,none⟩) hB _).setCell (p:=⟨B,3,none⟩) hB _).setCell (p:=⟨B,4,none⟩) hB _).setCell (p:=⟨B,5,none⟩) hB _
def jP (n:Nat) (w w':World):Prop:=∀ k,n≤k→w'.heap[k]?=w.heap[k]?
theorem jP.refl (n:Nat) (w:World):jP n w w:=fun _ _=>rfl
theorem jP.setCell {n:Nat} {a w:World} (h:jP n a w) {p:Addr} (hp:p.block < n) (u:Value):jP n a (w.setCell p u):=fun k hk=>(Below.heap_setCell _ _ _ _ (by omega)).trans (h k hk)
theorem jP.cell {n:Nat} {w w':World} (h:jP n w w') {p:Addr} (hp:n≤p.block):w'.cell? p=w.cell? p:=World.cell?_of_block (w:=w) (h p.block hp)
theorem sI {n:Nat} {w0 w:World} {B:Nat} (v0 v1 v2 v3 v4 v5:Value) (h:jP n w0 w) (hB:B < n) :
  jP n w0 ((((((w.setCell ⟨B,0,none⟩ v0).setCell ⟨B,1,none⟩ v1).setCell ⟨B,2,none⟩ v2).setCell ⟨B,3,none⟩ v3).setCell ⟨B,4,none⟩ v4).setCell ⟨B,5,none⟩ v5) :=
 (((((h.setCell (p:=⟨B,0,none⟩) hB _).setCell (p:=⟨B,1,none⟩) hB _).setCell (p:=⟨B,2,none⟩) hB _).setCell (p:=⟨B,3,none⟩) hB _).setCell (p:=⟨B,4,none⟩) hB _).setCell (p:=⟨B,5,none⟩) hB _
theorem eS.above {w w':World} {n:Nat} {a:Option Addr} {vs:List Value} (h:eS w a vs) (hn:∀ ad,a=some ad→n≤ad.block) (hb:jP n w w'):eS w' a vs:=by
 rcases h with h | ⟨b,off,rfl,hc⟩
 ·exact .inl h
 ·exact .inr ⟨b,off,rfl,fun i v hi=>(hb.cell (p:=⟨b,off+i,none⟩) (hn ⟨b,off,none⟩ rfl)).trans (hc i v hi)⟩
theorem eM.above {w w':World} {n:Nat} {a:Option Addr} {cs:List Cl} (h:eM w a cs) (hn:∀ ad,a=some ad→n≤ad.block) (hb:jP n w w'):eM w' a cs:=by
 rcases h with h | ⟨b,off,rfl,hc⟩
 ·exact .inl h
 ·exact .inr ⟨b,off,rfl,fun i v hi=>⟨(hb.cell (p:=⟨b,off+i * 3,none⟩) (hn ⟨b,off,none⟩ rfl)).trans (hc i v hi).1,(hb.cell (p:=⟨b,off+i * 3+1,none⟩) (hn ⟨b,off,none⟩ rfl)).trans (hc i v hi).2.1,(hb.cell (p:=⟨b,off+i * 3+2,none⟩) (hn ⟨b,off,none⟩ rfl)).trans (hc i v hi).2.2⟩⟩
theorem W6.above {w w':World} {n b o:Nat} {f:WF} (h:W6 w b o f) (hn:n≤b) (hb:jP n w w'):W6 w' b o f :=
 ⟨(hb.cell hn).trans h.1,(hb.cell hn).trans h.2.1,(hb.cell hn).trans h.2.2.1,(hb.cell hn).trans h.2.2.2.1,(hb.cell hn).trans h.2.2.2.2.1,(hb.cell hn).trans h.2.2.2.2.2⟩
structure PNew (n:Nat) (w:World) (t d:Int) (f:WF) (a:PF):Prop where
 is:PIs w t d f a
 ra:∀ ad,f.ra=some ad→n≤ad.block
 ca:∀ ad,f.ca=some ad→n≤ad.block
theorem PNew.below {n:Nat} {w w':World} {t d:Int} {f:WF} {a:PF} (h:PNew n w t d f a) (hb:Below w.heap.size w w'):PNew n w' t d f a:=⟨h.is.below hb,h.ra,h.ca⟩
theorem PNew.mono {n m:Nat} {w:World} {t d:Int} {f:WF} {a:PF} (h:PNew n w t d f a) (hm:m≤n):PNew m w t d f a:=⟨h.is,fun ad e=>Nat.le_trans hm (h.ra ad e),fun ad e=>Nat.le_trans hm (h.ca ad e)⟩
def gG (n:Nat) (w:World):PS→WF→PX→Prop
 | .one t d,f,.one a=>PNew n w t d f a
 | .two t d u m,f,.two a b=>f.pf=pC 0∧f.rl=0∧f.cl=0∧f.pl=2∧∃ blk g h,f.pa=some ⟨blk,0,none⟩∧n≤blk∧W6 w blk 0 g∧W6 w blk 6 h∧PNew n w t d g a∧PNew n w u m h b
 | _,_,_=>False
theorem gG.is {n:Nat} {w:World} {S:PS} {f:WF} {x:PX} (h:gG n w S f x):XIs w S f x:=by
 cases S<;>cases x<;>first | exact h.elim | exact PNew.is h | skip
 obtain ⟨h1,h2,h3,h4,blk,g,k,h5,_,h6,h7,h8,h9⟩:=h
 exact ⟨h1,h2,h3,h4,blk,0,g,k,h5,h6,by simpa using h7,h8.is,h9.is⟩
theorem gG.below {n:Nat} {w w':World} {S:PS} {f:WF} {x:PX} (h:gG n w S f x) (hb:Below w.heap.size w w'):gG n w' S f x:=by
 cases S<;>cases x<;>first | exact h.elim | exact PNew.below h hb | skip
 obtain ⟨h1,h2,h3,h4,blk,g,k,h5,h0,h6,h7,h8,h9⟩:=h
 exact ⟨h1,h2,h3,h4,blk,g,k,h5,h0,h6.below hb,h7.below hb,h8.below hb,h9.below hb⟩
theorem gG.mono {n m:Nat} {w:World} {S:PS} {f:WF} {x:PX} (h:gG n w S f x) (hm:m≤n):gG m w S f x:=by
 cases S<;>cases x<;>first | exact h.elim | exact PNew.mono h hm | skip
 obtain ⟨h1,h2,h3,h4,blk,g,k,h5,h0,h6,h7,h8,h9⟩:=h
 exact ⟨h1,h2,h3,h4,blk,g,k,h5,Nat.le_trans hm h0,h6,h7,h8.mono hm,h9.mono hm⟩
def jZ (S:PS) (x:PX) (w:World) (e:Ending) (w':World):Prop:=∃ f:WF,e = .returned f.val∧gG w.heap.size w' S f x∧Below w.heap.size w w'
theorem nI (n:Nat) (w:World) (t d:Int):PNew n w t d rO dB :=
 ⟨⟨⟨.inl rfl,rfl,by decide,(fun r hr=>by cases hr),.inl rfl,rfl,(fun c hc=>by cases hc),by decide⟩,rfl,.zero,rfl⟩,(fun ad e=>by cases e),(fun ad e=>by cases e)⟩
theorem yM {n:Nat} {w:World} {t d u m:Int} {blk:Nat} {g h:WF} {a b:PF} (h6:W6 w blk 0 g) (h7:W6 w blk 6 h) (hn:n≤blk) (ha:PNew n w t d g a) (hb:PNew n w u m h b):gG n w (.two t d u m) (tQ blk) (.two a b) :=
 ⟨rfl,rfl,rfl,rfl,blk,g,h,rfl,hn,h6,h7,ha,hb⟩
theorem jQ {k:IntKind} {a b:Int} (h:a=b):Ending.returned (.int k a) = .returned (.int k b):=by rw [h]
def Row (w:World) (a:Option Addr) (zs:List Int):Prop :=
 zs=[]∨∃ b off,a=some ⟨b,off,none⟩∧∀ i,i < zs.length→w.cell? ⟨b,off+i,none⟩=some (.int .i64 (zs.getD i 0))
def okc (limit c:Int):Bool:=decide (-1≤c) && decide (c≤limit)
def chk (limit:Int) (zs:List Int):Int:=if limit < 0∨1048576 < limit then 20 else if zs.all (okc limit) then 0 else 21
def gP (a b:Int):Int:=if a = -1 then b else if b = -1 then a else min a b
def kB (limit a b:Int):Int:=if a = -1∨b = -1 then -1 else min (a+b) limit
theorem In (a b:Int) (w:World):Calls Tryz.prog 160 #[.int .i64 a,.int .i64 b] w fun e w'=>e = .returned (.int .i64 (gP a b))∧w=w':=by
 by_cases ha:a = -1
 ·have h1:(a == -1)=true:=by simp [ha]
  have e1:gP a b=b:=by simp [gP,ha]
  have H:=Lib.hid e1;clear e1 ha
  go_enter Tryz.func160,Tryz.ntmps160
  go_wp2
  go_ret
  exact ⟨jQ H.out.symm,rfl⟩
 ·have h1:(a == -1)=false:=by simp [ha]
  by_cases hb:b = -1
  ·have h2:(b == -1)=true:=by simp [hb]
   have e1:gP a b=a:=by simp [gP,ha,hb]
   have H:=Lib.hid e1;clear e1 ha hb
   go_enter Tryz.func160,Tryz.ntmps160
   go_wp2
   go_ret
   exact ⟨jQ H.out.symm,rfl⟩
  ·have h2:(b == -1)=false:=by simp [hb]
   have e1:gP a b=min a b:=by simp [gP,ha,hb]
   have H:=Lib.hid e1;clear e1 ha hb
   go_enter Tryz.func160,Tryz.ntmps160
   go_wp2
   all_goals go_ret
   all_goals exact ⟨jQ (by rw [H.out]<;>omega),rfl⟩
theorem Ni (l a b:Int) (w:World) (hs : -9223372036854775808≤a+b∧a+b≤9223372036854775807):Calls Tryz.prog 172 #[.int .i64 l,.int .i64 a,.int .i64 b] w fun e w'=>e = .returned (.int .i64 (kB l a b))∧w=w':=by
 by_cases ha:a = -1
 ·have h1:(a == -1)=true:=by simp [ha]
  have e1:kB l a b = -1:=by simp [kB,ha]
  have H:=Lib.hid e1;clear e1 ha
  go_enter Tryz.func172,Tryz.ntmps172
  go_wp2
  go_ret
  exact ⟨jQ H.out.symm,rfl⟩
 ·have h1:(a == -1)=false:=by simp [ha]
  by_cases hb:b = -1
  ·have h2:(b == -1)=true:=by simp [hb]
   have e1:kB l a b = -1:=by simp [kB,ha,hb]
   have H:=Lib.hid e1;clear e1 ha hb
   go_enter Tryz.func172,Tryz.ntmps172
   go_wp2
   go_ret
   exact ⟨jQ H.out.symm,rfl⟩
  ·have h2:(b == -1)=false:=by simp [hb]
   have e1:kB l a b=min (a+b) l:=by simp [kB,ha,hb]
   have H:=Lib.hid e1;clear e1 ha hb
   obtain ⟨hs1,hs2⟩:=hs
   go_enter Tryz.func172,Tryz.ntmps172
   go_wp2
   all_goals go_ret
   all_goals exact ⟨jQ (by rw [H.out]<;>omega),rfl⟩
theorem vE {p:Int→Bool} {zs:List Int} {k:Nat} {z:Int} (hk:k < zs.length) (hz:z=zs.getD k 0) (h:(zs.take k).all p=true) (hp:p z=true):(zs.take (k+1)).all p=true:=by
 rw [List.take_succ_eq_append_getElem hk,List.all_append,h]
 have:zs.getD k 0=zs[k]:=by simp [List.getD,hk]
 rw [this] at hz
 simp [← hz,hp]
theorem Dv {p:Int→Bool} {zs:List Int} {k:Nat} {z:Int} (hk:k < zs.length) (hz:z=zs.getD k 0) (hp:p z=false):zs.all p=false:=by
 have:zs.getD k 0=zs[k]:=by simp [List.getD,hk]
 rw [this] at hz
 rw [List.all_eq_false]
 exact ⟨zs[k],List.getElem_mem hk,by rw [← hz,hp];simp⟩
theorem Kp {limit:Int} {zs:List Int} {k:Nat} {z:Int} (h0:0≤limit) (h1:limit≤1048576) (hk:k < zs.length) (hz:z=zs.getD k 0) (hp:okc limit z=false):chk limit zs=21:=by
 unfold chk;rw [if_neg (by omega),Dv hk hz hp];rfl
theorem Q4 {limit:Int} {zs:List Int} {k:Nat} (h0:0≤limit) (h1:limit≤1048576) (hk:zs.length≤k) (h:(zs.take k).all (okc limit)=true):chk limit zs=0:=by
 rw [List.take_of_length_le hk] at h
 unfold chk;rw [if_neg (by omega),h];rfl
theorem okc_lo {l z:Int} (h:z < -1):okc l z=false:=by simp [okc];omega
theorem okc_hi {l z:Int} (h:l < z):okc l z=false:=by simp [okc];omega
theorem okc_in {l z:Int} (h : -1≤z) (h2:z≤l):okc l z=true:=by simp [okc];omega
set_option maxHeartbeats 400000 in
theorem lE (limit:Int) (a:Option Addr) (cap:Nat) (zs:List Int) (w:World) (hm:zs.length≤maxLen) (hrow:Row w a zs) :
  Calls Tryz.prog 159 #[.int .i64 limit,.slice a zs.length cap] w fun e w'=>e = .returned (.int .i64 (chk limit zs))∧w=w':=by
 unfold maxLen at hm
 by_cases h0:limit < 0
 ·have e1:chk limit zs=20:=by simp [chk,h0]
  have H:=Lib.hid e1;clear e1
  go_enter Tryz.func159,Tryz.ntmps159
  go_wp2
  go_ret
  exact ⟨jQ H.out.symm,rfl⟩
 by_cases h1:1048576 < limit
 ·have e1:chk limit zs=20:=by simp [chk,h1]
  have H:=Lib.hid e1;clear e1
  go_enter Tryz.func159,Tryz.ntmps159
  go_wp2
  go_ret
  exact ⟨jQ H.out.symm,rfl⟩
 have h0':0≤limit:=by omega
 have h1':limit≤1048576:=by omega
 clear h0 h1
 go_enter Tryz.func159,Tryz.ntmps159
 go_wp2
 go_loop [15] (fun i=>∃ k:Nat,k≤zs.length∧i = .int .i64 k∧Hid ((zs.take k).all (okc limit)=true)) (fun i=>zs.length - (intOf i).toNat)
 case atStart=>exact ⟨0,Nat.zero_le _,rfl,by simp [Hid]⟩
 case round =>
  obtain ⟨k,hk,rfl,HA⟩:=hrel
  by_cases hlt:k < zs.length
  ·rcases hrow with h | ⟨b,off,rfl,hc⟩
   ·subst h;simp at hlt
   have hck:=hc k hlt
   obtain ⟨z,hz⟩:∃ z,z=zs.getD k 0:=⟨_,rfl⟩
   rw [← hz] at hck
   have HZ:=Lib.hid hz;clear hz hc
   by_cases h2:z < -1
   ·have H:=Lib.hid (Kp h0' h1' hlt HZ.out (okc_lo h2))
    go_wp2
    go_ret
    exact ⟨jQ H.out.symm,rfl⟩
   by_cases h3:limit < z
   ·have H:=Lib.hid (Kp h0' h1' hlt HZ.out (okc_hi h3))
    go_wp2
    go_ret
    exact ⟨jQ H.out.symm,rfl⟩
   have H:=Lib.hid (vE hlt HZ.out HA.out (okc_in (by omega) (by omega)))
   have h2' : -1≤z:=by omega
   have h3':z≤limit:=by omega
   clear h2 h3
   go_wp2
   go_round
   case rel=>exact ⟨k+1,by omega,by go_num,H⟩
   case measure=>simp [intOf];omega
  ·have H:=Lib.hid (Q4 h0' h1' (by omega) HA.out)
   go_wp2
   go_ret
   exact ⟨jQ H.out.symm,rfl⟩
def Dw (zs:List Int):Int:=zs.foldl gP (-1)
def Q5 (limit:Int) (zs:List Int):Int:=zs.foldl (kB limit) 0
def mS (limit:Int) (zs:List Int):Int:=if chk limit zs=0 then Dw zs else 0
def Af (limit:Int) (zs:List Int):Int:=if chk limit zs=0 then Q5 limit zs else 0
theorem tR {limit:Int} {zs:List Int} (h:chk limit zs=0):0≤limit∧limit≤1048576∧zs.all (okc limit)=true:=by
 unfold chk at h
 split at h
 ·omega
 ·cases hz:zs.all (okc limit)<;>rw [hz] at h<;>simp at h
  exact ⟨by omega,by omega,rfl⟩
theorem Nj {zs:List Int} {k:Nat} {z:Int} (hk:k < zs.length) (hz:z=zs.getD k 0):zs.take (k+1)=zs.take k++[z]:=by
 rw [List.take_succ_eq_append_getElem hk]
 have:zs.getD k 0=zs[k]:=by simp [List.getD,hk]
 rw [hz,this]
theorem Bw {f:Int→Int→Int} {s:Int} {zs:List Int} {k:Nat} {z:Int} (hk:k < zs.length) (hz:z=zs.getD k 0):(zs.take (k+1)).foldl f s=f ((zs.take k).foldl f s) z:=by
 rw [Nj hk hz,List.foldl_append];rfl
theorem Kt {limit:Int} {zs:List Int} {k:Nat} {z:Int} (h:zs.all (okc limit)=true) (hk:k < zs.length) (hz:z=zs.getD k 0) : -1≤z∧z≤limit:=by
 have e:zs.getD k 0=zs[k]:=by simp [List.getD,hk]
 rw [List.all_eq_true] at h
 have:=h z (by rw [hz,e];exact List.getElem_mem hk)
 simp [okc] at this;exact this
theorem Q6 {l a b:Int} (hl:0≤l) (ha : -1≤a) (ha2:a≤l) (hb : -1≤b) (hb2:b≤l) : -1≤kB l a b∧kB l a b≤l:=by
 unfold kB;split<;>omega
theorem rtwo {k k2:IntKind} {a b c d:Int} (h:a=b) (h2:c=d):Ending.returned (.tuple #[.int k a,.int k2 c]) = .returned (.tuple #[.int k b,.int k2 d]):=by rw [h,h2]
theorem Nk {a b l:Int} (ha : -1≤a) (ha2:a≤1048576) (hb : -1≤b) (hb2:b≤l) (hl:l≤1048576) : -1≤gP a b∧gP a b≤1048576:=by
 unfold gP;split
 ·omega
 ·split<;>omega
set_option maxHeartbeats 400000 in
theorem Nl (limit:Int) (a:Option Addr) (cap:Nat) (zs:List Int) (w:World) (hm:zs.length≤maxLen) (hrow:Row w a zs) :
  Calls Tryz.prog 138 #[.int .i64 limit,.slice a zs.length cap] w fun e w'=>e = .returned (.tuple #[.int .i64 (mS limit zs),.int .i64 (chk limit zs)])∧w=w':=by
 have HM:=Lib.hid hm
 unfold maxLen at hm
 by_cases hc0:chk limit zs=0
 ·obtain ⟨hl0,hl1,hall⟩:=tR hc0
  have e1:mS limit zs=Dw zs:=by simp [mS,hc0]
  have H1:=Lib.hid e1
  have H0:=Lib.hid hc0
  have HALL:=Lib.hid hall
  have HROW:=Lib.hid hrow
  clear e1 hc0 hall hrow
  go_enter Tryz.func138,Tryz.ntmps138
  go_wp2_with (go_at_call 159;refine (lE _ _ _ _ _ HM.out HROW.out).mono ?_;rintro e w' ⟨rfl,rfl⟩;rw [H0.out])
  go_loop [7,18] (fun m i=>∃ k:Nat,k≤zs.length∧i = .int .i64 k∧∃ s:Int,m = .int .i64 s ∧ -1≤s∧s≤1048576∧Hid (s=(zs.take k).foldl gP (-1))) (fun _ i=>zs.length - (intOf i).toNat)
  case atStart=>exact ⟨0,Nat.zero_le _,rfl,_,rfl,by omega,by omega,by simp [Hid]⟩
  case round =>
   obtain ⟨k,hk,rfl,s,rfl,hs1,hs2,HS⟩:=hrel
   by_cases hlt:k < zs.length
   ·rcases HROW.out with h | ⟨b,off,rfl,hc⟩
    ·subst h;simp at hlt
    have hck:=hc k hlt
    obtain ⟨z,hz⟩:∃ z,z=zs.getD k 0:=⟨_,rfl⟩
    rw [← hz] at hck
    obtain ⟨hz1,hz2⟩:=Kt HALL.out hlt hz
    have hs' : -1≤gP s z∧gP s z≤1048576:=Nk hs1 hs2 hz1 hz2 hl1
    have HZ:=Lib.hid hz;clear hz hc HROW
    go_wp2_with (go_at_call 160;refine (In _ _ _).mono ?_;rintro e w' ⟨rfl,rfl⟩)
    go_round
    case rel=>exact ⟨k+1,by omega,by go_num,_,rfl,hs'.1,hs'.2,by rw [HS.out];exact (Bw hlt HZ.out).symm⟩
    case measure=>simp [intOf];omega
   ·have HE:Hid (s=mS limit zs):=by rw [H1.out,HS.out,List.take_of_length_le (by omega)];rfl
    have HROW2:=HROW
    clear HROW
    go_wp2
    go_ret2
    exact ⟨rtwo HE.out H0.out.symm,rfl⟩
 ·have e1:mS limit zs=0:=by simp [mS,hc0]
  have H1:=Lib.hid e1
  have HROW:=Lib.hid hrow
  have hne:(chk limit zs != 0)=true:=by simpa using hc0
  obtain ⟨c,hcc⟩:∃ c,c=chk limit zs:=⟨_,rfl⟩
  rw [← hcc] at hne
  have HC:=Lib.hid hcc
  clear e1 hc0 hrow hcc
  go_enter Tryz.func138,Tryz.ntmps138
  go_wp2_with (go_at_call 159;refine (lE _ _ _ _ _ HM.out HROW.out).mono ?_;rintro e w' ⟨rfl,rfl⟩;rw [← HC.out])
  go_ret2
  exact ⟨rtwo H1.out.symm HC.out,rfl⟩
set_option maxHeartbeats 400000 in
theorem sum_any (limit:Int) (a:Option Addr) (cap:Nat) (zs:List Int) (w:World) (hm:zs.length≤maxLen) (hrow:Row w a zs) :
  Calls Tryz.prog 167 #[.int .i64 limit,.slice a zs.length cap] w fun e w'=>e = .returned (.tuple #[.int .i64 (Af limit zs),.int .i64 (chk limit zs)])∧w=w':=by
 have HM:=Lib.hid hm
 unfold maxLen at hm
 by_cases hc0:chk limit zs=0
 ·obtain ⟨hl0,hl1,hall⟩:=tR hc0
  have e1:Af limit zs=Q5 limit zs:=by simp [Af,hc0]
  have H1:=Lib.hid e1
  have H0:=Lib.hid hc0
  have HALL:=Lib.hid hall
  have HROW:=Lib.hid hrow
  clear e1 hc0 hall hrow
  go_enter Tryz.func167,Tryz.ntmps167
  go_wp2_with (go_at_call 159;refine (lE _ _ _ _ _ HM.out HROW.out).mono ?_;rintro e w' ⟨rfl,rfl⟩;rw [H0.out])
  go_loop [7,18] (fun m i=>∃ k:Nat,k≤zs.length∧i = .int .i64 k∧∃ s:Int,m = .int .i64 s ∧ -1≤s∧s≤limit∧Hid (s=(zs.take k).foldl (kB limit) 0)) (fun _ i=>zs.length - (intOf i).toNat)
  case atStart=>exact ⟨0,Nat.zero_le _,rfl,_,rfl,by omega,by omega,by simp [Hid]⟩
  case round =>
   obtain ⟨k,hk,rfl,s,rfl,hs1,hs2,HS⟩:=hrel
   by_cases hlt:k < zs.length
   ·rcases HROW.out with h | ⟨b,off,rfl,hc⟩
    ·subst h;simp at hlt
    have hck:=hc k hlt
    obtain ⟨z,hz⟩:∃ z,z=zs.getD k 0:=⟨_,rfl⟩
    rw [← hz] at hck
    obtain ⟨hz1,hz2⟩:=Kt HALL.out hlt hz
    have hs' : -1≤kB limit s z∧kB limit s z≤limit:=Q6 hl0 hs1 hs2 hz1 hz2
    have HZ:=Lib.hid hz;clear hz hc HROW
    go_wp2_with (go_at_call 172;refine (Ni _ _ _ _ ⟨by omega,by omega⟩).mono ?_;rintro e w' ⟨rfl,rfl⟩)
    go_round
    case rel=>exact ⟨k+1,by omega,by go_num,_,rfl,hs'.1,hs'.2,by rw [HS.out];exact (Bw hlt HZ.out).symm⟩
    case measure=>simp [intOf];omega
   ·have HE:Hid (s=Af limit zs):=by rw [H1.out,HS.out,List.take_of_length_le (by omega)];rfl
    have HROW2:=HROW
    clear HROW
    go_wp2
    go_ret2
    exact ⟨rtwo HE.out H0.out.symm,rfl⟩
 ·have e1:Af limit zs=0:=by simp [Af,hc0]
  have H1:=Lib.hid e1
  have HROW:=Lib.hid hrow
  have hne:(chk limit zs != 0)=true:=by simpa using hc0
  obtain ⟨c,hcc⟩:∃ c,c=chk limit zs:=⟨_,rfl⟩
  rw [← hcc] at hne
  have HC:=Lib.hid hcc
  clear e1 hc0 hrow hcc
  go_enter Tryz.func167,Tryz.ntmps167
  go_wp2_with (go_at_call 159;refine (lE _ _ _ _ _ HM.out HROW.out).mono ?_;rintro e w' ⟨rfl,rfl⟩;rw [← HC.out])
  go_ret2
  exact ⟨rtwo H1.out.symm HC.out,rfl⟩
theorem Io {w:World} {a:Addr} {v:Value} (h:w.cell? a=some v):a.block < w.heap.size:=by
 rcases Nat.lt_or_ge a.block w.heap.size with h' | h'
 ·exact h'
 ·simp [World.cell?,Array.getElem?_eq_none h'] at h
theorem Row.below {w w':World} {a:Option Addr} {zs:List Int} (h:Row w a zs) (hb:Below w.heap.size w w'):Row w' a zs:=by
 rcases h with h | ⟨b,off,rfl,hc⟩
 ·exact .inl h
 ·refine .inr ⟨b,off,rfl,fun i hi=>?_⟩
  have h1:=hc i hi
  rw [hb.cell]
  ·exact h1
  ·exact Io h1
theorem Nm {limit a b:Int} (h:chk limit [a,b]=0):mS limit [a,b]=gP a b:=by
 have h3:gP (-1) a=a:=by simp [gP]
 simp [mS,h,Dw,h3]
theorem sum_two {limit a b:Int} (h:chk limit [a,b]=0):Af limit [a,b]=kB limit a b:=by
 have h2:=(tR h).2.2
 simp [okc] at h2
 have h3:kB limit 0 a=a:=by unfold kB;split<;>omega
 simp [Af,h,Q5,h3]
theorem Fz {limit a b:Int}:chk limit [a,b]=0↔(0≤limit∧limit≤1048576∧(-1≤a∧a≤limit)∧(-1≤b∧b≤limit)):=by
 constructor
 ·intro h
  have:=tR h
  simp [okc] at this
  omega
 ·intro h
  have:[a,b].all (okc limit)=true:=by simp [okc];omega
  simp only [chk,this]
  rw [if_neg (by omega)];rfl
end Go.Proofs.YtmgnkpibpjgncaaGreatDoor
namespace Go.Proofs.YtmgnkpibpjgncaaGreatDoor
open Go Go.RowKit
theorem eS.agree {A W:World} {lo:Nat} {a:Option Addr} {vs:List Value} (h:eS A a vs) (hl:∀ ad,a=some ad→lo≤ad.block) (hg:dQ lo A W):eS W a vs:=by
 rcases h with h | ⟨b,off,rfl,hc⟩
 ·exact .inl h
 ·exact .inr ⟨b,off,rfl,fun i v hi=>hg.cell (p:=⟨b,off+i,none⟩) (hl ⟨b,off,none⟩ rfl) (hc i v hi)⟩
theorem eM.agree {A W:World} {lo:Nat} {a:Option Addr} {cs:List Cl} (h:eM A a cs) (hl:∀ ad,a=some ad→lo≤ad.block) (hg:dQ lo A W):eM W a cs:=by
 rcases h with h | ⟨b,off,rfl,hc⟩
 ·exact .inl h
 ·exact .inr ⟨b,off,rfl,fun i c hi=>⟨hg.cell (p:=⟨b,_,none⟩) (hl ⟨b,off,none⟩ rfl) (hc i c hi).1,hg.cell (p:=⟨b,_,none⟩) (hl ⟨b,off,none⟩ rfl) (hc i c hi).2.1,hg.cell (p:=⟨b,_,none⟩) (hl ⟨b,off,none⟩ rfl) (hc i c hi).2.2⟩⟩
theorem W6.agree {A W:World} {lo b o:Nat} {f:WF} (h:W6 A b o f) (hb:lo≤b) (hg:dQ lo A W):W6 W b o f :=
 ⟨hg.cell hb h.1,hg.cell hb h.2.1,hg.cell hb h.2.2.1,hg.cell hb h.2.2.2.1,hg.cell hb h.2.2.2.2.1,hg.cell hb h.2.2.2.2.2⟩
theorem PNew.agree {n:Nat} {A W:World} {t d:Int} {f:WF} {a:PF} (h:PNew n A t d f a) (hg:dQ n A W):PNew n W t d f a :=
 ⟨⟨⟨h.is.at_.rows.agree h.ra hg,h.is.at_.rl,h.is.at_.g64,h.is.at_.r64,h.is.at_.cells.agree h.ca hg,h.is.at_.cl,h.is.at_.bits,h.is.at_.cmax⟩,h.is.pf,h.is.ok,h.is.pl⟩,h.ra,h.ca⟩
theorem gG.agree {n:Nat} {A W:World} {S:PS} {f:WF} {x:PX} (h:gG n A S f x) (hg:dQ n A W):gG n W S f x:=by
 cases S<;>cases x<;>first | exact h.elim | exact PNew.agree h hg | skip
 obtain ⟨h1,h2,h3,h4,blk,g,k,h5,h0,h6,h7,h8,h9⟩:=h
 exact ⟨h1,h2,h3,h4,blk,g,k,h5,h0,h6.agree h0 hg,h7.agree h0 hg,h8.agree hg,h9.agree hg⟩
theorem W6.cells {w:World} {b o:Nat} {f:WF} (h:W6 w b o f):aB w b o f.six:=⟨h.1,h.2.1,h.2.2.1,h.2.2.2.1,h.2.2.2.2.1,h.2.2.2.2.2,trivial⟩
theorem W6.of_cells {w:World} {b o:Nat} {f:WF} (h:aB w b o f.six):W6 w b o f:=⟨h.1,h.2.1,h.2.2.1,h.2.2.2.1,h.2.2.2.2.1,h.2.2.2.2.2.1⟩
abbrev SF.three (f:SF):List Value:=[.int .i64 f.tag,.int .i64 f.dim,.slice f.a f.len f.cap]
theorem S3.cells {w:World} {b o:Nat} {f:SF} (h:S3 w b o f):aB w b o f.three:=⟨h.1,h.2.1,h.2.2,trivial⟩
abbrev yN (c:Int):WF:=⟨false,c,0,none,0,0,[],none,0,0,[],none,0,0⟩
abbrev Dx (g:Nat) (a:Option Addr) (cap:Nat) (rows:List Nat):WF:=⟨false,0,g,a,rows.length,cap,rows,none,0,0,[],none,0,0⟩
abbrev vF (a:Option Addr) (cap:Nat) (cs:List Cl):WF:=⟨false,0,0,none,0,0,[],a,cs.length,cap,cs,none,0,0⟩
theorem nJ {n:Nat} {W:World} {t d c:Int} (h:OkP t d (pC c)):PNew n W t d (yN c) (pC c) :=
 ⟨⟨⟨.inl rfl,rfl,(by show (0:Nat) < _;decide),(fun r hr=>by cases hr),.inl rfl,rfl,(fun c hc=>by cases hc),(by show (0:Nat)≤_;decide)⟩,rfl,h,rfl⟩,(fun ad e=>by cases e),(fun ad e=>by cases e)⟩
theorem vG {n:Nat} {W:World} {t d:Int} {g:Nat} {a:Option Addr} {cap:Nat} {rows:List Nat} (h:OkP t d (pF g rows)) (hg:g < 18446744073709551616) (hr:∀ r∈rows,r < 18446744073709551616) (hv:eS W a (u64s rows)) (hl:∀ ad,a=some ad→n≤ad.block):PNew n W t d (Dx g a cap rows) (pF g rows) :=
 ⟨⟨⟨hv,rfl,hg,hr,.inl rfl,rfl,(fun c hc=>by cases hc),by simp [maxLen]⟩,rfl,h,rfl⟩,hl,(fun ad e=>by cases e)⟩
theorem rB {n:Nat} {W:World} {t d:Int} {a:Option Addr} {cap:Nat} {cs:List Cl} (h:OkP t d (pX cs)) (hb:nW cs) (hm:cs.length≤maxLen) (hv:eM W a cs) (hl:∀ ad,a=some ad→n≤ad.block):PNew n W t d (vF a cap cs) (pX cs) :=
 ⟨⟨⟨.inl rfl,rfl,(by show (0:Nat) < _;decide),(fun r hr=>by cases hr),hv,rfl,hb,hm⟩,rfl,h,rfl⟩,(fun ad e=>by cases e),hl⟩
theorem PIs.z {w:World} {t n:Int} {f:WF} {x:PF} (h:PIs w t n f x):x.z=f.z:=by rw [← h.pf];rfl
theorem PIs.zero {w:World} {t n:Int} {f:WF} {x:PF} (h:PIs w t n f x) (hz:f.z=true):x=dB:=by
 have h1:=h.z;have h2:=h.ok
 rw [hz] at h1
 cases h2<;>first | rfl | cases h1
theorem kY {f:WF} {x:PF} (h:f.pf=x):f.z=x.z∧f.c=x.c∧f.g=x.g∧f.rows=x.rows∧f.cells=x.cells:=by subst h;exact ⟨rfl,rfl,rfl,rfl,rfl⟩
theorem PIs.k1 {w:World} {n:Int} {f:WF} {x:PF} (h:PIs w 1 n f x) (hz:f.z=false):x=pC 0:=by
 rcases iG h.ok with rfl | rfl
 ·rw [(kY h.pf).1] at hz;cases hz
 ·rfl
theorem PIs.k2 {w:World} {n:Int} {f:WF} {x:PF} (h:PIs w 2 n f x) (hz:f.z=false):x=pC f.c∧0≤f.c∧f.c≤n:=by
 rcases hQ h.ok with rfl | ⟨c,rfl,h0,h1⟩
 ·rw [(kY h.pf).1] at hz;cases hz
 ·have:f.c=c:=(kY h.pf).2.1
  subst this;exact ⟨rfl,h0,h1⟩
theorem PIs.k3 {w:World} {m:Nat} {f:WF} {x:PF} (h:PIs w 3 m f x) (hz:f.z=false):x=pF f.g f.rows∧Good m f.g f.rows:=by
 rcases iH h.ok with rfl | ⟨g,rows,rfl,h0⟩
 ·rw [(kY h.pf).1] at hz;cases hz
 ·have h1:f.g=g:=(kY h.pf).2.2.1
  have h2:f.rows=rows:=(kY h.pf).2.2.2.1
  subst h1;subst h2;exact ⟨rfl,h0⟩
theorem PIs.k4 {w:World} {m:Nat} {f:WF} {x:PF} (h:PIs w 4 m f x) (hz:f.z=false):x=pX f.cells∧Val m f.cells:=by
 rcases iI h.ok with rfl | ⟨cs,rfl,h0⟩
 ·rw [(kY h.pf).1] at hz;cases hz
 ·have h1:f.cells=cs:=(kY h.pf).2.2.2.2
  subst h1;exact ⟨rfl,h0⟩
theorem Ku {W:World} {B:Nat} {T:TypeId} {a b:Int} (h:W.heap[B]?=some (.cells (List.toArray [.int .i64 a,.int .i64 b]) T (0,0))):Row W (some ⟨B,0,none⟩) [a,b]:=by
 refine .inr ⟨B,0,rfl,fun i hi=>?_⟩
 match i,hi with
 | 0,_=>exact aK h rfl
 | 1,_=>exact aK h rfl
theorem then_is (d:Int) (a b:Option Addr) (capa capb:Nat) (xs ys:List Cl) (w:World) (ht:Tabs w) (hma:xs.length≤maxLen) (hmb:ys.length≤maxLen) (hra:eM w a xs) (hrb:eM w b ys) (hba:nW xs) (hbb:nW ys) (c:Int) (hc:mI d xs ys=c) (la lb:Nat) (hla:xs.length=la) (hlb:ys.length=lb) :
  Calls Tryz.prog 169 #[.int .i64 d,.slice a la capa,.slice b lb capb] w (jN (thenR d xs ys) c w):=by
 subst hla;subst hlb;exact Qx d a b capa capb xs ys w ht hma hmb hra hrb hba hbb c hc
theorem nK {t n:Int} {l:Nat} (h:bE t n l=true):t≠5:=wT h
section
variable {w W:World} {k:Nat} {n:Int} {f g:WF} {x y:PF}
theorem fE {t:Int} {f:WF} {x:PF} (h:PNew w.heap.size W t n f x) (hb:Below w.heap.size w W):jZ (.one t n) (.one x) w (.returned f.val) W:=⟨f,rfl,h,hb⟩
theorem ext_zL {t:Int} (hx:PIs w t n f x) (hz:f.z=true) (hb:Below w.heap.size w W):jZ (.one t n) (.one (gF t n x y)) w (.returned rO.val) W:=by
 rw [hx.zero hz,mP];exact fE (nI _ _ _ _) hb
theorem ext_zR {t:Int} (hy:PIs w t n g y) (hz:g.z=true) (hb:Below w.heap.size w W):jZ (.one t n) (.one (gF t n x y)) w (.returned rO.val) W:=by
 rw [hy.zero hz,mQ];exact fE (nI _ _ _ _) hb
theorem ext_f1 (hx:PIs w 1 n f x) (hy:PIs w 1 n g y) (hf:f.z=false) (hg:g.z=false):PNew k W 1 n (yN 0) (gF 1 n x y):=by
 rw [hx.k1 hf,hy.k1 hg,Br];exact nJ (.bool rfl)
theorem ext_f2 (hp:bE 2 n 0=true) (hx:PIs w 2 n f x) (hy:PIs w 2 n g y) (hf:f.z=false) (hg:g.z=false):PNew k W 2 n (yN (Af n [f.c,g.c])) (gF 2 n x y):=by
 obtain ⟨rfl,h0,h1⟩:=hx.k2 hf
 obtain ⟨rfl,h2,h3⟩:=hy.k2 hg
 obtain ⟨d0,d1,_⟩:=nY hp
 have hs:Af n [f.c,g.c]=min (f.c+g.c) n:=by
  rw [sum_two (Fz.2 ⟨d0,d1,⟨by omega,by omega⟩,by omega,by omega⟩)]
  unfold kB;rw [if_neg (by omega)]
 rw [Bt,hs]
 exact nJ (.cost _ rfl (by omega) (by omega))
theorem ext_f3 {m:Nat} {a:Option Addr} {cap:Nat} (hx:PIs w 3 m f x) (hy:PIs w 3 m g y) (hf:f.z=false) (hg:g.z=false) (hv:eS W a (u64s (lP m f.g f.rows g.g g.rows))) (hl:∀ ad,a=some ad→k≤ad.block):PNew k W 3 m (Dx (mD m f.g f.rows g.g g.rows) a cap (lP m f.g f.rows g.g g.rows)) (gF 3 m x y):=by
 obtain ⟨hx',h0⟩:=hx.k3 hf
 obtain ⟨hy',h1⟩:=hy.k3 hg
 rw [hx',hy',Bu]
 exact vG (.facts m _ _ rfl rfl (h0.extT h1)) (h0.extT h1).g64 (h0.extT h1).r64 hv hl
theorem ext_f4 {m:Nat} {a:Option Addr} {cap:Nat} (hx:PIs w 4 m f x) (hy:PIs w 4 m g y) (hf:f.z=false) (hg:g.z=false) (hv:eM W a (thenR m f.cells g.cells)) (hl:∀ ad,a=some ad→k≤ad.block):PNew k W 4 m (vF a cap (thenR m f.cells g.cells)) (gF 4 m x y):=by
 obtain ⟨hx',h0⟩:=hx.k4 hf
 obtain ⟨hy',h1⟩:=hy.k4 hg
 have e:thenR m f.cells g.cells=fR f.cells g.cells:=by unfold thenR;rw [if_pos (h0.chk2 h1)]
 have hv2:=Fx h0 h1
 rw [e] at hv ⊢
 rw [hx',hy',Bv]
 exact rB (.cells m _ rfl rfl hv2) hv2.bits (by have:=hv2.le;have:=hv2.len;unfold maxLen;omega) hv hl
theorem Kx (hx:PIs w 1 n f x) (hy:PIs w 1 n g y) (hf:f.z=false) (hg:g.z=false):PNew k W 1 n (yN 0) (dC 1 n x y):=by
 rw [hx.k1 hf,hy.k1 hg,pS];exact nJ (.bool rfl)
theorem comb_f2 (hp:bE 2 n 0=true) (hx:PIs w 2 n f x) (hy:PIs w 2 n g y) (hf:f.z=false) (hg:g.z=false):PNew k W 2 n (yN (mS n [f.c,g.c])) (dC 2 n x y):=by
 obtain ⟨rfl,h0,h1⟩:=hx.k2 hf
 obtain ⟨rfl,h2,h3⟩:=hy.k2 hg
 obtain ⟨d0,d1,_⟩:=nY hp
 have hs:mS n [f.c,g.c]=min f.c g.c:=by
  rw [Nm (Fz.2 ⟨d0,d1,⟨by omega,by omega⟩,by omega,by omega⟩)]
  unfold gP;rw [if_neg (by omega),if_neg (by omega)]
 rw [kX,hs]
 exact nJ (.cost _ rfl (by omega) (by omega))
theorem Ky {m:Nat} {a:Option Addr} {cap:Nat} (hx:PIs w 3 m f x) (hy:PIs w 3 m g y) (hf:f.z=false) (hg:g.z=false) (hv:eS W a (u64s (fN m f.g f.rows g.g g.rows))) (hl:∀ ad,a=some ad→k≤ad.block):PNew k W 3 m (Dx (fQ m f.g f.rows g.g g.rows) a cap (fN m f.g f.rows g.g g.rows)) (dC 3 m x y):=by
 obtain ⟨hx',h0⟩:=hx.k3 hf
 obtain ⟨hy',h1⟩:=hy.k3 hg
 rw [hx',hy',oE]
 exact vG (.facts m _ _ rfl rfl (h0.combT h1)) (h0.combT h1).g64 (h0.combT h1).r64 hv hl
theorem comb_f4 {m:Nat} {a:Option Addr} {cap:Nat} (hx:PIs w 4 m f x) (hy:PIs w 4 m g y) (hf:f.z=false) (hg:g.z=false) (hv:eM W a (rN m f.cells g.cells)) (hl:∀ ad,a=some ad→k≤ad.block):PNew k W 4 m (vF a cap (rN m f.cells g.cells)) (dC 4 m x y):=by
 obtain ⟨hx',h0⟩:=hx.k4 hf
 obtain ⟨hy',h1⟩:=hy.k4 hg
 have e:rN m f.cells g.cells=cV f.cells g.cells:=by unfold rN;rw [if_pos (h0.chk2 h1)]
 have hv2:=pR h0 h1
 rw [e] at hv ⊢
 rw [hx',hy',mR]
 exact rB (.cells m _ rfl rfl hv2) hv2.bits (by have:=hv2.le;have:=hv2.len;unfold maxLen;omega) hv hl
theorem one_f1 {t:Int} (hp:bE t n 0=true) (h3:t≠3) (h4:t≠4):PNew k W t n (yN 0) (jX t n):=by
 have h:=wR hp
 have e:jX t n=pC 0:=by unfold jX;rw [if_neg h3,if_neg h4]
 rw [e] at h ⊢
 exact nJ h
theorem one_f3 {m:Nat} {a:Option Addr} {cap:Nat} (hm:m≤64) (hv:eS W a (u64s (gJ m))) (hl:∀ ad,a=some ad→k≤ad.block):PNew k W 3 m (Dx 0 a cap (gJ m)) (jX 3 m):=by
 rw [Kh]
 exact vG (.facts m _ _ rfl rfl (kG hm)) (by decide) (kG hm).r64 hv hl
theorem one_f4 {m:Nat} {a:Option Addr} {cap:Nat} (hm:m≤64) (hv:eM W a (gY m)) (hl:∀ ad,a=some ad→k≤ad.block):PNew k W 4 m (vF a cap (gY m)) (jX 4 m):=by
 have h:=Fy hm
 rw [Ki]
 exact rB (.cells m _ rfl rfl h) h.bits (by have:=h.len;unfold maxLen;omega) hv hl
theorem F3 {t:Int} {l:Nat} (h:bE t n l=true) (ht:t=3∨t=4):∃ m:Nat,n=m∧m≤64:=by
 obtain ⟨d0,_,_,d3⟩:=nY h
 exact ⟨n.toNat,by omega,by have:=d3 ht;omega⟩
theorem Tabs.c {w:World} (h:Tabs w):TabC w:=⟨h.ctz⟩
end
def SIs (w:World):PS→SF→Prop
 | .one t n,f=>∃ a c,f=⟨t,n,a,0,c⟩
 | .two t n u m,f=>∃ b off c a1 c1 a2 c2,f=⟨5,0,some ⟨b,off,none⟩,2,c⟩∧S3 w b off ⟨t,n,a1,0,c1⟩∧S3 w b (off+3) ⟨u,m,a2,0,c2⟩
theorem SIs.below {w w':World} {S:PS} {f:SF} (h:SIs w S f) (hb:Below w.heap.size w w'):SIs w' S f:=by
 cases S with
 | one t n=>exact h
 | two t n u m =>
  obtain ⟨b,off,c,a1,c1,a2,c2,h1,h2,h3⟩:=h
  exact ⟨b,off,c,a1,c1,a2,c2,h1,h2.below hb,h3.below hb⟩
def dO (lo:Nat) (S:PS) (x:PX):Asr:=fun v w=>∃ f:WF,v=f.val∧gG lo w S f x
theorem eA {lo:Nat} {S:PS} {x:PX}:iJ (dO lo S x):=fun v w w' ⟨f,h1,h2⟩ hb=>⟨f,h1,h2.below hb⟩
theorem hZ {P:Program} {f:FuncId} {vs:Array Value} {w:World} {S:PS} {x:PX} {lo:Nat} (hlo:lo≤w.heap.size) (h:Calls P f vs w (jZ S x w)):Calls P f vs w (Ap (dO lo S x) w):=h.mono fun e w' ⟨f,he,hn,hb⟩=>⟨f.val,he,⟨f,rfl,hn.mono hlo⟩,hb⟩
theorem oI {p q:Asr} {vs:List Value} {w:World} (h:mW [p,q] vs w):∃ a b,vs=[a,b]∧p a w∧q b w:=by
 match vs,h with
 | [a,b],h=>exact ⟨a,b,rfl,h.1,h.2.1⟩
theorem sJ {w:World} {lo:Nat} {t n u m:Int} {a b:PF} {vs:List Value} (hlo:lo≤w.heap.size) (h:mW [dO lo (.one t n) (.one a),dO lo (.one u m) (.one b)] vs w):Calls Tryz.prog 136 vs.toArray w (Ap (dO lo (.two t n u m) (.two a b)) w):=by
 obtain ⟨v1,v2,rfl,⟨f,rfl,hf⟩,g,rfl,hg⟩:=oI h
 refine (Km f g w).mono ?_
 rintro e w' ⟨blk,rfl,h6,h7,hb1,hb⟩
 exact ⟨_,rfl,⟨tQ blk,rfl,yM h6 h7 (Nat.le_trans hlo hb1) (PNew.below hf hb) (PNew.below hg hb)⟩,hb⟩
theorem F4:bI Tryz.prog 130=true:=by kernel_rfl
theorem Q7:bI Tryz.prog 131=true:=by kernel_rfl
theorem Q8:bI Tryz.prog 132=true:=by kernel_rfl
theorem yO (p q:SV) (g:WF) (qs:List WV) {w:World} {e:Nat} (hw:WIn w (e+1) (.mk g qs)):g.z=true∨(g.z=false∧g.pl≠2)∨(∃ x y,g.z=false∧qs=[x,y]∧fD p.f.tag p.f.dim x.f=false)∨(∃ x y,g.z=false∧qs=[x,y]∧fD p.f.tag p.f.dim x.f=true):=by
 cases hz:g.z with
 | true=>exact .inl rfl
 | false =>
  refine .inr ?_
  by_cases h2:g.pl=2
  ·refine .inr ?_
   obtain ⟨x,y,rfl⟩:=rZ (hw.2.1.trans h2)
   cases h:fD p.f.tag p.f.dim x.f with
   | false=>exact .inl ⟨x,y,rfl,rfl,h⟩
   | true=>exact .inr ⟨x,y,rfl,rfl,h⟩
  ·exact .inl ⟨rfl,h2⟩
theorem lS (t n:Int) (a:Option Addr) (l c0:Nat) (f:WF) (hp:bE t n l=true) (hs:0≤f.rl) (w:World) (hf:f.At w) (r:Bool) (hr:fD t n f=r) :
  Calls Tryz.prog 103 #[.agg #[.int .i64 t,.int .i64 n,.slice a l c0],f.val] w (fun e w'=>e = .returned (.bool (r))∧Below w.heap.size w w'):=by
 refine cE (args:=[.agg #[.int .i64 t,.int .i64 n,.slice a l c0],f.val]) Tryz.func103 rfl Tryz.ntmps103 rfl ?_
 have hS:=St.start w
 have htg:=(fO hp).2
 have h5:t≠5:=by omega
 refine aN (aP (bW (cs:=[_,_,_]) hS rfl rfl rfl fun B1 W1 hS=>bW (cs:=[_,_,_,_,_,_]) hS rfl rfl rfl fun B2 W2 hS=>aC rfl rfl (aO (XF.thenN (aN (aN (aP (aS (vs:=[_,_,_]) Tryz.isAgg25 Tryz.sizeOf25 rfl (aB.own (j:=0) (m:=3) (hS.at_ 1 rfl) rfl) rfl (aS (vs:=[_,_,_,_,_,_]) Tryz.isAgg44 Tryz.sizeOf44 rfl (aB.own (j:=0) (m:=6) (hS.at_ 0 rfl) rfl) rfl (cB (vs:=[_,_]) hS F4 rfl (J7 t n a l c0 f _ rfl _) rfl fun W3 hS=>eX rfl rfl (aO (XF.thenN (bA rfl (fun hc=>?_) (fun hc=>?_))))))))))))))
 ·have hc8:=hc;clear hc
  refine aN (aP (aC rfl rfl (aO (XF.thenN (bT (XF.thenR (XF.res (cH Tryz.results103 rfl) ?_)))))))
  exact ⟨bF (by rw [← hr];unfold fD;rw [show iF t f=false by simpa using hc8];rfl),hS.below⟩
 ·have hc8:=hc;clear hc
  have hbb:iF t f=true:=by simpa using hc8
  refine bM (XF.thenN (aN (aN (aP (aM (o':=0) fJ rfl rfl rfl (aR Tryz.isAgg22 rfl (aK (hS.at_ 1 rfl) rfl) rfl (cN rfl rfl rfl (aO (XF.thenN (bA rfl (fun hc=>absurd (of_decide_eq_true hc) (by exact h5)) (fun hc=>?_)))))))))))
  have hc:=of_decide_eq_false hc
  refine bM (XF.thenN (aN (aN (aP (aM (o':=0) dI rfl rfl rfl (aR Tryz.isAgg4 rfl (aK (hS.at_ 0 rfl) rfl) rfl (aO (XF.thenN (bA rfl (fun hc=>?_) (fun hc=>?_))))))))))
  ·have hc44:=hc;clear hc
   refine aN (aP (aC rfl rfl (aO (XF.thenN (bT (XF.thenR (XF.res (cH Tryz.results103 rfl) ?_)))))))
   exact ⟨bF (by rw [← hr];unfold fD;rw [hbb,show f.z=true from hc44];rfl),hS.below⟩
  ·have hc44:=hc;clear hc
   have hz:f.z=false:=hc44
   refine bM (XF.thenN (aN (aN (aP (aM (o':=0) fJ rfl rfl rfl (aR Tryz.isAgg22 rfl (aK (hS.at_ 1 rfl) rfl) rfl (aO (XF.thenN (bX (aN (aP (cN rfl rfl rfl (aC rfl rfl (aO (XF.thenN (bA rfl (fun hc=>?_) (fun hc=>?_)))))))))))))))))
   ·have hc47:=of_decide_eq_true hc;clear hc
    refine aN (aP (aM (o':=1) eF rfl rfl rfl (aR Tryz.isAgg3 rfl (aK (hS.at_ 0 rfl) rfl) rfl (pE rfl rfl rfl (aI rfl rfl (bQ (d:=52) rfl (fun hc=>?_) (fun hc=>?_)))))))
    ·have hg52:=of_decide_eq_true hc;clear hc
     refine aF (d:=52) rfl rfl (aM (o':=1) eF rfl rfl rfl (aF (d:=52) rfl rfl (aR Tryz.isAgg3 rfl (aK (hS.at_ 0 rfl) rfl) rfl (aF (d:=52) rfl rfl (aM (o':=1) fK rfl rfl rfl (aF (d:=52) rfl rfl (aR Tryz.isAgg3 rfl (aK (hS.at_ 1 rfl) rfl) rfl (aF (d:=52) rfl rfl (uS rfl rfl rfl (bD rfl rfl rfl (aC rfl rfl (aO (XF.thenN (bT (XF.blkR (XF.thenR (XF.res (cH Tryz.results103 rfl) ?_)))))))))))))))))
     exact ⟨bF (by rw [← hr];unfold fD;rw [hbb,hz,if_pos hc47];simp [show (0:Int)≤f.c from hg52]),hS.below⟩
    ·have hg52:=of_decide_eq_false hc;clear hc
     refine aG (d:=52) rfl rfl rfl rfl (aG (d:=52) rfl rfl rfl rfl (aG (d:=52) rfl rfl rfl rfl (aG (d:=52) rfl rfl rfl rfl (aG (d:=52) rfl rfl rfl rfl (bU rfl rfl rfl (aC rfl rfl (aO (XF.thenN (bT (XF.blkR (XF.thenR (XF.res (cH Tryz.results103 rfl) ?_))))))))))))
     exact ⟨bF (by rw [← hr];unfold fD;rw [hbb,hz,if_pos hc47];simp [show ¬ (0:Int)≤f.c from hg52]),hS.below⟩
   ·have hc47:=of_decide_eq_false hc;clear hc
    refine aN (aP (cN rfl rfl rfl (aC rfl rfl (aO (XF.thenN (bA rfl (fun hc=>?_) (fun hc=>?_)))))))
    ·have hc59:=of_decide_eq_true hc;clear hc
     refine aN (aP (aM (o':=1) fK rfl rfl rfl (aR Tryz.isAgg3 rfl (aK (hS.at_ 1 rfl) rfl) rfl (aM (o':=2) eG rfl rfl rfl (aS (vs:=[_,_]) Tryz.isAgg40 Tryz.sizeOf40 rfl (aB.own (j:=2) (m:=2) (hS.at_ 0 rfl) rfl) rfl (cB (vs:=[_,_]) hS Q7 rfl (H8 n f.ra f.rc f.g f.rows _ (hf.below hS.below) _ rfl f.rl hf.rl) rfl fun W4 hS=>cN rfl rfl rfl (aC rfl rfl (aO (XF.thenN (bT (XF.blkR (XF.thenR (XF.res (cH Tryz.results103 rfl) ?_)))))))))))))
     exact ⟨bF (by rw [← hr];unfold fD;rw [hbb,hz,if_neg hc47,if_pos hc59];rfl),hS.below⟩
    ·have hc59:=of_decide_eq_false hc;clear hc
     refine aN (aP (cN rfl rfl rfl (aC rfl rfl (aO (XF.thenN (bA rfl (fun hc=>?_) (fun hc=>?_)))))))
     ·have hc67:=of_decide_eq_true hc;clear hc
      refine aN (aP (aM (o':=1) fK rfl rfl rfl (aR Tryz.isAgg3 rfl (aK (hS.at_ 1 rfl) rfl) rfl (aM (o':=4) cY rfl rfl rfl (aR Tryz.isAgg41 rfl (aK (hS.at_ 0 rfl) rfl) rfl ?_)))))
      refine cB (vs:=[_,_]) hS Q8 rfl (tE n f.ca f.cl f.cc f.cells _ _ hf.cl (by rw [hf.cl];exact hf.cmax) (hf.cells.below hS.below) hf.bits rfl) rfl fun W5 hS=>?_
      refine cN rfl rfl rfl (aC rfl rfl (aO (XF.thenN (bT (XF.blkR (XF.thenR (XF.res (cH Tryz.results103 rfl) ?_)))))))
      exact ⟨bF (by rw [← hr];unfold fD;rw [hbb,hz,if_neg hc47,if_neg hc59,if_pos hc67];rfl),hS.below⟩
     ·have hc67:=of_decide_eq_false hc;clear hc
      refine bM (XF.blkN (XF.thenN (aN (aP (aC rfl rfl (aO (XF.thenN (bT (XF.res (cH Tryz.results103 rfl) ?_)))))))))
      exact ⟨bF (by rw [← hr];unfold fD;rw [hbb,hz,if_neg hc47,if_neg hc59,if_neg hc67];rfl),hS.below⟩
theorem Bx (d:Nat) (sa:Option Addr) (sc:Nat) (p q:SV) (g:WF) (qs:List WV) (w:World) (hsp:SIn w (d+1) (.mk ⟨5,0,sa,2,sc⟩ [p,q])) (hp:p.pl=true) (hq:q.pl=true) (e:Nat) (hw:WIn w (e+1) (.mk g qs)) (hs:∀ x∈qs,0≤x.f.rl) (r:Bool) (hr:gO p q g qs=r) :
  Calls Tryz.prog 103 #[.agg #[.int .i64 5,.int .i64 0,.slice sa 2 sc],g.val] w (fun e w'=>e = .returned (.bool (r))∧Below w.heap.size w w'):=by
 refine cE (args:=[.agg #[.int .i64 5,.int .i64 0,.slice sa 2 sc],g.val]) Tryz.func103 rfl Tryz.ntmps103 rfl ?_
 have hS:=St.start w
 obtain ⟨_,b,off,ha,hb0,hp3,hq3,_,_⟩:=hsp.two
 obtain rfl:sa=some ⟨b,off,none⟩:=ha
 refine aN (aP (bW (cs:=[_,_,_]) hS rfl rfl rfl fun B1 W1 hS=>bW (cs:=[_,_,_,_,_,_]) hS rfl rfl rfl fun B2 W2 hS=>aC rfl rfl (aO (XF.thenN (aN (aN (aP (aS (vs:=[_,_,_]) Tryz.isAgg25 Tryz.sizeOf25 rfl (aB.own (j:=0) (m:=3) (hS.at_ 1 rfl) rfl) rfl (aS (vs:=[_,_,_,_,_,_]) Tryz.isAgg44 Tryz.sizeOf44 rfl (aB.own (j:=0) (m:=6) (hS.at_ 0 rfl) rfl) rfl (cB (vs:=[_,_]) hS F4 rfl (J7 5 0 _ 2 sc g _ rfl _) rfl fun W3 hS=>eX rfl rfl (aO (XF.thenN (bA rfl (fun hc=>?_) (fun hc=>?_))))))))))))))
 ·have hc8:=hc;clear hc
  refine aN (aP (aC rfl rfl (aO (XF.thenN (bT (XF.thenR (XF.res (cH Tryz.results103 rfl) ?_)))))))
  exact ⟨bF (by rw [← hr];unfold gO;rw [show iF 5 g=false by simpa using hc8];rfl),hS.below⟩
 ·have hc8:=hc;clear hc
  have hbb:iF 5 g=true:=by simpa using hc8
  refine bM (XF.thenN (aN (aN (aP (aM (o':=0) fJ rfl rfl rfl (aR Tryz.isAgg22 rfl (aK (hS.at_ 1 rfl) rfl) rfl (cN rfl rfl rfl (aO (XF.thenN (bA rfl (fun hc=>?_) (fun hc=>absurd (of_decide_eq_false hc) (by decide))))))))))))
  have hc:=of_decide_eq_true hc
  refine aN ?_
  rcases yO p q g qs hw with h1 | h1 | h1 | h1
  ·skip
   refine lB (m:=32) cD hS (by kernel_rfl) (by kernel_rfl) rfl (cW 1 rfl 3 rfl (by kernel_rfl) rfl (fun w hw=>aV (o':=0) dI rfl rfl) rfl (bP 2 rfl 12 0 rfl (by kernel_rfl) rfl rfl (fun w hw=>bB Tryz.isAgg4 rfl ((aL hw 0).cell (Nat.zero_le _) (aK (hS.at_ 0 rfl) rfl))) rfl ?_))
   refine aJ 3 rfl (isV (.bool false)) (aD _) (oT (li:=[(13,_)]) rfl (aT rfl) ⟨aQ 1 (by kernel_rfl) (aA rfl rfl rfl),trivial⟩ (fun w hw=>jE rfl) (by rw [h1];rfl) (aE rfl)) ?_
   refine bP 4 rfl 14 2 rfl (by kernel_rfl) rfl rfl (fun w hw=>aZ rfl) rfl (aJ 5 rfl (isV undef) (aD _) (bH rfl (cI 15 rfl (by kernel_rfl) (by kernel_rfl) (aA rfl rfl rfl) rfl) (aE rfl)) (aJ 6 rfl (isV undef) (aD _) (bH rfl (cI 15 rfl (by kernel_rfl) (by kernel_rfl) (aA rfl rfl rfl) rfl) (aE rfl)) (aJ 7 rfl (isV undef) (aD _) (bH rfl (cI 15 rfl (by kernel_rfl) (by kernel_rfl) (aA rfl rfl rfl) rfl) (aE rfl)) (aJ 8 rfl (isV undef) (aD _) (bH rfl (cI 15 rfl (by kernel_rfl) (by kernel_rfl) (aA rfl rfl rfl) rfl) (aE rfl)) (bP 9 rfl 15 3 rfl (by kernel_rfl) rfl rfl (fun w hw=>eV rfl rfl) rfl (bP 10 rfl 20 8 rfl (by kernel_rfl) rfl rfl (fun w hw=>aZ rfl) rfl (aJ 11 rfl (isV undef) (aD _) (bH rfl (cI 21 rfl (by kernel_rfl) (by kernel_rfl) (aA rfl rfl rfl) rfl) (aE rfl)) (aJ 12 rfl (isV undef) (aD _) (bH rfl (cI 21 rfl (by kernel_rfl) (by kernel_rfl) (aA rfl rfl rfl) rfl) (aE rfl)) (aJ 13 rfl (isV undef) (aD _) (bH rfl (cI 21 rfl (by kernel_rfl) (by kernel_rfl) (aA rfl rfl rfl) rfl) (aE rfl)) (aJ 14 rfl (isV undef) (aD _) (bH rfl (cI 21 rfl (by kernel_rfl) (by kernel_rfl) (aA rfl rfl rfl) rfl) (aE rfl)) (aJ 15 rfl (isV undef) (aD _) (bH rfl (cI 21 rfl (by kernel_rfl) (by kernel_rfl) (aA rfl rfl rfl) rfl) (aE rfl)) (aJ 16 rfl (isV undef) (aD _) (bH rfl (cI 21 rfl (by kernel_rfl) (by kernel_rfl) (aA rfl rfl rfl) rfl) (aE rfl)) (aJ 17 rfl (isV undef) (aD _) (bH rfl (cI 21 rfl (by kernel_rfl) (by kernel_rfl) (aA rfl rfl rfl) rfl) (aE rfl)) (aJ 18 rfl (isV undef) (aD _) (bH rfl (cI 21 rfl (by kernel_rfl) (by kernel_rfl) (aA rfl rfl rfl) rfl) (aE rfl)) (aJ 19 rfl (isV undef) (aD _) (bH rfl (cI 21 rfl (by kernel_rfl) (by kernel_rfl) (aA rfl rfl rfl) rfl) (aE rfl)) (bP 20 rfl 21 9 rfl (by kernel_rfl) rfl rfl (fun w hw=>eV rfl rfl) rfl (bP 21 rfl 31 19 rfl (by kernel_rfl) rfl rfl (fun w hw=>aZ rfl) rfl (aJ 22 rfl (isV undef) (aD _) (bH rfl (cI 32 rfl (by kernel_rfl) (by kernel_rfl) (aA rfl rfl rfl) rfl) (aE rfl)) (aJ 23 rfl (isV undef) (aD _) (bH rfl (cI 32 rfl (by kernel_rfl) (by kernel_rfl) (aA rfl rfl rfl) rfl) (aE rfl)) (aJ 24 rfl (isV undef) (aD _) (bH rfl (cI 32 rfl (by kernel_rfl) (by kernel_rfl) (aA rfl rfl rfl) rfl) (aE rfl)) ?_))))))))))))))))))))
   refine aJ 25 rfl (isV undef) (aD _) (bH rfl (cI 32 rfl (by kernel_rfl) (by kernel_rfl) (aA rfl rfl rfl) rfl) (aE rfl)) (aJ 26 rfl (isV undef) (aD _) (bH rfl (cI 32 rfl (by kernel_rfl) (by kernel_rfl) (aA rfl rfl rfl) rfl) (aE rfl)) (aJ 27 rfl (isV undef) (aD _) (bH rfl (cI 32 rfl (by kernel_rfl) (by kernel_rfl) (aA rfl rfl rfl) rfl) (aE rfl)) (aJ 28 rfl (isV undef) (aD _) (bH rfl (cI 32 rfl (by kernel_rfl) (by kernel_rfl) (aA rfl rfl rfl) rfl) (aE rfl)) (aJ 29 rfl (isV undef) (aD _) (bH rfl (cI 32 rfl (by kernel_rfl) (by kernel_rfl) (aA rfl rfl rfl) rfl) (aE rfl)) (aJ 30 rfl (isV undef) (aD _) (bH rfl (cI 32 rfl (by kernel_rfl) (by kernel_rfl) (aA rfl rfl rfl) rfl) (aE rfl)) (bP 31 rfl 32 20 rfl (by kernel_rfl) rfl rfl (fun w hw=>eV rfl rfl) rfl (bP 32 rfl 42 30 rfl (by kernel_rfl) rfl rfl (fun w hw=>iD rfl) rfl (dV ?_))))))))
   intro W4 hbR hS'
   clear hS;have hS:=hS';clear hS'
   refine aH (aH (aH (aH (aH (aH (aH (aH (aH (aH (aH (aH (aH (aH (aH (aH (aH (aH (aH (aH (aH ?_))))))))))))))))))))
   refine aH (aH (aH (aH (aH (aH (aH (aH (aH (aH (aH (cQ (XF.thenN (bT (XF.thenR (XF.res (cH Tryz.results103 rfl) ?_)))))))))))))))
   exact ⟨bF (by rw [← hr];unfold gO;rw [hbb,h1];rfl),hS.below⟩
  ·obtain ⟨hz,h2⟩:=h1
   refine lB (m:=32) cD hS (by kernel_rfl) (by kernel_rfl) rfl (cW 1 rfl 3 rfl (by kernel_rfl) rfl (fun w hw=>aV (o':=0) dI rfl rfl) rfl (bP 2 rfl 12 0 rfl (by kernel_rfl) rfl rfl (fun w hw=>bB Tryz.isAgg4 rfl ((aL hw 0).cell (Nat.zero_le _) (aK (hS.at_ 0 rfl) rfl))) rfl ?_))
   refine aJ 3 rfl (isV (.bool true)) (aD _) (oT (li:=[(13,_)]) rfl (aT rfl) ⟨aQ 1 (by kernel_rfl) (aA rfl rfl rfl),trivial⟩ (fun w hw=>jE rfl) (by rw [hz];rfl) (aE rfl)) ?_
   refine bP 4 rfl 14 2 rfl (by kernel_rfl) rfl rfl (fun w hw=>aZ rfl) rfl (aJ 5 rfl (isV _) (aD _) (rgV (li:=[(3,_)]) rfl (cC 15 rfl (by kernel_rfl) (by kernel_rfl) (aA rfl rfl rfl)) ⟨dK (by kernel_rfl) rfl,trivial⟩ (fun w hw=>aV (o':=5) cK rfl rfl) (aE rfl)) (aJ 6 rfl (isV _) (aD _) (rgV (li:=[(16,_)]) rfl (cC 15 rfl (by kernel_rfl) (by kernel_rfl) (aA rfl rfl rfl)) ⟨aQ 4 (by kernel_rfl) (aA rfl rfl rfl),trivial⟩ (fun w hw=>bB Tryz.isAgg42 rfl ((aL hw 0).cell (Nat.zero_le _) (aK (hS.at_ 0 rfl) rfl))) (aE rfl)) (aJ 7 rfl (isV _) (aD _) (rgV (li:=[(17,_)]) rfl (cC 15 rfl (by kernel_rfl) (by kernel_rfl) (aA rfl rfl rfl)) ⟨aQ 5 (by kernel_rfl) (aA rfl rfl rfl),trivial⟩ (fun w hw=>rV Tryz.underlying42 rfl) (aE rfl)) (aJ 8 rfl (isV (.bool false)) (aD _) (oT (li:=[(18,_)]) rfl (cC 15 rfl (by kernel_rfl) (by kernel_rfl) (aA rfl rfl rfl)) ⟨aQ 6 (by kernel_rfl) (aA rfl rfl rfl),trivial⟩ (fun w hw=>rW rfl rfl) (by rw [decide_eq_false (by omega)]) (aE rfl)) (aJ 9 rfl (isV _) (aD _) (rgV (li:=[(15,_),(19,_)]) rfl (aT rfl) ⟨aQ 3 (by kernel_rfl) (aA rfl rfl rfl),aQ 7 (by kernel_rfl) (aA rfl rfl rfl),trivial⟩ (fun w hw=>eU rfl rfl) (aE rfl)) (bP 10 rfl 20 8 rfl (by kernel_rfl) rfl rfl (fun w hw=>aZ rfl) rfl (aJ 11 rfl (isV undef) (aD _) (bH rfl (cI 21 rfl (by kernel_rfl) (by kernel_rfl) (aA rfl rfl rfl) rfl) (aE rfl)) (aJ 12 rfl (isV undef) (aD _) (bH rfl (cI 21 rfl (by kernel_rfl) (by kernel_rfl) (aA rfl rfl rfl) rfl) (aE rfl)) (aJ 13 rfl (isV undef) (aD _) (bH rfl (cI 21 rfl (by kernel_rfl) (by kernel_rfl) (aA rfl rfl rfl) rfl) (aE rfl)) (aJ 14 rfl (isV undef) (aD _) (bH rfl (cI 21 rfl (by kernel_rfl) (by kernel_rfl) (aA rfl rfl rfl) rfl) (aE rfl)) (aJ 15 rfl (isV undef) (aD _) (bH rfl (cI 21 rfl (by kernel_rfl) (by kernel_rfl) (aA rfl rfl rfl) rfl) (aE rfl)) (aJ 16 rfl (isV undef) (aD _) (bH rfl (cI 21 rfl (by kernel_rfl) (by kernel_rfl) (aA rfl rfl rfl) rfl) (aE rfl)) (aJ 17 rfl (isV undef) (aD _) (bH rfl (cI 21 rfl (by kernel_rfl) (by kernel_rfl) (aA rfl rfl rfl) rfl) (aE rfl)) (aJ 18 rfl (isV undef) (aD _) (bH rfl (cI 21 rfl (by kernel_rfl) (by kernel_rfl) (aA rfl rfl rfl) rfl) (aE rfl)) (aJ 19 rfl (isV undef) (aD _) (bH rfl (cI 21 rfl (by kernel_rfl) (by kernel_rfl) (aA rfl rfl rfl) rfl) (aE rfl)) (bP 20 rfl 21 9 rfl (by kernel_rfl) rfl rfl (fun w hw=>eV rfl rfl) rfl (bP 21 rfl 31 19 rfl (by kernel_rfl) rfl rfl (fun w hw=>aZ rfl) rfl (aJ 22 rfl (isV undef) (aD _) (bH rfl (cI 32 rfl (by kernel_rfl) (by kernel_rfl) (aA rfl rfl rfl) rfl) (aE rfl)) (aJ 23 rfl (isV undef) (aD _) (bH rfl (cI 32 rfl (by kernel_rfl) (by kernel_rfl) (aA rfl rfl rfl) rfl) (aE rfl)) (aJ 24 rfl (isV undef) (aD _) (bH rfl (cI 32 rfl (by kernel_rfl) (by kernel_rfl) (aA rfl rfl rfl) rfl) (aE rfl)) ?_))))))))))))))))))))
   refine aJ 25 rfl (isV undef) (aD _) (bH rfl (cI 32 rfl (by kernel_rfl) (by kernel_rfl) (aA rfl rfl rfl) rfl) (aE rfl)) (aJ 26 rfl (isV undef) (aD _) (bH rfl (cI 32 rfl (by kernel_rfl) (by kernel_rfl) (aA rfl rfl rfl) rfl) (aE rfl)) (aJ 27 rfl (isV undef) (aD _) (bH rfl (cI 32 rfl (by kernel_rfl) (by kernel_rfl) (aA rfl rfl rfl) rfl) (aE rfl)) (aJ 28 rfl (isV undef) (aD _) (bH rfl (cI 32 rfl (by kernel_rfl) (by kernel_rfl) (aA rfl rfl rfl) rfl) (aE rfl)) (aJ 29 rfl (isV undef) (aD _) (bH rfl (cI 32 rfl (by kernel_rfl) (by kernel_rfl) (aA rfl rfl rfl) rfl) (aE rfl)) (aJ 30 rfl (isV undef) (aD _) (bH rfl (cI 32 rfl (by kernel_rfl) (by kernel_rfl) (aA rfl rfl rfl) rfl) (aE rfl)) (bP 31 rfl 32 20 rfl (by kernel_rfl) rfl rfl (fun w hw=>eV rfl rfl) rfl (bP 32 rfl 42 30 rfl (by kernel_rfl) rfl rfl (fun w hw=>iD rfl) rfl (dV ?_))))))))
   intro W5 hbR hS'
   clear hS;have hS:=hS';clear hS'
   refine aH (aH (aH (aH (aH (aH (aH (aH (aH (aH (aH (aH (aH (aH (aH (aH (aH (aH (aH (aH (aH ?_))))))))))))))))))))
   refine aH (aH (aH (aH (aH (aH (aH (aH (aH (aH (aH (cQ (XF.thenN (bT (XF.thenR (XF.res (cH Tryz.results103 rfl) ?_)))))))))))))))
   exact ⟨bF (by rw [← hr];unfold gO;rw [hbb,hz,show decide (qs.length=2)=false from decide_eq_false (by have h9:qs.length=g.pl:=hw.2.1;omega)];rfl),hS.below⟩
  ·obtain ⟨x,y,hz,rfl,hx1⟩:=h1
   obtain ⟨hpl,b2,off2,hpa,hb2,hx6,hy6,hxi,hyi⟩:=hw.two
   obtain ⟨gz,gc,gg,gra,grl,grc,grows,gca,gcl,gcc,gcells,gpa,gpl,gpc⟩:=g
   dsimp only at hpl hpa hz
   subst hpl;subst hpa
   refine lB (m:=32) cD hS (by kernel_rfl) (by kernel_rfl) rfl (cW 1 rfl 3 rfl (by kernel_rfl) rfl (fun w hw=>aV (o':=0) dI rfl rfl) rfl (bP 2 rfl 12 0 rfl (by kernel_rfl) rfl rfl (fun w hw=>bB Tryz.isAgg4 rfl ((aL hw 0).cell (Nat.zero_le _) (aK (hS.at_ 0 rfl) rfl))) rfl ?_))
   refine aJ 3 rfl (isV (.bool true)) (aD _) (oT (li:=[(13,_)]) rfl (aT rfl) ⟨aQ 1 (by kernel_rfl) (aA rfl rfl rfl),trivial⟩ (fun w hw=>jE rfl) (by rw [hz];rfl) (aE rfl)) ?_
   refine bP 4 rfl 14 2 rfl (by kernel_rfl) rfl rfl (fun w hw=>aZ rfl) rfl (aJ 5 rfl (isV _) (aD _) (rgV (li:=[(3,_)]) rfl (cC 15 rfl (by kernel_rfl) (by kernel_rfl) (aA rfl rfl rfl)) ⟨dK (by kernel_rfl) rfl,trivial⟩ (fun w hw=>aV (o':=5) cK rfl rfl) (aE rfl)) (aJ 6 rfl (isV _) (aD _) (rgV (li:=[(16,_)]) rfl (cC 15 rfl (by kernel_rfl) (by kernel_rfl) (aA rfl rfl rfl)) ⟨aQ 4 (by kernel_rfl) (aA rfl rfl rfl),trivial⟩ (fun w hw=>bB Tryz.isAgg42 rfl ((aL hw 0).cell (Nat.zero_le _) (aK (hS.at_ 0 rfl) rfl))) (aE rfl)) (aJ 7 rfl (isV _) (aD _) (rgV (li:=[(17,_)]) rfl (cC 15 rfl (by kernel_rfl) (by kernel_rfl) (aA rfl rfl rfl)) ⟨aQ 5 (by kernel_rfl) (aA rfl rfl rfl),trivial⟩ (fun w hw=>rV Tryz.underlying42 rfl) (aE rfl)) (aJ 8 rfl (isV (.bool true)) (aD _) (oT (li:=[(18,_)]) rfl (cC 15 rfl (by kernel_rfl) (by kernel_rfl) (aA rfl rfl rfl)) ⟨aQ 6 (by kernel_rfl) (aA rfl rfl rfl),trivial⟩ (fun w hw=>rW rfl rfl) (rfl) (aE rfl)) (aJ 9 rfl (isV _) (aD _) (rgV (li:=[(15,_),(19,_)]) rfl (aT rfl) ⟨aQ 3 (by kernel_rfl) (aA rfl rfl rfl),aQ 7 (by kernel_rfl) (aA rfl rfl rfl),trivial⟩ (fun w hw=>eU rfl rfl) (aE rfl)) (bP 10 rfl 20 8 rfl (by kernel_rfl) rfl rfl (fun w hw=>aZ rfl) rfl (aJ 11 rfl (isV _) (aD _) (rgV (li:=[(2,_)]) rfl (cC 21 rfl (by kernel_rfl) (by kernel_rfl) (aA rfl rfl rfl)) ⟨dK (by kernel_rfl) rfl,trivial⟩ (fun w hw=>aV (o':=2) fT rfl rfl) (aE rfl)) (aJ 12 rfl (isV _) (aD _) (rgV (li:=[(22,_)]) rfl (cC 21 rfl (by kernel_rfl) (by kernel_rfl) (aA rfl rfl rfl)) ⟨aQ 10 (by kernel_rfl) (aA rfl rfl rfl),trivial⟩ (fun w hw=>bB Tryz.isAgg23 rfl ((aL hw 0).cell (Nat.zero_le _) (aK (hS.at_ 1 rfl) rfl))) (aE rfl)) ?_))))))))
   refine aJ 13 rfl (isV _) (aD _) (rgV (li:=[(23,_)]) rfl (cC 21 rfl (by kernel_rfl) (by kernel_rfl) (aA rfl rfl rfl)) ⟨aQ 11 (by kernel_rfl) (aA rfl rfl rfl),trivial⟩ (fun w hw=>bC (j:=0) Tryz.underlying23 Tryz.sizeOf25 rfl rfl rfl (by show _ < 2;decide) (Nat.add_zero _)) (aE rfl)) ?_
   refine aJ 14 rfl (isV _) (aD _) (rgV (li:=[(24,_)]) rfl (cC 21 rfl (by kernel_rfl) (by kernel_rfl) (aA rfl rfl rfl)) ⟨aQ 12 (by kernel_rfl) (aA rfl rfl rfl),trivial⟩ (fun w hw=>aW (vs:=[_,_,_]) Tryz.isAgg25 Tryz.sizeOf25 rfl (aB.agree (aL hw 0) (Nat.zero_le _) (aB.agree hS.agree (Nat.zero_le _) hp3.cells))) (aE rfl)) (aJ 15 rfl (isV _) (aD _) (rgV (li:=[(3,_)]) rfl (cC 21 rfl (by kernel_rfl) (by kernel_rfl) (aA rfl rfl rfl)) ⟨dK (by kernel_rfl) rfl,trivial⟩ (fun w hw=>aV (o':=5) cK rfl rfl) (aE rfl)) (aJ 16 rfl (isV _) (aD _) (rgV (li:=[(26,_)]) rfl (cC 21 rfl (by kernel_rfl) (by kernel_rfl) (aA rfl rfl rfl)) ⟨aQ 14 (by kernel_rfl) (aA rfl rfl rfl),trivial⟩ (fun w hw=>bB Tryz.isAgg42 rfl ((aL hw 0).cell (Nat.zero_le _) (aK (hS.at_ 0 rfl) rfl))) (aE rfl)) ?_))
   refine aJ 17 rfl (isV _) (aD _) (rgV (li:=[(27,_)]) rfl (cC 21 rfl (by kernel_rfl) (by kernel_rfl) (aA rfl rfl rfl)) ⟨aQ 15 (by kernel_rfl) (aA rfl rfl rfl),trivial⟩ (fun w hw=>bC (j:=0) Tryz.underlying42 Tryz.sizeOf44 rfl rfl rfl (by show _ < 2;decide) (Nat.add_zero _)) (aE rfl)) ?_
   refine aJ 18 rfl (isV _) (aD _) (rgV (li:=[(28,_)]) rfl (cC 21 rfl (by kernel_rfl) (by kernel_rfl) (aA rfl rfl rfl)) ⟨aQ 16 (by kernel_rfl) (aA rfl rfl rfl),trivial⟩ (fun w hw=>aW (vs:=[_,_,_,_,_,_]) Tryz.isAgg44 Tryz.sizeOf44 rfl (aB.agree (aL hw 0) (Nat.zero_le _) (aB.agree hS.agree (Nat.zero_le _) hx6.cells))) (aE rfl)) ?_
   refine aJ 19 rfl (isV (.bool false)) (aD _) (cS [isV _,isV _] rfl pI (cC 21 rfl (by kernel_rfl) (by kernel_rfl) (aA rfl rfl rfl)) ⟨bZ (aQ 13 (by kernel_rfl) (aA rfl rfl rfl)),bZ (aQ 17 (by kernel_rfl) (aA rfl rfl rfl)),trivial⟩ (fun vs w' hb hh=>by have e:=cA (us:=[_,_]) hh;subst e;exact (lS p.f.tag p.f.dim p.f.a p.f.len p.f.cap x.f hp (Nat.zero_le _) _ (hxi.at_.below (hS.below.trans (hb.mono hS.below.size))) _ hx1).mono fun e w2 h=>⟨_,h.1,rfl,h.2⟩) (aE rfl)) ?_
   refine aJ 20 rfl (isV _) (aD _) (rgV (li:=[(21,_),(30,_)]) rfl (aT rfl) ⟨aQ 9 (by kernel_rfl) (aA rfl rfl rfl),aQ 18 (by kernel_rfl) (aA rfl rfl rfl),trivial⟩ (fun w hw=>eU rfl rfl) (aE rfl)) (bP 21 rfl 31 19 rfl (by kernel_rfl) rfl rfl (fun w hw=>aZ rfl) rfl (aJ 22 rfl (isV undef) (aD _) (bH rfl (cI 32 rfl (by kernel_rfl) (by kernel_rfl) (aA rfl rfl rfl) rfl) (aE rfl)) (aJ 23 rfl (isV undef) (aD _) (bH rfl (cI 32 rfl (by kernel_rfl) (by kernel_rfl) (aA rfl rfl rfl) rfl) (aE rfl)) (aJ 24 rfl (isV undef) (aD _) (bH rfl (cI 32 rfl (by kernel_rfl) (by kernel_rfl) (aA rfl rfl rfl) rfl) (aE rfl)) (aJ 25 rfl (isV undef) (aD _) (bH rfl (cI 32 rfl (by kernel_rfl) (by kernel_rfl) (aA rfl rfl rfl) rfl) (aE rfl)) (aJ 26 rfl (isV undef) (aD _) (bH rfl (cI 32 rfl (by kernel_rfl) (by kernel_rfl) (aA rfl rfl rfl) rfl) (aE rfl)) (aJ 27 rfl (isV undef) (aD _) (bH rfl (cI 32 rfl (by kernel_rfl) (by kernel_rfl) (aA rfl rfl rfl) rfl) (aE rfl)) (aJ 28 rfl (isV undef) (aD _) (bH rfl (cI 32 rfl (by kernel_rfl) (by kernel_rfl) (aA rfl rfl rfl) rfl) (aE rfl)) (aJ 29 rfl (isV undef) (aD _) (bH rfl (cI 32 rfl (by kernel_rfl) (by kernel_rfl) (aA rfl rfl rfl) rfl) (aE rfl)) (aJ 30 rfl (isV undef) (aD _) (bH rfl (cI 32 rfl (by kernel_rfl) (by kernel_rfl) (aA rfl rfl rfl) rfl) (aE rfl)) (bP 31 rfl 32 20 rfl (by kernel_rfl) rfl rfl (fun w hw=>eV rfl rfl) rfl (bP 32 rfl 42 30 rfl (by kernel_rfl) rfl rfl (fun w hw=>iD rfl) rfl (dV ?_)))))))))))))
   intro W6 hbR hS'
   clear hS;have hS:=hS';clear hS'
   refine aH (aH (aH (aH (aH (aH (aH (aH (aH (aH (aH (aH (aH (aH (aH (aH (aH (aH (aH (aH (aH ?_))))))))))))))))))))
   refine aH (aH (aH (aH (aH (aH (aH (aH (aH (aH (aH (cQ (XF.thenN (bT (XF.thenR (XF.res (cH Tryz.results103 rfl) ?_)))))))))))))))
   exact ⟨bF (by rw [← hr];unfold gO;rw [hbb];show _=(true && (!gz && (true && (fD p.f.tag p.f.dim x.f && fD q.f.tag q.f.dim y.f))));rw [hz,hx1];rfl),hS.below⟩
  ·obtain ⟨x,y,hz,rfl,hx1⟩:=h1
   obtain ⟨hpl,b2,off2,hpa,hb2,hx6,hy6,hxi,hyi⟩:=hw.two
   obtain ⟨gz,gc,gg,gra,grl,grc,grows,gca,gcl,gcc,gcells,gpa,gpl,gpc⟩:=g
   dsimp only at hpl hpa hz
   subst hpl;subst hpa
   refine lB (m:=32) cD hS (by kernel_rfl) (by kernel_rfl) rfl (cW 1 rfl 3 rfl (by kernel_rfl) rfl (fun w hw=>aV (o':=0) dI rfl rfl) rfl (bP 2 rfl 12 0 rfl (by kernel_rfl) rfl rfl (fun w hw=>bB Tryz.isAgg4 rfl ((aL hw 0).cell (Nat.zero_le _) (aK (hS.at_ 0 rfl) rfl))) rfl ?_))
   refine aJ 3 rfl (isV (.bool true)) (aD _) (oT (li:=[(13,_)]) rfl (aT rfl) ⟨aQ 1 (by kernel_rfl) (aA rfl rfl rfl),trivial⟩ (fun w hw=>jE rfl) (by rw [hz];rfl) (aE rfl)) ?_
   refine bP 4 rfl 14 2 rfl (by kernel_rfl) rfl rfl (fun w hw=>aZ rfl) rfl (aJ 5 rfl (isV _) (aD _) (rgV (li:=[(3,_)]) rfl (cC 15 rfl (by kernel_rfl) (by kernel_rfl) (aA rfl rfl rfl)) ⟨dK (by kernel_rfl) rfl,trivial⟩ (fun w hw=>aV (o':=5) cK rfl rfl) (aE rfl)) (aJ 6 rfl (isV _) (aD _) (rgV (li:=[(16,_)]) rfl (cC 15 rfl (by kernel_rfl) (by kernel_rfl) (aA rfl rfl rfl)) ⟨aQ 4 (by kernel_rfl) (aA rfl rfl rfl),trivial⟩ (fun w hw=>bB Tryz.isAgg42 rfl ((aL hw 0).cell (Nat.zero_le _) (aK (hS.at_ 0 rfl) rfl))) (aE rfl)) (aJ 7 rfl (isV _) (aD _) (rgV (li:=[(17,_)]) rfl (cC 15 rfl (by kernel_rfl) (by kernel_rfl) (aA rfl rfl rfl)) ⟨aQ 5 (by kernel_rfl) (aA rfl rfl rfl),trivial⟩ (fun w hw=>rV Tryz.underlying42 rfl) (aE rfl)) (aJ 8 rfl (isV (.bool true)) (aD _) (oT (li:=[(18,_)]) rfl (cC 15 rfl (by kernel_rfl) (by kernel_rfl) (aA rfl rfl rfl)) ⟨aQ 6 (by kernel_rfl) (aA rfl rfl rfl),trivial⟩ (fun w hw=>rW rfl rfl) (rfl) (aE rfl)) (aJ 9 rfl (isV _) (aD _) (rgV (li:=[(15,_),(19,_)]) rfl (aT rfl) ⟨aQ 3 (by kernel_rfl) (aA rfl rfl rfl),aQ 7 (by kernel_rfl) (aA rfl rfl rfl),trivial⟩ (fun w hw=>eU rfl rfl) (aE rfl)) (bP 10 rfl 20 8 rfl (by kernel_rfl) rfl rfl (fun w hw=>aZ rfl) rfl (aJ 11 rfl (isV _) (aD _) (rgV (li:=[(2,_)]) rfl (cC 21 rfl (by kernel_rfl) (by kernel_rfl) (aA rfl rfl rfl)) ⟨dK (by kernel_rfl) rfl,trivial⟩ (fun w hw=>aV (o':=2) fT rfl rfl) (aE rfl)) (aJ 12 rfl (isV _) (aD _) (rgV (li:=[(22,_)]) rfl (cC 21 rfl (by kernel_rfl) (by kernel_rfl) (aA rfl rfl rfl)) ⟨aQ 10 (by kernel_rfl) (aA rfl rfl rfl),trivial⟩ (fun w hw=>bB Tryz.isAgg23 rfl ((aL hw 0).cell (Nat.zero_le _) (aK (hS.at_ 1 rfl) rfl))) (aE rfl)) ?_))))))))
   refine aJ 13 rfl (isV _) (aD _) (rgV (li:=[(23,_)]) rfl (cC 21 rfl (by kernel_rfl) (by kernel_rfl) (aA rfl rfl rfl)) ⟨aQ 11 (by kernel_rfl) (aA rfl rfl rfl),trivial⟩ (fun w hw=>bC (j:=0) Tryz.underlying23 Tryz.sizeOf25 rfl rfl rfl (by show _ < 2;decide) (Nat.add_zero _)) (aE rfl)) ?_
   refine aJ 14 rfl (isV _) (aD _) (rgV (li:=[(24,_)]) rfl (cC 21 rfl (by kernel_rfl) (by kernel_rfl) (aA rfl rfl rfl)) ⟨aQ 12 (by kernel_rfl) (aA rfl rfl rfl),trivial⟩ (fun w hw=>aW (vs:=[_,_,_]) Tryz.isAgg25 Tryz.sizeOf25 rfl (aB.agree (aL hw 0) (Nat.zero_le _) (aB.agree hS.agree (Nat.zero_le _) hp3.cells))) (aE rfl)) (aJ 15 rfl (isV _) (aD _) (rgV (li:=[(3,_)]) rfl (cC 21 rfl (by kernel_rfl) (by kernel_rfl) (aA rfl rfl rfl)) ⟨dK (by kernel_rfl) rfl,trivial⟩ (fun w hw=>aV (o':=5) cK rfl rfl) (aE rfl)) (aJ 16 rfl (isV _) (aD _) (rgV (li:=[(26,_)]) rfl (cC 21 rfl (by kernel_rfl) (by kernel_rfl) (aA rfl rfl rfl)) ⟨aQ 14 (by kernel_rfl) (aA rfl rfl rfl),trivial⟩ (fun w hw=>bB Tryz.isAgg42 rfl ((aL hw 0).cell (Nat.zero_le _) (aK (hS.at_ 0 rfl) rfl))) (aE rfl)) ?_))
   refine aJ 17 rfl (isV _) (aD _) (rgV (li:=[(27,_)]) rfl (cC 21 rfl (by kernel_rfl) (by kernel_rfl) (aA rfl rfl rfl)) ⟨aQ 15 (by kernel_rfl) (aA rfl rfl rfl),trivial⟩ (fun w hw=>bC (j:=0) Tryz.underlying42 Tryz.sizeOf44 rfl rfl rfl (by show _ < 2;decide) (Nat.add_zero _)) (aE rfl)) ?_
   refine aJ 18 rfl (isV _) (aD _) (rgV (li:=[(28,_)]) rfl (cC 21 rfl (by kernel_rfl) (by kernel_rfl) (aA rfl rfl rfl)) ⟨aQ 16 (by kernel_rfl) (aA rfl rfl rfl),trivial⟩ (fun w hw=>aW (vs:=[_,_,_,_,_,_]) Tryz.isAgg44 Tryz.sizeOf44 rfl (aB.agree (aL hw 0) (Nat.zero_le _) (aB.agree hS.agree (Nat.zero_le _) hx6.cells))) (aE rfl)) ?_
   refine aJ 19 rfl (isV (.bool true)) (aD _) (cS [isV _,isV _] rfl pI (cC 21 rfl (by kernel_rfl) (by kernel_rfl) (aA rfl rfl rfl)) ⟨bZ (aQ 13 (by kernel_rfl) (aA rfl rfl rfl)),bZ (aQ 17 (by kernel_rfl) (aA rfl rfl rfl)),trivial⟩ (fun vs w' hb hh=>by have e:=cA (us:=[_,_]) hh;subst e;exact (lS p.f.tag p.f.dim p.f.a p.f.len p.f.cap x.f hp (Nat.zero_le _) _ (hxi.at_.below (hS.below.trans (hb.mono hS.below.size))) _ hx1).mono fun e w2 h=>⟨_,h.1,rfl,h.2⟩) (aE rfl)) ?_
   refine aJ 20 rfl (isV _) (aD _) (rgV (li:=[(21,_),(30,_)]) rfl (aT rfl) ⟨aQ 9 (by kernel_rfl) (aA rfl rfl rfl),aQ 18 (by kernel_rfl) (aA rfl rfl rfl),trivial⟩ (fun w hw=>eU rfl rfl) (aE rfl)) (bP 21 rfl 31 19 rfl (by kernel_rfl) rfl rfl (fun w hw=>aZ rfl) rfl (aJ 22 rfl (isV _) (aD _) (rgV (li:=[(2,_)]) rfl (cC 32 rfl (by kernel_rfl) (by kernel_rfl) (aA rfl rfl rfl)) ⟨dK (by kernel_rfl) rfl,trivial⟩ (fun w hw=>aV (o':=2) fT rfl rfl) (aE rfl)) (aJ 23 rfl (isV _) (aD _) (rgV (li:=[(33,_)]) rfl (cC 32 rfl (by kernel_rfl) (by kernel_rfl) (aA rfl rfl rfl)) ⟨aQ 21 (by kernel_rfl) (aA rfl rfl rfl),trivial⟩ (fun w hw=>bB Tryz.isAgg23 rfl ((aL hw 0).cell (Nat.zero_le _) (aK (hS.at_ 1 rfl) rfl))) (aE rfl)) ?_)))
   refine aJ 24 rfl (isV _) (aD _) (rgV (li:=[(34,_)]) rfl (cC 32 rfl (by kernel_rfl) (by kernel_rfl) (aA rfl rfl rfl)) ⟨aQ 22 (by kernel_rfl) (aA rfl rfl rfl),trivial⟩ (fun w hw=>bC (j:=1) Tryz.underlying23 Tryz.sizeOf25 rfl rfl rfl (by show _ < 2;decide) rfl) (aE rfl)) ?_
   refine aJ 25 rfl (isV _) (aD _) (rgV (li:=[(35,_)]) rfl (cC 32 rfl (by kernel_rfl) (by kernel_rfl) (aA rfl rfl rfl)) ⟨aQ 23 (by kernel_rfl) (aA rfl rfl rfl),trivial⟩ (fun w hw=>aW (vs:=[_,_,_]) Tryz.isAgg25 Tryz.sizeOf25 rfl (aB.agree (aL hw 0) (Nat.zero_le _) (aB.agree hS.agree (Nat.zero_le _) hq3.cells))) (aE rfl)) (aJ 26 rfl (isV _) (aD _) (rgV (li:=[(3,_)]) rfl (cC 32 rfl (by kernel_rfl) (by kernel_rfl) (aA rfl rfl rfl)) ⟨dK (by kernel_rfl) rfl,trivial⟩ (fun w hw=>aV (o':=5) cK rfl rfl) (aE rfl)) (aJ 27 rfl (isV _) (aD _) (rgV (li:=[(37,_)]) rfl (cC 32 rfl (by kernel_rfl) (by kernel_rfl) (aA rfl rfl rfl)) ⟨aQ 25 (by kernel_rfl) (aA rfl rfl rfl),trivial⟩ (fun w hw=>bB Tryz.isAgg42 rfl ((aL hw 0).cell (Nat.zero_le _) (aK (hS.at_ 0 rfl) rfl))) (aE rfl)) ?_))
   refine aJ 28 rfl (isV _) (aD _) (rgV (li:=[(38,_)]) rfl (cC 32 rfl (by kernel_rfl) (by kernel_rfl) (aA rfl rfl rfl)) ⟨aQ 26 (by kernel_rfl) (aA rfl rfl rfl),trivial⟩ (fun w hw=>bC (j:=1) Tryz.underlying42 Tryz.sizeOf44 rfl rfl rfl (by show _ < 2;decide) rfl) (aE rfl)) ?_
   refine aJ 29 rfl (isV _) (aD _) (rgV (li:=[(39,_)]) rfl (cC 32 rfl (by kernel_rfl) (by kernel_rfl) (aA rfl rfl rfl)) ⟨aQ 27 (by kernel_rfl) (aA rfl rfl rfl),trivial⟩ (fun w hw=>aW (vs:=[_,_,_,_,_,_]) Tryz.isAgg44 Tryz.sizeOf44 rfl (aB.agree (aL hw 0) (Nat.zero_le _) (aB.agree hS.agree (Nat.zero_le _) hy6.cells))) (aE rfl)) ?_
   refine aJ 30 rfl (isV (.bool (fD q.f.tag q.f.dim y.f))) (aD _) (cS [isV _,isV _] rfl pI (cC 32 rfl (by kernel_rfl) (by kernel_rfl) (aA rfl rfl rfl)) ⟨bZ (aQ 24 (by kernel_rfl) (aA rfl rfl rfl)),bZ (aQ 28 (by kernel_rfl) (aA rfl rfl rfl)),trivial⟩ (fun vs w' hb hh=>by have e:=cA (us:=[_,_]) hh;subst e;exact (lS q.f.tag q.f.dim q.f.a q.f.len q.f.cap y.f hq (Nat.zero_le _) _ (hyi.at_.below (hS.below.trans (hb.mono hS.below.size))) _ rfl).mono fun e w2 h=>⟨_,h.1,rfl,h.2⟩) (aE rfl)) ?_
   refine aJ 31 rfl (isV _) (aD _) (rgV (li:=[(32,_),(41,_)]) rfl (aT rfl) ⟨aQ 20 (by kernel_rfl) (aA rfl rfl rfl),aQ 29 (by kernel_rfl) (aA rfl rfl rfl),trivial⟩ (fun w hw=>eU rfl rfl) (aE rfl)) (bP 32 rfl 42 30 rfl (by kernel_rfl) rfl rfl (fun w hw=>iD rfl) rfl (dV ?_))
   intro W7 hbR hS'
   clear hS;have hS:=hS';clear hS'
   refine aH (aH (aH (aH (aH (aH (aH (aH (aH (aH (aH (aH (aH (aH (aH (aH (aH (aH (aH (aH (aH ?_))))))))))))))))))))
   refine aH (aH (aH (aH (aH (aH (aH (aH (aH (aH (aH (cQ (XF.thenN (bT (XF.thenR (XF.res (cH Tryz.results103 rfl) ?_)))))))))))))))
   exact ⟨bF (by rw [← hr];unfold gO;rw [hbb];show _=(true && (!gz && (true && (fD p.f.tag p.f.dim x.f && fD q.f.tag q.f.dim y.f))));rw [hz,hx1];rfl),hS.below⟩
theorem jR:bI Tryz.prog 104=true:=by kernel_rfl
theorem Q9:bI Tryz.prog 105=true:=by kernel_rfl
theorem Ra:bI Tryz.prog 106=true:=by kernel_rfl
theorem lT (t n:Int) (a:Option Addr) (l c0:Nat) (f:WF) (hp:bE t n l=true) (hs:0≤f.rl) (w:World) (hf:f.At w) (r:Bool) (hr:fD t n f=r) :
  Calls Tryz.prog 78 #[.agg #[.int .i64 t,.int .i64 n,.slice a l c0],f.val] w (fun e w'=>e = .returned (.bool (r))∧Below w.heap.size w w'):=by
 refine cE (args:=[.agg #[.int .i64 t,.int .i64 n,.slice a l c0],f.val]) Tryz.func78 rfl Tryz.ntmps78 rfl ?_
 have hS:=St.start w
 have htg:=(fO hp).2
 have h5:t≠5:=by omega
 refine aN (aP (bW (cs:=[_,_,_]) hS rfl rfl rfl fun B1 W1 hS=>bW (cs:=[_,_,_,_,_,_]) hS rfl rfl rfl fun B2 W2 hS=>aC rfl rfl (aO (XF.thenN (aN (aN (aP (aM (o':=0) dI rfl rfl rfl (aR Tryz.isAgg4 rfl (aK (hS.at_ 0 rfl) rfl) rfl (aO (XF.thenN (bA rfl (fun hc=>?_) (fun hc=>?_)))))))))))))
 ·have hc7:=hc;clear hc
  refine aN (aP (aM (o':=0) fJ rfl rfl rfl (aR Tryz.isAgg22 rfl (aK (hS.at_ 1 rfl) rfl) rfl (dG rfl rfl rfl (aI rfl rfl (bQ (d:=11) rfl (fun hc=>?_) (fun hc=>absurd (of_decide_eq_false hc) (by exact fun h=>h h5))))))))
  have hc:=of_decide_eq_true hc
  refine aF (d:=11) rfl rfl (aS (vs:=[_,_,_,_,_,_]) Tryz.isAgg44 Tryz.sizeOf44 rfl (aB.own (j:=0) (m:=6) (hS.at_ 0 rfl) rfl) rfl (aF (d:=11) rfl rfl (cB (vs:=[_,_,_,_,_]) hS jR rfl (Fh f _ rfl _) rfl fun W3 hS=>bD rfl rfl rfl (aC rfl rfl (aO (XF.thenN (bT (XF.thenR (XF.res (cH Tryz.results78 rfl) ?_)))))))))
  exact ⟨bF (by rw [← hr];unfold fD;rw [show f.z=true from hc7];unfold iF;rw [show f.z=true from hc7];simp),hS.below⟩
 ·have hc7:=hc;clear hc
  have hz:f.z=false:=hc7
  refine bM (XF.thenN (aN (aN (aP (aM (o':=0) fJ rfl rfl rfl (aR Tryz.isAgg22 rfl (aK (hS.at_ 1 rfl) rfl) rfl (aO (XF.thenN (bX (aN (aP (cN rfl rfl rfl (aC rfl rfl (aO (XF.thenN (bA rfl (fun hc=>?_) (fun hc=>?_)))))))))))))))))
  ·have hc17:=of_decide_eq_true hc;clear hc
   refine aN (aP (aS (vs:=[_,_,_,_,_,_]) Tryz.isAgg44 Tryz.sizeOf44 rfl (aB.own (j:=0) (m:=6) (hS.at_ 0 rfl) rfl) rfl (cB (vs:=[_,_,_,_,_]) hS jR rfl (Fh f _ rfl _) rfl fun W4 hS=>aC rfl rfl (aO (XF.thenN (bT (XF.blkR (XF.thenR (XF.res (cH Tryz.results78 rfl) ?_)))))))))
   exact ⟨bF (by rw [← hr];unfold fD;rw [hz];unfold iF;rw [hz,hc17];simp),hS.below⟩
  ·have hc17:=of_decide_eq_false hc;clear hc
   refine aN (aP (cN rfl rfl rfl (aC rfl rfl (aO (XF.thenN (bA rfl (fun hc=>?_) (fun hc=>?_)))))))
   ·have hc21:=of_decide_eq_true hc;clear hc
    have hbb:iF t f=iE true false false false f:=by unfold iF;rw [hz,hc21];simp
    refine aN (aP (aS (vs:=[_,_,_,_,_,_]) Tryz.isAgg44 Tryz.sizeOf44 rfl (aB.own (j:=0) (m:=6) (hS.at_ 0 rfl) rfl) rfl (cB (vs:=[_,_,_,_,_]) hS jR rfl (P8 f _ rfl _) rfl fun W5 hS=>aI rfl rfl (bQ (d:=25) rfl (fun hc=>?_) (fun hc=>?_)))))
    ·have hg25:=hc;clear hc
     refine aF (d:=25) rfl rfl (aM (o':=1) eF rfl rfl rfl (aF (d:=25) rfl rfl (aR Tryz.isAgg3 rfl (aK (hS.at_ 0 rfl) rfl) rfl (aF (d:=25) rfl rfl (pE rfl rfl rfl (bD rfl rfl rfl (aI rfl rfl (bQ (d:=30) rfl (fun hc=>?_) (fun hc=>?_)))))))))
     ·have hg30:=of_decide_eq_true hc;clear hc
      refine aF (d:=30) rfl rfl (aM (o':=1) eF rfl rfl rfl (aF (d:=30) rfl rfl (aR Tryz.isAgg3 rfl (aK (hS.at_ 0 rfl) rfl) rfl (aF (d:=30) rfl rfl (aM (o':=1) fK rfl rfl rfl (aF (d:=30) rfl rfl (aR Tryz.isAgg3 rfl (aK (hS.at_ 1 rfl) rfl) rfl (aF (d:=30) rfl rfl (uS rfl rfl rfl (bD rfl rfl rfl (aC rfl rfl (aO (XF.thenN (bT (XF.blkR (XF.thenR (XF.res (cH Tryz.results78 rfl) ?_)))))))))))))))))
      exact ⟨bF (by rw [← hr];unfold fD;rw [hbb,hz,if_pos hc21,show iE true false false false f=true from hg25];simp [show (0:Int)≤f.c from hg30]),hS.below⟩
     ·have hg30:=of_decide_eq_false hc;clear hc
      refine aG (d:=30) rfl rfl rfl rfl (aG (d:=30) rfl rfl rfl rfl (aG (d:=30) rfl rfl rfl rfl (aG (d:=30) rfl rfl rfl rfl (aG (d:=30) rfl rfl rfl rfl (bU rfl rfl rfl (aC rfl rfl (aO (XF.thenN (bT (XF.blkR (XF.thenR (XF.res (cH Tryz.results78 rfl) ?_))))))))))))
      exact ⟨bF (by rw [← hr];unfold fD;rw [hbb,hz,if_pos hc21,show iE true false false false f=true from hg25];simp [show ¬ (0:Int)≤f.c from hg30]),hS.below⟩
    ·have hg25:=hc;clear hc
     refine aG (d:=25) rfl rfl rfl rfl (aG (d:=25) rfl rfl rfl rfl (aG (d:=25) rfl rfl rfl rfl (bU rfl rfl rfl (aI rfl rfl (aG (d:=30) rfl rfl rfl rfl (aG (d:=30) rfl rfl rfl rfl (aG (d:=30) rfl rfl rfl rfl (aG (d:=30) rfl rfl rfl rfl (aG (d:=30) rfl rfl rfl rfl (bU rfl rfl rfl (aC rfl rfl (aO (XF.thenN (bT (XF.blkR (XF.thenR (XF.res (cH Tryz.results78 rfl) ?_)))))))))))))))))
     exact ⟨bF (by rw [← hr];unfold fD;rw [hbb,show iE true false false false f=false from hg25];rfl),hS.below⟩
   ·have hc21:=of_decide_eq_false hc;clear hc
    refine aN (aP (cN rfl rfl rfl (aC rfl rfl (aO (XF.thenN (bA rfl (fun hc=>?_) (fun hc=>?_)))))))
    ·have hc37:=of_decide_eq_true hc;clear hc
     have hbb:iF t f=iE false true false false f:=by unfold iF;rw [hz,hc37];simp
     refine aN (aP (aS (vs:=[_,_,_,_,_,_]) Tryz.isAgg44 Tryz.sizeOf44 rfl (aB.own (j:=0) (m:=6) (hS.at_ 0 rfl) rfl) rfl (cB (vs:=[_,_,_,_,_]) hS jR rfl (P9 f _ rfl _) rfl fun W6 hS=>aI rfl rfl (bQ (d:=41) rfl (fun hc=>?_) (fun hc=>?_)))))
     ·have hg41:=hc;clear hc
      refine aF (d:=41) rfl rfl (aM (o':=1) fK rfl rfl rfl (aF (d:=41) rfl rfl (aR Tryz.isAgg3 rfl (aK (hS.at_ 1 rfl) rfl) rfl (aF (d:=41) rfl rfl (aM (o':=2) eG rfl rfl rfl (aF (d:=41) rfl rfl (aS (vs:=[_,_]) Tryz.isAgg40 Tryz.sizeOf40 rfl (aB.own (j:=2) (m:=2) (hS.at_ 0 rfl) rfl) rfl (aF (d:=41) rfl rfl (cB (vs:=[_,_]) hS Q9 rfl (Ia n f.ra f.rc f.g f.rows _ (hf.below hS.below) _ rfl f.rl hf.rl) rfl fun W7 hS=>aF (d:=41) rfl rfl (cN rfl rfl rfl (bD rfl rfl rfl (aC rfl rfl (aO (XF.thenN (bT (XF.blkR (XF.thenR (XF.res (cH Tryz.results78 rfl) ?_))))))))))))))))))
      exact ⟨bF (by rw [← hr];unfold fD;rw [hbb,hz,if_neg hc21,if_pos hc37,show iE false true false false f=true from hg41];rfl),hS.below⟩
     ·have hg41:=hc;clear hc
      refine aG (d:=41) rfl rfl rfl rfl (aG (d:=41) rfl rfl rfl rfl (aG (d:=41) rfl rfl rfl rfl (aG (d:=41) rfl rfl rfl rfl (aG (d:=41) rfl rfl rfl rfl (aG (d:=41) rfl rfl rfl rfl (bU rfl rfl rfl (aC rfl rfl (aO (XF.thenN (bT (XF.blkR (XF.thenR (XF.res (cH Tryz.results78 rfl) ?_)))))))))))))
      exact ⟨bF (by rw [← hr];unfold fD;rw [hbb,show iE false true false false f=false from hg41];rfl),hS.below⟩
    ·have hc37:=of_decide_eq_false hc;clear hc
     refine aN (aP (cN rfl rfl rfl (aC rfl rfl (aO (XF.thenN (bA rfl (fun hc=>?_) (fun hc=>absurd (of_decide_eq_false hc) (by omega))))))))
     have hc:=of_decide_eq_true hc
     have hc49:t=4:=hc
     have hbb:iF t f=iE false false true false f:=by unfold iF;rw [hz,hc49];simp
     obtain ⟨m,hnm,hm64⟩:∃ m:Nat,n=m∧m≤64:=by
      have h9:=hp
      simp only [bE,hc49] at h9
      simp at h9
      exact ⟨n.toNat,by omega,by omega⟩
     refine aN (aN (aP (aS (vs:=[_,_,_,_,_,_]) Tryz.isAgg44 Tryz.sizeOf44 rfl (aB.own (j:=0) (m:=6) (hS.at_ 0 rfl) rfl) rfl (cB (vs:=[_,_,_,_,_]) hS jR rfl (Qa f _ rfl _) rfl fun W8 hS=>eX rfl rfl (aI rfl rfl (bQ (d:=54) rfl (fun hc=>?_) (fun hc=>?_)))))))
     ·have hg54:=hc;clear hc
      refine aG (d:=54) rfl rfl rfl rfl (aG (d:=54) rfl rfl rfl rfl (aG (d:=54) rfl rfl rfl rfl (aG (d:=54) rfl rfl rfl rfl (aG (d:=54) rfl rfl rfl rfl (aG (d:=54) rfl rfl rfl rfl (bD rfl rfl rfl (aO (XF.thenN (fI rfl (aN (aP (aC rfl rfl (aO (XF.thenN (bT (XF.thenR (XF.blkR (XF.thenR (XF.res (cH Tryz.results78 rfl) ?_)))))))))))))))))))
      exact ⟨bF (by rw [← hr];unfold fD;rw [hbb,show iE false false true false f=false by simpa using hg54];rfl),hS.below⟩
     ·have hg54:=hc;clear hc
      have hon:iE false false true false f=true:=by simpa using hg54
      refine aF (d:=54) rfl rfl (aM (o':=4) cY rfl rfl rfl (aF (d:=54) rfl rfl (aR Tryz.isAgg41 rfl (aK (hS.at_ 0 rfl) rfl) rfl (aF (d:=54) rfl rfl (cJ Tryz.underlying41 rfl rfl (aF (d:=54) rfl rfl (aM (o':=1) fK rfl rfl rfl (aF (d:=54) rfl rfl (aR Tryz.isAgg3 rfl (aK (hS.at_ 1 rfl) rfl) rfl (aF (d:=54) rfl rfl (dG rfl rfl rfl (bU rfl rfl rfl (aO (XF.thenN (bA rfl (fun hc=>?_) (fun hc=>?_))))))))))))))))
      ·have hc61:=of_decide_eq_true hc;clear hc
       refine aN (aP (aC rfl rfl (aO (XF.thenN (bT (XF.thenR (XF.blkR (XF.thenR (XF.res (cH Tryz.results78 rfl) ?_)))))))))
       have hne:kV n f.cells≠0:=fun h9=>by have:=(lK h9).2.2.1;rw [hf.cl] at this;exact hc61 this
       exact ⟨bF (by rw [← hr];unfold fD;rw [hbb,hz,hon,if_neg hc21,if_neg hc37,if_pos hc49,decide_eq_false hne];rfl),hS.below⟩
      ·have hc61:=of_decide_eq_false hc;clear hc
       have hcl:f.cells.length=m:=by rw [hf.cl];omega
       refine bM (XF.thenN (aN (aN (aP (aC rfl rfl (aO (XF.thenN (bX (eO (fun m_ l_ W=>∃ i:Nat,i≤f.cl∧m_=f.cl - i∧l_=[(2,.pointer (some ⟨B1,0,none⟩)),(3,.pointer (some ⟨B2,0,none⟩)),(5,.int .i64 (i:Int))]∧(f.cells.take i).all (jC m)=true∧St w [(B2,f.six,44),(B1,[.int .i64 t,.int .i64 n,.slice a l c0],25)] [] [] W) (f.cl - 0) ([(2,_),(3,_),(5,_)]) ⟨rfl,rfl,rfl,trivial⟩ (⟨0,Nat.zero_le _,rfl,rfl,rfl,hS.clear⟩) ?_)))))))))
       clear hS
       rintro m_ l_ W ⟨i,hi,rfl,rfl,hall,hS⟩
       refine aN (aN (aP (aI rfl rfl (aM (o':=4) cY rfl rfl rfl (aR Tryz.isAgg41 rfl (aK (hS.at_ 0 rfl) rfl) rfl (cJ Tryz.underlying41 rfl rfl (cU rfl rfl rfl (aO (XF.thenN (bA rfl (fun hc=>?_) (fun hc=>?_)))))))))))
       ·have hc66:=of_decide_eq_true hc;clear hc
        obtain ⟨b9,off9,ce,hca9,hce,hb9,h91,h92,h93⟩:=(hf.cells.below hS.below).at_ (k:=i) (by rw [hf.cl];omega)
        have k1:aB W b9 (off9+i * 3) [.int .u64 (ce.f:Int),.int .i64 ce.k,.int .i64 ce.v]:=⟨h91,h92,h93,trivial⟩
        have hc64:=hf.bits ce (List.mem_of_getElem? hce)
        refine bM (XF.thenN (aN (bX (aN (lB (m:=9) cD hS (by kernel_rfl) (by kernel_rfl) rfl (cW 1 rfl 2 rfl (by kernel_rfl) rfl (fun w hw=>aV (o':=1) fK rfl rfl) rfl (bP 2 rfl 69 0 rfl (by kernel_rfl) rfl rfl (fun w hw=>bB Tryz.isAgg3 rfl ((aL hw 0).cell (Nat.zero_le _) (aK (hS.at_ 1 rfl) rfl))) rfl (cW 3 rfl 3 rfl (by kernel_rfl) rfl (fun w hw=>aV (o':=4) cY rfl rfl) rfl (aJ 4 rfl (isV (.slice (some ⟨b9,off9,none⟩) f.cl f.cc)) (aD _) (oT (li:=[(71,_)]) rfl (aT rfl) ⟨aQ 2 (by kernel_rfl) (aA rfl rfl rfl),trivial⟩ (fun w hw=>bB Tryz.isAgg41 rfl ((aL hw 0).cell (Nat.zero_le _) (aK (hS.at_ 0 rfl) rfl))) (by rw [← hca9]) (aE rfl)) (cW 5 rfl 5 rfl (by kernel_rfl) rfl (fun w hw=>aZ rfl) rfl (aJ 6 rfl (isV _) (aD _) (rgV (li:=[(72,_),(73,_)]) rfl (aT rfl) ⟨aQ 3 (by kernel_rfl) (aA rfl rfl rfl),aQ 4 (by kernel_rfl) (aA rfl rfl rfl),trivial⟩ (fun w hw=>bC (j:=i) Tryz.underlying41 Tryz.sizeOf105 rfl rfl (rfl) (by omega) rfl) (aE rfl)) (bP 7 rfl 74 5 rfl (by kernel_rfl) rfl rfl (fun w hw=>aW (vs:=[_,_,_]) Tryz.isAgg105 Tryz.sizeOf105 rfl (aB.agree (aL hw 0) (Nat.zero_le _) (k1))) rfl ?_))))))))))))
        refine aJ 8 rfl (isV (.bool (jC m ce))) (aD _) (cS [isV _,isV _] rfl Ra (aT rfl) ⟨bZ (aQ 1 (by kernel_rfl) (aA rfl rfl rfl)),bZ (aQ 6 (by kernel_rfl) (aA rfl rfl rfl)),trivial⟩ (fun vs w' hb hh=>by have e:=cA (us:=[_,_]) hh;subst e;have h9:=Qb m hm64 ce.f ce.k ce.v hc64 _ rfl w';rw [← hnm] at h9;exact h9.mono fun e w2 h=>⟨_,h.1,rfl,h.2⟩) (aE rfl)) ?_
        refine bP 9 rfl 76 7 rfl (by kernel_rfl) rfl rfl (fun w hw=>jE rfl) rfl (dV ?_)
        intro W9 hbR hS'
        clear hS;have hS:=hS';clear hS'
        refine aH (aH (aH (aH (aH (aH (aH (aH (aH (cQ (XF.thenN (bA rfl (fun hc=>?_) (fun hc=>?_))))))))))))
        ·have hc77:=hc;clear hc
         refine aN (aP (aC rfl rfl (aO (XF.thenN (bT (XF.blkR (XF.thenR (XF.thenR (XF.blkR (XF.thenR (XF.blkR (XF.thenR (XF.res (cH Tryz.results78 rfl) ?_)))))))))))))
         exact ⟨bF (by rw [← hr];unfold fD;rw [hbb,hz,hon,if_neg hc21,if_neg hc37,if_pos hc49,hnm,Fe hm64 hcl hce (by simpa using hc77)];rfl),hS.below⟩
        ·have hc77:=hc;clear hc
         refine bM (XF.blkN (XF.thenN (aP (aI rfl rfl (dE rfl rfl (IntWalk.i64_in _ (by omega)) rfl (aC rfl rfl (aO ?_)))))))
         exact XF.round (f.cl - (i+1)) [(2,_),(3,_),(5,_)] (by omega) ⟨rfl,rfl,rfl,trivial⟩ ⟨i+1,by omega,rfl,rfl,nC hce hall (by simpa using hc77),hS.clear⟩
       ·have hc66:=of_decide_eq_false hc;clear hc
        refine eN (XF.thenX (XF.thenX (XF.blkX (XF.thenN (aN (aP (aC rfl rfl (aO (XF.thenN (bT (XF.blkR (XF.thenR (XF.res (cH Tryz.results78 rfl) ?_)))))))))))))
        exact ⟨bF (by rw [← hr];unfold fD;rw [hbb,hz,hon,if_neg hc21,if_neg hc37,if_pos hc49,hnm,uV hm64 hcl (k:=i) (by rw [hf.cl];omega) hall];rfl),hS.below⟩
theorem F5 (p q:SV) (g:WF) (qs:List WV) {w:World} {e:Nat} (hw:WIn w (e+1) (.mk g qs)) (hz:g.z=false) (on:Bool):on=false∨(on=true∧g.pl≠2)∨(on=true∧∃ x y,g.z=false∧qs=[x,y]∧fD p.f.tag p.f.dim x.f=false)∨(on=true∧∃ x y,g.z=false∧qs=[x,y]∧fD p.f.tag p.f.dim x.f=true):=by
 cases on with
 | false=>exact .inl rfl
 | true =>
  rcases yO p q g qs hw with h | h | h | h
  ·rw [hz] at h;cases h
  ·exact .inr (.inl ⟨rfl,h.2⟩)
  ·exact .inr (.inr (.inl ⟨rfl,h⟩))
  ·exact .inr (.inr (.inr ⟨rfl,h⟩))
theorem By (d:Nat) (sa:Option Addr) (sc:Nat) (p q:SV) (g:WF) (qs:List WV) (w:World) (hsp:SIn w (d+1) (.mk ⟨5,0,sa,2,sc⟩ [p,q])) (hp:p.pl=true) (hq:q.pl=true) (e:Nat) (hw:WIn w (e+1) (.mk g qs)) (hs:∀ x∈qs,0≤x.f.rl) (r:Bool) (hr:gO p q g qs=r) :
  Calls Tryz.prog 78 #[.agg #[.int .i64 5,.int .i64 0,.slice sa 2 sc],g.val] w (fun e w'=>e = .returned (.bool (r))∧Below w.heap.size w w'):=by
 refine cE (args:=[.agg #[.int .i64 5,.int .i64 0,.slice sa 2 sc],g.val]) Tryz.func78 rfl Tryz.ntmps78 rfl ?_
 have hS:=St.start w
 obtain ⟨_,b,off,ha,hb0,hp3,hq3,_,_⟩:=hsp.two
 obtain rfl:sa=some ⟨b,off,none⟩:=ha
 refine aN (aP (bW (cs:=[_,_,_]) hS rfl rfl rfl fun B1 W1 hS=>bW (cs:=[_,_,_,_,_,_]) hS rfl rfl rfl fun B2 W2 hS=>aC rfl rfl (aO (XF.thenN (aN (aN (aP (aM (o':=0) dI rfl rfl rfl (aR Tryz.isAgg4 rfl (aK (hS.at_ 0 rfl) rfl) rfl (aO (XF.thenN (bA rfl (fun hc=>?_) (fun hc=>?_)))))))))))))
 ·have hc7:=hc;clear hc
  refine aN (aP (aM (o':=0) fJ rfl rfl rfl (aR Tryz.isAgg22 rfl (aK (hS.at_ 1 rfl) rfl) rfl (dG rfl rfl rfl (aI rfl rfl (bQ (d:=11) rfl (fun hc=>absurd (of_decide_eq_true hc) (by decide)) (fun hc=>?_)))))))
  have hc:=of_decide_eq_false hc
  refine aG (d:=11) rfl rfl rfl rfl (aG (d:=11) rfl rfl rfl rfl (bU rfl rfl rfl (aC rfl rfl (aO (XF.thenN (bT (XF.thenR (XF.res (cH Tryz.results78 rfl) ?_))))))))
  exact ⟨bF (by rw [← hr];unfold gO;rw [show g.z=true from hc7];simp),hS.below⟩
 ·have hc7:=hc;clear hc
  have hz0:g.z=false:=hc7
  refine bM (XF.thenN (aN (aN (aP (aM (o':=0) fJ rfl rfl rfl (aR Tryz.isAgg22 rfl (aK (hS.at_ 1 rfl) rfl) rfl (aO (XF.thenN (bX (aN (aP (cN rfl rfl rfl (aC rfl rfl (aO (XF.thenN (bA rfl (fun hc=>absurd (of_decide_eq_true hc) (by decide)) (fun hc=>?_)))))))))))))))))
  have hc:=of_decide_eq_false hc
  refine aN (aP (cN rfl rfl rfl (aC rfl rfl (aO (XF.thenN (bA rfl (fun hc=>absurd (of_decide_eq_true hc) (by decide)) (fun hc=>?_)))))))
  have hc:=of_decide_eq_false hc
  refine aN (aP (cN rfl rfl rfl (aC rfl rfl (aO (XF.thenN (bA rfl (fun hc=>absurd (of_decide_eq_true hc) (by decide)) (fun hc=>?_)))))))
  have hc:=of_decide_eq_false hc
  refine aN (aP (cN rfl rfl rfl (aC rfl rfl (aO (XF.thenN (bA rfl (fun hc=>absurd (of_decide_eq_true hc) (by decide)) (fun hc=>?_)))))))
  have hc:=of_decide_eq_false hc
  refine bM (XF.blkN (XF.thenN (aN ?_)))
  obtain ⟨on,hon⟩:∃ b,iE false false false true g=b:=⟨_,rfl⟩
  have hbb:iF 5 g=on:=by rw [← hon];unfold iF;rw [hz0];simp
  rcases F5 p q g qs hw hz0 on with h1 | h1 | h1 | h1
  ·subst h1
   refine lB (m:=31) cD hS (by kernel_rfl) (by kernel_rfl) rfl (cW 1 rfl 3 rfl (by kernel_rfl) rfl (fun w hw=>aW (vs:=[_,_,_,_,_,_]) Tryz.isAgg44 Tryz.sizeOf44 rfl (aB.agree (aL hw 0) (Nat.zero_le _) (aB.own (j:=0) (m:=6) (hS.at_ 0 rfl) rfl))) rfl ?_)
   refine aJ 2 rfl (isV (.bool false)) (aD _) (cS [isV _,isV _,isV _,isV _,isV _] rfl jR (aT rfl) ⟨bZ (aQ 0 (by kernel_rfl) (aA rfl rfl rfl)),fS,fS,fS,fS,trivial⟩ (fun vs w' hb hh=>by have e:=cA (us:=[_,_,_,_,_]) hh;subst e;exact (tF g _ hon _).mono fun e w2 h=>⟨_,h.1,rfl,h.2⟩) (aE rfl)) ?_
   refine bP 3 rfl 79 1 rfl (by kernel_rfl) rfl rfl (fun w hw=>aZ rfl) rfl (aJ 4 rfl (isV undef) (aD _) (bH rfl (cI 80 rfl (by kernel_rfl) (by kernel_rfl) (aA rfl rfl rfl) rfl) (aE rfl)) (aJ 5 rfl (isV undef) (aD _) (bH rfl (cI 80 rfl (by kernel_rfl) (by kernel_rfl) (aA rfl rfl rfl) rfl) (aE rfl)) (aJ 6 rfl (isV undef) (aD _) (bH rfl (cI 80 rfl (by kernel_rfl) (by kernel_rfl) (aA rfl rfl rfl) rfl) (aE rfl)) (aJ 7 rfl (isV undef) (aD _) (bH rfl (cI 80 rfl (by kernel_rfl) (by kernel_rfl) (aA rfl rfl rfl) rfl) (aE rfl)) (bP 8 rfl 80 2 rfl (by kernel_rfl) rfl rfl (fun w hw=>eV rfl rfl) rfl (bP 9 rfl 85 7 rfl (by kernel_rfl) rfl rfl (fun w hw=>aZ rfl) rfl (aJ 10 rfl (isV undef) (aD _) (bH rfl (cI 86 rfl (by kernel_rfl) (by kernel_rfl) (aA rfl rfl rfl) rfl) (aE rfl)) (aJ 11 rfl (isV undef) (aD _) (bH rfl (cI 86 rfl (by kernel_rfl) (by kernel_rfl) (aA rfl rfl rfl) rfl) (aE rfl)) (aJ 12 rfl (isV undef) (aD _) (bH rfl (cI 86 rfl (by kernel_rfl) (by kernel_rfl) (aA rfl rfl rfl) rfl) (aE rfl)) (aJ 13 rfl (isV undef) (aD _) (bH rfl (cI 86 rfl (by kernel_rfl) (by kernel_rfl) (aA rfl rfl rfl) rfl) (aE rfl)) (aJ 14 rfl (isV undef) (aD _) (bH rfl (cI 86 rfl (by kernel_rfl) (by kernel_rfl) (aA rfl rfl rfl) rfl) (aE rfl)) (aJ 15 rfl (isV undef) (aD _) (bH rfl (cI 86 rfl (by kernel_rfl) (by kernel_rfl) (aA rfl rfl rfl) rfl) (aE rfl)) (aJ 16 rfl (isV undef) (aD _) (bH rfl (cI 86 rfl (by kernel_rfl) (by kernel_rfl) (aA rfl rfl rfl) rfl) (aE rfl)) (aJ 17 rfl (isV undef) (aD _) (bH rfl (cI 86 rfl (by kernel_rfl) (by kernel_rfl) (aA rfl rfl rfl) rfl) (aE rfl)) (aJ 18 rfl (isV undef) (aD _) (bH rfl (cI 86 rfl (by kernel_rfl) (by kernel_rfl) (aA rfl rfl rfl) rfl) (aE rfl)) (bP 19 rfl 86 8 rfl (by kernel_rfl) rfl rfl (fun w hw=>eV rfl rfl) rfl (bP 20 rfl 96 18 rfl (by kernel_rfl) rfl rfl (fun w hw=>aZ rfl) rfl (aJ 21 rfl (isV undef) (aD _) (bH rfl (cI 97 rfl (by kernel_rfl) (by kernel_rfl) (aA rfl rfl rfl) rfl) (aE rfl)) (aJ 22 rfl (isV undef) (aD _) (bH rfl (cI 97 rfl (by kernel_rfl) (by kernel_rfl) (aA rfl rfl rfl) rfl) (aE rfl)) (aJ 23 rfl (isV undef) (aD _) (bH rfl (cI 97 rfl (by kernel_rfl) (by kernel_rfl) (aA rfl rfl rfl) rfl) (aE rfl)) ?_))))))))))))))))))))
   refine aJ 24 rfl (isV undef) (aD _) (bH rfl (cI 97 rfl (by kernel_rfl) (by kernel_rfl) (aA rfl rfl rfl) rfl) (aE rfl)) (aJ 25 rfl (isV undef) (aD _) (bH rfl (cI 97 rfl (by kernel_rfl) (by kernel_rfl) (aA rfl rfl rfl) rfl) (aE rfl)) (aJ 26 rfl (isV undef) (aD _) (bH rfl (cI 97 rfl (by kernel_rfl) (by kernel_rfl) (aA rfl rfl rfl) rfl) (aE rfl)) (aJ 27 rfl (isV undef) (aD _) (bH rfl (cI 97 rfl (by kernel_rfl) (by kernel_rfl) (aA rfl rfl rfl) rfl) (aE rfl)) (aJ 28 rfl (isV undef) (aD _) (bH rfl (cI 97 rfl (by kernel_rfl) (by kernel_rfl) (aA rfl rfl rfl) rfl) (aE rfl)) (aJ 29 rfl (isV undef) (aD _) (bH rfl (cI 97 rfl (by kernel_rfl) (by kernel_rfl) (aA rfl rfl rfl) rfl) (aE rfl)) (bP 30 rfl 97 19 rfl (by kernel_rfl) rfl rfl (fun w hw=>eV rfl rfl) rfl (bP 31 rfl 107 29 rfl (by kernel_rfl) rfl rfl (fun w hw=>iD rfl) rfl (dV ?_))))))))
   intro W3 hbR hS'
   clear hS;have hS:=hS';clear hS'
   refine aH (aH (aH (aH (aH (aH (aH (aH (aH (aH (aH (aH (aH (aH (aH (aH (aH (aH (aH (aH (aH ?_))))))))))))))))))))
   refine aH (aH (aH (aH (aH (aH (aH (aH (aH (aH (cQ (XF.thenN (bT (XF.res (cH Tryz.results78 rfl) ?_)))))))))))))
   exact ⟨bF (by rw [← hr];unfold gO;rw [hbb];rfl),hS.below⟩
  ·obtain ⟨h1,h2⟩:=h1;subst h1
   refine lB (m:=31) cD hS (by kernel_rfl) (by kernel_rfl) rfl (cW 1 rfl 3 rfl (by kernel_rfl) rfl (fun w hw=>aW (vs:=[_,_,_,_,_,_]) Tryz.isAgg44 Tryz.sizeOf44 rfl (aB.agree (aL hw 0) (Nat.zero_le _) (aB.own (j:=0) (m:=6) (hS.at_ 0 rfl) rfl))) rfl ?_)
   refine aJ 2 rfl (isV (.bool true)) (aD _) (cS [isV _,isV _,isV _,isV _,isV _] rfl jR (aT rfl) ⟨bZ (aQ 0 (by kernel_rfl) (aA rfl rfl rfl)),fS,fS,fS,fS,trivial⟩ (fun vs w' hb hh=>by have e:=cA (us:=[_,_,_,_,_]) hh;subst e;exact (tF _ _ hon _).mono fun e w2 h=>⟨_,h.1,rfl,h.2⟩) (aE rfl)) ?_
   refine bP 3 rfl 79 1 rfl (by kernel_rfl) rfl rfl (fun w hw=>aZ rfl) rfl (aJ 4 rfl (isV _) (aD _) (rgV (li:=[(3,_)]) rfl (cC 80 rfl (by kernel_rfl) (by kernel_rfl) (aA rfl rfl rfl)) ⟨dK (by kernel_rfl) rfl,trivial⟩ (fun w hw=>aV (o':=5) cK rfl rfl) (aE rfl)) (aJ 5 rfl (isV _) (aD _) (rgV (li:=[(81,_)]) rfl (cC 80 rfl (by kernel_rfl) (by kernel_rfl) (aA rfl rfl rfl)) ⟨aQ 3 (by kernel_rfl) (aA rfl rfl rfl),trivial⟩ (fun w hw=>bB Tryz.isAgg42 rfl ((aL hw 0).cell (Nat.zero_le _) (aK (hS.at_ 0 rfl) rfl))) (aE rfl)) (aJ 6 rfl (isV _) (aD _) (rgV (li:=[(82,_)]) rfl (cC 80 rfl (by kernel_rfl) (by kernel_rfl) (aA rfl rfl rfl)) ⟨aQ 4 (by kernel_rfl) (aA rfl rfl rfl),trivial⟩ (fun w hw=>rV Tryz.underlying42 rfl) (aE rfl)) (aJ 7 rfl (isV (.bool false)) (aD _) (oT (li:=[(83,_)]) rfl (cC 80 rfl (by kernel_rfl) (by kernel_rfl) (aA rfl rfl rfl)) ⟨aQ 5 (by kernel_rfl) (aA rfl rfl rfl),trivial⟩ (fun w hw=>rW rfl rfl) (by rw [decide_eq_false (by omega)]) (aE rfl)) (aJ 8 rfl (isV _) (aD _) (rgV (li:=[(80,_),(84,_)]) rfl (aT rfl) ⟨aQ 2 (by kernel_rfl) (aA rfl rfl rfl),aQ 6 (by kernel_rfl) (aA rfl rfl rfl),trivial⟩ (fun w hw=>eU rfl rfl) (aE rfl)) (bP 9 rfl 85 7 rfl (by kernel_rfl) rfl rfl (fun w hw=>aZ rfl) rfl (aJ 10 rfl (isV undef) (aD _) (bH rfl (cI 86 rfl (by kernel_rfl) (by kernel_rfl) (aA rfl rfl rfl) rfl) (aE rfl)) (aJ 11 rfl (isV undef) (aD _) (bH rfl (cI 86 rfl (by kernel_rfl) (by kernel_rfl) (aA rfl rfl rfl) rfl) (aE rfl)) (aJ 12 rfl (isV undef) (aD _) (bH rfl (cI 86 rfl (by kernel_rfl) (by kernel_rfl) (aA rfl rfl rfl) rfl) (aE rfl)) (aJ 13 rfl (isV undef) (aD _) (bH rfl (cI 86 rfl (by kernel_rfl) (by kernel_rfl) (aA rfl rfl rfl) rfl) (aE rfl)) (aJ 14 rfl (isV undef) (aD _) (bH rfl (cI 86 rfl (by kernel_rfl) (by kernel_rfl) (aA rfl rfl rfl) rfl) (aE rfl)) (aJ 15 rfl (isV undef) (aD _) (bH rfl (cI 86 rfl (by kernel_rfl) (by kernel_rfl) (aA rfl rfl rfl) rfl) (aE rfl)) (aJ 16 rfl (isV undef) (aD _) (bH rfl (cI 86 rfl (by kernel_rfl) (by kernel_rfl) (aA rfl rfl rfl) rfl) (aE rfl)) (aJ 17 rfl (isV undef) (aD _) (bH rfl (cI 86 rfl (by kernel_rfl) (by kernel_rfl) (aA rfl rfl rfl) rfl) (aE rfl)) (aJ 18 rfl (isV undef) (aD _) (bH rfl (cI 86 rfl (by kernel_rfl) (by kernel_rfl) (aA rfl rfl rfl) rfl) (aE rfl)) (bP 19 rfl 86 8 rfl (by kernel_rfl) rfl rfl (fun w hw=>eV rfl rfl) rfl (bP 20 rfl 96 18 rfl (by kernel_rfl) rfl rfl (fun w hw=>aZ rfl) rfl (aJ 21 rfl (isV undef) (aD _) (bH rfl (cI 97 rfl (by kernel_rfl) (by kernel_rfl) (aA rfl rfl rfl) rfl) (aE rfl)) (aJ 22 rfl (isV undef) (aD _) (bH rfl (cI 97 rfl (by kernel_rfl) (by kernel_rfl) (aA rfl rfl rfl) rfl) (aE rfl)) (aJ 23 rfl (isV undef) (aD _) (bH rfl (cI 97 rfl (by kernel_rfl) (by kernel_rfl) (aA rfl rfl rfl) rfl) (aE rfl)) ?_))))))))))))))))))))
   refine aJ 24 rfl (isV undef) (aD _) (bH rfl (cI 97 rfl (by kernel_rfl) (by kernel_rfl) (aA rfl rfl rfl) rfl) (aE rfl)) (aJ 25 rfl (isV undef) (aD _) (bH rfl (cI 97 rfl (by kernel_rfl) (by kernel_rfl) (aA rfl rfl rfl) rfl) (aE rfl)) (aJ 26 rfl (isV undef) (aD _) (bH rfl (cI 97 rfl (by kernel_rfl) (by kernel_rfl) (aA rfl rfl rfl) rfl) (aE rfl)) (aJ 27 rfl (isV undef) (aD _) (bH rfl (cI 97 rfl (by kernel_rfl) (by kernel_rfl) (aA rfl rfl rfl) rfl) (aE rfl)) (aJ 28 rfl (isV undef) (aD _) (bH rfl (cI 97 rfl (by kernel_rfl) (by kernel_rfl) (aA rfl rfl rfl) rfl) (aE rfl)) (aJ 29 rfl (isV undef) (aD _) (bH rfl (cI 97 rfl (by kernel_rfl) (by kernel_rfl) (aA rfl rfl rfl) rfl) (aE rfl)) (bP 30 rfl 97 19 rfl (by kernel_rfl) rfl rfl (fun w hw=>eV rfl rfl) rfl (bP 31 rfl 107 29 rfl (by kernel_rfl) rfl rfl (fun w hw=>iD rfl) rfl (dV ?_))))))))
   intro W4 hbR hS'
   clear hS;have hS:=hS';clear hS'
   refine aH (aH (aH (aH (aH (aH (aH (aH (aH (aH (aH (aH (aH (aH (aH (aH (aH (aH (aH (aH (aH ?_))))))))))))))))))))
   refine aH (aH (aH (aH (aH (aH (aH (aH (aH (aH (cQ (XF.thenN (bT (XF.res (cH Tryz.results78 rfl) ?_)))))))))))))
   exact ⟨bF (by rw [← hr];unfold gO;rw [hbb,hz0,show decide (qs.length=2)=false from decide_eq_false (by have h9:qs.length=g.pl:=hw.2.1;omega)];rfl),hS.below⟩
  ·obtain ⟨h0,h1⟩:=h1;subst h0
   obtain ⟨x,y,hz,rfl,hx1⟩:=h1
   obtain ⟨hpl,b2,off2,hpa,hb2,hx6,hy6,hxi,hyi⟩:=hw.two
   obtain ⟨gz,gc,gg,gra,grl,grc,grows,gca,gcl,gcc,gcells,gpa,gpl,gpc⟩:=g
   dsimp only at hpl hpa hz
   subst hpl;subst hpa
   refine lB (m:=31) cD hS (by kernel_rfl) (by kernel_rfl) rfl (cW 1 rfl 3 rfl (by kernel_rfl) rfl (fun w hw=>aW (vs:=[_,_,_,_,_,_]) Tryz.isAgg44 Tryz.sizeOf44 rfl (aB.agree (aL hw 0) (Nat.zero_le _) (aB.own (j:=0) (m:=6) (hS.at_ 0 rfl) rfl))) rfl ?_)
   refine aJ 2 rfl (isV (.bool true)) (aD _) (cS [isV _,isV _,isV _,isV _,isV _] rfl jR (aT rfl) ⟨bZ (aQ 0 (by kernel_rfl) (aA rfl rfl rfl)),fS,fS,fS,fS,trivial⟩ (fun vs w' hb hh=>by have e:=cA (us:=[_,_,_,_,_]) hh;subst e;exact (tF _ _ hon _).mono fun e w2 h=>⟨_,h.1,rfl,h.2⟩) (aE rfl)) ?_
   refine bP 3 rfl 79 1 rfl (by kernel_rfl) rfl rfl (fun w hw=>aZ rfl) rfl (aJ 4 rfl (isV _) (aD _) (rgV (li:=[(3,_)]) rfl (cC 80 rfl (by kernel_rfl) (by kernel_rfl) (aA rfl rfl rfl)) ⟨dK (by kernel_rfl) rfl,trivial⟩ (fun w hw=>aV (o':=5) cK rfl rfl) (aE rfl)) (aJ 5 rfl (isV _) (aD _) (rgV (li:=[(81,_)]) rfl (cC 80 rfl (by kernel_rfl) (by kernel_rfl) (aA rfl rfl rfl)) ⟨aQ 3 (by kernel_rfl) (aA rfl rfl rfl),trivial⟩ (fun w hw=>bB Tryz.isAgg42 rfl ((aL hw 0).cell (Nat.zero_le _) (aK (hS.at_ 0 rfl) rfl))) (aE rfl)) (aJ 6 rfl (isV _) (aD _) (rgV (li:=[(82,_)]) rfl (cC 80 rfl (by kernel_rfl) (by kernel_rfl) (aA rfl rfl rfl)) ⟨aQ 4 (by kernel_rfl) (aA rfl rfl rfl),trivial⟩ (fun w hw=>rV Tryz.underlying42 rfl) (aE rfl)) (aJ 7 rfl (isV (.bool true)) (aD _) (oT (li:=[(83,_)]) rfl (cC 80 rfl (by kernel_rfl) (by kernel_rfl) (aA rfl rfl rfl)) ⟨aQ 5 (by kernel_rfl) (aA rfl rfl rfl),trivial⟩ (fun w hw=>rW rfl rfl) (rfl) (aE rfl)) (aJ 8 rfl (isV _) (aD _) (rgV (li:=[(80,_),(84,_)]) rfl (aT rfl) ⟨aQ 2 (by kernel_rfl) (aA rfl rfl rfl),aQ 6 (by kernel_rfl) (aA rfl rfl rfl),trivial⟩ (fun w hw=>eU rfl rfl) (aE rfl)) (bP 9 rfl 85 7 rfl (by kernel_rfl) rfl rfl (fun w hw=>aZ rfl) rfl (aJ 10 rfl (isV _) (aD _) (rgV (li:=[(2,_)]) rfl (cC 86 rfl (by kernel_rfl) (by kernel_rfl) (aA rfl rfl rfl)) ⟨dK (by kernel_rfl) rfl,trivial⟩ (fun w hw=>aV (o':=2) fT rfl rfl) (aE rfl)) (aJ 11 rfl (isV _) (aD _) (rgV (li:=[(87,_)]) rfl (cC 86 rfl (by kernel_rfl) (by kernel_rfl) (aA rfl rfl rfl)) ⟨aQ 9 (by kernel_rfl) (aA rfl rfl rfl),trivial⟩ (fun w hw=>bB Tryz.isAgg23 rfl ((aL hw 0).cell (Nat.zero_le _) (aK (hS.at_ 1 rfl) rfl))) (aE rfl)) ?_))))))))
   refine aJ 12 rfl (isV _) (aD _) (rgV (li:=[(88,_)]) rfl (cC 86 rfl (by kernel_rfl) (by kernel_rfl) (aA rfl rfl rfl)) ⟨aQ 10 (by kernel_rfl) (aA rfl rfl rfl),trivial⟩ (fun w hw=>bC (j:=0) Tryz.underlying23 Tryz.sizeOf25 rfl rfl rfl (by show _ < 2;decide) (Nat.add_zero _)) (aE rfl)) ?_
   refine aJ 13 rfl (isV _) (aD _) (rgV (li:=[(89,_)]) rfl (cC 86 rfl (by kernel_rfl) (by kernel_rfl) (aA rfl rfl rfl)) ⟨aQ 11 (by kernel_rfl) (aA rfl rfl rfl),trivial⟩ (fun w hw=>aW (vs:=[_,_,_]) Tryz.isAgg25 Tryz.sizeOf25 rfl (aB.agree (aL hw 0) (Nat.zero_le _) (aB.agree hS.agree (Nat.zero_le _) hp3.cells))) (aE rfl)) (aJ 14 rfl (isV _) (aD _) (rgV (li:=[(3,_)]) rfl (cC 86 rfl (by kernel_rfl) (by kernel_rfl) (aA rfl rfl rfl)) ⟨dK (by kernel_rfl) rfl,trivial⟩ (fun w hw=>aV (o':=5) cK rfl rfl) (aE rfl)) (aJ 15 rfl (isV _) (aD _) (rgV (li:=[(91,_)]) rfl (cC 86 rfl (by kernel_rfl) (by kernel_rfl) (aA rfl rfl rfl)) ⟨aQ 13 (by kernel_rfl) (aA rfl rfl rfl),trivial⟩ (fun w hw=>bB Tryz.isAgg42 rfl ((aL hw 0).cell (Nat.zero_le _) (aK (hS.at_ 0 rfl) rfl))) (aE rfl)) ?_))
   refine aJ 16 rfl (isV _) (aD _) (rgV (li:=[(92,_)]) rfl (cC 86 rfl (by kernel_rfl) (by kernel_rfl) (aA rfl rfl rfl)) ⟨aQ 14 (by kernel_rfl) (aA rfl rfl rfl),trivial⟩ (fun w hw=>bC (j:=0) Tryz.underlying42 Tryz.sizeOf44 rfl rfl rfl (by show _ < 2;decide) (Nat.add_zero _)) (aE rfl)) ?_
   refine aJ 17 rfl (isV _) (aD _) (rgV (li:=[(93,_)]) rfl (cC 86 rfl (by kernel_rfl) (by kernel_rfl) (aA rfl rfl rfl)) ⟨aQ 15 (by kernel_rfl) (aA rfl rfl rfl),trivial⟩ (fun w hw=>aW (vs:=[_,_,_,_,_,_]) Tryz.isAgg44 Tryz.sizeOf44 rfl (aB.agree (aL hw 0) (Nat.zero_le _) (aB.agree hS.agree (Nat.zero_le _) hx6.cells))) (aE rfl)) ?_
   refine aJ 18 rfl (isV (.bool false)) (aD _) (cS [isV _,isV _] rfl tA (cC 86 rfl (by kernel_rfl) (by kernel_rfl) (aA rfl rfl rfl)) ⟨bZ (aQ 12 (by kernel_rfl) (aA rfl rfl rfl)),bZ (aQ 16 (by kernel_rfl) (aA rfl rfl rfl)),trivial⟩ (fun vs w' hb hh=>by have e:=cA (us:=[_,_]) hh;subst e;exact (lT p.f.tag p.f.dim p.f.a p.f.len p.f.cap x.f hp (Nat.zero_le _) _ (hxi.at_.below (hS.below.trans (hb.mono hS.below.size))) _ hx1).mono fun e w2 h=>⟨_,h.1,rfl,h.2⟩) (aE rfl)) ?_
   refine aJ 19 rfl (isV _) (aD _) (rgV (li:=[(86,_),(95,_)]) rfl (aT rfl) ⟨aQ 8 (by kernel_rfl) (aA rfl rfl rfl),aQ 17 (by kernel_rfl) (aA rfl rfl rfl),trivial⟩ (fun w hw=>eU rfl rfl) (aE rfl)) (bP 20 rfl 96 18 rfl (by kernel_rfl) rfl rfl (fun w hw=>aZ rfl) rfl (aJ 21 rfl (isV undef) (aD _) (bH rfl (cI 97 rfl (by kernel_rfl) (by kernel_rfl) (aA rfl rfl rfl) rfl) (aE rfl)) (aJ 22 rfl (isV undef) (aD _) (bH rfl (cI 97 rfl (by kernel_rfl) (by kernel_rfl) (aA rfl rfl rfl) rfl) (aE rfl)) (aJ 23 rfl (isV undef) (aD _) (bH rfl (cI 97 rfl (by kernel_rfl) (by kernel_rfl) (aA rfl rfl rfl) rfl) (aE rfl)) (aJ 24 rfl (isV undef) (aD _) (bH rfl (cI 97 rfl (by kernel_rfl) (by kernel_rfl) (aA rfl rfl rfl) rfl) (aE rfl)) (aJ 25 rfl (isV undef) (aD _) (bH rfl (cI 97 rfl (by kernel_rfl) (by kernel_rfl) (aA rfl rfl rfl) rfl) (aE rfl)) (aJ 26 rfl (isV undef) (aD _) (bH rfl (cI 97 rfl (by kernel_rfl) (by kernel_rfl) (aA rfl rfl rfl) rfl) (aE rfl)) (aJ 27 rfl (isV undef) (aD _) (bH rfl (cI 97 rfl (by kernel_rfl) (by kernel_rfl) (aA rfl rfl rfl) rfl) (aE rfl)) (aJ 28 rfl (isV undef) (aD _) (bH rfl (cI 97 rfl (by kernel_rfl) (by kernel_rfl) (aA rfl rfl rfl) rfl) (aE rfl)) (aJ 29 rfl (isV undef) (aD _) (bH rfl (cI 97 rfl (by kernel_rfl) (by kernel_rfl) (aA rfl rfl rfl) rfl) (aE rfl)) (bP 30 rfl 97 19 rfl (by kernel_rfl) rfl rfl (fun w hw=>eV rfl rfl) rfl (bP 31 rfl 107 29 rfl (by kernel_rfl) rfl rfl (fun w hw=>iD rfl) rfl (dV ?_)))))))))))))
   intro W5 hbR hS'
   clear hS;have hS:=hS';clear hS'
   refine aH (aH (aH (aH (aH (aH (aH (aH (aH (aH (aH (aH (aH (aH (aH (aH (aH (aH (aH (aH (aH ?_))))))))))))))))))))
   refine aH (aH (aH (aH (aH (aH (aH (aH (aH (aH (cQ (XF.thenN (bT (XF.res (cH Tryz.results78 rfl) ?_)))))))))))))
   exact ⟨bF (by rw [← hr];unfold gO;rw [hbb];show _=(true && (!gz && (true && (fD p.f.tag p.f.dim x.f && fD q.f.tag q.f.dim y.f))));rw [hz,hx1];rfl),hS.below⟩
  ·obtain ⟨h0,h1⟩:=h1;subst h0
   obtain ⟨x,y,hz,rfl,hx1⟩:=h1
   obtain ⟨hpl,b2,off2,hpa,hb2,hx6,hy6,hxi,hyi⟩:=hw.two
   obtain ⟨gz,gc,gg,gra,grl,grc,grows,gca,gcl,gcc,gcells,gpa,gpl,gpc⟩:=g
   dsimp only at hpl hpa hz
   subst hpl;subst hpa
   refine lB (m:=31) cD hS (by kernel_rfl) (by kernel_rfl) rfl (cW 1 rfl 3 rfl (by kernel_rfl) rfl (fun w hw=>aW (vs:=[_,_,_,_,_,_]) Tryz.isAgg44 Tryz.sizeOf44 rfl (aB.agree (aL hw 0) (Nat.zero_le _) (aB.own (j:=0) (m:=6) (hS.at_ 0 rfl) rfl))) rfl ?_)
   refine aJ 2 rfl (isV (.bool true)) (aD _) (cS [isV _,isV _,isV _,isV _,isV _] rfl jR (aT rfl) ⟨bZ (aQ 0 (by kernel_rfl) (aA rfl rfl rfl)),fS,fS,fS,fS,trivial⟩ (fun vs w' hb hh=>by have e:=cA (us:=[_,_,_,_,_]) hh;subst e;exact (tF _ _ hon _).mono fun e w2 h=>⟨_,h.1,rfl,h.2⟩) (aE rfl)) ?_
   refine bP 3 rfl 79 1 rfl (by kernel_rfl) rfl rfl (fun w hw=>aZ rfl) rfl (aJ 4 rfl (isV _) (aD _) (rgV (li:=[(3,_)]) rfl (cC 80 rfl (by kernel_rfl) (by kernel_rfl) (aA rfl rfl rfl)) ⟨dK (by kernel_rfl) rfl,trivial⟩ (fun w hw=>aV (o':=5) cK rfl rfl) (aE rfl)) (aJ 5 rfl (isV _) (aD _) (rgV (li:=[(81,_)]) rfl (cC 80 rfl (by kernel_rfl) (by kernel_rfl) (aA rfl rfl rfl)) ⟨aQ 3 (by kernel_rfl) (aA rfl rfl rfl),trivial⟩ (fun w hw=>bB Tryz.isAgg42 rfl ((aL hw 0).cell (Nat.zero_le _) (aK (hS.at_ 0 rfl) rfl))) (aE rfl)) (aJ 6 rfl (isV _) (aD _) (rgV (li:=[(82,_)]) rfl (cC 80 rfl (by kernel_rfl) (by kernel_rfl) (aA rfl rfl rfl)) ⟨aQ 4 (by kernel_rfl) (aA rfl rfl rfl),trivial⟩ (fun w hw=>rV Tryz.underlying42 rfl) (aE rfl)) (aJ 7 rfl (isV (.bool true)) (aD _) (oT (li:=[(83,_)]) rfl (cC 80 rfl (by kernel_rfl) (by kernel_rfl) (aA rfl rfl rfl)) ⟨aQ 5 (by kernel_rfl) (aA rfl rfl rfl),trivial⟩ (fun w hw=>rW rfl rfl) (rfl) (aE rfl)) (aJ 8 rfl (isV _) (aD _) (rgV (li:=[(80,_),(84,_)]) rfl (aT rfl) ⟨aQ 2 (by kernel_rfl) (aA rfl rfl rfl),aQ 6 (by kernel_rfl) (aA rfl rfl rfl),trivial⟩ (fun w hw=>eU rfl rfl) (aE rfl)) (bP 9 rfl 85 7 rfl (by kernel_rfl) rfl rfl (fun w hw=>aZ rfl) rfl (aJ 10 rfl (isV _) (aD _) (rgV (li:=[(2,_)]) rfl (cC 86 rfl (by kernel_rfl) (by kernel_rfl) (aA rfl rfl rfl)) ⟨dK (by kernel_rfl) rfl,trivial⟩ (fun w hw=>aV (o':=2) fT rfl rfl) (aE rfl)) (aJ 11 rfl (isV _) (aD _) (rgV (li:=[(87,_)]) rfl (cC 86 rfl (by kernel_rfl) (by kernel_rfl) (aA rfl rfl rfl)) ⟨aQ 9 (by kernel_rfl) (aA rfl rfl rfl),trivial⟩ (fun w hw=>bB Tryz.isAgg23 rfl ((aL hw 0).cell (Nat.zero_le _) (aK (hS.at_ 1 rfl) rfl))) (aE rfl)) ?_))))))))
   refine aJ 12 rfl (isV _) (aD _) (rgV (li:=[(88,_)]) rfl (cC 86 rfl (by kernel_rfl) (by kernel_rfl) (aA rfl rfl rfl)) ⟨aQ 10 (by kernel_rfl) (aA rfl rfl rfl),trivial⟩ (fun w hw=>bC (j:=0) Tryz.underlying23 Tryz.sizeOf25 rfl rfl rfl (by show _ < 2;decide) (Nat.add_zero _)) (aE rfl)) ?_
   refine aJ 13 rfl (isV _) (aD _) (rgV (li:=[(89,_)]) rfl (cC 86 rfl (by kernel_rfl) (by kernel_rfl) (aA rfl rfl rfl)) ⟨aQ 11 (by kernel_rfl) (aA rfl rfl rfl),trivial⟩ (fun w hw=>aW (vs:=[_,_,_]) Tryz.isAgg25 Tryz.sizeOf25 rfl (aB.agree (aL hw 0) (Nat.zero_le _) (aB.agree hS.agree (Nat.zero_le _) hp3.cells))) (aE rfl)) (aJ 14 rfl (isV _) (aD _) (rgV (li:=[(3,_)]) rfl (cC 86 rfl (by kernel_rfl) (by kernel_rfl) (aA rfl rfl rfl)) ⟨dK (by kernel_rfl) rfl,trivial⟩ (fun w hw=>aV (o':=5) cK rfl rfl) (aE rfl)) (aJ 15 rfl (isV _) (aD _) (rgV (li:=[(91,_)]) rfl (cC 86 rfl (by kernel_rfl) (by kernel_rfl) (aA rfl rfl rfl)) ⟨aQ 13 (by kernel_rfl) (aA rfl rfl rfl),trivial⟩ (fun w hw=>bB Tryz.isAgg42 rfl ((aL hw 0).cell (Nat.zero_le _) (aK (hS.at_ 0 rfl) rfl))) (aE rfl)) ?_))
   refine aJ 16 rfl (isV _) (aD _) (rgV (li:=[(92,_)]) rfl (cC 86 rfl (by kernel_rfl) (by kernel_rfl) (aA rfl rfl rfl)) ⟨aQ 14 (by kernel_rfl) (aA rfl rfl rfl),trivial⟩ (fun w hw=>bC (j:=0) Tryz.underlying42 Tryz.sizeOf44 rfl rfl rfl (by show _ < 2;decide) (Nat.add_zero _)) (aE rfl)) ?_
   refine aJ 17 rfl (isV _) (aD _) (rgV (li:=[(93,_)]) rfl (cC 86 rfl (by kernel_rfl) (by kernel_rfl) (aA rfl rfl rfl)) ⟨aQ 15 (by kernel_rfl) (aA rfl rfl rfl),trivial⟩ (fun w hw=>aW (vs:=[_,_,_,_,_,_]) Tryz.isAgg44 Tryz.sizeOf44 rfl (aB.agree (aL hw 0) (Nat.zero_le _) (aB.agree hS.agree (Nat.zero_le _) hx6.cells))) (aE rfl)) ?_
   refine aJ 18 rfl (isV (.bool true)) (aD _) (cS [isV _,isV _] rfl tA (cC 86 rfl (by kernel_rfl) (by kernel_rfl) (aA rfl rfl rfl)) ⟨bZ (aQ 12 (by kernel_rfl) (aA rfl rfl rfl)),bZ (aQ 16 (by kernel_rfl) (aA rfl rfl rfl)),trivial⟩ (fun vs w' hb hh=>by have e:=cA (us:=[_,_]) hh;subst e;exact (lT p.f.tag p.f.dim p.f.a p.f.len p.f.cap x.f hp (Nat.zero_le _) _ (hxi.at_.below (hS.below.trans (hb.mono hS.below.size))) _ hx1).mono fun e w2 h=>⟨_,h.1,rfl,h.2⟩) (aE rfl)) ?_
   refine aJ 19 rfl (isV _) (aD _) (rgV (li:=[(86,_),(95,_)]) rfl (aT rfl) ⟨aQ 8 (by kernel_rfl) (aA rfl rfl rfl),aQ 17 (by kernel_rfl) (aA rfl rfl rfl),trivial⟩ (fun w hw=>eU rfl rfl) (aE rfl)) (bP 20 rfl 96 18 rfl (by kernel_rfl) rfl rfl (fun w hw=>aZ rfl) rfl (aJ 21 rfl (isV _) (aD _) (rgV (li:=[(2,_)]) rfl (cC 97 rfl (by kernel_rfl) (by kernel_rfl) (aA rfl rfl rfl)) ⟨dK (by kernel_rfl) rfl,trivial⟩ (fun w hw=>aV (o':=2) fT rfl rfl) (aE rfl)) (aJ 22 rfl (isV _) (aD _) (rgV (li:=[(98,_)]) rfl (cC 97 rfl (by kernel_rfl) (by kernel_rfl) (aA rfl rfl rfl)) ⟨aQ 20 (by kernel_rfl) (aA rfl rfl rfl),trivial⟩ (fun w hw=>bB Tryz.isAgg23 rfl ((aL hw 0).cell (Nat.zero_le _) (aK (hS.at_ 1 rfl) rfl))) (aE rfl)) ?_)))
   refine aJ 23 rfl (isV _) (aD _) (rgV (li:=[(99,_)]) rfl (cC 97 rfl (by kernel_rfl) (by kernel_rfl) (aA rfl rfl rfl)) ⟨aQ 21 (by kernel_rfl) (aA rfl rfl rfl),trivial⟩ (fun w hw=>bC (j:=1) Tryz.underlying23 Tryz.sizeOf25 rfl rfl rfl (by show _ < 2;decide) rfl) (aE rfl)) ?_
   refine aJ 24 rfl (isV _) (aD _) (rgV (li:=[(100,_)]) rfl (cC 97 rfl (by kernel_rfl) (by kernel_rfl) (aA rfl rfl rfl)) ⟨aQ 22 (by kernel_rfl) (aA rfl rfl rfl),trivial⟩ (fun w hw=>aW (vs:=[_,_,_]) Tryz.isAgg25 Tryz.sizeOf25 rfl (aB.agree (aL hw 0) (Nat.zero_le _) (aB.agree hS.agree (Nat.zero_le _) hq3.cells))) (aE rfl)) (aJ 25 rfl (isV _) (aD _) (rgV (li:=[(3,_)]) rfl (cC 97 rfl (by kernel_rfl) (by kernel_rfl) (aA rfl rfl rfl)) ⟨dK (by kernel_rfl) rfl,trivial⟩ (fun w hw=>aV (o':=5) cK rfl rfl) (aE rfl)) (aJ 26 rfl (isV _) (aD _) (rgV (li:=[(102,_)]) rfl (cC 97 rfl (by kernel_rfl) (by kernel_rfl) (aA rfl rfl rfl)) ⟨aQ 24 (by kernel_rfl) (aA rfl rfl rfl),trivial⟩ (fun w hw=>bB Tryz.isAgg42 rfl ((aL hw 0).cell (Nat.zero_le _) (aK (hS.at_ 0 rfl) rfl))) (aE rfl)) ?_))
   refine aJ 27 rfl (isV _) (aD _) (rgV (li:=[(103,_)]) rfl (cC 97 rfl (by kernel_rfl) (by kernel_rfl) (aA rfl rfl rfl)) ⟨aQ 25 (by kernel_rfl) (aA rfl rfl rfl),trivial⟩ (fun w hw=>bC (j:=1) Tryz.underlying42 Tryz.sizeOf44 rfl rfl rfl (by show _ < 2;decide) rfl) (aE rfl)) ?_
   refine aJ 28 rfl (isV _) (aD _) (rgV (li:=[(104,_)]) rfl (cC 97 rfl (by kernel_rfl) (by kernel_rfl) (aA rfl rfl rfl)) ⟨aQ 26 (by kernel_rfl) (aA rfl rfl rfl),trivial⟩ (fun w hw=>aW (vs:=[_,_,_,_,_,_]) Tryz.isAgg44 Tryz.sizeOf44 rfl (aB.agree (aL hw 0) (Nat.zero_le _) (aB.agree hS.agree (Nat.zero_le _) hy6.cells))) (aE rfl)) ?_
   refine aJ 29 rfl (isV (.bool (fD q.f.tag q.f.dim y.f))) (aD _) (cS [isV _,isV _] rfl tA (cC 97 rfl (by kernel_rfl) (by kernel_rfl) (aA rfl rfl rfl)) ⟨bZ (aQ 23 (by kernel_rfl) (aA rfl rfl rfl)),bZ (aQ 27 (by kernel_rfl) (aA rfl rfl rfl)),trivial⟩ (fun vs w' hb hh=>by have e:=cA (us:=[_,_]) hh;subst e;exact (lT q.f.tag q.f.dim q.f.a q.f.len q.f.cap y.f hq (Nat.zero_le _) _ (hyi.at_.below (hS.below.trans (hb.mono hS.below.size))) _ rfl).mono fun e w2 h=>⟨_,h.1,rfl,h.2⟩) (aE rfl)) ?_
   refine aJ 30 rfl (isV _) (aD _) (rgV (li:=[(97,_),(106,_)]) rfl (aT rfl) ⟨aQ 19 (by kernel_rfl) (aA rfl rfl rfl),aQ 28 (by kernel_rfl) (aA rfl rfl rfl),trivial⟩ (fun w hw=>eU rfl rfl) (aE rfl)) (bP 31 rfl 107 29 rfl (by kernel_rfl) rfl rfl (fun w hw=>iD rfl) rfl (dV ?_))
   intro W6 hbR hS'
   clear hS;have hS:=hS';clear hS'
   refine aH (aH (aH (aH (aH (aH (aH (aH (aH (aH (aH (aH (aH (aH (aH (aH (aH (aH (aH (aH (aH ?_))))))))))))))))))))
   refine aH (aH (aH (aH (aH (aH (aH (aH (aH (aH (cQ (XF.thenN (bT (XF.res (cH Tryz.results78 rfl) ?_)))))))))))))
   exact ⟨bF (by rw [← hr];unfold gO;rw [hbb];show _=(true && (!gz && (true && (fD p.f.tag p.f.dim x.f && fD q.f.tag q.f.dim y.f))));rw [hz,hx1];rfl),hS.below⟩
end Go.Proofs.YtmgnkpibpjgncaaGreatDoor
namespace Go.Proofs.YtmgnkpibpjgncaaGreatDoor
open Go.RowKit
attribute [local go_sem ↓] Go.wp_at_zero Go.wp_at_succ
theorem vY {w:World} {base:Nat} {v:Value} {n:Nat} {rows:List Nat} (h:w.ownsRow base 37 1 v n (u64s rows)) :
  n=rows.length∧∃ a cap,v = .slice a n cap∧eS w a (u64s rows)∧∀ ad,a=some ad→base≤ad.block:=by
 have hl:=h.1
 rw [fM] at hl
 refine ⟨by omega,?_⟩
 rcases h.2 with ⟨rfl,hn⟩ | ⟨g,cap,cur,rfl,hg,hh,h1,h2,h3,h4⟩
 ·have:rows=[]:=List.length_eq_zero_iff.1 (by omega)
  subst this
  exact ⟨none,0,by rw [hn],.inl rfl,fun ad e=>by cases e⟩
 ·refine ⟨some ⟨g,0,none⟩,cap,rfl,.inr ⟨g,0,rfl,fun i u hi=>?_⟩,fun ad e=>by cases e;exact hg⟩
  rw [← h4] at hi
  rw [List.getElem?_take] at hi
  split at hi
  ·unfold World.cell?
   simp only [hh,Nat.zero_add]
   simpa using hi
  ·cases hi
theorem PIs.rows64 {w:World} {t n:Int} {l:Nat} {f:WF} {a:PF} (h:PIs w t n f a):f.rl≤64∧f.cl≤64:=by
 have h1:=h.at_.rl;have h2:=h.at_.cl;have h3:=h.pf;have h4:=h.ok
 subst h3
 unfold WF.pf at h4
 generalize hr:f.rows=rows at *
 generalize hc:f.cells=cells at *
 generalize f.g=g at *
 generalize f.z=z at *
 generalize f.c=c at *
 have key:rows.length≤64∧cells.length≤64:=by
  generalize hp:(⟨z,c,g,rows,cells⟩:PF)=p at h4
  cases h4 with
  | zero=>cases hp;exact ⟨by decide,by decide⟩
  | bool h=>cases hp;exact ⟨by decide,by decide⟩
  | cost c h h0 h1=>cases hp;exact ⟨by decide,by decide⟩
  | facts m g rows h hn hg=>cases hp;exact ⟨by rw [hg.hl];exact hg.hm,by decide⟩
  | cells m cs h hn hv=>cases hp;exact ⟨by decide,by rw [hv.len];exact hv.le⟩
 omega
theorem Bz (a:Option Addr) (cap:Nat) (cs:List Cl) (w:World) (hm:cs.length≤64) (hrow:eM w a cs) (n:Nat) (hn:cs.length=n) :
  Calls Tryz.prog 158 #[.slice a n cap] w fun e w'=>∃ a2 c2,e = .returned (.slice a2 n c2)∧eM w' a2 cs∧(∀ ad,a2=some ad→w.heap.size≤ad.block)∧Below w.heap.size w w':=by
 subst hn
 refine (Bh a cap cs w hm hrow).mono ?_
 rintro e w' ⟨v,rfl,hown,hb⟩
 obtain ⟨_,a2,c2,rfl,hr,hl⟩:=iW hown
 exact ⟨a2,c2,rfl,hr,fun ad e=>(hl ad e).1,hb⟩
theorem jS (t n:Int) (f:WF) (x:PF) (w:World) (h:PIs w t n f x) :
  Calls Tryz.prog 137 #[f.val] w fun e w'=>∃ g:WF,e = .returned g.val∧PNew w.heap.size w' t n g x∧Below w.heap.size w w':=by
 obtain ⟨r64,c64⟩:=h.rows64 (l:=0)
 have HI:=Lib.hid h
 have hrl:=h.at_.rl;have hcl:=h.at_.cl;have hpl:=h.pl
 obtain ⟨z,c,g,ra,rl,rc,rows,ca,cl,cc,cells,pa,pl,pc⟩:=f
 dsimp only at hrl hcl hpl r64 c64
 subst hpl
 show Calls Tryz.prog 137 #[.agg #[.bool z,.int .i64 c,.int .u64 (g:Int),.slice ra rl rc,.slice ca cl cc,.slice pa 0 pc]] w _
 have HRL:=Lib.hid hrl;have HCL:=Lib.hid hcl
 obtain ⟨t0,t1⟩:=lO w #[.bool z,.int .i64 c,.int .u64 (g:Int),.slice ra rl rc,.slice ca cl cc,.slice pa 0 pc] #[.bool false,.int .i64 0,.int .u64 0,.slice none 0 0,.slice none 0 0,.slice none 0 0] 44 44
 have T0:=Lib.hid t0;have T1:=Lib.hid t1
 have hB:=Lib.hid (Mh w #[.bool z,.int .i64 c,.int .u64 (g:Int),.slice ra rl rc,.slice ca cl cc,.slice pa 0 pc] #[.bool false,.int .i64 0,.int .u64 0,.slice none 0 0,.slice none 0 0,.slice none 0 0] 44 44)
 have hsz:((w.alloc (.cells #[.bool z,.int .i64 c,.int .u64 (g:Int),.slice ra rl rc,.slice ca cl cc,.slice pa 0 pc] 44)).alloc (.cells #[.bool false,.int .i64 0,.int .u64 0,.slice none 0 0,.slice none 0 0,.slice none 0 0] 44)).heap.size=w.heap.size+1+1:=by simp
 obtain ⟨W0,hW0⟩:∃ W,(w.alloc (.cells #[.bool z,.int .i64 c,.int .u64 (g:Int),.slice ra rl rc,.slice ca cl cc,.slice pa 0 pc] 44)).alloc (.cells #[.bool false,.int .i64 0,.int .u64 0,.slice none 0 0,.slice none 0 0,.slice none 0 0] 44)=W:=⟨_,rfl⟩
 rw [hW0] at hB T0 T1 hsz
 have HSZ:=Lib.hid hsz
 obtain ⟨x0,x1,x2,x3,x4,x5⟩:=eP T0.out
 have HAT:Hid (WF.At w ⟨z,c,g,ra,rl,rc,rows,ca,cl,cc,cells,pa,0,pc⟩):=h.at_
 have R64:=Lib.hid r64;have C64:=Lib.hid c64
 clear t0 t1 hsz h hrl hcl r64 c64
 go_enter Tryz.func137,Tryz.ntmps137
 go_wp2_with fail
 refine (xV ra rc rows _ (by rw [HRL.out];exact Nat.le_trans R64.out (by decide)) (HAT.out.rows.below hB.out) rl HRL.out).mono ?_
 rintro e w1 ⟨v,rfl,hown,hb1⟩
 obtain ⟨a1,c1,rfl,hv1,hl1⟩:=(vY hown).2
 have HV1:=Lib.hid hv1;have HL1:=Lib.hid hl1
 clear hown hv1 hl1 x0 x1 x2 x3 x4 x5
 have U0:=Lib.hid (cF T0.out hb1);have U1:=Lib.hid (cF T1.out hb1)
 have hB1:=Lib.hid (hB.out.trans (hb1.mono hB.out.size))
 obtain ⟨x0,x1,x2,x3,x4,x5⟩:=eP U0.out
 have f3:=dZ U0.out 3
 have V0:=Lib.hid (heap_setCell_same w1 w.heap.size 3 _ _ (.slice a1 rl c1) U0.out)
 have hne:w.heap.size+1≠w.heap.size:=by omega
 have V1:=Lib.hid (dL (B:=w.heap.size) (j:=3) (c:=.slice a1 rl c1) U1.out hne)
 have hB2:=Lib.hid (hB1.out.setCell (p:=⟨w.heap.size,3,none⟩) (Nat.le_refl _) (.slice a1 rl c1))
 have hs1:W0.heap.size≤(w1.setCell ⟨w.heap.size,3,none⟩ (.slice a1 rl c1)).heap.size:=by simpa [World.setCell] using hb1.size
 have HS1:=Lib.hid hs1
 obtain ⟨W1,hW1⟩:∃ W,w1.setCell ⟨w.heap.size,3,none⟩ (.slice a1 rl c1)=W:=⟨_,rfl⟩
 have HA1:=Lib.hid (HV1.out.above HL1.out ((jP.refl W0.heap.size w1).setCell (p:=⟨w.heap.size,3,none⟩) (by have:=HSZ.out;show w.heap.size < _;omega) (.slice a1 rl c1)))
 rw [hW1] at V0 V1 hB2 HS1 HA1
 clear hs1 hne x0 x1 x2 x4 x5
 obtain ⟨y0,y1,y2,y3,y4,y5⟩:=eP V0.out
 go_wp2_with fail
 refine (Bz ca cc cells _ (by rw [HCL.out];exact C64.out) (HAT.out.cells.below hB2.out) cl HCL.out).mono ?_
 rintro e w2 ⟨a2,c2,rfl,hv2,hl2,hb2⟩
 have HV2:=Lib.hid hv2;have HL2:=Lib.hid hl2
 clear hv2 hl2 x3 y0 y1 y2 y3 y4 y5 f3
 have Y0:=Lib.hid (cF V0.out hb2);have Y1:=Lib.hid (cF V1.out hb2)
 obtain ⟨x0,x1,x2,x3,x4,x5⟩:=eP Y0.out
 have f4:=dZ Y0.out 4
 have hB3:=Lib.hid (hB2.out.trans (hb2.mono hB2.out.size))
 have Z0:=Lib.hid (heap_setCell_same w2 w.heap.size 4 _ _ (.slice a2 cl c2) Y0.out)
 have hne:w.heap.size+1≠w.heap.size:=by omega
 have Z1:=Lib.hid (dL (B:=w.heap.size) (j:=4) (c:=.slice a2 cl c2) Y1.out hne)
 have hB4:=Lib.hid (hB3.out.setCell (p:=⟨w.heap.size,4,none⟩) (Nat.le_refl _) (.slice a2 cl c2))
 have HR1:=Lib.hid ((HA1.out.below hb2).above HL1.out ((jP.refl W0.heap.size w2).setCell (p:=⟨w.heap.size,4,none⟩) (by have:=HSZ.out;show w.heap.size < _;omega) (.slice a2 cl c2)))
 have HL3:Hid (∀ ad,a2=some ad→W0.heap.size≤ad.block):=fun ad e=>Nat.le_trans HS1.out (HL2.out ad e)
 have HR2:=Lib.hid (HV2.out.above HL3.out ((jP.refl W0.heap.size w2).setCell (p:=⟨w.heap.size,4,none⟩) (by have:=HSZ.out;show w.heap.size < _;omega) (.slice a2 cl c2)))
 obtain ⟨W2,hW2⟩:∃ W,w2.setCell ⟨w.heap.size,4,none⟩ (.slice a2 cl c2)=W:=⟨_,rfl⟩
 rw [hW2] at Z0 Z1 hB4 HR1 HR2
 clear hne
 obtain ⟨p0,p1,p2,p3,p4,p5⟩:=eP Z0.out
 have f5:=dZ Z0.out 5
 go_wp2_with fail
 go_loopw [3,19] (fun p i wr=>p = .slice none 0 0∧i = .int .i64 0∧W2=wr) (fun _ _ _=>0)
 case atStart=>exact ⟨rfl,rfl,rfl⟩
 case round =>
  obtain ⟨rfl,rfl,rfl⟩:=hrel
  have N0:=Lib.hid (heap_setCell_same W2 w.heap.size 5 _ _ (.slice none 0 0) Z0.out)
  have hne:w.heap.size+1≠w.heap.size:=by omega
  have N1:=Lib.hid (dL (B:=w.heap.size) (j:=5) (c:=.slice none 0 0) Z1.out hne)
  obtain ⟨W3,hW3⟩:∃ W,W2.setCell ⟨w.heap.size,5,none⟩ (.slice none 0 0)=W:=⟨_,rfl⟩
  rw [hW3] at N0 N1
  have K0:=N0.out
  obtain ⟨q0,q1,q2,q3,q4,q5⟩:=eP N0.out
  obtain ⟨r0,r1,r2,r3,r4,r5⟩:=eP N1.out
  have g0:=dZ N1.out 0;have g1:=dZ N1.out 1;have g2:=dZ N1.out 2;have g3:=dZ N1.out 3;have g4:=dZ N1.out 4;have g5:=dZ N1.out 5
  have hA3:jP W0.heap.size W2 W3:=by rw [← hW3];exact (jP.refl W0.heap.size W2).setCell (p:=⟨w.heap.size,5,none⟩) (by have:=HSZ.out;show w.heap.size < _;omega) _
  have HA3:=Lib.hid hA3
  have hB5:Hid (Below w.heap.size w W3):=by show Below _ _ _;rw [← hW3];exact hB4.out.setCell (p:=⟨w.heap.size,5,none⟩) (Nat.le_refl _) _
  clear K0 hne hA3
  go_wp2_with fail
  have NS:=Lib.hid (Ko (v0:=.bool z) (v1:=.int .i64 c) (v2:=.int .u64 (g:Int)) (v3:=.slice a1 rl c1) (v4:=.slice a2 cl c2) (v5:=.slice none 0 0) N1.out)
  obtain ⟨s0,s1,s2,s3,s4,s5⟩:=eP NS.out
  have hlt:=HSZ.out
  refine bodyPost_ret (v:=.agg #[.bool z,.int .i64 c,.int .u64 (g:Int),.slice a1 rl c1,.slice a2 cl c2,.slice none 0 0]) ?_ rfl ⟨⟨z,c,g,a1,rl,c1,rows,a2,cl,c2,cells,none,0,0⟩,rfl,?_,yL _ _ _ _ _ _ hB5.out (Nat.le_succ _)⟩
  rotate_left
  ·have hA6:=sI (.bool z) (.int .i64 c) (.int .u64 (g:Int)) (.slice a1 rl c1) (.slice a2 cl c2) (.slice none 0 0) HA3.out (B:=w.heap.size+1) (by omega)
   have hAt:=WF.At.mk (f:=⟨z,c,g,a1,rl,c1,rows,a2,cl,c2,cells,none,0,0⟩) (HR1.out.above HL1.out hA6) HRL.out HAT.out.g64 HAT.out.r64 (HR2.out.above HL3.out hA6) HCL.out HAT.out.bits HAT.out.cmax
   have hPf:WF.pf ⟨z,c,g,a1,rl,c1,rows,a2,cl,c2,cells,none,0,0⟩=x:=HI.out.pf
   exact (PNew.mk (n:=W0.heap.size) ⟨hAt,hPf,HI.out.ok,rfl⟩ HL1.out HL3.out).mono (by omega)
  ·simp [results,Tryz.results137,go_sem,s0,s1,s2,s3,s4,s5]
end Go.Proofs.YtmgnkpibpjgncaaGreatDoor
namespace Go.Proofs.YtmgnkpibpjgncaaGreatDoor
open Go Go.RowKit
theorem both_is (d:Int) (a b:Option Addr) (capa capb:Nat) (xs ys:List Cl) (w:World) (hma:xs.length≤maxLen) (hmb:ys.length≤maxLen) (hra:eM w a xs) (hrb:eM w b ys) (hba:nW xs) (hbb:nW ys) (c:Int) (hc:mI d xs ys=c) (la lb:Nat) (hla:xs.length=la) (hlb:ys.length=lb) :
  Calls Tryz.prog 140 #[.int .i64 d,.slice a la capa,.slice b lb capb] w (jN (rN d xs ys) c w):=by
 subst hla;subst hlb;exact M2 d a b capa capb xs ys w hma hmb hra hrb hba hbb c hc
theorem one4_is (m:Nat) (hm:m≤64) (w:World):Calls Tryz.prog 147 #[.int .i64 (m:Int)] w (jN (gY m) 0 w):=by
 have h0:oU (m:Int)=0:=by unfold oU;rw [if_neg (by omega)]
 have:=one_any (m:Int) w 0 h0
 rwa [show yF (m:Int)=gY m by unfold yF;rw [if_pos h0,Int.toNat_natCast]] at this
theorem sK (t n:Int) (sa:Option Addr) (sc:Nat) (f g:WF) (x y:PF) (w:World) (hp:bE t n 0=true) (hx:PIs w t n f x) (hy:PIs w t n g y) (ht:Tabs w) :
  Calls Tryz.prog 148 #[.agg #[.int .i64 t,.int .i64 n,.slice sa 0 sc],f.val,g.val] w (jZ (.one t n) (.one (gF t n x y)) w):=by
 refine cE (args:=[.agg #[.int .i64 t,.int .i64 n,.slice sa 0 sc],f.val,g.val]) Tryz.func148 rfl Tryz.ntmps148 rfl ?_
 have hS:=St.start w
 refine aN (aP (bW (cs:=[_,_,_]) hS rfl rfl rfl fun B1 W1 hS=>bW (cs:=[_,_,_,_,_,_]) hS rfl rfl rfl fun B2 W2 hS=>bW (cs:=[_,_,_,_,_,_]) hS rfl rfl rfl fun B3 W3 hS=>bG (cs:=[_,_,_,_,_,_]) hS Tryz.zeroValue44 rfl rfl fun B4 W4 hS=>aO (XF.thenN (aN (aN (aP (aM (o':=0) dI rfl rfl rfl (aR Tryz.isAgg4 rfl (aK (hS.at_ 2 rfl) rfl) rfl (aI rfl rfl (bQ (d:=10) rfl (fun hc=>?_) (fun hc=>?_)))))))))))
 ·have hg10:=hc;clear hc
  have hz:=hg10
  refine aG (d:=10) rfl rfl rfl rfl (aG (d:=10) rfl rfl rfl rfl (bD rfl rfl rfl (aO (XF.thenN (fI rfl (aN (aP (dR (us:=[(0,.bool _)]) rfl (xE _) rfl (aU (i:=0) (vs:=[_,_,_,_,_,_]) (cs':=[_,_,_,_,_,_]) (O':=[_,_,_,_]) hS Tryz.sizeOf44 rfl rfl rfl rfl rfl rfl rfl fun W5 hS=>aO (XF.thenN (bT (XF.thenR (XF.res (eH (vs:=[_,_,_,_,_,_]) Tryz.results148 Tryz.isAgg44 Tryz.sizeOf44 rfl (aB.own (j:=0) (m:=6) (hS.at_ 0 rfl) rfl)) ?_)))))))))))))
  exact ext_zL hx hz hS.below
 ·have hg10:=hc;clear hc
  have hf:=hg10
  refine aF (d:=10) rfl rfl (aM (o':=0) dI rfl rfl rfl (aF (d:=10) rfl rfl (aR Tryz.isAgg4 rfl (aK (hS.at_ 1 rfl) rfl) rfl (bU rfl rfl rfl (aO (XF.thenN (bA rfl (fun hc=>?_) (fun hc=>?_))))))))
  ·have hc13:=hc;clear hc
   refine aN (aP (dR (us:=[(0,.bool _)]) rfl (xE _) rfl (aU (i:=0) (vs:=[_,_,_,_,_,_]) (cs':=[_,_,_,_,_,_]) (O':=[_,_,_,_]) hS Tryz.sizeOf44 rfl rfl rfl rfl rfl rfl rfl fun W6 hS=>aO (XF.thenN (bT (XF.thenR (XF.res (eH (vs:=[_,_,_,_,_,_]) Tryz.results148 Tryz.isAgg44 Tryz.sizeOf44 rfl (aB.own (j:=0) (m:=6) (hS.at_ 0 rfl) rfl)) ?_)))))))
   exact ext_zR hy hc13 hS.below
  ·have hc13:=hc;clear hc
   have hg:=hc13
   refine bM (XF.thenN (aN (aP (bG (cs:=[_,_,_,_,_,_]) hS Tryz.zeroValue44 rfl rfl fun B7 W7 hS=>aO (XF.thenN (aN (aN (aP (aM (o':=0) fJ rfl rfl rfl (aR Tryz.isAgg22 rfl (aK (hS.at_ 4 rfl) rfl) rfl (aO (XF.thenN (bX (aN (aP (cN rfl rfl rfl (aC rfl rfl (aO (XF.thenN (bA rfl (fun hc=>?_) (fun hc=>?_)))))))))))))))))))))
   ·have hc17:=of_decide_eq_true hc;clear hc
    have e2:t=2:=hc17
    subst e2
    refine aP (aM (o':=1) fK rfl rfl rfl (aR Tryz.isAgg3 rfl (aK (hS.at_ 4 rfl) rfl) rfl (aM (o':=1) eF rfl rfl rfl (aR Tryz.isAgg3 rfl (aK (hS.at_ 3 rfl) rfl) rfl (aM (o':=1) eF rfl rfl rfl (aR Tryz.isAgg3 rfl (aK (hS.at_ 2 rfl) rfl) rfl (cZ (us:=[(0,.int .i64 _),(1,.int .i64 _)]) hS Tryz.underlying26 Tryz.sizeOf3 Tryz.zeroValue3 rfl rfl rfl (Jt _ _) rfl fun B8 W8 hS=>cR (vs:=[_,_]) hS Pi rfl (sum_any n (some ⟨_,0,none⟩) 2 [f.c,g.c] _ (by simp [maxLen]) (Ku (hS.at_ 0 rfl))) rfl ?_)))))))
    rintro e W9 ⟨rfl,rfl⟩
    refine ⟨_,rfl,Below.refl _ _,fun hS'=>?_⟩
    clear hS;have hS:=hS';clear hS'
    refine aI rfl rfl (bK rfl rfl rfl (bK rfl rfl rfl (aM (o':=1) eF rfl rfl rfl (eC (i:=1) (cs':=[_,_,_,_,_,_]) (O':=[_,_,_,_,_,_]) hS Tryz.sizeOf3 rfl rfl rfl rfl rfl rfl rfl fun W10 hS=>aO (XF.blkN (XF.thenN (aN (aP (aS (vs:=[_,_,_,_,_,_]) Tryz.isAgg44 Tryz.sizeOf44 rfl (aB.own (j:=0) (m:=6) (hS.at_ 1 rfl) rfl) rfl (aU (i:=2) (vs:=[_,_,_,_,_,_]) (cs':=[_,_,_,_,_,_]) (O':=[_,_,_,_,_,_]) hS Tryz.sizeOf44 rfl rfl rfl rfl rfl rfl rfl fun W11 hS=>aO (XF.thenN (bT (XF.res (eH (vs:=[_,_,_,_,_,_]) Tryz.results148 Tryz.isAgg44 Tryz.sizeOf44 rfl (aB.own (j:=0) (m:=6) (hS.at_ 2 rfl) rfl)) ?_)))))))))))))
    exact fE (ext_f2 hp hx hy hf hg) hS.below
   ·have hc17:=of_decide_eq_false hc;clear hc
    refine aN (aP (cN rfl rfl rfl (aC rfl rfl (aO (XF.thenN (bA rfl (fun hc=>?_) (fun hc=>?_)))))))
    ·have hc31:=of_decide_eq_true hc;clear hc
     have e3:t=3:=hc31
     subst e3
     obtain ⟨m,rfl,hm⟩:=F3 hp (.inl rfl)
     refine aP (aM (o':=1) fK rfl rfl rfl (aR Tryz.isAgg3 rfl (aK (hS.at_ 4 rfl) rfl) rfl (aM (o':=2) eG rfl rfl rfl (aS (vs:=[_,_]) Tryz.isAgg40 Tryz.sizeOf40 rfl (aB.own (j:=2) (m:=2) (hS.at_ 3 rfl) rfl) rfl (aM (o':=2) eG rfl rfl rfl (aS (vs:=[_,_]) Tryz.isAgg40 Tryz.sizeOf40 rfl (aB.own (j:=2) (m:=2) (hS.at_ 2 rfl) rfl) rfl ?_))))))
     have hsz:=hS.below.size
     refine cR (vs:=[_,_,_]) hS Pj rfl (extA_is _ _ _ _ _ _ _ _ _ _ (hx.at_.fat (by have:=hx.rows64 (l:=0);omega) |>.below hS.below) (hy.at_.fat (by have:=hy.rows64 (l:=0);omega) |>.below hS.below) (ht.below hS.below).c _ rfl _ rfl _ rfl _ _ hx.at_.rl hy.at_.rl) rfl ?_
     rintro e W12 ⟨a1,c1,rfl,hv,hl,hb⟩
     refine ⟨_,rfl,hb,fun hS'=>?_⟩
     clear hS;have hS:=hS';clear hS'
     refine aI rfl rfl (bK rfl rfl rfl (bK rfl rfl rfl (aM (o':=2) eG rfl rfl rfl (aU (i:=0) (vs:=[_,_]) (cs':=[_,_,_,_,_,_]) (O':=[_,_,_,_,_]) hS Tryz.sizeOf40 rfl rfl rfl rfl rfl rfl rfl fun W13 hS=>aO (XF.blkN (XF.thenN (aN (aP (aS (vs:=[_,_,_,_,_,_]) Tryz.isAgg44 Tryz.sizeOf44 rfl (aB.own (j:=0) (m:=6) (hS.at_ 0 rfl) rfl) rfl (aU (i:=1) (vs:=[_,_,_,_,_,_]) (cs':=[_,_,_,_,_,_]) (O':=[_,_,_,_,_]) hS Tryz.sizeOf44 rfl rfl rfl rfl rfl rfl rfl fun W14 hS=>aO (XF.thenN (bT (XF.res (eH (vs:=[_,_,_,_,_,_]) Tryz.results148 Tryz.isAgg44 Tryz.sizeOf44 rfl (aB.own (j:=0) (m:=6) (hS.at_ 1 rfl) rfl)) ?_)))))))))))))
     exact fE (ext_f3 hx hy hf hg (hv.agree (fun ad e=>(hl ad e).1) (hS.since 0 rfl)) (fun ad e=>Nat.le_trans hsz (hl ad e).1)) hS.below
    ·have hc31:=of_decide_eq_false hc;clear hc
     refine aN (aP (cN rfl rfl rfl (aC rfl rfl (aO (XF.thenN (bA rfl (fun hc=>?_) (fun hc=>?_)))))))
     ·have hc44:=of_decide_eq_true hc;clear hc
      have e4:t=4:=hc44
      subst e4
      obtain ⟨m,rfl,hm⟩:=F3 hp (.inr rfl)
      refine aP (aM (o':=1) fK rfl rfl rfl (aR Tryz.isAgg3 rfl (aK (hS.at_ 4 rfl) rfl) rfl (aM (o':=4) cY rfl rfl rfl (aR Tryz.isAgg41 rfl (aK (hS.at_ 3 rfl) rfl) rfl (aM (o':=4) cY rfl rfl rfl (aR Tryz.isAgg41 rfl (aK (hS.at_ 2 rfl) rfl) rfl ?_))))))
      have hsz:=hS.below.size
      refine cR (vs:=[_,_,_]) hS Pk rfl (then_is _ _ _ _ _ _ _ _ (ht.below hS.below) (by rw [hx.at_.cl];exact hx.at_.cmax) (by rw [hy.at_.cl];exact hy.at_.cmax) (hx.at_.cells.below hS.below) (hy.at_.cells.below hS.below) hx.at_.bits hy.at_.bits _ rfl _ _ hx.at_.cl hy.at_.cl) rfl ?_
      rintro e W15 ⟨a1,c1,rfl,hv,hl,hb⟩
      refine ⟨_,rfl,hb,fun hS'=>?_⟩
      clear hS;have hS:=hS';clear hS'
      refine aI rfl rfl (bK rfl rfl rfl (bK rfl rfl rfl (aM (o':=4) cY rfl rfl rfl (eC (i:=0) (cs':=[_,_,_,_,_,_]) (O':=[_,_,_,_,_]) hS Tryz.sizeOf41 rfl rfl rfl rfl rfl rfl rfl fun W16 hS=>aO (XF.blkN (XF.thenN (aN (aP (aS (vs:=[_,_,_,_,_,_]) Tryz.isAgg44 Tryz.sizeOf44 rfl (aB.own (j:=0) (m:=6) (hS.at_ 0 rfl) rfl) rfl (aU (i:=1) (vs:=[_,_,_,_,_,_]) (cs':=[_,_,_,_,_,_]) (O':=[_,_,_,_,_]) hS Tryz.sizeOf44 rfl rfl rfl rfl rfl rfl rfl fun W17 hS=>aO (XF.thenN (bT (XF.res (eH (vs:=[_,_,_,_,_,_]) Tryz.results148 Tryz.isAgg44 Tryz.sizeOf44 rfl (aB.own (j:=0) (m:=6) (hS.at_ 1 rfl) rfl)) ?_)))))))))))))
      exact fE (ext_f4 hx hy hf hg (hv.agree (fun ad e=>(hl ad e).1) (hS.since 0 rfl)) (fun ad e=>Nat.le_trans hsz (hl ad e).1)) hS.below
     ·have hc44:=of_decide_eq_false hc;clear hc
      refine aN (aP (cN rfl rfl rfl (aC rfl rfl (aO (XF.thenN (bA rfl (fun hc=>absurd (of_decide_eq_true hc) (by exact nK hp)) (fun hc=>?_)))))))
      have hc:=of_decide_eq_false hc
      have e1:t=1:=by
       have:=(fO hp).2
       omega
      subst e1
      refine bM (XF.blkN (XF.thenN (aN (aP (aS (vs:=[_,_,_,_,_,_]) Tryz.isAgg44 Tryz.sizeOf44 rfl (aB.own (j:=0) (m:=6) (hS.at_ 0 rfl) rfl) rfl (aU (i:=1) (vs:=[_,_,_,_,_,_]) (cs':=[_,_,_,_,_,_]) (O':=[_,_,_,_,_]) hS Tryz.sizeOf44 rfl rfl rfl rfl rfl rfl rfl fun W18 hS=>aO (XF.thenN (bT (XF.res (eH (vs:=[_,_,_,_,_,_]) Tryz.results148 Tryz.isAgg44 Tryz.sizeOf44 rfl (aB.own (j:=0) (m:=6) (hS.at_ 1 rfl) rfl)) ?_)))))))))
      exact fE (ext_f1 hx hy hf hg) hS.below
theorem pU (t n:Int) (sa:Option Addr) (sc:Nat) (f g:WF) (x y:PF) (w:World) (hp:bE t n 0=true) (hx:PIs w t n f x) (hy:PIs w t n g y) (ht:Tabs w) :
  Calls Tryz.prog 108 #[.agg #[.int .i64 t,.int .i64 n,.slice sa 0 sc],f.val,g.val] w (jZ (.one t n) (.one (dC t n x y)) w):=by
 refine cE (args:=[.agg #[.int .i64 t,.int .i64 n,.slice sa 0 sc],f.val,g.val]) Tryz.func108 rfl Tryz.ntmps108 rfl ?_
 have hS:=St.start w
 refine aN (aP (bW (cs:=[_,_,_]) hS rfl rfl rfl fun B1 W1 hS=>bW (cs:=[_,_,_,_,_,_]) hS rfl rfl rfl fun B2 W2 hS=>bW (cs:=[_,_,_,_,_,_]) hS rfl rfl rfl fun B3 W3 hS=>bG (cs:=[_,_,_,_,_,_]) hS Tryz.zeroValue44 rfl rfl fun B4 W4 hS=>aO (XF.thenN (aN (aN (aP (aM (o':=0) dI rfl rfl rfl (aR Tryz.isAgg4 rfl (aK (hS.at_ 2 rfl) rfl) rfl (aO (XF.thenN (bA rfl (fun hc=>?_) (fun hc=>?_))))))))))))
 ·have hc9:=hc;clear hc
  have hz:=hc9
  refine aN (aP (aS (vs:=[_,_,_,_,_,_]) Tryz.isAgg44 Tryz.sizeOf44 rfl (aB.own (j:=0) (m:=6) (hS.at_ 1 rfl) rfl) rfl ?_))
  have hsz:=hS.below.size
  refine cR (vs:=[_]) hS pH rfl (jS t n g _ _ (hy.below hS.below)) rfl ?_
  rintro e W5 ⟨h1,rfl,hn,hb⟩
  refine ⟨_,rfl,hb,fun hS'=>?_⟩
  clear hS;have hS:=hS';clear hS'
  refine aU (i:=0) (vs:=[_,_,_,_,_,_]) (cs':=[_,_,_,_,_,_]) (O':=[_,_,_,_]) hS Tryz.sizeOf44 rfl rfl rfl rfl rfl rfl rfl fun W6 hS=>aO (XF.thenN (bT (XF.thenR (XF.res (eH (vs:=[_,_,_,_,_,_]) Tryz.results108 Tryz.isAgg44 Tryz.sizeOf44 rfl (aB.own (j:=0) (m:=6) (hS.at_ 0 rfl) rfl)) ?_))))
  rw [hx.zero hz,dT]
  exact fE ((hn.agree (hS.since 0 rfl)).mono hsz) hS.below
 ·have hc9:=hc;clear hc
  have hf:=hc9
  refine bM (XF.thenN (aN (aN (aP (aM (o':=0) dI rfl rfl rfl (aR Tryz.isAgg4 rfl (aK (hS.at_ 1 rfl) rfl) rfl (aO (XF.thenN (bA rfl (fun hc=>?_) (fun hc=>?_))))))))))
  ·have hc13:=hc;clear hc
   refine aN (aP (aS (vs:=[_,_,_,_,_,_]) Tryz.isAgg44 Tryz.sizeOf44 rfl (aB.own (j:=0) (m:=6) (hS.at_ 2 rfl) rfl) rfl ?_))
   have hsz:=hS.below.size
   refine cR (vs:=[_]) hS pH rfl (jS t n f _ _ (hx.below hS.below)) rfl ?_
   rintro e W7 ⟨h1,rfl,hn,hb⟩
   refine ⟨_,rfl,hb,fun hS'=>?_⟩
   clear hS;have hS:=hS';clear hS'
   refine aU (i:=0) (vs:=[_,_,_,_,_,_]) (cs':=[_,_,_,_,_,_]) (O':=[_,_,_,_]) hS Tryz.sizeOf44 rfl rfl rfl rfl rfl rfl rfl fun W8 hS=>aO (XF.thenN (bT (XF.thenR (XF.res (eH (vs:=[_,_,_,_,_,_]) Tryz.results108 Tryz.isAgg44 Tryz.sizeOf44 rfl (aB.own (j:=0) (m:=6) (hS.at_ 0 rfl) rfl)) ?_))))
   rw [hy.zero hc13,dY hx.ok]
   exact fE ((hn.agree (hS.since 0 rfl)).mono hsz) hS.below
  ·have hc13:=hc;clear hc
   have hg:=hc13
   refine bM (XF.thenN (aN (aP (bG (cs:=[_,_,_,_,_,_]) hS Tryz.zeroValue44 rfl rfl fun B9 W9 hS=>aO (XF.thenN (aN (aN (aP (aM (o':=0) fJ rfl rfl rfl (aR Tryz.isAgg22 rfl (aK (hS.at_ 4 rfl) rfl) rfl (aO (XF.thenN (bX (aN (aP (cN rfl rfl rfl (aC rfl rfl (aO (XF.thenN (bA rfl (fun hc=>?_) (fun hc=>?_)))))))))))))))))))))
   ·have hc18:=of_decide_eq_true hc;clear hc
    have e2:t=2:=hc18
    subst e2
    refine aP (aM (o':=1) fK rfl rfl rfl (aR Tryz.isAgg3 rfl (aK (hS.at_ 4 rfl) rfl) rfl (aM (o':=1) eF rfl rfl rfl (aR Tryz.isAgg3 rfl (aK (hS.at_ 3 rfl) rfl) rfl (aM (o':=1) eF rfl rfl rfl (aR Tryz.isAgg3 rfl (aK (hS.at_ 2 rfl) rfl) rfl (cZ (us:=[(0,.int .i64 _),(1,.int .i64 _)]) hS Tryz.underlying26 Tryz.sizeOf3 Tryz.zeroValue3 rfl rfl rfl (Jt _ _) rfl fun B10 W10 hS=>cR (vs:=[_,_]) hS Pd rfl (Nl n (some ⟨_,0,none⟩) 2 [f.c,g.c] _ (by simp [maxLen]) (Ku (hS.at_ 0 rfl))) rfl ?_)))))))
    rintro e W11 ⟨rfl,rfl⟩
    refine ⟨_,rfl,Below.refl _ _,fun hS'=>?_⟩
    clear hS;have hS:=hS';clear hS'
    refine aI rfl rfl (bK rfl rfl rfl (bK rfl rfl rfl (aM (o':=1) eF rfl rfl rfl (eC (i:=1) (cs':=[_,_,_,_,_,_]) (O':=[_,_,_,_,_,_]) hS Tryz.sizeOf3 rfl rfl rfl rfl rfl rfl rfl fun W12 hS=>aO (XF.blkN (XF.thenN (aN (aP (aS (vs:=[_,_,_,_,_,_]) Tryz.isAgg44 Tryz.sizeOf44 rfl (aB.own (j:=0) (m:=6) (hS.at_ 1 rfl) rfl) rfl (aU (i:=2) (vs:=[_,_,_,_,_,_]) (cs':=[_,_,_,_,_,_]) (O':=[_,_,_,_,_,_]) hS Tryz.sizeOf44 rfl rfl rfl rfl rfl rfl rfl fun W13 hS=>aO (XF.thenN (bT (XF.res (eH (vs:=[_,_,_,_,_,_]) Tryz.results108 Tryz.isAgg44 Tryz.sizeOf44 rfl (aB.own (j:=0) (m:=6) (hS.at_ 2 rfl) rfl)) ?_)))))))))))))
    exact fE (comb_f2 hp hx hy hf hg) hS.below
   ·have hc18:=of_decide_eq_false hc;clear hc
    refine aN (aP (cN rfl rfl rfl (aC rfl rfl (aO (XF.thenN (bA rfl (fun hc=>?_) (fun hc=>?_)))))))
    ·have hc32:=of_decide_eq_true hc;clear hc
     have e3:t=3:=hc32
     subst e3
     obtain ⟨m,rfl,hm⟩:=F3 hp (.inl rfl)
     refine aP (aM (o':=1) fK rfl rfl rfl (aR Tryz.isAgg3 rfl (aK (hS.at_ 4 rfl) rfl) rfl (aM (o':=2) eG rfl rfl rfl (aS (vs:=[_,_]) Tryz.isAgg40 Tryz.sizeOf40 rfl (aB.own (j:=2) (m:=2) (hS.at_ 3 rfl) rfl) rfl (aM (o':=2) eG rfl rfl rfl (aS (vs:=[_,_]) Tryz.isAgg40 Tryz.sizeOf40 rfl (aB.own (j:=2) (m:=2) (hS.at_ 2 rfl) rfl) rfl ?_))))))
     have hsz:=hS.below.size
     refine cR (vs:=[_,_,_]) hS Pe rfl (Qg _ _ _ _ _ _ _ _ _ _ (hx.at_.fat (by have:=hx.rows64 (l:=0);omega) |>.below hS.below) (hy.at_.fat (by have:=hy.rows64 (l:=0);omega) |>.below hS.below) _ rfl _ rfl _ rfl _ _ hx.at_.rl hy.at_.rl) rfl ?_
     rintro e W14 ⟨a1,c1,rfl,hv,hl,hb⟩
     refine ⟨_,rfl,hb,fun hS'=>?_⟩
     clear hS;have hS:=hS';clear hS'
     refine aI rfl rfl (bK rfl rfl rfl (bK rfl rfl rfl (aM (o':=2) eG rfl rfl rfl (aU (i:=0) (vs:=[_,_]) (cs':=[_,_,_,_,_,_]) (O':=[_,_,_,_,_]) hS Tryz.sizeOf40 rfl rfl rfl rfl rfl rfl rfl fun W15 hS=>aO (XF.blkN (XF.thenN (aN (aP (aS (vs:=[_,_,_,_,_,_]) Tryz.isAgg44 Tryz.sizeOf44 rfl (aB.own (j:=0) (m:=6) (hS.at_ 0 rfl) rfl) rfl (aU (i:=1) (vs:=[_,_,_,_,_,_]) (cs':=[_,_,_,_,_,_]) (O':=[_,_,_,_,_]) hS Tryz.sizeOf44 rfl rfl rfl rfl rfl rfl rfl fun W16 hS=>aO (XF.thenN (bT (XF.res (eH (vs:=[_,_,_,_,_,_]) Tryz.results108 Tryz.isAgg44 Tryz.sizeOf44 rfl (aB.own (j:=0) (m:=6) (hS.at_ 1 rfl) rfl)) ?_)))))))))))))
     exact fE (Ky hx hy hf hg (hv.agree (fun ad e=>(hl ad e).1) (hS.since 0 rfl)) (fun ad e=>Nat.le_trans hsz (hl ad e).1)) hS.below
    ·have hc32:=of_decide_eq_false hc;clear hc
     refine aN (aP (cN rfl rfl rfl (aC rfl rfl (aO (XF.thenN (bA rfl (fun hc=>?_) (fun hc=>?_)))))))
     ·have hc45:=of_decide_eq_true hc;clear hc
      have e4:t=4:=hc45
      subst e4
      obtain ⟨m,rfl,hm⟩:=F3 hp (.inr rfl)
      refine aP (aM (o':=1) fK rfl rfl rfl (aR Tryz.isAgg3 rfl (aK (hS.at_ 4 rfl) rfl) rfl (aM (o':=4) cY rfl rfl rfl (aR Tryz.isAgg41 rfl (aK (hS.at_ 3 rfl) rfl) rfl (aM (o':=4) cY rfl rfl rfl (aR Tryz.isAgg41 rfl (aK (hS.at_ 2 rfl) rfl) rfl ?_))))))
      have hsz:=hS.below.size
      refine cR (vs:=[_,_,_]) hS Pf rfl (both_is _ _ _ _ _ _ _ _ (by rw [hx.at_.cl];exact hx.at_.cmax) (by rw [hy.at_.cl];exact hy.at_.cmax) (hx.at_.cells.below hS.below) (hy.at_.cells.below hS.below) hx.at_.bits hy.at_.bits _ rfl _ _ hx.at_.cl hy.at_.cl) rfl ?_
      rintro e W17 ⟨a1,c1,rfl,hv,hl,hb⟩
      refine ⟨_,rfl,hb,fun hS'=>?_⟩
      clear hS;have hS:=hS';clear hS'
      refine aI rfl rfl (bK rfl rfl rfl (bK rfl rfl rfl (aM (o':=4) cY rfl rfl rfl (eC (i:=0) (cs':=[_,_,_,_,_,_]) (O':=[_,_,_,_,_]) hS Tryz.sizeOf41 rfl rfl rfl rfl rfl rfl rfl fun W18 hS=>aO (XF.blkN (XF.thenN (aN (aP (aS (vs:=[_,_,_,_,_,_]) Tryz.isAgg44 Tryz.sizeOf44 rfl (aB.own (j:=0) (m:=6) (hS.at_ 0 rfl) rfl) rfl (aU (i:=1) (vs:=[_,_,_,_,_,_]) (cs':=[_,_,_,_,_,_]) (O':=[_,_,_,_,_]) hS Tryz.sizeOf44 rfl rfl rfl rfl rfl rfl rfl fun W19 hS=>aO (XF.thenN (bT (XF.res (eH (vs:=[_,_,_,_,_,_]) Tryz.results108 Tryz.isAgg44 Tryz.sizeOf44 rfl (aB.own (j:=0) (m:=6) (hS.at_ 1 rfl) rfl)) ?_)))))))))))))
      exact fE (comb_f4 hx hy hf hg (hv.agree (fun ad e=>(hl ad e).1) (hS.since 0 rfl)) (fun ad e=>Nat.le_trans hsz (hl ad e).1)) hS.below
     ·have hc45:=of_decide_eq_false hc;clear hc
      refine aN (aP (cN rfl rfl rfl (aC rfl rfl (aO (XF.thenN (bA rfl (fun hc=>absurd (of_decide_eq_true hc) (by exact nK hp)) (fun hc=>?_)))))))
      have hc:=of_decide_eq_false hc
      have e1:t=1:=by
       have:=(fO hp).2
       omega
      subst e1
      refine bM (XF.blkN (XF.thenN (aN (aP (aS (vs:=[_,_,_,_,_,_]) Tryz.isAgg44 Tryz.sizeOf44 rfl (aB.own (j:=0) (m:=6) (hS.at_ 0 rfl) rfl) rfl (aU (i:=1) (vs:=[_,_,_,_,_,_]) (cs':=[_,_,_,_,_,_]) (O':=[_,_,_,_,_]) hS Tryz.sizeOf44 rfl rfl rfl rfl rfl rfl rfl fun W20 hS=>aO (XF.thenN (bT (XF.res (eH (vs:=[_,_,_,_,_,_]) Tryz.results108 Tryz.isAgg44 Tryz.sizeOf44 rfl (aB.own (j:=0) (m:=6) (hS.at_ 1 rfl) rfl)) ?_)))))))))
      exact fE (Kx hx hy hf hg) hS.below
theorem sL (t n:Int) (sa:Option Addr) (sc:Nat) (w:World) (hp:bE t n 0=true) :
  Calls Tryz.prog 125 #[.agg #[.int .i64 t,.int .i64 n,.slice sa 0 sc]] w (jZ (.one t n) (.one (jX t n)) w):=by
 refine cE (args:=[.agg #[.int .i64 t,.int .i64 n,.slice sa 0 sc]]) Tryz.func125 rfl Tryz.ntmps125 rfl ?_
 have hS:=St.start w
 refine aN (aP (bW (cs:=[_,_,_]) hS rfl rfl rfl fun B1 W1 hS=>bG (cs:=[_,_,_,_,_,_]) hS Tryz.zeroValue44 rfl rfl fun B2 W2 hS=>aO (XF.thenN (aN (aP (bG (cs:=[_,_,_,_,_,_]) hS Tryz.zeroValue44 rfl rfl fun B3 W3 hS=>aO (XF.thenN (aN (aN (aP (aM (o':=0) fJ rfl rfl rfl (aR Tryz.isAgg22 rfl (aK (hS.at_ 2 rfl) rfl) rfl (aO (XF.thenN (bX (aN (aP (cN rfl rfl rfl (aC rfl rfl (aO (XF.thenN (bA rfl (fun hc=>?_) (fun hc=>?_)))))))))))))))))))))))
 ·have hc6:=of_decide_eq_true hc;clear hc
  have e3:t=3:=hc6
  subst e3
  obtain ⟨m,rfl,hm⟩:=F3 hp (.inl rfl)
  refine aP (aM (o':=1) fK rfl rfl rfl (aR Tryz.isAgg3 rfl (aK (hS.at_ 2 rfl) rfl) rfl ?_))
  have hsz:=hS.below.size
  refine cR (vs:=[_]) hS Pa rfl ((oneA_is m _ _ (Fp hm).1 _ (Fp hm).2).mono fun _ _ h=>Mx.ret h) rfl ?_
  rintro e W4 ⟨a1,c1,rfl,hv,hl,hb⟩
  refine ⟨_,rfl,hb,fun hS'=>?_⟩
  clear hS;have hS:=hS';clear hS'
  refine aI rfl rfl (bK rfl rfl rfl (bK rfl rfl rfl (aM (o':=2) eG rfl rfl rfl (aU (i:=0) (vs:=[_,_]) (cs':=[_,_,_,_,_,_]) (O':=[_,_,_]) hS Tryz.sizeOf40 rfl rfl rfl rfl rfl rfl rfl fun W5 hS=>aO (XF.blkN (XF.thenN (aN (aP (aS (vs:=[_,_,_,_,_,_]) Tryz.isAgg44 Tryz.sizeOf44 rfl (aB.own (j:=0) (m:=6) (hS.at_ 0 rfl) rfl) rfl (aU (i:=1) (vs:=[_,_,_,_,_,_]) (cs':=[_,_,_,_,_,_]) (O':=[_,_,_]) hS Tryz.sizeOf44 rfl rfl rfl rfl rfl rfl rfl fun W6 hS=>aO (XF.thenN (bT (XF.res (eH (vs:=[_,_,_,_,_,_]) Tryz.results125 Tryz.isAgg44 Tryz.sizeOf44 rfl (aB.own (j:=0) (m:=6) (hS.at_ 1 rfl) rfl)) ?_)))))))))))))
  exact fE (one_f3 hm (hv.agree (fun ad e=>(hl ad e).1) (hS.since 0 rfl)) (fun ad e=>Nat.le_trans hsz (hl ad e).1)) hS.below
 ·have hc6:=of_decide_eq_false hc;clear hc
  refine aN (aP (cN rfl rfl rfl (aC rfl rfl (aO (XF.thenN (bA rfl (fun hc=>?_) (fun hc=>?_)))))))
  ·have hc15:=of_decide_eq_true hc;clear hc
   have e4:t=4:=hc15
   subst e4
   obtain ⟨m,rfl,hm⟩:=F3 hp (.inr rfl)
   refine aP (aM (o':=1) fK rfl rfl rfl (aR Tryz.isAgg3 rfl (aK (hS.at_ 2 rfl) rfl) rfl ?_))
   have hsz:=hS.below.size
   refine cR (vs:=[_]) hS Pb rfl (one4_is m hm _) rfl ?_
   rintro e W7 ⟨a1,c1,rfl,hv,hl,hb⟩
   refine ⟨_,rfl,hb,fun hS'=>?_⟩
   clear hS;have hS:=hS';clear hS'
   refine aI rfl rfl (bK rfl rfl rfl (bK rfl rfl rfl (aM (o':=4) cY rfl rfl rfl (eC (i:=0) (cs':=[_,_,_,_,_,_]) (O':=[_,_,_]) hS Tryz.sizeOf41 rfl rfl rfl rfl rfl rfl rfl fun W8 hS=>aO (XF.blkN (XF.thenN (aN (aP (aS (vs:=[_,_,_,_,_,_]) Tryz.isAgg44 Tryz.sizeOf44 rfl (aB.own (j:=0) (m:=6) (hS.at_ 0 rfl) rfl) rfl (aU (i:=1) (vs:=[_,_,_,_,_,_]) (cs':=[_,_,_,_,_,_]) (O':=[_,_,_]) hS Tryz.sizeOf44 rfl rfl rfl rfl rfl rfl rfl fun W9 hS=>aO (XF.thenN (bT (XF.res (eH (vs:=[_,_,_,_,_,_]) Tryz.results125 Tryz.isAgg44 Tryz.sizeOf44 rfl (aB.own (j:=0) (m:=6) (hS.at_ 1 rfl) rfl)) ?_)))))))))))))
   exact fE (one_f4 hm (hv.agree (fun ad e=>(hl ad e).1) (hS.since 0 rfl)) (fun ad e=>Nat.le_trans hsz (hl ad e).1)) hS.below
  ·have hc15:=of_decide_eq_false hc;clear hc
   refine aN (aP (cN rfl rfl rfl (aC rfl rfl (aO (XF.thenN (bA rfl (fun hc=>absurd (of_decide_eq_true hc) (by exact nK hp)) (fun hc=>?_)))))))
   have hc:=of_decide_eq_false hc
   refine bM (XF.blkN (XF.thenN (aN (aP (aS (vs:=[_,_,_,_,_,_]) Tryz.isAgg44 Tryz.sizeOf44 rfl (aB.own (j:=0) (m:=6) (hS.at_ 0 rfl) rfl) rfl (aU (i:=1) (vs:=[_,_,_,_,_,_]) (cs':=[_,_,_,_,_,_]) (O':=[_,_,_]) hS Tryz.sizeOf44 rfl rfl rfl rfl rfl rfl rfl fun W10 hS=>aO (XF.thenN (bT (XF.res (eH (vs:=[_,_,_,_,_,_]) Tryz.results125 Tryz.isAgg44 Tryz.sizeOf44 rfl (aB.own (j:=0) (m:=6) (hS.at_ 1 rfl) rfl)) ?_)))))))))
   exact fE (one_f1 hp hc6 hc15) hS.below
theorem Nn (t n u m:Int) (a1 a2:Option Addr) (c1 c2 b off sc:Nat) (w:World) (hs1:S3 w b off ⟨t,n,a1,0,c1⟩) (hs2:S3 w b (off+3) ⟨u,m,a2,0,c2⟩) (hp1:bE t n 0=true) (hp2:bE u m 0=true)(fra fca:Option Addr) (frc fcc fpc fb fo:Nat) (f1 f2:WF) (x1 x2:PF) (hf6:W6 w fb fo f1) (hf7:W6 w fb (fo+6) f2) (hx1:PIs w t n f1 x1) (hx2:PIs w u m f2 x2)(gra gca:Option Addr) (grc gcc gpc gb go:Nat) (g1 g2:WF) (y1 y2:PF) (hg6:W6 w gb go g1) (hg7:W6 w gb (go+6) g2) (hy1:PIs w t n g1 y1) (hy2:PIs w u m g2 y2)(ht:Tabs w) :
  Calls Tryz.prog 148 #[.agg #[.int .i64 5,.int .i64 0,.slice (some ⟨b,off,none⟩) 2 sc],.agg #[.bool false,.int .i64 0,.int .u64 0,.slice fra 0 frc,.slice fca 0 fcc,.slice (some ⟨fb,fo,none⟩) 2 fpc],.agg #[.bool false,.int .i64 0,.int .u64 0,.slice gra 0 grc,.slice gca 0 gcc,.slice (some ⟨gb,go,none⟩) 2 gpc]] w (jZ (.two t n u m) (.two (gF t n x1 y1) (gF u m x2 y2)) w):=by
 refine cE (args:=[.agg #[.int .i64 5,.int .i64 0,.slice (some ⟨b,off,none⟩) 2 sc],.agg #[.bool false,.int .i64 0,.int .u64 0,.slice fra 0 frc,.slice fca 0 fcc,.slice (some ⟨fb,fo,none⟩) 2 fpc],.agg #[.bool false,.int .i64 0,.int .u64 0,.slice gra 0 grc,.slice gca 0 gcc,.slice (some ⟨gb,go,none⟩) 2 gpc]]) Tryz.func148 rfl Tryz.ntmps148 rfl ?_
 have hS:=St.start w
 refine aN (aP (bW (cs:=[_,_,_]) hS rfl rfl rfl fun B1 W1 hS=>bW (cs:=[_,_,_,_,_,_]) hS rfl rfl rfl fun B2 W2 hS=>bW (cs:=[_,_,_,_,_,_]) hS rfl rfl rfl fun B3 W3 hS=>bG (cs:=[_,_,_,_,_,_]) hS Tryz.zeroValue44 rfl rfl fun B4 W4 hS=>aO (XF.thenN (aN (aN (aP (aM (o':=0) dI rfl rfl rfl (aR Tryz.isAgg4 rfl (aK (hS.at_ 2 rfl) rfl) rfl (aI rfl rfl (bQ (d:=10) rfl (fun hc=>absurd hc (by decide)) (fun hc=>?_)))))))))))
 skip
 refine aF (d:=10) rfl rfl (aM (o':=0) dI rfl rfl rfl (aF (d:=10) rfl rfl (aR Tryz.isAgg4 rfl (aK (hS.at_ 1 rfl) rfl) rfl (bU rfl rfl rfl (aO (XF.thenN (bA rfl (fun hc=>absurd hc (by decide)) (fun hc=>?_))))))))
 skip
 refine bM (XF.thenN (aN (aP (bG (cs:=[_,_,_,_,_,_]) hS Tryz.zeroValue44 rfl rfl fun B5 W5 hS=>aO (XF.thenN (aN (aN (aP (aM (o':=0) fJ rfl rfl rfl (aR Tryz.isAgg22 rfl (aK (hS.at_ 4 rfl) rfl) rfl (aO (XF.thenN (bX (aN (aP (cN rfl rfl rfl (aC rfl rfl (aO (XF.thenN (bA rfl (fun hc=>absurd (of_decide_eq_true hc) (by omega)) (fun hc=>?_)))))))))))))))))))))
 have hc:=of_decide_eq_false hc
 refine aN (aP (cN rfl rfl rfl (aC rfl rfl (aO (XF.thenN (bA rfl (fun hc=>absurd (of_decide_eq_true hc) (by omega)) (fun hc=>?_)))))))
 have hc:=of_decide_eq_false hc
 refine aN (aP (cN rfl rfl rfl (aC rfl rfl (aO (XF.thenN (bA rfl (fun hc=>absurd (of_decide_eq_true hc) (by omega)) (fun hc=>?_)))))))
 have hc:=of_decide_eq_false hc
 refine aN (aP (cN rfl rfl rfl (aC rfl rfl (aO (XF.thenN (bA rfl (fun hc=>?_) (fun hc=>absurd (of_decide_eq_false hc) (by omega))))))))
 have hc:=of_decide_eq_true hc
 have hsz:=hS.below.size
 have k1:=aB.agree hS.agree (Nat.zero_le _) hs1.cells
 have k2:=aB.agree hS.agree (Nat.zero_le _) hs2.cells
 have kf1:=aB.agree hS.agree (Nat.zero_le _) hf6.cells
 have kf2:=aB.agree hS.agree (Nat.zero_le _) hf7.cells
 have kg1:=aB.agree hS.agree (Nat.zero_le _) hg6.cells
 have kg2:=aB.agree hS.agree (Nat.zero_le _) hg7.cells
 refine vT cD 27 hS rfl rfl (by kernel_rfl) (by kernel_rfl) (by kernel_rfl) (fun d hd=>by cases hd) (cW 1 rfl 3 rfl (by kernel_rfl) rfl (fun w hw=>aV (o':=2) fT rfl rfl) rfl (bP 2 rfl 59 0 rfl (by kernel_rfl) rfl rfl (fun w hw=>bB Tryz.isAgg23 rfl ((aL hw 0).cell (Nat.zero_le _) (aK (hS.at_ 4 rfl) rfl))) rfl (bP 3 rfl 60 1 rfl (by kernel_rfl) rfl rfl (fun w hw=>bC (j:=0) Tryz.underlying23 Tryz.sizeOf25 rfl rfl rfl (by omega) (Nat.add_zero _)) rfl (bP 4 rfl 61 2 rfl (by kernel_rfl) rfl rfl (fun w hw=>aW (vs:=[_,_,_]) Tryz.isAgg25 Tryz.sizeOf25 rfl (aB.agree (aL hw 0) (Nat.zero_le _) (by assumption))) rfl (cW 5 rfl 4 rfl (by kernel_rfl) rfl (fun w hw=>aV (o':=5) cK rfl rfl) rfl (bP 6 rfl 63 4 rfl (by kernel_rfl) rfl rfl (fun w hw=>bB Tryz.isAgg42 rfl ((aL hw 0).cell (Nat.zero_le _) (aK (hS.at_ 3 rfl) rfl))) rfl (bP 7 rfl 64 5 rfl (by kernel_rfl) rfl rfl (fun w hw=>bC (j:=0) Tryz.underlying42 Tryz.sizeOf44 rfl rfl rfl (by omega) (Nat.add_zero _)) rfl (bP 8 rfl 65 6 rfl (by kernel_rfl) rfl rfl (fun w hw=>aW (vs:=[_,_,_,_,_,_]) Tryz.isAgg44 Tryz.sizeOf44 rfl (aB.agree (aL hw 0) (Nat.zero_le _) (by assumption))) rfl (cW 9 rfl 5 rfl (by kernel_rfl) rfl (fun w hw=>aV (o':=5) cK rfl rfl) rfl (bP 10 rfl 67 8 rfl (by kernel_rfl) rfl rfl (fun w hw=>bB Tryz.isAgg42 rfl ((aL hw 0).cell (Nat.zero_le _) (aK (hS.at_ 2 rfl) rfl))) rfl (bP 11 rfl 68 9 rfl (by kernel_rfl) rfl rfl (fun w hw=>bC (j:=0) Tryz.underlying42 Tryz.sizeOf44 rfl rfl rfl (by omega) (Nat.add_zero _)) rfl (bP 12 rfl 69 10 rfl (by kernel_rfl) rfl rfl (fun w hw=>aW (vs:=[_,_,_,_,_,_]) Tryz.isAgg44 Tryz.sizeOf44 rfl (aB.agree (aL hw 0) (Nat.zero_le _) (by assumption))) rfl ?_))))))))))))
 refine aJ 13 rfl (dO W5.heap.size (.one t n) (.one (gF t n x1 y1))) (eA) (cS [isV _,isV _,isV _] rfl xJ (aT rfl) ⟨bZ (aQ 3 (by kernel_rfl) (aA rfl rfl rfl)),bZ (aQ 7 (by kernel_rfl) (aA rfl rfl rfl)),bZ (aQ 11 (by kernel_rfl) (aA rfl rfl rfl)),trivial⟩ (fun vs w' hb hh=>by have e:=cA (us:=[_,_,_]) hh;subst e;exact hZ hb.size (sK _ _ _ _ _ _ _ _ _ hp1 (hx1.below (hS.below.trans (hb.mono hS.below.size))) (hy1.below (hS.below.trans (hb.mono hS.below.size))) (ht.below (hS.below.trans (hb.mono hS.below.size))))) (aE rfl)) ?_
 refine cW 14 rfl 3 rfl (by kernel_rfl) rfl (fun w hw=>aV (o':=2) fT rfl rfl) rfl (bP 15 rfl 72 13 rfl (by kernel_rfl) rfl rfl (fun w hw=>bB Tryz.isAgg23 rfl ((aL hw 0).cell (Nat.zero_le _) (aK (hS.at_ 4 rfl) rfl))) rfl (bP 16 rfl 73 14 rfl (by kernel_rfl) rfl rfl (fun w hw=>bC (j:=1) Tryz.underlying23 Tryz.sizeOf25 rfl rfl rfl (by omega) rfl) rfl (bP 17 rfl 74 15 rfl (by kernel_rfl) rfl rfl (fun w hw=>aW (vs:=[_,_,_]) Tryz.isAgg25 Tryz.sizeOf25 rfl (aB.agree (aL hw 0) (Nat.zero_le _) (by assumption))) rfl (cW 18 rfl 4 rfl (by kernel_rfl) rfl (fun w hw=>aV (o':=5) cK rfl rfl) rfl (bP 19 rfl 76 17 rfl (by kernel_rfl) rfl rfl (fun w hw=>bB Tryz.isAgg42 rfl ((aL hw 0).cell (Nat.zero_le _) (aK (hS.at_ 3 rfl) rfl))) rfl (bP 20 rfl 77 18 rfl (by kernel_rfl) rfl rfl (fun w hw=>bC (j:=1) Tryz.underlying42 Tryz.sizeOf44 rfl rfl rfl (by omega) rfl) rfl (bP 21 rfl 78 19 rfl (by kernel_rfl) rfl rfl (fun w hw=>aW (vs:=[_,_,_,_,_,_]) Tryz.isAgg44 Tryz.sizeOf44 rfl (aB.agree (aL hw 0) (Nat.zero_le _) (by assumption))) rfl (cW 22 rfl 5 rfl (by kernel_rfl) rfl (fun w hw=>aV (o':=5) cK rfl rfl) rfl (bP 23 rfl 80 21 rfl (by kernel_rfl) rfl rfl (fun w hw=>bB Tryz.isAgg42 rfl ((aL hw 0).cell (Nat.zero_le _) (aK (hS.at_ 2 rfl) rfl))) rfl (bP 24 rfl 81 22 rfl (by kernel_rfl) rfl rfl (fun w hw=>bC (j:=1) Tryz.underlying42 Tryz.sizeOf44 rfl rfl rfl (by omega) rfl) rfl (bP 25 rfl 82 23 rfl (by kernel_rfl) rfl rfl (fun w hw=>aW (vs:=[_,_,_,_,_,_]) Tryz.isAgg44 Tryz.sizeOf44 rfl (aB.agree (aL hw 0) (Nat.zero_le _) (by assumption))) rfl ?_)))))))))))
 refine aJ 26 rfl (dO W5.heap.size (.one u m) (.one (gF u m x2 y2))) (eA) (cS [isV _,isV _,isV _] rfl xJ (aT rfl) ⟨bZ (aQ 16 (by kernel_rfl) (aA rfl rfl rfl)),bZ (aQ 20 (by kernel_rfl) (aA rfl rfl rfl)),bZ (aQ 24 (by kernel_rfl) (aA rfl rfl rfl)),trivial⟩ (fun vs w' hb hh=>by have e:=cA (us:=[_,_,_]) hh;subst e;exact hZ hb.size (sK _ _ _ _ _ _ _ _ _ hp2 (hx2.below (hS.below.trans (hb.mono hS.below.size))) (hy2.below (hS.below.trans (hb.mono hS.below.size))) (ht.below (hS.below.trans (hb.mono hS.below.size))))) (aE rfl)) ?_
 refine aJ 27 rfl (dO W5.heap.size (.two t n u m) (.two (gF t n x1 y1) (gF u m x2 y2))) (eA) (cS [dO _ (.one t n) (.one (gF t n x1 y1)),dO _ (.one u m) (.one (gF u m x2 y2))] rfl xK (aT rfl) ⟨bZ (aQ 12 (by kernel_rfl) (aA rfl rfl rfl)),bZ (aQ 25 (by kernel_rfl) (aA rfl rfl rfl)),trivial⟩ (fun vs w' hb hh=>sJ hb.size hh) (aE rfl)) (dV ?_)
 intro W6 hbR hS'
 clear hS;have hS:=hS';clear hS'
 refine aH (aH (aH (aH (aH (aH (aH (aH (aH (aH (aH (aH ?_)))))))))))
 refine dF ?_;rintro _ ⟨v1,rfl,hn1⟩
 refine aH (aH (aH (aH (aH (aH (aH (aH (aH (aH (aH (aH ?_)))))))))))
 refine dF ?_;rintro _ ⟨v2,rfl,hn2⟩
 refine dF ?_;rintro _ ⟨v3,rfl,hn3⟩
 refine cQ (aU (i:=0) (vs:=[_,_,_,_,_,_]) (cs':=[_,_,_,_,_,_]) (O':=[_,_,_,_,_]) hS Tryz.sizeOf44 rfl rfl rfl rfl rfl rfl rfl fun W7 hS=>aO (XF.blkN (XF.thenN (aN (aP (aS (vs:=[_,_,_,_,_,_]) Tryz.isAgg44 Tryz.sizeOf44 rfl (aB.own (j:=0) (m:=6) (hS.at_ 0 rfl) rfl) rfl (aU (i:=1) (vs:=[_,_,_,_,_,_]) (cs':=[_,_,_,_,_,_]) (O':=[_,_,_,_,_]) hS Tryz.sizeOf44 rfl rfl rfl rfl rfl rfl rfl fun W8 hS=>aO (XF.thenN (bT (XF.res (eH (vs:=[_,_,_,_,_,_]) Tryz.results148 Tryz.isAgg44 Tryz.sizeOf44 rfl (aB.own (j:=0) (m:=6) (hS.at_ 1 rfl) rfl)) ?_))))))))))
 exact ⟨v3,rfl,(hn3.agree (hS.since 0 rfl)).mono hsz,hS.below⟩
theorem No (t n u m:Int) (a1 a2:Option Addr) (c1 c2 b off sc:Nat) (w:World) (hs1:S3 w b off ⟨t,n,a1,0,c1⟩) (hs2:S3 w b (off+3) ⟨u,m,a2,0,c2⟩) (hp1:bE t n 0=true) (hp2:bE u m 0=true) :
  Calls Tryz.prog 125 #[.agg #[.int .i64 5,.int .i64 0,.slice (some ⟨b,off,none⟩) 2 sc]] w (jZ (.two t n u m) (.two (jX t n) (jX u m)) w):=by
 refine cE (args:=[.agg #[.int .i64 5,.int .i64 0,.slice (some ⟨b,off,none⟩) 2 sc]]) Tryz.func125 rfl Tryz.ntmps125 rfl ?_
 have hS:=St.start w
 refine aN (aP (bW (cs:=[_,_,_]) hS rfl rfl rfl fun B1 W1 hS=>bG (cs:=[_,_,_,_,_,_]) hS Tryz.zeroValue44 rfl rfl fun B2 W2 hS=>aO (XF.thenN (aN (aP (bG (cs:=[_,_,_,_,_,_]) hS Tryz.zeroValue44 rfl rfl fun B3 W3 hS=>aO (XF.thenN (aN (aN (aP (aM (o':=0) fJ rfl rfl rfl (aR Tryz.isAgg22 rfl (aK (hS.at_ 2 rfl) rfl) rfl (aO (XF.thenN (bX (aN (aP (cN rfl rfl rfl (aC rfl rfl (aO (XF.thenN (bA rfl (fun hc=>absurd (of_decide_eq_true hc) (by omega)) (fun hc=>?_)))))))))))))))))))))))
 have hc:=of_decide_eq_false hc
 refine aN (aP (cN rfl rfl rfl (aC rfl rfl (aO (XF.thenN (bA rfl (fun hc=>absurd (of_decide_eq_true hc) (by omega)) (fun hc=>?_)))))))
 have hc:=of_decide_eq_false hc
 refine aN (aP (cN rfl rfl rfl (aC rfl rfl (aO (XF.thenN (bA rfl (fun hc=>?_) (fun hc=>absurd (of_decide_eq_false hc) (by omega))))))))
 have hc:=of_decide_eq_true hc
 have hsz:=hS.below.size
 have k1:=aB.agree hS.agree (Nat.zero_le _) hs1.cells
 have k2:=aB.agree hS.agree (Nat.zero_le _) hs2.cells
 refine vT cD 11 hS rfl rfl (by kernel_rfl) (by kernel_rfl) (by kernel_rfl) (fun d hd=>by cases hd) (cW 1 rfl 1 rfl (by kernel_rfl) rfl (fun w hw=>aV (o':=2) fT rfl rfl) rfl (bP 2 rfl 26 0 rfl (by kernel_rfl) rfl rfl (fun w hw=>bB Tryz.isAgg23 rfl ((aL hw 0).cell (Nat.zero_le _) (aK (hS.at_ 2 rfl) rfl))) rfl (bP 3 rfl 27 1 rfl (by kernel_rfl) rfl rfl (fun w hw=>bC (j:=0) Tryz.underlying23 Tryz.sizeOf25 rfl rfl rfl (by omega) (Nat.add_zero _)) rfl (bP 4 rfl 28 2 rfl (by kernel_rfl) rfl rfl (fun w hw=>aW (vs:=[_,_,_]) Tryz.isAgg25 Tryz.sizeOf25 rfl (aB.agree (aL hw 0) (Nat.zero_le _) (by assumption))) rfl ?_))))
 refine aJ 5 rfl (dO W3.heap.size (.one t n) (.one (jX t n))) (eA) (cS [isV _] rfl xG (aT rfl) ⟨bZ (aQ 3 (by kernel_rfl) (aA rfl rfl rfl)),trivial⟩ (fun vs w' hb hh=>by have e:=cA (us:=[_]) hh;subst e;exact hZ hb.size (sL _ _ _ _ _ hp1)) (aE rfl)) ?_
 refine cW 6 rfl 1 rfl (by kernel_rfl) rfl (fun w hw=>aV (o':=2) fT rfl rfl) rfl (bP 7 rfl 31 5 rfl (by kernel_rfl) rfl rfl (fun w hw=>bB Tryz.isAgg23 rfl ((aL hw 0).cell (Nat.zero_le _) (aK (hS.at_ 2 rfl) rfl))) rfl (bP 8 rfl 32 6 rfl (by kernel_rfl) rfl rfl (fun w hw=>bC (j:=1) Tryz.underlying23 Tryz.sizeOf25 rfl rfl rfl (by omega) rfl) rfl (bP 9 rfl 33 7 rfl (by kernel_rfl) rfl rfl (fun w hw=>aW (vs:=[_,_,_]) Tryz.isAgg25 Tryz.sizeOf25 rfl (aB.agree (aL hw 0) (Nat.zero_le _) (by assumption))) rfl ?_)))
 refine aJ 10 rfl (dO W3.heap.size (.one u m) (.one (jX u m))) (eA) (cS [isV _] rfl xG (aT rfl) ⟨bZ (aQ 8 (by kernel_rfl) (aA rfl rfl rfl)),trivial⟩ (fun vs w' hb hh=>by have e:=cA (us:=[_]) hh;subst e;exact hZ hb.size (sL _ _ _ _ _ hp2)) (aE rfl)) ?_
 refine aJ 11 rfl (dO W3.heap.size (.two t n u m) (.two (jX t n) (jX u m))) (eA) (cS [dO _ (.one t n) (.one (jX t n)),dO _ (.one u m) (.one (jX u m))] rfl xK (aT rfl) ⟨bZ (aQ 4 (by kernel_rfl) (aA rfl rfl rfl)),bZ (aQ 9 (by kernel_rfl) (aA rfl rfl rfl)),trivial⟩ (fun vs w' hb hh=>sJ hb.size hh) (aE rfl)) (dV ?_)
 intro W4 hbR hS'
 clear hS;have hS:=hS';clear hS'
 refine aH (aH (aH (aH ?_)))
 refine dF ?_;rintro _ ⟨v1,rfl,hn1⟩
 refine aH (aH (aH (aH ?_)))
 refine dF ?_;rintro _ ⟨v2,rfl,hn2⟩
 refine dF ?_;rintro _ ⟨v3,rfl,hn3⟩
 refine cQ (aU (i:=0) (vs:=[_,_,_,_,_,_]) (cs':=[_,_,_,_,_,_]) (O':=[_,_,_]) hS Tryz.sizeOf44 rfl rfl rfl rfl rfl rfl rfl fun W5 hS=>aO (XF.blkN (XF.thenN (aN (aP (aS (vs:=[_,_,_,_,_,_]) Tryz.isAgg44 Tryz.sizeOf44 rfl (aB.own (j:=0) (m:=6) (hS.at_ 0 rfl) rfl) rfl (aU (i:=1) (vs:=[_,_,_,_,_,_]) (cs':=[_,_,_,_,_,_]) (O':=[_,_,_]) hS Tryz.sizeOf44 rfl rfl rfl rfl rfl rfl rfl fun W6 hS=>aO (XF.thenN (bT (XF.res (eH (vs:=[_,_,_,_,_,_]) Tryz.results125 Tryz.isAgg44 Tryz.sizeOf44 rfl (aB.own (j:=0) (m:=6) (hS.at_ 1 rfl) rfl)) ?_))))))))))
 exact ⟨v3,rfl,(hn3.agree (hS.since 0 rfl)).mono hsz,hS.below⟩
theorem Ip (t n u m:Int) (a1 a2:Option Addr) (c1 c2 b off sc:Nat) (w:World) (hs1:S3 w b off ⟨t,n,a1,0,c1⟩) (hs2:S3 w b (off+3) ⟨u,m,a2,0,c2⟩) (hp1:bE t n 0=true) (hp2:bE u m 0=true)(fra fca:Option Addr) (frc fcc fpc fb fo:Nat) (f1 f2:WF) (x1 x2:PF) (hf6:W6 w fb fo f1) (hf7:W6 w fb (fo+6) f2) (hx1:PIs w t n f1 x1) (hx2:PIs w u m f2 x2)(gra gca:Option Addr) (grc gcc gpc gb go:Nat) (g1 g2:WF) (y1 y2:PF) (hg6:W6 w gb go g1) (hg7:W6 w gb (go+6) g2) (hy1:PIs w t n g1 y1) (hy2:PIs w u m g2 y2)(ht:Tabs w) :
  Calls Tryz.prog 108 #[.agg #[.int .i64 5,.int .i64 0,.slice (some ⟨b,off,none⟩) 2 sc],.agg #[.bool false,.int .i64 0,.int .u64 0,.slice fra 0 frc,.slice fca 0 fcc,.slice (some ⟨fb,fo,none⟩) 2 fpc],.agg #[.bool false,.int .i64 0,.int .u64 0,.slice gra 0 grc,.slice gca 0 gcc,.slice (some ⟨gb,go,none⟩) 2 gpc]] w (jZ (.two t n u m) (.two (dC t n x1 y1) (dC u m x2 y2)) w):=by
 refine cE (args:=[.agg #[.int .i64 5,.int .i64 0,.slice (some ⟨b,off,none⟩) 2 sc],.agg #[.bool false,.int .i64 0,.int .u64 0,.slice fra 0 frc,.slice fca 0 fcc,.slice (some ⟨fb,fo,none⟩) 2 fpc],.agg #[.bool false,.int .i64 0,.int .u64 0,.slice gra 0 grc,.slice gca 0 gcc,.slice (some ⟨gb,go,none⟩) 2 gpc]]) Tryz.func108 rfl Tryz.ntmps108 rfl ?_
 have hS:=St.start w
 refine aN (aP (bW (cs:=[_,_,_]) hS rfl rfl rfl fun B1 W1 hS=>bW (cs:=[_,_,_,_,_,_]) hS rfl rfl rfl fun B2 W2 hS=>bW (cs:=[_,_,_,_,_,_]) hS rfl rfl rfl fun B3 W3 hS=>bG (cs:=[_,_,_,_,_,_]) hS Tryz.zeroValue44 rfl rfl fun B4 W4 hS=>aO (XF.thenN (aN (aN (aP (aM (o':=0) dI rfl rfl rfl (aR Tryz.isAgg4 rfl (aK (hS.at_ 2 rfl) rfl) rfl (aO (XF.thenN (bA rfl (fun hc=>absurd hc (by decide)) (fun hc=>?_))))))))))))
 skip
 refine bM (XF.thenN (aN (aN (aP (aM (o':=0) dI rfl rfl rfl (aR Tryz.isAgg4 rfl (aK (hS.at_ 1 rfl) rfl) rfl (aO (XF.thenN (bA rfl (fun hc=>absurd hc (by decide)) (fun hc=>?_))))))))))
 skip
 refine bM (XF.thenN (aN (aP (bG (cs:=[_,_,_,_,_,_]) hS Tryz.zeroValue44 rfl rfl fun B5 W5 hS=>aO (XF.thenN (aN (aN (aP (aM (o':=0) fJ rfl rfl rfl (aR Tryz.isAgg22 rfl (aK (hS.at_ 4 rfl) rfl) rfl (aO (XF.thenN (bX (aN (aP (cN rfl rfl rfl (aC rfl rfl (aO (XF.thenN (bA rfl (fun hc=>absurd (of_decide_eq_true hc) (by omega)) (fun hc=>?_)))))))))))))))))))))
 have hc:=of_decide_eq_false hc
 refine aN (aP (cN rfl rfl rfl (aC rfl rfl (aO (XF.thenN (bA rfl (fun hc=>absurd (of_decide_eq_true hc) (by omega)) (fun hc=>?_)))))))
 have hc:=of_decide_eq_false hc
 refine aN (aP (cN rfl rfl rfl (aC rfl rfl (aO (XF.thenN (bA rfl (fun hc=>absurd (of_decide_eq_true hc) (by omega)) (fun hc=>?_)))))))
 have hc:=of_decide_eq_false hc
 refine aN (aP (cN rfl rfl rfl (aC rfl rfl (aO (XF.thenN (bA rfl (fun hc=>?_) (fun hc=>absurd (of_decide_eq_false hc) (by omega))))))))
 have hc:=of_decide_eq_true hc
 have hsz:=hS.below.size
 have k1:=aB.agree hS.agree (Nat.zero_le _) hs1.cells
 have k2:=aB.agree hS.agree (Nat.zero_le _) hs2.cells
 have kf1:=aB.agree hS.agree (Nat.zero_le _) hf6.cells
 have kf2:=aB.agree hS.agree (Nat.zero_le _) hf7.cells
 have kg1:=aB.agree hS.agree (Nat.zero_le _) hg6.cells
 have kg2:=aB.agree hS.agree (Nat.zero_le _) hg7.cells
 refine vT cD 27 hS rfl rfl (by kernel_rfl) (by kernel_rfl) (by kernel_rfl) (fun d hd=>by cases hd) (cW 1 rfl 3 rfl (by kernel_rfl) rfl (fun w hw=>aV (o':=2) fT rfl rfl) rfl (bP 2 rfl 60 0 rfl (by kernel_rfl) rfl rfl (fun w hw=>bB Tryz.isAgg23 rfl ((aL hw 0).cell (Nat.zero_le _) (aK (hS.at_ 4 rfl) rfl))) rfl (bP 3 rfl 61 1 rfl (by kernel_rfl) rfl rfl (fun w hw=>bC (j:=0) Tryz.underlying23 Tryz.sizeOf25 rfl rfl rfl (by omega) (Nat.add_zero _)) rfl (bP 4 rfl 62 2 rfl (by kernel_rfl) rfl rfl (fun w hw=>aW (vs:=[_,_,_]) Tryz.isAgg25 Tryz.sizeOf25 rfl (aB.agree (aL hw 0) (Nat.zero_le _) (by assumption))) rfl (cW 5 rfl 4 rfl (by kernel_rfl) rfl (fun w hw=>aV (o':=5) cK rfl rfl) rfl (bP 6 rfl 64 4 rfl (by kernel_rfl) rfl rfl (fun w hw=>bB Tryz.isAgg42 rfl ((aL hw 0).cell (Nat.zero_le _) (aK (hS.at_ 3 rfl) rfl))) rfl (bP 7 rfl 65 5 rfl (by kernel_rfl) rfl rfl (fun w hw=>bC (j:=0) Tryz.underlying42 Tryz.sizeOf44 rfl rfl rfl (by omega) (Nat.add_zero _)) rfl (bP 8 rfl 66 6 rfl (by kernel_rfl) rfl rfl (fun w hw=>aW (vs:=[_,_,_,_,_,_]) Tryz.isAgg44 Tryz.sizeOf44 rfl (aB.agree (aL hw 0) (Nat.zero_le _) (by assumption))) rfl (cW 9 rfl 5 rfl (by kernel_rfl) rfl (fun w hw=>aV (o':=5) cK rfl rfl) rfl (bP 10 rfl 68 8 rfl (by kernel_rfl) rfl rfl (fun w hw=>bB Tryz.isAgg42 rfl ((aL hw 0).cell (Nat.zero_le _) (aK (hS.at_ 2 rfl) rfl))) rfl (bP 11 rfl 69 9 rfl (by kernel_rfl) rfl rfl (fun w hw=>bC (j:=0) Tryz.underlying42 Tryz.sizeOf44 rfl rfl rfl (by omega) (Nat.add_zero _)) rfl (bP 12 rfl 70 10 rfl (by kernel_rfl) rfl rfl (fun w hw=>aW (vs:=[_,_,_,_,_,_]) Tryz.isAgg44 Tryz.sizeOf44 rfl (aB.agree (aL hw 0) (Nat.zero_le _) (by assumption))) rfl ?_))))))))))))
 refine aJ 13 rfl (dO W5.heap.size (.one t n) (.one (dC t n x1 y1))) (eA) (cS [isV _,isV _,isV _] rfl xI (aT rfl) ⟨bZ (aQ 3 (by kernel_rfl) (aA rfl rfl rfl)),bZ (aQ 7 (by kernel_rfl) (aA rfl rfl rfl)),bZ (aQ 11 (by kernel_rfl) (aA rfl rfl rfl)),trivial⟩ (fun vs w' hb hh=>by have e:=cA (us:=[_,_,_]) hh;subst e;exact hZ hb.size (pU _ _ _ _ _ _ _ _ _ hp1 (hx1.below (hS.below.trans (hb.mono hS.below.size))) (hy1.below (hS.below.trans (hb.mono hS.below.size))) (ht.below (hS.below.trans (hb.mono hS.below.size))))) (aE rfl)) ?_
 refine cW 14 rfl 3 rfl (by kernel_rfl) rfl (fun w hw=>aV (o':=2) fT rfl rfl) rfl (bP 15 rfl 73 13 rfl (by kernel_rfl) rfl rfl (fun w hw=>bB Tryz.isAgg23 rfl ((aL hw 0).cell (Nat.zero_le _) (aK (hS.at_ 4 rfl) rfl))) rfl (bP 16 rfl 74 14 rfl (by kernel_rfl) rfl rfl (fun w hw=>bC (j:=1) Tryz.underlying23 Tryz.sizeOf25 rfl rfl rfl (by omega) rfl) rfl (bP 17 rfl 75 15 rfl (by kernel_rfl) rfl rfl (fun w hw=>aW (vs:=[_,_,_]) Tryz.isAgg25 Tryz.sizeOf25 rfl (aB.agree (aL hw 0) (Nat.zero_le _) (by assumption))) rfl (cW 18 rfl 4 rfl (by kernel_rfl) rfl (fun w hw=>aV (o':=5) cK rfl rfl) rfl (bP 19 rfl 77 17 rfl (by kernel_rfl) rfl rfl (fun w hw=>bB Tryz.isAgg42 rfl ((aL hw 0).cell (Nat.zero_le _) (aK (hS.at_ 3 rfl) rfl))) rfl (bP 20 rfl 78 18 rfl (by kernel_rfl) rfl rfl (fun w hw=>bC (j:=1) Tryz.underlying42 Tryz.sizeOf44 rfl rfl rfl (by omega) rfl) rfl (bP 21 rfl 79 19 rfl (by kernel_rfl) rfl rfl (fun w hw=>aW (vs:=[_,_,_,_,_,_]) Tryz.isAgg44 Tryz.sizeOf44 rfl (aB.agree (aL hw 0) (Nat.zero_le _) (by assumption))) rfl (cW 22 rfl 5 rfl (by kernel_rfl) rfl (fun w hw=>aV (o':=5) cK rfl rfl) rfl (bP 23 rfl 81 21 rfl (by kernel_rfl) rfl rfl (fun w hw=>bB Tryz.isAgg42 rfl ((aL hw 0).cell (Nat.zero_le _) (aK (hS.at_ 2 rfl) rfl))) rfl (bP 24 rfl 82 22 rfl (by kernel_rfl) rfl rfl (fun w hw=>bC (j:=1) Tryz.underlying42 Tryz.sizeOf44 rfl rfl rfl (by omega) rfl) rfl (bP 25 rfl 83 23 rfl (by kernel_rfl) rfl rfl (fun w hw=>aW (vs:=[_,_,_,_,_,_]) Tryz.isAgg44 Tryz.sizeOf44 rfl (aB.agree (aL hw 0) (Nat.zero_le _) (by assumption))) rfl ?_)))))))))))
 refine aJ 26 rfl (dO W5.heap.size (.one u m) (.one (dC u m x2 y2))) (eA) (cS [isV _,isV _,isV _] rfl xI (aT rfl) ⟨bZ (aQ 16 (by kernel_rfl) (aA rfl rfl rfl)),bZ (aQ 20 (by kernel_rfl) (aA rfl rfl rfl)),bZ (aQ 24 (by kernel_rfl) (aA rfl rfl rfl)),trivial⟩ (fun vs w' hb hh=>by have e:=cA (us:=[_,_,_]) hh;subst e;exact hZ hb.size (pU _ _ _ _ _ _ _ _ _ hp2 (hx2.below (hS.below.trans (hb.mono hS.below.size))) (hy2.below (hS.below.trans (hb.mono hS.below.size))) (ht.below (hS.below.trans (hb.mono hS.below.size))))) (aE rfl)) ?_
 refine aJ 27 rfl (dO W5.heap.size (.two t n u m) (.two (dC t n x1 y1) (dC u m x2 y2))) (eA) (cS [dO _ (.one t n) (.one (dC t n x1 y1)),dO _ (.one u m) (.one (dC u m x2 y2))] rfl xK (aT rfl) ⟨bZ (aQ 12 (by kernel_rfl) (aA rfl rfl rfl)),bZ (aQ 25 (by kernel_rfl) (aA rfl rfl rfl)),trivial⟩ (fun vs w' hb hh=>sJ hb.size hh) (aE rfl)) (dV ?_)
 intro W6 hbR hS'
 clear hS;have hS:=hS';clear hS'
 refine aH (aH (aH (aH (aH (aH (aH (aH (aH (aH (aH (aH ?_)))))))))))
 refine dF ?_;rintro _ ⟨v1,rfl,hn1⟩
 refine aH (aH (aH (aH (aH (aH (aH (aH (aH (aH (aH (aH ?_)))))))))))
 refine dF ?_;rintro _ ⟨v2,rfl,hn2⟩
 refine dF ?_;rintro _ ⟨v3,rfl,hn3⟩
 refine cQ (aU (i:=0) (vs:=[_,_,_,_,_,_]) (cs':=[_,_,_,_,_,_]) (O':=[_,_,_,_,_]) hS Tryz.sizeOf44 rfl rfl rfl rfl rfl rfl rfl fun W7 hS=>aO (XF.blkN (XF.thenN (aN (aP (aS (vs:=[_,_,_,_,_,_]) Tryz.isAgg44 Tryz.sizeOf44 rfl (aB.own (j:=0) (m:=6) (hS.at_ 0 rfl) rfl) rfl (aU (i:=1) (vs:=[_,_,_,_,_,_]) (cs':=[_,_,_,_,_,_]) (O':=[_,_,_,_,_]) hS Tryz.sizeOf44 rfl rfl rfl rfl rfl rfl rfl fun W8 hS=>aO (XF.thenN (bT (XF.res (eH (vs:=[_,_,_,_,_,_]) Tryz.results108 Tryz.isAgg44 Tryz.sizeOf44 rfl (aB.own (j:=0) (m:=6) (hS.at_ 1 rfl) rfl)) ?_))))))))))
 exact ⟨v3,rfl,(hn3.agree (hS.since 0 rfl)).mono hsz,hS.below⟩
end Go.Proofs.YtmgnkpibpjgncaaGreatDoor
namespace Go.Proofs.YtmgnkpibpjgncaaGreatDoor
open Go.RowKit
attribute [local go_sem ↓] Go.wp_at_zero Go.wp_at_succ
theorem Ca (t n:Int) (a:Option Addr) (l c0:Nat) (ht:t≠5) (w:World) :
  Calls Tryz.prog 107 #[.agg #[.int .i64 t,.int .i64 n,.slice a l c0]] w fun e w'=>e = .returned (.agg #[.bool true,.int .i64 0,.int .u64 0,.slice none 0 0,.slice none 0 0,.slice none 0 0])∧Below w.heap.size w w':=vX t n a l c0 ht w
theorem Np (w:World) :
  Calls Tryz.prog 136 #[.agg #[.bool true,.int .i64 0,.int .u64 0,.slice none 0 0,.slice none 0 0,.slice none 0 0],.agg #[.bool true,.int .i64 0,.int .u64 0,.slice none 0 0,.slice none 0 0,.slice none 0 0]] w fun e w'=>∃ blk,e = .returned (.agg #[.bool false,.int .i64 0,.int .u64 0,.slice none 0 0,.slice none 0 0,.slice (some ⟨blk,0,none⟩) 2 2])∧W6 w' blk 0 rO∧W6 w' blk 6 rO∧w.heap.size≤blk∧Below w.heap.size w w':=Km rO rO w
set_option maxHeartbeats 8000000 in
theorem Iq (d:Nat) (sa:Option Addr) (sc:Nat) (p q:SV) (w:World) (hsp:SIn w (d+1) (.mk ⟨5,0,sa,2,sc⟩ [p,q])) (hp:p.pl=true) (hq:q.pl=true) :
  Calls Tryz.prog 107 #[.agg #[.int .i64 5,.int .i64 0,.slice sa 2 sc]] w (jZ (.two p.f.tag p.f.dim q.f.tag q.f.dim) (.two dB dB) w):=by
 obtain ⟨_,b,off,ha,hb,hp3,hq3,_,_⟩:=hsp.two
 obtain rfl:sa=some ⟨b,off,none⟩:=ha
 obtain ⟨⟨pt,pn,pa,pl,pc⟩,pps⟩:=p
 obtain ⟨⟨qt,qn,qa,ql,qc⟩,qps⟩:=q
 have hp5:=Lib.hid (wT (show bE pt pn pl=true from hp));have hq5:=Lib.hid (wT (show bE qt qn ql=true from hq))
 obtain ⟨t0,t1⟩:=lO w #[.int .i64 5,.int .i64 0,.slice (some ⟨b,off,none⟩) 2 sc] #[.bool false,.int .i64 0,.int .u64 0,.slice none 0 0,.slice none 0 0,.slice none 0 0] 25 44
 have T0:=Lib.hid t0;have T1:=Lib.hid t1
 have hB:=Lib.hid (Mh w #[.int .i64 5,.int .i64 0,.slice (some ⟨b,off,none⟩) 2 sc] #[.bool false,.int .i64 0,.int .u64 0,.slice none 0 0,.slice none 0 0,.slice none 0 0] 25 44)
 have hsz:((w.alloc (.cells #[.int .i64 5,.int .i64 0,.slice (some ⟨b,off,none⟩) 2 sc] 25)).alloc (.cells #[.bool false,.int .i64 0,.int .u64 0,.slice none 0 0,.slice none 0 0,.slice none 0 0] 44)).heap.size=w.heap.size+1+1:=by simp
 have n1:¬ (w.heap.size+1=w.heap.size):=by omega
 have n2:¬ (w.heap.size+1=b):=by omega
 obtain ⟨W0,hW0⟩:∃ W,(w.alloc (.cells #[.int .i64 5,.int .i64 0,.slice (some ⟨b,off,none⟩) 2 sc] 25)).alloc (.cells #[.bool false,.int .i64 0,.int .u64 0,.slice none 0 0,.slice none 0 0,.slice none 0 0] 44)=W:=⟨_,rfl⟩
 rw [hW0] at hB T0 T1 hsz
 have HSZ:=Lib.hid hsz
 have HP3:=Lib.hid (S3.below hp3 hB.out);have HQ3:=Lib.hid (S3.below hq3 hB.out)
 obtain ⟨x0,x1,x2⟩:=fX T0.out
 obtain ⟨y0,y1,y2,y3,y4,y5⟩:=eP T1.out
 have EN:Hid (∀ W:World,Below W0.heap.size W0 W→W.cell? ⟨w.heap.size,2,none⟩=some (.slice (some ⟨b,off,none⟩) 2 sc)∧W.cell? ⟨b,off,none⟩=some (.int .i64 pt)∧W.cell? ⟨b,off+1,none⟩=some (.int .i64 pn)∧W.cell? ⟨b,off+2,none⟩=some (.slice pa pl pc)∧W.cell? ⟨b,off+3,none⟩=some (.int .i64 qt)∧W.cell? ⟨b,off+4,none⟩=some (.int .i64 qn)∧W.cell? ⟨b,off+5,none⟩=some (.slice qa ql qc)):=fun W h=>by
  obtain ⟨a0,a1,a2⟩:=fX (cF T0.out h)
  obtain ⟨d0,d1,d2⟩:=HP3.out.below h;obtain ⟨e0,e1,e2⟩:=HQ3.out.below h
  exact ⟨a2,d0,d1,d2,e0,e1,e2⟩
 obtain ⟨m0,m1,m2,m3,m4,m5,m6⟩:=EN.out _ (Below.refl _ _)
 clear hsp hp hq hp3 hq3 t0 t1 hsz hb
 have D0:Hid (Below W0.heap.size W0 W0.drew):=(Below.refl _ _).drew
 go_enter Tryz.func107,Tryz.ntmps107
 go_wp2_with fail
 go_region_held3 (fun w'=>w'.cell? ⟨w.heap.size,2,none⟩=some (.slice (some ⟨b,off,none⟩) 2 sc)∧w'.cell? ⟨b,off,none⟩=some (.int .i64 pt)∧w'.cell? ⟨b,off+1,none⟩=some (.int .i64 pn)∧w'.cell? ⟨b,off+2,none⟩=some (.slice pa pl pc)∧w'.cell? ⟨b,off+3,none⟩=some (.int .i64 qt)∧w'.cell? ⟨b,off+4,none⟩=some (.int .i64 qn)∧w'.cell? ⟨b,off+5,none⟩=some (.slice qa ql qc))
  (first | (simp only [World.cell?_setCell_far,ne_eq,n1,n2,not_false_eq_true];with_reducible exact EN.out _ D3.out) | with_reducible exact EN.out _ D0.out | with_reducible exact EN.out _ D1.out | with_reducible exact EN.out _ D2.out | with_reducible exact EN.out _ D3.out | with_reducible exact EN.out _ (Below.refl _ _) | fail)
  (first | (go_at_call 107;with_reducible refine (Ca pt pn pa pl pc hp5.out W0.drew).mono ?_;rintro e z1 ⟨rfl,hz1⟩;have D1:=Lib.hid (D0.out.trans (hz1.mono D0.out.size))) | (go_at_call 107;with_reducible refine (Ca qt qn qa ql qc hq5.out z1).mono ?_;rintro e z2 ⟨rfl,hz2⟩;have D2:=Lib.hid (D1.out.trans (hz2.mono D1.out.size))) | (go_at_call 136;with_reducible refine (Np z2).mono ?_;rintro e z3 ⟨blk,rfl,hx6,hy6,hge,hz3⟩;have D3:=Lib.hid (D2.out.trans (hz3.mono D2.out.size));have XO:=Lib.hid (cF T1.out D3.out);obtain ⟨o0,o1,o2,o3,o4,o5⟩:=eP XO.out;have f0:=dZ XO.out 0;have f1:=dZ XO.out 1;have f2:=dZ XO.out 2;have f3:=dZ XO.out 3;have f4:=dZ XO.out 4;have f5:=dZ XO.out 5) | fail)
 all_goals
  have NS:=Lib.hid (Ko (v0:=.bool false) (v1:=.int .i64 0) (v2:=.int .u64 0) (v3:=.slice none 0 0) (v4:=.slice none 0 0) (v5:=.slice (some ⟨blk,0,none⟩) 2 2) XO.out)
  obtain ⟨s0,s1,s2,s3,s4,s5⟩:=eP NS.out
  have hle:=D2.out.size
  have hge2:w.heap.size+1+1≤blk:=by have:=HSZ.out;omega
  have HX6:=Lib.hid hx6;have HY6:=Lib.hid hy6
  have HB3:=Lib.hid (hB.out.trans (D3.out.mono hB.out.size))
  clear hx6 hy6 f0 f1 f2 f3 f4 f5 o0 o1 o2 o3 o4 o5
  go_wp2_with fail
  refine bodyPost_ret (v:=.agg #[.bool false,.int .i64 0,.int .u64 0,.slice none 0 0,.slice none 0 0,.slice (some ⟨blk,0,none⟩) 2 2]) ?_ rfl ⟨tQ blk,rfl,?_,?_⟩
  rotate_left
  ·exact (yM (HX6.out.above (n:=w.heap.size+1+1) hge2 (sI _ _ _ _ _ _ (jP.refl _ _) (by omega))) (HY6.out.above (n:=w.heap.size+1+1) hge2 (sI _ _ _ _ _ _ (jP.refl _ _) (by omega))) hge2 (nI _ _ _ _) (nI _ _ _ _)).mono (by omega)
  ·exact yL _ _ _ _ _ _ HB3.out (by omega)
  ·simp [results,Tryz.results107,go_sem,s0,s1,s2,s3,s4,s5]
end Go.Proofs.YtmgnkpibpjgncaaGreatDoor
namespace Go.Proofs.YtmgnkpibpjgncaaGreatDoor
open Go Go.RowKit
theorem PIs.pw {w:World} {t n:Int} {f:WF} {x:PF} (h:PIs w t n f x):fD t n f=true:=by
 obtain ⟨ez,ec,eg,er,ex⟩:=kY h.pf
 have hrl:=h.at_.rl;have hcl:=h.at_.cl;have hpl:=h.pl
 rw [er] at hrl;rw [ex] at hcl
 unfold fD iF iE
 rw [ez,ec,eg,er,ex,hpl,← hrl,← hcl]
 cases h.ok with
 | zero=>simp [dB]
 | bool ht=>rw [ht];simp [pC]
 | cost c ht h0 h1=>rw [ht];simp [pC,h0,h1]
 | facts m g rows ht hn hg=>rw [ht,hn];simp [pF,sC hg]
 | cells m cs ht hn hv=>rw [ht,hn];simp [pX,hv.chk]
theorem SIs.sin {w:World} {S:PS} {f:SF} (h:SIs w S f) (hok:S.ok):∃ s:SV,s.f=f∧SIn w 2 s∧dP s=0:=by
 cases S with
 | one t n =>
  obtain ⟨a,c,rfl⟩:=h
  exact ⟨.mk ⟨t,n,a,0,c⟩ [],rfl,⟨rfl,.inl rfl,by simp⟩,by
   show (if bE t n 0=true then (0:Int) else _)=0
   rw [if_pos (show bE t n 0=true from hok)]⟩
 | two t n u m =>
  obtain ⟨b,off,c,a1,c1,a2,c2,rfl,h1,h2⟩:=h
  refine ⟨.mk ⟨5,0,some ⟨b,off,none⟩,2,c⟩ [.mk ⟨t,n,a1,0,c1⟩ [],.mk ⟨u,m,a2,0,c2⟩ []],rfl,⟨rfl,.inr ⟨b,off,rfl,fun i p hi=>?_⟩,?_⟩,?_⟩
  ·match i,hi with
   | 0,hi=>simp at hi;subst hi;simpa [SV.f] using h1
   | 1,hi=>simp at hi;subst hi;simpa [SV.f] using h2
  ·intro p hp
   simp at hp
   rcases hp with rfl | rfl<;>exact ⟨rfl,.inl rfl,by simp⟩
  ·have e1:SV.pl (.mk ⟨t,n,a1,0,c1⟩ [])=true:=hok.1
   have e2:SV.pl (.mk ⟨u,m,a2,0,c2⟩ [])=true:=hok.2
   simp only [dP]
   rw [if_neg (by simp [bE]),if_pos ⟨trivial,trivial,rfl,by simp [e1,e2]⟩]
theorem XIs.two {w:World} {t n u m:Int} {f:WF} {a b:PF} (h:XIs w (.two t n u m) f (.two a b)):∃ (ra ca:Option Addr) (rc cc pc fb fo:Nat) (f1 f2:WF),f=⟨false,0,0,ra,0,rc,[],ca,0,cc,[],some ⟨fb,fo,none⟩,2,pc⟩∧W6 w fb fo f1∧W6 w fb (fo+6) f2∧PIs w t n f1 a∧PIs w u m f2 b:=by
 obtain ⟨h1,h2,h3,h4,blk,off,g,k,h5,h6,h7,h8,h9⟩:=h
 obtain ⟨z,c,gg,ra,rl,rc,rows,ca,cl,cc,cells,pa,pl,pc⟩:=f
 simp only [WF.pf,pC,PF.mk.injEq] at h1
 obtain ⟨rfl,rfl,rfl,rfl,rfl⟩:=h1
 dsimp only at h2 h3 h4 h5
 subst h2;subst h3;subst h4;subst h5
 exact ⟨ra,ca,rc,cc,pc,blk,off,g,k,rfl,h6,h7,h8,h9⟩
theorem wU {w:World} {t n u m:Int} {ra ca:Option Addr} {rc cc pc fb fo:Nat} {f1 f2:WF} {a b:PF} (h6:W6 w fb fo f1) (h7:W6 w fb (fo+6) f2) (h8:PIs w t n f1 a) (h9:PIs w u m f2 b) :
  WIn w 2 (.mk ⟨false,0,0,ra,0,rc,[],ca,0,cc,[],some ⟨fb,fo,none⟩,2,pc⟩ [.mk f1 [],.mk f2 []]):=by
 refine ⟨⟨.inl rfl,rfl,(by show (0:Nat) < _;decide),(fun r hr=>by cases hr),.inl rfl,rfl,(fun c hc=>by cases hc),(by show (0:Nat)≤_;decide)⟩,rfl,.inr ⟨fb,fo,rfl,fun i p hi=>?_⟩,fun p hp=>?_⟩
 ·match i,hi with
  | 0,hi=>simp at hi;subst hi;simpa [WV.f] using h6
  | 1,hi=>simp at hi;subst hi;simpa [WV.f] using h7
 ·simp at hp
  rcases hp with rfl | rfl
  ·exact ⟨h8.at_,h8.pl.symm,.inl rfl,by simp⟩
  ·exact ⟨h9.at_,h9.pl.symm,.inl rfl,by simp⟩
theorem yP {w:World} {t n u m:Int} {ra ca:Option Addr} {a1 a2:Option Addr} {c1 c2 rc cc pc fb fo:Nat} {f1 f2:WF} {a b:PF} (h8:PIs w t n f1 a) (h9:PIs w u m f2 b) :
  gO (.mk ⟨t,n,a1,0,c1⟩ []) (.mk ⟨u,m,a2,0,c2⟩ []) ⟨false,0,0,ra,0,rc,[],ca,0,cc,[],some ⟨fb,fo,none⟩,2,pc⟩ [.mk f1 [],.mk f2 []]=true:=by
 have e1:fD t n f1=true:=h8.pw
 have e2:fD u m f2=true:=h9.pw
 simp [gO,iF,iE,pwAt,SV.f,WV.f,e1,e2]
section
variable {w:World} {S:PS} {sf:SF} {f g:WF} {x y:PX}
theorem Dy {t n u m:Int} {b off sc:Nat} {a1 a2:Option Addr} {c1 c2:Nat} (h1:S3 w b off ⟨t,n,a1,0,c1⟩) (h2:S3 w b (off+3) ⟨u,m,a2,0,c2⟩):SIn w 2 (.mk ⟨5,0,some ⟨b,off,none⟩,2,sc⟩ [.mk ⟨t,n,a1,0,c1⟩ [],.mk ⟨u,m,a2,0,c2⟩ []]):=by
 refine ⟨rfl,.inr ⟨b,off,rfl,fun i p hi=>?_⟩,?_⟩
 ·match i,hi with
  | 0,hi=>simp at hi;subst hi;simpa [SV.f] using h1
  | 1,hi=>simp at hi;subst hi;simpa [SV.f] using h2
 ·intro p hp
  simp at hp
  rcases hp with rfl | rfl<;>exact ⟨rfl,.inl rfl,by simp⟩
theorem isA_ok (hs:SIs w S sf) (hok:S.ok) (hx:XIs w S f x):Calls Tryz.prog 103 #[sf.val,f.val] w fun e w'=>e = .returned (.bool true)∧Below w.heap.size w w':=by
 cases S<;>cases x<;>first | exact hx.elim | skip
 ·obtain ⟨a,c,rfl⟩:=hs
  exact lS _ _ _ _ _ _ hok (Nat.zero_le _) w (PIs.at_ hx) true (PIs.pw hx)
 ·obtain ⟨b,off,c,a1,c1,a2,c2,rfl,h1,h2⟩:=hs
  obtain ⟨ra,ca,rc,cc,pc,fb,fo,f1,f2,rfl,h6,h7,h8,h9⟩:=hx.two
  exact Bx 1 _ _ _ _ _ _ w (Dy h1 h2) hok.1 hok.2 1 (wU h6 h7 h8 h9) (fun _ _=>Nat.zero_le _) true (yP h8 h9)
theorem vH (hs:SIs w S sf) (hok:S.ok):Calls Tryz.prog 29 #[sf.val] w fun e w'=>e = .returned (.int .i64 0)∧Below w.heap.size w w':=by
 obtain ⟨s,rfl,h1,h2⟩:=hs.sin hok
 exact uW 2 s 0 w h1 h2
theorem wExt_is (hs:SIs w S sf) (hok:S.ok) (hx:XIs w S f x) (hy:XIs w S g y) (ht:Tabs w):Calls Tryz.prog 148 #[sf.val,f.val,g.val] w (jZ S (jY S x y) w):=by
 cases S<;>cases x<;>cases y<;>first | exact hx.elim | exact hy.elim | skip
 ·obtain ⟨a,c,rfl⟩:=hs
  exact sK _ _ _ _ _ _ _ _ _ hok hx hy ht
 ·obtain ⟨b,off,c,a1,c1,a2,c2,rfl,h1,h2⟩:=hs
  obtain ⟨ra,ca,rc,cc,pc,fb,fo,f1,f2,rfl,h6,h7,h8,h9⟩:=hx.two
  obtain ⟨ra',ca',rc',cc',pc',gb,go,g1,g2,rfl,h6',h7',h8',h9'⟩:=hy.two
  exact Nn _ _ _ _ _ _ _ _ _ _ _ _ h1 h2 hok.1 hok.2 _ _ _ _ _ _ _ _ _ _ _ h6 h7 h8 h9 _ _ _ _ _ _ _ _ _ _ _ h6' h7' h8' h9' ht
theorem oneA_ok (hs:SIs w S sf) (hok:S.ok):Calls Tryz.prog 125 #[sf.val] w (jZ S (nH S) w):=by
 cases S with
 | one t n =>
  obtain ⟨a,c,rfl⟩:=hs
  exact sL _ _ _ _ _ hok
 | two t n u m =>
  obtain ⟨b,off,c,a1,c1,a2,c2,rfl,h1,h2⟩:=hs
  exact No _ _ _ _ _ _ _ _ _ _ _ _ h1 h2 hok.1 hok.2
theorem F6 (hs:SIs w S sf) (hok:S.ok):Calls Tryz.prog 107 #[sf.val] w (jZ S (bJ S) w):=by
 cases S with
 | one t n =>
  obtain ⟨a,c,rfl⟩:=hs
  refine (vX t n a 0 c (wT hok) w).mono ?_
  rintro e w' ⟨rfl,hb⟩
  exact ⟨rO,rfl,nI _ _ _ _,hb⟩
 | two t n u m =>
  obtain ⟨b,off,c,a1,c1,a2,c2,rfl,h1,h2⟩:=hs
  exact Iq 1 _ _ _ _ w (Dy h1 h2) hok.1 hok.2
end
theorem Kz {w:World} {base:Nat} {v:Value} {g h:WF} (hr:w.ownsRow base 44 6 v 2 (g.six++h.six)):∃ b c,v = .slice (some ⟨b,0,none⟩) 2 c∧base≤b∧W6 w b 0 g∧W6 w b 6 h:=by
 rcases hr.2 with ⟨_,h2⟩ | ⟨b,cap,cur,rfl,hb,hh,h1,h2,h3,h4⟩
 ·cases h2
 ·have key:∀ i v,(g.six++h.six)[i]?=some v→w.cell? ⟨b,i,none⟩=some v:=fun i v hi=>by
   rw [← h4,List.getElem?_take] at hi
   split at hi
   ·unfold World.cell?;simp only [hh];simpa using hi
   ·cases hi
  exact ⟨b,cap,rfl,hb,⟨key 0 _ rfl,key 1 _ rfl,key 2 _ rfl,key 3 _ rfl,key 4 _ rfl,key 5 _ rfl⟩,⟨key 6 _ rfl,key 7 _ rfl,key 8 _ rfl,key 9 _ rfl,key 10 _ rfl,key 11 _ rfl⟩⟩
theorem Ir {w W:World} {t n u m:Int} {ra ca:Option Addr} {rc cc lo1 lo2:Nat} {v:Value} {g h:WF} {x y:PF} (hb:Below w.heap.size w W) (hr:W.ownsRow w.heap.size 44 6 v 2 (g.six++h.six)) (h1:w.heap.size≤lo1) (k1:PNew lo1 W t n g x) (h2:w.heap.size≤lo2) (k2:PNew lo2 W u m h y) :
  jZ (.two t n u m) (.two x y) w (.returned (.agg (List.toArray [.bool false,.int .i64 0,.int .u64 0,.slice ra 0 rc,.slice ca 0 cc,v]))) W:=by
 obtain ⟨b,c,rfl,hb0,h6,h7⟩:=Kz hr
 exact ⟨⟨false,0,0,ra,0,rc,[],ca,0,cc,[],some ⟨b,0,none⟩,2,c⟩,rfl,⟨rfl,rfl,rfl,rfl,b,g,h,rfl,hb0,h6,h7,k1.mono h1,k2.mono h2⟩,hb⟩
theorem F7 (t n u m0:Int) (w:World) (fra fca:Option Addr) (frc fcc fpc fb fo:Nat) (f1 f2:WF) (x1 x2:PF) (hf6:W6 w fb fo f1) (hf7:W6 w fb (fo+6) f2) (hx1:PIs w t n f1 x1) (hx2:PIs w u m0 f2 x2) :
  Calls Tryz.prog 137 #[.agg #[.bool false,.int .i64 0,.int .u64 0,.slice fra 0 frc,.slice fca 0 fcc,.slice (some ⟨fb,fo,none⟩) 2 fpc]] w (jZ (.two t n u m0) (.two x1 x2) w):=by
 refine cE (args:=[.agg #[.bool false,.int .i64 0,.int .u64 0,.slice fra 0 frc,.slice fca 0 fcc,.slice (some ⟨fb,fo,none⟩) 2 fpc]]) Tryz.func137 rfl Tryz.ntmps137 rfl ?_
 have hS:=St.start w
 refine aN (aP (bW (cs:=[_,_,_,_,_,_]) hS rfl rfl rfl fun B1 W1 hS=>bG (cs:=[_,_,_,_,_,_]) hS Tryz.zeroValue44 rfl rfl fun B2 W2 hS=>aO (XF.thenN (aN (aP (aM (o':=2) eG rfl rfl rfl (aM (o':=3) wL rfl rfl rfl (aR Tryz.isAgg38 rfl (aK (hS.at_ 1 rfl) rfl) rfl (cR (vs:=[_]) hS Pg rfl (xV _ _ [] _ (by simp) (.inl rfl) 0 rfl) rfl ?_)))))))))
 rintro e W3 ⟨v,rfl,hown,hb⟩
 refine ⟨_,rfl,hb,fun hS'=>?_⟩
 clear hS;have hS:=hS';clear hS' hb
 obtain ⟨ra1,rc1,rfl,_,_⟩:=(vY (rows:=[]) hown).2
 clear hown
 refine aM (o':=2) eG rfl rfl rfl (aM (o':=3) wL rfl rfl rfl (eC (i:=1) (cs':=[_,_,_,_,_,_]) (O':=[_,_]) hS Tryz.sizeOf38 rfl rfl rfl rfl rfl rfl rfl fun W4 hS=>aO (XF.thenN (aN (aP (aM (o':=4) cY rfl rfl rfl (aR Tryz.isAgg41 rfl (aK (hS.at_ 1 rfl) rfl) rfl (cR (vs:=[_]) hS Ph rfl (Bz _ _ [] _ (by simp) (.inl rfl) 0 rfl) rfl ?_))))))))
 rintro e W5 ⟨ca1,cc1,rfl,_,_,hb⟩
 refine ⟨_,rfl,hb,fun hS'=>?_⟩
 clear hS;have hS:=hS';clear hS' hb
 refine aM (o':=4) cY rfl rfl rfl (eC (i:=1) (cs':=[_,_,_,_,_,_]) (O':=[_,_]) hS Tryz.sizeOf41 rfl rfl rfl rfl rfl rfl rfl fun W6 hS=>aO (XF.thenN (aN (aP (aC rfl rfl (aO (XF.thenN (aN (aN ?_)))))))))
 have hS:=(hS.newG 44 6).clear
 refine aP (aM (o':=5) cK rfl rfl rfl (aR Tryz.isAgg42 rfl (aK (hS.at_ 1 rfl) rfl) rfl (cJ Tryz.underlying42 rfl rfl (aI rfl rfl (aO (XF.thenN (bX (eO (fun m l W=>(m=2∧l=[(1,.pointer (some ⟨B1,0,none⟩)),(2,.pointer (some ⟨B2,0,none⟩)),(3,.slice none 0 0),(17,.slice (some ⟨fb,fo,none⟩) 2 fpc),(18,.int .i64 2),(19,.int .i64 0)]∧St w [(B2,[.bool false,.int .i64 0,.int .u64 0,.slice none 0 0,.slice none 0 0,.slice none 0 0],44),(B1,[.bool false,.int .i64 0,.int .u64 0,.slice ra1 0 rc1,.slice ca1 0 cc1,.slice (some ⟨fb,fo,none⟩) 2 fpc],44)] [⟨.slice none 0 0,0,[],44,6⟩] [] W)∨(∃ v1 lo1 A1 h1,m=1∧l=[(1,.pointer (some ⟨B1,0,none⟩)),(2,.pointer (some ⟨B2,0,none⟩)),(3,v1),(17,.slice (some ⟨fb,fo,none⟩) 2 fpc),(18,.int .i64 2),(19,.int .i64 1)]∧w.heap.size≤lo1∧PNew lo1 A1 t n h1 x1∧St w [(B2,[.bool false,.int .i64 0,.int .u64 0,.slice none 0 0,.slice none 0 0,.slice none 0 0],44),(B1,[.bool false,.int .i64 0,.int .u64 0,.slice ra1 0 rc1,.slice ca1 0 cc1,.slice (some ⟨fb,fo,none⟩) 2 fpc],44)] [⟨v1,1,h1.six,44,6⟩] [(lo1,A1)] W)∨(∃ v2 lo1 A1 h1 lo2 A2 h2,m=0∧l=[(1,.pointer (some ⟨B1,0,none⟩)),(2,.pointer (some ⟨B2,0,none⟩)),(3,v2),(17,.slice (some ⟨fb,fo,none⟩) 2 fpc),(18,.int .i64 2),(19,.int .i64 2)]∧w.heap.size≤lo1∧PNew lo1 A1 t n h1 x1∧w.heap.size≤lo2∧PNew lo2 A2 u m0 h2 x2∧St w [(B2,[.bool false,.int .i64 0,.int .u64 0,.slice none 0 0,.slice none 0 0,.slice none 0 0],44),(B1,[.bool false,.int .i64 0,.int .u64 0,.slice ra1 0 rc1,.slice ca1 0 cc1,.slice (some ⟨fb,fo,none⟩) 2 fpc],44)] [⟨v2,2,h1.six++h2.six,44,6⟩] [(lo2,A2),(lo1,A1)] W)) (2) ([(1,_),(2,_),(3,_),(17,_),(18,_),(19,_)]) ⟨rfl,rfl,rfl,rfl,rfl,rfl,trivial⟩ (.inl ⟨rfl,rfl,hS⟩) ?_))))))))
 clear hS
 rintro m l W (⟨rfl,rfl,hS⟩ | ⟨v1,lo1,A1,h1,rfl,rfl,hlo1,hn1,hS⟩ | ⟨v2,lo1,A1,h1,lo2,A2,h2,rfl,rfl,hlo1,hn1,hlo2,hn2,hS⟩)
 ·have k1:=aB.agree hS.agree (Nat.zero_le _) hf6.cells
  refine aN (aP (cU rfl rfl rfl (aO (XF.thenN (aN (bA rfl (fun hc=>?_) (fun hc=>absurd (of_decide_eq_false hc) (by omega))))))))
  have hc:=of_decide_eq_true hc
  refine bM (XF.thenN (aN (bX (aN (aP (cL (j:=0) Tryz.underlying42 Tryz.sizeOf44 rfl rfl rfl (by omega) (Nat.add_zero _) rfl (aS (vs:=[_,_,_,_,_,_]) Tryz.isAgg44 Tryz.sizeOf44 rfl (by assumption) rfl (bG (cs:=[_,_,_,_,_,_]) hS Tryz.zeroValue44 rfl rfl fun B7 W7 hS=>aU (i:=0) (vs:=[_,_,_,_,_,_]) (cs':=[_,_,_,_,_,_]) (O':=[_,_,_]) hS Tryz.sizeOf44 rfl rfl rfl rfl rfl rfl rfl fun W8 hS=>aO (XF.thenN (aP (aI rfl rfl (aS (vs:=[_,_,_,_,_,_]) Tryz.isAgg44 Tryz.sizeOf44 rfl (aB.own (j:=0) (m:=6) (hS.at_ 0 rfl) rfl) rfl ?_))))))))))))
  have hsz:=hS.below.size
  refine cR (vs:=[_]) hS pH rfl (jS t n f1 _ _ (hx1.below hS.below)) rfl ?_
  rintro e W9 ⟨h1,rfl,hn,hb⟩
  refine ⟨_,rfl,hb,fun hS'=>?_⟩
  clear hS;have hS:=hS';clear hS'
  refine cZ (us:=[(0,.agg (List.toArray [_,_,_,_,_,_]))]) hS Tryz.underlying42 Tryz.sizeOf44 Tryz.zeroValue44 rfl rfl rfl (Cv _ _ _ _ _ _) rfl fun B10 W10 hS=>?_
  refine uR (i:=0) (news:=[_,_,_,_,_,_]) hS Tryz.underlying42 Hu rfl rfl (by show 0 < 6;decide) rfl rfl rfl rfl rfl (aB.own (j:=0) (m:=6) (hS.at_ 0 rfl) rfl) rfl rfl (by dsimp only;simp only [maxLen];omega) (by dsimp only;show _ * 96≤_;omega) rfl fun v11 W11 hS=>?_
  refine aC rfl rfl (aO (XF.blkN (XF.thenN (aP (dE rfl rfl (IntWalk.i64_in _ (by omega)) rfl (aI rfl rfl (aO ?_)))))))
  exact XF.round 1 [(1,_),(2,_),(3,_),(17,_),(18,_),(19,_)] (by omega) ⟨rfl,rfl,rfl,rfl,rfl,rfl,trivial⟩ (.inr (.inl ⟨_,_,_,h1,rfl,rfl,hsz,hn,hS.tail.tail⟩))
 ·have k1:=aB.agree hS.agree (Nat.zero_le _) hf7.cells
  refine aN (aP (cU rfl rfl rfl (aO (XF.thenN (aN (bA rfl (fun hc=>?_) (fun hc=>absurd (of_decide_eq_false hc) (by omega))))))))
  have hc:=of_decide_eq_true hc
  refine bM (XF.thenN (aN (bX (aN (aP (cL (j:=1) Tryz.underlying42 Tryz.sizeOf44 rfl rfl rfl (by omega) rfl rfl (aS (vs:=[_,_,_,_,_,_]) Tryz.isAgg44 Tryz.sizeOf44 rfl (by assumption) rfl (bG (cs:=[_,_,_,_,_,_]) hS Tryz.zeroValue44 rfl rfl fun B12 W12 hS=>aU (i:=0) (vs:=[_,_,_,_,_,_]) (cs':=[_,_,_,_,_,_]) (O':=[_,_,_]) hS Tryz.sizeOf44 rfl rfl rfl rfl rfl rfl rfl fun W13 hS=>aO (XF.thenN (aP (aI rfl rfl (aS (vs:=[_,_,_,_,_,_]) Tryz.isAgg44 Tryz.sizeOf44 rfl (aB.own (j:=0) (m:=6) (hS.at_ 0 rfl) rfl) rfl ?_))))))))))))
  have hsz:=hS.below.size
  refine cR (vs:=[_]) hS pH rfl (jS u m0 f2 _ _ (hx2.below hS.below)) rfl ?_
  rintro e W14 ⟨h2,rfl,hn,hb⟩
  refine ⟨_,rfl,hb,fun hS'=>?_⟩
  clear hS;have hS:=hS';clear hS'
  refine cZ (us:=[(0,.agg (List.toArray [_,_,_,_,_,_]))]) hS Tryz.underlying42 Tryz.sizeOf44 Tryz.zeroValue44 rfl rfl rfl (Cv _ _ _ _ _ _) rfl fun B15 W15 hS=>?_
  refine uR (i:=0) (news:=[_,_,_,_,_,_]) hS Tryz.underlying42 Hu rfl rfl (by show 0 < 6;decide) rfl rfl rfl rfl rfl (aB.own (j:=0) (m:=6) (hS.at_ 0 rfl) rfl) rfl rfl (by dsimp only;simp only [maxLen];omega) (by dsimp only;show _ * 96≤_;omega) rfl fun v16 W16 hS=>?_
  refine aC rfl rfl (aO (XF.blkN (XF.thenN (aP (dE rfl rfl (IntWalk.i64_in _ (by omega)) rfl (aI rfl rfl (aO ?_)))))))
  exact XF.round 0 [(1,_),(2,_),(3,_),(17,_),(18,_),(19,_)] (by omega) ⟨rfl,rfl,rfl,rfl,rfl,rfl,trivial⟩ (.inr (.inr ⟨_,_,_,h1,_,_,h2,rfl,rfl,hlo1,hn1,hsz,hn,hS.tail.tail⟩))
 ·skip
  refine aN (aP (cU rfl rfl rfl (aO (XF.thenN (aN (bA rfl (fun hc=>absurd (of_decide_eq_true hc) (by omega)) (fun hc=>?_)))))))
  have hc:=of_decide_eq_false hc
  refine eN (XF.thenX (XF.thenX (XF.blkX (XF.thenN (aN ?_)))))
  obtain ⟨gb,gc,rfl,hgb,hg6,hg7⟩:=Kz (hS.row 0 rfl)
  clear hgb hg6 hg7
  refine aP (aI rfl rfl (aM (o':=5) cK rfl rfl rfl (eC (i:=1) (cs':=[_,_,_,_,_,_]) (O':=[_,_]) hS Tryz.sizeOf42 rfl rfl rfl rfl rfl rfl rfl fun W17 hS=>aO (XF.thenN (aN (aP (aS (vs:=[_,_,_,_,_,_]) Tryz.isAgg44 Tryz.sizeOf44 rfl (aB.own (j:=0) (m:=6) (hS.at_ 1 rfl) rfl) rfl (aU (i:=0) (vs:=[_,_,_,_,_,_]) (cs':=[_,_,_,_,_,_]) (O':=[_,_]) hS Tryz.sizeOf44 rfl rfl rfl rfl rfl rfl rfl fun W18 hS=>aO (XF.thenN (bT (XF.res (eH (vs:=[_,_,_,_,_,_]) Tryz.results137 Tryz.isAgg44 Tryz.sizeOf44 rfl (aB.own (j:=0) (m:=6) (hS.at_ 0 rfl) rfl)) ?_)))))))))))
  exact Ir hS.below (hS.row 0 rfl) hlo1 (hn1.agree (hS.since 1 rfl)) hlo2 (hn2.agree (hS.since 0 rfl))
section
variable {w:World} {S:PS} {sf:SF} {f g:WF} {x y:PX}
theorem Nq (hx:XIs w S f x):Calls Tryz.prog 137 #[f.val] w (jZ S x w):=by
 cases S<;>cases x<;>first | exact hx.elim | skip
 ·exact jS _ _ _ _ _ hx
 ·obtain ⟨ra,ca,rc,cc,pc,fb,fo,f1,f2,rfl,h6,h7,h8,h9⟩:=hx.two
  exact F7 _ _ _ _ _ _ _ _ _ _ _ _ _ _ _ _ h6 h7 h8 h9
theorem Rb (hs:SIs w S sf) (hok:S.ok) (hx:XIs w S f x) (hy:XIs w S g y) (ht:Tabs w):Calls Tryz.prog 108 #[sf.val,f.val,g.val] w (jZ S (bY S x y) w):=by
 cases S<;>cases x<;>cases y<;>first | exact hx.elim | exact hy.elim | skip
 ·obtain ⟨a,c,rfl⟩:=hs
  exact pU _ _ _ _ _ _ _ _ _ hok hx hy ht
 ·obtain ⟨b,off,c,a1,c1,a2,c2,rfl,h1,h2⟩:=hs
  obtain ⟨ra,ca,rc,cc,pc,fb,fo,f1,f2,rfl,h6,h7,h8,h9⟩:=hx.two
  obtain ⟨ra',ca',rc',cc',pc',gb,go,g1,g2,rfl,h6',h7',h8',h9'⟩:=hy.two
  exact Ip _ _ _ _ _ _ _ _ _ _ _ _ h1 h2 hok.1 hok.2 _ _ _ _ _ _ _ _ _ _ _ h6 h7 h8 h9 _ _ _ _ _ _ _ _ _ _ _ h6' h7' h8' h9' ht
end
def oV (w:World) (a:Option Addr) (fs:List WF):Prop:=fs=[]∨∃ b off,a=some ⟨b,off,none⟩∧∀ (i:Nat) f,fs[i]?=some f→W6 w b (off+i * 6) f
theorem oV.at_ {w:World} {a:Option Addr} {fs:List WF} (h:oV w a fs) {i:Nat} {f:WF} (hi:fs[i]?=some f):∃ b off,a=some ⟨b,off,none⟩∧W6 w b (off+i * 6) f:=by
 rcases h with rfl | ⟨b,off,ha,hc⟩
 ·simp at hi
 ·exact ⟨b,off,ha,hc i f hi⟩
def XL (w:World) (S:PS) (fs:List WF) (xs:List PX):Prop:=fs.length=xs.length∧∀ (i:Nat) f x,fs[i]?=some f→xs[i]?=some x→XIs w S f x
theorem XL.at_ {w:World} {S:PS} {fs:List WF} {xs:List PX} (h:XL w S fs xs) {k:Nat} (hk:k < fs.length):∃ f x,fs[k]?=some f∧xs[k]?=some x∧XIs w S f x :=
 ⟨fs[k],xs[k]'(by have:=h.1;omega),by simp [hk],by have:=h.1;simp [show k < xs.length by omega],h.2 k _ _ (by simp [hk]) (by have:=h.1;simp [show k < xs.length by omega])⟩
def K6 (S:PS) (x:PX) (e0:Int) (w:World) (e:Ending) (w':World):Prop:=∃ f:WF,e = .returned (.tuple #[f.val,.int .i64 e0])∧gG w.heap.size w' S f x∧Below w.heap.size w w'
theorem vI {α β:Type} {f:β→α→β} {b:β} {xs:List α} {k:Nat} {x:α} (h:xs[k]?=some x):(xs.take (k+1)).foldl f b=f ((xs.take k).foldl f b) x:=by
 rw [List.take_add_one,h];simp [List.foldl_append]
theorem oV.below {w w':World} {a:Option Addr} {fs:List WF} (h:oV w a fs) (hb:Below w.heap.size w w'):oV w' a fs:=by
 rcases h with h | ⟨b,off,rfl,hc⟩
 ·exact .inl h
 ·exact .inr ⟨b,off,rfl,fun i f hi=>(hc i f hi).below hb⟩
theorem XL.below {w w':World} {S:PS} {fs:List WF} {xs:List PX} (h:XL w S fs xs) (hb:Below w.heap.size w w'):XL w' S fs xs:=⟨h.1,fun i f x hf hx=>(h.2 i f x hf hx).below hb⟩
theorem tS (S:PS) (sf:SF) (w:World) (hs:SIs w S sf) (hok:S.ok) (a:Option Addr) (c m:Nat) (fs:List WF) (xs:List PX) (hr:oV w a fs) (hx:XL w S fs xs) (hm:fs.length=m) (hmx:m≤9223372036854775807) :
  Calls Tryz.prog 77 #[sf.val,.slice a m c] w (fun e w'=>e = .returned (.int .i64 0)∧Below w.heap.size w w'):=by
 refine cE (args:=[sf.val,.slice a m c]) Tryz.func77 rfl Tryz.ntmps77 rfl ?_
 have hS:=St.start w
 refine aN (aP (bW (cs:=[_,_,_]) hS rfl rfl rfl fun B1 W1 hS=>aC rfl rfl (aO (XF.thenN (aN (aN (aP (aS (vs:=[_,_,_]) Tryz.isAgg25 Tryz.sizeOf25 rfl (aB.own (j:=0) (m:=3) (hS.at_ 0 rfl) rfl) rfl (cB (vs:=[_]) hS sZ rfl (vH (hs.below hS.below) hok) rfl fun W2 hS=>aC rfl rfl (aO (XF.thenN (aN (aP (aI rfl rfl (dG rfl rfl rfl (aO (XF.thenN (bA rfl (fun hc=>absurd (of_decide_eq_true hc) (by omega)) (fun hc=>?_)))))))))))))))))))
 have hc:=of_decide_eq_false hc
 refine bM (XF.thenN (aN (aN (aP (aI rfl rfl (cJ Tryz.underlying42 rfl rfl (aI rfl rfl (aO (XF.thenN (bX (eO (fun q l W=>∃ k:Nat,k≤m∧q=m - k∧l=[(2,.pointer (some ⟨B1,0,none⟩)),(13,.slice a m c),(14,.int .i64 (m:Int)),(15,.int .i64 (k:Int))]∧St w [(B1,[.int .i64 sf.tag,.int .i64 sf.dim,.slice sf.a sf.len sf.cap],25)] [] [] W) (m - 0) ([(2,_),(13,_),(14,_),(15,_)]) ⟨rfl,rfl,rfl,rfl,trivial⟩ (⟨0,Nat.zero_le _,rfl,rfl,hS.clear⟩) ?_)))))))))))
 clear hS
 rintro q l W ⟨k,hkm,rfl,rfl,hS⟩
 refine aN (aP (cU rfl rfl rfl (aO (XF.thenN (aN (bA rfl (fun hc=>?_) (fun hc=>?_)))))))
 ·have hc16:=of_decide_eq_true hc;clear hc
  have hk:k < m:=by omega
  obtain ⟨f,x,hf,hxk,hxx⟩:=hx.at_ (k:=k) (by omega)
  obtain ⟨b,off,rfl,h6⟩:=hr.at_ hf
  have k1:=aB.agree hS.agree (Nat.zero_le _) h6.cells
  refine bM (XF.thenN (aN (bX (aN (aP (cL  Tryz.underlying42 Tryz.sizeOf44 rfl rfl rfl (by omega) rfl rfl (aS (vs:=[_,_,_,_,_,_]) Tryz.isAgg44 Tryz.sizeOf44 rfl (by assumption) rfl (bG (cs:=[_,_,_,_,_,_]) hS Tryz.zeroValue44 rfl rfl fun B3 W3 hS=>aU (i:=0) (vs:=[_,_,_,_,_,_]) (cs':=[_,_,_,_,_,_]) (O':=[_,_]) hS Tryz.sizeOf44 rfl rfl rfl rfl rfl rfl rfl fun W4 hS=>aO (XF.thenN (aN (aP (aS (vs:=[_,_,_]) Tryz.isAgg25 Tryz.sizeOf25 rfl (aB.own (j:=0) (m:=3) (hS.at_ 1 rfl) rfl) rfl (aS (vs:=[_,_,_,_,_,_]) Tryz.isAgg44 Tryz.sizeOf44 rfl (aB.own (j:=0) (m:=6) (hS.at_ 0 rfl) rfl) rfl (cB (vs:=[_,_]) hS pI rfl (isA_ok (hs.below hS.below) hok (hxx.below hS.below)) rfl fun W5 hS=>eX rfl rfl (aO (XF.thenN (Ez rfl (bM (XF.blkN (XF.thenN (aP ?_)))))))))))))))))))))
  refine dE rfl rfl (IntWalk.i64_in _ (by omega)) rfl (aI rfl rfl (aO ?_))
  exact XF.round (m - (k+1)) [(2,_),(13,_),(14,_),(15,_)] (by omega) ⟨rfl,rfl,rfl,rfl,trivial⟩ ⟨k+1,by omega,rfl,rfl,hS.tail.clear⟩
 ·have hc16:=of_decide_eq_false hc;clear hc
  refine eN (XF.thenX (XF.thenX (XF.blkX (XF.thenN (aN (aP (aC rfl rfl (aO (XF.thenN (bT (XF.res (cH Tryz.results77 rfl) ?_)))))))))))
  exact ⟨rfl,hS.below⟩
theorem F8 (S:PS) (sf:SF) (w:World) (hs:SIs w S sf) (hok:S.ok) (a:Option Addr) (c m:Nat) (fs:List WF) (xs:List PX) (hr:oV w a fs) (hx:XL w S fs xs) (hm:fs.length=m) (hmx:m≤9223372036854775807) (ht:Tabs w) :
  Calls Tryz.prog 82 #[sf.val,.slice a m c] w (K6 S (xs.foldl (bY S) (bJ S)) 0 w):=by
 refine cE (args:=[sf.val,.slice a m c]) Tryz.func82 rfl Tryz.ntmps82 rfl ?_
 have hS:=St.start w
 refine aN (aP (bW (cs:=[_,_,_]) hS rfl rfl rfl fun B1 W1 hS=>bG (cs:=[_,_,_,_,_,_]) hS Tryz.zeroValue44 rfl rfl fun B2 W2 hS=>aC rfl rfl (aO (XF.thenN (aN (aN (aP (aS (vs:=[_,_,_]) Tryz.isAgg25 Tryz.sizeOf25 rfl (aB.own (j:=0) (m:=3) (hS.at_ 1 rfl) rfl) rfl (aI rfl rfl (cB (vs:=[_,_]) hS Cy rfl (tS S sf _ (hs.below hS.below) hok a c m fs xs (hr.below hS.below) (hx.below hS.below) hm hmx) rfl fun W3 hS=>aC rfl rfl (aO (XF.thenN (aN (aP (aI rfl rfl (dG rfl rfl rfl (aO (XF.thenN (bA rfl (fun hc=>absurd (of_decide_eq_true hc) (by omega)) (fun hc=>?_))))))))))))))))))))
 have hc:=of_decide_eq_false hc
 refine bM (XF.thenN (aN (aP (aS (vs:=[_,_,_]) Tryz.isAgg25 Tryz.sizeOf25 rfl (aB.own (j:=0) (m:=3) (hS.at_ 1 rfl) rfl) rfl ?_))))
 have hsz:=hS.below.size
 refine cR (vs:=[_]) hS E2 rfl (F6 (hs.below hS.below) hok) rfl ?_
 rintro e W4 ⟨f0,rfl,hn,hb⟩
 refine ⟨_,rfl,hb,fun hS'=>?_⟩
 clear hS;have hS:=hS';clear hS'
 refine bG (cs:=[_,_,_,_,_,_]) hS Tryz.zeroValue44 rfl rfl fun B5 W5 hS=>aU (i:=0) (vs:=[_,_,_,_,_,_]) (cs':=[_,_,_,_,_,_]) (O':=[_,_,_]) hS Tryz.sizeOf44 rfl rfl rfl rfl rfl rfl rfl fun W6 hS=>aO (XF.thenN (aN (aN (aP (aI rfl rfl (cJ Tryz.underlying42 rfl rfl (aI rfl rfl (aO (XF.thenN (bX ?_))))))))))
 refine eO (fun q l W=>∃ (k:Nat) (f0:WF) (lo:Nat) (A:World),k≤m∧q=m - k∧l=[(2,.pointer (some ⟨B1,0,none⟩)),(4,.pointer (some ⟨B2,0,none⟩)),(7,.pointer (some ⟨B5,0,none⟩)),(19,.slice a m c),(20,.int .i64 (m:Int)),(21,.int .i64 (k:Int))]∧w.heap.size≤lo∧gG lo A S f0 ((xs.take k).foldl (bY S) (bJ S))∧St w [(B5,f0.six,44),(B2,[.bool false,.int .i64 0,.int .u64 0,.slice none 0 0,.slice none 0 0,.slice none 0 0],44),(B1,[.int .i64 sf.tag,.int .i64 sf.dim,.slice sf.a sf.len sf.cap],25)] [] [(lo,A)] W) (m - 0) ([(2,_),(4,_),(7,_),(19,_),(20,_),(21,_)]) ⟨rfl,rfl,rfl,rfl,rfl,rfl,trivial⟩ (⟨0,f0,_,_,Nat.zero_le _,rfl,rfl,hsz,hn,hS.keep [_] (fun q hq=>by simp at hq;subst hq;exact List.mem_cons_self)⟩) ?_
 clear hS
 rintro q l W ⟨k,f0,lo,A,hkm,rfl,rfl,hlo,hn0,hS⟩
 refine aN (aP (cU rfl rfl rfl (aO (XF.thenN (aN (bA rfl (fun hc=>?_) (fun hc=>?_)))))))
 ·have hc22:=of_decide_eq_true hc;clear hc
  have hk:k < m:=by omega
  obtain ⟨f,x,hf,hxk,hxx⟩:=hx.at_ (k:=k) (by omega)
  obtain ⟨b,off,rfl,h6⟩:=hr.at_ hf
  have k1:=aB.agree hS.agree (Nat.zero_le _) h6.cells
  refine bM (XF.thenN (aN (bX (aN (aP (cL  Tryz.underlying42 Tryz.sizeOf44 rfl rfl rfl (by omega) rfl rfl (aS (vs:=[_,_,_,_,_,_]) Tryz.isAgg44 Tryz.sizeOf44 rfl (by assumption) rfl (bG (cs:=[_,_,_,_,_,_]) hS Tryz.zeroValue44 rfl rfl fun B7 W7 hS=>aU (i:=0) (vs:=[_,_,_,_,_,_]) (cs':=[_,_,_,_,_,_]) (O':=[_,_,_,_]) hS Tryz.sizeOf44 rfl rfl rfl rfl rfl rfl rfl fun W8 hS=>aO (XF.thenN (aP (aS (vs:=[_,_,_]) Tryz.isAgg25 Tryz.sizeOf25 rfl (aB.own (j:=0) (m:=3) (hS.at_ 3 rfl) rfl) rfl (aS (vs:=[_,_,_,_,_,_]) Tryz.isAgg44 Tryz.sizeOf44 rfl (aB.own (j:=0) (m:=6) (hS.at_ 1 rfl) rfl) rfl (aS (vs:=[_,_,_,_,_,_]) Tryz.isAgg44 Tryz.sizeOf44 rfl (aB.own (j:=0) (m:=6) (hS.at_ 0 rfl) rfl) rfl ?_)))))))))))))
  have hsz2:=hS.below.size
  have hb0:=hS.below
  refine cR (vs:=[_,_,_]) hS xI rfl (Rb (hs.below hS.below) hok ((hn0.agree (hS.since 0 rfl)).is) (hxx.below hS.below) (ht.below hS.below)) rfl ?_
  rintro e W9 ⟨f2,rfl,hn2,hb⟩
  refine ⟨_,rfl,hb,fun hS'=>?_⟩
  clear hS;have hS:=hS';clear hS'
  refine aU (i:=1) (vs:=[_,_,_,_,_,_]) (cs':=[_,_,_,_,_,_]) (O':=[_,_,_,_]) hS Tryz.sizeOf44 rfl rfl rfl rfl rfl rfl rfl fun W10 hS=>aO (XF.blkN (XF.thenN (aP (dE rfl rfl (IntWalk.i64_in _ (by omega)) rfl (aI rfl rfl (aO ?_))))))
  exact XF.round (m - (k+1)) [(2,_),(4,_),(7,_),(19,_),(20,_),(21,_)] (by omega) ⟨rfl,rfl,rfl,rfl,rfl,rfl,trivial⟩ ⟨k+1,f2,_,_,by omega,rfl,rfl,hsz2,by rw [vI hxk];exact hn2,hS.tail.keep [_] (fun q hq=>by simp at hq;subst hq;exact List.mem_cons_self)⟩
 ·have hc22:=of_decide_eq_false hc;clear hc
  refine eN (XF.thenX (XF.thenX (XF.blkX (XF.thenN (aN (aP (aS (vs:=[_,_,_,_,_,_]) Tryz.isAgg44 Tryz.sizeOf44 rfl (aB.own (j:=0) (m:=6) (hS.at_ 0 rfl) rfl) rfl (aU (i:=1) (vs:=[_,_,_,_,_,_]) (cs':=[_,_,_,_,_,_]) (O':=[_,_,_]) hS Tryz.sizeOf44 rfl rfl rfl rfl rfl rfl rfl fun W11 hS=>aC rfl rfl (aO (XF.thenN (bT (XF.res (sV (vs:=[_,_,_,_,_,_]) Tryz.results82 Tryz.isAgg44 Tryz.sizeOf44 rfl (aB.own (j:=0) (m:=6) (hS.at_ 1 rfl) rfl) rfl) ?_))))))))))))
  have e1:xs.take k=xs:=List.take_of_length_le (by have:=hx.1;omega)
  rw [e1] at hn0
  exact ⟨f0,rfl,(hn0.agree (hS.since 0 rfl)).mono hlo,hS.below⟩
end Go.Proofs.YtmgnkpibpjgncaaGreatDoor
