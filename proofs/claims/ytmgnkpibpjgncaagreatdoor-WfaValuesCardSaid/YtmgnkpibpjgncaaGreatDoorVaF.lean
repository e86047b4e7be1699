import Derived.Lib.SmallJoins
import Derived.ChangeSlices
import Derived.ProofKit
import Derived.Test.YtmgnkpibpjgncaaGreatDoorVaE
set_option maxRecDepth 100000
set_option maxHeartbeats 4000000
set_option linter.unusedVariables false
set_option linter.unusedVariables false
set_option linter.unusedSimpArgs false
set_option linter.unusedSectionVars false
set_option linter.unnecessarySimpa false
namespace Go.Proofs.YtmgnkpibpjgncaaGreatDoor
open Go.Proofs.Tryz
open Go.RowKit Go.ChangeShapes Go.WideShapes Go.Deep Go.Joins
theorem sY {α:Type}:∀ (n:Nat) (p:Nat→α→Prop),(∀ i,i < n→∃ c,p i c)→∃ xs:List α,xs.length=n∧∀ i c,xs[i]?=some c→p i c
 | 0,p,h=>⟨[],rfl,fun i c hi=>by simp at hi⟩
 | n+1,p,h=>by
  obtain ⟨xs,hl,hp⟩:=sY n p (fun i hi=>h i (by omega))
  obtain ⟨c,hc⟩:=h n (by omega)
  refine ⟨xs++[c],by simp [hl],fun i d hi=>?_⟩
  rcases Nat.lt_or_ge i n with h1 | h1
  ·rw [List.getElem?_append_left (by omega)] at hi
   exact hp i d hi
  ·obtain ⟨h2,_⟩:=List.getElem?_eq_some_iff.1 hi
   simp [hl] at h2
   obtain rfl:i=n:=by omega
   rw [List.getElem?_append_right (by omega),hl,Nat.sub_self] at hi
   simp at hi
   subst hi
   exact hc
theorem SIn.more {w:World}:∀ {d e:Nat} {s:SV},d≤e→SIn w d s→SIn w e s
 | 0,_,_,_,h=>h.elim
 | d+1,0,_,hl,_=>by omega
 | d+1,e+1,.mk f ps,hl,⟨h1,h2,h3⟩=>⟨h1,h2,fun p hp=>SIn.more (by omega) (h3 p hp)⟩
theorem WIn.more {w:World}:∀ {d e:Nat} {s:WV},d≤e→WIn w d s→WIn w e s
 | 0,_,_,_,h=>h.elim
 | d+1,0,_,hl,_=>by omega
 | d+1,e+1,.mk f ps,hl,⟨h0,h1,h2,h3⟩=>⟨h0,h1,h2,fun p hp=>WIn.more (by omega) (h3 p hp)⟩
theorem six_len {cs:List Value} (h:cs.length=6):∃ a b c d e f,cs=[a,b,c,d,e,f]:=by
 match cs,h with
 | [a,b,c,d,e,f],_=>exact ⟨a,b,c,d,e,f,rfl⟩
section
variable {H:Type} {enc:TypeId×Value→H} {w:World} {base:Nat} {spare:Nat→Bool} {held:Bool}
theorem V7:∀ (fuel:Nat) {cs:List Value} {x:DataW H×List MemPlace},DataW.trod enc prog w base spare held fuel 25 cs=some x→∃ s:SV,cs=[.int .i64 s.f.tag,.int .i64 s.f.dim,.slice s.f.a s.f.len s.f.cap]∧SIn w fuel s:=by
 intro fuel
 induction fuel using Nat.strongRecOn with
 | _ fuel ih =>
 intro cs x h
 obtain ⟨xs,n,hn,_,hl,hlen,hg⟩:=DataW.trod_struct underlying25 h
 rw [show prog.cellsOf 25=3 by kernel_rfl] at hl
 obtain ⟨a,b,c,rfl⟩:=Ek hl
 have hlen3:xs.length=3:=hlen
 have g0:=hg 0 _ rfl
 have g1:=hg 1 _ rfl
 have g2:=hg 2 _ rfl
 rw [show prog.cellsOf _=1 by kernel_rfl,List.getElem?_eq_getElem (by omega)] at g0 g1 g2
 obtain ⟨z0,e0,_,w0⟩:=DataW.trod_int (k:=.i64) (by kernel_rfl) g0
 obtain ⟨z1,e1,_,w1⟩:=DataW.trod_int (k:=.i64) (by kernel_rfl) g1
 simp at e0 e1
 subst e0 e1
 rcases DataW.trod_slice underlying23 g2 with ⟨hcs,_⟩ | ⟨ad,len,cap,elems,rest,n',hn',hcs,_,hb,hle,hcap,hel,hi,_,_⟩
 ·simp at hcs
  subst hcs
  subst hn
  exact ⟨.mk ⟨z0,z1,none,0,0⟩ [],rfl,rfl,.inl rfl,fun p hp=>by cases hp⟩
 ·simp at hcs
  subst hcs
  subst hn
  rw [show prog.cellsOf 25=3 by kernel_rfl] at hi
  obtain ⟨ps,hpl,hps⟩:=sY len (fun i (p:SV)=>(w.cell? (ad.add (i * 3))=some (.int .i64 p.f.tag)∧w.cell? (ad.add (i * 3+1))=some (.int .i64 p.f.dim)∧w.cell? (ad.add (i * 3+2))=some (.slice p.f.a p.f.len p.f.cap))∧SIn w n' p) (fun i hil=>by
   have hii:=hi i hil
   rw [List.getElem?_eq_getElem (by omega)] at hii
   obtain ⟨cs',hc,ht⟩:=Option.bind_eq_some_iff.1 hii
   obtain ⟨_,hcl,hat⟩:=World.cells?_some hc
   obtain ⟨s,rfl,hs⟩:=ih n' (by omega) ht
   have e0:=hat 0 (by omega)
   have e1:=hat 1 (by omega)
   have e2:=hat 2 (by omega)
   rw [Go.Deep.add_add] at e0 e1 e2
   exact ⟨s,⟨e0,e1,e2⟩,hs⟩)
  refine ⟨.mk ⟨z0,z1,some ad,len,cap⟩ ps,rfl,hpl,?_,fun p hp=>?_⟩
  ·rcases Nat.eq_zero_or_pos len with h0 | h0
   ·exact .inl (List.length_eq_zero_iff.1 (by omega))
   ·obtain ⟨b,off,spot⟩:=ad
    obtain ⟨⟨h1,_,_⟩,_⟩:=hps 0 (ps[0]'(by omega)) (List.getElem?_eq_getElem (by omega))
    have hspot:spot=none:=by simpa [Addr.add] using World.cell?_spot h1
    subst hspot
    refine .inr ⟨b,off,rfl,fun i c hic=>?_⟩
    have e:∀ k,({ block:=b,off:=off }:Addr).add k=⟨b,off+k,none⟩:=fun k=>by simp [Addr.add]
    have h3:=(hps i c hic).1
    rw [e,e,e,← Nat.add_assoc,← Nat.add_assoc] at h3
    exact h3
  ·obtain ⟨i,hi',hic⟩:=List.mem_iff_getElem.1 hp
   exact (hps i p (by rw [← hic];exact List.getElem?_eq_getElem hi')).2.more (by omega)
theorem Rl {n:Nat} {v:Value} {x:DataW H×List MemPlace} (h:DataW.trod enc prog w base spare held n 38 [v]=some x) :
  ∃ (a:Option Addr) (len cap:Nat) (rows:List Nat),v = .slice a len cap∧fQ w a (u64s rows)∧rows.length=len∧∀ r∈rows,r < 18446744073709551616:=by
 rcases open_ints (t:=38) (e:=37) (k:=.u64) (by kernel_rfl) (by kernel_rfl) (by kernel_rfl) h with ⟨hcs,_⟩ | ⟨x,len,cap,zs,hcs,_,hl,hm,hz,_,hcell,hwz⟩
 ·have hcs':v = .slice none 0 0:=by simpa using hcs
  subst hcs'
  exact ⟨none,0,0,[],rfl,.inl rfl,rfl,fun r hr=>by cases hr⟩
 ·have hcs':v = .slice (some x) len cap:=by simpa using hcs
  subst hcs'
  have hzl:len≤zs.length:=by rw [hz];split<;>omega
  refine ⟨some x,len,cap,(zs.take len).map Int.toNat,rfl,?_,?_,?_⟩
  ·rcases Nat.eq_zero_or_pos len with h0 | h0
   ·subst h0;exact .inl (by simp [u64s])
   ·obtain ⟨b,off,spot⟩:=x
    have hc0:=hcell 0 (by omega)
    have hspot:spot=none:=by simpa [Addr.add] using World.cell?_spot hc0
    subst hspot
    refine .inr ⟨b,off,rfl,fun i v hi=>?_⟩
    obtain ⟨q,hq,rfl⟩:=Fi hi
    rw [List.getElem?_map,List.getElem?_take] at hq
    split at hq
    ·rename_i hlt
     have hi2:i < zs.length:=by omega
     rw [List.getElem?_eq_getElem hi2] at hq
     have hq':(zs[i]).toNat=q:=by simpa using hq
     obtain ⟨m,hm1,hm2⟩:=Fu (hwz _ (List.getElem_mem hi2))
     have hc:=hcell i hi2
     have e:({ block:=b,off:=off }:Addr).add i=⟨b,off+i,none⟩:=by simp [Addr.add]
     rw [e] at hc
     rw [hc]
     have:zs.getD i 0=zs[i]:=by simp [List.getD,List.getElem?_eq_getElem hi2]
     rw [this,hm1,← hq',hm1]
     rfl
    ·cases hq
  ·simp;omega
  ·intro r hr
   obtain ⟨z,hz1,rfl⟩:=List.mem_map.1 hr
   obtain ⟨m,hm1,hm2⟩:=Fu (hwz z (List.mem_of_mem_take hz1))
   rw [hm1];exact hm2
theorem V8 {n:Nat} {a b:Value} {x:DataW H×List MemPlace} (h:DataW.trod enc prog w base spare held n 40 [a,b]=some x) :
  ∃ (g:Nat) (ra:Option Addr) (rl rc:Nat) (rows:List Nat),a = .int .u64 (g:Int)∧b = .slice ra rl rc∧g < 18446744073709551616∧fQ w ra (u64s rows)∧rows.length=rl∧∀ r∈rows,r < 18446744073709551616:=by
 obtain ⟨xs,n',_,_,hl,hlen,hg⟩:=DataW.trod_struct underlying40 h
 have hlen2:xs.length=2:=hlen
 have g0:=hg 0 _ rfl
 have g1:=hg 1 _ rfl
 rw [show prog.cellsOf _=1 by kernel_rfl,List.getElem?_eq_getElem (by omega)] at g0 g1
 obtain ⟨z0,e0,_,w0⟩:=DataW.trod_int (k:=.u64) (by kernel_rfl) g0
 simp at e0
 subst e0
 obtain ⟨g,rfl,hg64⟩:=Fu w0
 obtain ⟨ra,rl,rc,rows,e1,h1,h2,h3⟩:=Rl (v:=b) g1
 exact ⟨g,ra,rl,rc,rows,rfl,e1,hg64,h1,h2,h3⟩
theorem Rm:∀ (fuel:Nat) {cs:List Value} {x:DataW H×List MemPlace},DataW.trod enc prog w base spare held fuel 44 cs=some x→∃ s:WV,cs=s.f.six∧WIn w fuel s:=by
 intro fuel
 induction fuel using Nat.strongRecOn with
 | _ fuel ih =>
 intro cs x h
 obtain ⟨xs,n,hn,_,hl,hlen,hg⟩:=DataW.trod_struct underlying44 h
 rw [show prog.cellsOf 44=6 by kernel_rfl] at hl
 obtain ⟨a,b,c,d,e,f,rfl⟩:=six_len hl
 have hlen5:xs.length=5:=hlen
 have g0:=hg 0 _ rfl
 have g1:=hg 1 _ rfl
 have g2:=hg 2 _ rfl
 have g3:=hg 3 _ rfl
 have g4:=hg 4 _ rfl
 rw [show prog.cellsOf _=1 by kernel_rfl,List.getElem?_eq_getElem (by omega)] at g0 g1 g3 g4
 rw [show prog.cellsOf _=2 by kernel_rfl,List.getElem?_eq_getElem (by omega)] at g2
 obtain ⟨z0,e0,_⟩:=DataW.trod_bool (by kernel_rfl) g0
 obtain ⟨z1,e1,_,w1⟩:=DataW.trod_int (k:=.i64) (by kernel_rfl) g1
 simp at e0 e1
 subst e0 e1
 obtain ⟨gg,ra,rl,rc,rows,rfl,rfl,hg64,hrow,hrl,hr64⟩:=V8 (a:=c) (b:=d) g2
 obtain ⟨ca,cl,cc,e3⟩:=Mo g3
 have e3':e = .slice ca cl cc:=by simpa using e3
 subst e3'
 obtain ⟨cells,hcl,hcm,hcrow,hcbits⟩:=Mn (a:=ca) (len:=cl) (cap:=cc) g3
 rcases DataW.trod_slice underlying42 g4 with ⟨hcs,_⟩ | ⟨ad,len,cap,elems,rest,n',hn',hcs,_,hb,hle,hcap,hel,hi,_,_⟩
 ·simp at hcs
  subst hcs
  subst hn
  exact ⟨.mk ⟨z0,z1,gg,ra,rl,rc,rows,ca,cl,cc,cells,none,0,0⟩ [],rfl,⟨hrow,hrl,hg64,hr64,hcrow,hcl.symm,hcbits,by dsimp only;omega⟩,rfl,.inl rfl,fun p hp=>by cases hp⟩
 ·simp at hcs
  subst hcs
  subst hn
  rw [show prog.cellsOf 44=6 by kernel_rfl] at hi
  obtain ⟨ps,hpl,hps⟩:=sY len (fun i (p:WV)=>(w.cell? (ad.add (i * 6))=some (.bool p.f.z)∧w.cell? (ad.add (i * 6+1))=some (.int .i64 p.f.c)∧w.cell? (ad.add (i * 6+2))=some (.int .u64 (p.f.g:Int))∧w.cell? (ad.add (i * 6+3))=some (.slice p.f.ra p.f.rl p.f.rc)∧w.cell? (ad.add (i * 6+4))=some (.slice p.f.ca p.f.cl p.f.cc)∧w.cell? (ad.add (i * 6+5))=some (.slice p.f.pa p.f.pl p.f.pc))∧WIn w n' p) (fun i hil=>by
   have hii:=hi i hil
   rw [List.getElem?_eq_getElem (by omega)] at hii
   obtain ⟨cs',hc,ht⟩:=Option.bind_eq_some_iff.1 hii
   obtain ⟨_,hcl,hat⟩:=World.cells?_some hc
   obtain ⟨s,rfl,hs⟩:=ih n' (by omega) ht
   have e0:=hat 0 (by omega)
   have e1:=hat 1 (by omega)
   have e2:=hat 2 (by omega)
   have e3:=hat 3 (by omega)
   have e4:=hat 4 (by omega)
   have e5:=hat 5 (by omega)
   rw [Go.Deep.add_add] at e0 e1 e2 e3 e4 e5
   exact ⟨s,⟨e0,e1,e2,e3,e4,e5⟩,hs⟩)
  refine ⟨.mk ⟨z0,z1,gg,ra,rl,rc,rows,ca,cl,cc,cells,some ad,len,cap⟩ ps,rfl,⟨hrow,hrl,hg64,hr64,hcrow,hcl.symm,hcbits,by dsimp only;omega⟩,hpl,?_,fun p hp=>?_⟩
  ·rcases Nat.eq_zero_or_pos len with h0 | h0
   ·exact .inl (List.length_eq_zero_iff.1 (by omega))
   ·obtain ⟨b,off,spot⟩:=ad
    obtain ⟨⟨h1,_⟩,_⟩:=hps 0 (ps[0]'(by omega)) (List.getElem?_eq_getElem (by omega))
    have hspot:spot=none:=by simpa [Addr.add] using World.cell?_spot h1
    subst hspot
    refine .inr ⟨b,off,rfl,fun i c hic=>?_⟩
    have e:∀ k,({ block:=b,off:=off }:Addr).add k=⟨b,off+k,none⟩:=fun k=>by simp [Addr.add]
    have h3:=(hps i c hic).1
    rw [e,e,e,e,e,e,← Nat.add_assoc,← Nat.add_assoc,← Nat.add_assoc,← Nat.add_assoc,← Nat.add_assoc] at h3
    exact h3
  ·obtain ⟨i,hi',hic⟩:=List.mem_iff_getElem.1 hp
   exact (hps i p (by rw [← hic];exact List.getElem?_eq_getElem hi')).2.more (by omega)
end
theorem Bn {w:World} {b:Nat}:∀ (vs:List Value) (o:Nat),(∀ (j:Nat) u,vs[j]?=some u→w.cell? ⟨b,o+j,none⟩=some u)→aB w b o vs
 | [],_,_=>trivial
 | v::vs,o,h=>⟨h 0 v rfl,Bn vs (o+1) fun j u hj=>by have:=h (j+1) u (by simpa using hj);rwa [show o+1+j=o+(j+1) by omega]⟩
section
variable {H:Type} {enc:TypeId×Value→H} {w:World} {base:Nat} {spare:Nat→Bool} {held:Bool}
theorem Ov {n:Nat} {v:Value} {x:DataW H×List MemPlace} (h:DataW.trod enc prog w base spare held n 26 [v]=some x) :
  ∃ (a:Option Addr) (len cap:Nat) (zs:List Int),v = .slice a len cap∧Row w a zs∧zs.length=len∧len≤cap∧cap≤maxLen:=by
 rcases open_ints (t:=26) (e:=3) (k:=.i64) (by kernel_rfl) (by kernel_rfl) (by kernel_rfl) h with ⟨hcs,_⟩ | ⟨x,len,cap,zs,hcs,_,hl,hm,hz,_,hcell,hwz⟩
 ·have hcs':v = .slice none 0 0:=by simpa using hcs
  subst hcs'
  exact ⟨none,0,0,[],rfl,.inl rfl,rfl,Nat.le_refl _,Nat.zero_le _⟩
 ·have hcs':v = .slice (some x) len cap:=by simpa using hcs
  subst hcs'
  have hzl:len≤zs.length:=by rw [hz];split<;>omega
  refine ⟨some x,len,cap,zs.take len,rfl,?_,by simp;omega,hl,hm⟩
  rcases Nat.eq_zero_or_pos len with h0 | h0
  ·subst h0;exact .inl (by simp)
  ·obtain ⟨b,off,spot⟩:=x
   have hc0:=hcell 0 (by omega)
   have hspot:spot=none:=by simpa [Addr.add] using World.cell?_spot hc0
   subst hspot
   refine .inr ⟨b,off,rfl,fun i hi=>?_⟩
   have hi1:i < len:=by simp at hi;omega
   have hi2:i < zs.length:=by omega
   have hc:=hcell i hi2
   have e:({ block:=b,off:=off }:Addr).add i=⟨b,off+i,none⟩:=by simp [Addr.add]
   rw [e] at hc
   rw [hc]
   simp [List.getD,List.getElem?_take,hi1]
theorem Rn {n:Nat} {a:Option Addr} {len cap:Nat} {x:DataW H×List MemPlace} (h:DataW.trod enc prog w base spare held n 26 [.slice a len cap]=some x):∃ zs:List Int,Row w a zs∧zs.length=len∧len≤cap∧len≤9223372036854775807:=by
 obtain ⟨a',len',cap',zs,e,h1,h2,h3,h4⟩:=Ov h
 cases e
 exact ⟨zs,h1,h2,h3,by simp only [maxLen] at h4;omega⟩
end
end Go.Proofs.YtmgnkpibpjgncaaGreatDoor
namespace Go.Proofs.YtmgnkpibpjgncaaGreatDoor
open Go.Proofs.Tryz
open Go Go.RowKit
abbrev MB (w0:World) (Kk:List (Nat×World)):World→Prop:=MK (fun W=>Below w0.heap.size w0 W) Kk
theorem MB.of {w0 W:World} {O:Own} {G:cU} {K Kk:List (Nat×World)} (h:St w0 O G K W) (hk:∀ q∈Kk,q∈K):MB w0 Kk W:=⟨h.below,fun q hq=>(h.kept q (hk q hq)).1⟩
theorem gR.keep {w0:World} {K1 K2:List (Nat×World)} {S:PS} {f:WF} {x:PX} (h:gR (MB w0 K1) S f x) (hk:∀ q∈K1,q∈K2):gR (MB w0 K2) S f x:=h.mono fun W hW=>⟨hW.1,fun q hq=>hW.2 q (hk q hq)⟩
theorem V9 {lo lo':Nat} {A W:World} (h:dD lo A W) (hl:lo≤lo'):dD lo' A W:=⟨h.1,fun k h1 h2=>h.2 k (Nat.le_trans hl h1) h2⟩
theorem w6_atL {w:World} {B:Nat} {f:WF} {o:Nat} (h:aB w B o f.six):W6 w B o f:=⟨h.1,h.2.1,h.2.2.1,h.2.2.2.1,h.2.2.2.2.1,h.2.2.2.2.2.1⟩
section
variable {P:Program} {d td:Nat} {ty:TypeId} {pos:String}
end
theorem Ow {O:Own} {j jx B:Nat} {cs:List Value} {U:TypeId} {ev:Option Value} {p:Nat×List Value×TypeId} (he:ev=none) (h:O[j]?=some p):(osY O j jx B cs U ev)[j]?=some p:=by
 subst he;exact h
theorem xb_lt {O:Own} {j jx B lo hi:Nat} {cs:List Value} {U:TypeId} {y:Value} (h:∀ p∈O,p.1 < lo) (hB:B < lo):∀ b,lo≤b→b < hi→¬ XB (osY O j jx B cs U (some y)) (tE [] (some y)) b:=by
 rintro b h1 _ (⟨p,hp,rfl⟩ | ⟨g,hg,_⟩)
 ·rcases List.mem_or_eq_of_mem_set (show p∈O.set j (B,jA cs jx y.cells.toList,U) from hp) with hp | rfl
  ·exact absurd (h p hp) (Nat.not_lt_of_le h1)
  ·exact absurd hB (Nat.not_lt_of_le h1)
 ·cases hg
def Mp (lo:Nat) (p:Asr) (w:World):Ending→World→Prop:=fun e w'=>∃ v,e = .returned v∧(∀ w2,dD lo w' w2→p v w2)∧Below w.heap.size w w'
section
variable {P:Program} {n:Nat} {Q:Exit→Act→World→Prop} {l:Fr} {w0 W:World} {ops:Array Oper} {os:List Oper} {K:List (Nat×World)} {L:List Asr} {i:Nat}
variable {ca:Nat→Option Value→List Value} {ta:Nat→TypeId} {Os:Option Value→Own} {Gs:Option Value→cU} {lo ef jy:Nat} {s:Sg}
variable {d:Nat} {op:Op} {ty:TypeId} {pos:String} {aft_:Array Edge} {v:Value} {gd:Option (Nat×Bool)}
theorem Jc {f:FuncId} {xs:List Operand} {ts:Array TypeId} (ps:List Asr) (hX:∀ ev b,lo≤b→¬ XB (Os ev) (Gs ev) b) (hie:Nat.beq i ef=false) (hij:xJ ops ef jy i=true) (hi:ops[i]?=some ⟨some d,.call { callee:=.value (.func f),args:=xs.toArray,argTypes:=ts },ty,pos,aft_,gd⟩) (hNo:rT [] ef L) (hgo:bH P f=true)
  (hw:gC ops L i ⟨some d,.call { callee:=.value (.func f),args:=xs.toArray,argTypes:=ts },ty,pos,aft_,gd⟩) (hp:tT n ops l L i xs ps)
  {p:Asr} (hc:∀ vs ev w,(pY ops ef i=true→ev=none)→St w0 (Os ev) (Gs ev) K w→lo≤w.heap.size→mH ps vs w→Calls P f vs.toArray w (Mp lo p w)) (hI:atI L i=p):SG P n ops Q l w0 K lo [] ef jy ca ta Os Gs L i:=fun t0 h0 s LB a w hF hG hV hs hcl hr hD=>by
 have hnil:s.bs=[]:=by
  cases hb:s.bs with
  | nil=>rfl
  | cons q r=>have:=hV.2.1 q (by rw [hb];exact List.mem_cons_self);cases this
 have hD':=vU h0 hF hD (fun j d _ hj=>hNo j hj)
 have hS:St w0 (Os s.ev) (Gs s.ev) K w:=St.drops _ hG.1
 have h1:=hc (xs.map a.eval) s.ev w (fun he=>zC hV hs hcl hr.1 he) hS hG.2.1 (gZ h0 hF hD' hp)
 rw [show (xs.map a.eval).toArray=xs.toArray.map a.eval by simp] at h1
 unfold wpOp
 simp only [hi,hw.yes hD',if_true]
 refine .inl ?_
 unfold Oper.wp
 rw [lM P a.eval w f xs.toArray ts _ rfl rfl hgo,Oper.upon_enter]
 refine h1.mono ?_
 rintro e w' ⟨v,rfl,hv,hb⟩
 have hA:AwS lo (XB (OE ca ta Os s) (Gs s.ev)) (atI L i) v w':=by
  rw [hI]
  intro w2 h2
  refine hv w2 ⟨h2.2.1,fun b h3 h4=>h2.2.2 b h3 h4 (fun hx=>hX s.ev b h3 ?_)⟩
  unfold OE at hx
  rw [hnil] at hx
  exact hx
 have hie':i≠ef:=fun e=>by rw [e,Nat.beq_refl] at hie;cases hie
 refine ⟨s,v,by simp,I1 hV (List.not_mem_nil) hie',⟨hG.1.grow hb,Nat.le_trans hG.2.1 hb.size,hG.2.2⟩,Tr.refl hb,fun _ _=>⟨(fun h=>absurd h List.not_mem_nil),(fun e=>absurd e hie'),(fun h y hy=>by rw [zC hV hs hcl hr.1 (sU hij h)] at hy;cases hy),fun _ _=>hA⟩⟩
end
theorem osY_lt {O:Own} {j jx B lo:Nat} {cs:List Value} {U:TypeId} (h:∀ p∈O,p.1 < lo) (hB:B < lo):∀ (ev:Option Value) b,lo≤b→¬ XB (osY O j jx B cs U ev) (tE [] ev) b:=by
 intro ev b h1 hx
 cases ev with
 | none =>
  rcases hx with ⟨p,hp,rfl⟩ | ⟨g,hg,_⟩
  ·exact absurd (h p hp) (Nat.not_lt_of_le h1)
  ·cases hg
 | some y=>exact xb_lt (hi:=b+1) h hB b h1 (Nat.lt_succ_self b) hx
theorem Bo:∀ (A old new B:List Value),old.length=new.length→jA (A++old++B) A.length new=A++new++B
 | A,[],[],B,_=>by simp [jA]
 | A,[],_::_,B,h=>by simp at h
 | A,_::_,[],B,h=>by simp at h
 | A,o::old,v::new,B,h=>by
  have h9:=Bo (A++[v]) old new B (by simpa using h)
  simp only [jA]
  have e:(A++o::old++B).set A.length v=(A++[v])++old++B:=by simp [List.set_append]
  rw [e]
  simpa using h9
theorem sZ (fs:List WF):(fs.flatMap WF.six).length=fs.length * 6:=by
 induction fs with
 | nil=>rfl
 | cons f r ih=>rw [List.flatMap_cons,List.length_append,ih];simp only [List.length_cons,List.length_nil];omega
theorem sB {fs:List WF} {i:Nat} {f:WF} (h:fs[i]?=some f):fs.flatMap WF.six=(fs.take i).flatMap WF.six++f.six++(fs.drop (i+1)).flatMap WF.six:=by
 have hl:=(List.getElem?_eq_some_iff.1 h).1
 have e:fs=fs.take i++f::fs.drop (i+1):=by
  have h1:=(List.take_append_drop i fs).symm
  rw [List.drop_eq_getElem_cons hl,(List.getElem?_eq_some_iff.1 h).2] at h1
  exact h1
 have e2:=congrArg (fun l=>List.flatMap WF.six l) e
 simp only [List.flatMap_append,List.flatMap_cons] at e2
 rw [List.append_assoc]
 exact e2
theorem El {fs:List WF} {i:Nat} (h:i < fs.length):((fs.take i).flatMap WF.six).length=0+i * 6:=by
 rw [sZ,List.length_take];omega
theorem lW {fs:List WF} {cs:List Value} {i:Nat} {f:WF} (h:fs[i]?=some f):((fs.flatMap WF.six++cs).drop (0+i * 6)).take 6=f.six:=by
 rw [sB h,← El (List.getElem?_eq_some_iff.1 h).1,List.append_assoc,List.append_assoc,List.drop_left]
 rfl
theorem uQ {fs:List WF} {cs:List Value} {i:Nat} {f g:WF} (h:fs[i]?=some f):jA (fs.flatMap WF.six++cs) (0+i * 6) g.six=(fs.set i g).flatMap WF.six++cs:=by
 have hl:=(List.getElem?_eq_some_iff.1 h).1
 have h2:(fs.set i g)[i]?=some g:=by rw [List.getElem?_set_self hl]
 rw [sB h,sB h2,← El hl,List.append_assoc _ _ cs,Bo _ f.six g.six _ rfl]
 rw [List.take_set_of_le (Nat.le_refl _),List.drop_set_of_lt (Nat.lt_succ_self _)]
 simp [List.append_assoc]
theorem Wa {W:World} {b:Nat} {fs:List WF} {cs:List Value} {T:TypeId} (h:W.heap[b]?=some (.cells (fs.flatMap WF.six++cs).toArray T (0,0))):qP W (some ⟨b,0,none⟩) fs:=.inr ⟨b,0,rfl,fun i f hi=>w6_atL (aB.own (j:=0+i * 6) (m:=6) h (lW hi))⟩
theorem St.rowOwn {w0 W:World} {O:Own} {K:List (Nat×World)} {a:Option Addr} {n c:Nat} {xs:List Value} {T:TypeId} {sz:Nat} (h:St w0 O [⟨.slice a n c,n,xs,T,sz⟩] K W) (hn:0 < n):∃ (b:Nat) (cs:List Value),a=some ⟨b,0,none⟩∧St w0 ((b,xs++cs,T)::O) [] K W:=by
 obtain ⟨hrow,hap⟩:=h.rows _ List.mem_cons_self
 dsimp only at hrow hap
 rcases hrow.2 with ⟨_,e2⟩ | ⟨g,cap,cur,e1,hg,hh,hn2,hm,hs,ht⟩
 ·omega
 ·injection e1 with e1 _ _
  subst e1
  obtain ⟨ho,hq⟩:=hap g rfl
  refine ⟨g,cur.toList.drop (n * sz),rfl,h.below,fun p hp=>?_,List.Pairwise.cons (fun p hp e=>ho p hp e.symm) h.dist,fun q hq'=>⟨(h.kept q hq').1,fun p hp=>?_⟩,(fun g hg=>by cases hg),List.Pairwise.nil⟩
  ·rcases List.mem_cons.1 hp with rfl | hp
   ·refine ⟨hg,?_⟩
    dsimp only
    rw [← ht,List.take_append_drop,Array.toArray_toList]
    exact hh
   ·exact h.own p hp
  ·rcases List.mem_cons.1 hp with rfl | hp
   ·exact hq q hq'
   ·exact (h.kept q hq').2 p hp
def jX (S:PS) (b:Bool) (x y:PX):PX:=if b then iW S y x else iW S x y
def Bp (fs:List Int) (n:Int):Bool:=fs.any (fun y=>decide (y=n))
def kW (S:PS) (fs:List Int) (n:Nat):List PX:=(List.range n).map (fun (s:Nat)=>if Bp fs (s:Int) then jW S else bP S)
theorem Bq (S:PS) (fs:List Int) (n:Nat):kW S fs (n+1)=kW S fs n++[if Bp fs (n:Int) then jW S else bP S]:=by
 unfold kW;rw [List.range_succ,List.map_append];rfl
def stepF (S:PS) (back:Bool) (sy:Int) (l acc:List PX) (f g t:Int) (z:PX):List PX :=
 if g=sy then acc.set f.toNat (bZ S (acc.getD f.toNat (bP S)) (jX S back z (l.getD t.toNat (bP S)))) else acc
def nQ (S:PS) (back:Bool) (sy:Int) (l:List PX) (py:TV→PX) (n:Nat) (ts:List TV):List PX:=ts.foldl (fun acc t=>stepF S back sy l acc t.f t.g t.t (py t)) (List.replicate n (bP S))
theorem Ro {S:PS} {back:Bool} {sy:Int} {l acc:List PX} {f g t:Int} {z:PX}:(stepF S back sy l acc f g t z).length=acc.length:=by
 unfold stepF;split<;>simp
theorem Em {S:PS} {back:Bool} {sy:Int} {l:List PX} {py:TV→PX}:∀ (ts:List TV) (acc:List PX),(ts.foldl (fun acc t=>stepF S back sy l acc t.f t.g t.t (py t)) acc).length=acc.length
 | [],_=>rfl
 | t::ts,acc=>by rw [List.foldl_cons,Em ts,Ro]
theorem Rp {S:PS} {back:Bool} {sy:Int} {l:List PX} {py:TV→PX} {n:Nat} {ts:List TV}:(nQ S back sy l py n ts).length=n:=by
 unfold nQ;rw [Em,List.length_replicate]
theorem Br {S:PS} {back:Bool} {sy:Int} {l:List PX} {py:TV→PX} {n:Nat} {ts:List TV} {i:Nat} {t:TV} (h:ts[i]?=some t):nQ S back sy l py n (ts.take (i+1))=stepF S back sy l (nQ S back sy l py n (ts.take i)) t.f t.g t.t (py t):=by
 unfold nQ
 rw [List.take_add_one,h,List.foldl_append];rfl
theorem Gk {M:World→Prop} {S:PS} {fs:List WF} {xs:List PX} {f:WF} {x:PX} (h:XLF M S fs xs) (hx:gR M S f x):XLF M S (fs++[f]) (xs++[x]):=⟨by rw [List.length_append,List.length_append,h.1];rfl,fun i g y hg hy=>by
 rcases Nat.lt_or_ge i fs.length with h1 | h1
 ·rw [List.getElem?_append_left h1] at hg
  rw [List.getElem?_append_left (by rw [← h.1];exact h1)] at hy
  exact h.2 i g y hg hy
 ·rw [List.getElem?_append_right h1] at hg
  rw [List.getElem?_append_right (by rw [← h.1];exact h1),← h.1] at hy
  cases hk:i - fs.length with
  | zero=>rw [hk] at hg hy;cases hg;cases hy;exact hx
  | succ k=>rw [hk] at hg;simp at hg⟩
theorem Ox {M:World→Prop} {S:PS} {fs:List WF} {xs:List PX} {f:WF} {x:PX} {k:Nat} (h:XLF M S fs xs) (hx:gR M S f x):XLF M S (fs.set k f) (xs.set k x):=⟨by rw [List.length_set,List.length_set,h.1],fun i g y hg hy=>by
 rcases Nat.decEq i k with h1 | rfl
 ·rw [List.getElem?_set_ne (Ne.symm h1)] at hg hy
  exact h.2 i g y hg hy
 ·have hl:i < fs.length:=by
   rcases Nat.lt_or_ge i fs.length with h2 | h2
   ·exact h2
   ·rw [List.getElem?_eq_none (by simpa using h2)] at hg;cases hg
  rw [List.getElem?_set_self hl] at hg
  rw [List.getElem?_set_self (by rw [← h.1];exact hl)] at hy
  cases hg;cases hy;exact hx⟩
theorem gR.keepM {M:World→Prop} {K1 K2:List (Nat×World)} {S:PS} {f:WF} {x:PX} (h:gR (MK M K1) S f x) (hk:∀ q∈K1,q∈K2):gR (MK M K2) S f x:=h.mono fun W hW=>⟨hW.1,fun q hq=>hW.2 q (hk q hq)⟩
theorem lX {M:World→Prop} {K1 K2:List (Nat×World)} {S:PS} {fs:List WF} {xs:List PX} (h:XLF (MK M K1) S fs xs) (hk:∀ q∈K1,q∈K2):XLF (MK M K2) S fs xs:=⟨h.1,fun i f x hf hx=>(h.2 i f x hf hx).keepM hk⟩
theorem Jd {M M':World→Prop} {S:PS} {fs:List WF} {xs:List PX} (h:XLF M S fs xs) (hm:∀ W,M' W→M W):XLF M' S fs xs:=⟨h.1,fun i f x hf hx=>(h.2 i f x hf hx).mono hm⟩
abbrev MZ (w:World) (M:World→Prop):World→Prop:=fun W=>M W∧w.heap.size≤W.heap.size
theorem En {w:World} {M:World→Prop} (h:mF M):mF (MZ w M):=fun W W' hW hb=>⟨h _ _ hW.1 hb,Nat.le_trans hW.2 hb.size⟩
def Je (w W:World):World:={ w with heap:=w.heap++W.heap.extract w.heap.size W.heap.size }
theorem xN {w W:World} (h:w.heap.size≤W.heap.size):(Je w W).heap.size=W.heap.size:=by
 unfold Je;simp only [Array.size_append,Array.size_extract];omega
theorem Wb {w W:World} {k:Nat} (hk:k < w.heap.size):(Je w W).heap[k]?=w.heap[k]?:=by
 unfold Je;simp only [Array.getElem?_append_left hk]
theorem Jf {w W:World} (h:w.heap.size≤W.heap.size) {k:Nat} (hk:w.heap.size≤k):(Je w W).heap[k]?=W.heap[k]?:=by
 unfold Je
 simp only [Array.getElem?_append_right hk]
 rw [Array.getElem?_extract]
 rcases Nat.lt_or_ge k W.heap.size with h1 | h1
 ·rw [if_pos (by omega),show w.heap.size+(k - w.heap.size)=k by omega]
 ·rw [if_neg (by omega),Array.getElem?_eq_none (by omega)]
theorem Mq {w W:World} (h:w.heap.size≤W.heap.size):Below w.heap.size w (Je w W) where
 os:=rfl
 tape:=rfl
 output:=rfl
 size:=by rw [xN h];exact h
 block:=fun k hk=>Wb hk
theorem Mr {M:World→Prop} {w0 W':World} {Ks Kk:List (Nat×World)} {lo:Nat} {X:Nat→Prop} {S:PS} {f:WF} {z:PX} (hcov:∀ {O2:Own} {G2:cU} {K2:List (Nat×World)} {W2:World},St w0 O2 G2 K2 W2→(∀ q∈Ks,q∈K2)→iK lo X W' W2) (hX:∀ b,lo≤b→b < W'.heap.size→¬ X b) (hlo:w0.heap.size≤lo) (hKs:∀ q∈Ks,lo≤q.1) (h:gR (fun W=>MK (MZ w0 M) Kk W∧dD lo W' W) S f z):gR (MK (MZ w0 M) (Ks++Kk)) S f z :=
 h.mono fun W hW=>by
  have hsz:w0.heap.size≤W.heap.size:=hW.1.2
  have hst:St w0 [] [] Ks (Je w0 W):=⟨Mq hsz,(fun p h=>by cases h),List.Pairwise.nil,(fun q hq=>⟨⟨by rw [xN hsz];exact (hW.2 q (List.mem_append_left _ hq)).1,fun k h1 h2=>by rw [Jf hsz (Nat.le_trans hlo (Nat.le_trans (hKs q hq) h1))];exact (hW.2 q (List.mem_append_left _ hq)).2 k h1 h2⟩,fun p hp=>by cases hp⟩),(fun q h=>by cases h),List.Pairwise.nil⟩
  have hs:=hcov hst (fun q hq=>hq)
  refine ⟨⟨hW.1,fun q hq=>hW.2 q (List.mem_append_right _ hq)⟩,by have h9:=hs.2.1;rw [xN hsz] at h9;exact h9,fun b h1 h2=>?_⟩
  have h9:=hs.2.2 b h1 h2 (hX b h1 h2)
  rw [Jf hsz (Nat.le_trans hlo h1)] at h9
  exact h9
abbrev rdC (f0:WF) (a:AV) (bk:Bool) (bm VA VX:Nat):List Value:=[.int .i64 a.s.f.tag,.int .i64 a.s.f.dim,.slice a.s.f.a a.s.f.len a.s.f.cap,.bool f0.z,.int .i64 f0.c,.int .u64 (f0.g:Int),.slice f0.ra f0.rl f0.rc,.slice f0.ca f0.cl f0.cc,.slice f0.pa f0.pl f0.pc,.int .i64 a.s.f.tag,.int .i64 a.s.f.dim,.slice a.s.f.a a.s.f.len a.s.f.cap,.int .i64 a.st,.int .i64 a.sy,.slice a.fa a.fl a.fc,.slice a.ta a.tl a.tc,.bool bk,.map (some bm),.pointer (some ⟨VA,0,none⟩),.pointer (some ⟨VX,0,none⟩)]
abbrev gU (v:Value) (n IB WB:Nat):List Value:=[v,.slice (some ⟨IB,0,none⟩) n n,.slice (some ⟨WB,0,none⟩) n n]
noncomputable abbrev inC (S:PS) (xs:List PX):List Value:=xs.map (fun x=>.bool (nzX S x))
abbrev wC (fs:List WF):List Value:=fs.flatMap WF.six
abbrev atC (l:List Nat):List Value:=l.map (fun (i:Nat)=>Value.int .i64 (i:Int))
structure VecOk (S:PS) (w0:World) (K:List (Nat×World)) (n:Nat) (fs:List WF) (xs:List PX) (l:List Nat):Prop where
 fl:fs.length=n
 xl:xs.length=n
 held:∀ (i:Nat) f x,fs[i]?=some f→xs[i]?=some x→x≠bP S→mE w0 K (fun W=>XIs W S f x)
 ok:∀ x∈xs,OkX S x
 ats:∀ i,i∈l↔∃ x,xs[i]?=some x∧x≠bP S
 nd:l.Nodup
section
variable {S:PS} {w0:World} {K K':List (Nat×World)} {n s:Nat} {fs:List WF} {xs:List PX} {l:List Nat} {f:WF} {x x0:PX}
theorem nd_len:∀ (n:Nat) (l:List Nat),l.Nodup→(∀ i∈l,i < n)→l.length≤n:=by
 intro n
 induction n with
 | zero =>
  intro l _ h
  cases l with
  | nil=>exact Nat.le_refl _
  | cons a t=>exact absurd (h a List.mem_cons_self) (Nat.not_lt_zero _)
 | succ n ih =>
  intro l hl h
  have h1:=ih (l.filter (· ≠ n)) (hl.filter _) (fun i hi=>by
   simp at hi
   have:=h i hi.1
   omega)
  have h2:l.length≤(l.filter (· ≠ n)).length+1:=by
   clear ih h h1
   induction l with
   | nil=>simp
   | cons a t iht =>
    have hn:=List.nodup_cons.1 hl
    by_cases e:a=n
    ·subst e
     have:t.filter (· ≠ a)=t:=by
      rw [List.filter_eq_self]
      intro b hb
      simp
      intro e
      subst e
      exact hn.1 hb
     rw [List.filter_cons_of_neg (by simp),this]
     simp
    ·rw [List.filter_cons_of_pos (by simpa using e)]
     have:=iht hn.2
     simp only [List.length_cons]
     omega
  omega
theorem VecOk.len (h:VecOk S w0 K n fs xs l):l.length≤n:=nd_len n l h.nd fun i hi=>by
 obtain ⟨y,h1,_⟩:=(h.ats i).1 hi
 have:=(List.getElem?_eq_some_iff.1 h1).1
 rw [h.xl] at this;exact this
theorem VecOk.more (h:VecOk S w0 K n fs xs l) (hk:∀ q∈K,q∈K'):VecOk S w0 K' n fs xs l:=⟨h.fl,h.xl,fun i f x h1 h2 h3=>mE.more (h.held i f x h1 h2 h3) hk,h.ok,h.ats,h.nd⟩
theorem VecOk.emptied (h:fs.length=n):VecOk S w0 K n fs (List.replicate n (bP S)) []:=⟨h,by simp,fun i f x h1 h2 h3=>by
 have h4:=(List.getElem?_eq_some_iff.1 h2).2
 rw [List.getElem_replicate] at h4
 exfalso;exact h3 h4.symm,fun x hx=>by rw [(List.mem_replicate.1 hx).2];exact lS,fun i=>⟨fun h=>(by cases h),fun ⟨y,h1,h2⟩=>by
 have h4:=(List.getElem?_eq_some_iff.1 h1).2
 rw [List.getElem_replicate] at h4
 exact absurd h4.symm h2⟩,List.nodup_nil⟩
theorem VecOk.at_ (h:VecOk S w0 K n fs xs l) (hs:s < n):∃ f x,fs[s]?=some f∧xs[s]?=some x∧OkX S x:=by
 have h1:s < fs.length:=by rw [h.fl];exact hs
 have h2:s < xs.length:=by rw [h.xl];exact hs
 exact ⟨fs[s],xs[s],List.getElem?_eq_getElem h1,List.getElem?_eq_getElem h2,h.ok _ (List.getElem_mem h2)⟩
theorem Wc (h:xs[s]?=some x):(inC S xs)[0+s * 1]?=some (.bool (nzX S x)):=by
 rw [Nat.zero_add,Nat.mul_one,List.getElem?_map,h];rfl
theorem inC_lt (h:xs[s]?=some x):Nat.blt (0+s * 1) (inC S xs).length=true:=by
 rw [Nat.blt_eq,List.length_map]
 have:=(List.getElem?_eq_some_iff.1 h).1
 omega
theorem Oy (x:PX):(inC S xs).set (0+s * 1) (.bool (nzX S x))=inC S (xs.set s x):=by
 rw [Nat.zero_add,Nat.mul_one]
 exact List.map_set.symm
theorem Jg (h:fs[s]?=some f):((wC fs).drop (0+s * 6)).take 6=f.six:=by
 have h9:=lW (cs:=[]) h
 rw [List.append_nil] at h9;exact h9
theorem wC_le (h:fs[s]?=some f):Nat.ble (0+s * 6+6) (wC fs).length=true:=by
 rw [Nat.ble_eq,sZ]
 have:=(List.getElem?_eq_some_iff.1 h).1
 omega
theorem Eo {g:WF} (h:fs[s]?=some f):jA (wC fs) (0+s * 6) g.six=wC (fs.set s g):=by
 have h9:=uQ (cs:=[]) (g:=g) h
 rw [List.append_nil,List.append_nil] at h9;exact h9
theorem VecOk.put {K':List (Nat×World)} {l':List Nat} {g:WF} {y:PX} (h:VecOk S w0 K n fs xs l) (hs:s < n) (hx0:xs[s]?=some x0) (hk:∀ q∈K,q∈K') (hg:mE w0 K' (fun W=>XIs W S g y)) (hy:OkX S y) (hy0:y≠bP S) (hl:(x0≠bP S∧l'=l)∨(x0=bP S∧l'=l++[s])):VecOk S w0 K' n (fs.set s g) (xs.set s y) l':=by
 have hsl:s < xs.length:=by rw [h.xl];exact hs
 refine ⟨by rw [List.length_set];exact h.fl,by rw [List.length_set];exact h.xl,fun i f x h1 h2 h3=>?_,fun x hx=>?_,fun i=>?_,?_⟩
 ·rcases Nat.decEq i s with e | rfl
  ·rw [List.getElem?_set_ne (Ne.symm e)] at h1 h2
   exact mE.more (h.held i f x h1 h2 h3) hk
  ·rw [List.getElem?_set_self (by rw [h.fl];exact hs)] at h1
   rw [List.getElem?_set_self hsl] at h2
   cases h1;cases h2;exact hg
 ·rcases List.mem_or_eq_of_mem_set hx with h1 | rfl
  ·exact h.ok x h1
  ·exact hy
 ·rcases Nat.decEq i s with e | rfl
  ·rw [List.getElem?_set_ne (Ne.symm e)]
   rcases hl with ⟨_,rfl⟩ | ⟨_,rfl⟩
   ·exact h.ats i
   ·rw [List.mem_append]
    exact ⟨fun h1=>(h.ats i).1 (h1.resolve_right (by simpa using e)),fun h1=>.inl ((h.ats i).2 h1)⟩
  ·rw [List.getElem?_set_self hsl]
   refine ⟨fun _=>⟨y,rfl,hy0⟩,fun _=>?_⟩
   rcases hl with ⟨h1,rfl⟩ | ⟨_,rfl⟩
   ·exact (h.ats i).2 ⟨x0,hx0,h1⟩
   ·simp
 ·rcases hl with ⟨_,rfl⟩ | ⟨h1,rfl⟩
  ·exact h.nd
  ·rw [List.nodup_append]
   refine ⟨h.nd,by simp,fun a ha b hb=>?_⟩
   simp at hb;subst hb
   intro e;subst e
   obtain ⟨y',h2,h3⟩:=(h.ats a).1 ha
   rw [hx0] at h2;cases h2;exact h3 h1
theorem Rq {α:Type} {l:List α} {s:Nat} {x:α} (h:l[s]?=some x):l.set s x=l:=by
 apply List.ext_getElem?
 intro i
 rcases Nat.decEq i s with e | rfl
 ·rw [List.getElem?_set_ne (Ne.symm e)]
 ·rw [List.getElem?_set_self (List.getElem?_eq_some_iff.1 h).1,h]
theorem Bt (h:xs[s]?=some x):xs.set s x=xs:=by
 apply List.ext_getElem?
 intro i
 rcases Nat.decEq i s with e | rfl
 ·rw [List.getElem?_set_ne (Ne.symm e)]
 ·rw [List.getElem?_set_self (List.getElem?_eq_some_iff.1 h).1,h]
theorem Oz (hok:S.ok) (hx:OkX S x0) (hy:OkX S x) (h:x0≠bP S):bZ S x0 x≠bP S:=fun e=>h (by
 have h1:=jR hok hx hx hy
 rw [pS hok hx,e,mM hx] at h1
 exact h1.symm)
theorem atC_len (l:List Nat):(atC l).length=l.length:=by simp
end
theorem O0 {f g:WF} (h:f.val=g.val) (hp:f.pf=g.pf):f=g:=by
 obtain ⟨z,c,g1,ra,rl,rc,rows,ca,cl,cc,cells,pa,pl,pc⟩:=f
 obtain ⟨z',c',g',ra',rl',rc',rows',ca',cl',cc',cells',pa',pl',pc'⟩:=g
 simp [WF.val,WF.pf] at h hp
 obtain ⟨h1,h2,h3,h4,h5,h6⟩:=h
 obtain ⟨p1,p2,p3,p4,p5⟩:=hp
 obtain ⟨e1,e2,e3⟩:=h4
 obtain ⟨e4,e5,e6⟩:=h5
 obtain ⟨e7,e8,e9⟩:=h6
 subst h1;subst h2;subst p3;subst p4;subst p5;subst e1;subst e2;subst e3;subst e4;subst e5;subst e6;subst e7;subst e8;subst e9
 rfl
theorem gT.samepf {lo lo':Nat} {w w':World} {S:PS} {f g:WF} {x:PX} (h:gT lo w S f x) (k:gT lo' w' S g x):f.pf=g.pf:=by
 cases S<;>cases x<;>first | exact h.elim | skip
 ·exact h.is.pf.trans k.is.pf.symm
 ·exact h.1.trans k.1.symm
theorem newOff {lo B:Nat} {A W:World} {S:PS} {f:WF} {x:PX} (hn:Aw (some B) (dH lo S x) f.val A) (hf:gT lo A S f x) (hlo:lo≤A.heap.size) (hx:La lo B A W):gT lo W S f x:=by
 obtain ⟨w',⟨g,hg,hgn⟩,ha⟩:=Aw.mid hn hlo hx
 obtain rfl:=O0 hg (hf.samepf hgn)
 exact hgn.agree ha
theorem O1 {f g:WF} (h:f.val=g.val):f.six=g.six:=congrArg (fun v:Value=>v.cells.toList) h
section
variable {n:Nat} {Q:Exit→Act→World→Prop} {l:Fr} {W:World} {ops:Array Oper} {L:List Asr} {i d:Nat} {ty:TypeId} {pos:String} {aft:Array Edge} {gd:Option (Nat×Bool)} {S:PS} {x y z:PX} {p q r:Operand}
theorem Wd (hi:ops[i]?=some ⟨some d,.buildSlice 42 2 (List.toArray [(0,p),(1,q)]),ty,pos,aft,gd⟩) (hw:gC ops L i ⟨some d,.buildSlice 42 2 (List.toArray [(0,p),(1,q)]),ty,pos,aft,gd⟩) (hp:tT n ops l L i [p,q] [isX S x,isX S y]) (hI:atI L i=nJ S [x,y]):RGA prog n ops Q l W L i :=
 ag_row [isX S x,isX S y] hi hw underlying42 sizeOf44 zeroValue44 rfl rfl hp fun β vs w hb hh=>by
  obtain ⟨v1,v2,rfl,⟨f,rfl,hf⟩,g,rfl,hg⟩:=pV (hh w (Off.refl _ _))
  refine ⟨f.six++g.six,uW _ _ _ _ _ _ _ _ _ _ _ _,fun B w' hB h1 ho=>?_⟩
  obtain ⟨v1,v2,hv,⟨f',hv1,hf'⟩,g',hv2,hg'⟩:=pV (hh w' ho)
  simp only [List.cons.injEq,and_true] at hv
  obtain ⟨e1,e2⟩:=hv
  rw [O1 (e1.trans hv1),O1 (e2.trans hv2)] at h1
  rw [hI]
  exact ⟨B,[f',g'],rfl,Ip h1,sS hf' (sS hg' Ma)⟩
end
theorem nR (w:World) (b o:Nat):(Instr.fieldAt 109 (.pointer (some ⟨b,o,none⟩)) 0).run prog w = .ok (.pointer (some ⟨b,o+0,none⟩)) w:=by
 simp [Instr.fieldAt,run_underlying underlying109,Instr.sureAddr,go_sem,Addr.add_lit]
theorem kQ (w:World) (b o:Nat):(Instr.fieldAt 139 (.pointer (some ⟨b,o,none⟩)) 0).run prog w = .ok (.pointer (some ⟨b,o+0,none⟩)) w:=by
 simp [Instr.fieldAt,run_underlying underlying139,Instr.sureAddr,go_sem,Addr.add_lit]
theorem wE (w:World) (b o:Nat):(Instr.fieldAt 139 (.pointer (some ⟨b,o,none⟩)) 1).run prog w = .ok (.pointer (some ⟨b,o+1,none⟩)) w:=by
 simp [Instr.fieldAt,run_underlying underlying139,Instr.sureAddr,go_sem,Addr.add_lit]
theorem nS (w:World) (b o:Nat):(Instr.fieldAt 139 (.pointer (some ⟨b,o,none⟩)) 2).run prog w = .ok (.pointer (some ⟨b,o+2,none⟩)) w:=by
 simp [Instr.fieldAt,run_underlying underlying139,Instr.sureAddr,go_sem,Addr.add_lit]
theorem goes_38:bH prog 38=true:=by kernel_rfl
theorem St.mark0 {w0 W:World} {O:Own} {G:cU} {K:List (Nat×World)} (h:St w0 O G K W):St w0 O G ((W.heap.size,W)::K) W where
 below:=h.below
 own:=h.own
 dist:=h.dist
 kept:=fun q hq=>by
  rcases List.mem_cons.1 hq with rfl | hq
  ·exact ⟨dD.refl _ _,fun p hp=>.inl (bY (h.own p hp).2)⟩
  ·exact h.kept q hq
 rows:=fun g hg=>⟨(h.rows g hg).1,fun b hb=>⟨((h.rows g hg).2 b hb).1,fun q hq=>by
  rcases List.mem_cons.1 hq with rfl | hq
  ·exact .inl (h.glt hg hb).2
  ·exact ((h.rows g hg).2 b hb).2 q hq⟩⟩
 gdist:=h.gdist
theorem Bu (S:PS) (a:AV) (f0:WF) (bk:Bool) (bm VA VX RB VB IB WB n:Nat) (v:Value) (fs:List WF) (xs:List PX) (l:List Nat) (Ot:Own) (Gt:cU) (K Kv:List (Nat×World)) (w0:World) (s:Nat) (f:WF) (x x0:PX) (w:World) (hS0:St w0 ((RB,rdC f0 a bk bm VA VX,109)::(VB,gU v n IB WB,139)::(IB,inC S xs,4)::(WB,wC fs,44)::Ot) (⟨v,l.length,atC l,3,1⟩::Gt) K w) (hKv:∀ q∈Kv,q∈K) (hV:VecOk S w0 Kv n fs xs l) (hn:n≤4096) (hs:s < n) (hx0:xs[s]?=some x0) (hsi:SIs w0 S a.s.f) (hok:S.ok) (ht:Tabs w0) (H0:mE w0 Kv (fun W=>XIs W S f0 (bP S))) (HX:mE w0 Kv (fun W=>XIs W S f x)) (hx:OkX S x) :
  Calls prog 94 #[.pointer (some ⟨RB,0,none⟩),.pointer (some ⟨VB,0,none⟩),.int .i64 (s:Int),f.val] w (fun e w'=>∃ (u:Value) (l':List Nat) (fs':List WF) (Kw:List (Nat×World)),e = .returned (.bool (!eqX (bZ S x0 x) x0))∧(∀ q∈Kw,w.heap.size≤q.1)∧VecOk S w0 (Kw++Kv) n fs' (xs.set s (bZ S x0 x)) l'∧((bZ S x0 x=x0∧l'=l)∨l'=l∨l'=l++[s])∧St w0 ((RB,rdC f0 a bk bm VA VX,109)::(VB,gU u n IB WB,139)::(IB,inC S (xs.set s (bZ S x0 x)),4)::(WB,wC fs',44)::Ot) (⟨u,l'.length,atC l',3,1⟩::Gt) (Kw++K) w'):=by
 refine cB (args:=[.pointer (some ⟨RB,0,none⟩),.pointer (some ⟨VB,0,none⟩),.int .i64 (s:Int),f.val]) func94 rfl ntmps94 rfl ?_
 have hS:=hS0
 have hS:=hS.mark0
 obtain ⟨g0,x9,hg0,hx9,hok0⟩:=hV.at_ hs
 rw [hx0] at hx9;cases hx9
 have hll:=hV.len
 have hzz:OkX S (bP S):=lS
 refine aJ (aQ (bR (cs:=[_,_,_,_,_,_]) hS rfl rfl rfl fun B1 W1 hS=>aC rfl rfl (aN (XF.thenN (aJ (aJ (aQ (aE rfl rfl (cM rfl rfl (aO (o':=1) wE rfl rfl rfl (aT isAgg58 rfl (aH (hS.at_ 2 rfl) rfl) rfl (aE rfl rfl (cK (j:=s) underlying58 sizeOf4 rfl rfl (rfl) (hs) rfl rfl (aT isAgg4 rfl (aH (hS.at_ 3 rfl) (Wc hx0)) rfl (fS rfl rfl (aN (XF.thenN (bA rfl (fun hc=>?_) (fun hc=>?_)))))))))))))))))))
 ·have hc17:=hc;clear hc
  have hz:x0=bP S:=by simpa [lG] using hc17
  have h0w:=H0 hS (fun q hq=>by simp [hKv q hq])
  have hxw:=HX hS (fun q hq=>by simp [hKv q hq])
  have hcx:bZ S x0 x=x:=by rw [hz];exact pT hx
  refine aJ (aJ (mK (m:=6) cD hS (by kernel_rfl) (by kernel_rfl) rfl (cJ 1 rfl 0 rfl rfl (fun w hw=>aY rfl) rfl (aZ 2 rfl 18 0 rfl rfl rfl (fun w hw=>cT rfl) rfl (aZ 3 rfl 19 1 rfl rfl rfl (fun w hw=>aV (o':=0) nR rfl rfl) rfl (aZ 4 rfl 20 2 rfl rfl rfl (fun w hw=>aX (vs:=[_,_,_,_,_,_,_,_,_]) isAgg76 sizeOf76 rfl (aB.agree (aK hw 0) (Nat.zero_le _) (aB.own (j:=0) (m:=9) (hS.at_ 1 rfl) rfl))) rfl (cJ 5 rfl 7 rfl rfl (fun w hw=>aX (vs:=[_,_,_,_,_,_]) isAgg44 sizeOf44 rfl (aB.agree (aK hw 0) (Nat.zero_le _) (aB.own (j:=0) (m:=6) (hS.at_ 0 rfl) rfl))) rfl ?_)))))))
  refine aI 6 rfl (isV (.bool (!nzX S x))) (aF _) (cR [isV _,isV _] rfl goes_38 (aR rfl) ⟨bU (aL 3 (aA rfl rfl rfl)),bU (aL 4 (aA rfl rfl rfl)),trivial⟩ (fun vs w' hb hh=>by have e:=cA (us:=[_,_]) hh;subst e;exact (Cw S a.s.f f0 f x w' (h0w.below hb) (hxw.below hb)).mono fun e w2 h=>⟨_,h.1,rfl,h.2⟩) (aD rfl)) ?_
  refine dV ?_
  intro W2 hbR hS'
  clear hS;have hS:=hS';clear hS'
  refine aG (aG (aG (aG (aG (aG (cO (XF.thenN (bA rfl (fun hc=>?_) (fun hc=>?_)))))))))
  ·have hc23:=hc;clear hc
   have hxz:x=bP S:=by simpa [lG] using hc23
   have hee:bZ S x0 x=x0:=by rw [hcx,hxz,hz]
   refine aJ (aQ (aC rfl rfl (aN (XF.thenN (bX (XF.thenR (XF.thenR (XF.res (cQ results94 rfl) ?_))))))))
   have hS9:=hS.tail
   have hxs:xs.set s (bZ S x0 x)=xs:=by rw [hee,Bt hx0]
   refine ⟨v,l,fs,[],?_,?_,?_,?_,by rw [hxs];exact hS9.keep K (fun q hq=>by simp [hq])⟩
   ·rw [nN.2 hee];rfl
   ·exact fun q hq=>by cases hq
   ·rw [hxs];exact hV
   ·exact .inl ⟨hee,rfl⟩
  ·have hc23:=hc;clear hc
   have hnz:x≠bP S:=by simpa [pB] using hc23
   have hnx:nzX S x=true:=pB.2 hnz
   have hne:bZ S x0 x≠x0:=by rw [hcx,hz];exact hnz
   refine bM (XF.thenN (aJ (aQ (aE rfl rfl (cM rfl rfl (aO (o':=1) wE rfl rfl rfl (aT isAgg58 rfl (aH (hS.at_ 2 rfl) rfl) rfl (aE rfl rfl (cK (j:=s) underlying58 sizeOf4 rfl rfl (rfl) (hs) rfl rfl (dS (i:=3) (cs':=(inC S xs).set (0+s * 1) (.bool true)) (O':=_::_::_::_::_::Ot) hS sizeOf4 rfl rfl rfl rfl (inC_lt hx0) rfl rfl fun W4 hS=>?_))))))))))
   have hS:=hS.castO (O':=_::_::_::(IB,inC S (xs.set s x),4)::_::Ot) (by rw [← Oy,hnx])
   refine aN (XF.thenN (aJ (aQ (aE rfl rfl (aE rfl rfl (cM rfl rfl (aO (o':=0) kQ rfl rfl rfl (aT isAgg26 rfl (aH (hS.at_ 2 rfl) rfl) rfl (aE rfl rfl (cN (us:=[(0,.int .i64 _)]) hS underlying26 sizeOf3 zeroValue3 rfl rfl rfl (hQ _) rfl fun B3 W3 hS=>?_))))))))))
   refine mV (i:=0) (news:=[_]) hS underlying26 Hg rfl rfl (by show 0 < 1;decide) rfl rfl rfl rfl rfl (aB.own (j:=0) (m:=1) (hS.at_ 0 rfl) rfl) rfl rfl (by dsimp only;simp only [maxLen];omega) (by dsimp only;show _ * 8≤_;omega) rfl fun v4 W4 hS=>?_
   refine cM rfl rfl (aO (o':=0) kQ rfl rfl rfl (dS (i:=3) (cs':=[_,_,_]) (O':=(_::_::_::_::_::_::Ot)) hS sizeOf26 rfl rfl (by first | rfl | exact (hS.oneV 0 _ rfl :) | exact (hS.oneV 1 _ rfl :) | exact (hS.oneV 2 _ rfl :) | exact (hS.oneV 3 _ rfl :)) rfl rfl rfl rfl fun W5 hS=>aN (XF.thenN (aJ (Oq (ef:=7) (jy:=5) (ca:=pZ (fun _=>[])) (ta:=fun _=>0) (Os:=osY _ 5 (0+s * 6) WB (wC fs) 44) (Gs:=tE _) (al:=[]) (k:=8) (ds:=[]) cD rfl hS rfl (by kernel_rfl) rfl (by decide) rfl rfl rfl rfl (aW 1 rfl rfl (isV _) (fun hNo=>sgV [(1,_)] rfl rfl rfl rfl hNo (aR rfl) ⟨cF rfl,trivial⟩ (fun ev w he hw=>aY rfl) (aD rfl)) (aW 2 rfl rfl (isV _) (fun hNo=>sgV [(40,_)] rfl rfl rfl rfl hNo (aR rfl) ⟨aL 0 (aA rfl rfl rfl),trivial⟩ (fun ev w he hw=>cT rfl) (aD rfl)) (aW 3 rfl rfl (isV _) (fun hNo=>sgV [(41,_)] rfl rfl rfl rfl hNo (aR rfl) ⟨aL 1 (aA rfl rfl rfl),trivial⟩ (fun ev w he hw=>aV (o':=2) nS rfl rfl) (aD rfl)) (aW 4 rfl rfl (isV _) (fun hNo=>sgV [(42,_)] rfl rfl rfl rfl hNo (aR rfl) ⟨aL 2 (aA rfl rfl rfl),trivial⟩ (fun ev w he hw=>bC isAgg42 rfl ((aH (hw.at_ 3 (oM (i:=3) (j:=5) rfl rfl)) rfl))) (aD rfl)) (aW 5 rfl rfl (isV _) (fun hNo=>sgV [(2,_)] rfl rfl rfl rfl hNo (aR rfl) ⟨cF rfl,trivial⟩ (fun ev w he hw=>aY rfl) (aD rfl)) (aW 6 rfl rfl (isV _) (fun hNo=>sgV [(7,_)] rfl rfl rfl rfl hNo (aR rfl) ⟨cF rfl,trivial⟩ (fun ev w he hw=>aX (vs:=[_,_,_,_,_,_]) isAgg44 sizeOf44 rfl ((aB.own (j:=0) (m:=6) (hw.at_ 1 (oM (i:=1) (j:=5) rfl rfl)) rfl))) (aD rfl)) (aW 7 rfl rfl (isV _) (fun hNo=>sgV [(43,_),(44,_)] rfl rfl rfl rfl hNo (aR rfl) ⟨aL 3 (aA rfl rfl rfl),aL 4 (aA rfl rfl rfl),trivial⟩ (fun ev w he hw=>bE (j:=s) underlying42 sizeOf44 rfl rfl (rfl) (hs) rfl) (aD rfl)) ?_))))))))))))
   refine vW 8 rfl (zH (py:=isV _) (m:=6) 5 (0+s * 6) [(46,_)] rfl rfl rfl rfl (by kernel_rfl) rfl rfl (fun j hj=>by rcases hj with h | rfl<;>first | (cases h<;>rfl) | rfl) ⟨aL 6 (aA rfl rfl rfl),trivial⟩ rfl rfl sizeOf44 (fun v w h=>by subst h;exact ⟨_,rfl,rfl,rfl⟩) (wC_le hg0)) ?_
   refine mP ?_
   intro Bf6 y6 W6 Ks6 hsz6 hKs6 hS' hcov6
   clear hS;have hS:=hS'.castO (O':=(_::_::_::_::_::_::Ot)) rfl;clear hS'
   refine tM (L':=[AwS _ _ (isV _),AwS _ _ (isV _),AwS _ _ (isV _),AwS _ _ (isV _),AwS _ _ (isV _),(fun v0_ w0_=>v0_=_∧AwS _ _ (isV _) v0_ w0_),AwS _ _ (isV _),isV _]) rfl (bG (bG (bG (bG (bG ?_)))))
   refine dE ?_;rintro _ ⟨rfl,hA6⟩;have hA6:=hA6.here;cases hA6
   refine bG (I4 (cO (aN (XF.thenN (aJ (aQ (aC rfl rfl (aN (XF.thenN (bX (XF.thenR (XF.res (cQ results94 rfl) ?_))))))))))))
   have hS9:=(hS.tail.tail.castO (O':=_::_::_::(WB,wC (fs.set s f),44)::Ot) (by rw [← Eo (g:=f) hg0];rfl)).castG (G':=⟨_,(l++[s]).length,atC (l++[s]),3,1⟩::Gt) (by rw [show atC (l++[s])=atC l++[Value.int .i64 (s:Int)] by simp [atC],List.length_append];rfl)
   refine ⟨_,l++[s],fs.set s f,[],?_,?_,?_,?_,by rw [hcx];exact hS9.keep K (fun q hq=>by simp [hq])⟩
   ·rw [pD.2 hne];rfl
   ·exact fun q hq=>by cases hq
   ·rw [hcx];exact hV.put hs hx0 (fun q hq=>hq) HX hx hnz (.inr ⟨hz,rfl⟩)
   ·exact .inr (.inr rfl)
 ·have hc17:=hc;clear hc
  have hnz0:x0≠bP S:=by simpa [pB] using hc17
  have hxw:=HX hS (fun q hq=>by simp [hKv q hq])
  have hx0w:=(hV.held s g0 x0 hg0 hx0 hnz0) hS (fun q hq=>by simp [hKv q hq])
  have hsz8:=hS.below.size
  have hq8:w.heap.size≤W1.heap.size:=(hS.kept (w.heap.size,w) (by simp)).1.1
  have hcz:bZ S x0 x≠bP S:=Oz hok hok0 hx hnz0
  have hcok:OkX S (bZ S x0 x):=jG hok hok0 hx
  refine bM (XF.thenN (aJ (regBA (cs:=[_,_,_,_,_,_]) cD 15 14 hS rfl rfl rfl rfl zeroValue44 rfl (by kernel_rfl) (by kernel_rfl) (by kernel_rfl) (fun d hd=>by cases hd) (gD 1 rfl rfl (isV _) (aF _) (agV (li:=[(0,_)]) rfl (aR rfl) ⟨cF rfl,trivial⟩ (fun w hw=>aY rfl) (aD rfl)) (gD 2 rfl rfl (isV _) (aF _) (agV (li:=[(47,_)]) rfl (aR rfl) ⟨aL 0 (aA rfl rfl rfl),trivial⟩ (fun w hw=>cT rfl) (aD rfl)) (gD 3 rfl rfl (isV _) (aF _) (agV (li:=[(48,_)]) rfl (aR rfl) ⟨aL 1 (aA rfl rfl rfl),trivial⟩ (fun w hw=>aV (o':=0) nR rfl rfl) (aD rfl)) (gD 4 rfl rfl (isV _) (aF _) (agV (li:=[(49,_)]) rfl (aR rfl) ⟨aL 2 (aA rfl rfl rfl),trivial⟩ (fun w hw=>aX (vs:=[_,_,_,_,_,_,_,_,_]) isAgg76 sizeOf76 rfl (aB.agree (aK hw 0) (Nat.zero_le _) (aB.own (j:=0) (m:=9) (hS.at_ 1 rfl) rfl))) (aD rfl)) (gD 5 rfl rfl (isV _) (aF _) (agV (li:=[(1,_)]) rfl (aR rfl) ⟨cF rfl,trivial⟩ (fun w hw=>aY rfl) (aD rfl)) (gD 6 rfl rfl (isV _) (aF _) (agV (li:=[(51,_)]) rfl (aR rfl) ⟨aL 4 (aA rfl rfl rfl),trivial⟩ (fun w hw=>cT rfl) (aD rfl)) (gD 7 rfl rfl (isV _) (aF _) (agV (li:=[(52,_)]) rfl (aR rfl) ⟨aL 5 (aA rfl rfl rfl),trivial⟩ (fun w hw=>aV (o':=2) nS rfl rfl) (aD rfl)) (gD 8 rfl rfl (isV _) (aF _) (agV (li:=[(53,_)]) rfl (aR rfl) ⟨aL 6 (aA rfl rfl rfl),trivial⟩ (fun w hw=>bC isAgg42 rfl ((aK hw 0).cell (Nat.zero_le _) (aH (hS.at_ 2 rfl) rfl))) (aD rfl)) (gD 9 rfl rfl (isV _) (aF _) (agV (li:=[(2,_)]) rfl (aR rfl) ⟨cF rfl,trivial⟩ (fun w hw=>aY rfl) (aD rfl)) (gD 10 rfl rfl (isV _) (aF _) (agV (li:=[(54,_),(55,_)]) rfl (aR rfl) ⟨aL 7 (aA rfl rfl rfl),aL 8 (aA rfl rfl rfl),trivial⟩ (fun w hw=>bE (j:=s) underlying42 sizeOf44 rfl rfl (rfl) (hs) rfl) (aD rfl)) (gD 11 rfl rfl (isX S x0) (oZ) (agP (li:=[(56,_)]) rfl (aR rfl) ⟨aL 9 (aA rfl rfl rfl),trivial⟩ (fun w hw=>aX (vs:=[_,_,_,_,_,_]) isAgg44 sizeOf44 rfl (aB.agree (aK hw 0) (Nat.zero_le _) (aB.own (j:=0+s * 6) (m:=6) (hS.at_ 4 rfl) (Jg hg0)))) (fun w hw=>⟨g0,rfl,hx0w.below hw⟩) (aD rfl)) (gD 12 rfl rfl (isX S x) (oZ) (agP (li:=[(7,_)]) rfl (aR rfl) ⟨cF rfl,trivial⟩ (fun w hw=>aX (vs:=[_,_,_,_,_,_]) isAgg44 sizeOf44 rfl (aB.agree (aK hw 0) (Nat.zero_le _) (aB.own (j:=0) (m:=6) (hS.at_ 0 rfl) rfl))) (fun w hw=>⟨f,rfl,hxw.below hw⟩) (aD rfl)) (gD 13 rfl rfl (nJ S [x0,x]) (rW) (Wd rfl (aR rfl) ⟨bU (aL 10 (aA rfl rfl rfl)),bU (aL 11 (aA rfl rfl rfl)),trivial⟩ (aD rfl)) (gD 14 rfl rfl (dH W1.heap.size S (bZ S x0 x)) (dO) (ag_call [isV (jS a.s.f f0),nJ S [x0,x]] rfl On (aR rfl) ⟨bU (aL 3 (aA rfl rfl rfl)),bU (aL 12 (aA rfl rfl rfl)),trivial⟩ (fun vs w' hb hh=>plus2N hh (hsi.below (hS.below.trans (hb.mono hS.below.size))) hok hok0 (ht.below (hS.below.trans (hb.mono hS.below.size))) hb.size) (aD rfl)) (P1 15 rfl rfl (bla_nil ?_)))))))))))))))))))
  intro B7 AB7 W7 hbR hA1 hA2 hBlo hBhi hS'
  clear hS;have hS:=hS';clear hS'
  refine oI (oI (oI (oI (oI (oI (oI (oI (oI (oI ?_)))))))))
  refine dE ?_;intro _ _
  refine dE ?_;intro _ _
  refine dE ?_;intro _ _
  refine dE ?_;rintro _ hn9;obtain ⟨f9,e9,hf9⟩:=hn9.here;subst e9
  refine aG ?_
  obtain ⟨Kw,hKw⟩:∃ k,k=[(W1.heap.size,AB7),(B7+1,W7)]:=⟨_,rfl⟩
  have hnw:∀ q∈Kw,w.heap.size≤q.1:=fun q hq=>by
   rw [hKw] at hq
   simp only [List.mem_cons,List.not_mem_nil,or_false] at hq
   rcases hq with rfl | rfl
   ·exact hq8
   ·dsimp only;omega
  have HX9:mE w0 (Kw++Kv) (fun W2=>XIs W2 S f9 (bZ S x0 x)):=fun h2 hk=>(newOff hn9 hf9 hbR.size (P0 hA1 hA2 (h2.kept (W1.heap.size,AB7) (hk _ (by rw [hKw];simp))).1 (h2.kept (B7+1,W7) (hk _ (by rw [hKw];simp))).1)).is
  refine cO (aU (i:=0) (vs:=[_,_,_,_,_,_]) (cs':=[_,_,_,_,_,_]) (O':=(_::_::_::_::_::_::Ot)) hS sizeOf44 rfl rfl rfl rfl rfl rfl rfl fun W8 hS=>aN (XF.thenN (aJ (aJ ?_))))
  have hx9w:=HX9 hS (fun q hq=>by
   rw [hKw] at hq
   simp only [List.cons_append,List.nil_append,List.mem_cons] at hq
   rcases hq with rfl | rfl | hq
   ·simp
   ·simp
   ·simp [hKv q hq])
  have hx0v:=(hV.held s g0 x0 hg0 hx0 hnz0) hS (fun q hq=>by simp [hKv q hq])
  refine mK (m:=9) cD hS (by kernel_rfl) (by kernel_rfl) rfl (cJ 1 rfl 9 rfl rfl (fun w hw=>aX (vs:=[_,_,_,_,_,_]) isAgg44 sizeOf44 rfl (aB.agree (aK hw 0) (Nat.zero_le _) (aB.own (j:=0) (m:=6) (hS.at_ 0 rfl) rfl))) rfl (cJ 2 rfl 1 rfl rfl (fun w hw=>aY rfl) rfl (aZ 3 rfl 62 1 rfl rfl rfl (fun w hw=>cT rfl) rfl (aZ 4 rfl 63 2 rfl rfl rfl (fun w hw=>aV (o':=2) nS rfl rfl) rfl (aZ 5 rfl 64 3 rfl rfl rfl (fun w hw=>bC isAgg42 rfl ((aK hw 0).cell (Nat.zero_le _) (aH (hS.at_ 3 rfl) rfl))) rfl (cJ 6 rfl 2 rfl rfl (fun w hw=>aY rfl) rfl (aI 7 rfl (isV _) (aF _) (rgV (li:=[(65,_),(66,_)]) rfl (aR rfl) ⟨aL 4 (aA rfl rfl rfl),aL 5 (aA rfl rfl rfl),trivial⟩ (fun w hw=>bE (j:=s) underlying42 sizeOf44 rfl rfl (rfl) (hs) rfl) (aD rfl)) (aZ 8 rfl 67 6 rfl rfl rfl (fun w hw=>aX (vs:=[_,_,_,_,_,_]) isAgg44 sizeOf44 rfl (aB.agree (aK hw 0) (Nat.zero_le _) (aB.own (j:=0+s * 6) (m:=6) (hS.at_ 5 rfl) (Jg hg0)))) rfl ?_))))))))
  refine aI 9 rfl (isV (.bool (eqX (bZ S x0 x) x0))) (aF _) (cR [isV _,isV _] rfl E2 (aR rfl) ⟨bU (aL 0 (aA rfl rfl rfl)),bU (aL 7 (aA rfl rfl rfl)),trivial⟩ (fun vs w' hb hh=>by have e:=cA (us:=[_,_]) hh;subst e;exact (I9 (hx9w.below hb) (hx0v.below hb) (eqX (bZ S x0 x) x0) nN).mono fun e w2 h=>⟨_,h.1,rfl,h.2⟩) (aD rfl)) ?_
  refine dV ?_
  intro W9 hbR hS'
  clear hS;have hS:=hS';clear hS'
  refine aG (aG (aG (aG (aG (aG (aG (aG (aG (cO (XF.thenN (bA rfl (fun hc=>?_) (fun hc=>?_))))))))))))
  ·have hc69:=hc;clear hc
   have hee:bZ S x0 x=x0:=nN.1 hc69
   refine aJ (aQ (aC rfl rfl (aN (XF.thenN (bX (XF.thenR (XF.res (cQ results94 rfl) ?_)))))))
   have hS9:=hS.tail.tail
   have hxs:xs.set s (bZ S x0 x)=xs:=by rw [hee,Bt hx0]
   refine ⟨v,l,fs,[],?_,?_,?_,?_,by rw [hxs];exact hS9.keep K (fun q hq=>by simp [hq])⟩
   ·rw [nN.2 hee];rfl
   ·exact fun q hq=>by cases hq
   ·rw [hxs];exact hV
   ·exact .inl ⟨hee,rfl⟩
  ·have hc69:=hc;clear hc
   have hne:bZ S x0 x≠x0:=pD.1 hc69
   refine bM (XF.thenN (aJ (Oq (ef:=7) (jy:=5) (ca:=pZ (fun _=>[])) (ta:=fun _=>0) (Os:=osY _ 5 (0+s * 6) WB (wC fs) 44) (Gs:=tE _) (al:=[]) (k:=8) (ds:=[]) cD rfl hS rfl (by kernel_rfl) rfl (by decide) rfl rfl rfl rfl (aW 1 rfl rfl (isV _) (fun hNo=>sgV [(1,_)] rfl rfl rfl rfl hNo (aR rfl) ⟨cF rfl,trivial⟩ (fun ev w he hw=>aY rfl) (aD rfl)) (aW 2 rfl rfl (isV _) (fun hNo=>sgV [(70,_)] rfl rfl rfl rfl hNo (aR rfl) ⟨aL 0 (aA rfl rfl rfl),trivial⟩ (fun ev w he hw=>cT rfl) (aD rfl)) (aW 3 rfl rfl (isV _) (fun hNo=>sgV [(71,_)] rfl rfl rfl rfl hNo (aR rfl) ⟨aL 1 (aA rfl rfl rfl),trivial⟩ (fun ev w he hw=>aV (o':=2) nS rfl rfl) (aD rfl)) (aW 4 rfl rfl (isV _) (fun hNo=>sgV [(72,_)] rfl rfl rfl rfl hNo (aR rfl) ⟨aL 2 (aA rfl rfl rfl),trivial⟩ (fun ev w he hw=>bC isAgg42 rfl ((aH (hw.at_ 3 (oM (i:=3) (j:=5) rfl rfl)) rfl))) (aD rfl)) (aW 5 rfl rfl (isV _) (fun hNo=>sgV [(2,_)] rfl rfl rfl rfl hNo (aR rfl) ⟨cF rfl,trivial⟩ (fun ev w he hw=>aY rfl) (aD rfl)) (aW 6 rfl rfl (isV _) (fun hNo=>sgV [(9,_)] rfl rfl rfl rfl hNo (aR rfl) ⟨cF rfl,trivial⟩ (fun ev w he hw=>aX (vs:=[_,_,_,_,_,_]) isAgg44 sizeOf44 rfl ((aB.own (j:=0) (m:=6) (hw.at_ 0 (oM (i:=0) (j:=5) rfl rfl)) rfl))) (aD rfl)) (aW 7 rfl rfl (isV _) (fun hNo=>sgV [(73,_),(74,_)] rfl rfl rfl rfl hNo (aR rfl) ⟨aL 3 (aA rfl rfl rfl),aL 4 (aA rfl rfl rfl),trivial⟩ (fun ev w he hw=>bE (j:=s) underlying42 sizeOf44 rfl rfl (rfl) (hs) rfl) (aD rfl)) ?_))))))))))
   refine vW 8 rfl (zH (py:=isV _) (m:=6) 5 (0+s * 6) [(76,_)] rfl rfl rfl rfl (by kernel_rfl) rfl rfl (fun j hj=>by rcases hj with h | rfl<;>first | (cases h<;>rfl) | rfl) ⟨aL 6 (aA rfl rfl rfl),trivial⟩ rfl rfl sizeOf44 (fun v w h=>by subst h;exact ⟨_,rfl,rfl,rfl⟩) (wC_le hg0)) ?_
   refine mP ?_
   intro Bf10 y10 W10 Ks10 hsz10 hKs10 hS' hcov10
   clear hS;have hS:=hS'.castO (O':=(_::_::_::_::_::_::Ot)) rfl;clear hS'
   refine tM (L':=[AwS _ _ (isV _),AwS _ _ (isV _),AwS _ _ (isV _),AwS _ _ (isV _),AwS _ _ (isV _),(fun v0_ w0_=>v0_=_∧AwS _ _ (isV _) v0_ w0_),AwS _ _ (isV _),isV _]) rfl (bG (bG (bG (bG (bG ?_)))))
   refine dE ?_;rintro _ ⟨rfl,hA10⟩;have hA10:=hA10.here;cases hA10
   refine bG (I4 (cO (aN (XF.thenN (aJ (aQ (aC rfl rfl (aN (XF.thenN (bX (XF.res (cQ results94 rfl) ?_)))))))))))
   have hin9:inC S (xs.set s (bZ S x0 x))=inC S xs:=by rw [← Oy,pB.2 hcz,Nat.zero_add,Nat.mul_one];exact Rq (by rw [List.getElem?_map,hx0];show some (Value.bool (nzX S x0))=_;rw [pB.2 hnz0])
   have hS9:=hS.tail.tail.castO (O':=_::_::_::(WB,wC (fs.set s f9),44)::Ot) (by rw [← Eo (g:=f9) hg0];rfl)
   refine ⟨v,l,fs.set s f9,Kw,?_,?_,?_,?_,by rw [hin9];exact hS9.keep (Kw++K) (fun q hq=>by
    rw [hKw] at hq
    simp only [List.cons_append,List.nil_append,List.mem_cons] at hq
    rcases hq with rfl | rfl | hq
    ·simp
    ·simp
    ·simp [hq])⟩
   ·rw [pD.2 hne];rfl
   ·exact hnw
   ·exact hV.put hs hx0 (fun q hq=>List.mem_append_right _ hq) HX9 hcok hcz (.inl ⟨hnz0,rfl⟩)
   ·exact .inr (.inl rfl)
theorem We (w:World) (b o:Nat):(Instr.fieldAt 109 (.pointer (some ⟨b,o,none⟩)) 2).run prog w = .ok (.pointer (some ⟨b,o+16,none⟩)) w:=by
 simp [Instr.fieldAt,run_underlying underlying109,Instr.sureAddr,go_sem,Addr.add_lit]
theorem Ep (S:PS) (a:AV) (f0:WF) (bk:Bool) (bm VA VX RB:Nat) (f g:WF) (x y:PX) (tf tg tt:Int) (w:World) (hrb:w.heap[RB]?=some (.cells (rdC f0 a bk bm VA VX).toArray 109 (0,0))) (hsi:SIs w S a.s.f) (hok:S.ok) (ht:Tabs w) (hx:XIs w S f x) (hy:XIs w S g y) :
  Calls prog 66 #[.pointer (some ⟨RB,0,none⟩),f.val,.agg #[.int .i64 tf,.int .i64 tg,.int .i64 tt,.bool g.z,.int .i64 g.c,.int .u64 (g.g:Int),.slice g.ra g.rl g.rc,.slice g.ca g.cl g.cc,.slice g.pa g.pl g.pc]] w (gH S (jX S bk x y) w):=by
 refine cB (args:=[.pointer (some ⟨RB,0,none⟩),f.val,.agg #[.int .i64 tf,.int .i64 tg,.int .i64 tt,.bool g.z,.int .i64 g.c,.int .u64 (g.g:Int),.slice g.ra g.rl g.rc,.slice g.ca g.cl g.cc,.slice g.pa g.pl g.pc]]) func66 rfl ntmps66 rfl ?_
 have hS:=St.start w
 refine aJ (aQ (bR (cs:=[_,_,_,_,_,_]) hS rfl rfl rfl fun B1 W1 hS=>bR (cs:=[_,_,_,_,_,_,_,_,_]) hS rfl rfl rfl fun B2 W2 hS=>bB (cs:=[_,_,_,_,_,_]) hS zeroValue44 rfl rfl fun B3 W3 hS=>aN (XF.thenN (aJ (aJ ?_)))))
 have hring:=aB.own (j:=0) (m:=9) (vs:=[.int .i64 a.s.f.tag,.int .i64 a.s.f.dim,.slice a.s.f.a a.s.f.len a.s.f.cap,.bool f0.z,.int .i64 f0.c,.int .u64 (f0.g:Int),.slice f0.ra f0.rl f0.rc,.slice f0.ca f0.cl f0.cc,.slice f0.pa f0.pl f0.pc]) hrb rfl
 have hbk0:=aH (j:=16) hrb rfl
 have hsz:=hS.below.size
 refine aQ (aE rfl rfl (cM rfl rfl (aO We rfl rfl rfl (aT isAgg4 rfl (hS.old hbk0) rfl (aN (XF.thenN (bA rfl (fun hc=>?_) (fun hc=>?_))))))))
 ·have hc10:=hc;clear hc
  refine aJ ?_
  have hxw:=hx.below hS.below
  have hyw:=hy.below hS.below
  have k9:=aB.agree hS.agree (Nat.zero_le _) hring
  refine tG cD 9 hS rfl rfl (by kernel_rfl) (by kernel_rfl) (by kernel_rfl) (fun d hd=>by cases hd) (cJ 1 rfl 0 rfl rfl (fun w hw=>aY rfl) rfl (aZ 2 rfl 11 0 rfl rfl rfl (fun w hw=>cT rfl) rfl (aZ 3 rfl 12 1 rfl rfl rfl (fun w hw=>aV nR rfl (Nat.add_zero _)) rfl (aZ 4 rfl 13 2 rfl rfl rfl (fun w hw=>aX (vs:=[_,_,_,_,_,_,_,_,_]) isAgg76 sizeOf76 rfl (aB.agree (aK hw 0) (Nat.zero_le _) (k9))) rfl (cJ 5 rfl 5 rfl rfl (fun w hw=>aV (o':=3) sW rfl rfl) rfl (aI 6 rfl (isX S y) (oZ) (rgP (li:=[(15,_)]) rfl (aR rfl) ⟨aL 4 (aA rfl rfl rfl),trivial⟩ (fun w hw=>aX (vs:=[_,_,_,_,_,_]) isAgg44 sizeOf44 rfl (aB.agree (aK hw 0) (Nat.zero_le _) (aB.own (j:=3) (m:=6) (hS.at_ 1 rfl) rfl))) (fun w hw=>⟨g,rfl,hyw.below hw⟩) (aD rfl)) (aI 7 rfl (isX S x) (oZ) (rgP (li:=[(4,_)]) rfl (aR rfl) ⟨cF rfl,trivial⟩ (fun w hw=>aX (vs:=[_,_,_,_,_,_]) isAgg44 sizeOf44 rfl (aB.agree (aK hw 0) (Nat.zero_le _) (aB.own (j:=0) (m:=6) (hS.at_ 2 rfl) rfl))) (fun w hw=>⟨f,rfl,hxw.below hw⟩) (aD rfl)) (aI 8 rfl (nJ S [y,x]) (rW) (I6 rfl (aR rfl) ⟨bU (aL 5 (aA rfl rfl rfl)),bU (aL 6 (aA rfl rfl rfl)),trivial⟩ (aD rfl)) (aI 9 rfl (dH W3.heap.size S (iW S y x)) (dO) (cR [isV (jS a.s.f f0),nJ S [y,x]] rfl Nm (aR rfl) ⟨bU (aL 3 (aA rfl rfl rfl)),bU (aL 7 (aA rfl rfl rfl)),trivial⟩ (fun vs w' hb hh=>Vp hh (hsi.below (hS.below.trans (hb.mono hS.below.size))) hok (ht.below (hS.below.trans (hb.mono hS.below.size))) hb.size) (aD rfl)) (dV ?_))))))))))
  intro W4 hbR hS'
  clear hS;have hS:=hS';clear hS'
  refine aG (aG (aG (aG (aG ?_))))
  refine dE ?_;rintro _ _
  refine dE ?_;rintro _ _
  refine dE ?_;rintro _ _
  refine dE ?_;rintro _ ⟨f2,rfl,hn2⟩
  refine cO (aU (i:=0) (vs:=[_,_,_,_,_,_]) (cs':=[_,_,_,_,_,_]) (O':=[_,_,_]) hS sizeOf44 rfl rfl rfl rfl rfl rfl rfl fun W5 hS=>aN (XF.thenN (bX (XF.thenR (XF.res (dJ (vs:=[_,_,_,_,_,_]) results66 isAgg44 sizeOf44 rfl (aB.own (j:=0) (m:=6) (hS.at_ 0 rfl) rfl)) ?_)))))
  have e9:bk=true:=hc10
  subst e9
  exact ⟨f2,rfl,(hn2.agree (hS.since 0 rfl)).mono (by simpa using hsz),hS.below⟩
 ·have hc10:=hc;clear hc
  refine bM (XF.thenN (aJ ?_))
  have hxw:=hx.below hS.below
  have hyw:=hy.below hS.below
  have k9:=aB.agree hS.agree (Nat.zero_le _) hring
  refine tG cD 9 hS rfl rfl (by kernel_rfl) (by kernel_rfl) (by kernel_rfl) (fun d hd=>by cases hd) (cJ 1 rfl 0 rfl rfl (fun w hw=>aY rfl) rfl (aZ 2 rfl 20 0 rfl rfl rfl (fun w hw=>cT rfl) rfl (aZ 3 rfl 21 1 rfl rfl rfl (fun w hw=>aV nR rfl (Nat.add_zero _)) rfl (aZ 4 rfl 22 2 rfl rfl rfl (fun w hw=>aX (vs:=[_,_,_,_,_,_,_,_,_]) isAgg76 sizeOf76 rfl (aB.agree (aK hw 0) (Nat.zero_le _) (k9))) rfl (aI 5 rfl (isX S x) (oZ) (rgP (li:=[(4,_)]) rfl (aR rfl) ⟨cF rfl,trivial⟩ (fun w hw=>aX (vs:=[_,_,_,_,_,_]) isAgg44 sizeOf44 rfl (aB.agree (aK hw 0) (Nat.zero_le _) (aB.own (j:=0) (m:=6) (hS.at_ 2 rfl) rfl))) (fun w hw=>⟨f,rfl,hxw.below hw⟩) (aD rfl)) (cJ 6 rfl 5 rfl rfl (fun w hw=>aV (o':=3) sW rfl rfl) rfl (aI 7 rfl (isX S y) (oZ) (rgP (li:=[(25,_)]) rfl (aR rfl) ⟨aL 5 (aA rfl rfl rfl),trivial⟩ (fun w hw=>aX (vs:=[_,_,_,_,_,_]) isAgg44 sizeOf44 rfl (aB.agree (aK hw 0) (Nat.zero_le _) (aB.own (j:=3) (m:=6) (hS.at_ 1 rfl) rfl))) (fun w hw=>⟨g,rfl,hyw.below hw⟩) (aD rfl)) (aI 8 rfl (nJ S [x,y]) (rW) (I6 rfl (aR rfl) ⟨bU (aL 4 (aA rfl rfl rfl)),bU (aL 6 (aA rfl rfl rfl)),trivial⟩ (aD rfl)) (aI 9 rfl (dH W3.heap.size S (iW S x y)) (dO) (cR [isV (jS a.s.f f0),nJ S [x,y]] rfl Nm (aR rfl) ⟨bU (aL 3 (aA rfl rfl rfl)),bU (aL 7 (aA rfl rfl rfl)),trivial⟩ (fun vs w' hb hh=>Vp hh (hsi.below (hS.below.trans (hb.mono hS.below.size))) hok (ht.below (hS.below.trans (hb.mono hS.below.size))) hb.size) (aD rfl)) (dV ?_))))))))))
  intro W6 hbR hS'
  clear hS;have hS:=hS';clear hS'
  refine aG (aG (aG (aG ?_)))
  refine dE ?_;rintro _ _
  refine aG ?_
  refine dE ?_;rintro _ _
  refine dE ?_;rintro _ _
  refine dE ?_;rintro _ ⟨f2,rfl,hn2⟩
  refine cO (aU (i:=0) (vs:=[_,_,_,_,_,_]) (cs':=[_,_,_,_,_,_]) (O':=[_,_,_]) hS sizeOf44 rfl rfl rfl rfl rfl rfl rfl fun W7 hS=>aN (XF.thenN (bX (XF.res (dJ (vs:=[_,_,_,_,_,_]) results66 isAgg44 sizeOf44 rfl (aB.own (j:=0) (m:=6) (hS.at_ 0 rfl) rfl)) ?_))))
  have e9:bk=false:=hc10
  subst e9
  exact ⟨f2,rfl,(hn2.agree (hS.since 0 rfl)).mono (by simpa using hsz),hS.below⟩
theorem slNil {w:World} {base n size:Nat} {e:TypeId} {a:Option Addr} {c:Nat} {xs:List Value} (h:w.ownsRow base e size (.slice a n c) n xs):(a=none∧n=0∧c=0)∨∃ b,a=some ⟨b,0,none⟩:=by
 rcases h.2 with ⟨e1,e2⟩ | ⟨g,cap,cur,e1,_⟩
 ·cases e1;exact .inl ⟨rfl,rfl,rfl⟩
 ·cases e1;exact .inr ⟨_,rfl⟩
theorem jU {w:World} {base n:Nat} {e:TypeId} {a:Option Addr} {c i:Nat} {xs:List Value} {x:Value} (h:w.ownsRow base e 1 (.slice a n c) n xs) (hi:xs[i]?=some x):∃ b,a=some ⟨b,0,none⟩∧w.cell? ⟨b,0+i * 1,none⟩=some x:=by
 rcases Ct h with ⟨h1,h0⟩ | ⟨b,h1,_,h3⟩
 ·have h4:=h.1
  have:=(List.getElem?_eq_some_iff.1 hi).1
  omega
 ·exact ⟨b,h1,by rw [Nat.zero_add,Nat.mul_one];exact h3 i x hi⟩
theorem Jh (S:PS) (VB IB WB n:Nat) (v:Value) (fs:List WF) (xs:List PX) (l:List Nat) (Ot:Own) (Gt:cU) (K:List (Nat×World)) (w0:World) (w:World) (hS0:St w0 ((VB,gU v n IB WB,139)::(IB,inC S xs,4)::(WB,wC fs,44)::Ot) (⟨v,l.length,atC l,3,1⟩::Gt) K w) (hV:VecOk S w0 K n fs xs l) (hn:n≤4096) :
  Calls prog 95 #[.pointer (some ⟨VB,0,none⟩)] w (fun e w'=>∃ (u:Value),e = .returned (.tuple #[])∧VecOk S w0 K n fs (List.replicate n (bP S)) []∧St w0 ((VB,gU u n IB WB,139)::(IB,inC S (List.replicate n (bP S)),4)::(WB,wC fs,44)::Ot) (⟨u,([]:List Nat).length,atC [],3,1⟩::Gt) K w'):=by
 refine cB (args:=[.pointer (some ⟨VB,0,none⟩)]) func95 rfl ntmps95 rfl ?_
 have hS:=hS0
 have hll:=hV.len
 obtain ⟨va,vc,rfl⟩:=hS.headSl
 refine aJ (aJ (aQ (aE rfl rfl (cM rfl rfl (aO (o':=0) kQ rfl rfl rfl (aT isAgg26 rfl (aH (hS.at_ 0 rfl) rfl) rfl (cX underlying26 rfl rfl (aE rfl rfl (aN (XF.thenN (bQ ?_)))))))))))
 refine eI (fun m lf W=>∃ (i:Nat) (bs:List Bool),i≤l.length∧m=l.length - i∧lf=[(0,.pointer (some ⟨VB,0,none⟩)),(7,.slice va l.length vc),(8,.int .i64 (l.length:Int)),(9,.int .i64 (i:Int))]∧bs.length=n∧(∀ (j:Nat) (b:Bool),bs[j]?=some b→b=(nzX S (xs.getD j (bP S)) && !(l.take i).contains j))∧St w0 ((VB,gU (.slice va l.length vc) n IB WB,139)::(IB,bs.map Value.bool,4)::(WB,wC fs,44)::Ot) (⟨.slice va l.length vc,l.length,atC l,3,1⟩::Gt) K W) (l.length - 0) ([(0,_),(7,_),(8,_),(9,_)]) ⟨rfl,rfl,rfl,rfl,trivial⟩ (⟨0,xs.map (nzX S),Nat.zero_le _,rfl,rfl,by rw [List.length_map];exact hV.xl,(fun j b hb=>by
  rw [List.getElem?_map] at hb
  cases hx:xs[j]? with
  | none=>rw [hx] at hb;cases hb
  | some x=>rw [hx] at hb;cases hb;simp [List.getD_eq_getElem?_getD,hx]),hS.castO (by rw [List.map_map];rfl)⟩) ?_
 clear hS
 rintro m lf W ⟨i,bs,hi,rfl,rfl,hbl,hbs,hS⟩
 refine aJ (aQ (cY rfl rfl rfl (aN (XF.thenN (aJ (bA rfl (fun hc=>?_) (fun hc=>?_)))))))
 ·have hc10:=of_decide_eq_true hc;clear hc
  have hk:i < l.length:=by omega
  obtain ⟨y,hy⟩:∃ y,l[i]?=some y:=⟨l[i],List.getElem?_eq_getElem hk⟩
  obtain ⟨xy,hxy,hxz⟩:=(hV.ats y).1 (List.mem_of_getElem? hy)
  have hyn:y < n:=by have:=(List.getElem?_eq_some_iff.1 hxy).1;rw [hV.xl] at this;exact this
  obtain ⟨b9,rfl,k9⟩:=jU (hS.row 0 rfl) (show (atC l)[i]?=some (.int .i64 (y:Int)) by rw [List.getElem?_map,hy];rfl)
  refine bM (XF.thenN (aJ (bQ (aJ (aQ (cK  underlying26 sizeOf3 rfl rfl rfl (by omega) rfl rfl (aT isAgg3 rfl (k9) rfl (aC rfl rfl (aN (XF.thenN (aQ (aE rfl rfl (cM rfl rfl (aO (o':=1) wE rfl rfl rfl (aT isAgg58 rfl (aH (hS.at_ 0 rfl) rfl) rfl (aE rfl rfl (cK (j:=y) underlying58 sizeOf4 rfl rfl (rfl) (hyn) rfl rfl ?_)))))))))))))))))
  refine dS (i:=1) (cs':=(bs.map Value.bool).set (0+y * 1) (.bool false)) (O':=_::_::_::Ot) hS sizeOf4 rfl rfl rfl rfl (by rw [Nat.blt_eq,List.length_map,hbl];omega) rfl rfl fun W4 hS=>?_
  refine aN (XF.blkN (XF.thenN (aQ (cZ rfl rfl (IntWalk.i64_in _ (by omega)) rfl (aE rfl rfl (aN ?_))))))
  exact XF.round (l.length - (i+1)) [(0,_),(7,_),(8,_),(9,_)] (by omega) ⟨rfl,rfl,rfl,rfl,trivial⟩ ⟨i+1,bs.set y false,by omega,rfl,rfl,by rw [List.length_set];exact hbl,(fun j b hb=>by
   rw [List.take_add_one,hy]
   rcases Nat.decEq j y with e | rfl
   ·rw [List.getElem?_set_ne (Ne.symm e)] at hb
    rw [hbs j b hb]
    simp [e]
   ·rw [List.getElem?_set_self (by rw [hbl];exact hyn)] at hb
    cases hb
    simp),hS.castO (by rw [Nat.zero_add,Nat.mul_one,List.map_set])⟩
 ·have hc10:=of_decide_eq_false hc;clear hc
  have hbz:bs=List.replicate n false:=by
   apply List.ext_getElem?
   intro j
   rw [List.take_of_length_le (by omega)] at hbs
   rcases Nat.lt_or_ge j n with hj | hj
   ·have h1:j < bs.length:=by omega
    have h2:=hbs j bs[j] (List.getElem?_eq_getElem h1)
    rw [List.getElem?_eq_getElem h1,h2,List.getElem?_replicate,if_pos hj]
    congr 1
    obtain ⟨f9,x9,_,hx9,_⟩:=hV.at_ hj
    rw [List.getD_eq_getElem?_getD,hx9]
    by_cases hz:x9=bP S
    ·simp [lG.2 hz]
    ·have:j∈l:=(hV.ats j).2 ⟨x9,hx9,hz⟩
     simp [this]
   ·rw [List.getElem?_eq_none (by omega),List.getElem?_replicate,if_neg (by omega)]
  subst hbz
  have hinz:inC S (List.replicate n (bP S))=(List.replicate n false).map Value.bool:=by simp [inC,lG.2 rfl]
  refine eF (XF.thenX (XF.thenX (XF.blkX (XF.thenN ?_))))
  rcases slNil (hS.row 0 rfl) with ⟨h1,h2,h3⟩ | ⟨b5,h1⟩
  ·obtain rfl:=h1
   obtain rfl:l=[]:=List.eq_nil_of_length_eq_zero h2
   obtain rfl:=h3
   refine aQ (aE rfl rfl (aE rfl rfl (cM rfl rfl (aO (o':=0) kQ rfl rfl rfl (aT isAgg26 rfl (aH (hS.at_ 0 rfl) rfl) rfl (Ri underlying26 sizeOf3 rfl rfl rfl rfl (cM rfl rfl (aO (o':=0) kQ rfl rfl rfl (dS (i:=0) (cs':=[_,_,_]) (O':=(_::_::_::Ot)) hS sizeOf26 rfl rfl (by first | rfl | exact (hS.oneV 0 _ rfl :) | exact (hS.oneV 1 _ rfl :) | exact (hS.oneV 2 _ rfl :) | exact (hS.oneV 3 _ rfl :)) rfl rfl rfl rfl fun W1 hS=>aN (XF.resN (Km results95) ?_))))))))))
   have hS9:=(hS.castO (O':=_::(IB,inC S (List.replicate n (bP S)),4)::_::Ot) (by rw [hinz])).castG (G':=⟨_,([]:List Nat).length,atC [],3,1⟩::Gt) rfl
   exact ⟨_,rfl,VecOk.emptied hV.fl,hS9⟩
  ·obtain rfl:=h1
   refine aQ (aE rfl rfl (aE rfl rfl (cM rfl rfl (aO (o':=0) kQ rfl rfl rfl (aT isAgg26 rfl (aH (hS.at_ 0 rfl) rfl) rfl (op_cut (k:=0) hS 0 underlying26 sizeOf3 rfl rfl rfl (rfl) (Nat.zero_le _) rfl ?_))))))
   intro hS';clear hS;have hS:=hS';clear hS'
   refine cM rfl rfl (aO (o':=0) kQ rfl rfl rfl (dS (i:=0) (cs':=[_,_,_]) (O':=(_::_::_::Ot)) hS sizeOf26 rfl rfl (by first | rfl | exact (hS.oneV 0 _ rfl :) | exact (hS.oneV 1 _ rfl :) | exact (hS.oneV 2 _ rfl :) | exact (hS.oneV 3 _ rfl :)) rfl rfl rfl rfl fun W2 hS=>aN (XF.resN (Km results95) ?_)))
   have hS9:=(hS.castO (O':=_::(IB,inC S (List.replicate n (bP S)),4)::_::Ot) (by rw [hinz])).castG (G':=⟨_,([]:List Nat).length,atC [],3,1⟩::Gt) rfl
   exact ⟨_,rfl,VecOk.emptied hV.fl,hS9⟩
section
variable {P:Program} {ops:Array Oper} {Q:Exit→Act→World→Prop} {n:Nat} {l:Fr} {W:World} {L:List Asr} {i:Nat}
variable {d:Nat} {op:Op} {ty:TypeId} {pos:String} {aft_:Array Edge}
theorem Gl (ds:List (Nat×Nat×Asr)) (hi:ops[i]?=some ⟨some d,op,ty,pos,aft_,none⟩) {q:Asr} (hds:V4 ops L i ds)
  (hr:∀ (ev:Operand→Value) w,Below W.heap.size W w→V3 ds ev w→∃ v w',(execOp ev ⟨some d,op,ty,pos,#[],none⟩).run P w = .ok (.value v) w'∧q v w'∧Below w.heap.size w w') (hI:atI L i=q):RG P n ops Q l W L i :=
 fun a ha=>qV hi (aR rfl) fun b w hF hG hD=>by
  have key:∀ (ds:List (Nat×Nat×Asr)),V4 ops L i ds→V3 ds b.eval w:=by
   intro ds
   induction ds with
   | nil=>intro _;trivial
   | cons x xs ih =>
    intro h
    refine ⟨?_,ih h.2⟩
    have h1:=hD x.1 x.2.1 h.1.1
    rw [h.1.2] at h1
    exact h1
  obtain ⟨v,w',h2,h3,h4⟩:=hr b.eval w hG (key ds hds)
  exact ⟨v,w',by rw [fI b.eval _ _ _ _ pos _ #[] _ none];exact h2,by rw [hI];exact h3,h4⟩
end
def xO (lo m:Nat) (e:TypeId) (cs:List Value):Asr:=fun v w=>∃ B,v = .slice (some ⟨B,0,none⟩) m m∧lo≤B∧w.heap[B]?=some (.cells cs.toArray e (0,0))
theorem yE {lo m:Nat} {e:TypeId} {cs:List Value}:iZ (xO lo m e cs):=fun v w w' ⟨B,h1,h2,h3⟩ hb=>⟨B,h1,h2,(hb.block B (bY h3)).trans h3⟩
theorem Ji {P:Program} {W:World} {T e:TypeId} {inf:TypeInfo} {z:Value} {m d:Nat} {cs:List Value} {x y:Operand} {ty:TypeId} {pos:String} {ev:Operand→Value} (hU:P.underlying T=some (.slice e)) (hinf:P.info? e=some inf) (hz:inf.zero=some z) (hx:ev x = .int .i64 (m:Int)) (hy:ev y = .int .i64 (m:Int))
  (hcs:madeCells z.cells (m * inf.size)=cs.toArray) (hb:(inf.bytes:Int) * m≤281474976710656) (h63:(m:Int)≤9223372036854775807) {lo:Nat} (hlo:lo≤W.heap.size):∃ v w',(execOp ev ⟨some d,.makeSlice T x y,ty,pos,#[],none⟩).run P W = .ok (.value v) w'∧xO lo m e cs v w'∧Below W.heap.size W w':=by
 have hr:=run_make (P:=P) W T e inf z hU hinf hz .i64 .i64 m m (by omega) (by omega) hb h63
 rw [Int.toNat_natCast,hcs] at hr
 refine ⟨.slice (some ⟨W.heap.size,0,none⟩) m m,W.alloc (.cells cs.toArray e),?_,⟨W.heap.size,rfl,hlo,heap_alloc_new W _⟩,(Below.refl _ _).alloc (Nat.le_refl _) _⟩
 unfold execOp;simp only [];rw [hx,hy]
 simp [hr,Result.andThen]
theorem St.adoptL {w0 W W':World} {O N:Own} {G:cU} {K:List (Nat×World)} (h:St w0 O G K W) (h':St w0 O G K W') (hN:∀ p∈N,W.heap.size≤p.1∧W'.heap[p.1]?=some (.cells p.2.1.toArray p.2.2 (0,0))) (hd:N.Pairwise (fun p q=>p.1≠q.1)):St w0 (N++O) G K W' where
 below:=h'.below
 own:=fun p hp=>by
  rcases List.mem_append.1 hp with hp | hp
  ·exact ⟨Nat.le_trans h.below.size (hN p hp).1,(hN p hp).2⟩
  ·exact h'.own p hp
 dist:=by
  rw [List.pairwise_append]
  refine ⟨hd,h'.dist,fun p hp q hq e=>?_⟩
  have h1:=(hN p hp).1
  have h2:=bY (h.own q hq).2
  omega
 kept:=fun q hq=>⟨(h'.kept q hq).1,fun p hp=>by
  rcases List.mem_append.1 hp with hp | hp
  ·exact .inr (Nat.le_trans (h.kept q hq).1.1 (hN p hp).1)
  ·exact (h'.kept q hq).2 p hp⟩
 rows:=fun g hg=>⟨(h'.rows g hg).1,fun b hb=>⟨fun p hp=>by
  rcases List.mem_append.1 hp with hp | hp
  ·have h1:=(hN p hp).1
   have h2:=((h.rows g hg).1.lt b hb).2
   omega
  ·exact ((h'.rows g hg).2 b hb).1 p hp,((h'.rows g hg).2 b hb).2⟩⟩
 gdist:=h'.gdist
theorem Jj (v1a:Option Addr) (v1l:Nat) (v1c:Nat) (v2a:Option Addr) (v2l:Nat) (v2c:Nat):prog.built 139 [(1,.slice v1a v1l v1c),(2,.slice v2a v2l v2c)]=some #[.slice none 0 0,.slice v1a v1l v1c,.slice v2a v2l v2c]:=by kernel_rfl
theorem Ms (n:Nat):madeCells (Value.bool false).cells (n * 1)=(List.replicate n (Value.bool false)).toArray:=by
 apply Array.ext'
 rw [Nat.mul_one]
 exact toList_madeCells_one _ n
theorem Cy (n:Nat):(madeCells (Value.agg #[.bool false,.int .i64 0,.int .u64 0,.slice none 0 0,.slice none 0 0,.slice none 0 0]).cells (n * 6)).toList=wC (List.replicate n (⟨false,0,0,none,0,0,[],none,0,0,[],none,0,0⟩:WF)):=by
 induction n with
 | zero=>simp [madeCells]
 | succ n ih =>
  rw [show (n+1) * 6=n * 6+6 by omega,List.replicate_succ',wC,List.flatMap_append]
  show _=wC (List.replicate n (⟨false,0,0,none,0,0,[],none,0,0,[],none,0,0⟩:WF))++_
  rw [← ih]
  unfold madeCells
  simp only [Array.toList_map,Array.toList_range,List.range_succ,List.map_append,List.map_cons,List.map_nil,List.append_assoc]
  have h:∀ k,k < 6→(n * 6+k) % (Value.agg #[.bool false,.int .i64 0,.int .u64 0,.slice none 0 0,.slice none 0 0,.slice none 0 0]).cells.size=k:=fun k hk=>by
   show (n * 6+k) % 6=k
   omega
  rw [show (n * 6) % (Value.agg #[.bool false,.int .i64 0,.int .u64 0,.slice none 0 0,.slice none 0 0,.slice none 0 0]).cells.size=0 from h 0 (by omega),h 1 (by omega),h 2 (by omega),h 3 (by omega),h 4 (by omega),h 5 (by omega)]
  rfl
theorem Gm (n:Nat):madeCells (Value.agg #[.bool false,.int .i64 0,.int .u64 0,.slice none 0 0,.slice none 0 0,.slice none 0 0]).cells (n * 6)=(wC (List.replicate n (⟨false,0,0,none,0,0,[],none,0,0,[],none,0,0⟩:WF))).toArray:=by
 apply Array.ext'
 rw [Cy]
def Mt (lo n:Nat):Asr:=fun v w=>∃ IB WB,v = .agg #[.slice none 0 0,.slice (some ⟨IB,0,none⟩) n n,.slice (some ⟨WB,0,none⟩) n n]∧lo≤IB∧lo≤WB∧w.heap[IB]?=some (.cells (List.replicate n (Value.bool false)).toArray 4 (0,0))∧w.heap[WB]?=some (.cells (wC (List.replicate n (⟨false,0,0,none,0,0,[],none,0,0,[],none,0,0⟩:WF))).toArray 44 (0,0))
theorem Jk {lo n:Nat}:iZ (Mt lo n):=fun v w w' ⟨IB,WB,h1,h2,h3,h4,h5⟩ hb=>⟨IB,WB,h1,h2,h3,(hb.block _ (bY h4)).trans h4,(hb.block _ (bY h5)).trans h5⟩
def Gn (lo n:Nat):Asr:=fun v w=>∃ VB IB WB,v = .pointer (some ⟨VB,0,none⟩)∧lo≤VB∧lo≤IB∧lo≤WB∧w.heap[VB]?=some (.cells (gU (.slice none 0 0) n IB WB).toArray 139 (0,0))∧w.heap[IB]?=some (.cells (List.replicate n (Value.bool false)).toArray 4 (0,0))∧w.heap[WB]?=some (.cells (wC (List.replicate n (⟨false,0,0,none,0,0,[],none,0,0,[],none,0,0⟩:WF))).toArray 44 (0,0))
theorem yF {lo n:Nat}:iZ (Gn lo n):=fun v w w' ⟨VB,IB,WB,h1,h2,h3,h4,h5,h6,h7⟩ hb=>⟨VB,IB,WB,h1,h2,h3,h4,(hb.block _ (bY h5)).trans h5,(hb.block _ (bY h6)).trans h6,(hb.block _ (bY h7)).trans h7⟩
theorem vec_own {w0 W W':World} {O:Own} {G:cU} {K:List (Nat×World)} {n VB IB WB:Nat} (h:St w0 O G K W) (h':St w0 O G K W') (l1:W.heap.size≤VB) (l2:W.heap.size≤IB) (l3:W.heap.size≤WB) (h1:W'.heap[VB]?=some (.cells (gU (.slice none 0 0) n IB WB).toArray 139 (0,0))) (h2:W'.heap[IB]?=some (.cells (List.replicate n (Value.bool false)).toArray 4 (0,0))) (h3:W'.heap[WB]?=some (.cells (wC (List.replicate n (⟨false,0,0,none,0,0,[],none,0,0,[],none,0,0⟩:WF))).toArray 44 (0,0))) :
  St w0 ((VB,gU (.slice none 0 0) n IB WB,139)::(IB,List.replicate n (Value.bool false),4)::(WB,wC (List.replicate n (⟨false,0,0,none,0,0,[],none,0,0,[],none,0,0⟩:WF)),44)::O) G K W':=by
 have n1:VB≠IB:=fun e=>by rw [e,h2] at h1;injection h1 with h1;injection h1 with _ h1 _;exact absurd h1 (by decide)
 have n2:VB≠WB:=fun e=>by rw [e,h3] at h1;injection h1 with h1;injection h1 with _ h1 _;exact absurd h1 (by decide)
 have n3:IB≠WB:=fun e=>by rw [e,h3] at h2;injection h2 with h2;injection h2 with _ h2 _;exact absurd h2 (by decide)
 exact h.adoptL (N:=[(VB,_,139),(IB,_,4),(WB,_,44)]) h' (fun p hp=>by
  simp only [List.mem_cons,List.not_mem_nil,or_false] at hp
  rcases hp with rfl | rfl | rfl
  ·exact ⟨l1,h1⟩
  ·exact ⟨l2,h2⟩
  ·exact ⟨l3,h3⟩) (by simp [n1,n2,n3])
theorem Rr (n:Nat) (w:World) (hn:n≤4096) :
  Calls prog 93 #[.int .i64 (n:Int)] w (fun e w'=>∃ (VB IB WB:Nat),e = .returned (.pointer (some ⟨VB,0,none⟩))∧w.heap.size≤VB∧w.heap.size≤IB∧w.heap.size≤WB∧w'.heap[VB]?=some (.cells (gU (.slice none 0 0) n IB WB).toArray 139 (0,0))∧w'.heap[IB]?=some (.cells (List.replicate n (Value.bool false)).toArray 4 (0,0))∧w'.heap[WB]?=some (.cells (wC (List.replicate n (⟨false,0,0,none,0,0,[],none,0,0,[],none,0,0⟩:WF))).toArray 44 (0,0))∧Below w.heap.size w w'):=by
 refine cB (args:=[.int .i64 (n:Int)]) func93 rfl ntmps93 rfl ?_
 have hS:=St.start w
 refine aJ (aQ (aC rfl rfl (aN (XF.thenN (aJ (mK (m:=7) cD hS (by kernel_rfl) (by kernel_rfl) rfl (cJ 1 rfl 0 rfl rfl (fun w hw=>aY rfl) rfl ?_)))))))
 refine aI 2 rfl (xO w.heap.size n 4 (List.replicate n (Value.bool false))) (yE) (Gl [(0,3,isV (.int .i64 (n:Int)))] rfl ⟨⟨by kernel_rfl,aA rfl rfl rfl⟩,trivial⟩ (fun ev w9 hb9 hd9=>Ji (cs:=List.replicate n (Value.bool false)) underlying58 inf_4 rfl hd9.1 hd9.1 (Ms n) (by show (1:Int) * n≤_;omega) (by omega) hb9.size) (aD rfl)) ?_
 refine cJ 3 rfl 0 rfl rfl (fun w hw=>aY rfl) rfl ?_
 refine aI 4 rfl (xO w.heap.size n 44 (wC (List.replicate n (⟨false,0,0,none,0,0,[],none,0,0,[],none,0,0⟩:WF)))) (yE) (Gl [(2,5,isV (.int .i64 (n:Int)))] rfl ⟨⟨by kernel_rfl,aA rfl rfl rfl⟩,trivial⟩ (fun ev w9 hb9 hd9=>Ji (cs:=wC (List.replicate n (⟨false,0,0,none,0,0,[],none,0,0,[],none,0,0⟩:WF))) underlying42 wT rfl hd9.1 hd9.1 (Gm n) (by show (96:Int) * n≤_;omega) (by omega) hb9.size) (aD rfl)) ?_
 refine aI 5 rfl (Mt w.heap.size n) (Jk) (Gl [(1,4,xO w.heap.size n 4 (List.replicate n (Value.bool false))),(3,6,xO w.heap.size n 44 (wC (List.replicate n (⟨false,0,0,none,0,0,[],none,0,0,[],none,0,0⟩:WF))))] rfl ⟨⟨by kernel_rfl,aA rfl rfl rfl⟩,⟨by kernel_rfl,aA rfl rfl rfl⟩,trivial⟩ (fun ev w9 hb9 hd9=>by
  obtain ⟨⟨IB,e1,l1,h1⟩,⟨WB,e2,l2,h2⟩,_⟩:=hd9
  have hr9:=run_build w9 139 #[(1,.slice (some ⟨IB,0,none⟩) n n),(2,.slice (some ⟨WB,0,none⟩) n n)] _ (P:=prog) (Jj (some ⟨IB,0,none⟩) n n (some ⟨WB,0,none⟩) n n)
  exact ⟨_,w9,by unfold execOp;simp only [List.map_toArray,List.map_cons,List.map_nil,e1,e2];simp [hr9],⟨IB,WB,rfl,l1,l2,h1,h2⟩,Below.refl _ _⟩) (aD rfl)) ?_
 refine aI 6 rfl (Gn w.heap.size n) (yF) (Gl [(4,7,Mt w.heap.size n)] rfl ⟨⟨by kernel_rfl,aA rfl rfl rfl⟩,trivial⟩ (fun ev w9 hb9 hd9=>by
  obtain ⟨⟨IB,WB,e1,l1,l2,h1,h2⟩,_⟩:=hd9
  exact ⟨.pointer (some ⟨w9.heap.size,0,none⟩),w9.alloc (.cells (gU (.slice none 0 0) n IB WB).toArray 139),by unfold execOp;simp only [];rw [e1];simp [Instr.box,newVar,newRow];rfl,⟨w9.heap.size,IB,WB,rfl,hb9.size,l1,l2,heap_alloc_new w9 _,(Below.heap_alloc w9 _ _ (bY h1)).trans h1,(Below.heap_alloc w9 _ _ (bY h2)).trans h2⟩,(Below.refl _ _).alloc (Nat.le_refl _) _⟩) (aD rfl)) ?_
 refine aI 7 rfl (Gn w.heap.size n) (yF) (Gl [(5,8,Gn w.heap.size n)] rfl ⟨⟨by kernel_rfl,aA rfl rfl rfl⟩,trivial⟩ (fun ev w9 hb9 hd9=>⟨ev (.tmp 8),w9,by unfold execOp;rfl,hd9.1,Below.refl _ _⟩) (aD rfl)) ?_
 refine dV ?_
 intro W1 hbR hS'
 clear hS;have hS:=hS';clear hS'
 refine aG ?_
 refine dE ?_;intro _ _
 refine aG ?_
 refine dE ?_;intro _ _
 refine dE ?_;intro _ _
 refine dE ?_;intro _ _
 refine dE ?_;rintro _ ⟨VB,IB,WB,rfl,l1,l2,l3,h1,h2,h3⟩
 refine cO (XF.thenN (bX (XF.res (cQ results93 rfl) ?_)))
 exact ⟨VB,IB,WB,rfl,l1,l2,l3,h1,h2,h3,hS.below⟩
end Go.Proofs.YtmgnkpibpjgncaaGreatDoor
namespace Go.Proofs.YtmgnkpibpjgncaaGreatDoor
open Go.Proofs.Tryz
open Go Go.RowKit
open Go.WideMaps (KeyLaw)
open Go.ChangeMaps (setBlock)
section
variable {P:Program} {ops:Array Oper} {Q:Exit→Act→World→Prop} {t0:Array Value} {d0:List Deferred} {GL:Array Bool→World→Prop} {R:Nat→World→World→Prop} {I:Nat→Value→World→Prop}
abbrev Eq (ops:Array Oper) (t0:Array Value) (d0:List Deferred) (I:Nat→Value→World→Prop) (L:Array Bool) (a:Act) (w:World):Prop:=RInv ops t0 d0 (fun _=>True) I L a w
def qE (P:Program) (ops:Array Oper) (Q:Exit→Act→World→Prop) (t0:Array Value) (GL:Array Bool→World→Prop) (R:Nat→World→World→Prop) (I:Nat→Value→World→Prop) (i:Nat):Prop :=
 ∀ (L:Array Bool) (a:Act) (w:World),L.size=ops.size→L.getD i true=false→(∀ j d,bD ops i j d=true→L.getD j false=true)→(∀ t,freeT ops t=true→a.eval (.tmp t)=t0.getD t undef)→GL L w→(∀ j d,bD ops i j d=true→I j (a.eval (.tmp d)) w) →
  wpOp P ops Q i (fun a' w'=>(∃ v,a'=a.put ((ops[i]?).bind (·.dst)) v∧(∀ d,(ops[i]?).bind (·.dst)=some d→I i v w'))∧GL (L.setIfInBounds i true) w'∧R i w w') a w
theorem Eq.next {L:Array Bool} {a:Act} {w w':World} {i:Nat} {v:Value} (h:Eq ops t0 d0 I L a w) (ht:dT ops t0.size=true) (hst:∀ i j v w w',i≠j→I i v w→R j w w'→I i v w') (hI:∀ d,(ops[i]?).bind (·.dst)=some d→I i v w') (hR:R i w w') :
  Eq ops t0 d0 I (L.setIfInBounds i true) (a.put ((ops[i]?).bind (·.dst)) v) w' where
 size:=by rw [lK];exact h.size
 defers:=by rw [iP];exact h.defers
 frame:=fun t hf=>by
  rw [eU ?_]
  ·exact h.frame t hf
  ·intro hd
   obtain ⟨o,ho,hd⟩:=Option.bind_eq_some_iff.1 hd
   have:=Array.all_eq_true'.1 hf o (Array.mem_of_getElem? ho)
   simp [hd] at this
 glob:=trivial
 done:=fun j d hd hj=>by
  by_cases hji:j=i
  ·subst hji
   rw [qR hd (by rw [h.size];exact (gB ht hd).1)]
   exact hI d hd
  ·rw [getD_set_ne false (Ne.symm hji)] at hj
   rw [eU (fun e=>hji ((gB ht e).2 j hd))]
   exact hst _ _ _ _ _ hji (h.done j d hd hj) hR
theorem Jl {L:Array Bool} {i:Nat} (hi:i∈Region.ready .any ops L):∀ j d,bD ops i j d=true→L.getD j false=true:=fun j d hw=>by
 obtain ⟨_,o,ho,hall⟩:=mem_ready.1 hi
 simp only [bD,ho,Bool.and_eq_true,beq_iff_eq] at hw
 obtain ⟨e,he,h1⟩:=Array.any_eq_true'.1 hw.1
 simp only [Bool.and_eq_true,beq_iff_eq] at h1
 have:=hall e he h1.2
 rw [h1.1] at this
 exact this
theorem Rs (ht:dT ops t0.size=true) (hst:∀ i j v w w',i≠j→I i v w→R j w w'→I i v w') (hstep:∀ i,i < ops.size→qE P ops Q t0 GL R I i)
  (hfin:∀ (L:Array Bool) (a:Act) (w:World),a.tmps.size=t0.size→a.defers=d0→(∀ t,freeT ops t=true→a.tmps.getD t undef=t0.getD t undef)→(∀ i,i < ops.size→L.getD i true=true)→L.size=ops.size→GL L w→(∀ i d,i < ops.size→(ops[i]?).bind (·.dst)=some d→I i (a.tmps.getD d undef) w)→Q .normal a w) :
  ∀ (fuel:Nat) (L:Array Bool) (a:Act) (w:World),L.size=ops.size→L.toList.count false≤fuel→GL L w→Eq ops t0 d0 I L a w→wpAny P .any ops Q fuel L a w:=by
 have fin:∀ (L:Array Bool) (a:Act) (w:World),(∀ i,i < ops.size→L.getD i true=true)→L.size=ops.size→GL L w→Eq ops t0 d0 I L a w→Q .normal a w:=fun L a w hall hs hG h =>
  hfin L a w h.size h.defers h.frame hall hs hG fun i d hi hd=>h.done i d hd (by
   have:=hall i hi
   rw [Array.getD_eq_getD_getElem?] at this ⊢
   rw [Array.getElem?_eq_getElem (by omega)] at this ⊢
   simpa using this)
 intro fuel
 induction fuel with
 | zero =>
  intro L a w hs hc hG h
  have hall:∀ i,i < ops.size→L.getD i true=true:=fun i hi=>by
   have hn:false∉L.toList:=List.count_eq_zero.1 (by omega)
   cases hL:L.getD i true with
   | true=>rfl
   | false =>
    rw [Array.getD_eq_getD_getElem?,Array.getElem?_eq_getElem (by omega)] at hL
    exact absurd (by rw [← show L[i]=false by simpa using hL];exact Array.mem_toList_iff.2 (Array.getElem_mem _)) hn
  refine ⟨?_,fin L a w hall hs hG h⟩
  cases hr:Region.ready .any ops L with
  | nil=>rfl
  | cons i rest =>
   have hi:i∈Region.ready .any ops L:=by rw [hr];exact List.mem_cons_self
   obtain ⟨h1,o,ho,_⟩:=mem_ready.1 hi
   rw [hall i (Array.getElem?_eq_some_iff.1 ho).1] at h1
   cases h1
 | succ fuel ih =>
  intro L a w hs hc hG h
  refine ⟨fun hr=>fin L a w (gL ht hs hr) hs hG h,fun i hi=>?_⟩
  obtain ⟨h1,o,ho,_⟩:=mem_ready.1 hi
  have his:i < ops.size:=(Array.getElem?_eq_some_iff.1 ho).1
  refine wpOp_mono ?_ (hstep i his L a w hs h1 (Jl hi) h.frameE hG (h.deps hi))
  rintro a' w' ⟨⟨v,rfl,hI⟩,hG',hR⟩
  refine ih _ _ _ (by simpa using hs) ?_ hG' (Eq.next h ht hst hI hR)
  have:L.toList[i]?=some false:=by
   rw [Array.getD_eq_getD_getElem?,Array.getElem?_eq_getElem (by omega)] at h1
   rw [Array.getElem?_toList,Array.getElem?_eq_getElem (by omega)]
   simpa using h1
  have:=fH _ _ this
  rw [Array.toList_setIfInBounds]
  omega
theorem Gq {id:Nat} {a:Act} {w:World} (hm:P.follows .mixedOrders=true) (hG:GL (Array.replicate ops.size false) w.drew) (ht:dT ops a.tmps.size=true) (hst:∀ i j v w w',i≠j→I i v w→R j w w'→I i v w') (hstep:∀ i,i < ops.size→qE P ops Q a.tmps GL R I i)
  (hfin:∀ (L:Array Bool) (a':Act) (w:World),a'.tmps.size=a.tmps.size→a'.defers=a.defers→(∀ t,freeT ops t=true→a'.tmps.getD t undef=a.tmps.getD t undef)→(∀ i,i < ops.size→L.getD i true=true)→L.size=ops.size→GL L w→(∀ i d,i < ops.size→(ops[i]?).bind (·.dst)=some d→I i (a'.tmps.getD d undef) w)→Q .normal a' w) :
  (Code.region id ops true).wp P Q a w :=
 wp_region_any hm (Rs ht hst hstep hfin _ _ _ _ (by simp) (iT _) hG (qS trivial))
theorem qE.value {i:Nat} {o:Oper} (hi:ops[i]?=some o) (hgd:o.guard=none)
  (h:∀ (L:Array Bool) (a:Act) (w:World),L.size=ops.size→L.getD i true=false→(∀ j d,bD ops i j d=true→L.getD j false=true)→(∀ t,freeT ops t=true→a.eval (.tmp t)=t0.getD t undef)→GL L w→(∀ j d,bD ops i j d=true→I j (a.eval (.tmp d)) w) →
   ∃ v w',(execOp a.eval o).run P w = .ok (.value v) w'∧I i v w'∧GL (L.setIfInBounds i true) w'∧R i w w'):qE P ops Q t0 GL R I i:=fun L a w hs hL hW hF hG hD=>by
 obtain ⟨v,w',hr,hI,hG',hR⟩:=h L a w hs hL hW hF hG hD
 unfold wpOp
 simp only [hi,fL hgd,if_true]
 refine .inl ?_
 unfold Oper.wp
 rw [hr]
 exact ⟨⟨v,by simp,fun _ _=>hI⟩,hG',hR⟩
end
section
variable {α:Type} {P:Program} {K E S T:TypeId} {κ:α→Value} {W:World} {lo b:Nat} {f:α→List Value}
theorem Grp.entryW [DecidableEq α] (h:Grp P K E κ lo f b W) (L:KeyLaw P K) (ht:P.underlying T=some (.map K S)) (hz:∀ w,(zeroValue S).run P w = .ok (.slice none 0 0) w) {k:α} (hk:∃ l,keyOf P K (κ k)=some l) (hinj:∀ x y,κ x=κ y→x=y) :
  ∃ v0 st o1,(∀ w,w.heap[b]?=W.heap[b]?→(Instr.mapEntry T (.map (some b)) (κ k)).run P w = .ok (.tuple #[v0,st]) (setBlock w b o1))∧W.ownsRow lo E 1 v0 (f k).length (f k)∧(∀ p,v0.ownBlock=some p→p≠b) ∧
   ∀ W2 v' zs,W2.heap[b]?=some o1→W.heap.size≤W2.heap.size→(∀ p,p < W.heap.size→p≠b→v0.ownBlock≠some p→W2.heap[p]?=W.heap[p]?)→W2.ownsRow lo E 1 v' zs.length zs→(v'.ownBlock=v0.ownBlock∨∃ p,v'.ownBlock=some p∧W.heap.size≤p)→∃ W3,(Instr.entryStore T (.map (some b)) st v').run P W2 = .ok () W3∧W2.grownBy W3 (some b)∧Grp P K E κ lo (fun x=>if x=k then zs else f x) b W3:=by
 obtain ⟨es,clock,hb,hE⟩:=h
 obtain ⟨l,hl⟩:=hk
 have hold:∀ x∈es.toList,∀ p,x.val.ownBlock=some p→p < W.heap.size∧p≠b:=fun x hx p hp=>by
  obtain ⟨k2,_,_,h2⟩:=hE.is x hx
  exact ⟨(h2.lt p hp).2,lV h2 hb hp⟩
 rcases L.find W hl es.toList hE.valid with ⟨h1,h2⟩ | ⟨j,e0,h1,h2,h3⟩
 ·have hnil:=hE.nil_of h2
  refine ⟨.slice none 0 0,goInt clock,.map (es.push ⟨κ k,.slice none 0 0,clock⟩) (clock+1),fun w hw=>?_,by rw [hnil];exact World.ownsRow_nil _ _ _ _,(fun p hp=>by cases hp),fun W2 v' zs hb2 hsz hg hr hv=>?_⟩
  ·have hbw:=hw.trans hb
   rcases L.find w hl es.toList hE.valid with ⟨h1w,_⟩ | ⟨j,e0,_,h2w,h3w⟩
   ·simp [Instr.mapEntry,run_underlying ht,MapKept.run_getObj_map hbw,L.check w _ hl,h1w,hz,MapKept.run_setObj_map _ hbw,setBlock,Result.andThen]
   ·exact absurd h3w (h2 e0 (List.mem_of_getElem? h2w))
  ·have hidx:(es.push ⟨κ k,.slice none 0 0,clock⟩).findIdx? (fun e=>((e.born:Nat):Int) == ((clock:Nat):Int))=some es.size:=by
    rw [WideElems.findIdx_arr]
    refine WideElems.findIdx_born (e0:=⟨κ k,.slice none 0 0,clock⟩) ?_ (by simp)
    rw [Array.toList_push,List.map_append,List.nodup_append]
    refine ⟨hE.nodup,by simp,fun a ha c hc e1=>?_⟩
    obtain ⟨x,hx,rfl⟩:=List.mem_map.1 ha
    have:=hE.born x hx
    simp at hc;omega
   have hmod:(es.push ⟨κ k,.slice none 0 0,clock⟩).modify es.size (fun e=>{ e with val:=v' })=es.push ⟨κ k,v',clock⟩:=by
    apply Array.ext'
    rw [Array.toList_modify,Array.toList_push,Array.toList_push,← Array.length_toList,WideElems.modify_last]
   refine ⟨setBlock W2 b (.map (es.push ⟨κ k,v',clock⟩) (clock+1)),?_,nM hb2,⟨_,_,rZ hb2,?_⟩⟩
   ·simp [Instr.entryStore,MapKept.run_getObj_map hb2,asInt,asIntOf,goInt,hidx,hmod,MapKept.run_setObj_map _ hb2,setBlock,Result.andThen]
   ·have hmem:∀ x,x∈(es.push ⟨κ k,v',clock⟩).toList↔x∈es.toList∨x=⟨κ k,v',clock⟩:=fun x=>by simp
    have hrow:∀ x∈es.toList,∀ p,x.val.ownBlock=some p→(setBlock W2 b (.map (es.push ⟨κ k,v',clock⟩) (clock+1))).heap[p]?=W.heap[p]?:=fun x hx p hp=>by
     obtain ⟨p1,p2⟩:=hold x hx p hp
     rw [eL hb2 p2,hg p p1 p2 (fun e=>by cases e)]
    refine ⟨fun x hx=>?_,?_,?_,fun x hx=>?_,fun k2 hk2=>?_,fun x hx y hy hne=>?_⟩
    ·rcases (hmem x).1 hx with hx | rfl
     ·have:=hE.born x hx;omega
     ·exact Nat.lt_succ_self _
    ·rw [Array.toList_push,List.map_append,List.nodup_append]
     refine ⟨hE.nodup,by simp,fun a ha c hc e1=>?_⟩
     obtain ⟨x,hx,rfl⟩:=List.mem_map.1 ha
     have:=hE.born x hx
     simp at hc;omega
    ·rw [Array.toList_push,List.pairwise_append]
     refine ⟨hE.keys,by simp,fun x hx y hy=>?_⟩
     simp at hy;subst hy;exact h2 x hx
    ·rcases (hmem x).1 hx with hx | rfl
     ·obtain ⟨k2,e1,e2,e3⟩:=hE.is x hx
      refine ⟨k2,e1,e2,?_⟩
      rw [if_neg (fun e=>h2 x hx (by rw [e1,e]))]
      exact dQ e3 (hrow x hx)
     ·refine ⟨k,rfl,⟨l,hl⟩,?_⟩
      rw [if_pos rfl]
      exact dQ hr fun p hp=>eL hb2 (lV hr hb2 hp)
    ·by_cases e:k2=k
     ·exact ⟨⟨κ k,v',clock⟩,(hmem _).2 (.inr rfl),by rw [e]⟩
     ·rw [if_neg e] at hk2
      obtain ⟨x,hx,hxk⟩:=hE.all k2 hk2
      exact ⟨x,(hmem x).2 (.inl hx),hxk⟩
    ·have hnew:∀ x∈es.toList,∀ p,x.val.ownBlock=some p→v'.ownBlock≠some p:=fun x hx p hp e=>by
      rcases hv with hv | ⟨q,hv,hq⟩
      ·rw [hv] at e;cases e
      ·rw [hv] at e
       have:=(hold x hx p hp).1
       have:=Option.some.inj e
       omega
     rcases (hmem x).1 hx with hx | rfl
     ·rcases (hmem y).1 hy with hy | rfl
      ·exact hE.apart x hx y hy hne
      ·exact fun p hp=>hnew x hx p hp
     ·rcases (hmem y).1 hy with hy | rfl
      ·exact fun p hp e=>hnew y hy p e hp
      ·exact absurd rfl hne
 ·have hm0:=List.mem_of_getElem? h2
  have hj:es[j]?=some e0:=by simpa using h2
  have hsame:es.modify j (fun e=>{ e with key:=κ k })=es:=by
   apply Array.ext'
   apply List.ext_getElem?
   intro i
   rw [Array.toList_modify,List.getElem?_modify]
   by_cases hij:j=i
   ·subst hij
    rw [h2]
    simp [← h3]
   ·simp [hij]
  refine ⟨e0.val,goInt e0.born,.map es clock,fun w hw=>?_,hE.at_ hinj hm0 h3,(fun p hp=>(hold e0 hm0 p hp).2),fun W2 v' zs hb2 hsz hg hr hv=>?_⟩
  ·have hbw:=hw.trans hb
   rcases L.find w hl es.toList hE.valid with ⟨_,h2w⟩ | ⟨j',e0',h1w,h2w,h3w⟩
   ·exact absurd h3 (h2w e0 hm0)
   ·have he:e0'=e0:=Bi hE.keys (List.mem_of_getElem? h2w) hm0 (h3w.trans h3.symm)
    subst he
    have hjj:j'=j:=by
     have hbn:=hE.nodup
     obtain ⟨a1,a2⟩:=List.getElem?_eq_some_iff.1 h2w
     obtain ⟨c1,c2⟩:=List.getElem?_eq_some_iff.1 h2
     exact (List.getElem_inj (i:=j') (j:=j) (h₀:=by rw [List.length_map];exact a1) (h₁:=by rw [List.length_map];exact c1) hbn).1 (by rw [List.getElem_map,List.getElem_map,a2,c2])
    subst hjj
    simp [Instr.mapEntry,run_underlying ht,MapKept.run_getObj_map hbw,L.check w _ hl,h1w,hj,h3,L.stays w hl,hsame,MapKept.run_setObj_map _ hbw,setBlock,Result.andThen]
  ·have hidx:es.findIdx? (fun e=>((e.born:Nat):Int) == ((e0.born:Nat):Int))=some j:=by
    rw [WideElems.findIdx_arr]
    exact WideElems.findIdx_born hE.nodup h2
   refine ⟨setBlock W2 b (.map (es.modify j fun e=>{ e with val:=v' }) clock),?_,nM hb2,⟨_,_,rZ hb2,?_⟩⟩
   ·simp [Instr.entryStore,MapKept.run_getObj_map hb2,asInt,asIntOf,goInt,hidx,MapKept.run_setObj_map _ hb2,setBlock,Result.andThen]
   ·have hrow:∀ x∈es.toList,x.key≠κ k→∀ p,x.val.ownBlock=some p→(setBlock W2 b (.map (es.modify j fun e=>{ e with val:=v' }) clock)).heap[p]?=W.heap[p]?:=fun x hx hne p hp=>by
     obtain ⟨p1,p2⟩:=hold x hx p hp
     rw [eL hb2 p2,hg p p1 p2 (fun e=>hE.apart x hx e0 hm0 (by rw [h3];exact hne) p hp e)]
    have hcs:∀ x∈(es.modify j fun e=>{ e with val:=v' }).toList,(x.key=κ k∧x.val=v')∨(x∈es.toList∧x.key≠κ k):=fun x hx=>by
     rcases Bj h2 hx with rfl | ⟨i,hij,hi⟩
     ·exact .inl ⟨h3,rfl⟩
     ·refine .inr ⟨List.mem_of_getElem? hi,fun e=>hij ?_⟩
      have hx0:=Bi hE.keys (List.mem_of_getElem? hi) hm0 (e.trans h3.symm)
      subst hx0
      have hbn:=hE.nodup
      obtain ⟨a1,a2⟩:=List.getElem?_eq_some_iff.1 hi
      obtain ⟨c1,c2⟩:=List.getElem?_eq_some_iff.1 h2
      exact (List.getElem_inj (i:=i) (j:=j) (h₀:=by rw [List.length_map];exact a1) (h₁:=by rw [List.length_map];exact c1) hbn).1 (by rw [List.getElem_map,List.getElem_map,a2,c2])
    refine ⟨fun x hx=>?_,?_,?_,fun x hx=>?_,fun k2 hk2=>?_,fun x hx y hy hne=>?_⟩
    ·rcases Bj h2 hx with rfl | ⟨i,_,hi⟩
     ·exact hE.born e0 hm0
     ·exact hE.born x (List.mem_of_getElem? hi)
    ·exact (Bl (es:=es) (j:=j) (g:=fun e=>{ e with val:=v' }) (p:=fun x=>x.born) (fun _=>rfl))▸hE.nodup
    ·exact pw_map (p:=fun x=>x.key) (r:=fun x y=>x≠y) hE.keys (Bl (es:=es) (j:=j) (g:=fun e=>{ e with val:=v' }) (p:=fun x=>x.key) (fun _=>rfl))
    ·rcases hcs x hx with ⟨e1,e2⟩ | ⟨e1,e2⟩
     ·refine ⟨k,e1,⟨l,hl⟩,?_⟩
      rw [if_pos rfl,e2]
      exact dQ hr fun p hp=>eL hb2 (lV hr hb2 hp)
     ·obtain ⟨k2,a1,a2,a3⟩:=hE.is x e1
      refine ⟨k2,a1,a2,?_⟩
      rw [if_neg (fun e=>e2 (by rw [a1,e]))]
      exact dQ a3 (hrow x e1 e2)
    ·by_cases e:k2=k
     ·refine ⟨_,Bk h2,?_⟩
      rw [if_pos rfl,e];exact h3
     ·rw [if_neg e] at hk2
      obtain ⟨x,hx,hxk⟩:=hE.all k2 hk2
      obtain ⟨i,hi⟩:=List.getElem?_of_mem hx
      refine ⟨_,Bk (j:=j) (g:=fun e=>{ e with val:=v' }) hi,?_⟩
      by_cases hij:j=i
      ·rw [if_pos hij];exact hxk
      ·rw [if_neg hij];exact hxk
    ·have hnew:∀ x∈es.toList,x.key≠κ k→∀ p,x.val.ownBlock=some p→v'.ownBlock≠some p:=fun x hx hne p hp e=>by
      rcases hv with hv | ⟨q,hv,hq⟩
      ·rw [hv] at e;exact hE.apart x hx e0 hm0 (by rw [h3];exact hne) p hp e
      ·rw [hv] at e
       have:=(hold x hx p hp).1
       have:=Option.some.inj e
       omega
     rcases hcs x hx with ⟨e1,e2⟩ | ⟨e1,e2⟩
     ·rcases hcs y hy with ⟨d1,d2⟩ | ⟨d1,d2⟩
      ·exact absurd (e1.trans d1.symm) hne
      ·exact fun p hp e=>hnew y d1 d2 p e (by rw [← e2];exact hp)
     ·rcases hcs y hy with ⟨d1,d2⟩ | ⟨d1,d2⟩
      ·exact fun p hp=>by rw [d2];exact hnew x e1 e2 p hp
      ·exact hE.apart x e1 y d1 hne
theorem St.foreignK {w0 W W':World} {O:Own} {Kk:List (Nat×World)} {row:Option Nat} (h:St w0 O [] Kk W) (hg:W.grownBy W' row) (hb:∀ k,row=some k→w0.heap.size≤k∧(∀ p∈O,p.1≠k)∧∀ q∈Kk,k < q.1∨q.2.heap.size≤k):St w0 O [] Kk W' where
 below:=h.below.grown hg h.below.size (fun k hk=>(hb k hk).1)
 own:=fun p hp=>by
  obtain ⟨h1,h2⟩:=h.own p hp
  exact ⟨h1,(hg.block _ (bY h2) (fun e=>(hb _ e.symm).2.1 p hp rfl)).trans h2⟩
 dist:=h.dist
 kept:=fun q hq=>by
  obtain ⟨⟨h1,h2⟩,h3⟩:=h.kept q hq
  refine ⟨⟨Nat.le_trans h1 hg.size,fun k hk hk2=>(hg.block k (Nat.lt_of_lt_of_le hk2 h1) (fun e=>?_)).trans (h2 k hk hk2)⟩,h3⟩
  rcases (hb k e.symm).2.2 q hq with h4 | h4<;>omega
 rows:=fun g hg=>by cases hg
 gdist:=List.Pairwise.nil
theorem iC {a:Act} {t:Nat} {v:Value} (h:a.eval (.tmp t)=v):∀ x u,evL [(t,v)] x=some u→a.eval x=u:=by
 intro x u hx
 cases x with
 | tmp s =>
  unfold evL look at hx
  cases hb:Nat.beq t s with
  | true=>simp only [hb,cond_true,Option.some.injEq] at hx;rw [← Nat.eq_of_beq_eq_true hb,← hx];exact h
  | false=>simp only [hb,cond_false] at hx;cases hx
 | const c=>exact Option.some.inj hx
 | global g=>exact Option.some.inj hx
 | func f=>exact Option.some.inj hx
structure GrpG (P:Program) (K E:TypeId) (κ:α→Value) (lo:Nat) (f':α→List Value) (b:Nat) (W w0:World) (O:Own) (Kk:List (Nat×World)) (v0:Value) (o1:Obj) (L:Array Bool) (w:World):Prop where
 st:St w0 O [] Kk w
 sz:W.heap.size≤w.heap.size
 c11:L.getD 11 false=true→L.getD 9 false=true∧L.getD 10 false=true
 c10:L.getD 10 false=true→L.getD 7 false=true
 c9:L.getD 9 false=true→L.getD 8 false=true
 c8:L.getD 8 false=true→L.getD 7 false=true
 m0:L.getD 7 false=false→w.heap[b]?=W.heap[b]?
 m1:L.getD 7 false=true→L.getD 11 false=false→w.heap[b]?=some o1
 old:∀ p,p < W.heap.size→p≠b→v0.ownBlock≠some p→w.heap[p]?=W.heap[p]?
 row0:L.getD 9 false=false→∀ p,v0.ownBlock=some p→w.heap[p]?=W.heap[p]?
 fin:L.getD 11 false=true→Grp P K E κ lo f' b w
def GrpI (E:TypeId) (lo:Nat) (W:World) (vals:Nat→Value) (x v0 st:Value) (xs:List Value) (i:Nat) (v:Value) (w:World):Prop :=
 (i < 6→v=vals i)∧(i=6→∃ B,v = .slice (some ⟨B,0,none⟩) 1 1∧W.heap.size≤B∧w.heap[B]?=some (.cells #[x] E (0,0)))∧(i=7→v = .tuple #[v0,st])∧(i=8→v=v0)∧(i=9→w.ownsRow lo E 1 v (xs.length+1) (xs++[x])∧(v.ownBlock=v0.ownBlock∨∃ p,v.ownBlock=some p∧W.heap.size≤p))∧(i=10→v=st)
theorem pE {L:Array Bool} {i:Nat} (h:i < L.size):(L.setIfInBounds i true).getD i false=true:=by
 rw [Array.getD_eq_getD_getElem?,Array.getElem?_setIfInBounds_self_of_lt h];rfl
theorem dA {L:Array Bool} {i j:Nat} (h:i≠j):(L.setIfInBounds i true).getD j false=L.getD j false:=getD_set_ne false h
theorem Gr {L:Array Bool} {i:Nat} (h:L.getD i true=false):L.getD i false=false:=by
 rw [Array.getD_eq_getD_getElem?] at h ⊢
 cases hL:L[i]? with
 | none=>rfl
 | some b=>rw [hL] at h;simpa using h
theorem Jm [DecidableEq α] {id n:Nat} {ops:Array Oper} {Q:Exit→Act→World→Prop} {l:Fr} {w0:World} {O:Own} {Kk:List (Nat×World)} {vals:Nat→Value} {k:α} {x:Value} {t:TypeId} {inf:TypeInfo} {z:Value} {d3 d4 d5 d6 d7 d8 d9 d10:Nat} {ty6 ty7 ty8 ty9 ty10 ty11:TypeId} {p6 p7 p8 p9 p10 p11:String} {a6 a7 a8 a9 a10 a11:Array Edge}
  (hm:P.follows .mixedOrders=true) (hS:St w0 O [] Kk W) (hM:Grp P K E κ lo f b W) (hO:∀ p∈O,p.1≠b∧(p.1 < lo∨p.2.2≠E)) (hwb:w0.heap.size≤b) (hwl:w0.heap.size≤lo) (hlo:lo≤W.heap.size) (hK:∀ q∈Kk,q.2.heap.size≤lo∧(b < q.1∨q.2.heap.size≤b))
  (LW:KeyLaw P K) (ht:P.underlying T=some (.map K S)) (hz:∀ w,(zeroValue S).run P w = .ok (.slice none 0 0) w) (hk:∃ l,keyOf P K (κ k)=some l) (hinj:∀ x y,κ x=κ y→x=y)
  (hU:P.underlying t=some (.slice E)) (hinf:P.info? E=some inf) (hzi:inf.zero=some z) (hzs:z.cells.size=inf.size) (hsz:inf.size=1) (hx1:x.oneCell'=true) (hrow1:∀ (ev:Operand→Value) w,ev (.tmp d5)=x→(execOp ev ⟨some d6,.buildSlice t 1 #[(0,.tmp d5)],ty6,p6,a6,none⟩).run P w = .ok (.value (.slice (some ⟨w.heap.size,0,none⟩) 1 1)) (w.alloc (.cells #[x] E)))
  (h63:(f k).length+1≤maxLen) (hbytes:((f k).length+1) * inf.bytes≤140737488355328)
  (hsize:ops.size=12) (htidy:dT ops n=true)
  (hv3:vals 3 = .map (some b)) (hv4:vals 4=κ k) (hv5:vals 5=x)
  (hpure:∀ i,i < 6→∀ (a0 a:Act) (w:World),Has n l a0→(∀ t,freeT ops t=true→a.eval (.tmp t)=a0.tmps.getD t undef)→St w0 O [] Kk w→(∀ j d,bD ops i j d=true→a.eval (.tmp d)=vals j)→∃ o,ops[i]?=some o∧o.guard=none∧(execOp a.eval o).run P w = .ok (.value (vals i)) w)
  (hi6:ops[6]?=some ⟨some d6,.buildSlice t 1 #[(0,.tmp d5)],ty6,p6,a6,none⟩) (hi7:ops[7]?=some ⟨some d7,.mapEntry T (.tmp d3) (.tmp d4),ty7,p7,a7,none⟩) (hi8:ops[8]?=some ⟨some d8,.extract (.tmp d7) 0,ty8,p8,a8,none⟩) (hi9:ops[9]?=some ⟨some d9,.call { callee:=.builtin .append,args:=#[.tmp d8,.tmp d6],argTypes:=#[t,t] },ty9,p9,a9,none⟩) (hi10:ops[10]?=some ⟨some d10,.extract (.tmp d7) 1,ty10,p10,a10,none⟩) (hi11:ops[11]?=some ⟨none,.entryStore T (.tmp d3) (.tmp d10) (.tmp d9),ty11,p11,a11,none⟩)
  (w65:bD ops 6 5 d5=true) (w73:bD ops 7 3 d3=true) (w74:bD ops 7 4 d4=true) (w87:bD ops 8 7 d7=true) (w98:bD ops 9 8 d8=true) (w96:bD ops 9 6 d6=true) (w107:bD ops 10 7 d7=true) (w113:bD ops 11 3 d3=true) (w1110:bD ops 11 10 d10=true) (w119:bD ops 11 9 d9=true)
  (h:∀ W',St w0 O [] Kk W'→Grp P K E κ lo (fun y=>if y=k then f k++[x] else f y) b W'→W.heap.size≤W'.heap.size→∀ a,a.tmps.size=n→a.defers=[]→(∀ t,freeT ops t=true→∀ v,look l t=some v→a.tmps.getD t undef=v)→Q .normal a W'):eW P n (.region id ops true) Q l W:=fun a0 ha0=>by
 obtain ⟨v0,st,o1,hrun,hown,hnb,back⟩:=hM.entryW LW ht hz hk hinj
 have hbm:=hM.lt
 have hrl:∀ p,v0.ownBlock=some p→p < W.heap.size:=fun p hp=>(hown.lt p hp).2
 have hrlo:∀ p,v0.ownBlock=some p→lo≤p:=fun p hp=>(hown.lt p hp).1
 refine Gq (GL:=GrpG P K E κ lo (fun y=>if y=k then f k++[x] else f y) b W w0 O Kk v0 o1)
  (R:=fun j w w'=>w.heap.size≤w'.heap.size∧(∀ p,W.heap.size≤p→p < w.heap.size→w'.heap[p]?=w.heap[p]?)∧(j≠9→∀ p,v0.ownBlock=some p→w'.heap[p]?=w.heap[p]?))
  (I:=GrpI E lo W vals x v0 st (f k)) hm ?_ ?_ ?_ ?_ ?_
 ·have hf:∀ j,(Array.replicate ops.size false).getD j false=false:=fun j=>by
   rw [Array.getD_eq_getD_getElem?,Array.getElem?_replicate]
   split<;>rfl
  refine ⟨hS.grow (Below.refl _ _).drew,Nat.le_refl _,?_,?_,?_,?_,fun _=>rfl,?_,fun _ _ _ _=>rfl,fun _ _ _=>rfl,?_⟩<;>(intro h1;rw [hf] at h1;cases h1)
 ·rw [ha0.size];exact htidy
 ·rintro i j v w w' hij ⟨h1,h2,h3,h4,h5,h6⟩ ⟨r1,r2,r3⟩
  refine ⟨h1,fun e=>?_,h3,h4,fun e=>?_,h6⟩
  ·obtain ⟨B,e1,e2,e3⟩:=h2 e
   exact ⟨B,e1,e2,(r2 B e2 (bY e3)).trans e3⟩
  ·obtain ⟨e1,e2⟩:=h5 e
   refine ⟨dQ e1 fun p hp=>?_,e2⟩
   rcases e2 with e2 | ⟨p2,e2,e3⟩
   ·exact r3 (fun e4=>hij (e.trans e4.symm)) p (by rw [← e2];exact hp)
   ·rw [e2] at hp
    cases hp
    exact r2 _ e3 (e1.lt _ e2).2
 ·intro i hi
  rw [hsize] at hi
  by_cases hi6':i < 6
  ·-- what is pure
   intro L a w hs hL hW hF hG hD
   obtain ⟨o,ho,hgd,hr⟩:=hpure i hi6' a0 a w ha0 hF hG.st (fun j d hw=>by
    have hji:j < i:=by
     cases ho:ops[i]? with
     | none=>simp [bD,ho] at hw
     | some o =>
      simp only [bD,ho,Bool.and_eq_true,beq_iff_eq] at hw
      obtain ⟨e,he,h1⟩:=Array.any_eq_true'.1 hw.1
      simp only [Bool.and_eq_true,beq_iff_eq] at h1
      have:=jM htidy ho e he h1.2
      omega
    exact (hD j d hw).1 (by omega))
   unfold wpOp
   simp only [ho,fL hgd,if_true]
   refine .inl ?_
   unfold Oper.wp
   rw [hr]
   have n7:=dA (L:=L) (show i≠7 by omega);have n8:=dA (L:=L) (show i≠8 by omega);have n9:=dA (L:=L) (show i≠9 by omega);have n10:=dA (L:=L) (show i≠10 by omega);have n11:=dA (L:=L) (show i≠11 by omega)
   refine ⟨⟨_,rfl,fun d _=>⟨fun _=>rfl,fun e=>by omega,fun e=>by omega,fun e=>by omega,fun e=>by omega,fun e=>by omega⟩⟩,⟨hG.st,hG.sz,by rw [n11,n9,n10];exact hG.c11,by rw [n10,n7];exact hG.c10,by rw [n9,n8];exact hG.c9,by rw [n8,n7];exact hG.c8,by rw [n7];exact hG.m0,by rw [n7,n11];exact hG.m1,hG.old,by rw [n9];exact hG.row0,by rw [n11];exact hG.fin⟩,Nat.le_refl _,fun _ _ _=>rfl,fun _ _ _=>rfl⟩
  have hcase:i=6∨i=7∨i=8∨i=9∨i=10∨i=11:=by omega
  rcases hcase with rfl | rfl | rfl | rfl | rfl | rfl
  ·-- the row
   refine qE.value hi6 rfl fun L a w hs hL hW hF hG hD=>?_
   have e5:=(hD 5 d5 w65).1 (by omega)
   rw [hv5] at e5
   have n7:=dA (L:=L) (show 6≠7 by omega);have n8:=dA (L:=L) (show 6≠8 by omega);have n9:=dA (L:=L) (show 6≠9 by omega);have n10:=dA (L:=L) (show 6≠10 by omega);have n11:=dA (L:=L) (show 6≠11 by omega)
   have hal:∀ p,p < w.heap.size→(w.alloc (.cells #[x] E)).heap[p]?=w.heap[p]?:=fun p hp=>Below.heap_alloc w _ _ hp
   have hbw:b < w.heap.size:=Nat.lt_of_lt_of_le hbm hG.sz
   refine ⟨.slice (some ⟨w.heap.size,0,none⟩) 1 1,w.alloc (.cells #[x] E),?_,⟨fun e=>by omega,fun _=>⟨w.heap.size,rfl,hG.sz,heap_alloc_new w _⟩,fun e=>by omega,fun e=>by omega,fun e=>by omega,fun e=>by omega⟩,⟨(hG.st.alloc [x] E).tail,by simp;have:=hG.sz;omega,by rw [n11,n9,n10];exact hG.c11,by rw [n10,n7];exact hG.c10,by rw [n9,n8];exact hG.c9,by rw [n8,n7];exact hG.c8,by rw [n7];exact fun h1=>(hal b hbw).trans (hG.m0 h1),by rw [n7,n11];exact fun h1 h2=>(hal b hbw).trans (hG.m1 h1 h2),fun p hp h1 h2=>(hal p (Nat.lt_of_lt_of_le hp hG.sz)).trans (hG.old p hp h1 h2),by rw [n9];exact fun h1 p hp=>(hal p (Nat.lt_of_lt_of_le (hrl p hp) hG.sz)).trans (hG.row0 h1 p hp),by rw [n11];exact fun h1=>(hG.fin h1).below ((Below.refl _ _).alloc (Nat.le_refl _) _)⟩,by simp,fun p _ hp=>hal p hp,fun _ p hp=>hal p (Nat.lt_of_lt_of_le (hrl p hp) hG.sz)⟩
   exact hrow1 a.eval w e5
  ·-- the entry
   refine qE.value hi7 rfl fun L a w hs hL hW hF hG hD=>?_
   have hL:=Gr hL
   have e3:=(hD 3 d3 w73).1 (by omega)
   have e4:=(hD 4 d4 w74).1 (by omega)
   rw [hv3] at e3
   rw [hv4] at e4
   have hbw:=hG.m0 hL
   have h11:L.getD 11 false=false:=by
    cases h9:L.getD 11 false with
    | false=>rfl
    | true=>rw [hG.c10 (hG.c11 h9).2] at hL;cases hL
   have h9:L.getD 9 false=false:=by
    cases h9:L.getD 9 false with
    | false=>rfl
    | true=>rw [hG.c8 (hG.c9 h9)] at hL;cases hL
   obtain ⟨ob,hob⟩:∃ ob,w.heap[b]?=some ob:=⟨_,Array.getElem?_eq_getElem (Nat.lt_of_lt_of_le hbm hG.sz)⟩
   have hgr:=nM (o':=o1) hob
   have n8:=dA (L:=L) (show 7≠8 by omega);have n9:=dA (L:=L) (show 7≠9 by omega);have n10:=dA (L:=L) (show 7≠10 by omega);have n11:=dA (L:=L) (show 7≠11 by omega)
   have n7:(L.setIfInBounds 7 true).getD 7 false=true:=pE (by omega)
   refine ⟨.tuple #[v0,st],setBlock w b o1,?_,⟨fun e=>by omega,fun e=>by omega,fun _=>rfl,fun e=>by omega,fun e=>by omega,fun e=>by omega⟩,⟨hG.st.foreignK hgr (fun k hk=>by cases hk;exact ⟨hwb,fun p hp=>(hO p hp).1,fun q hq=>(hK q hq).2⟩),by simp [setBlock];exact hG.sz,(by rw [n11,h11];intro h;cases h),fun _=>n7,(by rw [n9,h9];intro h;cases h),fun _=>n7,(by rw [n7];intro h;cases h),fun _ _=>rZ hob,fun p hp h1 h2=>(eL hob h1).trans (hG.old p hp h1 h2),fun _ p hp=>(eL hob (hnb p hp)).trans (hG.row0 h9 p hp),(by rw [n11,h11];intro h;cases h)⟩,by simp [setBlock],fun p hp _=>eL hob (by omega),fun _ p hp=>eL hob (hnb p hp)⟩
   unfold execOp
   simp only []
   rw [e3,e4]
   simp [hrun w hbw,Result.andThen]
  ·-- its row
   refine qE.value hi8 rfl fun L a w hs hL hW hF hG hD=>?_
   have e7:=(hD 7 d7 w87).2.2.1 rfl
   have h7:=hW 7 d7 w87
   have n7:=dA (L:=L) (show 8≠7 by omega);have n9:=dA (L:=L) (show 8≠9 by omega);have n10:=dA (L:=L) (show 8≠10 by omega);have n11:=dA (L:=L) (show 8≠11 by omega)
   have n8:(L.setIfInBounds 8 true).getD 8 false=true:=pE (by omega)
   refine ⟨v0,w,?_,⟨fun e=>by omega,fun e=>by omega,fun e=>by omega,fun _=>rfl,fun e=>by omega,fun e=>by omega⟩,⟨hG.st,hG.sz,by rw [n11,n9,n10];exact hG.c11,by rw [n10,n7];exact hG.c10,fun _=>n8,fun _=>by rw [n7];exact h7,by rw [n7];exact hG.m0,by rw [n7,n11];exact hG.m1,hG.old,by rw [n9];exact hG.row0,by rw [n11];exact hG.fin⟩,Nat.le_refl _,fun _ _ _=>rfl,fun _ _ _=>rfl⟩
   unfold execOp
   simp only []
   rw [e7]
   simp [Instr.extract]
  ·-- one more
   refine qE.value hi9 rfl fun L a w hs hL hW hF hG hD=>?_
   have hL:=Gr hL
   have e8:=(hD 8 d8 w98).2.2.2.1 rfl
   obtain ⟨B,e6,hB1,hB2⟩:=(hD 6 d6 w96).2.1 rfl
   have h8:=hW 8 d8 w98
   have h7:=hG.c8 h8
   have h11:L.getD 11 false=false:=by
    cases h9:L.getD 11 false with
    | false=>rfl
    | true=>rw [(hG.c11 h9).1] at hL;cases hL
   have hrw:w.ownsRow lo E inf.size v0 (f k).length (f k):=by rw [hsz];exact dQ hown fun p hp=>hG.row0 hL p hp
   obtain ⟨v',w',hr,o9,g9,b9⟩:=lN (P:=P) (w:=w) lo t ty9 E inf z hU hinf hzi hzs (by omega) v0 _ _ hrw ⟨B,0,none⟩ 1 1 [x] (by rw [hsz];rfl) (fun j u hj=>by
    rw [Addr.add_lit,Nat.zero_add]
    simp only [World.cell?,hB2]
    simpa using hj) (fun u hu=>by simp at hu;subst hu;exact hx1) h63 hbytes (Nat.le_trans hlo hG.sz)
   rw [hsz] at o9
   have n7:=dA (L:=L) (show 9≠7 by omega);have n8:=dA (L:=L) (show 9≠8 by omega);have n10:=dA (L:=L) (show 9≠10 by omega);have n11:=dA (L:=L) (show 9≠11 by omega)
   have n9:(L.setIfInBounds 9 true).getD 9 false=true:=pE (by omega)
   have hne:∀ p,v0.ownBlock≠some p→p < w.heap.size→w'.heap[p]?=w.heap[p]?:=fun p h1 h2=>g9.block p h2 (fun e=>h1 e.symm)
   have hnbm:v0.ownBlock≠some b:=fun e=>hnb b e rfl
   refine ⟨v',w',?_,⟨fun e=>by omega,fun e=>by omega,fun e=>by omega,fun e=>by omega,fun _=>⟨o9,b9.imp_right (fun h=>⟨_,h,hG.sz⟩)⟩,fun e=>by omega⟩,⟨hG.st.foreignK g9 (fun k hk=>⟨Nat.le_trans hwl (hrlo k hk),fun p hp e=>by
    rcases (hO p hp).2 with h5 | h5
    ·have:=hrlo k hk;omega
    ·have h6:=(hG.st.own p hp).2
     rcases hrw.2 with ⟨e7,_⟩ | ⟨g,cap,cur,e7,_,h7,_⟩
     ·rw [e7] at hk;cases hk
     ·rw [e7] at hk
      have h8:g=k:=Option.some.inj hk
      rw [e,← h8,h7] at h6
      injection h6 with h6
      injection h6 with _ h6 _
      exact h5 h6.symm,fun q hq=>.inr (Nat.le_trans (hK q hq).1 (hrlo k hk))⟩),Nat.le_trans hG.sz g9.size,(by rw [n11,h11];intro h;cases h),by rw [n10,n7];exact hG.c10,fun _=>by rw [n8];exact h8,by rw [n8,n7];exact hG.c8,(by rw [n7,h7];intro h;cases h),by rw [n7,n11];exact fun h1 h2=>(hne b hnbm (Nat.lt_of_lt_of_le hbm hG.sz)).trans (hG.m1 h1 h2),fun p hp h1 h2=>(hne p h2 (Nat.lt_of_lt_of_le hp hG.sz)).trans (hG.old p hp h1 h2),(by rw [n9];intro h;cases h),(by rw [n11,h11];intro h;cases h)⟩,g9.size,fun p h1 h2=>hne p (fun e=>by have:=hrl p e;omega) h2,fun h=>absurd rfl h⟩
   unfold execOp
   simp only [resolve,invoke,builtin,Sem.run_bind,Sem.run_pure,Result.andThen_ok,List.map_toArray,List.map_cons,List.map_nil,e8,e6,hr]
  ·-- the way back
   refine qE.value hi10 rfl fun L a w hs hL hW hF hG hD=>?_
   have e7:=(hD 7 d7 w107).2.2.1 rfl
   have h7:=hW 7 d7 w107
   have n7:=dA (L:=L) (show 10≠7 by omega);have n8:=dA (L:=L) (show 10≠8 by omega);have n9:=dA (L:=L) (show 10≠9 by omega);have n11:=dA (L:=L) (show 10≠11 by omega)
   have n10:(L.setIfInBounds 10 true).getD 10 false=true:=pE (by omega)
   refine ⟨st,w,?_,⟨fun e=>by omega,fun e=>by omega,fun e=>by omega,fun e=>by omega,fun e=>by omega,fun _=>rfl⟩,⟨hG.st,hG.sz,by rw [n11,n9];exact fun h=>⟨(hG.c11 h).1,n10⟩,fun _=>by rw [n7];exact h7,by rw [n9,n8];exact hG.c9,by rw [n8,n7];exact hG.c8,by rw [n7];exact hG.m0,by rw [n7,n11];exact hG.m1,hG.old,by rw [n9];exact hG.row0,by rw [n11];exact hG.fin⟩,Nat.le_refl _,fun _ _ _=>rfl,fun _ _ _=>rfl⟩
   unfold execOp
   simp only []
   rw [e7]
   simp [Instr.extract]
  ·-- the entry's store
   intro L a w hs hL hW hF hG hD
   have hL:=Gr hL
   have e3:=(hD 3 d3 w113).1 (by omega)
   rw [hv3] at e3
   have e10:=(hD 10 d10 w1110).2.2.2.2.2 rfl
   obtain ⟨o9,b9⟩:=(hD 9 d9 w119).2.2.2.2.1 rfl
   have h10:=hW 10 d10 w1110
   have h9:=hW 9 d9 w119
   have h7:=hG.c10 h10
   have hbo:=hG.m1 h7 hL
   obtain ⟨W3,r3,g3,m3⟩:=back w (a.eval (.tmp d9)) (f k++[x]) hbo hG.sz hG.old (by rw [List.length_append];exact o9) b9
   have hob3:W.heap.size≤W3.heap.size:=Nat.le_trans hG.sz g3.size
   have n7:=dA (L:=L) (show 11≠7 by omega);have n8:=dA (L:=L) (show 11≠8 by omega);have n9:=dA (L:=L) (show 11≠9 by omega);have n10:=dA (L:=L) (show 11≠10 by omega)
   have n11:(L.setIfInBounds 11 true).getD 11 false=true:=pE (by omega)
   have hne:∀ p,p≠b→p < w.heap.size→W3.heap[p]?=w.heap[p]?:=fun p h1 h2=>g3.block p h2 (fun e=>h1 (Option.some.inj e))
   unfold wpOp
   simp only [hi11,fL (show (⟨none,.entryStore T (.tmp d3) (.tmp d10) (.tmp d9),ty11,p11,a11,none⟩:Oper).guard=none from rfl),if_true]
   refine .inl ?_
   unfold Oper.wp execOp
   simp only []
   rw [e3,e10]
   simp only [Sem.run_bind,r3,Result.andThen_ok,Sem.run_pure,Oper.upon_skip]
   refine ⟨⟨undef,by simp,fun d hd=>by cases hd⟩,⟨hG.st.foreignK g3 (fun k hk=>by cases hk;exact ⟨hwb,fun p hp=>(hO p hp).1,fun q hq=>(hK q hq).2⟩),hob3,fun _=>⟨by rw [n9];exact h9,by rw [n10];exact h10⟩,by rw [n10,n7];exact hG.c10,by rw [n9,n8];exact hG.c9,by rw [n8,n7];exact hG.c8,(by rw [n7,h7];intro h;cases h),(by rw [n11];intro _ h;cases h),fun p hp h1 h2=>(hne p h1 (Nat.lt_of_lt_of_le hp hG.sz)).trans (hG.old p hp h1 h2),(by rw [n9,h9];intro h;cases h),fun _=>m3⟩,g3.size,fun p h1 h2=>hne p (by omega) h2,fun _ p hp=>hne p (hnb p hp) (Nat.lt_of_lt_of_le (hrl p hp) hG.sz)⟩
 ·intro L a w h1 h2 h3 hall hs hG _
  have h11:L.getD 11 false=true:=by
   have:=hall 11 (by omega)
   rw [Array.getD_eq_getD_getElem?] at this ⊢
   rw [Array.getElem?_eq_getElem (by omega)] at this ⊢
   simpa using this
  exact h w hG.st (hG.fin h11) hG.sz a (by rw [h1,ha0.size]) (by rw [h2,ha0.defers]) (fun t ht v hv=>by rw [h3 t ht];exact ha0.at_ t v hv)
end
end Go.Proofs.YtmgnkpibpjgncaaGreatDoor
namespace Go.Proofs.YtmgnkpibpjgncaaGreatDoor
open Go.Proofs.Tryz
open Go Go.RowKit
section
variable {P:Program} {n:Nat} {Q:Exit→Act→World→Prop} {l:Fr} {w0 W:World} {O:Own} {G:cU} {K:List (Nat×World)}
abbrev Mks:=List (Nat×Own)
abbrev Jn (s:Mks):Own:=s.flatMap (·.2)
def MkI (mk:List Nat) (vals:Nat→Value) (Pm:Nat→Value→Own→Prop) (s:Mks) (i:Nat) (v:Value) (w:World):Prop :=
 (i∉mk→v=vals i)∧(i∈mk→∃ ON,(i,ON)∈s∧Pm i v ON)
def MkV (mk:List Nat) (s:Mks) (L:Array Bool):Prop:=(∀ i∈mk,L.getD i false=true↔∃ ON,(i,ON)∈s)∧(∀ q∈s,q.1∈mk)∧s.Pairwise (fun p q=>p.1≠q.1)
theorem Wg {id k:Nat} {ops:Array Oper} {mk:List Nat} {vals:Nat→Value} {Pm:Nat→Value→Own→Prop} (Gp:Mks→World→Prop) (hm:P.follows .mixedOrders=true) (hS:Gp [] W.drew) (hk:k < ops.size) (hl:yD ops k=true) (ht:dT ops n=true)
  (hpure:∀ i,i < k→i∉mk→∀ (s:Mks) (a0 a:Act) (w:World),Has n l a0→(∀ t,freeT ops t=true→a.eval (.tmp t)=a0.tmps.getD t undef)→Gp s w→(∀ j d,bD ops i j d=true→MkI mk vals Pm s j (a.eval (.tmp d)) w)→∃ o,ops[i]?=some o∧o.guard=none∧(execOp a.eval o).run P w = .ok (.value (vals i)) w)
  (hmake:∀ i,i∈mk→∀ (s:Mks) (a0 a:Act) (w:World),Has n l a0→(∀ t,freeT ops t=true→a.eval (.tmp t)=a0.tmps.getD t undef)→Gp s w→(∀ ON,(i,ON)∉s)→(∀ j d,bD ops i j d=true→MkI mk vals Pm s j (a.eval (.tmp d)) w)→wpOp P ops Q i (fun a' w'=>∃ v ON,a'=a.put ((ops[i]?).bind (·.dst)) v∧Pm i v ON∧Gp ((i,ON)::s) w') a w)
  (hmk:∀ i∈mk,i < k)
  (h:∀ (s:Mks) (a:Act) (w:World),Gp s w→a.tmps.size=n→a.defers=[]→(∀ t v,freeT ops t=true→look l t=some v→a.tmps.getD t undef=v)→(∀ i d,i < k→i∉mk→(ops[i]?).bind (·.dst)=some d→a.tmps.getD d undef=vals i)→(∀ i∈mk,∃ ON,(i,ON)∈s)→(∀ i d,i∈mk→(ops[i]?).bind (·.dst)=some d→∃ ON,(i,ON)∈s∧Pm i (a.tmps.getD d undef) ON)→(∀ q∈s,q.1∈mk)→s.Pairwise (fun p q=>p.1≠q.1)→wpList P ops Q (ops.toList.drop k) a w):eW P n (.region id ops true) Q l W:=fun a0 ha0=>by
 refine wp_region_any hm (vT (G:=fun s w=>Gp s w) (I:=MkI mk vals Pm) (V:=MkV mk) (t0:=a0.tmps) (d0:=a0.defers) hk hl (by rw [ha0.size];exact ht) (fun i hi=>?_) (fun s L a w hR hall hnot=>?_) _ [] _ _ _ (by simp) (iT _) ?_ ?_ ⟨rfl,rfl,fun _ _=>rfl,?_,?_,?_⟩)
 ·intro s L a w hF hG hV hs hcl hr hD
  by_cases him:i∈mk
  ·have hnew:∀ ON',(i,ON')∉s:=fun ON' h9=>by
    have:=(hV.1 i him).2 ⟨ON',h9⟩
    rw [hr.1] at this;cases this
   refine wpOp_mono ?_ (hmake i him s a0 a w ha0 hF hG hnew hD)
   rintro a' w' ⟨v,ON,rfl,hP,hS'⟩
   have hsz:i < ops.size:=Nat.lt_trans (hmk i him) hk
   refine ⟨(i,ON)::s,v,rfl,⟨fun j hj=>?_,fun q hq=>?_,List.Pairwise.cons (fun q hq e=>hnew q.2 (by rw [show i=q.1 from e];exact hq)) hV.2.2⟩,hS',fun d hd=>⟨fun h9=>absurd him h9,fun _=>⟨ON,List.mem_cons_self,hP⟩⟩,fun j d hd hj=>⟨hj.1,fun hjm=>?_⟩⟩
   ·by_cases hji:j=i
    ·subst hji
     rw [pE (by rw [hs];exact hsz)]
     exact ⟨fun _=>⟨ON,List.mem_cons_self⟩,fun _=>rfl⟩
    ·rw [dA (Ne.symm hji),hV.1 j hj]
     exact ⟨fun ⟨N',h9⟩=>⟨N',List.mem_cons_of_mem _ h9⟩,fun ⟨N',h9⟩=>by
      rcases List.mem_cons.1 h9 with h9 | h9
      ·exact absurd (congrArg Prod.fst h9) hji
      ·exact ⟨N',h9⟩⟩
   ·rcases List.mem_cons.1 hq with rfl | hq
    ·exact him
    ·exact hV.2.1 q hq
   ·obtain ⟨N',h1,h2⟩:=hj.2 hjm
    exact ⟨N',List.mem_cons_of_mem _ h1,h2⟩
  ·obtain ⟨o,ho,hgd,hrun⟩:=hpure i hi him s a0 a w ha0 hF hG hD
   unfold wpOp
   simp only [ho,fL hgd,if_true]
   refine .inl ?_
   unfold Oper.wp
   rw [hrun]
   refine ⟨s,_,rfl,⟨fun j hj=>?_,hV.2⟩,hG,fun d hd=>⟨fun _=>rfl,fun h9=>absurd h9 him⟩,fun j d hd hj=>hj⟩
   rw [dA (fun e=>him (by rw [e];exact hj))]
   exact hV.1 j hj
 ·have hd:∀ i d,i < k→(ops[i]?).bind (·.dst)=some d→MkI mk vals Pm s i (a.tmps.getD d undef) w:=fun i d hi hd=>hR.done i d hd (hall i hi)
  exact h s a w hR.glob (by rw [hR.size,ha0.size]) (by rw [hR.defers,ha0.defers]) (fun t v ht' hv=>by rw [hR.frame t ht'];exact ha0.at_ t v hv) (fun i d hi him hd'=>(hd i d hi hd').1 him) (fun i him=>(hR.cons.1 i him).1 (hall i (hmk i him))) (fun i d him hd'=>(hd i d (hmk i him) hd').2 him) hR.cons.2.1 hR.cons.2.2
 ·intro j hj
  rw [Array.getD_eq_getD_getElem?,Array.getElem?_replicate] at hj
  split at hj<;>simp at hj
 ·intro i _
  rw [Array.getD_eq_getD_getElem?,Array.getElem?_replicate]
  split<;>rfl
 ·exact hS
 ·refine ⟨fun i _=>?_,fun q hq=>(by cases hq),List.Pairwise.nil⟩
  rw [Array.getD_eq_getD_getElem?,Array.getElem?_replicate]
  constructor
  ·intro h9;split at h9<;>simp at h9
  ·rintro ⟨_,h9⟩;cases h9
 ·intro i d hd h9
  rw [Array.getD_eq_getD_getElem?,Array.getElem?_replicate] at h9
  split at h9<;>simp at h9
theorem tA {ops:Array Oper} {i d:Nat} {f:FuncId} {xs:List Operand} {ts:Array TypeId} {ty:TypeId} {pos:String} {aft:Array Edge} {a:Act} {w:World} {vs:List Value} {R:Value→Own→World→Prop} (hi:ops[i]?=some ⟨some d,.call { callee:=.value (.func f),args:=xs.toArray,argTypes:=ts },ty,pos,aft,none⟩) (hgo:bH P f=true) (hx:xs.map a.eval=vs)
  (hc:Calls P f vs.toArray w fun e w'=>∃ v ON,e = .returned v∧R v ON w'):wpOp P ops Q i (fun a' w'=>∃ v ON,a'=a.put ((ops[i]?).bind (·.dst)) v∧R v ON w') a w:=by
 unfold wpOp
 simp only [hi,fL (show (⟨some d,.call { callee:=.value (.func f),args:=xs.toArray,argTypes:=ts },ty,pos,aft,none⟩:Oper).guard=none from rfl),if_true]
 refine .inl ?_
 unfold Oper.wp
 rw [lM P a.eval w f xs.toArray ts _ rfl rfl hgo,Oper.upon_enter]
 rw [show xs.toArray.map a.eval=vs.toArray by rw [← hx];simp]
 refine hc.mono ?_
 rintro e w' ⟨v,ON,rfl,h9⟩
 exact ⟨v,ON,by simp,h9⟩
theorem Jo {ops:Array Oper} {i B j:Nat} {T U:TypeId} {x y:Operand} {ty:TypeId} {pos:String} {aft:Array Edge} {a:Act} {w:World} {cs:List Value} {v:Value} {R:Act→World→Prop} (hi:ops[i]?=some ⟨none,.store T x y,ty,pos,aft,none⟩) (hsz:∀ w,(sizeOf T).run P w = .ok 1 w) (hx:a.eval x = .pointer (some ⟨B,j,none⟩)) (hy:a.eval y=v) (hv:v.oneCell'=true) (hB:w.heap[B]?=some (.cells cs.toArray U (0,0))) (hj:j < cs.length)
  (h:R (a.put none undef) (w.setCell ⟨B,j,none⟩ v)):wpOp P ops Q i R a w:=by
 unfold wpOp
 simp only [hi,fL (show (⟨none,.store T x y,ty,pos,aft,none⟩:Oper).guard=none from rfl),if_true]
 refine .inl ?_
 unfold Oper.wp execOp
 simp only []
 rw [hx,hy]
 have hcells:v.cells=#[v]:=by cases v<;>first | rfl | cases hv
 have hst:=jB (P:=P) [v] 0 j w cs hB (by simp;omega) (fun u hu=>by simp at hu;subst hu;exact hv)
 simp only [Nat.add_zero,setMany] at hst
 have:(Instr.storeAt T (.pointer (some ⟨B,j,none⟩)) v).run P w = .ok () (w.setCell ⟨B,j,none⟩ v):=by
  simp [Instr.storeAt,Instr.sureAddr,storeVar,hsz,hcells,hst]
 simp only [Sem.run_bind,this,Result.andThen_ok,Sem.run_pure,Oper.upon_skip]
 exact h
theorem St.drop8 {x1 x2 x3 x4 x5 x6 x7 y:Nat×List Value×TypeId} (h:St w0 (x1::x2::x3::x4::x5::x6::x7::y::O) G K W):St w0 (x1::x2::x3::x4::x5::x6::x7::O) G K W:=(h.perm (List.perm_middle (l₁:=[x1,x2,x3,x4,x5,x6,x7]))).tail
def Jp (a:Act):Fr→Prop
 | []=>True
 | p::r=>a.tmps.getD p.1 undef=p.2∧Jp a r
theorem Jp.has {a:Act} (hs:a.tmps.size=n) (hd:a.defers=[]):∀ {l:Fr},Jp a l→Has n l a
 | l,h=>⟨hs,hd,by
  induction l with
  | nil=>intro t v hv;cases hv
  | cons p r ih =>
   intro t v hv
   unfold look at hv
   cases hb:Nat.beq p.1 t with
   | true =>
    simp only [hb,cond_true,Option.some.injEq] at hv
    rw [← Nat.eq_of_beq_eq_true hb,← hv];exact h.1
   | false =>
    simp only [hb,cond_false] at hv
    exact ih h.2 t v hv⟩
end
theorem yP (v00:Value) (v01:Value) (v02:Value) (v03:Value) (v04:Value) (v05:Value) (v06:Value) (v07:Value) (v08:Value) (v10:Value) (v11:Value) (v12:Value) (v13:Value) (v14:Value) (v15:Value) (v16:Value) (v2:Bool) (v3:Option Nat):prog.built 109 [(0,.agg #[v00,v01,v02,v03,v04,v05,v06,v07,v08]),(1,.agg #[v10,v11,v12,v13,v14,v15,v16]),(2,.bool v2),(3,.map v3)]=some #[v00,v01,v02,v03,v04,v05,v06,v07,v08,v10,v11,v12,v13,v14,v15,v16,.bool v2,.map v3,.pointer none,.pointer none]:=by kernel_rfl
theorem kR (w:World) (b o:Nat):(Instr.fieldAt 109 (.pointer (some ⟨b,o,none⟩)) 4).run prog w = .ok (.pointer (some ⟨b,o+18,none⟩)) w:=by
 simp [Instr.fieldAt,run_underlying underlying109,Instr.sureAddr,go_sem,Addr.add_lit]
theorem sC (w:World) (b o:Nat):(Instr.fieldAt 109 (.pointer (some ⟨b,o,none⟩)) 5).run prog w = .ok (.pointer (some ⟨b,o+19,none⟩)) w:=by
 simp [Instr.fieldAt,run_underlying underlying109,Instr.sureAddr,go_sem,Addr.add_lit]
theorem O5:bH prog 93=true:=by kernel_rfl
theorem gT.skip {n:Nat} {w w':World} {S:PS} {f:WF} {x:PX} (h:gT n w S f x) (hc:∀ (a:Addr) v,n≤a.block→w.cell? a=some v→w'.cell? a=some v):gT n w' S f x:=by
 have hW:∀ {b o:Nat} {g:WF},n≤b→W6 w b o g→W6 w' b o g:=fun hb h=>⟨hc _ _ hb h.1,hc _ _ hb h.2.1,hc _ _ hb h.2.2.1,hc _ _ hb h.2.2.2.1,hc _ _ hb h.2.2.2.2.1,hc _ _ hb h.2.2.2.2.2⟩
 have hP:∀ {t d:Int} {g:WF} {a:PF},PNew n w t d g a→PNew n w' t d g a:=fun {t d g a} h=>by
  refine ⟨⟨⟨?_,h.is.at_.rl,h.is.at_.g64,h.is.at_.r64,?_,h.is.at_.cl,h.is.at_.bits,h.is.at_.cmax⟩,h.is.pf,h.is.ok,h.is.pl⟩,h.ra,h.ca⟩
  ·rcases h.is.at_.rows with h1 | ⟨b,off,e,h1⟩
   ·exact .inl h1
   ·exact .inr ⟨b,off,e,fun i v hv=>hc _ _ (show n≤b from h.ra _ e) (h1 i v hv)⟩
  ·rcases h.is.at_.cells with h1 | ⟨b,off,e,h1⟩
   ·exact .inl h1
   ·exact .inr ⟨b,off,e,fun i v hv=>⟨hc _ _ (show n≤b from h.ca _ e) (h1 i v hv).1,hc _ _ (show n≤b from h.ca _ e) (h1 i v hv).2.1,hc _ _ (show n≤b from h.ca _ e) (h1 i v hv).2.2⟩⟩
 cases S<;>cases x<;>first | exact h.elim | exact hP h | skip
 obtain ⟨h1,h2,h3,h4,blk,g,k,h5,h0,h6,h7,h8,h9⟩:=h
 exact ⟨h1,h2,h3,h4,blk,g,k,h5,h0,hW h0 h6,hW h0 h7,hP h8,hP h9⟩
def pG (W:World) (n:Nat):World:={ W with heap:=W.heap.extract 0 n }
theorem iS {W:World} {n:Nat} (h:n≤W.heap.size):(pG W n).heap.size=n:=by simp [pG];omega
theorem wF {W:World} {n k:Nat} (h:n≤W.heap.size) (hk:k < n):(pG W n).heap[k]?=W.heap[k]?:=by
 rw [Array.getElem?_eq_getElem (by rw [iS h];exact hk),Array.getElem?_eq_getElem (by omega)]
 simp [pG]
theorem St.markCut {w0 W:World} {O:Own} {K:List (Nat×World)} {n1 n2:Nat} (h:St w0 O [] K W) (hn:n2≤W.heap.size) (hO:∀ p∈O,p.1 < n1∨n2≤p.1):St w0 O [] ((n1,pG W n2)::K) W where
 below:=h.below
 own:=h.own
 dist:=h.dist
 kept:=fun q hq=>by
  rcases List.mem_cons.1 hq with rfl | hq
  ·refine ⟨⟨by rw [iS hn];exact hn,fun k _ hk=>?_⟩,fun p hp=>by rw [iS hn];exact hO p hp⟩
   rw [iS hn] at hk
   exact (wF hn hk).symm
  ·exact h.kept q hq
 rows:=fun g hg=>by cases hg
 gdist:=List.Pairwise.nil
abbrev wG (f0:WF) (a:AV) (bk:Bool) (bm:Nat):List Value:=[.int .i64 a.s.f.tag,.int .i64 a.s.f.dim,.slice a.s.f.a a.s.f.len a.s.f.cap,.bool f0.z,.int .i64 f0.c,.int .u64 (f0.g:Int),.slice f0.ra f0.rl f0.rc,.slice f0.ca f0.cl f0.cc,.slice f0.pa f0.pl f0.pc,.int .i64 a.s.f.tag,.int .i64 a.s.f.dim,.slice a.s.f.a a.s.f.len a.s.f.cap,.int .i64 a.st,.int .i64 a.sy,.slice a.fa a.fl a.fc,.slice a.ta a.tl a.tc,.bool bk,.map (some bm),.pointer none,.pointer none]
def Mu (S:PS) (a:AV) (lo:Nat):Asr:=fun v w=>∃ f0,v=jS a.s.f f0∧gT lo w S f0 (bP S)
theorem Jq {S:PS} {a:AV} {lo:Nat}:iZ (Mu S a lo):=fun v w w' ⟨f0,h1,h2⟩ hb=>⟨f0,h1,h2.below hb⟩
def Mv (lo:Nat):Asr:=fun v w=>∃ bm,v = .map (some bm)∧lo≤bm∧w.heap[bm]?=some (.map #[] 0)
theorem Jr {lo:Nat}:iZ (Mv lo):=fun v w w' ⟨bm,h1,h2,h3⟩ hb=>⟨bm,h1,h2,(hb.block _ (bY h3)).trans h3⟩
def Wh (S:PS) (a:AV) (bk:Bool) (lo:Nat):Asr:=fun v w=>∃ f0 bm,v = .agg (wG f0 a bk bm).toArray∧lo≤bm∧w.heap[bm]?=some (.map #[] 0)∧gT lo w S f0 (bP S)
theorem Mw {S:PS} {a:AV} {bk:Bool} {lo:Nat}:iZ (Wh S a bk lo):=fun v w w' ⟨f0,bm,h1,h2,h3,h4⟩ hb=>⟨f0,bm,h1,h2,(hb.block _ (bY h3)).trans h3,h4.below hb⟩
def O6 (S:PS) (a:AV) (bk:Bool) (lo:Nat):Asr:=fun v w=>∃ (RB:Nat) (f0:WF) (bm:Nat) (w9:World),v = .pointer (some ⟨RB,0,none⟩)∧lo≤bm∧bm < RB∧RB=w9.heap.size∧w9.heap[bm]?=some (.map #[] 0)∧gT lo w9 S f0 (bP S)∧(∀ p,p < RB→w.heap[p]?=w9.heap[p]?)∧w.heap[RB]?=some (.cells (wG f0 a bk bm).toArray 109 (0,0))
theorem Bv {S:PS} {a:AV} {bk:Bool} {lo:Nat}:iZ (O6 S a bk lo):=fun v w w' ⟨RB,f0,bm,w9,h1,h2,h3,h4,h5,h6,h7,h8⟩ hb=>⟨RB,f0,bm,w9,h1,h2,h3,h4,h5,h6,fun p hp=>(hb.block p (Nat.lt_trans hp (bY h8))).trans (h7 p hp),(hb.block _ (bY h8)).trans h8⟩
theorem rd_zero {w0 W w9:World} {S:PS} {f0:WF} {K:List (Nat×World)} {lo bm RB:Nat} (hX:gT lo w9 S f0 (bP S)) (h9:RB=w9.heap.size) (hm:w9.heap[bm]?=some (.map #[] 0)) (hbm:bm < RB) (hp:∀ p,p < RB→W.heap[p]?=w9.heap[p]?) (hRB:RB < W.heap.size):mE w0 ((lo,pG W bm)::(bm+1,pG W RB)::K) (fun W2=>XIs W2 S f0 (bP S)):=fun {O2 G2 K2 W2} h2 hk=>by
 refine (hX.skip (w':=W2) fun a v hb hv=>?_).is
 have hlt:a.block < RB:=by rw [h9];exact jK hv
 have hne:a.block≠bm:=fun e=>by
  unfold World.cell? at hv
  rw [e,hm] at hv
  cases hv
 have key:W2.heap[a.block]?=w9.heap[a.block]?:=by
  rcases Nat.lt_or_ge a.block bm with h3 | h3
  ·have h4:=(h2.kept _ (hk _ List.mem_cons_self)).1.2 a.block hb (by dsimp only;rw [iS (by omega)];exact h3)
   rw [h4]
   exact (wF (by omega) h3).trans (hp _ hlt)
  ·have h4:=(h2.kept _ (hk _ (List.mem_cons_of_mem _ List.mem_cons_self))).1.2 a.block (by dsimp only;omega) (by dsimp only;rw [iS (by omega)];exact hlt)
   rw [h4]
   exact (wF (by omega) hlt).trans (hp _ hlt)
 exact (World.cell?_of_block key).trans hv
abbrev VecP (n:Nat) (v:Value) (ON:Own):Prop:=∃ VB IB WB,v = .pointer (some ⟨VB,0,none⟩)∧ON=[(VB,gU (.slice none 0 0) n IB WB,139),(IB,List.replicate n (Value.bool false),4),(WB,wC (List.replicate n (⟨false,0,0,none,0,0,[],none,0,0,[],none,0,0⟩:WF)),44)]
abbrev vecO (n VB IB WB:Nat):Own:=[(VB,gU (.slice none 0 0) n IB WB,139),(IB,List.replicate n (Value.bool false),4),(WB,wC (List.replicate n (⟨false,0,0,none,0,0,[],none,0,0,[],none,0,0⟩:WF)),44)]
theorem Bw {w0 W:World} {O:Own} {G:cU} {K:List (Nat×World)} {n i:Nat} (hS:St w0 O G K W) (hn:n≤4096) {R:Nat→Value→Own→Prop} (hR:∀ v ON,VecP n v ON→R i v ON):Calls prog 93 #[.int .i64 (n:Int)] W fun e w'=>∃ v ON,e = .returned v∧R i v ON∧St w0 (ON++O) G K w':=by
 refine (Rr n W hn).mono ?_
 rintro e w' ⟨VB,IB,WB,rfl,l1,l2,l3,h1,h2,h3,hb⟩
 exact ⟨_,_,rfl,hR _ _ ⟨VB,IB,WB,rfl,rfl⟩,vec_own hS (hS.grow hb) l1 l2 l3 h1 h2 h3⟩
theorem Wi {s:Mks} {A X R:Own} (hm:∀ q∈s,q.1∈[4,7,10]) (hd:s.Pairwise (fun p q=>p.1≠q.1)) (h4:(4,A)∈s) (h7:(7,X)∈s) (h10:(10,R)∈s):(Jn s).Perm (A++(X++R)):=by
 have huniq:∀ p∈s,∀ q∈s,p.1=q.1→p=q:=by
  clear hm h4 h7 h10
  induction hd with
  | nil=>intro p hp;cases hp
  | cons h1 _ ih =>
   intro p hp q hq e
   rcases List.mem_cons.1 hp with h5 | h5<;>rcases List.mem_cons.1 hq with h6 | h6
   ·rw [h5,h6]
   ·rw [h5] at e;exact absurd e (h1 _ h6)
   ·rw [h6] at e;exact absurd e.symm (h1 _ h5)
   ·exact ih p h5 q h6 e
 have hnd:s.Nodup:=hd.imp (fun h e=>h (by rw [e]))
 have hp:s.Perm [(4,A),(7,X),(10,R)]:=(List.perm_ext_iff_of_nodup hnd (by simp)).2 fun q=>by
  constructor
  ·intro hq
   have h9:=hm q hq
   simp only [List.mem_cons,List.not_mem_nil,or_false] at h9 ⊢
   rcases h9 with h9 | h9 | h9
   ·exact .inl (huniq q hq _ h4 h9)
   ·exact .inr (.inl (huniq q hq _ h7 h9))
   ·exact .inr (.inr (huniq q hq _ h10 h9))
  ·intro hq
   simp only [List.mem_cons,List.not_mem_nil,or_false] at hq
   rcases hq with rfl | rfl | rfl<;>assumption
 have h9:=hp.flatMap_right (f:=fun q=>q.2)
 simpa [Jn] using h9
theorem wH (S:PS) (a:AV) (bk:Bool) (n:Nat) (Ot:Own) (K:List (Nat×World)) (w0:World) (w:World) (hS0:St w0 Ot [] K w) (hsi:SIs w0 S a.s.f) (hok:S.ok) (hst:a.st=(n:Int)) (hn:n≤4096) :
  Calls prog 53 #[a.val,.bool bk] w (fun e w'=>∃ (RB VA IA WA VX IX WX bm:Nat) (f0:WF) (Kr:List (Nat×World)),e = .returned (.pointer (some ⟨RB,0,none⟩))∧(∀ q∈K,q∈Kr)∧mE w0 Kr (fun W2=>XIs W2 S f0 (bP S))∧w0.heap.size≤bm∧w'.heap[bm]?=some (.map #[] 0)∧(∀ q∈Kr,bm < q.1∨q.2.heap.size≤bm)∧St w0 ((VA,gU (.slice none 0 0) n IA WA,139)::(IA,List.replicate n (Value.bool false),4)::(WA,wC (List.replicate n (⟨false,0,0,none,0,0,[],none,0,0,[],none,0,0⟩:WF)),44)::(VX,gU (.slice none 0 0) n IX WX,139)::(IX,List.replicate n (Value.bool false),4)::(WX,wC (List.replicate n (⟨false,0,0,none,0,0,[],none,0,0,[],none,0,0⟩:WF)),44)::(RB,rdC f0 a bk bm VA VX,109)::Ot) [] Kr w'):=by
 refine cB (args:=[a.val,.bool bk]) func53 rfl ntmps53 rfl ?_
 have hS:=hS0
 refine aJ (aQ (bR (cs:=[_,_,_,_,_,_,_]) hS rfl rfl rfl fun B1 W1 hS=>aC rfl rfl (aN (XF.thenN (aJ ?_)))))
 have hSb:=hS
 refine mK (m:=9) cD hS (by kernel_rfl) (by kernel_rfl) rfl (cJ 1 rfl 2 rfl rfl (fun w hw=>aV (o':=0) jL rfl rfl) rfl (aZ 2 rfl 6 0 rfl rfl rfl (fun w hw=>aX (vs:=[_,_,_]) isAgg25 sizeOf25 rfl (aB.agree (aK hw 0) (Nat.zero_le _) (aB.own (j:=0) (m:=3) (hS.at_ 0 rfl) rfl))) rfl ?_))
 refine aI 3 rfl (Mu S a W1.heap.size) (Jq) (cR [isV _] rfl goes_36 (aR rfl) ⟨bU (aL 1 (aA rfl rfl rfl)),trivial⟩ (fun vs w' hb hh=>by have e:=cA (us:=[_]) hh;subst e;exact (Rb S a.s.f w' (hsi.below (hS.below.trans (hb.mono hS.below.size))) hok).mono fun e w2 ⟨f0,h1,h2,h3⟩=>⟨_,h1,⟨f0,rfl,h2.mono hb.size⟩,h3⟩) (aD rfl)) ?_
 refine cJ 4 rfl 2 rfl rfl (fun w hw=>aX (vs:=[_,_,_,_,_,_,_]) isAgg29 sizeOf29 rfl (aB.agree (aK hw 0) (Nat.zero_le _) (aB.own (j:=0) (m:=7) (hS.at_ 0 rfl) rfl))) rfl (cJ 5 rfl 1 rfl rfl (fun w hw=>aY rfl) rfl ?_)
 refine aI 6 rfl (Mv W1.heap.size) (Jr) (Gl [] rfl trivial (fun ev w9 hb9 hd9=>⟨.map (some w9.heap.size),w9.alloc (.map #[] 0),by unfold execOp;simp [Instr.makeMap,Result.andThen],⟨w9.heap.size,rfl,hb9.size,heap_alloc_new w9 _⟩,(Below.refl _ _).alloc (Nat.le_refl _) _⟩) (aD rfl)) ?_
 refine aI 7 rfl (Wh S a bk W1.heap.size) (Mw) (Gl [(2,8,Mu S a W1.heap.size),(3,9,isV a.val),(4,10,isV (.bool bk)),(5,11,Mv W1.heap.size)] rfl ⟨⟨by kernel_rfl,aA rfl rfl rfl⟩,⟨by kernel_rfl,aA rfl rfl rfl⟩,⟨by kernel_rfl,aA rfl rfl rfl⟩,⟨by kernel_rfl,aA rfl rfl rfl⟩,trivial⟩ (fun ev w9 hb9 hd9=>by
  obtain ⟨⟨f0,e1,h1⟩,e2,e3,⟨bm,e4,h4,h5⟩,_⟩:=hd9
  have e2:ev (.tmp 9)=a.val:=e2
  have e3:ev (.tmp 10) = .bool bk:=e3
  have e1:ev (.tmp 8)=jS a.s.f f0:=e1
  have e4:ev (.tmp 11) = .map (some bm):=e4
  have hr9:=run_build w9 109 #[(0,jS a.s.f f0),(1,a.val),(2,.bool bk),(3,.map (some bm))] _ (P:=prog) (yP _ _ _ _ _ _ _ _ _ _ _ _ _ _ _ _  bk (some bm))
  exact ⟨_,w9,by unfold execOp;simp only [List.map_toArray,List.map_cons,List.map_nil,e1,e2,e3,e4];simp [hr9],⟨f0,bm,rfl,h4,h5,h1⟩,Below.refl _ _⟩) (aD rfl)) ?_
 refine aI 8 rfl (O6 S a bk W1.heap.size) (Bv) (Gl [(6,12,Wh S a bk W1.heap.size)] rfl ⟨⟨by kernel_rfl,aA rfl rfl rfl⟩,trivial⟩ (fun ev w9 hb9 hd9=>by
  obtain ⟨⟨f0,bm,e1,h1,h2,h3⟩,_⟩:=hd9
  have e1:ev (.tmp 12) = .agg (wG f0 a bk bm).toArray:=e1
  exact ⟨.pointer (some ⟨w9.heap.size,0,none⟩),w9.alloc (.cells (wG f0 a bk bm).toArray 109),by unfold execOp;simp only [];rw [e1];simp [Instr.box,newVar,newRow];rfl,⟨w9.heap.size,f0,bm,w9,rfl,h1,bY h2,rfl,h2,h3,fun p hp=>Below.heap_alloc w9 _ _ hp,heap_alloc_new w9 _⟩,(Below.refl _ _).alloc (Nat.le_refl _) _⟩) (aD rfl)) ?_
 refine aI 9 rfl (O6 S a bk W1.heap.size) (Bv) (Gl [(7,13,O6 S a bk W1.heap.size)] rfl ⟨⟨by kernel_rfl,aA rfl rfl rfl⟩,trivial⟩ (fun ev w9 hb9 hd9=>⟨ev (.tmp 13),w9,by unfold execOp;rfl,hd9.1,Below.refl _ _⟩) (aD rfl)) ?_
 refine dV ?_
 intro W2 hbR hS'
 clear hS;have hS:=hS';clear hS'
 refine aG (aG ?_)
 refine dE ?_;intro _ _
 refine aG (aG ?_)
 refine dE ?_;intro _ _
 refine dE ?_;intro _ _
 refine dE ?_;intro _ _
 refine dE ?_;rintro _ ⟨RB,f0,bm,w9,rfl,hm1,hm2,hm3,hm4,hX9,hp9,hR9⟩
 refine cO (XF.thenN (aJ ?_))
 have hlt9:=bY hR9
 have hRB0:W1.heap.size≤RB:=by omega
 have hltO:=hSb.own_lt
 have hS8:St w0 ((RB,wG f0 a bk bm,109)::(B1,a.seven,29)::Ot) [] K W2:=hSb.adoptL (N:=[(RB,wG f0 a bk bm,109)]) (hS.keep K (fun q hq=>by simp [hq])) (fun p hp=>by simp at hp;subst hp;exact ⟨hRB0,hR9⟩) (by simp)
 have hS7:=(hS8.markCut (n1:=bm+1) (n2:=RB) (Nat.le_of_lt hlt9) (fun p hp=>by
  rcases List.mem_cons.1 hp with rfl | hp
  ·exact .inr (Nat.le_refl _)
  ·have:=hltO p hp;exact .inl (by omega))).markCut (n1:=W1.heap.size) (n2:=bm) (by omega) (fun p hp=>by
  rcases List.mem_cons.1 hp with rfl | hp
  ·exact .inr (by dsimp only;omega)
  ·exact .inl (hltO p hp))
 clear hS;have hS:=hS7;clear hS7
 have H0:mE w0 ((W1.heap.size,pG W2 bm)::(bm+1,pG W2 RB)::K) (fun W2=>XIs W2 S f0 (bP S)):=rd_zero hX9 hm3 hm4 hm2 hp9 hlt9
 have hbm0:W2.heap[bm]?=some (.map #[] 0):=(hp9 bm hm2).trans hm4
 obtain ⟨Kr,hKr⟩:∃ k,k=(W1.heap.size,pG W2 bm)::(bm+1,pG W2 RB)::K:=⟨_,rfl⟩
 rw [← hKr] at hS H0
 have hS:=hS.markCut (n1:=bm) (n2:=bm+1) (by omega) (fun p hp=>by
  rcases List.mem_cons.1 hp with rfl | hp
  ·exact .inr hm2
  ·have:=hltO p hp;exact .inl (by omega))
 obtain ⟨Kq,hKq⟩:∃ k,k=(bm,pG W2 (bm+1))::Kr:=⟨_,rfl⟩
 rw [← hKq] at hS
 obtain ⟨W9,hW9⟩:∃ w,w=W2:=⟨_,rfl⟩
 rw [← hW9] at hKq hbm0 hlt9 hKr
 refine Wg (mk:=[4,7,10]) (k:=11) (vals:=fun i=>match i with | 0=>.pointer (some ⟨RB,0,none⟩) | 1=>.pointer (some ⟨RB,0,none⟩) | 2=>.pointer (some ⟨B1,0+3,none⟩) | 3=>.int .i64 (n:Int) | 5=>.pointer (some ⟨B1,0+3,none⟩) | 6=>.int .i64 (n:Int) | 8=>.pointer (some ⟨RB,0,none⟩) | _=>.pointer (some ⟨RB,0+18,none⟩)) (Pm:=fun i v ON=>i≠10→VecP n v ON) (fun s w=>St w0 (Jn s++((if s.any (fun q=>Nat.beq q.1 10) then [] else [(RB,wG f0 a bk bm,109)])++(B1,a.seven,29)::Ot)) [] Kq w∧∀ ON,(10,ON)∈s→∃ VA IA WA,(4,vecO n VA IA WA)∈s∧ON=[(RB,(wG f0 a bk bm).set 18 (.pointer (some ⟨VA,0,none⟩)),109)]) cD ⟨hS.grow (Below.refl _ _).drew,fun ON h=>by cases h⟩ (Nat.le_of_ble_eq_true (by kernel_rfl)) (by kernel_rfl) (by kernel_rfl) ?_ ?_ (by decide) ?_
 ·intro i hi hin s a0 c9 w ha0 hF9 hG hD
  have hfr:∀ t v,freeT _ t=true→look _ t=some v→c9.eval (.tmp t)=v:=fun t v h1 h2=>(hF9 t h1).trans (ha0.at_ t v h2)
  have hown:∃ N,St w0 (N++((B1,a.seven,29)::Ot)) [] Kq w:=⟨Jn s++(if s.any (fun q=>Nat.beq q.1 10) then [] else [(RB,wG f0 a bk bm,109)]),by rw [List.append_assoc];exact hG.1⟩
  obtain ⟨N9,hS9⟩:=hown
  have hB9:=hS9.own (B1,a.seven,29) (by simp)
  match i,hi,hin with
  | 0,_,_=>exact ⟨_,rfl,rfl,by
   exact aY (l:=[(5,.pointer (some ⟨RB,0,none⟩))]) rfl c9.eval (iC (hfr 5 _ (by kernel_rfl) rfl))⟩
  | 1,_,_=>exact ⟨_,rfl,rfl,by
   exact aY (l:=[(5,.pointer (some ⟨RB,0,none⟩))]) rfl c9.eval (iC (hfr 5 _ (by kernel_rfl) rfl))⟩
  | 2,_,_=>exact ⟨_,rfl,rfl,by
   exact aV (l:=[(2,.pointer (some ⟨B1,0,none⟩))]) kO rfl rfl c9.eval (iC (hfr 2 _ (by kernel_rfl) rfl))⟩
  | 5,_,_=>exact ⟨_,rfl,rfl,by
   exact aV (l:=[(2,.pointer (some ⟨B1,0,none⟩))]) kO rfl rfl c9.eval (iC (hfr 2 _ (by kernel_rfl) rfl))⟩
  | 3,_,_=>exact ⟨_,rfl,rfl,by
   have h9:=(hD 2 16 (by kernel_rfl)).1 (by decide)
   have hc9:=aH (j:=3) hB9.2 rfl
   rw [hst] at hc9
   exact bC (l:=[(16,.pointer (some ⟨B1,0+3,none⟩))]) isAgg3 rfl hc9 c9.eval (iC h9)⟩
  | 6,_,_=>exact ⟨_,rfl,rfl,by
   have h9:=(hD 5 19 (by kernel_rfl)).1 (by decide)
   have hc9:=aH (j:=3) hB9.2 rfl
   rw [hst] at hc9
   exact bC (l:=[(19,.pointer (some ⟨B1,0+3,none⟩))]) isAgg3 rfl hc9 c9.eval (iC h9)⟩
  | 8,_,_=>exact ⟨_,rfl,rfl,by
   have h9:=(hD 0 14 (by kernel_rfl)).1 (by decide)
   exact cT (l:=[(14,.pointer (some ⟨RB,0,none⟩))]) rfl c9.eval (iC h9)⟩
  | 9,_,_=>exact ⟨_,rfl,rfl,by
   have h9:=(hD 8 22 (by kernel_rfl)).1 (by decide)
   exact aV (l:=[(22,.pointer (some ⟨RB,0,none⟩))]) kR rfl rfl c9.eval (iC h9)⟩
  | 4,_,h9=>exact absurd (by decide) h9
  | 7,_,h9=>exact absurd (by decide) h9
  | 10,_,h9=>exact absurd (by decide) h9
  | i+11,h9,_=>omega
 ·intro i him s a0 c9 w ha0 hF9 hG hnew hD
  have hcase:i=4∨i=7∨i=10:=by simpa using him
  rcases hcase with rfl | rfl | rfl
  ·have h9:=(hD 3 17 (by kernel_rfl)).1 (by decide)
   refine tA rfl O5 (vs:=[.int .i64 (n:Int)]) (by simp only [List.map_cons,List.map_nil,h9]) ((Bw hG.1 hn (R:=fun i v ON=>i≠10→VecP n v ON) (i:=4) (fun v ON h _=>h)).mono ?_)
   rintro e w' ⟨v,ON,rfl,hP,hS9⟩
   refine ⟨v,ON,rfl,hP,?_,fun ON' h=>?_⟩
   ·show St w0 ((List.flatMap (·.2) ((4,ON)::s))++_) _ _ _
    rw [List.flatMap_cons,List.append_assoc]
    exact hS9
   ·rcases List.mem_cons.1 h with h | h
    ·cases h
    ·obtain ⟨VA,IA,WA,h1,h2⟩:=hG.2 ON' h
     exact ⟨VA,IA,WA,List.mem_cons_of_mem _ h1,h2⟩
  ·have h9:=(hD 6 20 (by kernel_rfl)).1 (by decide)
   refine tA rfl O5 (vs:=[.int .i64 (n:Int)]) (by simp only [List.map_cons,List.map_nil,h9]) ((Bw hG.1 hn (R:=fun i v ON=>i≠10→VecP n v ON) (i:=7) (fun v ON h _=>h)).mono ?_)
   rintro e w' ⟨v,ON,rfl,hP,hS9⟩
   refine ⟨v,ON,rfl,hP,?_,fun ON' h=>?_⟩
   ·show St w0 ((List.flatMap (·.2) ((7,ON)::s))++_) _ _ _
    rw [List.flatMap_cons,List.append_assoc]
    exact hS9
   ·rcases List.mem_cons.1 h with h | h
    ·cases h
    ·obtain ⟨VA,IA,WA,h1,h2⟩:=hG.2 ON' h
     exact ⟨VA,IA,WA,List.mem_cons_of_mem _ h1,h2⟩
  ·have h9:=(hD 9 23 (by kernel_rfl)).1 (by decide)
   obtain ⟨ON4,h4,hP4⟩:=(hD 4 18 (by kernel_rfl)).2 (by decide)
   obtain ⟨VA,IA,WA,hv4,hO4⟩:=hP4 (by decide)
   have hno:s.any (fun q=>Nat.beq q.1 10)=false:=by
    rw [List.any_eq_false]
    intro q hq h8
    exact hnew q.2 (by rw [← Nat.eq_of_beq_eq_true h8];exact hq)
   have hS9:=hG.1
   rw [hno] at hS9
   have hi9:(Jn s++((RB,wG f0 a bk bm,109)::(B1,a.seven,29)::Ot))[(Jn s).length]?=some (RB,wG f0 a bk bm,109):=by simp
   have hS8:=hS9.set (Jn s).length hi9 18 (.pointer (some ⟨VA,0,none⟩))
   refine Jo rfl sizeOf107 h9 hv4 rfl (hS9.own _ (List.mem_of_getElem? hi9)).2 (show 18 < 20 by decide) (⟨undef,[(RB,(wG f0 a bk bm).set 18 (.pointer (some ⟨VA,0,none⟩)),109)],rfl,fun h=>absurd rfl h,?_,fun ON' h=>?_⟩)
   ·show St w0 (((RB,(wG f0 a bk bm).set 18 _,109)::Jn s)++([]++_)) _ _ _
    refine hS8.perm ?_
    rw [List.set_append_right _ _ (Nat.le_refl _),Nat.sub_self]
    exact List.perm_middle
   ·rcases List.mem_cons.1 h with h | h
    ·cases h
     exact ⟨VA,IA,WA,List.mem_cons_of_mem _ (by rw [show vecO n VA IA WA=ON4 from hO4.symm];exact h4),rfl⟩
    ·exact absurd h (hnew ON')
 ·intro s c9 w hG hsz hdf hfr hval hin hmk hkeys hdist
  obtain ⟨O10,h10⟩:=hin 10 (by decide)
  obtain ⟨VA,IA,WA,h4,e10⟩:=hG.2 O10 h10
  obtain ⟨O4,h4',hP4⟩:=hmk 4 18 (by decide) rfl
  obtain ⟨O7,h7,hP7⟩:=hmk 7 21 (by decide) rfl
  obtain ⟨VX,IX,WX,hv7,e7⟩:=hP7 (by decide)
  obtain ⟨VA',IA',WA',hv4,e4⟩:=hP4 (by decide)
  have hany:s.any (fun q=>Nat.beq q.1 10)=true:=List.any_eq_true.2 ⟨_,h10,rfl⟩
  have hS9:=hG.1
  rw [hany] at hS9
  have hS9:=hS9.perm ((Wi hkeys hdist h4 h7 h10).append_right _)
  subst e10;subst e7
  have hS:St w0 (((VA,gU (.slice none 0 0) n IA WA,139)::(IA,List.replicate n (Value.bool false),4)::(WA,wC (List.replicate n (⟨false,0,0,none,0,0,[],none,0,0,[],none,0,0⟩:WF)),44)::(VX,gU (.slice none 0 0) n IX WX,139)::(IX,List.replicate n (Value.bool false),4)::(WX,wC (List.replicate n (⟨false,0,0,none,0,0,[],none,0,0,[],none,0,0⟩:WF)),44)::(RB,(wG f0 a bk bm).set 18 (.pointer (some ⟨VA,0,none⟩)),109)::(B1,a.seven,29)::Ot)) [] Kq w:=hS9
  refine (show cS _ _ _ _ (List.drop 11 _) [(5,.pointer (some ⟨RB,0,none⟩)),(21,.pointer (some ⟨VX,0,none⟩)),(15,.pointer (some ⟨RB,0,none⟩))] w from ?_) c9 (Jp.has hsz hdf ⟨hfr 5 _ (by kernel_rfl) rfl,hv7,hval 1 15 (by decide) (by decide) rfl,trivial⟩)
  refine cM rfl rfl (aO (o':=19) sC rfl rfl rfl (dS (i:=6) (cs':=[_,_,_,_,_,_,_,_,_,_,_,_,_,_,_,_,_,_,_,_]) (O':=(_::_::_::_::_::_::_::_::Ot)) hS sizeOf107 rfl rfl rfl rfl rfl rfl rfl fun W3 hS=>aN (XF.thenN (aJ (aQ (aE rfl rfl (aC rfl rfl (aN (XF.thenN (bX (XF.res (cQ results53 rfl) ?_)))))))))))
  have hmap9:=(hS.kept (bm,pG W9 (bm+1)) (by rw [hKq];exact List.mem_cons_self)).1.2 bm (Nat.le_refl _) (by dsimp only;rw [iS (by omega)];omega)
  rw [wF (by omega) (Nat.lt_succ_self _),hbm0] at hmap9
  have hS5:=(hS.keep Kr (fun q hq=>by rw [hKq];exact List.mem_cons_of_mem _ hq)).drop8
  have hKbm:∀ q∈Kr,bm < q.1∨q.2.heap.size≤bm:=fun q hq=>by
   rw [hKr] at hq
   simp only [List.mem_cons] at hq
   rcases hq with rfl | rfl | hq
   ·exact .inr (by rw [iS (by omega)];exact Nat.le_refl _)
   ·exact .inl (Nat.lt_succ_self _)
   ·exact .inr (Nat.le_trans (hSb.kept q hq).1.1 hm1)
  exact ⟨RB,VA,IA,WA,VX,IX,WX,bm,f0,Kr,rfl,(fun q hq=>by rw [hKr];simp [hq]),H0,Nat.le_trans hSb.below.size hm1,hmap9,hKbm,hS5⟩
end Go.Proofs.YtmgnkpibpjgncaaGreatDoor
namespace Go.Proofs.YtmgnkpibpjgncaaGreatDoor
open Go.Proofs.Tryz
open Go Go.RowKit
open Go.WideMaps (KeyLaw)
abbrev kv (k:Int×Int):Value:=.agg #[.int .i64 k.1,.int .i64 k.2]
theorem Gu (x y:Int×Int) (h:kv x=kv y):x=y:=by
 obtain ⟨a,b⟩:=x
 obtain ⟨c,d⟩:=y
 simp at h
 rw [h.1,h.2]
theorem Rt {a b:Nat} (h:a < b):b=b - 1+1:=by omega
theorem Wj:prog.cellsOf 3=1:=by kernel_rfl
theorem wI {x:Int} (h0:0≤x) (h1:x≤1000000):(Lit.int .i64 x).wf=true:=by
 have e1:IntKind.i64.min = -9223372036854775808:=rfl
 have e2:IntKind.i64.max=9223372036854775807:=rfl
 simp [Lit.wf]
 omega
theorem Wk:(136:TypeId) < prog.types.size:=of_decide_eq_true (by kernel_rfl)
theorem plcSize:prog.types.size=prog.types.size - 1+1:=Rt Wk
theorem plcWide:(match prog.underlying 136 with | some (.array _ _) | some (.struct _)=>true | _=>false)=true:=by rw [underlying136]
theorem Gv:KeyLaw prog 136:=deep_law_laid (by kernel_rfl) (m:=2) (by omega) Wk (by kernel_rfl) plcWide
theorem Js:prog.cellsOf 136=2:=by kernel_rfl
theorem Gw {p g:Int} (hp:(Lit.int .i64 p).wf=true) (hg:(Lit.int .i64 g).wf=true):∃ l,keyOf prog 136 (kv (p,g))=some l:=by
 have h1:prog.keyType 136=true:=by kernel_rfl
 have h2:(kv (p,g)).formed prog 136=true:=by simp [Value.formed,underlying136,Js]
 have hi:∀ (d:Nat) (x:Int),(Lit.int .i64 x).wf=true→prog.keyLits (d+1) 3 [.int .i64 x]=some [.int .i64 x]:=fun d x hx=>by simp [Program.keyLits,underlying3,hx]
 obtain ⟨m,hm⟩:∃ m,prog.types.size=m+1:=⟨prog.types.size - 1,plcSize⟩
 unfold keyOf
 rw [underlying136]
 simp only [h1,h2,Bool.and_self,if_true]
 rw [hm]
 simp [Program.keyLits,underlying136,Js,Wj,hi m p hp,hi m g hg,Value.cells,hp,hg]
theorem Gx {x:Int} (h0 : -1≤x) (h1:x≤1000000):(Lit.int .i64 x).wf=true:=by
 have e1:IntKind.i64.min = -9223372036854775808:=rfl
 have e2:IntKind.i64.max=9223372036854775807:=rfl
 simp [Lit.wf]
 omega
end Go.Proofs.YtmgnkpibpjgncaaGreatDoor
namespace Go.Proofs.YtmgnkpibpjgncaaGreatDoor
open Go.Proofs.Tryz
open Go Go.RowKit
theorem oF (v0:Int) (v1:Int):prog.built 136 [(0,.int .i64 v0),(1,.int .i64 v1)]=some #[.int .i64 v0,.int .i64 v1]:=by kernel_rfl
theorem sD (w:World) (b o:Nat):(Instr.fieldAt 109 (.pointer (some ⟨b,o,none⟩)) 1).run prog w = .ok (.pointer (some ⟨b,o+9,none⟩)) w:=by
 simp [Instr.fieldAt,run_underlying underlying109,Instr.sureAddr,go_sem,Addr.add_lit]
theorem wJ (w:World) (b o:Nat):(Instr.fieldAt 109 (.pointer (some ⟨b,o,none⟩)) 3).run prog w = .ok (.pointer (some ⟨b,o+17,none⟩)) w:=by
 simp [Instr.fieldAt,run_underlying underlying109,Instr.sureAddr,go_sem,Addr.add_lit]
theorem St.unkeep {w0 W:World} {O:Own} {q:Nat×World} {K:List (Nat×World)} (h:St w0 O [] (q::K) W):St w0 O [] K W:=⟨h.below,h.own,h.dist,fun q hq=>h.kept q (List.mem_cons_of_mem _ hq),(fun g hg=>by cases hg),List.Pairwise.nil⟩
theorem Jt {P:Program} {t E:TypeId} {z x:Value} (hU:P.underlying t=some (.slice E)) (hs:∀ w,(sizeOf E).run P w = .ok 1 w) (hz:∀ w,(zeroValue E).run P w = .ok z w) (hf:Instr.fill (fun i=>some (i * 1,1)) ((Array.range (1 * 1)).map (z.cells[· % z.cells.size]!)) [(0,x)]=some (List.toArray [x])) {d s:Nat} {ty:TypeId} {pos:String} {aft:Array Edge} (ev:Operand→Value) (w:World) (hx:ev (.tmp s)=x) :
  (execOp ev ⟨some d,.buildSlice t 1 #[(0,.tmp s)],ty,pos,aft,none⟩).run P w = .ok (.value (.slice (some ⟨w.heap.size,0,none⟩) 1 1)) (w.alloc (.cells #[x] E)):=by
 unfold execOp
 simp only [List.map_toArray,List.map_cons,List.map_nil,hx]
 simp only [Instr.buildSlice,Sem.run_bind,run_underlying hU,Result.andThen_ok,hs,if_neg (show ¬ (1 * 1 > 2 ^ 24) by omega),if_neg (show ¬ (1 * 1=0) by omega),hz,Sem.run_pure,hf,newRow,run_newObj_alloc]
def byT (kf:TV→Int×Int):List TV→Nat→Int×Int→List Int
 | [],_,_=>[]
 | t::ts,i,k=>if k=kf t then (i:Int)::byT kf ts (i+1) k else byT kf ts (i+1) k
theorem Pa (kf:TV→Int×Int) (t:TV) (k:Int×Int):∀ (ts:List TV) (i:Nat),byT kf (ts++[t]) i k=byT kf ts i k++(if k=kf t then [((i+ts.length:Nat):Int)] else [])
 | [],i=>by simp only [byT,List.nil_append,List.length_nil,Nat.add_zero]
 | x::ts,i=>by
  simp only [List.cons_append,byT,Pa kf t k ts (i+1),List.length_cons]
  rw [show i+1+ts.length=i+(ts.length+1) by omega]
  by_cases h:k=kf x
  ·rw [if_pos h,if_pos h];rfl
  ·rw [if_neg h,if_neg h]
theorem Wl {kf:TV→Int×Int} {ts:List TV} {i:Nat} {t:TV} (h:ts[i]?=some t) (k:Int×Int):byT kf (ts.take (i+1)) 0 k=byT kf (ts.take i) 0 k++(if k=kf t then [(i:Int)] else []):=by
 rw [List.take_add_one,h]
 show byT kf (ts.take i++[t]) 0 k=_
 rw [Pa,List.length_take,Nat.min_eq_left (Nat.le_of_lt (List.getElem?_eq_some_iff.1 h).1),Nat.zero_add]
theorem qF (kf:TV→Int×Int) (k:Int×Int):∀ (ts:List TV) (i:Nat),(byT kf ts i k).length≤ts.length
 | [],_=>Nat.le_refl _
 | x::ts,i=>by
  have:=qF kf k ts (i+1)
  unfold byT
  split<;>simp<;>omega
theorem tC {kf:TV→Int×Int} {k:Int×Int} {j:Int}:∀ {ts:List TV} {i:Nat},j∈byT kf ts i k↔∃ (m:Nat) (t:TV),j=((i+m:Nat):Int)∧ts[m]?=some t∧k=kf t
 | [],i=>by simp [byT]
 | x::ts,i=>by
  have ih:=@tC kf k j ts (i+1)
  unfold byT
  constructor
  ·intro h
   by_cases hk:k=kf x
   ·rw [if_pos hk] at h
    rcases List.mem_cons.1 h with h | h
    ·exact ⟨0,x,h,rfl,hk⟩
    ·obtain ⟨m,t,h1,h2,h3⟩:=ih.1 h
     exact ⟨m+1,t,by rw [h1];congr 1;omega,h2,h3⟩
   ·rw [if_neg hk] at h
    obtain ⟨m,t,h1,h2,h3⟩:=ih.1 h
    exact ⟨m+1,t,by rw [h1];congr 1;omega,h2,h3⟩
  ·rintro ⟨m,t,h1,h2,h3⟩
   cases m with
   | zero =>
    simp at h2;subst h2
    rw [if_pos h3]
    exact List.mem_cons.2 (.inl h1)
   | succ m =>
    have h9:=ih.2 ⟨m,t,by rw [h1];congr 1;omega,by simpa using h2,h3⟩
    split
    ·exact List.mem_cons_of_mem _ h9
    ·exact h9
abbrev Bx (kf:TV→Int×Int) (ts:List TV) (k:Int×Int):List Value:=(byT kf ts 0 k).map (Value.int .i64)
theorem Er {kf:TV→Int×Int} {ts:List TV} {i:Nat} {t:TV} (h:ts[i]?=some t):(fun x=>if x=kf t then Bx kf (ts.take i) (kf t)++[.int .i64 (i:Int)] else Bx kf (ts.take i) x)=Bx kf (ts.take (i+1)):=by
 funext x
 unfold Bx
 rw [Wl h x]
 by_cases e:x=kf t
 ·subst e
  rw [if_pos rfl,if_pos rfl,List.map_append];rfl
 ·rw [if_neg e,if_neg e,List.append_nil]
def GrpP (kf:TV→Int×Int) (lo:Nat) (ts:List TV) (b:Nat) (W:World):Prop:=Grp prog 136 3 kv lo (Bx kf ts) b W
def oG (w0:World) (K:List (Nat×World)) (kf:TV→Int×Int) (lo:Nat) (ts:List TV) (b:Nat):Prop:=∃ Wf,GrpP kf lo ts b Wf∧mE w0 K (fun W2=>W2.heap[b]?=Wf.heap[b]?∧∀ p,lo≤p→p < Wf.heap.size→W2.heap[p]?=Wf.heap[p]?)
theorem oG.more {w0:World} {K K':List (Nat×World)} {kf:TV→Int×Int} {lo b:Nat} {ts:List TV} (h:oG w0 K kf lo ts b) (hk:∀ q∈K,q∈K'):oG w0 K' kf lo ts b:=by
 obtain ⟨Wf,h1,h2⟩:=h
 exact ⟨Wf,h1,mE.more h2 hk⟩
abbrev kSym (t:TV):Int×Int:=(t.f,t.g)
abbrev qQ (t:TV):Int×Int:=(t.f,-1)
theorem Wm (S:PS) (a:AV) (f0:WF) (bk:Bool) (bm VA VX RB:Nat) (Ot:Own) (K:List (Nat×World)) (w0:World) (w:World) (hS0:St w0 ((RB,rdC f0 a bk bm VA VX,109)::Ot) [] K w) (hmap:w.heap[bm]?=some (.map #[] 0)) (hwb:w0.heap.size≤bm) (hKb:∀ q∈K,bm < q.1∨q.2.heap.size≤bm) (htrow:nO w0 a.ta a.ts) (htlen:a.ts.length=a.tl) (htm:a.tl≤65536) (hky:∀ t∈a.ts,(0≤t.f∧t.f≤1000000)∧(-1≤t.g∧t.g≤1000000)) :
  Calls prog 54 #[.pointer (some ⟨RB,0,none⟩)] w (fun e w'=>∃ (lo:Nat) (Kn:List (Nat×World)),e = .returned (.tuple #[])∧(∀ q∈K,q∈Kn)∧w0.heap.size≤lo∧oG w0 Kn kSym lo a.ts bm∧St w0 ((RB,rdC f0 a bk bm VA VX,109)::Ot) [] Kn w'):=by
 refine cB (args:=[.pointer (some ⟨RB,0,none⟩)]) func54 rfl ntmps54 rfl ?_
 have hS:=hS0
 obtain ⟨lo,hlo⟩:∃ lo,lo=w.heap.size:=⟨_,rfl⟩
 have hO:=zE hS hmap
 have hwl:=hS.below.size
 have hKb9:∀ q∈K,q.2.heap.size≤lo∧(bm < q.1∨q.2.heap.size≤bm):=fun q hq=>⟨by rw [hlo];exact (hS.kept q hq).1.1,hKb q hq⟩
 rw [← hlo] at hO hwl
 refine aJ (aQ (aE rfl rfl (cM rfl rfl (aO (o':=9) sD rfl rfl rfl (aO (o':=15) gF rfl rfl rfl (aT isAgg27 rfl (aH (hS.at_ 0 rfl) rfl) rfl (cX underlying27 rfl rfl (aE rfl rfl (aN (XF.thenN (bQ (eI (fun m l W=>∃ i:Nat,i≤a.tl∧m=a.tl - i∧l=[(0,.pointer (some ⟨RB,0,none⟩)),(9,.slice a.ta a.tl a.tc),(10,.int .i64 (a.tl:Int)),(11,.int .i64 (i:Int))]∧Grp prog 136 3 kv lo (Bx kSym (a.ts.take i)) bm W∧lo≤W.heap.size∧St w0 ((RB,rdC f0 a bk bm VA VX,109)::Ot) [] K W) (a.tl - 0) ([(0,_),(9,_),(10,_),(11,_)]) ⟨rfl,rfl,rfl,rfl,trivial⟩ (⟨0,Nat.zero_le _,rfl,rfl,Grp.fresh lo hmap,Nat.le_of_eq hlo,hS⟩) ?_))))))))))))
 clear hS
 rintro m l W ⟨i,hi,rfl,rfl,hM,hlo9,hS⟩
 refine aJ (aQ (cY rfl rfl rfl (aN (XF.thenN (aJ (bA rfl (fun hc=>?_) (fun hc=>?_)))))))
 ·have hc12:=of_decide_eq_true hc;clear hc
  have hk:i < a.tl:=by omega
  obtain ⟨r,hr⟩:∃ r,a.ts[i]?=some r:=⟨a.ts[i]'(by omega),by simp [show i < a.ts.length by omega]⟩
  obtain ⟨b,off,hta,hcs⟩:=htrow.at_ hr
  have k1:=aB.agree hS.agree (Nat.zero_le _) hcs
  obtain ⟨hrf,hrg⟩:=hky r (List.mem_of_getElem? hr)
  have hS:=(hS.markAt (Grp.lt hM) (fun p hp=>(hO p hp).1)).mark lo (fun p hp=>(hO p hp).2) rfl
  refine bM (XF.thenN (aJ (bQ (aJ (aQ (aE rfl rfl ?_))))))
  refine cK (j:=i) (b:=b) (o:=off) (m:=a.tl) (c:=a.tc) underlying27 sizeOf66 (by show some (Value.slice a.ta a.tl a.tc)=_;rw [hta]) rfl rfl (by omega) rfl rfl ?_
  refine aS (vs:=[_,_,_,_,_,_,_,_,_]) isAgg66 sizeOf66 rfl (k1) rfl (bB (cs:=[_,_,_,_,_,_,_,_,_]) hS zeroValue66 rfl rfl fun B1 W1 hS=>aC rfl rfl (aU (i:=0) (vs:=[_,_,_,_,_,_,_,_,_]) (cs':=[_,_,_,_,_,_,_,_,_]) (O':=(_::_::Ot)) hS sizeOf66 rfl rfl rfl rfl rfl rfl rfl fun W2 hS=>aN (XF.thenN (aJ (aQ (aO (o':=0) mR rfl rfl rfl (aT isAgg3 rfl (aH (hS.at_ 0 rfl) rfl) rfl (aO (o':=1) qD rfl rfl rfl (aT isAgg3 rfl (aH (hS.at_ 0 rfl) rfl) rfl (cV (us:=[(0,.int .i64 _),(1,.int .i64 _)]) rfl (oF _ _) rfl (bB (cs:=[_,_]) hS zeroValue136 rfl rfl fun B3 W3 hS=>aU (i:=0) (vs:=[_,_]) (cs':=[_,_]) (O':=(_::_::_::Ot)) hS sizeOf136 rfl rfl rfl rfl rfl rfl rfl fun W4 hS=>aN (XF.thenN ?_))))))))))))
  have hM8:=(Grp.same hM (fun h1=>((hS.since 1 rfl).2 bm (Nat.le_refl _) (qB h1)).trans (qC h1)) (fun p h0 h1=>(hS.since 0 rfl).2 p h0 h1))
  have hlo8:=Nat.le_trans hlo9 (hS.since 0 rfl).1
  have h9:=hM8
  obtain ⟨es9,ck9,hb9,_⟩:=h9
  have hO9:=zE hS hb9
  have hb3:=(hO9 _ (List.mem_cons_of_mem _ List.mem_cons_self)).1
  have hb4:=(hO9 _ List.mem_cons_self).1
  have hS:=hS.unkeep.unkeep
  refine Jm (n:=_) (k:=kSym r) (vals:=fun i9=>match i9 with | 0=>.pointer (some ⟨RB,0,none⟩) | 1=>.pointer (some ⟨RB,0,none⟩) | 2=>.pointer (some ⟨RB,0+17,none⟩) | 3=>.map (some bm) | 4=>kv (kSym r) | _=>.int .i64 (i:Int)) (x:=.int .i64 (i:Int)) cD hS hM8 ?_ hwb hwl hlo8 hKb9 Gv underlying106 zeroValue26 (Gw (wI hrf.1 hrf.2) (Gx hrg.1 hrg.2)) Gu underlying26 Hg rfl rfl rfl rfl (fun ev w h=>Jt underlying26 sizeOf3 zeroValue3 (hQ _) ev w h) (by have h9:=qF kSym (kSym r) (a.ts.take i) 0;rw [List.length_take] at h9;rw [List.length_map];simp only [maxLen];omega) (by have h9:=qF kSym (kSym r) (a.ts.take i) 0;rw [List.length_take] at h9;rw [List.length_map];show (_+1) * 8≤_;omega) rfl (by kernel_rfl) rfl rfl rfl ?_ rfl rfl rfl rfl rfl rfl (by kernel_rfl) (by kernel_rfl) (by kernel_rfl) (by kernel_rfl) (by kernel_rfl) (by kernel_rfl) (by kernel_rfl) (by kernel_rfl) (by kernel_rfl) (by kernel_rfl) ?_
  ·intro p hp
   rcases List.mem_cons.1 hp with rfl | hp
   ·exact ⟨hb4,.inr (show (136:Nat)≠3 by decide)⟩
   rcases List.mem_cons.1 hp with rfl | hp
   ·exact ⟨hb3,.inr (show (66:Nat)≠3 by decide)⟩
   ·exact ⟨(hO p hp).1,.inl (hO p hp).2⟩
  ·intro i9 hi9 a0 c9 w9 ha0 hF9 hS9 hD
   have hfr:∀ t v,freeT _ t=true→look _ t=some v→c9.eval (.tmp t)=v:=fun t v h1 h2=>(hF9 t h1).trans (ha0.at_ t v h2)
   have hB4:=(hS9.own _ List.mem_cons_self).2
   have hRB:=(hS9.own (RB,rdC f0 a bk bm VA VX,109) (by simp)).2
   match i9,hi9 with
   | 0,_=>exact ⟨_,rfl,rfl,by
    exact aY (l:=[(0,.pointer (some ⟨RB,0,none⟩))]) rfl c9.eval (iC (hfr 0 _ (by kernel_rfl) rfl))⟩
   | 1,_=>exact ⟨_,rfl,rfl,by
    exact cT (l:=[(21,.pointer (some ⟨RB,0,none⟩))]) rfl c9.eval (iC (hD 0 21 (by kernel_rfl)))⟩
   | 2,_=>exact ⟨_,rfl,rfl,by
    exact aV (l:=[(22,.pointer (some ⟨RB,0,none⟩))]) wJ rfl rfl c9.eval (iC (hD 1 22 (by kernel_rfl)))⟩
   | 3,_=>exact ⟨_,rfl,rfl,by
    exact bC (l:=[(23,.pointer (some ⟨RB,0+17,none⟩))]) isAgg106 rfl (aH hRB rfl) c9.eval (iC (hD 2 23 (by kernel_rfl)))⟩
   | 4,_=>exact ⟨_,rfl,rfl,by
    exact aX (l:=[(4,.pointer (some ⟨B3,0,none⟩))]) (vs:=[_,_]) isAgg136 sizeOf136 rfl (aB.own (j:=0) (m:=2) hB4 rfl) c9.eval (iC (hfr 4 _ (by kernel_rfl) rfl))⟩
   | 5,_=>exact ⟨_,rfl,rfl,by
    exact aY (l:=[(2,.int .i64 (i:Int))]) rfl c9.eval (iC (hfr 2 _ (by kernel_rfl) rfl))⟩
   | i9+6,h9=>omega
  ·intro W9 hS9 hM9 hsz10 c9 h1 h2 h3
   rw [Er hr] at hM9
   clear hS;have hS:=hS9;clear hS9
   refine (show XF _ .normal _ [(0,_),(9,_),(10,_),(11,_)] W9 from ?_) c9 (Jp.has h1 h2 ⟨h3 0 (by kernel_rfl) _ rfl,h3 9 (by kernel_rfl) _ rfl,h3 10 (by kernel_rfl) _ rfl,h3 11 (by kernel_rfl) _ rfl,trivial⟩)
   refine XF.blkN (XF.thenN (aQ (cZ rfl rfl (IntWalk.i64_in _ (by omega)) rfl (aE rfl rfl (aN ?_)))))
   exact XF.round (a.tl - (i+1)) [(0,_),(9,_),(10,_),(11,_)] (by omega) ⟨rfl,rfl,rfl,rfl,trivial⟩ ⟨i+1,by omega,rfl,rfl,hM9,Nat.le_trans hlo8 hsz10,hS.tail.tail⟩
 ·have hc12:=of_decide_eq_false hc;clear hc
  rw [List.take_of_length_le (by omega)] at hM
  have hS7:=(hS.markAt (Grp.lt hM) (fun p hp=>(hO p hp).1)).mark lo (fun p hp=>(hO p hp).2) rfl
  refine eF (XF.thenX (XF.thenX (XF.blkX (XF.resN (Km results54) (⟨lo,_,rfl,(fun q hq=>List.mem_cons_of_mem _ (List.mem_cons_of_mem _ hq)),hwl,⟨_,hM,?_⟩,hS7⟩)))))
  intro O2 G2 K2 W2 h2 hk
  have h1:=Grp.lt hM
  exact ⟨((h2.kept _ (hk _ (List.mem_cons_of_mem _ List.mem_cons_self))).1.2 bm (Nat.le_refl _) (qB h1)).trans (qC h1),fun p h3 h4=>(h2.kept _ (hk _ List.mem_cons_self)).1.2 p h3 h4⟩
theorem Ju (S:PS) (a:AV) (f0:WF) (bk:Bool) (bm VA VX RB:Nat) (Ot:Own) (K:List (Nat×World)) (w0:World) (w:World) (hS0:St w0 ((RB,rdC f0 a bk bm VA VX,109)::Ot) [] K w) (hmap:w.heap[bm]?=some (.map #[] 0)) (hwb:w0.heap.size≤bm) (hKb:∀ q∈K,bm < q.1∨q.2.heap.size≤bm) (htrow:nO w0 a.ta a.ts) (htlen:a.ts.length=a.tl) (htm:a.tl≤65536) (hky:∀ t∈a.ts,(0≤t.f∧t.f≤1000000)∧(-1≤t.g∧t.g≤1000000)) :
  Calls prog 63 #[.pointer (some ⟨RB,0,none⟩)] w (fun e w'=>∃ (lo:Nat) (Kn:List (Nat×World)),e = .returned (.tuple #[])∧(∀ q∈K,q∈Kn)∧w0.heap.size≤lo∧oG w0 Kn qQ lo a.ts bm∧St w0 ((RB,rdC f0 a bk bm VA VX,109)::Ot) [] Kn w'):=by
 refine cB (args:=[.pointer (some ⟨RB,0,none⟩)]) func63 rfl ntmps63 rfl ?_
 have hS:=hS0
 obtain ⟨lo,hlo⟩:∃ lo,lo=w.heap.size:=⟨_,rfl⟩
 have hO:=zE hS hmap
 have hwl:=hS.below.size
 have hKb9:∀ q∈K,q.2.heap.size≤lo∧(bm < q.1∨q.2.heap.size≤bm):=fun q hq=>⟨by rw [hlo];exact (hS.kept q hq).1.1,hKb q hq⟩
 rw [← hlo] at hO hwl
 refine aJ (aQ (aE rfl rfl (cM rfl rfl (aO (o':=9) sD rfl rfl rfl (aO (o':=15) gF rfl rfl rfl (aT isAgg27 rfl (aH (hS.at_ 0 rfl) rfl) rfl (cX underlying27 rfl rfl (aE rfl rfl (aN (XF.thenN (bQ (eI (fun m l W=>∃ i:Nat,i≤a.tl∧m=a.tl - i∧l=[(0,.pointer (some ⟨RB,0,none⟩)),(9,.slice a.ta a.tl a.tc),(10,.int .i64 (a.tl:Int)),(11,.int .i64 (i:Int))]∧Grp prog 136 3 kv lo (Bx qQ (a.ts.take i)) bm W∧lo≤W.heap.size∧St w0 ((RB,rdC f0 a bk bm VA VX,109)::Ot) [] K W) (a.tl - 0) ([(0,_),(9,_),(10,_),(11,_)]) ⟨rfl,rfl,rfl,rfl,trivial⟩ (⟨0,Nat.zero_le _,rfl,rfl,Grp.fresh lo hmap,Nat.le_of_eq hlo,hS⟩) ?_))))))))))))
 clear hS
 rintro m l W ⟨i,hi,rfl,rfl,hM,hlo9,hS⟩
 refine aJ (aQ (cY rfl rfl rfl (aN (XF.thenN (aJ (bA rfl (fun hc=>?_) (fun hc=>?_)))))))
 ·have hc12:=of_decide_eq_true hc;clear hc
  have hk:i < a.tl:=by omega
  obtain ⟨r,hr⟩:∃ r,a.ts[i]?=some r:=⟨a.ts[i]'(by omega),by simp [show i < a.ts.length by omega]⟩
  obtain ⟨b,off,hta,hcs⟩:=htrow.at_ hr
  have k1:=aB.agree hS.agree (Nat.zero_le _) hcs
  obtain ⟨hrf,hrg⟩:=hky r (List.mem_of_getElem? hr)
  have hS:=(hS.markAt (Grp.lt hM) (fun p hp=>(hO p hp).1)).mark lo (fun p hp=>(hO p hp).2) rfl
  refine bM (XF.thenN (aJ (bQ (aJ (aQ (aE rfl rfl ?_))))))
  refine cK (j:=i) (b:=b) (o:=off) (m:=a.tl) (c:=a.tc) underlying27 sizeOf66 (by show some (Value.slice a.ta a.tl a.tc)=_;rw [hta]) rfl rfl (by omega) rfl rfl ?_
  refine aS (vs:=[_,_,_,_,_,_,_,_,_]) isAgg66 sizeOf66 rfl (k1) rfl (bB (cs:=[_,_,_,_,_,_,_,_,_]) hS zeroValue66 rfl rfl fun B1 W1 hS=>aC rfl rfl (aU (i:=0) (vs:=[_,_,_,_,_,_,_,_,_]) (cs':=[_,_,_,_,_,_,_,_,_]) (O':=(_::_::Ot)) hS sizeOf66 rfl rfl rfl rfl rfl rfl rfl fun W2 hS=>aN (XF.thenN (aJ (aQ (aO (o':=0) mR rfl rfl rfl (aT isAgg3 rfl (aH (hS.at_ 0 rfl) rfl) rfl (cV (us:=[(0,.int .i64 _),(1,.int .i64 _)]) rfl (oF _ _) rfl (bB (cs:=[_,_]) hS zeroValue136 rfl rfl fun B3 W3 hS=>aU (i:=0) (vs:=[_,_]) (cs':=[_,_]) (O':=(_::_::_::Ot)) hS sizeOf136 rfl rfl rfl rfl rfl rfl rfl fun W4 hS=>aN (XF.thenN ?_))))))))))
  have hM8:=(Grp.same hM (fun h1=>((hS.since 1 rfl).2 bm (Nat.le_refl _) (qB h1)).trans (qC h1)) (fun p h0 h1=>(hS.since 0 rfl).2 p h0 h1))
  have hlo8:=Nat.le_trans hlo9 (hS.since 0 rfl).1
  have h9:=hM8
  obtain ⟨es9,ck9,hb9,_⟩:=h9
  have hO9:=zE hS hb9
  have hb3:=(hO9 _ (List.mem_cons_of_mem _ List.mem_cons_self)).1
  have hb4:=(hO9 _ List.mem_cons_self).1
  have hS:=hS.unkeep.unkeep
  refine Jm (n:=_) (k:=qQ r) (vals:=fun i9=>match i9 with | 0=>.pointer (some ⟨RB,0,none⟩) | 1=>.pointer (some ⟨RB,0,none⟩) | 2=>.pointer (some ⟨RB,0+17,none⟩) | 3=>.map (some bm) | 4=>kv (qQ r) | _=>.int .i64 (i:Int)) (x:=.int .i64 (i:Int)) cD hS hM8 ?_ hwb hwl hlo8 hKb9 Gv underlying106 zeroValue26 (Gw (wI hrf.1 hrf.2) (Gx (Int.le_refl _) (by decide))) Gu underlying26 Hg rfl rfl rfl rfl (fun ev w h=>Jt underlying26 sizeOf3 zeroValue3 (hQ _) ev w h) (by have h9:=qF qQ (qQ r) (a.ts.take i) 0;rw [List.length_take] at h9;rw [List.length_map];simp only [maxLen];omega) (by have h9:=qF qQ (qQ r) (a.ts.take i) 0;rw [List.length_take] at h9;rw [List.length_map];show (_+1) * 8≤_;omega) rfl (by kernel_rfl) rfl rfl rfl ?_ rfl rfl rfl rfl rfl rfl (by kernel_rfl) (by kernel_rfl) (by kernel_rfl) (by kernel_rfl) (by kernel_rfl) (by kernel_rfl) (by kernel_rfl) (by kernel_rfl) (by kernel_rfl) (by kernel_rfl) ?_
  ·intro p hp
   rcases List.mem_cons.1 hp with rfl | hp
   ·exact ⟨hb4,.inr (show (136:Nat)≠3 by decide)⟩
   rcases List.mem_cons.1 hp with rfl | hp
   ·exact ⟨hb3,.inr (show (66:Nat)≠3 by decide)⟩
   ·exact ⟨(hO p hp).1,.inl (hO p hp).2⟩
  ·intro i9 hi9 a0 c9 w9 ha0 hF9 hS9 hD
   have hfr:∀ t v,freeT _ t=true→look _ t=some v→c9.eval (.tmp t)=v:=fun t v h1 h2=>(hF9 t h1).trans (ha0.at_ t v h2)
   have hB4:=(hS9.own _ List.mem_cons_self).2
   have hRB:=(hS9.own (RB,rdC f0 a bk bm VA VX,109) (by simp)).2
   match i9,hi9 with
   | 0,_=>exact ⟨_,rfl,rfl,by
    exact aY (l:=[(0,.pointer (some ⟨RB,0,none⟩))]) rfl c9.eval (iC (hfr 0 _ (by kernel_rfl) rfl))⟩
   | 1,_=>exact ⟨_,rfl,rfl,by
    exact cT (l:=[(19,.pointer (some ⟨RB,0,none⟩))]) rfl c9.eval (iC (hD 0 19 (by kernel_rfl)))⟩
   | 2,_=>exact ⟨_,rfl,rfl,by
    exact aV (l:=[(20,.pointer (some ⟨RB,0,none⟩))]) wJ rfl rfl c9.eval (iC (hD 1 20 (by kernel_rfl)))⟩
   | 3,_=>exact ⟨_,rfl,rfl,by
    exact bC (l:=[(21,.pointer (some ⟨RB,0+17,none⟩))]) isAgg106 rfl (aH hRB rfl) c9.eval (iC (hD 2 21 (by kernel_rfl)))⟩
   | 4,_=>exact ⟨_,rfl,rfl,by
    exact aX (l:=[(4,.pointer (some ⟨B3,0,none⟩))]) (vs:=[_,_]) isAgg136 sizeOf136 rfl (aB.own (j:=0) (m:=2) hB4 rfl) c9.eval (iC (hfr 4 _ (by kernel_rfl) rfl))⟩
   | 5,_=>exact ⟨_,rfl,rfl,by
    exact aY (l:=[(2,.int .i64 (i:Int))]) rfl c9.eval (iC (hfr 2 _ (by kernel_rfl) rfl))⟩
   | i9+6,h9=>omega
  ·intro W9 hS9 hM9 hsz10 c9 h1 h2 h3
   rw [Er hr] at hM9
   clear hS;have hS:=hS9;clear hS9
   refine (show XF _ .normal _ [(0,_),(9,_),(10,_),(11,_)] W9 from ?_) c9 (Jp.has h1 h2 ⟨h3 0 (by kernel_rfl) _ rfl,h3 9 (by kernel_rfl) _ rfl,h3 10 (by kernel_rfl) _ rfl,h3 11 (by kernel_rfl) _ rfl,trivial⟩)
   refine XF.blkN (XF.thenN (aQ (cZ rfl rfl (IntWalk.i64_in _ (by omega)) rfl (aE rfl rfl (aN ?_)))))
   exact XF.round (a.tl - (i+1)) [(0,_),(9,_),(10,_),(11,_)] (by omega) ⟨rfl,rfl,rfl,rfl,trivial⟩ ⟨i+1,by omega,rfl,rfl,hM9,Nat.le_trans hlo8 hsz10,hS.tail.tail⟩
 ·have hc12:=of_decide_eq_false hc;clear hc
  rw [List.take_of_length_le (by omega)] at hM
  have hS7:=(hS.markAt (Grp.lt hM) (fun p hp=>(hO p hp).1)).mark lo (fun p hp=>(hO p hp).2) rfl
  refine eF (XF.thenX (XF.thenX (XF.blkX (XF.resN (Km results63) (⟨lo,_,rfl,(fun q hq=>List.mem_cons_of_mem _ (List.mem_cons_of_mem _ hq)),hwl,⟨_,hM,?_⟩,hS7⟩)))))
  intro O2 G2 K2 W2 h2 hk
  have h1:=Grp.lt hM
  exact ⟨((h2.kept _ (hk _ (List.mem_cons_of_mem _ List.mem_cons_self))).1.2 bm (Nat.le_refl _) (qB h1)).trans (qC h1),fun p h3 h4=>(h2.kept _ (hk _ List.mem_cons_self)).1.2 p h3 h4⟩
theorem goes_67:bH prog 67=true:=by kernel_rfl
theorem Pb:bH prog 28=true:=by kernel_rfl
theorem goes_69:bH prog 69=true:=by kernel_rfl
theorem Es (S:PS) (sf:SF) (w:World) (hs:SIs w S sf) (hok:S.ok) :
  Calls prog 28 #[sf.val] w (gH S (bP S) w):=by
 refine cB (args:=[sf.val]) func28 rfl ntmps28 rfl ?_
 have hS:=St.start w
 refine aJ (aQ (bR (cs:=[_,_,_]) hS rfl rfl rfl fun B1 W1 hS=>bB (cs:=[_,_,_,_,_,_]) hS zeroValue44 rfl rfl fun B2 W2 hS=>aN (XF.thenN (aJ (aQ (aS (vs:=[_,_,_]) isAgg25 sizeOf25 rfl (aB.own (j:=0) (m:=3) (hS.at_ 1 rfl) rfl) rfl ?_))))))
 have hsz:=hS.below.size
 refine cL (vs:=[_]) hS goes_74 rfl (I7 S sf _ (hs.below hS.below) hok) rfl ?_
 rintro e W3 ⟨f,rfl,hn,hb⟩
 refine ⟨_,rfl,hb,fun hS'=>?_⟩
 clear hS;have hS:=hS';clear hS'
 refine aE rfl rfl (bJ rfl rfl rfl (bJ rfl rfl rfl (bB (cs:=[_,_,_,_,_,_]) hS zeroValue44 rfl rfl fun B4 W4 hS=>aU (i:=0) (vs:=[_,_,_,_,_,_]) (cs':=[_,_,_,_,_,_]) (O':=[_,_,_]) hS sizeOf44 rfl rfl rfl rfl rfl rfl rfl fun W5 hS=>aC rfl rfl (aN (XF.thenN (aJ (aQ (aS (vs:=[_,_,_,_,_,_]) isAgg44 sizeOf44 rfl (aB.own (j:=0) (m:=6) (hS.at_ 0 rfl) rfl) rfl (aU (i:=1) (vs:=[_,_,_,_,_,_]) (cs':=[_,_,_,_,_,_]) (O':=[_,_,_]) hS sizeOf44 rfl rfl rfl rfl rfl rfl rfl fun W6 hS=>aN (XF.thenN (bX (XF.res (dJ (vs:=[_,_,_,_,_,_]) results28 isAgg44 sizeOf44 rfl (aB.own (j:=0) (m:=6) (hS.at_ 1 rfl) rfl)) ?_))))))))))))
 exact ⟨f,rfl,(hn.agree (hS.since 0 rfl)).mono hsz,hS.below⟩
theorem Wn (S:PS) (sf:SF) (w:World) (hs:SIs w S sf) (hok:S.ok) :
  Calls prog 67 #[sf.val] w (gH S (jW S) w):=by
 refine cB (args:=[sf.val]) func67 rfl ntmps67 rfl ?_
 have hS:=St.start w
 refine aJ (aQ (bR (cs:=[_,_,_]) hS rfl rfl rfl fun B1 W1 hS=>bB (cs:=[_,_,_,_,_,_]) hS zeroValue44 rfl rfl fun B2 W2 hS=>aN (XF.thenN (aJ (aQ (aS (vs:=[_,_,_]) isAgg25 sizeOf25 rfl (aB.own (j:=0) (m:=3) (hS.at_ 1 rfl) rfl) rfl ?_))))))
 have hsz:=hS.below.size
 refine cL (vs:=[_]) hS goes_99 rfl (OneR_ok S sf _ (hs.below hS.below) hok) rfl ?_
 rintro e W3 ⟨f,rfl,hn,hb⟩
 refine ⟨_,rfl,hb,fun hS'=>?_⟩
 clear hS;have hS:=hS';clear hS'
 refine aE rfl rfl (bJ rfl rfl rfl (bJ rfl rfl rfl (bB (cs:=[_,_,_,_,_,_]) hS zeroValue44 rfl rfl fun B4 W4 hS=>aU (i:=0) (vs:=[_,_,_,_,_,_]) (cs':=[_,_,_,_,_,_]) (O':=[_,_,_]) hS sizeOf44 rfl rfl rfl rfl rfl rfl rfl fun W5 hS=>aC rfl rfl (aN (XF.thenN (aJ (aQ (aS (vs:=[_,_,_,_,_,_]) isAgg44 sizeOf44 rfl (aB.own (j:=0) (m:=6) (hS.at_ 0 rfl) rfl) rfl (aU (i:=1) (vs:=[_,_,_,_,_,_]) (cs':=[_,_,_,_,_,_]) (O':=[_,_,_]) hS sizeOf44 rfl rfl rfl rfl rfl rfl rfl fun W6 hS=>aN (XF.thenN (bX (XF.res (dJ (vs:=[_,_,_,_,_,_]) results67 isAgg44 sizeOf44 rfl (aB.own (j:=0) (m:=6) (hS.at_ 1 rfl) rfl)) ?_))))))))))))
 exact ⟨f,rfl,(hn.agree (hS.since 0 rfl)).mono hsz,hS.below⟩
theorem Jv (S:PS) (sf:SF) (bk:Bool) (f g:WF) (x y:PX) (w:World) (hs:SIs w S sf) (hok:S.ok) (hx:XIs w S f x) (hy:XIs w S g y) :
  Calls prog 68 #[sf.val,.bool bk,f.val,g.val] w (gH S (jX S bk x y) w):=by
 refine cB (args:=[sf.val,.bool bk,f.val,g.val]) func68 rfl ntmps68 rfl ?_
 have hS:=St.start w
 refine aJ (aQ (bR (cs:=[_,_,_]) hS rfl rfl rfl fun B1 W1 hS=>bR (cs:=[_,_,_,_,_,_]) hS rfl rfl rfl fun B2 W2 hS=>bR (cs:=[_,_,_,_,_,_]) hS rfl rfl rfl fun B3 W3 hS=>bB (cs:=[_,_,_,_,_,_]) hS zeroValue44 rfl rfl fun B4 W4 hS=>aN (XF.thenN (aJ (aJ (aQ (aE rfl rfl (aN (XF.thenN (bA rfl (fun hc=>?_) (fun hc=>?_)))))))))))
 ·have hc9:=hc;clear hc
  refine aJ (aQ (aS (vs:=[_,_,_]) isAgg25 sizeOf25 rfl (aB.own (j:=0) (m:=3) (hS.at_ 3 rfl) rfl) rfl (aS (vs:=[_,_,_,_,_,_]) isAgg44 sizeOf44 rfl (aB.own (j:=0) (m:=6) (hS.at_ 1 rfl) rfl) rfl (aS (vs:=[_,_,_,_,_,_]) isAgg44 sizeOf44 rfl (aB.own (j:=0) (m:=6) (hS.at_ 2 rfl) rfl) rfl ?_))))
  have hsz:=hS.below.size
  refine cL (vs:=[_,_,_]) hS uY rfl (I8 (hs.below hS.below) hok (hy.below hS.below) (hx.below hS.below)) rfl ?_
  rintro e W5 ⟨h9,rfl,hn,hb⟩
  refine ⟨_,rfl,hb,fun hS'=>?_⟩
  clear hS;have hS:=hS';clear hS'
  refine aU (i:=0) (vs:=[_,_,_,_,_,_]) (cs':=[_,_,_,_,_,_]) (O':=[_,_,_,_]) hS sizeOf44 rfl rfl rfl rfl rfl rfl rfl fun W6 hS=>aN (XF.thenN (bX (XF.thenR (XF.res (dJ (vs:=[_,_,_,_,_,_]) results68 isAgg44 sizeOf44 rfl (aB.own (j:=0) (m:=6) (hS.at_ 0 rfl) rfl)) ?_))))
  have e9:bk=true:=hc9
  subst e9
  exact ⟨h9,rfl,(hn.agree (hS.since 0 rfl)).mono hsz,hS.below⟩
 ·have hc9:=hc;clear hc
  refine bM (XF.thenN (aJ (aQ (aS (vs:=[_,_,_]) isAgg25 sizeOf25 rfl (aB.own (j:=0) (m:=3) (hS.at_ 3 rfl) rfl) rfl (aS (vs:=[_,_,_,_,_,_]) isAgg44 sizeOf44 rfl (aB.own (j:=0) (m:=6) (hS.at_ 2 rfl) rfl) rfl (aS (vs:=[_,_,_,_,_,_]) isAgg44 sizeOf44 rfl (aB.own (j:=0) (m:=6) (hS.at_ 1 rfl) rfl) rfl ?_))))))
  have hsz:=hS.below.size
  refine cL (vs:=[_,_,_]) hS uY rfl (I8 (hs.below hS.below) hok (hx.below hS.below) (hy.below hS.below)) rfl ?_
  rintro e W7 ⟨h9,rfl,hn,hb⟩
  refine ⟨_,rfl,hb,fun hS'=>?_⟩
  clear hS;have hS:=hS';clear hS'
  refine aU (i:=0) (vs:=[_,_,_,_,_,_]) (cs':=[_,_,_,_,_,_]) (O':=[_,_,_,_]) hS sizeOf44 rfl rfl rfl rfl rfl rfl rfl fun W8 hS=>aN (XF.thenN (bX (XF.res (dJ (vs:=[_,_,_,_,_,_]) results68 isAgg44 sizeOf44 rfl (aB.own (j:=0) (m:=6) (hS.at_ 0 rfl) rfl)) ?_)))
  have e9:bk=false:=hc9
  subst e9
  exact ⟨h9,rfl,(hn.agree (hS.since 0 rfl)).mono hsz,hS.below⟩
theorem Ru (ds d:Nat) (s:SV) (st sy:Int) (fa:Option Addr) (fl fc:Nat) (fs:List Int) (ta:Option Addr) (tl tc:Nat) (ts:List TV) (w:World) (hs:SIn w ds s) (hfrow:Row w fa fs) (hflen:fs.length=fl) (htrow:nO w ta ts) (htlen:ts.length=tl) (htin:∀ t∈ts,WIn w d t.x) (hfm:fl≤9223372036854775807) (htm:tl≤9223372036854775807) (n:Int) :
  Calls prog 69 #[.agg #[.int .i64 s.f.tag,.int .i64 s.f.dim,.slice s.f.a s.f.len s.f.cap,.int .i64 st,.int .i64 sy,.slice fa fl fc,.slice ta tl tc],.int .i64 n] w (fun e w'=>e = .returned (.bool (Bp fs n))∧Below w.heap.size w w'):=by
 refine cB (args:=[.agg #[.int .i64 s.f.tag,.int .i64 s.f.dim,.slice s.f.a s.f.len s.f.cap,.int .i64 st,.int .i64 sy,.slice fa fl fc,.slice ta tl tc],.int .i64 n]) func69 rfl ntmps69 rfl ?_
 have hS:=St.start w
 refine aJ (aQ (bR (cs:=[_,_,_,_,_,_,_]) hS rfl rfl rfl fun B1 W1 hS=>aC rfl rfl (aN (XF.thenN (aJ (aJ (aQ (aC rfl rfl (aN (XF.thenN (bQ (eI (fun m l W=>∃ i:Nat,i≤fl∧m=fl - i∧l=[(1,.int .i64 n),(2,.pointer (some ⟨B1,0,none⟩)),(5,.int .i64 (i:Int))]∧Bp (fs.take i) n=false∧St w [(B1,[.int .i64 s.f.tag,.int .i64 s.f.dim,.slice s.f.a s.f.len s.f.cap,.int .i64 st,.int .i64 sy,.slice fa fl fc,.slice ta tl tc],29)] [] [] W) (fl - 0) ([(1,_),(2,_),(5,_)]) ⟨rfl,rfl,rfl,trivial⟩ (⟨0,Nat.zero_le _,rfl,rfl,rfl,hS.clear⟩) ?_))))))))))))
 clear hS
 rintro m l W ⟨i,hi,rfl,rfl,hall,hS⟩
 refine aJ (aJ (aQ (aE rfl rfl (aO (o':=5) kP rfl rfl rfl (aT isAgg26 rfl (aH (hS.at_ 0 rfl) rfl) rfl (cX underlying26 rfl rfl (cY rfl rfl rfl (aN (XF.thenN (bA rfl (fun hc=>?_) (fun hc=>?_)))))))))))
 ·have hc10:=of_decide_eq_true hc;clear hc
  have hk:i < fl:=by omega
  obtain ⟨b,off,y,rfl,hy,hyc⟩:=hfrow.at1 (show i < fs.length by omega)
  have k1:=hS.old hyc
  refine bM (XF.thenN (aJ (bQ (aJ (aQ (aO (o':=5) kP rfl rfl rfl (aT isAgg26 rfl (aH (hS.at_ 0 rfl) rfl) rfl (aE rfl rfl (cK  underlying26 sizeOf3 rfl rfl rfl (by omega) rfl rfl (aT isAgg3 rfl (k1) rfl (aE rfl rfl (cG rfl rfl rfl (aN (XF.thenN (bA rfl (fun hc=>?_) (fun hc=>?_))))))))))))))))
  ·have hc19:=of_decide_eq_true hc;clear hc
   refine aJ (aQ (aC rfl rfl (aN (XF.thenN (bX (XF.blkR (XF.thenR (XF.thenR (XF.blkR (XF.thenR (XF.res (cQ results69 rfl) ?_)))))))))))
   exact ⟨bT (List.any_eq_true.2 ⟨y,List.mem_of_getElem? hy,decide_eq_true hc19⟩).symm,hS.below⟩
  ·have hc19:=of_decide_eq_false hc;clear hc
   refine bM (XF.blkN (XF.thenN (aQ (aE rfl rfl (cZ rfl rfl (IntWalk.i64_in _ (by omega)) rfl (aC rfl rfl (aN ?_)))))))
   exact XF.round (fl - (i+1)) [(1,_),(2,_),(5,_)] (by omega) ⟨rfl,rfl,rfl,trivial⟩ ⟨i+1,by omega,rfl,rfl,by unfold Bp at hall ⊢;rw [List.take_add_one,hy,List.any_append,hall];simp;exact hc19,hS.clear⟩
 ·have hc10:=of_decide_eq_false hc;clear hc
  rw [List.take_of_length_le (by omega)] at hall
  refine eF (XF.thenX (XF.thenX (XF.blkX (XF.thenN (aJ (aQ (aC rfl rfl (aN (XF.thenN (bX (XF.res (cQ results69 rfl) ?_)))))))))))
  exact ⟨bT hall.symm,hS.below⟩
theorem Mx (ds d:Nat) (a:AV) (n:Int) (w:World) (h:AIn w ds d a):Calls prog 69 #[a.val,.int .i64 n] w (fun e w'=>e = .returned (.bool (Bp a.fs n))∧Below w.heap.size w w'):=Ru ds d _ _ _ _ _ _ _ _ _ _ _ w h.s h.frow h.flen h.trow h.tlen h.tin h.fmax h.tmax n
def eM (a:AV) (fr ws:List Int):Int:=if fA a≠0 then fA a else if fr.all (fun y=>inQ y a.st)=true then (if ws.all (fun y=>inQ y a.sy)=true then 0 else 102) else 101
theorem tD (ds d:Nat) (s:SV) (st sy:Int) (fa:Option Addr) (fl fc:Nat) (fs:List Int) (ta:Option Addr) (tl tc:Nat) (ts:List TV) (w:World) (hs:SIn w ds s) (hfrow:Row w fa fs) (hflen:fs.length=fl) (htrow:nO w ta ts) (htlen:ts.length=tl) (htin:∀ t∈ts,WIn w d t.x) (hfm:fl≤9223372036854775807) (htm:tl≤9223372036854775807) (ra:Option Addr) (rl rc:Nat) (fr:List Int) (wa:Option Addr) (wl wc:Nat) (ws:List Int) (hra:Row w ra fr) (hrl:fr.length=rl) (hrm:rl≤9223372036854775807) (hwa:Row w wa ws) (hwl:ws.length=wl) (hwm:wl≤9223372036854775807) :
  Calls prog 59 #[.agg #[.int .i64 s.f.tag,.int .i64 s.f.dim,.slice s.f.a s.f.len s.f.cap,.int .i64 st,.int .i64 sy,.slice fa fl fc,.slice ta tl tc],.slice ra rl rc,.slice wa wl wc] w (fun e w'=>e = .returned (.int .i64 (eM ⟨s,st,sy,fa,fl,fc,fs,ta,tl,tc,ts⟩ fr ws))∧Below w.heap.size w w'):=by
 refine cB (args:=[.agg #[.int .i64 s.f.tag,.int .i64 s.f.dim,.slice s.f.a s.f.len s.f.cap,.int .i64 st,.int .i64 sy,.slice fa fl fc,.slice ta tl tc],.slice ra rl rc,.slice wa wl wc]) func59 rfl ntmps59 rfl ?_
 have hS:=St.start w
 refine aJ (aQ (bR (cs:=[_,_,_,_,_,_,_]) hS rfl rfl rfl fun B1 W1 hS=>aC rfl rfl (aN (XF.thenN (aJ (aQ (aS (vs:=[_,_,_,_,_,_,_]) isAgg29 sizeOf29 rfl (aB.own (j:=0) (m:=7) (hS.at_ 0 rfl) rfl) rfl (cC (vs:=[_]) hS goes_9 rfl (V6 ds d ⟨s,st,sy,fa,fl,fc,fs,ta,tl,tc,ts⟩ _ (AIn.below ⟨hs,hfrow,hflen,htrow,htlen,htin,hfm,htm⟩ hS.below)) rfl fun W2 hS=>aC rfl rfl (aN (XF.thenN (aJ (aJ (aQ (aE rfl rfl (dX rfl rfl rfl (aN (XF.thenN (bA rfl (fun hc=>?_) (fun hc=>?_)))))))))))))))))))
 ·have hc13:=of_decide_eq_true hc;clear hc
  refine aJ (aQ (aE rfl rfl (aC rfl rfl (aN (XF.thenN (bX (XF.thenR (XF.res (cQ results59 rfl) ?_))))))))
  exact ⟨eK (by unfold eM;rw [if_pos hc13]),hS.below⟩
 ·have hc13:=of_decide_eq_false hc;clear hc
  have h0:¬ fA ⟨s,st,sy,fa,fl,fc,fs,ta,tl,tc,ts⟩≠0:=hc13
  refine bM (XF.thenN (aJ (aJ (aQ (aC rfl rfl (aN (XF.thenN (bQ (eI (fun m l W=>∃ i:Nat,i≤rl∧m=rl - i∧l=[(1,.slice ra rl rc),(2,.slice wa wl wc),(3,.pointer (some ⟨B1,0,none⟩)),(8,.int .i64 (i:Int))]∧(fr.take i).all (fun y=>inQ y st)=true∧St w [(B1,[.int .i64 s.f.tag,.int .i64 s.f.dim,.slice s.f.a s.f.len s.f.cap,.int .i64 st,.int .i64 sy,.slice fa fl fc,.slice ta tl tc],29)] [] [] W) (rl - 0) ([(1,_),(2,_),(3,_),(8,_)]) ⟨rfl,rfl,rfl,rfl,trivial⟩ (⟨0,Nat.zero_le _,rfl,rfl,rfl,hS.clear⟩) ?_)))))))))
  clear hS
  rintro m l W ⟨i,hi,rfl,rfl,hall,hS⟩
  refine aJ (aJ (aQ (aE rfl rfl (aE rfl rfl (cX underlying26 rfl rfl (cY rfl rfl rfl (aN (XF.thenN (bA rfl (fun hc=>?_) (fun hc=>?_))))))))))
  ·have hc18:=of_decide_eq_true hc;clear hc
   have hk:i < rl:=by omega
   obtain ⟨b,off,y,rfl,hy,hyc⟩:=hra.at1 (show i < fr.length by omega)
   have k1:=hS.old hyc
   refine bM (XF.thenN (aJ (bQ (aJ (mK (m:=7) cD hS (by kernel_rfl) (by kernel_rfl) rfl (cJ 1 rfl 3 rfl rfl (fun w hw=>aX (vs:=[_,_,_,_,_,_,_]) isAgg29 sizeOf29 rfl (aB.agree (aK hw 0) (Nat.zero_le _) (aB.own (j:=0) (m:=7) (hS.at_ 0 rfl) rfl))) rfl (cJ 2 rfl 1 rfl rfl (fun w hw=>aY rfl) rfl (cJ 3 rfl 8 rfl rfl (fun w hw=>aY rfl) rfl (aI 4 rfl (isV _) (aF _) (rgV (li:=[(22,_),(23,_)]) rfl (aR rfl) ⟨aL 1 (aA rfl rfl rfl),aL 2 (aA rfl rfl rfl),trivial⟩ (fun w hw=>bE  underlying26 sizeOf3 rfl rfl rfl (by omega) rfl) (aD rfl)) (aZ 5 rfl 24 3 rfl rfl rfl (fun w hw=>bC isAgg3 rfl ((aK hw 0).cell (Nat.zero_le _) (k1))) rfl ?_))))))))))
   refine aI 6 rfl (isV (.bool (inQ y st))) (aF _) (cR [isV _,isV _] rfl sX (aR rfl) ⟨bU (aL 0 (aA rfl rfl rfl)),bU (aL 4 (aA rfl rfl rfl)),trivial⟩ (fun vs w' hb hh=>by have e:=cA (us:=[_,_]) hh;subst e;exact (xM ⟨s,st,sy,fa,fl,fc,fs,ta,tl,tc,ts⟩ y _).mono fun e w2 h=>⟨_,h.1,rfl,h.2⟩) (aD rfl)) ?_
   refine aZ 7 rfl 26 5 rfl rfl rfl (fun w hw=>kX rfl) rfl (dV ?_)
   intro W3 hbR hS'
   clear hS;have hS:=hS';clear hS'
   refine aG (aG (aG (aG (aG (aG (aG (cO (XF.thenN (bA rfl (fun hc=>?_) (fun hc=>?_))))))))))
   ·have hc27:=hc;clear hc
    refine aJ (aQ (aC rfl rfl (aN (XF.thenN (bX (XF.blkR (XF.thenR (XF.thenR (XF.blkR (XF.thenR (XF.res (cQ results59 rfl) ?_)))))))))))
    exact ⟨eK (by unfold eM;rw [if_neg h0,if_neg (by rw [dB hy (by simpa using hc27)];decide)]),hS.below⟩
   ·have hc27:=hc;clear hc
    refine bM (XF.blkN (XF.thenN (aQ (aE rfl rfl (cZ rfl rfl (IntWalk.i64_in _ (by omega)) rfl (aC rfl rfl (aN ?_)))))))
    exact XF.round (rl - (i+1)) [(1,_),(2,_),(3,_),(8,_)] (by omega) ⟨rfl,rfl,rfl,rfl,trivial⟩ ⟨i+1,by omega,rfl,rfl,fP hy hall (by simpa using hc27),hS.clear⟩
  ·have hc18:=of_decide_eq_false hc;clear hc
   rw [List.take_of_length_le (by omega)] at hall
   have h1:=hall
   clear hall
   refine eF (XF.thenX (XF.thenX (XF.blkX (XF.thenN (aJ (aJ (aQ (aC rfl rfl (aN (XF.thenN (bQ (eI (fun m l W=>∃ i:Nat,i≤wl∧m=wl - i∧l=[(1,.slice ra rl rc),(2,.slice wa wl wc),(3,.pointer (some ⟨B1,0,none⟩)),(9,.int .i64 (i:Int))]∧(ws.take i).all (fun y=>inQ y sy)=true∧St w [(B1,[.int .i64 s.f.tag,.int .i64 s.f.dim,.slice s.f.a s.f.len s.f.cap,.int .i64 st,.int .i64 sy,.slice fa fl fc,.slice ta tl tc],29)] [] [] W) (wl - 0) ([(1,_),(2,_),(3,_),(9,_)]) ⟨rfl,rfl,rfl,rfl,trivial⟩ (⟨0,Nat.zero_le _,rfl,rfl,rfl,hS.clear⟩) ?_))))))))))))
   clear hS
   rintro m l W ⟨i,hi,rfl,rfl,hall,hS⟩
   refine aJ (aJ (aQ (aE rfl rfl (aE rfl rfl (cX underlying26 rfl rfl (cY rfl rfl rfl (aN (XF.thenN (bA rfl (fun hc=>?_) (fun hc=>?_))))))))))
   ·have hc31:=of_decide_eq_true hc;clear hc
    have hk:i < wl:=by omega
    obtain ⟨b,off,y,rfl,hy,hyc⟩:=hwa.at1 (show i < ws.length by omega)
    have k1:=hS.old hyc
    refine bM (XF.thenN (aJ (bQ (aJ ?_))))
    by_cases hy0:y < 0
    ·have e5:inQ y sy=false:=by simp [inQ];omega
     refine mK (m:=14) cD hS (by kernel_rfl) (by kernel_rfl) rfl (cJ 1 rfl 2 rfl rfl (fun w hw=>aY rfl) rfl (cJ 2 rfl 9 rfl rfl (fun w hw=>aY rfl) rfl (aI 3 rfl (isV _) (aF _) (rgV (li:=[(34,_),(35,_)]) rfl (aR rfl) ⟨aL 0 (aA rfl rfl rfl),aL 1 (aA rfl rfl rfl),trivial⟩ (fun w hw=>bE  underlying26 sizeOf3 rfl rfl rfl (by omega) rfl) (aD rfl)) (aZ 4 rfl 36 2 rfl rfl rfl (fun w hw=>bC isAgg3 rfl ((aK hw 0).cell (Nat.zero_le _) (k1))) rfl (aI 5 rfl (isV (.bool true)) (aF _) (pI (li:=[(37,_)]) rfl (aR rfl) ⟨aL 3 (aA rfl rfl rfl),trivial⟩ (fun w hw=>Kp rfl rfl) (by rw [decide_eq_true hy0]) (aD rfl)) (aZ 6 rfl 38 4 rfl rfl rfl (fun w hw=>aY rfl) rfl (aI 7 rfl (isV undef) (aF _) (bL rfl (bW 39 rfl (aA rfl rfl rfl) rfl) (aD rfl)) (aI 8 rfl (isV undef) (aF _) (bL rfl (bW 39 rfl (aA rfl rfl rfl) rfl) (aD rfl)) (aI 9 rfl (isV undef) (aF _) (bL rfl (bW 39 rfl (aA rfl rfl rfl) rfl) (aD rfl)) (aI 10 rfl (isV undef) (aF _) (bL rfl (bW 39 rfl (aA rfl rfl rfl) rfl) (aD rfl)) (aI 11 rfl (isV undef) (aF _) (bL rfl (bW 39 rfl (aA rfl rfl rfl) rfl) (aD rfl)) (aI 12 rfl (isV undef) (aF _) (bL rfl (bW 39 rfl (aA rfl rfl rfl) rfl) (aD rfl)) (aI 13 rfl (isV undef) (aF _) (bL rfl (bW 39 rfl (aA rfl rfl rfl) rfl) (aD rfl)) (aZ 14 rfl 39 5 rfl rfl rfl (fun w hw=>eX rfl rfl) rfl (dV ?_)))))))))))))))
     intro W4 hbR hS'
     clear hS;have hS:=hS';clear hS'
     refine aG (aG (aG (aG (aG (aG (aG (aG (aG (aG (aG (aG (aG (aG (cO (XF.thenN (gW rfl (aJ (aQ (aC rfl rfl (aN (XF.thenN (bX ?_))))))))))))))))))))))
     refine XF.blkR (XF.thenR (XF.thenR (XF.blkR (XF.thenR (XF.res (cQ results59 rfl) ?_)))))
     exact ⟨eK (by unfold eM;rw [if_neg h0,if_pos h1,if_neg (by rw [dB hy e5];decide)]),hS.below⟩
    ·skip
     refine mK (m:=14) cD hS (by kernel_rfl) (by kernel_rfl) rfl (cJ 1 rfl 2 rfl rfl (fun w hw=>aY rfl) rfl (cJ 2 rfl 9 rfl rfl (fun w hw=>aY rfl) rfl (aI 3 rfl (isV _) (aF _) (rgV (li:=[(34,_),(35,_)]) rfl (aR rfl) ⟨aL 0 (aA rfl rfl rfl),aL 1 (aA rfl rfl rfl),trivial⟩ (fun w hw=>bE  underlying26 sizeOf3 rfl rfl rfl (by omega) rfl) (aD rfl)) (aZ 4 rfl 36 2 rfl rfl rfl (fun w hw=>bC isAgg3 rfl ((aK hw 0).cell (Nat.zero_le _) (k1))) rfl (aI 5 rfl (isV (.bool false)) (aF _) (pI (li:=[(37,_)]) rfl (aR rfl) ⟨aL 3 (aA rfl rfl rfl),trivial⟩ (fun w hw=>Kp rfl rfl) (by rw [decide_eq_false hy0]) (aD rfl)) (aZ 6 rfl 38 4 rfl rfl rfl (fun w hw=>aY rfl) rfl (aI 7 rfl (isV _) (aF _) (rgV (li:=[(2,_)]) rfl (bK 39 rfl (aA rfl rfl rfl)) ⟨cF rfl,trivial⟩ (fun w hw=>aY rfl) (aD rfl)) (aI 8 rfl (isV _) (aF _) (rgV (li:=[(9,_)]) rfl (bK 39 rfl (aA rfl rfl rfl)) ⟨cF rfl,trivial⟩ (fun w hw=>aY rfl) (aD rfl)) (aI 9 rfl (isV _) (aF _) (rgV (li:=[(40,_),(41,_)]) rfl (bK 39 rfl (aA rfl rfl rfl)) ⟨aL 6 (aA rfl rfl rfl),aL 7 (aA rfl rfl rfl),trivial⟩ (fun w hw=>bE  underlying26 sizeOf3 rfl rfl rfl (by omega) rfl) (aD rfl)) (aI 10 rfl (isV _) (aF _) (rgV (li:=[(42,_)]) rfl (bK 39 rfl (aA rfl rfl rfl)) ⟨aL 8 (aA rfl rfl rfl),trivial⟩ (fun w hw=>bC isAgg3 rfl ((aK hw 0).cell (Nat.zero_le _) (k1))) (aD rfl)) (aI 11 rfl (isV _) (aF _) (rgV (li:=[(3,_)]) rfl (bK 39 rfl (aA rfl rfl rfl)) ⟨cF rfl,trivial⟩ (fun w hw=>aV (o':=4) mT rfl rfl) (aD rfl)) (aI 12 rfl (isV _) (aF _) (rgV (li:=[(44,_)]) rfl (bK 39 rfl (aA rfl rfl rfl)) ⟨aL 10 (aA rfl rfl rfl),trivial⟩ (fun w hw=>bC isAgg3 rfl ((aK hw 0).cell (Nat.zero_le _) (aH (hS.at_ 0 rfl) rfl))) (aD rfl)) (aI 13 rfl (isV _) (aF _) (rgV (li:=[(43,_),(45,_)]) rfl (bK 39 rfl (aA rfl rfl rfl)) ⟨aL 9 (aA rfl rfl rfl),aL 11 (aA rfl rfl rfl),trivial⟩ (fun w hw=>Sf rfl rfl) (aD rfl)) (aI 14 rfl (isV _) (aF _) (rgV (li:=[(39,_),(46,_)]) rfl (aR rfl) ⟨aL 5 (aA rfl rfl rfl),aL 12 (aA rfl rfl rfl),trivial⟩ (fun w hw=>eY rfl rfl) (aD rfl)) (dV ?_)))))))))))))))
     intro W5 hbR hS'
     clear hS;have hS:=hS';clear hS'
     refine aG (aG (aG (aG (aG (aG (aG (aG (aG (aG (aG (aG (aG (aG (cO (XF.thenN (bA rfl (fun hc=>?_) (fun hc=>?_)))))))))))))))))
     ·have hc47:=hc;clear hc
      have e5:inQ y sy=false:=by have:=of_decide_eq_true hc47;simp [inQ];omega
      refine aJ (aQ (aC rfl rfl (aN (XF.thenN (bX (XF.blkR (XF.thenR (XF.thenR (XF.blkR (XF.thenR (XF.res (cQ results59 rfl) ?_)))))))))))
      exact ⟨eK (by unfold eM;rw [if_neg h0,if_pos h1,if_neg (by rw [dB hy e5];decide)]),hS.below⟩
     ·have hc47:=hc;clear hc
      have e5:inQ y sy=true:=by have:=of_decide_eq_false hc47;simp [inQ];omega
      refine bM (XF.blkN (XF.thenN (aQ (aE rfl rfl (cZ rfl rfl (IntWalk.i64_in _ (by omega)) rfl (aC rfl rfl (aN ?_)))))))
      exact XF.round (wl - (i+1)) [(1,_),(2,_),(3,_),(9,_)] (by omega) ⟨rfl,rfl,rfl,rfl,trivial⟩ ⟨i+1,by omega,rfl,rfl,fP hy hall e5,hS.clear⟩
   ·have hc31:=of_decide_eq_false hc;clear hc
    rw [List.take_of_length_le (by omega)] at hall
    refine eF (XF.thenX (XF.thenX (XF.blkX (XF.thenN (aJ (aQ (aC rfl rfl (aN (XF.thenN (bX (XF.res (cQ results59 rfl) ?_)))))))))))
    exact ⟨eK (by unfold eM;rw [if_neg h0,if_pos h1,if_pos hall]),hS.below⟩
theorem By:bH prog 44=true:=by kernel_rfl
theorem wret_gA {P:Program} {f:FuncId} {vs:Array Value} {w:World} {S:PS} {x:PX} {lo:Nat} (hlo:lo≤w.heap.size) (h:Calls P f vs w (gH S x w)):Calls P f vs w (rC (dH lo S x) w):=h.mono fun e w' ⟨f,he,hn,hb⟩=>⟨_,he,fun w2 hg=>⟨f,rfl,(hn.agree hg).mono hlo⟩,hb⟩
theorem eitherA {w:World} {M:World→Prop} {S:PS} {sf:SF} {f g:WF} {x y:PX} {lo:Nat} (hK:mF M) (hs:SIs w S sf) (hok:S.ok) (hM:M w) (h1:gR M S f x) (h2:gT lo w S g y) (hlo:lo≤w.heap.size) :
  Calls prog 44 #[sf.val,f.val,g.val] w (Mp lo (qN M lo S (bZ S x y)) w):=by
 refine (Bg (M:=fun W=>M W∧dD lo w W) (fun W W' h hb=>⟨hK _ _ h.1 hb,h.2.trans (aK hb lo)⟩) hs hok ⟨hM,Nat.le_refl _,fun _ _ _=>rfl⟩ (h1.mono fun W h=>h.1) (h2.far.mono fun W h=>h.2)).mono ?_
 rintro e w2 ⟨f3,rfl,hx,hb⟩
 exact ⟨_,rfl,fun w3 hg=>⟨f3,rfl,hx.mono fun W hW=>⟨⟨hW.1,((aK hb lo).trans hg).trans hW.2⟩,V9 (hg.trans hW.2) hlo⟩⟩,hb⟩
theorem Bz {α:Type} {l:List α} {i:Nat} {x d:α} (h:l[i]?=some x):l.getD i d=x:=by
 rw [List.getD_eq_getElem?_getD,h];rfl
theorem fK {x:Int} {n:Nat} (h:inQ x (n:Int)=true):∃ k:Nat,x=(k:Int)∧k < n:=by
 simp only [inQ,Bool.and_eq_true,decide_eq_true_eq] at h
 exact ⟨x.toNat,by omega,by omega⟩
theorem Rv {w:World} {b o:Nat} {f:WF} (h:W6 w b o f):aB w b o f.six:=⟨h.1,h.2.1,h.2.2.1,h.2.2.2.1,h.2.2.2.2.1,h.2.2.2.2.2,trivial⟩
theorem goes_96:bH prog 96=true:=by kernel_rfl
def wK (S:PS) (xs:List PX) (l:List Int):PX:=l.foldl (fun z s=>bZ S z (xs.getD s.toNat (bP S))) (bP S)
theorem Rw {S:PS} {xs:List PX} {l:List Int} {i:Nat} {y:Int} (h:l[i]?=some y):wK S xs (l.take (i+1))=bZ S (wK S xs (l.take i)) (xs.getD y.toNat (bP S)):=by
 rw [List.take_add_one,h]
 show wK S xs (l.take i++[y])=_
 unfold wK
 rw [List.foldl_append];rfl
theorem endX_ok {S:PS} {xs:List PX} (hok:S.ok) (hx:∀ x∈xs,OkX S x) (l:List Int):OkX S (wK S xs l):=by
 unfold wK
 have:∀ (l:List Int) (z:PX),OkX S z→OkX S (l.foldl (fun z s=>bZ S z (xs.getD s.toNat (bP S))) z):=by
  intro l
  induction l with
  | nil=>intro z hz;exact hz
  | cons a t ih =>
   intro z hz
   refine ih _ (jG hok hz ?_)
   rw [List.getD_eq_getElem?_getD]
   cases h:xs[a.toNat]? with
   | none=>exact lS
   | some x=>exact hx x (List.mem_of_getElem? h)
 exact this l _ lS
theorem newS {S:PS} {lo lo':Nat} {X:Nat→Prop} {W W2:World} {f:WF} {x:PX} (hf:gT lo W S f x) (hA:AwS lo X (dH lo S x) f.val W) (h:iK lo X W W2) (hl:lo'≤lo):gT lo' W2 S f x:=by
 obtain ⟨g,hg,hgn⟩:=hA _ h
 obtain rfl:=O0 hg (hf.samepf hgn)
 exact hgn.mono hl
theorem plusRow {w:World} {S:PS} {sf:SF} {f0 f g:WF} {x y:PX} {vs:List Value} {lo lo2:Nat} {T:TypeId} (hh:mH [isV (jS sf f0),qY lo2 2 T (f.six++g.six)] vs w) (hs:SIs w S sf) (hok:S.ok) (hf:XIs w S f x) (hg:XIs w S g y) (hx:OkX S x) (ht:Tabs w) (hlo:lo≤w.heap.size):Calls prog 39 vs.toArray w (rC (dH lo S (bZ S x y)) w):=by
 obtain ⟨v1,v2,rfl,e1,b,rfl,hlb,hb⟩:=pV hh
 have e1:v1=_:=e1
 subst e1
 refine nK hlo ?_
 have h9:=vZ S sf f0 w hs hok _ 2 2 [f,g] [x,y] (Ip hb) (sS hf (sS hg Ma)) rfl (by decide) ht
 rw [comb2 hx] at h9
 exact h9
theorem Jw (S:PS) (a:AV) (f0:WF) (bk:Bool) (bm VA VX RB IB WB n:Nat) (v:Value) (fs:List WF) (xs:List PX) (w:World) (hrb:w.heap[RB]?=some (.cells (rdC f0 a bk bm VA VX).toArray 109 (0,0))) (hva:w.heap[VA]?=some (.cells (gU v n IB WB).toArray 139 (0,0))) (hib:w.heap[IB]?=some (.cells (inC S xs).toArray 4 (0,0))) (hwb:w.heap[WB]?=some (.cells (wC fs).toArray 44 (0,0))) (hfl:fs.length=n) (hxl:xs.length=n) (hxs:∀ (i:Nat) f x,fs[i]?=some f→xs[i]?=some x→x≠bP S→XIs w S f x) (hxo:∀ x∈xs,OkX S x) (hn:n≤4096) (hfrow:Row w a.fa a.fs) (hflen:a.fs.length=a.fl) (hfm:a.fl≤9223372036854775807) (hfq:∀ s∈a.fs,inQ s (n:Int)=true) (hsi:SIs w S a.s.f) (hok:S.ok) (ht:Tabs w) :
  Calls prog 58 #[.pointer (some ⟨RB,0,none⟩)] w (gH S (wK S xs a.fs) w):=by
 refine cB (args:=[.pointer (some ⟨RB,0,none⟩)]) func58 rfl ntmps58 rfl ?_
 have hS:=St.start w
 refine aJ (aQ (bB (cs:=[_,_,_,_,_,_]) hS zeroValue44 rfl rfl fun B1 W1 hS=>aN (XF.thenN (aJ ?_))))
 have hring:=aB.own (j:=0) (m:=9) (vs:=[.int .i64 a.s.f.tag,.int .i64 a.s.f.dim,.slice a.s.f.a a.s.f.len a.s.f.cap,.bool f0.z,.int .i64 f0.c,.int .u64 (f0.g:Int),.slice f0.ra f0.rl f0.rc,.slice f0.ca f0.cl f0.cc,.slice f0.pa f0.pl f0.pc]) hrb rfl
 have k9:=aB.agree hS.agree (Nat.zero_le _) hring
 refine aQ (aE rfl rfl (cM rfl rfl (aO nR rfl (Nat.add_zero _) rfl (aS (vs:=[_,_,_,_,_,_,_,_,_]) isAgg76 sizeOf76 rfl (k9) rfl ?_))))
 have hsz1:=hS.below.size
 refine cL (vs:=[_]) hS goes_96 rfl (Ja S a.s.f f0 _ (hsi.below hS.below) hok) rfl ?_
 rintro e W2 ⟨f1,rfl,hn1,hb⟩
 refine ⟨_,rfl,hb,fun hS'=>?_⟩
 clear hS;have hS:=hS';clear hS'
 refine bB (cs:=[_,_,_,_,_,_]) hS zeroValue44 rfl rfl fun B3 W3 hS=>aU (i:=0) (vs:=[_,_,_,_,_,_]) (cs':=[_,_,_,_,_,_]) (O':=[_,_]) hS sizeOf44 rfl rfl rfl rfl rfl rfl rfl fun W4 hS=>aN (XF.thenN (aJ (aJ ?_)))
 have hfin0:=aH (j:=14) hrb rfl
 have hat0:=aH (j:=18) hrb rfl
 have hin0:=aH (j:=1) hva rfl
 have hw0:=aH (j:=2) hva rfl
 refine aQ (aE rfl rfl (cM rfl rfl (aO sD rfl rfl rfl (aO kP rfl rfl rfl (aT isAgg26 rfl (hS.old hfin0) rfl (cX underlying26 rfl rfl (aE rfl rfl (aN (XF.thenN (bQ (eI (fun m l W=>∃ (i:Nat) (fz:WF) (Kk:List (Nat×World)),i≤a.fl∧m=a.fl - i∧l=[(0,.pointer (some ⟨RB,0,none⟩)),(15,.slice a.fa a.fl a.fc),(16,.int .i64 (a.fl:Int)),(17,.int .i64 (i:Int)),(2,.pointer (some ⟨B1,0,none⟩)),(3,.pointer (some ⟨B3,0,none⟩))]∧mE w Kk (fun W2=>gT w.heap.size W2 S fz (wK S xs (a.fs.take i)))∧St w [(B3,fz.six,44),(B1,[.bool false,.int .i64 0,.int .u64 0,.slice none 0 0,.slice none 0 0,.slice none 0 0],44)] [] Kk W) (a.fl - 0) ([(0,_),(15,_),(16,_),(17,_),(2,_),(3,_)]) ⟨rfl,rfl,rfl,rfl,rfl,rfl,trivial⟩ (⟨0,f1,_,Nat.zero_le _,rfl,rfl,(fun h2 hk=>(hn1.agree (h2.kept _ (hk _ List.mem_cons_self)).1).mono hsz1),hS⟩) ?_)))))))))))
 clear hS
 rintro m l W ⟨i,fz,Kk,hi,rfl,rfl,HZ,hS⟩
 refine aJ (aQ (cY rfl rfl rfl (aN (XF.thenN (aJ (bA rfl (fun hc=>?_) (fun hc=>?_)))))))
 ·have hc18:=of_decide_eq_true hc;clear hc
  have hk:i < a.fl:=by omega
  obtain ⟨b,off,y,hfa,hy,hyc⟩:=hfrow.at1 (show i < a.fs.length by omega)
  have k1:=hS.old hyc
  obtain ⟨sN,rfl,hsN⟩:=fK (hfq y (List.mem_of_getElem? hy))
  obtain ⟨x0,hx0⟩:∃ x0,xs[sN]?=some x0:=⟨xs[sN]'(by omega),List.getElem?_eq_getElem _⟩
  obtain ⟨g0,hg0⟩:∃ g0,fs[sN]?=some g0:=⟨fs[sN]'(by omega),List.getElem?_eq_getElem _⟩
  have hbit:=aH (j:=0+sN * 1) hib (Wc hx0)
  have hxe:xs.getD ((sN:Int)).toNat (bP S)=x0:=by rw [Int.toNat_natCast,List.getD_eq_getElem?_getD,hx0];rfl
  have hstep:=Rw (S:=S) (xs:=xs) hy
  rw [hxe] at hstep
  have hzok:=endX_ok hok hxo (a.fs.take i)
  refine bM (XF.thenN (aJ (bQ (aJ (aQ ?_)))))
  refine cK (j:=i) (b:=b) (o:=off) (m:=a.fl) (c:=a.fc) underlying26 sizeOf3 (by show some (Value.slice a.fa a.fl a.fc)=_;rw [hfa]) rfl rfl (by omega) rfl rfl ?_
  refine aT isAgg3 rfl (k1) rfl (aC rfl rfl (aN (XF.thenN (aJ (aQ (aE rfl rfl (cM rfl rfl (aO kR rfl rfl rfl (aT isAgg107 rfl (hS.old hat0) rfl (cM rfl rfl (aO wE rfl rfl rfl (aT isAgg58 rfl (hS.old hin0) rfl (aE rfl rfl (cK (j:=sN) underlying58 sizeOf4 rfl rfl (rfl) (by omega) rfl rfl (aT isAgg4 rfl (hS.old hbit) rfl (aN (XF.thenN (bA rfl (fun hc=>?_) (fun hc=>?_)))))))))))))))))))
  ·have hc30:=hc;clear hc
   have hnz:x0≠bP S:=by simpa [pB] using hc30
   have hxi:=hxs sN g0 x0 hg0 hx0 hnz
   have k6:=aB.own (j:=0+sN * 6) (m:=6) hwb (Jg hg0)
   have hsz6:=hS.below.size
   refine Oq (ef:=17) (jy:=16) (ca:=pZ (fun _=>[])) (ta:=fun _=>0) (Os:=osY _ 0 (0) B3 (fz.six) 44) (Gs:=tE _) (al:=[]) (k:=18) (ds:=[]) cD rfl hS rfl (by kernel_rfl) rfl (by decide) rfl rfl rfl rfl (aW 1 rfl rfl (isV _) (fun hNo=>sgV [(0,_)] rfl rfl rfl rfl hNo (aR rfl) ⟨cF rfl,trivial⟩ (fun ev w he hw=>aY rfl) (aD rfl)) (aW 2 rfl rfl (isV _) (fun hNo=>sgV [(31,_)] rfl rfl rfl rfl hNo (aR rfl) ⟨aL 0 (aA rfl rfl rfl),trivial⟩ (fun ev w he hw=>cT rfl) (aD rfl)) (aW 3 rfl rfl (isV _) (fun hNo=>sgV [(32,_)] rfl rfl rfl rfl hNo (aR rfl) ⟨aL 1 (aA rfl rfl rfl),trivial⟩ (fun ev w he hw=>aV nR rfl (Nat.add_zero _)) (aD rfl)) (aW 4 rfl rfl (isV _) (fun hNo=>sgV [(33,_)] rfl rfl rfl rfl hNo (aR rfl) ⟨aL 2 (aA rfl rfl rfl),trivial⟩ (fun ev w he hw=>aX (vs:=[_,_,_,_,_,_,_,_,_]) isAgg76 sizeOf76 rfl (aB.agree hw.agree (Nat.zero_le _) (hring))) (aD rfl)) (aW 5 rfl rfl (isV _) (fun hNo=>sgV [(3,_)] rfl rfl rfl rfl hNo (aR rfl) ⟨cF rfl,trivial⟩ (fun ev w he hw=>aX (vs:=[_,_,_,_,_,_]) isAgg44 sizeOf44 rfl ((aB.own (j:=0) (m:=6) (hw.at_ 0 (Ow (he rfl) rfl)) rfl))) (aD rfl)) (aW 6 rfl rfl (isV _) (fun hNo=>sgV [(0,_)] rfl rfl rfl rfl hNo (aR rfl) ⟨cF rfl,trivial⟩ (fun ev w he hw=>aY rfl) (aD rfl)) (aW 7 rfl rfl (isV _) (fun hNo=>sgV [(36,_)] rfl rfl rfl rfl hNo (aR rfl) ⟨aL 5 (aA rfl rfl rfl),trivial⟩ (fun ev w he hw=>cT rfl) (aD rfl)) (aW 8 rfl rfl (isV _) (fun hNo=>sgV [(37,_)] rfl rfl rfl rfl hNo (aR rfl) ⟨aL 6 (aA rfl rfl rfl),trivial⟩ (fun ev w he hw=>aV kR rfl rfl) (aD rfl)) (aW 9 rfl rfl (isV _) (fun hNo=>sgV [(38,_)] rfl rfl rfl rfl hNo (aR rfl) ⟨aL 7 (aA rfl rfl rfl),trivial⟩ (fun ev w he hw=>bC isAgg107 rfl (hw.agree.cell (Nat.zero_le _) (hat0))) (aD rfl)) (aW 10 rfl rfl (isV _) (fun hNo=>sgV [(39,_)] rfl rfl rfl rfl hNo (aR rfl) ⟨aL 8 (aA rfl rfl rfl),trivial⟩ (fun ev w he hw=>cT rfl) (aD rfl)) (aW 11 rfl rfl (isV _) (fun hNo=>sgV [(40,_)] rfl rfl rfl rfl hNo (aR rfl) ⟨aL 9 (aA rfl rfl rfl),trivial⟩ (fun ev w he hw=>aV nS rfl rfl) (aD rfl)) (aW 12 rfl rfl (isV _) (fun hNo=>sgV [(41,_)] rfl rfl rfl rfl hNo (aR rfl) ⟨aL 10 (aA rfl rfl rfl),trivial⟩ (fun ev w he hw=>bC isAgg42 rfl (hw.agree.cell (Nat.zero_le _) (hw0))) (aD rfl)) (aW 13 rfl rfl (isV _) (fun hNo=>sgV [(5,_)] rfl rfl rfl rfl hNo (aR rfl) ⟨cF rfl,trivial⟩ (fun ev w he hw=>aY rfl) (aD rfl)) (aW 14 rfl rfl (isV _) (fun hNo=>sgV [(42,_),(43,_)] rfl rfl rfl rfl hNo (aR rfl) ⟨aL 11 (aA rfl rfl rfl),aL 12 (aA rfl rfl rfl),trivial⟩ (fun ev w he hw=>bE (j:=sN) underlying42 sizeOf44 rfl rfl (rfl) (by omega) rfl) (aD rfl)) (aW 15 rfl rfl (isV _) (fun hNo=>sgV [(44,_)] rfl rfl rfl rfl hNo (aR rfl) ⟨aL 13 (aA rfl rfl rfl),trivial⟩ (fun ev w he hw=>aX (vs:=[_,_,_,_,_,_]) isAgg44 sizeOf44 rfl (aB.agree hw.agree (Nat.zero_le _) (k6))) (aD rfl)) (aW 16 rfl rfl (qY W.heap.size 2 44 _) (fun hNo=>sg_rowV (us:=[.agg (List.toArray [_,_,_,_,_,_]),.agg (List.toArray [_,_,_,_,_,_])]) rfl rfl rfl rfl hNo (aR rfl) underlying42 sizeOf44 zeroValue44 rfl rfl ⟨bU (aL 4 (aA rfl rfl rfl)),bU (aL 14 (aA rfl rfl rfl)),trivial⟩ (uW _ _ _ _ _ _ _ _ _ _ _ _) (aD rfl)) (aW 17 rfl rfl (dH W.heap.size S (bZ S (wK S xs (a.fs.take i)) x0)) (fun hNo=>vV [isV _,qY W.heap.size 2 44 _] rfl rfl rfl rfl hNo On (aR rfl) ⟨bU (aL 3 (aA rfl rfl rfl)),bU (aL 15 (aA rfl rfl rfl)),trivial⟩ (fun vs ev w' he hSt hlo hh=>plusRow hh (hsi.below hSt.below) hok (HZ hSt (fun q hq=>hq)).is (hxi.below hSt.below) hzok (ht.below hSt.below) hlo) (aD rfl)) ?_)))))))))))))))))
   refine vW 18 rfl (zH (py:=dH W.heap.size S (bZ S (wK S xs (a.fs.take i)) x0)) (m:=6) 0 (0) [(3,_)] rfl rfl rfl rfl (by kernel_rfl) rfl rfl (fun j hj=>by rcases hj with h | rfl<;>first | (cases h<;>rfl) | rfl) ⟨cF rfl,trivial⟩ rfl rfl sizeOf44 (fun v w ⟨h,e,_⟩=>by subst e;exact ⟨h.six,rfl,rfl,rfl⟩) rfl) ?_
   refine mP ?_
   intro Bf5 y5 W5 Ks5 hsz5 hKs5 hS' hcov5
   clear hS;have hS:=hS'.castO (O':=[_,_]) rfl;clear hS'
   refine tM (L':=[AwS _ _ (isV _),AwS _ _ (isV _),AwS _ _ (isV _),AwS _ _ (isV _),AwS _ _ (isV _),AwS _ _ (isV _),AwS _ _ (isV _),AwS _ _ (isV _),AwS _ _ (isV _),AwS _ _ (isV _),AwS _ _ (isV _),AwS _ _ (isV _),AwS _ _ (isV _),AwS _ _ (isV _),AwS _ _ (isV _),AwS _ _ (qY W.heap.size 2 44 _),(fun v0_ w0_=>v0_=_∧AwS _ _ (dH W.heap.size S (bZ S (wK S xs (a.fs.take i)) x0)) v0_ w0_),isV _]) rfl (bG (bG (bG (bG (bG (bG (bG (bG (bG (bG (bG (bG (bG (bG (bG ?_)))))))))))))))
   refine dE ?_;intro _ _
   refine dE ?_;rintro _ ⟨rfl,hA5⟩
   obtain ⟨f9,rfl,hn9⟩:=hA5.here
   have H9:mE w Ks5 (fun W2=>gT w.heap.size W2 S f9 (bZ S (wK S xs (a.fs.take i)) x0)):=fun h2 hk=>newS hn9 hA5 (hcov5 h2 hk) hsz6
   refine I4 (cO (aN (XF.blkN (XF.thenN (aQ (cZ rfl rfl (IntWalk.i64_in _ (by omega)) rfl (aE rfl rfl (aN ?_))))))))
   exact XF.round (a.fl - (i+1)) [(0,_),(15,_),(16,_),(17,_),(2,_),(3,_)] (by omega) ⟨rfl,rfl,rfl,rfl,rfl,rfl,trivial⟩ ⟨i+1,f9,_,by omega,rfl,rfl,(by rw [hstep];exact H9.more (fun q hq=>by simp [hq])),hS⟩
  ·have hc30:=hc;clear hc
   refine bM (XF.blkN (XF.thenN (aQ (cZ rfl rfl (IntWalk.i64_in _ (by omega)) rfl (aE rfl rfl (aN ?_))))))
   have hz:x0=bP S:=by simpa [lG] using hc30
   exact XF.round (a.fl - (i+1)) [(0,_),(15,_),(16,_),(17,_),(2,_),(3,_)] (by omega) ⟨rfl,rfl,rfl,rfl,rfl,rfl,trivial⟩ ⟨i+1,fz,Kk,by omega,rfl,rfl,(by rw [hstep,hz,mM hzok];exact HZ),hS⟩
 ·have hc18:=of_decide_eq_false hc;clear hc
  rw [List.take_of_length_le (by omega)] at HZ
  refine eF (XF.thenX (XF.thenX (XF.blkX (XF.thenN (aJ (aQ (aS (vs:=[_,_,_,_,_,_]) isAgg44 sizeOf44 rfl (aB.own (j:=0) (m:=6) (hS.at_ 0 rfl) rfl) rfl (aU (i:=1) (vs:=[_,_,_,_,_,_]) (cs':=[_,_,_,_,_,_]) (O':=[_,_]) hS sizeOf44 rfl rfl rfl rfl rfl rfl rfl fun W6 hS=>aN (XF.thenN (bX (XF.res (dJ (vs:=[_,_,_,_,_,_]) results58 isAgg44 sizeOf44 rfl (aB.own (j:=0) (m:=6) (hS.at_ 1 rfl) rfl)) ?_)))))))))))
  exact ⟨fz,rfl,HZ hS (fun q hq=>by simp [hq]),hS.below⟩
end Go.Proofs.YtmgnkpibpjgncaaGreatDoor
