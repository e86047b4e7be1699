import Derived.Test.YtmgnkpibpjgncaaGreatDoorMeB
set_option maxRecDepth 100000
set_option maxHeartbeats 4000000
set_option linter.unusedVariables false
set_option linter.unusedVariables false
set_option linter.unusedSimpArgs false
set_option linter.unusedSectionVars false
set_option linter.unnecessarySimpa false
namespace Go.Proofs.YtmgnkpibpjgncaaGreatDoor
open Go.Proofs.Tryz
open Go.RowKit
theorem eA {w:World} {B:Nat} {cs:Array Value} {T:TypeId} (h:w.heap[B]?=some (.cells cs T (0,0))) (j:Nat):w.frozen? ⟨B,j,none⟩=false:=by
 unfold World.frozen?;simp [h]
theorem Mr {w:World} {B:Nat} {a b c d e f v0 v1 v2 v3 v4 v5:Value} {T:TypeId} (h:w.heap[B]?=some (.cells #[a,b,c,d,e,f] T (0,0))) :
  ((((((w.setCell ⟨B,0,none⟩ v0).setCell ⟨B,1,none⟩ v1).setCell ⟨B,2,none⟩ v2).setCell ⟨B,3,none⟩ v3).setCell ⟨B,4,none⟩ v4).setCell ⟨B,5,none⟩ v5).heap[B]?=some (.cells #[v0,v1,v2,v3,v4,v5] T (0,0)) :=
 heap_setCell_same _ B 5 _ _ _ (heap_setCell_same _ B 4 _ _ _ (heap_setCell_same _ B 3 _ _ _ (heap_setCell_same _ B 2 _ _ _ (heap_setCell_same _ B 1 _ _ _ (heap_setCell_same w B 0 _ _ _ h)))))
theorem zD {n:Nat} {w0 w:World} {B:Nat} (v0 v1 v2 v3 v4 v5:Value) (h:Below n w0 w) (hB:n≤B) :
  Below n w0 ((((((w.setCell ⟨B,0,none⟩ v0).setCell ⟨B,1,none⟩ v1).setCell ⟨B,2,none⟩ v2).setCell ⟨B,3,none⟩ v3).setCell ⟨B,4,none⟩ v4).setCell ⟨B,5,none⟩ v5) :=
 (((((h.setCell (p:=⟨B,0,none⟩) hB _).setCell (p:=⟨B,1,none⟩) hB _).setCell (p:=⟨B,2,none⟩) hB _).setCell (p:=⟨B,3,none⟩) hB _).setCell (p:=⟨B,4,none⟩) hB _).setCell (p:=⟨B,5,none⟩) hB _
def jW (n:Nat) (w w':World):Prop:=∀ k,n≤k→w'.heap[k]?=w.heap[k]?
theorem jW.refl (n:Nat) (w:World):jW n w w:=fun _ _=>rfl
theorem jW.setCell {n:Nat} {a w:World} (h:jW n a w) {p:Addr} (hp:p.block < n) (u:Value):jW n a (w.setCell p u):=fun k hk=>(Below.heap_setCell _ _ _ _ (by omega)).trans (h k hk)
theorem jW.cell {n:Nat} {w w':World} (h:jW n w w') {p:Addr} (hp:n≤p.block):w'.cell? p=w.cell? p:=World.cell?_of_block (w:=w) (h p.block hp)
theorem tA {n:Nat} {w0 w:World} {B:Nat} (v0 v1 v2 v3 v4 v5:Value) (h:jW n w0 w) (hB:B < n) :
  jW n w0 ((((((w.setCell ⟨B,0,none⟩ v0).setCell ⟨B,1,none⟩ v1).setCell ⟨B,2,none⟩ v2).setCell ⟨B,3,none⟩ v3).setCell ⟨B,4,none⟩ v4).setCell ⟨B,5,none⟩ v5) :=
 (((((h.setCell (p:=⟨B,0,none⟩) hB _).setCell (p:=⟨B,1,none⟩) hB _).setCell (p:=⟨B,2,none⟩) hB _).setCell (p:=⟨B,3,none⟩) hB _).setCell (p:=⟨B,4,none⟩) hB _).setCell (p:=⟨B,5,none⟩) hB _
theorem fH.above {w w':World} {n:Nat} {a:Option Addr} {vs:List Value} (h:fH w a vs) (hn:∀ ad,a=some ad→n≤ad.block) (hb:jW n w w'):fH w' a vs:=by
 rcases h with h | ⟨b,off,rfl,hc⟩
 ·exact .inl h
 ·exact .inr ⟨b,off,rfl,fun i v hi=>(hb.cell (p:=⟨b,off+i,none⟩) (hn ⟨b,off,none⟩ rfl)).trans (hc i v hi)⟩
theorem eZ.above {w w':World} {n:Nat} {a:Option Addr} {cs:List Cl} (h:eZ w a cs) (hn:∀ ad,a=some ad→n≤ad.block) (hb:jW n w w'):eZ w' a cs:=by
 rcases h with h | ⟨b,off,rfl,hc⟩
 ·exact .inl h
 ·exact .inr ⟨b,off,rfl,fun i v hi=>⟨(hb.cell (p:=⟨b,off+i * 3,none⟩) (hn ⟨b,off,none⟩ rfl)).trans (hc i v hi).1,(hb.cell (p:=⟨b,off+i * 3+1,none⟩) (hn ⟨b,off,none⟩ rfl)).trans (hc i v hi).2.1,(hb.cell (p:=⟨b,off+i * 3+2,none⟩) (hn ⟨b,off,none⟩ rfl)).trans (hc i v hi).2.2⟩⟩
theorem W6.above {w w':World} {n b o:Nat} {f:WF} (h:W6 w b o f) (hn:n≤b) (hb:jW n w w'):W6 w' b o f :=
 ⟨(hb.cell hn).trans h.1,(hb.cell hn).trans h.2.1,(hb.cell hn).trans h.2.2.1,(hb.cell hn).trans h.2.2.2.1,(hb.cell hn).trans h.2.2.2.2.1,(hb.cell hn).trans h.2.2.2.2.2⟩
structure PNew (n:Nat) (w:World) (t d:Int) (f:WF) (a:PF):Prop where
 is:PIs w t d f a
 ra:∀ ad,f.ra=some ad→n≤ad.block
 ca:∀ ad,f.ca=some ad→n≤ad.block
theorem PNew.below {n:Nat} {w w':World} {t d:Int} {f:WF} {a:PF} (h:PNew n w t d f a) (hb:Below w.heap.size w w'):PNew n w' t d f a:=⟨h.is.below hb,h.ra,h.ca⟩
theorem PNew.mono {n m:Nat} {w:World} {t d:Int} {f:WF} {a:PF} (h:PNew n w t d f a) (hm:m≤n):PNew m w t d f a:=⟨h.is,fun ad e=>Nat.le_trans hm (h.ra ad e),fun ad e=>Nat.le_trans hm (h.ca ad e)⟩
def gA (n:Nat) (w:World):PS→WF→PX→Prop
 | .one t d,f,.one a=>PNew n w t d f a
 | .two t d u m,f,.two a b=>f.pf=pC 0∧f.rl=0∧f.cl=0∧f.pl=2∧∃ blk g h,f.pa=some ⟨blk,0,none⟩∧n≤blk∧W6 w blk 0 g∧W6 w blk 6 h∧PNew n w t d g a∧PNew n w u m h b
 | _,_,_=>False
theorem gA.is {n:Nat} {w:World} {S:PS} {f:WF} {x:PX} (h:gA n w S f x):XIs w S f x:=by
 cases S<;>cases x<;>first | exact h.elim | exact PNew.is h | skip
 obtain ⟨h1,h2,h3,h4,blk,g,k,h5,_,h6,h7,h8,h9⟩:=h
 exact ⟨h1,h2,h3,h4,blk,0,g,k,h5,h6,by simpa using h7,h8.is,h9.is⟩
theorem gA.below {n:Nat} {w w':World} {S:PS} {f:WF} {x:PX} (h:gA n w S f x) (hb:Below w.heap.size w w'):gA n w' S f x:=by
 cases S<;>cases x<;>first | exact h.elim | exact PNew.below h hb | skip
 obtain ⟨h1,h2,h3,h4,blk,g,k,h5,h0,h6,h7,h8,h9⟩:=h
 exact ⟨h1,h2,h3,h4,blk,g,k,h5,h0,h6.below hb,h7.below hb,h8.below hb,h9.below hb⟩
theorem gA.mono {n m:Nat} {w:World} {S:PS} {f:WF} {x:PX} (h:gA n w S f x) (hm:m≤n):gA m w S f x:=by
 cases S<;>cases x<;>first | exact h.elim | exact PNew.mono h hm | skip
 obtain ⟨h1,h2,h3,h4,blk,g,k,h5,h0,h6,h7,h8,h9⟩:=h
 exact ⟨h1,h2,h3,h4,blk,g,k,h5,Nat.le_trans hm h0,h6,h7,h8.mono hm,h9.mono hm⟩
def jE (S:PS) (x:PX) (w:World) (e:Ending) (w':World):Prop:=∃ f:WF,e = .returned f.val∧gA w.heap.size w' S f x∧Below w.heap.size w w'
theorem oF (n:Nat) (w:World) (t d:Int):PNew n w t d sG dC :=
 ⟨⟨⟨.inl rfl,rfl,by decide,(fun r hr=>by cases hr),.inl rfl,rfl,(fun c hc=>by cases hc),by decide⟩,rfl,.zero,rfl⟩,(fun ad e=>by cases e),(fun ad e=>by cases e)⟩
theorem zE {n:Nat} {w:World} {t d u m:Int} {blk:Nat} {g h:WF} {a b:PF} (h6:W6 w blk 0 g) (h7:W6 w blk 6 h) (hn:n≤blk) (ha:PNew n w t d g a) (hb:PNew n w u m h b):gA n w (.two t d u m) (zC blk) (.two a b) :=
 ⟨rfl,rfl,rfl,rfl,blk,g,h,rfl,hn,h6,h7,ha,hb⟩
theorem jX {k:IntKind} {a b:Int} (h:a=b):Ending.returned (.int k a) = .returned (.int k b):=by rw [h]
def Row (w:World) (a:Option Addr) (zs:List Int):Prop :=
 zs=[]∨∃ b off,a=some ⟨b,off,none⟩∧∀ i,i < zs.length→w.cell? ⟨b,off+i,none⟩=some (.int .i64 (zs.getD i 0))
def okc (limit c:Int):Bool:=decide (-1≤c) && decide (c≤limit)
def chk (limit:Int) (zs:List Int):Int:=if limit < 0∨1048576 < limit then 20 else if zs.all (okc limit) then 0 else 21
def gX (a b:Int):Int:=if a = -1 then b else if b = -1 then a else min a b
def kN (limit a b:Int):Int:=if a = -1∨b = -1 then -1 else min (a+b) limit
theorem Jz (a b:Int) (w:World):Calls prog 160 #[.int .i64 a,.int .i64 b] w fun e w'=>e = .returned (.int .i64 (gX a b))∧w=w':=by
 by_cases ha:a = -1
 ·have h1:(a == -1)=true:=by simp [ha]
  have e1:gX a b=b:=by simp [gX,ha]
  have H:=Lib.hid e1;clear e1 ha
  go_enter func160,ntmps160
  go_wp2
  go_ret
  exact ⟨jX H.out.symm,rfl⟩
 ·have h1:(a == -1)=false:=by simp [ha]
  by_cases hb:b = -1
  ·have h2:(b == -1)=true:=by simp [hb]
   have e1:gX a b=a:=by simp [gX,ha,hb]
   have H:=Lib.hid e1;clear e1 ha hb
   go_enter func160,ntmps160
   go_wp2
   go_ret
   exact ⟨jX H.out.symm,rfl⟩
  ·have h2:(b == -1)=false:=by simp [hb]
   have e1:gX a b=min a b:=by simp [gX,ha,hb]
   have H:=Lib.hid e1;clear e1 ha hb
   go_enter func160,ntmps160
   go_wp2
   all_goals go_ret
   all_goals exact ⟨jX (by rw [H.out]<;>omega),rfl⟩
theorem Pd (l a b:Int) (w:World) (hs : -9223372036854775808≤a+b∧a+b≤9223372036854775807):Calls prog 172 #[.int .i64 l,.int .i64 a,.int .i64 b] w fun e w'=>e = .returned (.int .i64 (kN l a b))∧w=w':=by
 by_cases ha:a = -1
 ·have h1:(a == -1)=true:=by simp [ha]
  have e1:kN l a b = -1:=by simp [kN,ha]
  have H:=Lib.hid e1;clear e1 ha
  go_enter func172,ntmps172
  go_wp2
  go_ret
  exact ⟨jX H.out.symm,rfl⟩
 ·have h1:(a == -1)=false:=by simp [ha]
  by_cases hb:b = -1
  ·have h2:(b == -1)=true:=by simp [hb]
   have e1:kN l a b = -1:=by simp [kN,ha,hb]
   have H:=Lib.hid e1;clear e1 ha hb
   go_enter func172,ntmps172
   go_wp2
   go_ret
   exact ⟨jX H.out.symm,rfl⟩
  ·have h2:(b == -1)=false:=by simp [hb]
   have e1:kN l a b=min (a+b) l:=by simp [kN,ha,hb]
   have H:=Lib.hid e1;clear e1 ha hb
   obtain ⟨hs1,hs2⟩:=hs
   go_enter func172,ntmps172
   go_wp2
   all_goals go_ret
   all_goals exact ⟨jX (by rw [H.out]<;>omega),rfl⟩
theorem vS {p:Int→Bool} {zs:List Int} {k:Nat} {z:Int} (hk:k < zs.length) (hz:z=zs.getD k 0) (h:(zs.take k).all p=true) (hp:p z=true):(zs.take (k+1)).all p=true:=by
 rw [List.take_succ_eq_append_getElem hk,List.all_append,h]
 have:zs.getD k 0=zs[k]:=by simp [List.getD,hk]
 rw [this] at hz
 simp [← hz,hp]
theorem Ek {p:Int→Bool} {zs:List Int} {k:Nat} {z:Int} (hk:k < zs.length) (hz:z=zs.getD k 0) (hp:p z=false):zs.all p=false:=by
 have:zs.getD k 0=zs[k]:=by simp [List.getD,hk]
 rw [this] at hz
 rw [List.all_eq_false]
 exact ⟨zs[k],List.getElem_mem hk,by rw [← hz,hp];simp⟩
theorem Ms {limit:Int} {zs:List Int} {k:Nat} {z:Int} (h0:0≤limit) (h1:limit≤1048576) (hk:k < zs.length) (hz:z=zs.getD k 0) (hp:okc limit z=false):chk limit zs=21:=by
 unfold chk;rw [if_neg (by omega),Ek hk hz hp];rfl
theorem Sn {limit:Int} {zs:List Int} {k:Nat} (h0:0≤limit) (h1:limit≤1048576) (hk:zs.length≤k) (h:(zs.take k).all (okc limit)=true):chk limit zs=0:=by
 rw [List.take_of_length_le hk] at h
 unfold chk;rw [if_neg (by omega),h];rfl
theorem okc_lo {l z:Int} (h:z < -1):okc l z=false:=by simp [okc];omega
theorem okc_hi {l z:Int} (h:l < z):okc l z=false:=by simp [okc];omega
theorem okc_in {l z:Int} (h : -1≤z) (h2:z≤l):okc l z=true:=by simp [okc];omega
set_option maxHeartbeats 400000 in
theorem lZ (limit:Int) (a:Option Addr) (cap:Nat) (zs:List Int) (w:World) (hm:zs.length≤maxLen) (hrow:Row w a zs) :
  Calls prog 159 #[.int .i64 limit,.slice a zs.length cap] w fun e w'=>e = .returned (.int .i64 (chk limit zs))∧w=w':=by
 unfold maxLen at hm
 by_cases h0:limit < 0
 ·have e1:chk limit zs=20:=by simp [chk,h0]
  have H:=Lib.hid e1;clear e1
  go_enter func159,ntmps159
  go_wp2
  go_ret
  exact ⟨jX H.out.symm,rfl⟩
 by_cases h1:1048576 < limit
 ·have e1:chk limit zs=20:=by simp [chk,h1]
  have H:=Lib.hid e1;clear e1
  go_enter func159,ntmps159
  go_wp2
  go_ret
  exact ⟨jX H.out.symm,rfl⟩
 have h0':0≤limit:=by omega
 have h1':limit≤1048576:=by omega
 clear h0 h1
 go_enter func159,ntmps159
 go_wp2
 go_loop [15] (fun i=>∃ k:Nat,k≤zs.length∧i = .int .i64 k∧Hid ((zs.take k).all (okc limit)=true)) (fun i=>zs.length - (intOf i).toNat)
 case atStart=>exact ⟨0,Nat.zero_le _,rfl,by simp [Hid]⟩
 case round =>
  obtain ⟨k,hk,rfl,HA⟩:=hrel
  by_cases hlt:k < zs.length
  ·rcases hrow with h | ⟨b,off,rfl,hc⟩
   ·subst h;simp at hlt
   have hck:=hc k hlt
   obtain ⟨z,hz⟩:∃ z,z=zs.getD k 0:=⟨_,rfl⟩
   rw [← hz] at hck
   have HZ:=Lib.hid hz;clear hz hc
   by_cases h2:z < -1
   ·have H:=Lib.hid (Ms h0' h1' hlt HZ.out (okc_lo h2))
    go_wp2
    go_ret
    exact ⟨jX H.out.symm,rfl⟩
   by_cases h3:limit < z
   ·have H:=Lib.hid (Ms h0' h1' hlt HZ.out (okc_hi h3))
    go_wp2
    go_ret
    exact ⟨jX H.out.symm,rfl⟩
   have H:=Lib.hid (vS hlt HZ.out HA.out (okc_in (by omega) (by omega)))
   have h2' : -1≤z:=by omega
   have h3':z≤limit:=by omega
   clear h2 h3
   go_wp2
   go_round
   case rel=>exact ⟨k+1,by omega,by go_num,H⟩
   case measure=>simp [intOf];omega
  ·have H:=Lib.hid (Sn h0' h1' (by omega) HA.out)
   go_wp2
   go_ret
   exact ⟨jX H.out.symm,rfl⟩
def El (zs:List Int):Int:=zs.foldl gX (-1)
def So (limit:Int) (zs:List Int):Int:=zs.foldl (kN limit) 0
def nP (limit:Int) (zs:List Int):Int:=if chk limit zs=0 then El zs else 0
def A7 (limit:Int) (zs:List Int):Int:=if chk limit zs=0 then So limit zs else 0
theorem uE {limit:Int} {zs:List Int} (h:chk limit zs=0):0≤limit∧limit≤1048576∧zs.all (okc limit)=true:=by
 unfold chk at h
 split at h
 ·omega
 ·cases hz:zs.all (okc limit)<;>rw [hz] at h<;>simp at h
  exact ⟨by omega,by omega,rfl⟩
theorem Pe {zs:List Int} {k:Nat} {z:Int} (hk:k < zs.length) (hz:z=zs.getD k 0):zs.take (k+1)=zs.take k++[z]:=by
 rw [List.take_succ_eq_append_getElem hk]
 have:zs.getD k 0=zs[k]:=by simp [List.getD,hk]
 rw [hz,this]
theorem Cs {f:Int→Int→Int} {s:Int} {zs:List Int} {k:Nat} {z:Int} (hk:k < zs.length) (hz:z=zs.getD k 0):(zs.take (k+1)).foldl f s=f ((zs.take k).foldl f s) z:=by
 rw [Pe hk hz,List.foldl_append];rfl
theorem Mt {limit:Int} {zs:List Int} {k:Nat} {z:Int} (h:zs.all (okc limit)=true) (hk:k < zs.length) (hz:z=zs.getD k 0) : -1≤z∧z≤limit:=by
 have e:zs.getD k 0=zs[k]:=by simp [List.getD,hk]
 rw [List.all_eq_true] at h
 have:=h z (by rw [hz,e];exact List.getElem_mem hk)
 simp [okc] at this;exact this
theorem Sp {l a b:Int} (hl:0≤l) (ha : -1≤a) (ha2:a≤l) (hb : -1≤b) (hb2:b≤l) : -1≤kN l a b∧kN l a b≤l:=by
 unfold kN;split<;>omega
theorem rtwo {k k2:IntKind} {a b c d:Int} (h:a=b) (h2:c=d):Ending.returned (.tuple #[.int k a,.int k2 c]) = .returned (.tuple #[.int k b,.int k2 d]):=by rw [h,h2]
theorem Pf {a b l:Int} (ha : -1≤a) (ha2:a≤1048576) (hb : -1≤b) (hb2:b≤l) (hl:l≤1048576) : -1≤gX a b∧gX a b≤1048576:=by
 unfold gX;split
 ·omega
 ·split<;>omega
set_option maxHeartbeats 400000 in
theorem Pg (limit:Int) (a:Option Addr) (cap:Nat) (zs:List Int) (w:World) (hm:zs.length≤maxLen) (hrow:Row w a zs) :
  Calls prog 138 #[.int .i64 limit,.slice a zs.length cap] w fun e w'=>e = .returned (.tuple #[.int .i64 (nP limit zs),.int .i64 (chk limit zs)])∧w=w':=by
 have HM:=Lib.hid hm
 unfold maxLen at hm
 by_cases hc0:chk limit zs=0
 ·obtain ⟨hl0,hl1,hall⟩:=uE hc0
  have e1:nP limit zs=El zs:=by simp [nP,hc0]
  have H1:=Lib.hid e1
  have H0:=Lib.hid hc0
  have HALL:=Lib.hid hall
  have HROW:=Lib.hid hrow
  clear e1 hc0 hall hrow
  go_enter func138,ntmps138
  go_wp2_with (go_at_call 159;refine (lZ _ _ _ _ _ HM.out HROW.out).mono ?_;rintro e w' ⟨rfl,rfl⟩;rw [H0.out])
  go_loop [7,18] (fun m i=>∃ k:Nat,k≤zs.length∧i = .int .i64 k∧∃ s:Int,m = .int .i64 s ∧ -1≤s∧s≤1048576∧Hid (s=(zs.take k).foldl gX (-1))) (fun _ i=>zs.length - (intOf i).toNat)
  case atStart=>exact ⟨0,Nat.zero_le _,rfl,_,rfl,by omega,by omega,by simp [Hid]⟩
  case round =>
   obtain ⟨k,hk,rfl,s,rfl,hs1,hs2,HS⟩:=hrel
   by_cases hlt:k < zs.length
   ·rcases HROW.out with h | ⟨b,off,rfl,hc⟩
    ·subst h;simp at hlt
    have hck:=hc k hlt
    obtain ⟨z,hz⟩:∃ z,z=zs.getD k 0:=⟨_,rfl⟩
    rw [← hz] at hck
    obtain ⟨hz1,hz2⟩:=Mt HALL.out hlt hz
    have hs' : -1≤gX s z∧gX s z≤1048576:=Pf hs1 hs2 hz1 hz2 hl1
    have HZ:=Lib.hid hz;clear hz hc HROW
    go_wp2_with (go_at_call 160;refine (Jz _ _ _).mono ?_;rintro e w' ⟨rfl,rfl⟩)
    go_round
    case rel=>exact ⟨k+1,by omega,by go_num,_,rfl,hs'.1,hs'.2,by rw [HS.out];exact (Cs hlt HZ.out).symm⟩
    case measure=>simp [intOf];omega
   ·have HE:Hid (s=nP limit zs):=by rw [H1.out,HS.out,List.take_of_length_le (by omega)];rfl
    have HROW2:=HROW
    clear HROW
    go_wp2
    go_ret2
    exact ⟨rtwo HE.out H0.out.symm,rfl⟩
 ·have e1:nP limit zs=0:=by simp [nP,hc0]
  have H1:=Lib.hid e1
  have HROW:=Lib.hid hrow
  have hne:(chk limit zs != 0)=true:=by simpa using hc0
  obtain ⟨c,hcc⟩:∃ c,c=chk limit zs:=⟨_,rfl⟩
  rw [← hcc] at hne
  have HC:=Lib.hid hcc
  clear e1 hc0 hrow hcc
  go_enter func138,ntmps138
  go_wp2_with (go_at_call 159;refine (lZ _ _ _ _ _ HM.out HROW.out).mono ?_;rintro e w' ⟨rfl,rfl⟩;rw [← HC.out])
  go_ret2
  exact ⟨rtwo H1.out.symm HC.out,rfl⟩
set_option maxHeartbeats 400000 in
theorem sum_any (limit:Int) (a:Option Addr) (cap:Nat) (zs:List Int) (w:World) (hm:zs.length≤maxLen) (hrow:Row w a zs) :
  Calls prog 167 #[.int .i64 limit,.slice a zs.length cap] w fun e w'=>e = .returned (.tuple #[.int .i64 (A7 limit zs),.int .i64 (chk limit zs)])∧w=w':=by
 have HM:=Lib.hid hm
 unfold maxLen at hm
 by_cases hc0:chk limit zs=0
 ·obtain ⟨hl0,hl1,hall⟩:=uE hc0
  have e1:A7 limit zs=So limit zs:=by simp [A7,hc0]
  have H1:=Lib.hid e1
  have H0:=Lib.hid hc0
  have HALL:=Lib.hid hall
  have HROW:=Lib.hid hrow
  clear e1 hc0 hall hrow
  go_enter func167,ntmps167
  go_wp2_with (go_at_call 159;refine (lZ _ _ _ _ _ HM.out HROW.out).mono ?_;rintro e w' ⟨rfl,rfl⟩;rw [H0.out])
  go_loop [7,18] (fun m i=>∃ k:Nat,k≤zs.length∧i = .int .i64 k∧∃ s:Int,m = .int .i64 s ∧ -1≤s∧s≤limit∧Hid (s=(zs.take k).foldl (kN limit) 0)) (fun _ i=>zs.length - (intOf i).toNat)
  case atStart=>exact ⟨0,Nat.zero_le _,rfl,_,rfl,by omega,by omega,by simp [Hid]⟩
  case round =>
   obtain ⟨k,hk,rfl,s,rfl,hs1,hs2,HS⟩:=hrel
   by_cases hlt:k < zs.length
   ·rcases HROW.out with h | ⟨b,off,rfl,hc⟩
    ·subst h;simp at hlt
    have hck:=hc k hlt
    obtain ⟨z,hz⟩:∃ z,z=zs.getD k 0:=⟨_,rfl⟩
    rw [← hz] at hck
    obtain ⟨hz1,hz2⟩:=Mt HALL.out hlt hz
    have hs' : -1≤kN limit s z∧kN limit s z≤limit:=Sp hl0 hs1 hs2 hz1 hz2
    have HZ:=Lib.hid hz;clear hz hc HROW
    go_wp2_with (go_at_call 172;refine (Pd _ _ _ _ ⟨by omega,by omega⟩).mono ?_;rintro e w' ⟨rfl,rfl⟩)
    go_round
    case rel=>exact ⟨k+1,by omega,by go_num,_,rfl,hs'.1,hs'.2,by rw [HS.out];exact (Cs hlt HZ.out).symm⟩
    case measure=>simp [intOf];omega
   ·have HE:Hid (s=A7 limit zs):=by rw [H1.out,HS.out,List.take_of_length_le (by omega)];rfl
    have HROW2:=HROW
    clear HROW
    go_wp2
    go_ret2
    exact ⟨rtwo HE.out H0.out.symm,rfl⟩
 ·have e1:A7 limit zs=0:=by simp [A7,hc0]
  have H1:=Lib.hid e1
  have HROW:=Lib.hid hrow
  have hne:(chk limit zs != 0)=true:=by simpa using hc0
  obtain ⟨c,hcc⟩:∃ c,c=chk limit zs:=⟨_,rfl⟩
  rw [← hcc] at hne
  have HC:=Lib.hid hcc
  clear e1 hc0 hrow hcc
  go_enter func167,ntmps167
  go_wp2_with (go_at_call 159;refine (lZ _ _ _ _ _ HM.out HROW.out).mono ?_;rintro e w' ⟨rfl,rfl⟩;rw [← HC.out])
  go_ret2
  exact ⟨rtwo H1.out.symm HC.out,rfl⟩
theorem J0 {w:World} {a:Addr} {v:Value} (h:w.cell? a=some v):a.block < w.heap.size:=by
 rcases Nat.lt_or_ge a.block w.heap.size with h' | h'
 ·exact h'
 ·simp [World.cell?,Array.getElem?_eq_none h'] at h
theorem Row.below {w w':World} {a:Option Addr} {zs:List Int} (h:Row w a zs) (hb:Below w.heap.size w w'):Row w' a zs:=by
 rcases h with h | ⟨b,off,rfl,hc⟩
 ·exact .inl h
 ·refine .inr ⟨b,off,rfl,fun i hi=>?_⟩
  have h1:=hc i hi
  rw [hb.cell]
  ·exact h1
  ·exact J0 h1
theorem Ph {limit a b:Int} (h:chk limit [a,b]=0):nP limit [a,b]=gX a b:=by
 have h3:gX (-1) a=a:=by simp [gX]
 simp [nP,h,El,h3]
theorem sum_two {limit a b:Int} (h:chk limit [a,b]=0):A7 limit [a,b]=kN limit a b:=by
 have h2:=(uE h).2.2
 simp [okc] at h2
 have h3:kN limit 0 a=a:=by unfold kN;split<;>omega
 simp [A7,h,So,h3]
theorem G6 {limit a b:Int}:chk limit [a,b]=0↔(0≤limit∧limit≤1048576∧(-1≤a∧a≤limit)∧(-1≤b∧b≤limit)):=by
 constructor
 ·intro h
  have:=uE h
  simp [okc] at this
  omega
 ·intro h
  have:[a,b].all (okc limit)=true:=by simp [okc];omega
  simp only [chk,this]
  rw [if_neg (by omega)];rfl
end Go.Proofs.YtmgnkpibpjgncaaGreatDoor
namespace Go.Proofs.YtmgnkpibpjgncaaGreatDoor
open Go.Proofs.Tryz
open Go Go.RowKit
theorem fH.agree {A W:World} {lo:Nat} {a:Option Addr} {vs:List Value} (h:fH A a vs) (hl:∀ ad,a=some ad→lo≤ad.block) (hg:dG lo A W):fH W a vs:=by
 rcases h with h | ⟨b,off,rfl,hc⟩
 ·exact .inl h
 ·exact .inr ⟨b,off,rfl,fun i v hi=>hg.cell (p:=⟨b,off+i,none⟩) (hl ⟨b,off,none⟩ rfl) (hc i v hi)⟩
theorem eZ.agree {A W:World} {lo:Nat} {a:Option Addr} {cs:List Cl} (h:eZ A a cs) (hl:∀ ad,a=some ad→lo≤ad.block) (hg:dG lo A W):eZ W a cs:=by
 rcases h with h | ⟨b,off,rfl,hc⟩
 ·exact .inl h
 ·exact .inr ⟨b,off,rfl,fun i c hi=>⟨hg.cell (p:=⟨b,_,none⟩) (hl ⟨b,off,none⟩ rfl) (hc i c hi).1,hg.cell (p:=⟨b,_,none⟩) (hl ⟨b,off,none⟩ rfl) (hc i c hi).2.1,hg.cell (p:=⟨b,_,none⟩) (hl ⟨b,off,none⟩ rfl) (hc i c hi).2.2⟩⟩
theorem W6.agree {A W:World} {lo b o:Nat} {f:WF} (h:W6 A b o f) (hb:lo≤b) (hg:dG lo A W):W6 W b o f :=
 ⟨hg.cell hb h.1,hg.cell hb h.2.1,hg.cell hb h.2.2.1,hg.cell hb h.2.2.2.1,hg.cell hb h.2.2.2.2.1,hg.cell hb h.2.2.2.2.2⟩
theorem PNew.agree {n:Nat} {A W:World} {t d:Int} {f:WF} {a:PF} (h:PNew n A t d f a) (hg:dG n A W):PNew n W t d f a :=
 ⟨⟨⟨h.is.at_.rows.agree h.ra hg,h.is.at_.rl,h.is.at_.g64,h.is.at_.r64,h.is.at_.cells.agree h.ca hg,h.is.at_.cl,h.is.at_.bits,h.is.at_.cmax⟩,h.is.pf,h.is.ok,h.is.pl⟩,h.ra,h.ca⟩
theorem gA.agree {n:Nat} {A W:World} {S:PS} {f:WF} {x:PX} (h:gA n A S f x) (hg:dG n A W):gA n W S f x:=by
 cases S<;>cases x<;>first | exact h.elim | exact PNew.agree h hg | skip
 obtain ⟨h1,h2,h3,h4,blk,g,k,h5,h0,h6,h7,h8,h9⟩:=h
 exact ⟨h1,h2,h3,h4,blk,g,k,h5,h0,h6.agree h0 hg,h7.agree h0 hg,h8.agree hg,h9.agree hg⟩
theorem W6.cells {w:World} {b o:Nat} {f:WF} (h:W6 w b o f):aF w b o f.six:=⟨h.1,h.2.1,h.2.2.1,h.2.2.2.1,h.2.2.2.2.1,h.2.2.2.2.2,trivial⟩
theorem W6.of_cells {w:World} {b o:Nat} {f:WF} (h:aF w b o f.six):W6 w b o f:=⟨h.1,h.2.1,h.2.2.1,h.2.2.2.1,h.2.2.2.2.1,h.2.2.2.2.2.1⟩
abbrev SF.three (f:SF):List Value:=[.int .i64 f.tag,.int .i64 f.dim,.slice f.a f.len f.cap]
theorem S3.cells {w:World} {b o:Nat} {f:SF} (h:S3 w b o f):aF w b o f.three:=⟨h.1,h.2.1,h.2.2,trivial⟩
abbrev Ct (c:Int):WF:=⟨false,c,0,none,0,0,[],none,0,0,[],none,0,0⟩
abbrev Em (g:Nat) (a:Option Addr) (cap:Nat) (rows:List Nat):WF:=⟨false,0,g,a,rows.length,cap,rows,none,0,0,[],none,0,0⟩
abbrev En (a:Option Addr) (cap:Nat) (cs:List Cl):WF:=⟨false,0,0,none,0,0,[],a,cs.length,cap,cs,none,0,0⟩
theorem qP {n:Nat} {W:World} {t d c:Int} (h:OkP t d (pC c)):PNew n W t d (Ct c) (pC c) :=
 ⟨⟨⟨.inl rfl,rfl,(by show (0:Nat) < _;decide),(fun r hr=>by cases hr),.inl rfl,rfl,(fun c hc=>by cases hc),(by show (0:Nat)≤_;decide)⟩,rfl,h,rfl⟩,(fun ad e=>by cases e),(fun ad e=>by cases e)⟩
theorem vT {n:Nat} {W:World} {t d:Int} {g:Nat} {a:Option Addr} {cap:Nat} {rows:List Nat} (h:OkP t d (pF g rows)) (hg:g < 18446744073709551616) (hr:∀ r∈rows,r < 18446744073709551616) (hv:fH W a (u64s rows)) (hl:∀ ad,a=some ad→n≤ad.block):PNew n W t d (Em g a cap rows) (pF g rows) :=
 ⟨⟨⟨hv,rfl,hg,hr,.inl rfl,rfl,(fun c hc=>by cases hc),by simp [maxLen]⟩,rfl,h,rfl⟩,hl,(fun ad e=>by cases e)⟩
theorem vU {n:Nat} {W:World} {t d:Int} {a:Option Addr} {cap:Nat} {cs:List Cl} (h:OkP t d (pX cs)) (hb:oQ cs) (hm:cs.length≤maxLen) (hv:eZ W a cs) (hl:∀ ad,a=some ad→n≤ad.block):PNew n W t d (En a cap cs) (pX cs) :=
 ⟨⟨⟨.inl rfl,rfl,(by show (0:Nat) < _;decide),(fun r hr=>by cases hr),hv,rfl,hb,hm⟩,rfl,h,rfl⟩,(fun ad e=>by cases e),hl⟩
theorem PIs.z {w:World} {t n:Int} {f:WF} {x:PF} (h:PIs w t n f x):x.z=f.z:=by rw [← h.pf];rfl
theorem PIs.zero {w:World} {t n:Int} {f:WF} {x:PF} (h:PIs w t n f x) (hz:f.z=true):x=dC:=by
 have h1:=h.z;have h2:=h.ok
 rw [hz] at h1
 cases h2<;>first | rfl | cases h1
theorem lU {f:WF} {x:PF} (h:f.pf=x):f.z=x.z∧f.c=x.c∧f.g=x.g∧f.rows=x.rows∧f.cells=x.cells:=by subst h;exact ⟨rfl,rfl,rfl,rfl,rfl⟩
theorem PIs.k1 {w:World} {n:Int} {f:WF} {x:PF} (h:PIs w 1 n f x) (hz:f.z=false):x=pC 0:=by
 rcases iR h.ok with rfl | rfl
 ·rw [(lU h.pf).1] at hz;cases hz
 ·rfl
theorem PIs.k2 {w:World} {n:Int} {f:WF} {x:PF} (h:PIs w 2 n f x) (hz:f.z=false):x=pC f.c∧0≤f.c∧f.c≤n:=by
 rcases iI h.ok with rfl | ⟨c,rfl,h0,h1⟩
 ·rw [(lU h.pf).1] at hz;cases hz
 ·have:f.c=c:=(lU h.pf).2.1
  subst this;exact ⟨rfl,h0,h1⟩
theorem PIs.k3 {w:World} {m:Nat} {f:WF} {x:PF} (h:PIs w 3 m f x) (hz:f.z=false):x=pF f.g f.rows∧Good m f.g f.rows:=by
 rcases iS h.ok with rfl | ⟨g,rows,rfl,h0⟩
 ·rw [(lU h.pf).1] at hz;cases hz
 ·have h1:f.g=g:=(lU h.pf).2.2.1
  have h2:f.rows=rows:=(lU h.pf).2.2.2.1
  subst h1;subst h2;exact ⟨rfl,h0⟩
theorem PIs.k4 {w:World} {m:Nat} {f:WF} {x:PF} (h:PIs w 4 m f x) (hz:f.z=false):x=pX f.cells∧Val m f.cells:=by
 rcases iT h.ok with rfl | ⟨cs,rfl,h0⟩
 ·rw [(lU h.pf).1] at hz;cases hz
 ·have h1:f.cells=cs:=(lU h.pf).2.2.2.2
  subst h1;exact ⟨rfl,h0⟩
theorem Mu {W:World} {B:Nat} {T:TypeId} {a b:Int} (h:W.heap[B]?=some (.cells (List.toArray [.int .i64 a,.int .i64 b]) T (0,0))):Row W (some ⟨B,0,none⟩) [a,b]:=by
 refine .inr ⟨B,0,rfl,fun i hi=>?_⟩
 match i,hi with
 | 0,_=>exact aH h rfl
 | 1,_=>exact aH h rfl
theorem then_is (d:Int) (a b:Option Addr) (capa capb:Nat) (xs ys:List Cl) (w:World) (ht:Tabs w) (hma:xs.length≤maxLen) (hmb:ys.length≤maxLen) (hra:eZ w a xs) (hrb:eZ w b ys) (hba:oQ xs) (hbb:oQ ys) (c:Int) (hc:nB d xs ys=c) (la lb:Nat) (hla:xs.length=la) (hlb:ys.length=lb) :
  Calls prog 169 #[.int .i64 d,.slice a la capa,.slice b lb capb] w (jU (thenR d xs ys) c w):=by
 subst hla;subst hlb;exact Sf d a b capa capb xs ys w ht hma hmb hra hrb hba hbb c hc
theorem rQ {t n:Int} {l:Nat} (h:bJ t n l=true):t≠5:=xL h
section
variable {w W:World} {k:Nat} {n:Int} {f g:WF} {x y:PF}
theorem fF {t:Int} {f:WF} {x:PF} (h:PNew w.heap.size W t n f x) (hb:Below w.heap.size w W):jE (.one t n) (.one x) w (.returned f.val) W:=⟨f,rfl,h,hb⟩
theorem ext_zL {t:Int} (hx:PIs w t n f x) (hz:f.z=true) (hb:Below w.heap.size w W):jE (.one t n) (.one (gM t n x y)) w (.returned sG.val) W:=by
 rw [hx.zero hz,nN];exact fF (oF _ _ _ _) hb
theorem ext_zR {t:Int} (hy:PIs w t n g y) (hz:g.z=true) (hb:Below w.heap.size w W):jE (.one t n) (.one (gM t n x y)) w (.returned sG.val) W:=by
 rw [hy.zero hz,nO];exact fF (oF _ _ _ _) hb
theorem ext_f1 (hx:PIs w 1 n f x) (hy:PIs w 1 n g y) (hf:f.z=false) (hg:g.z=false):PNew k W 1 n (Ct 0) (gM 1 n x y):=by
 rw [hx.k1 hf,hy.k1 hg,Co];exact qP (.bool rfl)
theorem ext_f2 (hp:bJ 2 n 0=true) (hx:PIs w 2 n f x) (hy:PIs w 2 n g y) (hf:f.z=false) (hg:g.z=false):PNew k W 2 n (Ct (A7 n [f.c,g.c])) (gM 2 n x y):=by
 obtain ⟨rfl,h0,h1⟩:=hx.k2 hf
 obtain ⟨rfl,h2,h3⟩:=hy.k2 hg
 obtain ⟨d0,d1,_⟩:=oT hp
 have hs:A7 n [f.c,g.c]=min (f.c+g.c) n:=by
  rw [sum_two (G6.2 ⟨d0,d1,⟨by omega,by omega⟩,by omega,by omega⟩)]
  unfold kN;rw [if_neg (by omega)]
 rw [Cp,hs]
 exact qP (.cost _ rfl (by omega) (by omega))
theorem ext_f3 {m:Nat} {a:Option Addr} {cap:Nat} (hx:PIs w 3 m f x) (hy:PIs w 3 m g y) (hf:f.z=false) (hg:g.z=false) (hv:fH W a (u64s (mI m f.g f.rows g.g g.rows))) (hl:∀ ad,a=some ad→k≤ad.block):PNew k W 3 m (Em (mW m f.g f.rows g.g g.rows) a cap (mI m f.g f.rows g.g g.rows)) (gM 3 m x y):=by
 obtain ⟨hx',h0⟩:=hx.k3 hf
 obtain ⟨hy',h1⟩:=hy.k3 hg
 rw [hx',hy',Cq]
 exact vT (.facts m _ _ rfl rfl (h0.extT h1)) (h0.extT h1).g64 (h0.extT h1).r64 hv hl
theorem ext_f4 {m:Nat} {a:Option Addr} {cap:Nat} (hx:PIs w 4 m f x) (hy:PIs w 4 m g y) (hf:f.z=false) (hg:g.z=false) (hv:eZ W a (thenR m f.cells g.cells)) (hl:∀ ad,a=some ad→k≤ad.block):PNew k W 4 m (En a cap (thenR m f.cells g.cells)) (gM 4 m x y):=by
 obtain ⟨hx',h0⟩:=hx.k4 hf
 obtain ⟨hy',h1⟩:=hy.k4 hg
 have e:thenR m f.cells g.cells=fT f.cells g.cells:=by unfold thenR;rw [if_pos (h0.chk2 h1)]
 have hv2:=G4 h0 h1
 rw [e] at hv ⊢
 rw [hx',hy',Cr]
 exact vU (.cells m _ rfl rfl hv2) hv2.bits (by have:=hv2.le;have:=hv2.len;unfold maxLen;omega) hv hl
theorem comb_f1 (hx:PIs w 1 n f x) (hy:PIs w 1 n g y) (hf:f.z=false) (hg:g.z=false):PNew k W 1 n (Ct 0) (dU 1 n x y):=by
 rw [hx.k1 hf,hy.k1 hg,qN];exact qP (.bool rfl)
theorem comb_f2 (hp:bJ 2 n 0=true) (hx:PIs w 2 n f x) (hy:PIs w 2 n g y) (hf:f.z=false) (hg:g.z=false):PNew k W 2 n (Ct (nP n [f.c,g.c])) (dU 2 n x y):=by
 obtain ⟨rfl,h0,h1⟩:=hx.k2 hf
 obtain ⟨rfl,h2,h3⟩:=hy.k2 hg
 obtain ⟨d0,d1,_⟩:=oT hp
 have hs:nP n [f.c,g.c]=min f.c g.c:=by
  rw [Ph (G6.2 ⟨d0,d1,⟨by omega,by omega⟩,by omega,by omega⟩)]
  unfold gX;rw [if_neg (by omega),if_neg (by omega)]
 rw [mK,hs]
 exact qP (.cost _ rfl (by omega) (by omega))
theorem comb_f3 {m:Nat} {a:Option Addr} {cap:Nat} (hx:PIs w 3 m f x) (hy:PIs w 3 m g y) (hf:f.z=false) (hg:g.z=false) (hv:fH W a (u64s (gG m f.g f.rows g.g g.rows))) (hl:∀ ad,a=some ad→k≤ad.block):PNew k W 3 m (Em (gQ m f.g f.rows g.g g.rows) a cap (gG m f.g f.rows g.g g.rows)) (dU 3 m x y):=by
 obtain ⟨hx',h0⟩:=hx.k3 hf
 obtain ⟨hy',h1⟩:=hy.k3 hg
 rw [hx',hy',oY]
 exact vT (.facts m _ _ rfl rfl (h0.combT h1)) (h0.combT h1).g64 (h0.combT h1).r64 hv hl
theorem comb_f4 {m:Nat} {a:Option Addr} {cap:Nat} (hx:PIs w 4 m f x) (hy:PIs w 4 m g y) (hf:f.z=false) (hg:g.z=false) (hv:eZ W a (sF m f.cells g.cells)) (hl:∀ ad,a=some ad→k≤ad.block):PNew k W 4 m (En a cap (sF m f.cells g.cells)) (dU 4 m x y):=by
 obtain ⟨hx',h0⟩:=hx.k4 hf
 obtain ⟨hy',h1⟩:=hy.k4 hg
 have e:sF m f.cells g.cells=dF f.cells g.cells:=by unfold sF;rw [if_pos (h0.chk2 h1)]
 have hv2:=uB h0 h1
 rw [e] at hv ⊢
 rw [hx',hy',oZ]
 exact vU (.cells m _ rfl rfl hv2) hv2.bits (by have:=hv2.le;have:=hv2.len;unfold maxLen;omega) hv hl
theorem one_f1 {t:Int} (hp:bJ t n 0=true) (h3:t≠3) (h4:t≠4):PNew k W t n (Ct 0) (kK t n):=by
 have h:=xJ hp
 have e:kK t n=pC 0:=by unfold kK;rw [if_neg h3,if_neg h4]
 rw [e] at h ⊢
 exact qP h
theorem one_f3 {m:Nat} {a:Option Addr} {cap:Nat} (hm:m≤64) (hv:fH W a (u64s (gR m))) (hl:∀ ad,a=some ad→k≤ad.block):PNew k W 3 m (Em 0 a cap (gR m)) (kK 3 m):=by
 rw [Mo]
 exact vT (.facts m _ _ rfl rfl (kR hm)) (by decide) (kR hm).r64 hv hl
theorem one_f4 {m:Nat} {a:Option Addr} {cap:Nat} (hm:m≤64) (hv:eZ W a (iG m)) (hl:∀ ad,a=some ad→k≤ad.block):PNew k W 4 m (En a cap (iG m)) (kK 4 m):=by
 have h:=G5 hm
 rw [Mp]
 exact vU (.cells m _ rfl rfl h) h.bits (by have:=h.len;unfold maxLen;omega) hv hl
theorem Pi {t:Int} {l:Nat} (h:bJ t n l=true) (ht:t=3∨t=4):∃ m:Nat,n=m∧m≤64:=by
 obtain ⟨d0,_,_,d3⟩:=oT h
 exact ⟨n.toNat,by omega,by have:=d3 ht;omega⟩
theorem Tabs.c {w:World} (h:Tabs w):TabC w:=⟨h.ctz⟩
end
def SIs (w:World):PS→SF→Prop
 | .one t n,f=>∃ a c,f=⟨t,n,a,0,c⟩
 | .two t n u m,f=>∃ b off c a1 c1 a2 c2,f=⟨5,0,some ⟨b,off,none⟩,2,c⟩∧S3 w b off ⟨t,n,a1,0,c1⟩∧S3 w b (off+3) ⟨u,m,a2,0,c2⟩
theorem SIs.below {w w':World} {S:PS} {f:SF} (h:SIs w S f) (hb:Below w.heap.size w w'):SIs w' S f:=by
 cases S with
 | one t n=>exact h
 | two t n u m =>
  obtain ⟨b,off,c,a1,c1,a2,c2,h1,h2,h3⟩:=h
  exact ⟨b,off,c,a1,c1,a2,c2,h1,h2.below hb,h3.below hb⟩
def dL (lo:Nat) (S:PS) (x:PX):Asr:=fun v w=>∃ f:WF,v=f.val∧gA lo w S f x
theorem dS {lo:Nat} {S:PS} {x:PX}:iD (dL lo S x):=fun v w w' ⟨f,h1,h2⟩ hb=>⟨f,h1,h2.below hb⟩
theorem gO {P:Program} {f:FuncId} {vs:Array Value} {w:World} {S:PS} {x:PX} {lo:Nat} (hlo:lo≤w.heap.size) (h:Calls P f vs w (jE S x w)):Calls P f vs w (Fo (dL lo S x) w):=h.mono fun e w' ⟨f,he,hn,hb⟩=>⟨f.val,he,⟨f,rfl,hn.mono hlo⟩,hb⟩
theorem qQ {p q:Asr} {vs:List Value} {w:World} (h:nU [p,q] vs w):∃ a b,vs=[a,b]∧p a w∧q b w:=by
 match vs,h with
 | [a,b],h=>exact ⟨a,b,rfl,h.1,h.2.1⟩
theorem tC {w:World} {lo:Nat} {t n u m:Int} {a b:PF} {vs:List Value} (hlo:lo≤w.heap.size) (h:nU [dL lo (.one t n) (.one a),dL lo (.one u m) (.one b)] vs w):Calls prog 136 vs.toArray w (Fo (dL lo (.two t n u m) (.two a b)) w):=by
 obtain ⟨v1,v2,rfl,⟨f,rfl,hf⟩,g,rfl,hg⟩:=qQ h
 refine (Mq f g w).mono ?_
 rintro e w' ⟨blk,rfl,h6,h7,hb1,hb⟩
 exact ⟨_,rfl,⟨zC blk,rfl,zE h6 h7 (Nat.le_trans hlo hb1) (PNew.below hf hb) (PNew.below hg hb)⟩,hb⟩
theorem G7:bP prog 130=true:=by kernel_rfl
theorem Sq:bP prog 131=true:=by kernel_rfl
theorem Sr:bP prog 132=true:=by kernel_rfl
theorem zF (p q:SV) (g:WF) (qs:List WV) {w:World} {e:Nat} (hw:WIn w (e+1) (.mk g qs)):g.z=true∨(g.z=false∧g.pl≠2)∨(∃ x y,g.z=false∧qs=[x,y]∧fE p.f.tag p.f.dim x.f=false)∨(∃ x y,g.z=false∧qs=[x,y]∧fE p.f.tag p.f.dim x.f=true):=by
 cases hz:g.z with
 | true=>exact .inl rfl
 | false =>
  refine .inr ?_
  by_cases h2:g.pl=2
  ·refine .inr ?_
   obtain ⟨x,y,rfl⟩:=sS (hw.2.1.trans h2)
   cases h:fE p.f.tag p.f.dim x.f with
   | false=>exact .inl ⟨x,y,rfl,rfl,h⟩
   | true=>exact .inr ⟨x,y,rfl,rfl,h⟩
  ·exact .inl ⟨rfl,h2⟩
theorem mN (t n:Int) (a:Option Addr) (l c0:Nat) (f:WF) (hp:bJ t n l=true) (hs:0≤f.rl) (w:World) (hf:f.At w) (r:Bool) (hr:fE t n f=r) :
  Calls prog 103 #[.agg #[.int .i64 t,.int .i64 n,.slice a l c0],f.val] w (fun e w'=>e = .returned (.bool (r))∧Below w.heap.size w w'):=by
 refine cD (args:=[.agg #[.int .i64 t,.int .i64 n,.slice a l c0],f.val]) func103 rfl ntmps103 rfl ?_
 have hS:=St.start w
 have htg:=(gL hp).2
 have h5:t≠5:=by omega
 refine aM (aQ (bY (cs:=[_,_,_]) hS rfl rfl rfl fun B1 W1 hS=>bY (cs:=[_,_,_,_,_,_]) hS rfl rfl rfl fun B2 W2 hS=>aC rfl rfl (aN (XF.thenN (aM (aM (aQ (aT (vs:=[_,_,_]) isAgg25 sizeOf25 rfl (aF.own (j:=0) (m:=3) (hS.at_ 1 rfl) rfl) rfl (aT (vs:=[_,_,_,_,_,_]) isAgg44 sizeOf44 rfl (aF.own (j:=0) (m:=6) (hS.at_ 0 rfl) rfl) rfl (cA (vs:=[_,_]) hS G7 rfl (Mh t n a l c0 f _ rfl _) rfl fun W3 hS=>eS rfl rfl (aN (XF.thenN (bB rfl (fun hc=>?_) (fun hc=>?_))))))))))))))
 ·have hc8:=hc;clear hc
  refine aM (aQ (aC rfl rfl (aN (XF.thenN (bL (XF.thenR (XF.res (cE results103 rfl) ?_)))))))
  exact ⟨bT (by rw [← hr];unfold fE;rw [show iQ t f=false by simpa using hc8];rfl),hS.below⟩
 ·have hc8:=hc;clear hc
  have hbb:iQ t f=true:=by simpa using hc8
  refine bI (XF.thenN (aM (aM (aQ (aK (o':=0) fL rfl rfl rfl (aR isAgg22 rfl (aH (hS.at_ 1 rfl) rfl) rfl (cY rfl rfl rfl (aN (XF.thenN (bB rfl (fun hc=>absurd (of_decide_eq_true hc) (by exact h5)) (fun hc=>?_)))))))))))
  have hc:=of_decide_eq_false hc
  refine bI (XF.thenN (aM (aM (aQ (aK (o':=0) eQ rfl rfl rfl (aR isAgg4 rfl (aH (hS.at_ 0 rfl) rfl) rfl (aN (XF.thenN (bB rfl (fun hc=>?_) (fun hc=>?_))))))))))
  ·have hc44:=hc;clear hc
   refine aM (aQ (aC rfl rfl (aN (XF.thenN (bL (XF.thenR (XF.res (cE results103 rfl) ?_)))))))
   exact ⟨bT (by rw [← hr];unfold fE;rw [hbb,show f.z=true from hc44];rfl),hS.below⟩
  ·have hc44:=hc;clear hc
   have hz:f.z=false:=hc44
   refine bI (XF.thenN (aM (aM (aQ (aK (o':=0) fL rfl rfl rfl (aR isAgg22 rfl (aH (hS.at_ 1 rfl) rfl) rfl (aN (XF.thenN (bK (aM (aQ (cY rfl rfl rfl (aC rfl rfl (aN (XF.thenN (bB rfl (fun hc=>?_) (fun hc=>?_)))))))))))))))))
   ·have hc47:=of_decide_eq_true hc;clear hc
    refine aM (aQ (aK (o':=1) gJ rfl rfl rfl (aR isAgg3 rfl (aH (hS.at_ 0 rfl) rfl) rfl (lO rfl rfl rfl (aE rfl rfl (bH (d:=52) rfl (fun hc=>?_) (fun hc=>?_)))))))
    ·have hg52:=of_decide_eq_true hc;clear hc
     refine aB (d:=52) rfl rfl (aK (o':=1) gJ rfl rfl rfl (aB (d:=52) rfl rfl (aR isAgg3 rfl (aH (hS.at_ 0 rfl) rfl) rfl (aB (d:=52) rfl rfl (aK (o':=1) fM rfl rfl rfl (aB (d:=52) rfl rfl (aR isAgg3 rfl (aH (hS.at_ 1 rfl) rfl) rfl (aB (d:=52) rfl rfl (vG rfl rfl rfl (aW rfl rfl rfl (aC rfl rfl (aN (XF.thenN (bL (XF.blkR (XF.thenR (XF.res (cE results103 rfl) ?_)))))))))))))))))
     exact ⟨bT (by rw [← hr];unfold fE;rw [hbb,hz,if_pos hc47];simp [show (0:Int)≤f.c from hg52]),hS.below⟩
    ·have hg52:=of_decide_eq_false hc;clear hc
     refine aD (d:=52) rfl rfl rfl rfl (aD (d:=52) rfl rfl rfl rfl (aD (d:=52) rfl rfl rfl rfl (aD (d:=52) rfl rfl rfl rfl (aD (d:=52) rfl rfl rfl rfl (bF rfl rfl rfl (aC rfl rfl (aN (XF.thenN (bL (XF.blkR (XF.thenR (XF.res (cE results103 rfl) ?_))))))))))))
     exact ⟨bT (by rw [← hr];unfold fE;rw [hbb,hz,if_pos hc47];simp [show ¬ (0:Int)≤f.c from hg52]),hS.below⟩
   ·have hc47:=of_decide_eq_false hc;clear hc
    refine aM (aQ (cY rfl rfl rfl (aC rfl rfl (aN (XF.thenN (bB rfl (fun hc=>?_) (fun hc=>?_)))))))
    ·have hc59:=of_decide_eq_true hc;clear hc
     refine aM (aQ (aK (o':=1) fM rfl rfl rfl (aR isAgg3 rfl (aH (hS.at_ 1 rfl) rfl) rfl (aK (o':=2) gK rfl rfl rfl (aT (vs:=[_,_]) isAgg40 sizeOf40 rfl (aF.own (j:=2) (m:=2) (hS.at_ 0 rfl) rfl) rfl (cA (vs:=[_,_]) hS Sq rfl (Jm n f.ra f.rc f.g f.rows _ (hf.below hS.below) _ rfl f.rl hf.rl) rfl fun W4 hS=>cY rfl rfl rfl (aC rfl rfl (aN (XF.thenN (bL (XF.blkR (XF.thenR (XF.res (cE results103 rfl) ?_)))))))))))))
     exact ⟨bT (by rw [← hr];unfold fE;rw [hbb,hz,if_neg hc47,if_pos hc59];rfl),hS.below⟩
    ·have hc59:=of_decide_eq_false hc;clear hc
     refine aM (aQ (cY rfl rfl rfl (aC rfl rfl (aN (XF.thenN (bB rfl (fun hc=>?_) (fun hc=>?_)))))))
     ·have hc67:=of_decide_eq_true hc;clear hc
      refine aM (aQ (aK (o':=1) fM rfl rfl rfl (aR isAgg3 rfl (aH (hS.at_ 1 rfl) rfl) rfl (aK (o':=4) eV rfl rfl rfl (aR isAgg41 rfl (aH (hS.at_ 0 rfl) rfl) rfl ?_)))))
      refine cA (vs:=[_,_]) hS Sr rfl (tS n f.ca f.cl f.cc f.cells _ _ hf.cl (by rw [hf.cl];exact hf.cmax) (hf.cells.below hS.below) hf.bits rfl) rfl fun W5 hS=>?_
      refine cY rfl rfl rfl (aC rfl rfl (aN (XF.thenN (bL (XF.blkR (XF.thenR (XF.res (cE results103 rfl) ?_)))))))
      exact ⟨bT (by rw [← hr];unfold fE;rw [hbb,hz,if_neg hc47,if_neg hc59,if_pos hc67];rfl),hS.below⟩
     ·have hc67:=of_decide_eq_false hc;clear hc
      refine bI (XF.blkN (XF.thenN (aM (aQ (aC rfl rfl (aN (XF.thenN (bL (XF.res (cE results103 rfl) ?_)))))))))
      exact ⟨bT (by rw [← hr];unfold fE;rw [hbb,hz,if_neg hc47,if_neg hc59,if_neg hc67];rfl),hS.below⟩
theorem Cu (d:Nat) (sa:Option Addr) (sc:Nat) (p q:SV) (g:WF) (qs:List WV) (w:World) (hsp:SIn w (d+1) (.mk ⟨5,0,sa,2,sc⟩ [p,q])) (hp:p.pl=true) (hq:q.pl=true) (e:Nat) (hw:WIn w (e+1) (.mk g qs)) (hs:∀ x∈qs,0≤x.f.rl) (r:Bool) (hr:gW p q g qs=r) :
  Calls prog 103 #[.agg #[.int .i64 5,.int .i64 0,.slice sa 2 sc],g.val] w (fun e w'=>e = .returned (.bool (r))∧Below w.heap.size w w'):=by
 refine cD (args:=[.agg #[.int .i64 5,.int .i64 0,.slice sa 2 sc],g.val]) func103 rfl ntmps103 rfl ?_
 have hS:=St.start w
 obtain ⟨_,b,off,ha,hb0,hp3,hq3,_,_⟩:=hsp.two
 obtain rfl:sa=some ⟨b,off,none⟩:=ha
 refine aM (aQ (bY (cs:=[_,_,_]) hS rfl rfl rfl fun B1 W1 hS=>bY (cs:=[_,_,_,_,_,_]) hS rfl rfl rfl fun B2 W2 hS=>aC rfl rfl (aN (XF.thenN (aM (aM (aQ (aT (vs:=[_,_,_]) isAgg25 sizeOf25 rfl (aF.own (j:=0) (m:=3) (hS.at_ 1 rfl) rfl) rfl (aT (vs:=[_,_,_,_,_,_]) isAgg44 sizeOf44 rfl (aF.own (j:=0) (m:=6) (hS.at_ 0 rfl) rfl) rfl (cA (vs:=[_,_]) hS G7 rfl (Mh 5 0 _ 2 sc g _ rfl _) rfl fun W3 hS=>eS rfl rfl (aN (XF.thenN (bB rfl (fun hc=>?_) (fun hc=>?_))))))))))))))
 ·have hc8:=hc;clear hc
  refine aM (aQ (aC rfl rfl (aN (XF.thenN (bL (XF.thenR (XF.res (cE results103 rfl) ?_)))))))
  exact ⟨bT (by rw [← hr];unfold gW;rw [show iQ 5 g=false by simpa using hc8];rfl),hS.below⟩
 ·have hc8:=hc;clear hc
  have hbb:iQ 5 g=true:=by simpa using hc8
  refine bI (XF.thenN (aM (aM (aQ (aK (o':=0) fL rfl rfl rfl (aR isAgg22 rfl (aH (hS.at_ 1 rfl) rfl) rfl (cY rfl rfl rfl (aN (XF.thenN (bB rfl (fun hc=>?_) (fun hc=>absurd (of_decide_eq_false hc) (by decide))))))))))))
  have hc:=of_decide_eq_true hc
  refine aM ?_
  rcases zF p q g qs hw with h1 | h1 | h1 | h1
  ·skip
   refine lQ (m:=32) cF hS (by kernel_rfl) (by kernel_rfl) rfl (cL 1 rfl 3 rfl rfl (fun w hw=>aV (o':=0) eQ rfl rfl) rfl (bC 2 rfl 12 0 rfl rfl rfl (fun w hw=>aZ isAgg4 rfl ((aP hw 0).cell (Nat.zero_le _) (aH (hS.at_ 0 rfl) rfl))) rfl ?_))
   refine aL 3 rfl (isV (.bool false)) (aI _) (qB (li:=[(13,_)]) rfl (aS rfl) ⟨aO 1 (aA rfl rfl rfl),trivial⟩ (fun w hw=>lN rfl) (by rw [h1];rfl) (aG rfl)) ?_
   refine bC 4 rfl 14 2 rfl rfl rfl (fun w hw=>bA rfl) rfl (aL 5 rfl (isV undef) (aI _) (bQ rfl (bX 15 rfl (aA rfl rfl rfl) rfl) (aG rfl)) (aL 6 rfl (isV undef) (aI _) (bQ rfl (bX 15 rfl (aA rfl rfl rfl) rfl) (aG rfl)) (aL 7 rfl (isV undef) (aI _) (bQ rfl (bX 15 rfl (aA rfl rfl rfl) rfl) (aG rfl)) (aL 8 rfl (isV undef) (aI _) (bQ rfl (bX 15 rfl (aA rfl rfl rfl) rfl) (aG rfl)) (bC 9 rfl 15 3 rfl rfl rfl (fun w hw=>eY rfl rfl) rfl (bC 10 rfl 20 8 rfl rfl rfl (fun w hw=>bA rfl) rfl (aL 11 rfl (isV undef) (aI _) (bQ rfl (bX 21 rfl (aA rfl rfl rfl) rfl) (aG rfl)) (aL 12 rfl (isV undef) (aI _) (bQ rfl (bX 21 rfl (aA rfl rfl rfl) rfl) (aG rfl)) (aL 13 rfl (isV undef) (aI _) (bQ rfl (bX 21 rfl (aA rfl rfl rfl) rfl) (aG rfl)) (aL 14 rfl (isV undef) (aI _) (bQ rfl (bX 21 rfl (aA rfl rfl rfl) rfl) (aG rfl)) (aL 15 rfl (isV undef) (aI _) (bQ rfl (bX 21 rfl (aA rfl rfl rfl) rfl) (aG rfl)) (aL 16 rfl (isV undef) (aI _) (bQ rfl (bX 21 rfl (aA rfl rfl rfl) rfl) (aG rfl)) (aL 17 rfl (isV undef) (aI _) (bQ rfl (bX 21 rfl (aA rfl rfl rfl) rfl) (aG rfl)) (aL 18 rfl (isV undef) (aI _) (bQ rfl (bX 21 rfl (aA rfl rfl rfl) rfl) (aG rfl)) (aL 19 rfl (isV undef) (aI _) (bQ rfl (bX 21 rfl (aA rfl rfl rfl) rfl) (aG rfl)) (bC 20 rfl 21 9 rfl rfl rfl (fun w hw=>eY rfl rfl) rfl (bC 21 rfl 31 19 rfl rfl rfl (fun w hw=>bA rfl) rfl (aL 22 rfl (isV undef) (aI _) (bQ rfl (bX 32 rfl (aA rfl rfl rfl) rfl) (aG rfl)) (aL 23 rfl (isV undef) (aI _) (bQ rfl (bX 32 rfl (aA rfl rfl rfl) rfl) (aG rfl)) (aL 24 rfl (isV undef) (aI _) (bQ rfl (bX 32 rfl (aA rfl rfl rfl) rfl) (aG rfl)) ?_))))))))))))))))))))
   refine aL 25 rfl (isV undef) (aI _) (bQ rfl (bX 32 rfl (aA rfl rfl rfl) rfl) (aG rfl)) (aL 26 rfl (isV undef) (aI _) (bQ rfl (bX 32 rfl (aA rfl rfl rfl) rfl) (aG rfl)) (aL 27 rfl (isV undef) (aI _) (bQ rfl (bX 32 rfl (aA rfl rfl rfl) rfl) (aG rfl)) (aL 28 rfl (isV undef) (aI _) (bQ rfl (bX 32 rfl (aA rfl rfl rfl) rfl) (aG rfl)) (aL 29 rfl (isV undef) (aI _) (bQ rfl (bX 32 rfl (aA rfl rfl rfl) rfl) (aG rfl)) (aL 30 rfl (isV undef) (aI _) (bQ rfl (bX 32 rfl (aA rfl rfl rfl) rfl) (aG rfl)) (bC 31 rfl 32 20 rfl rfl rfl (fun w hw=>eY rfl rfl) rfl (bC 32 rfl 42 30 rfl rfl rfl (fun w hw=>fW rfl) rfl (dW ?_))))))))
   intro W4 hbR hS'
   clear hS;have hS:=hS';clear hS'
   refine aJ (aJ (aJ (aJ (aJ (aJ (aJ (aJ (aJ (aJ (aJ (aJ (aJ (aJ (aJ (aJ (aJ (aJ (aJ (aJ (aJ ?_))))))))))))))))))))
   refine aJ (aJ (aJ (aJ (aJ (aJ (aJ (aJ (aJ (aJ (aJ (cQ (XF.thenN (bL (XF.thenR (XF.res (cE results103 rfl) ?_)))))))))))))))
   exact ⟨bT (by rw [← hr];unfold gW;rw [hbb,h1];rfl),hS.below⟩
  ·obtain ⟨hz,h2⟩:=h1
   refine lQ (m:=32) cF hS (by kernel_rfl) (by kernel_rfl) rfl (cL 1 rfl 3 rfl rfl (fun w hw=>aV (o':=0) eQ rfl rfl) rfl (bC 2 rfl 12 0 rfl rfl rfl (fun w hw=>aZ isAgg4 rfl ((aP hw 0).cell (Nat.zero_le _) (aH (hS.at_ 0 rfl) rfl))) rfl ?_))
   refine aL 3 rfl (isV (.bool true)) (aI _) (qB (li:=[(13,_)]) rfl (aS rfl) ⟨aO 1 (aA rfl rfl rfl),trivial⟩ (fun w hw=>lN rfl) (by rw [hz];rfl) (aG rfl)) ?_
   refine bC 4 rfl 14 2 rfl rfl rfl (fun w hw=>bA rfl) rfl (aL 5 rfl (isV _) (aI _) (rgV (li:=[(3,_)]) rfl (bR 15 rfl (aA rfl rfl rfl)) ⟨cG rfl,trivial⟩ (fun w hw=>aV (o':=5) dJ rfl rfl) (aG rfl)) (aL 6 rfl (isV _) (aI _) (rgV (li:=[(16,_)]) rfl (bR 15 rfl (aA rfl rfl rfl)) ⟨aO 4 (aA rfl rfl rfl),trivial⟩ (fun w hw=>aZ isAgg42 rfl ((aP hw 0).cell (Nat.zero_le _) (aH (hS.at_ 0 rfl) rfl))) (aG rfl)) (aL 7 rfl (isV _) (aI _) (rgV (li:=[(17,_)]) rfl (bR 15 rfl (aA rfl rfl rfl)) ⟨aO 5 (aA rfl rfl rfl),trivial⟩ (fun w hw=>qA underlying42 rfl) (aG rfl)) (aL 8 rfl (isV (.bool false)) (aI _) (qB (li:=[(18,_)]) rfl (bR 15 rfl (aA rfl rfl rfl)) ⟨aO 6 (aA rfl rfl rfl),trivial⟩ (fun w hw=>sO rfl rfl) (by rw [decide_eq_false (by omega)]) (aG rfl)) (aL 9 rfl (isV _) (aI _) (rgV (li:=[(15,_),(19,_)]) rfl (aS rfl) ⟨aO 3 (aA rfl rfl rfl),aO 7 (aA rfl rfl rfl),trivial⟩ (fun w hw=>eX rfl rfl) (aG rfl)) (bC 10 rfl 20 8 rfl rfl rfl (fun w hw=>bA rfl) rfl (aL 11 rfl (isV undef) (aI _) (bQ rfl (bX 21 rfl (aA rfl rfl rfl) rfl) (aG rfl)) (aL 12 rfl (isV undef) (aI _) (bQ rfl (bX 21 rfl (aA rfl rfl rfl) rfl) (aG rfl)) (aL 13 rfl (isV undef) (aI _) (bQ rfl (bX 21 rfl (aA rfl rfl rfl) rfl) (aG rfl)) (aL 14 rfl (isV undef) (aI _) (bQ rfl (bX 21 rfl (aA rfl rfl rfl) rfl) (aG rfl)) (aL 15 rfl (isV undef) (aI _) (bQ rfl (bX 21 rfl (aA rfl rfl rfl) rfl) (aG rfl)) (aL 16 rfl (isV undef) (aI _) (bQ rfl (bX 21 rfl (aA rfl rfl rfl) rfl) (aG rfl)) (aL 17 rfl (isV undef) (aI _) (bQ rfl (bX 21 rfl (aA rfl rfl rfl) rfl) (aG rfl)) (aL 18 rfl (isV undef) (aI _) (bQ rfl (bX 21 rfl (aA rfl rfl rfl) rfl) (aG rfl)) (aL 19 rfl (isV undef) (aI _) (bQ rfl (bX 21 rfl (aA rfl rfl rfl) rfl) (aG rfl)) (bC 20 rfl 21 9 rfl rfl rfl (fun w hw=>eY rfl rfl) rfl (bC 21 rfl 31 19 rfl rfl rfl (fun w hw=>bA rfl) rfl (aL 22 rfl (isV undef) (aI _) (bQ rfl (bX 32 rfl (aA rfl rfl rfl) rfl) (aG rfl)) (aL 23 rfl (isV undef) (aI _) (bQ rfl (bX 32 rfl (aA rfl rfl rfl) rfl) (aG rfl)) (aL 24 rfl (isV undef) (aI _) (bQ rfl (bX 32 rfl (aA rfl rfl rfl) rfl) (aG rfl)) ?_))))))))))))))))))))
   refine aL 25 rfl (isV undef) (aI _) (bQ rfl (bX 32 rfl (aA rfl rfl rfl) rfl) (aG rfl)) (aL 26 rfl (isV undef) (aI _) (bQ rfl (bX 32 rfl (aA rfl rfl rfl) rfl) (aG rfl)) (aL 27 rfl (isV undef) (aI _) (bQ rfl (bX 32 rfl (aA rfl rfl rfl) rfl) (aG rfl)) (aL 28 rfl (isV undef) (aI _) (bQ rfl (bX 32 rfl (aA rfl rfl rfl) rfl) (aG rfl)) (aL 29 rfl (isV undef) (aI _) (bQ rfl (bX 32 rfl (aA rfl rfl rfl) rfl) (aG rfl)) (aL 30 rfl (isV undef) (aI _) (bQ rfl (bX 32 rfl (aA rfl rfl rfl) rfl) (aG rfl)) (bC 31 rfl 32 20 rfl rfl rfl (fun w hw=>eY rfl rfl) rfl (bC 32 rfl 42 30 rfl rfl rfl (fun w hw=>fW rfl) rfl (dW ?_))))))))
   intro W5 hbR hS'
   clear hS;have hS:=hS';clear hS'
   refine aJ (aJ (aJ (aJ (aJ (aJ (aJ (aJ (aJ (aJ (aJ (aJ (aJ (aJ (aJ (aJ (aJ (aJ (aJ (aJ (aJ ?_))))))))))))))))))))
   refine aJ (aJ (aJ (aJ (aJ (aJ (aJ (aJ (aJ (aJ (aJ (cQ (XF.thenN (bL (XF.thenR (XF.res (cE results103 rfl) ?_)))))))))))))))
   exact ⟨bT (by rw [← hr];unfold gW;rw [hbb,hz,show decide (qs.length=2)=false from decide_eq_false (by have h9:qs.length=g.pl:=hw.2.1;omega)];rfl),hS.below⟩
  ·obtain ⟨x,y,hz,rfl,hx1⟩:=h1
   obtain ⟨hpl,b2,off2,hpa,hb2,hx6,hy6,hxi,hyi⟩:=hw.two
   obtain ⟨gz,gc,gg,gra,grl,grc,grows,gca,gcl,gcc,gcells,gpa,gpl,gpc⟩:=g
   dsimp only at hpl hpa hz
   subst hpl;subst hpa
   refine lQ (m:=32) cF hS (by kernel_rfl) (by kernel_rfl) rfl (cL 1 rfl 3 rfl rfl (fun w hw=>aV (o':=0) eQ rfl rfl) rfl (bC 2 rfl 12 0 rfl rfl rfl (fun w hw=>aZ isAgg4 rfl ((aP hw 0).cell (Nat.zero_le _) (aH (hS.at_ 0 rfl) rfl))) rfl ?_))
   refine aL 3 rfl (isV (.bool true)) (aI _) (qB (li:=[(13,_)]) rfl (aS rfl) ⟨aO 1 (aA rfl rfl rfl),trivial⟩ (fun w hw=>lN rfl) (by rw [hz];rfl) (aG rfl)) ?_
   refine bC 4 rfl 14 2 rfl rfl rfl (fun w hw=>bA rfl) rfl (aL 5 rfl (isV _) (aI _) (rgV (li:=[(3,_)]) rfl (bR 15 rfl (aA rfl rfl rfl)) ⟨cG rfl,trivial⟩ (fun w hw=>aV (o':=5) dJ rfl rfl) (aG rfl)) (aL 6 rfl (isV _) (aI _) (rgV (li:=[(16,_)]) rfl (bR 15 rfl (aA rfl rfl rfl)) ⟨aO 4 (aA rfl rfl rfl),trivial⟩ (fun w hw=>aZ isAgg42 rfl ((aP hw 0).cell (Nat.zero_le _) (aH (hS.at_ 0 rfl) rfl))) (aG rfl)) (aL 7 rfl (isV _) (aI _) (rgV (li:=[(17,_)]) rfl (bR 15 rfl (aA rfl rfl rfl)) ⟨aO 5 (aA rfl rfl rfl),trivial⟩ (fun w hw=>qA underlying42 rfl) (aG rfl)) (aL 8 rfl (isV (.bool true)) (aI _) (qB (li:=[(18,_)]) rfl (bR 15 rfl (aA rfl rfl rfl)) ⟨aO 6 (aA rfl rfl rfl),trivial⟩ (fun w hw=>sO rfl rfl) (rfl) (aG rfl)) (aL 9 rfl (isV _) (aI _) (rgV (li:=[(15,_),(19,_)]) rfl (aS rfl) ⟨aO 3 (aA rfl rfl rfl),aO 7 (aA rfl rfl rfl),trivial⟩ (fun w hw=>eX rfl rfl) (aG rfl)) (bC 10 rfl 20 8 rfl rfl rfl (fun w hw=>bA rfl) rfl (aL 11 rfl (isV _) (aI _) (rgV (li:=[(2,_)]) rfl (bR 21 rfl (aA rfl rfl rfl)) ⟨cG rfl,trivial⟩ (fun w hw=>aV (o':=2) eF rfl rfl) (aG rfl)) (aL 12 rfl (isV _) (aI _) (rgV (li:=[(22,_)]) rfl (bR 21 rfl (aA rfl rfl rfl)) ⟨aO 10 (aA rfl rfl rfl),trivial⟩ (fun w hw=>aZ isAgg23 rfl ((aP hw 0).cell (Nat.zero_le _) (aH (hS.at_ 1 rfl) rfl))) (aG rfl)) ?_))))))))
   refine aL 13 rfl (isV _) (aI _) (rgV (li:=[(23,_)]) rfl (bR 21 rfl (aA rfl rfl rfl)) ⟨aO 11 (aA rfl rfl rfl),trivial⟩ (fun w hw=>bG (j:=0) underlying23 sizeOf25 rfl rfl rfl (by show _ < 2;decide) (Nat.add_zero _)) (aG rfl)) ?_
   refine aL 14 rfl (isV _) (aI _) (rgV (li:=[(24,_)]) rfl (bR 21 rfl (aA rfl rfl rfl)) ⟨aO 12 (aA rfl rfl rfl),trivial⟩ (fun w hw=>bD (vs:=[_,_,_]) isAgg25 sizeOf25 rfl (aF.agree (aP hw 0) (Nat.zero_le _) (aF.agree hS.agree (Nat.zero_le _) hp3.cells))) (aG rfl)) (aL 15 rfl (isV _) (aI _) (rgV (li:=[(3,_)]) rfl (bR 21 rfl (aA rfl rfl rfl)) ⟨cG rfl,trivial⟩ (fun w hw=>aV (o':=5) dJ rfl rfl) (aG rfl)) (aL 16 rfl (isV _) (aI _) (rgV (li:=[(26,_)]) rfl (bR 21 rfl (aA rfl rfl rfl)) ⟨aO 14 (aA rfl rfl rfl),trivial⟩ (fun w hw=>aZ isAgg42 rfl ((aP hw 0).cell (Nat.zero_le _) (aH (hS.at_ 0 rfl) rfl))) (aG rfl)) ?_))
   refine aL 17 rfl (isV _) (aI _) (rgV (li:=[(27,_)]) rfl (bR 21 rfl (aA rfl rfl rfl)) ⟨aO 15 (aA rfl rfl rfl),trivial⟩ (fun w hw=>bG (j:=0) underlying42 sizeOf44 rfl rfl rfl (by show _ < 2;decide) (Nat.add_zero _)) (aG rfl)) ?_
   refine aL 18 rfl (isV _) (aI _) (rgV (li:=[(28,_)]) rfl (bR 21 rfl (aA rfl rfl rfl)) ⟨aO 16 (aA rfl rfl rfl),trivial⟩ (fun w hw=>bD (vs:=[_,_,_,_,_,_]) isAgg44 sizeOf44 rfl (aF.agree (aP hw 0) (Nat.zero_le _) (aF.agree hS.agree (Nat.zero_le _) hx6.cells))) (aG rfl)) ?_
   refine aL 19 rfl (isV (.bool false)) (aI _) (dB [isV _,isV _] rfl qE (bR 21 rfl (aA rfl rfl rfl)) ⟨cH (aO 13 (aA rfl rfl rfl)),cH (aO 17 (aA rfl rfl rfl)),trivial⟩ (fun vs w' hb hh=>by have e:=cI (us:=[_,_]) hh;subst e;exact (mN p.f.tag p.f.dim p.f.a p.f.len p.f.cap x.f hp (Nat.zero_le _) _ (hxi.at_.below (hS.below.trans (hb.mono hS.below.size))) _ hx1).mono fun e w2 h=>⟨_,h.1,rfl,h.2⟩) (aG rfl)) ?_
   refine aL 20 rfl (isV _) (aI _) (rgV (li:=[(21,_),(30,_)]) rfl (aS rfl) ⟨aO 9 (aA rfl rfl rfl),aO 18 (aA rfl rfl rfl),trivial⟩ (fun w hw=>eX rfl rfl) (aG rfl)) (bC 21 rfl 31 19 rfl rfl rfl (fun w hw=>bA rfl) rfl (aL 22 rfl (isV undef) (aI _) (bQ rfl (bX 32 rfl (aA rfl rfl rfl) rfl) (aG rfl)) (aL 23 rfl (isV undef) (aI _) (bQ rfl (bX 32 rfl (aA rfl rfl rfl) rfl) (aG rfl)) (aL 24 rfl (isV undef) (aI _) (bQ rfl (bX 32 rfl (aA rfl rfl rfl) rfl) (aG rfl)) (aL 25 rfl (isV undef) (aI _) (bQ rfl (bX 32 rfl (aA rfl rfl rfl) rfl) (aG rfl)) (aL 26 rfl (isV undef) (aI _) (bQ rfl (bX 32 rfl (aA rfl rfl rfl) rfl) (aG rfl)) (aL 27 rfl (isV undef) (aI _) (bQ rfl (bX 32 rfl (aA rfl rfl rfl) rfl) (aG rfl)) (aL 28 rfl (isV undef) (aI _) (bQ rfl (bX 32 rfl (aA rfl rfl rfl) rfl) (aG rfl)) (aL 29 rfl (isV undef) (aI _) (bQ rfl (bX 32 rfl (aA rfl rfl rfl) rfl) (aG rfl)) (aL 30 rfl (isV undef) (aI _) (bQ rfl (bX 32 rfl (aA rfl rfl rfl) rfl) (aG rfl)) (bC 31 rfl 32 20 rfl rfl rfl (fun w hw=>eY rfl rfl) rfl (bC 32 rfl 42 30 rfl rfl rfl (fun w hw=>fW rfl) rfl (dW ?_)))))))))))))
   intro W6 hbR hS'
   clear hS;have hS:=hS';clear hS'
   refine aJ (aJ (aJ (aJ (aJ (aJ (aJ (aJ (aJ (aJ (aJ (aJ (aJ (aJ (aJ (aJ (aJ (aJ (aJ (aJ (aJ ?_))))))))))))))))))))
   refine aJ (aJ (aJ (aJ (aJ (aJ (aJ (aJ (aJ (aJ (aJ (cQ (XF.thenN (bL (XF.thenR (XF.res (cE results103 rfl) ?_)))))))))))))))
   exact ⟨bT (by rw [← hr];unfold gW;rw [hbb];show _=(true && (!gz && (true && (fE p.f.tag p.f.dim x.f && fE q.f.tag q.f.dim y.f))));rw [hz,hx1];rfl),hS.below⟩
  ·obtain ⟨x,y,hz,rfl,hx1⟩:=h1
   obtain ⟨hpl,b2,off2,hpa,hb2,hx6,hy6,hxi,hyi⟩:=hw.two
   obtain ⟨gz,gc,gg,gra,grl,grc,grows,gca,gcl,gcc,gcells,gpa,gpl,gpc⟩:=g
   dsimp only at hpl hpa hz
   subst hpl;subst hpa
   refine lQ (m:=32) cF hS (by kernel_rfl) (by kernel_rfl) rfl (cL 1 rfl 3 rfl rfl (fun w hw=>aV (o':=0) eQ rfl rfl) rfl (bC 2 rfl 12 0 rfl rfl rfl (fun w hw=>aZ isAgg4 rfl ((aP hw 0).cell (Nat.zero_le _) (aH (hS.at_ 0 rfl) rfl))) rfl ?_))
   refine aL 3 rfl (isV (.bool true)) (aI _) (qB (li:=[(13,_)]) rfl (aS rfl) ⟨aO 1 (aA rfl rfl rfl),trivial⟩ (fun w hw=>lN rfl) (by rw [hz];rfl) (aG rfl)) ?_
   refine bC 4 rfl 14 2 rfl rfl rfl (fun w hw=>bA rfl) rfl (aL 5 rfl (isV _) (aI _) (rgV (li:=[(3,_)]) rfl (bR 15 rfl (aA rfl rfl rfl)) ⟨cG rfl,trivial⟩ (fun w hw=>aV (o':=5) dJ rfl rfl) (aG rfl)) (aL 6 rfl (isV _) (aI _) (rgV (li:=[(16,_)]) rfl (bR 15 rfl (aA rfl rfl rfl)) ⟨aO 4 (aA rfl rfl rfl),trivial⟩ (fun w hw=>aZ isAgg42 rfl ((aP hw 0).cell (Nat.zero_le _) (aH (hS.at_ 0 rfl) rfl))) (aG rfl)) (aL 7 rfl (isV _) (aI _) (rgV (li:=[(17,_)]) rfl (bR 15 rfl (aA rfl rfl rfl)) ⟨aO 5 (aA rfl rfl rfl),trivial⟩ (fun w hw=>qA underlying42 rfl) (aG rfl)) (aL 8 rfl (isV (.bool true)) (aI _) (qB (li:=[(18,_)]) rfl (bR 15 rfl (aA rfl rfl rfl)) ⟨aO 6 (aA rfl rfl rfl),trivial⟩ (fun w hw=>sO rfl rfl) (rfl) (aG rfl)) (aL 9 rfl (isV _) (aI _) (rgV (li:=[(15,_),(19,_)]) rfl (aS rfl) ⟨aO 3 (aA rfl rfl rfl),aO 7 (aA rfl rfl rfl),trivial⟩ (fun w hw=>eX rfl rfl) (aG rfl)) (bC 10 rfl 20 8 rfl rfl rfl (fun w hw=>bA rfl) rfl (aL 11 rfl (isV _) (aI _) (rgV (li:=[(2,_)]) rfl (bR 21 rfl (aA rfl rfl rfl)) ⟨cG rfl,trivial⟩ (fun w hw=>aV (o':=2) eF rfl rfl) (aG rfl)) (aL 12 rfl (isV _) (aI _) (rgV (li:=[(22,_)]) rfl (bR 21 rfl (aA rfl rfl rfl)) ⟨aO 10 (aA rfl rfl rfl),trivial⟩ (fun w hw=>aZ isAgg23 rfl ((aP hw 0).cell (Nat.zero_le _) (aH (hS.at_ 1 rfl) rfl))) (aG rfl)) ?_))))))))
   refine aL 13 rfl (isV _) (aI _) (rgV (li:=[(23,_)]) rfl (bR 21 rfl (aA rfl rfl rfl)) ⟨aO 11 (aA rfl rfl rfl),trivial⟩ (fun w hw=>bG (j:=0) underlying23 sizeOf25 rfl rfl rfl (by show _ < 2;decide) (Nat.add_zero _)) (aG rfl)) ?_
   refine aL 14 rfl (isV _) (aI _) (rgV (li:=[(24,_)]) rfl (bR 21 rfl (aA rfl rfl rfl)) ⟨aO 12 (aA rfl rfl rfl),trivial⟩ (fun w hw=>bD (vs:=[_,_,_]) isAgg25 sizeOf25 rfl (aF.agree (aP hw 0) (Nat.zero_le _) (aF.agree hS.agree (Nat.zero_le _) hp3.cells))) (aG rfl)) (aL 15 rfl (isV _) (aI _) (rgV (li:=[(3,_)]) rfl (bR 21 rfl (aA rfl rfl rfl)) ⟨cG rfl,trivial⟩ (fun w hw=>aV (o':=5) dJ rfl rfl) (aG rfl)) (aL 16 rfl (isV _) (aI _) (rgV (li:=[(26,_)]) rfl (bR 21 rfl (aA rfl rfl rfl)) ⟨aO 14 (aA rfl rfl rfl),trivial⟩ (fun w hw=>aZ isAgg42 rfl ((aP hw 0).cell (Nat.zero_le _) (aH (hS.at_ 0 rfl) rfl))) (aG rfl)) ?_))
   refine aL 17 rfl (isV _) (aI _) (rgV (li:=[(27,_)]) rfl (bR 21 rfl (aA rfl rfl rfl)) ⟨aO 15 (aA rfl rfl rfl),trivial⟩ (fun w hw=>bG (j:=0) underlying42 sizeOf44 rfl rfl rfl (by show _ < 2;decide) (Nat.add_zero _)) (aG rfl)) ?_
   refine aL 18 rfl (isV _) (aI _) (rgV (li:=[(28,_)]) rfl (bR 21 rfl (aA rfl rfl rfl)) ⟨aO 16 (aA rfl rfl rfl),trivial⟩ (fun w hw=>bD (vs:=[_,_,_,_,_,_]) isAgg44 sizeOf44 rfl (aF.agree (aP hw 0) (Nat.zero_le _) (aF.agree hS.agree (Nat.zero_le _) hx6.cells))) (aG rfl)) ?_
   refine aL 19 rfl (isV (.bool true)) (aI _) (dB [isV _,isV _] rfl qE (bR 21 rfl (aA rfl rfl rfl)) ⟨cH (aO 13 (aA rfl rfl rfl)),cH (aO 17 (aA rfl rfl rfl)),trivial⟩ (fun vs w' hb hh=>by have e:=cI (us:=[_,_]) hh;subst e;exact (mN p.f.tag p.f.dim p.f.a p.f.len p.f.cap x.f hp (Nat.zero_le _) _ (hxi.at_.below (hS.below.trans (hb.mono hS.below.size))) _ hx1).mono fun e w2 h=>⟨_,h.1,rfl,h.2⟩) (aG rfl)) ?_
   refine aL 20 rfl (isV _) (aI _) (rgV (li:=[(21,_),(30,_)]) rfl (aS rfl) ⟨aO 9 (aA rfl rfl rfl),aO 18 (aA rfl rfl rfl),trivial⟩ (fun w hw=>eX rfl rfl) (aG rfl)) (bC 21 rfl 31 19 rfl rfl rfl (fun w hw=>bA rfl) rfl (aL 22 rfl (isV _) (aI _) (rgV (li:=[(2,_)]) rfl (bR 32 rfl (aA rfl rfl rfl)) ⟨cG rfl,trivial⟩ (fun w hw=>aV (o':=2) eF rfl rfl) (aG rfl)) (aL 23 rfl (isV _) (aI _) (rgV (li:=[(33,_)]) rfl (bR 32 rfl (aA rfl rfl rfl)) ⟨aO 21 (aA rfl rfl rfl),trivial⟩ (fun w hw=>aZ isAgg23 rfl ((aP hw 0).cell (Nat.zero_le _) (aH (hS.at_ 1 rfl) rfl))) (aG rfl)) ?_)))
   refine aL 24 rfl (isV _) (aI _) (rgV (li:=[(34,_)]) rfl (bR 32 rfl (aA rfl rfl rfl)) ⟨aO 22 (aA rfl rfl rfl),trivial⟩ (fun w hw=>bG (j:=1) underlying23 sizeOf25 rfl rfl rfl (by show _ < 2;decide) rfl) (aG rfl)) ?_
   refine aL 25 rfl (isV _) (aI _) (rgV (li:=[(35,_)]) rfl (bR 32 rfl (aA rfl rfl rfl)) ⟨aO 23 (aA rfl rfl rfl),trivial⟩ (fun w hw=>bD (vs:=[_,_,_]) isAgg25 sizeOf25 rfl (aF.agree (aP hw 0) (Nat.zero_le _) (aF.agree hS.agree (Nat.zero_le _) hq3.cells))) (aG rfl)) (aL 26 rfl (isV _) (aI _) (rgV (li:=[(3,_)]) rfl (bR 32 rfl (aA rfl rfl rfl)) ⟨cG rfl,trivial⟩ (fun w hw=>aV (o':=5) dJ rfl rfl) (aG rfl)) (aL 27 rfl (isV _) (aI _) (rgV (li:=[(37,_)]) rfl (bR 32 rfl (aA rfl rfl rfl)) ⟨aO 25 (aA rfl rfl rfl),trivial⟩ (fun w hw=>aZ isAgg42 rfl ((aP hw 0).cell (Nat.zero_le _) (aH (hS.at_ 0 rfl) rfl))) (aG rfl)) ?_))
   refine aL 28 rfl (isV _) (aI _) (rgV (li:=[(38,_)]) rfl (bR 32 rfl (aA rfl rfl rfl)) ⟨aO 26 (aA rfl rfl rfl),trivial⟩ (fun w hw=>bG (j:=1) underlying42 sizeOf44 rfl rfl rfl (by show _ < 2;decide) rfl) (aG rfl)) ?_
   refine aL 29 rfl (isV _) (aI _) (rgV (li:=[(39,_)]) rfl (bR 32 rfl (aA rfl rfl rfl)) ⟨aO 27 (aA rfl rfl rfl),trivial⟩ (fun w hw=>bD (vs:=[_,_,_,_,_,_]) isAgg44 sizeOf44 rfl (aF.agree (aP hw 0) (Nat.zero_le _) (aF.agree hS.agree (Nat.zero_le _) hy6.cells))) (aG rfl)) ?_
   refine aL 30 rfl (isV (.bool (fE q.f.tag q.f.dim y.f))) (aI _) (dB [isV _,isV _] rfl qE (bR 32 rfl (aA rfl rfl rfl)) ⟨cH (aO 24 (aA rfl rfl rfl)),cH (aO 28 (aA rfl rfl rfl)),trivial⟩ (fun vs w' hb hh=>by have e:=cI (us:=[_,_]) hh;subst e;exact (mN q.f.tag q.f.dim q.f.a q.f.len q.f.cap y.f hq (Nat.zero_le _) _ (hyi.at_.below (hS.below.trans (hb.mono hS.below.size))) _ rfl).mono fun e w2 h=>⟨_,h.1,rfl,h.2⟩) (aG rfl)) ?_
   refine aL 31 rfl (isV _) (aI _) (rgV (li:=[(32,_),(41,_)]) rfl (aS rfl) ⟨aO 20 (aA rfl rfl rfl),aO 29 (aA rfl rfl rfl),trivial⟩ (fun w hw=>eX rfl rfl) (aG rfl)) (bC 32 rfl 42 30 rfl rfl rfl (fun w hw=>fW rfl) rfl (dW ?_))
   intro W7 hbR hS'
   clear hS;have hS:=hS';clear hS'
   refine aJ (aJ (aJ (aJ (aJ (aJ (aJ (aJ (aJ (aJ (aJ (aJ (aJ (aJ (aJ (aJ (aJ (aJ (aJ (aJ (aJ ?_))))))))))))))))))))
   refine aJ (aJ (aJ (aJ (aJ (aJ (aJ (aJ (aJ (aJ (aJ (cQ (XF.thenN (bL (XF.thenR (XF.res (cE results103 rfl) ?_)))))))))))))))
   exact ⟨bT (by rw [← hr];unfold gW;rw [hbb];show _=(true && (!gz && (true && (fE p.f.tag p.f.dim x.f && fE q.f.tag q.f.dim y.f))));rw [hz,hx1];rfl),hS.below⟩
theorem jY:bP prog 104=true:=by kernel_rfl
theorem Ss:bP prog 105=true:=by kernel_rfl
theorem Su:bP prog 106=true:=by kernel_rfl
theorem pD (t n:Int) (a:Option Addr) (l c0:Nat) (f:WF) (hp:bJ t n l=true) (hs:0≤f.rl) (w:World) (hf:f.At w) (r:Bool) (hr:fE t n f=r) :
  Calls prog 78 #[.agg #[.int .i64 t,.int .i64 n,.slice a l c0],f.val] w (fun e w'=>e = .returned (.bool (r))∧Below w.heap.size w w'):=by
 refine cD (args:=[.agg #[.int .i64 t,.int .i64 n,.slice a l c0],f.val]) func78 rfl ntmps78 rfl ?_
 have hS:=St.start w
 have htg:=(gL hp).2
 have h5:t≠5:=by omega
 refine aM (aQ (bY (cs:=[_,_,_]) hS rfl rfl rfl fun B1 W1 hS=>bY (cs:=[_,_,_,_,_,_]) hS rfl rfl rfl fun B2 W2 hS=>aC rfl rfl (aN (XF.thenN (aM (aM (aQ (aK (o':=0) eQ rfl rfl rfl (aR isAgg4 rfl (aH (hS.at_ 0 rfl) rfl) rfl (aN (XF.thenN (bB rfl (fun hc=>?_) (fun hc=>?_)))))))))))))
 ·have hc7:=hc;clear hc
  refine aM (aQ (aK (o':=0) fL rfl rfl rfl (aR isAgg22 rfl (aH (hS.at_ 1 rfl) rfl) rfl (dA rfl rfl rfl (aE rfl rfl (bH (d:=11) rfl (fun hc=>?_) (fun hc=>absurd (of_decide_eq_false hc) (by exact fun h=>h h5))))))))
  have hc:=of_decide_eq_true hc
  refine aB (d:=11) rfl rfl (aT (vs:=[_,_,_,_,_,_]) isAgg44 sizeOf44 rfl (aF.own (j:=0) (m:=6) (hS.at_ 0 rfl) rfl) rfl (aB (d:=11) rfl rfl (cA (vs:=[_,_,_,_,_]) hS jY rfl (Gj f _ rfl _) rfl fun W3 hS=>aW rfl rfl rfl (aC rfl rfl (aN (XF.thenN (bL (XF.thenR (XF.res (cE results78 rfl) ?_)))))))))
  exact ⟨bT (by rw [← hr];unfold fE;rw [show f.z=true from hc7];unfold iQ;rw [show f.z=true from hc7];simp),hS.below⟩
 ·have hc7:=hc;clear hc
  have hz:f.z=false:=hc7
  refine bI (XF.thenN (aM (aM (aQ (aK (o':=0) fL rfl rfl rfl (aR isAgg22 rfl (aH (hS.at_ 1 rfl) rfl) rfl (aN (XF.thenN (bK (aM (aQ (cY rfl rfl rfl (aC rfl rfl (aN (XF.thenN (bB rfl (fun hc=>?_) (fun hc=>?_)))))))))))))))))
  ·have hc17:=of_decide_eq_true hc;clear hc
   refine aM (aQ (aT (vs:=[_,_,_,_,_,_]) isAgg44 sizeOf44 rfl (aF.own (j:=0) (m:=6) (hS.at_ 0 rfl) rfl) rfl (cA (vs:=[_,_,_,_,_]) hS jY rfl (Gj f _ rfl _) rfl fun W4 hS=>aC rfl rfl (aN (XF.thenN (bL (XF.blkR (XF.thenR (XF.res (cE results78 rfl) ?_)))))))))
   exact ⟨bT (by rw [← hr];unfold fE;rw [hz];unfold iQ;rw [hz,hc17];simp),hS.below⟩
  ·have hc17:=of_decide_eq_false hc;clear hc
   refine aM (aQ (cY rfl rfl rfl (aC rfl rfl (aN (XF.thenN (bB rfl (fun hc=>?_) (fun hc=>?_)))))))
   ·have hc21:=of_decide_eq_true hc;clear hc
    have hbb:iQ t f=iP true false false false f:=by unfold iQ;rw [hz,hc21];simp
    refine aM (aQ (aT (vs:=[_,_,_,_,_,_]) isAgg44 sizeOf44 rfl (aF.own (j:=0) (m:=6) (hS.at_ 0 rfl) rfl) rfl (cA (vs:=[_,_,_,_,_]) hS jY rfl (Rn f _ rfl _) rfl fun W5 hS=>aE rfl rfl (bH (d:=25) rfl (fun hc=>?_) (fun hc=>?_)))))
    ·have hg25:=hc;clear hc
     refine aB (d:=25) rfl rfl (aK (o':=1) gJ rfl rfl rfl (aB (d:=25) rfl rfl (aR isAgg3 rfl (aH (hS.at_ 0 rfl) rfl) rfl (aB (d:=25) rfl rfl (lO rfl rfl rfl (aW rfl rfl rfl (aE rfl rfl (bH (d:=30) rfl (fun hc=>?_) (fun hc=>?_)))))))))
     ·have hg30:=of_decide_eq_true hc;clear hc
      refine aB (d:=30) rfl rfl (aK (o':=1) gJ rfl rfl rfl (aB (d:=30) rfl rfl (aR isAgg3 rfl (aH (hS.at_ 0 rfl) rfl) rfl (aB (d:=30) rfl rfl (aK (o':=1) fM rfl rfl rfl (aB (d:=30) rfl rfl (aR isAgg3 rfl (aH (hS.at_ 1 rfl) rfl) rfl (aB (d:=30) rfl rfl (vG rfl rfl rfl (aW rfl rfl rfl (aC rfl rfl (aN (XF.thenN (bL (XF.blkR (XF.thenR (XF.res (cE results78 rfl) ?_)))))))))))))))))
      exact ⟨bT (by rw [← hr];unfold fE;rw [hbb,hz,if_pos hc21,show iP true false false false f=true from hg25];simp [show (0:Int)≤f.c from hg30]),hS.below⟩
     ·have hg30:=of_decide_eq_false hc;clear hc
      refine aD (d:=30) rfl rfl rfl rfl (aD (d:=30) rfl rfl rfl rfl (aD (d:=30) rfl rfl rfl rfl (aD (d:=30) rfl rfl rfl rfl (aD (d:=30) rfl rfl rfl rfl (bF rfl rfl rfl (aC rfl rfl (aN (XF.thenN (bL (XF.blkR (XF.thenR (XF.res (cE results78 rfl) ?_))))))))))))
      exact ⟨bT (by rw [← hr];unfold fE;rw [hbb,hz,if_pos hc21,show iP true false false false f=true from hg25];simp [show ¬ (0:Int)≤f.c from hg30]),hS.below⟩
    ·have hg25:=hc;clear hc
     refine aD (d:=25) rfl rfl rfl rfl (aD (d:=25) rfl rfl rfl rfl (aD (d:=25) rfl rfl rfl rfl (bF rfl rfl rfl (aE rfl rfl (aD (d:=30) rfl rfl rfl rfl (aD (d:=30) rfl rfl rfl rfl (aD (d:=30) rfl rfl rfl rfl (aD (d:=30) rfl rfl rfl rfl (aD (d:=30) rfl rfl rfl rfl (bF rfl rfl rfl (aC rfl rfl (aN (XF.thenN (bL (XF.blkR (XF.thenR (XF.res (cE results78 rfl) ?_)))))))))))))))))
     exact ⟨bT (by rw [← hr];unfold fE;rw [hbb,show iP true false false false f=false from hg25];rfl),hS.below⟩
   ·have hc21:=of_decide_eq_false hc;clear hc
    refine aM (aQ (cY rfl rfl rfl (aC rfl rfl (aN (XF.thenN (bB rfl (fun hc=>?_) (fun hc=>?_)))))))
    ·have hc37:=of_decide_eq_true hc;clear hc
     have hbb:iQ t f=iP false true false false f:=by unfold iQ;rw [hz,hc37];simp
     refine aM (aQ (aT (vs:=[_,_,_,_,_,_]) isAgg44 sizeOf44 rfl (aF.own (j:=0) (m:=6) (hS.at_ 0 rfl) rfl) rfl (cA (vs:=[_,_,_,_,_]) hS jY rfl (Ro f _ rfl _) rfl fun W6 hS=>aE rfl rfl (bH (d:=41) rfl (fun hc=>?_) (fun hc=>?_)))))
     ·have hg41:=hc;clear hc
      refine aB (d:=41) rfl rfl (aK (o':=1) fM rfl rfl rfl (aB (d:=41) rfl rfl (aR isAgg3 rfl (aH (hS.at_ 1 rfl) rfl) rfl (aB (d:=41) rfl rfl (aK (o':=2) gK rfl rfl rfl (aB (d:=41) rfl rfl (aT (vs:=[_,_]) isAgg40 sizeOf40 rfl (aF.own (j:=2) (m:=2) (hS.at_ 0 rfl) rfl) rfl (aB (d:=41) rfl rfl (cA (vs:=[_,_]) hS Ss rfl (Jn n f.ra f.rc f.g f.rows _ (hf.below hS.below) _ rfl f.rl hf.rl) rfl fun W7 hS=>aB (d:=41) rfl rfl (cY rfl rfl rfl (aW rfl rfl rfl (aC rfl rfl (aN (XF.thenN (bL (XF.blkR (XF.thenR (XF.res (cE results78 rfl) ?_))))))))))))))))))
      exact ⟨bT (by rw [← hr];unfold fE;rw [hbb,hz,if_neg hc21,if_pos hc37,show iP false true false false f=true from hg41];rfl),hS.below⟩
     ·have hg41:=hc;clear hc
      refine aD (d:=41) rfl rfl rfl rfl (aD (d:=41) rfl rfl rfl rfl (aD (d:=41) rfl rfl rfl rfl (aD (d:=41) rfl rfl rfl rfl (aD (d:=41) rfl rfl rfl rfl (aD (d:=41) rfl rfl rfl rfl (bF rfl rfl rfl (aC rfl rfl (aN (XF.thenN (bL (XF.blkR (XF.thenR (XF.res (cE results78 rfl) ?_)))))))))))))
      exact ⟨bT (by rw [← hr];unfold fE;rw [hbb,show iP false true false false f=false from hg41];rfl),hS.below⟩
    ·have hc37:=of_decide_eq_false hc;clear hc
     refine aM (aQ (cY rfl rfl rfl (aC rfl rfl (aN (XF.thenN (bB rfl (fun hc=>?_) (fun hc=>absurd (of_decide_eq_false hc) (by omega))))))))
     have hc:=of_decide_eq_true hc
     have hc49:t=4:=hc
     have hbb:iQ t f=iP false false true false f:=by unfold iQ;rw [hz,hc49];simp
     obtain ⟨m,hnm,hm64⟩:∃ m:Nat,n=m∧m≤64:=by
      have h9:=hp
      simp only [bJ,hc49] at h9
      simp at h9
      exact ⟨n.toNat,by omega,by omega⟩
     refine aM (aM (aQ (aT (vs:=[_,_,_,_,_,_]) isAgg44 sizeOf44 rfl (aF.own (j:=0) (m:=6) (hS.at_ 0 rfl) rfl) rfl (cA (vs:=[_,_,_,_,_]) hS jY rfl (Rp f _ rfl _) rfl fun W8 hS=>eS rfl rfl (aE rfl rfl (bH (d:=54) rfl (fun hc=>?_) (fun hc=>?_)))))))
     ·have hg54:=hc;clear hc
      refine aD (d:=54) rfl rfl rfl rfl (aD (d:=54) rfl rfl rfl rfl (aD (d:=54) rfl rfl rfl rfl (aD (d:=54) rfl rfl rfl rfl (aD (d:=54) rfl rfl rfl rfl (aD (d:=54) rfl rfl rfl rfl (aW rfl rfl rfl (aN (XF.thenN (dT rfl (aM (aQ (aC rfl rfl (aN (XF.thenN (bL (XF.thenR (XF.blkR (XF.thenR (XF.res (cE results78 rfl) ?_)))))))))))))))))))
      exact ⟨bT (by rw [← hr];unfold fE;rw [hbb,show iP false false true false f=false by simpa using hg54];rfl),hS.below⟩
     ·have hg54:=hc;clear hc
      have hon:iP false false true false f=true:=by simpa using hg54
      refine aB (d:=54) rfl rfl (aK (o':=4) eV rfl rfl rfl (aB (d:=54) rfl rfl (aR isAgg41 rfl (aH (hS.at_ 0 rfl) rfl) rfl (aB (d:=54) rfl rfl (cC underlying41 rfl rfl (aB (d:=54) rfl rfl (aK (o':=1) fM rfl rfl rfl (aB (d:=54) rfl rfl (aR isAgg3 rfl (aH (hS.at_ 1 rfl) rfl) rfl (aB (d:=54) rfl rfl (dA rfl rfl rfl (bF rfl rfl rfl (aN (XF.thenN (bB rfl (fun hc=>?_) (fun hc=>?_))))))))))))))))
      ·have hc61:=of_decide_eq_true hc;clear hc
       refine aM (aQ (aC rfl rfl (aN (XF.thenN (bL (XF.thenR (XF.blkR (XF.thenR (XF.res (cE results78 rfl) ?_)))))))))
       have hne:lS n f.cells≠0:=fun h9=>by have:=(mC h9).2.2.1;rw [hf.cl] at this;exact hc61 this
       exact ⟨bT (by rw [← hr];unfold fE;rw [hbb,hz,hon,if_neg hc21,if_neg hc37,if_pos hc49,decide_eq_false hne];rfl),hS.below⟩
      ·have hc61:=of_decide_eq_false hc;clear hc
       have hcl:f.cells.length=m:=by rw [hf.cl];omega
       refine bI (XF.thenN (aM (aM (aQ (aC rfl rfl (aN (XF.thenN (bK (dQ (fun m_ l_ W=>∃ i:Nat,i≤f.cl∧m_=f.cl - i∧l_=[(2,.pointer (some ⟨B1,0,none⟩)),(3,.pointer (some ⟨B2,0,none⟩)),(5,.int .i64 (i:Int))]∧(f.cells.take i).all (jN m)=true∧St w [(B2,f.six,44),(B1,[.int .i64 t,.int .i64 n,.slice a l c0],25)] [] [] W) (f.cl - 0) ([(2,_),(3,_),(5,_)]) ⟨rfl,rfl,rfl,trivial⟩ (⟨0,Nat.zero_le _,rfl,rfl,rfl,hS.clear⟩) ?_)))))))))
       clear hS
       rintro m_ l_ W ⟨i,hi,rfl,rfl,hall,hS⟩
       refine aM (aM (aQ (aE rfl rfl (aK (o':=4) eV rfl rfl rfl (aR isAgg41 rfl (aH (hS.at_ 0 rfl) rfl) rfl (cC underlying41 rfl rfl (cK rfl rfl rfl (aN (XF.thenN (bB rfl (fun hc=>?_) (fun hc=>?_)))))))))))
       ·have hc66:=of_decide_eq_true hc;clear hc
        obtain ⟨b9,off9,ce,hca9,hce,hb9,h91,h92,h93⟩:=(hf.cells.below hS.below).at_ (k:=i) (by rw [hf.cl];omega)
        have k1:aF W b9 (off9+i * 3) [.int .u64 (ce.f:Int),.int .i64 ce.k,.int .i64 ce.v]:=⟨h91,h92,h93,trivial⟩
        have hc64:=hf.bits ce (List.mem_of_getElem? hce)
        refine bI (XF.thenN (aM (bK (aM (lQ (m:=9) cF hS (by kernel_rfl) (by kernel_rfl) rfl (cL 1 rfl 2 rfl rfl (fun w hw=>aV (o':=1) fM rfl rfl) rfl (bC 2 rfl 69 0 rfl rfl rfl (fun w hw=>aZ isAgg3 rfl ((aP hw 0).cell (Nat.zero_le _) (aH (hS.at_ 1 rfl) rfl))) rfl (cL 3 rfl 3 rfl rfl (fun w hw=>aV (o':=4) eV rfl rfl) rfl (aL 4 rfl (isV (.slice (some ⟨b9,off9,none⟩) f.cl f.cc)) (aI _) (qB (li:=[(71,_)]) rfl (aS rfl) ⟨aO 2 (aA rfl rfl rfl),trivial⟩ (fun w hw=>aZ isAgg41 rfl ((aP hw 0).cell (Nat.zero_le _) (aH (hS.at_ 0 rfl) rfl))) (by rw [← hca9]) (aG rfl)) (cL 5 rfl 5 rfl rfl (fun w hw=>bA rfl) rfl (aL 6 rfl (isV _) (aI _) (rgV (li:=[(72,_),(73,_)]) rfl (aS rfl) ⟨aO 3 (aA rfl rfl rfl),aO 4 (aA rfl rfl rfl),trivial⟩ (fun w hw=>bG (j:=i) underlying41 sizeOf105 rfl rfl (rfl) (by omega) rfl) (aG rfl)) (bC 7 rfl 74 5 rfl rfl rfl (fun w hw=>bD (vs:=[_,_,_]) isAgg105 sizeOf105 rfl (aF.agree (aP hw 0) (Nat.zero_le _) (k1))) rfl ?_))))))))))))
        refine aL 8 rfl (isV (.bool (jN m ce))) (aI _) (dB [isV _,isV _] rfl Su (aS rfl) ⟨cH (aO 1 (aA rfl rfl rfl)),cH (aO 6 (aA rfl rfl rfl)),trivial⟩ (fun vs w' hb hh=>by have e:=cI (us:=[_,_]) hh;subst e;have h9:=Rq m hm64 ce.f ce.k ce.v hc64 _ rfl w';rw [← hnm] at h9;exact h9.mono fun e w2 h=>⟨_,h.1,rfl,h.2⟩) (aG rfl)) ?_
        refine bC 9 rfl 76 7 rfl rfl rfl (fun w hw=>lN rfl) rfl (dW ?_)
        intro W9 hbR hS'
        clear hS;have hS:=hS';clear hS'
        refine aJ (aJ (aJ (aJ (aJ (aJ (aJ (aJ (aJ (cQ (XF.thenN (bB rfl (fun hc=>?_) (fun hc=>?_))))))))))))
        ·have hc77:=hc;clear hc
         refine aM (aQ (aC rfl rfl (aN (XF.thenN (bL (XF.blkR (XF.thenR (XF.thenR (XF.blkR (XF.thenR (XF.blkR (XF.thenR (XF.res (cE results78 rfl) ?_)))))))))))))
         exact ⟨bT (by rw [← hr];unfold fE;rw [hbb,hz,hon,if_neg hc21,if_neg hc37,if_pos hc49,hnm,Ge hm64 hcl hce (by simpa using hc77)];rfl),hS.below⟩
        ·have hc77:=hc;clear hc
         refine bI (XF.blkN (XF.thenN (aQ (aE rfl rfl (cP rfl rfl (IntWalk.i64_in _ (by omega)) rfl (aC rfl rfl (aN ?_)))))))
         exact XF.round (f.cl - (i+1)) [(2,_),(3,_),(5,_)] (by omega) ⟨rfl,rfl,rfl,trivial⟩ ⟨i+1,by omega,rfl,rfl,nY hce hall (by simpa using hc77),hS.clear⟩
       ·have hc66:=of_decide_eq_false hc;clear hc
        refine dP (XF.thenX (XF.thenX (XF.blkX (XF.thenN (aM (aQ (aC rfl rfl (aN (XF.thenN (bL (XF.blkR (XF.thenR (XF.res (cE results78 rfl) ?_)))))))))))))
        exact ⟨bT (by rw [← hr];unfold fE;rw [hbb,hz,hon,if_neg hc21,if_neg hc37,if_pos hc49,hnm,vL hm64 hcl (k:=i) (by rw [hf.cl];omega) hall];rfl),hS.below⟩
theorem G8 (p q:SV) (g:WF) (qs:List WV) {w:World} {e:Nat} (hw:WIn w (e+1) (.mk g qs)) (hz:g.z=false) (on:Bool):on=false∨(on=true∧g.pl≠2)∨(on=true∧∃ x y,g.z=false∧qs=[x,y]∧fE p.f.tag p.f.dim x.f=false)∨(on=true∧∃ x y,g.z=false∧qs=[x,y]∧fE p.f.tag p.f.dim x.f=true):=by
 cases on with
 | false=>exact .inl rfl
 | true =>
  rcases zF p q g qs hw with h | h | h | h
  ·rw [hz] at h;cases h
  ·exact .inr (.inl ⟨rfl,h.2⟩)
  ·exact .inr (.inr (.inl ⟨rfl,h⟩))
  ·exact .inr (.inr (.inr ⟨rfl,h⟩))
theorem Pj (d:Nat) (sa:Option Addr) (sc:Nat) (p q:SV) (g:WF) (qs:List WV) (w:World) (hsp:SIn w (d+1) (.mk ⟨5,0,sa,2,sc⟩ [p,q])) (hp:p.pl=true) (hq:q.pl=true) (e:Nat) (hw:WIn w (e+1) (.mk g qs)) (hs:∀ x∈qs,0≤x.f.rl) (r:Bool) (hr:gW p q g qs=r) :
  Calls prog 78 #[.agg #[.int .i64 5,.int .i64 0,.slice sa 2 sc],g.val] w (fun e w'=>e = .returned (.bool (r))∧Below w.heap.size w w'):=by
 refine cD (args:=[.agg #[.int .i64 5,.int .i64 0,.slice sa 2 sc],g.val]) func78 rfl ntmps78 rfl ?_
 have hS:=St.start w
 obtain ⟨_,b,off,ha,hb0,hp3,hq3,_,_⟩:=hsp.two
 obtain rfl:sa=some ⟨b,off,none⟩:=ha
 refine aM (aQ (bY (cs:=[_,_,_]) hS rfl rfl rfl fun B1 W1 hS=>bY (cs:=[_,_,_,_,_,_]) hS rfl rfl rfl fun B2 W2 hS=>aC rfl rfl (aN (XF.thenN (aM (aM (aQ (aK (o':=0) eQ rfl rfl rfl (aR isAgg4 rfl (aH (hS.at_ 0 rfl) rfl) rfl (aN (XF.thenN (bB rfl (fun hc=>?_) (fun hc=>?_)))))))))))))
 ·have hc7:=hc;clear hc
  refine aM (aQ (aK (o':=0) fL rfl rfl rfl (aR isAgg22 rfl (aH (hS.at_ 1 rfl) rfl) rfl (dA rfl rfl rfl (aE rfl rfl (bH (d:=11) rfl (fun hc=>absurd (of_decide_eq_true hc) (by decide)) (fun hc=>?_)))))))
  have hc:=of_decide_eq_false hc
  refine aD (d:=11) rfl rfl rfl rfl (aD (d:=11) rfl rfl rfl rfl (bF rfl rfl rfl (aC rfl rfl (aN (XF.thenN (bL (XF.thenR (XF.res (cE results78 rfl) ?_))))))))
  exact ⟨bT (by rw [← hr];unfold gW;rw [show g.z=true from hc7];simp),hS.below⟩
 ·have hc7:=hc;clear hc
  have hz0:g.z=false:=hc7
  refine bI (XF.thenN (aM (aM (aQ (aK (o':=0) fL rfl rfl rfl (aR isAgg22 rfl (aH (hS.at_ 1 rfl) rfl) rfl (aN (XF.thenN (bK (aM (aQ (cY rfl rfl rfl (aC rfl rfl (aN (XF.thenN (bB rfl (fun hc=>absurd (of_decide_eq_true hc) (by decide)) (fun hc=>?_)))))))))))))))))
  have hc:=of_decide_eq_false hc
  refine aM (aQ (cY rfl rfl rfl (aC rfl rfl (aN (XF.thenN (bB rfl (fun hc=>absurd (of_decide_eq_true hc) (by decide)) (fun hc=>?_)))))))
  have hc:=of_decide_eq_false hc
  refine aM (aQ (cY rfl rfl rfl (aC rfl rfl (aN (XF.thenN (bB rfl (fun hc=>absurd (of_decide_eq_true hc) (by decide)) (fun hc=>?_)))))))
  have hc:=of_decide_eq_false hc
  refine aM (aQ (cY rfl rfl rfl (aC rfl rfl (aN (XF.thenN (bB rfl (fun hc=>absurd (of_decide_eq_true hc) (by decide)) (fun hc=>?_)))))))
  have hc:=of_decide_eq_false hc
  refine bI (XF.blkN (XF.thenN (aM ?_)))
  obtain ⟨on,hon⟩:∃ b,iP false false false true g=b:=⟨_,rfl⟩
  have hbb:iQ 5 g=on:=by rw [← hon];unfold iQ;rw [hz0];simp
  rcases G8 p q g qs hw hz0 on with h1 | h1 | h1 | h1
  ·subst h1
   refine lQ (m:=31) cF hS (by kernel_rfl) (by kernel_rfl) rfl (cL 1 rfl 3 rfl rfl (fun w hw=>bD (vs:=[_,_,_,_,_,_]) isAgg44 sizeOf44 rfl (aF.agree (aP hw 0) (Nat.zero_le _) (aF.own (j:=0) (m:=6) (hS.at_ 0 rfl) rfl))) rfl ?_)
   refine aL 2 rfl (isV (.bool false)) (aI _) (dB [isV _,isV _,isV _,isV _,isV _] rfl jY (aS rfl) ⟨cH (aO 0 (aA rfl rfl rfl)),fU,fU,fU,fU,trivial⟩ (fun vs w' hb hh=>by have e:=cI (us:=[_,_,_,_,_]) hh;subst e;exact (tT g _ hon _).mono fun e w2 h=>⟨_,h.1,rfl,h.2⟩) (aG rfl)) ?_
   refine bC 3 rfl 79 1 rfl rfl rfl (fun w hw=>bA rfl) rfl (aL 4 rfl (isV undef) (aI _) (bQ rfl (bX 80 rfl (aA rfl rfl rfl) rfl) (aG rfl)) (aL 5 rfl (isV undef) (aI _) (bQ rfl (bX 80 rfl (aA rfl rfl rfl) rfl) (aG rfl)) (aL 6 rfl (isV undef) (aI _) (bQ rfl (bX 80 rfl (aA rfl rfl rfl) rfl) (aG rfl)) (aL 7 rfl (isV undef) (aI _) (bQ rfl (bX 80 rfl (aA rfl rfl rfl) rfl) (aG rfl)) (bC 8 rfl 80 2 rfl rfl rfl (fun w hw=>eY rfl rfl) rfl (bC 9 rfl 85 7 rfl rfl rfl (fun w hw=>bA rfl) rfl (aL 10 rfl (isV undef) (aI _) (bQ rfl (bX 86 rfl (aA rfl rfl rfl) rfl) (aG rfl)) (aL 11 rfl (isV undef) (aI _) (bQ rfl (bX 86 rfl (aA rfl rfl rfl) rfl) (aG rfl)) (aL 12 rfl (isV undef) (aI _) (bQ rfl (bX 86 rfl (aA rfl rfl rfl) rfl) (aG rfl)) (aL 13 rfl (isV undef) (aI _) (bQ rfl (bX 86 rfl (aA rfl rfl rfl) rfl) (aG rfl)) (aL 14 rfl (isV undef) (aI _) (bQ rfl (bX 86 rfl (aA rfl rfl rfl) rfl) (aG rfl)) (aL 15 rfl (isV undef) (aI _) (bQ rfl (bX 86 rfl (aA rfl rfl rfl) rfl) (aG rfl)) (aL 16 rfl (isV undef) (aI _) (bQ rfl (bX 86 rfl (aA rfl rfl rfl) rfl) (aG rfl)) (aL 17 rfl (isV undef) (aI _) (bQ rfl (bX 86 rfl (aA rfl rfl rfl) rfl) (aG rfl)) (aL 18 rfl (isV undef) (aI _) (bQ rfl (bX 86 rfl (aA rfl rfl rfl) rfl) (aG rfl)) (bC 19 rfl 86 8 rfl rfl rfl (fun w hw=>eY rfl rfl) rfl (bC 20 rfl 96 18 rfl rfl rfl (fun w hw=>bA rfl) rfl (aL 21 rfl (isV undef) (aI _) (bQ rfl (bX 97 rfl (aA rfl rfl rfl) rfl) (aG rfl)) (aL 22 rfl (isV undef) (aI _) (bQ rfl (bX 97 rfl (aA rfl rfl rfl) rfl) (aG rfl)) (aL 23 rfl (isV undef) (aI _) (bQ rfl (bX 97 rfl (aA rfl rfl rfl) rfl) (aG rfl)) ?_))))))))))))))))))))
   refine aL 24 rfl (isV undef) (aI _) (bQ rfl (bX 97 rfl (aA rfl rfl rfl) rfl) (aG rfl)) (aL 25 rfl (isV undef) (aI _) (bQ rfl (bX 97 rfl (aA rfl rfl rfl) rfl) (aG rfl)) (aL 26 rfl (isV undef) (aI _) (bQ rfl (bX 97 rfl (aA rfl rfl rfl) rfl) (aG rfl)) (aL 27 rfl (isV undef) (aI _) (bQ rfl (bX 97 rfl (aA rfl rfl rfl) rfl) (aG rfl)) (aL 28 rfl (isV undef) (aI _) (bQ rfl (bX 97 rfl (aA rfl rfl rfl) rfl) (aG rfl)) (aL 29 rfl (isV undef) (aI _) (bQ rfl (bX 97 rfl (aA rfl rfl rfl) rfl) (aG rfl)) (bC 30 rfl 97 19 rfl rfl rfl (fun w hw=>eY rfl rfl) rfl (bC 31 rfl 107 29 rfl rfl rfl (fun w hw=>fW rfl) rfl (dW ?_))))))))
   intro W3 hbR hS'
   clear hS;have hS:=hS';clear hS'
   refine aJ (aJ (aJ (aJ (aJ (aJ (aJ (aJ (aJ (aJ (aJ (aJ (aJ (aJ (aJ (aJ (aJ (aJ (aJ (aJ (aJ ?_))))))))))))))))))))
   refine aJ (aJ (aJ (aJ (aJ (aJ (aJ (aJ (aJ (aJ (cQ (XF.thenN (bL (XF.res (cE results78 rfl) ?_)))))))))))))
   exact ⟨bT (by rw [← hr];unfold gW;rw [hbb];rfl),hS.below⟩
  ·obtain ⟨h1,h2⟩:=h1;subst h1
   refine lQ (m:=31) cF hS (by kernel_rfl) (by kernel_rfl) rfl (cL 1 rfl 3 rfl rfl (fun w hw=>bD (vs:=[_,_,_,_,_,_]) isAgg44 sizeOf44 rfl (aF.agree (aP hw 0) (Nat.zero_le _) (aF.own (j:=0) (m:=6) (hS.at_ 0 rfl) rfl))) rfl ?_)
   refine aL 2 rfl (isV (.bool true)) (aI _) (dB [isV _,isV _,isV _,isV _,isV _] rfl jY (aS rfl) ⟨cH (aO 0 (aA rfl rfl rfl)),fU,fU,fU,fU,trivial⟩ (fun vs w' hb hh=>by have e:=cI (us:=[_,_,_,_,_]) hh;subst e;exact (tT _ _ hon _).mono fun e w2 h=>⟨_,h.1,rfl,h.2⟩) (aG rfl)) ?_
   refine bC 3 rfl 79 1 rfl rfl rfl (fun w hw=>bA rfl) rfl (aL 4 rfl (isV _) (aI _) (rgV (li:=[(3,_)]) rfl (bR 80 rfl (aA rfl rfl rfl)) ⟨cG rfl,trivial⟩ (fun w hw=>aV (o':=5) dJ rfl rfl) (aG rfl)) (aL 5 rfl (isV _) (aI _) (rgV (li:=[(81,_)]) rfl (bR 80 rfl (aA rfl rfl rfl)) ⟨aO 3 (aA rfl rfl rfl),trivial⟩ (fun w hw=>aZ isAgg42 rfl ((aP hw 0).cell (Nat.zero_le _) (aH (hS.at_ 0 rfl) rfl))) (aG rfl)) (aL 6 rfl (isV _) (aI _) (rgV (li:=[(82,_)]) rfl (bR 80 rfl (aA rfl rfl rfl)) ⟨aO 4 (aA rfl rfl rfl),trivial⟩ (fun w hw=>qA underlying42 rfl) (aG rfl)) (aL 7 rfl (isV (.bool false)) (aI _) (qB (li:=[(83,_)]) rfl (bR 80 rfl (aA rfl rfl rfl)) ⟨aO 5 (aA rfl rfl rfl),trivial⟩ (fun w hw=>sO rfl rfl) (by rw [decide_eq_false (by omega)]) (aG rfl)) (aL 8 rfl (isV _) (aI _) (rgV (li:=[(80,_),(84,_)]) rfl (aS rfl) ⟨aO 2 (aA rfl rfl rfl),aO 6 (aA rfl rfl rfl),trivial⟩ (fun w hw=>eX rfl rfl) (aG rfl)) (bC 9 rfl 85 7 rfl rfl rfl (fun w hw=>bA rfl) rfl (aL 10 rfl (isV undef) (aI _) (bQ rfl (bX 86 rfl (aA rfl rfl rfl) rfl) (aG rfl)) (aL 11 rfl (isV undef) (aI _) (bQ rfl (bX 86 rfl (aA rfl rfl rfl) rfl) (aG rfl)) (aL 12 rfl (isV undef) (aI _) (bQ rfl (bX 86 rfl (aA rfl rfl rfl) rfl) (aG rfl)) (aL 13 rfl (isV undef) (aI _) (bQ rfl (bX 86 rfl (aA rfl rfl rfl) rfl) (aG rfl)) (aL 14 rfl (isV undef) (aI _) (bQ rfl (bX 86 rfl (aA rfl rfl rfl) rfl) (aG rfl)) (aL 15 rfl (isV undef) (aI _) (bQ rfl (bX 86 rfl (aA rfl rfl rfl) rfl) (aG rfl)) (aL 16 rfl (isV undef) (aI _) (bQ rfl (bX 86 rfl (aA rfl rfl rfl) rfl) (aG rfl)) (aL 17 rfl (isV undef) (aI _) (bQ rfl (bX 86 rfl (aA rfl rfl rfl) rfl) (aG rfl)) (aL 18 rfl (isV undef) (aI _) (bQ rfl (bX 86 rfl (aA rfl rfl rfl) rfl) (aG rfl)) (bC 19 rfl 86 8 rfl rfl rfl (fun w hw=>eY rfl rfl) rfl (bC 20 rfl 96 18 rfl rfl rfl (fun w hw=>bA rfl) rfl (aL 21 rfl (isV undef) (aI _) (bQ rfl (bX 97 rfl (aA rfl rfl rfl) rfl) (aG rfl)) (aL 22 rfl (isV undef) (aI _) (bQ rfl (bX 97 rfl (aA rfl rfl rfl) rfl) (aG rfl)) (aL 23 rfl (isV undef) (aI _) (bQ rfl (bX 97 rfl (aA rfl rfl rfl) rfl) (aG rfl)) ?_))))))))))))))))))))
   refine aL 24 rfl (isV undef) (aI _) (bQ rfl (bX 97 rfl (aA rfl rfl rfl) rfl) (aG rfl)) (aL 25 rfl (isV undef) (aI _) (bQ rfl (bX 97 rfl (aA rfl rfl rfl) rfl) (aG rfl)) (aL 26 rfl (isV undef) (aI _) (bQ rfl (bX 97 rfl (aA rfl rfl rfl) rfl) (aG rfl)) (aL 27 rfl (isV undef) (aI _) (bQ rfl (bX 97 rfl (aA rfl rfl rfl) rfl) (aG rfl)) (aL 28 rfl (isV undef) (aI _) (bQ rfl (bX 97 rfl (aA rfl rfl rfl) rfl) (aG rfl)) (aL 29 rfl (isV undef) (aI _) (bQ rfl (bX 97 rfl (aA rfl rfl rfl) rfl) (aG rfl)) (bC 30 rfl 97 19 rfl rfl rfl (fun w hw=>eY rfl rfl) rfl (bC 31 rfl 107 29 rfl rfl rfl (fun w hw=>fW rfl) rfl (dW ?_))))))))
   intro W4 hbR hS'
   clear hS;have hS:=hS';clear hS'
   refine aJ (aJ (aJ (aJ (aJ (aJ (aJ (aJ (aJ (aJ (aJ (aJ (aJ (aJ (aJ (aJ (aJ (aJ (aJ (aJ (aJ ?_))))))))))))))))))))
   refine aJ (aJ (aJ (aJ (aJ (aJ (aJ (aJ (aJ (aJ (cQ (XF.thenN (bL (XF.res (cE results78 rfl) ?_)))))))))))))
   exact ⟨bT (by rw [← hr];unfold gW;rw [hbb,hz0,show decide (qs.length=2)=false from decide_eq_false (by have h9:qs.length=g.pl:=hw.2.1;omega)];rfl),hS.below⟩
  ·obtain ⟨h0,h1⟩:=h1;subst h0
   obtain ⟨x,y,hz,rfl,hx1⟩:=h1
   obtain ⟨hpl,b2,off2,hpa,hb2,hx6,hy6,hxi,hyi⟩:=hw.two
   obtain ⟨gz,gc,gg,gra,grl,grc,grows,gca,gcl,gcc,gcells,gpa,gpl,gpc⟩:=g
   dsimp only at hpl hpa hz
   subst hpl;subst hpa
   refine lQ (m:=31) cF hS (by kernel_rfl) (by kernel_rfl) rfl (cL 1 rfl 3 rfl rfl (fun w hw=>bD (vs:=[_,_,_,_,_,_]) isAgg44 sizeOf44 rfl (aF.agree (aP hw 0) (Nat.zero_le _) (aF.own (j:=0) (m:=6) (hS.at_ 0 rfl) rfl))) rfl ?_)
   refine aL 2 rfl (isV (.bool true)) (aI _) (dB [isV _,isV _,isV _,isV _,isV _] rfl jY (aS rfl) ⟨cH (aO 0 (aA rfl rfl rfl)),fU,fU,fU,fU,trivial⟩ (fun vs w' hb hh=>by have e:=cI (us:=[_,_,_,_,_]) hh;subst e;exact (tT _ _ hon _).mono fun e w2 h=>⟨_,h.1,rfl,h.2⟩) (aG rfl)) ?_
   refine bC 3 rfl 79 1 rfl rfl rfl (fun w hw=>bA rfl) rfl (aL 4 rfl (isV _) (aI _) (rgV (li:=[(3,_)]) rfl (bR 80 rfl (aA rfl rfl rfl)) ⟨cG rfl,trivial⟩ (fun w hw=>aV (o':=5) dJ rfl rfl) (aG rfl)) (aL 5 rfl (isV _) (aI _) (rgV (li:=[(81,_)]) rfl (bR 80 rfl (aA rfl rfl rfl)) ⟨aO 3 (aA rfl rfl rfl),trivial⟩ (fun w hw=>aZ isAgg42 rfl ((aP hw 0).cell (Nat.zero_le _) (aH (hS.at_ 0 rfl) rfl))) (aG rfl)) (aL 6 rfl (isV _) (aI _) (rgV (li:=[(82,_)]) rfl (bR 80 rfl (aA rfl rfl rfl)) ⟨aO 4 (aA rfl rfl rfl),trivial⟩ (fun w hw=>qA underlying42 rfl) (aG rfl)) (aL 7 rfl (isV (.bool true)) (aI _) (qB (li:=[(83,_)]) rfl (bR 80 rfl (aA rfl rfl rfl)) ⟨aO 5 (aA rfl rfl rfl),trivial⟩ (fun w hw=>sO rfl rfl) (rfl) (aG rfl)) (aL 8 rfl (isV _) (aI _) (rgV (li:=[(80,_),(84,_)]) rfl (aS rfl) ⟨aO 2 (aA rfl rfl rfl),aO 6 (aA rfl rfl rfl),trivial⟩ (fun w hw=>eX rfl rfl) (aG rfl)) (bC 9 rfl 85 7 rfl rfl rfl (fun w hw=>bA rfl) rfl (aL 10 rfl (isV _) (aI _) (rgV (li:=[(2,_)]) rfl (bR 86 rfl (aA rfl rfl rfl)) ⟨cG rfl,trivial⟩ (fun w hw=>aV (o':=2) eF rfl rfl) (aG rfl)) (aL 11 rfl (isV _) (aI _) (rgV (li:=[(87,_)]) rfl (bR 86 rfl (aA rfl rfl rfl)) ⟨aO 9 (aA rfl rfl rfl),trivial⟩ (fun w hw=>aZ isAgg23 rfl ((aP hw 0).cell (Nat.zero_le _) (aH (hS.at_ 1 rfl) rfl))) (aG rfl)) ?_))))))))
   refine aL 12 rfl (isV _) (aI _) (rgV (li:=[(88,_)]) rfl (bR 86 rfl (aA rfl rfl rfl)) ⟨aO 10 (aA rfl rfl rfl),trivial⟩ (fun w hw=>bG (j:=0) underlying23 sizeOf25 rfl rfl rfl (by show _ < 2;decide) (Nat.add_zero _)) (aG rfl)) ?_
   refine aL 13 rfl (isV _) (aI _) (rgV (li:=[(89,_)]) rfl (bR 86 rfl (aA rfl rfl rfl)) ⟨aO 11 (aA rfl rfl rfl),trivial⟩ (fun w hw=>bD (vs:=[_,_,_]) isAgg25 sizeOf25 rfl (aF.agree (aP hw 0) (Nat.zero_le _) (aF.agree hS.agree (Nat.zero_le _) hp3.cells))) (aG rfl)) (aL 14 rfl (isV _) (aI _) (rgV (li:=[(3,_)]) rfl (bR 86 rfl (aA rfl rfl rfl)) ⟨cG rfl,trivial⟩ (fun w hw=>aV (o':=5) dJ rfl rfl) (aG rfl)) (aL 15 rfl (isV _) (aI _) (rgV (li:=[(91,_)]) rfl (bR 86 rfl (aA rfl rfl rfl)) ⟨aO 13 (aA rfl rfl rfl),trivial⟩ (fun w hw=>aZ isAgg42 rfl ((aP hw 0).cell (Nat.zero_le _) (aH (hS.at_ 0 rfl) rfl))) (aG rfl)) ?_))
   refine aL 16 rfl (isV _) (aI _) (rgV (li:=[(92,_)]) rfl (bR 86 rfl (aA rfl rfl rfl)) ⟨aO 14 (aA rfl rfl rfl),trivial⟩ (fun w hw=>bG (j:=0) underlying42 sizeOf44 rfl rfl rfl (by show _ < 2;decide) (Nat.add_zero _)) (aG rfl)) ?_
   refine aL 17 rfl (isV _) (aI _) (rgV (li:=[(93,_)]) rfl (bR 86 rfl (aA rfl rfl rfl)) ⟨aO 15 (aA rfl rfl rfl),trivial⟩ (fun w hw=>bD (vs:=[_,_,_,_,_,_]) isAgg44 sizeOf44 rfl (aF.agree (aP hw 0) (Nat.zero_le _) (aF.agree hS.agree (Nat.zero_le _) hx6.cells))) (aG rfl)) ?_
   refine aL 18 rfl (isV (.bool false)) (aI _) (dB [isV _,isV _] rfl xG (bR 86 rfl (aA rfl rfl rfl)) ⟨cH (aO 12 (aA rfl rfl rfl)),cH (aO 16 (aA rfl rfl rfl)),trivial⟩ (fun vs w' hb hh=>by have e:=cI (us:=[_,_]) hh;subst e;exact (pD p.f.tag p.f.dim p.f.a p.f.len p.f.cap x.f hp (Nat.zero_le _) _ (hxi.at_.below (hS.below.trans (hb.mono hS.below.size))) _ hx1).mono fun e w2 h=>⟨_,h.1,rfl,h.2⟩) (aG rfl)) ?_
   refine aL 19 rfl (isV _) (aI _) (rgV (li:=[(86,_),(95,_)]) rfl (aS rfl) ⟨aO 8 (aA rfl rfl rfl),aO 17 (aA rfl rfl rfl),trivial⟩ (fun w hw=>eX rfl rfl) (aG rfl)) (bC 20 rfl 96 18 rfl rfl rfl (fun w hw=>bA rfl) rfl (aL 21 rfl (isV undef) (aI _) (bQ rfl (bX 97 rfl (aA rfl rfl rfl) rfl) (aG rfl)) (aL 22 rfl (isV undef) (aI _) (bQ rfl (bX 97 rfl (aA rfl rfl rfl) rfl) (aG rfl)) (aL 23 rfl (isV undef) (aI _) (bQ rfl (bX 97 rfl (aA rfl rfl rfl) rfl) (aG rfl)) (aL 24 rfl (isV undef) (aI _) (bQ rfl (bX 97 rfl (aA rfl rfl rfl) rfl) (aG rfl)) (aL 25 rfl (isV undef) (aI _) (bQ rfl (bX 97 rfl (aA rfl rfl rfl) rfl) (aG rfl)) (aL 26 rfl (isV undef) (aI _) (bQ rfl (bX 97 rfl (aA rfl rfl rfl) rfl) (aG rfl)) (aL 27 rfl (isV undef) (aI _) (bQ rfl (bX 97 rfl (aA rfl rfl rfl) rfl) (aG rfl)) (aL 28 rfl (isV undef) (aI _) (bQ rfl (bX 97 rfl (aA rfl rfl rfl) rfl) (aG rfl)) (aL 29 rfl (isV undef) (aI _) (bQ rfl (bX 97 rfl (aA rfl rfl rfl) rfl) (aG rfl)) (bC 30 rfl 97 19 rfl rfl rfl (fun w hw=>eY rfl rfl) rfl (bC 31 rfl 107 29 rfl rfl rfl (fun w hw=>fW rfl) rfl (dW ?_)))))))))))))
   intro W5 hbR hS'
   clear hS;have hS:=hS';clear hS'
   refine aJ (aJ (aJ (aJ (aJ (aJ (aJ (aJ (aJ (aJ (aJ (aJ (aJ (aJ (aJ (aJ (aJ (aJ (aJ (aJ (aJ ?_))))))))))))))))))))
   refine aJ (aJ (aJ (aJ (aJ (aJ (aJ (aJ (aJ (aJ (cQ (XF.thenN (bL (XF.res (cE results78 rfl) ?_)))))))))))))
   exact ⟨bT (by rw [← hr];unfold gW;rw [hbb];show _=(true && (!gz && (true && (fE p.f.tag p.f.dim x.f && fE q.f.tag q.f.dim y.f))));rw [hz,hx1];rfl),hS.below⟩
  ·obtain ⟨h0,h1⟩:=h1;subst h0
   obtain ⟨x,y,hz,rfl,hx1⟩:=h1
   obtain ⟨hpl,b2,off2,hpa,hb2,hx6,hy6,hxi,hyi⟩:=hw.two
   obtain ⟨gz,gc,gg,gra,grl,grc,grows,gca,gcl,gcc,gcells,gpa,gpl,gpc⟩:=g
   dsimp only at hpl hpa hz
   subst hpl;subst hpa
   refine lQ (m:=31) cF hS (by kernel_rfl) (by kernel_rfl) rfl (cL 1 rfl 3 rfl rfl (fun w hw=>bD (vs:=[_,_,_,_,_,_]) isAgg44 sizeOf44 rfl (aF.agree (aP hw 0) (Nat.zero_le _) (aF.own (j:=0) (m:=6) (hS.at_ 0 rfl) rfl))) rfl ?_)
   refine aL 2 rfl (isV (.bool true)) (aI _) (dB [isV _,isV _,isV _,isV _,isV _] rfl jY (aS rfl) ⟨cH (aO 0 (aA rfl rfl rfl)),fU,fU,fU,fU,trivial⟩ (fun vs w' hb hh=>by have e:=cI (us:=[_,_,_,_,_]) hh;subst e;exact (tT _ _ hon _).mono fun e w2 h=>⟨_,h.1,rfl,h.2⟩) (aG rfl)) ?_
   refine bC 3 rfl 79 1 rfl rfl rfl (fun w hw=>bA rfl) rfl (aL 4 rfl (isV _) (aI _) (rgV (li:=[(3,_)]) rfl (bR 80 rfl (aA rfl rfl rfl)) ⟨cG rfl,trivial⟩ (fun w hw=>aV (o':=5) dJ rfl rfl) (aG rfl)) (aL 5 rfl (isV _) (aI _) (rgV (li:=[(81,_)]) rfl (bR 80 rfl (aA rfl rfl rfl)) ⟨aO 3 (aA rfl rfl rfl),trivial⟩ (fun w hw=>aZ isAgg42 rfl ((aP hw 0).cell (Nat.zero_le _) (aH (hS.at_ 0 rfl) rfl))) (aG rfl)) (aL 6 rfl (isV _) (aI _) (rgV (li:=[(82,_)]) rfl (bR 80 rfl (aA rfl rfl rfl)) ⟨aO 4 (aA rfl rfl rfl),trivial⟩ (fun w hw=>qA underlying42 rfl) (aG rfl)) (aL 7 rfl (isV (.bool true)) (aI _) (qB (li:=[(83,_)]) rfl (bR 80 rfl (aA rfl rfl rfl)) ⟨aO 5 (aA rfl rfl rfl),trivial⟩ (fun w hw=>sO rfl rfl) (rfl) (aG rfl)) (aL 8 rfl (isV _) (aI _) (rgV (li:=[(80,_),(84,_)]) rfl (aS rfl) ⟨aO 2 (aA rfl rfl rfl),aO 6 (aA rfl rfl rfl),trivial⟩ (fun w hw=>eX rfl rfl) (aG rfl)) (bC 9 rfl 85 7 rfl rfl rfl (fun w hw=>bA rfl) rfl (aL 10 rfl (isV _) (aI _) (rgV (li:=[(2,_)]) rfl (bR 86 rfl (aA rfl rfl rfl)) ⟨cG rfl,trivial⟩ (fun w hw=>aV (o':=2) eF rfl rfl) (aG rfl)) (aL 11 rfl (isV _) (aI _) (rgV (li:=[(87,_)]) rfl (bR 86 rfl (aA rfl rfl rfl)) ⟨aO 9 (aA rfl rfl rfl),trivial⟩ (fun w hw=>aZ isAgg23 rfl ((aP hw 0).cell (Nat.zero_le _) (aH (hS.at_ 1 rfl) rfl))) (aG rfl)) ?_))))))))
   refine aL 12 rfl (isV _) (aI _) (rgV (li:=[(88,_)]) rfl (bR 86 rfl (aA rfl rfl rfl)) ⟨aO 10 (aA rfl rfl rfl),trivial⟩ (fun w hw=>bG (j:=0) underlying23 sizeOf25 rfl rfl rfl (by show _ < 2;decide) (Nat.add_zero _)) (aG rfl)) ?_
   refine aL 13 rfl (isV _) (aI _) (rgV (li:=[(89,_)]) rfl (bR 86 rfl (aA rfl rfl rfl)) ⟨aO 11 (aA rfl rfl rfl),trivial⟩ (fun w hw=>bD (vs:=[_,_,_]) isAgg25 sizeOf25 rfl (aF.agree (aP hw 0) (Nat.zero_le _) (aF.agree hS.agree (Nat.zero_le _) hp3.cells))) (aG rfl)) (aL 14 rfl (isV _) (aI _) (rgV (li:=[(3,_)]) rfl (bR 86 rfl (aA rfl rfl rfl)) ⟨cG rfl,trivial⟩ (fun w hw=>aV (o':=5) dJ rfl rfl) (aG rfl)) (aL 15 rfl (isV _) (aI _) (rgV (li:=[(91,_)]) rfl (bR 86 rfl (aA rfl rfl rfl)) ⟨aO 13 (aA rfl rfl rfl),trivial⟩ (fun w hw=>aZ isAgg42 rfl ((aP hw 0).cell (Nat.zero_le _) (aH (hS.at_ 0 rfl) rfl))) (aG rfl)) ?_))
   refine aL 16 rfl (isV _) (aI _) (rgV (li:=[(92,_)]) rfl (bR 86 rfl (aA rfl rfl rfl)) ⟨aO 14 (aA rfl rfl rfl),trivial⟩ (fun w hw=>bG (j:=0) underlying42 sizeOf44 rfl rfl rfl (by show _ < 2;decide) (Nat.add_zero _)) (aG rfl)) ?_
   refine aL 17 rfl (isV _) (aI _) (rgV (li:=[(93,_)]) rfl (bR 86 rfl (aA rfl rfl rfl)) ⟨aO 15 (aA rfl rfl rfl),trivial⟩ (fun w hw=>bD (vs:=[_,_,_,_,_,_]) isAgg44 sizeOf44 rfl (aF.agree (aP hw 0) (Nat.zero_le _) (aF.agree hS.agree (Nat.zero_le _) hx6.cells))) (aG rfl)) ?_
   refine aL 18 rfl (isV (.bool true)) (aI _) (dB [isV _,isV _] rfl xG (bR 86 rfl (aA rfl rfl rfl)) ⟨cH (aO 12 (aA rfl rfl rfl)),cH (aO 16 (aA rfl rfl rfl)),trivial⟩ (fun vs w' hb hh=>by have e:=cI (us:=[_,_]) hh;subst e;exact (pD p.f.tag p.f.dim p.f.a p.f.len p.f.cap x.f hp (Nat.zero_le _) _ (hxi.at_.below (hS.below.trans (hb.mono hS.below.size))) _ hx1).mono fun e w2 h=>⟨_,h.1,rfl,h.2⟩) (aG rfl)) ?_
   refine aL 19 rfl (isV _) (aI _) (rgV (li:=[(86,_),(95,_)]) rfl (aS rfl) ⟨aO 8 (aA rfl rfl rfl),aO 17 (aA rfl rfl rfl),trivial⟩ (fun w hw=>eX rfl rfl) (aG rfl)) (bC 20 rfl 96 18 rfl rfl rfl (fun w hw=>bA rfl) rfl (aL 21 rfl (isV _) (aI _) (rgV (li:=[(2,_)]) rfl (bR 97 rfl (aA rfl rfl rfl)) ⟨cG rfl,trivial⟩ (fun w hw=>aV (o':=2) eF rfl rfl) (aG rfl)) (aL 22 rfl (isV _) (aI _) (rgV (li:=[(98,_)]) rfl (bR 97 rfl (aA rfl rfl rfl)) ⟨aO 20 (aA rfl rfl rfl),trivial⟩ (fun w hw=>aZ isAgg23 rfl ((aP hw 0).cell (Nat.zero_le _) (aH (hS.at_ 1 rfl) rfl))) (aG rfl)) ?_)))
   refine aL 23 rfl (isV _) (aI _) (rgV (li:=[(99,_)]) rfl (bR 97 rfl (aA rfl rfl rfl)) ⟨aO 21 (aA rfl rfl rfl),trivial⟩ (fun w hw=>bG (j:=1) underlying23 sizeOf25 rfl rfl rfl (by show _ < 2;decide) rfl) (aG rfl)) ?_
   refine aL 24 rfl (isV _) (aI _) (rgV (li:=[(100,_)]) rfl (bR 97 rfl (aA rfl rfl rfl)) ⟨aO 22 (aA rfl rfl rfl),trivial⟩ (fun w hw=>bD (vs:=[_,_,_]) isAgg25 sizeOf25 rfl (aF.agree (aP hw 0) (Nat.zero_le _) (aF.agree hS.agree (Nat.zero_le _) hq3.cells))) (aG rfl)) (aL 25 rfl (isV _) (aI _) (rgV (li:=[(3,_)]) rfl (bR 97 rfl (aA rfl rfl rfl)) ⟨cG rfl,trivial⟩ (fun w hw=>aV (o':=5) dJ rfl rfl) (aG rfl)) (aL 26 rfl (isV _) (aI _) (rgV (li:=[(102,_)]) rfl (bR 97 rfl (aA rfl rfl rfl)) ⟨aO 24 (aA rfl rfl rfl),trivial⟩ (fun w hw=>aZ isAgg42 rfl ((aP hw 0).cell (Nat.zero_le _) (aH (hS.at_ 0 rfl) rfl))) (aG rfl)) ?_))
   refine aL 27 rfl (isV _) (aI _) (rgV (li:=[(103,_)]) rfl (bR 97 rfl (aA rfl rfl rfl)) ⟨aO 25 (aA rfl rfl rfl),trivial⟩ (fun w hw=>bG (j:=1) underlying42 sizeOf44 rfl rfl rfl (by show _ < 2;decide) rfl) (aG rfl)) ?_
   refine aL 28 rfl (isV _) (aI _) (rgV (li:=[(104,_)]) rfl (bR 97 rfl (aA rfl rfl rfl)) ⟨aO 26 (aA rfl rfl rfl),trivial⟩ (fun w hw=>bD (vs:=[_,_,_,_,_,_]) isAgg44 sizeOf44 rfl (aF.agree (aP hw 0) (Nat.zero_le _) (aF.agree hS.agree (Nat.zero_le _) hy6.cells))) (aG rfl)) ?_
   refine aL 29 rfl (isV (.bool (fE q.f.tag q.f.dim y.f))) (aI _) (dB [isV _,isV _] rfl xG (bR 97 rfl (aA rfl rfl rfl)) ⟨cH (aO 23 (aA rfl rfl rfl)),cH (aO 27 (aA rfl rfl rfl)),trivial⟩ (fun vs w' hb hh=>by have e:=cI (us:=[_,_]) hh;subst e;exact (pD q.f.tag q.f.dim q.f.a q.f.len q.f.cap y.f hq (Nat.zero_le _) _ (hyi.at_.below (hS.below.trans (hb.mono hS.below.size))) _ rfl).mono fun e w2 h=>⟨_,h.1,rfl,h.2⟩) (aG rfl)) ?_
   refine aL 30 rfl (isV _) (aI _) (rgV (li:=[(97,_),(106,_)]) rfl (aS rfl) ⟨aO 19 (aA rfl rfl rfl),aO 28 (aA rfl rfl rfl),trivial⟩ (fun w hw=>eX rfl rfl) (aG rfl)) (bC 31 rfl 107 29 rfl rfl rfl (fun w hw=>fW rfl) rfl (dW ?_))
   intro W6 hbR hS'
   clear hS;have hS:=hS';clear hS'
   refine aJ (aJ (aJ (aJ (aJ (aJ (aJ (aJ (aJ (aJ (aJ (aJ (aJ (aJ (aJ (aJ (aJ (aJ (aJ (aJ (aJ ?_))))))))))))))))))))
   refine aJ (aJ (aJ (aJ (aJ (aJ (aJ (aJ (aJ (aJ (cQ (XF.thenN (bL (XF.res (cE results78 rfl) ?_)))))))))))))
   exact ⟨bT (by rw [← hr];unfold gW;rw [hbb];show _=(true && (!gz && (true && (fE p.f.tag p.f.dim x.f && fE q.f.tag q.f.dim y.f))));rw [hz,hx1];rfl),hS.below⟩
end Go.Proofs.YtmgnkpibpjgncaaGreatDoor
namespace Go.Proofs.YtmgnkpibpjgncaaGreatDoor
open Go.Proofs.Tryz
open Go.RowKit
attribute [local go_sem ↓] Go.wp_at_zero Go.wp_at_succ
theorem wO {w:World} {base:Nat} {v:Value} {n:Nat} {rows:List Nat} (h:w.ownsRow base 37 1 v n (u64s rows)) :
  n=rows.length∧∃ a cap,v = .slice a n cap∧fH w a (u64s rows)∧∀ ad,a=some ad→base≤ad.block:=by
 have hl:=h.1
 rw [gF] at hl
 refine ⟨by omega,?_⟩
 rcases h.2 with ⟨rfl,hn⟩ | ⟨g,cap,cur,rfl,hg,hh,h1,h2,h3,h4⟩
 ·have:rows=[]:=List.length_eq_zero_iff.1 (by omega)
  subst this
  exact ⟨none,0,by rw [hn],.inl rfl,fun ad e=>by cases e⟩
 ·refine ⟨some ⟨g,0,none⟩,cap,rfl,.inr ⟨g,0,rfl,fun i u hi=>?_⟩,fun ad e=>by cases e;exact hg⟩
  rw [← h4] at hi
  rw [List.getElem?_take] at hi
  split at hi
  ·unfold World.cell?
   simp only [hh,Nat.zero_add]
   simpa using hi
  ·cases hi
theorem PIs.rows64 {w:World} {t n:Int} {l:Nat} {f:WF} {a:PF} (h:PIs w t n f a):f.rl≤64∧f.cl≤64:=by
 have h1:=h.at_.rl;have h2:=h.at_.cl;have h3:=h.pf;have h4:=h.ok
 subst h3
 unfold WF.pf at h4
 generalize hr:f.rows=rows at *
 generalize hc:f.cells=cells at *
 generalize f.g=g at *
 generalize f.z=z at *
 generalize f.c=c at *
 have key:rows.length≤64∧cells.length≤64:=by
  generalize hp:(⟨z,c,g,rows,cells⟩:PF)=p at h4
  cases h4 with
  | zero=>cases hp;exact ⟨by decide,by decide⟩
  | bool h=>cases hp;exact ⟨by decide,by decide⟩
  | cost c h h0 h1=>cases hp;exact ⟨by decide,by decide⟩
  | facts m g rows h hn hg=>cases hp;exact ⟨by rw [hg.hl];exact hg.hm,by decide⟩
  | cells m cs h hn hv=>cases hp;exact ⟨by decide,by rw [hv.len];exact hv.le⟩
 omega
theorem Cv (a:Option Addr) (cap:Nat) (cs:List Cl) (w:World) (hm:cs.length≤64) (hrow:eZ w a cs) (n:Nat) (hn:cs.length=n) :
  Calls prog 158 #[.slice a n cap] w fun e w'=>∃ a2 c2,e = .returned (.slice a2 n c2)∧eZ w' a2 cs∧(∀ ad,a2=some ad→w.heap.size≤ad.block)∧Below w.heap.size w w':=by
 subst hn
 refine (Cd a cap cs w hm hrow).mono ?_
 rintro e w' ⟨v,rfl,hown,hb⟩
 obtain ⟨_,a2,c2,rfl,hr,hl⟩:=nE hown
 exact ⟨a2,c2,rfl,hr,fun ad e=>(hl ad e).1,hb⟩
theorem jZ (t n:Int) (f:WF) (x:PF) (w:World) (h:PIs w t n f x) :
  Calls prog 137 #[f.val] w fun e w'=>∃ g:WF,e = .returned g.val∧PNew w.heap.size w' t n g x∧Below w.heap.size w w':=by
 obtain ⟨r64,c64⟩:=h.rows64 (l:=0)
 have HI:=Lib.hid h
 have hrl:=h.at_.rl;have hcl:=h.at_.cl;have hpl:=h.pl
 obtain ⟨z,c,g,ra,rl,rc,rows,ca,cl,cc,cells,pa,pl,pc⟩:=f
 dsimp only at hrl hcl hpl r64 c64
 subst hpl
 show Calls prog 137 #[.agg #[.bool z,.int .i64 c,.int .u64 (g:Int),.slice ra rl rc,.slice ca cl cc,.slice pa 0 pc]] w _
 have HRL:=Lib.hid hrl;have HCL:=Lib.hid hcl
 obtain ⟨t0,t1⟩:=mH w #[.bool z,.int .i64 c,.int .u64 (g:Int),.slice ra rl rc,.slice ca cl cc,.slice pa 0 pc] #[.bool false,.int .i64 0,.int .u64 0,.slice none 0 0,.slice none 0 0,.slice none 0 0] 44 44
 have T0:=Lib.hid t0;have T1:=Lib.hid t1
 have hB:=Lib.hid (N6 w #[.bool z,.int .i64 c,.int .u64 (g:Int),.slice ra rl rc,.slice ca cl cc,.slice pa 0 pc] #[.bool false,.int .i64 0,.int .u64 0,.slice none 0 0,.slice none 0 0,.slice none 0 0] 44 44)
 have hsz:((w.alloc (.cells #[.bool z,.int .i64 c,.int .u64 (g:Int),.slice ra rl rc,.slice ca cl cc,.slice pa 0 pc] 44)).alloc (.cells #[.bool false,.int .i64 0,.int .u64 0,.slice none 0 0,.slice none 0 0,.slice none 0 0] 44)).heap.size=w.heap.size+1+1:=by simp
 obtain ⟨W0,hW0⟩:∃ W,(w.alloc (.cells #[.bool z,.int .i64 c,.int .u64 (g:Int),.slice ra rl rc,.slice ca cl cc,.slice pa 0 pc] 44)).alloc (.cells #[.bool false,.int .i64 0,.int .u64 0,.slice none 0 0,.slice none 0 0,.slice none 0 0] 44)=W:=⟨_,rfl⟩
 rw [hW0] at hB T0 T1 hsz
 have HSZ:=Lib.hid hsz
 obtain ⟨x0,x1,x2,x3,x4,x5⟩:=eW T0.out
 have HAT:Hid (WF.At w ⟨z,c,g,ra,rl,rc,rows,ca,cl,cc,cells,pa,0,pc⟩):=h.at_
 have R64:=Lib.hid r64;have C64:=Lib.hid c64
 clear t0 t1 hsz h hrl hcl r64 c64
 go_enter func137,ntmps137
 go_wp2_with fail
 refine (yL ra rc rows _ (by rw [HRL.out];exact Nat.le_trans R64.out (by decide)) (HAT.out.rows.below hB.out) rl HRL.out).mono ?_
 rintro e w1 ⟨v,rfl,hown,hb1⟩
 obtain ⟨a1,c1,rfl,hv1,hl1⟩:=(wO hown).2
 have HV1:=Lib.hid hv1;have HL1:=Lib.hid hl1
 clear hown hv1 hl1 x0 x1 x2 x3 x4 x5
 have U0:=Lib.hid (cS T0.out hb1);have U1:=Lib.hid (cS T1.out hb1)
 have hB1:=Lib.hid (hB.out.trans (hb1.mono hB.out.size))
 obtain ⟨x0,x1,x2,x3,x4,x5⟩:=eW U0.out
 have f3:=eA U0.out 3
 have V0:=Lib.hid (heap_setCell_same w1 w.heap.size 3 _ _ (.slice a1 rl c1) U0.out)
 have hne:w.heap.size+1≠w.heap.size:=by omega
 have V1:=Lib.hid (eH (B:=w.heap.size) (j:=3) (c:=.slice a1 rl c1) U1.out hne)
 have hB2:=Lib.hid (hB1.out.setCell (p:=⟨w.heap.size,3,none⟩) (Nat.le_refl _) (.slice a1 rl c1))
 have hs1:W0.heap.size≤(w1.setCell ⟨w.heap.size,3,none⟩ (.slice a1 rl c1)).heap.size:=by simpa [World.setCell] using hb1.size
 have HS1:=Lib.hid hs1
 obtain ⟨W1,hW1⟩:∃ W,w1.setCell ⟨w.heap.size,3,none⟩ (.slice a1 rl c1)=W:=⟨_,rfl⟩
 have HA1:=Lib.hid (HV1.out.above HL1.out ((jW.refl W0.heap.size w1).setCell (p:=⟨w.heap.size,3,none⟩) (by have:=HSZ.out;show w.heap.size < _;omega) (.slice a1 rl c1)))
 rw [hW1] at V0 V1 hB2 HS1 HA1
 clear hs1 hne x0 x1 x2 x4 x5
 obtain ⟨y0,y1,y2,y3,y4,y5⟩:=eW V0.out
 go_wp2_with fail
 refine (Cv ca cc cells _ (by rw [HCL.out];exact C64.out) (HAT.out.cells.below hB2.out) cl HCL.out).mono ?_
 rintro e w2 ⟨a2,c2,rfl,hv2,hl2,hb2⟩
 have HV2:=Lib.hid hv2;have HL2:=Lib.hid hl2
 clear hv2 hl2 x3 y0 y1 y2 y3 y4 y5 f3
 have Y0:=Lib.hid (cS V0.out hb2);have Y1:=Lib.hid (cS V1.out hb2)
 obtain ⟨x0,x1,x2,x3,x4,x5⟩:=eW Y0.out
 have f4:=eA Y0.out 4
 have hB3:=Lib.hid (hB2.out.trans (hb2.mono hB2.out.size))
 have Z0:=Lib.hid (heap_setCell_same w2 w.heap.size 4 _ _ (.slice a2 cl c2) Y0.out)
 have hne:w.heap.size+1≠w.heap.size:=by omega
 have Z1:=Lib.hid (eH (B:=w.heap.size) (j:=4) (c:=.slice a2 cl c2) Y1.out hne)
 have hB4:=Lib.hid (hB3.out.setCell (p:=⟨w.heap.size,4,none⟩) (Nat.le_refl _) (.slice a2 cl c2))
 have HR1:=Lib.hid ((HA1.out.below hb2).above HL1.out ((jW.refl W0.heap.size w2).setCell (p:=⟨w.heap.size,4,none⟩) (by have:=HSZ.out;show w.heap.size < _;omega) (.slice a2 cl c2)))
 have HL3:Hid (∀ ad,a2=some ad→W0.heap.size≤ad.block):=fun ad e=>Nat.le_trans HS1.out (HL2.out ad e)
 have HR2:=Lib.hid (HV2.out.above HL3.out ((jW.refl W0.heap.size w2).setCell (p:=⟨w.heap.size,4,none⟩) (by have:=HSZ.out;show w.heap.size < _;omega) (.slice a2 cl c2)))
 obtain ⟨W2,hW2⟩:∃ W,w2.setCell ⟨w.heap.size,4,none⟩ (.slice a2 cl c2)=W:=⟨_,rfl⟩
 rw [hW2] at Z0 Z1 hB4 HR1 HR2
 clear hne
 obtain ⟨p0,p1,p2,p3,p4,p5⟩:=eW Z0.out
 have f5:=eA Z0.out 5
 go_wp2_with fail
 go_loopw [3,19] (fun p i wr=>p = .slice none 0 0∧i = .int .i64 0∧W2=wr) (fun _ _ _=>0)
 case atStart=>exact ⟨rfl,rfl,rfl⟩
 case round =>
  obtain ⟨rfl,rfl,rfl⟩:=hrel
  have N0:=Lib.hid (heap_setCell_same W2 w.heap.size 5 _ _ (.slice none 0 0) Z0.out)
  have hne:w.heap.size+1≠w.heap.size:=by omega
  have N1:=Lib.hid (eH (B:=w.heap.size) (j:=5) (c:=.slice none 0 0) Z1.out hne)
  obtain ⟨W3,hW3⟩:∃ W,W2.setCell ⟨w.heap.size,5,none⟩ (.slice none 0 0)=W:=⟨_,rfl⟩
  rw [hW3] at N0 N1
  have K0:=N0.out
  obtain ⟨q0,q1,q2,q3,q4,q5⟩:=eW N0.out
  obtain ⟨r0,r1,r2,r3,r4,r5⟩:=eW N1.out
  have g0:=eA N1.out 0;have g1:=eA N1.out 1;have g2:=eA N1.out 2;have g3:=eA N1.out 3;have g4:=eA N1.out 4;have g5:=eA N1.out 5
  have hA3:jW W0.heap.size W2 W3:=by rw [← hW3];exact (jW.refl W0.heap.size W2).setCell (p:=⟨w.heap.size,5,none⟩) (by have:=HSZ.out;show w.heap.size < _;omega) _
  have HA3:=Lib.hid hA3
  have hB5:Hid (Below w.heap.size w W3):=by show Below _ _ _;rw [← hW3];exact hB4.out.setCell (p:=⟨w.heap.size,5,none⟩) (Nat.le_refl _) _
  clear K0 hne hA3
  go_wp2_with fail
  have NS:=Lib.hid (Mr (v0:=.bool z) (v1:=.int .i64 c) (v2:=.int .u64 (g:Int)) (v3:=.slice a1 rl c1) (v4:=.slice a2 cl c2) (v5:=.slice none 0 0) N1.out)
  obtain ⟨s0,s1,s2,s3,s4,s5⟩:=eW NS.out
  have hlt:=HSZ.out
  refine bodyPost_ret (v:=.agg #[.bool z,.int .i64 c,.int .u64 (g:Int),.slice a1 rl c1,.slice a2 cl c2,.slice none 0 0]) ?_ rfl ⟨⟨z,c,g,a1,rl,c1,rows,a2,cl,c2,cells,none,0,0⟩,rfl,?_,zD _ _ _ _ _ _ hB5.out (Nat.le_succ _)⟩
  rotate_left
  ·have hA6:=tA (.bool z) (.int .i64 c) (.int .u64 (g:Int)) (.slice a1 rl c1) (.slice a2 cl c2) (.slice none 0 0) HA3.out (B:=w.heap.size+1) (by omega)
   have hAt:=WF.At.mk (f:=⟨z,c,g,a1,rl,c1,rows,a2,cl,c2,cells,none,0,0⟩) (HR1.out.above HL1.out hA6) HRL.out HAT.out.g64 HAT.out.r64 (HR2.out.above HL3.out hA6) HCL.out HAT.out.bits HAT.out.cmax
   have hPf:WF.pf ⟨z,c,g,a1,rl,c1,rows,a2,cl,c2,cells,none,0,0⟩=x:=HI.out.pf
   exact (PNew.mk (n:=W0.heap.size) ⟨hAt,hPf,HI.out.ok,rfl⟩ HL1.out HL3.out).mono (by omega)
  ·simp [results,results137,go_sem,s0,s1,s2,s3,s4,s5]
end Go.Proofs.YtmgnkpibpjgncaaGreatDoor
namespace Go.Proofs.YtmgnkpibpjgncaaGreatDoor
open Go.Proofs.Tryz
open Go Go.RowKit
theorem both_is (d:Int) (a b:Option Addr) (capa capb:Nat) (xs ys:List Cl) (w:World) (hma:xs.length≤maxLen) (hmb:ys.length≤maxLen) (hra:eZ w a xs) (hrb:eZ w b ys) (hba:oQ xs) (hbb:oQ ys) (c:Int) (hc:nB d xs ys=c) (la lb:Nat) (hla:xs.length=la) (hlb:ys.length=lb) :
  Calls prog 140 #[.int .i64 d,.slice a la capa,.slice b lb capb] w (jU (sF d xs ys) c w):=by
 subst hla;subst hlb;exact Ou d a b capa capb xs ys w hma hmb hra hrb hba hbb c hc
theorem one4_is (m:Nat) (hm:m≤64) (w:World):Calls prog 147 #[.int .i64 (m:Int)] w (jU (iG m) 0 w):=by
 have h0:pT (m:Int)=0:=by unfold pT;rw [if_neg (by omega)]
 have:=one_any (m:Int) w 0 h0
 rwa [show yV (m:Int)=iG m by unfold yV;rw [if_pos h0,Int.toNat_natCast]] at this
theorem tD (t n:Int) (sa:Option Addr) (sc:Nat) (f g:WF) (x y:PF) (w:World) (hp:bJ t n 0=true) (hx:PIs w t n f x) (hy:PIs w t n g y) (ht:Tabs w) :
  Calls prog 148 #[.agg #[.int .i64 t,.int .i64 n,.slice sa 0 sc],f.val,g.val] w (jE (.one t n) (.one (gM t n x y)) w):=by
 refine cD (args:=[.agg #[.int .i64 t,.int .i64 n,.slice sa 0 sc],f.val,g.val]) func148 rfl ntmps148 rfl ?_
 have hS:=St.start w
 refine aM (aQ (bY (cs:=[_,_,_]) hS rfl rfl rfl fun B1 W1 hS=>bY (cs:=[_,_,_,_,_,_]) hS rfl rfl rfl fun B2 W2 hS=>bY (cs:=[_,_,_,_,_,_]) hS rfl rfl rfl fun B3 W3 hS=>bE (cs:=[_,_,_,_,_,_]) hS zeroValue44 rfl rfl fun B4 W4 hS=>aN (XF.thenN (aM (aM (aQ (aK (o':=0) eQ rfl rfl rfl (aR isAgg4 rfl (aH (hS.at_ 2 rfl) rfl) rfl (aE rfl rfl (bH (d:=10) rfl (fun hc=>?_) (fun hc=>?_)))))))))))
 ·have hg10:=hc;clear hc
  have hz:=hg10
  refine aD (d:=10) rfl rfl rfl rfl (aD (d:=10) rfl rfl rfl rfl (aW rfl rfl rfl (aN (XF.thenN (dT rfl (aM (aQ (cV (us:=[(0,.bool _)]) rfl (xW _) rfl (aU (i:=0) (vs:=[_,_,_,_,_,_]) (cs':=[_,_,_,_,_,_]) (O':=[_,_,_,_]) hS sizeOf44 rfl rfl rfl rfl rfl rfl rfl fun W5 hS=>aN (XF.thenN (bL (XF.thenR (XF.res (eM (vs:=[_,_,_,_,_,_]) results148 isAgg44 sizeOf44 rfl (aF.own (j:=0) (m:=6) (hS.at_ 0 rfl) rfl)) ?_)))))))))))))
  exact ext_zL hx hz hS.below
 ·have hg10:=hc;clear hc
  have hf:=hg10
  refine aB (d:=10) rfl rfl (aK (o':=0) eQ rfl rfl rfl (aB (d:=10) rfl rfl (aR isAgg4 rfl (aH (hS.at_ 1 rfl) rfl) rfl (bF rfl rfl rfl (aN (XF.thenN (bB rfl (fun hc=>?_) (fun hc=>?_))))))))
  ·have hc13:=hc;clear hc
   refine aM (aQ (cV (us:=[(0,.bool _)]) rfl (xW _) rfl (aU (i:=0) (vs:=[_,_,_,_,_,_]) (cs':=[_,_,_,_,_,_]) (O':=[_,_,_,_]) hS sizeOf44 rfl rfl rfl rfl rfl rfl rfl fun W6 hS=>aN (XF.thenN (bL (XF.thenR (XF.res (eM (vs:=[_,_,_,_,_,_]) results148 isAgg44 sizeOf44 rfl (aF.own (j:=0) (m:=6) (hS.at_ 0 rfl) rfl)) ?_)))))))
   exact ext_zR hy hc13 hS.below
  ·have hc13:=hc;clear hc
   have hg:=hc13
   refine bI (XF.thenN (aM (aQ (bE (cs:=[_,_,_,_,_,_]) hS zeroValue44 rfl rfl fun B7 W7 hS=>aN (XF.thenN (aM (aM (aQ (aK (o':=0) fL rfl rfl rfl (aR isAgg22 rfl (aH (hS.at_ 4 rfl) rfl) rfl (aN (XF.thenN (bK (aM (aQ (cY rfl rfl rfl (aC rfl rfl (aN (XF.thenN (bB rfl (fun hc=>?_) (fun hc=>?_)))))))))))))))))))))
   ·have hc17:=of_decide_eq_true hc;clear hc
    have e2:t=2:=hc17
    subst e2
    refine aQ (aK (o':=1) fM rfl rfl rfl (aR isAgg3 rfl (aH (hS.at_ 4 rfl) rfl) rfl (aK (o':=1) gJ rfl rfl rfl (aR isAgg3 rfl (aH (hS.at_ 3 rfl) rfl) rfl (aK (o':=1) gJ rfl rfl rfl (aR isAgg3 rfl (aH (hS.at_ 2 rfl) rfl) rfl (cW (us:=[(0,.int .i64 _),(1,.int .i64 _)]) hS underlying26 sizeOf3 zeroValue3 rfl rfl rfl (Lv _ _) rfl fun B8 W8 hS=>cN (vs:=[_,_]) hS Q0 rfl (sum_any n (some ⟨_,0,none⟩) 2 [f.c,g.c] _ (by simp [maxLen]) (Mu (hS.at_ 0 rfl))) rfl ?_)))))))
    rintro e W9 ⟨rfl,rfl⟩
    refine ⟨_,rfl,Below.refl _ _,fun hS'=>?_⟩
    clear hS;have hS:=hS';clear hS'
    refine aE rfl rfl (bU rfl rfl rfl (bU rfl rfl rfl (aK (o':=1) gJ rfl rfl rfl (dN (i:=1) (cs':=[_,_,_,_,_,_]) (O':=[_,_,_,_,_,_]) hS sizeOf3 rfl rfl rfl rfl rfl rfl rfl fun W10 hS=>aN (XF.blkN (XF.thenN (aM (aQ (aT (vs:=[_,_,_,_,_,_]) isAgg44 sizeOf44 rfl (aF.own (j:=0) (m:=6) (hS.at_ 1 rfl) rfl) rfl (aU (i:=2) (vs:=[_,_,_,_,_,_]) (cs':=[_,_,_,_,_,_]) (O':=[_,_,_,_,_,_]) hS sizeOf44 rfl rfl rfl rfl rfl rfl rfl fun W11 hS=>aN (XF.thenN (bL (XF.res (eM (vs:=[_,_,_,_,_,_]) results148 isAgg44 sizeOf44 rfl (aF.own (j:=0) (m:=6) (hS.at_ 2 rfl) rfl)) ?_)))))))))))))
    exact fF (ext_f2 hp hx hy hf hg) hS.below
   ·have hc17:=of_decide_eq_false hc;clear hc
    refine aM (aQ (cY rfl rfl rfl (aC rfl rfl (aN (XF.thenN (bB rfl (fun hc=>?_) (fun hc=>?_)))))))
    ·have hc31:=of_decide_eq_true hc;clear hc
     have e3:t=3:=hc31
     subst e3
     obtain ⟨m,rfl,hm⟩:=Pi hp (.inl rfl)
     refine aQ (aK (o':=1) fM rfl rfl rfl (aR isAgg3 rfl (aH (hS.at_ 4 rfl) rfl) rfl (aK (o':=2) gK rfl rfl rfl (aT (vs:=[_,_]) isAgg40 sizeOf40 rfl (aF.own (j:=2) (m:=2) (hS.at_ 3 rfl) rfl) rfl (aK (o':=2) gK rfl rfl rfl (aT (vs:=[_,_]) isAgg40 sizeOf40 rfl (aF.own (j:=2) (m:=2) (hS.at_ 2 rfl) rfl) rfl ?_))))))
     have hsz:=hS.below.size
     refine cN (vs:=[_,_,_]) hS Q1 rfl (extA_is _ _ _ _ _ _ _ _ _ _ (hx.at_.fat (by have:=hx.rows64 (l:=0);omega) |>.below hS.below) (hy.at_.fat (by have:=hy.rows64 (l:=0);omega) |>.below hS.below) (ht.below hS.below).c _ rfl _ rfl _ rfl _ _ hx.at_.rl hy.at_.rl) rfl ?_
     rintro e W12 ⟨a1,c1,rfl,hv,hl,hb⟩
     refine ⟨_,rfl,hb,fun hS'=>?_⟩
     clear hS;have hS:=hS';clear hS'
     refine aE rfl rfl (bU rfl rfl rfl (bU rfl rfl rfl (aK (o':=2) gK rfl rfl rfl (aU (i:=0) (vs:=[_,_]) (cs':=[_,_,_,_,_,_]) (O':=[_,_,_,_,_]) hS sizeOf40 rfl rfl rfl rfl rfl rfl rfl fun W13 hS=>aN (XF.blkN (XF.thenN (aM (aQ (aT (vs:=[_,_,_,_,_,_]) isAgg44 sizeOf44 rfl (aF.own (j:=0) (m:=6) (hS.at_ 0 rfl) rfl) rfl (aU (i:=1) (vs:=[_,_,_,_,_,_]) (cs':=[_,_,_,_,_,_]) (O':=[_,_,_,_,_]) hS sizeOf44 rfl rfl rfl rfl rfl rfl rfl fun W14 hS=>aN (XF.thenN (bL (XF.res (eM (vs:=[_,_,_,_,_,_]) results148 isAgg44 sizeOf44 rfl (aF.own (j:=0) (m:=6) (hS.at_ 1 rfl) rfl)) ?_)))))))))))))
     exact fF (ext_f3 hx hy hf hg (hv.agree (fun ad e=>(hl ad e).1) (hS.since 0 rfl)) (fun ad e=>Nat.le_trans hsz (hl ad e).1)) hS.below
    ·have hc31:=of_decide_eq_false hc;clear hc
     refine aM (aQ (cY rfl rfl rfl (aC rfl rfl (aN (XF.thenN (bB rfl (fun hc=>?_) (fun hc=>?_)))))))
     ·have hc44:=of_decide_eq_true hc;clear hc
      have e4:t=4:=hc44
      subst e4
      obtain ⟨m,rfl,hm⟩:=Pi hp (.inr rfl)
      refine aQ (aK (o':=1) fM rfl rfl rfl (aR isAgg3 rfl (aH (hS.at_ 4 rfl) rfl) rfl (aK (o':=4) eV rfl rfl rfl (aR isAgg41 rfl (aH (hS.at_ 3 rfl) rfl) rfl (aK (o':=4) eV rfl rfl rfl (aR isAgg41 rfl (aH (hS.at_ 2 rfl) rfl) rfl ?_))))))
      have hsz:=hS.below.size
      refine cN (vs:=[_,_,_]) hS Q2 rfl (then_is _ _ _ _ _ _ _ _ (ht.below hS.below) (by rw [hx.at_.cl];exact hx.at_.cmax) (by rw [hy.at_.cl];exact hy.at_.cmax) (hx.at_.cells.below hS.below) (hy.at_.cells.below hS.below) hx.at_.bits hy.at_.bits _ rfl _ _ hx.at_.cl hy.at_.cl) rfl ?_
      rintro e W15 ⟨a1,c1,rfl,hv,hl,hb⟩
      refine ⟨_,rfl,hb,fun hS'=>?_⟩
      clear hS;have hS:=hS';clear hS'
      refine aE rfl rfl (bU rfl rfl rfl (bU rfl rfl rfl (aK (o':=4) eV rfl rfl rfl (dN (i:=0) (cs':=[_,_,_,_,_,_]) (O':=[_,_,_,_,_]) hS sizeOf41 rfl rfl rfl rfl rfl rfl rfl fun W16 hS=>aN (XF.blkN (XF.thenN (aM (aQ (aT (vs:=[_,_,_,_,_,_]) isAgg44 sizeOf44 rfl (aF.own (j:=0) (m:=6) (hS.at_ 0 rfl) rfl) rfl (aU (i:=1) (vs:=[_,_,_,_,_,_]) (cs':=[_,_,_,_,_,_]) (O':=[_,_,_,_,_]) hS sizeOf44 rfl rfl rfl rfl rfl rfl rfl fun W17 hS=>aN (XF.thenN (bL (XF.res (eM (vs:=[_,_,_,_,_,_]) results148 isAgg44 sizeOf44 rfl (aF.own (j:=0) (m:=6) (hS.at_ 1 rfl) rfl)) ?_)))))))))))))
      exact fF (ext_f4 hx hy hf hg (hv.agree (fun ad e=>(hl ad e).1) (hS.since 0 rfl)) (fun ad e=>Nat.le_trans hsz (hl ad e).1)) hS.below
     ·have hc44:=of_decide_eq_false hc;clear hc
      refine aM (aQ (cY rfl rfl rfl (aC rfl rfl (aN (XF.thenN (bB rfl (fun hc=>absurd (of_decide_eq_true hc) (by exact rQ hp)) (fun hc=>?_)))))))
      have hc:=of_decide_eq_false hc
      have e1:t=1:=by
       have:=(gL hp).2
       omega
      subst e1
      refine bI (XF.blkN (XF.thenN (aM (aQ (aT (vs:=[_,_,_,_,_,_]) isAgg44 sizeOf44 rfl (aF.own (j:=0) (m:=6) (hS.at_ 0 rfl) rfl) rfl (aU (i:=1) (vs:=[_,_,_,_,_,_]) (cs':=[_,_,_,_,_,_]) (O':=[_,_,_,_,_]) hS sizeOf44 rfl rfl rfl rfl rfl rfl rfl fun W18 hS=>aN (XF.thenN (bL (XF.res (eM (vs:=[_,_,_,_,_,_]) results148 isAgg44 sizeOf44 rfl (aF.own (j:=0) (m:=6) (hS.at_ 1 rfl) rfl)) ?_)))))))))
      exact fF (ext_f1 hx hy hf hg) hS.below
theorem qR (t n:Int) (sa:Option Addr) (sc:Nat) (f g:WF) (x y:PF) (w:World) (hp:bJ t n 0=true) (hx:PIs w t n f x) (hy:PIs w t n g y) (ht:Tabs w) :
  Calls prog 108 #[.agg #[.int .i64 t,.int .i64 n,.slice sa 0 sc],f.val,g.val] w (jE (.one t n) (.one (dU t n x y)) w):=by
 refine cD (args:=[.agg #[.int .i64 t,.int .i64 n,.slice sa 0 sc],f.val,g.val]) func108 rfl ntmps108 rfl ?_
 have hS:=St.start w
 refine aM (aQ (bY (cs:=[_,_,_]) hS rfl rfl rfl fun B1 W1 hS=>bY (cs:=[_,_,_,_,_,_]) hS rfl rfl rfl fun B2 W2 hS=>bY (cs:=[_,_,_,_,_,_]) hS rfl rfl rfl fun B3 W3 hS=>bE (cs:=[_,_,_,_,_,_]) hS zeroValue44 rfl rfl fun B4 W4 hS=>aN (XF.thenN (aM (aM (aQ (aK (o':=0) eQ rfl rfl rfl (aR isAgg4 rfl (aH (hS.at_ 2 rfl) rfl) rfl (aN (XF.thenN (bB rfl (fun hc=>?_) (fun hc=>?_))))))))))))
 ·have hc9:=hc;clear hc
  have hz:=hc9
  refine aM (aQ (aT (vs:=[_,_,_,_,_,_]) isAgg44 sizeOf44 rfl (aF.own (j:=0) (m:=6) (hS.at_ 1 rfl) rfl) rfl ?_))
  have hsz:=hS.below.size
  refine cN (vs:=[_]) hS qD rfl (jZ t n g _ _ (hy.below hS.below)) rfl ?_
  rintro e W5 ⟨h1,rfl,hn,hb⟩
  refine ⟨_,rfl,hb,fun hS'=>?_⟩
  clear hS;have hS:=hS';clear hS'
  refine aU (i:=0) (vs:=[_,_,_,_,_,_]) (cs':=[_,_,_,_,_,_]) (O':=[_,_,_,_]) hS sizeOf44 rfl rfl rfl rfl rfl rfl rfl fun W6 hS=>aN (XF.thenN (bL (XF.thenR (XF.res (eM (vs:=[_,_,_,_,_,_]) results108 isAgg44 sizeOf44 rfl (aF.own (j:=0) (m:=6) (hS.at_ 0 rfl) rfl)) ?_))))
  rw [hx.zero hz,dZ]
  exact fF ((hn.agree (hS.since 0 rfl)).mono hsz) hS.below
 ·have hc9:=hc;clear hc
  have hf:=hc9
  refine bI (XF.thenN (aM (aM (aQ (aK (o':=0) eQ rfl rfl rfl (aR isAgg4 rfl (aH (hS.at_ 1 rfl) rfl) rfl (aN (XF.thenN (bB rfl (fun hc=>?_) (fun hc=>?_))))))))))
  ·have hc13:=hc;clear hc
   refine aM (aQ (aT (vs:=[_,_,_,_,_,_]) isAgg44 sizeOf44 rfl (aF.own (j:=0) (m:=6) (hS.at_ 2 rfl) rfl) rfl ?_))
   have hsz:=hS.below.size
   refine cN (vs:=[_]) hS qD rfl (jZ t n f _ _ (hx.below hS.below)) rfl ?_
   rintro e W7 ⟨h1,rfl,hn,hb⟩
   refine ⟨_,rfl,hb,fun hS'=>?_⟩
   clear hS;have hS:=hS';clear hS'
   refine aU (i:=0) (vs:=[_,_,_,_,_,_]) (cs':=[_,_,_,_,_,_]) (O':=[_,_,_,_]) hS sizeOf44 rfl rfl rfl rfl rfl rfl rfl fun W8 hS=>aN (XF.thenN (bL (XF.thenR (XF.res (eM (vs:=[_,_,_,_,_,_]) results108 isAgg44 sizeOf44 rfl (aF.own (j:=0) (m:=6) (hS.at_ 0 rfl) rfl)) ?_))))
   rw [hy.zero hc13,eD hx.ok]
   exact fF ((hn.agree (hS.since 0 rfl)).mono hsz) hS.below
  ·have hc13:=hc;clear hc
   have hg:=hc13
   refine bI (XF.thenN (aM (aQ (bE (cs:=[_,_,_,_,_,_]) hS zeroValue44 rfl rfl fun B9 W9 hS=>aN (XF.thenN (aM (aM (aQ (aK (o':=0) fL rfl rfl rfl (aR isAgg22 rfl (aH (hS.at_ 4 rfl) rfl) rfl (aN (XF.thenN (bK (aM (aQ (cY rfl rfl rfl (aC rfl rfl (aN (XF.thenN (bB rfl (fun hc=>?_) (fun hc=>?_)))))))))))))))))))))
   ·have hc18:=of_decide_eq_true hc;clear hc
    have e2:t=2:=hc18
    subst e2
    refine aQ (aK (o':=1) fM rfl rfl rfl (aR isAgg3 rfl (aH (hS.at_ 4 rfl) rfl) rfl (aK (o':=1) gJ rfl rfl rfl (aR isAgg3 rfl (aH (hS.at_ 3 rfl) rfl) rfl (aK (o':=1) gJ rfl rfl rfl (aR isAgg3 rfl (aH (hS.at_ 2 rfl) rfl) rfl (cW (us:=[(0,.int .i64 _),(1,.int .i64 _)]) hS underlying26 sizeOf3 zeroValue3 rfl rfl rfl (Lv _ _) rfl fun B10 W10 hS=>cN (vs:=[_,_]) hS Qu rfl (Pg n (some ⟨_,0,none⟩) 2 [f.c,g.c] _ (by simp [maxLen]) (Mu (hS.at_ 0 rfl))) rfl ?_)))))))
    rintro e W11 ⟨rfl,rfl⟩
    refine ⟨_,rfl,Below.refl _ _,fun hS'=>?_⟩
    clear hS;have hS:=hS';clear hS'
    refine aE rfl rfl (bU rfl rfl rfl (bU rfl rfl rfl (aK (o':=1) gJ rfl rfl rfl (dN (i:=1) (cs':=[_,_,_,_,_,_]) (O':=[_,_,_,_,_,_]) hS sizeOf3 rfl rfl rfl rfl rfl rfl rfl fun W12 hS=>aN (XF.blkN (XF.thenN (aM (aQ (aT (vs:=[_,_,_,_,_,_]) isAgg44 sizeOf44 rfl (aF.own (j:=0) (m:=6) (hS.at_ 1 rfl) rfl) rfl (aU (i:=2) (vs:=[_,_,_,_,_,_]) (cs':=[_,_,_,_,_,_]) (O':=[_,_,_,_,_,_]) hS sizeOf44 rfl rfl rfl rfl rfl rfl rfl fun W13 hS=>aN (XF.thenN (bL (XF.res (eM (vs:=[_,_,_,_,_,_]) results108 isAgg44 sizeOf44 rfl (aF.own (j:=0) (m:=6) (hS.at_ 2 rfl) rfl)) ?_)))))))))))))
    exact fF (comb_f2 hp hx hy hf hg) hS.below
   ·have hc18:=of_decide_eq_false hc;clear hc
    refine aM (aQ (cY rfl rfl rfl (aC rfl rfl (aN (XF.thenN (bB rfl (fun hc=>?_) (fun hc=>?_)))))))
    ·have hc32:=of_decide_eq_true hc;clear hc
     have e3:t=3:=hc32
     subst e3
     obtain ⟨m,rfl,hm⟩:=Pi hp (.inl rfl)
     refine aQ (aK (o':=1) fM rfl rfl rfl (aR isAgg3 rfl (aH (hS.at_ 4 rfl) rfl) rfl (aK (o':=2) gK rfl rfl rfl (aT (vs:=[_,_]) isAgg40 sizeOf40 rfl (aF.own (j:=2) (m:=2) (hS.at_ 3 rfl) rfl) rfl (aK (o':=2) gK rfl rfl rfl (aT (vs:=[_,_]) isAgg40 sizeOf40 rfl (aF.own (j:=2) (m:=2) (hS.at_ 2 rfl) rfl) rfl ?_))))))
     have hsz:=hS.below.size
     refine cN (vs:=[_,_,_]) hS Qw rfl (Rx _ _ _ _ _ _ _ _ _ _ (hx.at_.fat (by have:=hx.rows64 (l:=0);omega) |>.below hS.below) (hy.at_.fat (by have:=hy.rows64 (l:=0);omega) |>.below hS.below) _ rfl _ rfl _ rfl _ _ hx.at_.rl hy.at_.rl) rfl ?_
     rintro e W14 ⟨a1,c1,rfl,hv,hl,hb⟩
     refine ⟨_,rfl,hb,fun hS'=>?_⟩
     clear hS;have hS:=hS';clear hS'
     refine aE rfl rfl (bU rfl rfl rfl (bU rfl rfl rfl (aK (o':=2) gK rfl rfl rfl (aU (i:=0) (vs:=[_,_]) (cs':=[_,_,_,_,_,_]) (O':=[_,_,_,_,_]) hS sizeOf40 rfl rfl rfl rfl rfl rfl rfl fun W15 hS=>aN (XF.blkN (XF.thenN (aM (aQ (aT (vs:=[_,_,_,_,_,_]) isAgg44 sizeOf44 rfl (aF.own (j:=0) (m:=6) (hS.at_ 0 rfl) rfl) rfl (aU (i:=1) (vs:=[_,_,_,_,_,_]) (cs':=[_,_,_,_,_,_]) (O':=[_,_,_,_,_]) hS sizeOf44 rfl rfl rfl rfl rfl rfl rfl fun W16 hS=>aN (XF.thenN (bL (XF.res (eM (vs:=[_,_,_,_,_,_]) results108 isAgg44 sizeOf44 rfl (aF.own (j:=0) (m:=6) (hS.at_ 1 rfl) rfl)) ?_)))))))))))))
     exact fF (comb_f3 hx hy hf hg (hv.agree (fun ad e=>(hl ad e).1) (hS.since 0 rfl)) (fun ad e=>Nat.le_trans hsz (hl ad e).1)) hS.below
    ·have hc32:=of_decide_eq_false hc;clear hc
     refine aM (aQ (cY rfl rfl rfl (aC rfl rfl (aN (XF.thenN (bB rfl (fun hc=>?_) (fun hc=>?_)))))))
     ·have hc45:=of_decide_eq_true hc;clear hc
      have e4:t=4:=hc45
      subst e4
      obtain ⟨m,rfl,hm⟩:=Pi hp (.inr rfl)
      refine aQ (aK (o':=1) fM rfl rfl rfl (aR isAgg3 rfl (aH (hS.at_ 4 rfl) rfl) rfl (aK (o':=4) eV rfl rfl rfl (aR isAgg41 rfl (aH (hS.at_ 3 rfl) rfl) rfl (aK (o':=4) eV rfl rfl rfl (aR isAgg41 rfl (aH (hS.at_ 2 rfl) rfl) rfl ?_))))))
      have hsz:=hS.below.size
      refine cN (vs:=[_,_,_]) hS Qx rfl (both_is _ _ _ _ _ _ _ _ (by rw [hx.at_.cl];exact hx.at_.cmax) (by rw [hy.at_.cl];exact hy.at_.cmax) (hx.at_.cells.below hS.below) (hy.at_.cells.below hS.below) hx.at_.bits hy.at_.bits _ rfl _ _ hx.at_.cl hy.at_.cl) rfl ?_
      rintro e W17 ⟨a1,c1,rfl,hv,hl,hb⟩
      refine ⟨_,rfl,hb,fun hS'=>?_⟩
      clear hS;have hS:=hS';clear hS'
      refine aE rfl rfl (bU rfl rfl rfl (bU rfl rfl rfl (aK (o':=4) eV rfl rfl rfl (dN (i:=0) (cs':=[_,_,_,_,_,_]) (O':=[_,_,_,_,_]) hS sizeOf41 rfl rfl rfl rfl rfl rfl rfl fun W18 hS=>aN (XF.blkN (XF.thenN (aM (aQ (aT (vs:=[_,_,_,_,_,_]) isAgg44 sizeOf44 rfl (aF.own (j:=0) (m:=6) (hS.at_ 0 rfl) rfl) rfl (aU (i:=1) (vs:=[_,_,_,_,_,_]) (cs':=[_,_,_,_,_,_]) (O':=[_,_,_,_,_]) hS sizeOf44 rfl rfl rfl rfl rfl rfl rfl fun W19 hS=>aN (XF.thenN (bL (XF.res (eM (vs:=[_,_,_,_,_,_]) results108 isAgg44 sizeOf44 rfl (aF.own (j:=0) (m:=6) (hS.at_ 1 rfl) rfl)) ?_)))))))))))))
      exact fF (comb_f4 hx hy hf hg (hv.agree (fun ad e=>(hl ad e).1) (hS.since 0 rfl)) (fun ad e=>Nat.le_trans hsz (hl ad e).1)) hS.below
     ·have hc45:=of_decide_eq_false hc;clear hc
      refine aM (aQ (cY rfl rfl rfl (aC rfl rfl (aN (XF.thenN (bB rfl (fun hc=>absurd (of_decide_eq_true hc) (by exact rQ hp)) (fun hc=>?_)))))))
      have hc:=of_decide_eq_false hc
      have e1:t=1:=by
       have:=(gL hp).2
       omega
      subst e1
      refine bI (XF.blkN (XF.thenN (aM (aQ (aT (vs:=[_,_,_,_,_,_]) isAgg44 sizeOf44 rfl (aF.own (j:=0) (m:=6) (hS.at_ 0 rfl) rfl) rfl (aU (i:=1) (vs:=[_,_,_,_,_,_]) (cs':=[_,_,_,_,_,_]) (O':=[_,_,_,_,_]) hS sizeOf44 rfl rfl rfl rfl rfl rfl rfl fun W20 hS=>aN (XF.thenN (bL (XF.res (eM (vs:=[_,_,_,_,_,_]) results108 isAgg44 sizeOf44 rfl (aF.own (j:=0) (m:=6) (hS.at_ 1 rfl) rfl)) ?_)))))))))
      exact fF (comb_f1 hx hy hf hg) hS.below
theorem tE (t n:Int) (sa:Option Addr) (sc:Nat) (w:World) (hp:bJ t n 0=true) :
  Calls prog 125 #[.agg #[.int .i64 t,.int .i64 n,.slice sa 0 sc]] w (jE (.one t n) (.one (kK t n)) w):=by
 refine cD (args:=[.agg #[.int .i64 t,.int .i64 n,.slice sa 0 sc]]) func125 rfl ntmps125 rfl ?_
 have hS:=St.start w
 refine aM (aQ (bY (cs:=[_,_,_]) hS rfl rfl rfl fun B1 W1 hS=>bE (cs:=[_,_,_,_,_,_]) hS zeroValue44 rfl rfl fun B2 W2 hS=>aN (XF.thenN (aM (aQ (bE (cs:=[_,_,_,_,_,_]) hS zeroValue44 rfl rfl fun B3 W3 hS=>aN (XF.thenN (aM (aM (aQ (aK (o':=0) fL rfl rfl rfl (aR isAgg22 rfl (aH (hS.at_ 2 rfl) rfl) rfl (aN (XF.thenN (bK (aM (aQ (cY rfl rfl rfl (aC rfl rfl (aN (XF.thenN (bB rfl (fun hc=>?_) (fun hc=>?_)))))))))))))))))))))))
 ·have hc6:=of_decide_eq_true hc;clear hc
  have e3:t=3:=hc6
  subst e3
  obtain ⟨m,rfl,hm⟩:=Pi hp (.inl rfl)
  refine aQ (aK (o':=1) fM rfl rfl rfl (aR isAgg3 rfl (aH (hS.at_ 2 rfl) rfl) rfl ?_))
  have hsz:=hS.below.size
  refine cN (vs:=[_]) hS Qr rfl ((oneA_is m _ _ (Gw hm).1 _ (Gw hm).2).mono fun _ _ h=>On.ret h) rfl ?_
  rintro e W4 ⟨a1,c1,rfl,hv,hl,hb⟩
  refine ⟨_,rfl,hb,fun hS'=>?_⟩
  clear hS;have hS:=hS';clear hS'
  refine aE rfl rfl (bU rfl rfl rfl (bU rfl rfl rfl (aK (o':=2) gK rfl rfl rfl (aU (i:=0) (vs:=[_,_]) (cs':=[_,_,_,_,_,_]) (O':=[_,_,_]) hS sizeOf40 rfl rfl rfl rfl rfl rfl rfl fun W5 hS=>aN (XF.blkN (XF.thenN (aM (aQ (aT (vs:=[_,_,_,_,_,_]) isAgg44 sizeOf44 rfl (aF.own (j:=0) (m:=6) (hS.at_ 0 rfl) rfl) rfl (aU (i:=1) (vs:=[_,_,_,_,_,_]) (cs':=[_,_,_,_,_,_]) (O':=[_,_,_]) hS sizeOf44 rfl rfl rfl rfl rfl rfl rfl fun W6 hS=>aN (XF.thenN (bL (XF.res (eM (vs:=[_,_,_,_,_,_]) results125 isAgg44 sizeOf44 rfl (aF.own (j:=0) (m:=6) (hS.at_ 1 rfl) rfl)) ?_)))))))))))))
  exact fF (one_f3 hm (hv.agree (fun ad e=>(hl ad e).1) (hS.since 0 rfl)) (fun ad e=>Nat.le_trans hsz (hl ad e).1)) hS.below
 ·have hc6:=of_decide_eq_false hc;clear hc
  refine aM (aQ (cY rfl rfl rfl (aC rfl rfl (aN (XF.thenN (bB rfl (fun hc=>?_) (fun hc=>?_)))))))
  ·have hc15:=of_decide_eq_true hc;clear hc
   have e4:t=4:=hc15
   subst e4
   obtain ⟨m,rfl,hm⟩:=Pi hp (.inr rfl)
   refine aQ (aK (o':=1) fM rfl rfl rfl (aR isAgg3 rfl (aH (hS.at_ 2 rfl) rfl) rfl ?_))
   have hsz:=hS.below.size
   refine cN (vs:=[_]) hS Qs rfl (one4_is m hm _) rfl ?_
   rintro e W7 ⟨a1,c1,rfl,hv,hl,hb⟩
   refine ⟨_,rfl,hb,fun hS'=>?_⟩
   clear hS;have hS:=hS';clear hS'
   refine aE rfl rfl (bU rfl rfl rfl (bU rfl rfl rfl (aK (o':=4) eV rfl rfl rfl (dN (i:=0) (cs':=[_,_,_,_,_,_]) (O':=[_,_,_]) hS sizeOf41 rfl rfl rfl rfl rfl rfl rfl fun W8 hS=>aN (XF.blkN (XF.thenN (aM (aQ (aT (vs:=[_,_,_,_,_,_]) isAgg44 sizeOf44 rfl (aF.own (j:=0) (m:=6) (hS.at_ 0 rfl) rfl) rfl (aU (i:=1) (vs:=[_,_,_,_,_,_]) (cs':=[_,_,_,_,_,_]) (O':=[_,_,_]) hS sizeOf44 rfl rfl rfl rfl rfl rfl rfl fun W9 hS=>aN (XF.thenN (bL (XF.res (eM (vs:=[_,_,_,_,_,_]) results125 isAgg44 sizeOf44 rfl (aF.own (j:=0) (m:=6) (hS.at_ 1 rfl) rfl)) ?_)))))))))))))
   exact fF (one_f4 hm (hv.agree (fun ad e=>(hl ad e).1) (hS.since 0 rfl)) (fun ad e=>Nat.le_trans hsz (hl ad e).1)) hS.below
  ·have hc15:=of_decide_eq_false hc;clear hc
   refine aM (aQ (cY rfl rfl rfl (aC rfl rfl (aN (XF.thenN (bB rfl (fun hc=>absurd (of_decide_eq_true hc) (by exact rQ hp)) (fun hc=>?_)))))))
   have hc:=of_decide_eq_false hc
   refine bI (XF.blkN (XF.thenN (aM (aQ (aT (vs:=[_,_,_,_,_,_]) isAgg44 sizeOf44 rfl (aF.own (j:=0) (m:=6) (hS.at_ 0 rfl) rfl) rfl (aU (i:=1) (vs:=[_,_,_,_,_,_]) (cs':=[_,_,_,_,_,_]) (O':=[_,_,_]) hS sizeOf44 rfl rfl rfl rfl rfl rfl rfl fun W10 hS=>aN (XF.thenN (bL (XF.res (eM (vs:=[_,_,_,_,_,_]) results125 isAgg44 sizeOf44 rfl (aF.own (j:=0) (m:=6) (hS.at_ 1 rfl) rfl)) ?_)))))))))
   exact fF (one_f1 hp hc6 hc15) hS.below
theorem Pk (t n u m:Int) (a1 a2:Option Addr) (c1 c2 b off sc:Nat) (w:World) (hs1:S3 w b off ⟨t,n,a1,0,c1⟩) (hs2:S3 w b (off+3) ⟨u,m,a2,0,c2⟩) (hp1:bJ t n 0=true) (hp2:bJ u m 0=true)(fra fca:Option Addr) (frc fcc fpc fb fo:Nat) (f1 f2:WF) (x1 x2:PF) (hf6:W6 w fb fo f1) (hf7:W6 w fb (fo+6) f2) (hx1:PIs w t n f1 x1) (hx2:PIs w u m f2 x2)(gra gca:Option Addr) (grc gcc gpc gb go:Nat) (g1 g2:WF) (y1 y2:PF) (hg6:W6 w gb go g1) (hg7:W6 w gb (go+6) g2) (hy1:PIs w t n g1 y1) (hy2:PIs w u m g2 y2)(ht:Tabs w) :
  Calls prog 148 #[.agg #[.int .i64 5,.int .i64 0,.slice (some ⟨b,off,none⟩) 2 sc],.agg #[.bool false,.int .i64 0,.int .u64 0,.slice fra 0 frc,.slice fca 0 fcc,.slice (some ⟨fb,fo,none⟩) 2 fpc],.agg #[.bool false,.int .i64 0,.int .u64 0,.slice gra 0 grc,.slice gca 0 gcc,.slice (some ⟨gb,go,none⟩) 2 gpc]] w (jE (.two t n u m) (.two (gM t n x1 y1) (gM u m x2 y2)) w):=by
 refine cD (args:=[.agg #[.int .i64 5,.int .i64 0,.slice (some ⟨b,off,none⟩) 2 sc],.agg #[.bool false,.int .i64 0,.int .u64 0,.slice fra 0 frc,.slice fca 0 fcc,.slice (some ⟨fb,fo,none⟩) 2 fpc],.agg #[.bool false,.int .i64 0,.int .u64 0,.slice gra 0 grc,.slice gca 0 gcc,.slice (some ⟨gb,go,none⟩) 2 gpc]]) func148 rfl ntmps148 rfl ?_
 have hS:=St.start w
 refine aM (aQ (bY (cs:=[_,_,_]) hS rfl rfl rfl fun B1 W1 hS=>bY (cs:=[_,_,_,_,_,_]) hS rfl rfl rfl fun B2 W2 hS=>bY (cs:=[_,_,_,_,_,_]) hS rfl rfl rfl fun B3 W3 hS=>bE (cs:=[_,_,_,_,_,_]) hS zeroValue44 rfl rfl fun B4 W4 hS=>aN (XF.thenN (aM (aM (aQ (aK (o':=0) eQ rfl rfl rfl (aR isAgg4 rfl (aH (hS.at_ 2 rfl) rfl) rfl (aE rfl rfl (bH (d:=10) rfl (fun hc=>absurd hc (by decide)) (fun hc=>?_)))))))))))
 skip
 refine aB (d:=10) rfl rfl (aK (o':=0) eQ rfl rfl rfl (aB (d:=10) rfl rfl (aR isAgg4 rfl (aH (hS.at_ 1 rfl) rfl) rfl (bF rfl rfl rfl (aN (XF.thenN (bB rfl (fun hc=>absurd hc (by decide)) (fun hc=>?_))))))))
 skip
 refine bI (XF.thenN (aM (aQ (bE (cs:=[_,_,_,_,_,_]) hS zeroValue44 rfl rfl fun B5 W5 hS=>aN (XF.thenN (aM (aM (aQ (aK (o':=0) fL rfl rfl rfl (aR isAgg22 rfl (aH (hS.at_ 4 rfl) rfl) rfl (aN (XF.thenN (bK (aM (aQ (cY rfl rfl rfl (aC rfl rfl (aN (XF.thenN (bB rfl (fun hc=>absurd (of_decide_eq_true hc) (by omega)) (fun hc=>?_)))))))))))))))))))))
 have hc:=of_decide_eq_false hc
 refine aM (aQ (cY rfl rfl rfl (aC rfl rfl (aN (XF.thenN (bB rfl (fun hc=>absurd (of_decide_eq_true hc) (by omega)) (fun hc=>?_)))))))
 have hc:=of_decide_eq_false hc
 refine aM (aQ (cY rfl rfl rfl (aC rfl rfl (aN (XF.thenN (bB rfl (fun hc=>absurd (of_decide_eq_true hc) (by omega)) (fun hc=>?_)))))))
 have hc:=of_decide_eq_false hc
 refine aM (aQ (cY rfl rfl rfl (aC rfl rfl (aN (XF.thenN (bB rfl (fun hc=>?_) (fun hc=>absurd (of_decide_eq_false hc) (by omega))))))))
 have hc:=of_decide_eq_true hc
 have hsz:=hS.below.size
 have k1:=aF.agree hS.agree (Nat.zero_le _) hs1.cells
 have k2:=aF.agree hS.agree (Nat.zero_le _) hs2.cells
 have kf1:=aF.agree hS.agree (Nat.zero_le _) hf6.cells
 have kf2:=aF.agree hS.agree (Nat.zero_le _) hf7.cells
 have kg1:=aF.agree hS.agree (Nat.zero_le _) hg6.cells
 have kg2:=aF.agree hS.agree (Nat.zero_le _) hg7.cells
 refine xV cF 27 hS rfl rfl (by kernel_rfl) (by kernel_rfl) (by kernel_rfl) (fun d hd=>by cases hd) (cL 1 rfl 3 rfl rfl (fun w hw=>aV (o':=2) eF rfl rfl) rfl (bC 2 rfl 59 0 rfl rfl rfl (fun w hw=>aZ isAgg23 rfl ((aP hw 0).cell (Nat.zero_le _) (aH (hS.at_ 4 rfl) rfl))) rfl (bC 3 rfl 60 1 rfl rfl rfl (fun w hw=>bG (j:=0) underlying23 sizeOf25 rfl rfl rfl (by omega) (Nat.add_zero _)) rfl (bC 4 rfl 61 2 rfl rfl rfl (fun w hw=>bD (vs:=[_,_,_]) isAgg25 sizeOf25 rfl (aF.agree (aP hw 0) (Nat.zero_le _) (by assumption))) rfl (cL 5 rfl 4 rfl rfl (fun w hw=>aV (o':=5) dJ rfl rfl) rfl (bC 6 rfl 63 4 rfl rfl rfl (fun w hw=>aZ isAgg42 rfl ((aP hw 0).cell (Nat.zero_le _) (aH (hS.at_ 3 rfl) rfl))) rfl (bC 7 rfl 64 5 rfl rfl rfl (fun w hw=>bG (j:=0) underlying42 sizeOf44 rfl rfl rfl (by omega) (Nat.add_zero _)) rfl (bC 8 rfl 65 6 rfl rfl rfl (fun w hw=>bD (vs:=[_,_,_,_,_,_]) isAgg44 sizeOf44 rfl (aF.agree (aP hw 0) (Nat.zero_le _) (by assumption))) rfl (cL 9 rfl 5 rfl rfl (fun w hw=>aV (o':=5) dJ rfl rfl) rfl (bC 10 rfl 67 8 rfl rfl rfl (fun w hw=>aZ isAgg42 rfl ((aP hw 0).cell (Nat.zero_le _) (aH (hS.at_ 2 rfl) rfl))) rfl (bC 11 rfl 68 9 rfl rfl rfl (fun w hw=>bG (j:=0) underlying42 sizeOf44 rfl rfl rfl (by omega) (Nat.add_zero _)) rfl (bC 12 rfl 69 10 rfl rfl rfl (fun w hw=>bD (vs:=[_,_,_,_,_,_]) isAgg44 sizeOf44 rfl (aF.agree (aP hw 0) (Nat.zero_le _) (by assumption))) rfl ?_))))))))))))
 refine aL 13 rfl (dL W5.heap.size (.one t n) (.one (gM t n x1 y1))) (dS) (dB [isV _,isV _,isV _] rfl yB (aS rfl) ⟨cH (aO 3 (aA rfl rfl rfl)),cH (aO 7 (aA rfl rfl rfl)),cH (aO 11 (aA rfl rfl rfl)),trivial⟩ (fun vs w' hb hh=>by have e:=cI (us:=[_,_,_]) hh;subst e;exact gO hb.size (tD _ _ _ _ _ _ _ _ _ hp1 (hx1.below (hS.below.trans (hb.mono hS.below.size))) (hy1.below (hS.below.trans (hb.mono hS.below.size))) (ht.below (hS.below.trans (hb.mono hS.below.size))))) (aG rfl)) ?_
 refine cL 14 rfl 3 rfl rfl (fun w hw=>aV (o':=2) eF rfl rfl) rfl (bC 15 rfl 72 13 rfl rfl rfl (fun w hw=>aZ isAgg23 rfl ((aP hw 0).cell (Nat.zero_le _) (aH (hS.at_ 4 rfl) rfl))) rfl (bC 16 rfl 73 14 rfl rfl rfl (fun w hw=>bG (j:=1) underlying23 sizeOf25 rfl rfl rfl (by omega) rfl) rfl (bC 17 rfl 74 15 rfl rfl rfl (fun w hw=>bD (vs:=[_,_,_]) isAgg25 sizeOf25 rfl (aF.agree (aP hw 0) (Nat.zero_le _) (by assumption))) rfl (cL 18 rfl 4 rfl rfl (fun w hw=>aV (o':=5) dJ rfl rfl) rfl (bC 19 rfl 76 17 rfl rfl rfl (fun w hw=>aZ isAgg42 rfl ((aP hw 0).cell (Nat.zero_le _) (aH (hS.at_ 3 rfl) rfl))) rfl (bC 20 rfl 77 18 rfl rfl rfl (fun w hw=>bG (j:=1) underlying42 sizeOf44 rfl rfl rfl (by omega) rfl) rfl (bC 21 rfl 78 19 rfl rfl rfl (fun w hw=>bD (vs:=[_,_,_,_,_,_]) isAgg44 sizeOf44 rfl (aF.agree (aP hw 0) (Nat.zero_le _) (by assumption))) rfl (cL 22 rfl 5 rfl rfl (fun w hw=>aV (o':=5) dJ rfl rfl) rfl (bC 23 rfl 80 21 rfl rfl rfl (fun w hw=>aZ isAgg42 rfl ((aP hw 0).cell (Nat.zero_le _) (aH (hS.at_ 2 rfl) rfl))) rfl (bC 24 rfl 81 22 rfl rfl rfl (fun w hw=>bG (j:=1) underlying42 sizeOf44 rfl rfl rfl (by omega) rfl) rfl (bC 25 rfl 82 23 rfl rfl rfl (fun w hw=>bD (vs:=[_,_,_,_,_,_]) isAgg44 sizeOf44 rfl (aF.agree (aP hw 0) (Nat.zero_le _) (by assumption))) rfl ?_)))))))))))
 refine aL 26 rfl (dL W5.heap.size (.one u m) (.one (gM u m x2 y2))) (dS) (dB [isV _,isV _,isV _] rfl yB (aS rfl) ⟨cH (aO 16 (aA rfl rfl rfl)),cH (aO 20 (aA rfl rfl rfl)),cH (aO 24 (aA rfl rfl rfl)),trivial⟩ (fun vs w' hb hh=>by have e:=cI (us:=[_,_,_]) hh;subst e;exact gO hb.size (tD _ _ _ _ _ _ _ _ _ hp2 (hx2.below (hS.below.trans (hb.mono hS.below.size))) (hy2.below (hS.below.trans (hb.mono hS.below.size))) (ht.below (hS.below.trans (hb.mono hS.below.size))))) (aG rfl)) ?_
 refine aL 27 rfl (dL W5.heap.size (.two t n u m) (.two (gM t n x1 y1) (gM u m x2 y2))) (dS) (dB [dL _ (.one t n) (.one (gM t n x1 y1)),dL _ (.one u m) (.one (gM u m x2 y2))] rfl yC (aS rfl) ⟨cH (aO 12 (aA rfl rfl rfl)),cH (aO 25 (aA rfl rfl rfl)),trivial⟩ (fun vs w' hb hh=>tC hb.size hh) (aG rfl)) (dW ?_)
 intro W6 hbR hS'
 clear hS;have hS:=hS';clear hS'
 refine aJ (aJ (aJ (aJ (aJ (aJ (aJ (aJ (aJ (aJ (aJ (aJ ?_)))))))))))
 refine dH ?_;rintro _ ⟨v1,rfl,hn1⟩
 refine aJ (aJ (aJ (aJ (aJ (aJ (aJ (aJ (aJ (aJ (aJ (aJ ?_)))))))))))
 refine dH ?_;rintro _ ⟨v2,rfl,hn2⟩
 refine dH ?_;rintro _ ⟨v3,rfl,hn3⟩
 refine cQ (aU (i:=0) (vs:=[_,_,_,_,_,_]) (cs':=[_,_,_,_,_,_]) (O':=[_,_,_,_,_]) hS sizeOf44 rfl rfl rfl rfl rfl rfl rfl fun W7 hS=>aN (XF.blkN (XF.thenN (aM (aQ (aT (vs:=[_,_,_,_,_,_]) isAgg44 sizeOf44 rfl (aF.own (j:=0) (m:=6) (hS.at_ 0 rfl) rfl) rfl (aU (i:=1) (vs:=[_,_,_,_,_,_]) (cs':=[_,_,_,_,_,_]) (O':=[_,_,_,_,_]) hS sizeOf44 rfl rfl rfl rfl rfl rfl rfl fun W8 hS=>aN (XF.thenN (bL (XF.res (eM (vs:=[_,_,_,_,_,_]) results148 isAgg44 sizeOf44 rfl (aF.own (j:=0) (m:=6) (hS.at_ 1 rfl) rfl)) ?_))))))))))
 exact ⟨v3,rfl,(hn3.agree (hS.since 0 rfl)).mono hsz,hS.below⟩
theorem Pn (t n u m:Int) (a1 a2:Option Addr) (c1 c2 b off sc:Nat) (w:World) (hs1:S3 w b off ⟨t,n,a1,0,c1⟩) (hs2:S3 w b (off+3) ⟨u,m,a2,0,c2⟩) (hp1:bJ t n 0=true) (hp2:bJ u m 0=true) :
  Calls prog 125 #[.agg #[.int .i64 5,.int .i64 0,.slice (some ⟨b,off,none⟩) 2 sc]] w (jE (.two t n u m) (.two (kK t n) (kK u m)) w):=by
 refine cD (args:=[.agg #[.int .i64 5,.int .i64 0,.slice (some ⟨b,off,none⟩) 2 sc]]) func125 rfl ntmps125 rfl ?_
 have hS:=St.start w
 refine aM (aQ (bY (cs:=[_,_,_]) hS rfl rfl rfl fun B1 W1 hS=>bE (cs:=[_,_,_,_,_,_]) hS zeroValue44 rfl rfl fun B2 W2 hS=>aN (XF.thenN (aM (aQ (bE (cs:=[_,_,_,_,_,_]) hS zeroValue44 rfl rfl fun B3 W3 hS=>aN (XF.thenN (aM (aM (aQ (aK (o':=0) fL rfl rfl rfl (aR isAgg22 rfl (aH (hS.at_ 2 rfl) rfl) rfl (aN (XF.thenN (bK (aM (aQ (cY rfl rfl rfl (aC rfl rfl (aN (XF.thenN (bB rfl (fun hc=>absurd (of_decide_eq_true hc) (by omega)) (fun hc=>?_)))))))))))))))))))))))
 have hc:=of_decide_eq_false hc
 refine aM (aQ (cY rfl rfl rfl (aC rfl rfl (aN (XF.thenN (bB rfl (fun hc=>absurd (of_decide_eq_true hc) (by omega)) (fun hc=>?_)))))))
 have hc:=of_decide_eq_false hc
 refine aM (aQ (cY rfl rfl rfl (aC rfl rfl (aN (XF.thenN (bB rfl (fun hc=>?_) (fun hc=>absurd (of_decide_eq_false hc) (by omega))))))))
 have hc:=of_decide_eq_true hc
 have hsz:=hS.below.size
 have k1:=aF.agree hS.agree (Nat.zero_le _) hs1.cells
 have k2:=aF.agree hS.agree (Nat.zero_le _) hs2.cells
 refine xV cF 11 hS rfl rfl (by kernel_rfl) (by kernel_rfl) (by kernel_rfl) (fun d hd=>by cases hd) (cL 1 rfl 1 rfl rfl (fun w hw=>aV (o':=2) eF rfl rfl) rfl (bC 2 rfl 26 0 rfl rfl rfl (fun w hw=>aZ isAgg23 rfl ((aP hw 0).cell (Nat.zero_le _) (aH (hS.at_ 2 rfl) rfl))) rfl (bC 3 rfl 27 1 rfl rfl rfl (fun w hw=>bG (j:=0) underlying23 sizeOf25 rfl rfl rfl (by omega) (Nat.add_zero _)) rfl (bC 4 rfl 28 2 rfl rfl rfl (fun w hw=>bD (vs:=[_,_,_]) isAgg25 sizeOf25 rfl (aF.agree (aP hw 0) (Nat.zero_le _) (by assumption))) rfl ?_))))
 refine aL 5 rfl (dL W3.heap.size (.one t n) (.one (kK t n))) (dS) (dB [isV _] rfl xY (aS rfl) ⟨cH (aO 3 (aA rfl rfl rfl)),trivial⟩ (fun vs w' hb hh=>by have e:=cI (us:=[_]) hh;subst e;exact gO hb.size (tE _ _ _ _ _ hp1)) (aG rfl)) ?_
 refine cL 6 rfl 1 rfl rfl (fun w hw=>aV (o':=2) eF rfl rfl) rfl (bC 7 rfl 31 5 rfl rfl rfl (fun w hw=>aZ isAgg23 rfl ((aP hw 0).cell (Nat.zero_le _) (aH (hS.at_ 2 rfl) rfl))) rfl (bC 8 rfl 32 6 rfl rfl rfl (fun w hw=>bG (j:=1) underlying23 sizeOf25 rfl rfl rfl (by omega) rfl) rfl (bC 9 rfl 33 7 rfl rfl rfl (fun w hw=>bD (vs:=[_,_,_]) isAgg25 sizeOf25 rfl (aF.agree (aP hw 0) (Nat.zero_le _) (by assumption))) rfl ?_)))
 refine aL 10 rfl (dL W3.heap.size (.one u m) (.one (kK u m))) (dS) (dB [isV _] rfl xY (aS rfl) ⟨cH (aO 8 (aA rfl rfl rfl)),trivial⟩ (fun vs w' hb hh=>by have e:=cI (us:=[_]) hh;subst e;exact gO hb.size (tE _ _ _ _ _ hp2)) (aG rfl)) ?_
 refine aL 11 rfl (dL W3.heap.size (.two t n u m) (.two (kK t n) (kK u m))) (dS) (dB [dL _ (.one t n) (.one (kK t n)),dL _ (.one u m) (.one (kK u m))] rfl yC (aS rfl) ⟨cH (aO 4 (aA rfl rfl rfl)),cH (aO 9 (aA rfl rfl rfl)),trivial⟩ (fun vs w' hb hh=>tC hb.size hh) (aG rfl)) (dW ?_)
 intro W4 hbR hS'
 clear hS;have hS:=hS';clear hS'
 refine aJ (aJ (aJ (aJ ?_)))
 refine dH ?_;rintro _ ⟨v1,rfl,hn1⟩
 refine aJ (aJ (aJ (aJ ?_)))
 refine dH ?_;rintro _ ⟨v2,rfl,hn2⟩
 refine dH ?_;rintro _ ⟨v3,rfl,hn3⟩
 refine cQ (aU (i:=0) (vs:=[_,_,_,_,_,_]) (cs':=[_,_,_,_,_,_]) (O':=[_,_,_]) hS sizeOf44 rfl rfl rfl rfl rfl rfl rfl fun W5 hS=>aN (XF.blkN (XF.thenN (aM (aQ (aT (vs:=[_,_,_,_,_,_]) isAgg44 sizeOf44 rfl (aF.own (j:=0) (m:=6) (hS.at_ 0 rfl) rfl) rfl (aU (i:=1) (vs:=[_,_,_,_,_,_]) (cs':=[_,_,_,_,_,_]) (O':=[_,_,_]) hS sizeOf44 rfl rfl rfl rfl rfl rfl rfl fun W6 hS=>aN (XF.thenN (bL (XF.res (eM (vs:=[_,_,_,_,_,_]) results125 isAgg44 sizeOf44 rfl (aF.own (j:=0) (m:=6) (hS.at_ 1 rfl) rfl)) ?_))))))))))
 exact ⟨v3,rfl,(hn3.agree (hS.since 0 rfl)).mono hsz,hS.below⟩
theorem J1 (t n u m:Int) (a1 a2:Option Addr) (c1 c2 b off sc:Nat) (w:World) (hs1:S3 w b off ⟨t,n,a1,0,c1⟩) (hs2:S3 w b (off+3) ⟨u,m,a2,0,c2⟩) (hp1:bJ t n 0=true) (hp2:bJ u m 0=true)(fra fca:Option Addr) (frc fcc fpc fb fo:Nat) (f1 f2:WF) (x1 x2:PF) (hf6:W6 w fb fo f1) (hf7:W6 w fb (fo+6) f2) (hx1:PIs w t n f1 x1) (hx2:PIs w u m f2 x2)(gra gca:Option Addr) (grc gcc gpc gb go:Nat) (g1 g2:WF) (y1 y2:PF) (hg6:W6 w gb go g1) (hg7:W6 w gb (go+6) g2) (hy1:PIs w t n g1 y1) (hy2:PIs w u m g2 y2)(ht:Tabs w) :
  Calls prog 108 #[.agg #[.int .i64 5,.int .i64 0,.slice (some ⟨b,off,none⟩) 2 sc],.agg #[.bool false,.int .i64 0,.int .u64 0,.slice fra 0 frc,.slice fca 0 fcc,.slice (some ⟨fb,fo,none⟩) 2 fpc],.agg #[.bool false,.int .i64 0,.int .u64 0,.slice gra 0 grc,.slice gca 0 gcc,.slice (some ⟨gb,go,none⟩) 2 gpc]] w (jE (.two t n u m) (.two (dU t n x1 y1) (dU u m x2 y2)) w):=by
 refine cD (args:=[.agg #[.int .i64 5,.int .i64 0,.slice (some ⟨b,off,none⟩) 2 sc],.agg #[.bool false,.int .i64 0,.int .u64 0,.slice fra 0 frc,.slice fca 0 fcc,.slice (some ⟨fb,fo,none⟩) 2 fpc],.agg #[.bool false,.int .i64 0,.int .u64 0,.slice gra 0 grc,.slice gca 0 gcc,.slice (some ⟨gb,go,none⟩) 2 gpc]]) func108 rfl ntmps108 rfl ?_
 have hS:=St.start w
 refine aM (aQ (bY (cs:=[_,_,_]) hS rfl rfl rfl fun B1 W1 hS=>bY (cs:=[_,_,_,_,_,_]) hS rfl rfl rfl fun B2 W2 hS=>bY (cs:=[_,_,_,_,_,_]) hS rfl rfl rfl fun B3 W3 hS=>bE (cs:=[_,_,_,_,_,_]) hS zeroValue44 rfl rfl fun B4 W4 hS=>aN (XF.thenN (aM (aM (aQ (aK (o':=0) eQ rfl rfl rfl (aR isAgg4 rfl (aH (hS.at_ 2 rfl) rfl) rfl (aN (XF.thenN (bB rfl (fun hc=>absurd hc (by decide)) (fun hc=>?_))))))))))))
 skip
 refine bI (XF.thenN (aM (aM (aQ (aK (o':=0) eQ rfl rfl rfl (aR isAgg4 rfl (aH (hS.at_ 1 rfl) rfl) rfl (aN (XF.thenN (bB rfl (fun hc=>absurd hc (by decide)) (fun hc=>?_))))))))))
 skip
 refine bI (XF.thenN (aM (aQ (bE (cs:=[_,_,_,_,_,_]) hS zeroValue44 rfl rfl fun B5 W5 hS=>aN (XF.thenN (aM (aM (aQ (aK (o':=0) fL rfl rfl rfl (aR isAgg22 rfl (aH (hS.at_ 4 rfl) rfl) rfl (aN (XF.thenN (bK (aM (aQ (cY rfl rfl rfl (aC rfl rfl (aN (XF.thenN (bB rfl (fun hc=>absurd (of_decide_eq_true hc) (by omega)) (fun hc=>?_)))))))))))))))))))))
 have hc:=of_decide_eq_false hc
 refine aM (aQ (cY rfl rfl rfl (aC rfl rfl (aN (XF.thenN (bB rfl (fun hc=>absurd (of_decide_eq_true hc) (by omega)) (fun hc=>?_)))))))
 have hc:=of_decide_eq_false hc
 refine aM (aQ (cY rfl rfl rfl (aC rfl rfl (aN (XF.thenN (bB rfl (fun hc=>absurd (of_decide_eq_true hc) (by omega)) (fun hc=>?_)))))))
 have hc:=of_decide_eq_false hc
 refine aM (aQ (cY rfl rfl rfl (aC rfl rfl (aN (XF.thenN (bB rfl (fun hc=>?_) (fun hc=>absurd (of_decide_eq_false hc) (by omega))))))))
 have hc:=of_decide_eq_true hc
 have hsz:=hS.below.size
 have k1:=aF.agree hS.agree (Nat.zero_le _) hs1.cells
 have k2:=aF.agree hS.agree (Nat.zero_le _) hs2.cells
 have kf1:=aF.agree hS.agree (Nat.zero_le _) hf6.cells
 have kf2:=aF.agree hS.agree (Nat.zero_le _) hf7.cells
 have kg1:=aF.agree hS.agree (Nat.zero_le _) hg6.cells
 have kg2:=aF.agree hS.agree (Nat.zero_le _) hg7.cells
 refine xV cF 27 hS rfl rfl (by kernel_rfl) (by kernel_rfl) (by kernel_rfl) (fun d hd=>by cases hd) (cL 1 rfl 3 rfl rfl (fun w hw=>aV (o':=2) eF rfl rfl) rfl (bC 2 rfl 60 0 rfl rfl rfl (fun w hw=>aZ isAgg23 rfl ((aP hw 0).cell (Nat.zero_le _) (aH (hS.at_ 4 rfl) rfl))) rfl (bC 3 rfl 61 1 rfl rfl rfl (fun w hw=>bG (j:=0) underlying23 sizeOf25 rfl rfl rfl (by omega) (Nat.add_zero _)) rfl (bC 4 rfl 62 2 rfl rfl rfl (fun w hw=>bD (vs:=[_,_,_]) isAgg25 sizeOf25 rfl (aF.agree (aP hw 0) (Nat.zero_le _) (by assumption))) rfl (cL 5 rfl 4 rfl rfl (fun w hw=>aV (o':=5) dJ rfl rfl) rfl (bC 6 rfl 64 4 rfl rfl rfl (fun w hw=>aZ isAgg42 rfl ((aP hw 0).cell (Nat.zero_le _) (aH (hS.at_ 3 rfl) rfl))) rfl (bC 7 rfl 65 5 rfl rfl rfl (fun w hw=>bG (j:=0) underlying42 sizeOf44 rfl rfl rfl (by omega) (Nat.add_zero _)) rfl (bC 8 rfl 66 6 rfl rfl rfl (fun w hw=>bD (vs:=[_,_,_,_,_,_]) isAgg44 sizeOf44 rfl (aF.agree (aP hw 0) (Nat.zero_le _) (by assumption))) rfl (cL 9 rfl 5 rfl rfl (fun w hw=>aV (o':=5) dJ rfl rfl) rfl (bC 10 rfl 68 8 rfl rfl rfl (fun w hw=>aZ isAgg42 rfl ((aP hw 0).cell (Nat.zero_le _) (aH (hS.at_ 2 rfl) rfl))) rfl (bC 11 rfl 69 9 rfl rfl rfl (fun w hw=>bG (j:=0) underlying42 sizeOf44 rfl rfl rfl (by omega) (Nat.add_zero _)) rfl (bC 12 rfl 70 10 rfl rfl rfl (fun w hw=>bD (vs:=[_,_,_,_,_,_]) isAgg44 sizeOf44 rfl (aF.agree (aP hw 0) (Nat.zero_le _) (by assumption))) rfl ?_))))))))))))
 refine aL 13 rfl (dL W5.heap.size (.one t n) (.one (dU t n x1 y1))) (dS) (dB [isV _,isV _,isV _] rfl yA (aS rfl) ⟨cH (aO 3 (aA rfl rfl rfl)),cH (aO 7 (aA rfl rfl rfl)),cH (aO 11 (aA rfl rfl rfl)),trivial⟩ (fun vs w' hb hh=>by have e:=cI (us:=[_,_,_]) hh;subst e;exact gO hb.size (qR _ _ _ _ _ _ _ _ _ hp1 (hx1.below (hS.below.trans (hb.mono hS.below.size))) (hy1.below (hS.below.trans (hb.mono hS.below.size))) (ht.below (hS.below.trans (hb.mono hS.below.size))))) (aG rfl)) ?_
 refine cL 14 rfl 3 rfl rfl (fun w hw=>aV (o':=2) eF rfl rfl) rfl (bC 15 rfl 73 13 rfl rfl rfl (fun w hw=>aZ isAgg23 rfl ((aP hw 0).cell (Nat.zero_le _) (aH (hS.at_ 4 rfl) rfl))) rfl (bC 16 rfl 74 14 rfl rfl rfl (fun w hw=>bG (j:=1) underlying23 sizeOf25 rfl rfl rfl (by omega) rfl) rfl (bC 17 rfl 75 15 rfl rfl rfl (fun w hw=>bD (vs:=[_,_,_]) isAgg25 sizeOf25 rfl (aF.agree (aP hw 0) (Nat.zero_le _) (by assumption))) rfl (cL 18 rfl 4 rfl rfl (fun w hw=>aV (o':=5) dJ rfl rfl) rfl (bC 19 rfl 77 17 rfl rfl rfl (fun w hw=>aZ isAgg42 rfl ((aP hw 0).cell (Nat.zero_le _) (aH (hS.at_ 3 rfl) rfl))) rfl (bC 20 rfl 78 18 rfl rfl rfl (fun w hw=>bG (j:=1) underlying42 sizeOf44 rfl rfl rfl (by omega) rfl) rfl (bC 21 rfl 79 19 rfl rfl rfl (fun w hw=>bD (vs:=[_,_,_,_,_,_]) isAgg44 sizeOf44 rfl (aF.agree (aP hw 0) (Nat.zero_le _) (by assumption))) rfl (cL 22 rfl 5 rfl rfl (fun w hw=>aV (o':=5) dJ rfl rfl) rfl (bC 23 rfl 81 21 rfl rfl rfl (fun w hw=>aZ isAgg42 rfl ((aP hw 0).cell (Nat.zero_le _) (aH (hS.at_ 2 rfl) rfl))) rfl (bC 24 rfl 82 22 rfl rfl rfl (fun w hw=>bG (j:=1) underlying42 sizeOf44 rfl rfl rfl (by omega) rfl) rfl (bC 25 rfl 83 23 rfl rfl rfl (fun w hw=>bD (vs:=[_,_,_,_,_,_]) isAgg44 sizeOf44 rfl (aF.agree (aP hw 0) (Nat.zero_le _) (by assumption))) rfl ?_)))))))))))
 refine aL 26 rfl (dL W5.heap.size (.one u m) (.one (dU u m x2 y2))) (dS) (dB [isV _,isV _,isV _] rfl yA (aS rfl) ⟨cH (aO 16 (aA rfl rfl rfl)),cH (aO 20 (aA rfl rfl rfl)),cH (aO 24 (aA rfl rfl rfl)),trivial⟩ (fun vs w' hb hh=>by have e:=cI (us:=[_,_,_]) hh;subst e;exact gO hb.size (qR _ _ _ _ _ _ _ _ _ hp2 (hx2.below (hS.below.trans (hb.mono hS.below.size))) (hy2.below (hS.below.trans (hb.mono hS.below.size))) (ht.below (hS.below.trans (hb.mono hS.below.size))))) (aG rfl)) ?_
 refine aL 27 rfl (dL W5.heap.size (.two t n u m) (.two (dU t n x1 y1) (dU u m x2 y2))) (dS) (dB [dL _ (.one t n) (.one (dU t n x1 y1)),dL _ (.one u m) (.one (dU u m x2 y2))] rfl yC (aS rfl) ⟨cH (aO 12 (aA rfl rfl rfl)),cH (aO 25 (aA rfl rfl rfl)),trivial⟩ (fun vs w' hb hh=>tC hb.size hh) (aG rfl)) (dW ?_)
 intro W6 hbR hS'
 clear hS;have hS:=hS';clear hS'
 refine aJ (aJ (aJ (aJ (aJ (aJ (aJ (aJ (aJ (aJ (aJ (aJ ?_)))))))))))
 refine dH ?_;rintro _ ⟨v1,rfl,hn1⟩
 refine aJ (aJ (aJ (aJ (aJ (aJ (aJ (aJ (aJ (aJ (aJ (aJ ?_)))))))))))
 refine dH ?_;rintro _ ⟨v2,rfl,hn2⟩
 refine dH ?_;rintro _ ⟨v3,rfl,hn3⟩
 refine cQ (aU (i:=0) (vs:=[_,_,_,_,_,_]) (cs':=[_,_,_,_,_,_]) (O':=[_,_,_,_,_]) hS sizeOf44 rfl rfl rfl rfl rfl rfl rfl fun W7 hS=>aN (XF.blkN (XF.thenN (aM (aQ (aT (vs:=[_,_,_,_,_,_]) isAgg44 sizeOf44 rfl (aF.own (j:=0) (m:=6) (hS.at_ 0 rfl) rfl) rfl (aU (i:=1) (vs:=[_,_,_,_,_,_]) (cs':=[_,_,_,_,_,_]) (O':=[_,_,_,_,_]) hS sizeOf44 rfl rfl rfl rfl rfl rfl rfl fun W8 hS=>aN (XF.thenN (bL (XF.res (eM (vs:=[_,_,_,_,_,_]) results108 isAgg44 sizeOf44 rfl (aF.own (j:=0) (m:=6) (hS.at_ 1 rfl) rfl)) ?_))))))))))
 exact ⟨v3,rfl,(hn3.agree (hS.since 0 rfl)).mono hsz,hS.below⟩
end Go.Proofs.YtmgnkpibpjgncaaGreatDoor
namespace Go.Proofs.YtmgnkpibpjgncaaGreatDoor
open Go.Proofs.Tryz
open Go.RowKit
attribute [local go_sem ↓] Go.wp_at_zero Go.wp_at_succ
theorem Cw (t n:Int) (a:Option Addr) (l c0:Nat) (ht:t≠5) (w:World) :
  Calls prog 107 #[.agg #[.int .i64 t,.int .i64 n,.slice a l c0]] w fun e w'=>e = .returned (.agg #[.bool true,.int .i64 0,.int .u64 0,.slice none 0 0,.slice none 0 0,.slice none 0 0])∧Below w.heap.size w w':=wN t n a l c0 ht w
theorem Po (w:World) :
  Calls prog 136 #[.agg #[.bool true,.int .i64 0,.int .u64 0,.slice none 0 0,.slice none 0 0,.slice none 0 0],.agg #[.bool true,.int .i64 0,.int .u64 0,.slice none 0 0,.slice none 0 0,.slice none 0 0]] w fun e w'=>∃ blk,e = .returned (.agg #[.bool false,.int .i64 0,.int .u64 0,.slice none 0 0,.slice none 0 0,.slice (some ⟨blk,0,none⟩) 2 2])∧W6 w' blk 0 sG∧W6 w' blk 6 sG∧w.heap.size≤blk∧Below w.heap.size w w':=Mq sG sG w
set_option maxHeartbeats 8000000 in
theorem J2 (d:Nat) (sa:Option Addr) (sc:Nat) (p q:SV) (w:World) (hsp:SIn w (d+1) (.mk ⟨5,0,sa,2,sc⟩ [p,q])) (hp:p.pl=true) (hq:q.pl=true) :
  Calls prog 107 #[.agg #[.int .i64 5,.int .i64 0,.slice sa 2 sc]] w (jE (.two p.f.tag p.f.dim q.f.tag q.f.dim) (.two dC dC) w):=by
 obtain ⟨_,b,off,ha,hb,hp3,hq3,_,_⟩:=hsp.two
 obtain rfl:sa=some ⟨b,off,none⟩:=ha
 obtain ⟨⟨pt,pn,pa,pl,pc⟩,pps⟩:=p
 obtain ⟨⟨qt,qn,qa,ql,qc⟩,qps⟩:=q
 have hp5:=Lib.hid (xL (show bJ pt pn pl=true from hp));have hq5:=Lib.hid (xL (show bJ qt qn ql=true from hq))
 obtain ⟨t0,t1⟩:=mH w #[.int .i64 5,.int .i64 0,.slice (some ⟨b,off,none⟩) 2 sc] #[.bool false,.int .i64 0,.int .u64 0,.slice none 0 0,.slice none 0 0,.slice none 0 0] 25 44
 have T0:=Lib.hid t0;have T1:=Lib.hid t1
 have hB:=Lib.hid (N6 w #[.int .i64 5,.int .i64 0,.slice (some ⟨b,off,none⟩) 2 sc] #[.bool false,.int .i64 0,.int .u64 0,.slice none 0 0,.slice none 0 0,.slice none 0 0] 25 44)
 have hsz:((w.alloc (.cells #[.int .i64 5,.int .i64 0,.slice (some ⟨b,off,none⟩) 2 sc] 25)).alloc (.cells #[.bool false,.int .i64 0,.int .u64 0,.slice none 0 0,.slice none 0 0,.slice none 0 0] 44)).heap.size=w.heap.size+1+1:=by simp
 have n1:¬ (w.heap.size+1=w.heap.size):=by omega
 have n2:¬ (w.heap.size+1=b):=by omega
 obtain ⟨W0,hW0⟩:∃ W,(w.alloc (.cells #[.int .i64 5,.int .i64 0,.slice (some ⟨b,off,none⟩) 2 sc] 25)).alloc (.cells #[.bool false,.int .i64 0,.int .u64 0,.slice none 0 0,.slice none 0 0,.slice none 0 0] 44)=W:=⟨_,rfl⟩
 rw [hW0] at hB T0 T1 hsz
 have HSZ:=Lib.hid hsz
 have HP3:=Lib.hid (S3.below hp3 hB.out);have HQ3:=Lib.hid (S3.below hq3 hB.out)
 obtain ⟨x0,x1,x2⟩:=fX T0.out
 obtain ⟨y0,y1,y2,y3,y4,y5⟩:=eW T1.out
 have EN:Hid (∀ W:World,Below W0.heap.size W0 W→W.cell? ⟨w.heap.size,2,none⟩=some (.slice (some ⟨b,off,none⟩) 2 sc)∧W.cell? ⟨b,off,none⟩=some (.int .i64 pt)∧W.cell? ⟨b,off+1,none⟩=some (.int .i64 pn)∧W.cell? ⟨b,off+2,none⟩=some (.slice pa pl pc)∧W.cell? ⟨b,off+3,none⟩=some (.int .i64 qt)∧W.cell? ⟨b,off+4,none⟩=some (.int .i64 qn)∧W.cell? ⟨b,off+5,none⟩=some (.slice qa ql qc)):=fun W h=>by
  obtain ⟨a0,a1,a2⟩:=fX (cS T0.out h)
  obtain ⟨d0,d1,d2⟩:=HP3.out.below h;obtain ⟨e0,e1,e2⟩:=HQ3.out.below h
  exact ⟨a2,d0,d1,d2,e0,e1,e2⟩
 obtain ⟨m0,m1,m2,m3,m4,m5,m6⟩:=EN.out _ (Below.refl _ _)
 clear hsp hp hq hp3 hq3 t0 t1 hsz hb
 have D0:Hid (Below W0.heap.size W0 W0.drew):=(Below.refl _ _).drew
 go_enter func107,ntmps107
 go_wp2_with fail
 go_region_held3 (fun w'=>w'.cell? ⟨w.heap.size,2,none⟩=some (.slice (some ⟨b,off,none⟩) 2 sc)∧w'.cell? ⟨b,off,none⟩=some (.int .i64 pt)∧w'.cell? ⟨b,off+1,none⟩=some (.int .i64 pn)∧w'.cell? ⟨b,off+2,none⟩=some (.slice pa pl pc)∧w'.cell? ⟨b,off+3,none⟩=some (.int .i64 qt)∧w'.cell? ⟨b,off+4,none⟩=some (.int .i64 qn)∧w'.cell? ⟨b,off+5,none⟩=some (.slice qa ql qc))
  (first | (simp only [World.cell?_setCell_far,ne_eq,n1,n2,not_false_eq_true];with_reducible exact EN.out _ D3.out) | with_reducible exact EN.out _ D0.out | with_reducible exact EN.out _ D1.out | with_reducible exact EN.out _ D2.out | with_reducible exact EN.out _ D3.out | with_reducible exact EN.out _ (Below.refl _ _) | fail)
  (first | (go_at_call 107;with_reducible refine (Cw pt pn pa pl pc hp5.out W0.drew).mono ?_;rintro e z1 ⟨rfl,hz1⟩;have D1:=Lib.hid (D0.out.trans (hz1.mono D0.out.size))) | (go_at_call 107;with_reducible refine (Cw qt qn qa ql qc hq5.out z1).mono ?_;rintro e z2 ⟨rfl,hz2⟩;have D2:=Lib.hid (D1.out.trans (hz2.mono D1.out.size))) | (go_at_call 136;with_reducible refine (Po z2).mono ?_;rintro e z3 ⟨blk,rfl,hx6,hy6,hge,hz3⟩;have D3:=Lib.hid (D2.out.trans (hz3.mono D2.out.size));have XO:=Lib.hid (cS T1.out D3.out);obtain ⟨o0,o1,o2,o3,o4,o5⟩:=eW XO.out;have f0:=eA XO.out 0;have f1:=eA XO.out 1;have f2:=eA XO.out 2;have f3:=eA XO.out 3;have f4:=eA XO.out 4;have f5:=eA XO.out 5) | fail)
 all_goals
  have NS:=Lib.hid (Mr (v0:=.bool false) (v1:=.int .i64 0) (v2:=.int .u64 0) (v3:=.slice none 0 0) (v4:=.slice none 0 0) (v5:=.slice (some ⟨blk,0,none⟩) 2 2) XO.out)
  obtain ⟨s0,s1,s2,s3,s4,s5⟩:=eW NS.out
  have hle:=D2.out.size
  have hge2:w.heap.size+1+1≤blk:=by have:=HSZ.out;omega
  have HX6:=Lib.hid hx6;have HY6:=Lib.hid hy6
  have HB3:=Lib.hid (hB.out.trans (D3.out.mono hB.out.size))
  clear hx6 hy6 f0 f1 f2 f3 f4 f5 o0 o1 o2 o3 o4 o5
  go_wp2_with fail
  refine bodyPost_ret (v:=.agg #[.bool false,.int .i64 0,.int .u64 0,.slice none 0 0,.slice none 0 0,.slice (some ⟨blk,0,none⟩) 2 2]) ?_ rfl ⟨zC blk,rfl,?_,?_⟩
  rotate_left
  ·exact (zE (HX6.out.above (n:=w.heap.size+1+1) hge2 (tA _ _ _ _ _ _ (jW.refl _ _) (by omega))) (HY6.out.above (n:=w.heap.size+1+1) hge2 (tA _ _ _ _ _ _ (jW.refl _ _) (by omega))) hge2 (oF _ _ _ _) (oF _ _ _ _)).mono (by omega)
  ·exact zD _ _ _ _ _ _ HB3.out (by omega)
  ·simp [results,results107,go_sem,s0,s1,s2,s3,s4,s5]
end Go.Proofs.YtmgnkpibpjgncaaGreatDoor
namespace Go.Proofs.YtmgnkpibpjgncaaGreatDoor
open Go.Proofs.Tryz
open Go Go.RowKit
theorem PIs.pw {w:World} {t n:Int} {f:WF} {x:PF} (h:PIs w t n f x):fE t n f=true:=by
 obtain ⟨ez,ec,eg,er,ex⟩:=lU h.pf
 have hrl:=h.at_.rl;have hcl:=h.at_.cl;have hpl:=h.pl
 rw [er] at hrl;rw [ex] at hcl
 unfold fE iQ iP
 rw [ez,ec,eg,er,ex,hpl,← hrl,← hcl]
 cases h.ok with
 | zero=>simp [dC]
 | bool ht=>rw [ht];simp [pC]
 | cost c ht h0 h1=>rw [ht];simp [pC,h0,h1]
 | facts m g rows ht hn hg=>rw [ht,hn];simp [pF,sV hg]
 | cells m cs ht hn hv=>rw [ht,hn];simp [pX,hv.chk]
theorem SIs.sin {w:World} {S:PS} {f:SF} (h:SIs w S f) (hok:S.ok):∃ s:SV,s.f=f∧SIn w 2 s∧dE s=0:=by
 cases S with
 | one t n =>
  obtain ⟨a,c,rfl⟩:=h
  exact ⟨.mk ⟨t,n,a,0,c⟩ [],rfl,⟨rfl,.inl rfl,by simp⟩,by
   show (if bJ t n 0=true then (0:Int) else _)=0
   rw [if_pos (show bJ t n 0=true from hok)]⟩
 | two t n u m =>
  obtain ⟨b,off,c,a1,c1,a2,c2,rfl,h1,h2⟩:=h
  refine ⟨.mk ⟨5,0,some ⟨b,off,none⟩,2,c⟩ [.mk ⟨t,n,a1,0,c1⟩ [],.mk ⟨u,m,a2,0,c2⟩ []],rfl,⟨rfl,.inr ⟨b,off,rfl,fun i p hi=>?_⟩,?_⟩,?_⟩
  ·match i,hi with
   | 0,hi=>simp at hi;subst hi;simpa [SV.f] using h1
   | 1,hi=>simp at hi;subst hi;simpa [SV.f] using h2
  ·intro p hp
   simp at hp
   rcases hp with rfl | rfl<;>exact ⟨rfl,.inl rfl,by simp⟩
  ·have e1:SV.pl (.mk ⟨t,n,a1,0,c1⟩ [])=true:=hok.1
   have e2:SV.pl (.mk ⟨u,m,a2,0,c2⟩ [])=true:=hok.2
   simp only [dE]
   rw [if_neg (by simp [bJ]),if_pos ⟨trivial,trivial,rfl,by simp [e1,e2]⟩]
theorem XIs.two {w:World} {t n u m:Int} {f:WF} {a b:PF} (h:XIs w (.two t n u m) f (.two a b)):∃ (ra ca:Option Addr) (rc cc pc fb fo:Nat) (f1 f2:WF),f=⟨false,0,0,ra,0,rc,[],ca,0,cc,[],some ⟨fb,fo,none⟩,2,pc⟩∧W6 w fb fo f1∧W6 w fb (fo+6) f2∧PIs w t n f1 a∧PIs w u m f2 b:=by
 obtain ⟨h1,h2,h3,h4,blk,off,g,k,h5,h6,h7,h8,h9⟩:=h
 obtain ⟨z,c,gg,ra,rl,rc,rows,ca,cl,cc,cells,pa,pl,pc⟩:=f
 simp only [WF.pf,pC,PF.mk.injEq] at h1
 obtain ⟨rfl,rfl,rfl,rfl,rfl⟩:=h1
 dsimp only at h2 h3 h4 h5
 subst h2;subst h3;subst h4;subst h5
 exact ⟨ra,ca,rc,cc,pc,blk,off,g,k,rfl,h6,h7,h8,h9⟩
theorem rR {w:World} {t n u m:Int} {ra ca:Option Addr} {rc cc pc fb fo:Nat} {f1 f2:WF} {a b:PF} (h6:W6 w fb fo f1) (h7:W6 w fb (fo+6) f2) (h8:PIs w t n f1 a) (h9:PIs w u m f2 b) :
  WIn w 2 (.mk ⟨false,0,0,ra,0,rc,[],ca,0,cc,[],some ⟨fb,fo,none⟩,2,pc⟩ [.mk f1 [],.mk f2 []]):=by
 refine ⟨⟨.inl rfl,rfl,(by show (0:Nat) < _;decide),(fun r hr=>by cases hr),.inl rfl,rfl,(fun c hc=>by cases hc),(by show (0:Nat)≤_;decide)⟩,rfl,.inr ⟨fb,fo,rfl,fun i p hi=>?_⟩,fun p hp=>?_⟩
 ·match i,hi with
  | 0,hi=>simp at hi;subst hi;simpa [WV.f] using h6
  | 1,hi=>simp at hi;subst hi;simpa [WV.f] using h7
 ·simp at hp
  rcases hp with rfl | rfl
  ·exact ⟨h8.at_,h8.pl.symm,.inl rfl,by simp⟩
  ·exact ⟨h9.at_,h9.pl.symm,.inl rfl,by simp⟩
theorem zG {w:World} {t n u m:Int} {ra ca:Option Addr} {a1 a2:Option Addr} {c1 c2 rc cc pc fb fo:Nat} {f1 f2:WF} {a b:PF} (h8:PIs w t n f1 a) (h9:PIs w u m f2 b) :
  gW (.mk ⟨t,n,a1,0,c1⟩ []) (.mk ⟨u,m,a2,0,c2⟩ []) ⟨false,0,0,ra,0,rc,[],ca,0,cc,[],some ⟨fb,fo,none⟩,2,pc⟩ [.mk f1 [],.mk f2 []]=true:=by
 have e1:fE t n f1=true:=h8.pw
 have e2:fE u m f2=true:=h9.pw
 simp [gW,iQ,iP,pwAt,SV.f,WV.f,e1,e2]
section
variable {w:World} {S:PS} {sf:SF} {f g:WF} {x y:PX}
theorem Eo {t n u m:Int} {b off sc:Nat} {a1 a2:Option Addr} {c1 c2:Nat} (h1:S3 w b off ⟨t,n,a1,0,c1⟩) (h2:S3 w b (off+3) ⟨u,m,a2,0,c2⟩):SIn w 2 (.mk ⟨5,0,some ⟨b,off,none⟩,2,sc⟩ [.mk ⟨t,n,a1,0,c1⟩ [],.mk ⟨u,m,a2,0,c2⟩ []]):=by
 refine ⟨rfl,.inr ⟨b,off,rfl,fun i p hi=>?_⟩,?_⟩
 ·match i,hi with
  | 0,hi=>simp at hi;subst hi;simpa [SV.f] using h1
  | 1,hi=>simp at hi;subst hi;simpa [SV.f] using h2
 ·intro p hp
  simp at hp
  rcases hp with rfl | rfl<;>exact ⟨rfl,.inl rfl,by simp⟩
theorem isA_ok (hs:SIs w S sf) (hok:S.ok) (hx:XIs w S f x):Calls prog 103 #[sf.val,f.val] w fun e w'=>e = .returned (.bool true)∧Below w.heap.size w w':=by
 cases S<;>cases x<;>first | exact hx.elim | skip
 ·obtain ⟨a,c,rfl⟩:=hs
  exact mN _ _ _ _ _ _ hok (Nat.zero_le _) w (PIs.at_ hx) true (PIs.pw hx)
 ·obtain ⟨b,off,c,a1,c1,a2,c2,rfl,h1,h2⟩:=hs
  obtain ⟨ra,ca,rc,cc,pc,fb,fo,f1,f2,rfl,h6,h7,h8,h9⟩:=hx.two
  exact Cu 1 _ _ _ _ _ _ w (Eo h1 h2) hok.1 hok.2 1 (rR h6 h7 h8 h9) (fun _ _=>Nat.zero_le _) true (zG h8 h9)
theorem vV (hs:SIs w S sf) (hok:S.ok):Calls prog 29 #[sf.val] w fun e w'=>e = .returned (.int .i64 0)∧Below w.heap.size w w':=by
 obtain ⟨s,rfl,h1,h2⟩:=hs.sin hok
 exact vM 2 s 0 w h1 h2
theorem wExt_is (hs:SIs w S sf) (hok:S.ok) (hx:XIs w S f x) (hy:XIs w S g y) (ht:Tabs w):Calls prog 148 #[sf.val,f.val,g.val] w (jE S (kL S x y) w):=by
 cases S<;>cases x<;>cases y<;>first | exact hx.elim | exact hy.elim | skip
 ·obtain ⟨a,c,rfl⟩:=hs
  exact tD _ _ _ _ _ _ _ _ _ hok hx hy ht
 ·obtain ⟨b,off,c,a1,c1,a2,c2,rfl,h1,h2⟩:=hs
  obtain ⟨ra,ca,rc,cc,pc,fb,fo,f1,f2,rfl,h6,h7,h8,h9⟩:=hx.two
  obtain ⟨ra',ca',rc',cc',pc',gb,go,g1,g2,rfl,h6',h7',h8',h9'⟩:=hy.two
  exact Pk _ _ _ _ _ _ _ _ _ _ _ _ h1 h2 hok.1 hok.2 _ _ _ _ _ _ _ _ _ _ _ h6 h7 h8 h9 _ _ _ _ _ _ _ _ _ _ _ h6' h7' h8' h9' ht
theorem oneA_ok (hs:SIs w S sf) (hok:S.ok):Calls prog 125 #[sf.val] w (jE S (oE S) w):=by
 cases S with
 | one t n =>
  obtain ⟨a,c,rfl⟩:=hs
  exact tE _ _ _ _ _ hok
 | two t n u m =>
  obtain ⟨b,off,c,a1,c1,a2,c2,rfl,h1,h2⟩:=hs
  exact Pn _ _ _ _ _ _ _ _ _ _ _ _ h1 h2 hok.1 hok.2
theorem G9 (hs:SIs w S sf) (hok:S.ok):Calls prog 107 #[sf.val] w (jE S (bW S) w):=by
 cases S with
 | one t n =>
  obtain ⟨a,c,rfl⟩:=hs
  refine (wN t n a 0 c (xL hok) w).mono ?_
  rintro e w' ⟨rfl,hb⟩
  exact ⟨sG,rfl,oF _ _ _ _,hb⟩
 | two t n u m =>
  obtain ⟨b,off,c,a1,c1,a2,c2,rfl,h1,h2⟩:=hs
  exact J2 1 _ _ _ _ w (Eo h1 h2) hok.1 hok.2
end
theorem Mv {w:World} {base:Nat} {v:Value} {g h:WF} (hr:w.ownsRow base 44 6 v 2 (g.six++h.six)):∃ b c,v = .slice (some ⟨b,0,none⟩) 2 c∧base≤b∧W6 w b 0 g∧W6 w b 6 h:=by
 rcases hr.2 with ⟨_,h2⟩ | ⟨b,cap,cur,rfl,hb,hh,h1,h2,h3,h4⟩
 ·cases h2
 ·have key:∀ i v,(g.six++h.six)[i]?=some v→w.cell? ⟨b,i,none⟩=some v:=fun i v hi=>by
   rw [← h4,List.getElem?_take] at hi
   split at hi
   ·unfold World.cell?;simp only [hh];simpa using hi
   ·cases hi
  exact ⟨b,cap,rfl,hb,⟨key 0 _ rfl,key 1 _ rfl,key 2 _ rfl,key 3 _ rfl,key 4 _ rfl,key 5 _ rfl⟩,⟨key 6 _ rfl,key 7 _ rfl,key 8 _ rfl,key 9 _ rfl,key 10 _ rfl,key 11 _ rfl⟩⟩
theorem J3 {w W:World} {t n u m:Int} {ra ca:Option Addr} {rc cc lo1 lo2:Nat} {v:Value} {g h:WF} {x y:PF} (hb:Below w.heap.size w W) (hr:W.ownsRow w.heap.size 44 6 v 2 (g.six++h.six)) (h1:w.heap.size≤lo1) (k1:PNew lo1 W t n g x) (h2:w.heap.size≤lo2) (k2:PNew lo2 W u m h y) :
  jE (.two t n u m) (.two x y) w (.returned (.agg (List.toArray [.bool false,.int .i64 0,.int .u64 0,.slice ra 0 rc,.slice ca 0 cc,v]))) W:=by
 obtain ⟨b,c,rfl,hb0,h6,h7⟩:=Mv hr
 exact ⟨⟨false,0,0,ra,0,rc,[],ca,0,cc,[],some ⟨b,0,none⟩,2,c⟩,rfl,⟨rfl,rfl,rfl,rfl,b,g,h,rfl,hb0,h6,h7,k1.mono h1,k2.mono h2⟩,hb⟩
theorem Ha (t n u m0:Int) (w:World) (fra fca:Option Addr) (frc fcc fpc fb fo:Nat) (f1 f2:WF) (x1 x2:PF) (hf6:W6 w fb fo f1) (hf7:W6 w fb (fo+6) f2) (hx1:PIs w t n f1 x1) (hx2:PIs w u m0 f2 x2) :
  Calls prog 137 #[.agg #[.bool false,.int .i64 0,.int .u64 0,.slice fra 0 frc,.slice fca 0 fcc,.slice (some ⟨fb,fo,none⟩) 2 fpc]] w (jE (.two t n u m0) (.two x1 x2) w):=by
 refine cD (args:=[.agg #[.bool false,.int .i64 0,.int .u64 0,.slice fra 0 frc,.slice fca 0 fcc,.slice (some ⟨fb,fo,none⟩) 2 fpc]]) func137 rfl ntmps137 rfl ?_
 have hS:=St.start w
 refine aM (aQ (bY (cs:=[_,_,_,_,_,_]) hS rfl rfl rfl fun B1 W1 hS=>bE (cs:=[_,_,_,_,_,_]) hS zeroValue44 rfl rfl fun B2 W2 hS=>aN (XF.thenN (aM (aQ (aK (o':=2) gK rfl rfl rfl (aK (o':=3) xE rfl rfl rfl (aR isAgg38 rfl (aH (hS.at_ 1 rfl) rfl) rfl (cN (vs:=[_]) hS Qy rfl (yL _ _ [] _ (by simp) (.inl rfl) 0 rfl) rfl ?_)))))))))
 rintro e W3 ⟨v,rfl,hown,hb⟩
 refine ⟨_,rfl,hb,fun hS'=>?_⟩
 clear hS;have hS:=hS';clear hS' hb
 obtain ⟨ra1,rc1,rfl,_,_⟩:=(wO (rows:=[]) hown).2
 clear hown
 refine aK (o':=2) gK rfl rfl rfl (aK (o':=3) xE rfl rfl rfl (dN (i:=1) (cs':=[_,_,_,_,_,_]) (O':=[_,_]) hS sizeOf38 rfl rfl rfl rfl rfl rfl rfl fun W4 hS=>aN (XF.thenN (aM (aQ (aK (o':=4) eV rfl rfl rfl (aR isAgg41 rfl (aH (hS.at_ 1 rfl) rfl) rfl (cN (vs:=[_]) hS Qz rfl (Cv _ _ [] _ (by simp) (.inl rfl) 0 rfl) rfl ?_))))))))
 rintro e W5 ⟨ca1,cc1,rfl,_,_,hb⟩
 refine ⟨_,rfl,hb,fun hS'=>?_⟩
 clear hS;have hS:=hS';clear hS' hb
 refine aK (o':=4) eV rfl rfl rfl (dN (i:=1) (cs':=[_,_,_,_,_,_]) (O':=[_,_]) hS sizeOf41 rfl rfl rfl rfl rfl rfl rfl fun W6 hS=>aN (XF.thenN (aM (aQ (aC rfl rfl (aN (XF.thenN (aM (aM ?_)))))))))
 have hS:=(hS.newG 44 6).clear
 refine aQ (aK (o':=5) dJ rfl rfl rfl (aR isAgg42 rfl (aH (hS.at_ 1 rfl) rfl) rfl (cC underlying42 rfl rfl (aE rfl rfl (aN (XF.thenN (bK (dQ (fun m l W=>(m=2∧l=[(1,.pointer (some ⟨B1,0,none⟩)),(2,.pointer (some ⟨B2,0,none⟩)),(3,.slice none 0 0),(17,.slice (some ⟨fb,fo,none⟩) 2 fpc),(18,.int .i64 2),(19,.int .i64 0)]∧St w [(B2,[.bool false,.int .i64 0,.int .u64 0,.slice none 0 0,.slice none 0 0,.slice none 0 0],44),(B1,[.bool false,.int .i64 0,.int .u64 0,.slice ra1 0 rc1,.slice ca1 0 cc1,.slice (some ⟨fb,fo,none⟩) 2 fpc],44)] [⟨.slice none 0 0,0,[],44,6⟩] [] W)∨(∃ v1 lo1 A1 h1,m=1∧l=[(1,.pointer (some ⟨B1,0,none⟩)),(2,.pointer (some ⟨B2,0,none⟩)),(3,v1),(17,.slice (some ⟨fb,fo,none⟩) 2 fpc),(18,.int .i64 2),(19,.int .i64 1)]∧w.heap.size≤lo1∧PNew lo1 A1 t n h1 x1∧St w [(B2,[.bool false,.int .i64 0,.int .u64 0,.slice none 0 0,.slice none 0 0,.slice none 0 0],44),(B1,[.bool false,.int .i64 0,.int .u64 0,.slice ra1 0 rc1,.slice ca1 0 cc1,.slice (some ⟨fb,fo,none⟩) 2 fpc],44)] [⟨v1,1,h1.six,44,6⟩] [(lo1,A1)] W)∨(∃ v2 lo1 A1 h1 lo2 A2 h2,m=0∧l=[(1,.pointer (some ⟨B1,0,none⟩)),(2,.pointer (some ⟨B2,0,none⟩)),(3,v2),(17,.slice (some ⟨fb,fo,none⟩) 2 fpc),(18,.int .i64 2),(19,.int .i64 2)]∧w.heap.size≤lo1∧PNew lo1 A1 t n h1 x1∧w.heap.size≤lo2∧PNew lo2 A2 u m0 h2 x2∧St w [(B2,[.bool false,.int .i64 0,.int .u64 0,.slice none 0 0,.slice none 0 0,.slice none 0 0],44),(B1,[.bool false,.int .i64 0,.int .u64 0,.slice ra1 0 rc1,.slice ca1 0 cc1,.slice (some ⟨fb,fo,none⟩) 2 fpc],44)] [⟨v2,2,h1.six++h2.six,44,6⟩] [(lo2,A2),(lo1,A1)] W)) (2) ([(1,_),(2,_),(3,_),(17,_),(18,_),(19,_)]) ⟨rfl,rfl,rfl,rfl,rfl,rfl,trivial⟩ (.inl ⟨rfl,rfl,hS⟩) ?_))))))))
 clear hS
 rintro m l W (⟨rfl,rfl,hS⟩ | ⟨v1,lo1,A1,h1,rfl,rfl,hlo1,hn1,hS⟩ | ⟨v2,lo1,A1,h1,lo2,A2,h2,rfl,rfl,hlo1,hn1,hlo2,hn2,hS⟩)
 ·have k1:=aF.agree hS.agree (Nat.zero_le _) hf6.cells
  refine aM (aQ (cK rfl rfl rfl (aN (XF.thenN (aM (bB rfl (fun hc=>?_) (fun hc=>absurd (of_decide_eq_false hc) (by omega))))))))
  have hc:=of_decide_eq_true hc
  refine bI (XF.thenN (aM (bK (aM (aQ (bZ (j:=0) underlying42 sizeOf44 rfl rfl rfl (by omega) (Nat.add_zero _) rfl (aT (vs:=[_,_,_,_,_,_]) isAgg44 sizeOf44 rfl (by assumption) rfl (bE (cs:=[_,_,_,_,_,_]) hS zeroValue44 rfl rfl fun B7 W7 hS=>aU (i:=0) (vs:=[_,_,_,_,_,_]) (cs':=[_,_,_,_,_,_]) (O':=[_,_,_]) hS sizeOf44 rfl rfl rfl rfl rfl rfl rfl fun W8 hS=>aN (XF.thenN (aQ (aE rfl rfl (aT (vs:=[_,_,_,_,_,_]) isAgg44 sizeOf44 rfl (aF.own (j:=0) (m:=6) (hS.at_ 0 rfl) rfl) rfl ?_))))))))))))
  have hsz:=hS.below.size
  refine cN (vs:=[_]) hS qD rfl (jZ t n f1 _ _ (hx1.below hS.below)) rfl ?_
  rintro e W9 ⟨h1,rfl,hn,hb⟩
  refine ⟨_,rfl,hb,fun hS'=>?_⟩
  clear hS;have hS:=hS';clear hS'
  refine cW (us:=[(0,.agg (List.toArray [_,_,_,_,_,_]))]) hS underlying42 sizeOf44 zeroValue44 rfl rfl rfl (xC _ _ _ _ _ _) rfl fun B10 W10 hS=>?_
  refine mB (i:=0) (news:=[_,_,_,_,_,_]) hS underlying42 Jb rfl rfl (by show 0 < 6;decide) rfl rfl rfl rfl rfl (aF.own (j:=0) (m:=6) (hS.at_ 0 rfl) rfl) rfl rfl (by dsimp only;simp only [maxLen];omega) (by dsimp only;show _ * 96≤_;omega) rfl fun v11 W11 hS=>?_
  refine aC rfl rfl (aN (XF.blkN (XF.thenN (aQ (cP rfl rfl (IntWalk.i64_in _ (by omega)) rfl (aE rfl rfl (aN ?_)))))))
  exact XF.round 1 [(1,_),(2,_),(3,_),(17,_),(18,_),(19,_)] (by omega) ⟨rfl,rfl,rfl,rfl,rfl,rfl,trivial⟩ (.inr (.inl ⟨_,_,_,h1,rfl,rfl,hsz,hn,hS.tail.tail⟩))
 ·have k1:=aF.agree hS.agree (Nat.zero_le _) hf7.cells
  refine aM (aQ (cK rfl rfl rfl (aN (XF.thenN (aM (bB rfl (fun hc=>?_) (fun hc=>absurd (of_decide_eq_false hc) (by omega))))))))
  have hc:=of_decide_eq_true hc
  refine bI (XF.thenN (aM (bK (aM (aQ (bZ (j:=1) underlying42 sizeOf44 rfl rfl rfl (by omega) rfl rfl (aT (vs:=[_,_,_,_,_,_]) isAgg44 sizeOf44 rfl (by assumption) rfl (bE (cs:=[_,_,_,_,_,_]) hS zeroValue44 rfl rfl fun B12 W12 hS=>aU (i:=0) (vs:=[_,_,_,_,_,_]) (cs':=[_,_,_,_,_,_]) (O':=[_,_,_]) hS sizeOf44 rfl rfl rfl rfl rfl rfl rfl fun W13 hS=>aN (XF.thenN (aQ (aE rfl rfl (aT (vs:=[_,_,_,_,_,_]) isAgg44 sizeOf44 rfl (aF.own (j:=0) (m:=6) (hS.at_ 0 rfl) rfl) rfl ?_))))))))))))
  have hsz:=hS.below.size
  refine cN (vs:=[_]) hS qD rfl (jZ u m0 f2 _ _ (hx2.below hS.below)) rfl ?_
  rintro e W14 ⟨h2,rfl,hn,hb⟩
  refine ⟨_,rfl,hb,fun hS'=>?_⟩
  clear hS;have hS:=hS';clear hS'
  refine cW (us:=[(0,.agg (List.toArray [_,_,_,_,_,_]))]) hS underlying42 sizeOf44 zeroValue44 rfl rfl rfl (xC _ _ _ _ _ _) rfl fun B15 W15 hS=>?_
  refine mB (i:=0) (news:=[_,_,_,_,_,_]) hS underlying42 Jb rfl rfl (by show 0 < 6;decide) rfl rfl rfl rfl rfl (aF.own (j:=0) (m:=6) (hS.at_ 0 rfl) rfl) rfl rfl (by dsimp only;simp only [maxLen];omega) (by dsimp only;show _ * 96≤_;omega) rfl fun v16 W16 hS=>?_
  refine aC rfl rfl (aN (XF.blkN (XF.thenN (aQ (cP rfl rfl (IntWalk.i64_in _ (by omega)) rfl (aE rfl rfl (aN ?_)))))))
  exact XF.round 0 [(1,_),(2,_),(3,_),(17,_),(18,_),(19,_)] (by omega) ⟨rfl,rfl,rfl,rfl,rfl,rfl,trivial⟩ (.inr (.inr ⟨_,_,_,h1,_,_,h2,rfl,rfl,hlo1,hn1,hsz,hn,hS.tail.tail⟩))
 ·skip
  refine aM (aQ (cK rfl rfl rfl (aN (XF.thenN (aM (bB rfl (fun hc=>absurd (of_decide_eq_true hc) (by omega)) (fun hc=>?_)))))))
  have hc:=of_decide_eq_false hc
  refine dP (XF.thenX (XF.thenX (XF.blkX (XF.thenN (aM ?_)))))
  obtain ⟨gb,gc,rfl,hgb,hg6,hg7⟩:=Mv (hS.row 0 rfl)
  clear hgb hg6 hg7
  refine aQ (aE rfl rfl (aK (o':=5) dJ rfl rfl rfl (dN (i:=1) (cs':=[_,_,_,_,_,_]) (O':=[_,_]) hS sizeOf42 rfl rfl rfl rfl rfl rfl rfl fun W17 hS=>aN (XF.thenN (aM (aQ (aT (vs:=[_,_,_,_,_,_]) isAgg44 sizeOf44 rfl (aF.own (j:=0) (m:=6) (hS.at_ 1 rfl) rfl) rfl (aU (i:=0) (vs:=[_,_,_,_,_,_]) (cs':=[_,_,_,_,_,_]) (O':=[_,_]) hS sizeOf44 rfl rfl rfl rfl rfl rfl rfl fun W18 hS=>aN (XF.thenN (bL (XF.res (eM (vs:=[_,_,_,_,_,_]) results137 isAgg44 sizeOf44 rfl (aF.own (j:=0) (m:=6) (hS.at_ 0 rfl) rfl)) ?_)))))))))))
  exact J3 hS.below (hS.row 0 rfl) hlo1 (hn1.agree (hS.since 1 rfl)) hlo2 (hn2.agree (hS.since 0 rfl))
section
variable {w:World} {S:PS} {sf:SF} {f g:WF} {x y:PX}
theorem Pp (hx:XIs w S f x):Calls prog 137 #[f.val] w (jE S x w):=by
 cases S<;>cases x<;>first | exact hx.elim | skip
 ·exact jZ _ _ _ _ _ hx
 ·obtain ⟨ra,ca,rc,cc,pc,fb,fo,f1,f2,rfl,h6,h7,h8,h9⟩:=hx.two
  exact Ha _ _ _ _ _ _ _ _ _ _ _ _ _ _ _ _ h6 h7 h8 h9
theorem Sv (hs:SIs w S sf) (hok:S.ok) (hx:XIs w S f x) (hy:XIs w S g y) (ht:Tabs w):Calls prog 108 #[sf.val,f.val,g.val] w (jE S (cB S x y) w):=by
 cases S<;>cases x<;>cases y<;>first | exact hx.elim | exact hy.elim | skip
 ·obtain ⟨a,c,rfl⟩:=hs
  exact qR _ _ _ _ _ _ _ _ _ hok hx hy ht
 ·obtain ⟨b,off,c,a1,c1,a2,c2,rfl,h1,h2⟩:=hs
  obtain ⟨ra,ca,rc,cc,pc,fb,fo,f1,f2,rfl,h6,h7,h8,h9⟩:=hx.two
  obtain ⟨ra',ca',rc',cc',pc',gb,go,g1,g2,rfl,h6',h7',h8',h9'⟩:=hy.two
  exact J1 _ _ _ _ _ _ _ _ _ _ _ _ h1 h2 hok.1 hok.2 _ _ _ _ _ _ _ _ _ _ _ h6 h7 h8 h9 _ _ _ _ _ _ _ _ _ _ _ h6' h7' h8' h9' ht
end
def sB (w:World) (a:Option Addr) (fs:List WF):Prop:=fs=[]∨∃ b off,a=some ⟨b,off,none⟩∧∀ (i:Nat) f,fs[i]?=some f→W6 w b (off+i * 6) f
theorem sB.at_ {w:World} {a:Option Addr} {fs:List WF} (h:sB w a fs) {i:Nat} {f:WF} (hi:fs[i]?=some f):∃ b off,a=some ⟨b,off,none⟩∧W6 w b (off+i * 6) f:=by
 rcases h with rfl | ⟨b,off,ha,hc⟩
 ·simp at hi
 ·exact ⟨b,off,ha,hc i f hi⟩
def XL (w:World) (S:PS) (fs:List WF) (xs:List PX):Prop:=fs.length=xs.length∧∀ (i:Nat) f x,fs[i]?=some f→xs[i]?=some x→XIs w S f x
theorem XL.at_ {w:World} {S:PS} {fs:List WF} {xs:List PX} (h:XL w S fs xs) {k:Nat} (hk:k < fs.length):∃ f x,fs[k]?=some f∧xs[k]?=some x∧XIs w S f x :=
 ⟨fs[k],xs[k]'(by have:=h.1;omega),by simp [hk],by have:=h.1;simp [show k < xs.length by omega],h.2 k _ _ (by simp [hk]) (by have:=h.1;simp [show k < xs.length by omega])⟩
def Hb (S:PS) (x:PX) (e0:Int) (w:World) (e:Ending) (w':World):Prop:=∃ f:WF,e = .returned (.tuple #[f.val,.int .i64 e0])∧gA w.heap.size w' S f x∧Below w.heap.size w w'
theorem Cx {α β:Type} {f:β→α→β} {b:β} {xs:List α} {k:Nat} {x:α} (h:xs[k]?=some x):(xs.take (k+1)).foldl f b=f ((xs.take k).foldl f b) x:=by
 rw [List.take_add_one,h];simp [List.foldl_append]
theorem sB.below {w w':World} {a:Option Addr} {fs:List WF} (h:sB w a fs) (hb:Below w.heap.size w w'):sB w' a fs:=by
 rcases h with h | ⟨b,off,rfl,hc⟩
 ·exact .inl h
 ·exact .inr ⟨b,off,rfl,fun i f hi=>(hc i f hi).below hb⟩
theorem XL.below {w w':World} {S:PS} {fs:List WF} {xs:List PX} (h:XL w S fs xs) (hb:Below w.heap.size w w'):XL w' S fs xs:=⟨h.1,fun i f x hf hx=>(h.2 i f x hf hx).below hb⟩
theorem uF (S:PS) (sf:SF) (w:World) (hs:SIs w S sf) (hok:S.ok) (a:Option Addr) (c m:Nat) (fs:List WF) (xs:List PX) (hr:sB w a fs) (hx:XL w S fs xs) (hm:fs.length=m) (hmx:m≤9223372036854775807) :
  Calls prog 77 #[sf.val,.slice a m c] w (fun e w'=>e = .returned (.int .i64 0)∧Below w.heap.size w w'):=by
 refine cD (args:=[sf.val,.slice a m c]) func77 rfl ntmps77 rfl ?_
 have hS:=St.start w
 refine aM (aQ (bY (cs:=[_,_,_]) hS rfl rfl rfl fun B1 W1 hS=>aC rfl rfl (aN (XF.thenN (aM (aM (aQ (aT (vs:=[_,_,_]) isAgg25 sizeOf25 rfl (aF.own (j:=0) (m:=3) (hS.at_ 0 rfl) rfl) rfl (cA (vs:=[_]) hS tQ rfl (vV (hs.below hS.below) hok) rfl fun W2 hS=>aC rfl rfl (aN (XF.thenN (aM (aQ (aE rfl rfl (dA rfl rfl rfl (aN (XF.thenN (bB rfl (fun hc=>absurd (of_decide_eq_true hc) (by omega)) (fun hc=>?_)))))))))))))))))))
 have hc:=of_decide_eq_false hc
 refine bI (XF.thenN (aM (aM (aQ (aE rfl rfl (cC underlying42 rfl rfl (aE rfl rfl (aN (XF.thenN (bK (dQ (fun q l W=>∃ k:Nat,k≤m∧q=m - k∧l=[(2,.pointer (some ⟨B1,0,none⟩)),(13,.slice a m c),(14,.int .i64 (m:Int)),(15,.int .i64 (k:Int))]∧St w [(B1,[.int .i64 sf.tag,.int .i64 sf.dim,.slice sf.a sf.len sf.cap],25)] [] [] W) (m - 0) ([(2,_),(13,_),(14,_),(15,_)]) ⟨rfl,rfl,rfl,rfl,trivial⟩ (⟨0,Nat.zero_le _,rfl,rfl,hS.clear⟩) ?_)))))))))))
 clear hS
 rintro q l W ⟨k,hkm,rfl,rfl,hS⟩
 refine aM (aQ (cK rfl rfl rfl (aN (XF.thenN (aM (bB rfl (fun hc=>?_) (fun hc=>?_)))))))
 ·have hc16:=of_decide_eq_true hc;clear hc
  have hk:k < m:=by omega
  obtain ⟨f,x,hf,hxk,hxx⟩:=hx.at_ (k:=k) (by omega)
  obtain ⟨b,off,rfl,h6⟩:=hr.at_ hf
  have k1:=aF.agree hS.agree (Nat.zero_le _) h6.cells
  refine bI (XF.thenN (aM (bK (aM (aQ (bZ  underlying42 sizeOf44 rfl rfl rfl (by omega) rfl rfl (aT (vs:=[_,_,_,_,_,_]) isAgg44 sizeOf44 rfl (by assumption) rfl (bE (cs:=[_,_,_,_,_,_]) hS zeroValue44 rfl rfl fun B3 W3 hS=>aU (i:=0) (vs:=[_,_,_,_,_,_]) (cs':=[_,_,_,_,_,_]) (O':=[_,_]) hS sizeOf44 rfl rfl rfl rfl rfl rfl rfl fun W4 hS=>aN (XF.thenN (aM (aQ (aT (vs:=[_,_,_]) isAgg25 sizeOf25 rfl (aF.own (j:=0) (m:=3) (hS.at_ 1 rfl) rfl) rfl (aT (vs:=[_,_,_,_,_,_]) isAgg44 sizeOf44 rfl (aF.own (j:=0) (m:=6) (hS.at_ 0 rfl) rfl) rfl (cA (vs:=[_,_]) hS qE rfl (isA_ok (hs.below hS.below) hok (hxx.below hS.below)) rfl fun W5 hS=>eS rfl rfl (aN (XF.thenN (Fu rfl (bI (XF.blkN (XF.thenN (aQ ?_)))))))))))))))))))))
  refine cP rfl rfl (IntWalk.i64_in _ (by omega)) rfl (aE rfl rfl (aN ?_))
  exact XF.round (m - (k+1)) [(2,_),(13,_),(14,_),(15,_)] (by omega) ⟨rfl,rfl,rfl,rfl,trivial⟩ ⟨k+1,by omega,rfl,rfl,hS.tail.clear⟩
 ·have hc16:=of_decide_eq_false hc;clear hc
  refine dP (XF.thenX (XF.thenX (XF.blkX (XF.thenN (aM (aQ (aC rfl rfl (aN (XF.thenN (bL (XF.res (cE results77 rfl) ?_)))))))))))
  exact ⟨rfl,hS.below⟩
theorem wP (S:PS) (sf:SF) (w:World) (hs:SIs w S sf) (hok:S.ok) (a:Option Addr) (c m:Nat) (fs:List WF) (xs:List PX) (hr:sB w a fs) (hx:XL w S fs xs) (hm:fs.length=m) (hmx:m≤9223372036854775807) (ht:Tabs w) :
  Calls prog 82 #[sf.val,.slice a m c] w (Hb S (xs.foldl (cB S) (bW S)) 0 w):=by
 refine cD (args:=[sf.val,.slice a m c]) func82 rfl ntmps82 rfl ?_
 have hS:=St.start w
 refine aM (aQ (bY (cs:=[_,_,_]) hS rfl rfl rfl fun B1 W1 hS=>bE (cs:=[_,_,_,_,_,_]) hS zeroValue44 rfl rfl fun B2 W2 hS=>aC rfl rfl (aN (XF.thenN (aM (aM (aQ (aT (vs:=[_,_,_]) isAgg25 sizeOf25 rfl (aF.own (j:=0) (m:=3) (hS.at_ 1 rfl) rfl) rfl (aE rfl rfl (cA (vs:=[_,_]) hS Dk rfl (uF S sf _ (hs.below hS.below) hok a c m fs xs (hr.below hS.below) (hx.below hS.below) hm hmx) rfl fun W3 hS=>aC rfl rfl (aN (XF.thenN (aM (aQ (aE rfl rfl (dA rfl rfl rfl (aN (XF.thenN (bB rfl (fun hc=>absurd (of_decide_eq_true hc) (by omega)) (fun hc=>?_))))))))))))))))))))
 have hc:=of_decide_eq_false hc
 refine bI (XF.thenN (aM (aQ (aT (vs:=[_,_,_]) isAgg25 sizeOf25 rfl (aF.own (j:=0) (m:=3) (hS.at_ 1 rfl) rfl) rfl ?_))))
 have hsz:=hS.below.size
 refine cN (vs:=[_]) hS Fx rfl (G9 (hs.below hS.below) hok) rfl ?_
 rintro e W4 ⟨f0,rfl,hn,hb⟩
 refine ⟨_,rfl,hb,fun hS'=>?_⟩
 clear hS;have hS:=hS';clear hS'
 refine bE (cs:=[_,_,_,_,_,_]) hS zeroValue44 rfl rfl fun B5 W5 hS=>aU (i:=0) (vs:=[_,_,_,_,_,_]) (cs':=[_,_,_,_,_,_]) (O':=[_,_,_]) hS sizeOf44 rfl rfl rfl rfl rfl rfl rfl fun W6 hS=>aN (XF.thenN (aM (aM (aQ (aE rfl rfl (cC underlying42 rfl rfl (aE rfl rfl (aN (XF.thenN (bK ?_))))))))))
 refine dQ (fun q l W=>∃ (k:Nat) (f0:WF) (lo:Nat) (A:World),k≤m∧q=m - k∧l=[(2,.pointer (some ⟨B1,0,none⟩)),(4,.pointer (some ⟨B2,0,none⟩)),(7,.pointer (some ⟨B5,0,none⟩)),(19,.slice a m c),(20,.int .i64 (m:Int)),(21,.int .i64 (k:Int))]∧w.heap.size≤lo∧gA lo A S f0 ((xs.take k).foldl (cB S) (bW S))∧St w [(B5,f0.six,44),(B2,[.bool false,.int .i64 0,.int .u64 0,.slice none 0 0,.slice none 0 0,.slice none 0 0],44),(B1,[.int .i64 sf.tag,.int .i64 sf.dim,.slice sf.a sf.len sf.cap],25)] [] [(lo,A)] W) (m - 0) ([(2,_),(4,_),(7,_),(19,_),(20,_),(21,_)]) ⟨rfl,rfl,rfl,rfl,rfl,rfl,trivial⟩ (⟨0,f0,_,_,Nat.zero_le _,rfl,rfl,hsz,hn,hS.keep [_] (fun q hq=>by simp at hq;subst hq;exact List.mem_cons_self)⟩) ?_
 clear hS
 rintro q l W ⟨k,f0,lo,A,hkm,rfl,rfl,hlo,hn0,hS⟩
 refine aM (aQ (cK rfl rfl rfl (aN (XF.thenN (aM (bB rfl (fun hc=>?_) (fun hc=>?_)))))))
 ·have hc22:=of_decide_eq_true hc;clear hc
  have hk:k < m:=by omega
  obtain ⟨f,x,hf,hxk,hxx⟩:=hx.at_ (k:=k) (by omega)
  obtain ⟨b,off,rfl,h6⟩:=hr.at_ hf
  have k1:=aF.agree hS.agree (Nat.zero_le _) h6.cells
  refine bI (XF.thenN (aM (bK (aM (aQ (bZ  underlying42 sizeOf44 rfl rfl rfl (by omega) rfl rfl (aT (vs:=[_,_,_,_,_,_]) isAgg44 sizeOf44 rfl (by assumption) rfl (bE (cs:=[_,_,_,_,_,_]) hS zeroValue44 rfl rfl fun B7 W7 hS=>aU (i:=0) (vs:=[_,_,_,_,_,_]) (cs':=[_,_,_,_,_,_]) (O':=[_,_,_,_]) hS sizeOf44 rfl rfl rfl rfl rfl rfl rfl fun W8 hS=>aN (XF.thenN (aQ (aT (vs:=[_,_,_]) isAgg25 sizeOf25 rfl (aF.own (j:=0) (m:=3) (hS.at_ 3 rfl) rfl) rfl (aT (vs:=[_,_,_,_,_,_]) isAgg44 sizeOf44 rfl (aF.own (j:=0) (m:=6) (hS.at_ 1 rfl) rfl) rfl (aT (vs:=[_,_,_,_,_,_]) isAgg44 sizeOf44 rfl (aF.own (j:=0) (m:=6) (hS.at_ 0 rfl) rfl) rfl ?_)))))))))))))
  have hsz2:=hS.below.size
  have hb0:=hS.below
  refine cN (vs:=[_,_,_]) hS yA rfl (Sv (hs.below hS.below) hok ((hn0.agree (hS.since 0 rfl)).is) (hxx.below hS.below) (ht.below hS.below)) rfl ?_
  rintro e W9 ⟨f2,rfl,hn2,hb⟩
  refine ⟨_,rfl,hb,fun hS'=>?_⟩
  clear hS;have hS:=hS';clear hS'
  refine aU (i:=1) (vs:=[_,_,_,_,_,_]) (cs':=[_,_,_,_,_,_]) (O':=[_,_,_,_]) hS sizeOf44 rfl rfl rfl rfl rfl rfl rfl fun W10 hS=>aN (XF.blkN (XF.thenN (aQ (cP rfl rfl (IntWalk.i64_in _ (by omega)) rfl (aE rfl rfl (aN ?_))))))
  exact XF.round (m - (k+1)) [(2,_),(4,_),(7,_),(19,_),(20,_),(21,_)] (by omega) ⟨rfl,rfl,rfl,rfl,rfl,rfl,trivial⟩ ⟨k+1,f2,_,_,by omega,rfl,rfl,hsz2,by rw [Cx hxk];exact hn2,hS.tail.keep [_] (fun q hq=>by simp at hq;subst hq;exact List.mem_cons_self)⟩
 ·have hc22:=of_decide_eq_false hc;clear hc
  refine dP (XF.thenX (XF.thenX (XF.blkX (XF.thenN (aM (aQ (aT (vs:=[_,_,_,_,_,_]) isAgg44 sizeOf44 rfl (aF.own (j:=0) (m:=6) (hS.at_ 0 rfl) rfl) rfl (aU (i:=1) (vs:=[_,_,_,_,_,_]) (cs':=[_,_,_,_,_,_]) (O':=[_,_,_]) hS sizeOf44 rfl rfl rfl rfl rfl rfl rfl fun W11 hS=>aC rfl rfl (aN (XF.thenN (bL (XF.res (iO (vs:=[_,_,_,_,_,_]) results82 isAgg44 sizeOf44 rfl (aF.own (j:=0) (m:=6) (hS.at_ 1 rfl) rfl) rfl) ?_))))))))))))
  have e1:xs.take k=xs:=List.take_of_length_le (by have:=hx.1;omega)
  rw [e1] at hn0
  exact ⟨f0,rfl,(hn0.agree (hS.since 0 rfl)).mono hlo,hS.below⟩
theorem XL.tail {w:World} {S:PS} {f:WF} {fs:List WF} {x:PX} {xs:List PX} (h:XL w S (f::fs) (x::xs)):XL w S fs xs :=
 ⟨by have:=h.1;simpa using this,fun i g y hg hy=>h.2 (i+1) g y (by simpa using hg) (by simpa using hy)⟩
theorem sB.tail {w:World} {a a':Option Addr} {f:WF} {fs:List WF} {m c:Nat} (h:sB w a (f::fs)) (hm:fs.length+1=m) (hmc:m≤c) (h1:c=1→a'=a) (h2:c≠1→a'=a.map (·.add (1 * 6))):sB w a' fs:=by
 by_cases hc:c=1
 ·exact .inl (List.eq_nil_of_length_eq_zero (by omega))
 ·rcases h with h | ⟨b,off,rfl,hh⟩
  ·cases h
  ·refine .inr ⟨b,off+6,by rw [h2 hc,Option.map_some,Addr.add_lit],fun i g hg=>?_⟩
   have:=hh (i+1) g (by simpa using hg)
   rwa [show off+(i+1) * 6=off+6+i * 6 by omega] at this
theorem J4 (S:PS) (sf:SF) (w:World) (hs:SIs w S sf) (hok:S.ok) (a:Option Addr) (c m:Nat) (f0:WF) (x0:PX) (ft:List WF) (xt:List PX) (hr:sB w a (f0::ft)) (hx:XL w S (f0::ft) (x0::xt)) (hm:ft.length+1=m) (hmc:m≤c) (hmx:m≤9223372036854775807) (ht:Tabs w) :
  Calls prog 126 #[sf.val,.slice a m c] w (Hb S (xt.foldl (kL S) x0) 0 w):=by
 refine cD (args:=[sf.val,.slice a m c]) func126 rfl ntmps126 rfl ?_
 have hS:=St.start w
 refine aM (aQ (bY (cs:=[_,_,_]) hS rfl rfl rfl fun B1 W1 hS=>bE (cs:=[_,_,_,_,_,_]) hS zeroValue44 rfl rfl fun B2 W2 hS=>aC rfl rfl (aN (XF.thenN (aM (aM (aQ (aT (vs:=[_,_,_]) isAgg25 sizeOf25 rfl (aF.own (j:=0) (m:=3) (hS.at_ 1 rfl) rfl) rfl (aE rfl rfl (cA (vs:=[_,_]) hS Dk rfl (uF S sf _ (hs.below hS.below) hok a c m _ _ (hr.below hS.below) (hx.below hS.below) (by simpa using hm) hmx) rfl fun W3 hS=>aC rfl rfl (aN (XF.thenN (aM (aQ (aE rfl rfl (dA rfl rfl rfl (aN (XF.thenN (bB rfl (fun hc=>absurd (of_decide_eq_true hc) (by omega)) (fun hc=>?_))))))))))))))))))))
 have hc:=of_decide_eq_false hc
 refine bI (XF.thenN (aM (aM (aQ (aE rfl rfl (cC underlying42 rfl rfl (cY rfl rfl rfl (aN (XF.thenN (bB rfl (fun hc=>absurd (of_decide_eq_true hc) (by omega)) (fun hc=>?_)))))))))))
 have hc:=of_decide_eq_false hc
 refine bI (XF.thenN (aM ?_))
 obtain ⟨b,off,rfl,h6⟩:=hr.at_ (i:=0) rfl
 have k0:aF W3 b off f0.six:=aF.agree hS.agree (Nat.zero_le _) (show W6 w b off f0 by simpa using h6).cells
 have hsz:=hS.below.size
 refine aQ (aE rfl rfl (bZ (j:=0) underlying42 sizeOf44 rfl rfl rfl (by omega) (Nat.add_zero _) rfl (aT (vs:=[_,_,_,_,_,_]) isAgg44 sizeOf44 rfl (by assumption) rfl (cN (vs:=[_]) hS qD rfl (Pp ((hx.2 0 f0 x0 rfl rfl).below hS.below)) rfl ?_))))
 rintro e W4 ⟨f1,rfl,hn,hb⟩
 refine ⟨_,rfl,hb,fun hS'=>?_⟩
 clear hS;have hS:=hS';clear hS'
 refine bE (cs:=[_,_,_,_,_,_]) hS zeroValue44 rfl rfl fun B5 W5 hS=>aU (i:=0) (vs:=[_,_,_,_,_,_]) (cs':=[_,_,_,_,_,_]) (O':=[_,_,_]) hS sizeOf44 rfl rfl rfl rfl rfl rfl rfl fun W6 hS=>aN (XF.thenN (aM (aM (aQ (aE rfl rfl (tM (j:=1) underlying42 sizeOf44 rfl rfl rfl (by omega) rfl ?_))))))
 intro ad7 hadE7 hadN7
 have hrt:=sB.tail hr hm hmc hadE7 hadN7
 have hxt:=XL.tail hx
 clear hadE7 hadN7
 refine cC underlying42 rfl rfl (aE rfl rfl (aN (XF.thenN (bK ?_))))
 refine dQ (fun q l W=>∃ (k:Nat) (g:WF) (lo:Nat) (A:World),k≤m - 1∧q=m - 1 - k∧l=[(2,.pointer (some ⟨B1,0,none⟩)),(4,.pointer (some ⟨B2,0,none⟩)),(7,.pointer (some ⟨B5,0,none⟩)),(27,.slice ad7 (m - 1) (c - 1)),(28,.int .i64 ((m - 1:Nat):Int)),(29,.int .i64 (k:Int))]∧w.heap.size≤lo∧gA lo A S g ((xt.take k).foldl (kL S) x0)∧St w [(B5,g.six,44),(B2,[.bool false,.int .i64 0,.int .u64 0,.slice none 0 0,.slice none 0 0,.slice none 0 0],44),(B1,[.int .i64 sf.tag,.int .i64 sf.dim,.slice sf.a sf.len sf.cap],25)] [] [(lo,A)] W) (m - 1 - 0) ([(2,_),(4,_),(7,_),(27,_),(28,_),(29,_)]) ⟨rfl,rfl,rfl,rfl,rfl,rfl,trivial⟩ (⟨0,f1,_,_,Nat.zero_le _,rfl,rfl,hsz,hn,hS.keep [_] (fun q hq=>by simp at hq;subst hq;exact List.mem_cons_self)⟩) ?_
 clear hS
 rintro q l W ⟨k,g,lo,A,hkm,rfl,rfl,hlo,hn0,hS⟩
 refine aM (aQ (cK rfl rfl rfl (aN (XF.thenN (aM (bB rfl (fun hc=>?_) (fun hc=>?_)))))))
 ·have hc30:=of_decide_eq_true hc;clear hc
  have hk:k < m - 1:=by omega
  obtain ⟨f,x,hf,hxk,hxx⟩:=hxt.at_ (k:=k) (by omega)
  obtain ⟨b2,off2,rfl,h62⟩:=hrt.at_ hf
  have k1:=aF.agree hS.agree (Nat.zero_le _) h62.cells
  refine bI (XF.thenN (aM (bK (aM (aQ (bZ  underlying42 sizeOf44 rfl rfl rfl (by omega) rfl rfl (aT (vs:=[_,_,_,_,_,_]) isAgg44 sizeOf44 rfl (by assumption) rfl (bE (cs:=[_,_,_,_,_,_]) hS zeroValue44 rfl rfl fun B8 W8 hS=>aU (i:=0) (vs:=[_,_,_,_,_,_]) (cs':=[_,_,_,_,_,_]) (O':=[_,_,_,_]) hS sizeOf44 rfl rfl rfl rfl rfl rfl rfl fun W9 hS=>aN (XF.thenN (aQ (aT (vs:=[_,_,_]) isAgg25 sizeOf25 rfl (aF.own (j:=0) (m:=3) (hS.at_ 3 rfl) rfl) rfl (aT (vs:=[_,_,_,_,_,_]) isAgg44 sizeOf44 rfl (aF.own (j:=0) (m:=6) (hS.at_ 1 rfl) rfl) rfl (aT (vs:=[_,_,_,_,_,_]) isAgg44 sizeOf44 rfl (aF.own (j:=0) (m:=6) (hS.at_ 0 rfl) rfl) rfl ?_)))))))))))))
  have hsz2:=hS.below.size
  refine cN (vs:=[_,_,_]) hS yB rfl (wExt_is (hs.below hS.below) hok ((hn0.agree (hS.since 0 rfl)).is) (hxx.below hS.below) (ht.below hS.below)) rfl ?_
  rintro e W10 ⟨f2,rfl,hn2,hb⟩
  refine ⟨_,rfl,hb,fun hS'=>?_⟩
  clear hS;have hS:=hS';clear hS'
  refine aU (i:=1) (vs:=[_,_,_,_,_,_]) (cs':=[_,_,_,_,_,_]) (O':=[_,_,_,_]) hS sizeOf44 rfl rfl rfl rfl rfl rfl rfl fun W11 hS=>aN (XF.blkN (XF.thenN (aQ (cP rfl rfl (IntWalk.i64_in _ (by omega)) rfl (aE rfl rfl (aN ?_))))))
  exact XF.round (m - 1 - (k+1)) [(2,_),(4,_),(7,_),(27,_),(28,_),(29,_)] (by omega) ⟨rfl,rfl,rfl,rfl,rfl,rfl,trivial⟩ ⟨k+1,f2,_,_,by omega,rfl,rfl,hsz2,by rw [Cx hxk];exact hn2,hS.tail.keep [_] (fun q hq=>by simp at hq;subst hq;exact List.mem_cons_self)⟩
 ·have hc30:=of_decide_eq_false hc;clear hc
  refine dP (XF.thenX (XF.thenX (XF.blkX (XF.thenN (aM (aQ (aT (vs:=[_,_,_,_,_,_]) isAgg44 sizeOf44 rfl (aF.own (j:=0) (m:=6) (hS.at_ 0 rfl) rfl) rfl (aU (i:=1) (vs:=[_,_,_,_,_,_]) (cs':=[_,_,_,_,_,_]) (O':=[_,_,_]) hS sizeOf44 rfl rfl rfl rfl rfl rfl rfl fun W12 hS=>aC rfl rfl (aN (XF.thenN (bL (XF.res (iO (vs:=[_,_,_,_,_,_]) results126 isAgg44 sizeOf44 rfl (aF.own (j:=0) (m:=6) (hS.at_ 1 rfl) rfl) rfl) ?_))))))))))))
  have e1:xt.take k=xt:=List.take_of_length_le (by have:=hxt.1;omega)
  rw [e1] at hn0
  exact ⟨g,rfl,(hn0.agree (hS.since 0 rfl)).mono hlo,hS.below⟩
theorem OneW_ok (S:PS) (sf:SF) (w:World) (hs:SIs w S sf) (hok:S.ok) :
  Calls prog 97 #[sf.val] w (Hb S (oE S) 0 w):=by
 refine cD (args:=[sf.val]) func97 rfl ntmps97 rfl ?_
 have hS:=St.start w
 refine aM (aQ (bY (cs:=[_,_,_]) hS rfl rfl rfl fun B1 W1 hS=>bE (cs:=[_,_,_,_,_,_]) hS zeroValue44 rfl rfl fun B2 W2 hS=>aC rfl rfl (aN (XF.thenN (aM (aM (aQ (aT (vs:=[_,_,_]) isAgg25 sizeOf25 rfl (aF.own (j:=0) (m:=3) (hS.at_ 1 rfl) rfl) rfl (cA (vs:=[_]) hS tQ rfl (vV (hs.below hS.below) hok) rfl fun W3 hS=>aC rfl rfl (aN (XF.thenN (aM (aQ (aE rfl rfl (dA rfl rfl rfl (aN (XF.thenN (bB rfl (fun hc=>absurd (of_decide_eq_true hc) (by omega)) (fun hc=>?_)))))))))))))))))))
 have hc:=of_decide_eq_false hc
 refine bI (XF.thenN (aM (aQ (aT (vs:=[_,_,_]) isAgg25 sizeOf25 rfl (aF.own (j:=0) (m:=3) (hS.at_ 1 rfl) rfl) rfl ?_))))
 have hsz:=hS.below.size
 refine cN (vs:=[_]) hS xY rfl (oneA_ok (hs.below hS.below) hok) rfl ?_
 rintro e W4 ⟨f,rfl,hn,hb⟩
 refine ⟨_,rfl,hb,fun hS'=>?_⟩
 clear hS;have hS:=hS';clear hS'
 refine aU (i:=0) (vs:=[_,_,_,_,_,_]) (cs':=[_,_,_,_,_,_]) (O':=[_,_]) hS sizeOf44 rfl rfl rfl rfl rfl rfl rfl fun W5 hS=>aC rfl rfl (aN (XF.thenN (bL (XF.res (iO (vs:=[_,_,_,_,_,_]) results97 isAgg44 sizeOf44 rfl (aF.own (j:=0) (m:=6) (hS.at_ 0 rfl) rfl) rfl) ?_))))
 exact ⟨f,rfl,(hn.agree (hS.since 0 rfl)).mono hsz,hS.below⟩
theorem Hc (S:PS) (sf:SF) (w:World) (hs:SIs w S sf) (hok:S.ok) :
  Calls prog 79 #[sf.val] w (Hb S (bW S) 0 w):=by
 refine cD (args:=[sf.val]) func79 rfl ntmps79 rfl ?_
 have hS:=St.start w
 refine aM (aQ (bY (cs:=[_,_,_]) hS rfl rfl rfl fun B1 W1 hS=>bE (cs:=[_,_,_,_,_,_]) hS zeroValue44 rfl rfl fun B2 W2 hS=>aC rfl rfl (aN (XF.thenN (aM (aM (aQ (aT (vs:=[_,_,_]) isAgg25 sizeOf25 rfl (aF.own (j:=0) (m:=3) (hS.at_ 1 rfl) rfl) rfl (cA (vs:=[_]) hS tQ rfl (vV (hs.below hS.below) hok) rfl fun W3 hS=>aC rfl rfl (aN (XF.thenN (aM (aQ (aE rfl rfl (dA rfl rfl rfl (aN (XF.thenN (bB rfl (fun hc=>absurd (of_decide_eq_true hc) (by omega)) (fun hc=>?_)))))))))))))))))))
 have hc:=of_decide_eq_false hc
 refine bI (XF.thenN (aM (aQ (aT (vs:=[_,_,_]) isAgg25 sizeOf25 rfl (aF.own (j:=0) (m:=3) (hS.at_ 1 rfl) rfl) rfl ?_))))
 have hsz:=hS.below.size
 refine cN (vs:=[_]) hS Fx rfl (G9 (hs.below hS.below) hok) rfl ?_
 rintro e W4 ⟨f,rfl,hn,hb⟩
 refine ⟨_,rfl,hb,fun hS'=>?_⟩
 clear hS;have hS:=hS';clear hS'
 refine aU (i:=0) (vs:=[_,_,_,_,_,_]) (cs':=[_,_,_,_,_,_]) (O':=[_,_]) hS sizeOf44 rfl rfl rfl rfl rfl rfl rfl fun W5 hS=>aC rfl rfl (aN (XF.thenN (bL (XF.res (iO (vs:=[_,_,_,_,_,_]) results79 isAgg44 sizeOf44 rfl (aF.own (j:=0) (m:=6) (hS.at_ 0 rfl) rfl) rfl) ?_))))
 exact ⟨f,rfl,(hn.agree (hS.since 0 rfl)).mono hsz,hS.below⟩
def smN:Nat→WV→Bool
 | 0,_=>false
 | k+1,.mk f ps=>decide (f.rl≤70) && (decide (f.cl≤70) && (decide (f.pl≤3) && ps.all (smN k)))
def smS:Nat→SV→Bool
 | 0,_=>false
 | k+1,.mk f ps=>decide (f.len≤3) && ps.all (smS k)
theorem cJ {α:Type} {l:List α} {q:α→Bool} {i:Nat} {x:α} (h:l[i]?=some x) (hq:q x=false):l.all q=false:=by
 rw [List.all_eq_false];exact ⟨x,List.mem_of_getElem? h,by rw [hq];decide⟩
theorem eC {α:Type} {l:List α} {q:α→Bool} {i:Nat} {x:α} (h:l[i]?=some x) (ha:(l.take i).all q=true) (hq:q x=true):(l.take (i+1)).all q=true:=by
 rw [List.take_add_one,h];simp [ha,hq]
def okW (s:SV) (x:WV):Bool:=if bJ s.f.tag s.f.dim s.f.len=true then fE s.f.tag s.f.dim x.f else match s.ps with | [p,q]=>gW p q x.f x.ps | _=>false
def kM (s:SV) (x:WV):Int:=if dE s=0 then (if okW s x=true then 0 else 51) else dE s
theorem kA {r:Bool} {C:Prop} (hr:r=true↔C) (h:¬ C):false=r:=by
 cases r
 ·rfl
 ·exact absurd (hr.1 rfl) h
theorem r_true {r:Bool} {C:Prop} (hr:r=true↔C) (h:C):true=r:=(hr.2 h).symm
theorem Mw {W:World} {B:Nat} {T:TypeId} {f g:WF} (h:W.heap[B]?=some (.cells (List.toArray (f.six++g.six)) T (0,0))):sB W (some ⟨B,0,none⟩) [f,g] :=
 .inr ⟨B,0,rfl,fun i k hi=>by
  match i,hi with
  | 0,hi=>simp at hi;subst hi;exact W6.of_cells (aF.own (j:=0) (m:=6) h rfl)
  | 1,hi=>simp at hi;subst hi;exact W6.of_cells (aF.own (j:=6) (m:=6) h rfl)⟩
theorem rS {w:World} {S:PS} {f:WF} {x:PX} {fs:List WF} {xs:List PX} (h:XIs w S f x) (hx:XL w S fs xs):XL w S (f::fs) (x::xs) :=
 ⟨by simp [hx.1],fun i g y hg hy=>by
  match i,hg,hy with
  | 0,hg,hy=>simp at hg hy;subst hg;subst hy;exact h
  | i+1,hg,hy=>exact hx.2 i g y (by simpa using hg) (by simpa using hy)⟩
theorem J5 {w:World} {S:PS}:XL w S [] []:=⟨rfl,fun i g y hg=>by simp at hg⟩
end Go.Proofs.YtmgnkpibpjgncaaGreatDoor
