import Derived.Test.YtofaiolkihcfmaaGreatDoorLrB
set_option maxRecDepth 100000
set_option maxHeartbeats 4000000
set_option linter.unusedVariables false
set_option linter.unusedSimpArgs false
set_option linter.unusedSectionVars false
set_option linter.unnecessarySimpa false
namespace Go.Proofs.YtofaiolkihcfmaaGreatDoor
open Go.Proofs.Tryz
section
open Go.RowKit
def C3 (zs:List Int):Int:=zs.foldl gP (-1)
def Py (limit:Int) (zs:List Int):Int:=zs.foldl (jN limit) 0
def mO (limit:Int) (zs:List Int):Int:=if chk limit zs=0 then C3 zs else 0
def zJ (limit:Int) (zs:List Int):Int:=if chk limit zs=0 then Py limit zs else 0
theorem tI {limit:Int} {zs:List Int} (h:chk limit zs=0):0≤limit∧limit≤1048576∧zs.all (okc limit)=true:=by
 unfold chk at h
 split at h
 ·omega
 ·cases hz:zs.all (okc limit)<;>rw [hz] at h<;>simp at h
  exact ⟨by omega,by omega,rfl⟩
theorem Mq {zs:List Int} {k:Nat} {z:Int} (hk:k < zs.length) (hz:z=zs.getD k 0):zs.take (k+1)=zs.take k++[z]:=by
 rw [List.take_succ_eq_append_getElem hk]
 have:zs.getD k 0=zs[k]:=by simp [List.getD,hk]
 rw [hz,this]
theorem Ag {f:Int→Int→Int} {s:Int} {zs:List Int} {k:Nat} {z:Int} (hk:k < zs.length) (hz:z=zs.getD k 0):(zs.take (k+1)).foldl f s=f ((zs.take k).foldl f s) z:=by
 rw [Mq hk hz,List.foldl_append];rfl
theorem Ki {limit:Int} {zs:List Int} {k:Nat} {z:Int} (h:zs.all (okc limit)=true) (hk:k < zs.length) (hz:z=zs.getD k 0) : -1≤z∧z≤limit:=by
 have e:zs.getD k 0=zs[k]:=by simp [List.getD,hk]
 rw [List.all_eq_true] at h
 have:=h z (by rw [hz,e];exact List.getElem_mem hk)
 simp [okc] at this;exact this
theorem Pz {l a b:Int} (hl:0≤l) (ha : -1≤a) (ha2:a≤l) (hb : -1≤b) (hb2:b≤l) : -1≤jN l a b∧jN l a b≤l:=by
 unfold jN;split<;>omega
theorem rtwo {k k2:IntKind} {a b c d:Int} (h:a=b) (h2:c=d):Ending.returned (.tuple #[.int k a,.int k2 c]) = .returned (.tuple #[.int k b,.int k2 d]):=by rw [h,h2]
theorem Mr {a b l:Int} (ha : -1≤a) (ha2:a≤1048576) (hb : -1≤b) (hb2:b≤l) (hl:l≤1048576) : -1≤gP a b∧gP a b≤1048576:=by
 unfold gP;split
 ·omega
 ·split<;>omega
set_option maxHeartbeats 400000 in
theorem Ms (limit:Int) (a:Option Addr) (cap:Nat) (zs:List Int) (w:World) (hm:zs.length≤maxLen) (hrow:Row w a zs) :
  Calls prog 82 #[.int .i64 limit,.slice a zs.length cap] w fun e w'=>e = .returned (.tuple #[.int .i64 (mO limit zs),.int .i64 (chk limit zs)])∧w=w':=by
 have HM:=Lib.hid hm
 unfold maxLen at hm
 by_cases hc0:chk limit zs=0
 ·obtain ⟨hl0,hl1,hall⟩:=tI hc0
  have e1:mO limit zs=C3 zs:=by simp [mO,hc0]
  have H1:=Lib.hid e1
  have H0:=Lib.hid hc0
  have HALL:=Lib.hid hall
  have HROW:=Lib.hid hrow
  clear e1 hc0 hall hrow
  go_enter func82,ntmps82
  go_wp2_with (go_at_call 105;refine (lC _ _ _ _ _ HM.out HROW.out).mono ?_;rintro e w' ⟨rfl,rfl⟩;rw [H0.out])
  go_loop [7,18] (fun m i=>∃ k:Nat,k≤zs.length∧i = .int .i64 k∧∃ s:Int,m = .int .i64 s ∧ -1≤s∧s≤1048576∧Hid (s=(zs.take k).foldl gP (-1))) (fun _ i=>zs.length - (intOf i).toNat)
  case atStart=>exact ⟨0,Nat.zero_le _,rfl,_,rfl,by omega,by omega,by simp [Hid]⟩
  case round =>
   obtain ⟨k,hk,rfl,s,rfl,hs1,hs2,HS⟩:=hrel
   by_cases hlt:k < zs.length
   ·rcases HROW.out with h | ⟨b,off,rfl,hc⟩
    ·subst h;simp at hlt
    have hck:=hc k hlt
    obtain ⟨z,hz⟩:∃ z,z=zs.getD k 0:=⟨_,rfl⟩
    rw [← hz] at hck
    obtain ⟨hz1,hz2⟩:=Ki HALL.out hlt hz
    have hs' : -1≤gP s z∧gP s z≤1048576:=Mr hs1 hs2 hz1 hz2 hl1
    have HZ:=Lib.hid hz;clear hz hc HROW
    go_wp2_with (go_at_call 106;refine (Ic _ _ _).mono ?_;rintro e w' ⟨rfl,rfl⟩)
    go_round
    case rel=>exact ⟨k+1,by omega,by go_num,_,rfl,hs'.1,hs'.2,by rw [HS.out];exact (Ag hlt HZ.out).symm⟩
    case measure=>simp [intOf];omega
   ·have HE:Hid (s=mO limit zs):=by rw [H1.out,HS.out,List.take_of_length_le (by omega)];rfl
    have HROW2:=HROW
    clear HROW
    go_wp2
    go_ret2
    exact ⟨rtwo HE.out H0.out.symm,rfl⟩
 ·have e1:mO limit zs=0:=by simp [mO,hc0]
  have H1:=Lib.hid e1
  have HROW:=Lib.hid hrow
  have hne:(chk limit zs != 0)=true:=by simpa using hc0
  obtain ⟨c,hcc⟩:∃ c,c=chk limit zs:=⟨_,rfl⟩
  rw [← hcc] at hne
  have HC:=Lib.hid hcc
  clear e1 hc0 hrow hcc
  go_enter func82,ntmps82
  go_wp2_with (go_at_call 105;refine (lC _ _ _ _ _ HM.out HROW.out).mono ?_;rintro e w' ⟨rfl,rfl⟩;rw [← HC.out])
  go_ret2
  exact ⟨rtwo H1.out.symm HC.out,rfl⟩
set_option maxHeartbeats 400000 in
theorem sum_any (limit:Int) (a:Option Addr) (cap:Nat) (zs:List Int) (w:World) (hm:zs.length≤maxLen) (hrow:Row w a zs) :
  Calls prog 99 #[.int .i64 limit,.slice a zs.length cap] w fun e w'=>e = .returned (.tuple #[.int .i64 (zJ limit zs),.int .i64 (chk limit zs)])∧w=w':=by
 have HM:=Lib.hid hm
 unfold maxLen at hm
 by_cases hc0:chk limit zs=0
 ·obtain ⟨hl0,hl1,hall⟩:=tI hc0
  have e1:zJ limit zs=Py limit zs:=by simp [zJ,hc0]
  have H1:=Lib.hid e1
  have H0:=Lib.hid hc0
  have HALL:=Lib.hid hall
  have HROW:=Lib.hid hrow
  clear e1 hc0 hall hrow
  go_enter func99,ntmps99
  go_wp2_with (go_at_call 105;refine (lC _ _ _ _ _ HM.out HROW.out).mono ?_;rintro e w' ⟨rfl,rfl⟩;rw [H0.out])
  go_loop [7,18] (fun m i=>∃ k:Nat,k≤zs.length∧i = .int .i64 k∧∃ s:Int,m = .int .i64 s ∧ -1≤s∧s≤limit∧Hid (s=(zs.take k).foldl (jN limit) 0)) (fun _ i=>zs.length - (intOf i).toNat)
  case atStart=>exact ⟨0,Nat.zero_le _,rfl,_,rfl,by omega,by omega,by simp [Hid]⟩
  case round =>
   obtain ⟨k,hk,rfl,s,rfl,hs1,hs2,HS⟩:=hrel
   by_cases hlt:k < zs.length
   ·rcases HROW.out with h | ⟨b,off,rfl,hc⟩
    ·subst h;simp at hlt
    have hck:=hc k hlt
    obtain ⟨z,hz⟩:∃ z,z=zs.getD k 0:=⟨_,rfl⟩
    rw [← hz] at hck
    obtain ⟨hz1,hz2⟩:=Ki HALL.out hlt hz
    have hs' : -1≤jN limit s z∧jN limit s z≤limit:=Pz hl0 hs1 hs2 hz1 hz2
    have HZ:=Lib.hid hz;clear hz hc HROW
    go_wp2_with (go_at_call 121;refine (Mp _ _ _ _ ⟨by omega,by omega⟩).mono ?_;rintro e w' ⟨rfl,rfl⟩)
    go_round
    case rel=>exact ⟨k+1,by omega,by go_num,_,rfl,hs'.1,hs'.2,by rw [HS.out];exact (Ag hlt HZ.out).symm⟩
    case measure=>simp [intOf];omega
   ·have HE:Hid (s=zJ limit zs):=by rw [H1.out,HS.out,List.take_of_length_le (by omega)];rfl
    have HROW2:=HROW
    clear HROW
    go_wp2
    go_ret2
    exact ⟨rtwo HE.out H0.out.symm,rfl⟩
 ·have e1:zJ limit zs=0:=by simp [zJ,hc0]
  have H1:=Lib.hid e1
  have HROW:=Lib.hid hrow
  have hne:(chk limit zs != 0)=true:=by simpa using hc0
  obtain ⟨c,hcc⟩:∃ c,c=chk limit zs:=⟨_,rfl⟩
  rw [← hcc] at hne
  have HC:=Lib.hid hcc
  clear e1 hc0 hrow hcc
  go_enter func99,ntmps99
  go_wp2_with (go_at_call 105;refine (lC _ _ _ _ _ HM.out HROW.out).mono ?_;rintro e w' ⟨rfl,rfl⟩;rw [← HC.out])
  go_ret2
  exact ⟨rtwo H1.out.symm HC.out,rfl⟩
theorem Id {w:World} {a:Addr} {v:Value} (h:w.cell? a=some v):a.block < w.heap.size:=by
 rcases Nat.lt_or_ge a.block w.heap.size with h' | h'
 ·exact h'
 ·simp [World.cell?,Array.getElem?_eq_none h'] at h
theorem Row.below {w w':World} {a:Option Addr} {zs:List Int} (h:Row w a zs) (hb:Below w.heap.size w w'):Row w' a zs:=by
 rcases h with h | ⟨b,off,rfl,hc⟩
 ·exact .inl h
 ·refine .inr ⟨b,off,rfl,fun i hi=>?_⟩
  have h1:=hc i hi
  rw [hb.cell]
  ·exact h1
  ·exact Id h1
theorem Mt {limit a b:Int} (h:chk limit [a,b]=0):mO limit [a,b]=gP a b:=by
 have h3:gP (-1) a=a:=by simp [gP]
 simp [mO,h,C3,h3]
theorem sum_two {limit a b:Int} (h:chk limit [a,b]=0):zJ limit [a,b]=jN limit a b:=by
 have h2:=(tI h).2.2
 simp [okc] at h2
 have h3:jN limit 0 a=a:=by unfold jN;split<;>omega
 simp [zJ,h,Py,h3]
theorem Fl {limit a b:Int}:chk limit [a,b]=0↔(0≤limit∧limit≤1048576∧(-1≤a∧a≤limit)∧(-1≤b∧b≤limit)):=by
 constructor
 ·intro h
  have:=tI h
  simp [okc] at this
  omega
 ·intro h
  have:[a,b].all (okc limit)=true:=by simp [okc];omega
  simp only [chk,this]
  rw [if_neg (by omega)];rfl
theorem fP.agree {A W:World} {lo:Nat} {a:Option Addr} {vs:List Value} (h:fP A a vs) (hl:∀ ad,a=some ad→lo≤ad.block) (hg:dD lo A W):fP W a vs:=by
 rcases h with h | ⟨b,off,rfl,hc⟩
 ·exact .inl h
 ·exact .inr ⟨b,off,rfl,fun i v hi=>hg.cell (p:=⟨b,off+i,none⟩) (hl ⟨b,off,none⟩ rfl) (hc i v hi)⟩
theorem fN.agree {A W:World} {lo:Nat} {a:Option Addr} {cs:List Cl} (h:fN A a cs) (hl:∀ ad,a=some ad→lo≤ad.block) (hg:dD lo A W):fN W a cs:=by
 rcases h with h | ⟨b,off,rfl,hc⟩
 ·exact .inl h
 ·exact .inr ⟨b,off,rfl,fun i c hi=>⟨hg.cell (p:=⟨b,_,none⟩) (hl ⟨b,off,none⟩ rfl) (hc i c hi).1,hg.cell (p:=⟨b,_,none⟩) (hl ⟨b,off,none⟩ rfl) (hc i c hi).2.1,hg.cell (p:=⟨b,_,none⟩) (hl ⟨b,off,none⟩ rfl) (hc i c hi).2.2⟩⟩
theorem W6.agree {A W:World} {lo b o:Nat} {f:WF} (h:W6 A b o f) (hb:lo≤b) (hg:dD lo A W):W6 W b o f :=
 ⟨hg.cell hb h.1,hg.cell hb h.2.1,hg.cell hb h.2.2.1,hg.cell hb h.2.2.2.1,hg.cell hb h.2.2.2.2.1,hg.cell hb h.2.2.2.2.2⟩
theorem PNew.agree {n:Nat} {A W:World} {t d:Int} {f:WF} {a:PF} (h:PNew n A t d f a) (hg:dD n A W):PNew n W t d f a :=
 ⟨⟨⟨h.is.at_.rows.agree h.ra hg,h.is.at_.rl,h.is.at_.g64,h.is.at_.r64,h.is.at_.cells.agree h.ca hg,h.is.at_.cl,h.is.at_.bits,h.is.at_.cmax⟩,h.is.pf,h.is.ok,h.is.pl⟩,h.ra,h.ca⟩
theorem jM.agree {n:Nat} {A W:World} {S:PS} {f:WF} {x:PX} (h:jM n A S f x) (hg:dD n A W):jM n W S f x:=by
 cases S<;>cases x<;>first | exact h.elim | exact PNew.agree h hg | skip
 obtain ⟨h1,h2,h3,h4,blk,g,k,h5,h0,h6,h7,h8,h9⟩:=h
 exact ⟨h1,h2,h3,h4,blk,g,k,h5,h0,h6.agree h0 hg,h7.agree h0 hg,h8.agree hg,h9.agree hg⟩
theorem W6.cells {w:World} {b o:Nat} {f:WF} (h:W6 w b o f):aE w b o f.six:=⟨h.1,h.2.1,h.2.2.1,h.2.2.2.1,h.2.2.2.2.1,h.2.2.2.2.2,trivial⟩
theorem W6.of_cells {w:World} {b o:Nat} {f:WF} (h:aE w b o f.six):W6 w b o f:=⟨h.1,h.2.1,h.2.2.1,h.2.2.2.1,h.2.2.2.2.1,h.2.2.2.2.2.1⟩
abbrev SF.three (f:SF):List Value:=[.int .i64 f.tag,.int .i64 f.dim,.slice f.a f.len f.cap]
theorem S3.cells {w:World} {b o:Nat} {f:SF} (h:S3 w b o f):aE w b o f.three:=⟨h.1,h.2.1,h.2.2,trivial⟩
abbrev vD (c:Int):WF:=⟨false,c,0,none,0,0,[],none,0,0,[],none,0,0⟩
abbrev C4 (g:Nat) (a:Option Addr) (cap:Nat) (rows:List Nat):WF:=⟨false,0,g,a,rows.length,cap,rows,none,0,0,[],none,0,0⟩
abbrev oA (a:Option Addr) (cap:Nat) (cs:List Cl):WF:=⟨false,0,0,none,0,0,[],a,cs.length,cap,cs,none,0,0⟩
theorem lW {n:Nat} {W:World} {t d c:Int} (h:OkP t d (pC c)):PNew n W t d (vD c) (pC c) :=
 ⟨⟨⟨.inl rfl,rfl,(by show (0:Nat) < _;decide),(fun r hr=>by cases hr),.inl rfl,rfl,(fun c hc=>by cases hc),(by show (0:Nat)≤_;decide)⟩,rfl,h,rfl⟩,(fun ad e=>by cases e),(fun ad e=>by cases e)⟩
theorem uN {n:Nat} {W:World} {t d:Int} {g:Nat} {a:Option Addr} {cap:Nat} {rows:List Nat} (h:OkP t d (pF g rows)) (hg:g < 18446744073709551616) (hr:∀ r∈rows,r < 18446744073709551616) (hv:fP W a (u64s rows)) (hl:∀ ad,a=some ad→n≤ad.block):PNew n W t d (C4 g a cap rows) (pF g rows) :=
 ⟨⟨⟨hv,rfl,hg,hr,.inl rfl,rfl,(fun c hc=>by cases hc),by simp [maxLen]⟩,rfl,h,rfl⟩,hl,(fun ad e=>by cases e)⟩
theorem nH {n:Nat} {W:World} {t d:Int} {a:Option Addr} {cap:Nat} {cs:List Cl} (h:OkP t d (pX cs)) (hb:nR cs) (hm:cs.length≤maxLen) (hv:fN W a cs) (hl:∀ ad,a=some ad→n≤ad.block):PNew n W t d (oA a cap cs) (pX cs) :=
 ⟨⟨⟨.inl rfl,rfl,(by show (0:Nat) < _;decide),(fun r hr=>by cases hr),hv,rfl,hb,hm⟩,rfl,h,rfl⟩,(fun ad e=>by cases e),hl⟩
theorem PIs.z {w:World} {t n:Int} {f:WF} {x:PF} (h:PIs w t n f x):x.z=f.z:=by rw [← h.pf];rfl
theorem PIs.zero {w:World} {t n:Int} {f:WF} {x:PF} (h:PIs w t n f x) (hz:f.z=true):x=eW:=by
 have h1:=h.z;have h2:=h.ok
 rw [hz] at h1
 cases h2<;>first | rfl | cases h1
theorem mP {f:WF} {x:PF} (h:f.pf=x):f.z=x.z∧f.c=x.c∧f.g=x.g∧f.rows=x.rows∧f.cells=x.cells:=by subst h;exact ⟨rfl,rfl,rfl,rfl,rfl⟩
theorem PIs.k1 {w:World} {n:Int} {f:WF} {x:PF} (h:PIs w 1 n f x) (hz:f.z=false):x=pC 0:=by
 rcases E7 h.ok with rfl | rfl
 ·rw [(mP h.pf).1] at hz;cases hz
 ·rfl
theorem PIs.k2 {w:World} {n:Int} {f:WF} {x:PF} (h:PIs w 2 n f x) (hz:f.z=false):x=pC f.c∧0≤f.c∧f.c≤n:=by
 rcases E8 h.ok with rfl | ⟨c,rfl,h0,h1⟩
 ·rw [(mP h.pf).1] at hz;cases hz
 ·have:f.c=c:=(mP h.pf).2.1
  subst this;exact ⟨rfl,h0,h1⟩
theorem PIs.k3 {w:World} {m:Nat} {f:WF} {x:PF} (h:PIs w 3 m f x) (hz:f.z=false):x=pF f.g f.rows∧Good m f.g f.rows:=by
 rcases E9 h.ok with rfl | ⟨g,rows,rfl,h0⟩
 ·rw [(mP h.pf).1] at hz;cases hz
 ·have h1:f.g=g:=(mP h.pf).2.2.1
  have h2:f.rows=rows:=(mP h.pf).2.2.2.1
  subst h1;subst h2;exact ⟨rfl,h0⟩
theorem PIs.k4 {w:World} {m:Nat} {f:WF} {x:PF} (h:PIs w 4 m f x) (hz:f.z=false):x=pX f.cells∧Val m f.cells:=by
 rcases Fa h.ok with rfl | ⟨cs,rfl,h0⟩
 ·rw [(mP h.pf).1] at hz;cases hz
 ·have h1:f.cells=cs:=(mP h.pf).2.2.2.2
  subst h1;exact ⟨rfl,h0⟩
theorem C5 {W:World} {B:Nat} {T:TypeId} {a b:Int} (h:W.heap[B]?=some (.cells (List.toArray [.int .i64 a,.int .i64 b]) T (0,0))):Row W (some ⟨B,0,none⟩) [a,b]:=by
 refine .inr ⟨B,0,rfl,fun i hi=>?_⟩
 match i,hi with
 | 0,_=>exact aK h rfl
 | 1,_=>exact aK h rfl
theorem then_is (d:Int) (a b:Option Addr) (capa capb:Nat) (xs ys:List Cl) (w:World) (ht:Tabs w) (hma:xs.length≤maxLen) (hmb:ys.length≤maxLen) (hra:fN w a xs) (hrb:fN w b ys) (hba:nR xs) (hbb:nR ys) (c:Int) (hc:mF d xs ys=c) (la lb:Nat) (hla:xs.length=la) (hlb:ys.length=lb) :
  Calls prog 101 #[.int .i64 d,.slice a la capa,.slice b lb capb] w (jA (thenR d xs ys) c w):=by
 subst hla;subst hlb;exact O4 d a b capa capb xs ys w ht hma hmb hra hrb hba hbb c hc
theorem jW {t n:Int} {l:Nat} (h:cA t n l=true):t≠5:=wE h
section
variable {w W:World} {k:Nat} {n:Int} {f g:WF} {x y:PF}
theorem eE {t:Int} {f:WF} {x:PF} (h:PNew w.heap.size W t n f x) (hb:Below w.heap.size w W):gO (.one t n) (.one x) w (.returned f.val) W:=⟨f,rfl,h,hb⟩
theorem P3 {t:Int} (hx:PIs w t n f x) (hz:f.z=true) (hb:Below w.heap.size w W):gO (.one t n) (.one (gE t n x y)) w (.returned rA.val) W:=by
 rw [hx.zero hz,xF];exact eE (nG _ _ _ _) hb
theorem P4 {t:Int} (hy:PIs w t n g y) (hz:g.z=true) (hb:Below w.heap.size w W):gO (.one t n) (.one (gE t n x y)) w (.returned rA.val) W:=by
 rw [hy.zero hz,xG];exact eE (nG _ _ _ _) hb
theorem P5 (hx:PIs w 1 n f x) (hy:PIs w 1 n g y) (hf:f.z=false) (hg:g.z=false):PNew k W 1 n (vD 0) (gE 1 n x y):=by
 rw [hx.k1 hf,hy.k1 hg,ext_1];exact lW (.bool rfl)
theorem ext_f2 (hp:cA 2 n 0=true) (hx:PIs w 2 n f x) (hy:PIs w 2 n g y) (hf:f.z=false) (hg:g.z=false):PNew k W 2 n (vD (zJ n [f.c,g.c])) (gE 2 n x y):=by
 obtain ⟨rfl,h0,h1⟩:=hx.k2 hf
 obtain ⟨rfl,h2,h3⟩:=hy.k2 hg
 obtain ⟨d0,d1,_⟩:=lR hp
 have hs:zJ n [f.c,g.c]=min (f.c+g.c) n:=by
  rw [sum_two (Fl.2 ⟨d0,d1,⟨by omega,by omega⟩,by omega,by omega⟩)]
  unfold jN;rw [if_neg (by omega)]
 rw [O8,hs]
 exact lW (.cost _ rfl (by omega) (by omega))
theorem P6 {m:Nat} {a:Option Addr} {cap:Nat} (hx:PIs w 3 m f x) (hy:PIs w 3 m g y) (hf:f.z=false) (hg:g.z=false) (hv:fP W a (u64s (uC m f.g f.rows g.g g.rows))) (hl:∀ ad,a=some ad→k≤ad.block):PNew k W 3 m (C4 (vM m f.g f.rows g.g g.rows) a cap (uC m f.g f.rows g.g g.rows)) (gE 3 m x y):=by
 obtain ⟨hx',h0⟩:=hx.k3 hf
 obtain ⟨hy',h1⟩:=hy.k3 hg
 rw [hx',hy',ext_3]
 exact uN (.facts m _ _ rfl rfl (h0.extT h1)) (h0.extT h1).g64 (h0.extT h1).r64 hv hl
theorem ext_f4 {m:Nat} {a:Option Addr} {cap:Nat} (hx:PIs w 4 m f x) (hy:PIs w 4 m g y) (hf:f.z=false) (hg:g.z=false) (hv:fN W a (thenR m f.cells g.cells)) (hl:∀ ad,a=some ad→k≤ad.block):PNew k W 4 m (oA a cap (thenR m f.cells g.cells)) (gE 4 m x y):=by
 obtain ⟨hx',h0⟩:=hx.k4 hf
 obtain ⟨hy',h1⟩:=hy.k4 hg
 have e:thenR m f.cells g.cells=fZ f.cells g.cells:=by unfold thenR;rw [if_pos (h0.chk2 h1)]
 have hv2:=xE h0 h1
 rw [e] at hv ⊢
 rw [hx',hy',O9]
 exact nH (.cells m _ rfl rfl hv2) hv2.bits (by have:=hv2.le;have:=hv2.len;unfold maxLen;omega) hv hl
theorem Kj (hx:PIs w 1 n f x) (hy:PIs w 1 n g y) (hf:f.z=false) (hg:g.z=false):PNew k W 1 n (vD 0) (eO 1 n x y):=by
 rw [hx.k1 hf,hy.k1 hg,O6];exact lW (.bool rfl)
theorem comb_f2 (hp:cA 2 n 0=true) (hx:PIs w 2 n f x) (hy:PIs w 2 n g y) (hf:f.z=false) (hg:g.z=false):PNew k W 2 n (vD (mO n [f.c,g.c])) (eO 2 n x y):=by
 obtain ⟨rfl,h0,h1⟩:=hx.k2 hf
 obtain ⟨rfl,h2,h3⟩:=hy.k2 hg
 obtain ⟨d0,d1,_⟩:=lR hp
 have hs:mO n [f.c,g.c]=min f.c g.c:=by
  rw [Mt (Fl.2 ⟨d0,d1,⟨by omega,by omega⟩,by omega,by omega⟩)]
  unfold gP;rw [if_neg (by omega),if_neg (by omega)]
 rw [Hs,hs]
 exact lW (.cost _ rfl (by omega) (by omega))
theorem Km {m:Nat} {a:Option Addr} {cap:Nat} (hx:PIs w 3 m f x) (hy:PIs w 3 m g y) (hf:f.z=false) (hg:g.z=false) (hv:fP W a (u64s (nC m f.g f.rows g.g g.rows))) (hl:∀ ad,a=some ad→k≤ad.block):PNew k W 3 m (C4 (oJ m f.g f.rows g.g g.rows) a cap (nC m f.g f.rows g.g g.rows)) (eO 3 m x y):=by
 obtain ⟨hx',h0⟩:=hx.k3 hf
 obtain ⟨hy',h1⟩:=hy.k3 hg
 rw [hx',hy',O7]
 exact uN (.facts m _ _ rfl rfl (h0.combT h1)) (h0.combT h1).g64 (h0.combT h1).r64 hv hl
theorem comb_f4 {m:Nat} {a:Option Addr} {cap:Nat} (hx:PIs w 4 m f x) (hy:PIs w 4 m g y) (hf:f.z=false) (hg:g.z=false) (hv:fN W a (qW m f.cells g.cells)) (hl:∀ ad,a=some ad→k≤ad.block):PNew k W 4 m (oA a cap (qW m f.cells g.cells)) (eO 4 m x y):=by
 obtain ⟨hx',h0⟩:=hx.k4 hf
 obtain ⟨hy',h1⟩:=hy.k4 hg
 have e:qW m f.cells g.cells=eN f.cells g.cells:=by unfold qW;rw [if_pos (h0.chk2 h1)]
 have hv2:=xD h0 h1
 rw [e] at hv ⊢
 rw [hx',hy',Ht]
 exact nH (.cells m _ rfl rfl hv2) hv2.bits (by have:=hv2.le;have:=hv2.len;unfold maxLen;omega) hv hl
theorem P7 {t:Int} (hp:cA t n 0=true) (h3:t≠3) (h4:t≠4):PNew k W t n (vD 0) (gM t n):=by
 have h:=vV hp
 have e:gM t n=pC 0:=by unfold gM;rw [if_neg h3,if_neg h4]
 rw [e] at h ⊢
 exact lW h
theorem Qa {m:Nat} {a:Option Addr} {cap:Nat} (hm:m≤64) (hv:fP W a (u64s (iZ m))) (hl:∀ ad,a=some ad→k≤ad.block):PNew k W 3 m (C4 0 a cap (iZ m)) (gM 3 m):=by
 rw [one_3]
 exact uN (.facts m _ _ rfl rfl (uD hm)) (by decide) (uD hm).r64 hv hl
theorem Qb {m:Nat} {a:Option Addr} {cap:Nat} (hm:m≤64) (hv:fN W a (gA m)) (hl:∀ ad,a=some ad→k≤ad.block):PNew k W 4 m (oA a cap (gA m)) (gM 4 m):=by
 have h:=E6 hm
 rw [one_4]
 exact nH (.cells m _ rfl rfl h) h.bits (by have:=h.len;unfold maxLen;omega) hv hl
theorem vQ {t:Int} {l:Nat} (h:cA t n l=true) (ht:t=3∨t=4):∃ m:Nat,n=m∧m≤64:=by
 obtain ⟨d0,_,_,d3⟩:=lR h
 exact ⟨n.toNat,by omega,by have:=d3 ht;omega⟩
theorem Tabs.c {w:World} (h:Tabs w):TabC w:=⟨h.ctz⟩
end
def SIs (w:World):PS→SF→Prop
 | .one t n,f=>∃ a c,f=⟨t,n,a,0,c⟩
 | .two t n u m,f=>∃ b off c a1 c1 a2 c2,f=⟨5,0,some ⟨b,off,none⟩,2,c⟩∧S3 w b off ⟨t,n,a1,0,c1⟩∧S3 w b (off+3) ⟨u,m,a2,0,c2⟩
theorem SIs.below {w w':World} {S:PS} {f:SF} (h:SIs w S f) (hb:Below w.heap.size w w'):SIs w' S f:=by
 cases S with
 | one t n=>exact h
 | two t n u m =>
  obtain ⟨b,off,c,a1,c1,a2,c2,h1,h2,h3⟩:=h
  exact ⟨b,off,c,a1,c1,a2,c2,h1,h2.below hb,h3.below hb⟩
def dP (lo:Nat) (S:PS) (x:PX):Asr:=fun v w=>∃ f:WF,v=f.val∧jM lo w S f x
theorem dQ {lo:Nat} {S:PS} {x:PX}:kY (dP lo S x):=fun v w w' ⟨f,h1,h2⟩ hb=>⟨f,h1,h2.below hb⟩
theorem eY {P:Program} {f:FuncId} {vs:Array Value} {w:World} {S:PS} {x:PX} {lo:Nat} (hlo:lo≤w.heap.size) (h:Calls P f vs w (gO S x w)):Calls P f vs w (uZ (dP lo S x) w):=h.mono fun e w' ⟨f,he,hn,hb⟩=>⟨f.val,he,⟨f,rfl,hn.mono hlo⟩,hb⟩
theorem rR {p q:Asr} {vs:List Value} {w:World} (h:Holds [p,q] vs w):∃ a b,vs=[a,b]∧p a w∧q b w:=by
 match vs,h with
 | [a,b],h=>exact ⟨a,b,rfl,h.1,h.2.1⟩
theorem holds1 {p:Asr} {vs:List Value} {w:World} (h:Holds [p] vs w):∃ a,vs=[a]∧p a w:=by
 match vs,h with
 | [a],h=>exact ⟨a,rfl,h.1⟩
theorem rS {w:World} {lo:Nat} {t n u m:Int} {a b:PF} {vs:List Value} (hlo:lo≤w.heap.size) (h:Holds [dP lo (.one t n) (.one a),dP lo (.one u m) (.one b)] vs w):Calls prog 77 vs.toArray w (uZ (dP lo (.two t n u m) (.two a b)) w):=by
 obtain ⟨v1,v2,rfl,⟨f,rfl,hf⟩,g,rfl,hg⟩:=rR h
 refine (Kf f g w).mono ?_
 rintro e w' ⟨blk,rfl,h6,h7,hb1,hb⟩
 exact ⟨_,rfl,⟨pH blk,rfl,xQ h6 h7 (Nat.le_trans hlo hb1) (PNew.below hf hb) (PNew.below hg hb)⟩,hb⟩
theorem Fm:bW prog 102=true:=by kernel_rfl
theorem Qc:bW prog 103=true:=by kernel_rfl
theorem Qd:bW prog 104=true:=by kernel_rfl
theorem xR (p q:SV) (g:WF) (qs:List WV) {w:World} {e:Nat} (hw:WIn w (e+1) (.mk g qs)):g.z=true∨(g.z=false∧g.pl≠2)∨(∃ x y,g.z=false∧qs=[x,y]∧fM p.f.tag p.f.dim x.f=false)∨(∃ x y,g.z=false∧qs=[x,y]∧fM p.f.tag p.f.dim x.f=true):=by
 cases hz:g.z with
 | true=>exact .inl rfl
 | false =>
  refine .inr ?_
  by_cases h2:g.pl=2
  ·refine .inr ?_
   obtain ⟨x,y,rfl⟩:=rE (hw.2.1.trans h2)
   cases h:fM p.f.tag p.f.dim x.f with
   | false=>exact .inl ⟨x,y,rfl,rfl,h⟩
   | true=>exact .inr ⟨x,y,rfl,rfl,h⟩
  ·exact .inl ⟨rfl,h2⟩
theorem lX (t n:Int) (a:Option Addr) (l c0:Nat) (f:WF) (hp:cA t n l=true) (hs:0≤f.rl) (w:World) (hf:f.At w) (r:Bool) (hr:fM t n f=r) :
  Calls prog 81 #[.agg #[.int .i64 t,.int .i64 n,.slice a l c0],f.val] w (fun e w'=>e = .returned (.bool (r))∧Below w.heap.size w w'):=by
 refine cH (args:=[.agg #[.int .i64 t,.int .i64 n,.slice a l c0],f.val]) func81 rfl ntmps81 rfl ?_
 have hS:=St.start w
 have htg:=(fK hp).2
 have h5:t≠5:=by omega
 refine aL (aR (bK (cs:=[_,_,_]) hS rfl rfl rfl fun B1 W1 hS=>bK (cs:=[_,_,_,_,_,_]) hS rfl rfl rfl fun B2 W2 hS=>aA rfl rfl (aQ (XF.thenN (aL (aL (aR (aS (vs:=[_,_,_]) isAgg25 sizeOf25 rfl (aE.own (j:=0) (m:=3) (hS.at_ 1 rfl) rfl) rfl (aS (vs:=[_,_,_,_,_,_]) isAgg53 sizeOf53 rfl (aE.own (j:=0) (m:=6) (hS.at_ 0 rfl) rfl) rfl (cF (vs:=[_,_]) hS Fm rfl (Jw t n a l c0 f _ rfl _) rfl fun W3 hS=>eA rfl rfl (aQ (XF.thenN (aZ rfl (fun hc=>?_) (fun hc=>?_))))))))))))))
 ·have hc8:=hc;clear hc
  refine aL (aR (aA rfl rfl (aQ (XF.thenN (bJ (XF.thenR (XF.res (cJ results81 rfl) ?_)))))))
  exact ⟨bY (by rw [← hr];unfold fM;rw [show iI t f=false by simpa using hc8];rfl),hS.below⟩
 ·have hc8:=hc;clear hc
  have hbb:iI t f=true:=by simpa using hc8
  refine bG (XF.thenN (aL (aL (aR (aP (o':=0) dW rfl rfl rfl (aT isAgg22 rfl (aK (hS.at_ 1 rfl) rfl) rfl (cM rfl rfl rfl (aQ (XF.thenN (aZ rfl (fun hc=>absurd (of_decide_eq_true hc) (by exact h5)) (fun hc=>?_)))))))))))
  have hc:=of_decide_eq_false hc
  refine bG (XF.thenN (aL (aL (aR (aP (o':=0) dL rfl rfl rfl (aT isAgg4 rfl (aK (hS.at_ 0 rfl) rfl) rfl (aQ (XF.thenN (aZ rfl (fun hc=>?_) (fun hc=>?_))))))))))
  ·have hc44:=hc;clear hc
   refine aL (aR (aA rfl rfl (aQ (XF.thenN (bJ (XF.thenR (XF.res (cJ results81 rfl) ?_)))))))
   exact ⟨bY (by rw [← hr];unfold fM;rw [hbb,show f.z=true from hc44];rfl),hS.below⟩
  ·have hc44:=hc;clear hc
   have hz:f.z=false:=hc44
   refine bG (XF.thenN (aL (aL (aR (aP (o':=0) dW rfl rfl rfl (aT isAgg22 rfl (aK (hS.at_ 1 rfl) rfl) rfl (aQ (XF.thenN (bM (aL (aR (cM rfl rfl rfl (aA rfl rfl (aQ (XF.thenN (aZ rfl (fun hc=>?_) (fun hc=>?_)))))))))))))))))
   ·have hc47:=of_decide_eq_true hc;clear hc
    refine aL (aR (aP (o':=1) eL rfl rfl rfl (aT isAgg3 rfl (aK (hS.at_ 0 rfl) rfl) rfl (nY rfl rfl rfl (aG rfl rfl (bS (d:=52) rfl (fun hc=>?_) (fun hc=>?_)))))))
    ·have hg52:=of_decide_eq_true hc;clear hc
     refine aC (d:=52) rfl rfl (aP (o':=1) eL rfl rfl rfl (aC (d:=52) rfl rfl (aT isAgg3 rfl (aK (hS.at_ 0 rfl) rfl) rfl (aC (d:=52) rfl rfl (aP (o':=1) dX rfl rfl rfl (aC (d:=52) rfl rfl (aT isAgg3 rfl (aK (hS.at_ 1 rfl) rfl) rfl (aC (d:=52) rfl rfl (Cd rfl rfl rfl (bC rfl rfl rfl (aA rfl rfl (aQ (XF.thenN (bJ (XF.blkR (XF.thenR (XF.res (cJ results81 rfl) ?_)))))))))))))))))
     exact ⟨bY (by rw [← hr];unfold fM;rw [hbb,hz,if_pos hc47];simp [show (0:Int)≤f.c from hg52]),hS.below⟩
    ·have hg52:=of_decide_eq_false hc;clear hc
     refine aF (d:=52) rfl rfl rfl rfl (aF (d:=52) rfl rfl rfl rfl (aF (d:=52) rfl rfl rfl rfl (aF (d:=52) rfl rfl rfl rfl (aF (d:=52) rfl rfl rfl rfl (bV rfl rfl rfl (aA rfl rfl (aQ (XF.thenN (bJ (XF.blkR (XF.thenR (XF.res (cJ results81 rfl) ?_))))))))))))
     exact ⟨bY (by rw [← hr];unfold fM;rw [hbb,hz,if_pos hc47];simp [show ¬ (0:Int)≤f.c from hg52]),hS.below⟩
   ·have hc47:=of_decide_eq_false hc;clear hc
    refine aL (aR (cM rfl rfl rfl (aA rfl rfl (aQ (XF.thenN (aZ rfl (fun hc=>?_) (fun hc=>?_)))))))
    ·have hc59:=of_decide_eq_true hc;clear hc
     refine aL (aR (aP (o':=1) dX rfl rfl rfl (aT isAgg3 rfl (aK (hS.at_ 1 rfl) rfl) rfl (aP (o':=2) dY rfl rfl rfl (aS (vs:=[_,_]) isAgg49 sizeOf49 rfl (aE.own (j:=2) (m:=2) (hS.at_ 0 rfl) rfl) rfl (cF (vs:=[_,_]) hS Qc rfl (H9 n f.ra f.rc f.g f.rows _ (hf.below hS.below) _ rfl f.rl hf.rl) rfl fun W4 hS=>cM rfl rfl rfl (aA rfl rfl (aQ (XF.thenN (bJ (XF.blkR (XF.thenR (XF.res (cJ results81 rfl) ?_)))))))))))))
     exact ⟨bY (by rw [← hr];unfold fM;rw [hbb,hz,if_neg hc47,if_pos hc59];rfl),hS.below⟩
    ·have hc59:=of_decide_eq_false hc;clear hc
     refine aL (aR (cM rfl rfl rfl (aA rfl rfl (aQ (XF.thenN (aZ rfl (fun hc=>?_) (fun hc=>?_)))))))
     ·have hc67:=of_decide_eq_true hc;clear hc
      refine aL (aR (aP (o':=1) dX rfl rfl rfl (aT isAgg3 rfl (aK (hS.at_ 1 rfl) rfl) rfl (aP (o':=4) cZ rfl rfl rfl (aT isAgg50 rfl (aK (hS.at_ 0 rfl) rfl) rfl ?_)))))
      refine cF (vs:=[_,_]) hS Qd rfl (sI n f.ca f.cl f.cc f.cells _ _ hf.cl (by rw [hf.cl];exact hf.cmax) (hf.cells.below hS.below) hf.bits rfl) rfl fun W5 hS=>?_
      refine cM rfl rfl rfl (aA rfl rfl (aQ (XF.thenN (bJ (XF.blkR (XF.thenR (XF.res (cJ results81 rfl) ?_)))))))
      exact ⟨bY (by rw [← hr];unfold fM;rw [hbb,hz,if_neg hc47,if_neg hc59,if_pos hc67];rfl),hS.below⟩
     ·have hc67:=of_decide_eq_false hc;clear hc
      refine bG (XF.blkN (XF.thenN (aL (aR (aA rfl rfl (aQ (XF.thenN (bJ (XF.res (cJ results81 rfl) ?_)))))))))
      exact ⟨bY (by rw [← hr];unfold fM;rw [hbb,hz,if_neg hc47,if_neg hc59,if_neg hc67];rfl),hS.below⟩
theorem Ah (d:Nat) (sa:Option Addr) (sc:Nat) (p q:SV) (g:WF) (qs:List WV) (w:World) (hsp:SIn w (d+1) (.mk ⟨5,0,sa,2,sc⟩ [p,q])) (hp:p.pl=true) (hq:q.pl=true) (e:Nat) (hw:WIn w (e+1) (.mk g qs)) (hs:∀ x∈qs,0≤x.f.rl) (r:Bool) (hr:gN p q g qs=r) :
  Calls prog 81 #[.agg #[.int .i64 5,.int .i64 0,.slice sa 2 sc],g.val] w (fun e w'=>e = .returned (.bool (r))∧Below w.heap.size w w'):=by
 refine cH (args:=[.agg #[.int .i64 5,.int .i64 0,.slice sa 2 sc],g.val]) func81 rfl ntmps81 rfl ?_
 have hS:=St.start w
 obtain ⟨_,b,off,ha,hb0,hp3,hq3,_,_⟩:=hsp.two
 obtain rfl:sa=some ⟨b,off,none⟩:=ha
 refine aL (aR (bK (cs:=[_,_,_]) hS rfl rfl rfl fun B1 W1 hS=>bK (cs:=[_,_,_,_,_,_]) hS rfl rfl rfl fun B2 W2 hS=>aA rfl rfl (aQ (XF.thenN (aL (aL (aR (aS (vs:=[_,_,_]) isAgg25 sizeOf25 rfl (aE.own (j:=0) (m:=3) (hS.at_ 1 rfl) rfl) rfl (aS (vs:=[_,_,_,_,_,_]) isAgg53 sizeOf53 rfl (aE.own (j:=0) (m:=6) (hS.at_ 0 rfl) rfl) rfl (cF (vs:=[_,_]) hS Fm rfl (Jw 5 0 _ 2 sc g _ rfl _) rfl fun W3 hS=>eA rfl rfl (aQ (XF.thenN (aZ rfl (fun hc=>?_) (fun hc=>?_))))))))))))))
 ·have hc8:=hc;clear hc
  refine aL (aR (aA rfl rfl (aQ (XF.thenN (bJ (XF.thenR (XF.res (cJ results81 rfl) ?_)))))))
  exact ⟨bY (by rw [← hr];unfold gN;rw [show iI 5 g=false by simpa using hc8];rfl),hS.below⟩
 ·have hc8:=hc;clear hc
  have hbb:iI 5 g=true:=by simpa using hc8
  refine bG (XF.thenN (aL (aL (aR (aP (o':=0) dW rfl rfl rfl (aT isAgg22 rfl (aK (hS.at_ 1 rfl) rfl) rfl (cM rfl rfl rfl (aQ (XF.thenN (aZ rfl (fun hc=>?_) (fun hc=>absurd (of_decide_eq_false hc) (by decide))))))))))))
  have hc:=of_decide_eq_true hc
  refine aL ?_
  rcases xR p q g qs hw with h1 | h1 | h1 | h1
  ·skip
   refine iE (m:=32) cE hS (by kernel_rfl) (by kernel_rfl) rfl (cC 1 rfl 3 rfl rfl (fun w hw=>aW (o':=0) dL rfl rfl) rfl (aX 2 rfl 12 0 rfl rfl rfl (fun w hw=>bA isAgg4 rfl ((aN hw 0).cell (Nat.zero_le _) (aK (hS.at_ 0 rfl) rfl))) rfl ?_))
   refine aM 3 rfl (isV (.bool false)) (aJ _) (kH (li:=[(13,_)]) rfl (aU rfl) ⟨aO 1 (aB rfl rfl rfl),trivial⟩ (fun w hw=>jU rfl) (by rw [h1];rfl) (aH rfl)) ?_
   refine aX 4 rfl 14 2 rfl rfl rfl (fun w hw=>bE rfl) rfl (aM 5 rfl (isV undef) (aJ _) (bT rfl (bU 15 rfl (aB rfl rfl rfl) rfl) (aH rfl)) (aM 6 rfl (isV undef) (aJ _) (bT rfl (bU 15 rfl (aB rfl rfl rfl) rfl) (aH rfl)) (aM 7 rfl (isV undef) (aJ _) (bT rfl (bU 15 rfl (aB rfl rfl rfl) rfl) (aH rfl)) (aM 8 rfl (isV undef) (aJ _) (bT rfl (bU 15 rfl (aB rfl rfl rfl) rfl) (aH rfl)) (aX 9 rfl 15 3 rfl rfl rfl (fun w hw=>eD rfl rfl) rfl (aX 10 rfl 20 8 rfl rfl rfl (fun w hw=>bE rfl) rfl (aM 11 rfl (isV undef) (aJ _) (bT rfl (bU 21 rfl (aB rfl rfl rfl) rfl) (aH rfl)) (aM 12 rfl (isV undef) (aJ _) (bT rfl (bU 21 rfl (aB rfl rfl rfl) rfl) (aH rfl)) (aM 13 rfl (isV undef) (aJ _) (bT rfl (bU 21 rfl (aB rfl rfl rfl) rfl) (aH rfl)) (aM 14 rfl (isV undef) (aJ _) (bT rfl (bU 21 rfl (aB rfl rfl rfl) rfl) (aH rfl)) (aM 15 rfl (isV undef) (aJ _) (bT rfl (bU 21 rfl (aB rfl rfl rfl) rfl) (aH rfl)) (aM 16 rfl (isV undef) (aJ _) (bT rfl (bU 21 rfl (aB rfl rfl rfl) rfl) (aH rfl)) (aM 17 rfl (isV undef) (aJ _) (bT rfl (bU 21 rfl (aB rfl rfl rfl) rfl) (aH rfl)) (aM 18 rfl (isV undef) (aJ _) (bT rfl (bU 21 rfl (aB rfl rfl rfl) rfl) (aH rfl)) (aM 19 rfl (isV undef) (aJ _) (bT rfl (bU 21 rfl (aB rfl rfl rfl) rfl) (aH rfl)) (aX 20 rfl 21 9 rfl rfl rfl (fun w hw=>eD rfl rfl) rfl (aX 21 rfl 31 19 rfl rfl rfl (fun w hw=>bE rfl) rfl (aM 22 rfl (isV undef) (aJ _) (bT rfl (bU 32 rfl (aB rfl rfl rfl) rfl) (aH rfl)) (aM 23 rfl (isV undef) (aJ _) (bT rfl (bU 32 rfl (aB rfl rfl rfl) rfl) (aH rfl)) (aM 24 rfl (isV undef) (aJ _) (bT rfl (bU 32 rfl (aB rfl rfl rfl) rfl) (aH rfl)) ?_))))))))))))))))))))
   refine aM 25 rfl (isV undef) (aJ _) (bT rfl (bU 32 rfl (aB rfl rfl rfl) rfl) (aH rfl)) (aM 26 rfl (isV undef) (aJ _) (bT rfl (bU 32 rfl (aB rfl rfl rfl) rfl) (aH rfl)) (aM 27 rfl (isV undef) (aJ _) (bT rfl (bU 32 rfl (aB rfl rfl rfl) rfl) (aH rfl)) (aM 28 rfl (isV undef) (aJ _) (bT rfl (bU 32 rfl (aB rfl rfl rfl) rfl) (aH rfl)) (aM 29 rfl (isV undef) (aJ _) (bT rfl (bU 32 rfl (aB rfl rfl rfl) rfl) (aH rfl)) (aM 30 rfl (isV undef) (aJ _) (bT rfl (bU 32 rfl (aB rfl rfl rfl) rfl) (aH rfl)) (aX 31 rfl 32 20 rfl rfl rfl (fun w hw=>eD rfl rfl) rfl (aX 32 rfl 42 30 rfl rfl rfl (fun w hw=>eM rfl) rfl (dC ?_))))))))
   intro W4 hbR hS'
   clear hS;have hS:=hS';clear hS'
   refine aI (aI (aI (aI (aI (aI (aI (aI (aI (aI (aI (aI (aI (aI (aI (aI (aI (aI (aI (aI (aI ?_))))))))))))))))))))
   refine aI (aI (aI (aI (aI (aI (aI (aI (aI (aI (aI (cL (XF.thenN (bJ (XF.thenR (XF.res (cJ results81 rfl) ?_)))))))))))))))
   exact ⟨bY (by rw [← hr];unfold gN;rw [hbb,h1];rfl),hS.below⟩
  ·obtain ⟨hz,h2⟩:=h1
   refine iE (m:=32) cE hS (by kernel_rfl) (by kernel_rfl) rfl (cC 1 rfl 3 rfl rfl (fun w hw=>aW (o':=0) dL rfl rfl) rfl (aX 2 rfl 12 0 rfl rfl rfl (fun w hw=>bA isAgg4 rfl ((aN hw 0).cell (Nat.zero_le _) (aK (hS.at_ 0 rfl) rfl))) rfl ?_))
   refine aM 3 rfl (isV (.bool true)) (aJ _) (kH (li:=[(13,_)]) rfl (aU rfl) ⟨aO 1 (aB rfl rfl rfl),trivial⟩ (fun w hw=>jU rfl) (by rw [hz];rfl) (aH rfl)) ?_
   refine aX 4 rfl 14 2 rfl rfl rfl (fun w hw=>bE rfl) rfl (aM 5 rfl (isV _) (aJ _) (rgV (li:=[(3,_)]) rfl (bQ 15 rfl (aB rfl rfl rfl)) ⟨cI rfl,trivial⟩ (fun w hw=>aW (o':=5) cP rfl rfl) (aH rfl)) (aM 6 rfl (isV _) (aJ _) (rgV (li:=[(16,_)]) rfl (bQ 15 rfl (aB rfl rfl rfl)) ⟨aO 4 (aB rfl rfl rfl),trivial⟩ (fun w hw=>bA isAgg51 rfl ((aN hw 0).cell (Nat.zero_le _) (aK (hS.at_ 0 rfl) rfl))) (aH rfl)) (aM 7 rfl (isV _) (aJ _) (rgV (li:=[(17,_)]) rfl (bQ 15 rfl (aB rfl rfl rfl)) ⟨aO 5 (aB rfl rfl rfl),trivial⟩ (fun w hw=>kP underlying51 rfl) (aH rfl)) (aM 8 rfl (isV (.bool false)) (aJ _) (kH (li:=[(18,_)]) rfl (bQ 15 rfl (aB rfl rfl rfl)) ⟨aO 6 (aB rfl rfl rfl),trivial⟩ (fun w hw=>jD rfl rfl) (by rw [decide_eq_false (by omega)]) (aH rfl)) (aM 9 rfl (isV _) (aJ _) (rgV (li:=[(15,_),(19,_)]) rfl (aU rfl) ⟨aO 3 (aB rfl rfl rfl),aO 7 (aB rfl rfl rfl),trivial⟩ (fun w hw=>dU rfl rfl) (aH rfl)) (aX 10 rfl 20 8 rfl rfl rfl (fun w hw=>bE rfl) rfl (aM 11 rfl (isV undef) (aJ _) (bT rfl (bU 21 rfl (aB rfl rfl rfl) rfl) (aH rfl)) (aM 12 rfl (isV undef) (aJ _) (bT rfl (bU 21 rfl (aB rfl rfl rfl) rfl) (aH rfl)) (aM 13 rfl (isV undef) (aJ _) (bT rfl (bU 21 rfl (aB rfl rfl rfl) rfl) (aH rfl)) (aM 14 rfl (isV undef) (aJ _) (bT rfl (bU 21 rfl (aB rfl rfl rfl) rfl) (aH rfl)) (aM 15 rfl (isV undef) (aJ _) (bT rfl (bU 21 rfl (aB rfl rfl rfl) rfl) (aH rfl)) (aM 16 rfl (isV undef) (aJ _) (bT rfl (bU 21 rfl (aB rfl rfl rfl) rfl) (aH rfl)) (aM 17 rfl (isV undef) (aJ _) (bT rfl (bU 21 rfl (aB rfl rfl rfl) rfl) (aH rfl)) (aM 18 rfl (isV undef) (aJ _) (bT rfl (bU 21 rfl (aB rfl rfl rfl) rfl) (aH rfl)) (aM 19 rfl (isV undef) (aJ _) (bT rfl (bU 21 rfl (aB rfl rfl rfl) rfl) (aH rfl)) (aX 20 rfl 21 9 rfl rfl rfl (fun w hw=>eD rfl rfl) rfl (aX 21 rfl 31 19 rfl rfl rfl (fun w hw=>bE rfl) rfl (aM 22 rfl (isV undef) (aJ _) (bT rfl (bU 32 rfl (aB rfl rfl rfl) rfl) (aH rfl)) (aM 23 rfl (isV undef) (aJ _) (bT rfl (bU 32 rfl (aB rfl rfl rfl) rfl) (aH rfl)) (aM 24 rfl (isV undef) (aJ _) (bT rfl (bU 32 rfl (aB rfl rfl rfl) rfl) (aH rfl)) ?_))))))))))))))))))))
   refine aM 25 rfl (isV undef) (aJ _) (bT rfl (bU 32 rfl (aB rfl rfl rfl) rfl) (aH rfl)) (aM 26 rfl (isV undef) (aJ _) (bT rfl (bU 32 rfl (aB rfl rfl rfl) rfl) (aH rfl)) (aM 27 rfl (isV undef) (aJ _) (bT rfl (bU 32 rfl (aB rfl rfl rfl) rfl) (aH rfl)) (aM 28 rfl (isV undef) (aJ _) (bT rfl (bU 32 rfl (aB rfl rfl rfl) rfl) (aH rfl)) (aM 29 rfl (isV undef) (aJ _) (bT rfl (bU 32 rfl (aB rfl rfl rfl) rfl) (aH rfl)) (aM 30 rfl (isV undef) (aJ _) (bT rfl (bU 32 rfl (aB rfl rfl rfl) rfl) (aH rfl)) (aX 31 rfl 32 20 rfl rfl rfl (fun w hw=>eD rfl rfl) rfl (aX 32 rfl 42 30 rfl rfl rfl (fun w hw=>eM rfl) rfl (dC ?_))))))))
   intro W5 hbR hS'
   clear hS;have hS:=hS';clear hS'
   refine aI (aI (aI (aI (aI (aI (aI (aI (aI (aI (aI (aI (aI (aI (aI (aI (aI (aI (aI (aI (aI ?_))))))))))))))))))))
   refine aI (aI (aI (aI (aI (aI (aI (aI (aI (aI (aI (cL (XF.thenN (bJ (XF.thenR (XF.res (cJ results81 rfl) ?_)))))))))))))))
   exact ⟨bY (by rw [← hr];unfold gN;rw [hbb,hz,show decide (qs.length=2)=false from decide_eq_false (by have h9:qs.length=g.pl:=hw.2.1;omega)];rfl),hS.below⟩
  ·obtain ⟨x,y,hz,rfl,hx1⟩:=h1
   obtain ⟨hpl,b2,off2,hpa,hb2,hx6,hy6,hxi,hyi⟩:=hw.two
   obtain ⟨gz,gc,gg,gra,grl,grc,grows,gca,gcl,gcc,gcells,gpa,gpl,gpc⟩:=g
   dsimp only at hpl hpa hz
   subst hpl;subst hpa
   refine iE (m:=32) cE hS (by kernel_rfl) (by kernel_rfl) rfl (cC 1 rfl 3 rfl rfl (fun w hw=>aW (o':=0) dL rfl rfl) rfl (aX 2 rfl 12 0 rfl rfl rfl (fun w hw=>bA isAgg4 rfl ((aN hw 0).cell (Nat.zero_le _) (aK (hS.at_ 0 rfl) rfl))) rfl ?_))
   refine aM 3 rfl (isV (.bool true)) (aJ _) (kH (li:=[(13,_)]) rfl (aU rfl) ⟨aO 1 (aB rfl rfl rfl),trivial⟩ (fun w hw=>jU rfl) (by rw [hz];rfl) (aH rfl)) ?_
   refine aX 4 rfl 14 2 rfl rfl rfl (fun w hw=>bE rfl) rfl (aM 5 rfl (isV _) (aJ _) (rgV (li:=[(3,_)]) rfl (bQ 15 rfl (aB rfl rfl rfl)) ⟨cI rfl,trivial⟩ (fun w hw=>aW (o':=5) cP rfl rfl) (aH rfl)) (aM 6 rfl (isV _) (aJ _) (rgV (li:=[(16,_)]) rfl (bQ 15 rfl (aB rfl rfl rfl)) ⟨aO 4 (aB rfl rfl rfl),trivial⟩ (fun w hw=>bA isAgg51 rfl ((aN hw 0).cell (Nat.zero_le _) (aK (hS.at_ 0 rfl) rfl))) (aH rfl)) (aM 7 rfl (isV _) (aJ _) (rgV (li:=[(17,_)]) rfl (bQ 15 rfl (aB rfl rfl rfl)) ⟨aO 5 (aB rfl rfl rfl),trivial⟩ (fun w hw=>kP underlying51 rfl) (aH rfl)) (aM 8 rfl (isV (.bool true)) (aJ _) (kH (li:=[(18,_)]) rfl (bQ 15 rfl (aB rfl rfl rfl)) ⟨aO 6 (aB rfl rfl rfl),trivial⟩ (fun w hw=>jD rfl rfl) (rfl) (aH rfl)) (aM 9 rfl (isV _) (aJ _) (rgV (li:=[(15,_),(19,_)]) rfl (aU rfl) ⟨aO 3 (aB rfl rfl rfl),aO 7 (aB rfl rfl rfl),trivial⟩ (fun w hw=>dU rfl rfl) (aH rfl)) (aX 10 rfl 20 8 rfl rfl rfl (fun w hw=>bE rfl) rfl (aM 11 rfl (isV _) (aJ _) (rgV (li:=[(2,_)]) rfl (bQ 21 rfl (aB rfl rfl rfl)) ⟨cI rfl,trivial⟩ (fun w hw=>aW (o':=2) dI rfl rfl) (aH rfl)) (aM 12 rfl (isV _) (aJ _) (rgV (li:=[(22,_)]) rfl (bQ 21 rfl (aB rfl rfl rfl)) ⟨aO 10 (aB rfl rfl rfl),trivial⟩ (fun w hw=>bA isAgg23 rfl ((aN hw 0).cell (Nat.zero_le _) (aK (hS.at_ 1 rfl) rfl))) (aH rfl)) ?_))))))))
   refine aM 13 rfl (isV _) (aJ _) (rgV (li:=[(23,_)]) rfl (bQ 21 rfl (aB rfl rfl rfl)) ⟨aO 11 (aB rfl rfl rfl),trivial⟩ (fun w hw=>bB (j:=0) underlying23 sizeOf25 rfl rfl rfl (by show _ < 2;decide) (Nat.add_zero _)) (aH rfl)) ?_
   refine aM 14 rfl (isV _) (aJ _) (rgV (li:=[(24,_)]) rfl (bQ 21 rfl (aB rfl rfl rfl)) ⟨aO 12 (aB rfl rfl rfl),trivial⟩ (fun w hw=>bF (vs:=[_,_,_]) isAgg25 sizeOf25 rfl (aE.agree (aN hw 0) (Nat.zero_le _) (aE.agree hS.agree (Nat.zero_le _) hp3.cells))) (aH rfl)) (aM 15 rfl (isV _) (aJ _) (rgV (li:=[(3,_)]) rfl (bQ 21 rfl (aB rfl rfl rfl)) ⟨cI rfl,trivial⟩ (fun w hw=>aW (o':=5) cP rfl rfl) (aH rfl)) (aM 16 rfl (isV _) (aJ _) (rgV (li:=[(26,_)]) rfl (bQ 21 rfl (aB rfl rfl rfl)) ⟨aO 14 (aB rfl rfl rfl),trivial⟩ (fun w hw=>bA isAgg51 rfl ((aN hw 0).cell (Nat.zero_le _) (aK (hS.at_ 0 rfl) rfl))) (aH rfl)) ?_))
   refine aM 17 rfl (isV _) (aJ _) (rgV (li:=[(27,_)]) rfl (bQ 21 rfl (aB rfl rfl rfl)) ⟨aO 15 (aB rfl rfl rfl),trivial⟩ (fun w hw=>bB (j:=0) underlying51 sizeOf53 rfl rfl rfl (by show _ < 2;decide) (Nat.add_zero _)) (aH rfl)) ?_
   refine aM 18 rfl (isV _) (aJ _) (rgV (li:=[(28,_)]) rfl (bQ 21 rfl (aB rfl rfl rfl)) ⟨aO 16 (aB rfl rfl rfl),trivial⟩ (fun w hw=>bF (vs:=[_,_,_,_,_,_]) isAgg53 sizeOf53 rfl (aE.agree (aN hw 0) (Nat.zero_le _) (aE.agree hS.agree (Nat.zero_le _) hx6.cells))) (aH rfl)) ?_
   refine aM 19 rfl (isV (.bool false)) (aJ _) (cV [isV _,isV _] rfl tE (bQ 21 rfl (aB rfl rfl rfl)) ⟨bZ (aO 13 (aB rfl rfl rfl)),bZ (aO 17 (aB rfl rfl rfl)),trivial⟩ (fun vs w' hb hh=>by have e:=cB (us:=[_,_]) hh;subst e;exact (lX p.f.tag p.f.dim p.f.a p.f.len p.f.cap x.f hp (Nat.zero_le _) _ (hxi.at_.below (hS.below.trans (hb.mono hS.below.size))) _ hx1).mono fun e w2 h=>⟨_,h.1,rfl,h.2⟩) (aH rfl)) ?_
   refine aM 20 rfl (isV _) (aJ _) (rgV (li:=[(21,_),(30,_)]) rfl (aU rfl) ⟨aO 9 (aB rfl rfl rfl),aO 18 (aB rfl rfl rfl),trivial⟩ (fun w hw=>dU rfl rfl) (aH rfl)) (aX 21 rfl 31 19 rfl rfl rfl (fun w hw=>bE rfl) rfl (aM 22 rfl (isV undef) (aJ _) (bT rfl (bU 32 rfl (aB rfl rfl rfl) rfl) (aH rfl)) (aM 23 rfl (isV undef) (aJ _) (bT rfl (bU 32 rfl (aB rfl rfl rfl) rfl) (aH rfl)) (aM 24 rfl (isV undef) (aJ _) (bT rfl (bU 32 rfl (aB rfl rfl rfl) rfl) (aH rfl)) (aM 25 rfl (isV undef) (aJ _) (bT rfl (bU 32 rfl (aB rfl rfl rfl) rfl) (aH rfl)) (aM 26 rfl (isV undef) (aJ _) (bT rfl (bU 32 rfl (aB rfl rfl rfl) rfl) (aH rfl)) (aM 27 rfl (isV undef) (aJ _) (bT rfl (bU 32 rfl (aB rfl rfl rfl) rfl) (aH rfl)) (aM 28 rfl (isV undef) (aJ _) (bT rfl (bU 32 rfl (aB rfl rfl rfl) rfl) (aH rfl)) (aM 29 rfl (isV undef) (aJ _) (bT rfl (bU 32 rfl (aB rfl rfl rfl) rfl) (aH rfl)) (aM 30 rfl (isV undef) (aJ _) (bT rfl (bU 32 rfl (aB rfl rfl rfl) rfl) (aH rfl)) (aX 31 rfl 32 20 rfl rfl rfl (fun w hw=>eD rfl rfl) rfl (aX 32 rfl 42 30 rfl rfl rfl (fun w hw=>eM rfl) rfl (dC ?_)))))))))))))
   intro W6 hbR hS'
   clear hS;have hS:=hS';clear hS'
   refine aI (aI (aI (aI (aI (aI (aI (aI (aI (aI (aI (aI (aI (aI (aI (aI (aI (aI (aI (aI (aI ?_))))))))))))))))))))
   refine aI (aI (aI (aI (aI (aI (aI (aI (aI (aI (aI (cL (XF.thenN (bJ (XF.thenR (XF.res (cJ results81 rfl) ?_)))))))))))))))
   exact ⟨bY (by rw [← hr];unfold gN;rw [hbb];show _=(true && (!gz && (true && (fM p.f.tag p.f.dim x.f && fM q.f.tag q.f.dim y.f))));rw [hz,hx1];rfl),hS.below⟩
  ·obtain ⟨x,y,hz,rfl,hx1⟩:=h1
   obtain ⟨hpl,b2,off2,hpa,hb2,hx6,hy6,hxi,hyi⟩:=hw.two
   obtain ⟨gz,gc,gg,gra,grl,grc,grows,gca,gcl,gcc,gcells,gpa,gpl,gpc⟩:=g
   dsimp only at hpl hpa hz
   subst hpl;subst hpa
   refine iE (m:=32) cE hS (by kernel_rfl) (by kernel_rfl) rfl (cC 1 rfl 3 rfl rfl (fun w hw=>aW (o':=0) dL rfl rfl) rfl (aX 2 rfl 12 0 rfl rfl rfl (fun w hw=>bA isAgg4 rfl ((aN hw 0).cell (Nat.zero_le _) (aK (hS.at_ 0 rfl) rfl))) rfl ?_))
   refine aM 3 rfl (isV (.bool true)) (aJ _) (kH (li:=[(13,_)]) rfl (aU rfl) ⟨aO 1 (aB rfl rfl rfl),trivial⟩ (fun w hw=>jU rfl) (by rw [hz];rfl) (aH rfl)) ?_
   refine aX 4 rfl 14 2 rfl rfl rfl (fun w hw=>bE rfl) rfl (aM 5 rfl (isV _) (aJ _) (rgV (li:=[(3,_)]) rfl (bQ 15 rfl (aB rfl rfl rfl)) ⟨cI rfl,trivial⟩ (fun w hw=>aW (o':=5) cP rfl rfl) (aH rfl)) (aM 6 rfl (isV _) (aJ _) (rgV (li:=[(16,_)]) rfl (bQ 15 rfl (aB rfl rfl rfl)) ⟨aO 4 (aB rfl rfl rfl),trivial⟩ (fun w hw=>bA isAgg51 rfl ((aN hw 0).cell (Nat.zero_le _) (aK (hS.at_ 0 rfl) rfl))) (aH rfl)) (aM 7 rfl (isV _) (aJ _) (rgV (li:=[(17,_)]) rfl (bQ 15 rfl (aB rfl rfl rfl)) ⟨aO 5 (aB rfl rfl rfl),trivial⟩ (fun w hw=>kP underlying51 rfl) (aH rfl)) (aM 8 rfl (isV (.bool true)) (aJ _) (kH (li:=[(18,_)]) rfl (bQ 15 rfl (aB rfl rfl rfl)) ⟨aO 6 (aB rfl rfl rfl),trivial⟩ (fun w hw=>jD rfl rfl) (rfl) (aH rfl)) (aM 9 rfl (isV _) (aJ _) (rgV (li:=[(15,_),(19,_)]) rfl (aU rfl) ⟨aO 3 (aB rfl rfl rfl),aO 7 (aB rfl rfl rfl),trivial⟩ (fun w hw=>dU rfl rfl) (aH rfl)) (aX 10 rfl 20 8 rfl rfl rfl (fun w hw=>bE rfl) rfl (aM 11 rfl (isV _) (aJ _) (rgV (li:=[(2,_)]) rfl (bQ 21 rfl (aB rfl rfl rfl)) ⟨cI rfl,trivial⟩ (fun w hw=>aW (o':=2) dI rfl rfl) (aH rfl)) (aM 12 rfl (isV _) (aJ _) (rgV (li:=[(22,_)]) rfl (bQ 21 rfl (aB rfl rfl rfl)) ⟨aO 10 (aB rfl rfl rfl),trivial⟩ (fun w hw=>bA isAgg23 rfl ((aN hw 0).cell (Nat.zero_le _) (aK (hS.at_ 1 rfl) rfl))) (aH rfl)) ?_))))))))
   refine aM 13 rfl (isV _) (aJ _) (rgV (li:=[(23,_)]) rfl (bQ 21 rfl (aB rfl rfl rfl)) ⟨aO 11 (aB rfl rfl rfl),trivial⟩ (fun w hw=>bB (j:=0) underlying23 sizeOf25 rfl rfl rfl (by show _ < 2;decide) (Nat.add_zero _)) (aH rfl)) ?_
   refine aM 14 rfl (isV _) (aJ _) (rgV (li:=[(24,_)]) rfl (bQ 21 rfl (aB rfl rfl rfl)) ⟨aO 12 (aB rfl rfl rfl),trivial⟩ (fun w hw=>bF (vs:=[_,_,_]) isAgg25 sizeOf25 rfl (aE.agree (aN hw 0) (Nat.zero_le _) (aE.agree hS.agree (Nat.zero_le _) hp3.cells))) (aH rfl)) (aM 15 rfl (isV _) (aJ _) (rgV (li:=[(3,_)]) rfl (bQ 21 rfl (aB rfl rfl rfl)) ⟨cI rfl,trivial⟩ (fun w hw=>aW (o':=5) cP rfl rfl) (aH rfl)) (aM 16 rfl (isV _) (aJ _) (rgV (li:=[(26,_)]) rfl (bQ 21 rfl (aB rfl rfl rfl)) ⟨aO 14 (aB rfl rfl rfl),trivial⟩ (fun w hw=>bA isAgg51 rfl ((aN hw 0).cell (Nat.zero_le _) (aK (hS.at_ 0 rfl) rfl))) (aH rfl)) ?_))
   refine aM 17 rfl (isV _) (aJ _) (rgV (li:=[(27,_)]) rfl (bQ 21 rfl (aB rfl rfl rfl)) ⟨aO 15 (aB rfl rfl rfl),trivial⟩ (fun w hw=>bB (j:=0) underlying51 sizeOf53 rfl rfl rfl (by show _ < 2;decide) (Nat.add_zero _)) (aH rfl)) ?_
   refine aM 18 rfl (isV _) (aJ _) (rgV (li:=[(28,_)]) rfl (bQ 21 rfl (aB rfl rfl rfl)) ⟨aO 16 (aB rfl rfl rfl),trivial⟩ (fun w hw=>bF (vs:=[_,_,_,_,_,_]) isAgg53 sizeOf53 rfl (aE.agree (aN hw 0) (Nat.zero_le _) (aE.agree hS.agree (Nat.zero_le _) hx6.cells))) (aH rfl)) ?_
   refine aM 19 rfl (isV (.bool true)) (aJ _) (cV [isV _,isV _] rfl tE (bQ 21 rfl (aB rfl rfl rfl)) ⟨bZ (aO 13 (aB rfl rfl rfl)),bZ (aO 17 (aB rfl rfl rfl)),trivial⟩ (fun vs w' hb hh=>by have e:=cB (us:=[_,_]) hh;subst e;exact (lX p.f.tag p.f.dim p.f.a p.f.len p.f.cap x.f hp (Nat.zero_le _) _ (hxi.at_.below (hS.below.trans (hb.mono hS.below.size))) _ hx1).mono fun e w2 h=>⟨_,h.1,rfl,h.2⟩) (aH rfl)) ?_
   refine aM 20 rfl (isV _) (aJ _) (rgV (li:=[(21,_),(30,_)]) rfl (aU rfl) ⟨aO 9 (aB rfl rfl rfl),aO 18 (aB rfl rfl rfl),trivial⟩ (fun w hw=>dU rfl rfl) (aH rfl)) (aX 21 rfl 31 19 rfl rfl rfl (fun w hw=>bE rfl) rfl (aM 22 rfl (isV _) (aJ _) (rgV (li:=[(2,_)]) rfl (bQ 32 rfl (aB rfl rfl rfl)) ⟨cI rfl,trivial⟩ (fun w hw=>aW (o':=2) dI rfl rfl) (aH rfl)) (aM 23 rfl (isV _) (aJ _) (rgV (li:=[(33,_)]) rfl (bQ 32 rfl (aB rfl rfl rfl)) ⟨aO 21 (aB rfl rfl rfl),trivial⟩ (fun w hw=>bA isAgg23 rfl ((aN hw 0).cell (Nat.zero_le _) (aK (hS.at_ 1 rfl) rfl))) (aH rfl)) ?_)))
   refine aM 24 rfl (isV _) (aJ _) (rgV (li:=[(34,_)]) rfl (bQ 32 rfl (aB rfl rfl rfl)) ⟨aO 22 (aB rfl rfl rfl),trivial⟩ (fun w hw=>bB (j:=1) underlying23 sizeOf25 rfl rfl rfl (by show _ < 2;decide) rfl) (aH rfl)) ?_
   refine aM 25 rfl (isV _) (aJ _) (rgV (li:=[(35,_)]) rfl (bQ 32 rfl (aB rfl rfl rfl)) ⟨aO 23 (aB rfl rfl rfl),trivial⟩ (fun w hw=>bF (vs:=[_,_,_]) isAgg25 sizeOf25 rfl (aE.agree (aN hw 0) (Nat.zero_le _) (aE.agree hS.agree (Nat.zero_le _) hq3.cells))) (aH rfl)) (aM 26 rfl (isV _) (aJ _) (rgV (li:=[(3,_)]) rfl (bQ 32 rfl (aB rfl rfl rfl)) ⟨cI rfl,trivial⟩ (fun w hw=>aW (o':=5) cP rfl rfl) (aH rfl)) (aM 27 rfl (isV _) (aJ _) (rgV (li:=[(37,_)]) rfl (bQ 32 rfl (aB rfl rfl rfl)) ⟨aO 25 (aB rfl rfl rfl),trivial⟩ (fun w hw=>bA isAgg51 rfl ((aN hw 0).cell (Nat.zero_le _) (aK (hS.at_ 0 rfl) rfl))) (aH rfl)) ?_))
   refine aM 28 rfl (isV _) (aJ _) (rgV (li:=[(38,_)]) rfl (bQ 32 rfl (aB rfl rfl rfl)) ⟨aO 26 (aB rfl rfl rfl),trivial⟩ (fun w hw=>bB (j:=1) underlying51 sizeOf53 rfl rfl rfl (by show _ < 2;decide) rfl) (aH rfl)) ?_
   refine aM 29 rfl (isV _) (aJ _) (rgV (li:=[(39,_)]) rfl (bQ 32 rfl (aB rfl rfl rfl)) ⟨aO 27 (aB rfl rfl rfl),trivial⟩ (fun w hw=>bF (vs:=[_,_,_,_,_,_]) isAgg53 sizeOf53 rfl (aE.agree (aN hw 0) (Nat.zero_le _) (aE.agree hS.agree (Nat.zero_le _) hy6.cells))) (aH rfl)) ?_
   refine aM 30 rfl (isV (.bool (fM q.f.tag q.f.dim y.f))) (aJ _) (cV [isV _,isV _] rfl tE (bQ 32 rfl (aB rfl rfl rfl)) ⟨bZ (aO 24 (aB rfl rfl rfl)),bZ (aO 28 (aB rfl rfl rfl)),trivial⟩ (fun vs w' hb hh=>by have e:=cB (us:=[_,_]) hh;subst e;exact (lX q.f.tag q.f.dim q.f.a q.f.len q.f.cap y.f hq (Nat.zero_le _) _ (hyi.at_.below (hS.below.trans (hb.mono hS.below.size))) _ rfl).mono fun e w2 h=>⟨_,h.1,rfl,h.2⟩) (aH rfl)) ?_
   refine aM 31 rfl (isV _) (aJ _) (rgV (li:=[(32,_),(41,_)]) rfl (aU rfl) ⟨aO 20 (aB rfl rfl rfl),aO 29 (aB rfl rfl rfl),trivial⟩ (fun w hw=>dU rfl rfl) (aH rfl)) (aX 32 rfl 42 30 rfl rfl rfl (fun w hw=>eM rfl) rfl (dC ?_))
   intro W7 hbR hS'
   clear hS;have hS:=hS';clear hS'
   refine aI (aI (aI (aI (aI (aI (aI (aI (aI (aI (aI (aI (aI (aI (aI (aI (aI (aI (aI (aI (aI ?_))))))))))))))))))))
   refine aI (aI (aI (aI (aI (aI (aI (aI (aI (aI (aI (cL (XF.thenN (bJ (XF.thenR (XF.res (cJ results81 rfl) ?_)))))))))))))))
   exact ⟨bY (by rw [← hr];unfold gN;rw [hbb];show _=(true && (!gz && (true && (fM p.f.tag p.f.dim x.f && fM q.f.tag q.f.dim y.f))));rw [hz,hx1];rfl),hS.below⟩
theorem jH:bW prog 117=true:=by kernel_rfl
theorem goes_85:bW prog 85=true:=by kernel_rfl
theorem Qe:bW prog 118=true:=by kernel_rfl
theorem oB (t n:Int) (a:Option Addr) (l c0:Nat) (f:WF) (hp:cA t n l=true) (hs:0≤f.rl) (w:World) (hf:f.At w) (r:Bool) (hr:fM t n f=r) :
  Calls prog 93 #[.agg #[.int .i64 t,.int .i64 n,.slice a l c0],f.val] w (fun e w'=>e = .returned (.bool (r))∧Below w.heap.size w w'):=by
 refine cH (args:=[.agg #[.int .i64 t,.int .i64 n,.slice a l c0],f.val]) func93 rfl ntmps93 rfl ?_
 have hS:=St.start w
 have htg:=(fK hp).2
 have h5:t≠5:=by omega
 refine aL (aR (bK (cs:=[_,_,_]) hS rfl rfl rfl fun B1 W1 hS=>bK (cs:=[_,_,_,_,_,_]) hS rfl rfl rfl fun B2 W2 hS=>aA rfl rfl (aQ (XF.thenN (aL (aL (aR (aP (o':=0) dL rfl rfl rfl (aT isAgg4 rfl (aK (hS.at_ 0 rfl) rfl) rfl (aQ (XF.thenN (aZ rfl (fun hc=>?_) (fun hc=>?_)))))))))))))
 ·have hc7:=hc;clear hc
  refine aL (aR (aP (o':=0) dW rfl rfl rfl (aT isAgg22 rfl (aK (hS.at_ 1 rfl) rfl) rfl (dA rfl rfl rfl (aG rfl rfl (bS (d:=11) rfl (fun hc=>?_) (fun hc=>absurd (of_decide_eq_false hc) (by exact fun h=>h h5))))))))
  have hc:=of_decide_eq_true hc
  refine aC (d:=11) rfl rfl (aS (vs:=[_,_,_,_,_,_]) isAgg53 sizeOf53 rfl (aE.own (j:=0) (m:=6) (hS.at_ 0 rfl) rfl) rfl (aC (d:=11) rfl rfl (cF (vs:=[_,_,_,_,_]) hS jH rfl (Fk f _ rfl _) rfl fun W3 hS=>bC rfl rfl rfl (aA rfl rfl (aQ (XF.thenN (bJ (XF.thenR (XF.res (cJ results93 rfl) ?_)))))))))
  exact ⟨bY (by rw [← hr];unfold fM;rw [show f.z=true from hc7];unfold iI;rw [show f.z=true from hc7];simp),hS.below⟩
 ·have hc7:=hc;clear hc
  have hz:f.z=false:=hc7
  refine bG (XF.thenN (aL (aL (aR (aP (o':=0) dW rfl rfl rfl (aT isAgg22 rfl (aK (hS.at_ 1 rfl) rfl) rfl (aQ (XF.thenN (bM (aL (aR (cM rfl rfl rfl (aA rfl rfl (aQ (XF.thenN (aZ rfl (fun hc=>?_) (fun hc=>?_)))))))))))))))))
  ·have hc17:=of_decide_eq_true hc;clear hc
   refine aL (aR (aS (vs:=[_,_,_,_,_,_]) isAgg53 sizeOf53 rfl (aE.own (j:=0) (m:=6) (hS.at_ 0 rfl) rfl) rfl (cF (vs:=[_,_,_,_,_]) hS jH rfl (Fk f _ rfl _) rfl fun W4 hS=>aA rfl rfl (aQ (XF.thenN (bJ (XF.blkR (XF.thenR (XF.res (cJ results93 rfl) ?_)))))))))
   exact ⟨bY (by rw [← hr];unfold fM;rw [hz];unfold iI;rw [hz,hc17];simp),hS.below⟩
  ·have hc17:=of_decide_eq_false hc;clear hc
   refine aL (aR (cM rfl rfl rfl (aA rfl rfl (aQ (XF.thenN (aZ rfl (fun hc=>?_) (fun hc=>?_)))))))
   ·have hc21:=of_decide_eq_true hc;clear hc
    have hbb:iI t f=iH true false false false f:=by unfold iI;rw [hz,hc21];simp
    refine aL (aR (aS (vs:=[_,_,_,_,_,_]) isAgg53 sizeOf53 rfl (aE.own (j:=0) (m:=6) (hS.at_ 0 rfl) rfl) rfl (cF (vs:=[_,_,_,_,_]) hS jH rfl (Pt f _ rfl _) rfl fun W5 hS=>aG rfl rfl (bS (d:=25) rfl (fun hc=>?_) (fun hc=>?_)))))
    ·have hg25:=hc;clear hc
     refine aC (d:=25) rfl rfl (aP (o':=1) eL rfl rfl rfl (aC (d:=25) rfl rfl (aT isAgg3 rfl (aK (hS.at_ 0 rfl) rfl) rfl (aC (d:=25) rfl rfl (nY rfl rfl rfl (bC rfl rfl rfl (aG rfl rfl (bS (d:=30) rfl (fun hc=>?_) (fun hc=>?_)))))))))
     ·have hg30:=of_decide_eq_true hc;clear hc
      refine aC (d:=30) rfl rfl (aP (o':=1) eL rfl rfl rfl (aC (d:=30) rfl rfl (aT isAgg3 rfl (aK (hS.at_ 0 rfl) rfl) rfl (aC (d:=30) rfl rfl (aP (o':=1) dX rfl rfl rfl (aC (d:=30) rfl rfl (aT isAgg3 rfl (aK (hS.at_ 1 rfl) rfl) rfl (aC (d:=30) rfl rfl (Cd rfl rfl rfl (bC rfl rfl rfl (aA rfl rfl (aQ (XF.thenN (bJ (XF.blkR (XF.thenR (XF.res (cJ results93 rfl) ?_)))))))))))))))))
      exact ⟨bY (by rw [← hr];unfold fM;rw [hbb,hz,if_pos hc21,show iH true false false false f=true from hg25];simp [show (0:Int)≤f.c from hg30]),hS.below⟩
     ·have hg30:=of_decide_eq_false hc;clear hc
      refine aF (d:=30) rfl rfl rfl rfl (aF (d:=30) rfl rfl rfl rfl (aF (d:=30) rfl rfl rfl rfl (aF (d:=30) rfl rfl rfl rfl (aF (d:=30) rfl rfl rfl rfl (bV rfl rfl rfl (aA rfl rfl (aQ (XF.thenN (bJ (XF.blkR (XF.thenR (XF.res (cJ results93 rfl) ?_))))))))))))
      exact ⟨bY (by rw [← hr];unfold fM;rw [hbb,hz,if_pos hc21,show iH true false false false f=true from hg25];simp [show ¬ (0:Int)≤f.c from hg30]),hS.below⟩
    ·have hg25:=hc;clear hc
     refine aF (d:=25) rfl rfl rfl rfl (aF (d:=25) rfl rfl rfl rfl (aF (d:=25) rfl rfl rfl rfl (bV rfl rfl rfl (aG rfl rfl (aF (d:=30) rfl rfl rfl rfl (aF (d:=30) rfl rfl rfl rfl (aF (d:=30) rfl rfl rfl rfl (aF (d:=30) rfl rfl rfl rfl (aF (d:=30) rfl rfl rfl rfl (bV rfl rfl rfl (aA rfl rfl (aQ (XF.thenN (bJ (XF.blkR (XF.thenR (XF.res (cJ results93 rfl) ?_)))))))))))))))))
     exact ⟨bY (by rw [← hr];unfold fM;rw [hbb,show iH true false false false f=false from hg25];rfl),hS.below⟩
   ·have hc21:=of_decide_eq_false hc;clear hc
    refine aL (aR (cM rfl rfl rfl (aA rfl rfl (aQ (XF.thenN (aZ rfl (fun hc=>?_) (fun hc=>?_)))))))
    ·have hc37:=of_decide_eq_true hc;clear hc
     have hbb:iI t f=iH false true false false f:=by unfold iI;rw [hz,hc37];simp
     refine aL (aR (aS (vs:=[_,_,_,_,_,_]) isAgg53 sizeOf53 rfl (aE.own (j:=0) (m:=6) (hS.at_ 0 rfl) rfl) rfl (cF (vs:=[_,_,_,_,_]) hS jH rfl (Pu f _ rfl _) rfl fun W6 hS=>aG rfl rfl (bS (d:=41) rfl (fun hc=>?_) (fun hc=>?_)))))
     ·have hg41:=hc;clear hc
      refine aC (d:=41) rfl rfl (aP (o':=1) dX rfl rfl rfl (aC (d:=41) rfl rfl (aT isAgg3 rfl (aK (hS.at_ 1 rfl) rfl) rfl (aC (d:=41) rfl rfl (aP (o':=2) dY rfl rfl rfl (aC (d:=41) rfl rfl (aS (vs:=[_,_]) isAgg49 sizeOf49 rfl (aE.own (j:=2) (m:=2) (hS.at_ 0 rfl) rfl) rfl (aC (d:=41) rfl rfl (cF (vs:=[_,_]) hS goes_85 rfl (Ia n f.ra f.rc f.g f.rows _ (hf.below hS.below) _ rfl f.rl hf.rl) rfl fun W7 hS=>aC (d:=41) rfl rfl (cM rfl rfl rfl (bC rfl rfl rfl (aA rfl rfl (aQ (XF.thenN (bJ (XF.blkR (XF.thenR (XF.res (cJ results93 rfl) ?_))))))))))))))))))
      exact ⟨bY (by rw [← hr];unfold fM;rw [hbb,hz,if_neg hc21,if_pos hc37,show iH false true false false f=true from hg41];rfl),hS.below⟩
     ·have hg41:=hc;clear hc
      refine aF (d:=41) rfl rfl rfl rfl (aF (d:=41) rfl rfl rfl rfl (aF (d:=41) rfl rfl rfl rfl (aF (d:=41) rfl rfl rfl rfl (aF (d:=41) rfl rfl rfl rfl (aF (d:=41) rfl rfl rfl rfl (bV rfl rfl rfl (aA rfl rfl (aQ (XF.thenN (bJ (XF.blkR (XF.thenR (XF.res (cJ results93 rfl) ?_)))))))))))))
      exact ⟨bY (by rw [← hr];unfold fM;rw [hbb,show iH false true false false f=false from hg41];rfl),hS.below⟩
    ·have hc37:=of_decide_eq_false hc;clear hc
     refine aL (aR (cM rfl rfl rfl (aA rfl rfl (aQ (XF.thenN (aZ rfl (fun hc=>?_) (fun hc=>absurd (of_decide_eq_false hc) (by omega))))))))
     have hc:=of_decide_eq_true hc
     have hc49:t=4:=hc
     have hbb:iI t f=iH false false true false f:=by unfold iI;rw [hz,hc49];simp
     obtain ⟨m,hnm,hm64⟩:∃ m:Nat,n=m∧m≤64:=by
      have h9:=hp
      simp only [cA,hc49] at h9
      simp at h9
      exact ⟨n.toNat,by omega,by omega⟩
     refine aL (aL (aR (aS (vs:=[_,_,_,_,_,_]) isAgg53 sizeOf53 rfl (aE.own (j:=0) (m:=6) (hS.at_ 0 rfl) rfl) rfl (cF (vs:=[_,_,_,_,_]) hS jH rfl (Pv f _ rfl _) rfl fun W8 hS=>eA rfl rfl (aG rfl rfl (bS (d:=54) rfl (fun hc=>?_) (fun hc=>?_)))))))
     ·have hg54:=hc;clear hc
      refine aF (d:=54) rfl rfl rfl rfl (aF (d:=54) rfl rfl rfl rfl (aF (d:=54) rfl rfl rfl rfl (aF (d:=54) rfl rfl rfl rfl (aF (d:=54) rfl rfl rfl rfl (aF (d:=54) rfl rfl rfl rfl (bC rfl rfl rfl (aQ (XF.thenN (dJ rfl (aL (aR (aA rfl rfl (aQ (XF.thenN (bJ (XF.thenR (XF.blkR (XF.thenR (XF.res (cJ results93 rfl) ?_)))))))))))))))))))
      exact ⟨bY (by rw [← hr];unfold fM;rw [hbb,show iH false false true false f=false by simpa using hg54];rfl),hS.below⟩
     ·have hg54:=hc;clear hc
      have hon:iH false false true false f=true:=by simpa using hg54
      refine aC (d:=54) rfl rfl (aP (o':=4) cZ rfl rfl rfl (aC (d:=54) rfl rfl (aT isAgg50 rfl (aK (hS.at_ 0 rfl) rfl) rfl (aC (d:=54) rfl rfl (bX underlying50 rfl rfl (aC (d:=54) rfl rfl (aP (o':=1) dX rfl rfl rfl (aC (d:=54) rfl rfl (aT isAgg3 rfl (aK (hS.at_ 1 rfl) rfl) rfl (aC (d:=54) rfl rfl (dA rfl rfl rfl (bV rfl rfl rfl (aQ (XF.thenN (aZ rfl (fun hc=>?_) (fun hc=>?_))))))))))))))))
      ·have hc61:=of_decide_eq_true hc;clear hc
       refine aL (aR (aA rfl rfl (aQ (XF.thenN (bJ (XF.thenR (XF.blkR (XF.thenR (XF.res (cJ results93 rfl) ?_)))))))))
       have hne:kN n f.cells≠0:=fun h9=>by have:=(lJ h9).2.2.1;rw [hf.cl] at this;exact hc61 this
       exact ⟨bY (by rw [← hr];unfold fM;rw [hbb,hz,hon,if_neg hc21,if_neg hc37,if_pos hc49,decide_eq_false hne];rfl),hS.below⟩
      ·have hc61:=of_decide_eq_false hc;clear hc
       have hcl:f.cells.length=m:=by rw [hf.cl];omega
       refine bG (XF.thenN (aL (aL (aR (aA rfl rfl (aQ (XF.thenN (bM (dK (fun m_ l_ W=>∃ i:Nat,i≤f.cl∧m_=f.cl - i∧l_=[(2,.pointer (some ⟨B1,0,none⟩)),(3,.pointer (some ⟨B2,0,none⟩)),(5,.int .i64 (i:Int))]∧(f.cells.take i).all (kV m)=true∧St w [(B2,f.six,53),(B1,[.int .i64 t,.int .i64 n,.slice a l c0],25)] [] [] W) (f.cl - 0) ([(2,_),(3,_),(5,_)]) ⟨rfl,rfl,rfl,trivial⟩ (⟨0,Nat.zero_le _,rfl,rfl,rfl,hS.clear⟩) ?_)))))))))
       clear hS
       rintro m_ l_ W ⟨i,hi,rfl,rfl,hall,hS⟩
       refine aL (aL (aR (aG rfl rfl (aP (o':=4) cZ rfl rfl rfl (aT isAgg50 rfl (aK (hS.at_ 0 rfl) rfl) rfl (bX underlying50 rfl rfl (cN rfl rfl rfl (aQ (XF.thenN (aZ rfl (fun hc=>?_) (fun hc=>?_)))))))))))
       ·have hc66:=of_decide_eq_true hc;clear hc
        obtain ⟨b9,off9,ce,hca9,hce,hb9,h91,h92,h93⟩:=(hf.cells.below hS.below).at_ (k:=i) (by rw [hf.cl];omega)
        have k1:aE W b9 (off9+i * 3) [.int .u64 (ce.f:Int),.int .i64 ce.k,.int .i64 ce.v]:=⟨h91,h92,h93,trivial⟩
        have hc64:=hf.bits ce (List.mem_of_getElem? hce)
        refine bG (XF.thenN (aL (bM (aL (iE (m:=9) cE hS (by kernel_rfl) (by kernel_rfl) rfl (cC 1 rfl 2 rfl rfl (fun w hw=>aW (o':=1) dX rfl rfl) rfl (aX 2 rfl 69 0 rfl rfl rfl (fun w hw=>bA isAgg3 rfl ((aN hw 0).cell (Nat.zero_le _) (aK (hS.at_ 1 rfl) rfl))) rfl (cC 3 rfl 3 rfl rfl (fun w hw=>aW (o':=4) cZ rfl rfl) rfl (aM 4 rfl (isV (.slice (some ⟨b9,off9,none⟩) f.cl f.cc)) (aJ _) (kH (li:=[(71,_)]) rfl (aU rfl) ⟨aO 2 (aB rfl rfl rfl),trivial⟩ (fun w hw=>bA isAgg50 rfl ((aN hw 0).cell (Nat.zero_le _) (aK (hS.at_ 0 rfl) rfl))) (by rw [← hca9]) (aH rfl)) (cC 5 rfl 5 rfl rfl (fun w hw=>bE rfl) rfl (aM 6 rfl (isV _) (aJ _) (rgV (li:=[(72,_),(73,_)]) rfl (aU rfl) ⟨aO 3 (aB rfl rfl rfl),aO 4 (aB rfl rfl rfl),trivial⟩ (fun w hw=>bB (j:=i) underlying50 sizeOf92 rfl rfl (rfl) (by omega) rfl) (aH rfl)) (aX 7 rfl 74 5 rfl rfl rfl (fun w hw=>bF (vs:=[_,_,_]) isAgg92 sizeOf92 rfl (aE.agree (aN hw 0) (Nat.zero_le _) (k1))) rfl ?_))))))))))))
        refine aM 8 rfl (isV (.bool (kV m ce))) (aJ _) (cV [isV _,isV _] rfl Qe (aU rfl) ⟨bZ (aO 1 (aB rfl rfl rfl)),bZ (aO 6 (aB rfl rfl rfl)),trivial⟩ (fun vs w' hb hh=>by have e:=cB (us:=[_,_]) hh;subst e;have h9:=Pw m hm64 ce.f ce.k ce.v hc64 _ rfl w';rw [← hnm] at h9;exact h9.mono fun e w2 h=>⟨_,h.1,rfl,h.2⟩) (aH rfl)) ?_
        refine aX 9 rfl 76 7 rfl rfl rfl (fun w hw=>jU rfl) rfl (dC ?_)
        intro W9 hbR hS'
        clear hS;have hS:=hS';clear hS'
        refine aI (aI (aI (aI (aI (aI (aI (aI (aI (cL (XF.thenN (aZ rfl (fun hc=>?_) (fun hc=>?_))))))))))))
        ·have hc77:=hc;clear hc
         refine aL (aR (aA rfl rfl (aQ (XF.thenN (bJ (XF.blkR (XF.thenR (XF.thenR (XF.blkR (XF.thenR (XF.blkR (XF.thenR (XF.res (cJ results93 rfl) ?_)))))))))))))
         exact ⟨bY (by rw [← hr];unfold fM;rw [hbb,hz,hon,if_neg hc21,if_neg hc37,if_pos hc49,hnm,Em hm64 hcl hce (by simpa using hc77)];rfl),hS.below⟩
        ·have hc77:=hc;clear hc
         refine bG (XF.blkN (XF.thenN (aR (aG rfl rfl (cR rfl rfl (IntWalk.i64_in _ (by omega)) rfl (aA rfl rfl (aQ ?_)))))))
         exact XF.round (f.cl - (i+1)) [(2,_),(3,_),(5,_)] (by omega) ⟨rfl,rfl,rfl,trivial⟩ ⟨i+1,by omega,rfl,rfl,mY hce hall (by simpa using hc77),hS.clear⟩
       ·have hc66:=of_decide_eq_false hc;clear hc
        refine dE (XF.thenX (XF.thenX (XF.blkX (XF.thenN (aL (aR (aA rfl rfl (aQ (XF.thenN (bJ (XF.blkR (XF.thenR (XF.res (cJ results93 rfl) ?_)))))))))))))
        exact ⟨bY (by rw [← hr];unfold fM;rw [hbb,hz,hon,if_neg hc21,if_neg hc37,if_pos hc49,hnm,tZ hm64 hcl (k:=i) (by rw [hf.cl];omega) hall];rfl),hS.below⟩
theorem Fn (p q:SV) (g:WF) (qs:List WV) {w:World} {e:Nat} (hw:WIn w (e+1) (.mk g qs)) (hz:g.z=false) (on:Bool):on=false∨(on=true∧g.pl≠2)∨(on=true∧∃ x y,g.z=false∧qs=[x,y]∧fM p.f.tag p.f.dim x.f=false)∨(on=true∧∃ x y,g.z=false∧qs=[x,y]∧fM p.f.tag p.f.dim x.f=true):=by
 cases on with
 | false=>exact .inl rfl
 | true =>
  rcases xR p q g qs hw with h | h | h | h
  ·rw [hz] at h;cases h
  ·exact .inr (.inl ⟨rfl,h.2⟩)
  ·exact .inr (.inr (.inl ⟨rfl,h⟩))
  ·exact .inr (.inr (.inr ⟨rfl,h⟩))
theorem Mu (d:Nat) (sa:Option Addr) (sc:Nat) (p q:SV) (g:WF) (qs:List WV) (w:World) (hsp:SIn w (d+1) (.mk ⟨5,0,sa,2,sc⟩ [p,q])) (hp:p.pl=true) (hq:q.pl=true) (e:Nat) (hw:WIn w (e+1) (.mk g qs)) (hs:∀ x∈qs,0≤x.f.rl) (r:Bool) (hr:gN p q g qs=r) :
  Calls prog 93 #[.agg #[.int .i64 5,.int .i64 0,.slice sa 2 sc],g.val] w (fun e w'=>e = .returned (.bool (r))∧Below w.heap.size w w'):=by
 refine cH (args:=[.agg #[.int .i64 5,.int .i64 0,.slice sa 2 sc],g.val]) func93 rfl ntmps93 rfl ?_
 have hS:=St.start w
 obtain ⟨_,b,off,ha,hb0,hp3,hq3,_,_⟩:=hsp.two
 obtain rfl:sa=some ⟨b,off,none⟩:=ha
 refine aL (aR (bK (cs:=[_,_,_]) hS rfl rfl rfl fun B1 W1 hS=>bK (cs:=[_,_,_,_,_,_]) hS rfl rfl rfl fun B2 W2 hS=>aA rfl rfl (aQ (XF.thenN (aL (aL (aR (aP (o':=0) dL rfl rfl rfl (aT isAgg4 rfl (aK (hS.at_ 0 rfl) rfl) rfl (aQ (XF.thenN (aZ rfl (fun hc=>?_) (fun hc=>?_)))))))))))))
 ·have hc7:=hc;clear hc
  refine aL (aR (aP (o':=0) dW rfl rfl rfl (aT isAgg22 rfl (aK (hS.at_ 1 rfl) rfl) rfl (dA rfl rfl rfl (aG rfl rfl (bS (d:=11) rfl (fun hc=>absurd (of_decide_eq_true hc) (by decide)) (fun hc=>?_)))))))
  have hc:=of_decide_eq_false hc
  refine aF (d:=11) rfl rfl rfl rfl (aF (d:=11) rfl rfl rfl rfl (bV rfl rfl rfl (aA rfl rfl (aQ (XF.thenN (bJ (XF.thenR (XF.res (cJ results93 rfl) ?_))))))))
  exact ⟨bY (by rw [← hr];unfold gN;rw [show g.z=true from hc7];simp),hS.below⟩
 ·have hc7:=hc;clear hc
  have hz0:g.z=false:=hc7
  refine bG (XF.thenN (aL (aL (aR (aP (o':=0) dW rfl rfl rfl (aT isAgg22 rfl (aK (hS.at_ 1 rfl) rfl) rfl (aQ (XF.thenN (bM (aL (aR (cM rfl rfl rfl (aA rfl rfl (aQ (XF.thenN (aZ rfl (fun hc=>absurd (of_decide_eq_true hc) (by decide)) (fun hc=>?_)))))))))))))))))
  have hc:=of_decide_eq_false hc
  refine aL (aR (cM rfl rfl rfl (aA rfl rfl (aQ (XF.thenN (aZ rfl (fun hc=>absurd (of_decide_eq_true hc) (by decide)) (fun hc=>?_)))))))
  have hc:=of_decide_eq_false hc
  refine aL (aR (cM rfl rfl rfl (aA rfl rfl (aQ (XF.thenN (aZ rfl (fun hc=>absurd (of_decide_eq_true hc) (by decide)) (fun hc=>?_)))))))
  have hc:=of_decide_eq_false hc
  refine aL (aR (cM rfl rfl rfl (aA rfl rfl (aQ (XF.thenN (aZ rfl (fun hc=>absurd (of_decide_eq_true hc) (by decide)) (fun hc=>?_)))))))
  have hc:=of_decide_eq_false hc
  refine bG (XF.blkN (XF.thenN (aL ?_)))
  obtain ⟨on,hon⟩:∃ b,iH false false false true g=b:=⟨_,rfl⟩
  have hbb:iI 5 g=on:=by rw [← hon];unfold iI;rw [hz0];simp
  rcases Fn p q g qs hw hz0 on with h1 | h1 | h1 | h1
  ·subst h1
   refine iE (m:=31) cE hS (by kernel_rfl) (by kernel_rfl) rfl (cC 1 rfl 3 rfl rfl (fun w hw=>bF (vs:=[_,_,_,_,_,_]) isAgg53 sizeOf53 rfl (aE.agree (aN hw 0) (Nat.zero_le _) (aE.own (j:=0) (m:=6) (hS.at_ 0 rfl) rfl))) rfl ?_)
   refine aM 2 rfl (isV (.bool false)) (aJ _) (cV [isV _,isV _,isV _,isV _,isV _] rfl jH (aU rfl) ⟨bZ (aO 0 (aB rfl rfl rfl)),fL,fL,fL,fL,trivial⟩ (fun vs w' hb hh=>by have e:=cB (us:=[_,_,_,_,_]) hh;subst e;exact (tH g _ hon _).mono fun e w2 h=>⟨_,h.1,rfl,h.2⟩) (aH rfl)) ?_
   refine aX 3 rfl 79 1 rfl rfl rfl (fun w hw=>bE rfl) rfl (aM 4 rfl (isV undef) (aJ _) (bT rfl (bU 80 rfl (aB rfl rfl rfl) rfl) (aH rfl)) (aM 5 rfl (isV undef) (aJ _) (bT rfl (bU 80 rfl (aB rfl rfl rfl) rfl) (aH rfl)) (aM 6 rfl (isV undef) (aJ _) (bT rfl (bU 80 rfl (aB rfl rfl rfl) rfl) (aH rfl)) (aM 7 rfl (isV undef) (aJ _) (bT rfl (bU 80 rfl (aB rfl rfl rfl) rfl) (aH rfl)) (aX 8 rfl 80 2 rfl rfl rfl (fun w hw=>eD rfl rfl) rfl (aX 9 rfl 85 7 rfl rfl rfl (fun w hw=>bE rfl) rfl (aM 10 rfl (isV undef) (aJ _) (bT rfl (bU 86 rfl (aB rfl rfl rfl) rfl) (aH rfl)) (aM 11 rfl (isV undef) (aJ _) (bT rfl (bU 86 rfl (aB rfl rfl rfl) rfl) (aH rfl)) (aM 12 rfl (isV undef) (aJ _) (bT rfl (bU 86 rfl (aB rfl rfl rfl) rfl) (aH rfl)) (aM 13 rfl (isV undef) (aJ _) (bT rfl (bU 86 rfl (aB rfl rfl rfl) rfl) (aH rfl)) (aM 14 rfl (isV undef) (aJ _) (bT rfl (bU 86 rfl (aB rfl rfl rfl) rfl) (aH rfl)) (aM 15 rfl (isV undef) (aJ _) (bT rfl (bU 86 rfl (aB rfl rfl rfl) rfl) (aH rfl)) (aM 16 rfl (isV undef) (aJ _) (bT rfl (bU 86 rfl (aB rfl rfl rfl) rfl) (aH rfl)) (aM 17 rfl (isV undef) (aJ _) (bT rfl (bU 86 rfl (aB rfl rfl rfl) rfl) (aH rfl)) (aM 18 rfl (isV undef) (aJ _) (bT rfl (bU 86 rfl (aB rfl rfl rfl) rfl) (aH rfl)) (aX 19 rfl 86 8 rfl rfl rfl (fun w hw=>eD rfl rfl) rfl (aX 20 rfl 96 18 rfl rfl rfl (fun w hw=>bE rfl) rfl (aM 21 rfl (isV undef) (aJ _) (bT rfl (bU 97 rfl (aB rfl rfl rfl) rfl) (aH rfl)) (aM 22 rfl (isV undef) (aJ _) (bT rfl (bU 97 rfl (aB rfl rfl rfl) rfl) (aH rfl)) (aM 23 rfl (isV undef) (aJ _) (bT rfl (bU 97 rfl (aB rfl rfl rfl) rfl) (aH rfl)) ?_))))))))))))))))))))
   refine aM 24 rfl (isV undef) (aJ _) (bT rfl (bU 97 rfl (aB rfl rfl rfl) rfl) (aH rfl)) (aM 25 rfl (isV undef) (aJ _) (bT rfl (bU 97 rfl (aB rfl rfl rfl) rfl) (aH rfl)) (aM 26 rfl (isV undef) (aJ _) (bT rfl (bU 97 rfl (aB rfl rfl rfl) rfl) (aH rfl)) (aM 27 rfl (isV undef) (aJ _) (bT rfl (bU 97 rfl (aB rfl rfl rfl) rfl) (aH rfl)) (aM 28 rfl (isV undef) (aJ _) (bT rfl (bU 97 rfl (aB rfl rfl rfl) rfl) (aH rfl)) (aM 29 rfl (isV undef) (aJ _) (bT rfl (bU 97 rfl (aB rfl rfl rfl) rfl) (aH rfl)) (aX 30 rfl 97 19 rfl rfl rfl (fun w hw=>eD rfl rfl) rfl (aX 31 rfl 107 29 rfl rfl rfl (fun w hw=>eM rfl) rfl (dC ?_))))))))
   intro W3 hbR hS'
   clear hS;have hS:=hS';clear hS'
   refine aI (aI (aI (aI (aI (aI (aI (aI (aI (aI (aI (aI (aI (aI (aI (aI (aI (aI (aI (aI (aI ?_))))))))))))))))))))
   refine aI (aI (aI (aI (aI (aI (aI (aI (aI (aI (cL (XF.thenN (bJ (XF.res (cJ results93 rfl) ?_)))))))))))))
   exact ⟨bY (by rw [← hr];unfold gN;rw [hbb];rfl),hS.below⟩
  ·obtain ⟨h1,h2⟩:=h1;subst h1
   refine iE (m:=31) cE hS (by kernel_rfl) (by kernel_rfl) rfl (cC 1 rfl 3 rfl rfl (fun w hw=>bF (vs:=[_,_,_,_,_,_]) isAgg53 sizeOf53 rfl (aE.agree (aN hw 0) (Nat.zero_le _) (aE.own (j:=0) (m:=6) (hS.at_ 0 rfl) rfl))) rfl ?_)
   refine aM 2 rfl (isV (.bool true)) (aJ _) (cV [isV _,isV _,isV _,isV _,isV _] rfl jH (aU rfl) ⟨bZ (aO 0 (aB rfl rfl rfl)),fL,fL,fL,fL,trivial⟩ (fun vs w' hb hh=>by have e:=cB (us:=[_,_,_,_,_]) hh;subst e;exact (tH _ _ hon _).mono fun e w2 h=>⟨_,h.1,rfl,h.2⟩) (aH rfl)) ?_
   refine aX 3 rfl 79 1 rfl rfl rfl (fun w hw=>bE rfl) rfl (aM 4 rfl (isV _) (aJ _) (rgV (li:=[(3,_)]) rfl (bQ 80 rfl (aB rfl rfl rfl)) ⟨cI rfl,trivial⟩ (fun w hw=>aW (o':=5) cP rfl rfl) (aH rfl)) (aM 5 rfl (isV _) (aJ _) (rgV (li:=[(81,_)]) rfl (bQ 80 rfl (aB rfl rfl rfl)) ⟨aO 3 (aB rfl rfl rfl),trivial⟩ (fun w hw=>bA isAgg51 rfl ((aN hw 0).cell (Nat.zero_le _) (aK (hS.at_ 0 rfl) rfl))) (aH rfl)) (aM 6 rfl (isV _) (aJ _) (rgV (li:=[(82,_)]) rfl (bQ 80 rfl (aB rfl rfl rfl)) ⟨aO 4 (aB rfl rfl rfl),trivial⟩ (fun w hw=>kP underlying51 rfl) (aH rfl)) (aM 7 rfl (isV (.bool false)) (aJ _) (kH (li:=[(83,_)]) rfl (bQ 80 rfl (aB rfl rfl rfl)) ⟨aO 5 (aB rfl rfl rfl),trivial⟩ (fun w hw=>jD rfl rfl) (by rw [decide_eq_false (by omega)]) (aH rfl)) (aM 8 rfl (isV _) (aJ _) (rgV (li:=[(80,_),(84,_)]) rfl (aU rfl) ⟨aO 2 (aB rfl rfl rfl),aO 6 (aB rfl rfl rfl),trivial⟩ (fun w hw=>dU rfl rfl) (aH rfl)) (aX 9 rfl 85 7 rfl rfl rfl (fun w hw=>bE rfl) rfl (aM 10 rfl (isV undef) (aJ _) (bT rfl (bU 86 rfl (aB rfl rfl rfl) rfl) (aH rfl)) (aM 11 rfl (isV undef) (aJ _) (bT rfl (bU 86 rfl (aB rfl rfl rfl) rfl) (aH rfl)) (aM 12 rfl (isV undef) (aJ _) (bT rfl (bU 86 rfl (aB rfl rfl rfl) rfl) (aH rfl)) (aM 13 rfl (isV undef) (aJ _) (bT rfl (bU 86 rfl (aB rfl rfl rfl) rfl) (aH rfl)) (aM 14 rfl (isV undef) (aJ _) (bT rfl (bU 86 rfl (aB rfl rfl rfl) rfl) (aH rfl)) (aM 15 rfl (isV undef) (aJ _) (bT rfl (bU 86 rfl (aB rfl rfl rfl) rfl) (aH rfl)) (aM 16 rfl (isV undef) (aJ _) (bT rfl (bU 86 rfl (aB rfl rfl rfl) rfl) (aH rfl)) (aM 17 rfl (isV undef) (aJ _) (bT rfl (bU 86 rfl (aB rfl rfl rfl) rfl) (aH rfl)) (aM 18 rfl (isV undef) (aJ _) (bT rfl (bU 86 rfl (aB rfl rfl rfl) rfl) (aH rfl)) (aX 19 rfl 86 8 rfl rfl rfl (fun w hw=>eD rfl rfl) rfl (aX 20 rfl 96 18 rfl rfl rfl (fun w hw=>bE rfl) rfl (aM 21 rfl (isV undef) (aJ _) (bT rfl (bU 97 rfl (aB rfl rfl rfl) rfl) (aH rfl)) (aM 22 rfl (isV undef) (aJ _) (bT rfl (bU 97 rfl (aB rfl rfl rfl) rfl) (aH rfl)) (aM 23 rfl (isV undef) (aJ _) (bT rfl (bU 97 rfl (aB rfl rfl rfl) rfl) (aH rfl)) ?_))))))))))))))))))))
   refine aM 24 rfl (isV undef) (aJ _) (bT rfl (bU 97 rfl (aB rfl rfl rfl) rfl) (aH rfl)) (aM 25 rfl (isV undef) (aJ _) (bT rfl (bU 97 rfl (aB rfl rfl rfl) rfl) (aH rfl)) (aM 26 rfl (isV undef) (aJ _) (bT rfl (bU 97 rfl (aB rfl rfl rfl) rfl) (aH rfl)) (aM 27 rfl (isV undef) (aJ _) (bT rfl (bU 97 rfl (aB rfl rfl rfl) rfl) (aH rfl)) (aM 28 rfl (isV undef) (aJ _) (bT rfl (bU 97 rfl (aB rfl rfl rfl) rfl) (aH rfl)) (aM 29 rfl (isV undef) (aJ _) (bT rfl (bU 97 rfl (aB rfl rfl rfl) rfl) (aH rfl)) (aX 30 rfl 97 19 rfl rfl rfl (fun w hw=>eD rfl rfl) rfl (aX 31 rfl 107 29 rfl rfl rfl (fun w hw=>eM rfl) rfl (dC ?_))))))))
   intro W4 hbR hS'
   clear hS;have hS:=hS';clear hS'
   refine aI (aI (aI (aI (aI (aI (aI (aI (aI (aI (aI (aI (aI (aI (aI (aI (aI (aI (aI (aI (aI ?_))))))))))))))))))))
   refine aI (aI (aI (aI (aI (aI (aI (aI (aI (aI (cL (XF.thenN (bJ (XF.res (cJ results93 rfl) ?_)))))))))))))
   exact ⟨bY (by rw [← hr];unfold gN;rw [hbb,hz0,show decide (qs.length=2)=false from decide_eq_false (by have h9:qs.length=g.pl:=hw.2.1;omega)];rfl),hS.below⟩
  ·obtain ⟨h0,h1⟩:=h1;subst h0
   obtain ⟨x,y,hz,rfl,hx1⟩:=h1
   obtain ⟨hpl,b2,off2,hpa,hb2,hx6,hy6,hxi,hyi⟩:=hw.two
   obtain ⟨gz,gc,gg,gra,grl,grc,grows,gca,gcl,gcc,gcells,gpa,gpl,gpc⟩:=g
   dsimp only at hpl hpa hz
   subst hpl;subst hpa
   refine iE (m:=31) cE hS (by kernel_rfl) (by kernel_rfl) rfl (cC 1 rfl 3 rfl rfl (fun w hw=>bF (vs:=[_,_,_,_,_,_]) isAgg53 sizeOf53 rfl (aE.agree (aN hw 0) (Nat.zero_le _) (aE.own (j:=0) (m:=6) (hS.at_ 0 rfl) rfl))) rfl ?_)
   refine aM 2 rfl (isV (.bool true)) (aJ _) (cV [isV _,isV _,isV _,isV _,isV _] rfl jH (aU rfl) ⟨bZ (aO 0 (aB rfl rfl rfl)),fL,fL,fL,fL,trivial⟩ (fun vs w' hb hh=>by have e:=cB (us:=[_,_,_,_,_]) hh;subst e;exact (tH _ _ hon _).mono fun e w2 h=>⟨_,h.1,rfl,h.2⟩) (aH rfl)) ?_
   refine aX 3 rfl 79 1 rfl rfl rfl (fun w hw=>bE rfl) rfl (aM 4 rfl (isV _) (aJ _) (rgV (li:=[(3,_)]) rfl (bQ 80 rfl (aB rfl rfl rfl)) ⟨cI rfl,trivial⟩ (fun w hw=>aW (o':=5) cP rfl rfl) (aH rfl)) (aM 5 rfl (isV _) (aJ _) (rgV (li:=[(81,_)]) rfl (bQ 80 rfl (aB rfl rfl rfl)) ⟨aO 3 (aB rfl rfl rfl),trivial⟩ (fun w hw=>bA isAgg51 rfl ((aN hw 0).cell (Nat.zero_le _) (aK (hS.at_ 0 rfl) rfl))) (aH rfl)) (aM 6 rfl (isV _) (aJ _) (rgV (li:=[(82,_)]) rfl (bQ 80 rfl (aB rfl rfl rfl)) ⟨aO 4 (aB rfl rfl rfl),trivial⟩ (fun w hw=>kP underlying51 rfl) (aH rfl)) (aM 7 rfl (isV (.bool true)) (aJ _) (kH (li:=[(83,_)]) rfl (bQ 80 rfl (aB rfl rfl rfl)) ⟨aO 5 (aB rfl rfl rfl),trivial⟩ (fun w hw=>jD rfl rfl) (rfl) (aH rfl)) (aM 8 rfl (isV _) (aJ _) (rgV (li:=[(80,_),(84,_)]) rfl (aU rfl) ⟨aO 2 (aB rfl rfl rfl),aO 6 (aB rfl rfl rfl),trivial⟩ (fun w hw=>dU rfl rfl) (aH rfl)) (aX 9 rfl 85 7 rfl rfl rfl (fun w hw=>bE rfl) rfl (aM 10 rfl (isV _) (aJ _) (rgV (li:=[(2,_)]) rfl (bQ 86 rfl (aB rfl rfl rfl)) ⟨cI rfl,trivial⟩ (fun w hw=>aW (o':=2) dI rfl rfl) (aH rfl)) (aM 11 rfl (isV _) (aJ _) (rgV (li:=[(87,_)]) rfl (bQ 86 rfl (aB rfl rfl rfl)) ⟨aO 9 (aB rfl rfl rfl),trivial⟩ (fun w hw=>bA isAgg23 rfl ((aN hw 0).cell (Nat.zero_le _) (aK (hS.at_ 1 rfl) rfl))) (aH rfl)) ?_))))))))
   refine aM 12 rfl (isV _) (aJ _) (rgV (li:=[(88,_)]) rfl (bQ 86 rfl (aB rfl rfl rfl)) ⟨aO 10 (aB rfl rfl rfl),trivial⟩ (fun w hw=>bB (j:=0) underlying23 sizeOf25 rfl rfl rfl (by show _ < 2;decide) (Nat.add_zero _)) (aH rfl)) ?_
   refine aM 13 rfl (isV _) (aJ _) (rgV (li:=[(89,_)]) rfl (bQ 86 rfl (aB rfl rfl rfl)) ⟨aO 11 (aB rfl rfl rfl),trivial⟩ (fun w hw=>bF (vs:=[_,_,_]) isAgg25 sizeOf25 rfl (aE.agree (aN hw 0) (Nat.zero_le _) (aE.agree hS.agree (Nat.zero_le _) hp3.cells))) (aH rfl)) (aM 14 rfl (isV _) (aJ _) (rgV (li:=[(3,_)]) rfl (bQ 86 rfl (aB rfl rfl rfl)) ⟨cI rfl,trivial⟩ (fun w hw=>aW (o':=5) cP rfl rfl) (aH rfl)) (aM 15 rfl (isV _) (aJ _) (rgV (li:=[(91,_)]) rfl (bQ 86 rfl (aB rfl rfl rfl)) ⟨aO 13 (aB rfl rfl rfl),trivial⟩ (fun w hw=>bA isAgg51 rfl ((aN hw 0).cell (Nat.zero_le _) (aK (hS.at_ 0 rfl) rfl))) (aH rfl)) ?_))
   refine aM 16 rfl (isV _) (aJ _) (rgV (li:=[(92,_)]) rfl (bQ 86 rfl (aB rfl rfl rfl)) ⟨aO 14 (aB rfl rfl rfl),trivial⟩ (fun w hw=>bB (j:=0) underlying51 sizeOf53 rfl rfl rfl (by show _ < 2;decide) (Nat.add_zero _)) (aH rfl)) ?_
   refine aM 17 rfl (isV _) (aJ _) (rgV (li:=[(93,_)]) rfl (bQ 86 rfl (aB rfl rfl rfl)) ⟨aO 15 (aB rfl rfl rfl),trivial⟩ (fun w hw=>bF (vs:=[_,_,_,_,_,_]) isAgg53 sizeOf53 rfl (aE.agree (aN hw 0) (Nat.zero_le _) (aE.agree hS.agree (Nat.zero_le _) hx6.cells))) (aH rfl)) ?_
   refine aM 18 rfl (isV (.bool false)) (aJ _) (cV [isV _,isV _] rfl wA (bQ 86 rfl (aB rfl rfl rfl)) ⟨bZ (aO 12 (aB rfl rfl rfl)),bZ (aO 16 (aB rfl rfl rfl)),trivial⟩ (fun vs w' hb hh=>by have e:=cB (us:=[_,_]) hh;subst e;exact (oB p.f.tag p.f.dim p.f.a p.f.len p.f.cap x.f hp (Nat.zero_le _) _ (hxi.at_.below (hS.below.trans (hb.mono hS.below.size))) _ hx1).mono fun e w2 h=>⟨_,h.1,rfl,h.2⟩) (aH rfl)) ?_
   refine aM 19 rfl (isV _) (aJ _) (rgV (li:=[(86,_),(95,_)]) rfl (aU rfl) ⟨aO 8 (aB rfl rfl rfl),aO 17 (aB rfl rfl rfl),trivial⟩ (fun w hw=>dU rfl rfl) (aH rfl)) (aX 20 rfl 96 18 rfl rfl rfl (fun w hw=>bE rfl) rfl (aM 21 rfl (isV undef) (aJ _) (bT rfl (bU 97 rfl (aB rfl rfl rfl) rfl) (aH rfl)) (aM 22 rfl (isV undef) (aJ _) (bT rfl (bU 97 rfl (aB rfl rfl rfl) rfl) (aH rfl)) (aM 23 rfl (isV undef) (aJ _) (bT rfl (bU 97 rfl (aB rfl rfl rfl) rfl) (aH rfl)) (aM 24 rfl (isV undef) (aJ _) (bT rfl (bU 97 rfl (aB rfl rfl rfl) rfl) (aH rfl)) (aM 25 rfl (isV undef) (aJ _) (bT rfl (bU 97 rfl (aB rfl rfl rfl) rfl) (aH rfl)) (aM 26 rfl (isV undef) (aJ _) (bT rfl (bU 97 rfl (aB rfl rfl rfl) rfl) (aH rfl)) (aM 27 rfl (isV undef) (aJ _) (bT rfl (bU 97 rfl (aB rfl rfl rfl) rfl) (aH rfl)) (aM 28 rfl (isV undef) (aJ _) (bT rfl (bU 97 rfl (aB rfl rfl rfl) rfl) (aH rfl)) (aM 29 rfl (isV undef) (aJ _) (bT rfl (bU 97 rfl (aB rfl rfl rfl) rfl) (aH rfl)) (aX 30 rfl 97 19 rfl rfl rfl (fun w hw=>eD rfl rfl) rfl (aX 31 rfl 107 29 rfl rfl rfl (fun w hw=>eM rfl) rfl (dC ?_)))))))))))))
   intro W5 hbR hS'
   clear hS;have hS:=hS';clear hS'
   refine aI (aI (aI (aI (aI (aI (aI (aI (aI (aI (aI (aI (aI (aI (aI (aI (aI (aI (aI (aI (aI ?_))))))))))))))))))))
   refine aI (aI (aI (aI (aI (aI (aI (aI (aI (aI (cL (XF.thenN (bJ (XF.res (cJ results93 rfl) ?_)))))))))))))
   exact ⟨bY (by rw [← hr];unfold gN;rw [hbb];show _=(true && (!gz && (true && (fM p.f.tag p.f.dim x.f && fM q.f.tag q.f.dim y.f))));rw [hz,hx1];rfl),hS.below⟩
  ·obtain ⟨h0,h1⟩:=h1;subst h0
   obtain ⟨x,y,hz,rfl,hx1⟩:=h1
   obtain ⟨hpl,b2,off2,hpa,hb2,hx6,hy6,hxi,hyi⟩:=hw.two
   obtain ⟨gz,gc,gg,gra,grl,grc,grows,gca,gcl,gcc,gcells,gpa,gpl,gpc⟩:=g
   dsimp only at hpl hpa hz
   subst hpl;subst hpa
   refine iE (m:=31) cE hS (by kernel_rfl) (by kernel_rfl) rfl (cC 1 rfl 3 rfl rfl (fun w hw=>bF (vs:=[_,_,_,_,_,_]) isAgg53 sizeOf53 rfl (aE.agree (aN hw 0) (Nat.zero_le _) (aE.own (j:=0) (m:=6) (hS.at_ 0 rfl) rfl))) rfl ?_)
   refine aM 2 rfl (isV (.bool true)) (aJ _) (cV [isV _,isV _,isV _,isV _,isV _] rfl jH (aU rfl) ⟨bZ (aO 0 (aB rfl rfl rfl)),fL,fL,fL,fL,trivial⟩ (fun vs w' hb hh=>by have e:=cB (us:=[_,_,_,_,_]) hh;subst e;exact (tH _ _ hon _).mono fun e w2 h=>⟨_,h.1,rfl,h.2⟩) (aH rfl)) ?_
   refine aX 3 rfl 79 1 rfl rfl rfl (fun w hw=>bE rfl) rfl (aM 4 rfl (isV _) (aJ _) (rgV (li:=[(3,_)]) rfl (bQ 80 rfl (aB rfl rfl rfl)) ⟨cI rfl,trivial⟩ (fun w hw=>aW (o':=5) cP rfl rfl) (aH rfl)) (aM 5 rfl (isV _) (aJ _) (rgV (li:=[(81,_)]) rfl (bQ 80 rfl (aB rfl rfl rfl)) ⟨aO 3 (aB rfl rfl rfl),trivial⟩ (fun w hw=>bA isAgg51 rfl ((aN hw 0).cell (Nat.zero_le _) (aK (hS.at_ 0 rfl) rfl))) (aH rfl)) (aM 6 rfl (isV _) (aJ _) (rgV (li:=[(82,_)]) rfl (bQ 80 rfl (aB rfl rfl rfl)) ⟨aO 4 (aB rfl rfl rfl),trivial⟩ (fun w hw=>kP underlying51 rfl) (aH rfl)) (aM 7 rfl (isV (.bool true)) (aJ _) (kH (li:=[(83,_)]) rfl (bQ 80 rfl (aB rfl rfl rfl)) ⟨aO 5 (aB rfl rfl rfl),trivial⟩ (fun w hw=>jD rfl rfl) (rfl) (aH rfl)) (aM 8 rfl (isV _) (aJ _) (rgV (li:=[(80,_),(84,_)]) rfl (aU rfl) ⟨aO 2 (aB rfl rfl rfl),aO 6 (aB rfl rfl rfl),trivial⟩ (fun w hw=>dU rfl rfl) (aH rfl)) (aX 9 rfl 85 7 rfl rfl rfl (fun w hw=>bE rfl) rfl (aM 10 rfl (isV _) (aJ _) (rgV (li:=[(2,_)]) rfl (bQ 86 rfl (aB rfl rfl rfl)) ⟨cI rfl,trivial⟩ (fun w hw=>aW (o':=2) dI rfl rfl) (aH rfl)) (aM 11 rfl (isV _) (aJ _) (rgV (li:=[(87,_)]) rfl (bQ 86 rfl (aB rfl rfl rfl)) ⟨aO 9 (aB rfl rfl rfl),trivial⟩ (fun w hw=>bA isAgg23 rfl ((aN hw 0).cell (Nat.zero_le _) (aK (hS.at_ 1 rfl) rfl))) (aH rfl)) ?_))))))))
   refine aM 12 rfl (isV _) (aJ _) (rgV (li:=[(88,_)]) rfl (bQ 86 rfl (aB rfl rfl rfl)) ⟨aO 10 (aB rfl rfl rfl),trivial⟩ (fun w hw=>bB (j:=0) underlying23 sizeOf25 rfl rfl rfl (by show _ < 2;decide) (Nat.add_zero _)) (aH rfl)) ?_
   refine aM 13 rfl (isV _) (aJ _) (rgV (li:=[(89,_)]) rfl (bQ 86 rfl (aB rfl rfl rfl)) ⟨aO 11 (aB rfl rfl rfl),trivial⟩ (fun w hw=>bF (vs:=[_,_,_]) isAgg25 sizeOf25 rfl (aE.agree (aN hw 0) (Nat.zero_le _) (aE.agree hS.agree (Nat.zero_le _) hp3.cells))) (aH rfl)) (aM 14 rfl (isV _) (aJ _) (rgV (li:=[(3,_)]) rfl (bQ 86 rfl (aB rfl rfl rfl)) ⟨cI rfl,trivial⟩ (fun w hw=>aW (o':=5) cP rfl rfl) (aH rfl)) (aM 15 rfl (isV _) (aJ _) (rgV (li:=[(91,_)]) rfl (bQ 86 rfl (aB rfl rfl rfl)) ⟨aO 13 (aB rfl rfl rfl),trivial⟩ (fun w hw=>bA isAgg51 rfl ((aN hw 0).cell (Nat.zero_le _) (aK (hS.at_ 0 rfl) rfl))) (aH rfl)) ?_))
   refine aM 16 rfl (isV _) (aJ _) (rgV (li:=[(92,_)]) rfl (bQ 86 rfl (aB rfl rfl rfl)) ⟨aO 14 (aB rfl rfl rfl),trivial⟩ (fun w hw=>bB (j:=0) underlying51 sizeOf53 rfl rfl rfl (by show _ < 2;decide) (Nat.add_zero _)) (aH rfl)) ?_
   refine aM 17 rfl (isV _) (aJ _) (rgV (li:=[(93,_)]) rfl (bQ 86 rfl (aB rfl rfl rfl)) ⟨aO 15 (aB rfl rfl rfl),trivial⟩ (fun w hw=>bF (vs:=[_,_,_,_,_,_]) isAgg53 sizeOf53 rfl (aE.agree (aN hw 0) (Nat.zero_le _) (aE.agree hS.agree (Nat.zero_le _) hx6.cells))) (aH rfl)) ?_
   refine aM 18 rfl (isV (.bool true)) (aJ _) (cV [isV _,isV _] rfl wA (bQ 86 rfl (aB rfl rfl rfl)) ⟨bZ (aO 12 (aB rfl rfl rfl)),bZ (aO 16 (aB rfl rfl rfl)),trivial⟩ (fun vs w' hb hh=>by have e:=cB (us:=[_,_]) hh;subst e;exact (oB p.f.tag p.f.dim p.f.a p.f.len p.f.cap x.f hp (Nat.zero_le _) _ (hxi.at_.below (hS.below.trans (hb.mono hS.below.size))) _ hx1).mono fun e w2 h=>⟨_,h.1,rfl,h.2⟩) (aH rfl)) ?_
   refine aM 19 rfl (isV _) (aJ _) (rgV (li:=[(86,_),(95,_)]) rfl (aU rfl) ⟨aO 8 (aB rfl rfl rfl),aO 17 (aB rfl rfl rfl),trivial⟩ (fun w hw=>dU rfl rfl) (aH rfl)) (aX 20 rfl 96 18 rfl rfl rfl (fun w hw=>bE rfl) rfl (aM 21 rfl (isV _) (aJ _) (rgV (li:=[(2,_)]) rfl (bQ 97 rfl (aB rfl rfl rfl)) ⟨cI rfl,trivial⟩ (fun w hw=>aW (o':=2) dI rfl rfl) (aH rfl)) (aM 22 rfl (isV _) (aJ _) (rgV (li:=[(98,_)]) rfl (bQ 97 rfl (aB rfl rfl rfl)) ⟨aO 20 (aB rfl rfl rfl),trivial⟩ (fun w hw=>bA isAgg23 rfl ((aN hw 0).cell (Nat.zero_le _) (aK (hS.at_ 1 rfl) rfl))) (aH rfl)) ?_)))
   refine aM 23 rfl (isV _) (aJ _) (rgV (li:=[(99,_)]) rfl (bQ 97 rfl (aB rfl rfl rfl)) ⟨aO 21 (aB rfl rfl rfl),trivial⟩ (fun w hw=>bB (j:=1) underlying23 sizeOf25 rfl rfl rfl (by show _ < 2;decide) rfl) (aH rfl)) ?_
   refine aM 24 rfl (isV _) (aJ _) (rgV (li:=[(100,_)]) rfl (bQ 97 rfl (aB rfl rfl rfl)) ⟨aO 22 (aB rfl rfl rfl),trivial⟩ (fun w hw=>bF (vs:=[_,_,_]) isAgg25 sizeOf25 rfl (aE.agree (aN hw 0) (Nat.zero_le _) (aE.agree hS.agree (Nat.zero_le _) hq3.cells))) (aH rfl)) (aM 25 rfl (isV _) (aJ _) (rgV (li:=[(3,_)]) rfl (bQ 97 rfl (aB rfl rfl rfl)) ⟨cI rfl,trivial⟩ (fun w hw=>aW (o':=5) cP rfl rfl) (aH rfl)) (aM 26 rfl (isV _) (aJ _) (rgV (li:=[(102,_)]) rfl (bQ 97 rfl (aB rfl rfl rfl)) ⟨aO 24 (aB rfl rfl rfl),trivial⟩ (fun w hw=>bA isAgg51 rfl ((aN hw 0).cell (Nat.zero_le _) (aK (hS.at_ 0 rfl) rfl))) (aH rfl)) ?_))
   refine aM 27 rfl (isV _) (aJ _) (rgV (li:=[(103,_)]) rfl (bQ 97 rfl (aB rfl rfl rfl)) ⟨aO 25 (aB rfl rfl rfl),trivial⟩ (fun w hw=>bB (j:=1) underlying51 sizeOf53 rfl rfl rfl (by show _ < 2;decide) rfl) (aH rfl)) ?_
   refine aM 28 rfl (isV _) (aJ _) (rgV (li:=[(104,_)]) rfl (bQ 97 rfl (aB rfl rfl rfl)) ⟨aO 26 (aB rfl rfl rfl),trivial⟩ (fun w hw=>bF (vs:=[_,_,_,_,_,_]) isAgg53 sizeOf53 rfl (aE.agree (aN hw 0) (Nat.zero_le _) (aE.agree hS.agree (Nat.zero_le _) hy6.cells))) (aH rfl)) ?_
   refine aM 29 rfl (isV (.bool (fM q.f.tag q.f.dim y.f))) (aJ _) (cV [isV _,isV _] rfl wA (bQ 97 rfl (aB rfl rfl rfl)) ⟨bZ (aO 23 (aB rfl rfl rfl)),bZ (aO 27 (aB rfl rfl rfl)),trivial⟩ (fun vs w' hb hh=>by have e:=cB (us:=[_,_]) hh;subst e;exact (oB q.f.tag q.f.dim q.f.a q.f.len q.f.cap y.f hq (Nat.zero_le _) _ (hyi.at_.below (hS.below.trans (hb.mono hS.below.size))) _ rfl).mono fun e w2 h=>⟨_,h.1,rfl,h.2⟩) (aH rfl)) ?_
   refine aM 30 rfl (isV _) (aJ _) (rgV (li:=[(97,_),(106,_)]) rfl (aU rfl) ⟨aO 19 (aB rfl rfl rfl),aO 28 (aB rfl rfl rfl),trivial⟩ (fun w hw=>dU rfl rfl) (aH rfl)) (aX 31 rfl 107 29 rfl rfl rfl (fun w hw=>eM rfl) rfl (dC ?_))
   intro W6 hbR hS'
   clear hS;have hS:=hS';clear hS'
   refine aI (aI (aI (aI (aI (aI (aI (aI (aI (aI (aI (aI (aI (aI (aI (aI (aI (aI (aI (aI (aI ?_))))))))))))))))))))
   refine aI (aI (aI (aI (aI (aI (aI (aI (aI (aI (cL (XF.thenN (bJ (XF.res (cJ results93 rfl) ?_)))))))))))))
   exact ⟨bY (by rw [← hr];unfold gN;rw [hbb];show _=(true && (!gz && (true && (fM p.f.tag p.f.dim x.f && fM q.f.tag q.f.dim y.f))));rw [hz,hx1];rfl),hS.below⟩
attribute [local go_sem ↓] Go.wp_at_zero Go.wp_at_succ
theorem vE {w:World} {base:Nat} {v:Value} {n:Nat} {rows:List Nat} (h:w.ownsRow base 46 1 v n (u64s rows)) :
  n=rows.length∧∃ a cap,v = .slice a n cap∧fP w a (u64s rows)∧∀ ad,a=some ad→base≤ad.block:=by
 have hl:=h.1
 rw [fE] at hl
 refine ⟨by omega,?_⟩
 rcases h.2 with ⟨rfl,hn⟩ | ⟨g,cap,cur,rfl,hg,hh,h1,h2,h3,h4⟩
 ·have:rows=[]:=List.length_eq_zero_iff.1 (by omega)
  subst this
  exact ⟨none,0,by rw [hn],.inl rfl,fun ad e=>by cases e⟩
 ·refine ⟨some ⟨g,0,none⟩,cap,rfl,.inr ⟨g,0,rfl,fun i u hi=>?_⟩,fun ad e=>by cases e;exact hg⟩
  rw [← h4] at hi
  rw [List.getElem?_take] at hi
  split at hi
  ·unfold World.cell?
   simp only [hh,Nat.zero_add]
   simpa using hi
  ·cases hi
theorem PIs.rows64 {w:World} {t n:Int} {l:Nat} {f:WF} {a:PF} (h:PIs w t n f a):f.rl≤64∧f.cl≤64:=by
 have h1:=h.at_.rl;have h2:=h.at_.cl;have h3:=h.pf;have h4:=h.ok
 subst h3
 unfold WF.pf at h4
 generalize hr:f.rows=rows at *
 generalize hc:f.cells=cells at *
 generalize f.g=g at *
 generalize f.z=z at *
 generalize f.c=c at *
 have key:rows.length≤64∧cells.length≤64:=by
  generalize hp:(⟨z,c,g,rows,cells⟩:PF)=p at h4
  cases h4 with
  | zero=>cases hp;exact ⟨by decide,by decide⟩
  | bool h=>cases hp;exact ⟨by decide,by decide⟩
  | cost c h h0 h1=>cases hp;exact ⟨by decide,by decide⟩
  | facts m g rows h hn hg=>cases hp;exact ⟨by rw [hg.hl];exact hg.hm,by decide⟩
  | cells m cs h hn hv=>cases hp;exact ⟨by decide,by rw [hv.len];exact hv.le⟩
 omega
theorem Ai (a:Option Addr) (cap:Nat) (cs:List Cl) (w:World) (hm:cs.length≤64) (hrow:fN w a cs) (n:Nat) (hn:cs.length=n) :
  Calls prog 98 #[.slice a n cap] w fun e w'=>∃ a2 c2,e = .returned (.slice a2 n c2)∧fN w' a2 cs∧(∀ ad,a2=some ad→w.heap.size≤ad.block)∧Below w.heap.size w w':=by
 subst hn
 refine (zZ a cap cs w hm hrow).mono ?_
 rintro e w' ⟨v,rfl,hown,hb⟩
 obtain ⟨_,a2,c2,rfl,hr,hl⟩:=fF hown
 exact ⟨a2,c2,rfl,hr,fun ad e=>(hl ad e).1,hb⟩
theorem jI (t n:Int) (f:WF) (x:PF) (w:World) (h:PIs w t n f x) :
  Calls prog 79 #[f.val] w fun e w'=>∃ g:WF,e = .returned g.val∧PNew w.heap.size w' t n g x∧Below w.heap.size w w':=by
 obtain ⟨r64,c64⟩:=h.rows64 (l:=0)
 have HI:=Lib.hid h
 have hrl:=h.at_.rl;have hcl:=h.at_.cl;have hpl:=h.pl
 obtain ⟨z,c,g,ra,rl,rc,rows,ca,cl,cc,cells,pa,pl,pc⟩:=f
 dsimp only at hrl hcl hpl r64 c64
 subst hpl
 show Calls prog 79 #[.agg #[.bool z,.int .i64 c,.int .u64 (g:Int),.slice ra rl rc,.slice ca cl cc,.slice pa 0 pc]] w _
 have HRL:=Lib.hid hrl;have HCL:=Lib.hid hcl
 obtain ⟨t0,t1⟩:=lQ w #[.bool z,.int .i64 c,.int .u64 (g:Int),.slice ra rl rc,.slice ca cl cc,.slice pa 0 pc] #[.bool false,.int .i64 0,.int .u64 0,.slice none 0 0,.slice none 0 0,.slice none 0 0] 53 53
 have T0:=Lib.hid t0;have T1:=Lib.hid t1
 have hB:=Lib.hid (L0 w #[.bool z,.int .i64 c,.int .u64 (g:Int),.slice ra rl rc,.slice ca cl cc,.slice pa 0 pc] #[.bool false,.int .i64 0,.int .u64 0,.slice none 0 0,.slice none 0 0,.slice none 0 0] 53 53)
 have hsz:((w.alloc (.cells #[.bool z,.int .i64 c,.int .u64 (g:Int),.slice ra rl rc,.slice ca cl cc,.slice pa 0 pc] 53)).alloc (.cells #[.bool false,.int .i64 0,.int .u64 0,.slice none 0 0,.slice none 0 0,.slice none 0 0] 53)).heap.size=w.heap.size+1+1:=by simp
 obtain ⟨W0,hW0⟩:∃ W,(w.alloc (.cells #[.bool z,.int .i64 c,.int .u64 (g:Int),.slice ra rl rc,.slice ca cl cc,.slice pa 0 pc] 53)).alloc (.cells #[.bool false,.int .i64 0,.int .u64 0,.slice none 0 0,.slice none 0 0,.slice none 0 0] 53)=W:=⟨_,rfl⟩
 rw [hW0] at hB T0 T1 hsz
 have HSZ:=Lib.hid hsz
 obtain ⟨x0,x1,x2,x3,x4,x5⟩:=eU T0.out
 have HAT:Hid (WF.At w ⟨z,c,g,ra,rl,rc,rows,ca,cl,cc,cells,pa,0,pc⟩):=h.at_
 have R64:=Lib.hid r64;have C64:=Lib.hid c64
 clear t0 t1 hsz h hrl hcl r64 c64
 go_enter func79,ntmps79
 go_wp2_with fail
 refine (wV ra rc rows _ (by rw [HRL.out];exact Nat.le_trans R64.out (by decide)) (HAT.out.rows.below hB.out) rl HRL.out).mono ?_
 rintro e w1 ⟨v,rfl,hown,hb1⟩
 obtain ⟨a1,c1,rfl,hv1,hl1⟩:=(vE hown).2
 have HV1:=Lib.hid hv1;have HL1:=Lib.hid hl1
 clear hown hv1 hl1 x0 x1 x2 x3 x4 x5
 have U0:=Lib.hid (cG T0.out hb1);have U1:=Lib.hid (cG T1.out hb1)
 have hB1:=Lib.hid (hB.out.trans (hb1.mono hB.out.size))
 obtain ⟨x0,x1,x2,x3,x4,x5⟩:=eU U0.out
 have f3:=eB U0.out 3
 have V0:=Lib.hid (heap_setCell_same w1 w.heap.size 3 _ _ (.slice a1 rl c1) U0.out)
 have hne:w.heap.size+1≠w.heap.size:=by omega
 have V1:=Lib.hid (dH (B:=w.heap.size) (j:=3) (c:=.slice a1 rl c1) U1.out hne)
 have hB2:=Lib.hid (hB1.out.setCell (p:=⟨w.heap.size,3,none⟩) (Nat.le_refl _) (.slice a1 rl c1))
 have hs1:W0.heap.size≤(w1.setCell ⟨w.heap.size,3,none⟩ (.slice a1 rl c1)).heap.size:=by simpa [World.setCell] using hb1.size
 have HS1:=Lib.hid hs1
 obtain ⟨W1,hW1⟩:∃ W,w1.setCell ⟨w.heap.size,3,none⟩ (.slice a1 rl c1)=W:=⟨_,rfl⟩
 have HA1:=Lib.hid (HV1.out.above HL1.out ((jF.refl W0.heap.size w1).setCell (p:=⟨w.heap.size,3,none⟩) (by have:=HSZ.out;show w.heap.size < _;omega) (.slice a1 rl c1)))
 rw [hW1] at V0 V1 hB2 HS1 HA1
 clear hs1 hne x0 x1 x2 x4 x5
 obtain ⟨y0,y1,y2,y3,y4,y5⟩:=eU V0.out
 go_wp2_with fail
 refine (Ai ca cc cells _ (by rw [HCL.out];exact C64.out) (HAT.out.cells.below hB2.out) cl HCL.out).mono ?_
 rintro e w2 ⟨a2,c2,rfl,hv2,hl2,hb2⟩
 have HV2:=Lib.hid hv2;have HL2:=Lib.hid hl2
 clear hv2 hl2 x3 y0 y1 y2 y3 y4 y5 f3
 have Y0:=Lib.hid (cG V0.out hb2);have Y1:=Lib.hid (cG V1.out hb2)
 obtain ⟨x0,x1,x2,x3,x4,x5⟩:=eU Y0.out
 have f4:=eB Y0.out 4
 have hB3:=Lib.hid (hB2.out.trans (hb2.mono hB2.out.size))
 have Z0:=Lib.hid (heap_setCell_same w2 w.heap.size 4 _ _ (.slice a2 cl c2) Y0.out)
 have hne:w.heap.size+1≠w.heap.size:=by omega
 have Z1:=Lib.hid (dH (B:=w.heap.size) (j:=4) (c:=.slice a2 cl c2) Y1.out hne)
 have hB4:=Lib.hid (hB3.out.setCell (p:=⟨w.heap.size,4,none⟩) (Nat.le_refl _) (.slice a2 cl c2))
 have HR1:=Lib.hid ((HA1.out.below hb2).above HL1.out ((jF.refl W0.heap.size w2).setCell (p:=⟨w.heap.size,4,none⟩) (by have:=HSZ.out;show w.heap.size < _;omega) (.slice a2 cl c2)))
 have HL3:Hid (∀ ad,a2=some ad→W0.heap.size≤ad.block):=fun ad e=>Nat.le_trans HS1.out (HL2.out ad e)
 have HR2:=Lib.hid (HV2.out.above HL3.out ((jF.refl W0.heap.size w2).setCell (p:=⟨w.heap.size,4,none⟩) (by have:=HSZ.out;show w.heap.size < _;omega) (.slice a2 cl c2)))
 obtain ⟨W2,hW2⟩:∃ W,w2.setCell ⟨w.heap.size,4,none⟩ (.slice a2 cl c2)=W:=⟨_,rfl⟩
 rw [hW2] at Z0 Z1 hB4 HR1 HR2
 clear hne
 obtain ⟨p0,p1,p2,p3,p4,p5⟩:=eU Z0.out
 have f5:=eB Z0.out 5
 go_wp2_with fail
 go_loopw [3,19] (fun p i wr=>p = .slice none 0 0∧i = .int .i64 0∧W2=wr) (fun _ _ _=>0)
 case atStart=>exact ⟨rfl,rfl,rfl⟩
 case round =>
  obtain ⟨rfl,rfl,rfl⟩:=hrel
  have N0:=Lib.hid (heap_setCell_same W2 w.heap.size 5 _ _ (.slice none 0 0) Z0.out)
  have hne:w.heap.size+1≠w.heap.size:=by omega
  have N1:=Lib.hid (dH (B:=w.heap.size) (j:=5) (c:=.slice none 0 0) Z1.out hne)
  obtain ⟨W3,hW3⟩:∃ W,W2.setCell ⟨w.heap.size,5,none⟩ (.slice none 0 0)=W:=⟨_,rfl⟩
  rw [hW3] at N0 N1
  have K0:=N0.out
  obtain ⟨q0,q1,q2,q3,q4,q5⟩:=eU N0.out
  obtain ⟨r0,r1,r2,r3,r4,r5⟩:=eU N1.out
  have g0:=eB N1.out 0;have g1:=eB N1.out 1;have g2:=eB N1.out 2;have g3:=eB N1.out 3;have g4:=eB N1.out 4;have g5:=eB N1.out 5
  have hA3:jF W0.heap.size W2 W3:=by rw [← hW3];exact (jF.refl W0.heap.size W2).setCell (p:=⟨w.heap.size,5,none⟩) (by have:=HSZ.out;show w.heap.size < _;omega) _
  have HA3:=Lib.hid hA3
  have hB5:Hid (Below w.heap.size w W3):=by show Below _ _ _;rw [← hW3];exact hB4.out.setCell (p:=⟨w.heap.size,5,none⟩) (Nat.le_refl _) _
  clear K0 hne hA3
  go_wp2_with fail
  have NS:=Lib.hid (Kg (v0:=.bool z) (v1:=.int .i64 c) (v2:=.int .u64 (g:Int)) (v3:=.slice a1 rl c1) (v4:=.slice a2 cl c2) (v5:=.slice none 0 0) N1.out)
  obtain ⟨s0,s1,s2,s3,s4,s5⟩:=eU NS.out
  have hlt:=HSZ.out
  refine bodyPost_ret (v:=.agg #[.bool z,.int .i64 c,.int .u64 (g:Int),.slice a1 rl c1,.slice a2 cl c2,.slice none 0 0]) ?_ rfl ⟨⟨z,c,g,a1,rl,c1,rows,a2,cl,c2,cells,none,0,0⟩,rfl,?_,xP _ _ _ _ _ _ hB5.out (Nat.le_succ _)⟩
  rotate_left
  ·have hA6:=rQ (.bool z) (.int .i64 c) (.int .u64 (g:Int)) (.slice a1 rl c1) (.slice a2 cl c2) (.slice none 0 0) HA3.out (B:=w.heap.size+1) (by omega)
   have hAt:=WF.At.mk (f:=⟨z,c,g,a1,rl,c1,rows,a2,cl,c2,cells,none,0,0⟩) (HR1.out.above HL1.out hA6) HRL.out HAT.out.g64 HAT.out.r64 (HR2.out.above HL3.out hA6) HCL.out HAT.out.bits HAT.out.cmax
   have hPf:WF.pf ⟨z,c,g,a1,rl,c1,rows,a2,cl,c2,cells,none,0,0⟩=x:=HI.out.pf
   exact (PNew.mk (n:=W0.heap.size) ⟨hAt,hPf,HI.out.ok,rfl⟩ HL1.out HL3.out).mono (by omega)
  ·simp [results,results79,go_sem,s0,s1,s2,s3,s4,s5]
end
section
open Go.RowKit
theorem both_is (d:Int) (a b:Option Addr) (capa capb:Nat) (xs ys:List Cl) (w:World) (hma:xs.length≤maxLen) (hmb:ys.length≤maxLen) (hra:fN w a xs) (hrb:fN w b ys) (hba:nR xs) (hbb:nR ys) (c:Int) (hc:mF d xs ys=c) (la lb:Nat) (hla:xs.length=la) (hlb:ys.length=lb) :
  Calls prog 84 #[.int .i64 d,.slice a la capa,.slice b lb capb] w (jA (qW d xs ys) c w):=by
 subst hla;subst hlb;exact Mi d a b capa capb xs ys w hma hmb hra hrb hba hbb c hc
theorem one4_is (m:Nat) (hm:m≤64) (w:World):Calls prog 96 #[.int .i64 (m:Int)] w (jA (gA m) 0 w):=by
 have h0:oN (m:Int)=0:=by unfold oN;rw [if_neg (by omega)]
 have:=one_any (m:Int) w 0 h0
 rwa [show xC (m:Int)=gA m by unfold xC;rw [if_pos h0,Int.toNat_natCast]] at this
theorem rT (t n:Int) (sa:Option Addr) (sc:Nat) (f g:WF) (x y:PF) (w:World) (hp:cA t n 0=true) (hx:PIs w t n f x) (hy:PIs w t n g y) (ht:Tabs w) :
  Calls prog 80 #[.agg #[.int .i64 t,.int .i64 n,.slice sa 0 sc],f.val,g.val] w (gO (.one t n) (.one (gE t n x y)) w):=by
 refine cH (args:=[.agg #[.int .i64 t,.int .i64 n,.slice sa 0 sc],f.val,g.val]) func80 rfl ntmps80 rfl ?_
 have hS:=St.start w
 refine aL (aR (bK (cs:=[_,_,_]) hS rfl rfl rfl fun B1 W1 hS=>bK (cs:=[_,_,_,_,_,_]) hS rfl rfl rfl fun B2 W2 hS=>bK (cs:=[_,_,_,_,_,_]) hS rfl rfl rfl fun B3 W3 hS=>bH (cs:=[_,_,_,_,_,_]) hS zeroValue53 rfl rfl fun B4 W4 hS=>aQ (XF.thenN (aL (aL (aR (aP (o':=0) dL rfl rfl rfl (aT isAgg4 rfl (aK (hS.at_ 2 rfl) rfl) rfl (aG rfl rfl (bS (d:=10) rfl (fun hc=>?_) (fun hc=>?_)))))))))))
 ·have hg10:=hc;clear hc
  have hz:=hg10
  refine aF (d:=10) rfl rfl rfl rfl (aF (d:=10) rfl rfl rfl rfl (bC rfl rfl rfl (aQ (XF.thenN (dJ rfl (aL (aR (cS (us:=[(0,.bool _)]) rfl (pD _) rfl (aV (i:=0) (vs:=[_,_,_,_,_,_]) (cs':=[_,_,_,_,_,_]) (O':=[_,_,_,_]) hS sizeOf53 rfl rfl rfl rfl rfl rfl rfl fun W5 hS=>aQ (XF.thenN (bJ (XF.thenR (XF.res (dO (vs:=[_,_,_,_,_,_]) results80 isAgg53 sizeOf53 rfl (aE.own (j:=0) (m:=6) (hS.at_ 0 rfl) rfl)) ?_)))))))))))))
  exact P3 hx hz hS.below
 ·have hg10:=hc;clear hc
  have hf:=hg10
  refine aC (d:=10) rfl rfl (aP (o':=0) dL rfl rfl rfl (aC (d:=10) rfl rfl (aT isAgg4 rfl (aK (hS.at_ 1 rfl) rfl) rfl (bV rfl rfl rfl (aQ (XF.thenN (aZ rfl (fun hc=>?_) (fun hc=>?_))))))))
  ·have hc13:=hc;clear hc
   refine aL (aR (cS (us:=[(0,.bool _)]) rfl (pD _) rfl (aV (i:=0) (vs:=[_,_,_,_,_,_]) (cs':=[_,_,_,_,_,_]) (O':=[_,_,_,_]) hS sizeOf53 rfl rfl rfl rfl rfl rfl rfl fun W6 hS=>aQ (XF.thenN (bJ (XF.thenR (XF.res (dO (vs:=[_,_,_,_,_,_]) results80 isAgg53 sizeOf53 rfl (aE.own (j:=0) (m:=6) (hS.at_ 0 rfl) rfl)) ?_)))))))
   exact P4 hy hc13 hS.below
  ·have hc13:=hc;clear hc
   have hg:=hc13
   refine bG (XF.thenN (aL (aR (bH (cs:=[_,_,_,_,_,_]) hS zeroValue53 rfl rfl fun B7 W7 hS=>aQ (XF.thenN (aL (aL (aR (aP (o':=0) dW rfl rfl rfl (aT isAgg22 rfl (aK (hS.at_ 4 rfl) rfl) rfl (aQ (XF.thenN (bM (aL (aR (cM rfl rfl rfl (aA rfl rfl (aQ (XF.thenN (aZ rfl (fun hc=>?_) (fun hc=>?_)))))))))))))))))))))
   ·have hc17:=of_decide_eq_true hc;clear hc
    have e2:t=2:=hc17
    subst e2
    refine aR (aP (o':=1) dX rfl rfl rfl (aT isAgg3 rfl (aK (hS.at_ 4 rfl) rfl) rfl (aP (o':=1) eL rfl rfl rfl (aT isAgg3 rfl (aK (hS.at_ 3 rfl) rfl) rfl (aP (o':=1) eL rfl rfl rfl (aT isAgg3 rfl (aK (hS.at_ 2 rfl) rfl) rfl (cU (us:=[(0,.int .i64 _),(1,.int .i64 _)]) hS underlying29 sizeOf3 zeroValue3 rfl rfl rfl (Ci _ _) rfl fun B8 W8 hS=>cO (vs:=[_,_]) hS goes_99 rfl (sum_any n (some ⟨_,0,none⟩) 2 [f.c,g.c] _ (by simp [maxLen]) (C5 (hS.at_ 0 rfl))) rfl ?_)))))))
    rintro e W9 ⟨rfl,rfl⟩
    refine ⟨_,rfl,Below.refl _ _,fun hS'=>?_⟩
    clear hS;have hS:=hS';clear hS'
    refine aG rfl rfl (bL rfl rfl rfl (bL rfl rfl rfl (aP (o':=1) eL rfl rfl rfl (fA (i:=1) (cs':=[_,_,_,_,_,_]) (O':=[_,_,_,_,_,_]) hS sizeOf3 rfl rfl rfl rfl rfl rfl rfl fun W10 hS=>aQ (XF.blkN (XF.thenN (aL (aR (aS (vs:=[_,_,_,_,_,_]) isAgg53 sizeOf53 rfl (aE.own (j:=0) (m:=6) (hS.at_ 1 rfl) rfl) rfl (aV (i:=2) (vs:=[_,_,_,_,_,_]) (cs':=[_,_,_,_,_,_]) (O':=[_,_,_,_,_,_]) hS sizeOf53 rfl rfl rfl rfl rfl rfl rfl fun W11 hS=>aQ (XF.thenN (bJ (XF.res (dO (vs:=[_,_,_,_,_,_]) results80 isAgg53 sizeOf53 rfl (aE.own (j:=0) (m:=6) (hS.at_ 2 rfl) rfl)) ?_)))))))))))))
    exact eE (ext_f2 hp hx hy hf hg) hS.below
   ·have hc17:=of_decide_eq_false hc;clear hc
    refine aL (aR (cM rfl rfl rfl (aA rfl rfl (aQ (XF.thenN (aZ rfl (fun hc=>?_) (fun hc=>?_)))))))
    ·have hc31:=of_decide_eq_true hc;clear hc
     have e3:t=3:=hc31
     subst e3
     obtain ⟨m,rfl,hm⟩:=vQ hp (.inl rfl)
     refine aR (aP (o':=1) dX rfl rfl rfl (aT isAgg3 rfl (aK (hS.at_ 4 rfl) rfl) rfl (aP (o':=2) dY rfl rfl rfl (aS (vs:=[_,_]) isAgg49 sizeOf49 rfl (aE.own (j:=2) (m:=2) (hS.at_ 3 rfl) rfl) rfl (aP (o':=2) dY rfl rfl rfl (aS (vs:=[_,_]) isAgg49 sizeOf49 rfl (aE.own (j:=2) (m:=2) (hS.at_ 2 rfl) rfl) rfl ?_))))))
     have hsz:=hS.below.size
     refine cO (vs:=[_,_,_]) hS Ph rfl (extA_is _ _ _ _ _ _ _ _ _ _ (hx.at_.fat (by have:=hx.rows64 (l:=0);omega) |>.below hS.below) (hy.at_.fat (by have:=hy.rows64 (l:=0);omega) |>.below hS.below) (ht.below hS.below).c _ rfl _ rfl _ rfl _ _ hx.at_.rl hy.at_.rl) rfl ?_
     rintro e W12 ⟨a1,c1,rfl,hv,hl,hb⟩
     refine ⟨_,rfl,hb,fun hS'=>?_⟩
     clear hS;have hS:=hS';clear hS'
     refine aG rfl rfl (bL rfl rfl rfl (bL rfl rfl rfl (aP (o':=2) dY rfl rfl rfl (aV (i:=0) (vs:=[_,_]) (cs':=[_,_,_,_,_,_]) (O':=[_,_,_,_,_]) hS sizeOf49 rfl rfl rfl rfl rfl rfl rfl fun W13 hS=>aQ (XF.blkN (XF.thenN (aL (aR (aS (vs:=[_,_,_,_,_,_]) isAgg53 sizeOf53 rfl (aE.own (j:=0) (m:=6) (hS.at_ 0 rfl) rfl) rfl (aV (i:=1) (vs:=[_,_,_,_,_,_]) (cs':=[_,_,_,_,_,_]) (O':=[_,_,_,_,_]) hS sizeOf53 rfl rfl rfl rfl rfl rfl rfl fun W14 hS=>aQ (XF.thenN (bJ (XF.res (dO (vs:=[_,_,_,_,_,_]) results80 isAgg53 sizeOf53 rfl (aE.own (j:=0) (m:=6) (hS.at_ 1 rfl) rfl)) ?_)))))))))))))
     exact eE (P6 hx hy hf hg (hv.agree (fun ad e=>(hl ad e).1) (hS.since 0 rfl)) (fun ad e=>Nat.le_trans hsz (hl ad e).1)) hS.below
    ·have hc31:=of_decide_eq_false hc;clear hc
     refine aL (aR (cM rfl rfl rfl (aA rfl rfl (aQ (XF.thenN (aZ rfl (fun hc=>?_) (fun hc=>?_)))))))
     ·have hc44:=of_decide_eq_true hc;clear hc
      have e4:t=4:=hc44
      subst e4
      obtain ⟨m,rfl,hm⟩:=vQ hp (.inr rfl)
      refine aR (aP (o':=1) dX rfl rfl rfl (aT isAgg3 rfl (aK (hS.at_ 4 rfl) rfl) rfl (aP (o':=4) cZ rfl rfl rfl (aT isAgg50 rfl (aK (hS.at_ 3 rfl) rfl) rfl (aP (o':=4) cZ rfl rfl rfl (aT isAgg50 rfl (aK (hS.at_ 2 rfl) rfl) rfl ?_))))))
      have hsz:=hS.below.size
      refine cO (vs:=[_,_,_]) hS Pi rfl (then_is _ _ _ _ _ _ _ _ (ht.below hS.below) (by rw [hx.at_.cl];exact hx.at_.cmax) (by rw [hy.at_.cl];exact hy.at_.cmax) (hx.at_.cells.below hS.below) (hy.at_.cells.below hS.below) hx.at_.bits hy.at_.bits _ rfl _ _ hx.at_.cl hy.at_.cl) rfl ?_
      rintro e W15 ⟨a1,c1,rfl,hv,hl,hb⟩
      refine ⟨_,rfl,hb,fun hS'=>?_⟩
      clear hS;have hS:=hS';clear hS'
      refine aG rfl rfl (bL rfl rfl rfl (bL rfl rfl rfl (aP (o':=4) cZ rfl rfl rfl (fA (i:=0) (cs':=[_,_,_,_,_,_]) (O':=[_,_,_,_,_]) hS sizeOf50 rfl rfl rfl rfl rfl rfl rfl fun W16 hS=>aQ (XF.blkN (XF.thenN (aL (aR (aS (vs:=[_,_,_,_,_,_]) isAgg53 sizeOf53 rfl (aE.own (j:=0) (m:=6) (hS.at_ 0 rfl) rfl) rfl (aV (i:=1) (vs:=[_,_,_,_,_,_]) (cs':=[_,_,_,_,_,_]) (O':=[_,_,_,_,_]) hS sizeOf53 rfl rfl rfl rfl rfl rfl rfl fun W17 hS=>aQ (XF.thenN (bJ (XF.res (dO (vs:=[_,_,_,_,_,_]) results80 isAgg53 sizeOf53 rfl (aE.own (j:=0) (m:=6) (hS.at_ 1 rfl) rfl)) ?_)))))))))))))
      exact eE (ext_f4 hx hy hf hg (hv.agree (fun ad e=>(hl ad e).1) (hS.since 0 rfl)) (fun ad e=>Nat.le_trans hsz (hl ad e).1)) hS.below
     ·have hc44:=of_decide_eq_false hc;clear hc
      refine aL (aR (cM rfl rfl rfl (aA rfl rfl (aQ (XF.thenN (aZ rfl (fun hc=>absurd (of_decide_eq_true hc) (by exact jW hp)) (fun hc=>?_)))))))
      have hc:=of_decide_eq_false hc
      have e1:t=1:=by
       have:=(fK hp).2
       omega
      subst e1
      refine bG (XF.blkN (XF.thenN (aL (aR (aS (vs:=[_,_,_,_,_,_]) isAgg53 sizeOf53 rfl (aE.own (j:=0) (m:=6) (hS.at_ 0 rfl) rfl) rfl (aV (i:=1) (vs:=[_,_,_,_,_,_]) (cs':=[_,_,_,_,_,_]) (O':=[_,_,_,_,_]) hS sizeOf53 rfl rfl rfl rfl rfl rfl rfl fun W18 hS=>aQ (XF.thenN (bJ (XF.res (dO (vs:=[_,_,_,_,_,_]) results80 isAgg53 sizeOf53 rfl (aE.own (j:=0) (m:=6) (hS.at_ 1 rfl) rfl)) ?_)))))))))
      exact eE (P5 hx hy hf hg) hS.below
theorem pI (t n:Int) (sa:Option Addr) (sc:Nat) (f g:WF) (x y:PF) (w:World) (hp:cA t n 0=true) (hx:PIs w t n f x) (hy:PIs w t n g y) (ht:Tabs w) :
  Calls prog 62 #[.agg #[.int .i64 t,.int .i64 n,.slice sa 0 sc],f.val,g.val] w (gO (.one t n) (.one (eO t n x y)) w):=by
 refine cH (args:=[.agg #[.int .i64 t,.int .i64 n,.slice sa 0 sc],f.val,g.val]) func62 rfl ntmps62 rfl ?_
 have hS:=St.start w
 refine aL (aR (bK (cs:=[_,_,_]) hS rfl rfl rfl fun B1 W1 hS=>bK (cs:=[_,_,_,_,_,_]) hS rfl rfl rfl fun B2 W2 hS=>bK (cs:=[_,_,_,_,_,_]) hS rfl rfl rfl fun B3 W3 hS=>bH (cs:=[_,_,_,_,_,_]) hS zeroValue53 rfl rfl fun B4 W4 hS=>aQ (XF.thenN (aL (aL (aR (aP (o':=0) dL rfl rfl rfl (aT isAgg4 rfl (aK (hS.at_ 2 rfl) rfl) rfl (aQ (XF.thenN (aZ rfl (fun hc=>?_) (fun hc=>?_))))))))))))
 ·have hc9:=hc;clear hc
  have hz:=hc9
  refine aL (aR (aS (vs:=[_,_,_,_,_,_]) isAgg53 sizeOf53 rfl (aE.own (j:=0) (m:=6) (hS.at_ 1 rfl) rfl) rfl ?_))
  have hsz:=hS.below.size
  refine cO (vs:=[_]) hS tD rfl (jI t n g _ _ (hy.below hS.below)) rfl ?_
  rintro e W5 ⟨h1,rfl,hn,hb⟩
  refine ⟨_,rfl,hb,fun hS'=>?_⟩
  clear hS;have hS:=hS';clear hS'
  refine aV (i:=0) (vs:=[_,_,_,_,_,_]) (cs':=[_,_,_,_,_,_]) (O':=[_,_,_,_]) hS sizeOf53 rfl rfl rfl rfl rfl rfl rfl fun W6 hS=>aQ (XF.thenN (bJ (XF.thenR (XF.res (dO (vs:=[_,_,_,_,_,_]) results62 isAgg53 sizeOf53 rfl (aE.own (j:=0) (m:=6) (hS.at_ 0 rfl) rfl)) ?_))))
  rw [hx.zero hz,nV]
  exact eE ((hn.agree (hS.since 0 rfl)).mono hsz) hS.below
 ·have hc9:=hc;clear hc
  have hf:=hc9
  refine bG (XF.thenN (aL (aL (aR (aP (o':=0) dL rfl rfl rfl (aT isAgg4 rfl (aK (hS.at_ 1 rfl) rfl) rfl (aQ (XF.thenN (aZ rfl (fun hc=>?_) (fun hc=>?_))))))))))
  ·have hc13:=hc;clear hc
   refine aL (aR (aS (vs:=[_,_,_,_,_,_]) isAgg53 sizeOf53 rfl (aE.own (j:=0) (m:=6) (hS.at_ 2 rfl) rfl) rfl ?_))
   have hsz:=hS.below.size
   refine cO (vs:=[_]) hS tD rfl (jI t n f _ _ (hx.below hS.below)) rfl ?_
   rintro e W7 ⟨h1,rfl,hn,hb⟩
   refine ⟨_,rfl,hb,fun hS'=>?_⟩
   clear hS;have hS:=hS';clear hS'
   refine aV (i:=0) (vs:=[_,_,_,_,_,_]) (cs':=[_,_,_,_,_,_]) (O':=[_,_,_,_]) hS sizeOf53 rfl rfl rfl rfl rfl rfl rfl fun W8 hS=>aQ (XF.thenN (bJ (XF.thenR (XF.res (dO (vs:=[_,_,_,_,_,_]) results62 isAgg53 sizeOf53 rfl (aE.own (j:=0) (m:=6) (hS.at_ 0 rfl) rfl)) ?_))))
   rw [hy.zero hc13,qE hx.ok]
   exact eE ((hn.agree (hS.since 0 rfl)).mono hsz) hS.below
  ·have hc13:=hc;clear hc
   have hg:=hc13
   refine bG (XF.thenN (aL (aR (bH (cs:=[_,_,_,_,_,_]) hS zeroValue53 rfl rfl fun B9 W9 hS=>aQ (XF.thenN (aL (aL (aR (aP (o':=0) dW rfl rfl rfl (aT isAgg22 rfl (aK (hS.at_ 4 rfl) rfl) rfl (aQ (XF.thenN (bM (aL (aR (cM rfl rfl rfl (aA rfl rfl (aQ (XF.thenN (aZ rfl (fun hc=>?_) (fun hc=>?_)))))))))))))))))))))
   ·have hc18:=of_decide_eq_true hc;clear hc
    have e2:t=2:=hc18
    subst e2
    refine aR (aP (o':=1) dX rfl rfl rfl (aT isAgg3 rfl (aK (hS.at_ 4 rfl) rfl) rfl (aP (o':=1) eL rfl rfl rfl (aT isAgg3 rfl (aK (hS.at_ 3 rfl) rfl) rfl (aP (o':=1) eL rfl rfl rfl (aT isAgg3 rfl (aK (hS.at_ 2 rfl) rfl) rfl (cU (us:=[(0,.int .i64 _),(1,.int .i64 _)]) hS underlying29 sizeOf3 zeroValue3 rfl rfl rfl (Ci _ _) rfl fun B10 W10 hS=>cO (vs:=[_,_]) hS goes_82 rfl (Ms n (some ⟨_,0,none⟩) 2 [f.c,g.c] _ (by simp [maxLen]) (C5 (hS.at_ 0 rfl))) rfl ?_)))))))
    rintro e W11 ⟨rfl,rfl⟩
    refine ⟨_,rfl,Below.refl _ _,fun hS'=>?_⟩
    clear hS;have hS:=hS';clear hS'
    refine aG rfl rfl (bL rfl rfl rfl (bL rfl rfl rfl (aP (o':=1) eL rfl rfl rfl (fA (i:=1) (cs':=[_,_,_,_,_,_]) (O':=[_,_,_,_,_,_]) hS sizeOf3 rfl rfl rfl rfl rfl rfl rfl fun W12 hS=>aQ (XF.blkN (XF.thenN (aL (aR (aS (vs:=[_,_,_,_,_,_]) isAgg53 sizeOf53 rfl (aE.own (j:=0) (m:=6) (hS.at_ 1 rfl) rfl) rfl (aV (i:=2) (vs:=[_,_,_,_,_,_]) (cs':=[_,_,_,_,_,_]) (O':=[_,_,_,_,_,_]) hS sizeOf53 rfl rfl rfl rfl rfl rfl rfl fun W13 hS=>aQ (XF.thenN (bJ (XF.res (dO (vs:=[_,_,_,_,_,_]) results62 isAgg53 sizeOf53 rfl (aE.own (j:=0) (m:=6) (hS.at_ 2 rfl) rfl)) ?_)))))))))))))
    exact eE (comb_f2 hp hx hy hf hg) hS.below
   ·have hc18:=of_decide_eq_false hc;clear hc
    refine aL (aR (cM rfl rfl rfl (aA rfl rfl (aQ (XF.thenN (aZ rfl (fun hc=>?_) (fun hc=>?_)))))))
    ·have hc32:=of_decide_eq_true hc;clear hc
     have e3:t=3:=hc32
     subst e3
     obtain ⟨m,rfl,hm⟩:=vQ hp (.inl rfl)
     refine aR (aP (o':=1) dX rfl rfl rfl (aT isAgg3 rfl (aK (hS.at_ 4 rfl) rfl) rfl (aP (o':=2) dY rfl rfl rfl (aS (vs:=[_,_]) isAgg49 sizeOf49 rfl (aE.own (j:=2) (m:=2) (hS.at_ 3 rfl) rfl) rfl (aP (o':=2) dY rfl rfl rfl (aS (vs:=[_,_]) isAgg49 sizeOf49 rfl (aE.own (j:=2) (m:=2) (hS.at_ 2 rfl) rfl) rfl ?_))))))
     have hsz:=hS.below.size
     refine cO (vs:=[_,_,_]) hS goes_83 rfl (On _ _ _ _ _ _ _ _ _ _ (hx.at_.fat (by have:=hx.rows64 (l:=0);omega) |>.below hS.below) (hy.at_.fat (by have:=hy.rows64 (l:=0);omega) |>.below hS.below) _ rfl _ rfl _ rfl _ _ hx.at_.rl hy.at_.rl) rfl ?_
     rintro e W14 ⟨a1,c1,rfl,hv,hl,hb⟩
     refine ⟨_,rfl,hb,fun hS'=>?_⟩
     clear hS;have hS:=hS';clear hS'
     refine aG rfl rfl (bL rfl rfl rfl (bL rfl rfl rfl (aP (o':=2) dY rfl rfl rfl (aV (i:=0) (vs:=[_,_]) (cs':=[_,_,_,_,_,_]) (O':=[_,_,_,_,_]) hS sizeOf49 rfl rfl rfl rfl rfl rfl rfl fun W15 hS=>aQ (XF.blkN (XF.thenN (aL (aR (aS (vs:=[_,_,_,_,_,_]) isAgg53 sizeOf53 rfl (aE.own (j:=0) (m:=6) (hS.at_ 0 rfl) rfl) rfl (aV (i:=1) (vs:=[_,_,_,_,_,_]) (cs':=[_,_,_,_,_,_]) (O':=[_,_,_,_,_]) hS sizeOf53 rfl rfl rfl rfl rfl rfl rfl fun W16 hS=>aQ (XF.thenN (bJ (XF.res (dO (vs:=[_,_,_,_,_,_]) results62 isAgg53 sizeOf53 rfl (aE.own (j:=0) (m:=6) (hS.at_ 1 rfl) rfl)) ?_)))))))))))))
     exact eE (Km hx hy hf hg (hv.agree (fun ad e=>(hl ad e).1) (hS.since 0 rfl)) (fun ad e=>Nat.le_trans hsz (hl ad e).1)) hS.below
    ·have hc32:=of_decide_eq_false hc;clear hc
     refine aL (aR (cM rfl rfl rfl (aA rfl rfl (aQ (XF.thenN (aZ rfl (fun hc=>?_) (fun hc=>?_)))))))
     ·have hc45:=of_decide_eq_true hc;clear hc
      have e4:t=4:=hc45
      subst e4
      obtain ⟨m,rfl,hm⟩:=vQ hp (.inr rfl)
      refine aR (aP (o':=1) dX rfl rfl rfl (aT isAgg3 rfl (aK (hS.at_ 4 rfl) rfl) rfl (aP (o':=4) cZ rfl rfl rfl (aT isAgg50 rfl (aK (hS.at_ 3 rfl) rfl) rfl (aP (o':=4) cZ rfl rfl rfl (aT isAgg50 rfl (aK (hS.at_ 2 rfl) rfl) rfl ?_))))))
      have hsz:=hS.below.size
      refine cO (vs:=[_,_,_]) hS goes_84 rfl (both_is _ _ _ _ _ _ _ _ (by rw [hx.at_.cl];exact hx.at_.cmax) (by rw [hy.at_.cl];exact hy.at_.cmax) (hx.at_.cells.below hS.below) (hy.at_.cells.below hS.below) hx.at_.bits hy.at_.bits _ rfl _ _ hx.at_.cl hy.at_.cl) rfl ?_
      rintro e W17 ⟨a1,c1,rfl,hv,hl,hb⟩
      refine ⟨_,rfl,hb,fun hS'=>?_⟩
      clear hS;have hS:=hS';clear hS'
      refine aG rfl rfl (bL rfl rfl rfl (bL rfl rfl rfl (aP (o':=4) cZ rfl rfl rfl (fA (i:=0) (cs':=[_,_,_,_,_,_]) (O':=[_,_,_,_,_]) hS sizeOf50 rfl rfl rfl rfl rfl rfl rfl fun W18 hS=>aQ (XF.blkN (XF.thenN (aL (aR (aS (vs:=[_,_,_,_,_,_]) isAgg53 sizeOf53 rfl (aE.own (j:=0) (m:=6) (hS.at_ 0 rfl) rfl) rfl (aV (i:=1) (vs:=[_,_,_,_,_,_]) (cs':=[_,_,_,_,_,_]) (O':=[_,_,_,_,_]) hS sizeOf53 rfl rfl rfl rfl rfl rfl rfl fun W19 hS=>aQ (XF.thenN (bJ (XF.res (dO (vs:=[_,_,_,_,_,_]) results62 isAgg53 sizeOf53 rfl (aE.own (j:=0) (m:=6) (hS.at_ 1 rfl) rfl)) ?_)))))))))))))
      exact eE (comb_f4 hx hy hf hg (hv.agree (fun ad e=>(hl ad e).1) (hS.since 0 rfl)) (fun ad e=>Nat.le_trans hsz (hl ad e).1)) hS.below
     ·have hc45:=of_decide_eq_false hc;clear hc
      refine aL (aR (cM rfl rfl rfl (aA rfl rfl (aQ (XF.thenN (aZ rfl (fun hc=>absurd (of_decide_eq_true hc) (by exact jW hp)) (fun hc=>?_)))))))
      have hc:=of_decide_eq_false hc
      have e1:t=1:=by
       have:=(fK hp).2
       omega
      subst e1
      refine bG (XF.blkN (XF.thenN (aL (aR (aS (vs:=[_,_,_,_,_,_]) isAgg53 sizeOf53 rfl (aE.own (j:=0) (m:=6) (hS.at_ 0 rfl) rfl) rfl (aV (i:=1) (vs:=[_,_,_,_,_,_]) (cs':=[_,_,_,_,_,_]) (O':=[_,_,_,_,_]) hS sizeOf53 rfl rfl rfl rfl rfl rfl rfl fun W20 hS=>aQ (XF.thenN (bJ (XF.res (dO (vs:=[_,_,_,_,_,_]) results62 isAgg53 sizeOf53 rfl (aE.own (j:=0) (m:=6) (hS.at_ 1 rfl) rfl)) ?_)))))))))
      exact eE (Kj hx hy hf hg) hS.below
theorem rU (t n:Int) (sa:Option Addr) (sc:Nat) (w:World) (hp:cA t n 0=true) :
  Calls prog 78 #[.agg #[.int .i64 t,.int .i64 n,.slice sa 0 sc]] w (gO (.one t n) (.one (gM t n)) w):=by
 refine cH (args:=[.agg #[.int .i64 t,.int .i64 n,.slice sa 0 sc]]) func78 rfl ntmps78 rfl ?_
 have hS:=St.start w
 refine aL (aR (bK (cs:=[_,_,_]) hS rfl rfl rfl fun B1 W1 hS=>bH (cs:=[_,_,_,_,_,_]) hS zeroValue53 rfl rfl fun B2 W2 hS=>aQ (XF.thenN (aL (aR (bH (cs:=[_,_,_,_,_,_]) hS zeroValue53 rfl rfl fun B3 W3 hS=>aQ (XF.thenN (aL (aL (aR (aP (o':=0) dW rfl rfl rfl (aT isAgg22 rfl (aK (hS.at_ 2 rfl) rfl) rfl (aQ (XF.thenN (bM (aL (aR (cM rfl rfl rfl (aA rfl rfl (aQ (XF.thenN (aZ rfl (fun hc=>?_) (fun hc=>?_)))))))))))))))))))))))
 ·have hc6:=of_decide_eq_true hc;clear hc
  have e3:t=3:=hc6
  subst e3
  obtain ⟨m,rfl,hm⟩:=vQ hp (.inl rfl)
  refine aR (aP (o':=1) dX rfl rfl rfl (aT isAgg3 rfl (aK (hS.at_ 2 rfl) rfl) rfl ?_))
  have hsz:=hS.below.size
  refine cO (vs:=[_]) hS goes_95 rfl ((oneA_is m _ _ (sR hm).1 _ (sR hm).2).mono fun _ _ h=>Eu.ret h) rfl ?_
  rintro e W4 ⟨a1,c1,rfl,hv,hl,hb⟩
  refine ⟨_,rfl,hb,fun hS'=>?_⟩
  clear hS;have hS:=hS';clear hS'
  refine aG rfl rfl (bL rfl rfl rfl (bL rfl rfl rfl (aP (o':=2) dY rfl rfl rfl (aV (i:=0) (vs:=[_,_]) (cs':=[_,_,_,_,_,_]) (O':=[_,_,_]) hS sizeOf49 rfl rfl rfl rfl rfl rfl rfl fun W5 hS=>aQ (XF.blkN (XF.thenN (aL (aR (aS (vs:=[_,_,_,_,_,_]) isAgg53 sizeOf53 rfl (aE.own (j:=0) (m:=6) (hS.at_ 0 rfl) rfl) rfl (aV (i:=1) (vs:=[_,_,_,_,_,_]) (cs':=[_,_,_,_,_,_]) (O':=[_,_,_]) hS sizeOf53 rfl rfl rfl rfl rfl rfl rfl fun W6 hS=>aQ (XF.thenN (bJ (XF.res (dO (vs:=[_,_,_,_,_,_]) results78 isAgg53 sizeOf53 rfl (aE.own (j:=0) (m:=6) (hS.at_ 1 rfl) rfl)) ?_)))))))))))))
  exact eE (Qa hm (hv.agree (fun ad e=>(hl ad e).1) (hS.since 0 rfl)) (fun ad e=>Nat.le_trans hsz (hl ad e).1)) hS.below
 ·have hc6:=of_decide_eq_false hc;clear hc
  refine aL (aR (cM rfl rfl rfl (aA rfl rfl (aQ (XF.thenN (aZ rfl (fun hc=>?_) (fun hc=>?_)))))))
  ·have hc15:=of_decide_eq_true hc;clear hc
   have e4:t=4:=hc15
   subst e4
   obtain ⟨m,rfl,hm⟩:=vQ hp (.inr rfl)
   refine aR (aP (o':=1) dX rfl rfl rfl (aT isAgg3 rfl (aK (hS.at_ 2 rfl) rfl) rfl ?_))
   have hsz:=hS.below.size
   refine cO (vs:=[_]) hS goes_96 rfl (one4_is m hm _) rfl ?_
   rintro e W7 ⟨a1,c1,rfl,hv,hl,hb⟩
   refine ⟨_,rfl,hb,fun hS'=>?_⟩
   clear hS;have hS:=hS';clear hS'
   refine aG rfl rfl (bL rfl rfl rfl (bL rfl rfl rfl (aP (o':=4) cZ rfl rfl rfl (fA (i:=0) (cs':=[_,_,_,_,_,_]) (O':=[_,_,_]) hS sizeOf50 rfl rfl rfl rfl rfl rfl rfl fun W8 hS=>aQ (XF.blkN (XF.thenN (aL (aR (aS (vs:=[_,_,_,_,_,_]) isAgg53 sizeOf53 rfl (aE.own (j:=0) (m:=6) (hS.at_ 0 rfl) rfl) rfl (aV (i:=1) (vs:=[_,_,_,_,_,_]) (cs':=[_,_,_,_,_,_]) (O':=[_,_,_]) hS sizeOf53 rfl rfl rfl rfl rfl rfl rfl fun W9 hS=>aQ (XF.thenN (bJ (XF.res (dO (vs:=[_,_,_,_,_,_]) results78 isAgg53 sizeOf53 rfl (aE.own (j:=0) (m:=6) (hS.at_ 1 rfl) rfl)) ?_)))))))))))))
   exact eE (Qb hm (hv.agree (fun ad e=>(hl ad e).1) (hS.since 0 rfl)) (fun ad e=>Nat.le_trans hsz (hl ad e).1)) hS.below
  ·have hc15:=of_decide_eq_false hc;clear hc
   refine aL (aR (cM rfl rfl rfl (aA rfl rfl (aQ (XF.thenN (aZ rfl (fun hc=>absurd (of_decide_eq_true hc) (by exact jW hp)) (fun hc=>?_)))))))
   have hc:=of_decide_eq_false hc
   refine bG (XF.blkN (XF.thenN (aL (aR (aS (vs:=[_,_,_,_,_,_]) isAgg53 sizeOf53 rfl (aE.own (j:=0) (m:=6) (hS.at_ 0 rfl) rfl) rfl (aV (i:=1) (vs:=[_,_,_,_,_,_]) (cs':=[_,_,_,_,_,_]) (O':=[_,_,_]) hS sizeOf53 rfl rfl rfl rfl rfl rfl rfl fun W10 hS=>aQ (XF.thenN (bJ (XF.res (dO (vs:=[_,_,_,_,_,_]) results78 isAgg53 sizeOf53 rfl (aE.own (j:=0) (m:=6) (hS.at_ 1 rfl) rfl)) ?_)))))))))
   exact eE (P7 hp hc6 hc15) hS.below
theorem Mv (t n u m:Int) (a1 a2:Option Addr) (c1 c2 b off sc:Nat) (w:World) (hs1:S3 w b off ⟨t,n,a1,0,c1⟩) (hs2:S3 w b (off+3) ⟨u,m,a2,0,c2⟩) (hp1:cA t n 0=true) (hp2:cA u m 0=true)(fra fca:Option Addr) (frc fcc fpc fb fo:Nat) (f1 f2:WF) (x1 x2:PF) (hf6:W6 w fb fo f1) (hf7:W6 w fb (fo+6) f2) (hx1:PIs w t n f1 x1) (hx2:PIs w u m f2 x2)(gra gca:Option Addr) (grc gcc gpc gb go:Nat) (g1 g2:WF) (y1 y2:PF) (hg6:W6 w gb go g1) (hg7:W6 w gb (go+6) g2) (hy1:PIs w t n g1 y1) (hy2:PIs w u m g2 y2)(ht:Tabs w) :
  Calls prog 80 #[.agg #[.int .i64 5,.int .i64 0,.slice (some ⟨b,off,none⟩) 2 sc],.agg #[.bool false,.int .i64 0,.int .u64 0,.slice fra 0 frc,.slice fca 0 fcc,.slice (some ⟨fb,fo,none⟩) 2 fpc],.agg #[.bool false,.int .i64 0,.int .u64 0,.slice gra 0 grc,.slice gca 0 gcc,.slice (some ⟨gb,go,none⟩) 2 gpc]] w (gO (.two t n u m) (.two (gE t n x1 y1) (gE u m x2 y2)) w):=by
 refine cH (args:=[.agg #[.int .i64 5,.int .i64 0,.slice (some ⟨b,off,none⟩) 2 sc],.agg #[.bool false,.int .i64 0,.int .u64 0,.slice fra 0 frc,.slice fca 0 fcc,.slice (some ⟨fb,fo,none⟩) 2 fpc],.agg #[.bool false,.int .i64 0,.int .u64 0,.slice gra 0 grc,.slice gca 0 gcc,.slice (some ⟨gb,go,none⟩) 2 gpc]]) func80 rfl ntmps80 rfl ?_
 have hS:=St.start w
 refine aL (aR (bK (cs:=[_,_,_]) hS rfl rfl rfl fun B1 W1 hS=>bK (cs:=[_,_,_,_,_,_]) hS rfl rfl rfl fun B2 W2 hS=>bK (cs:=[_,_,_,_,_,_]) hS rfl rfl rfl fun B3 W3 hS=>bH (cs:=[_,_,_,_,_,_]) hS zeroValue53 rfl rfl fun B4 W4 hS=>aQ (XF.thenN (aL (aL (aR (aP (o':=0) dL rfl rfl rfl (aT isAgg4 rfl (aK (hS.at_ 2 rfl) rfl) rfl (aG rfl rfl (bS (d:=10) rfl (fun hc=>absurd hc (by decide)) (fun hc=>?_)))))))))))
 skip
 refine aC (d:=10) rfl rfl (aP (o':=0) dL rfl rfl rfl (aC (d:=10) rfl rfl (aT isAgg4 rfl (aK (hS.at_ 1 rfl) rfl) rfl (bV rfl rfl rfl (aQ (XF.thenN (aZ rfl (fun hc=>absurd hc (by decide)) (fun hc=>?_))))))))
 skip
 refine bG (XF.thenN (aL (aR (bH (cs:=[_,_,_,_,_,_]) hS zeroValue53 rfl rfl fun B5 W5 hS=>aQ (XF.thenN (aL (aL (aR (aP (o':=0) dW rfl rfl rfl (aT isAgg22 rfl (aK (hS.at_ 4 rfl) rfl) rfl (aQ (XF.thenN (bM (aL (aR (cM rfl rfl rfl (aA rfl rfl (aQ (XF.thenN (aZ rfl (fun hc=>absurd (of_decide_eq_true hc) (by omega)) (fun hc=>?_)))))))))))))))))))))
 have hc:=of_decide_eq_false hc
 refine aL (aR (cM rfl rfl rfl (aA rfl rfl (aQ (XF.thenN (aZ rfl (fun hc=>absurd (of_decide_eq_true hc) (by omega)) (fun hc=>?_)))))))
 have hc:=of_decide_eq_false hc
 refine aL (aR (cM rfl rfl rfl (aA rfl rfl (aQ (XF.thenN (aZ rfl (fun hc=>absurd (of_decide_eq_true hc) (by omega)) (fun hc=>?_)))))))
 have hc:=of_decide_eq_false hc
 refine aL (aR (cM rfl rfl rfl (aA rfl rfl (aQ (XF.thenN (aZ rfl (fun hc=>?_) (fun hc=>absurd (of_decide_eq_false hc) (by omega))))))))
 have hc:=of_decide_eq_true hc
 have hsz:=hS.below.size
 have k1:=aE.agree hS.agree (Nat.zero_le _) hs1.cells
 have k2:=aE.agree hS.agree (Nat.zero_le _) hs2.cells
 have kf1:=aE.agree hS.agree (Nat.zero_le _) hf6.cells
 have kf2:=aE.agree hS.agree (Nat.zero_le _) hf7.cells
 have kg1:=aE.agree hS.agree (Nat.zero_le _) hg6.cells
 have kg2:=aE.agree hS.agree (Nat.zero_le _) hg7.cells
 refine pB cE 27 hS rfl rfl (by kernel_rfl) (by kernel_rfl) (by kernel_rfl) (fun d hd=>by cases hd) (cC 1 rfl 3 rfl rfl (fun w hw=>aW (o':=2) dI rfl rfl) rfl (aX 2 rfl 59 0 rfl rfl rfl (fun w hw=>bA isAgg23 rfl ((aN hw 0).cell (Nat.zero_le _) (aK (hS.at_ 4 rfl) rfl))) rfl (aX 3 rfl 60 1 rfl rfl rfl (fun w hw=>bB (j:=0) underlying23 sizeOf25 rfl rfl rfl (by omega) (Nat.add_zero _)) rfl (aX 4 rfl 61 2 rfl rfl rfl (fun w hw=>bF (vs:=[_,_,_]) isAgg25 sizeOf25 rfl (aE.agree (aN hw 0) (Nat.zero_le _) (by assumption))) rfl (cC 5 rfl 4 rfl rfl (fun w hw=>aW (o':=5) cP rfl rfl) rfl (aX 6 rfl 63 4 rfl rfl rfl (fun w hw=>bA isAgg51 rfl ((aN hw 0).cell (Nat.zero_le _) (aK (hS.at_ 3 rfl) rfl))) rfl (aX 7 rfl 64 5 rfl rfl rfl (fun w hw=>bB (j:=0) underlying51 sizeOf53 rfl rfl rfl (by omega) (Nat.add_zero _)) rfl (aX 8 rfl 65 6 rfl rfl rfl (fun w hw=>bF (vs:=[_,_,_,_,_,_]) isAgg53 sizeOf53 rfl (aE.agree (aN hw 0) (Nat.zero_le _) (by assumption))) rfl (cC 9 rfl 5 rfl rfl (fun w hw=>aW (o':=5) cP rfl rfl) rfl (aX 10 rfl 67 8 rfl rfl rfl (fun w hw=>bA isAgg51 rfl ((aN hw 0).cell (Nat.zero_le _) (aK (hS.at_ 2 rfl) rfl))) rfl (aX 11 rfl 68 9 rfl rfl rfl (fun w hw=>bB (j:=0) underlying51 sizeOf53 rfl rfl rfl (by omega) (Nat.add_zero _)) rfl (aX 12 rfl 69 10 rfl rfl rfl (fun w hw=>bF (vs:=[_,_,_,_,_,_]) isAgg53 sizeOf53 rfl (aE.agree (aN hw 0) (Nat.zero_le _) (by assumption))) rfl ?_))))))))))))
 refine aM 13 rfl (dP W5.heap.size (.one t n) (.one (gE t n x1 y1))) (dQ) (cV [isV _,isV _,isV _] rfl Cs (aU rfl) ⟨bZ (aO 3 (aB rfl rfl rfl)),bZ (aO 7 (aB rfl rfl rfl)),bZ (aO 11 (aB rfl rfl rfl)),trivial⟩ (fun vs w' hb hh=>by have e:=cB (us:=[_,_,_]) hh;subst e;exact eY hb.size (rT _ _ _ _ _ _ _ _ _ hp1 (hx1.below (hS.below.trans (hb.mono hS.below.size))) (hy1.below (hS.below.trans (hb.mono hS.below.size))) (ht.below (hS.below.trans (hb.mono hS.below.size))))) (aH rfl)) ?_
 refine cC 14 rfl 3 rfl rfl (fun w hw=>aW (o':=2) dI rfl rfl) rfl (aX 15 rfl 72 13 rfl rfl rfl (fun w hw=>bA isAgg23 rfl ((aN hw 0).cell (Nat.zero_le _) (aK (hS.at_ 4 rfl) rfl))) rfl (aX 16 rfl 73 14 rfl rfl rfl (fun w hw=>bB (j:=1) underlying23 sizeOf25 rfl rfl rfl (by omega) rfl) rfl (aX 17 rfl 74 15 rfl rfl rfl (fun w hw=>bF (vs:=[_,_,_]) isAgg25 sizeOf25 rfl (aE.agree (aN hw 0) (Nat.zero_le _) (by assumption))) rfl (cC 18 rfl 4 rfl rfl (fun w hw=>aW (o':=5) cP rfl rfl) rfl (aX 19 rfl 76 17 rfl rfl rfl (fun w hw=>bA isAgg51 rfl ((aN hw 0).cell (Nat.zero_le _) (aK (hS.at_ 3 rfl) rfl))) rfl (aX 20 rfl 77 18 rfl rfl rfl (fun w hw=>bB (j:=1) underlying51 sizeOf53 rfl rfl rfl (by omega) rfl) rfl (aX 21 rfl 78 19 rfl rfl rfl (fun w hw=>bF (vs:=[_,_,_,_,_,_]) isAgg53 sizeOf53 rfl (aE.agree (aN hw 0) (Nat.zero_le _) (by assumption))) rfl (cC 22 rfl 5 rfl rfl (fun w hw=>aW (o':=5) cP rfl rfl) rfl (aX 23 rfl 80 21 rfl rfl rfl (fun w hw=>bA isAgg51 rfl ((aN hw 0).cell (Nat.zero_le _) (aK (hS.at_ 2 rfl) rfl))) rfl (aX 24 rfl 81 22 rfl rfl rfl (fun w hw=>bB (j:=1) underlying51 sizeOf53 rfl rfl rfl (by omega) rfl) rfl (aX 25 rfl 82 23 rfl rfl rfl (fun w hw=>bF (vs:=[_,_,_,_,_,_]) isAgg53 sizeOf53 rfl (aE.agree (aN hw 0) (Nat.zero_le _) (by assumption))) rfl ?_)))))))))))
 refine aM 26 rfl (dP W5.heap.size (.one u m) (.one (gE u m x2 y2))) (dQ) (cV [isV _,isV _,isV _] rfl Cs (aU rfl) ⟨bZ (aO 16 (aB rfl rfl rfl)),bZ (aO 20 (aB rfl rfl rfl)),bZ (aO 24 (aB rfl rfl rfl)),trivial⟩ (fun vs w' hb hh=>by have e:=cB (us:=[_,_,_]) hh;subst e;exact eY hb.size (rT _ _ _ _ _ _ _ _ _ hp2 (hx2.below (hS.below.trans (hb.mono hS.below.size))) (hy2.below (hS.below.trans (hb.mono hS.below.size))) (ht.below (hS.below.trans (hb.mono hS.below.size))))) (aH rfl)) ?_
 refine aM 27 rfl (dP W5.heap.size (.two t n u m) (.two (gE t n x1 y1) (gE u m x2 y2))) (dQ) (cV [dP _ (.one t n) (.one (gE t n x1 y1)),dP _ (.one u m) (.one (gE u m x2 y2))] rfl Ct (aU rfl) ⟨bZ (aO 12 (aB rfl rfl rfl)),bZ (aO 25 (aB rfl rfl rfl)),trivial⟩ (fun vs w' hb hh=>rS hb.size hh) (aH rfl)) (dC ?_)
 intro W6 hbR hS'
 clear hS;have hS:=hS';clear hS'
 refine aI (aI (aI (aI (aI (aI (aI (aI (aI (aI (aI (aI ?_)))))))))))
 refine cW ?_;rintro _ ⟨v1,rfl,hn1⟩
 refine aI (aI (aI (aI (aI (aI (aI (aI (aI (aI (aI (aI ?_)))))))))))
 refine cW ?_;rintro _ ⟨v2,rfl,hn2⟩
 refine cW ?_;rintro _ ⟨v3,rfl,hn3⟩
 refine cL (aV (i:=0) (vs:=[_,_,_,_,_,_]) (cs':=[_,_,_,_,_,_]) (O':=[_,_,_,_,_]) hS sizeOf53 rfl rfl rfl rfl rfl rfl rfl fun W7 hS=>aQ (XF.blkN (XF.thenN (aL (aR (aS (vs:=[_,_,_,_,_,_]) isAgg53 sizeOf53 rfl (aE.own (j:=0) (m:=6) (hS.at_ 0 rfl) rfl) rfl (aV (i:=1) (vs:=[_,_,_,_,_,_]) (cs':=[_,_,_,_,_,_]) (O':=[_,_,_,_,_]) hS sizeOf53 rfl rfl rfl rfl rfl rfl rfl fun W8 hS=>aQ (XF.thenN (bJ (XF.res (dO (vs:=[_,_,_,_,_,_]) results80 isAgg53 sizeOf53 rfl (aE.own (j:=0) (m:=6) (hS.at_ 1 rfl) rfl)) ?_))))))))))
 exact ⟨v3,rfl,(hn3.agree (hS.since 0 rfl)).mono hsz,hS.below⟩
theorem Mw (t n u m:Int) (a1 a2:Option Addr) (c1 c2 b off sc:Nat) (w:World) (hs1:S3 w b off ⟨t,n,a1,0,c1⟩) (hs2:S3 w b (off+3) ⟨u,m,a2,0,c2⟩) (hp1:cA t n 0=true) (hp2:cA u m 0=true) :
  Calls prog 78 #[.agg #[.int .i64 5,.int .i64 0,.slice (some ⟨b,off,none⟩) 2 sc]] w (gO (.two t n u m) (.two (gM t n) (gM u m)) w):=by
 refine cH (args:=[.agg #[.int .i64 5,.int .i64 0,.slice (some ⟨b,off,none⟩) 2 sc]]) func78 rfl ntmps78 rfl ?_
 have hS:=St.start w
 refine aL (aR (bK (cs:=[_,_,_]) hS rfl rfl rfl fun B1 W1 hS=>bH (cs:=[_,_,_,_,_,_]) hS zeroValue53 rfl rfl fun B2 W2 hS=>aQ (XF.thenN (aL (aR (bH (cs:=[_,_,_,_,_,_]) hS zeroValue53 rfl rfl fun B3 W3 hS=>aQ (XF.thenN (aL (aL (aR (aP (o':=0) dW rfl rfl rfl (aT isAgg22 rfl (aK (hS.at_ 2 rfl) rfl) rfl (aQ (XF.thenN (bM (aL (aR (cM rfl rfl rfl (aA rfl rfl (aQ (XF.thenN (aZ rfl (fun hc=>absurd (of_decide_eq_true hc) (by omega)) (fun hc=>?_)))))))))))))))))))))))
 have hc:=of_decide_eq_false hc
 refine aL (aR (cM rfl rfl rfl (aA rfl rfl (aQ (XF.thenN (aZ rfl (fun hc=>absurd (of_decide_eq_true hc) (by omega)) (fun hc=>?_)))))))
 have hc:=of_decide_eq_false hc
 refine aL (aR (cM rfl rfl rfl (aA rfl rfl (aQ (XF.thenN (aZ rfl (fun hc=>?_) (fun hc=>absurd (of_decide_eq_false hc) (by omega))))))))
 have hc:=of_decide_eq_true hc
 have hsz:=hS.below.size
 have k1:=aE.agree hS.agree (Nat.zero_le _) hs1.cells
 have k2:=aE.agree hS.agree (Nat.zero_le _) hs2.cells
 refine pB cE 11 hS rfl rfl (by kernel_rfl) (by kernel_rfl) (by kernel_rfl) (fun d hd=>by cases hd) (cC 1 rfl 1 rfl rfl (fun w hw=>aW (o':=2) dI rfl rfl) rfl (aX 2 rfl 26 0 rfl rfl rfl (fun w hw=>bA isAgg23 rfl ((aN hw 0).cell (Nat.zero_le _) (aK (hS.at_ 2 rfl) rfl))) rfl (aX 3 rfl 27 1 rfl rfl rfl (fun w hw=>bB (j:=0) underlying23 sizeOf25 rfl rfl rfl (by omega) (Nat.add_zero _)) rfl (aX 4 rfl 28 2 rfl rfl rfl (fun w hw=>bF (vs:=[_,_,_]) isAgg25 sizeOf25 rfl (aE.agree (aN hw 0) (Nat.zero_le _) (by assumption))) rfl ?_))))
 refine aM 5 rfl (dP W3.heap.size (.one t n) (.one (gM t n))) (dQ) (cV [isV _] rfl Cm (aU rfl) ⟨bZ (aO 3 (aB rfl rfl rfl)),trivial⟩ (fun vs w' hb hh=>by have e:=cB (us:=[_]) hh;subst e;exact eY hb.size (rU _ _ _ _ _ hp1)) (aH rfl)) ?_
 refine cC 6 rfl 1 rfl rfl (fun w hw=>aW (o':=2) dI rfl rfl) rfl (aX 7 rfl 31 5 rfl rfl rfl (fun w hw=>bA isAgg23 rfl ((aN hw 0).cell (Nat.zero_le _) (aK (hS.at_ 2 rfl) rfl))) rfl (aX 8 rfl 32 6 rfl rfl rfl (fun w hw=>bB (j:=1) underlying23 sizeOf25 rfl rfl rfl (by omega) rfl) rfl (aX 9 rfl 33 7 rfl rfl rfl (fun w hw=>bF (vs:=[_,_,_]) isAgg25 sizeOf25 rfl (aE.agree (aN hw 0) (Nat.zero_le _) (by assumption))) rfl ?_)))
 refine aM 10 rfl (dP W3.heap.size (.one u m) (.one (gM u m))) (dQ) (cV [isV _] rfl Cm (aU rfl) ⟨bZ (aO 8 (aB rfl rfl rfl)),trivial⟩ (fun vs w' hb hh=>by have e:=cB (us:=[_]) hh;subst e;exact eY hb.size (rU _ _ _ _ _ hp2)) (aH rfl)) ?_
 refine aM 11 rfl (dP W3.heap.size (.two t n u m) (.two (gM t n) (gM u m))) (dQ) (cV [dP _ (.one t n) (.one (gM t n)),dP _ (.one u m) (.one (gM u m))] rfl Ct (aU rfl) ⟨bZ (aO 4 (aB rfl rfl rfl)),bZ (aO 9 (aB rfl rfl rfl)),trivial⟩ (fun vs w' hb hh=>rS hb.size hh) (aH rfl)) (dC ?_)
 intro W4 hbR hS'
 clear hS;have hS:=hS';clear hS'
 refine aI (aI (aI (aI ?_)))
 refine cW ?_;rintro _ ⟨v1,rfl,hn1⟩
 refine aI (aI (aI (aI ?_)))
 refine cW ?_;rintro _ ⟨v2,rfl,hn2⟩
 refine cW ?_;rintro _ ⟨v3,rfl,hn3⟩
 refine cL (aV (i:=0) (vs:=[_,_,_,_,_,_]) (cs':=[_,_,_,_,_,_]) (O':=[_,_,_]) hS sizeOf53 rfl rfl rfl rfl rfl rfl rfl fun W5 hS=>aQ (XF.blkN (XF.thenN (aL (aR (aS (vs:=[_,_,_,_,_,_]) isAgg53 sizeOf53 rfl (aE.own (j:=0) (m:=6) (hS.at_ 0 rfl) rfl) rfl (aV (i:=1) (vs:=[_,_,_,_,_,_]) (cs':=[_,_,_,_,_,_]) (O':=[_,_,_]) hS sizeOf53 rfl rfl rfl rfl rfl rfl rfl fun W6 hS=>aQ (XF.thenN (bJ (XF.res (dO (vs:=[_,_,_,_,_,_]) results78 isAgg53 sizeOf53 rfl (aE.own (j:=0) (m:=6) (hS.at_ 1 rfl) rfl)) ?_))))))))))
 exact ⟨v3,rfl,(hn3.agree (hS.since 0 rfl)).mono hsz,hS.below⟩
theorem Ie (t n u m:Int) (a1 a2:Option Addr) (c1 c2 b off sc:Nat) (w:World) (hs1:S3 w b off ⟨t,n,a1,0,c1⟩) (hs2:S3 w b (off+3) ⟨u,m,a2,0,c2⟩) (hp1:cA t n 0=true) (hp2:cA u m 0=true)(fra fca:Option Addr) (frc fcc fpc fb fo:Nat) (f1 f2:WF) (x1 x2:PF) (hf6:W6 w fb fo f1) (hf7:W6 w fb (fo+6) f2) (hx1:PIs w t n f1 x1) (hx2:PIs w u m f2 x2)(gra gca:Option Addr) (grc gcc gpc gb go:Nat) (g1 g2:WF) (y1 y2:PF) (hg6:W6 w gb go g1) (hg7:W6 w gb (go+6) g2) (hy1:PIs w t n g1 y1) (hy2:PIs w u m g2 y2)(ht:Tabs w) :
  Calls prog 62 #[.agg #[.int .i64 5,.int .i64 0,.slice (some ⟨b,off,none⟩) 2 sc],.agg #[.bool false,.int .i64 0,.int .u64 0,.slice fra 0 frc,.slice fca 0 fcc,.slice (some ⟨fb,fo,none⟩) 2 fpc],.agg #[.bool false,.int .i64 0,.int .u64 0,.slice gra 0 grc,.slice gca 0 gcc,.slice (some ⟨gb,go,none⟩) 2 gpc]] w (gO (.two t n u m) (.two (eO t n x1 y1) (eO u m x2 y2)) w):=by
 refine cH (args:=[.agg #[.int .i64 5,.int .i64 0,.slice (some ⟨b,off,none⟩) 2 sc],.agg #[.bool false,.int .i64 0,.int .u64 0,.slice fra 0 frc,.slice fca 0 fcc,.slice (some ⟨fb,fo,none⟩) 2 fpc],.agg #[.bool false,.int .i64 0,.int .u64 0,.slice gra 0 grc,.slice gca 0 gcc,.slice (some ⟨gb,go,none⟩) 2 gpc]]) func62 rfl ntmps62 rfl ?_
 have hS:=St.start w
 refine aL (aR (bK (cs:=[_,_,_]) hS rfl rfl rfl fun B1 W1 hS=>bK (cs:=[_,_,_,_,_,_]) hS rfl rfl rfl fun B2 W2 hS=>bK (cs:=[_,_,_,_,_,_]) hS rfl rfl rfl fun B3 W3 hS=>bH (cs:=[_,_,_,_,_,_]) hS zeroValue53 rfl rfl fun B4 W4 hS=>aQ (XF.thenN (aL (aL (aR (aP (o':=0) dL rfl rfl rfl (aT isAgg4 rfl (aK (hS.at_ 2 rfl) rfl) rfl (aQ (XF.thenN (aZ rfl (fun hc=>absurd hc (by decide)) (fun hc=>?_))))))))))))
 skip
 refine bG (XF.thenN (aL (aL (aR (aP (o':=0) dL rfl rfl rfl (aT isAgg4 rfl (aK (hS.at_ 1 rfl) rfl) rfl (aQ (XF.thenN (aZ rfl (fun hc=>absurd hc (by decide)) (fun hc=>?_))))))))))
 skip
 refine bG (XF.thenN (aL (aR (bH (cs:=[_,_,_,_,_,_]) hS zeroValue53 rfl rfl fun B5 W5 hS=>aQ (XF.thenN (aL (aL (aR (aP (o':=0) dW rfl rfl rfl (aT isAgg22 rfl (aK (hS.at_ 4 rfl) rfl) rfl (aQ (XF.thenN (bM (aL (aR (cM rfl rfl rfl (aA rfl rfl (aQ (XF.thenN (aZ rfl (fun hc=>absurd (of_decide_eq_true hc) (by omega)) (fun hc=>?_)))))))))))))))))))))
 have hc:=of_decide_eq_false hc
 refine aL (aR (cM rfl rfl rfl (aA rfl rfl (aQ (XF.thenN (aZ rfl (fun hc=>absurd (of_decide_eq_true hc) (by omega)) (fun hc=>?_)))))))
 have hc:=of_decide_eq_false hc
 refine aL (aR (cM rfl rfl rfl (aA rfl rfl (aQ (XF.thenN (aZ rfl (fun hc=>absurd (of_decide_eq_true hc) (by omega)) (fun hc=>?_)))))))
 have hc:=of_decide_eq_false hc
 refine aL (aR (cM rfl rfl rfl (aA rfl rfl (aQ (XF.thenN (aZ rfl (fun hc=>?_) (fun hc=>absurd (of_decide_eq_false hc) (by omega))))))))
 have hc:=of_decide_eq_true hc
 have hsz:=hS.below.size
 have k1:=aE.agree hS.agree (Nat.zero_le _) hs1.cells
 have k2:=aE.agree hS.agree (Nat.zero_le _) hs2.cells
 have kf1:=aE.agree hS.agree (Nat.zero_le _) hf6.cells
 have kf2:=aE.agree hS.agree (Nat.zero_le _) hf7.cells
 have kg1:=aE.agree hS.agree (Nat.zero_le _) hg6.cells
 have kg2:=aE.agree hS.agree (Nat.zero_le _) hg7.cells
 refine pB cE 27 hS rfl rfl (by kernel_rfl) (by kernel_rfl) (by kernel_rfl) (fun d hd=>by cases hd) (cC 1 rfl 3 rfl rfl (fun w hw=>aW (o':=2) dI rfl rfl) rfl (aX 2 rfl 60 0 rfl rfl rfl (fun w hw=>bA isAgg23 rfl ((aN hw 0).cell (Nat.zero_le _) (aK (hS.at_ 4 rfl) rfl))) rfl (aX 3 rfl 61 1 rfl rfl rfl (fun w hw=>bB (j:=0) underlying23 sizeOf25 rfl rfl rfl (by omega) (Nat.add_zero _)) rfl (aX 4 rfl 62 2 rfl rfl rfl (fun w hw=>bF (vs:=[_,_,_]) isAgg25 sizeOf25 rfl (aE.agree (aN hw 0) (Nat.zero_le _) (by assumption))) rfl (cC 5 rfl 4 rfl rfl (fun w hw=>aW (o':=5) cP rfl rfl) rfl (aX 6 rfl 64 4 rfl rfl rfl (fun w hw=>bA isAgg51 rfl ((aN hw 0).cell (Nat.zero_le _) (aK (hS.at_ 3 rfl) rfl))) rfl (aX 7 rfl 65 5 rfl rfl rfl (fun w hw=>bB (j:=0) underlying51 sizeOf53 rfl rfl rfl (by omega) (Nat.add_zero _)) rfl (aX 8 rfl 66 6 rfl rfl rfl (fun w hw=>bF (vs:=[_,_,_,_,_,_]) isAgg53 sizeOf53 rfl (aE.agree (aN hw 0) (Nat.zero_le _) (by assumption))) rfl (cC 9 rfl 5 rfl rfl (fun w hw=>aW (o':=5) cP rfl rfl) rfl (aX 10 rfl 68 8 rfl rfl rfl (fun w hw=>bA isAgg51 rfl ((aN hw 0).cell (Nat.zero_le _) (aK (hS.at_ 2 rfl) rfl))) rfl (aX 11 rfl 69 9 rfl rfl rfl (fun w hw=>bB (j:=0) underlying51 sizeOf53 rfl rfl rfl (by omega) (Nat.add_zero _)) rfl (aX 12 rfl 70 10 rfl rfl rfl (fun w hw=>bF (vs:=[_,_,_,_,_,_]) isAgg53 sizeOf53 rfl (aE.agree (aN hw 0) (Nat.zero_le _) (by assumption))) rfl ?_))))))))))))
 refine aM 13 rfl (dP W5.heap.size (.one t n) (.one (eO t n x1 y1))) (dQ) (cV [isV _,isV _,isV _] rfl Cr (aU rfl) ⟨bZ (aO 3 (aB rfl rfl rfl)),bZ (aO 7 (aB rfl rfl rfl)),bZ (aO 11 (aB rfl rfl rfl)),trivial⟩ (fun vs w' hb hh=>by have e:=cB (us:=[_,_,_]) hh;subst e;exact eY hb.size (pI _ _ _ _ _ _ _ _ _ hp1 (hx1.below (hS.below.trans (hb.mono hS.below.size))) (hy1.below (hS.below.trans (hb.mono hS.below.size))) (ht.below (hS.below.trans (hb.mono hS.below.size))))) (aH rfl)) ?_
 refine cC 14 rfl 3 rfl rfl (fun w hw=>aW (o':=2) dI rfl rfl) rfl (aX 15 rfl 73 13 rfl rfl rfl (fun w hw=>bA isAgg23 rfl ((aN hw 0).cell (Nat.zero_le _) (aK (hS.at_ 4 rfl) rfl))) rfl (aX 16 rfl 74 14 rfl rfl rfl (fun w hw=>bB (j:=1) underlying23 sizeOf25 rfl rfl rfl (by omega) rfl) rfl (aX 17 rfl 75 15 rfl rfl rfl (fun w hw=>bF (vs:=[_,_,_]) isAgg25 sizeOf25 rfl (aE.agree (aN hw 0) (Nat.zero_le _) (by assumption))) rfl (cC 18 rfl 4 rfl rfl (fun w hw=>aW (o':=5) cP rfl rfl) rfl (aX 19 rfl 77 17 rfl rfl rfl (fun w hw=>bA isAgg51 rfl ((aN hw 0).cell (Nat.zero_le _) (aK (hS.at_ 3 rfl) rfl))) rfl (aX 20 rfl 78 18 rfl rfl rfl (fun w hw=>bB (j:=1) underlying51 sizeOf53 rfl rfl rfl (by omega) rfl) rfl (aX 21 rfl 79 19 rfl rfl rfl (fun w hw=>bF (vs:=[_,_,_,_,_,_]) isAgg53 sizeOf53 rfl (aE.agree (aN hw 0) (Nat.zero_le _) (by assumption))) rfl (cC 22 rfl 5 rfl rfl (fun w hw=>aW (o':=5) cP rfl rfl) rfl (aX 23 rfl 81 21 rfl rfl rfl (fun w hw=>bA isAgg51 rfl ((aN hw 0).cell (Nat.zero_le _) (aK (hS.at_ 2 rfl) rfl))) rfl (aX 24 rfl 82 22 rfl rfl rfl (fun w hw=>bB (j:=1) underlying51 sizeOf53 rfl rfl rfl (by omega) rfl) rfl (aX 25 rfl 83 23 rfl rfl rfl (fun w hw=>bF (vs:=[_,_,_,_,_,_]) isAgg53 sizeOf53 rfl (aE.agree (aN hw 0) (Nat.zero_le _) (by assumption))) rfl ?_)))))))))))
 refine aM 26 rfl (dP W5.heap.size (.one u m) (.one (eO u m x2 y2))) (dQ) (cV [isV _,isV _,isV _] rfl Cr (aU rfl) ⟨bZ (aO 16 (aB rfl rfl rfl)),bZ (aO 20 (aB rfl rfl rfl)),bZ (aO 24 (aB rfl rfl rfl)),trivial⟩ (fun vs w' hb hh=>by have e:=cB (us:=[_,_,_]) hh;subst e;exact eY hb.size (pI _ _ _ _ _ _ _ _ _ hp2 (hx2.below (hS.below.trans (hb.mono hS.below.size))) (hy2.below (hS.below.trans (hb.mono hS.below.size))) (ht.below (hS.below.trans (hb.mono hS.below.size))))) (aH rfl)) ?_
 refine aM 27 rfl (dP W5.heap.size (.two t n u m) (.two (eO t n x1 y1) (eO u m x2 y2))) (dQ) (cV [dP _ (.one t n) (.one (eO t n x1 y1)),dP _ (.one u m) (.one (eO u m x2 y2))] rfl Ct (aU rfl) ⟨bZ (aO 12 (aB rfl rfl rfl)),bZ (aO 25 (aB rfl rfl rfl)),trivial⟩ (fun vs w' hb hh=>rS hb.size hh) (aH rfl)) (dC ?_)
 intro W6 hbR hS'
 clear hS;have hS:=hS';clear hS'
 refine aI (aI (aI (aI (aI (aI (aI (aI (aI (aI (aI (aI ?_)))))))))))
 refine cW ?_;rintro _ ⟨v1,rfl,hn1⟩
 refine aI (aI (aI (aI (aI (aI (aI (aI (aI (aI (aI (aI ?_)))))))))))
 refine cW ?_;rintro _ ⟨v2,rfl,hn2⟩
 refine cW ?_;rintro _ ⟨v3,rfl,hn3⟩
 refine cL (aV (i:=0) (vs:=[_,_,_,_,_,_]) (cs':=[_,_,_,_,_,_]) (O':=[_,_,_,_,_]) hS sizeOf53 rfl rfl rfl rfl rfl rfl rfl fun W7 hS=>aQ (XF.blkN (XF.thenN (aL (aR (aS (vs:=[_,_,_,_,_,_]) isAgg53 sizeOf53 rfl (aE.own (j:=0) (m:=6) (hS.at_ 0 rfl) rfl) rfl (aV (i:=1) (vs:=[_,_,_,_,_,_]) (cs':=[_,_,_,_,_,_]) (O':=[_,_,_,_,_]) hS sizeOf53 rfl rfl rfl rfl rfl rfl rfl fun W8 hS=>aQ (XF.thenN (bJ (XF.res (dO (vs:=[_,_,_,_,_,_]) results62 isAgg53 sizeOf53 rfl (aE.own (j:=0) (m:=6) (hS.at_ 1 rfl) rfl)) ?_))))))))))
 exact ⟨v3,rfl,(hn3.agree (hS.since 0 rfl)).mono hsz,hS.below⟩
attribute [local go_sem ↓] Go.wp_at_zero Go.wp_at_succ
theorem Aj (t n:Int) (a:Option Addr) (l c0:Nat) (ht:t≠5) (w:World) :
  Calls prog 58 #[.agg #[.int .i64 t,.int .i64 n,.slice a l c0]] w fun e w'=>e = .returned (.agg #[.bool true,.int .i64 0,.int .u64 0,.slice none 0 0,.slice none 0 0,.slice none 0 0])∧Below w.heap.size w w':=vC t n a l c0 ht w
theorem Mx (w:World) :
  Calls prog 77 #[.agg #[.bool true,.int .i64 0,.int .u64 0,.slice none 0 0,.slice none 0 0,.slice none 0 0],.agg #[.bool true,.int .i64 0,.int .u64 0,.slice none 0 0,.slice none 0 0,.slice none 0 0]] w fun e w'=>∃ blk,e = .returned (.agg #[.bool false,.int .i64 0,.int .u64 0,.slice none 0 0,.slice none 0 0,.slice (some ⟨blk,0,none⟩) 2 2])∧W6 w' blk 0 rA∧W6 w' blk 6 rA∧w.heap.size≤blk∧Below w.heap.size w w':=Kf rA rA w
set_option maxHeartbeats 8000000 in
theorem If (d:Nat) (sa:Option Addr) (sc:Nat) (p q:SV) (w:World) (hsp:SIn w (d+1) (.mk ⟨5,0,sa,2,sc⟩ [p,q])) (hp:p.pl=true) (hq:q.pl=true) :
  Calls prog 58 #[.agg #[.int .i64 5,.int .i64 0,.slice sa 2 sc]] w (gO (.two p.f.tag p.f.dim q.f.tag q.f.dim) (.two eW eW) w):=by
 obtain ⟨_,b,off,ha,hb,hp3,hq3,_,_⟩:=hsp.two
 obtain rfl:sa=some ⟨b,off,none⟩:=ha
 obtain ⟨⟨pt,pn,pa,pl,pc⟩,pps⟩:=p
 obtain ⟨⟨qt,qn,qa,ql,qc⟩,qps⟩:=q
 have hp5:=Lib.hid (wE (show cA pt pn pl=true from hp));have hq5:=Lib.hid (wE (show cA qt qn ql=true from hq))
 obtain ⟨t0,t1⟩:=lQ w #[.int .i64 5,.int .i64 0,.slice (some ⟨b,off,none⟩) 2 sc] #[.bool false,.int .i64 0,.int .u64 0,.slice none 0 0,.slice none 0 0,.slice none 0 0] 25 53
 have T0:=Lib.hid t0;have T1:=Lib.hid t1
 have hB:=Lib.hid (L0 w #[.int .i64 5,.int .i64 0,.slice (some ⟨b,off,none⟩) 2 sc] #[.bool false,.int .i64 0,.int .u64 0,.slice none 0 0,.slice none 0 0,.slice none 0 0] 25 53)
 have hsz:((w.alloc (.cells #[.int .i64 5,.int .i64 0,.slice (some ⟨b,off,none⟩) 2 sc] 25)).alloc (.cells #[.bool false,.int .i64 0,.int .u64 0,.slice none 0 0,.slice none 0 0,.slice none 0 0] 53)).heap.size=w.heap.size+1+1:=by simp
 have n1:¬ (w.heap.size+1=w.heap.size):=by omega
 have n2:¬ (w.heap.size+1=b):=by omega
 obtain ⟨W0,hW0⟩:∃ W,(w.alloc (.cells #[.int .i64 5,.int .i64 0,.slice (some ⟨b,off,none⟩) 2 sc] 25)).alloc (.cells #[.bool false,.int .i64 0,.int .u64 0,.slice none 0 0,.slice none 0 0,.slice none 0 0] 53)=W:=⟨_,rfl⟩
 rw [hW0] at hB T0 T1 hsz
 have HSZ:=Lib.hid hsz
 have HP3:=Lib.hid (S3.below hp3 hB.out);have HQ3:=Lib.hid (S3.below hq3 hB.out)
 obtain ⟨x0,x1,x2⟩:=fX T0.out
 obtain ⟨y0,y1,y2,y3,y4,y5⟩:=eU T1.out
 have EN:Hid (∀ W:World,Below W0.heap.size W0 W→W.cell? ⟨w.heap.size,2,none⟩=some (.slice (some ⟨b,off,none⟩) 2 sc)∧W.cell? ⟨b,off,none⟩=some (.int .i64 pt)∧W.cell? ⟨b,off+1,none⟩=some (.int .i64 pn)∧W.cell? ⟨b,off+2,none⟩=some (.slice pa pl pc)∧W.cell? ⟨b,off+3,none⟩=some (.int .i64 qt)∧W.cell? ⟨b,off+4,none⟩=some (.int .i64 qn)∧W.cell? ⟨b,off+5,none⟩=some (.slice qa ql qc)):=fun W h=>by
  obtain ⟨a0,a1,a2⟩:=fX (cG T0.out h)
  obtain ⟨d0,d1,d2⟩:=HP3.out.below h;obtain ⟨e0,e1,e2⟩:=HQ3.out.below h
  exact ⟨a2,d0,d1,d2,e0,e1,e2⟩
 obtain ⟨m0,m1,m2,m3,m4,m5,m6⟩:=EN.out _ (Below.refl _ _)
 clear hsp hp hq hp3 hq3 t0 t1 hsz hb
 have D0:Hid (Below W0.heap.size W0 W0.drew):=(Below.refl _ _).drew
 go_enter func58,ntmps58
 go_wp2_with fail
 go_region_held3 (fun w'=>w'.cell? ⟨w.heap.size,2,none⟩=some (.slice (some ⟨b,off,none⟩) 2 sc)∧w'.cell? ⟨b,off,none⟩=some (.int .i64 pt)∧w'.cell? ⟨b,off+1,none⟩=some (.int .i64 pn)∧w'.cell? ⟨b,off+2,none⟩=some (.slice pa pl pc)∧w'.cell? ⟨b,off+3,none⟩=some (.int .i64 qt)∧w'.cell? ⟨b,off+4,none⟩=some (.int .i64 qn)∧w'.cell? ⟨b,off+5,none⟩=some (.slice qa ql qc))
  (first | (simp only [World.cell?_setCell_far,ne_eq,n1,n2,not_false_eq_true];with_reducible exact EN.out _ D3.out) | with_reducible exact EN.out _ D0.out | with_reducible exact EN.out _ D1.out | with_reducible exact EN.out _ D2.out | with_reducible exact EN.out _ D3.out | with_reducible exact EN.out _ (Below.refl _ _) | fail)
  (first | (go_at_call 58;with_reducible refine (Aj pt pn pa pl pc hp5.out W0.drew).mono ?_;rintro e z1 ⟨rfl,hz1⟩;have D1:=Lib.hid (D0.out.trans (hz1.mono D0.out.size))) | (go_at_call 58;with_reducible refine (Aj qt qn qa ql qc hq5.out z1).mono ?_;rintro e z2 ⟨rfl,hz2⟩;have D2:=Lib.hid (D1.out.trans (hz2.mono D1.out.size))) | (go_at_call 77;with_reducible refine (Mx z2).mono ?_;rintro e z3 ⟨blk,rfl,hx6,hy6,hge,hz3⟩;have D3:=Lib.hid (D2.out.trans (hz3.mono D2.out.size));have XO:=Lib.hid (cG T1.out D3.out);obtain ⟨o0,o1,o2,o3,o4,o5⟩:=eU XO.out;have f0:=eB XO.out 0;have f1:=eB XO.out 1;have f2:=eB XO.out 2;have f3:=eB XO.out 3;have f4:=eB XO.out 4;have f5:=eB XO.out 5) | fail)
 all_goals
  have NS:=Lib.hid (Kg (v0:=.bool false) (v1:=.int .i64 0) (v2:=.int .u64 0) (v3:=.slice none 0 0) (v4:=.slice none 0 0) (v5:=.slice (some ⟨blk,0,none⟩) 2 2) XO.out)
  obtain ⟨s0,s1,s2,s3,s4,s5⟩:=eU NS.out
  have hle:=D2.out.size
  have hge2:w.heap.size+1+1≤blk:=by have:=HSZ.out;omega
  have HX6:=Lib.hid hx6;have HY6:=Lib.hid hy6
  have HB3:=Lib.hid (hB.out.trans (D3.out.mono hB.out.size))
  clear hx6 hy6 f0 f1 f2 f3 f4 f5 o0 o1 o2 o3 o4 o5
  go_wp2_with fail
  refine bodyPost_ret (v:=.agg #[.bool false,.int .i64 0,.int .u64 0,.slice none 0 0,.slice none 0 0,.slice (some ⟨blk,0,none⟩) 2 2]) ?_ rfl ⟨pH blk,rfl,?_,?_⟩
  rotate_left
  ·exact (xQ (HX6.out.above (n:=w.heap.size+1+1) hge2 (rQ _ _ _ _ _ _ (jF.refl _ _) (by omega))) (HY6.out.above (n:=w.heap.size+1+1) hge2 (rQ _ _ _ _ _ _ (jF.refl _ _) (by omega))) hge2 (nG _ _ _ _) (nG _ _ _ _)).mono (by omega)
  ·exact xP _ _ _ _ _ _ HB3.out (by omega)
  ·simp [results,results58,go_sem,s0,s1,s2,s3,s4,s5]
end
section
open Go.RowKit
theorem PIs.pw {w:World} {t n:Int} {f:WF} {x:PF} (h:PIs w t n f x):fM t n f=true:=by
 obtain ⟨ez,ec,eg,er,ex⟩:=mP h.pf
 have hrl:=h.at_.rl;have hcl:=h.at_.cl;have hpl:=h.pl
 rw [er] at hrl;rw [ex] at hcl
 unfold fM iI iH
 rw [ez,ec,eg,er,ex,hpl,← hrl,← hcl]
 cases h.ok with
 | zero=>simp [eW]
 | bool ht=>rw [ht];simp [pC]
 | cost c ht h0 h1=>rw [ht];simp [pC,h0,h1]
 | facts m g rows ht hn hg=>rw [ht,hn];simp [pF,rG hg]
 | cells m cs ht hn hv=>rw [ht,hn];simp [pX,hv.chk]
theorem SIs.sin {w:World} {S:PS} {f:SF} (h:SIs w S f) (hok:S.ok):∃ s:SV,s.f=f∧SIn w 2 s∧eI s=0:=by
 cases S with
 | one t n =>
  obtain ⟨a,c,rfl⟩:=h
  exact ⟨.mk ⟨t,n,a,0,c⟩ [],rfl,⟨rfl,.inl rfl,by simp⟩,by
   show (if cA t n 0=true then (0:Int) else _)=0
   rw [if_pos (show cA t n 0=true from hok)]⟩
 | two t n u m =>
  obtain ⟨b,off,c,a1,c1,a2,c2,rfl,h1,h2⟩:=h
  refine ⟨.mk ⟨5,0,some ⟨b,off,none⟩,2,c⟩ [.mk ⟨t,n,a1,0,c1⟩ [],.mk ⟨u,m,a2,0,c2⟩ []],rfl,⟨rfl,.inr ⟨b,off,rfl,fun i p hi=>?_⟩,?_⟩,?_⟩
  ·match i,hi with
   | 0,hi=>simp at hi;subst hi;simpa [SV.f] using h1
   | 1,hi=>simp at hi;subst hi;simpa [SV.f] using h2
  ·intro p hp
   simp at hp
   rcases hp with rfl | rfl<;>exact ⟨rfl,.inl rfl,by simp⟩
  ·have e1:SV.pl (.mk ⟨t,n,a1,0,c1⟩ [])=true:=hok.1
   have e2:SV.pl (.mk ⟨u,m,a2,0,c2⟩ [])=true:=hok.2
   simp only [eI]
   rw [if_neg (by simp [cA]),if_pos ⟨trivial,trivial,rfl,by simp [e1,e2]⟩]
theorem XIs.two {w:World} {t n u m:Int} {f:WF} {a b:PF} (h:XIs w (.two t n u m) f (.two a b)):∃ (ra ca:Option Addr) (rc cc pc fb fo:Nat) (f1 f2:WF),f=⟨false,0,0,ra,0,rc,[],ca,0,cc,[],some ⟨fb,fo,none⟩,2,pc⟩∧W6 w fb fo f1∧W6 w fb (fo+6) f2∧PIs w t n f1 a∧PIs w u m f2 b:=by
 obtain ⟨h1,h2,h3,h4,blk,off,g,k,h5,h6,h7,h8,h9⟩:=h
 obtain ⟨z,c,gg,ra,rl,rc,rows,ca,cl,cc,cells,pa,pl,pc⟩:=f
 simp only [WF.pf,pC,PF.mk.injEq] at h1
 obtain ⟨rfl,rfl,rfl,rfl,rfl⟩:=h1
 dsimp only at h2 h3 h4 h5
 subst h2;subst h3;subst h4;subst h5
 exact ⟨ra,ca,rc,cc,pc,blk,off,g,k,rfl,h6,h7,h8,h9⟩
theorem two_win {w:World} {t n u m:Int} {ra ca:Option Addr} {rc cc pc fb fo:Nat} {f1 f2:WF} {a b:PF} (h6:W6 w fb fo f1) (h7:W6 w fb (fo+6) f2) (h8:PIs w t n f1 a) (h9:PIs w u m f2 b) :
  WIn w 2 (.mk ⟨false,0,0,ra,0,rc,[],ca,0,cc,[],some ⟨fb,fo,none⟩,2,pc⟩ [.mk f1 [],.mk f2 []]):=by
 refine ⟨⟨.inl rfl,rfl,(by show (0:Nat) < _;decide),(fun r hr=>by cases hr),.inl rfl,rfl,(fun c hc=>by cases hc),(by show (0:Nat)≤_;decide)⟩,rfl,.inr ⟨fb,fo,rfl,fun i p hi=>?_⟩,fun p hp=>?_⟩
 ·match i,hi with
  | 0,hi=>simp at hi;subst hi;simpa [WV.f] using h6
  | 1,hi=>simp at hi;subst hi;simpa [WV.f] using h7
 ·simp at hp
  rcases hp with rfl | rfl
  ·exact ⟨h8.at_,h8.pl.symm,.inl rfl,by simp⟩
  ·exact ⟨h9.at_,h9.pl.symm,.inl rfl,by simp⟩
theorem Ig {w:World} {t n u m:Int} {ra ca:Option Addr} {a1 a2:Option Addr} {c1 c2 rc cc pc fb fo:Nat} {f1 f2:WF} {a b:PF} (h8:PIs w t n f1 a) (h9:PIs w u m f2 b) :
  gN (.mk ⟨t,n,a1,0,c1⟩ []) (.mk ⟨u,m,a2,0,c2⟩ []) ⟨false,0,0,ra,0,rc,[],ca,0,cc,[],some ⟨fb,fo,none⟩,2,pc⟩ [.mk f1 [],.mk f2 []]=true:=by
 have e1:fM t n f1=true:=h8.pw
 have e2:fM u m f2=true:=h9.pw
 simp [gN,iI,iH,pwAt,SV.f,WV.f,e1,e2]
section
variable {w:World} {S:PS} {sf:SF} {f g:WF} {x y:PX}
theorem Ko {t n u m:Int} {b off sc:Nat} {a1 a2:Option Addr} {c1 c2:Nat} (h1:S3 w b off ⟨t,n,a1,0,c1⟩) (h2:S3 w b (off+3) ⟨u,m,a2,0,c2⟩):SIn w 2 (.mk ⟨5,0,some ⟨b,off,none⟩,2,sc⟩ [.mk ⟨t,n,a1,0,c1⟩ [],.mk ⟨u,m,a2,0,c2⟩ []]):=by
 refine ⟨rfl,.inr ⟨b,off,rfl,fun i p hi=>?_⟩,?_⟩
 ·match i,hi with
  | 0,hi=>simp at hi;subst hi;simpa [SV.f] using h1
  | 1,hi=>simp at hi;subst hi;simpa [SV.f] using h2
 ·intro p hp
  simp at hp
  rcases hp with rfl | rfl<;>exact ⟨rfl,.inl rfl,by simp⟩
theorem isA_ok (hs:SIs w S sf) (hok:S.ok) (hx:XIs w S f x):Calls prog 81 #[sf.val,f.val] w fun e w'=>e = .returned (.bool true)∧Below w.heap.size w w':=by
 cases S<;>cases x<;>first | exact hx.elim | skip
 ·obtain ⟨a,c,rfl⟩:=hs
  exact lX _ _ _ _ _ _ hok (Nat.zero_le _) w (PIs.at_ hx) true (PIs.pw hx)
 ·obtain ⟨b,off,c,a1,c1,a2,c2,rfl,h1,h2⟩:=hs
  obtain ⟨ra,ca,rc,cc,pc,fb,fo,f1,f2,rfl,h6,h7,h8,h9⟩:=hx.two
  exact Ah 1 _ _ _ _ _ _ w (Ko h1 h2) hok.1 hok.2 1 (two_win h6 h7 h8 h9) (fun _ _=>Nat.zero_le _) true (Ig h8 h9)
theorem uO (hs:SIs w S sf) (hok:S.ok):Calls prog 57 #[sf.val] w fun e w'=>e = .returned (.int .i64 0)∧Below w.heap.size w w':=by
 obtain ⟨s,rfl,h1,h2⟩:=hs.sin hok
 exact uB 2 s 0 w h1 h2
theorem wExt_is (hs:SIs w S sf) (hok:S.ok) (hx:XIs w S f x) (hy:XIs w S g y) (ht:Tabs w):Calls prog 80 #[sf.val,f.val,g.val] w (gO S (kO S x y) w):=by
 cases S<;>cases x<;>cases y<;>first | exact hx.elim | exact hy.elim | skip
 ·obtain ⟨a,c,rfl⟩:=hs
  exact rT _ _ _ _ _ _ _ _ _ hok hx hy ht
 ·obtain ⟨b,off,c,a1,c1,a2,c2,rfl,h1,h2⟩:=hs
  obtain ⟨ra,ca,rc,cc,pc,fb,fo,f1,f2,rfl,h6,h7,h8,h9⟩:=hx.two
  obtain ⟨ra',ca',rc',cc',pc',gb,go,g1,g2,rfl,h6',h7',h8',h9'⟩:=hy.two
  exact Mv _ _ _ _ _ _ _ _ _ _ _ _ h1 h2 hok.1 hok.2 _ _ _ _ _ _ _ _ _ _ _ h6 h7 h8 h9 _ _ _ _ _ _ _ _ _ _ _ h6' h7' h8' h9' ht
theorem oneA_ok (hs:SIs w S sf) (hok:S.ok):Calls prog 78 #[sf.val] w (gO S (rH S) w):=by
 cases S with
 | one t n =>
  obtain ⟨a,c,rfl⟩:=hs
  exact rU _ _ _ _ _ hok
 | two t n u m =>
  obtain ⟨b,off,c,a1,c1,a2,c2,rfl,h1,h2⟩:=hs
  exact Mw _ _ _ _ _ _ _ _ _ _ _ _ h1 h2 hok.1 hok.2
theorem Fo (hs:SIs w S sf) (hok:S.ok):Calls prog 58 #[sf.val] w (gO S (kF S) w):=by
 cases S with
 | one t n =>
  obtain ⟨a,c,rfl⟩:=hs
  refine (vC t n a 0 c (wE hok) w).mono ?_
  rintro e w' ⟨rfl,hb⟩
  exact ⟨rA,rfl,nG _ _ _ _,hb⟩
 | two t n u m =>
  obtain ⟨b,off,c,a1,c1,a2,c2,rfl,h1,h2⟩:=hs
  exact If 1 _ _ _ _ w (Ko h1 h2) hok.1 hok.2
end
theorem Kp {w:World} {base:Nat} {v:Value} {g h:WF} (hr:w.ownsRow base 53 6 v 2 (g.six++h.six)):∃ b c,v = .slice (some ⟨b,0,none⟩) 2 c∧base≤b∧W6 w b 0 g∧W6 w b 6 h:=by
 rcases hr.2 with ⟨_,h2⟩ | ⟨b,cap,cur,rfl,hb,hh,h1,h2,h3,h4⟩
 ·cases h2
 ·have key:∀ i v,(g.six++h.six)[i]?=some v→w.cell? ⟨b,i,none⟩=some v:=fun i v hi=>by
   rw [← h4,List.getElem?_take] at hi
   split at hi
   ·unfold World.cell?;simp only [hh];simpa using hi
   ·cases hi
  exact ⟨b,cap,rfl,hb,⟨key 0 _ rfl,key 1 _ rfl,key 2 _ rfl,key 3 _ rfl,key 4 _ rfl,key 5 _ rfl⟩,⟨key 6 _ rfl,key 7 _ rfl,key 8 _ rfl,key 9 _ rfl,key 10 _ rfl,key 11 _ rfl⟩⟩
theorem Ih {w W:World} {t n u m:Int} {ra ca:Option Addr} {rc cc lo1 lo2:Nat} {v:Value} {g h:WF} {x y:PF} (hb:Below w.heap.size w W) (hr:W.ownsRow w.heap.size 53 6 v 2 (g.six++h.six)) (h1:w.heap.size≤lo1) (k1:PNew lo1 W t n g x) (h2:w.heap.size≤lo2) (k2:PNew lo2 W u m h y) :
  gO (.two t n u m) (.two x y) w (.returned (.agg (List.toArray [.bool false,.int .i64 0,.int .u64 0,.slice ra 0 rc,.slice ca 0 cc,v]))) W:=by
 obtain ⟨b,c,rfl,hb0,h6,h7⟩:=Kp hr
 exact ⟨⟨false,0,0,ra,0,rc,[],ca,0,cc,[],some ⟨b,0,none⟩,2,c⟩,rfl,⟨rfl,rfl,rfl,rfl,b,g,h,rfl,hb0,h6,h7,k1.mono h1,k2.mono h2⟩,hb⟩
theorem Fp (t n u m0:Int) (w:World) (fra fca:Option Addr) (frc fcc fpc fb fo:Nat) (f1 f2:WF) (x1 x2:PF) (hf6:W6 w fb fo f1) (hf7:W6 w fb (fo+6) f2) (hx1:PIs w t n f1 x1) (hx2:PIs w u m0 f2 x2) :
  Calls prog 79 #[.agg #[.bool false,.int .i64 0,.int .u64 0,.slice fra 0 frc,.slice fca 0 fcc,.slice (some ⟨fb,fo,none⟩) 2 fpc]] w (gO (.two t n u m0) (.two x1 x2) w):=by
 refine cH (args:=[.agg #[.bool false,.int .i64 0,.int .u64 0,.slice fra 0 frc,.slice fca 0 fcc,.slice (some ⟨fb,fo,none⟩) 2 fpc]]) func79 rfl ntmps79 rfl ?_
 have hS:=St.start w
 refine aL (aR (bK (cs:=[_,_,_,_,_,_]) hS rfl rfl rfl fun B1 W1 hS=>bH (cs:=[_,_,_,_,_,_]) hS zeroValue53 rfl rfl fun B2 W2 hS=>aQ (XF.thenN (aL (aR (aP (o':=2) dY rfl rfl rfl (aP (o':=3) tA rfl rfl rfl (aT isAgg47 rfl (aK (hS.at_ 1 rfl) rfl) rfl (cO (vs:=[_]) hS goes_97 rfl (wV _ _ [] _ (by simp) (.inl rfl) 0 rfl) rfl ?_)))))))))
 rintro e W3 ⟨v,rfl,hown,hb⟩
 refine ⟨_,rfl,hb,fun hS'=>?_⟩
 clear hS;have hS:=hS';clear hS' hb
 obtain ⟨ra1,rc1,rfl,_,_⟩:=(vE (rows:=[]) hown).2
 clear hown
 refine aP (o':=2) dY rfl rfl rfl (aP (o':=3) tA rfl rfl rfl (fA (i:=1) (cs':=[_,_,_,_,_,_]) (O':=[_,_]) hS sizeOf47 rfl rfl rfl rfl rfl rfl rfl fun W4 hS=>aQ (XF.thenN (aL (aR (aP (o':=4) cZ rfl rfl rfl (aT isAgg50 rfl (aK (hS.at_ 1 rfl) rfl) rfl (cO (vs:=[_]) hS goes_98 rfl (Ai _ _ [] _ (by simp) (.inl rfl) 0 rfl) rfl ?_))))))))
 rintro e W5 ⟨ca1,cc1,rfl,_,_,hb⟩
 refine ⟨_,rfl,hb,fun hS'=>?_⟩
 clear hS;have hS:=hS';clear hS' hb
 refine aP (o':=4) cZ rfl rfl rfl (fA (i:=1) (cs':=[_,_,_,_,_,_]) (O':=[_,_]) hS sizeOf50 rfl rfl rfl rfl rfl rfl rfl fun W6 hS=>aQ (XF.thenN (aL (aR (aA rfl rfl (aQ (XF.thenN (aL (aL ?_)))))))))
 have hS:=(hS.newG 53 6).clear
 refine aR (aP (o':=5) cP rfl rfl rfl (aT isAgg51 rfl (aK (hS.at_ 1 rfl) rfl) rfl (bX underlying51 rfl rfl (aG rfl rfl (aQ (XF.thenN (bM (dK (fun m l W=>(m=2∧l=[(1,.pointer (some ⟨B1,0,none⟩)),(2,.pointer (some ⟨B2,0,none⟩)),(3,.slice none 0 0),(17,.slice (some ⟨fb,fo,none⟩) 2 fpc),(18,.int .i64 2),(19,.int .i64 0)]∧St w [(B2,[.bool false,.int .i64 0,.int .u64 0,.slice none 0 0,.slice none 0 0,.slice none 0 0],53),(B1,[.bool false,.int .i64 0,.int .u64 0,.slice ra1 0 rc1,.slice ca1 0 cc1,.slice (some ⟨fb,fo,none⟩) 2 fpc],53)] [⟨.slice none 0 0,0,[],53,6⟩] [] W)∨(∃ v1 lo1 A1 h1,m=1∧l=[(1,.pointer (some ⟨B1,0,none⟩)),(2,.pointer (some ⟨B2,0,none⟩)),(3,v1),(17,.slice (some ⟨fb,fo,none⟩) 2 fpc),(18,.int .i64 2),(19,.int .i64 1)]∧w.heap.size≤lo1∧PNew lo1 A1 t n h1 x1∧St w [(B2,[.bool false,.int .i64 0,.int .u64 0,.slice none 0 0,.slice none 0 0,.slice none 0 0],53),(B1,[.bool false,.int .i64 0,.int .u64 0,.slice ra1 0 rc1,.slice ca1 0 cc1,.slice (some ⟨fb,fo,none⟩) 2 fpc],53)] [⟨v1,1,h1.six,53,6⟩] [(lo1,A1)] W)∨(∃ v2 lo1 A1 h1 lo2 A2 h2,m=0∧l=[(1,.pointer (some ⟨B1,0,none⟩)),(2,.pointer (some ⟨B2,0,none⟩)),(3,v2),(17,.slice (some ⟨fb,fo,none⟩) 2 fpc),(18,.int .i64 2),(19,.int .i64 2)]∧w.heap.size≤lo1∧PNew lo1 A1 t n h1 x1∧w.heap.size≤lo2∧PNew lo2 A2 u m0 h2 x2∧St w [(B2,[.bool false,.int .i64 0,.int .u64 0,.slice none 0 0,.slice none 0 0,.slice none 0 0],53),(B1,[.bool false,.int .i64 0,.int .u64 0,.slice ra1 0 rc1,.slice ca1 0 cc1,.slice (some ⟨fb,fo,none⟩) 2 fpc],53)] [⟨v2,2,h1.six++h2.six,53,6⟩] [(lo2,A2),(lo1,A1)] W)) (2) ([(1,_),(2,_),(3,_),(17,_),(18,_),(19,_)]) ⟨rfl,rfl,rfl,rfl,rfl,rfl,trivial⟩ (.inl ⟨rfl,rfl,hS⟩) ?_))))))))
 clear hS
 rintro m l W (⟨rfl,rfl,hS⟩ | ⟨v1,lo1,A1,h1,rfl,rfl,hlo1,hn1,hS⟩ | ⟨v2,lo1,A1,h1,lo2,A2,h2,rfl,rfl,hlo1,hn1,hlo2,hn2,hS⟩)
 ·have k1:=aE.agree hS.agree (Nat.zero_le _) hf6.cells
  refine aL (aR (cN rfl rfl rfl (aQ (XF.thenN (aL (aZ rfl (fun hc=>?_) (fun hc=>absurd (of_decide_eq_false hc) (by omega))))))))
  have hc:=of_decide_eq_true hc
  refine bG (XF.thenN (aL (bM (aL (aR (cK (j:=0) underlying51 sizeOf53 rfl rfl rfl (by omega) (Nat.add_zero _) rfl (aS (vs:=[_,_,_,_,_,_]) isAgg53 sizeOf53 rfl (by assumption) rfl (bH (cs:=[_,_,_,_,_,_]) hS zeroValue53 rfl rfl fun B7 W7 hS=>aV (i:=0) (vs:=[_,_,_,_,_,_]) (cs':=[_,_,_,_,_,_]) (O':=[_,_,_]) hS sizeOf53 rfl rfl rfl rfl rfl rfl rfl fun W8 hS=>aQ (XF.thenN (aR (aG rfl rfl (aS (vs:=[_,_,_,_,_,_]) isAgg53 sizeOf53 rfl (aE.own (j:=0) (m:=6) (hS.at_ 0 rfl) rfl) rfl ?_))))))))))))
  have hsz:=hS.below.size
  refine cO (vs:=[_]) hS tD rfl (jI t n f1 _ _ (hx1.below hS.below)) rfl ?_
  rintro e W9 ⟨h1,rfl,hn,hb⟩
  refine ⟨_,rfl,hb,fun hS'=>?_⟩
  clear hS;have hS:=hS';clear hS'
  refine cU (us:=[(0,.agg (List.toArray [_,_,_,_,_,_]))]) hS underlying51 sizeOf53 zeroValue53 rfl rfl rfl (Ck _ _ _ _ _ _) rfl fun B10 W10 hS=>?_
  refine iB (i:=0) (news:=[_,_,_,_,_,_]) hS underlying51 Pj rfl rfl (by show 0 < 6;decide) rfl rfl rfl rfl rfl (aE.own (j:=0) (m:=6) (hS.at_ 0 rfl) rfl) rfl rfl (by dsimp only;simp only [maxLen];omega) (by dsimp only;show _ * 96≤_;omega) rfl fun v11 W11 hS=>?_
  refine aA rfl rfl (aQ (XF.blkN (XF.thenN (aR (cR rfl rfl (IntWalk.i64_in _ (by omega)) rfl (aG rfl rfl (aQ ?_)))))))
  exact XF.round 1 [(1,_),(2,_),(3,_),(17,_),(18,_),(19,_)] (by omega) ⟨rfl,rfl,rfl,rfl,rfl,rfl,trivial⟩ (.inr (.inl ⟨_,_,_,h1,rfl,rfl,hsz,hn,hS.tail.tail⟩))
 ·have k1:=aE.agree hS.agree (Nat.zero_le _) hf7.cells
  refine aL (aR (cN rfl rfl rfl (aQ (XF.thenN (aL (aZ rfl (fun hc=>?_) (fun hc=>absurd (of_decide_eq_false hc) (by omega))))))))
  have hc:=of_decide_eq_true hc
  refine bG (XF.thenN (aL (bM (aL (aR (cK (j:=1) underlying51 sizeOf53 rfl rfl rfl (by omega) rfl rfl (aS (vs:=[_,_,_,_,_,_]) isAgg53 sizeOf53 rfl (by assumption) rfl (bH (cs:=[_,_,_,_,_,_]) hS zeroValue53 rfl rfl fun B12 W12 hS=>aV (i:=0) (vs:=[_,_,_,_,_,_]) (cs':=[_,_,_,_,_,_]) (O':=[_,_,_]) hS sizeOf53 rfl rfl rfl rfl rfl rfl rfl fun W13 hS=>aQ (XF.thenN (aR (aG rfl rfl (aS (vs:=[_,_,_,_,_,_]) isAgg53 sizeOf53 rfl (aE.own (j:=0) (m:=6) (hS.at_ 0 rfl) rfl) rfl ?_))))))))))))
  have hsz:=hS.below.size
  refine cO (vs:=[_]) hS tD rfl (jI u m0 f2 _ _ (hx2.below hS.below)) rfl ?_
  rintro e W14 ⟨h2,rfl,hn,hb⟩
  refine ⟨_,rfl,hb,fun hS'=>?_⟩
  clear hS;have hS:=hS';clear hS'
  refine cU (us:=[(0,.agg (List.toArray [_,_,_,_,_,_]))]) hS underlying51 sizeOf53 zeroValue53 rfl rfl rfl (Ck _ _ _ _ _ _) rfl fun B15 W15 hS=>?_
  refine iB (i:=0) (news:=[_,_,_,_,_,_]) hS underlying51 Pj rfl rfl (by show 0 < 6;decide) rfl rfl rfl rfl rfl (aE.own (j:=0) (m:=6) (hS.at_ 0 rfl) rfl) rfl rfl (by dsimp only;simp only [maxLen];omega) (by dsimp only;show _ * 96≤_;omega) rfl fun v16 W16 hS=>?_
  refine aA rfl rfl (aQ (XF.blkN (XF.thenN (aR (cR rfl rfl (IntWalk.i64_in _ (by omega)) rfl (aG rfl rfl (aQ ?_)))))))
  exact XF.round 0 [(1,_),(2,_),(3,_),(17,_),(18,_),(19,_)] (by omega) ⟨rfl,rfl,rfl,rfl,rfl,rfl,trivial⟩ (.inr (.inr ⟨_,_,_,h1,_,_,h2,rfl,rfl,hlo1,hn1,hsz,hn,hS.tail.tail⟩))
 ·skip
  refine aL (aR (cN rfl rfl rfl (aQ (XF.thenN (aL (aZ rfl (fun hc=>absurd (of_decide_eq_true hc) (by omega)) (fun hc=>?_)))))))
  have hc:=of_decide_eq_false hc
  refine dE (XF.thenX (XF.thenX (XF.blkX (XF.thenN (aL ?_)))))
  obtain ⟨gb,gc,rfl,hgb,hg6,hg7⟩:=Kp (hS.row 0 rfl)
  clear hgb hg6 hg7
  refine aR (aG rfl rfl (aP (o':=5) cP rfl rfl rfl (fA (i:=1) (cs':=[_,_,_,_,_,_]) (O':=[_,_]) hS sizeOf51 rfl rfl rfl rfl rfl rfl rfl fun W17 hS=>aQ (XF.thenN (aL (aR (aS (vs:=[_,_,_,_,_,_]) isAgg53 sizeOf53 rfl (aE.own (j:=0) (m:=6) (hS.at_ 1 rfl) rfl) rfl (aV (i:=0) (vs:=[_,_,_,_,_,_]) (cs':=[_,_,_,_,_,_]) (O':=[_,_]) hS sizeOf53 rfl rfl rfl rfl rfl rfl rfl fun W18 hS=>aQ (XF.thenN (bJ (XF.res (dO (vs:=[_,_,_,_,_,_]) results79 isAgg53 sizeOf53 rfl (aE.own (j:=0) (m:=6) (hS.at_ 0 rfl) rfl)) ?_)))))))))))
  exact Ih hS.below (hS.row 0 rfl) hlo1 (hn1.agree (hS.since 1 rfl)) hlo2 (hn2.agree (hS.since 0 rfl))
section
variable {w:World} {S:PS} {sf:SF} {f g:WF} {x y:PX}
theorem My (hx:XIs w S f x):Calls prog 79 #[f.val] w (gO S x w):=by
 cases S<;>cases x<;>first | exact hx.elim | skip
 ·exact jI _ _ _ _ _ hx
 ·obtain ⟨ra,ca,rc,cc,pc,fb,fo,f1,f2,rfl,h6,h7,h8,h9⟩:=hx.two
  exact Fp _ _ _ _ _ _ _ _ _ _ _ _ _ _ _ _ h6 h7 h8 h9
theorem Qf (hs:SIs w S sf) (hok:S.ok) (hx:XIs w S f x) (hy:XIs w S g y) (ht:Tabs w):Calls prog 62 #[sf.val,f.val,g.val] w (gO S (kT S x y) w):=by
 cases S<;>cases x<;>cases y<;>first | exact hx.elim | exact hy.elim | skip
 ·obtain ⟨a,c,rfl⟩:=hs
  exact pI _ _ _ _ _ _ _ _ _ hok hx hy ht
 ·obtain ⟨b,off,c,a1,c1,a2,c2,rfl,h1,h2⟩:=hs
  obtain ⟨ra,ca,rc,cc,pc,fb,fo,f1,f2,rfl,h6,h7,h8,h9⟩:=hx.two
  obtain ⟨ra',ca',rc',cc',pc',gb,go,g1,g2,rfl,h6',h7',h8',h9'⟩:=hy.two
  exact Ie _ _ _ _ _ _ _ _ _ _ _ _ h1 h2 hok.1 hok.2 _ _ _ _ _ _ _ _ _ _ _ h6 h7 h8 h9 _ _ _ _ _ _ _ _ _ _ _ h6' h7' h8' h9' ht
end
def qS (w:World) (a:Option Addr) (fs:List WF):Prop:=fs=[]∨∃ b off,a=some ⟨b,off,none⟩∧∀ (i:Nat) f,fs[i]?=some f→W6 w b (off+i * 6) f
theorem qS.at_ {w:World} {a:Option Addr} {fs:List WF} (h:qS w a fs) {i:Nat} {f:WF} (hi:fs[i]?=some f):∃ b off,a=some ⟨b,off,none⟩∧W6 w b (off+i * 6) f:=by
 rcases h with rfl | ⟨b,off,ha,hc⟩
 ·simp at hi
 ·exact ⟨b,off,ha,hc i f hi⟩
def XL (w:World) (S:PS) (fs:List WF) (xs:List PX):Prop:=fs.length=xs.length∧∀ (i:Nat) f x,fs[i]?=some f→xs[i]?=some x→XIs w S f x
theorem XL.at_ {w:World} {S:PS} {fs:List WF} {xs:List PX} (h:XL w S fs xs) {k:Nat} (hk:k < fs.length):∃ f x,fs[k]?=some f∧xs[k]?=some x∧XIs w S f x :=
 ⟨fs[k],xs[k]'(by have:=h.1;omega),by simp [hk],by have:=h.1;simp [show k < xs.length by omega],h.2 k _ _ (by simp [hk]) (by have:=h.1;simp [show k < xs.length by omega])⟩
def xS (S:PS) (x:PX) (e0:Int) (w:World) (e:Ending) (w':World):Prop:=∃ f:WF,e = .returned (.tuple #[f.val,.int .i64 e0])∧jM w.heap.size w' S f x∧Below w.heap.size w w'
theorem uP {α β:Type} {f:β→α→β} {b:β} {xs:List α} {k:Nat} {x:α} (h:xs[k]?=some x):(xs.take (k+1)).foldl f b=f ((xs.take k).foldl f b) x:=by
 rw [List.take_add_one,h];simp [List.foldl_append]
theorem qS.below {w w':World} {a:Option Addr} {fs:List WF} (h:qS w a fs) (hb:Below w.heap.size w w'):qS w' a fs:=by
 rcases h with h | ⟨b,off,rfl,hc⟩
 ·exact .inl h
 ·exact .inr ⟨b,off,rfl,fun i f hi=>(hc i f hi).below hb⟩
theorem XL.below {w w':World} {S:PS} {fs:List WF} {xs:List PX} (h:XL w S fs xs) (hb:Below w.heap.size w w'):XL w' S fs xs:=⟨h.1,fun i f x hf hx=>(h.2 i f x hf hx).below hb⟩
theorem tJ (S:PS) (sf:SF) (w:World) (hs:SIs w S sf) (hok:S.ok) (a:Option Addr) (c m:Nat) (fs:List WF) (xs:List PX) (hr:qS w a fs) (hx:XL w S fs xs) (hm:fs.length=m) (hmx:m≤9223372036854775807) :
  Calls prog 61 #[sf.val,.slice a m c] w (fun e w'=>e = .returned (.int .i64 0)∧Below w.heap.size w w'):=by
 refine cH (args:=[sf.val,.slice a m c]) func61 rfl ntmps61 rfl ?_
 have hS:=St.start w
 refine aL (aR (bK (cs:=[_,_,_]) hS rfl rfl rfl fun B1 W1 hS=>aA rfl rfl (aQ (XF.thenN (aL (aL (aR (aS (vs:=[_,_,_]) isAgg25 sizeOf25 rfl (aE.own (j:=0) (m:=3) (hS.at_ 0 rfl) rfl) rfl (cF (vs:=[_]) hS tC rfl (uO (hs.below hS.below) hok) rfl fun W2 hS=>aA rfl rfl (aQ (XF.thenN (aL (aR (aG rfl rfl (dA rfl rfl rfl (aQ (XF.thenN (aZ rfl (fun hc=>absurd (of_decide_eq_true hc) (by omega)) (fun hc=>?_)))))))))))))))))))
 have hc:=of_decide_eq_false hc
 refine bG (XF.thenN (aL (aL (aR (aG rfl rfl (bX underlying51 rfl rfl (aG rfl rfl (aQ (XF.thenN (bM (dK (fun q l W=>∃ k:Nat,k≤m∧q=m - k∧l=[(2,.pointer (some ⟨B1,0,none⟩)),(13,.slice a m c),(14,.int .i64 (m:Int)),(15,.int .i64 (k:Int))]∧St w [(B1,[.int .i64 sf.tag,.int .i64 sf.dim,.slice sf.a sf.len sf.cap],25)] [] [] W) (m - 0) ([(2,_),(13,_),(14,_),(15,_)]) ⟨rfl,rfl,rfl,rfl,trivial⟩ (⟨0,Nat.zero_le _,rfl,rfl,hS.clear⟩) ?_)))))))))))
 clear hS
 rintro q l W ⟨k,hkm,rfl,rfl,hS⟩
 refine aL (aR (cN rfl rfl rfl (aQ (XF.thenN (aL (aZ rfl (fun hc=>?_) (fun hc=>?_)))))))
 ·have hc16:=of_decide_eq_true hc;clear hc
  have hk:k < m:=by omega
  obtain ⟨f,x,hf,hxk,hxx⟩:=hx.at_ (k:=k) (by omega)
  obtain ⟨b,off,rfl,h6⟩:=hr.at_ hf
  have k1:=aE.agree hS.agree (Nat.zero_le _) h6.cells
  refine bG (XF.thenN (aL (bM (aL (aR (cK  underlying51 sizeOf53 rfl rfl rfl (by omega) rfl rfl (aS (vs:=[_,_,_,_,_,_]) isAgg53 sizeOf53 rfl (by assumption) rfl (bH (cs:=[_,_,_,_,_,_]) hS zeroValue53 rfl rfl fun B3 W3 hS=>aV (i:=0) (vs:=[_,_,_,_,_,_]) (cs':=[_,_,_,_,_,_]) (O':=[_,_]) hS sizeOf53 rfl rfl rfl rfl rfl rfl rfl fun W4 hS=>aQ (XF.thenN (aL (aR (aS (vs:=[_,_,_]) isAgg25 sizeOf25 rfl (aE.own (j:=0) (m:=3) (hS.at_ 1 rfl) rfl) rfl (aS (vs:=[_,_,_,_,_,_]) isAgg53 sizeOf53 rfl (aE.own (j:=0) (m:=6) (hS.at_ 0 rfl) rfl) rfl (cF (vs:=[_,_]) hS tE rfl (isA_ok (hs.below hS.below) hok (hxx.below hS.below)) rfl fun W5 hS=>eA rfl rfl (aQ (XF.thenN (vA rfl (bG (XF.blkN (XF.thenN (aR ?_)))))))))))))))))))))
  refine cR rfl rfl (IntWalk.i64_in _ (by omega)) rfl (aG rfl rfl (aQ ?_))
  exact XF.round (m - (k+1)) [(2,_),(13,_),(14,_),(15,_)] (by omega) ⟨rfl,rfl,rfl,rfl,trivial⟩ ⟨k+1,by omega,rfl,rfl,hS.tail.clear⟩
 ·have hc16:=of_decide_eq_false hc;clear hc
  refine dE (XF.thenX (XF.thenX (XF.blkX (XF.thenN (aL (aR (aA rfl rfl (aQ (XF.thenN (bJ (XF.res (cJ results61 rfl) ?_)))))))))))
  exact ⟨rfl,hS.below⟩
theorem Fq (S:PS) (sf:SF) (w:World) (hs:SIs w S sf) (hok:S.ok) (a:Option Addr) (c m:Nat) (fs:List WF) (xs:List PX) (hr:qS w a fs) (hx:XL w S fs xs) (hm:fs.length=m) (hmx:m≤9223372036854775807) (ht:Tabs w) :
  Calls prog 41 #[sf.val,.slice a m c] w (xS S (xs.foldl (kT S) (kF S)) 0 w):=by
 refine cH (args:=[sf.val,.slice a m c]) func41 rfl ntmps41 rfl ?_
 have hS:=St.start w
 refine aL (aR (bK (cs:=[_,_,_]) hS rfl rfl rfl fun B1 W1 hS=>bH (cs:=[_,_,_,_,_,_]) hS zeroValue53 rfl rfl fun B2 W2 hS=>aA rfl rfl (aQ (XF.thenN (aL (aL (aR (aS (vs:=[_,_,_]) isAgg25 sizeOf25 rfl (aE.own (j:=0) (m:=3) (hS.at_ 1 rfl) rfl) rfl (aG rfl rfl (cF (vs:=[_,_]) hS Cp rfl (tJ S sf _ (hs.below hS.below) hok a c m fs xs (hr.below hS.below) (hx.below hS.below) hm hmx) rfl fun W3 hS=>aA rfl rfl (aQ (XF.thenN (aL (aR (aG rfl rfl (dA rfl rfl rfl (aQ (XF.thenN (aZ rfl (fun hc=>absurd (of_decide_eq_true hc) (by omega)) (fun hc=>?_))))))))))))))))))))
 have hc:=of_decide_eq_false hc
 refine bG (XF.thenN (aL (aR (aS (vs:=[_,_,_]) isAgg25 sizeOf25 rfl (aE.own (j:=0) (m:=3) (hS.at_ 1 rfl) rfl) rfl ?_))))
 have hsz:=hS.below.size
 refine cO (vs:=[_]) hS J4 rfl (Fo (hs.below hS.below) hok) rfl ?_
 rintro e W4 ⟨f0,rfl,hn,hb⟩
 refine ⟨_,rfl,hb,fun hS'=>?_⟩
 clear hS;have hS:=hS';clear hS'
 refine bH (cs:=[_,_,_,_,_,_]) hS zeroValue53 rfl rfl fun B5 W5 hS=>aV (i:=0) (vs:=[_,_,_,_,_,_]) (cs':=[_,_,_,_,_,_]) (O':=[_,_,_]) hS sizeOf53 rfl rfl rfl rfl rfl rfl rfl fun W6 hS=>aQ (XF.thenN (aL (aL (aR (aG rfl rfl (bX underlying51 rfl rfl (aG rfl rfl (aQ (XF.thenN (bM ?_))))))))))
 refine dK (fun q l W=>∃ (k:Nat) (f0:WF) (lo:Nat) (A:World),k≤m∧q=m - k∧l=[(2,.pointer (some ⟨B1,0,none⟩)),(4,.pointer (some ⟨B2,0,none⟩)),(7,.pointer (some ⟨B5,0,none⟩)),(19,.slice a m c),(20,.int .i64 (m:Int)),(21,.int .i64 (k:Int))]∧w.heap.size≤lo∧jM lo A S f0 ((xs.take k).foldl (kT S) (kF S))∧St w [(B5,f0.six,53),(B2,[.bool false,.int .i64 0,.int .u64 0,.slice none 0 0,.slice none 0 0,.slice none 0 0],53),(B1,[.int .i64 sf.tag,.int .i64 sf.dim,.slice sf.a sf.len sf.cap],25)] [] [(lo,A)] W) (m - 0) ([(2,_),(4,_),(7,_),(19,_),(20,_),(21,_)]) ⟨rfl,rfl,rfl,rfl,rfl,rfl,trivial⟩ (⟨0,f0,_,_,Nat.zero_le _,rfl,rfl,hsz,hn,hS.keep [_] (fun q hq=>by simp at hq;subst hq;exact List.mem_cons_self)⟩) ?_
 clear hS
 rintro q l W ⟨k,f0,lo,A,hkm,rfl,rfl,hlo,hn0,hS⟩
 refine aL (aR (cN rfl rfl rfl (aQ (XF.thenN (aL (aZ rfl (fun hc=>?_) (fun hc=>?_)))))))
 ·have hc22:=of_decide_eq_true hc;clear hc
  have hk:k < m:=by omega
  obtain ⟨f,x,hf,hxk,hxx⟩:=hx.at_ (k:=k) (by omega)
  obtain ⟨b,off,rfl,h6⟩:=hr.at_ hf
  have k1:=aE.agree hS.agree (Nat.zero_le _) h6.cells
  refine bG (XF.thenN (aL (bM (aL (aR (cK  underlying51 sizeOf53 rfl rfl rfl (by omega) rfl rfl (aS (vs:=[_,_,_,_,_,_]) isAgg53 sizeOf53 rfl (by assumption) rfl (bH (cs:=[_,_,_,_,_,_]) hS zeroValue53 rfl rfl fun B7 W7 hS=>aV (i:=0) (vs:=[_,_,_,_,_,_]) (cs':=[_,_,_,_,_,_]) (O':=[_,_,_,_]) hS sizeOf53 rfl rfl rfl rfl rfl rfl rfl fun W8 hS=>aQ (XF.thenN (aR (aS (vs:=[_,_,_]) isAgg25 sizeOf25 rfl (aE.own (j:=0) (m:=3) (hS.at_ 3 rfl) rfl) rfl (aS (vs:=[_,_,_,_,_,_]) isAgg53 sizeOf53 rfl (aE.own (j:=0) (m:=6) (hS.at_ 1 rfl) rfl) rfl (aS (vs:=[_,_,_,_,_,_]) isAgg53 sizeOf53 rfl (aE.own (j:=0) (m:=6) (hS.at_ 0 rfl) rfl) rfl ?_)))))))))))))
  have hsz2:=hS.below.size
  have hb0:=hS.below
  refine cO (vs:=[_,_,_]) hS Cr rfl (Qf (hs.below hS.below) hok ((hn0.agree (hS.since 0 rfl)).is) (hxx.below hS.below) (ht.below hS.below)) rfl ?_
  rintro e W9 ⟨f2,rfl,hn2,hb⟩
  refine ⟨_,rfl,hb,fun hS'=>?_⟩
  clear hS;have hS:=hS';clear hS'
  refine aV (i:=1) (vs:=[_,_,_,_,_,_]) (cs':=[_,_,_,_,_,_]) (O':=[_,_,_,_]) hS sizeOf53 rfl rfl rfl rfl rfl rfl rfl fun W10 hS=>aQ (XF.blkN (XF.thenN (aR (cR rfl rfl (IntWalk.i64_in _ (by omega)) rfl (aG rfl rfl (aQ ?_))))))
  exact XF.round (m - (k+1)) [(2,_),(4,_),(7,_),(19,_),(20,_),(21,_)] (by omega) ⟨rfl,rfl,rfl,rfl,rfl,rfl,trivial⟩ ⟨k+1,f2,_,_,by omega,rfl,rfl,hsz2,by rw [uP hxk];exact hn2,hS.tail.keep [_] (fun q hq=>by simp at hq;subst hq;exact List.mem_cons_self)⟩
 ·have hc22:=of_decide_eq_false hc;clear hc
  refine dE (XF.thenX (XF.thenX (XF.blkX (XF.thenN (aL (aR (aS (vs:=[_,_,_,_,_,_]) isAgg53 sizeOf53 rfl (aE.own (j:=0) (m:=6) (hS.at_ 0 rfl) rfl) rfl (aV (i:=1) (vs:=[_,_,_,_,_,_]) (cs':=[_,_,_,_,_,_]) (O':=[_,_,_]) hS sizeOf53 rfl rfl rfl rfl rfl rfl rfl fun W11 hS=>aA rfl rfl (aQ (XF.thenN (bJ (XF.res (oK (vs:=[_,_,_,_,_,_]) results41 isAgg53 sizeOf53 rfl (aE.own (j:=0) (m:=6) (hS.at_ 1 rfl) rfl) rfl) ?_))))))))))))
  have e1:xs.take k=xs:=List.take_of_length_le (by have:=hx.1;omega)
  rw [e1] at hn0
  exact ⟨f0,rfl,(hn0.agree (hS.since 0 rfl)).mono hlo,hS.below⟩
theorem XL.tail {w:World} {S:PS} {f:WF} {fs:List WF} {x:PX} {xs:List PX} (h:XL w S (f::fs) (x::xs)):XL w S fs xs :=
 ⟨by have:=h.1;simpa using this,fun i g y hg hy=>h.2 (i+1) g y (by simpa using hg) (by simpa using hy)⟩
theorem qS.tail {w:World} {a a':Option Addr} {f:WF} {fs:List WF} {m c:Nat} (h:qS w a (f::fs)) (hm:fs.length+1=m) (hmc:m≤c) (h1:c=1→a'=a) (h2:c≠1→a'=a.map (·.add (1 * 6))):qS w a' fs:=by
 by_cases hc:c=1
 ·exact .inl (List.eq_nil_of_length_eq_zero (by omega))
 ·rcases h with h | ⟨b,off,rfl,hh⟩
  ·cases h
  ·refine .inr ⟨b,off+6,by rw [h2 hc,Option.map_some,Addr.add_lit],fun i g hg=>?_⟩
   have:=hh (i+1) g (by simpa using hg)
   rwa [show off+(i+1) * 6=off+6+i * 6 by omega] at this
theorem Ii (S:PS) (sf:SF) (w:World) (hs:SIs w S sf) (hok:S.ok) (a:Option Addr) (c m:Nat) (f0:WF) (x0:PX) (ft:List WF) (xt:List PX) (hr:qS w a (f0::ft)) (hx:XL w S (f0::ft) (x0::xt)) (hm:ft.length+1=m) (hmc:m≤c) (hmx:m≤9223372036854775807) (ht:Tabs w) :
  Calls prog 60 #[sf.val,.slice a m c] w (xS S (xt.foldl (kO S) x0) 0 w):=by
 refine cH (args:=[sf.val,.slice a m c]) func60 rfl ntmps60 rfl ?_
 have hS:=St.start w
 refine aL (aR (bK (cs:=[_,_,_]) hS rfl rfl rfl fun B1 W1 hS=>bH (cs:=[_,_,_,_,_,_]) hS zeroValue53 rfl rfl fun B2 W2 hS=>aA rfl rfl (aQ (XF.thenN (aL (aL (aR (aS (vs:=[_,_,_]) isAgg25 sizeOf25 rfl (aE.own (j:=0) (m:=3) (hS.at_ 1 rfl) rfl) rfl (aG rfl rfl (cF (vs:=[_,_]) hS Cp rfl (tJ S sf _ (hs.below hS.below) hok a c m _ _ (hr.below hS.below) (hx.below hS.below) (by simpa using hm) hmx) rfl fun W3 hS=>aA rfl rfl (aQ (XF.thenN (aL (aR (aG rfl rfl (dA rfl rfl rfl (aQ (XF.thenN (aZ rfl (fun hc=>absurd (of_decide_eq_true hc) (by omega)) (fun hc=>?_))))))))))))))))))))
 have hc:=of_decide_eq_false hc
 refine bG (XF.thenN (aL (aL (aR (aG rfl rfl (bX underlying51 rfl rfl (cM rfl rfl rfl (aQ (XF.thenN (aZ rfl (fun hc=>absurd (of_decide_eq_true hc) (by omega)) (fun hc=>?_)))))))))))
 have hc:=of_decide_eq_false hc
 refine bG (XF.thenN (aL ?_))
 obtain ⟨b,off,rfl,h6⟩:=hr.at_ (i:=0) rfl
 have k0:aE W3 b off f0.six:=aE.agree hS.agree (Nat.zero_le _) (show W6 w b off f0 by simpa using h6).cells
 have hsz:=hS.below.size
 refine aR (aG rfl rfl (cK (j:=0) underlying51 sizeOf53 rfl rfl rfl (by omega) (Nat.add_zero _) rfl (aS (vs:=[_,_,_,_,_,_]) isAgg53 sizeOf53 rfl (by assumption) rfl (cO (vs:=[_]) hS tD rfl (My ((hx.2 0 f0 x0 rfl rfl).below hS.below)) rfl ?_))))
 rintro e W4 ⟨f1,rfl,hn,hb⟩
 refine ⟨_,rfl,hb,fun hS'=>?_⟩
 clear hS;have hS:=hS';clear hS'
 refine bH (cs:=[_,_,_,_,_,_]) hS zeroValue53 rfl rfl fun B5 W5 hS=>aV (i:=0) (vs:=[_,_,_,_,_,_]) (cs':=[_,_,_,_,_,_]) (O':=[_,_,_]) hS sizeOf53 rfl rfl rfl rfl rfl rfl rfl fun W6 hS=>aQ (XF.thenN (aL (aL (aR (aG rfl rfl (sZ (j:=1) underlying51 sizeOf53 rfl rfl rfl (by omega) rfl ?_))))))
 intro ad7 hadE7 hadN7
 have hrt:=qS.tail hr hm hmc hadE7 hadN7
 have hxt:=XL.tail hx
 clear hadE7 hadN7
 refine bX underlying51 rfl rfl (aG rfl rfl (aQ (XF.thenN (bM ?_))))
 refine dK (fun q l W=>∃ (k:Nat) (g:WF) (lo:Nat) (A:World),k≤m - 1∧q=m - 1 - k∧l=[(2,.pointer (some ⟨B1,0,none⟩)),(4,.pointer (some ⟨B2,0,none⟩)),(7,.pointer (some ⟨B5,0,none⟩)),(27,.slice ad7 (m - 1) (c - 1)),(28,.int .i64 ((m - 1:Nat):Int)),(29,.int .i64 (k:Int))]∧w.heap.size≤lo∧jM lo A S g ((xt.take k).foldl (kO S) x0)∧St w [(B5,g.six,53),(B2,[.bool false,.int .i64 0,.int .u64 0,.slice none 0 0,.slice none 0 0,.slice none 0 0],53),(B1,[.int .i64 sf.tag,.int .i64 sf.dim,.slice sf.a sf.len sf.cap],25)] [] [(lo,A)] W) (m - 1 - 0) ([(2,_),(4,_),(7,_),(27,_),(28,_),(29,_)]) ⟨rfl,rfl,rfl,rfl,rfl,rfl,trivial⟩ (⟨0,f1,_,_,Nat.zero_le _,rfl,rfl,hsz,hn,hS.keep [_] (fun q hq=>by simp at hq;subst hq;exact List.mem_cons_self)⟩) ?_
 clear hS
 rintro q l W ⟨k,g,lo,A,hkm,rfl,rfl,hlo,hn0,hS⟩
 refine aL (aR (cN rfl rfl rfl (aQ (XF.thenN (aL (aZ rfl (fun hc=>?_) (fun hc=>?_)))))))
 ·have hc30:=of_decide_eq_true hc;clear hc
  have hk:k < m - 1:=by omega
  obtain ⟨f,x,hf,hxk,hxx⟩:=hxt.at_ (k:=k) (by omega)
  obtain ⟨b2,off2,rfl,h62⟩:=hrt.at_ hf
  have k1:=aE.agree hS.agree (Nat.zero_le _) h62.cells
  refine bG (XF.thenN (aL (bM (aL (aR (cK  underlying51 sizeOf53 rfl rfl rfl (by omega) rfl rfl (aS (vs:=[_,_,_,_,_,_]) isAgg53 sizeOf53 rfl (by assumption) rfl (bH (cs:=[_,_,_,_,_,_]) hS zeroValue53 rfl rfl fun B8 W8 hS=>aV (i:=0) (vs:=[_,_,_,_,_,_]) (cs':=[_,_,_,_,_,_]) (O':=[_,_,_,_]) hS sizeOf53 rfl rfl rfl rfl rfl rfl rfl fun W9 hS=>aQ (XF.thenN (aR (aS (vs:=[_,_,_]) isAgg25 sizeOf25 rfl (aE.own (j:=0) (m:=3) (hS.at_ 3 rfl) rfl) rfl (aS (vs:=[_,_,_,_,_,_]) isAgg53 sizeOf53 rfl (aE.own (j:=0) (m:=6) (hS.at_ 1 rfl) rfl) rfl (aS (vs:=[_,_,_,_,_,_]) isAgg53 sizeOf53 rfl (aE.own (j:=0) (m:=6) (hS.at_ 0 rfl) rfl) rfl ?_)))))))))))))
  have hsz2:=hS.below.size
  refine cO (vs:=[_,_,_]) hS Cs rfl (wExt_is (hs.below hS.below) hok ((hn0.agree (hS.since 0 rfl)).is) (hxx.below hS.below) (ht.below hS.below)) rfl ?_
  rintro e W10 ⟨f2,rfl,hn2,hb⟩
  refine ⟨_,rfl,hb,fun hS'=>?_⟩
  clear hS;have hS:=hS';clear hS'
  refine aV (i:=1) (vs:=[_,_,_,_,_,_]) (cs':=[_,_,_,_,_,_]) (O':=[_,_,_,_]) hS sizeOf53 rfl rfl rfl rfl rfl rfl rfl fun W11 hS=>aQ (XF.blkN (XF.thenN (aR (cR rfl rfl (IntWalk.i64_in _ (by omega)) rfl (aG rfl rfl (aQ ?_))))))
  exact XF.round (m - 1 - (k+1)) [(2,_),(4,_),(7,_),(27,_),(28,_),(29,_)] (by omega) ⟨rfl,rfl,rfl,rfl,rfl,rfl,trivial⟩ ⟨k+1,f2,_,_,by omega,rfl,rfl,hsz2,by rw [uP hxk];exact hn2,hS.tail.keep [_] (fun q hq=>by simp at hq;subst hq;exact List.mem_cons_self)⟩
 ·have hc30:=of_decide_eq_false hc;clear hc
  refine dE (XF.thenX (XF.thenX (XF.blkX (XF.thenN (aL (aR (aS (vs:=[_,_,_,_,_,_]) isAgg53 sizeOf53 rfl (aE.own (j:=0) (m:=6) (hS.at_ 0 rfl) rfl) rfl (aV (i:=1) (vs:=[_,_,_,_,_,_]) (cs':=[_,_,_,_,_,_]) (O':=[_,_,_]) hS sizeOf53 rfl rfl rfl rfl rfl rfl rfl fun W12 hS=>aA rfl rfl (aQ (XF.thenN (bJ (XF.res (oK (vs:=[_,_,_,_,_,_]) results60 isAgg53 sizeOf53 rfl (aE.own (j:=0) (m:=6) (hS.at_ 1 rfl) rfl) rfl) ?_))))))))))))
  have e1:xt.take k=xt:=List.take_of_length_le (by have:=hxt.1;omega)
  rw [e1] at hn0
  exact ⟨g,rfl,(hn0.agree (hS.since 0 rfl)).mono hlo,hS.below⟩
theorem OneW_ok (S:PS) (sf:SF) (w:World) (hs:SIs w S sf) (hok:S.ok) :
  Calls prog 59 #[sf.val] w (xS S (rH S) 0 w):=by
 refine cH (args:=[sf.val]) func59 rfl ntmps59 rfl ?_
 have hS:=St.start w
 refine aL (aR (bK (cs:=[_,_,_]) hS rfl rfl rfl fun B1 W1 hS=>bH (cs:=[_,_,_,_,_,_]) hS zeroValue53 rfl rfl fun B2 W2 hS=>aA rfl rfl (aQ (XF.thenN (aL (aL (aR (aS (vs:=[_,_,_]) isAgg25 sizeOf25 rfl (aE.own (j:=0) (m:=3) (hS.at_ 1 rfl) rfl) rfl (cF (vs:=[_]) hS tC rfl (uO (hs.below hS.below) hok) rfl fun W3 hS=>aA rfl rfl (aQ (XF.thenN (aL (aR (aG rfl rfl (dA rfl rfl rfl (aQ (XF.thenN (aZ rfl (fun hc=>absurd (of_decide_eq_true hc) (by omega)) (fun hc=>?_)))))))))))))))))))
 have hc:=of_decide_eq_false hc
 refine bG (XF.thenN (aL (aR (aS (vs:=[_,_,_]) isAgg25 sizeOf25 rfl (aE.own (j:=0) (m:=3) (hS.at_ 1 rfl) rfl) rfl ?_))))
 have hsz:=hS.below.size
 refine cO (vs:=[_]) hS Cm rfl (oneA_ok (hs.below hS.below) hok) rfl ?_
 rintro e W4 ⟨f,rfl,hn,hb⟩
 refine ⟨_,rfl,hb,fun hS'=>?_⟩
 clear hS;have hS:=hS';clear hS'
 refine aV (i:=0) (vs:=[_,_,_,_,_,_]) (cs':=[_,_,_,_,_,_]) (O':=[_,_]) hS sizeOf53 rfl rfl rfl rfl rfl rfl rfl fun W5 hS=>aA rfl rfl (aQ (XF.thenN (bJ (XF.res (oK (vs:=[_,_,_,_,_,_]) results59 isAgg53 sizeOf53 rfl (aE.own (j:=0) (m:=6) (hS.at_ 0 rfl) rfl) rfl) ?_))))
 exact ⟨f,rfl,(hn.agree (hS.since 0 rfl)).mono hsz,hS.below⟩
theorem Fs (S:PS) (sf:SF) (w:World) (hs:SIs w S sf) (hok:S.ok) :
  Calls prog 36 #[sf.val] w (xS S (kF S) 0 w):=by
 refine cH (args:=[sf.val]) func36 rfl ntmps36 rfl ?_
 have hS:=St.start w
 refine aL (aR (bK (cs:=[_,_,_]) hS rfl rfl rfl fun B1 W1 hS=>bH (cs:=[_,_,_,_,_,_]) hS zeroValue53 rfl rfl fun B2 W2 hS=>aA rfl rfl (aQ (XF.thenN (aL (aL (aR (aS (vs:=[_,_,_]) isAgg25 sizeOf25 rfl (aE.own (j:=0) (m:=3) (hS.at_ 1 rfl) rfl) rfl (cF (vs:=[_]) hS tC rfl (uO (hs.below hS.below) hok) rfl fun W3 hS=>aA rfl rfl (aQ (XF.thenN (aL (aR (aG rfl rfl (dA rfl rfl rfl (aQ (XF.thenN (aZ rfl (fun hc=>absurd (of_decide_eq_true hc) (by omega)) (fun hc=>?_)))))))))))))))))))
 have hc:=of_decide_eq_false hc
 refine bG (XF.thenN (aL (aR (aS (vs:=[_,_,_]) isAgg25 sizeOf25 rfl (aE.own (j:=0) (m:=3) (hS.at_ 1 rfl) rfl) rfl ?_))))
 have hsz:=hS.below.size
 refine cO (vs:=[_]) hS J4 rfl (Fo (hs.below hS.below) hok) rfl ?_
 rintro e W4 ⟨f,rfl,hn,hb⟩
 refine ⟨_,rfl,hb,fun hS'=>?_⟩
 clear hS;have hS:=hS';clear hS'
 refine aV (i:=0) (vs:=[_,_,_,_,_,_]) (cs':=[_,_,_,_,_,_]) (O':=[_,_]) hS sizeOf53 rfl rfl rfl rfl rfl rfl rfl fun W5 hS=>aA rfl rfl (aQ (XF.thenN (bJ (XF.res (oK (vs:=[_,_,_,_,_,_]) results36 isAgg53 sizeOf53 rfl (aE.own (j:=0) (m:=6) (hS.at_ 0 rfl) rfl) rfl) ?_))))
 exact ⟨f,rfl,(hn.agree (hS.since 0 rfl)).mono hsz,hS.below⟩
def smN:Nat→WV→Bool
 | 0,_=>false
 | k+1,.mk f ps=>decide (f.rl≤70) && (decide (f.cl≤70) && (decide (f.pl≤3) && ps.all (smN k)))
theorem fD {α:Type} {l:List α} {q:α→Bool} {i:Nat} {x:α} (h:l[i]?=some x) (hq:q x=false):l.all q=false:=by
 rw [List.all_eq_false];exact ⟨x,List.mem_of_getElem? h,by rw [hq];decide⟩
theorem fS {α:Type} {l:List α} {q:α→Bool} {i:Nat} {x:α} (h:l[i]?=some x) (ha:(l.take i).all q=true) (hq:q x=true):(l.take (i+1)).all q=true:=by
 rw [List.take_add_one,h];simp [ha,hq]
def okW (s:SV) (x:WV):Bool:=if cA s.f.tag s.f.dim s.f.len=true then fM s.f.tag s.f.dim x.f else match s.ps with | [p,q]=>gN p q x.f x.ps | _=>false
def kQ (s:SV) (x:WV):Int:=if eI s=0 then (if okW s x=true then 0 else 51) else eI s
end
end Go.Proofs.YtofaiolkihcfmaaGreatDoor
