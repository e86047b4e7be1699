import Derived.Deep.DeepCutAuto
import Derived.Deep.CutRange
import Derived.Deep.RegionWith
import Derived.Laws.Bits64b
import Derived.Deep.DrawnRows
import Derived.Lib.SliceRun
import Derived.Laws.OwnMore
import Derived.OwnWalk
import Derived.WalkSpells
import Derived.Lib.Join
import Derived.Test.YtmgnkpibpjgncaaGreatDoorMeA
set_option maxRecDepth 100000
set_option maxHeartbeats 4000000
set_option linter.unusedVariables false
set_option linter.unusedVariables false
set_option linter.unusedSimpArgs false
set_option linter.unusedSectionVars false
set_option linter.unnecessarySimpa false
namespace Go.Proofs.YtmgnkpibpjgncaaGreatDoor
open Go.Proofs.Tryz
open Go.RowKit
structure Cl where
 f:Nat
 k:Int
 v:Int
abbrev Cl.val (c:Cl):Value:=.agg #[.int .u64 (c.f:Int),.int .i64 c.k,.int .i64 c.v]
def eZ (w:World) (a:Option Addr) (cs:List Cl):Prop :=
 cs=[]∨∃ b off,a=some ⟨b,off,none⟩∧∀ i c,cs[i]?=some c→w.cell? ⟨b,off+i * 3,none⟩=some (.int .u64 (c.f:Int))∧w.cell? ⟨b,off+i * 3+1,none⟩=some (.int .i64 c.k)∧w.cell? ⟨b,off+i * 3+2,none⟩=some (.int .i64 c.v)
def oQ (cs:List Cl):Prop:=∀ c,c∈cs→c.f < 18446744073709551616
theorem oR {w:World} {a:Addr} {v:Value} (h:w.cell? a=some v):a.block < w.heap.size:=by
 rcases Nat.lt_or_ge a.block w.heap.size with h' | h'
 ·exact h'
 ·simp [World.cell?,Array.getElem?_eq_none h'] at h
theorem eZ.below {w w':World} {a:Option Addr} {cs:List Cl} (h:eZ w a cs) (hb:Below w.heap.size w w'):eZ w' a cs:=by
 rcases h with h | ⟨b,off,rfl,hc⟩
 ·exact .inl h
 ·refine .inr ⟨b,off,rfl,fun i c hi=>?_⟩
  obtain ⟨h1,h2,h3⟩:=hc i c hi
  exact ⟨(hb.cell (oR h1)).trans h1,(hb.cell (oR h2)).trans h2,(hb.cell (oR h3)).trans h3⟩
theorem eZ.at_ {w:World} {a:Option Addr} {cs:List Cl} (h:eZ w a cs) {k:Nat} (hk:k < cs.length) :
  ∃ b off c,a=some ⟨b,off,none⟩∧cs[k]?=some c∧b < w.heap.size∧w.cell? ⟨b,off+k * 3,none⟩=some (.int .u64 (c.f:Int))∧w.cell? ⟨b,off+k * 3+1,none⟩=some (.int .i64 c.k)∧w.cell? ⟨b,off+k * 3+2,none⟩=some (.int .i64 c.v):=by
 rcases h with h | ⟨b,off,rfl,hc⟩
 ·subst h;simp at hk
 ·have e:cs[k]?=some cs[k]:=List.getElem?_eq_getElem hk
  obtain ⟨h1,h2,h3⟩:=hc k _ e
  exact ⟨b,off,cs[k],rfl,e,oR h1,h1,h2,h3⟩
def jN (d:Nat) (c:Cl):Bool:=lR d c.f c.k c.v
def lS (d:Int) (cs:List Cl):Int:=if d < 0∨64 < d then 41 else if (cs.length:Int)≠d then 40 else if cs.all (jN d.toNat) then 0 else 40
def pT (d:Int):Int:=if d < 0∨64 < d then 41 else 0
theorem Dz (d:Int) (w:World):Calls prog 154 #[.int .i64 d] w fun e w'=>e = .returned (.int .i64 (pT d))∧w=w':=by
 by_cases h0:d < 0
 ·have H:=Lib.hid (show pT d=41 by simp [pT,h0])
  go_enter func154,ntmps154
  go_wp2
  go_ret
  exact ⟨oP H.out.symm,rfl⟩
 by_cases h1:64 < d
 ·have H:=Lib.hid (show pT d=41 by simp [pT,h1])
  go_enter func154,ntmps154
  go_wp2
  go_ret
  exact ⟨oP H.out.symm,rfl⟩
 ·have H:=Lib.hid (show pT d=0 by simp [pT,h0,h1])
  go_enter func154,ntmps154
  go_wp2
  go_ret
  exact ⟨oP H.out.symm,rfl⟩
theorem lG (d:Int) (w:World) (c:Int) (hc:pT d=c):Calls prog 154 #[.int .i64 d] w fun e w'=>e = .returned (.int .i64 c)∧w=w':=by subst hc;exact Dz d w
theorem nY {α:Type} {p:α→Bool} {zs:List α} {k:Nat} {z:α} (hz:zs[k]?=some z) (h:(zs.take k).all p=true) (hp:p z=true):(zs.take (k+1)).all p=true:=by
 obtain ⟨hk,e⟩:=List.getElem?_eq_some_iff.1 hz
 rw [List.take_succ_eq_append_getElem hk,List.all_append,h]
 simp [e,hp]
theorem D4 {α:Type} {p:α→Bool} {zs:List α} {k:Nat} {z:α} (hz:zs[k]?=some z) (hp:p z=false):zs.all p=false:=by
 obtain ⟨hk,e⟩:=List.getElem?_eq_some_iff.1 hz
 rw [List.all_eq_false]
 exact ⟨z,by rw [← e];exact List.getElem_mem hk,by rw [hp];simp⟩
theorem Ge {n:Nat} {cs:List Cl} {k:Nat} {c:Cl} (hn:n≤64) (hl:cs.length=n) (hz:cs[k]?=some c) (hp:jN n c=false):lS n cs=40:=by
 unfold lS
 rw [if_neg (by omega),if_neg (by omega),Int.toNat_natCast,D4 hz hp];rfl
theorem vL {n:Nat} {cs:List Cl} {k:Nat} (hn:n≤64) (hl:cs.length=n) (hk:cs.length≤k) (h:(cs.take k).all (jN n)=true):lS n cs=0:=by
 rw [List.take_of_length_le hk] at h
 unfold lS
 rw [if_neg (by omega),if_neg (by omega),Int.toNat_natCast,h];rfl
set_option maxHeartbeats 1000000 in
theorem D5 (d:Int) (a:Option Addr) (cap:Nat) (cs:List Cl) (w:World) (hm:cs.length≤maxLen) (hrow:eZ w a cs) (hbits:oQ cs) :
  Calls prog 132 #[.int .i64 d,.slice a cs.length cap] w fun e w'=>e = .returned (.int .i64 (lS d cs))∧Below w.heap.size w w':=by
 unfold maxLen at hm
 have HROW:=Lib.hid hrow
 have HBITS:=Lib.hid hbits
 clear hrow hbits
 by_cases hd:d < 0∨64 < d
 ·have H:=Lib.hid (show lS d cs=41 by simp [lS,hd])
  have H2:=Lib.hid (show pT d=41 by simp [pT,hd])
  clear hd
  go_enter func132,ntmps132
  go_wp2_with (go_at_call 154;refine (lG _ _ 41 H2.out).mono ?_;rintro e w' ⟨rfl,rfl⟩)
  go_ret
  exact ⟨oP H.out.symm,Below.refl _ _⟩
 obtain ⟨n,rfl⟩:∃ n:Nat,d=n:=⟨d.toNat,by omega⟩
 have hn:n≤64:=by omega
 have H2:=Lib.hid (show pT n=0 by simp [pT,hd])
 clear hd
 by_cases hl:cs.length=n
 ·have HL:=Lib.hid hl
  have hne:((cs.length:Int) != (n:Int))=false:=by simp [hl]
  have hn':cs.length≤64:=by omega
  clear hl
  go_enter func132,ntmps132
  go_wp2_with (go_at_call 154;refine (lG _ _ 0 H2.out).mono ?_;rintro e w' ⟨rfl,rfl⟩)
  go_loopw [19] (fun i wr=>∃ k:Nat,k≤cs.length∧i = .int .i64 k∧Hid ((cs.take k).all (jN n)=true)∧Below w.heap.size w wr) (fun i _=>cs.length - (intOf i).toNat)
  case atStart=>exact ⟨0,Nat.zero_le _,rfl,by simp [Hid],Below.refl _ _⟩
  case round =>
   obtain ⟨k,hk,rfl,HA,hb⟩:=hrel
   by_cases hlt:k < cs.length
   ·obtain ⟨b,off,c,rfl,hz,hblt,c0,c1,c2⟩:=(HROW.out.below hb).at_ hlt
    have hf:c.f < 18446744073709551616:=HBITS.out c (List.mem_of_getElem? hz)
    have HZ:=Lib.hid hz
    clear hz
    cases hok:jN n c
    ·have H:=Lib.hid (Ge hn HL.out HZ.out hok)
     have HOK:Hid (lR n c.f c.k c.v=false):=hok
     clear hok
     go_wp2_with (go_at_call 155;refine (Bl n c.f c.k c.v _ hf hn).mono ?_;rintro e w3 ⟨rfl,hb3⟩;rw [HOK.out])
     go_ret
     exact ⟨oP H.out.symm,(hb.alloc hb.size _).trans (hb3.mono (by have:=hb.size;simp;omega))⟩
    ·have H:=Lib.hid (nY HZ.out HA.out hok)
     have HOK:Hid (lR n c.f c.k c.v=true):=hok
     clear hok
     go_wp2_with (go_at_call 155;refine (Bl n c.f c.k c.v _ hf hn).mono ?_;rintro e w3 ⟨rfl,hb3⟩;rw [HOK.out])
     go_roundw
     case rel=>exact ⟨k+1,by omega,by go_num,H,(hb.alloc hb.size _).trans (hb3.mono (by have:=hb.size;simp;omega))⟩
     case measure=>simp [intOf];omega
   ·have H:=Lib.hid (vL hn HL.out (by omega) HA.out)
    go_wp2
    go_ret
    exact ⟨oP H.out.symm,hb⟩
 ·have H:=Lib.hid (show lS n cs=40 by simp [lS];omega)
  have hne:((cs.length:Int) != (n:Int))=true:=by simp;omega
  clear hl
  go_enter func132,ntmps132
  go_wp2_with (go_at_call 154;refine (lG _ _ 0 H2.out).mono ?_;rintro e w' ⟨rfl,rfl⟩)
  go_ret
  exact ⟨oP H.out.symm,Below.refl _ _⟩
structure SF where
 tag:Int
 dim:Int
 a:Option Addr
 len:Nat
 cap:Nat
abbrev SF.val (f:SF):Value:=.agg #[.int .i64 f.tag,.int .i64 f.dim,.slice f.a f.len f.cap]
inductive SV where
 | mk (f:SF) (ps:List SV)
def SV.f:SV→SF | .mk f _=>f
def SV.ps:SV→List SV | .mk _ ps=>ps
def S3 (w:World) (b o:Nat) (f:SF):Prop:=w.cell? ⟨b,o,none⟩=some (.int .i64 f.tag)∧w.cell? ⟨b,o+1,none⟩=some (.int .i64 f.dim)∧w.cell? ⟨b,o+2,none⟩=some (.slice f.a f.len f.cap)
def Gf (w:World) (a:Option Addr) (ps:List SV):Prop :=
 ps=[]∨∃ b off,a=some ⟨b,off,none⟩∧∀ (i:Nat) p,ps[i]?=some p→S3 w b (off+i * 3) p.f
def SIn (w:World):Nat→SV→Prop
 | 0,_=>False
 | d+1,.mk f ps=>ps.length=f.len∧Gf w f.a ps∧∀ p∈ps,SIn w d p
theorem jR {w w':World} {p:Addr} {v:Value} (h:w.cell? p=some v) (hb:Below w.heap.size w w'):w'.cell? p=some v:=(hb.cell (kW h)).trans h
theorem S3.below {w w':World} {b o:Nat} {f:SF} (h:S3 w b o f) (hb:Below w.heap.size w w'):S3 w' b o f:=⟨jR h.1 hb,jR h.2.1 hb,jR h.2.2 hb⟩
theorem Gf.below {w w':World} {a:Option Addr} {ps:List SV} (h:Gf w a ps) (hb:Below w.heap.size w w'):Gf w' a ps:=by
 rcases h with h | ⟨b,off,rfl,hc⟩
 ·exact .inl h
 ·exact .inr ⟨b,off,rfl,fun i p hi=>(hc i p hi).below hb⟩
theorem SIn.below {w w':World} (hb:Below w.heap.size w w'):∀ {d:Nat} {s:SV},SIn w d s→SIn w' d s
 | 0,_,h=>h.elim
 | d+1,.mk f ps,⟨h1,h2,h3⟩=>⟨h1,h2.below hb,fun p hp=>SIn.below hb (h3 p hp)⟩
theorem Gf.at_ {w:World} {a:Option Addr} {ps:List SV} (h:Gf w a ps) {i:Nat} {p:SV} (hi:ps[i]?=some p):∃ b off,a=some ⟨b,off,none⟩∧b < w.heap.size∧S3 w b (off+i * 3) p.f:=by
 rcases h with rfl | ⟨b,off,ha,hc⟩
 ·simp at hi
 ·exact ⟨b,off,ha,kW (hc i p hi).1,hc i p hi⟩
structure WF where
 z:Bool
 c:Int
 g:Nat
 ra:Option Addr
 rl:Nat
 rc:Nat
 rows:List Nat
 ca:Option Addr
 cl:Nat
 cc:Nat
 cells:List Cl
 pa:Option Addr
 pl:Nat
 pc:Nat
abbrev WF.val (f:WF):Value:=.agg #[.bool f.z,.int .i64 f.c,.int .u64 (f.g:Int),.slice f.ra f.rl f.rc,.slice f.ca f.cl f.cc,.slice f.pa f.pl f.pc]
abbrev WF.six (f:WF):List Value:=[.bool f.z,.int .i64 f.c,.int .u64 (f.g:Int),.slice f.ra f.rl f.rc,.slice f.ca f.cl f.cc,.slice f.pa f.pl f.pc]
structure WF.At (w:World) (f:WF):Prop where
 rows:fH w f.ra (u64s f.rows)
 rl:f.rows.length=f.rl
 g64:f.g < 18446744073709551616
 r64:∀ r∈f.rows,r < 18446744073709551616
 cells:eZ w f.ca f.cells
 cl:f.cells.length=f.cl
 bits:oQ f.cells
 cmax:f.cl≤maxLen
theorem WF.At.below {w w':World} {f:WF} (h:f.At w) (hb:Below w.heap.size w w'):f.At w':=⟨h.rows.below hb,h.rl,h.g64,h.r64,h.cells.below hb,h.cl,h.bits,h.cmax⟩
inductive WV where
 | mk (f:WF) (ps:List WV)
def WV.f:WV→WF | .mk f _=>f
def WV.ps:WV→List WV | .mk _ ps=>ps
def W6 (w:World) (b o:Nat) (f:WF):Prop:=w.cell? ⟨b,o,none⟩=some (.bool f.z)∧w.cell? ⟨b,o+1,none⟩=some (.int .i64 f.c)∧w.cell? ⟨b,o+2,none⟩=some (.int .u64 (f.g:Int))∧w.cell? ⟨b,o+3,none⟩=some (.slice f.ra f.rl f.rc)∧w.cell? ⟨b,o+4,none⟩=some (.slice f.ca f.cl f.cc)∧w.cell? ⟨b,o+5,none⟩=some (.slice f.pa f.pl f.pc)
def wY (w:World) (a:Option Addr) (ps:List WV):Prop :=
 ps=[]∨∃ b off,a=some ⟨b,off,none⟩∧∀ (i:Nat) p,ps[i]?=some p→W6 w b (off+i * 6) p.f
def WIn (w:World):Nat→WV→Prop
 | 0,_=>False
 | d+1,.mk f ps=>f.At w∧ps.length=f.pl∧wY w f.pa ps∧∀ p∈ps,WIn w d p
theorem W6.below {w w':World} {b o:Nat} {f:WF} (h:W6 w b o f) (hb:Below w.heap.size w w'):W6 w' b o f:=⟨jR h.1 hb,jR h.2.1 hb,jR h.2.2.1 hb,jR h.2.2.2.1 hb,jR h.2.2.2.2.1 hb,jR h.2.2.2.2.2 hb⟩
theorem wY.below {w w':World} {a:Option Addr} {ps:List WV} (h:wY w a ps) (hb:Below w.heap.size w w'):wY w' a ps:=by
 rcases h with h | ⟨b,off,rfl,hc⟩
 ·exact .inl h
 ·exact .inr ⟨b,off,rfl,fun i p hi=>(hc i p hi).below hb⟩
theorem WIn.below {w w':World} (hb:Below w.heap.size w w'):∀ {d:Nat} {s:WV},WIn w d s→WIn w' d s
 | 0,_,h=>h.elim
 | d+1,.mk f ps,⟨h0,h1,h2,h3⟩=>⟨h0.below hb,h1,h2.below hb,fun p hp=>WIn.below hb (h3 p hp)⟩
theorem wY.at_ {w:World} {a:Option Addr} {ps:List WV} (h:wY w a ps) {i:Nat} {p:WV} (hi:ps[i]?=some p):∃ b off,a=some ⟨b,off,none⟩∧b < w.heap.size∧W6 w b (off+i * 6) p.f:=by
 rcases h with rfl | ⟨b,off,ha,hc⟩
 ·simp at hi
 ·exact ⟨b,off,ha,kW (hc i p hi).1,hc i p hi⟩
def bJ (t n:Int) (l:Nat):Bool:=decide (l=0) && (if t=1 then decide (n=0) else if t=2 then decide (0≤n) && decide (n≤1048576) else if t=3∨t=4 then decide (0≤n) && decide (n≤64) else false)
theorem A6 (w:World) (v:Array Value) (T:TypeId):Below w.heap.size w (w.alloc (.cells v T)):=(Below.refl _ _).alloc (Nat.le_refl _) _
set_option maxHeartbeats 2000000 in
theorem jS (t n:Int) (a:Option Addr) (l c:Nat) (r:Bool) (hr:bJ t n l=r) (w:World) :
  Calls prog 75 #[.agg #[.int .i64 t,.int .i64 n,.slice a l c]] w fun e w'=>e = .returned (.bool r)∧Below w.heap.size w w':=by
 have hB:=Lib.hid (A6 w #[.int .i64 t,.int .i64 n,.slice a l c] 25)
 by_cases ht:t=1∨t=2∨t=3∨t=4
 ·by_cases hl:l=0
  ·subst hl
   by_cases h0:0≤n
   ·rcases ht with rfl | rfl | rfl | rfl
    ·by_cases hm:n≤0
     ·obtain rfl:n=0:=by omega
      have HR:Hid (true=r):=by show _=_;rw [← hr];simp [bJ]
      clear hr
      go_enter func75,ntmps75
      go_wp2
      go_ret
      exact ⟨bT HR.out,hB.out⟩
     ·have HR:Hid (false=r):=by show _=_;rw [← hr];simp [bJ];omega
      clear hr
      go_enter func75,ntmps75
      go_wp2
      go_ret
      exact ⟨bT HR.out,hB.out⟩
    ·by_cases hm:n≤1048576
     ·have HR:Hid (true=r):=by show _=_;rw [← hr];simp [bJ,h0,hm]
      clear hr
      go_enter func75,ntmps75
      go_wp2
      go_ret
      exact ⟨bT HR.out,hB.out⟩
     ·have HR:Hid (false=r):=by show _=_;rw [← hr];simp [bJ,hm]
      clear hr
      go_enter func75,ntmps75
      go_wp2
      go_ret
      exact ⟨bT HR.out,hB.out⟩
    all_goals
     by_cases hm:n≤64
     ·have HR:Hid (true=r):=by show _=_;rw [← hr];simp [bJ,h0,hm]
      clear hr
      go_enter func75,ntmps75
      go_wp2
      go_ret
      exact ⟨bT HR.out,hB.out⟩
     ·have HR:Hid (false=r):=by show _=_;rw [← hr];simp [bJ,hm]
      clear hr
      go_enter func75,ntmps75
      go_wp2
      go_ret
      exact ⟨bT HR.out,hB.out⟩
   ·have HR:Hid (false=r):=by show _=_;rw [← hr];rcases ht with rfl | rfl | rfl | rfl<;>simp [bJ]<;>omega
    clear hr
    rcases ht with rfl | rfl | rfl | rfl
    all_goals
     go_enter func75,ntmps75
     go_wp2
     go_ret
     exact ⟨bT HR.out,hB.out⟩
  ·have HR:Hid (false=r):=by show _=_;rw [← hr];simp [bJ,hl]
   have hl2:((l:Int) == 0)=false:=by simp;omega
   clear hr
   rcases ht with rfl | rfl | rfl | rfl
   all_goals
    go_enter func75,ntmps75
    go_wp2
    go_ret
    exact ⟨bT HR.out,hB.out⟩
 ·have HR:Hid (false=r):=by show _=_;rw [← hr];simp only [not_or] at ht;simp [bJ,ht]
  have e1:(t == 1)=false:=by simp;omega
  have e2:(t == 2)=false:=by simp;omega
  have e3:(t == 3)=false:=by simp;omega
  have e4:(t == 4)=false:=by simp;omega
  clear hr ht
  go_enter func75,ntmps75
  go_wp2
  go_ret
  exact ⟨bT HR.out,hB.out⟩
def SV.pl (s:SV):Bool:=bJ s.f.tag s.f.dim s.f.len
def dE:SV→Int
 | .mk f ps=>if bJ f.tag f.dim f.len=true then 0 else if f.tag=5∧f.dim=0∧ps.length=2∧ps.all SV.pl=true then 0 else 50
theorem iZ {w:World} {B:Nat} {cs:Array Value} {T:TypeId} (h:w.heap[B]?=some (.cells cs T (0,0))) {j:Nat} {v:Value} (hj:cs[j]?=some v):w.cell? ⟨B,j,none⟩=some v:=by
 unfold World.cell?;simp only [h];exact hj
theorem fX {w:World} {B:Nat} {a b c:Value} {T:TypeId} (h:w.heap[B]?=some (.cells #[a,b,c] T (0,0))):w.cell? ⟨B,0,none⟩=some a∧w.cell? ⟨B,1,none⟩=some b∧w.cell? ⟨B,2,none⟩=some c:=⟨iZ h rfl,iZ h rfl,iZ h rfl⟩
theorem eW {w:World} {B:Nat} {a b c d e f:Value} {T:TypeId} (h:w.heap[B]?=some (.cells #[a,b,c,d,e,f] T (0,0))):w.cell? ⟨B,0,none⟩=some a∧w.cell? ⟨B,1,none⟩=some b∧w.cell? ⟨B,2,none⟩=some c∧w.cell? ⟨B,3,none⟩=some d∧w.cell? ⟨B,4,none⟩=some e∧w.cell? ⟨B,5,none⟩=some f:=⟨iZ h rfl,iZ h rfl,iZ h rfl,iZ h rfl,iZ h rfl,iZ h rfl⟩
theorem SIn.two {w:World} {d:Nat} {f:SF} {p q:SV} (h:SIn w (d+1) (.mk f [p,q])):f.len=2∧∃ b off,f.a=some ⟨b,off,none⟩∧b < w.heap.size∧S3 w b off p.f∧S3 w b (off+3) q.f∧SIn w d p∧SIn w d q:=by
 obtain ⟨h1,h2,h3⟩:=h
 refine ⟨h1.symm,?_⟩
 rcases h2 with h2 | ⟨b,off,ha,hc⟩
 ·cases h2
 ·have c0:=hc 0 p rfl
  have c1:=hc 1 q rfl
  simp only [Nat.zero_mul,Nat.add_zero,Nat.one_mul] at c0 c1
  exact ⟨b,off,ha,kW c0.1,c0,c1,h3 p (by simp),h3 q (by simp)⟩
theorem sS {α:Type} {l:List α} (h:l.length=2):∃ p q,l=[p,q]:=by
 match l,h with
 | [p,q],_=>exact ⟨p,q,rfl⟩
set_option maxHeartbeats 2000000 in
theorem vM (d:Nat) (s:SV) (e0:Int) (w:World) (hs:SIn w d s) (he:dE s=e0) :
  Calls prog 29 #[s.f.val] w fun e w'=>e = .returned (.int .i64 e0)∧Below w.heap.size w w':=by
 match d,s,hs with
 | d+1,.mk ⟨t,n,a,l,c⟩ ps,hs =>
 show Calls prog 29 #[.agg #[.int .i64 t,.int .i64 n,.slice a l c]] w _
 have hl:ps.length=l:=hs.1
 have hB:=Lib.hid (A6 w #[.int .i64 t,.int .i64 n,.slice a l c] 25)
 have BX:=Lib.hid (eJ w (.cells #[.int .i64 t,.int .i64 n,.slice a l c] 25))
 obtain ⟨r,hr⟩:∃ r,bJ t n l=r:=⟨_,rfl⟩
 have HR:=Lib.hid hr
 cases r
 ·by_cases ht:t=5
  ·subst ht
   by_cases hn:n=0
   ·subst hn
    by_cases hl2:l=2
    ·subst hl2
     obtain ⟨p,q,rfl⟩:=sS hl
     obtain ⟨_,b,off,ha,hb,hp,hq,_,_⟩:=hs.two
     obtain rfl:a=some ⟨b,off,none⟩:=ha
     obtain ⟨⟨pt,pn,pa,pl,pc⟩,pps⟩:=p
     obtain ⟨⟨qt,qn,qa,ql,qc⟩,qps⟩:=q
     have HP:=Lib.hid hp;have HQ:=Lib.hid hq
     obtain ⟨r1,hr1⟩:∃ r,bJ pt pn pl=r:=⟨_,rfl⟩
     obtain ⟨r2,hr2⟩:∃ r,bJ qt qn ql=r:=⟨_,rfl⟩
     have HR1:=Lib.hid hr1;have HR2:=Lib.hid hr2
     have HE:Hid ((if r1=true∧r2=true then (0:Int) else 50)=e0):=by
      show _=_
      rw [← he];simp [dE,hr,SV.pl,SV.f,hr1,hr2]
     clear hr hs hl hp hq hr1 hr2 he
     cases r1
     ·have HE2:Hid ((50:Int)=e0):=by show _=_;rw [← HE.out];simp
      clear HE
      go_enter func29,ntmps29
      go_wp2_with fail
      refine (jS 5 0 _ 2 c false HR.out _).mono ?_
      rintro e w1 ⟨rfl,hb1⟩
      obtain ⟨x0,x1,x2⟩:=fX (cS BX.out hb1)
      obtain ⟨y0,y1,y2⟩:=(HP.out.below hB.out).below hb1
      dsimp only [SV.f] at y0 y1 y2
      go_wp2_with fail
      refine (jS pt pn _ pl pc false HR1.out _).mono ?_
      rintro e w2 ⟨rfl,hb2⟩
      go_wp2
      go_ret
      exact ⟨dM HE2.out,(hB.out.trans (hb1.mono hB.out.size)).trans (hb2.mono (hB.out.trans (hb1.mono hB.out.size)).size)⟩
     ·have HE2:Hid ((if r2=true then (0:Int) else 50)=e0):=by show _=_;rw [← HE.out];simp
      clear HE
      go_enter func29,ntmps29
      go_wp2_with fail
      refine (jS 5 0 _ 2 c false HR.out _).mono ?_
      rintro e w1 ⟨rfl,hb1⟩
      have hB1:=hB.out.trans (hb1.mono hB.out.size)
      obtain ⟨x0,x1,x2⟩:=fX (cS BX.out hb1)
      obtain ⟨y0,y1,y2⟩:=(HP.out.below hB.out).below hb1
      dsimp only [SV.f] at y0 y1 y2
      go_wp2_with fail
      refine (jS pt pn _ pl pc true HR1.out _).mono ?_
      rintro e w2 ⟨rfl,hb2⟩
      have hB2:=hB1.trans (hb2.mono hB1.size)
      clear x0 x1 x2 y0 y1 y2
      obtain ⟨x0,x1,x2⟩:=fX (cS (cS BX.out hb1) hb2)
      obtain ⟨y0,y1,y2⟩:=((HQ.out.below hB.out).below hb1).below hb2
      dsimp only [SV.f] at y0 y1 y2
      simp only [Nat.add_assoc,Nat.reduceAdd] at y1 y2
      go_wp2_with fail
      refine (jS qt qn _ ql qc r2 HR2.out _).mono ?_
      rintro e w3 ⟨rfl,hb3⟩
      have hB3:=hB2.trans (hb3.mono hB2.size)
      cases r2
      all_goals
       go_wp2
       go_ret
       exact ⟨dM HE2.out,hB3⟩
    ·have HE:Hid ((50:Int)=e0):=by
      show _=_
      rw [← he];simp [dE,hr,hl,hl2]
     have hl3:((l:Int) == 2)=false:=by simp;omega
     clear hr hs hl he hl2
     go_enter func29,ntmps29
     go_wp2_with fail
     refine (jS 5 0 a l c false HR.out _).mono ?_
     rintro e w1 ⟨rfl,hb1⟩
     obtain ⟨x0,x1,x2⟩:=fX (cS BX.out hb1)
     go_wp2
     go_ret
     exact ⟨dM HE.out,hB.out.trans (hb1.mono hB.out.size)⟩
   ·have HE:Hid ((50:Int)=e0):=by show _=_;rw [← he];simp [dE,hr,hn]
    have hn3:(n == 0)=false:=by simp [hn]
    clear hr hs hl he hn
    go_enter func29,ntmps29
    go_wp2_with fail
    refine (jS 5 n a l c false HR.out _).mono ?_
    rintro e w1 ⟨rfl,hb1⟩
    obtain ⟨x0,x1,x2⟩:=fX (cS BX.out hb1)
    go_wp2
    go_ret
    exact ⟨dM HE.out,hB.out.trans (hb1.mono hB.out.size)⟩
  ·have HE:Hid ((50:Int)=e0):=by show _=_;rw [← he];simp [dE,hr,ht]
   have hn3:(t == 5)=false:=by simp [ht]
   clear hr hs hl he ht
   go_enter func29,ntmps29
   go_wp2_with fail
   refine (jS t n a l c false HR.out _).mono ?_
   rintro e w1 ⟨rfl,hb1⟩
   obtain ⟨x0,x1,x2⟩:=fX (cS BX.out hb1)
   go_wp2
   go_ret
   exact ⟨dM HE.out,hB.out.trans (hb1.mono hB.out.size)⟩
 ·have HE:Hid ((0:Int)=e0):=by show _=_;rw [← he];simp [dE,hr]
  clear hr hs hl he
  go_enter func29,ntmps29
  go_wp2_with fail
  refine (jS t n a l c true HR.out _).mono ?_
  rintro e w1 ⟨rfl,hb1⟩
  go_wp2
  go_ret
  exact ⟨dM HE.out,hB.out.trans (hb1.mono hB.out.size)⟩
theorem Gg {f:SF} {ps:List SV} (h:f.tag≠5):dE (.mk f ps)=if bJ f.tag f.dim f.len=true then 0 else 50:=by simp [dE,h]
set_option maxHeartbeats 2000000 in
theorem qK (t n:Int) (a:Option Addr) (l c:Nat) (ht:t≠5) (r:Bool) (hr:bJ t n l=r) (w:World) :
  Calls prog 32 #[.agg #[.int .i64 t,.int .i64 n,.slice a l c]] w fun e w'=>e = .returned (.int .i64 (if r=true then 0 else 50))∧Below w.heap.size w w':=by
 have hB:=Lib.hid (A6 w #[.int .i64 t,.int .i64 n,.slice a l c] 25)
 have e5:(t == 5)=false:=by simp [ht]
 by_cases ht2:t=1∨t=2∨t=3∨t=4
 ·by_cases hl:l=0
  ·subst hl
   by_cases h0:0≤n
   ·rcases ht2 with rfl | rfl | rfl | rfl
    ·by_cases hm:n=0
     ·subst hm
      obtain rfl:true=r:=by rw [← hr];simp [bJ]
      clear hr
      go_enter func32,ntmps32
      go_wp2_with fail
      go_ret
      exact ⟨by simp,hB.out⟩
     ·obtain rfl:false=r:=by rw [← hr];simp [bJ];omega
      have hm2:(n == 0)=false:=by simp [hm]
      clear hr
      go_enter func32,ntmps32
      go_wp2_with fail
      go_ret
      exact ⟨by simp,hB.out⟩
    ·by_cases hm:n≤1048576
     ·obtain rfl:true=r:=by rw [← hr];simp [bJ,h0,hm]
      clear hr
      go_enter func32,ntmps32
      go_wp2_with fail
      go_ret
      exact ⟨by simp,hB.out⟩
     ·obtain rfl:false=r:=by rw [← hr];simp [bJ,hm]
      clear hr
      go_enter func32,ntmps32
      go_wp2_with fail
      go_ret
      exact ⟨by simp,hB.out⟩
    all_goals
     by_cases hm:n≤64
     ·obtain rfl:true=r:=by rw [← hr];simp [bJ,h0,hm]
      clear hr
      go_enter func32,ntmps32
      go_wp2_with fail
      go_ret
      exact ⟨by simp,hB.out⟩
     ·obtain rfl:false=r:=by rw [← hr];simp [bJ,hm]
      clear hr
      go_enter func32,ntmps32
      go_wp2_with fail
      go_ret
      exact ⟨by simp,hB.out⟩
   ·obtain rfl:false=r:=by rw [← hr];rcases ht2 with rfl | rfl | rfl | rfl<;>simp [bJ]<;>omega
    have hn0:(n == 0)=false:=by simp;omega
    clear hr
    rcases ht2 with rfl | rfl | rfl | rfl
    all_goals
     go_enter func32,ntmps32
     go_wp2_with fail
     go_ret
     exact ⟨by simp,hB.out⟩
  ·obtain rfl:false=r:=by rw [← hr];simp [bJ,hl]
   have hl2:((l:Int) == 0)=false:=by simp;omega
   clear hr
   rcases ht2 with rfl | rfl | rfl | rfl
   ·by_cases hm:n=0
    ·subst hm
     go_enter func32,ntmps32
     go_wp2_with fail
     go_ret
     exact ⟨by simp,hB.out⟩
    ·have hm2:(n == 0)=false:=by simp [hm]
     go_enter func32,ntmps32
     go_wp2_with fail
     go_ret
     exact ⟨by simp,hB.out⟩
   all_goals
    by_cases h0:0≤n
    ·by_cases hm:n≤64
     ·have hm3:n≤1048576:=by omega
      go_enter func32,ntmps32
      go_wp2_with fail
      go_ret
      exact ⟨by simp,hB.out⟩
     ·by_cases hm3:n≤1048576
      all_goals
       go_enter func32,ntmps32
       go_wp2_with fail
       go_ret
       exact ⟨by simp,hB.out⟩
    ·go_enter func32,ntmps32
     go_wp2_with fail
     go_ret
     exact ⟨by simp,hB.out⟩
 ·obtain rfl:false=r:=by rw [← hr];simp only [not_or] at ht2;simp [bJ,ht2]
  have e1:(t == 1)=false:=by simp;omega
  have e2:(t == 2)=false:=by simp;omega
  have e3:(t == 3)=false:=by simp;omega
  have e4:(t == 4)=false:=by simp;omega
  clear hr ht2 ht
  go_enter func32,ntmps32
  go_wp2_with fail
  go_ret
  exact ⟨by simp,hB.out⟩
def iP (cost facts cells parts:Bool) (f:WF):Bool:=(cost || decide (f.c=0)) && ((facts || (decide (f.g=0) && decide (f.rl=0))) && ((cells || decide (f.cl=0)) && (parts || decide (f.pl=0))))
def iQ (t:Int) (f:WF):Bool:=iP (!f.z && decide (t=2)) (!f.z && decide (t=3)) (!f.z && decide (t=4)) (!f.z && decide (t=5)) f
theorem N6 (w:World) (a b:Array Value) (S T:TypeId):Below w.heap.size w ((w.alloc (.cells a S)).alloc (.cells b T)):=((Below.refl _ _).alloc (Nat.le_refl _) _).alloc (by simp) _
theorem mH (w:World) (a b:Array Value) (S T:TypeId):((w.alloc (.cells a S)).alloc (.cells b T)).heap[w.heap.size]?=some (.cells a S (0,0))∧((w.alloc (.cells a S)).alloc (.cells b T)).heap[w.heap.size+1]?=some (.cells b T (0,0)):=by
 refine ⟨eB (eJ w _) _,?_⟩
 have:=eJ (w.alloc (.cells a S)) (.cells b T)
 rwa [World.size_alloc] at this
theorem dY (n:Nat):((n:Int) == 0)=decide (n=0):=by
 rw [Bool.eq_iff_iff];simp
theorem rL (n:Int):(n == 0)=decide (n=0):=by
 rw [Bool.eq_iff_iff];simp
theorem Mh (t n:Int) (a:Option Addr) (l c0:Nat) (f:WF) (r:Bool) (hr:iQ t f=r) (w:World) :
  Calls prog 130 #[.agg #[.int .i64 t,.int .i64 n,.slice a l c0],f.val] w fun e w'=>e = .returned (.bool r)∧Below w.heap.size w w':=by
 obtain ⟨z,c,g,ra,rl,rc,rows,ca,cl,cc,cells,pa,pl,pc⟩:=f
 show Calls prog 130 #[.agg #[.int .i64 t,.int .i64 n,.slice a l c0],.agg #[.bool z,.int .i64 c,.int .u64 (g:Int),.slice ra rl rc,.slice ca cl cc,.slice pa pl pc]] w _
 have hB:=Lib.hid (N6 w #[.int .i64 t,.int .i64 n,.slice a l c0] #[.bool z,.int .i64 c,.int .u64 (g:Int),.slice ra rl rc,.slice ca cl cc,.slice pa pl pc] 25 44)
 obtain ⟨t0,t1⟩:=mH w #[.int .i64 t,.int .i64 n,.slice a l c0] #[.bool z,.int .i64 c,.int .u64 (g:Int),.slice ra rl rc,.slice ca cl cc,.slice pa pl pc] 25 44
 obtain ⟨x0,x1,x2⟩:=fX t0
 obtain ⟨y0,y1,y2,y3,y4,y5⟩:=eW t1
 obtain ⟨W0,hW0⟩:∃ W,(w.alloc (.cells #[.int .i64 t,.int .i64 n,.slice a l c0] 25)).alloc (.cells #[.bool z,.int .i64 c,.int .u64 (g:Int),.slice ra rl rc,.slice ca cl cc,.slice pa pl pc] 44)=W:=⟨_,rfl⟩
 rw [hW0] at hB x0 x1 x2 y0 y1 y2 y3 y4 y5
 obtain ⟨b1,h1⟩:∃ b,(c == 0)=b:=⟨_,rfl⟩
 obtain ⟨b2,h2⟩:∃ b,(decide (g=0) && decide (rl=0))=b:=⟨_,rfl⟩
 obtain ⟨b3,h3⟩:∃ b,((cl:Int) == 0)=b:=⟨_,rfl⟩
 obtain ⟨b4,h4⟩:∃ b,((pl:Int) == 0)=b:=⟨_,rfl⟩
 have H2:=Lib.hid h2
 have HR:Hid ((((!z && decide (t=2)) || b1) && (((!z && decide (t=3)) || b2) && (((!z && decide (t=4)) || b3) && ((!z && decide (t=5)) || b4))))=r):=by
  show _=_
  rw [← hr,← h1,← h2,← h3,← h4,dY,dY,rL];rfl
 clear hr t0 t1 h2
 have hg:((g:Int) == 0)=decide (g=0):=dY g
 have hrl:((rl:Int) == 0)=decide (rl=0):=dY rl
 have HZ:∀ (b:Bool),b2=b→Hid (b2=b):=fun _ h=>h
 have h2:=H2.out
 have ht:t=2∨t=3∨t=4∨t=5∨((t == 2)=false∧(t == 3)=false∧(t == 4)=false∧(t == 5)=false∧decide (t=2)=false∧decide (t=3)=false∧decide (t=4)=false∧decide (t=5)=false):=by
  by_cases e2:t=2
  ·exact .inl e2
  by_cases e3:t=3
  ·exact .inr (.inl e3)
  by_cases e4:t=4
  ·exact .inr (.inr (.inl e4))
  by_cases e5:t=5
  ·exact .inr (.inr (.inr (.inl e5)))
  ·exact .inr (.inr (.inr (.inr ⟨by simp [e2],by simp [e3],by simp [e4],by simp [e5],by simp [e2],by simp [e3],by simp [e4],by simp [e5]⟩)))
 have HTT:=Lib.hid ht
 clear ht
 by_cases hg0:g=0
 ·have hg1:((g:Int) == 0)=true:=by simp [hg0]
  have h2':(decide (rl=0))=b2:=by simpa [hg0] using h2
  rw [h2'] at hrl
  clear h2 h2' hg HZ hg0
  cases z
  ·rcases HTT.out with rfl | rfl | rfl | rfl | ⟨e2,e3,e4,e5,d2,d3,d4,d5⟩
   case inr.inr.inr.inr =>
    have D:=Lib.hid (And.intro d2 (And.intro d3 (And.intro d4 d5)))
    clear d2 d3 d4 d5
    go_enter func130,ntmps130
    go_upto_region 15 with fail
    clear h1 h3 h4 hrl
    cases b1<;>cases b2<;>cases b3<;>cases b4<;>(go_wp2;go_ret;exact ⟨bT (by rw [← HR.out,D.out.1,D.out.2.1,D.out.2.2.1,D.out.2.2.2];rfl),hB.out⟩)
   all_goals
    go_enter func130,ntmps130
    go_upto_region 15 with fail
    clear h1 h3 h4 hrl
    cases b1<;>cases b2<;>cases b3<;>cases b4<;>(go_wp2;go_ret;exact ⟨bT (by rw [← HR.out];rfl),hB.out⟩)
  ·go_enter func130,ntmps130
   go_upto_region 15 with fail
   clear h1 h3 h4 hrl
   cases b1<;>cases b2<;>cases b3<;>cases b4<;>(go_wp2;go_ret;exact ⟨bT (by rw [← HR.out];rfl),hB.out⟩)
 ·have hg1:((g:Int) == 0)=false:=by simp [hg0]
  obtain rfl:b2=false:=by rw [← h2];simp [hg0]
  clear h2 hg HZ hrl hg0
  cases z
  ·rcases HTT.out with rfl | rfl | rfl | rfl | ⟨e2,e3,e4,e5,d2,d3,d4,d5⟩
   case inr.inr.inr.inr =>
    have D:=Lib.hid (And.intro d2 (And.intro d3 (And.intro d4 d5)))
    clear d2 d3 d4 d5
    go_enter func130,ntmps130
    go_upto_region 15 with fail
    clear h1 h3 h4 hg1
    cases b1<;>cases b3<;>cases b4<;>(go_wp2;go_ret;exact ⟨bT (by rw [← HR.out,D.out.1,D.out.2.1,D.out.2.2.1,D.out.2.2.2];rfl),hB.out⟩)
   all_goals
    go_enter func130,ntmps130
    go_upto_region 15 with fail
    clear h1 h3 h4 hg1
    cases b1<;>cases b3<;>cases b4<;>(go_wp2;go_ret;exact ⟨bT (by rw [← HR.out];rfl),hB.out⟩)
  ·go_enter func130,ntmps130
   go_upto_region 15 with fail
   clear h1 h3 h4 hg1
   cases b1<;>cases b3<;>cases b4<;>(go_wp2;go_ret;exact ⟨bT (by rw [← HR.out];rfl),hB.out⟩)
theorem fY (f k v:Int) (w:World):Calls prog 177 #[.agg #[.int .u64 f,.int .i64 k,.int .i64 v]] w fun e w'=>e = .returned (.agg #[.int .u64 0,.int .i64 k,.int .i64 v])∧(w.alloc (.cells #[.int .u64 0,.int .i64 k,.int .i64 v] 105)).alloc (.cells #[.int .u64 0,.int .i64 k,.int .i64 v] 105)=w':=by
 go_enter func177,ntmps177
 go_wp2
 refine bodyPost_ret (v:=.agg #[.int .u64 0,.int .i64 k,.int .i64 v]) (by simp [results,results177,go_sem]) rfl ⟨rfl,rfl⟩
set_option maxHeartbeats 1000000 in
theorem N7 (f f2:Int) (w:World):Calls prog 171 #[.agg #[.int .u64 f,.int .i64 0,.int .i64 0],.agg #[.int .u64 f2,.int .i64 0,.int .i64 0]] w fun e w'=>e = .returned (.agg #[.int .u64 (bits .or .u64 f f2),.int .i64 0,.int .i64 0])∧Below w.heap.size w w':=by
 go_enter func171,ntmps171
 go_wp2
 go_region_with (go_at_call 177;refine (fY _ _ _ _).mono ?_;rintro e w' ⟨rfl,rfl⟩)
 all_goals go_wp2
 all_goals refine bodyPost_ret (v:=.agg #[.int .u64 (bits .or .u64 f f2),.int .i64 0,.int .i64 0]) (by simp [results,results171,go_sem]) rfl ⟨rfl,?_⟩
 all_goals repeat (first | exact Below.refl _ _ | refine Below.drew ?_ | (refine Below.setCell ?_ (by simp) _) | (refine Below.alloc ?_ (by simp;try omega) _))
set_option maxHeartbeats 1000000 in
theorem N8 (f f2:Int) (v2:Int) (w:World):Calls prog 171 #[.agg #[.int .u64 f,.int .i64 0,.int .i64 0],.agg #[.int .u64 f2,.int .i64 1,.int .i64 v2]] w fun e w'=>e = .returned (.agg #[.int .u64 (bits .or .u64 f f2),.int .i64 1,.int .i64 v2])∧Below w.heap.size w w':=by
 go_enter func171,ntmps171
 go_wp2
 go_region_with (go_at_call 177;refine (fY _ _ _ _).mono ?_;rintro e w' ⟨rfl,rfl⟩)
 all_goals go_wp2
 all_goals refine bodyPost_ret (v:=.agg #[.int .u64 (bits .or .u64 f f2),.int .i64 1,.int .i64 v2]) (by simp [results,results171,go_sem]) rfl ⟨rfl,?_⟩
 all_goals repeat (first | exact Below.refl _ _ | refine Below.drew ?_ | (refine Below.setCell ?_ (by simp) _) | (refine Below.alloc ?_ (by simp;try omega) _))
set_option maxHeartbeats 1000000 in
theorem Oa (f f2:Int) (w:World):Calls prog 171 #[.agg #[.int .u64 f,.int .i64 0,.int .i64 0],.agg #[.int .u64 f2,.int .i64 2,.int .i64 0]] w fun e w'=>e = .returned (.agg #[.int .u64 0,.int .i64 2,.int .i64 0])∧Below w.heap.size w w':=by
 go_enter func171,ntmps171
 go_wp2
 go_region_with (go_at_call 177;refine (fY _ _ _ _).mono ?_;rintro e w' ⟨rfl,rfl⟩)
 all_goals go_wp2
 all_goals refine bodyPost_ret (v:=.agg #[.int .u64 0,.int .i64 2,.int .i64 0]) (by simp [results,results171,go_sem]) rfl ⟨rfl,?_⟩
 all_goals repeat (first | exact Below.refl _ _ | refine Below.drew ?_ | (refine Below.setCell ?_ (by simp) _) | (refine Below.alloc ?_ (by simp;try omega) _))
set_option maxHeartbeats 1000000 in
theorem Oc (f f2:Int) (v:Int) (w:World):Calls prog 171 #[.agg #[.int .u64 f,.int .i64 1,.int .i64 v],.agg #[.int .u64 f2,.int .i64 0,.int .i64 0]] w fun e w'=>e = .returned (.agg #[.int .u64 (bits .or .u64 f f2),.int .i64 1,.int .i64 v])∧Below w.heap.size w w':=by
 go_enter func171,ntmps171
 go_wp2
 go_region_with (go_at_call 177;refine (fY _ _ _ _).mono ?_;rintro e w' ⟨rfl,rfl⟩)
 all_goals go_wp2
 all_goals refine bodyPost_ret (v:=.agg #[.int .u64 (bits .or .u64 f f2),.int .i64 1,.int .i64 v]) (by simp [results,results171,go_sem]) rfl ⟨rfl,?_⟩
 all_goals repeat (first | exact Below.refl _ _ | refine Below.drew ?_ | (refine Below.setCell ?_ (by simp) _) | (refine Below.alloc ?_ (by simp;try omega) _))
set_option maxHeartbeats 1000000 in
theorem Od (f f2:Int) (v:Int) (w:World):Calls prog 171 #[.agg #[.int .u64 f,.int .i64 1,.int .i64 v],.agg #[.int .u64 f2,.int .i64 1,.int .i64 v]] w fun e w'=>e = .returned (.agg #[.int .u64 (bits .or .u64 f f2),.int .i64 1,.int .i64 v])∧Below w.heap.size w w':=by
 go_enter func171,ntmps171
 go_wp2
 go_region_with (go_at_call 177;refine (fY _ _ _ _).mono ?_;rintro e w' ⟨rfl,rfl⟩)
 all_goals go_wp2
 all_goals refine bodyPost_ret (v:=.agg #[.int .u64 (bits .or .u64 f f2),.int .i64 1,.int .i64 v]) (by simp [results,results171,go_sem]) rfl ⟨rfl,?_⟩
 all_goals repeat (first | exact Below.refl _ _ | refine Below.drew ?_ | (refine Below.setCell ?_ (by simp) _) | (refine Below.alloc ?_ (by simp;try omega) _))
set_option maxHeartbeats 1000000 in
theorem Oe (f f2:Int) (v v2:Int) (hv:(v == v2)=false) (w:World):Calls prog 171 #[.agg #[.int .u64 f,.int .i64 1,.int .i64 v],.agg #[.int .u64 f2,.int .i64 1,.int .i64 v2]] w fun e w'=>e = .returned (.agg #[.int .u64 0,.int .i64 2,.int .i64 0])∧Below w.heap.size w w':=by
 go_enter func171,ntmps171
 go_wp2
 go_region_with (go_at_call 177;refine (fY _ _ _ _).mono ?_;rintro e w' ⟨rfl,rfl⟩)
 all_goals go_wp2
 all_goals refine bodyPost_ret (v:=.agg #[.int .u64 0,.int .i64 2,.int .i64 0]) (by simp [results,results171,go_sem]) rfl ⟨rfl,?_⟩
 all_goals repeat (first | exact Below.refl _ _ | refine Below.drew ?_ | (refine Below.setCell ?_ (by simp) _) | (refine Below.alloc ?_ (by simp;try omega) _))
set_option maxHeartbeats 1000000 in
theorem Of (f f2:Int) (v:Int) (w:World):Calls prog 171 #[.agg #[.int .u64 f,.int .i64 1,.int .i64 v],.agg #[.int .u64 f2,.int .i64 2,.int .i64 0]] w fun e w'=>e = .returned (.agg #[.int .u64 0,.int .i64 2,.int .i64 0])∧Below w.heap.size w w':=by
 go_enter func171,ntmps171
 go_wp2
 go_region_with (go_at_call 177;refine (fY _ _ _ _).mono ?_;rintro e w' ⟨rfl,rfl⟩)
 all_goals go_wp2
 all_goals refine bodyPost_ret (v:=.agg #[.int .u64 0,.int .i64 2,.int .i64 0]) (by simp [results,results171,go_sem]) rfl ⟨rfl,?_⟩
 all_goals repeat (first | exact Below.refl _ _ | refine Below.drew ?_ | (refine Below.setCell ?_ (by simp) _) | (refine Below.alloc ?_ (by simp;try omega) _))
set_option maxHeartbeats 1000000 in
theorem Og (f f2:Int) (w:World):Calls prog 171 #[.agg #[.int .u64 f,.int .i64 2,.int .i64 0],.agg #[.int .u64 f2,.int .i64 0,.int .i64 0]] w fun e w'=>e = .returned (.agg #[.int .u64 0,.int .i64 2,.int .i64 0])∧Below w.heap.size w w':=by
 go_enter func171,ntmps171
 go_wp2
 go_region_with (go_at_call 177;refine (fY _ _ _ _).mono ?_;rintro e w' ⟨rfl,rfl⟩)
 all_goals go_wp2
 all_goals refine bodyPost_ret (v:=.agg #[.int .u64 0,.int .i64 2,.int .i64 0]) (by simp [results,results171,go_sem]) rfl ⟨rfl,?_⟩
 all_goals repeat (first | exact Below.refl _ _ | refine Below.drew ?_ | (refine Below.setCell ?_ (by simp) _) | (refine Below.alloc ?_ (by simp;try omega) _))
set_option maxHeartbeats 1000000 in
theorem Oh (f f2:Int) (v2:Int) (w:World):Calls prog 171 #[.agg #[.int .u64 f,.int .i64 2,.int .i64 0],.agg #[.int .u64 f2,.int .i64 1,.int .i64 v2]] w fun e w'=>e = .returned (.agg #[.int .u64 0,.int .i64 2,.int .i64 0])∧Below w.heap.size w w':=by
 go_enter func171,ntmps171
 go_wp2
 go_region_with (go_at_call 177;refine (fY _ _ _ _).mono ?_;rintro e w' ⟨rfl,rfl⟩)
 all_goals go_wp2
 all_goals refine bodyPost_ret (v:=.agg #[.int .u64 0,.int .i64 2,.int .i64 0]) (by simp [results,results171,go_sem]) rfl ⟨rfl,?_⟩
 all_goals repeat (first | exact Below.refl _ _ | refine Below.drew ?_ | (refine Below.setCell ?_ (by simp) _) | (refine Below.alloc ?_ (by simp;try omega) _))
set_option maxHeartbeats 1000000 in
theorem Oi (f f2:Int) (w:World):Calls prog 171 #[.agg #[.int .u64 f,.int .i64 2,.int .i64 0],.agg #[.int .u64 f2,.int .i64 2,.int .i64 0]] w fun e w'=>e = .returned (.agg #[.int .u64 0,.int .i64 2,.int .i64 0])∧Below w.heap.size w w':=by
 go_enter func171,ntmps171
 go_wp2
 go_region_with (go_at_call 177;refine (fY _ _ _ _).mono ?_;rintro e w' ⟨rfl,rfl⟩)
 all_goals go_wp2
 all_goals refine bodyPost_ret (v:=.agg #[.int .u64 0,.int .i64 2,.int .i64 0]) (by simp [results,results171,go_sem]) rfl ⟨rfl,?_⟩
 all_goals repeat (first | exact Below.refl _ _ | refine Below.drew ?_ | (refine Below.setCell ?_ (by simp) _) | (refine Below.alloc ?_ (by simp;try omega) _))
def Cl.ok (c:Cl):Prop:=c.f < 18446744073709551616∧dX c.f c.k c.v=true
def joinK (k v k2 v2:Int):Int:=if k=0 then k2 else if k2=0 then k else if k=1∧k2=1∧v=v2 then 1 else 2
def eN (k v k2 v2:Int):Int:=if k=0 then v2 else if k2=0 then v else if k=1∧k2=1∧v=v2 then v else 0
def join (a b:Cl):Cl:=⟨if joinK a.k a.v b.k b.v=2 then 0 else a.f ||| b.f,joinK a.k a.v b.k b.v,eN a.k a.v b.k b.v⟩
theorem oS {f:Nat} {k v:Int} (h:dX f k v=true):(k=0∧v=0)∨k=1∨(k=2∧v=0):=by
 unfold dX at h
 split at h
 ·left;simp at h;exact ⟨by assumption,h⟩
 ·split at h
  ·right;left;assumption
  ·split at h
   ·right;right;simp at h;exact ⟨by assumption,h.1⟩
   ·cases h
theorem or_cast (a b:Nat) (ha:a < 18446744073709551616) (hb:b < 18446744073709551616):bits .or .u64 (a:Int) (b:Int)=((a ||| b:Nat):Int):=bits_or_u64_nat a b ha hb
def Gh (a b:Cl) (w:World) (e:Ending) (w':World):Prop:=e = .returned (join a b).val∧Below w.heap.size w w'
theorem kY {f f2:Nat} {k v k2 v2:Int} {F K V:Int} {w:World} (hF:F=((if joinK k v k2 v2=2 then 0 else f ||| f2:Nat):Int)) (hK:K=joinK k v k2 v2) (hV:V=eN k v k2 v2) :
  ∀ e w',(e=Ending.returned (.agg #[.int .u64 F,.int .i64 K,.int .i64 V])∧Below w.heap.size w w')→Gh ⟨f,k,v⟩ ⟨f2,k2,v2⟩ w e w':=by
 rintro e w' ⟨rfl,hb⟩
 exact ⟨by simp only [join,Cl.val];rw [hF,hK,hV],hb⟩
theorem Ji (a b:Cl) (ha:a.ok) (hb:b.ok) (w:World):Calls prog 171 #[a.val,b.val] w (Gh a b w):=by
 obtain ⟨f,k,v⟩:=a
 obtain ⟨f2,k2,v2⟩:=b
 obtain ⟨hf,hk⟩:=ha
 obtain ⟨hf2,hk2⟩:=hb
 simp only at hf hk hf2 hk2
 have ho:=or_cast f f2 hf hf2
 rcases oS hk with ⟨rfl,rfl⟩ | rfl | ⟨rfl,rfl⟩<;>rcases oS hk2 with ⟨rfl,rfl⟩ | rfl | ⟨rfl,rfl⟩
 ·exact (N7 f f2 w).mono (kY (by simp [joinK,ho]) (by simp [joinK]) (by simp [eN]))
 ·exact (N8 f f2 v2 w).mono (kY (by simp [joinK,ho]) (by simp [joinK]) (by simp [eN]))
 ·exact (Oa f f2 w).mono (kY (by simp [joinK]) (by simp [joinK]) (by simp [eN]))
 ·exact (Oc f f2 v w).mono (kY (by simp [joinK,ho]) (by simp [joinK]) (by simp [eN]))
 ·by_cases hv:v=v2
  ·subst hv
   exact (Od f f2 v w).mono (kY (by simp [joinK,ho]) (by simp [joinK]) (by simp [eN]))
  ·exact (Oe f f2 v v2 (by simp [hv]) w).mono (kY (by simp [joinK,hv]) (by simp [joinK,hv]) (by simp [eN,hv]))
 ·exact (Of f f2 v w).mono (kY (by simp [joinK]) (by simp [joinK]) (by simp [eN]))
 ·exact (Og f f2 w).mono (kY (by simp [joinK]) (by simp [joinK]) (by simp [eN]))
 ·exact (Oh f f2 v2 w).mono (kY (by simp [joinK]) (by simp [joinK]) (by simp [eN]))
 ·exact (Oi f f2 w).mono (kY (by simp [joinK]) (by simp [joinK]) (by simp [eN]))
theorem tS (d:Int) (a:Option Addr) (len cap:Nat) (cs:List Cl) (w:World) (c:Int) (hl:cs.length=len) (hm:cs.length≤maxLen) (hrow:eZ w a cs) (hbits:oQ cs) (hc:lS d cs=c) :
  Calls prog 132 #[.int .i64 d,.slice a len cap] w fun e w'=>e = .returned (.int .i64 c)∧Below w.heap.size w w':=by
 subst hl;subst hc;exact D5 d a cap cs w hm hrow hbits
def nB (d:Int) (xs ys:List Cl):Int:=if lS d xs=0 then lS d ys else lS d xs
theorem kZ (d:Int) (a b:Option Addr) (capa capb:Nat) (xs ys:List Cl) (w:World) (hma:xs.length≤maxLen) (hmb:ys.length≤maxLen) (hra:eZ w a xs) (hrb:eZ w b ys) (hba:oQ xs) (hbb:oQ ys) (c:Int) (hc:nB d xs ys=c) :
  Calls prog 163 #[.int .i64 d,.slice a xs.length capa,.slice b ys.length capb] w fun e w'=>e = .returned (.int .i64 c)∧Below w.heap.size w w':=by
 have HMA:=Lib.hid hma;have HMB:=Lib.hid hmb;have HRA:=Lib.hid hra;have HRB:=Lib.hid hrb;have HBA:=Lib.hid hba;have HBB:=Lib.hid hbb
 clear hma hmb hra hrb hba hbb
 by_cases h0:lS d xs=0
 ·have H0:=Lib.hid h0
  have H1:=Lib.hid (show lS d ys=c by simpa [nB,h0] using hc)
  clear h0 hc
  go_enter func163,ntmps163
  go_wp2_with fail
  refine (tS _ _ _ _ xs _ 0 rfl HMA.out HRA.out HBA.out H0.out).mono ?_
  rintro e w1 ⟨rfl,hb1⟩
  go_wp2_with fail
  refine (tS _ _ _ _ ys _ c rfl HMB.out (HRB.out.below hb1) HBB.out H1.out).mono ?_
  rintro e w2 ⟨rfl,hb2⟩
  go_wp2
  go_ret
  exact ⟨rfl,hb1.trans (hb2.mono hb1.size)⟩
 ·have H1:=Lib.hid (show lS d xs=c by simpa [nB,h0] using hc)
  have hne:(c != 0)=true:=by rw [← H1.out];simpa using h0
  clear h0 hc
  go_enter func163,ntmps163
  go_wp2_with fail
  refine (tS _ _ _ _ xs _ c rfl HMA.out HRA.out HBA.out H1.out).mono ?_
  rintro e w1 ⟨rfl,hb1⟩
  go_wp2
  go_ret
  exact ⟨rfl,hb1⟩
def fE (t n:Int) (f:WF):Bool:=iQ t f && (f.z || (if t=2 then decide (0≤f.c) && decide (f.c≤n) else if t=3 then decide (eU n f.g f.rows=0) else if t=4 then decide (lS n f.cells=0) else true))
theorem gL {t n:Int} {l:Nat} (h:bJ t n l=true):l=0∧(t=1∨t=2∨t=3∨t=4):=by
 simp only [bJ,Bool.and_eq_true,decide_eq_true_eq] at h
 refine ⟨h.1,?_⟩
 rcases h with ⟨_,h⟩
 by_cases h1:t=1
 ·exact .inl h1
 by_cases h2:t=2
 ·exact .inr (.inl h2)
 by_cases h3:t=3
 ·exact .inr (.inr (.inl h3))
 by_cases h4:t=4
 ·exact .inr (.inr (.inr h4))
 ·simp [h1,h2,h3,h4] at h
theorem oT {t n:Int} {l:Nat} (h:bJ t n l=true):0≤n∧n≤1048576∧(t=1→n=0)∧((t=3∨t=4)→n≤64):=by
 have ht:=(gL h).2
 simp only [bJ,Bool.and_eq_true,decide_eq_true_eq] at h
 rcases h with ⟨_,h⟩
 rcases ht with rfl | rfl | rfl | rfl<;>simp at h<;>omega
theorem WF.At.fat {w:World} {f:WF} (h:f.At w) (hs:f.rl≤100):FAt w f.ra f.g f.rows:=⟨h.rows,h.g64,h.r64,by rw [h.rl];exact hs⟩
end Go.Proofs.YtmgnkpibpjgncaaGreatDoor
namespace Go.Proofs.YtmgnkpibpjgncaaGreatDoor
open Go.Proofs.Tryz
open Go Go.RowKit
theorem big_no {n:Int} (h:mD n≠0):(if fD n=true then (30:Int) else 31)=31:=by
 by_cases hd:fD n=true
 ·exfalso;apply h
  simp only [fD,Bool.and_eq_true,decide_eq_true_eq] at hd
  unfold mD;rw [if_pos (by omega)]
 ·rw [if_neg hd]
theorem big_yes {n:Int} (h:¬ mD n≠0):fD n=true∧n≤64:=by
 have h':mD n=0:=by omega
 unfold mD at h'
 split at h'
 ·rename_i hn
  refine ⟨?_,by omega⟩
  simp only [fD,Bool.and_eq_true,decide_eq_true_eq];omega
 ·omega
theorem big_ne {n:Int}:(if fD n=true then (30:Int) else 31)≠0:=by
 split<;>omega
theorem Mi {n:Int} (h:fD n=true):n≤64:=by
 simp only [fD,Bool.and_eq_true,decide_eq_true_eq] at h;omega
theorem Gi (n:Int) (a:Option Addr) (len cap gen:Nat) (w:World) (hl:100 < len) :
  Calls prog 153 #[.int .i64 n,.agg #[.int .u64 (gen:Int),.slice a len cap]] w (fun e w'=>e = .returned (.int .i64 (if fD n=true then 30 else 31))∧Below w.heap.size w w'):=by
 refine cD (args:=[.int .i64 n,.agg #[.int .u64 (gen:Int),.slice a len cap]]) func153 rfl ntmps153 rfl ?_
 have hS:=St.start w
 refine aM (aQ (bY (cs:=[_,_]) hS rfl rfl rfl fun B1 W1 hS=>aC rfl rfl (aN (XF.thenN (aM (aQ (aE rfl rfl (cN (vs:=[_]) hS Q6 rfl (qG n _ _ rfl rfl _) rfl ?_))))))))
 rintro e W2 ⟨rfl,rfl⟩
 refine ⟨_,rfl,Below.refl _ _,fun hS'=>?_⟩
 clear hS;have hS:=hS';clear hS'
 refine aE rfl rfl (bU rfl rfl rfl (bU rfl rfl rfl (aC rfl rfl (aC rfl rfl (aN (XF.thenN (aM (aM (aQ (aE rfl rfl (dA rfl rfl rfl (aN (XF.thenN (bB rfl (fun hc=>?_) (fun hc=>?_)))))))))))))))
 ·have hc15:=of_decide_eq_true hc;clear hc
  refine aM (aQ (aC rfl rfl (aN (XF.thenN (bL (XF.thenR (XF.res (cE results153 rfl) ?_)))))))
  exact ⟨by rw [big_no hc15],hS.below⟩
 ·have hc15:=of_decide_eq_false hc;clear hc
  obtain ⟨hd,hd2⟩:=big_yes hc15
  refine bI (XF.thenN (aM (aM (aQ (aK (o':=1) xE rfl rfl rfl (aR isAgg38 rfl (aH (hS.at_ 0 rfl) rfl) rfl (cC underlying38 rfl rfl (aE rfl rfl (dA rfl rfl rfl (aE rfl rfl (bH (d:=21) rfl (fun hc=>?_) (fun hc=>absurd (of_decide_eq_false hc) (by omega)))))))))))))
  have hc:=of_decide_eq_true hc
  refine aD (d:=21) rfl rfl rfl rfl (aD (d:=21) rfl rfl rfl rfl (aD (d:=21) rfl rfl rfl rfl (aD (d:=21) rfl rfl rfl rfl (aD (d:=21) rfl rfl rfl rfl (aW rfl rfl rfl (aN (XF.thenN (dT rfl (aM (aQ (aC rfl rfl (aN (XF.thenN (bL (XF.thenR (XF.res (cE results153 rfl) ?_))))))))))))))))
  exact ⟨by rw [if_pos hd],hS.below⟩
theorem Jj (n:Int) (a:Option Addr) (len cap gen:Nat) (w:World) (hl:100 < len) :
  Calls prog 131 #[.int .i64 n,.agg #[.int .u64 (gen:Int),.slice a len cap]] w (fun e w'=>e = .returned (.int .i64 (if fD n=true then 30 else 31))∧Below w.heap.size w w'):=by
 refine cD (args:=[.int .i64 n,.agg #[.int .u64 (gen:Int),.slice a len cap]]) func131 rfl ntmps131 rfl ?_
 have hS:=St.start w
 refine aM (aQ (bY (cs:=[_,_]) hS rfl rfl rfl fun B1 W1 hS=>aC rfl rfl (aN (XF.thenN (aM (aM (aQ (aE rfl rfl (aT (vs:=[_,_]) isAgg40 sizeOf40 rfl (aF.own (j:=0) (m:=2) (hS.at_ 0 rfl) rfl) rfl (cA (vs:=[_,_]) hS Q5 rfl (Gi n a len cap gen _ hl) rfl fun W2 hS=>aC rfl rfl (aN (XF.thenN (aM (aQ (aE rfl rfl (dA rfl rfl rfl (aN (XF.thenN (bB rfl (fun hc=>?_) (fun hc=>absurd (of_decide_eq_false hc) (by exact fun h=>h big_ne)))))))))))))))))))))
 have hc:=of_decide_eq_true hc
 refine aM (aQ (aE rfl rfl (aC rfl rfl (aN (XF.thenN (bL (XF.thenR (XF.res (cE results131 rfl) ?_))))))))
 exact ⟨rfl,hS.below⟩
theorem Jk (n:Int) (a:Option Addr) (len cap gen:Nat) (w:World) (hl:100 < len) (hd:fD n=true) :
  Calls prog 134 #[.int .i64 n,.agg #[.int .u64 (gen:Int),.slice a len cap]] w (fun e w'=>e = .returned (.bool false)∧Below w.heap.size w w'):=by
 have hd2:=Mi hd
 refine cD (args:=[.int .i64 n,.agg #[.int .u64 (gen:Int),.slice a len cap]]) func134 rfl ntmps134 rfl ?_
 have hS:=St.start w
 refine aM (aQ (bY (cs:=[_,_]) hS rfl rfl rfl fun B1 W1 hS=>aC rfl rfl (aN (XF.thenN (aM (aM (aQ (aK (o':=1) xE rfl rfl rfl (aR isAgg38 rfl (aH (hS.at_ 0 rfl) rfl) rfl (cC underlying38 rfl rfl (aE rfl rfl (dA rfl rfl rfl (aE rfl rfl (bH (d:=11) rfl (fun hc=>?_) (fun hc=>absurd (of_decide_eq_false hc) (by omega))))))))))))))))
 have hc:=of_decide_eq_true hc
 refine aD (d:=11) rfl rfl rfl rfl (aD (d:=11) rfl rfl rfl rfl (aD (d:=11) rfl rfl rfl rfl (aD (d:=11) rfl rfl rfl rfl (aD (d:=11) rfl rfl rfl rfl (aW rfl rfl rfl (aN (XF.thenN (dT rfl (aM (aQ (aC rfl rfl (aN (XF.thenN (bL (XF.thenR (XF.res (cE results134 rfl) ?_))))))))))))))))
 exact ⟨rfl,hS.below⟩
theorem Jl (n:Int) (a:Option Addr) (len cap gen:Nat) (w:World) (hl:100 < len) :
  Calls prog 105 #[.int .i64 n,.agg #[.int .u64 (gen:Int),.slice a len cap]] w (fun e w'=>e = .returned (.int .i64 (if fD n=true then 30 else 31))∧Below w.heap.size w w'):=by
 refine cD (args:=[.int .i64 n,.agg #[.int .u64 (gen:Int),.slice a len cap]]) func105 rfl ntmps105 rfl ?_
 have hS:=St.start w
 refine aM (aQ (bY (cs:=[_,_]) hS rfl rfl rfl fun B1 W1 hS=>aC rfl rfl (aN (XF.thenN (aM (aM (aQ (aE rfl rfl (cN (vs:=[_]) hS Q3 rfl (Dw n _ rfl _) rfl ?_)))))))))
 rintro e W2 ⟨rfl,rfl⟩
 refine ⟨_,rfl,Below.refl _ _,fun hS'=>?_⟩
 clear hS;have hS:=hS';clear hS'
 refine eS rfl rfl (aN (XF.thenN (bB rfl (fun hc=>?_) (fun hc=>?_))))
 ·have hc7:=hc;clear hc
  refine aM (aQ (aC rfl rfl (aN (XF.thenN (bL (XF.thenR (XF.res (cE results105 rfl) ?_)))))))
  exact ⟨by rw [if_neg (by simpa using hc7)],hS.below⟩
 ·have hc7:=hc;clear hc
  have hd:fD n=true:=by simpa using hc7
  refine bI (XF.thenN (aM (aM (lQ (m:=11) cF hS (by kernel_rfl) (by kernel_rfl) rfl (cL 1 rfl 0 rfl rfl (fun w hw=>bA rfl) rfl (cL 2 rfl 3 rfl rfl (fun w hw=>bD (vs:=[_,_]) isAgg40 sizeOf40 rfl (aF.agree (aP hw 0) (Nat.zero_le _) (aF.own (j:=0) (m:=2) (hS.at_ 0 rfl) rfl))) rfl ?_))))))
  refine aL 3 rfl (isV (.bool false)) (aI _) (dB [isV _,isV _] rfl Q4 (aS rfl) ⟨cH (aO 0 (aA rfl rfl rfl)),cH (aO 1 (aA rfl rfl rfl)),trivial⟩ (fun vs w' hb hh=>by have e:=cI (us:=[_,_]) hh;subst e;exact (Jk n a len cap gen _ hl hd).mono fun e w2 h=>⟨_,h.1,rfl,h.2⟩) (aG rfl)) ?_
  refine aL 4 rfl (isV (.bool true)) (aI _) (qB (li:=[(10,_)]) rfl (aS rfl) ⟨aO 2 (aA rfl rfl rfl),trivial⟩ (fun w hw=>lN rfl) (rfl) (aG rfl)) (bC 5 rfl 11 3 rfl rfl rfl (fun w hw=>bA rfl) rfl (aL 6 rfl (isV undef) (aI _) (bQ rfl (bX 12 rfl (aA rfl rfl rfl) rfl) (aG rfl)) (aL 7 rfl (isV undef) (aI _) (bQ rfl (bX 12 rfl (aA rfl rfl rfl) rfl) (aG rfl)) (aL 8 rfl (isV undef) (aI _) (bQ rfl (bX 12 rfl (aA rfl rfl rfl) rfl) (aG rfl)) (aL 9 rfl (isV undef) (aI _) (bQ rfl (bX 12 rfl (aA rfl rfl rfl) rfl) (aG rfl)) (aL 10 rfl (isV undef) (aI _) (bQ rfl (bX 12 rfl (aA rfl rfl rfl) rfl) (aG rfl)) (bC 11 rfl 12 4 rfl rfl rfl (fun w hw=>eX rfl rfl) rfl (dW ?_))))))))
  intro W3 hbR hS'
  clear hS;have hS:=hS';clear hS'
  refine aJ (aJ (aJ (aJ (aJ (aJ (aJ (aJ (aJ (aJ (aJ (cQ (XF.thenN (dT rfl (aM (aQ (aC rfl rfl (aN (XF.thenN (bL (XF.thenR (XF.res (cE results105 rfl) ?_)))))))))))))))))))))
  exact ⟨by rw [if_pos hd],hS.below⟩
theorem yK {n:Int} {gen:Nat} {rows:List Nat} (h:100 < rows.length):eU n gen rows=(if fD n=true then 30 else 31):=by
 unfold eU
 by_cases hd:fD n=true
 ·have h64:=Mi hd
  have e:fB n.toNat gen rows=false:=by
   unfold fB
   rw [decide_eq_false (by omega)];rfl
  rw [if_pos hd,if_pos hd,e];rfl
 ·rw [if_neg hd,if_neg hd]
theorem Jm (n:Int) (a:Option Addr) (cap gen:Nat) (rows:List Nat) (w:World) {f:WF} (hf:f.At w) (r:Int) (hr:eU n gen rows=r) (len:Nat) (hl:rows.length=len) (ha:f.ra=a:=by rfl) (hg:f.g=gen:=by rfl) (hrr:f.rows=rows:=by rfl) :
  Calls prog 131 #[.int .i64 n,.agg #[.int .u64 (gen:Int),.slice a len cap]] w fun e w'=>e = .returned (.int .i64 r)∧Below w.heap.size w w':=by
 subst ha;subst hg;subst hrr
 by_cases h:f.rows.length≤100
 ·exact rK n _ cap _ _ w ⟨hf.rows,hf.g64,hf.r64,h⟩ r hr len hl
 ·rw [← hr,yK (by omega)]
  exact Jj n _ len cap _ w (by omega)
theorem Jn (n:Int) (a:Option Addr) (cap gen:Nat) (rows:List Nat) (w:World) {f:WF} (hf:f.At w) (r:Int) (hr:eU n gen rows=r) (len:Nat) (hl:rows.length=len) (ha:f.ra=a:=by rfl) (hg:f.g=gen:=by rfl) (hrr:f.rows=rows:=by rfl) :
  Calls prog 105 #[.int .i64 n,.agg #[.int .u64 (gen:Int),.slice a len cap]] w fun e w'=>e = .returned (.int .i64 r)∧Below w.heap.size w w':=by
 subst ha;subst hg;subst hrr
 by_cases h:f.rows.length≤100
 ·exact N5 n _ cap _ _ w ⟨hf.rows,hf.g64,hf.r64,h⟩ r hr len hl
 ·rw [← hr,yK (by omega)]
  exact Jl n _ len cap _ w (by omega)
end Go.Proofs.YtmgnkpibpjgncaaGreatDoor
namespace Go.Proofs.YtmgnkpibpjgncaaGreatDoor
open Go.Proofs.Tryz
open Go.RowKit
theorem Gj (f:WF) (r:Bool) (hr:iP false false false false f=r) (w:World) :
  Calls prog 104 #[f.val,.bool false,.bool false,.bool false,.bool false] w fun e w'=>e = .returned (.bool r)∧Below w.heap.size w w':=by
 obtain ⟨z,c,g,ra,rl,rc,rows,ca,cl,cc,cells,pa,pl,pc⟩:=f
 show Calls prog 104 #[.agg #[.bool z,.int .i64 c,.int .u64 (g:Int),.slice ra rl rc,.slice ca cl cc,.slice pa pl pc],.bool false,.bool false,.bool false,.bool false] w _
 have hB:=Lib.hid (A6 w #[.bool z,.int .i64 c,.int .u64 (g:Int),.slice ra rl rc,.slice ca cl cc,.slice pa pl pc] 44)
 obtain ⟨b1,h1⟩:∃ b,(c == 0)=b:=⟨_,rfl⟩
 obtain ⟨b2,h2⟩:∃ b,((g:Int) == 0)=b:=⟨_,rfl⟩
 obtain ⟨b3,h3⟩:∃ b,((rl:Int) == 0)=b:=⟨_,rfl⟩
 obtain ⟨b4,h4⟩:∃ b,((cl:Int) == 0)=b:=⟨_,rfl⟩
 obtain ⟨b5,h5⟩:∃ b,((pl:Int) == 0)=b:=⟨_,rfl⟩
 have HR:Hid (((false || b1) && ((false || (b2 && b3)) && ((false || b4) && (false || b5))))=r):=by
  show _=_
  rw [← hr,← h1,← h2,← h3,← h4,← h5,dY,dY,dY,dY,rL];rfl
 clear hr
 cases b1
 ·go_enter func104,ntmps104
  go_wp2_with fail
  go_ret
  exact ⟨bT (by rw [← HR.out];simp),hB.out⟩
 cases b2
 ·go_enter func104,ntmps104
  go_wp2_with fail
  go_ret
  exact ⟨bT (by rw [← HR.out];simp),hB.out⟩
 cases b3
 ·go_enter func104,ntmps104
  go_wp2_with fail
  go_ret
  exact ⟨bT (by rw [← HR.out];simp),hB.out⟩
 cases b4
 ·go_enter func104,ntmps104
  go_wp2_with fail
  go_ret
  exact ⟨bT (by rw [← HR.out];simp),hB.out⟩
 cases b5
 ·go_enter func104,ntmps104
  go_wp2_with fail
  go_ret
  exact ⟨bT (by rw [← HR.out];simp),hB.out⟩
 go_enter func104,ntmps104
 go_wp2_with fail
 go_ret
 exact ⟨bT (by rw [← HR.out];simp),hB.out⟩
theorem Rn (f:WF) (r:Bool) (hr:iP true false false false f=r) (w:World) :
  Calls prog 104 #[f.val,.bool true,.bool false,.bool false,.bool false] w fun e w'=>e = .returned (.bool r)∧Below w.heap.size w w':=by
 obtain ⟨z,c,g,ra,rl,rc,rows,ca,cl,cc,cells,pa,pl,pc⟩:=f
 show Calls prog 104 #[.agg #[.bool z,.int .i64 c,.int .u64 (g:Int),.slice ra rl rc,.slice ca cl cc,.slice pa pl pc],.bool true,.bool false,.bool false,.bool false] w _
 have hB:=Lib.hid (A6 w #[.bool z,.int .i64 c,.int .u64 (g:Int),.slice ra rl rc,.slice ca cl cc,.slice pa pl pc] 44)
 obtain ⟨b1,h1⟩:∃ b,(c == 0)=b:=⟨_,rfl⟩
 obtain ⟨b2,h2⟩:∃ b,((g:Int) == 0)=b:=⟨_,rfl⟩
 obtain ⟨b3,h3⟩:∃ b,((rl:Int) == 0)=b:=⟨_,rfl⟩
 obtain ⟨b4,h4⟩:∃ b,((cl:Int) == 0)=b:=⟨_,rfl⟩
 obtain ⟨b5,h5⟩:∃ b,((pl:Int) == 0)=b:=⟨_,rfl⟩
 have HR:Hid (((true || b1) && ((false || (b2 && b3)) && ((false || b4) && (false || b5))))=r):=by
  show _=_
  rw [← hr,← h1,← h2,← h3,← h4,← h5,dY,dY,dY,dY,rL];rfl
 clear hr
 cases b2
 ·go_enter func104,ntmps104
  go_wp2_with fail
  go_ret
  exact ⟨bT (by rw [← HR.out];simp),hB.out⟩
 cases b3
 ·go_enter func104,ntmps104
  go_wp2_with fail
  go_ret
  exact ⟨bT (by rw [← HR.out];simp),hB.out⟩
 cases b4
 ·go_enter func104,ntmps104
  go_wp2_with fail
  go_ret
  exact ⟨bT (by rw [← HR.out];simp),hB.out⟩
 cases b5
 ·go_enter func104,ntmps104
  go_wp2_with fail
  go_ret
  exact ⟨bT (by rw [← HR.out];simp),hB.out⟩
 go_enter func104,ntmps104
 go_wp2_with fail
 go_ret
 exact ⟨bT (by rw [← HR.out];simp),hB.out⟩
theorem Ro (f:WF) (r:Bool) (hr:iP false true false false f=r) (w:World) :
  Calls prog 104 #[f.val,.bool false,.bool true,.bool false,.bool false] w fun e w'=>e = .returned (.bool r)∧Below w.heap.size w w':=by
 obtain ⟨z,c,g,ra,rl,rc,rows,ca,cl,cc,cells,pa,pl,pc⟩:=f
 show Calls prog 104 #[.agg #[.bool z,.int .i64 c,.int .u64 (g:Int),.slice ra rl rc,.slice ca cl cc,.slice pa pl pc],.bool false,.bool true,.bool false,.bool false] w _
 have hB:=Lib.hid (A6 w #[.bool z,.int .i64 c,.int .u64 (g:Int),.slice ra rl rc,.slice ca cl cc,.slice pa pl pc] 44)
 obtain ⟨b1,h1⟩:∃ b,(c == 0)=b:=⟨_,rfl⟩
 obtain ⟨b2,h2⟩:∃ b,((g:Int) == 0)=b:=⟨_,rfl⟩
 obtain ⟨b3,h3⟩:∃ b,((rl:Int) == 0)=b:=⟨_,rfl⟩
 obtain ⟨b4,h4⟩:∃ b,((cl:Int) == 0)=b:=⟨_,rfl⟩
 obtain ⟨b5,h5⟩:∃ b,((pl:Int) == 0)=b:=⟨_,rfl⟩
 have HR:Hid (((false || b1) && ((true || (b2 && b3)) && ((false || b4) && (false || b5))))=r):=by
  show _=_
  rw [← hr,← h1,← h2,← h3,← h4,← h5,dY,dY,dY,dY,rL];rfl
 clear hr
 cases b1
 ·go_enter func104,ntmps104
  go_wp2_with fail
  go_ret
  exact ⟨bT (by rw [← HR.out];simp),hB.out⟩
 cases b4
 ·go_enter func104,ntmps104
  go_wp2_with fail
  go_ret
  exact ⟨bT (by rw [← HR.out];simp),hB.out⟩
 cases b5
 ·go_enter func104,ntmps104
  go_wp2_with fail
  go_ret
  exact ⟨bT (by rw [← HR.out];simp),hB.out⟩
 go_enter func104,ntmps104
 go_wp2_with fail
 go_ret
 exact ⟨bT (by rw [← HR.out];simp),hB.out⟩
theorem Rp (f:WF) (r:Bool) (hr:iP false false true false f=r) (w:World) :
  Calls prog 104 #[f.val,.bool false,.bool false,.bool true,.bool false] w fun e w'=>e = .returned (.bool r)∧Below w.heap.size w w':=by
 obtain ⟨z,c,g,ra,rl,rc,rows,ca,cl,cc,cells,pa,pl,pc⟩:=f
 show Calls prog 104 #[.agg #[.bool z,.int .i64 c,.int .u64 (g:Int),.slice ra rl rc,.slice ca cl cc,.slice pa pl pc],.bool false,.bool false,.bool true,.bool false] w _
 have hB:=Lib.hid (A6 w #[.bool z,.int .i64 c,.int .u64 (g:Int),.slice ra rl rc,.slice ca cl cc,.slice pa pl pc] 44)
 obtain ⟨b1,h1⟩:∃ b,(c == 0)=b:=⟨_,rfl⟩
 obtain ⟨b2,h2⟩:∃ b,((g:Int) == 0)=b:=⟨_,rfl⟩
 obtain ⟨b3,h3⟩:∃ b,((rl:Int) == 0)=b:=⟨_,rfl⟩
 obtain ⟨b4,h4⟩:∃ b,((cl:Int) == 0)=b:=⟨_,rfl⟩
 obtain ⟨b5,h5⟩:∃ b,((pl:Int) == 0)=b:=⟨_,rfl⟩
 have HR:Hid (((false || b1) && ((false || (b2 && b3)) && ((true || b4) && (false || b5))))=r):=by
  show _=_
  rw [← hr,← h1,← h2,← h3,← h4,← h5,dY,dY,dY,dY,rL];rfl
 clear hr
 cases b1
 ·go_enter func104,ntmps104
  go_wp2_with fail
  go_ret
  exact ⟨bT (by rw [← HR.out];simp),hB.out⟩
 cases b2
 ·go_enter func104,ntmps104
  go_wp2_with fail
  go_ret
  exact ⟨bT (by rw [← HR.out];simp),hB.out⟩
 cases b3
 ·go_enter func104,ntmps104
  go_wp2_with fail
  go_ret
  exact ⟨bT (by rw [← HR.out];simp),hB.out⟩
 cases b5
 ·go_enter func104,ntmps104
  go_wp2_with fail
  go_ret
  exact ⟨bT (by rw [← HR.out];simp),hB.out⟩
 go_enter func104,ntmps104
 go_wp2_with fail
 go_ret
 exact ⟨bT (by rw [← HR.out];simp),hB.out⟩
theorem tT (f:WF) (r:Bool) (hr:iP false false false true f=r) (w:World) :
  Calls prog 104 #[f.val,.bool false,.bool false,.bool false,.bool true] w fun e w'=>e = .returned (.bool r)∧Below w.heap.size w w':=by
 obtain ⟨z,c,g,ra,rl,rc,rows,ca,cl,cc,cells,pa,pl,pc⟩:=f
 show Calls prog 104 #[.agg #[.bool z,.int .i64 c,.int .u64 (g:Int),.slice ra rl rc,.slice ca cl cc,.slice pa pl pc],.bool false,.bool false,.bool false,.bool true] w _
 have hB:=Lib.hid (A6 w #[.bool z,.int .i64 c,.int .u64 (g:Int),.slice ra rl rc,.slice ca cl cc,.slice pa pl pc] 44)
 obtain ⟨b1,h1⟩:∃ b,(c == 0)=b:=⟨_,rfl⟩
 obtain ⟨b2,h2⟩:∃ b,((g:Int) == 0)=b:=⟨_,rfl⟩
 obtain ⟨b3,h3⟩:∃ b,((rl:Int) == 0)=b:=⟨_,rfl⟩
 obtain ⟨b4,h4⟩:∃ b,((cl:Int) == 0)=b:=⟨_,rfl⟩
 obtain ⟨b5,h5⟩:∃ b,((pl:Int) == 0)=b:=⟨_,rfl⟩
 have HR:Hid (((false || b1) && ((false || (b2 && b3)) && ((false || b4) && (true || b5))))=r):=by
  show _=_
  rw [← hr,← h1,← h2,← h3,← h4,← h5,dY,dY,dY,dY,rL];rfl
 clear hr
 cases b1
 ·go_enter func104,ntmps104
  go_wp2_with fail
  go_ret
  exact ⟨bT (by rw [← HR.out];simp),hB.out⟩
 cases b2
 ·go_enter func104,ntmps104
  go_wp2_with fail
  go_ret
  exact ⟨bT (by rw [← HR.out];simp),hB.out⟩
 cases b3
 ·go_enter func104,ntmps104
  go_wp2_with fail
  go_ret
  exact ⟨bT (by rw [← HR.out];simp),hB.out⟩
 cases b4
 ·go_enter func104,ntmps104
  go_wp2_with fail
  go_ret
  exact ⟨bT (by rw [← HR.out];simp),hB.out⟩
 go_enter func104,ntmps104
 go_wp2_with fail
 go_ret
 exact ⟨bT (by rw [← HR.out];simp),hB.out⟩
theorem Jo {m s:Nat} (hm:m≤64) (hs:s < 18446744073709551616):mU m s=jQ m s:=by
 rw [Bool.eq_iff_iff,mF hm hs,jQ,beq_iff_eq,Nat.div_eq_zero_iff_lt (Nat.two_pow_pos m)]
set_option maxHeartbeats 2000000 in
theorem Rq (m:Nat) (hm:m≤64) (f:Nat) (k v:Int) (hf:f < 18446744073709551616) (r:Bool) (hr:jN m ⟨f,k,v⟩=r) (w:World) :
  Calls prog 106 #[.int .i64 m,.agg #[.int .u64 f,.int .i64 k,.int .i64 v]] w fun e w'=>e = .returned (.bool r)∧Below w.heap.size w w':=by
 have hB:=Lib.hid (A6 w #[.int .u64 f,.int .i64 k,.int .i64 v] 105)
 obtain ⟨i,hi⟩:∃ i,jQ m f=i:=⟨_,rfl⟩
 have HI:Hid (Jh m f=i):=by
  show _=_
  have hd:fD (m:Int)=true:=by simp [fD];omega
  rw [Jh,if_pos hd,Int.toNat_natCast,Jo hm hf,hi]
 have HR:Hid ((i && dX f k v)=r):=by show _=_;rw [← hr,jN,lR,hi]
 clear hr hi
 cases i
 ·have HR2:Hid (false=r):=by show _=_;rw [← HR.out];rfl
  go_enter func106,ntmps106
  go_wp2_with fail
  refine (gU m f hf false HI.out _).mono ?_
  rintro e w1 ⟨rfl,rfl⟩
  go_wp2_with fail
  go_ret
  exact ⟨bT HR2.out,hB.out⟩
 by_cases k0:k=0
 ·subst k0
  have HR2:Hid ((v == 0)=r):=by show _=_;rw [← HR.out];simp [dX]
  go_enter func106,ntmps106
  go_wp2_with fail
  refine (gU m f hf true HI.out _).mono ?_
  rintro e w1 ⟨rfl,rfl⟩
  go_wp2_with fail
  go_ret
  exact ⟨bT HR2.out,hB.out⟩
 by_cases k1:k=1
 ·subst k1
  have HR2:Hid (true=r):=by show _=_;rw [← HR.out];simp [dX]
  clear k0
  go_enter func106,ntmps106
  go_wp2_with fail
  refine (gU m f hf true HI.out _).mono ?_
  rintro e w1 ⟨rfl,rfl⟩
  go_wp2_with fail
  go_ret
  exact ⟨bT HR2.out,hB.out⟩
 by_cases k2:k=2
 ·subst k2
  clear k0 k1
  by_cases v0:v=0
  ·subst v0
   have HR2:Hid (((f:Int) == 0)=r):=by show _=_;rw [← HR.out,dY,Bool.eq_iff_iff];simp [dX]
   go_enter func106,ntmps106
   go_wp2_with fail
   refine (gU m f hf true HI.out _).mono ?_
   rintro e w1 ⟨rfl,rfl⟩
   go_wp2_with fail
   go_ret
   exact ⟨bT HR2.out,hB.out⟩
  ·have HR2:Hid (false=r):=by show _=_;rw [← HR.out];simp [dX,v0]
   have hv:(v == 0)=false:=by simp [v0]
   go_enter func106,ntmps106
   go_wp2_with fail
   refine (gU m f hf true HI.out _).mono ?_
   rintro e w1 ⟨rfl,rfl⟩
   go_wp2_with fail
   go_ret
   exact ⟨bT HR2.out,hB.out⟩
 ·have HR2:Hid (false=r):=by show _=_;rw [← HR.out];simp [dX,k0,k1,k2]
  have e0:(k == 0)=false:=by simp [k0]
  have e1:(k == 1)=false:=by simp [k1]
  have e2:(k == 2)=false:=by simp [k2]
  clear k0 k1 k2
  go_enter func106,ntmps106
  go_wp2_with fail
  refine (gU m f hf true HI.out _).mono ?_
  rintro e w1 ⟨rfl,rfl⟩
  go_wp2_with fail
  go_ret
  exact ⟨bT HR2.out,hB.out⟩
attribute [local go_sem ↓] Go.wp_at_zero Go.wp_at_succ
def pwAt (p:SV):Option WV→Bool | some x=>fE p.f.tag p.f.dim x.f | none=>false
def gW (p q:SV) (g:WF) (qs:List WV):Bool:=iQ 5 g && (!g.z && (decide (qs.length=2) && (pwAt p qs[0]? && pwAt q qs[1]?)))
theorem WIn.two {w:World} {d:Nat} {f:WF} {p q:WV} (h:WIn w (d+1) (.mk f [p,q])):f.pl=2∧∃ b off,f.pa=some ⟨b,off,none⟩∧b < w.heap.size∧W6 w b off p.f∧W6 w b (off+6) q.f∧WIn w d p∧WIn w d q:=by
 obtain ⟨_,h1,h2,h3⟩:=h
 refine ⟨h1.symm,?_⟩
 rcases h2 with h2 | ⟨b,off,ha,hc⟩
 ·cases h2
 ·have c0:=hc 0 p rfl
  have c1:=hc 1 q rfl
  simp only [Nat.zero_mul,Nat.add_zero,Nat.one_mul] at c0 c1
  exact ⟨b,off,ha,kW c0.1,c0,c1,h3 p (by simp),h3 q (by simp)⟩
theorem WIn.at_ {w:World} {d:Nat} {x:WV} (h:WIn w d x):x.f.At w:=by
 match d,x,h with
 | d+1,.mk f ps,h=>exact h.1
end Go.Proofs.YtmgnkpibpjgncaaGreatDoor
namespace Go.Proofs.YtmgnkpibpjgncaaGreatDoor
open Go.Proofs.Tryz
open Go.RowKit
def mV (ys xs:List Nat) (k:Nat):List Nat:=ys.take k++xs.drop k
theorem tU {ys xs:List Nat} {k x y:Nat} (hy:ys[k]?=some y) (hx:xs[k]?=some x):(mV ys xs k).set k y=mV ys xs (k+1):=by
 obtain ⟨hk,ex⟩:=List.getElem?_eq_some_iff.1 hx
 obtain ⟨hk2,ey⟩:=List.getElem?_eq_some_iff.1 hy
 unfold mV
 have hl:(ys.take k).length=k:=by rw [List.length_take];omega
 rw [List.set_append_right _ _ (by omega),hl,Nat.sub_self,List.drop_eq_getElem_cons hk,List.set_cons_zero,List.take_succ_eq_append_getElem hk2,ey,List.append_assoc]
 rfl
theorem xH {ys xs:List Nat} {k x:Nat} (hl:ys.length=xs.length) (hx:xs[k]?=some x):(mV ys xs k)[k]?=some x:=by
 obtain ⟨hk,ex⟩:=List.getElem?_eq_some_iff.1 hx
 unfold mV
 have h2:(ys.take k).length=k:=by rw [List.length_take];omega
 rw [List.getElem?_append_right (by omega),h2,Nat.sub_self,List.getElem?_drop,Nat.add_zero,hx]
theorem rM (ys xs:List Nat):mV ys xs 0=xs:=by simp [mV]
theorem tV {ys xs:List Nat} (hl:ys.length=xs.length):mV ys xs xs.length=ys:=by
 unfold mV
 rw [List.take_of_length_le (by omega),List.drop_of_length_le (Nat.le_refl _),List.append_nil]
theorem tW (l:List Nat) (k y:Nat):(u64s l).set k (.int .u64 (y:Int))=u64s (l.set k y):=by
 unfold u64s;rw [List.map_set]
theorem tX {l:List Nat} {k x:Nat} (h:l[k]?=some x):(u64s l)[k]?=some (.int .u64 (x:Int)):=by
 unfold u64s;rw [List.getElem?_map,h];rfl
theorem D6 {w:World} {ad:Addr} {vs:List Value} (h:fH w (some ad) vs):∀ j u,vs[j]?=some u→w.cell? (ad.add j)=some u:=by
 intro j u hj
 rcases h with h | ⟨b,off,ha,hc⟩
 ·subst h;simp at hj
 ·cases ha
  have:=hc j u hj
  rw [← this]
  simp only [Addr.add];split<;>simp_all
theorem Rr (l:List Nat):∀ u∈u64s l,u.oneCell'=true:=by
 intro u hu
 unfold u64s at hu
 rw [List.mem_map] at hu
 obtain ⟨r,_,rfl⟩:=hu
 rfl
set_option maxHeartbeats 1000000 in
theorem yL (a:Option Addr) (cap:Nat) (xs:List Nat) (w:World) (hx:xs.length≤100) (hra:qJ w a xs) (n:Nat) (hn:xs.length=n) :
  Calls prog 157 #[.slice a n cap] w fun e w'=>∃ v,e = .returned v∧w'.ownsRow w.heap.size 37 1 v n (u64s xs)∧Below w.heap.size w w':=by
 obtain ⟨i0,hi,hz0,hz1,hz2⟩:=info_parts Mf
 have q22:∀ (w:World) (a:Option Addr) (n c n' c':Nat),(binOp .eql 38 (.slice a n c) (.slice none n' c')).run prog w = .ok (.bool a.isNone) w:=fun w a n c n' c'=>Lib.run_eql_slice_nil w _ _ a n c n' c' underlying38
 have HN:=Lib.hid hn
 rw [hn] at hx
 cases a with
 | none =>
  have hcs:u64s xs=[]:=by
   rcases hra with h | ⟨b,off,e,_⟩
   ·exact h
   ·cases e
  have hx0:xs=[]:=List.length_eq_zero_iff.1 (by rw [← gF,hcs];rfl)
  subst hx0
  obtain rfl:0=n:=HN.out
  clear hra
  go_enter func157,ntmps157
  go_wp2
  go_ret
  exact ⟨_,rfl,World.ownsRow_nil _ _ _ _,Below.refl _ _⟩
 | some ad =>
  have HNW:=Lib.hid (fun (o:Obj)=>D6 (fH.below hra ((Below.refl _ w).alloc (Nat.le_refl _) o)))
  have hown:(w.alloc (.cells #[] 37)).ownsRow w.heap.size 37 1 (.slice (some ⟨w.heap.size,0,none⟩) 0 0) 0 []:=World.ownsRow_lit w #[] 0 (Nat.le_refl _) (by simp) rfl
  have HO:=Lib.hid hown
  have hul:Hid ((u64s xs).length=n * 1):=by show _=_;rw [gF,hn,Nat.mul_one]
  clear hra hown hn
  go_enter func157,ntmps157
  go_wp2_with (at_builtin;go_loud (refine wpList_append_own _ rfl (.tmp 5) (.tmp 6) 38 rfl w.heap.size 37 i0 _ 1 8 underlying38 hi hz0 hz1 hz2 rfl (by decide) _ _ _ rfl HO.out ad n cap (u64s xs) rfl hul.out (HNW.out _) (Rr xs) (by unfold maxLen;omega) (by omega) (by simp) ?_;intro v' w2 hown2 hgrow hnil))
  go_ret
  refine ⟨v',rfl,by simpa using hown2,?_⟩
  exact ((Below.refl _ _).alloc (Nat.le_refl _) _).grown hgrow (by simp) (fun j e=>by cases e;exact Nat.le_refl _)
structure OwnPost (w w':World) (base n:Nat) (v:Value) (xs:List Nat):Prop where
 own:w'.ownsRow base 37 1 v n (u64s xs)
 below:Below base w w'
 rest:∀ j,j < w.heap.size→some j≠v.ownBlock→w'.heap[j]?=w.heap[j]?
set_option maxHeartbeats 1000000 in
theorem tY (gen:Nat) (base n:Nat) (v:Value) (xs ys:List Nat) (w:World) (hgen:gen < 18446744073709551616) (hall:∀ r∈xs,r < 18446744073709551616) (hx:xs.length≤100) (hn:xs.length=n) (hb0:base≤w.heap.size) (hown:w.ownsRow base 37 1 v n (u64s xs)) (hys:eG gen xs=ys) :
  Calls prog 162 #[.int .u64 gen,v] w fun e w'=>e = .returned (.agg #[.int .u64 (gen:Int),v])∧OwnPost w w' base n v ys:=by
 have HALL:=Lib.hid hall;have HN:=Lib.hid hn
 have HYL:Hid (ys.length=xs.length):=by show _=_;rw [← hys,iY]
 have HYS:=Lib.hid hys
 obtain ⟨a,cap,hv⟩:∃ a cap,v = .slice a n cap:=by
  rcases hown.2 with ⟨h,h0⟩ | ⟨g,cap,cur,h,_⟩
  ·exact ⟨none,0,by rw [h,h0]⟩
  ·exact ⟨_,_,h⟩
 subst hv
 have HO0:=Lib.hid hown
 rw [hn] at hx
 clear hown hys hall hn
 go_enter func162,ntmps162
 go_wp2_with fail
 go_loopw [8] (fun i wr=>∃ k:Nat,k≤n∧i = .int .i64 k∧Hid (wr.ownsRow base 37 1 (.slice a n cap) n (u64s (mV ys xs k)))∧Hid (wr.heap[w.heap.size]?=some (.cells #[.int .u64 0,.slice none 0 0] 40 (0,0)))∧Below base w wr∧Hid (∀ j,j < w.heap.size→some j≠(Value.slice a n cap).ownBlock→wr.heap[j]?=w.heap[j]?)) (fun i _=>n - (intOf i).toNat)
 case atStart =>
  refine ⟨0,Nat.zero_le _,rfl,?_,eJ _ _,(Below.refl _ _).alloc hb0 _,fun j hj _=>Below.heap_alloc _ _ _ hj⟩
  rw [rM]
  exact HO0.out.alloc _
 case round =>
  obtain ⟨k,hk,rfl,HO,HR,hb,HX⟩:=hrel
  by_cases hlt:k < n
  ·obtain ⟨x,hx1⟩:∃ x,xs[k]?=some x:=⟨xs[k]'(by rw [HN.out];exact hlt),by simp [HN.out,hlt]⟩
   have hx64:=HALL.out x (List.mem_of_getElem? hx1)
   have hag:=Me x gen hx64 hgen
   obtain ⟨y,hy⟩:∃ y,andn x gen=y:=⟨_,rfl⟩
   rw [hy] at hag
   have hy1:ys[k]?=some y:=by rw [← HYS.out,eG,List.getElem?_map,hx1,← hy];rfl
   have HM:=Lib.hid (tU hy1 hx1)
   obtain ⟨g,capg,hv,hbg,hgl⟩:=HO.out.form (show 0 < n by omega)
   have hv2:a=some ⟨g,0,none⟩∧capg=cap:=by cases hv;exact ⟨rfl,rfl⟩
   obtain ⟨rfl,rfl⟩:=hv2
   have d0:=(HO.out.cellAt k (by omega)).trans (tX (xH HYL.out hx1))
   have q0:=HO.out.frozenAt k
   have g0:(0:Int)≤(k:Int):=by omega
   have g3:(k:Int) < (n:Int):=by omega
   have HO2:Hid ((wr.setCell ⟨g,k,none⟩ (.int .u64 (y:Int))).ownsRow base 37 1 (.slice (some ⟨g,0,none⟩) n capg) n (u64s (mV ys xs (k+1)))):=by
    rw [← HM.out,← tW]
    exact (HO.out.stored k _).1
   have hgr:g≠w.heap.size:=by
    intro e
    have h1:=kX HR.out (by decide) HO.out
    apply h1
    show some _=some g
    rw [e]
   have HR2:=Lib.hid (eH (j:=k) (c:=.int .u64 (y:Int)) HR.out (fun e=>hgr e.symm))
   have HX2:Hid (∀ j,j < w.heap.size→some j≠(Value.slice (some ⟨g,0,none⟩) n capg).ownBlock→(wr.setCell ⟨g,k,none⟩ (.int .u64 (y:Int))).heap[j]?=w.heap[j]?):=fun j h1 h2=>by
    rw [Below.heap_setCell _ _ _ _ (show j≠g by intro e;apply h2;rw [e];rfl)]
    exact HX.out j h1 h2
   have hb2:=hb.setCell (p:=⟨g,k,none⟩) hbg (.int .u64 (y:Int))
   clear hx1 hy hy1 hv hgr
   go_wp2
   go_roundw
   case rel=>exact ⟨k+1,by omega,by go_num,HO2,HR2,hb2,HX2⟩
   case measure=>simp [intOf];omega
  ·obtain rfl:k=n:=by omega
   have HO2:Hid (wr.ownsRow base 37 1 (.slice a k cap) k (u64s ys)):=by
    have:=HO.out
    rw [← HN.out] at this ⊢
    rwa [tV HYL.out] at this
   obtain ⟨r0,r1,rf⟩:=cO HR.out
   have rf0:=rf 0;have rf1:=rf 1
   have N1:=Lib.hid (lF (c:=.slice a k cap) (mG (c:=.int .u64 (gen:Int)) HR.out))
   obtain ⟨s0,s1,_⟩:=cO N1.out
   have HNB:=Lib.hid (kX HR.out (by decide) HO.out)
   clear rf
   go_wp2
   refine bodyPost_ret (v:=.agg #[.int .u64 (gen:Int),.slice a k cap]) ?_ rfl ⟨rfl,?_,(hb.setCell (p:=⟨w.heap.size,0,none⟩) hb0 _).setCell (p:=⟨w.heap.size,1,none⟩) hb0 _,?_⟩
   ·simp [results,results162,go_sem,s0,s1]
   ·exact (HO2.out.kept (fP _ _ _ _) (.inr HNB.out.symm)).kept (fP _ _ _ _) (.inr HNB.out.symm)
   ·intro j h1 h2
    rw [Below.heap_setCell _ _ _ _ (show j≠w.heap.size by omega),Below.heap_setCell _ _ _ _ (show j≠w.heap.size by omega)]
    exact HX.out j h1 h2
def Rs (gen:Nat) (rows:List Nat) (err:Int) (w:World) (e:Ending) (w':World):Prop :=
 ∃ a cap,e = .returned (.tuple #[.agg #[.int .u64 (gen:Int),.slice a rows.length cap],.int .i64 err])∧fH w' a (u64s rows)∧(∀ ad,a=some ad→w.heap.size≤ad.block∧ad.block < w'.heap.size)∧Below w.heap.size w w'
theorem Gk {w w':World} (err:Int) (hb:Below w.heap.size w w'):Rs 0 [] err w (.returned (.tuple #[.agg #[.int .u64 0,.slice none 0 0],.int .i64 err])) w' :=
 ⟨none,0,rfl,.inl rfl,(fun ad e=>by cases e),hb⟩
theorem Oj {w:World} {base n:Nat} {E:TypeId} {v:Value} {xs:List Value} (h:w.ownsRow base E 1 v n xs):∃ a cap,v = .slice a n cap:=by
 rcases h.2 with ⟨h,h0⟩ | ⟨g,cap,cur,h,_⟩
 ·exact ⟨none,0,by rw [h,h0]⟩
 ·exact ⟨_,_,h⟩
theorem yM {w w':World} {gen n:Nat} {v:Value} {rows:List Nat} {base:Nat} (hb0:w.heap.size≤base) (h:w'.ownsRow base 37 1 v n (u64s rows)) (hb:Below w.heap.size w w') (err:Int):Rs gen rows err w (.returned (.tuple #[.agg #[.int .u64 (gen:Int),v],.int .i64 err])) w':=by
 obtain ⟨hn,a,cap,rfl,hr,hf⟩:=fH.of_own h
 exact ⟨a,cap,by rw [gF],hr,fun ad e=>⟨Nat.le_trans hb0 (hf ad e).1,(hf ad e).2⟩,hb⟩
def nC (n:Int) (ga:Nat) (xs:List Nat) (gb:Nat) (ys:List Nat):Int:=if eU n ga xs=0 then eU n gb ys else eU n ga xs
set_option maxHeartbeats 1000000 in
theorem tZ (n:Int) (a b:Option Addr) (capa capb ga gb:Nat) (xs ys:List Nat) (w:World) (hfa:FAt w a ga xs) (hfb:FAt w b gb ys) (r:Int) (hr:nC n ga xs gb ys=r) (la lb:Nat) (hla:xs.length=la) (hlb:ys.length=lb) :
  Calls prog 161 #[.int .i64 n,iX ga a la capa,iX gb b lb capb] w fun e w'=>e = .returned (.int .i64 r)∧Below w.heap.size w w':=by
 unfold iX
 have hB0:Below w.heap.size w ((w.alloc (.cells #[.int .u64 (ga:Int),.slice a la capa] 40)).alloc (.cells #[.int .u64 (gb:Int),.slice b lb capb] 40)):=((Below.refl _ _).alloc (Nat.le_refl _) _).alloc (by simp) _
 have HA:=Lib.hid (hfa.below hB0);have HB:=Lib.hid (hfb.below hB0);have HLA:=Lib.hid hla;have HLB:=Lib.hid hlb
 obtain ⟨t0,t1⟩:=vK w #[.int .u64 (ga:Int),.slice a la capa] #[.int .u64 (gb:Int),.slice b lb capb] 40
 have T1:=Lib.hid t1
 obtain ⟨s,hs⟩:∃ s,eU n ga xs=s:=⟨_,rfl⟩
 have HS:=Lib.hid hs
 by_cases h0:s=0
 ·subst h0
  have HR:Hid (eU n gb ys=r):=by show _=_;rw [← hr,nC,if_pos hs]
  clear hfa hfb hr hla hlb t0 t1 hs
  go_enter func161,ntmps161
  go_wp2_with fail
  refine (rK n a capa ga xs _ HA.out 0 HS.out la HLA.out).mono ?_
  rintro e w1 ⟨rfl,hb1⟩
  have hB1:=hB0.trans (hb1.mono hB0.size)
  obtain ⟨d0,d1,_⟩:=cO (cS T1.out hb1)
  go_wp2_with fail
  refine (rK n b capb gb ys _ (HB.out.below hb1) r HR.out lb HLB.out).mono ?_
  rintro e w2 ⟨rfl,hb2⟩
  go_wp2
  go_ret
  exact ⟨rfl,hB1.trans (hb2.mono hB1.size)⟩
 ·have HR:Hid (s=r):=by show _=_;rw [← hr,nC,hs,if_neg h0]
  have hne:(s != 0)=true:=by simpa using h0
  clear hfa hfb hr hla hlb t0 t1 hs h0
  go_enter func161,ntmps161
  go_wp2_with fail
  refine (rK n a capa ga xs _ HA.out s HS.out la HLA.out).mono ?_
  rintro e w1 ⟨rfl,hb1⟩
  go_wp2
  go_ret
  exact ⟨dM HR.out,hB0.trans (hb1.mono hB0.size)⟩
structure TabC (W:World):Prop where
 ctz:Lib.TabIs prog W "math/bits.deBruijn64tab" .u8 qF
theorem TabC.below {W W':World} (h:TabC W) (hb:Below W.heap.size W W'):TabC W':=⟨var?_below hb Je (Rc Je h.ctz) h.ctz⟩
theorem Jp (x:Nat) (hx0:x≠0) (hx:x < 18446744073709551616) (w:World) (ht:TabC w) :
  Calls prog 179 #[.int .u64 x] w fun e w'=>e = .returned (.int .i64 (Lib.ctz 64 x))∧w=w':=by
 obtain ⟨hlow,hk⟩:=Lib.lowest_bit 64 x hx0 hx
 obtain ⟨hi,htab⟩:=Lib.deBruijn64_at _ hk
 have hcell:=ht.ctz.cell Je _ (by rw [qF,List.length_map];exact hi)
 have e:qF.getD (2 ^ Lib.ctz 64 x * 285870213051353865 % 18446744073709551616 / 288230376151711744) 0=((Lib.ctz 64 x:Nat):Int):=by
  have:qF.getD (2 ^ Lib.ctz 64 x * 285870213051353865 % 18446744073709551616 / 288230376151711744) 0=Int.ofNat (Lib.deBruijn64tab.getD (2 ^ Lib.ctz 64 x * 285870213051353865 % 18446744073709551616 / 288230376151711744) 0):=by
   simp only [qF,List.getD,List.getElem?_map]
   cases Lib.deBruijn64tab[2 ^ Lib.ctz 64 x * 285870213051353865 % 18446744073709551616 / 288230376151711744]?<;>rfl
  rw [this,htab];rfl
 rw [e] at hcell
 exact Mb x _ _ w (by simp;omega) (Go.Proofs.tz64_key x _ hx hx0 hlow) hi hk hcell
theorem Gl (f:Nat) (i:Int) (r:Int) (b:Bool) (h:mE f i r b) (hf:f < 18446744073709551616) (w:World) (ht:TabC w) :
  Calls prog 181 #[.int .u64 f,.int .i64 i] w fun e w'=>e = .returned (.tuple #[.int .i64 r,.bool b])∧w=w':=by
 have HT:=Lib.hid ht
 by_cases hi:63 < i
 ·have e:r=0∧b=false:=lE h (.inr ⟨rfl,rfl,fun j hj hij=>by omega⟩)
  obtain ⟨rfl,rfl⟩:=e
  clear h ht
  go_enter func181,ntmps181
  go_wp2
  go_ret2
  exact ⟨rfl,rfl⟩
 ·have hc:=Lib.hid (Du f i i.toNat (by omega) rfl hf r b h)
  have HA:bits BinOp.andNot IntKind.u64 (f:Int) ((2 ^ i.toNat - 1:Nat):Int)=((restN f i.toNat:Nat):Int):=u64_andNot_nat f _ hf (Ds (by omega))
  have hmx:(if i < 0 then (0:Int) else i)=((i.toNat:Nat):Int):=by split<;>omega
  have hmx2:max i 0=((i.toNat:Nat):Int):=by omega
  have hlt:=F5 f i.toNat hf
  obtain ⟨m,hm⟩:∃ m,i.toNat=m:=⟨_,rfl⟩
  rw [hm] at HA hc hmx hmx2 hlt
  have hm63:m≤63:=by omega
  obtain ⟨q,hq⟩:∃ q,restN f m=q:=⟨_,rfl⟩
  rw [hq] at HA hc hlt
  obtain ⟨p,hp⟩:∃ p:Nat,2 ^ m - 1=p:=⟨_,rfl⟩
  rw [hp] at HA
  have HP:=Lib.hid hp
  clear ht h hq hp hf hm
  rcases hc.out with ⟨h0,rfl,rfl⟩ | ⟨h0,hr,rfl⟩
  ·subst h0
   go_enter func181,ntmps181
   go_wp2_with fail
   refine (yH m (by omega) _).mono ?_
   rintro e w1 ⟨rfl,rfl⟩
   rw [HP.out]
   go_wp2
   go_ret2
   exact ⟨rfl,rfl⟩
  ·have HR:=Lib.hid hr
   have hq0:((q:Int) == 0)=false:=by simp;omega
   clear hr hc
   go_enter func181,ntmps181
   go_wp2_with fail
   refine (yH m (by omega) _).mono ?_
   rintro e w1 ⟨rfl,rfl⟩
   rw [HP.out]
   go_wp2_with fail
   refine (Jp q (by omega) hlt _ HT.out).mono ?_
   rintro e w1 ⟨rfl,rfl⟩
   go_wp2
   go_ret2
   exact ⟨rib HR.out.symm rfl,rfl⟩
end Go.Proofs.YtmgnkpibpjgncaaGreatDoor
namespace Go.Proofs.YtmgnkpibpjgncaaGreatDoor
open Go.Proofs.Tryz
open Go.RowKit Go.Shelf
def Jq (rest:List Nat) (r:Int) (b:Bool):Prop:=(rest=[]∧r=0∧b=false)∨(∃ x l,rest=x::l∧r=(x:Int)∧b=true)
theorem sT {s j:Nat} (hj:j < 64) (h:s.testBit j=true):j∈mem s:=by
 unfold mem
 rw [List.mem_filter]
 exact ⟨List.mem_range.2 hj,h⟩
theorem sU (s:Nat):(mem s).Pairwise (· < ·):=List.Pairwise.filter _ List.pairwise_lt_range
theorem Bm {s:Nat} {pre rest:List Nat} {i r:Int} {b:Bool} (hm:mem s=pre++rest) (hp:∀ p∈pre,(p:Int) < i) (hr:∀ q∈rest,i≤(q:Int)) (h:mE s i r b):Jq rest r b:=by
 have hs:=sU s
 rw [hm,List.pairwise_append] at hs
 cases rest with
 | nil =>
  have:mE s i 0 false:=.inr ⟨rfl,rfl,fun j hj hij=>by
   cases hb:s.testBit j
   ·rfl
   ·have:=sT hj hb
    rw [hm,List.append_nil] at this
    have:=hp j this
    omega⟩
  obtain ⟨e1,e2⟩:=lE h this
  exact .inl ⟨rfl,e1,e2⟩
 | cons y l =>
  have hy:y∈mem s:=by rw [hm];simp
  have hyl:∀ q∈l,y < q:=fun q hq=>(List.pairwise_cons.1 hs.2.1).1 q hq
  have:mE s i y true:=.inl ⟨rfl,y,rfl,Dp hy,hr y (by simp),Dq hy,fun j hj hij=>by
   cases hb:s.testBit j
   ·rfl
   ·have hj64:=Dp hy
    have:=sT (by omega) hb
    rw [hm,List.mem_append,List.mem_cons] at this
    rcases this with h1 | h1 | h1
    ·have:=hp j h1;omega
    ·omega
    ·have:=hyl j h1;omega⟩
  obtain ⟨e1,e2⟩:=lE h this
  exact .inr ⟨y,l,rfl,e1,e2⟩
theorem Ok {s:Nat} {pre l:List Nat} {x:Nat} (hm:mem s=pre++x::l) {r:Int} {b:Bool} (h:mE s ((x:Int)+1) r b):Jq l r b:=by
 have hs:=sU s
 rw [hm,List.pairwise_append] at hs
 refine Bm (pre:=pre++[x]) (by rw [hm];simp) (fun p hp=>?_) (fun q hq=>?_) h
 ·rw [List.mem_append,List.mem_singleton] at hp
  rcases hp with hp | rfl
  ·have:=hs.2.2 p hp x (by simp);omega
  ·omega
 ·have:=(List.pairwise_cons.1 hs.2.1).1 q hq
  omega
def Jr:Value→Bool
 | .bool b=>b
 | _=>false
section iter
attribute [local go_sem] Oper.semAt_some
set_option maxHeartbeats 1000000 in
theorem Ol (n:Nat) (hn:1≤n) (l B s:Nat) (hs:s < 18446744073709551616) (J:List Nat→World→Prop) (hA:Abide B J) (hT:∀ pre X,J pre X→TabC X)
  (hY:∀ (pre:List Nat) (x:Nat) (rest:List Nat) X,mem s=pre++x::rest→J pre X→YieldAt Fence.wide (n - 1) prog l #[.int .i64 x] X fun e X'=>e = .returned (.bool true)∧J (pre++[x]) X'∧X'.heap[B]?=X.heap[B]?)
  (W:World) (hB:Boxed W B 37 (.int .u64 s)) (h0:J [] W) :
  CallsIn Fence.wide n prog 180 #[.func (.yield l) #[] #[],.pointer (some ⟨B,0,none⟩)] W fun e W'=>(∃ v,e = .returned v)∧J (mem s) W':=by
 have HY:=Lib.hid hY
 have HJ0:=Lib.hid h0
 have HB0:=Lib.hid hB
 have hc0:=hB.cell
 obtain ⟨r0,b0,hn0⟩:=Bj s 0
 have HN0:=Lib.hid hn0
 have HNR:=Lib.hid (Bm (pre:=[]) (rest:=mem s) rfl (by simp) (fun q _=>by omega) hn0)
 clear hY h0 hB hn0
 refine callsIn_of_wp func180 rfl trivial ?_ rfl
 simp only [ntmps180,List.size_toArray,List.length_cons,List.length_nil,Nat.reduceAdd,Nat.reduceSub,Array.replicate_succ,Array.replicate_zero,List.push_toArray,List.append_toArray,List.nil_append,List.cons_append]
 gi_wp2_with (refine ⟨trivial,?_⟩;gi_at_call 181;refine (callsIn_wide.2 (Gl s 0 r0 b0 HN0.out hs _ (hT _ _ HJ0.out))).mono ?_;rintro e w' ⟨rfl,rfl⟩)
 gi_loopw [3,4] (fun i ok wr=>∃ (pre rest:List Nat) (r:Int) (b:Bool),i = .int .i64 r∧ok = .bool b∧Hid (mem s=pre++rest)∧Hid (Jq rest r b)∧Hid (Boxed wr B 37 (.int .u64 s))∧Hid (J pre wr))
  (fun i ok _=>if Jr ok=true then 65 - (intOf i).toNat else 0)
 case atStart=>exact ⟨[],mem s,r0,b0,rfl,rfl,rfl,HNR.out,HB0.out,HJ0.out⟩
 case round =>
  obtain ⟨pre,rest,r,b,rfl,rfl,hm,hnx,hb,hJ⟩:=hrel
  have hc:=hb.out.cell
  rcases hnx.out with ⟨rfl,rfl,rfl⟩ | ⟨x,tl,rfl,rfl,rfl⟩
  ·have hall:Hid (pre=mem s):=by show _=_;rw [hm.out,List.append_nil]
   gi_wp2
   go_end0
   exact ⟨⟨_,rfl⟩,by rw [← hall.out];exact hJ.out⟩
  ·have hx64:x < 64:=Dp (s:=s) (by rw [hm.out];simp)
   obtain ⟨r2,b2,hn2⟩:=Bj s ((x:Int)+1)
   have HN2:=Lib.hid hn2
   have HNR2:=Lib.hid (Ok hm.out hn2)
   have hM3:Hid (mem s=(pre++[x])++tl):=by show _=_;rw [hm.out];simp
   obtain ⟨fn,tmps,assign,body,hy,hR⟩:=HY.out pre x tl wr hm.out hJ.out
   have hmx:Hid (∀ y l2,tl=y::l2→x < y):=fun y l2 e=>by
    have hs:=sU s
    rw [hm.out,List.pairwise_append] at hs
    exact (List.pairwise_cons.1 hs.2.1).1 y (by rw [e];simp)
   clear hn2
   gi_wp2
   refine hR.mono ?_
   rintro e W3 ⟨rfl,hJ3,hk3⟩
   have HB3:Hid (Boxed W3 B 37 (.int .u64 s)):=hk3.trans hb.out
   have HJ3:=Lib.hid hJ3
   have hc3:=HB3.out.cell
   clear hk3 hJ3
   gi_wp2_with (refine ⟨trivial,?_⟩;gi_at_call 181;refine (callsIn_wide.2 (Gl s ((x:Int)+1) r2 b2 HN2.out hs _ (hT _ _ HJ3.out))).mono ?_;rintro e w' ⟨rfl,rfl⟩)
   go_roundw
   case rel=>exact ⟨pre++[x],tl,r2,b2,rfl,rfl,hM3,HNR2,HB3,HJ3⟩
   case measure =>
    rcases HNR2.out with ⟨_,rfl,rfl⟩ | ⟨y,l2,e,rfl,rfl⟩
    ·simp [intOf,Jr];omega
    ·have:=hmx.out y l2 e
     simp [intOf,Jr];omega
end iter
theorem D7 (s:Nat) (w:World) :
  Calls prog 178 #[.int .u64 s] w fun e w'=>e = .returned (.func (.func 180) #[] #[.pointer (some ⟨w.heap.size,0,none⟩)])∧w'=w.alloc (.cells #[.int .u64 s] 37):=by
 go_enter func178,ntmps178
 go_wp2
 go_ret
 exact ⟨rfl,rfl⟩
theorem D8 (n:Nat) (hn:1≤n) (B s:Nat) (hs:s < 18446744073709551616) (w:World) (hB:Boxed w B 37 (.int .u64 s)) :
  Md Fence.wide n prog 180 #[.pointer (some ⟨B,0,none⟩)] (fun x:Nat=>#[Value.int .i64 x]) (mem s) B TabC w :=
 fun l J W hW hA hT hY h0=>Ol n hn l B s hs J hA hT hY W (hW.trans hB) h0
def accF (rows:List Nat) (gen:Nat) (l:List Nat):Nat:=l.foldl (fun c i=>c ||| rows.getD i 0) gen
def madeF (gen:Nat) (rows:List Nat) (s:Nat):Nat:=accF rows gen (mem s)
theorem Om (rows:List Nat) (gen:Nat) (l:List Nat) (x:Nat):accF rows gen (l++[x])=accF rows gen l ||| rows.getD x 0:=by
 unfold accF;rw [List.foldl_append];rfl
theorem or64 {a b:Nat} (ha:a < 18446744073709551616) (hb:b < 18446744073709551616):a ||| b < 18446744073709551616:=by
 have e:(18446744073709551616:Nat)=2 ^ 64:=rfl
 rw [e] at *;exact Nat.or_lt_two_pow ha hb
theorem D9 {rows:List Nat} (hr:∀ r∈rows,r < 18446744073709551616):∀ (l:List Nat) (gen:Nat),gen < 18446744073709551616→accF rows gen l < 18446744073709551616
 | [],gen,h=>h
 | x::l,gen,h=>by
  have:rows.getD x 0 < 18446744073709551616:=by
   rw [List.getD_eq_getElem?_getD]
   cases hx:rows[x]? with
   | none=>simp
   | some y=>exact hr y (List.mem_of_getElem? hx)
  exact D9 hr l _ (or64 h this)
theorem uA {rows:List Nat} {gen s:Nat} (hr:∀ r∈rows,r < 18446744073709551616) (hg:gen < 18446744073709551616):madeF gen rows s < 18446744073709551616:=D9 hr _ _ hg
end Go.Proofs.YtmgnkpibpjgncaaGreatDoor
namespace Go.Proofs.YtmgnkpibpjgncaaGreatDoor
open Go.Proofs.Tryz
open Go.RowKit Go.Shelf
theorem Js {B C D:Nat} {t:TypeId} {f:List Nat→Value} {o:Obj} {w:World} (hBC:B≠C) (hBD:B≠D) (hBn:w.heap.size≤B) {tB:TypeId} {vB:Value} :
  Abide B (fun (pre:List Nat) W=>(∃ v,Boxed W B tB v)∧W.heap[D]?=some o∧Boxed W C t (f pre)∧Below w.heap.size w W) where
 cell:=by
  rintro pre X u ⟨⟨v,hB⟩,hD,hC,hb⟩
  exact ⟨⟨u,hB.set u⟩,(Below.heap_setCell _ _ _ _ hBD.symm).trans hD,hC.other hBC.symm _,hb.setCell (p:=⟨B,0,none⟩) hBn _⟩
 drew:=by
  rintro pre X m ⟨hB,hD,hC,hb⟩
  exact ⟨hB,hD,hC,below_drewN hb m⟩
theorem Rt {B C D E:Nat} {t tB T:TypeId} {f:List Nat→Value} {cs:Array Value} {w:World} (hE:w.heap.size≤E) :
  OwnFrom E (fun (pre:List Nat) W=>(∃ v,Boxed W B tB v)∧W.heap[D]?=some (.cells cs T (0,0))∧Boxed W C t (f pre)∧Below w.heap.size w W):=by
 rintro s X Y row ⟨⟨vB,hB⟩,hD,hC,hb⟩ hg hrow
 have ne:∀ (b:Nat) (tt:TypeId) (u:Array Value),X.heap[b]?=some (.cells u tt (0,0))→some b≠row:=fun b tt u hbx e'=>by
  obtain ⟨_,o,ho,hc⟩:=hrow b e'.symm
  rw [hbx] at ho;cases ho;cases hc
 exact ⟨⟨vB,hB.kept hg (ne _ _ _ hB)⟩,(hg.block D (Array.getElem?_eq_some_iff.1 hD).1 (ne _ _ _ hD)).trans hD,hC.kept hg (ne _ _ _ hC),hb.grown hg hb.size fun k e'=>Nat.le_trans hE (hrow k e').1⟩
section madeA
attribute [local go_sem] Oper.semAt_some
set_option maxHeartbeats 2000000 in
theorem Ru (a:Option Addr) (cap gen:Nat) (rows:List Nat) (s:Nat) (hs:s < 18446744073709551616) (w:World) (hf:FAt w a gen rows) (hin:∀ i∈mem s,i < rows.length) (ht:TabC w) (r:Nat) (hr:madeF gen rows s=r) (len:Nat) (hl:rows.length=len) :
  CallsIn Fence.wide 5 prog 173 #[iX gen a len cap,.int .u64 s] w fun e W'=>e = .returned (.int .u64 r)∧Below w.heap.size w W':=by
 unfold iX
 have HF:=Lib.hid hf;have HIN:=Lib.hid hin;have HR:=Lib.hid hr;have HL:=Lib.hid hl;have HT:=Lib.hid ht
 have hgen:=hf.gen
 have HALL:=Lib.hid hf.all
 have hlen:len≤100:=by rw [← hl];exact hf.len
 clear hin hr hl
 refine callsIn_of_wp_marks func173 rfl trivial ?_ rfl
 simp only [ntmps173,List.size_toArray,List.length_cons,List.length_nil,Nat.reduceAdd,Nat.reduceSub,Array.replicate_succ,Array.replicate_zero,List.push_toArray,List.append_toArray,List.nil_append,List.cons_append]
 gi_wp2_with (refine ⟨trivial,?_⟩;gi_at_call 178;refine (callsIn_wide.2 (D7 s _)).mono ?_;rintro e w' ⟨rfl,rfl⟩)
 have b0:=eJ w (.cells #[.int .u64 (gen:Int),.slice a len cap] 40)
 have bO:=Boxed.new (w.alloc (.cells #[.int .u64 (gen:Int),.slice a len cap] 40)) 37 (.int .u64 (gen:Int))
 have bN:=Boxed.new ((w.alloc (.cells #[.int .u64 (gen:Int),.slice a len cap] 40)).alloc (.cells #[.int .u64 (gen:Int)] 37)) 37 (.int .u64 s)
 rw [World.size_alloc] at bO
 rw [World.size_alloc,World.size_alloc] at bN
 have hB0:Below w.heap.size w (((w.alloc (.cells #[.int .u64 (gen:Int),.slice a len cap] 40)).alloc (.cells #[.int .u64 (gen:Int)] 37)).alloc (.cells #[.int .u64 s] 37)):=(((Below.refl _ w).alloc (Nat.le_refl _) _).alloc (by simp) _).alloc (by simp;omega) _
 refine Jg (F:=Fence.wide) (n:=5) rfl (by omega) (gf:=180) (lb:=#[.pointer (some ⟨w.heap.size+1+1,0,none⟩)]) (by simp [go_sem]) trivial (enters_of func180 (by kernel_rfl) rfl)
  (B:=w.heap.size+1+1) (Kw:=TabC) (by simp) (D8 4 (by omega) (w.heap.size+1+1) s hs _ bN) (fun _=>rfl)
  (fun pre W=>(∃ v,Boxed W (w.heap.size+1+1) 37 v)∧W.heap[w.heap.size]?=some (.cells #[.int .u64 (gen:Int),.slice a len cap] 40 (0,0))∧Boxed W (w.heap.size+1) 37 (.int .u64 (accF rows gen pre:Nat))∧Below w.heap.size w W)
  (Rt (by simp;omega)) (Js (by omega) (by omega) (by omega) (vB:=undef)) (fun pre X h=>HT.out.below h.2.2.2) ⟨⟨_,bN⟩,eB (eB b0 _) _,bO.alloc _,hB0⟩
  (fun x=>{ tmps:=#[.agg #[.int .u64 (gen:Int),.slice a len cap],.int .u64 s,.pointer (some ⟨w.heap.size,0,none⟩),undef,.int .u64 0,.pointer (some ⟨w.heap.size+1,0,none⟩),.int .i64 x,.pointer (some ⟨w.heap.size,0,none⟩),.int .u64 (gen:Int),.int .u64 s,.func (.func 180) #[] #[.pointer (some ⟨w.heap.size+1+1,0,none⟩)],.int .i64 x,undef,undef,undef,undef,undef,undef,undef,undef],defers:=[] }) ?assign ?body ?done
 case assign =>
  intro l x W K hK
  gi_wp2
  exact hK
 case body =>
  rintro l pre x rest W hx ⟨⟨vB,hvB⟩,h0,hv,hB⟩
  have hc:=hv.cell
  have hfr:=hv.frozen
  obtain ⟨c0,c1,_⟩:=cO h0
  have hxm:x∈mem s:=by rw [hx];simp
  have hxl:x < len:=by rw [← HL.out];exact HIN.out x hxm
  obtain ⟨ba,offa,z,rfl,hz,hz64,hba,a0⟩:=(HF.out.below hB).at_ (i:=x) (by rw [HL.out];exact hxl)
  have g0:(0:Int)≤(x:Int):=by omega
  have g1:(x:Int) < (len:Int):=by omega
  have hacc:=D9 HALL.out pre gen hgen
  have hor:=u64_or_nat (accF rows gen pre) z hacc hz64
  have HS:Hid (accF rows gen (pre++[x])=accF rows gen pre ||| z):=by
   show _=_
   rw [Om,List.getD_eq_getElem?_getD,hz];rfl
  obtain ⟨u,hu⟩:∃ u,accF rows gen pre=u:=⟨_,rfl⟩
  rw [hu] at hor hc HS hv
  obtain ⟨q,hq⟩:∃ q,u ||| z=q:=⟨_,rfl⟩
  rw [hq] at hor HS
  have HV:=Lib.hid hv;have H0:=Lib.hid h0;have HVB:=Lib.hid hvB
  clear hz hu hq hx hacc hv h0 hvB
  have hmix:prog.follows .mixedOrders=true:=by kernel_rfl
  gi_wp2_with fail
  gi_region_with_o (fail)
  all_goals
   refine ⟨((KeepsOthers.setCell _ _ _).trans (KeepsOthers.drew _)).from _,Below.heap_setCell _ _ _ _ (show w.heap.size+1+1≠w.heap.size+1 by omega),⟨vB,HVB.out.other (by omega) _⟩,eH H0.out (by omega),?_,(hB.setCell (p:=⟨w.heap.size+1,0,none⟩) (by simp) _).drew⟩
   rw [HS.out]
   exact HV.out.set _
 case done =>
  rintro D W hD ⟨⟨vB,hvB⟩,h0,hv,hB⟩ hK
  have hc:=hv.cell
  have HQ:Hid (accF rows gen (mem s)=r):=HR.out
  gi_wp2
  refine ⟨by simp,.inl ⟨_,_,rfl,run_takeDeferred hK,?_⟩⟩
  exact ⟨_,results_tmp rfl _ _ _,by rw [← HQ.out];rfl,hB.trans (belowK_b (w:=w) (Nat.le_refl _) W D _ _ (by simp at hD;omega) hK rfl rfl)⟩
end madeA
theorem Gm (a:Option Addr) (cap gen:Nat) (rows:List Nat) (s:Nat) (hs:s < 18446744073709551616) (w:World) (hf:FAt w a gen rows) (hin:∀ i∈mem s,i < rows.length) (ht:TabC w) (r:Nat) (hr:madeF gen rows s=r) (len:Nat) (hl:rows.length=len) :
  Calls prog 173 #[iX gen a len cap,.int .u64 s] w fun e W'=>e = .returned (.int .u64 r)∧Below w.heap.size w W' :=
 callsIn_wide.1 (Ru a cap gen rows s hs w hf hin ht r hr len hl)
end Go.Proofs.YtmgnkpibpjgncaaGreatDoor
namespace Go.Proofs.YtmgnkpibpjgncaaGreatDoor
open Go.Proofs.Tryz
open Go.RowKit
theorem rN {n:Int} {gen:Nat} {rows:List Nat} (h:eU n gen rows=0):fD n=true∧fB n.toNat gen rows=true∧kQ gen rows=true:=by
 unfold eU at h
 split at h
 ·rename_i hd
  split at h
  ·rename_i hs
   rw [Bool.and_eq_true] at hs
   exact ⟨hd,hs.1,hs.2⟩
  ·cases h
 ·cases h
theorem oU {m gen:Nat} {rows:List Nat} (h:fB m gen rows=true):rows.length=m∧mU m gen=true∧∀ r∈rows,mU m r=true:=by
 unfold fB at h
 simp only [Bool.and_eq_true,decide_eq_true_eq,List.all_eq_true] at h
 exact h
theorem Bn {s m i:Nat} (hs:s < 2 ^ m) (hi:i∈mem s):i < m:=by
 rcases Nat.lt_or_ge i m with h | h
 ·exact h
 ·have:=Dq hi
  rw [Nat.testBit_lt_two_pow (Nat.lt_of_lt_of_le hs (Nat.pow_le_pow_right (by omega) h))] at this
  cases this
def orL (xs ys:List Nat):List Nat:=List.zipWith (fun a b:Nat=>a ||| b) xs ys
theorem Rv {xs ys:List Nat} {k x y:Nat} (hx:xs[k]?=some x) (hy:ys[k]?=some y):(orL xs ys)[k]?=some (x ||| y):=by simp [orL,List.getElem?_zipWith,hx,hy]
theorem Ea {xs ys:List Nat} (h:ys.length=xs.length):(orL xs ys).length=xs.length:=by simp [orL,h]
theorem Rw {xs ys:List Nat} (hx:∀ r∈xs,r < 18446744073709551616) (hy:∀ r∈ys,r < 18446744073709551616):∀ r∈orL xs ys,r < 18446744073709551616:=by
 intro r hr
 obtain ⟨i,hi⟩:=List.getElem?_of_mem hr
 unfold orL at hi
 rw [List.getElem?_zipWith] at hi
 cases h1:xs[i]? with
 | none=>rw [h1] at hi;simp at hi
 | some a =>
  cases h2:ys[i]? with
  | none=>rw [h1,h2] at hi;simp at hi
  | some b =>
   rw [h1,h2] at hi
   have:a ||| b=r:=by simpa using hi
   rw [← this]
   exact or64 (hx a (List.mem_of_getElem? h1)) (hy b (List.mem_of_getElem? h2))
def gQ (n:Int) (ga:Nat) (xs:List Nat) (gb:Nat) (ys:List Nat):Nat:=if nC n ga xs gb ys=0 then ga ||| gb else 0
def gG (n:Int) (ga:Nat) (xs:List Nat) (gb:Nat) (ys:List Nat):List Nat:=if nC n ga xs gb ys=0 then eG (ga ||| gb) (orL xs ys) else []
theorem Gn {n:Int} {ga gb:Nat} {xs ys:List Nat} (h:nC n ga xs gb ys=0):eU n ga xs=0∧eU n gb ys=0:=by
 unfold nC at h
 split at h
 ·rename_i h1;exact ⟨h1,h⟩
 ·rename_i h1;exact absurd h h1
theorem Bo {n:Int} {ga gb:Nat} {xs ys:List Nat} (h:nC n ga xs gb ys=0):∃ m:Nat,n=m∧m≤64∧xs.length=m∧ys.length=m:=by
 obtain ⟨h1,h2⟩:=Gn h
 obtain ⟨hd,s1,_⟩:=rN h1
 obtain ⟨_,s2,_⟩:=rN h2
 obtain ⟨m,rfl,hm⟩:=rJ hd
 rw [Int.toNat_natCast] at s1 s2
 exact ⟨m,rfl,hm,(oU s1).1,(oU s2).1⟩
theorem wK (w:World) (a b c:Array Value) (T:TypeId) :
  (((w.alloc (.cells a T)).alloc (.cells b T)).alloc (.cells c T)).heap[w.heap.size]?=some (.cells a T (0,0))∧(((w.alloc (.cells a T)).alloc (.cells b T)).alloc (.cells c T)).heap[w.heap.size+1]?=some (.cells b T (0,0))∧(((w.alloc (.cells a T)).alloc (.cells b T)).alloc (.cells c T)).heap[w.heap.size+1+1]?=some (.cells c T (0,0)):=by
 obtain ⟨t0,t1⟩:=vK w a b T
 refine ⟨eB t0 _,eB t1 _,?_⟩
 have:=eJ ((w.alloc (.cells a T)).alloc (.cells b T)) (.cells c T)
 rwa [World.size_alloc,World.size_alloc] at this
theorem Rx (n:Int) (a b:Option Addr) (capa capb ga gb:Nat) (xs ys:List Nat) (w:World) (hfa:FAt w a ga xs) (hfb:FAt w b gb ys) (e0:Int) (he:nC n ga xs gb ys=e0) (g:Nat) (hg:gQ n ga xs gb ys=g) (zs:List Nat) (hz:gG n ga xs gb ys=zs) (la lb:Nat) (hla:xs.length=la) (hlb:ys.length=lb) :
  Calls prog 139 #[.int .i64 n,iX ga a la capa,iX gb b lb capb] w (Rs g zs e0 w):=by
 unfold iX
 have hB0:Below w.heap.size w (((w.alloc (.cells #[.int .u64 (ga:Int),.slice a la capa] 40)).alloc (.cells #[.int .u64 (gb:Int),.slice b lb capb] 40)).alloc (.cells #[.int .u64 0,.slice none 0 0] 40)):=(((Below.refl _ _).alloc (Nat.le_refl _) _).alloc (by simp) _).alloc (by simp;omega) _
 have HA:=Lib.hid (hfa.below hB0);have HB:=Lib.hid (hfb.below hB0);have HLA:=Lib.hid hla;have HLB:=Lib.hid hlb
 obtain ⟨t0,t1,t2⟩:=wK w #[.int .u64 (ga:Int),.slice a la capa] #[.int .u64 (gb:Int),.slice b lb capb] #[.int .u64 0,.slice none 0 0] 40
 have T0:=Lib.hid t0;have T1:=Lib.hid t1;have T2:=Lib.hid t2
 have hga:=hfa.gen;have hgb:=hfb.gen
 have HXA:=Lib.hid hfa.all;have HYA:=Lib.hid hfb.all
 have HXL:=Lib.hid hfa.len
 have HE:=Lib.hid he
 by_cases h0:e0=0
 ·subst h0
  obtain ⟨m,rfl,hm,hxm,hym⟩:=Bo he
  obtain rfl:m=la:=by omega
  obtain rfl:m=lb:=by omega
  obtain rfl:ga ||| gb=g:=by rw [← hg,gQ,if_pos he]
  have HZ:Hid (eG (ga ||| gb) (orL xs ys)=zs):=by show _=_;rw [← hz,gG,if_pos he]
  have HOL:Hid ((orL xs ys).length=xs.length):=Ea (by omega)
  have hgg:=or64 hga hgb
  have hor:=u64_or_nat ga gb hga hgb
  obtain ⟨gg,hggq⟩:∃ gg,ga ||| gb=gg:=⟨_,rfl⟩
  rw [hggq] at hgg hor HZ ⊢
  clear hfa hfb he hg hz hla hlb t0 t1 t2 hxm hym hggq
  go_enter func139,ntmps139
  go_wp2_with fail
  refine (tZ m a b capa capb ga gb xs ys _ HA.out HB.out 0 HE.out m m HLA.out HLB.out).mono ?_
  rintro e w1 ⟨rfl,hb1⟩
  have hB1:=hB0.trans (hb1.mono hB0.size)
  have U0:=Lib.hid (cS T0.out hb1);have U1:=Lib.hid (cS T1.out hb1);have U2:=Lib.hid (cS T2.out hb1)
  obtain ⟨c0,c1,_⟩:=cO U0.out
  go_wp2_with fail
  refine (yL a capa xs _ HXL.out (HA.out.below hb1).row m HLA.out).mono ?_
  rintro e w2 ⟨v,rfl,hown,hb2⟩
  obtain ⟨av,capv,hv⟩:=Oj hown
  subst hv
  have hB2:=hB1.trans (hb2.mono hB1.size)
  have V0:=Lib.hid (cS U0.out hb2);have V1:=Lib.hid (cS U1.out hb2);have V2:=Lib.hid (cS U2.out hb2)
  have HFB:=Lib.hid ((HB.out.below hb1).below hb2)
  have hw1:w.heap.size+1+1 < w1.heap.size:=(Array.getElem?_eq_some_iff.1 U2.out).1
  have HO0:Hid (w2.ownsRow w1.heap.size 37 1 (.slice av m capv) m (u64s (mV (orL xs ys) xs 0))):=by rw [rM];exact hown
  obtain ⟨k0,k1,_⟩:=cO V1.out
  clear hown c0 c1
  go_wp2_with fail
  go_loopw [26] (fun i wr=>∃ k:Nat,k≤m∧i = .int .i64 k∧Hid (wr.ownsRow w1.heap.size 37 1 (.slice av m capv) m (u64s (mV (orL xs ys) xs k)))∧Hid (wr.heap[w.heap.size]?=some (.cells #[.int .u64 (ga:Int),.slice a m capa] 40 (0,0)))∧Hid (wr.heap[w.heap.size+1]?=some (.cells #[.int .u64 (gb:Int),.slice b m capb] 40 (0,0)))∧Hid (wr.heap[w.heap.size+1+1]?=some (.cells #[.int .u64 0,.slice none 0 0] 40 (0,0)))∧Below w1.heap.size w2 wr) (fun i _=>m - (intOf i).toNat)
  case atStart=>exact ⟨0,Nat.zero_le _,rfl,HO0,V0,V1,V2,Below.refl _ _⟩
  case round =>
   obtain ⟨k,hk,rfl,HO,R0,R1,R2,hb⟩:=hrel
   by_cases hlt:k < m
   ·obtain ⟨x,hx⟩:∃ x,xs[k]?=some x:=⟨xs[k]'(by rw [HLA.out];exact hlt),by simp [HLA.out,hlt]⟩
    have hx64:=HXA.out x (List.mem_of_getElem? hx)
    obtain ⟨bb,offb,y,rfl,hy,hy64,hbb,b0⟩:=(HB.out.below hb1).at_ (i:=k) (by rw [HLB.out];exact hlt)
    have b0':=((hb.cell (p:=⟨bb,offb+k,none⟩) hbb).trans ((hb2.cell (p:=⟨bb,offb+k,none⟩) hbb).trans b0))
    have hxy:=u64_or_nat x y hx64 hy64
    have HM:=Lib.hid (tU (Rv hx hy) hx)
    obtain ⟨q,hq⟩:∃ q,x ||| y=q:=⟨_,rfl⟩
    rw [hq] at hxy HM
    obtain ⟨gr,capr,hvr,hbg,hgl⟩:=HO.out.form (show 0 < m by omega)
    have hv2:av=some ⟨gr,0,none⟩∧capr=capv:=by cases hvr;exact ⟨rfl,rfl⟩
    obtain ⟨rfl,rfl⟩:=hv2
    have d0:=(HO.out.cellAt k (by omega)).trans (tX (xH HOL.out hx))
    have q0:=HO.out.frozenAt k
    have g0:(0:Int)≤(k:Int):=by omega
    have g3:(k:Int) < (m:Int):=by omega
    have HO2:Hid ((wr.setCell ⟨gr,k,none⟩ (.int .u64 (q:Int))).ownsRow w1.heap.size 37 1 (.slice (some ⟨gr,0,none⟩) m capr) m (u64s (mV (orL xs ys) xs (k+1)))):=by
     rw [← HM.out,← tW]
     exact (HO.out.stored k _).1
    have R0':=Lib.hid (eH (B:=gr) (j:=k) (c:=.int .u64 (q:Int)) R0.out (by omega))
    have R1':=Lib.hid (eH (B:=gr) (j:=k) (c:=.int .u64 (q:Int)) R1.out (by omega))
    have R2':=Lib.hid (eH (B:=gr) (j:=k) (c:=.int .u64 (q:Int)) R2.out (by omega))
    have hb':=hb.setCell (p:=⟨gr,k,none⟩) hbg (.int .u64 (q:Int))
    clear hx hy hq hvr b0
    go_wp2
    go_roundw
    case rel=>exact ⟨k+1,by omega,by go_num,HO2,R0',R1',R2',hb'⟩
    case measure=>simp [intOf];omega
   ·obtain rfl:k=m:=by omega
    have HO2:Hid (wr.ownsRow w1.heap.size 37 1 (.slice av k capv) k (u64s (orL xs ys))):=by
     have:=HO.out
     rw [← HLA.out] at this ⊢
     rwa [tV HOL.out] at this
    obtain ⟨a0,a1,_⟩:=cO R0.out
    obtain ⟨b0,b1,_⟩:=cO R1.out
    have hbw:w1.heap.size≤wr.heap.size:=Nat.le_trans hb2.size hb.size
    have HOLT:=Lib.hid (Rw HXA.out HYA.out)
    have hol100:Hid ((orL xs ys).length≤100):=by show _≤_;rw [HOL.out];exact HXL.out
    have holn:Hid ((orL xs ys).length=k):=by show _=_;rw [HOL.out];exact HLA.out
    go_wp2_with fail
    refine (tY gg w1.heap.size k (.slice av k capv) (orL xs ys) zs _ hgg HOLT.out hol100.out holn.out hbw HO2.out HZ.out).mono ?_
    rintro e w4 ⟨rfl,post⟩
    have POST:=Lib.hid post
    have hB4:Below w.heap.size w w4:=((hB1.trans (hb2.mono hB1.size)).trans (hb.mono hB1.size)).trans (post.below.mono hB1.size)
    have W2:=Lib.hid ((post.rest (w.heap.size+1+1) ((Array.getElem?_eq_some_iff.1 R2.out).1) (fun e=>by have h9:=(HO2.out.lt _ e.symm).1;omega)).trans R2.out)
    obtain ⟨p0,p1,ff⟩:=cO W2.out
    have f0:=ff 0;have f1:=ff 1
    have N1:=Lib.hid (lF (c:=.slice av k capv) (mG (c:=.int .u64 (gg:Int)) W2.out))
    obtain ⟨s0,s1,_⟩:=cO N1.out
    have HNB:=Lib.hid (kX W2.out (by decide) POST.out.own)
    have HO5:=Lib.hid ((POST.out.own.kept (fP _ _ 0 (.int .u64 (gg:Int))) (.inr HNB.out.symm)).kept (fP _ (w.heap.size+1+1) 1 (.slice av k capv)) (.inr HNB.out.symm))
    have HB5:=Lib.hid ((hB4.setCell (p:=⟨w.heap.size+1+1,0,none⟩) (by simp;omega) (.int .u64 (gg:Int))).setCell (p:=⟨w.heap.size+1+1,1,none⟩) (by simp;omega) (.slice av k capv))
    clear post ff a0 a1 b0 b1
    go_wp2
    refine bodyPost_ret (v:=.tuple #[.agg #[.int .u64 (gg:Int),.slice av k capv],.int .i64 0]) ?_ rfl (yM hB1.size HO5.out HB5.out 0)
    simp [results,results139,go_sem,s0,s1]
 ·obtain rfl:0=g:=by rw [← hg,gQ,he,if_neg h0]
  obtain rfl:[]=zs:=by rw [← hz,gG,he,if_neg h0]
  have hne:(e0 != 0)=true:=by simpa using h0
  clear hfa hfb he hg hz hla hlb t0 t1 t2 h0
  go_enter func139,ntmps139
  go_wp2_with fail
  refine (tZ n a b capa capb ga gb xs ys _ HA.out HB.out e0 HE.out la lb HLA.out HLB.out).mono ?_
  rintro e w1 ⟨rfl,hb1⟩
  have hB1:=hB0.trans (hb1.mono hB0.size)
  have U2:=Lib.hid (cS T2.out hb1)
  obtain ⟨d0,d1,df⟩:=cO U2.out
  have f0:=df 0;have f1:=df 1
  have N1:=Lib.hid (lF (c:=.slice none 0 0) (mG (c:=.int .u64 0) U2.out))
  obtain ⟨s0,s1,_⟩:=cO N1.out
  clear df
  go_wp2
  refine bodyPost_ret (v:=.tuple #[.agg #[.int .u64 0,.slice none 0 0],.int .i64 e0]) ?_ rfl (Gk e0 ((hB1.setCell (p:=⟨w.heap.size+1+1,0,none⟩) (by simp;omega) _).setCell (p:=⟨w.heap.size+1+1,1,none⟩) (by simp;omega) _))
  simp [results,results139,go_sem,s0,s1]
def mW (n:Int) (ga:Nat) (xs:List Nat) (gb:Nat) (ys:List Nat):Nat:=if nC n ga xs gb ys=0 then madeF gb ys ga else 0
def mI (n:Int) (ga:Nat) (xs:List Nat) (gb:Nat) (ys:List Nat):List Nat:=if nC n ga xs gb ys=0 then eG (madeF gb ys ga) (xs.map (madeF gb ys)) else []
theorem extA_is (n:Int) (a b:Option Addr) (capa capb ga gb:Nat) (xs ys:List Nat) (w:World) (hfa:FAt w a ga xs) (hfb:FAt w b gb ys) (ht:TabC w) (e0:Int) (he:nC n ga xs gb ys=e0) (g:Nat) (hg:mW n ga xs gb ys=g) (zs:List Nat) (hz:mI n ga xs gb ys=zs) (la lb:Nat) (hla:xs.length=la) (hlb:ys.length=lb) :
  Calls prog 168 #[.int .i64 n,iX ga a la capa,iX gb b lb capb] w (Rs g zs e0 w):=by
 unfold iX
 have hB0:Below w.heap.size w (((w.alloc (.cells #[.int .u64 (ga:Int),.slice a la capa] 40)).alloc (.cells #[.int .u64 (gb:Int),.slice b lb capb] 40)).alloc (.cells #[.int .u64 0,.slice none 0 0] 40)):=(((Below.refl _ _).alloc (Nat.le_refl _) _).alloc (by simp) _).alloc (by simp;omega) _
 have HA:=Lib.hid (hfa.below hB0);have HB:=Lib.hid (hfb.below hB0);have HLA:=Lib.hid hla;have HLB:=Lib.hid hlb
 obtain ⟨t0,t1,t2⟩:=wK w #[.int .u64 (ga:Int),.slice a la capa] #[.int .u64 (gb:Int),.slice b lb capb] #[.int .u64 0,.slice none 0 0] 40
 have T0:=Lib.hid t0;have T1:=Lib.hid t1;have T2:=Lib.hid t2
 have hga:=hfa.gen;have hgb:=hfb.gen
 have HXA:=Lib.hid hfa.all;have HYA:=Lib.hid hfb.all
 have HXL:=Lib.hid hfa.len
 have HE:=Lib.hid he
 by_cases h0:e0=0
 ·subst h0
  obtain ⟨m,rfl,hm,hxm,hym⟩:=Bo he
  obtain rfl:m=la:=by omega
  obtain rfl:m=lb:=by omega
  obtain rfl:madeF gb ys ga=g:=by rw [← hg,mW,if_pos he]
  have HZ:Hid (eG (madeF gb ys ga) (xs.map (madeF gb ys))=zs):=by show _=_;rw [← hz,mI,if_pos he]
  have HOL:Hid ((xs.map (madeF gb ys)).length=(List.replicate m 0).length):=by show _=_;simp;omega
  obtain ⟨hc1,hc2⟩:=Gn he
  obtain ⟨hd,sh1,_⟩:=rN hc1
  rw [Int.toNat_natCast] at sh1
  obtain ⟨_,ig,ir⟩:=oU sh1
  have HINg:Hid (∀ i∈mem ga,i < ys.length):=fun i hi=>by rw [hym];exact Bn ((mF hm hga).1 ig) hi
  have HINr:Hid (∀ x∈xs,∀ i∈mem x,i < ys.length):=fun x hx i hi=>by rw [hym];exact Bn ((mF hm (hfa.all x hx)).1 (ir x hx)) hi
  have hgg:madeF gb ys ga < 18446744073709551616:=uA hfb.all hgb
  have HGG:Hid (madeF gb ys ga=madeF gb ys ga):=rfl
  obtain ⟨gg,hggq⟩:∃ gg,madeF gb ys ga=gg:=⟨_,rfl⟩
  have HGQ:=Lib.hid hggq
  rw [hggq] at hgg HZ ⊢
  obtain ⟨i0,hi,hz0,hz1,hz2⟩:=info_parts Mf
  have HT:=Lib.hid ht
  have hm0:(0:Int)≤(m:Int):=by omega
  have hm64:(m:Int)≤64:=by omega
  clear hfa hfb he hg hz hla hlb t0 t1 t2 hxm hym hggq hc1 hc2 hd sh1 ig ir HGG ht
  go_enter func168,ntmps168
  go_wp2_with fail
  refine (tZ m a b capa capb ga gb xs ys _ HA.out HB.out 0 HE.out m m HLA.out HLB.out).mono ?_
  rintro e w1 ⟨rfl,hb1⟩
  have hB1:=hB0.trans (hb1.mono hB0.size)
  have U0:=Lib.hid (cS T0.out hb1);have U1:=Lib.hid (cS T1.out hb1);have U2:=Lib.hid (cS T2.out hb1)
  go_wp2_with (at_make;go_loud (refine wpList_make_full _ rfl (.tmp 20) (.tmp 20) 38 rfl w1.heap.size 37 i0 _ 1 underlying38 hi hz0 hz1 .i64 .i64 (m:Int) (m:Int) m rfl rfl rfl rfl (by rw [hz2];omega) (by unfold maxLen;omega) (Nat.le_refl _) ?_;intro w2 hown2 hgrow2;have hb2:Below w1.heap.size w1 w2:=(Below.refl _ _).grown hgrow2 (Nat.le_refl _) (fun j e=>by cases e);have V0:=Lib.hid (cS U0.out hb2);obtain ⟨c0,c1,_⟩:=cO V0.out))
  have hB2:=hB1.trans (hb2.mono hB1.size)
  have V1:=Lib.hid (cS U1.out hb2);have V2:=Lib.hid (cS U2.out hb2)
  have hw1:w.heap.size+1+1 < w1.heap.size:=(Array.getElem?_eq_some_iff.1 U2.out).1
  have HO0:Hid (w2.ownsRow w1.heap.size 37 1 (.slice (some ⟨w1.heap.size,0,none⟩) m m) m (u64s (mV (xs.map (madeF gb ys)) (List.replicate m 0) 0))):=by
   rw [rM]
   have e:u64s (List.replicate m 0)=List.replicate m (.int .u64 0):=by simp [u64s]
   have e2:(madeCells (Value.int IntKind.u64 0).cells (m * 1)).toList=List.replicate m (.int .u64 0):=by
    rw [Nat.mul_one]
    apply List.ext_getElem
    ·simp [madeCells]
    ·intro i h1 h2
     simp [madeCells,Value.cells,Nat.mod_one]
   rw [e,← e2]
   exact hown2
  clear hown2 c0 c1
  go_wp2_with fail
  go_loopw [25] (fun i wr=>∃ k:Nat,k≤m∧i = .int .i64 k∧Hid (wr.ownsRow w1.heap.size 37 1 (.slice (some ⟨w1.heap.size,0,none⟩) m m) m (u64s (mV (xs.map (madeF gb ys)) (List.replicate m 0) k)))∧Hid (wr.heap[w.heap.size]?=some (.cells #[.int .u64 (ga:Int),.slice a m capa] 40 (0,0)))∧Hid (wr.heap[w.heap.size+1]?=some (.cells #[.int .u64 (gb:Int),.slice b m capb] 40 (0,0)))∧Hid (wr.heap[w.heap.size+1+1]?=some (.cells #[.int .u64 0,.slice none 0 0] 40 (0,0)))∧Below w1.heap.size w1 wr) (fun i _=>m - (intOf i).toNat)
  case atStart=>exact ⟨0,Nat.zero_le _,rfl,HO0,V0,V1,V2,hb2⟩
  case round =>
   obtain ⟨k,hk,rfl,HO,R0,R1,R2,hb⟩:=hrel
   have HFB:=Lib.hid ((HB.out.below hb1).below hb)
   obtain ⟨d0,d1,_⟩:=cO R1.out
   by_cases hlt:k < m
   ·obtain ⟨ba,offa,x,rfl,hx,hx64,hba,a0⟩:=((HA.out.below hb1).below hb).at_ (i:=k) (by rw [HLA.out];exact hlt)
    have HXI:=Lib.hid (HINr.out x (List.mem_of_getElem? hx))
    have hxk:(List.replicate m 0)[k]?=some 0:=by simp [hlt]
    have hmx:(xs.map (madeF gb ys))[k]?=some (madeF gb ys x):=by rw [List.getElem?_map,hx];rfl
    have HM:=Lib.hid (tU hmx hxk)
    obtain ⟨q,hq⟩:∃ q,madeF gb ys x=q:=⟨_,rfl⟩
    have HQ:=Lib.hid hq
    rw [hq] at HM
    have z0:=Lib.hid (tX (xH HOL.out hxk))
    have g0:(0:Int)≤(k:Int):=by omega
    have g3:(k:Int) < (m:Int):=by omega
    have hbw:Hid (Below w.heap.size w wr):=hB1.trans (hb.mono hB1.size)
    clear hx hq hmx hxk
    go_wp2_with fail
    refine (Gm b capb gb ys x hx64 _ HFB.out HXI.out (HT.out.below hbw.out) q HQ.out m HLB.out).mono ?_
    rintro e w4 ⟨rfl,hb4⟩
    have HO4:=Lib.hid (yI HO.out hb4)
    have dd:=(HO4.out.cellAt k (by omega)).trans z0.out
    have q0:=HO4.out.frozenAt k
    have HO2:Hid ((w4.setCell ⟨w1.heap.size,k,none⟩ (.int .u64 (q:Int))).ownsRow w1.heap.size 37 1 (.slice (some ⟨w1.heap.size,0,none⟩) m m) m (u64s (mV (xs.map (madeF gb ys)) (List.replicate m 0) (k+1)))):=by
     rw [← HM.out,← tW]
     exact (HO4.out.stored k _).1
    have R0':=Lib.hid (eH (B:=w1.heap.size) (j:=k) (c:=.int .u64 (q:Int)) (cS R0.out hb4) (by omega))
    have R1':=Lib.hid (eH (B:=w1.heap.size) (j:=k) (c:=.int .u64 (q:Int)) (cS R1.out hb4) (by omega))
    have R2':=Lib.hid (eH (B:=w1.heap.size) (j:=k) (c:=.int .u64 (q:Int)) (cS R2.out hb4) (by omega))
    have hb':=(hb.trans (hb4.mono hb.size)).setCell (p:=⟨w1.heap.size,k,none⟩) (Nat.le_refl _) (.int .u64 (q:Int))
    go_wp2
    go_roundw
    case rel=>exact ⟨k+1,by omega,by go_num,HO2,R0',R1',R2',hb'⟩
    case measure=>simp [intOf];omega
   ·obtain rfl:k=m:=by omega
    have HO2:Hid (wr.ownsRow w1.heap.size 37 1 (.slice (some ⟨w1.heap.size,0,none⟩) k k) k (u64s (xs.map (madeF gb ys)))):=by
     have:=HO.out
     have e:mV (xs.map (madeF gb ys)) (List.replicate k 0) k=xs.map (madeF gb ys):=by
      have:=tV HOL.out
      rwa [List.length_replicate] at this
     rwa [e] at this
    obtain ⟨a0,a1,_⟩:=cO R0.out
    have hol100:Hid ((xs.map (madeF gb ys)).length≤100):=by show _≤_;rw [List.length_map];exact HXL.out
    have holn:Hid ((xs.map (madeF gb ys)).length=k):=by show _=_;rw [List.length_map];exact HLA.out
    have HOLT:Hid (∀ r∈xs.map (madeF gb ys),r < 18446744073709551616):=fun r hr=>by
     rw [List.mem_map] at hr
     obtain ⟨x,_,rfl⟩:=hr
     exact uA HYA.out hgb
    have hbw:Hid (Below w.heap.size w wr):=hB1.trans (hb.mono hB1.size)
    go_wp2_with fail
    refine (Gm b capb gb ys ga hga _ HFB.out HINg.out (HT.out.below hbw.out) gg HGQ.out k HLB.out).mono ?_
    rintro e w3 ⟨rfl,hb3⟩
    have hb3w:w1.heap.size≤w3.heap.size:=Nat.le_trans hb.size hb3.size
    have HO3:=Lib.hid (yI HO2.out hb3)
    have R3:=Lib.hid (cS R2.out hb3)
    go_wp2_with fail
    refine (tY gg w1.heap.size k _ (xs.map (madeF gb ys)) zs _ hgg HOLT.out hol100.out holn.out hb3w HO3.out HZ.out).mono ?_
    rintro e w4 ⟨rfl,post⟩
    have POST:=Lib.hid post
    have hB4:Below w.heap.size w w4:=(hbw.out.trans (hb3.mono hbw.out.size)).trans (post.below.mono hB1.size)
    have W2:=Lib.hid ((post.rest (w.heap.size+1+1) ((Array.getElem?_eq_some_iff.1 R3.out).1) (fun e=>by have h9:=(HO3.out.lt _ e.symm).1;omega)).trans R3.out)
    obtain ⟨p0,p1,ff⟩:=cO W2.out
    have f0:=ff 0;have f1:=ff 1
    have N1:=Lib.hid (lF (c:=.slice (some ⟨w1.heap.size,0,none⟩) k k) (mG (c:=.int .u64 (gg:Int)) W2.out))
    obtain ⟨s0,s1,_⟩:=cO N1.out
    have HNB:=Lib.hid (kX W2.out (by decide) POST.out.own)
    have HO5:=Lib.hid ((POST.out.own.kept (fP _ _ 0 (.int .u64 (gg:Int))) (.inr HNB.out.symm)).kept (fP _ (w.heap.size+1+1) 1 (.slice (some ⟨w1.heap.size,0,none⟩) k k)) (.inr HNB.out.symm))
    have HB5:=Lib.hid ((hB4.setCell (p:=⟨w.heap.size+1+1,0,none⟩) (by simp;omega) (.int .u64 (gg:Int))).setCell (p:=⟨w.heap.size+1+1,1,none⟩) (by simp;omega) (.slice (some ⟨w1.heap.size,0,none⟩) k k))
    clear post ff a0 a1 d0 d1
    go_wp2
    refine bodyPost_ret (v:=.tuple #[.agg #[.int .u64 (gg:Int),.slice (some ⟨w1.heap.size,0,none⟩) k k],.int .i64 0]) ?_ rfl (yM hB1.size HO5.out HB5.out 0)
    simp [results,results168,go_sem,s0,s1]
 ·obtain rfl:0=g:=by rw [← hg,mW,he,if_neg h0]
  obtain rfl:[]=zs:=by rw [← hz,mI,he,if_neg h0]
  have hne:(e0 != 0)=true:=by simpa using h0
  clear hfa hfb he hg hz hla hlb t0 t1 t2 h0
  go_enter func168,ntmps168
  go_wp2_with fail
  refine (tZ n a b capa capb ga gb xs ys _ HA.out HB.out e0 HE.out la lb HLA.out HLB.out).mono ?_
  rintro e w1 ⟨rfl,hb1⟩
  have hB1:=hB0.trans (hb1.mono hB0.size)
  have U2:=Lib.hid (cS T2.out hb1)
  obtain ⟨d0,d1,df⟩:=cO U2.out
  have f0:=df 0;have f1:=df 1
  have N1:=Lib.hid (lF (c:=.slice none 0 0) (mG (c:=.int .u64 0) U2.out))
  obtain ⟨s0,s1,_⟩:=cO N1.out
  clear df
  go_wp2
  refine bodyPost_ret (v:=.tuple #[.agg #[.int .u64 0,.slice none 0 0],.int .i64 e0]) ?_ rfl (Gk e0 ((hB1.setCell (p:=⟨w.heap.size+1+1,0,none⟩) (by simp;omega) _).setCell (p:=⟨w.heap.size+1+1,1,none⟩) (by simp;omega) _))
  simp [results,results168,go_sem,s0,s1]
def On (gen:Nat) (rows:List Nat) (err:Int) (w:World) (e:Ending) (w':World):Prop :=
 ∃ v,e = .returned (.tuple #[.agg #[.int .u64 (gen:Int),v],.int .i64 err])∧w'.ownsRow w.heap.size 37 1 v rows.length (u64s rows)∧Below w.heap.size w w'
theorem Ry {w w':World} (err:Int) (hb:Below w.heap.size w w'):On 0 [] err w (.returned (.tuple #[.agg #[.int .u64 0,.slice none 0 0],.int .i64 err])) w' :=
 ⟨_,rfl,World.ownsRow_nil _ _ _ _,hb⟩
theorem Rz {w w':World} {gen n:Nat} {v:Value} {rows:List Nat} (h:w'.ownsRow w.heap.size 37 1 v n (u64s rows)) (hb:Below w.heap.size w w') (err:Int):On gen rows err w (.returned (.tuple #[.agg #[.int .u64 (gen:Int),v],.int .i64 err])) w':=by
 have hn:n=rows.length:=by have:=h.1;rw [gF] at this;omega
 subst hn
 exact ⟨v,rfl,h,hb⟩
theorem On.ret {gen:Nat} {rows:List Nat} {err:Int} {w w':World} {e:Ending} (h:On gen rows err w e w'):Rs gen rows err w e w':=by
 obtain ⟨v,rfl,ho,hb⟩:=h
 exact yM (Nat.le_refl _) ho hb err
def gR (m:Nat):List Nat:=(List.range m).map fun i=>2 ^ i
theorem jT (m:Nat):(gR m).length=m:=by simp [gR]
theorem Gq {m k:Nat} (h:k < m):(gR m)[k]?=some (2 ^ k):=by
 unfold gR
 rw [List.getElem?_map,List.getElem?_range h];rfl
def oneV (n:Int):List Nat:=if fD n=true then gR n.toNat else []
def R4 (n:Int):Int:=if fD n=true then 0 else 31
set_option maxHeartbeats 2000000 in
theorem oneA_is (n:Int) (w:World) (e0:Int) (he:R4 n=e0) (ys:List Nat) (hys:oneV n=ys) :
  Calls prog 146 #[.int .i64 n] w (On 0 ys e0 w):=by
 have hB0:Below w.heap.size w (w.alloc (.cells #[.int .u64 0,.slice none 0 0] 40)):=(Below.refl _ _).alloc (Nat.le_refl _) _
 have T0:=Lib.hid (eJ w (.cells #[.int .u64 0,.slice none 0 0] 40))
 obtain ⟨i0,hi,hz0,hz1,hz2⟩:=info_parts Mf
 cases hd:fD n
 ·obtain rfl:31=e0:=by rw [← he,R4,hd];rfl
  obtain rfl:[]=ys:=by rw [← hys,oneV,hd];rfl
  obtain ⟨d0,d1,df⟩:=cO T0.out
  have f0:=df 0;have f1:=df 1
  have hx:n < 0∨64 < n:=by
   by_cases h:n < 0
   ·exact .inl h
   ·simp [fD,show 0≤n by omega] at hd;exact .inr hd
  clear df hd he hys
  rcases hx with hx | hx
  all_goals
   go_enter func146,ntmps146
   go_wp2
   refine bodyPost_ret (v:=.tuple #[.agg #[.int .u64 0,.slice none 0 0],.int .i64 31]) ?_ rfl (Ry 31 hB0)
   simp [results,results146,go_sem,d0,d1]
 ·obtain ⟨m,rfl,hm⟩:=rJ hd
  obtain rfl:0=e0:=by rw [← he,R4,hd];rfl
  have HY:Hid (gR m=ys):=by show _=_;rw [← hys,oneV,hd,if_pos rfl,Int.toNat_natCast]
  have hm0:(0:Int)≤(m:Int):=by omega
  have hm64:(m:Int)≤64:=by omega
  clear hd he hys
  go_enter func146,ntmps146
  go_wp2_with (at_make;go_loud (refine wpList_make_full _ rfl (.tmp 13) (.tmp 13) 38 rfl w.heap.size 37 i0 _ 1 underlying38 hi hz0 hz1 .i64 .i64 (m:Int) (m:Int) m rfl rfl rfl rfl (by rw [hz2];omega) (by unfold maxLen;omega) hB0.size ?_;intro w2 hown2 hgrow2))
  have hbl:(w.alloc (.cells #[.int .u64 0,.slice none 0 0] 40)).heap.size=w.heap.size+1:=by simp
  have hzz:Hid (w2.ownsRow w.heap.size 37 1 (.slice (some ⟨w.heap.size+1,0,none⟩) m m) m (u64s (mV (gR m) (List.replicate m 0) 0))):=by
   rw [rM,← hbl]
   have e:u64s (List.replicate m 0)=List.replicate m (.int .u64 0):=by simp [u64s]
   have e2:(madeCells (Value.int IntKind.u64 0).cells (m * 1)).toList=List.replicate m (.int .u64 0):=by
    rw [Nat.mul_one]
    apply List.ext_getElem
    ·simp [madeCells]
    ·intro i h1 h2
     simp [madeCells,Value.cells,Nat.mod_one]
   rw [e,← e2]
   exact hown2
  have U0:=Lib.hid ((hgrow2.block _ (Array.getElem?_eq_some_iff.1 T0.out).1 (by simp)).trans T0.out)
  have hB2:Below w.heap.size w w2:=hB0.grown hgrow2 hB0.size (fun j e=>by cases e)
  clear hown2
  go_wp2_with fail
  go_loopw [17] (fun i wr=>∃ k:Nat,k≤m∧i = .int .i64 k∧Hid (wr.ownsRow w.heap.size 37 1 (.slice (some ⟨w.heap.size+1,0,none⟩) m m) m (u64s (mV (gR m) (List.replicate m 0) k)))∧Hid (wr.heap[w.heap.size]?=some (.cells #[.int .u64 0,.slice none 0 0] 40 (0,0)))∧Below w.heap.size w wr) (fun i _=>m - (intOf i).toNat)
  case atStart=>exact ⟨0,Nat.zero_le _,rfl,hzz,U0,hB2⟩
  case round =>
   obtain ⟨k,hk,rfl,HO,HR,hb⟩:=hrel
   by_cases hlt:k < m
   ·have hsh:IntKind.u64.wrap ((2:Int) ^ k)=((2 ^ k:Nat):Int):=by
     have hpw:2 ^ k≤9223372036854775808:=yG (by omega)
     rw [IntKind.wrap_u64]
     have e:((2:Int) ^ k)=((2 ^ k:Nat):Int):=by simp
     rw [e]
     generalize 2 ^ k=q at *
     omega
    have hxk:(List.replicate m 0)[k]?=some 0:=by simp [hlt]
    have HM:=Lib.hid (tU (Gq hlt) hxk)
    obtain ⟨q,hq⟩:∃ q:Nat,2 ^ k=q:=⟨_,rfl⟩
    rw [hq] at hsh HM
    have q0:=HO.out.frozenAt k
    have d0:=(HO.out.cellAt k (by omega)).trans (tX (xH (by rw [jT];simp) hxk))
    have g0:(0:Int)≤(k:Int):=by omega
    have g3:(k:Int) < (m:Int):=by omega
    have HO2:Hid ((wr.setCell ⟨w.heap.size+1,k,none⟩ (.int .u64 (q:Int))).ownsRow w.heap.size 37 1 (.slice (some ⟨w.heap.size+1,0,none⟩) m m) m (u64s (mV (gR m) (List.replicate m 0) (k+1)))):=by
     rw [← HM.out,← tW]
     exact (HO.out.stored k _).1
    have HR2:=Lib.hid (eH (B:=w.heap.size+1) (j:=k) (c:=.int .u64 (q:Int)) HR.out (by omega))
    have hb2:=hb.setCell (p:=⟨w.heap.size+1,k,none⟩) (by simp) (.int .u64 (q:Int))
    clear hxk hq
    go_wp2
    go_roundw
    case rel=>exact ⟨k+1,by omega,by go_num,HO2,HR2,hb2⟩
    case measure=>simp [intOf];omega
   ·obtain rfl:k=m:=by omega
    have HO2:Hid (wr.ownsRow w.heap.size 37 1 (.slice (some ⟨w.heap.size+1,0,none⟩) k k) k (u64s ys)):=by
     have:=HO.out
     have e:mV (gR k) (List.replicate k 0) k=gR k:=by
      have:=tV (ys:=gR k) (xs:=List.replicate k 0) (by rw [jT];simp)
      simpa using this
     rwa [e,HY.out] at this
    obtain ⟨r0,r1,rf⟩:=cO HR.out
    have rf0:=rf 0;have rf1:=rf 1
    have N1:=Lib.hid (lF (c:=.slice (some ⟨w.heap.size+1,0,none⟩) k k) (mG (c:=.int .u64 0) HR.out))
    obtain ⟨s0,s1,_⟩:=cO N1.out
    have HO5:=Lib.hid ((HO2.out.kept (fP _ _ 0 (.int .u64 0)) (.inr (kX HR.out (by decide) HO2.out).symm)).kept (fP _ w.heap.size 1 (.slice (some ⟨w.heap.size+1,0,none⟩) k k)) (.inr (kX HR.out (by decide) HO2.out).symm))
    have HB5:=Lib.hid ((hb.setCell (p:=⟨w.heap.size,0,none⟩) (Nat.le_refl _) (.int .u64 0)).setCell (p:=⟨w.heap.size,1,none⟩) (Nat.le_refl _) (.slice (some ⟨w.heap.size+1,0,none⟩) k k))
    clear rf
    go_wp2
    refine bodyPost_ret (v:=.tuple #[.agg #[.int .u64 0,.slice (some ⟨w.heap.size+1,0,none⟩) k k],.int .i64 0]) ?_ rfl (Rz (gen:=0) HO5.out HB5.out 0)
    simp [results,results146,go_sem,s0,s1]
theorem Eb {a:Int} (h:(Lit.int .u64 a).wf=true):∃ n:Nat,a=n∧n < 18446744073709551616:=by
 simp only [Lit.wf,IntKind.min,IntKind.max,IntKind.signed,IntKind.bits,Bool.and_eq_true,decide_eq_true_eq] at h
 simp at h
 exact ⟨a.toNat,by omega,by omega⟩
theorem Bp (g:Nat) (zs:List Nat):pQ g zs g zs=true:=by simp [pQ]
theorem mem_iff {s i:Nat}:i∈mem s↔i < 64∧s.testBit i=true:=⟨fun h=>⟨Dp h,Dq h⟩,fun h=>sT h.1 h.2⟩
theorem Mj (rows:List Nat) (j:Nat):∀ (l:List Nat) (g:Nat),(accF rows g l).testBit j=true↔g.testBit j=true∨∃ i∈l,(rows.getD i 0).testBit j=true
 | [],g=>by simp [accF]
 | x::l,g=>by
  have:=Mj rows j l (g ||| rows.getD x 0)
  rw [show accF rows g (x::l)=accF rows (g ||| rows.getD x 0) l from rfl,this,Nat.testBit_or,Bool.or_eq_true]
  simp only [List.mem_cons,exists_eq_or_imp]
  exact or_assoc
theorem eK {g s j:Nat} {rows:List Nat}:(madeF g rows s).testBit j=true↔g.testBit j=true∨∃ i,(i < 64∧s.testBit i=true)∧(rows.getD i 0).testBit j=true:=by
 rw [madeF,Mj]
 simp only [mem_iff]
theorem oV {a b:Nat} (h:∀ j,a.testBit j=true↔b.testBit j=true):a=b:=by
 apply Nat.eq_of_testBit_eq
 intro j
 rw [Bool.eq_iff_iff];exact h j
theorem Gr {a b j:Nat} (ha:a < 18446744073709551616) (hb:b < 18446744073709551616):(andn a b).testBit j=true↔a.testBit j=true∧¬ b.testBit j=true:=by
 rw [qI ha hb];simp
theorem Mk {rows:List Nat} (h:∀ r∈rows,r < 18446744073709551616) (i:Nat):rows.getD i 0 < 18446744073709551616:=by
 rw [List.getD_eq_getElem?_getD]
 cases hx:rows[i]? with
 | none=>simp
 | some y=>exact h y (List.mem_of_getElem? hx)
theorem yO {g:Nat} {rows:List Nat} (i:Nat):(eG g rows).getD i 0=andn (rows.getD i 0) g:=by
 rw [List.getD_eq_getElem?_getD,List.getD_eq_getElem?_getD,eG,List.getElem?_map]
 cases rows[i]?<;>simp [andn]
theorem Ec {xs ys:List Nat} (hl:ys.length=xs.length) (i:Nat):(orL xs ys).getD i 0=xs.getD i 0 ||| ys.getD i 0:=by
 rw [List.getD_eq_getElem?_getD,List.getD_eq_getElem?_getD,List.getD_eq_getElem?_getD,orL,List.getElem?_zipWith]
 rcases Nat.lt_or_ge i xs.length with h | h
 ·rw [List.getElem?_eq_getElem h,List.getElem?_eq_getElem (by omega)];simp
 ·rw [List.getElem?_eq_none h,List.getElem?_eq_none (by omega)];simp
theorem yP {g:Nat} {rows:List Nat} (hg:g < 18446744073709551616) (hr:∀ r∈rows,r < 18446744073709551616) (s:Nat):madeF g (eG g rows) s=madeF g rows s:=by
 apply oV;intro j
 rw [eK,eK]
 constructor
 ·rintro (h | ⟨i,hi,h⟩)
  ·exact .inl h
  ·rw [yO,Gr (Mk hr i) hg] at h
   exact .inr ⟨i,hi,h.1⟩
 ·rintro (h | ⟨i,hi,h⟩)
  ·exact .inl h
  ·by_cases hj:g.testBit j=true
   ·exact .inl hj
   ·exact .inr ⟨i,hi,by rw [yO,Gr (Mk hr i) hg];exact ⟨h,hj⟩⟩
theorem made_or {ga gb:Nat} {xs ys:List Nat} (hl:ys.length=xs.length) (s:Nat):madeF (ga ||| gb) (orL xs ys) s=madeF ga xs s ||| madeF gb ys s:=by
 apply oV;intro j
 rw [Nat.testBit_or,Bool.or_eq_true,eK,eK,eK,Nat.testBit_or,Bool.or_eq_true]
 constructor
 ·rintro ((h | h) | ⟨i,hi,h⟩)
  ·exact .inl (.inl h)
  ·exact .inr (.inl h)
  ·rw [Ec hl,Nat.testBit_or,Bool.or_eq_true] at h
   rcases h with h | h
   ·exact .inl (.inr ⟨i,hi,h⟩)
   ·exact .inr (.inr ⟨i,hi,h⟩)
 ·rintro ((h | ⟨i,hi,h⟩) | (h | ⟨i,hi,h⟩))
  ·exact .inl (.inl h)
  ·exact .inr ⟨i,hi,by rw [Ec hl,Nat.testBit_or,Bool.or_eq_true];exact .inl h⟩
  ·exact .inl (.inr h)
  ·exact .inr ⟨i,hi,by rw [Ec hl,Nat.testBit_or,Bool.or_eq_true];exact .inr h⟩
theorem Gu {f:Nat→Nat} {xs:List Nat} (i:Nat):(xs.map f).getD i 0=if i < xs.length then f (xs.getD i 0) else 0:=by
 rw [List.getD_eq_getElem?_getD,List.getD_eq_getElem?_getD,List.getElem?_map]
 split
 ·rename_i h;rw [List.getElem?_eq_getElem h];rfl
 ·rename_i h;rw [List.getElem?_eq_none (by omega)];rfl
theorem Oo {ga gb:Nat} {xs ys:List Nat} (s:Nat):madeF (madeF gb ys ga) (xs.map (madeF gb ys)) s=madeF gb ys (madeF ga xs s):=by
 apply oV;intro j
 rw [eK,eK,eK]
 simp only [eK]
 constructor
 ·rintro ((h | ⟨k,⟨hk,hk2⟩,h⟩) | ⟨i,hi,h⟩)
  ·exact .inl h
  ·exact .inr ⟨k,⟨hk,.inl hk2⟩,h⟩
  ·rw [Gu] at h
   split at h
   ·rw [eK] at h
    rcases h with h | ⟨k,⟨hk,hk2⟩,h⟩
    ·exact .inl h
    ·exact .inr ⟨k,⟨hk,.inr ⟨i,hi,hk2⟩⟩,h⟩
   ·simp at h
 ·rintro (h | ⟨k,⟨hk,(hk2 | ⟨i,hi,hk2⟩)⟩,h⟩)
  ·exact .inl (.inl h)
  ·exact .inl (.inr ⟨k,⟨hk,hk2⟩,h⟩)
  ·refine .inr ⟨i,hi,?_⟩
   rw [Gu]
   split
   ·rw [eK];exact .inr ⟨k,⟨hk,hk2⟩,h⟩
   ·rename_i hn
    rw [List.getD_eq_getElem?_getD,List.getElem?_eq_none (by omega)] at hk2
    simp at hk2
theorem R5 {g:Nat} {rows:List Nat} (s t:Nat):madeF g rows (s ||| t)=madeF g rows s ||| madeF g rows t:=by
 apply oV;intro j
 rw [Nat.testBit_or,Bool.or_eq_true,eK,eK,eK]
 simp only [Nat.testBit_or,Bool.or_eq_true]
 constructor
 ·rintro (h | ⟨i,⟨hi,(h1 | h1)⟩,h⟩)
  ·exact .inl (.inl h)
  ·exact .inl (.inr ⟨i,⟨hi,h1⟩,h⟩)
  ·exact .inr (.inr ⟨i,⟨hi,h1⟩,h⟩)
 ·rintro ((h | ⟨i,⟨hi,h1⟩,h⟩) | (h | ⟨i,⟨hi,h1⟩,h⟩))
  ·exact .inl h
  ·exact .inr ⟨i,⟨hi,.inl h1⟩,h⟩
  ·exact .inl h
  ·exact .inr ⟨i,⟨hi,.inr h1⟩,h⟩
structure Good (m:Nat) (g:Nat) (rows:List Nat):Prop where
 hm:m≤64
 hl:rows.length=m
 hg:g < 2 ^ m
 hr:∀ r∈rows,r < 2 ^ m
 hc:∀ r∈rows,r &&& g=0
theorem Good.g64 {m g:Nat} {rows:List Nat} (h:Good m g rows):g < 18446744073709551616:=Nat.lt_of_lt_of_le h.hg (nW h.hm)
theorem Good.r64 {m g:Nat} {rows:List Nat} (h:Good m g rows):∀ r∈rows,r < 18446744073709551616:=fun r hr=>Nat.lt_of_lt_of_le (h.hr r hr) (nW h.hm)
theorem sV {m g:Nat} {rows:List Nat} (h:Good m g rows):eU m g rows=0:=by
 have hd:fD m=true:=by simp [fD];have:=h.hm;omega
 have h1:fB m g rows=true:=by
  unfold fB
  simp only [Bool.and_eq_true,decide_eq_true_eq,List.all_eq_true]
  exact ⟨h.hl,(mF h.hm h.g64).2 h.hg,fun r hr=>(mF h.hm (h.r64 r hr)).2 (h.hr r hr)⟩
 have h2:kQ g rows=true:=by
  unfold kQ
  rw [List.all_eq_true]
  intro r hr
  have:=h.hc r hr
  simp [this]
 unfold eU
 rw [if_pos hd,Int.toNat_natCast,h1,h2];rfl
theorem Jt {n:Int} {g:Nat} {rows:List Nat} (hg:g < 18446744073709551616) (hr:∀ r∈rows,r < 18446744073709551616) (h:eU n g rows=0):∃ m:Nat,n=m∧Good m g rows:=by
 obtain ⟨hd,hs,hc⟩:=rN h
 obtain ⟨m,rfl,hm⟩:=rJ hd
 rw [Int.toNat_natCast] at hs
 obtain ⟨hl,ig,ir⟩:=oU hs
 unfold kQ at hc
 rw [List.all_eq_true] at hc
 exact ⟨m,rfl,hm,hl,(mF hm hg).1 ig,fun r h=>(mF hm (hr r h)).1 (ir r h),fun r h=>by simpa using hc r h⟩
theorem yQ {m g:Nat} {rows:List Nat} (hm:m≤64) (hl:rows.length=m) (hg:g < 2 ^ m) (hr:∀ r∈rows,r < 2 ^ m):Good m g (eG g rows) where
 hm:=hm
 hl:=by rw [iY,hl]
 hg:=hg
 hr:=fun r h=>by
  obtain ⟨x,hx,rfl⟩:=List.mem_map.1 h
  exact Nat.lt_of_le_of_lt Nat.and_le_left (hr x hx)
 hc:=fun r h=>by
  obtain ⟨x,hx,rfl⟩:=List.mem_map.1 h
  have h1:=Nat.lt_of_lt_of_le (hr x hx) (nW hm)
  have h2:=Nat.lt_of_lt_of_le hg (nW hm)
  apply Nat.eq_of_testBit_eq
  intro j
  rw [Nat.testBit_and,qI h1 h2,Nat.zero_testBit]
  cases x.testBit j<;>cases g.testBit j<;>rfl
theorem Bq {m:Nat} {rows:List Nat} (hr:∀ r∈rows,r < 2 ^ m):∀ (l:List Nat) (g:Nat),g < 2 ^ m→accF rows g l < 2 ^ m
 | [],g,h=>h
 | x::l,g,h=>by
  have:rows.getD x 0 < 2 ^ m:=by
   rw [List.getD_eq_getElem?_getD]
   cases hx:rows[x]? with
   | none=>exact Nat.two_pow_pos m
   | some y=>exact hr y (List.mem_of_getElem? hx)
  exact Bq hr l _ (Nat.or_lt_two_pow h this)
theorem Good.made {m g:Nat} {rows:List Nat} (h:Good m g rows) (s:Nat):madeF g rows s < 2 ^ m:=Bq h.hr _ _ h.hg
theorem Good.comb {m ga gb:Nat} {xs ys:List Nat} (ha:Good m ga xs) (hb:Good m gb ys):Good m (ga ||| gb) (eG (ga ||| gb) (orL xs ys)) :=
 yQ ha.hm (by rw [Ea (by rw [ha.hl,hb.hl]),ha.hl]) (Nat.or_lt_two_pow ha.hg hb.hg) (fun r hr=>by
  obtain ⟨i,hi⟩:=List.getElem?_of_mem hr
  unfold orL at hi
  rw [List.getElem?_zipWith] at hi
  cases h1:xs[i]? with
  | none=>rw [h1] at hi;simp at hi
  | some a =>
   cases h2:ys[i]? with
   | none=>rw [h1,h2] at hi;simp at hi
   | some b =>
    rw [h1,h2] at hi
    have:a ||| b=r:=by simpa using hi
    rw [← this]
    exact Nat.or_lt_two_pow (ha.hr a (List.mem_of_getElem? h1)) (hb.hr b (List.mem_of_getElem? h2)))
theorem Good.ext {m ga gb:Nat} {xs ys:List Nat} (ha:Good m ga xs) (hb:Good m gb ys):Good m (madeF gb ys ga) (eG (madeF gb ys ga) (xs.map (madeF gb ys))) :=
 yQ ha.hm (by rw [List.length_map,ha.hl]) (hb.made ga) (fun r hr=>by
  obtain ⟨x,_,rfl⟩:=List.mem_map.1 hr
  exact hb.made x)
theorem rO {m ga gb:Nat} {xs ys:List Nat} (ha:Good m ga xs) (hb:Good m gb ys):nC m ga xs gb ys=0:=by
 rw [nC,if_pos (sV ha)];exact sV hb
theorem sW {m ga gb:Nat} {xs ys:List Nat} (ha:Good m ga xs) (hb:Good m gb ys):gQ m ga xs gb ys=ga ||| gb:=by rw [gQ,if_pos (rO ha hb)]
theorem sX {m ga gb:Nat} {xs ys:List Nat} (ha:Good m ga xs) (hb:Good m gb ys):gG m ga xs gb ys=eG (ga ||| gb) (orL xs ys):=by rw [gG,if_pos (rO ha hb)]
theorem Br {m ga gb:Nat} {xs ys:List Nat} (ha:Good m ga xs) (hb:Good m gb ys):mW m ga xs gb ys=madeF gb ys ga:=by rw [mW,if_pos (rO ha hb)]
theorem Bt {m ga gb:Nat} {xs ys:List Nat} (ha:Good m ga xs) (hb:Good m gb ys):mI m ga xs gb ys=eG (madeF gb ys ga) (xs.map (madeF gb ys)):=by rw [mI,if_pos (rO ha hb)]
theorem Good.combT {m ga gb:Nat} {xs ys:List Nat} (ha:Good m ga xs) (hb:Good m gb ys):Good m (gQ m ga xs gb ys) (gG m ga xs gb ys):=by rw [sW ha hb,sX ha hb];exact ha.comb hb
theorem Good.extT {m ga gb:Nat} {xs ys:List Nat} (ha:Good m ga xs) (hb:Good m gb ys):Good m (mW m ga xs gb ys) (mI m ga xs gb ys):=by rw [Br ha hb,Bt ha hb];exact ha.ext hb
theorem fZ {m ga gb:Nat} {xs ys:List Nat} (ha:Good m ga xs) (hb:Good m gb ys) (s:Nat):madeF (gQ m ga xs gb ys) (gG m ga xs gb ys) s=madeF ga xs s ||| madeF gb ys s:=by
 rw [sW ha hb,sX ha hb,yP (or64 ha.g64 hb.g64) (Rw ha.r64 hb.r64),made_or (by rw [ha.hl,hb.hl])]
theorem lH {m ga gb:Nat} {xs ys:List Nat} (ha:Good m ga xs) (hb:Good m gb ys) (s:Nat):madeF (mW m ga xs gb ys) (mI m ga xs gb ys) s=madeF gb ys (madeF ga xs s):=by
 rw [Br ha hb,Bt ha hb,yP (uA hb.r64 hb.g64) (fun r hr=>by obtain ⟨x,_,rfl⟩:=List.mem_map.1 hr;exact uA hb.r64 hb.g64),Oo]
theorem Bu (g:Nat) (rows:List Nat):madeF g rows 0=g:=by rw [madeF,Rh];rfl
theorem Gv {m g:Nat} {rows:List Nat} (h:Good m g rows) {i r:Nat} (hi:rows[i]?=some r):madeF g rows (2 ^ i)=g ||| r:=by
 have hil:=(List.getElem?_eq_some_iff.1 hi).1
 have hi64:i < 64:=by have:=h.hl;have:=h.hm;omega
 apply oV;intro j
 rw [eK,Nat.testBit_or,Bool.or_eq_true]
 constructor
 ·rintro (h1 | ⟨k,⟨hk,h2⟩,h3⟩)
  ·exact .inl h1
  ·rw [Nat.testBit_two_pow] at h2
   have e:i=k:=by simpa using h2
   subst e
   rw [List.getD_eq_getElem?_getD,hi] at h3
   exact .inr h3
 ·rintro (h1 | h1)
  ·exact .inl h1
  ·exact .inr ⟨i,⟨hi64,by rw [Nat.testBit_two_pow];simp⟩,by rw [List.getD_eq_getElem?_getD,hi];exact h1⟩
theorem mJ {m g h:Nat} {xs ys:List Nat} (hx:Good m g xs) (hy:Good m h ys) (e:∀ s,madeF g xs s=madeF h ys s):g=h∧xs=ys:=by
 have e0:=e 0
 rw [Bu,Bu] at e0
 subst e0
 refine ⟨rfl,sR (by rw [hx.hl,hy.hl]) fun i x y hi hj=>?_⟩
 have e1:=e (2 ^ i)
 rw [Gv hx hi,Gv hy hj] at e1
 have c1:=hx.hc x (List.mem_of_getElem? hi)
 have c2:=hy.hc y (List.mem_of_getElem? hj)
 apply Nat.eq_of_testBit_eq
 intro j
 have b1:=congrArg (fun n=>n.testBit j) e1
 have b2:=congrArg (fun n=>n.testBit j) c1
 have b3:=congrArg (fun n=>n.testBit j) c2
 simp only [Nat.testBit_or,Nat.testBit_and,Nat.zero_testBit] at b1 b2 b3
 cases h1:x.testBit j<;>cases h2:y.testBit j<;>cases h3:g.testBit j<;>simp_all
theorem R6 {m i j:Nat}:((gR m).getD i 0).testBit j=true↔i < m∧i=j:=by
 rw [List.getD_eq_getElem?_getD]
 rcases Nat.lt_or_ge i m with h | h
 ·rw [Gq h]
  simp only [Option.getD_some,Nat.testBit_two_pow,decide_eq_true_eq]
  exact ⟨fun e=>⟨h,e⟩,fun e=>e.2⟩
 ·rw [List.getElem?_eq_none (by rw [jT];exact h)]
  simp only [Option.getD_none,Nat.zero_testBit]
  exact ⟨fun e=>(Bool.false_ne_true e).elim,fun e=>(by omega)⟩
theorem Bv {m s:Nat} (hm:m≤64) (hs:s < 2 ^ m):madeF 0 (gR m) s=s:=by
 apply oV;intro j
 rw [eK]
 simp only [R6,Nat.zero_testBit]
 constructor
 ·rintro (h | ⟨i,⟨_,h2⟩,_,rfl⟩)
  ·cases h
  ·exact h2
 ·intro h
  have hj:j < m:=by
   rcases Nat.lt_or_ge j m with h1 | h1
   ·exact h1
   ·rw [Nat.testBit_lt_two_pow (Nat.lt_of_lt_of_le hs (Nat.pow_le_pow_right (by omega) h1))] at h;cases h
  exact .inr ⟨j,⟨by omega,h⟩,hj,rfl⟩
theorem kR {m:Nat} (hm:m≤64):Good m 0 (gR m) where
 hm:=hm
 hl:=jT m
 hg:=Nat.two_pow_pos m
 hr:=fun r hr=>by
  obtain ⟨i,hi,rfl⟩:=List.mem_map.1 hr
  exact Nat.pow_lt_pow_right (by omega) (List.mem_range.1 hi)
 hc:=fun r _=>Nat.and_zero r
theorem Gw {m:Nat} (hm:m≤64):R4 m=0∧oneV m=gR m:=by
 have hd:fD m=true:=by simp [fD];omega
 exact ⟨by rw [R4,if_pos hd],by rw [oneV,if_pos hd,Int.toNat_natCast]⟩
section
variable {m ga gb gc:Nat} {xs ys zs:List Nat}
theorem Bw (a:Good m ga xs) (b:Good m gb ys):gQ m ga xs gb ys=gQ m gb ys ga xs∧gG m ga xs gb ys=gG m gb ys ga xs :=
 mJ (a.combT b) (b.combT a) fun s=>by rw [fZ a b,fZ b a,Nat.or_comm]
theorem Bx (a:Good m ga xs):gQ m ga xs ga xs=ga∧gG m ga xs ga xs=xs :=
 mJ (a.combT a) a fun s=>by rw [fZ a a,Nat.or_self]
theorem yR (a:Good m ga xs) (b:Good m gb ys) (c:Good m gc zs):gQ m (gQ m ga xs gb ys) (gG m ga xs gb ys) gc zs=gQ m ga xs (gQ m gb ys gc zs) (gG m gb ys gc zs)∧gG m (gQ m ga xs gb ys) (gG m ga xs gb ys) gc zs=gG m ga xs (gQ m gb ys gc zs) (gG m gb ys gc zs) :=
 mJ ((a.combT b).combT c) (a.combT (b.combT c)) fun s=>by rw [fZ (a.combT b) c,fZ a (b.combT c),fZ a b,fZ b c,Nat.or_assoc]
theorem Ml {m s:Nat} (hm:m≤64) (g:Nat) (rows:List Nat) (hl:rows.length=m):madeF g rows s=madeF g rows (s % 2 ^ m):=by
 apply oV;intro j
 rw [eK,eK]
 constructor
 ·rintro (h | ⟨i,⟨hi,h2⟩,h3⟩)
  ·exact .inl h
  ·have him:i < m:=by
    rcases Nat.lt_or_ge i m with h1 | h1
    ·exact h1
    ·rw [List.getD_eq_getElem?_getD,List.getElem?_eq_none (by omega)] at h3;simp at h3
   exact .inr ⟨i,⟨hi,by rw [Nat.testBit_mod_two_pow];simp [him,h2]⟩,h3⟩
 ·rintro (h | ⟨i,⟨hi,h2⟩,h3⟩)
  ·exact .inl h
  ·rw [Nat.testBit_mod_two_pow,Bool.and_eq_true] at h2
   exact .inr ⟨i,⟨hi,h2.2⟩,h3⟩
theorem By (a:Good m ga xs):mW m 0 (gR m) ga xs=ga∧mI m 0 (gR m) ga xs=xs :=
 mJ ((kR a.hm).extT a) a fun s=>by
  rw [lH (kR a.hm) a,Ml a.hm 0 (gR m) (jT m),Bv a.hm (Nat.mod_lt _ (Nat.two_pow_pos m)),← Ml a.hm ga xs a.hl]
theorem Bz (a:Good m ga xs):mW m ga xs 0 (gR m)=ga∧mI m ga xs 0 (gR m)=xs :=
 mJ (a.extT (kR a.hm)) a fun s=>by rw [lH a (kR a.hm),Bv a.hm (a.made s)]
theorem Ca (a:Good m ga xs) (b:Good m gb ys) (c:Good m gc zs):mW m ga xs (gQ m gb ys gc zs) (gG m gb ys gc zs)=gQ m (mW m ga xs gb ys) (mI m ga xs gb ys) (mW m ga xs gc zs) (mI m ga xs gc zs)∧mI m ga xs (gQ m gb ys gc zs) (gG m gb ys gc zs)=gG m (mW m ga xs gb ys) (mI m ga xs gb ys) (mW m ga xs gc zs) (mI m ga xs gc zs) :=
 mJ (a.extT (b.combT c)) ((a.extT b).combT (a.extT c)) fun s=>by rw [lH a (b.combT c),fZ b c,fZ (a.extT b) (a.extT c),lH a b,lH a c]
theorem yS (a:Good m ga xs) (b:Good m gb ys) (c:Good m gc zs):mW m (gQ m ga xs gb ys) (gG m ga xs gb ys) gc zs=gQ m (mW m ga xs gc zs) (mI m ga xs gc zs) (mW m gb ys gc zs) (mI m gb ys gc zs)∧mI m (gQ m ga xs gb ys) (gG m ga xs gb ys) gc zs=gG m (mW m ga xs gc zs) (mI m ga xs gc zs) (mW m gb ys gc zs) (mI m gb ys gc zs) :=
 mJ ((a.combT b).extT c) ((a.extT c).combT (b.extT c)) fun s=>by rw [lH (a.combT b) c,fZ a b,fZ (a.extT c) (b.extT c),lH a c,lH b c,R5]
end
def vals (c:Cl):List Value:=[.int .u64 (c.f:Int),.int .i64 c.k,.int .i64 c.v]
def flat (cs:List Cl):List Value:=cs.flatMap vals
theorem nD (cs:List Cl):(flat cs).length=cs.length * 3:=by
 induction cs with
 | nil=>rfl
 | cons c r ih=>simp [flat,vals] at ih ⊢;omega
theorem jH (c:Cl) (r:List Cl):flat (c::r)=vals c++flat r:=by simp [flat]
theorem oW:∀ {cs:List Cl} {i:Nat} {c:Cl},cs[i]?=some c→(flat cs)[i * 3]?=some (.int .u64 (c.f:Int))∧(flat cs)[i * 3+1]?=some (.int .i64 c.k)∧(flat cs)[i * 3+2]?=some (.int .i64 c.v)
 | [],i,c,h=>by simp at h
 | x::r,0,c,h=>by
  simp at h;subst h
  simp [jH,vals]
 | x::r,i+1,c,h=>by
  simp at h
  have ih:=oW (cs:=r) (i:=i) h
  have e0:(i+1) * 3=i * 3+3:=by omega
  have e1:(i+1) * 3+1=(i * 3+1)+3:=by omega
  have e2:(i+1) * 3+2=(i * 3+2)+3:=by omega
  rw [e1,e2,e0,jH]
  simp only [vals,List.cons_append,List.nil_append,List.getElem?_cons_succ]
  exact ih
theorem Gx:∀ (cs:List Cl) (i:Nat) (c:Cl),i < cs.length→(((flat cs).set (i * 3) (.int .u64 (c.f:Int))).set (i * 3+1) (.int .i64 c.k)).set (i * 3+2) (.int .i64 c.v)=flat (cs.set i c)
 | [],i,c,h=>by simp at h
 | x::r,0,c,h=>by simp [jH,vals]
 | x::r,i+1,c,h=>by
  have ih:=Gx r i c (by simpa using h)
  have e0:(i+1) * 3=i * 3+3:=by omega
  have e1:(i+1) * 3+1=(i * 3+1)+3:=by omega
  have e2:(i+1) * 3+2=(i * 3+2)+3:=by omega
  rw [e1,e2,e0,jH,List.set_cons_succ,jH,← ih]
  simp [vals]
theorem Cb {w w':World} {base size n:Nat} {E:Nat} {v:Value} {xs:List Value} (h:w.ownsRow base E size v n xs) (hb:Below w.heap.size w w'):w'.ownsRow base E size v n xs:=by
 refine ⟨h.1,?_⟩
 rcases h.2 with h2 | ⟨g,cap,cur,hv,hg,hh,r⟩
 ·exact .inl h2
 ·exact .inr ⟨g,cap,cur,hv,hg,by rw [hb.block g (Array.getElem?_eq_some_iff.1 hh).1];exact hh,r⟩
theorem nE {w:World} {base:Nat} {E:Nat} {v:Value} {n:Nat} {cs:List Cl} (h:w.ownsRow base E 3 v n (flat cs)) :
  n=cs.length∧∃ a cap,v = .slice a n cap∧eZ w a cs∧∀ ad,a=some ad→base≤ad.block∧ad.off=0∧ad.block < w.heap.size:=by
 have hl:=h.1
 rw [nD] at hl
 have hn:n=cs.length:=by omega
 refine ⟨hn,?_⟩
 rcases h.2 with ⟨rfl,h0⟩ | ⟨g,cap,cur,rfl,hg,hh,hnc,hcm,hcs,ht⟩
 ·subst h0
  have:cs=[]:=List.length_eq_zero_iff.1 hn.symm
  exact ⟨none,0,rfl,.inl this,fun ad e=>by cases e⟩
 ·refine ⟨some ⟨g,0,none⟩,cap,rfl,.inr ⟨g,0,rfl,fun i c hi=>?_⟩,fun ad e=>by cases e;exact ⟨hg,rfl,(Array.getElem?_eq_some_iff.1 hh).1⟩⟩
  obtain ⟨f0,f1,f2⟩:=oW hi
  have hi2:i < cs.length:=(List.getElem?_eq_some_iff.1 hi).1
  have c0:=h.cellAt (i * 3) (by omega)
  have c1:=h.cellAt (i * 3+1) (by omega)
  have c2:=h.cellAt (i * 3+2) (by omega)
  rw [Nat.zero_add]
  exact ⟨c0.trans f0,c1.trans f1,c2.trans f2⟩
def jU (cs:List Cl) (err:Int) (w:World) (e:Ending) (w':World):Prop :=
 ∃ a cap,e = .returned (.tuple #[.slice a cs.length cap,.int .i64 err])∧eZ w' a cs∧(∀ ad,a=some ad→w.heap.size≤ad.block∧ad.block < w'.heap.size)∧Below w.heap.size w w'
theorem oX (err:Int) {w w':World} (hb:Below w.heap.size w w'):jU [] err w (.returned (.tuple #[.slice none 0 0,.int .i64 err])) w' :=
 ⟨none,0,rfl,.inl rfl,(fun ad e=>by cases e),hb⟩
theorem Ed {cs:List Cl} {w w':World} {E:Nat} {v:Value} {n:Nat} (h:w'.ownsRow w.heap.size E 3 v n (flat cs)) (hb:Below w.heap.size w w') (err:Int):jU cs err w (.returned (.tuple #[v,.int .i64 err])) w':=by
 obtain ⟨rfl,a,cap,rfl,hr,hf⟩:=nE h
 exact ⟨a,cap,rfl,hr,fun ad e=>⟨(hf ad e).1,(hf ad e).2.2⟩,hb⟩
def vN (cs:List Cl) (w:World) (e:Ending) (w':World):Prop :=
 ∃ v,e = .returned v∧w'.ownsRow w.heap.size 105 3 v cs.length (flat cs)∧Below w.heap.size w w'
theorem R7:(prog.info? 105).map (fun i=>(i.zero,i.size,i.bytes))=some (some (.agg #[.int .u64 0,.int .i64 0,.int .i64 0]),3,24):=by kernel_rfl
def dF (xs ys:List Cl):List Cl:=List.zipWith join xs ys
theorem okAt_ok {n:Nat} {c:Cl} (hf:c.f < 18446744073709551616) (h:jN n c=true):c.ok:=by
 unfold jN lR at h
 simp only [Bool.and_eq_true] at h
 exact ⟨hf,h.2⟩
theorem mC {d:Int} {cs:List Cl} (h:lS d cs=0):0≤d∧d≤64∧(cs.length:Int)=d∧cs.all (jN d.toNat)=true:=by
 unfold lS at h
 split at h
 ·omega
 ·split at h
  ·omega
  ·cases hz:cs.all (jN d.toNat)<;>rw [hz] at h<;>simp at h
   exact ⟨by omega,by omega,by omega,rfl⟩
theorem yT {d:Int} {xs ys:List Cl} (h:nB d xs ys=0):lS d xs=0∧lS d ys=0:=by
 unfold nB at h
 split at h
 ·exact ⟨by assumption,h⟩
 ·exact absurd h (by assumption)
theorem Ee {n:Nat} {cs:List Cl} (hb:oQ cs) (h:cs.all (jN n)=true) {i:Nat} {c:Cl} (hi:cs[i]?=some c):c.ok:=by
 rw [List.all_eq_true] at h
 exact okAt_ok (hb c (List.mem_of_getElem? hi)) (h c (List.mem_of_getElem? hi))
theorem R8 {xs ys:List Cl} {k:Nat} {x y:Cl} (hx:xs[k]?=some x) (hy:ys[k]?=some y):(dF xs ys).take (k+1)=(dF xs ys).take k++[join x y]:=by
 have h:(dF xs ys)[k]?=some (join x y):=by simp [dF,List.getElem?_zipWith,hx,hy]
 obtain ⟨hk,e⟩:=List.getElem?_eq_some_iff.1 h
 rw [List.take_succ_eq_append_getElem hk,e]
def sF (d:Int) (xs ys:List Cl):List Cl:=if nB d xs ys=0 then dF xs ys else []
theorem Cc (x y z:Cl) (hx:x.ok) (hy:y.ok) (hz:join x y=z) (w:World):Calls prog 171 #[x.val,y.val] w fun e w'=>e = .returned z.val∧Below w.heap.size w w':=by
 subst hz;exact Ji x y hx hy w
theorem Ju {w:World} {b off:Nat} {cs:List Cl} (h:∀ i c,cs[i]?=some c→w.cell? ⟨b,off+i * 3,none⟩=some (.int .u64 (c.f:Int))∧w.cell? ⟨b,off+i * 3+1,none⟩=some (.int .i64 c.k)∧w.cell? ⟨b,off+i * 3+2,none⟩=some (.int .i64 c.v)) :
  ∀ j u,(flat cs)[j]?=some u→w.cell? ((⟨b,off,none⟩:Addr).add j)=some u:=by
 intro j u hj
 have hlt:j < cs.length * 3:=by rw [← nD];exact (List.getElem?_eq_some_iff.1 hj).1
 obtain ⟨i,r,hr,rfl⟩:∃ i r,r < 3∧j=i * 3+r:=⟨j / 3,j % 3,by omega,by omega⟩
 have hi:i < cs.length:=by omega
 obtain ⟨h0,h1,h2⟩:=h i cs[i] (List.getElem?_eq_getElem hi)
 obtain ⟨f0,f1,f2⟩:=oW (List.getElem?_eq_getElem hi)
 have e:((⟨b,off,none⟩:Addr).add (i * 3+r))=⟨b,off+(i * 3+r),none⟩:=by
  simp only [Addr.add];split<;>simp_all
 rw [e]
 match r,hr with
 | 0,_=>rw [Nat.add_zero] at hj ⊢;rw [f0] at hj;rw [h0];exact hj
 | 1,_=>rw [f1] at hj;rw [← Nat.add_assoc,h1];exact hj
 | 2,_=>rw [f2] at hj;rw [← Nat.add_assoc,h2];exact hj
theorem Oq {w:World} {ad:Addr} {cs:List Cl} (h:eZ w (some ad) cs):∀ j u,(flat cs)[j]?=some u→w.cell? (ad.add j)=some u:=by
 rcases h with h | ⟨b,off,e,hc⟩
 ·subst h;intro j u hj;simp [flat] at hj
 ·cases e;exact Ju hc
theorem R9 (cs:List Cl):∀ u∈flat cs,u.oneCell'=true:=by
 intro u hu
 simp only [flat,List.mem_flatMap,vals] at hu
 obtain ⟨c,_,hu⟩:=hu
 simp at hu
 rcases hu with rfl | rfl | rfl<;>rfl
set_option maxHeartbeats 1000000 in
theorem Cd (a:Option Addr) (cap:Nat) (cs:List Cl) (w:World) (hm:cs.length≤64) (hrow:eZ w a cs) :
  Calls prog 158 #[.slice a cs.length cap] w (vN cs w):=by
 obtain ⟨i0,hi,hz0,hz1,hz2⟩:=info_parts R7
 have q22:∀ (w:World) (a:Option Addr) (n c n' c':Nat),(binOp .eql 41 (.slice a n c) (.slice none n' c')).run prog w = .ok (.bool a.isNone) w:=fun w a n c n' c'=>Lib.run_eql_slice_nil w _ _ a n c n' c' underlying41
 cases a with
 | none =>
  have hcs:cs=[]:=by
   rcases hrow with h | ⟨b,off,e,_⟩
   ·exact h
   ·cases e
  subst hcs
  clear hrow
  go_enter func158,ntmps158
  go_wp2
  go_ret
  exact ⟨_,rfl,World.ownsRow_nil _ _ _ _,Below.refl _ _⟩
 | some ad =>
  have HN:=Lib.hid (fun (o:Obj)=>Oq (hrow.below ((Below.refl _ w).alloc (Nat.le_refl _) o)))
  have hown:(w.alloc (.cells #[] 105)).ownsRow w.heap.size 105 3 (.slice (some ⟨w.heap.size,0,none⟩) 0 0) 0 []:=World.ownsRow_lit w #[] 0 (Nat.le_refl _) (by simp) rfl
  have HO:=Lib.hid hown
  clear hrow hown
  go_enter func158,ntmps158
  go_wp2_with (at_builtin;refine wpList_append_own _ rfl (.tmp 5) (.tmp 6) 41 rfl w.heap.size 105 i0 _ 3 24 underlying41 hi hz0 hz1 hz2 rfl (by decide) _ _ _ rfl HO.out ad cs.length cap (flat cs) rfl (nD cs) (HN.out _) (R9 cs) (by unfold maxLen;omega) (by omega) (by simp) ?_;intro v' w2 hown2 hgrow hnil)
  go_ret
  refine ⟨v',rfl,by simpa using hown2,?_⟩
  exact ((Below.refl _ _).alloc (Nat.le_refl _) _).grown hgrow (by simp) (fun j e=>by cases e;exact Nat.le_refl _)
theorem yU {w:World} {base g n cap k:Nat} {E:Nat} {cs:List Cl} (h:w.ownsRow base E 3 (.slice (some ⟨g,0,none⟩) n cap) n (flat cs)) (hk:k < cs.length) (z:Cl) :
  (((w.setCell ⟨g,k * 3,none⟩ (.int .u64 (z.f:Int))).setCell ⟨g,k * 3+1,none⟩ (.int .i64 z.k)).setCell ⟨g,k * 3+2,none⟩ (.int .i64 z.v)).ownsRow base E 3 (.slice (some ⟨g,0,none⟩) n cap) n (flat (cs.set k z)):=by
 rw [← Gx cs k z hk]
 exact ((((h.stored (k * 3) _).1.stored (k * 3+1) _).1.stored (k * 3+2) _).1)
theorem Sa {xs ys:List Cl} {k:Nat} {x y z:Cl} (hx:xs[k]?=some x) (hy:ys[k]?=some y) (hz:join x y=z):(((dF xs ys).take k++xs.drop k).set k z)=(dF xs ys).take (k+1)++xs.drop (k+1):=by
 obtain ⟨hk,ex⟩:=List.getElem?_eq_some_iff.1 hx
 obtain ⟨hk2,ey⟩:=List.getElem?_eq_some_iff.1 hy
 have hl:((dF xs ys).take k).length=k:=by simp [dF];omega
 rw [R8 hx hy,hz,List.set_append_right _ _ (by omega),hl,Nat.sub_self,List.drop_eq_getElem_cons hk,List.set_cons_zero,List.append_assoc]
 rfl
theorem mix_at {xs ys:List Cl} {k:Nat} {x y:Cl} (hx:xs[k]?=some x) (hy:ys[k]?=some y):((dF xs ys).take k++xs.drop k)[k]?=some x:=by
 obtain ⟨hk,ex⟩:=List.getElem?_eq_some_iff.1 hx
 obtain ⟨hk2,ey⟩:=List.getElem?_eq_some_iff.1 hy
 have hl:((dF xs ys).take k).length=k:=by simp [dF];omega
 rw [List.getElem?_append_right (by omega),hl,Nat.sub_self,List.getElem?_drop,Nat.add_zero,hx]
theorem mix_len {xs ys:List Cl} {k:Nat} (hl:ys.length=xs.length) (hk:k≤xs.length):((dF xs ys).take k++xs.drop k).length=xs.length:=by simp [dF];omega
set_option maxHeartbeats 2000000 in
theorem Sb (a b:Option Addr) (capa capb:Nat) (xs ys:List Cl) (w:World) (hm:xs.length≤64) (hl:ys.length=xs.length) (hra:eZ w a xs) (hrb:eZ w b ys) (hoa:∀ (i:Nat) c,xs[i]?=some c→c.ok) (hob:∀ (i:Nat) c,ys[i]?=some c→c.ok) :
  Calls prog 164 #[.slice a xs.length capa,.slice b ys.length capb] w (vN (dF xs ys) w):=by
 have HRA:=Lib.hid hra;have HRB:=Lib.hid hrb;have HOA:=Lib.hid hoa;have HOB:=Lib.hid hob;have HL:=Lib.hid hl
 have g1:ys.length≤xs.length:=by omega
 have g2:xs.length≤ys.length:=by omega
 clear hra hrb hoa hob hl
 go_enter func164,ntmps164
 go_wp2_with fail
 refine (Cd a capa xs _ hm HRA.out).mono ?_
 rintro e w1 ⟨v,rfl,hown1,hb1⟩
 have HO1:=Lib.hid hown1
 clear hown1
 go_wp2_with fail
 go_loopw [12] (fun i wr=>∃ k:Nat,k≤xs.length∧i = .int .i64 k∧Hid (wr.ownsRow w.heap.size 105 3 v xs.length (flat ((dF xs ys).take k++xs.drop k)))∧Below w.heap.size w wr) (fun i _=>xs.length - (intOf i).toNat)
 case atStart=>exact ⟨0,Nat.zero_le _,rfl,HO1.out,hb1⟩
 case round =>
  obtain ⟨k,hk,rfl,HO,hb⟩:=hrel
  by_cases hlt:k < xs.length
  ·obtain ⟨bb,offb,y,rfl,hy,hbb,b0,b1,b2⟩:=HRB.out.at_ (show k < ys.length by omega)
   obtain ⟨x,hx⟩:∃ x,xs[k]?=some x:=⟨_,List.getElem?_eq_getElem hlt⟩
   have c0:=(hb.cell (p:=⟨bb,offb+k * 3,none⟩) hbb).trans b0
   have c1:=(hb.cell (p:=⟨bb,offb+k * 3+1,none⟩) hbb).trans b1
   have c2:=(hb.cell (p:=⟨bb,offb+k * 3+2,none⟩) hbb).trans b2
   clear b0 b1 b2
   obtain ⟨z,hz⟩:∃ z,join x y=z:=⟨_,rfl⟩
   have OX:=Lib.hid (HOA.out k x hx)
   have OY:=Lib.hid (HOB.out k y hy)
   have HJ:=Lib.hid hz
   have HM:=Lib.hid (Sa hx hy hz)
   have HA:=Lib.hid (mix_at hx hy)
   have HLEN:=Lib.hid (mix_len HL.out hk)
   clear hx hy hz
   obtain ⟨g,capg,hv,hbg,hgl⟩:=HO.out.form (show 0 < xs.length by omega)
   subst hv
   obtain ⟨f0,f1,f2⟩:=oW HA.out
   have d0:=(HO.out.cellAt (k * 3) (by omega)).trans f0
   have d1:=(HO.out.cellAt (k * 3+1) (by omega)).trans f1
   have d2:=(HO.out.cellAt (k * 3+2) (by omega)).trans f2
   have F0:=Lib.hid f0;have F1:=Lib.hid f1;have F2:=Lib.hid f2
   clear f0 f1 f2
   have g0:(0:Int)≤(k:Int):=by omega
   have g3:(k:Int) < (xs.length:Int):=by omega
   have g4:(k:Int) < (ys.length:Int):=by omega
   go_wp2_with fail
   go_region_with (go_at_call 171;refine (Cc x y z OX.out OY.out HJ.out _).mono ?_;rintro e w3 ⟨rfl,hb3⟩;have hB3:Below wr.heap.size wr w3:=Below.trans (by repeat (first | exact Below.refl _ _ | refine Below.drew ?_ | refine Below.alloc ?_ (Nat.le_refl _) _)) (hb3.mono (by simp));have o3:=Cb HO.out hB3;have e0:=(o3.cellAt (k * 3) (by omega)).trans F0.out;have e1:=(o3.cellAt (k * 3+1) (by omega)).trans F1.out;have e2:=(o3.cellAt (k * 3+2) (by omega)).trans F2.out;have q0:=o3.frozenAt (k * 3);have q1:=o3.frozenAt (k * 3+1);have q2:=o3.frozenAt (k * 3+2);have O3:=Lib.hid o3;clear o3)
   all_goals
    have HS:=Lib.hid (yU O3.out (by rw [HLEN.out];exact hlt) z)
    rw [HM.out] at HS
    have HB:Hid (Below w.heap.size w (((w3.setCell ⟨g,k * 3,none⟩ (.int .u64 (z.f:Int))).setCell ⟨g,k * 3+1,none⟩ (.int .i64 z.k)).setCell ⟨g,k * 3+2,none⟩ (.int .i64 z.v))):=(((hb.trans (hB3.mono hb.size)).setCell (p:=⟨g,k * 3,none⟩) hbg _).setCell (p:=⟨g,k * 3+1,none⟩) hbg _).setCell (p:=⟨g,k * 3+2,none⟩) hbg _
    clear e0 e1 e2 q0 q1 q2 O3
    go_wp2
    go_roundw
    case rel=>exact ⟨k+1,by omega,by go_num,HS,HB.out⟩
    case measure=>simp [intOf];omega
  ·obtain rfl:k=xs.length:=by omega
   have HE:Hid (wr.ownsRow w.heap.size 105 3 v (dF xs ys).length (flat (dF xs ys))):=by
    have h:=HO.out
    have hlen:(dF xs ys).length=xs.length:=by simp [dF,HL.out]
    rw [List.take_of_length_le (by omega),List.drop_of_length_le (Nat.le_refl _),List.append_nil] at h
    rw [hlen];exact h
   go_wp2
   go_ret
   exact ⟨v,rfl,HE.out,hb⟩
theorem both_ok {d:Int} {xs ys:List Cl} (h:nB d xs ys=0) (hx:oQ xs) (hy:oQ ys) :
  xs.length≤64∧ys.length=xs.length∧(∀ (i:Nat) c,xs[i]?=some c→c.ok)∧(∀ (i:Nat) c,ys[i]?=some c→c.ok):=by
 obtain ⟨k1,k2⟩:=yT h
 obtain ⟨d0,d1,la,oka⟩:=mC k1
 obtain ⟨_,_,lb,okb⟩:=mC k2
 exact ⟨by omega,by omega,fun i c hi=>Ee hx oka hi,fun i c hi=>Ee hy okb hi⟩
theorem Ou (d:Int) (a b:Option Addr) (capa capb:Nat) (xs ys:List Cl) (w:World) (hma:xs.length≤maxLen) (hmb:ys.length≤maxLen) (hra:eZ w a xs) (hrb:eZ w b ys) (hba:oQ xs) (hbb:oQ ys) (c:Int) (hc:nB d xs ys=c) :
  Calls prog 140 #[.int .i64 d,.slice a xs.length capa,.slice b ys.length capb] w (jU (sF d xs ys) c w):=by
 have HMA:=Lib.hid hma;have HMB:=Lib.hid hmb;have HRA:=Lib.hid hra;have HRB:=Lib.hid hrb;have HBA:=Lib.hid hba;have HBB:=Lib.hid hbb
 have HC:=Lib.hid hc
 clear hma hmb hra hrb hba hbb
 by_cases h0:c=0
 ·subst h0
  obtain ⟨k1,k2,k3,k4⟩:=both_ok hc HBA.out HBB.out
  have K2:=Lib.hid k2;have K3:=Lib.hid k3;have K4:=Lib.hid k4
  have HR:=Lib.hid (show sF d xs ys=dF xs ys by simp [sF,hc])
  clear hc k2 k3 k4
  go_enter func140,ntmps140
  go_wp2_with fail
  refine (kZ _ a b capa capb xs ys _ HMA.out HMB.out HRA.out HRB.out HBA.out HBB.out 0 HC.out).mono ?_
  rintro e w1 ⟨rfl,hb1⟩
  go_wp2_with fail
  refine (Sb a b capa capb xs ys _ k1 K2.out (HRA.out.below hb1) (HRB.out.below hb1) K3.out K4.out).mono ?_
  rintro e w2 ⟨v,rfl,hown,hb2⟩
  have HO:=Lib.hid hown
  clear hown
  go_wp2
  go_ret2
  rw [HR.out]
  obtain ⟨_,a2,cap2,rfl,hr2,hf2⟩:=nE HO.out
  exact ⟨a2,cap2,rfl,hr2,fun ad e=>⟨Nat.le_trans hb1.size (hf2 ad e).1,(hf2 ad e).2.2⟩,hb1.trans (hb2.mono hb1.size)⟩
 ·have HR:=Lib.hid (show sF d xs ys=[] by simp [sF,hc,h0])
  have hne:(c != 0)=true:=by simpa using h0
  clear hc h0
  go_enter func140,ntmps140
  go_wp2_with fail
  refine (kZ _ a b capa capb xs ys _ HMA.out HMB.out HRA.out HRB.out HBA.out HBB.out c HC.out).mono ?_
  rintro e w1 ⟨rfl,hb1⟩
  go_wp2
  go_ret2
  rw [HR.out]
  exact oX c hb1
def kS (x y:Cl):Bool:=decide (x.f=y.f) && decide (x.k=y.k) && decide (x.v=y.v)
theorem rP {x y:Cl}:kS x y=true↔x=y:=by
 obtain ⟨f,k,v⟩:=x;obtain ⟨f2,k2,v2⟩:=y
 simp [kS,and_assoc]
def wL (xs ys:List Cl):Bool:=if xs.length=ys.length then (List.range xs.length).all fun i=>match xs[i]?,ys[i]? with | some x,some y=>kS x y | _,_=>true else false
theorem nZ {xs ys:List Cl}:wL xs ys=true↔xs=ys:=by
 unfold wL
 split
 ·rename_i hl
  rw [List.all_eq_true]
  constructor
  ·intro h
   apply List.ext_getElem?
   intro i
   by_cases hi:i < xs.length
   ·have:=h i (List.mem_range.2 hi)
    rw [List.getElem?_eq_getElem hi,List.getElem?_eq_getElem (hl▸hi)] at this ⊢
    simp only at this
    rw [rP.1 this]
   ·rw [List.getElem?_eq_none (by omega),List.getElem?_eq_none (by omega)]
  ·rintro rfl i hi
   have hi:=List.mem_range.1 hi
   rw [List.getElem?_eq_getElem hi]
   exact rP.2 rfl
 ·rename_i hl
  simp
  intro e;exact hl (by rw [e])
theorem Jv {xs ys:List Cl} {k:Nat} {x y:Cl} (hl:xs.length=ys.length) (hk:k < xs.length) (hx:xs[k]?=some x) (hy:ys[k]?=some y) (h:kS x y=false):wL xs ys=false:=by
 cases hs:wL xs ys
 ·rfl
 ·rw [nZ] at hs
  subst hs
  rw [hx] at hy
  cases hy
  rw [rP.2 rfl] at h;cases h
theorem Ef (f f2:Nat) (k k2 v v2:Int) (w:World) :
  (binOp .neq 105 (.agg #[.int .u64 (f:Int),.int .i64 k,.int .i64 v]) (.agg #[.int .u64 (f2:Int),.int .i64 k2,.int .i64 v2])).run prog w = .ok (.bool (!kS ⟨f,k,v⟩ ⟨f2,k2,v2⟩)) w:=by
 by_cases h1:f=f2
 ·subst h1
  by_cases h2:k=k2
  ·subst h2
   by_cases h3:v=v2
   ·subst h3
    simp [kS,go_sem]
   ·have h3':(v == v2)=false:=by simp [h3]
    simp [kS,go_sem,h3]
  ·simp [kS,go_sem,h2]
 ·simp [kS,go_sem,h1]
  intro h;omega
theorem Jw (x y:Cl) (s:Bool) (h:kS x y=s) (w:World):(binOp .neq 105 x.val y.val).run prog w = .ok (.bool (!s)) w:=by
 subst h;exact Ef _ _ _ _ _ _ w
set_option maxHeartbeats 2000000 in
theorem Ov (a b:Option Addr) (capa capb:Nat) (xs ys:List Cl) (w:World) (hm:xs.length≤maxLen) (hmb:ys.length≤maxLen) (hra:eZ w a xs) (hrb:eZ w b ys) (s:Bool) (hs:wL xs ys=s) :
  Calls prog 124 #[.slice a xs.length capa,.slice b ys.length capb] w fun e w'=>e = .returned (.bool s)∧Below w.heap.size w w':=by
 unfold maxLen at hm hmb
 have HRA:=Lib.hid hra;have HRB:=Lib.hid hrb;have HS:=Lib.hid hs
 clear hra hrb hs
 by_cases hl:xs.length=ys.length
 ·have g1:xs.length≤ys.length:=by omega
  have g2:ys.length≤xs.length:=by omega
  have hne:((xs.length:Int) != (ys.length:Int))=false:=by simp;omega
  have HL:=Lib.hid hl
  clear hl
  go_enter func124,ntmps124
  go_wp2
  go_loopw [13] (fun i wr=>∃ k:Nat,k≤xs.length∧i = .int .i64 k∧Hid (∀ (j:Nat) x y,j < k→xs[j]?=some x→ys[j]?=some y→x=y)∧Below w.heap.size w wr) (fun i _=>xs.length - (intOf i).toNat)
  case atStart=>exact ⟨0,Nat.zero_le _,rfl,(fun j x y h=>by omega),Below.refl _ _⟩
  case round =>
   obtain ⟨k,hk,rfl,HE,hb⟩:=hrel
   by_cases hlt:k < xs.length
   ·obtain ⟨ba,offa,x,rfl,hx,hba,a0,a1,a2⟩:=(HRA.out.below hb).at_ hlt
    obtain ⟨bb,offb,y,rfl,hy,hbb,b0,b1,b2⟩:=(HRB.out.below hb).at_ (show k < ys.length by omega)
    have g0:(0:Int)≤(k:Int):=by omega
    have g3:(k:Int) < (xs.length:Int):=by omega
    have g4:(k:Int) < (ys.length:Int):=by omega
    cases hxy:kS x y
    ·have hq:∀ W,(binOp .neq 105 (.agg #[.int .u64 (x.f:Int),.int .i64 x.k,.int .i64 x.v]) (.agg #[.int .u64 (y.f:Int),.int .i64 y.k,.int .i64 y.v])).run prog W = .ok (.bool true) W:=fun W=>Jw x y false hxy W
     have HT:Hid (s=false):=HS.out.symm.trans (Jv HL.out hlt hx hy hxy)
     clear hx hy hxy
     go_wp2
     go_quiet (fail)
     go_wp2
     go_ret
     exact ⟨jP HT.out.symm,below_drewN hb _⟩
    ·have hq:∀ W,(binOp .neq 105 (.agg #[.int .u64 (x.f:Int),.int .i64 x.k,.int .i64 x.v]) (.agg #[.int .u64 (y.f:Int),.int .i64 y.k,.int .i64 y.v])).run prog W = .ok (.bool false) W:=fun W=>Jw x y true hxy W
     have HE2:Hid (∀ (j:Nat) x y,j < k+1→xs[j]?=some x→ys[j]?=some y→x=y):=by
      intro j x' y' hj h1 h2
      by_cases e:j=k
      ·subst e
       rw [hx] at h1;rw [hy] at h2
       cases h1;cases h2
       exact rP.1 hxy
      ·exact HE.out j x' y' (by omega) h1 h2
     clear hx hy hxy
     go_wp2
     go_quiet (fail)
     go_wp2
     go_roundw
     case rel=>exact ⟨k+1,by omega,by go_num,HE2,below_drewN hb _⟩
     case measure=>simp [intOf];omega
   ·have HT:Hid (s=true):=by
     show s=true
     rw [← HS.out,nZ]
     apply List.ext_getElem?
     intro i
     by_cases hi:i < xs.length
     ·have h1:=List.getElem?_eq_getElem hi
      have h2:=List.getElem?_eq_getElem (show i < ys.length by omega)
      rw [h1,h2,HE.out i _ _ (by omega) h1 h2]
     ·rw [List.getElem?_eq_none (by omega),List.getElem?_eq_none (by omega)]
    go_wp2
    go_ret
    exact ⟨jP HT.out.symm,hb⟩
 ·have HT:Hid (s=false):=by
   show s=false
   rw [← HS.out];simp [wL,hl]
  have hne:((xs.length:Int) != (ys.length:Int))=true:=by simp;omega
  clear hl
  go_enter func124,ntmps124
  go_wp2
  go_ret
  exact ⟨jP HT.out.symm,Below.refl _ _⟩
def lT (row:List Cl) (c:Cl) (out:Cl) (i:Nat):Cl:=if c.f.testBit i then (match row[i]? with | some a=>join out a | none=>out) else out
def jV (row:List Cl) (c:Cl) (n:Nat):Cl:=(List.range n).foldl (lT row c) ⟨0,c.k,c.v⟩
def ofC (row:List Cl) (c:Cl):Cl:=jV row c row.length
theorem gV (row:List Cl) (c:Cl) (n:Nat):jV row c (n+1)=lT row c (jV row c n) n:=by
 simp [jV,List.range_succ]
theorem Gy {row:List Cl} {c x:Cl} {n:Nat} (hb:c.f.testBit n=true) (hx:row[n]?=some x):jV row c (n+1)=join (jV row c n) x:=by
 rw [gV,lT,if_pos hb,hx]
theorem Mm {row:List Cl} {c:Cl} {n:Nat} (hb:c.f.testBit n=false):jV row c (n+1)=jV row c n:=by
 rw [gV,lT,if_neg (by rw [hb];simp)]
theorem oB {row:List Cl} {c:Cl} {k:Nat}:∀ {n:Nat},k≤n→(∀ i,k≤i→i < n→c.f.testBit i=false)→jV row c n=jV row c k
 | 0,h,_=>by
  obtain rfl:k=0:=by omega
  rfl
 | n+1,h,hb=>by
  by_cases e:k=n+1
  ·subst e;rfl
  ·rw [Mm (hb n (by omega) (by omega))]
   exact oB (by omega) (fun i h1 h2=>hb i h1 (by omega))
theorem qL {f:Nat} {k v:Int} (h:dX f k v=true):dX 0 k v=true:=by
 unfold dX at *
 split
 ·rw [if_pos (by assumption)] at h;exact h
 ·rw [if_neg (by assumption)] at h
  split
  ·rfl
  ·rw [if_neg (by assumption)] at h
   split
   ·rw [if_pos (by assumption)] at h;simp at h ⊢;exact h.1
   ·rw [if_neg (by assumption)] at h;cases h
theorem nF {a b:Cl} (ha:a.ok) (hb:b.ok):(join a b).ok:=by
 obtain ⟨f,k,v⟩:=a
 obtain ⟨f2,k2,v2⟩:=b
 obtain ⟨hf,hk⟩:=ha
 obtain ⟨hf2,hk2⟩:=hb
 simp only at hf hk hf2 hk2
 have hor:f ||| f2 < 18446744073709551616:=Nat.or_lt_two_pow (n:=64) hf hf2
 refine ⟨?_,?_⟩
 ·show (if joinK k v k2 v2=2 then 0 else f ||| f2) < _
  split<;>omega
 ·show dX (if joinK k v k2 v2=2 then 0 else f ||| f2) (joinK k v k2 v2) (eN k v k2 v2)=true
  rcases oS hk with ⟨rfl,rfl⟩ | rfl | ⟨rfl,rfl⟩<;>rcases oS hk2 with ⟨rfl,rfl⟩ | rfl | ⟨rfl,rfl⟩
  all_goals (try (simp [joinK,eN,dX];done))
  by_cases hv:v=v2<;>simp [joinK,eN,dX,hv]
theorem lX {row:List Cl} {c:Cl} (hc:c.ok) (hr:∀ (i:Nat) x,row[i]?=some x→x.ok):∀ n,(jV row c n).ok
 | 0=>⟨by simp [jV],qL hc.2⟩
 | n+1=>by
  rw [gV,lT]
  split
  ·split
   ·rename_i a h;exact nF (lX hc hr n) (hr n a h)
   ·exact lX hc hr n
  ·exact lX hc hr n
theorem qM {w:World} {B:Nat} {a b c:Value} {T:Nat} (h:w.heap[B]?=some (.cells #[a,b,c] T (0,0))) :
  w.cell? ⟨B,0,none⟩=some a∧w.cell? ⟨B,1,none⟩=some b∧w.cell? ⟨B,2,none⟩=some c∧(∀ j,w.frozen? ⟨B,j,none⟩=false):=by
 refine ⟨by simp [World.cell?,h],by simp [World.cell?,h],by simp [World.cell?,h],fun j=>by simp [World.frozen?,h]⟩
theorem Ow {w:World} {B:Nat} {a b c a' b' c':Value} {T:Nat} (h:w.heap[B]?=some (.cells #[a,b,c] T (0,0))) :
  (((w.setCell ⟨B,0,none⟩ a').setCell ⟨B,1,none⟩ b').setCell ⟨B,2,none⟩ c').heap[B]?=some (.cells #[a',b',c'] T (0,0)):=by
 simp [World.setCell,Array.getElem?_modify,h]
theorem Gz {w:World} {B D:Nat} {o:Option Obj} {a' b' c':Value} (hne:D≠B) (h:w.heap[D]?=o) :
  (((w.setCell ⟨B,0,none⟩ a').setCell ⟨B,1,none⟩ b').setCell ⟨B,2,none⟩ c').heap[D]?=o:=by
 rw [Below.heap_setCell _ _ _ _ hne,Below.heap_setCell _ _ _ _ hne,Below.heap_setCell _ _ _ _ hne,h]
theorem Sc {w:World} {B:Nat} {o:Obj} (h:w.heap[B]?=some o):B < w.heap.size:=(Array.getElem?_eq_some_iff.1 h).1
theorem wM {w w':World} {B:Nat} {o:Obj} (h:w.heap[B]?=some o) (hb:Below w.heap.size w w'):w'.heap[B]?=some o:=(hb.block B (Sc h)).trans h
theorem Sd (a b:Nat) (ha:a < 18446744073709551616) (hb:b < 18446744073709551616):bits .and .u64 (a:Int) (b:Int)=((a &&& b:Nat):Int):=bits_and_u64_nat a b ha hb
set_option maxHeartbeats 2000000 in
theorem Ox (a:Option Addr) (cap:Nat) (row:List Cl) (c:Cl) (w:World) (ht:Tabs w) (hm:row.length≤64) (hra:eZ w a row) (hok:∀ (i:Nat) x,row[i]?=some x→x.ok) (hc:c.ok) (hin:∀ i,c.f.testBit i=true→i < row.length) (z:Cl) (hz:ofC row c=z) :
  Calls prog 174 #[c.val,.slice a row.length cap] w fun e w'=>e = .returned z.val∧Below w.heap.size w w':=by
 have HT:=Lib.hid ht
 have HRA:=Lib.hid hra;have HOK:=Lib.hid hok;have HC:=Lib.hid hc;have HZ:=Lib.hid hz;have HIN:=Lib.hid hin
 have hf:=hc.1
 clear hra hok hc hz ht hin
 go_enter func174,ntmps174
 go_wp2_with fail
 refine (fY _ _ _ _).mono ?_
 rintro e w1 ⟨rfl,rfl⟩
 go_wp2_with fail
 go_loopw [6] (fun i wr=>∃ (k x:Nat) (o:Cl),k≤row.length∧x < 18446744073709551616∧i = .int .u64 x∧Hid (∀ i,x.testBit i=(c.f.testBit i && decide (k≤i)))∧Hid (jV row c k=o)∧Hid (wr.heap[w.heap.size+1]?=some (.cells #[.int .u64 0,.int .i64 0,.int .i64 0] 105 (0,0)))∧Hid (wr.heap[w.heap.size+1+1+1+1]?=some (.cells #[.int .u64 (o.f:Int),.int .i64 o.k,.int .i64 o.v] 105 (0,0)))∧Below w.heap.size w wr) (fun i _=>(intOf i).toNat)
 case atStart =>
  refine ⟨0,c.f,⟨0,c.k,c.v⟩,Nat.zero_le _,hf,rfl,(fun i=>by simp),rfl,?_,?_,((((((Below.refl _ _).alloc (Nat.le_refl _) _).alloc (by simp) _).alloc (by simp;omega) _).alloc (by simp;omega) _).alloc (by simp;omega) _)⟩
  ·show _=_
   rw [heap_alloc_old _ _ (by simp),heap_alloc_old _ _ (by simp),heap_alloc_old _ _ (by simp),show w.heap.size+1=(w.alloc (.cells #[.int .u64 (c.f:Int),.int .i64 c.k,.int .i64 c.v] 105)).heap.size by simp,heap_alloc_new]
  ·show _=_
   rw [show w.heap.size+1+1+1+1=((((w.alloc (.cells #[.int .u64 (c.f:Int),.int .i64 c.k,.int .i64 c.v] 105)).alloc (.cells #[.int .u64 0,.int .i64 0,.int .i64 0] 105)).alloc (.cells #[.int .u64 0,.int .i64 c.k,.int .i64 c.v] 105)).alloc (.cells #[.int .u64 0,.int .i64 c.k,.int .i64 c.v] 105)).heap.size by simp,heap_alloc_new]
   rfl
 case round =>
  obtain ⟨k,x,o,hk,hx64,rfl,HX,HO,B1,B2,hb⟩:=hrel
  obtain ⟨o0,o1,o2,of⟩:=qM B2.out
  have o4:=of 0;have o5:=of 1;have o6:=of 2
  clear of
  by_cases hx0:x=0
  ·have hall:∀ i,k≤i→i < row.length→c.f.testBit i=false:=fun i h1 _=>by
    have:=HX.out i
    rw [hx0,Nat.zero_testBit] at this
    simp [h1] at this
    exact this
   have HE:Hid (o=z):=by show o=z;rw [← HO.out,← HZ.out];exact (oB hk hall).symm
   have hx00:(x:Int)=0:=by omega
   subst hx0
   obtain ⟨d0,d1,d2,df⟩:=qM B1.out
   have d4:=df 0;have d5:=df 1;have d6:=df 2
   clear df hx00 hall
   go_wp2
   refine bodyPost_ret (v:=.agg #[.int .u64 (o.f:Int),.int .i64 o.k,.int .i64 o.v]) ?_ rfl ⟨by rw [HE.out],?_⟩
   ·simp [results,results174,go_sem,d0,d1,d2]
   ·exact (((hb.setCell (p:=⟨w.heap.size+1,0,none⟩) (by simp) _).setCell (p:=⟨w.heap.size+1,1,none⟩) (by simp) _).setCell (p:=⟨w.heap.size+1,2,none⟩) (by simp) _)
  ·obtain ⟨j,hj⟩:∃ j,Lib.ctz 64 x=j:=⟨_,rfl⟩
   have hbx:x.testBit j=true:=by rw [← hj];exact Mc hx0 hx64
   have hbc:c.f.testBit j=true∧k≤j:=by
    have:=HX.out j
    rw [hbx] at this
    simpa using this.symm
   have hjr:j < row.length:=HIN.out j hbc.1
   have hskip:jV row c j=o:=by
    rw [oB hbc.2 (fun i h1 h2=>?_)]
    ·exact HO.out
    ·have h3:=HX.out i
     rw [yF hx0 hx64 (by omega)] at h3
     simp [h1] at h3
     exact h3
   obtain ⟨ba,offa,y,rfl,hy,hba,a0,a1,a2⟩:=(HRA.out.below hb).at_ hjr
   obtain ⟨t,htt⟩:∃ t,join o y=t:=⟨_,rfl⟩
   have HN:Hid (jV row c (j+1)=t):=(Gy hbc.1 hy).trans (by rw [hskip,htt])
   have OO:Hid o.ok:=by rw [← HO.out];exact lX HC.out HOK.out k
   have OY:=Lib.hid (HOK.out j y hy)
   have HTT:=Lib.hid htt
   have HJ:=Lib.hid hj
   have HX2:Hid (∀ i,(x &&& (x - 1)).testBit i=(c.f.testBit i && decide (j+1≤i))):=by
    intro i
    rw [Nw hx0 hx64,hj]
    by_cases h1:i < j
    ·rw [yF hx0 hx64 (by omega)]
     have e9:¬ (j+1≤i):=by omega
     simp [e9]
    ·rw [HX.out i]
     by_cases h2:i=j
     ·subst h2;simp
     ·have e1:k≤i:=by omega
      have e2:j+1≤i:=by omega
      simp [e1,e2,h2]
   have hlt2:x &&& (x - 1) < x:=Rd hx0
   have hxp:(1:Int)≤(x:Int):=by omega
   have hand:bits .and .u64 (x:Int) ((x:Int) - 1)=((x &&& (x - 1):Nat):Int):=by
    rw [← Sd x (x - 1) hx64 (by omega)]
    congr 1
    omega
   obtain ⟨x',hx'⟩:∃ x',x'=x &&& (x - 1):=⟨_,rfl⟩
   rw [← hx'] at HX2 hlt2 hand
   have hne:((x:Int) != 0)=true:=by simp;omega
   have hx9:(x:Int)≤18446744073709551615:=by omega
   have g0:(0:Int)≤(j:Int):=by omega
   have g3:(j:Int) < (row.length:Int):=by omega
   have HX':=Lib.hid hx'
   have HNE:=Lib.hid hx0
   have HBC:=Lib.hid hbc
   clear hbx hbc hskip hy htt hj hx' hx0
   go_wp2_with fail
   go_region_with (first | (go_at_call 179;refine (Nv x HNE.out hx64 _ (HT.out.below (by repeat (first | exact hb | refine Below.drew ?_)))).mono ?_;rintro e w4 ⟨rfl,rfl⟩;rw [HJ.out]) | (go_at_call 171;refine (Cc o y t OO.out OY.out HTT.out _).mono ?_;rintro e w3 ⟨rfl,hb3⟩;have hB3:Below wr.heap.size wr w3:=Below.trans (by repeat (first | exact Below.refl _ _ | refine Below.drew ?_)) hb3;have D1:=Lib.hid (wM B1.out hB3);have D2:=Lib.hid (wM B2.out hB3);obtain ⟨e0,e1,e2,ef⟩:=qM D2.out;have e4:=ef 0;have e5:=ef 1;have e6:=ef 2;clear ef))
   all_goals
    have N2:=Lib.hid (Ow (a':=.int .u64 (t.f:Int)) (b':=.int .i64 t.k) (c':=.int .i64 t.v) D2.out)
    have N1:=Lib.hid (Gz (B:=w.heap.size+1+1+1+1) (a':=.int .u64 (t.f:Int)) (b':=.int .i64 t.k) (c':=.int .i64 t.v) (by omega) D1.out)
    have NB:=Lib.hid ((((hb.trans (hB3.mono hb.size)).setCell (p:=⟨w.heap.size+1+1+1+1,0,none⟩) (by simp;omega) (.int .u64 (t.f:Int))).setCell (p:=⟨w.heap.size+1+1+1+1,1,none⟩) (by simp;omega) (.int .i64 t.k)).setCell (p:=⟨w.heap.size+1+1+1+1,2,none⟩) (by simp;omega) (.int .i64 t.v))
    clear e0 e1 e2 e4 e5 e6 hb3
    go_wp2
    go_roundw
    case rel=>exact ⟨j+1,x',t,by omega,by omega,by first | rfl | rw [hand],HX2,HN,N1,N2,NB.out⟩
    case measure=>simp [intOf];omega
def fT (xs ys:List Cl):List Cl:=ys.map (ofC xs)
def thenR (d:Int) (xs ys:List Cl):List Cl:=if nB d xs ys=0 then fT xs ys else []
theorem G1 {xs ys:List Cl} {n:Nat} (h2:ys.length=n):(fT xs ys).length=n:=by simp [fT,h2]
theorem G3 {w w':World} {B q:Nat} {o2:Nat} {u0 u1 u2:Value} (hb:Below B w w') (hq:q < B)
  (h:w.cell? ⟨q,o2,none⟩=some u0∧w.cell? ⟨q,o2+1,none⟩=some u1∧w.cell? ⟨q,o2+2,none⟩=some u2) :
  w'.cell? ⟨q,o2,none⟩=some u0∧w'.cell? ⟨q,o2+1,none⟩=some u1∧w'.cell? ⟨q,o2+2,none⟩=some u2:=by
 obtain ⟨b0,b1,b2⟩:=h
 exact ⟨(hb.cell (p:=⟨q,_,none⟩) hq).trans b0,(hb.cell (p:=⟨q,_,none⟩) hq).trans b1,(hb.cell (p:=⟨q,_,none⟩) hq).trans b2⟩
def z0:Cl:=⟨0,0,0⟩
theorem Ce (n:Nat):(madeCells (Value.agg #[.int .u64 0,.int .i64 0,.int .i64 0]).cells (n * 3)).toList=flat (List.replicate n z0):=by
 have hc:(Value.agg #[.int .u64 0,.int .i64 0,.int .i64 0]).cells=#[.int .u64 0,.int .i64 0,.int .i64 0]:=rfl
 rw [hc]
 apply List.ext_getElem?
 intro j
 by_cases hj:j < n * 3
 ·have e:(List.replicate n z0)[j / 3]?=some z0:=by rw [List.getElem?_replicate,if_pos (by omega)]
  obtain ⟨f0,f1,f2⟩:=oW e
  have hr:j % 3=0∨j % 3=1∨j % 3=2:=by omega
  have hlt:j < (madeCells #[Value.int .u64 0,.int .i64 0,.int .i64 0] (n * 3)).toList.length:=by simp [madeCells];exact hj
  rcases hr with h | h | h
  ·have ej:j=j / 3 * 3:=by omega
   rw [← ej] at f0
   rw [f0,List.getElem?_eq_getElem hlt]
   simp [madeCells,h,z0]
  ·have ej:j=j / 3 * 3+1:=by omega
   rw [← ej] at f1
   rw [f1,List.getElem?_eq_getElem hlt]
   simp [madeCells,h,z0]
  ·have ej:j=j / 3 * 3+2:=by omega
   rw [← ej] at f2
   rw [f2,List.getElem?_eq_getElem hlt]
   simp [madeCells,h,z0]
 ·rw [List.getElem?_eq_none (by simp [madeCells];omega),List.getElem?_eq_none (by rw [nD];simp;omega)]
theorem Cf {full:List Cl} {n k:Nat} {z:Cl} (hl:full.length=n) (hz:full[k]?=some z):(full.take k++List.replicate (n - k) z0).set k z=full.take (k+1)++List.replicate (n - (k+1)) z0:=by
 obtain ⟨hk,ex⟩:=List.getElem?_eq_some_iff.1 hz
 have hl2:(full.take k).length=k:=by simp;omega
 rw [List.set_append_right _ _ (by omega),hl2,Nat.sub_self,show n - k=(n - (k+1))+1 by omega,List.replicate_succ,List.set_cons_zero,List.take_succ_eq_append_getElem hk,List.append_assoc,ex]
 rfl
theorem Mn {full:List Cl} {n k:Nat} (hl:full.length=n) (hk:k < n):(full.take k++List.replicate (n - k) z0)[k]?=some z0:=by
 have hl2:(full.take k).length=k:=by simp;omega
 rw [List.getElem?_append_right (by omega),hl2,Nat.sub_self,List.getElem?_replicate,if_pos (by omega)]
theorem Se {full:List Cl} {n k:Nat} (hl:full.length=n) (hk:k≤n):(full.take k++List.replicate (n - k) z0).length=n:=by simp;omega
theorem okAt_in {n:Nat} {c:Cl} (hf:c.f < 18446744073709551616) (h:jN n c=true) (i:Nat) (hb:c.f.testBit i=true):i < n:=by
 have h1:jQ n c.f=true:=by
  unfold jN lR at h
  cases hi:jQ n c.f
  ·rw [hi] at h;simp at h
  ·rfl
 rcases Nat.lt_or_ge i n with hi | hi
 ·exact hi
 ·rcases Nat.lt_or_ge i 64 with h64 | h64
  ·rw [(Gd n c.f hf).1 h1 i hi h64] at hb;cases hb
  ·rw [Nat.testBit_lt_two_pow (Nat.lt_of_lt_of_le hf (Nat.le_trans (by decide:18446744073709551616≤2 ^ 64) (Nat.pow_le_pow_right (by decide) h64)))] at hb;cases hb
set_option maxHeartbeats 2000000 in
theorem Sf (d:Int) (a b:Option Addr) (capa capb:Nat) (xs ys:List Cl) (w:World) (ht:Tabs w) (hma:xs.length≤maxLen) (hmb:ys.length≤maxLen) (hra:eZ w a xs) (hrb:eZ w b ys) (hba:oQ xs) (hbb:oQ ys) (c:Int) (hc:nB d xs ys=c) :
  Calls prog 169 #[.int .i64 d,.slice a xs.length capa,.slice b ys.length capb] w (jU (thenR d xs ys) c w):=by
 have HT:=Lib.hid ht
 have HMA:=Lib.hid hma;have HMB:=Lib.hid hmb;have HRA:=Lib.hid hra;have HRB:=Lib.hid hrb;have HBA:=Lib.hid hba;have HBB:=Lib.hid hbb
 have HC:=Lib.hid hc
 clear ht hma hmb hra hrb hba hbb
 by_cases h0:c=0
 ·subst h0
  obtain ⟨k1,k2⟩:=yT hc
  obtain ⟨d0,d1,la,oka⟩:=mC k1
  obtain ⟨_,_,lb,okb⟩:=mC k2
  obtain ⟨n,rfl⟩:∃ n:Nat,d=n:=⟨d.toNat,by omega⟩
  have hla:xs.length=n:=by omega
  have hlb:ys.length=n:=by omega
  have HR:=Lib.hid (show thenR n xs ys=fT xs ys by simp [thenR,hc])
  have HN:=Lib.hid (G1 (xs:=xs) hlb)
  have OKA:=Lib.hid oka;have OKB:=Lib.hid okb
  have ga1:n≤xs.length:=by omega
  have gb1:n≤ys.length:=by omega
  have ga2:xs.length≤n:=by omega
  have gb2:ys.length≤n:=by omega
  have hn:n≤64:=by omega
  obtain ⟨i0,hi,hz0,hz1,hz2⟩:=info_parts R7
  clear hc k1 k2 d0 d1 la oka lb okb hla hlb
  go_enter func169,ntmps169
  go_wp2_with fail
  refine (kZ _ a b capa capb xs ys _ HMA.out HMB.out HRA.out HRB.out HBA.out HBB.out 0 HC.out).mono ?_
  rintro e w1 ⟨rfl,hb1⟩
  go_wp2_with (at_make;refine wpList_make_full _ rfl (.tmp 18) (.tmp 18) 41 rfl w.heap.size 105 i0 _ 3 underlying41 hi hz0 hz1 .i64 .i64 (n:Int) (n:Int) n rfl rfl rfl rfl (by rw [hz2];omega) (by unfold maxLen;omega) hb1.size ?_;intro w2 hown2 hgrow2)
  have HO1:Hid (w2.ownsRow w.heap.size 105 3 (.slice (some ⟨w1.heap.size,0,none⟩) n n) n (flat ((fT xs ys).take 0++List.replicate (n - 0) z0))):=by
   rw [List.take_zero,List.nil_append,Nat.sub_zero,← Ce];exact hown2
  have hb2:Below w.heap.size w w2:=hb1.grown hgrow2 hb1.size (fun j e=>by cases e)
  have hsz:=hb1.size
  clear hown2
  go_wp2_with fail
  go_loopw [21] (fun i wr=>∃ k:Nat,k≤n∧i = .int .i64 k∧Hid (wr.ownsRow w.heap.size 105 3 (.slice (some ⟨w1.heap.size,0,none⟩) n n) n (flat ((fT xs ys).take k++List.replicate (n - k) z0)))∧Below w.heap.size w wr) (fun i _=>n - (intOf i).toNat)
  case atStart=>exact ⟨0,Nat.zero_le _,rfl,HO1,hb2⟩
  case round =>
   obtain ⟨k,hk,rfl,HO,hb⟩:=hrel
   by_cases hlt:k < n
   ·obtain ⟨bb,offb,y,rfl,hy,hbb,b0,b1,b2⟩:=HRB.out.at_ (show k < ys.length by omega)
    have HF:Hid (_∧_∧_):=⟨b0,b1,b2⟩
    clear b0 b1 b2
    obtain ⟨b0,b1,b2⟩:=G3 hb hbb HF.out
    have OY:=Lib.hid (Ee HBB.out OKB.out hy)
    have OIN:Hid (∀ i,y.f.testBit i=true→i < xs.length):=fun i h=>Nat.lt_of_lt_of_le (okAt_in OY.out.1 (List.all_eq_true.1 OKB.out y (List.mem_of_getElem? hy)) i h) (by omega)
    have OAL:Hid (∀ (i:Nat) x,xs[i]?=some x→x.ok):=fun i x hi=>Ee HBA.out OKA.out hi
    obtain ⟨z,hz⟩:∃ z,ofC xs y=z:=⟨_,rfl⟩
    have HZ:=Lib.hid (Cf (full:=fT xs ys) (n:=n) (k:=k) (z:=z) HN.out (by rw [← hz];simp [fT,hy]))
    have HA:=Lib.hid (Mn (full:=fT xs ys) (n:=n) HN.out hlt)
    have HLEN:=Lib.hid (Se (full:=fT xs ys) (n:=n) HN.out hk)
    have HJ:=Lib.hid hz
    clear hy hz
    have g0:(0:Int)≤(k:Int):=by omega
    have g2:(k:Int) < (ys.length:Int):=by omega
    have g3:(k:Int) < (n:Int):=by omega
    go_wp2_with (go_at_call 174;refine (Ox a capa xs y _ (HT.out.below hb) (by omega) (HRA.out.below hb) OAL.out OY.out OIN.out z HJ.out).mono ?_;rintro e w3 ⟨rfl,hb3⟩;have hB3:Below wr.heap.size wr w3:=hb3;have o3:=Cb HO.out hB3;have f3:=oW HA.out;have e0:=(o3.cellAt (k * 3) (by omega)).trans f3.1;have e1:=(o3.cellAt (k * 3+1) (by omega)).trans f3.2.1;have e2:=(o3.cellAt (k * 3+2) (by omega)).trans f3.2.2;have q0:=o3.frozenAt (k * 3);have q1:=o3.frozenAt (k * 3+1);have q2:=o3.frozenAt (k * 3+2);have O3:=Lib.hid o3;clear o3 f3)
    have HS:=Lib.hid (yU O3.out (by rw [HLEN.out];exact hlt) z)
    rw [HZ.out] at HS
    have HB:Hid (Below w.heap.size w (((w3.setCell ⟨w1.heap.size,k * 3,none⟩ (.int .u64 (z.f:Int))).setCell ⟨w1.heap.size,k * 3+1,none⟩ (.int .i64 z.k)).setCell ⟨w1.heap.size,k * 3+2,none⟩ (.int .i64 z.v))):=(((hb.trans (hB3.mono hb.size)).setCell (p:=⟨w1.heap.size,k * 3,none⟩) hsz _).setCell (p:=⟨w1.heap.size,k * 3+1,none⟩) hsz _).setCell (p:=⟨w1.heap.size,k * 3+2,none⟩) hsz _
    clear e0 e1 e2 q0 q1 q2 O3
    go_wp2
    go_roundw
    case rel=>exact ⟨k+1,by omega,by go_num,HS,HB.out⟩
    case measure=>simp [intOf];omega
   ·obtain rfl:n=k:=by omega
    have HE:Hid (wr.ownsRow w.heap.size 105 3 (.slice (some ⟨w1.heap.size,0,none⟩) n n) n (flat (thenR n xs ys))):=by
     have:=HO.out
     rw [List.take_of_length_le (by rw [HN.out];exact Nat.le_refl _),Nat.sub_self,List.replicate_zero,List.append_nil] at this
     rw [HR.out];exact this
    go_wp2
    go_ret2
    exact Ed HE.out hb 0
 ·have HR:=Lib.hid (show thenR d xs ys=[] by simp [thenR,hc,h0])
  have hne:(c != 0)=true:=by simpa using h0
  clear hc h0
  go_enter func169,ntmps169
  go_wp2_with fail
  refine (kZ _ a b capa capb xs ys _ HMA.out HMB.out HRA.out HRB.out HBA.out HBB.out c HC.out).mono ?_
  rintro e w1 ⟨rfl,hb1⟩
  go_wp2
  go_ret2
  rw [HR.out]
  exact oX c hb1
def oC (k:Nat):Cl:=⟨2 ^ k,0,0⟩
def iG (n:Nat):List Cl:=(List.range n).map oC
def yV (d:Int):List Cl:=if pT d=0 then iG d.toNat else []
theorem lI (n:Nat):(iG n).length=n:=by simp [iG]
theorem xI {n k:Nat} (hk:k < n):(iG n)[k]?=some (oC k):=by
 simp [iG,List.getElem?_range hk]
theorem pow_u64 {k:Nat} (hk:k < 64):IntKind.u64.wrap (2 ^ k:Int)=((2 ^ k:Nat):Int):=by
 have h:2 ^ k < 18446744073709551616:=Nat.lt_of_lt_of_le (Nat.pow_lt_pow_right (by decide) hk) (by decide)
 have e:(2 ^ k:Int)=((2 ^ k:Nat):Int):=by simp
 rw [e]
 generalize 2 ^ k=q at h
 simp [IntKind.wrap,IntKind.signed,IntKind.bits]
 omega
theorem Cg:∀ (cs:List Cl) (i:Nat) (f f':Nat),cs[i]?=some ⟨f,0,0⟩→(flat cs).set (i * 3) (.int .u64 (f':Int))=flat (cs.set i ⟨f',0,0⟩)
 | [],i,f,f',h=>by simp at h
 | x::r,0,f,f',h=>by
  simp at h;subst h
  simp [jH,vals]
 | x::r,i+1,f,f',h=>by
  have ih:=Cg r i f f' (by simpa using h)
  have e0:(i+1) * 3=i * 3+3:=by omega
  rw [e0,jH,List.set_cons_succ,jH,← ih]
  simp [vals]
theorem Jx {w:World} {base g n cap k:Nat} {E:Nat} {cs:List Cl} {f:Nat} (h:w.ownsRow base E 3 (.slice (some ⟨g,0,none⟩) n cap) n (flat cs)) (hk:cs[k]?=some ⟨f,0,0⟩) (f':Nat) :
  (w.setCell ⟨g,k * 3,none⟩ (.int .u64 (f':Int))).ownsRow base E 3 (.slice (some ⟨g,0,none⟩) n cap) n (flat (cs.set k ⟨f',0,0⟩)):=by
 rw [← Cg cs k f f' hk]
 exact (h.stored (k * 3) _).1
set_option maxHeartbeats 2000000 in
theorem Sh (n:Nat) (w:World) (hn:n≤64):Calls prog 166 #[.int .i64 n] w (vN (iG n) w):=by
 obtain ⟨i0,hi,hz0,hz1,hz2⟩:=info_parts R7
 have HN:=Lib.hid (lI n)
 go_enter func166,ntmps166
 go_wp2_with (at_make;refine wpList_make_full _ rfl (.tmp 5) (.tmp 5) 41 rfl w.heap.size 105 i0 _ 3 underlying41 hi hz0 hz1 .i64 .i64 (n:Int) (n:Int) n rfl rfl rfl rfl (by rw [hz2];omega) (by unfold maxLen;omega) (Nat.le_refl _) ?_;intro w2 hown2 hgrow2)
 have HO1:Hid (w2.ownsRow w.heap.size 105 3 (.slice (some ⟨w.heap.size,0,none⟩) n n) n (flat ((iG n).take 0++List.replicate (n - 0) z0))):=by
  rw [List.take_zero,List.nil_append,Nat.sub_zero,← Ce];exact hown2
 have hb2:Below w.heap.size w w2:=(Below.refl _ _).grown hgrow2 (Nat.le_refl _) (fun j e=>by cases e)
 clear hown2
 go_wp2_with fail
 go_loopw [8] (fun i wr=>∃ k:Nat,k≤n∧i = .int .i64 k∧Hid (wr.ownsRow w.heap.size 105 3 (.slice (some ⟨w.heap.size,0,none⟩) n n) n (flat ((iG n).take k++List.replicate (n - k) z0)))∧Below w.heap.size w wr) (fun i _=>n - (intOf i).toNat)
 case atStart=>exact ⟨0,Nat.zero_le _,rfl,HO1,hb2⟩
 case round =>
  obtain ⟨k,hk,rfl,HO,hb⟩:=hrel
  by_cases hlt:k < n
  ·have HZ:=Lib.hid (Cf (full:=iG n) (n:=n) (k:=k) HN.out (xI hlt))
   have HA:=Lib.hid (Mn (full:=iG n) (n:=n) HN.out hlt)
   have HW:=Lib.hid (pow_u64 (k:=k) (by omega))
   have f3:=oW HA.out
   have e0:=(HO.out.cellAt (k * 3) (by omega)).trans f3.1
   have q0:=HO.out.frozenAt (k * 3)
   clear f3
   have g0:(0:Int)≤(k:Int):=by omega
   have g1:k < 64:=by omega
   have g2:(k:Int) < 64:=by omega
   have g3:(k:Int) < (n:Int):=by omega
   have HS:=Lib.hid (Jx HO.out HA.out (2 ^ k))
   rw [show (⟨2 ^ k,0,0⟩:Cl)=oC k from rfl,HZ.out,← HW.out] at HS
   have HB:Hid (Below w.heap.size w (wr.setCell ⟨w.heap.size,k * 3,none⟩ (.int .u64 (IntKind.u64.wrap (2 ^ k))))):=hb.setCell (p:=⟨w.heap.size,k * 3,none⟩) (Nat.le_refl _) _
   go_wp2
   go_roundw
   case rel=>exact ⟨k+1,by omega,by go_num,HS,HB.out⟩
   case measure=>simp [intOf];omega
  ·obtain rfl:n=k:=by omega
   have HE:Hid (wr.ownsRow w.heap.size 105 3 (.slice (some ⟨w.heap.size,0,none⟩) n n) n (flat (iG n))):=by
    have:=HO.out
    rw [List.take_of_length_le (by rw [HN.out];exact Nat.le_refl _),Nat.sub_self,List.replicate_zero,List.append_nil] at this
    exact this
   go_wp2
   go_ret
   exact ⟨_,rfl,by rw [HN.out];exact HE.out,hb⟩
theorem Eh {cs:List Cl} {w w1 w2:World} {v:Value} (hb1:Below w.heap.size w w1) (hown:w2.ownsRow w1.heap.size 105 3 v cs.length (flat cs)) (hb2:Below w1.heap.size w1 w2) (err:Int):jU cs err w (.returned (.tuple #[v,.int .i64 err])) w2:=by
 obtain ⟨_,a2,cap2,rfl,hr2,hf2⟩:=nE hown
 exact ⟨a2,cap2,rfl,hr2,fun ad e=>⟨Nat.le_trans hb1.size (hf2 ad e).1,(hf2 ad e).2.2⟩,hb1.trans (hb2.mono hb1.size)⟩
theorem Jy {d:Int} (h:pT d=0):∃ n:Nat,d=n∧n≤64:=by
 by_cases hd:d < 0∨64 < d
 ·simp [pT,hd] at h
 ·exact ⟨d.toNat,by omega,by omega⟩
set_option maxHeartbeats 2000000 in
theorem one_any (d:Int) (w:World) (c:Int) (hc:pT d=c) :
  Calls prog 147 #[.int .i64 d] w (jU (yV d) c w):=by
 have HC:=Lib.hid hc
 by_cases h0:c=0
 ·subst h0
  obtain ⟨n,rfl,hn⟩:=Jy hc
  have HR:=Lib.hid (show yV n=iG n by simp [yV,hc])
  clear hc
  go_enter func147,ntmps147
  go_wp2_with (go_at_call 154;refine (lG _ _ 0 HC.out).mono ?_;rintro e w' ⟨rfl,rfl⟩)
  refine (Sh n _ hn).mono ?_
  rintro e w2 ⟨v,rfl,hown,hb2⟩
  have HO:=Lib.hid hown
  clear hown
  go_wp2
  go_ret2
  rw [HR.out]
  exact Eh (Below.refl _ _) HO.out hb2 0
 ·have HR:=Lib.hid (show yV d=[] by simp [yV,hc,h0])
  have hne:(c != 0)=true:=by simpa using h0
  clear hc h0
  go_enter func147,ntmps147
  go_wp2_with (go_at_call 154;refine (lG _ _ c HC.out).mono ?_;rintro e w' ⟨rfl,rfl⟩)
  go_ret2
  rw [HR.out]
  exact oX c (Below.refl _ _)
structure IsCells (w:World) (a:Option Addr) (len cap:Nat) (xs:List Cl):Prop where
 len:len=xs.length
 max:xs.length≤maxLen
 row:eZ w a xs
 bits:oQ xs
set_option linter.unusedSimpArgs false
def jI:Cl:=⟨0,2,0⟩
theorem iH {c:Cl} (h:c.ok):(∃ f,c=⟨f,0,0⟩)∨(∃ f v,c=⟨f,1,v⟩)∨c=jI:=by
 obtain ⟨f,k,v⟩:=c
 obtain ⟨_,h⟩:=h
 simp only at h
 unfold dX at h
 split at h
 ·rename_i h2;left;simp at h;subst h;subst h2;exact ⟨f,rfl⟩
 ·split at h
  ·rename_i h2;right;left;subst h2;exact ⟨f,v,rfl⟩
  ·split at h
   ·rename_i h2;right;right;subst h2;simp at h;obtain ⟨rfl,rfl⟩:=h;rfl
   ·cases h
theorem oD {a b:Cl} (ha:a.ok) (hb:b.ok):join a b=join b a:=by
 rcases iH ha with ⟨f,rfl⟩ | ⟨f,v,rfl⟩ | rfl<;>rcases iH hb with ⟨f2,rfl⟩ | ⟨f2,v2,rfl⟩ | rfl
 all_goals (try (simp [join,joinK,eN,jI,Nat.or_comm];done))
 by_cases hv:v=v2
 ·subst hv;simp [join,joinK,eN,Nat.or_comm]
 ·have hv2:¬ v2=v:=fun h=>hv h.symm
  simp [join,joinK,eN,hv,hv2]
theorem vO {a:Cl} (ha:a.ok):join a a=a:=by
 rcases iH ha with ⟨f,rfl⟩ | ⟨f,v,rfl⟩ | rfl<;>simp [join,joinK,eN,jI]
theorem vQ {a:Cl} (ha:a.ok):join jI a=jI:=by
 rcases iH ha with ⟨f,rfl⟩ | ⟨f,v,rfl⟩ | rfl<;>simp [join,joinK,eN,jI]
theorem fR {a b c:Cl} (ha:a.ok) (hb:b.ok) (hc:c.ok):join (join a b) c=join a (join b c):=by
 rcases iH ha with ⟨f,rfl⟩ | ⟨f,v,rfl⟩ | rfl<;>rcases iH hb with ⟨f2,rfl⟩ | ⟨f2,v2,rfl⟩ | rfl<;>rcases iH hc with ⟨f3,rfl⟩ | ⟨f3,v3,rfl⟩ | rfl
 all_goals (try (simp [join,joinK,eN,jI,Nat.or_assoc];done))
 all_goals (try (by_cases h1:v=v2<;>simp [join,joinK,eN,jI,Nat.or_assoc,h1];done))
 all_goals (try (by_cases h1:v=v3<;>simp [join,joinK,eN,jI,Nat.or_assoc,h1];done))
 all_goals (try (by_cases h1:v2=v3<;>simp [join,joinK,eN,jI,Nat.or_assoc,h1];done))
 by_cases h1:v=v2
 ·subst h1
  by_cases h2:v=v3<;>simp [join,joinK,eN,jI,Nat.or_assoc,h2]
 ·by_cases h2:v2=v3
  ·subst h2;simp [join,joinK,eN,h1]
  ·simp [join,joinK,eN,h1,h2]
theorem yW {x a y b:Cl} (hx:x.ok) (ha:a.ok) (hy:y.ok) (hb:b.ok):join (join x a) (join y b)=join (join x y) (join a b):=by
 rw [fR hx ha (nF hy hb),← fR ha hy hb,oD ha hy,fR hy ha hb,← fR hx hy (nF ha hb)]
def Oks (xs:List Cl):Prop:=∀ (i:Nat) x,xs[i]?=some x→x.ok
theorem base_ok {c:Cl} (h:c.ok):(⟨0,c.k,c.v⟩:Cl).ok:=⟨by simp,qL h.2⟩
theorem Ch {row:List Cl} (hr:Oks row) {x y:Cl} (hx:x.ok) (hy:y.ok):∀ n,jV row (join x y) n=join (jV row x n) (jV row y n)
 | 0=>by
  show (⟨0,(join x y).k,(join x y).v⟩:Cl)=join ⟨0,x.k,x.v⟩ ⟨0,y.k,y.v⟩
  simp [join]
 | n+1=>by
  have ih:=Ch hr hx hy n
  have ox:=lX hx hr n
  have oy:=lX hy hr n
  have ob:=lX (nF hx hy) hr n
  rcases hrow:row[n]? with _ | A
  ·simp only [gV,lT,hrow]
   split<;>split<;>split<;>exact ih
  ·have oA:=hr n A hrow
   by_cases hm:joinK x.k x.v y.k y.v=2
   ·have hz:join x y=jI:=by
     rcases iH (nF hx hy) with ⟨f,e⟩ | ⟨f,v,e⟩ | e
     ·have:=congrArg Cl.k e;simp [join,hm] at this
     ·have:=congrArg Cl.k e;simp [join,hm] at this
     ·exact e
    have hall:∀ m,jV row (join x y) m=jI:=by
     intro m
     rw [hz,oB (Nat.zero_le m) (fun i _ _=>by simp [jI])]
     rfl
    have e1:join (jV row x n) (jV row y n)=jI:=by rw [← ih,hall n]
    rw [hall]
    simp only [gV,lT,hrow]
    split<;>split
    ·rw [yW ox oA oy oA,e1,vQ (nF oA oA)]
    ·rw [oD ox oA,fR oA ox oy,e1,oD oA (by rw [← e1];exact nF ox oy),vQ oA]
    ·rw [← fR ox oy oA,e1,vQ oA]
    ·exact e1.symm
   ·have hf:(join x y).f=x.f ||| y.f:=by simp [join,hm]
    simp only [gV,lT,hrow,hf,Nat.testBit_or]
    rw [ih]
    cases hbx:x.f.testBit n<;>cases hby:y.f.testBit n<;>simp
    ·rw [fR ox oy oA]
    ·rw [fR ox oy oA,oD oy oA,← fR ox oA oy]
    ·rw [yW ox oA oy oA,vO oA]
theorem Si {row:List Cl} (hr:Oks row) {x y:Cl} (hx:x.ok) (hy:y.ok):ofC row (join x y)=join (ofC row x) (ofC row y):=Ch hr hx hy _
theorem Ci {xs ys:List Cl} (hl:ys.length=xs.length) (hx:Oks xs) (hy:Oks ys) {c:Cl} (hc:c.ok):∀ n,jV (dF xs ys) c n=join (jV xs c n) (jV ys c n)
 | 0=>(vO (base_ok hc)).symm
 | n+1=>by
  have ih:=Ci hl hx hy hc n
  have o1:=lX hc hx n
  have o2:=lX hc hy n
  by_cases hn:n < xs.length
  ·have e1:xs[n]?=some xs[n]:=List.getElem?_eq_getElem hn
   have e2:ys[n]?=some (ys[n]'(by omega)):=List.getElem?_eq_getElem (by omega)
   have e3:(dF xs ys)[n]?=some (join xs[n] (ys[n]'(by omega))):=by simp [dF,List.getElem?_zipWith,e1,e2]
   simp only [gV,lT,e1,e2,e3]
   split
   ·rw [ih,yW o1 (hx n _ e1) o2 (hy n _ e2)]
   ·exact ih
  ·have e1:xs[n]?=none:=List.getElem?_eq_none (by omega)
   have e2:ys[n]?=none:=List.getElem?_eq_none (by omega)
   have e3:(dF xs ys)[n]?=none:=List.getElem?_eq_none (by simp [dF];omega)
   simp only [gV,lT,e1,e2,e3]
   split<;>exact ih
set_option linter.unusedSimpArgs false
theorem gS {n:Nat} {c:Cl}:jN n c=true↔c.f < 2 ^ n∧dX c.f c.k c.v=true:=by
 unfold jN lR jQ
 rw [Bool.and_eq_true,beq_iff_eq,Nat.div_eq_zero_iff]
 constructor
 ·rintro ⟨h | h,h2⟩
  ·have:=Nat.two_pow_pos n;omega
  ·exact ⟨h,h2⟩
 ·rintro ⟨h,h2⟩;exact ⟨.inr h,h2⟩
theorem lJ {n f:Nat} (hn:n≤64) (h:f < 2 ^ n):f < 18446744073709551616 :=
 Nat.lt_of_lt_of_le h (Nat.le_trans (Nat.pow_le_pow_right (by decide) hn) (by decide))
structure Val (n:Nat) (xs:List Cl):Prop where
 le:n≤64
 len:xs.length=n
 ok:∀ (i:Nat) c,xs[i]?=some c→jN n c=true
theorem Val.oks {n:Nat} {xs:List Cl} (h:Val n xs):Oks xs:=fun i c hi=>by
 obtain ⟨h1,h2⟩:=gS.1 (h.ok i c hi)
 exact ⟨lJ h.le h1,h2⟩
theorem Val.bits {n:Nat} {xs:List Cl} (h:Val n xs):oQ xs:=fun c hc=>by
 obtain ⟨i,hi,e⟩:=List.mem_iff_getElem.1 hc
 exact (h.oks i c (by rw [← e];exact List.getElem?_eq_getElem hi)).1
theorem Val.chk {n:Nat} {xs:List Cl} (h:Val n xs):lS n xs=0:=by
 refine vL h.le h.len (Nat.le_refl _) ?_
 rw [List.take_length,List.all_eq_true]
 intro c hc
 obtain ⟨i,hi,e⟩:=List.mem_iff_getElem.1 hc
 exact h.ok i c (by rw [← e];exact List.getElem?_eq_getElem hi)
theorem Val.chk2 {n:Nat} {xs ys:List Cl} (h:Val n xs) (h2:Val n ys):nB n xs ys=0:=by
 unfold nB
 rw [h.chk,h2.chk];rfl
theorem val_of {d:Int} {xs:List Cl} (h:lS d xs=0):∃ n:Nat,d=n∧Val n xs:=by
 obtain ⟨d0,d1,la,oka⟩:=mC h
 refine ⟨d.toNat,by omega,by omega,by omega,fun i c hi=>?_⟩
 exact List.all_eq_true.1 oka c (List.mem_of_getElem? hi)
theorem Cj {n:Nat} {a b:Cl} (ha:jN n a=true) (hb:jN n b=true) (hn:n≤64):jN n (join a b)=true:=by
 obtain ⟨h1,h2⟩:=gS.1 ha
 obtain ⟨h3,h4⟩:=gS.1 hb
 have h5:=nF (a:=a) (b:=b) ⟨lJ hn h1,h2⟩ ⟨lJ hn h3,h4⟩
 refine gS.2 ⟨?_,h5.2⟩
 show (if joinK a.k a.v b.k b.v=2 then 0 else a.f ||| b.f) < 2 ^ n
 split
 ·exact Nat.two_pow_pos n
 ·exact Nat.or_lt_two_pow h1 h3
theorem uB {n:Nat} {xs ys:List Cl} (hx:Val n xs) (hy:Val n ys):Val n (dF xs ys):=by
 refine ⟨hx.le,by simp [dF,hx.len,hy.len],fun i c hi=>?_⟩
 simp [dF,List.getElem?_zipWith] at hi
 split at hi
 ·rename_i a b ha hb
  cases hi
  exact Cj (hx.ok i a ha) (hy.ok i b hb) hx.le
 ·cases hi
theorem Ck {n:Nat} {xs:List Cl} (hx:Val n xs) {c:Cl} (hc:jN n c=true):∀ m,jN n (jV xs c m)=true
 | 0=>gS.2 ⟨Nat.two_pow_pos n,qL (gS.1 hc).2⟩
 | m+1=>by
  have ih:=Ck hx hc m
  rw [gV,lT]
  split
  ·split
   ·rename_i a h;exact Cj ih (hx.ok m a h) hx.le
   ·exact ih
  ·exact ih
theorem G4 {n:Nat} {xs ys:List Cl} (hx:Val n xs) (hy:Val n ys):Val n (fT xs ys):=by
 refine ⟨hx.le,by simp [fT,hy.len],fun i c hi=>?_⟩
 simp [fT] at hi
 obtain ⟨y,h1,rfl⟩:=hi
 exact Ck hx (hy.ok i y h1) _
theorem G5 {n:Nat} (hn:n≤64):Val n (iG n):=by
 refine ⟨hn,lI n,fun i c hi=>?_⟩
 have h1:i < n:=by rw [← lI n];exact (List.getElem?_eq_some_iff.1 hi).1
 rw [xI h1] at hi
 cases hi
 exact gS.2 ⟨Nat.pow_lt_pow_right (by decide) h1,by simp [dX,oC]⟩
theorem Cm {n:Nat} {xs:List Cl} (hx:Val n xs):dF xs xs=xs:=by
 apply List.ext_getElem?
 intro i
 simp [dF,List.getElem?_zipWith]
 rcases h:xs[i]? with _ | c
 ·rfl
 ·simp [vO (hx.oks i c h)]
theorem Oy {n:Nat} {xs ys:List Cl} (hx:Val n xs) (hy:Val n ys):dF xs ys=dF ys xs:=by
 apply List.ext_getElem?
 intro i
 simp only [dF,List.getElem?_zipWith]
 rcases h:xs[i]? with _ | c<;>rcases h2:ys[i]? with _ | c2<;>simp
 exact oD (hx.oks i c h) (hy.oks i c2 h2)
theorem yX {n:Nat} {xs ys zs:List Cl} (hx:Val n xs) (hy:Val n ys) (hz:Val n zs):dF (dF xs ys) zs=dF xs (dF ys zs):=by
 apply List.ext_getElem?
 intro i
 simp only [dF,List.getElem?_zipWith]
 rcases h:xs[i]? with _ | c<;>rcases h2:ys[i]? with _ | c2<;>rcases h3:zs[i]? with _ | c3<;>simp
 exact fR (hx.oks i c h) (hy.oks i c2 h2) (hz.oks i c3 h3)
theorem Oz {n:Nat} {xs ys zs:List Cl} (hx:Val n xs) (hy:Val n ys) (hz:Val n zs):fT xs (dF ys zs)=dF (fT xs ys) (fT xs zs):=by
 apply List.ext_getElem?
 intro i
 simp only [dF,fT,List.getElem?_map,List.getElem?_zipWith]
 rcases h2:ys[i]? with _ | c2<;>rcases h3:zs[i]? with _ | c3<;>simp
 exact Si hx.oks (hy.oks i c2 h2) (hz.oks i c3 h3)
theorem O0 {n:Nat} {xs ys zs:List Cl} (hx:Val n xs) (hy:Val n ys) (hz:Val n zs):fT (dF xs ys) zs=dF (fT xs zs) (fT ys zs):=by
 apply List.ext_getElem?
 intro i
 simp only [dF,fT,List.getElem?_map,List.getElem?_zipWith]
 rcases h3:zs[i]? with _ | c3<;>simp
 have h:=Ci (xs:=xs) (ys:=ys) (by rw [hx.len,hy.len]) hx.oks hy.oks (hz.oks i c3 h3) n
 have e:=(uB hx hy).len
 unfold dF at e h
 unfold ofC
 rw [e,h,hx.len,hy.len]
theorem Cn {n:Nat} {c:Cl} (hc:jN n c=true):∀ m,m≤n→jV (iG n) c m=⟨c.f % 2 ^ m,c.k,c.v⟩
 | 0,_=>by simp [jV,Nat.mod_one]
 | m+1,hm=>by
  have ih:=Cn hc m (by omega)
  have hrow:(iG n)[m]?=some (oC m):=xI (by omega)
  rw [gV,lT,ih]
  cases hb:c.f.testBit m
  ·rw [if_neg (by simp)]
   congr 1
   apply Nat.eq_of_testBit_eq
   intro i
   rw [Nat.testBit_mod_two_pow,Nat.testBit_mod_two_pow]
   rcases Nat.lt_or_ge i m with h | h
   ·simp [h,Nat.lt_succ_of_lt h]
   ·rcases Nat.eq_or_lt_of_le h with h2 | h2
    ·subst h2;simp [hb]
    ·have e1:¬ i < m:=by omega
     have e2:¬ i < m+1:=by omega
     simp [e1,e2]
  ·rw [if_pos rfl,hrow]
   have hk:¬ c.k=2:=by
    intro h2
    have:=(gS.1 hc).2
    simp [dX,h2] at this
    rw [this.2] at hb;simp at hb
   have hk0:c.k=0→c.v=0:=by
    intro h2
    have:=(gS.1 hc).2
    simpa [dX,h2] using this
   have hf:c.f % 2 ^ m ||| 2 ^ m=c.f % 2 ^ (m+1):=by
    apply Nat.eq_of_testBit_eq
    intro i
    rw [Nat.testBit_or,Nat.testBit_mod_two_pow,Nat.testBit_mod_two_pow,Nat.testBit_two_pow]
    rcases Nat.lt_or_ge i m with h | h
    ·have e3:¬ m=i:=by omega
     simp [h,Nat.lt_succ_of_lt h,e3]
    ·rcases Nat.eq_or_lt_of_le h with h2 | h2
     ·subst h2;simp [hb]
     ·have e1:¬ i < m:=by omega
      have e2:¬ i < m+1:=by omega
      have e3:¬ m=i:=by omega
      simp [e1,e2,e3]
   by_cases h0:c.k=0
   ·simp [join,joinK,eN,oC,hk,hf,h0,hk0 h0]
   ·simp [join,joinK,eN,oC,hk,hf,h0]
theorem O1 {n:Nat} {xs:List Cl} (hx:Val n xs):fT (iG n) xs=xs:=by
 apply List.ext_getElem?
 intro i
 simp only [fT,List.getElem?_map]
 rcases h:xs[i]? with _ | c
 ·rfl
 ·have h2:=Cn (hx.ok i c h) n (Nat.le_refl _)
  simp
  unfold ofC
  rw [lI,h2,Nat.mod_eq_of_lt (gS.1 (hx.ok i c h)).1]
theorem O5 {c:Cl} (h:c.ok):join ⟨0,0,0⟩ c=c:=by
 rcases iH h with ⟨f,rfl⟩ | ⟨f,v,rfl⟩ | rfl<;>simp [join,joinK,eN,jI]
theorem yY {xs:List Cl} {i:Nat}:∀ m,m≤i→jV xs (oC i) m=⟨0,0,0⟩
 | 0,_=>rfl
 | m+1,h=>by
  rw [Mm (by simp [oC,Nat.testBit_two_pow];omega)]
  exact yY m (by omega)
theorem O6 {n:Nat} {xs:List Cl} (hx:Val n xs) {i:Nat} {c:Cl} (hi:xs[i]?=some c):ofC xs (oC i)=c:=by
 have h1:i < xs.length:=(List.getElem?_eq_some_iff.1 hi).1
 have h2:jV xs (oC i) (i+1)=c:=by
  rw [Gy (by simp [oC,Nat.testBit_two_pow]) hi,yY i (Nat.le_refl _),O5 (hx.oks i c hi)]
 unfold ofC
 rw [oB (k:=i+1) (by omega) (fun j h3 h4=>by simp [oC,Nat.testBit_two_pow];omega),h2]
theorem O8 {n:Nat} {xs:List Cl} (hx:Val n xs):fT xs (iG n)=xs:=by
 apply List.ext_getElem?
 intro i
 simp only [fT,List.getElem?_map]
 rcases Nat.lt_or_ge i n with h | h
 ·have e:xs[i]?=some (xs[i]'(by rw [hx.len];exact h)):=List.getElem?_eq_getElem _
  rw [xI h,e]
  simp [O6 hx e]
 ·rw [List.getElem?_eq_none (by rw [lI];exact h),List.getElem?_eq_none (by rw [hx.len];exact h)]
  rfl
structure PF where
 z:Bool
 c:Int
 g:Nat
 rows:List Nat
 cells:List Cl
def WF.pf (f:WF):PF:=⟨f.z,f.c,f.g,f.rows,f.cells⟩
def dC:PF:=⟨true,0,0,[],[]⟩
def pC (c:Int):PF:=⟨false,c,0,[],[]⟩
def pF (g:Nat) (rows:List Nat):PF:=⟨false,0,g,rows,[]⟩
def pX (cs:List Cl):PF:=⟨false,0,0,[],cs⟩
inductive OkP (t n:Int):PF→Prop
 | zero:OkP t n dC
 | bool (h:t=1):OkP t n (pC 0)
 | cost (c:Int) (h:t=2) (h0:0≤c) (h1:c≤n):OkP t n (pC c)
 | facts (m g:Nat) (rows:List Nat) (h:t=3) (hn:n=(m:Int)) (hg:Good m g rows):OkP t n (pF g rows)
 | cells (m:Nat) (cs:List Cl) (h:t=4) (hn:n=(m:Int)) (hv:Val m cs):OkP t n (pX cs)
def dU (t n:Int) (a b:PF):PF :=
 if a.z=true then b else if b.z=true then a else if t=2 then pC (min a.c b.c) else if t=3 then pF (gQ n a.g a.rows b.g b.rows) (gG n a.g a.rows b.g b.rows) else if t=4 then pX (dF a.cells b.cells) else pC 0
def gM (t n:Int) (a b:PF):PF :=
 if a.z=true then dC else if b.z=true then dC else if t=2 then pC (min (a.c+b.c) n) else if t=3 then pF (mW n a.g a.rows b.g b.rows) (mI n a.g a.rows b.g b.rows) else if t=4 then pX (fT a.cells b.cells) else pC 0
def kK (t n:Int):PF:=if t=3 then pF 0 (gR n.toNat) else if t=4 then pX (iG n.toNat) else pC 0
theorem iR {n:Int} {a:PF} (h:OkP 1 n a):a=dC∨a=pC 0:=by
 cases h with
 | zero=>exact .inl rfl
 | bool h=>exact .inr rfl
 | cost c h h0 h1=>omega
 | facts m g rows h=>omega
 | cells m cs h=>omega
theorem iI {n:Int} {a:PF} (h:OkP 2 n a):a=dC∨∃ c,a=pC c∧0≤c∧c≤n:=by
 cases h with
 | zero=>exact .inl rfl
 | bool h=>omega
 | cost c h h0 h1=>exact .inr ⟨c,rfl,h0,h1⟩
 | facts m g rows h=>omega
 | cells m cs h=>omega
theorem iS {m:Nat} {a:PF} (h:OkP 3 m a):a=dC∨∃ g rows,a=pF g rows∧Good m g rows:=by
 cases h with
 | zero=>exact .inl rfl
 | bool h=>omega
 | cost c h h0 h1=>omega
 | facts k g rows h hn hg =>
  obtain rfl:m=k:=by omega
  exact .inr ⟨g,rows,rfl,hg⟩
 | cells m cs h=>omega
theorem iT {m:Nat} {a:PF} (h:OkP 4 m a):a=dC∨∃ cs,a=pX cs∧Val m cs:=by
 cases h with
 | zero=>exact .inl rfl
 | bool h=>omega
 | cost c h h0 h1=>omega
 | facts k g rows h hn hg=>omega
 | cells k cs h hn hv =>
  obtain rfl:m=k:=by omega
  exact .inr ⟨cs,rfl,hv⟩
theorem dK {t n:Int} {l:Nat} (h:bJ t n l=true):l=0∧((t=1∧n=0)∨(t=2∧0≤n∧n≤1048576)∨(t=3∧∃ m:Nat,n=m∧m≤64)∨(t=4∧∃ m:Nat,n=m∧m≤64)):=by
 obtain ⟨h0,ht⟩:=gL h
 obtain ⟨d0,d1,d2,d3⟩:=oT h
 refine ⟨h0,?_⟩
 rcases ht with rfl | rfl | rfl | rfl
 ·exact .inl ⟨rfl,d2 rfl⟩
 ·exact .inr (.inl ⟨rfl,d0,d1⟩)
 ·exact .inr (.inr (.inl ⟨rfl,n.toNat,by omega,by have:=d3 (.inl rfl);omega⟩))
 ·exact .inr (.inr (.inr ⟨rfl,n.toNat,by omega,by have:=d3 (.inr rfl);omega⟩))
section
variable {t n:Int} {l:Nat} {a b c:PF}
theorem dZ:dU t n dC a=a:=by simp [dU,dC]
theorem eD (ha:OkP t n a):dU t n a dC=a:=by cases ha<;>simp [dU,dC,pC,pF,pX]
theorem nN:gM t n dC a=dC:=by simp [gM,dC]
theorem nO:gM t n a dC=dC:=by simp [gM,dC]
theorem qN:dU 1 n (pC 0) (pC 0)=pC 0:=by simp [dU,pC]
theorem mK (x y:Int):dU 2 n (pC x) (pC y)=pC (min x y):=by simp [dU,pC]
theorem oY (g h:Nat) (xs ys:List Nat):dU 3 n (pF g xs) (pF h ys)=pF (gQ n g xs h ys) (gG n g xs h ys):=by simp [dU,pF]
theorem oZ (xs ys:List Cl):dU 4 n (pX xs) (pX ys)=pX (dF xs ys):=by simp [dU,pX]
theorem Co:gM 1 n (pC 0) (pC 0)=pC 0:=by simp [gM,pC]
theorem Cp (x y:Int):gM 2 n (pC x) (pC y)=pC (min (x+y) n):=by simp [gM,pC]
theorem Cq (g h:Nat) (xs ys:List Nat):gM 3 n (pF g xs) (pF h ys)=pF (mW n g xs h ys) (mI n g xs h ys):=by simp [gM,pF]
theorem Cr (xs ys:List Cl):gM 4 n (pX xs) (pX ys)=pX (fT xs ys):=by simp [gM,pX]
theorem Sj:kK 1 n=pC 0:=by simp [kK]
theorem Sk:kK 2 n=pC 0:=by simp [kK]
theorem Mo (m:Nat):kK 3 m=pF 0 (gR m):=by simp [kK]
theorem Mp (m:Nat):kK 4 m=pX (iG m):=by simp [kK]
theorem xJ (h:bJ t n l=true):OkP t n (kK t n):=by
 rcases (dK h).2 with ⟨rfl,hn⟩ | ⟨rfl,h0,h1⟩ | ⟨rfl,m,rfl,hm⟩ | ⟨rfl,m,rfl,hm⟩
 ·rw [Sj];exact .bool rfl
 ·rw [Sk];exact .cost 0 rfl (by omega) h0
 ·rw [Mo];exact .facts m 0 _ rfl rfl (kR hm)
 ·rw [Mp];exact .cells m _ rfl rfl (G5 hm)
theorem uC (h:bJ t n l=true) (ha:OkP t n a) (hb:OkP t n b):OkP t n (dU t n a b):=by
 rcases (dK h).2 with ⟨rfl,hn⟩ | ⟨rfl,h0,h1⟩ | ⟨rfl,m,rfl,hm⟩ | ⟨rfl,m,rfl,hm⟩
 ·rcases iR ha with rfl | rfl<;>rcases iR hb with rfl | rfl<;>simp only [dZ,eD ha,qN]<;>assumption
 ·rcases iI ha with rfl | ⟨x,rfl,hx⟩
  ·rw [dZ];exact hb
  rcases iI hb with rfl | ⟨y,rfl,hy⟩
  ·rw [eD ha];exact ha
  rw [mK];exact .cost _ rfl (by omega) (by omega)
 ·rcases iS ha with rfl | ⟨g,xs,rfl,hx⟩
  ·rw [dZ];exact hb
  rcases iS hb with rfl | ⟨g2,ys,rfl,hy⟩
  ·rw [eD ha];exact ha
  rw [oY];exact .facts m _ _ rfl rfl (hx.combT hy)
 ·rcases iT ha with rfl | ⟨xs,rfl,hx⟩
  ·rw [dZ];exact hb
  rcases iT hb with rfl | ⟨ys,rfl,hy⟩
  ·rw [eD ha];exact ha
  rw [oZ];exact .cells m _ rfl rfl (uB hx hy)
theorem uD (h:bJ t n l=true) (ha:OkP t n a) (hb:OkP t n b):OkP t n (gM t n a b):=by
 rcases (dK h).2 with ⟨rfl,hn⟩ | ⟨rfl,h0,h1⟩ | ⟨rfl,m,rfl,hm⟩ | ⟨rfl,m,rfl,hm⟩
 ·rcases iR ha with rfl | rfl<;>rcases iR hb with rfl | rfl<;>simp only [nN,nO,Co]<;>assumption
 ·rcases iI ha with rfl | ⟨x,rfl,hx⟩
  ·rw [nN];exact .zero
  rcases iI hb with rfl | ⟨y,rfl,hy⟩
  ·rw [nO];exact .zero
  rw [Cp];exact .cost _ rfl (by omega) (by omega)
 ·rcases iS ha with rfl | ⟨g,xs,rfl,hx⟩
  ·rw [nN];exact .zero
  rcases iS hb with rfl | ⟨g2,ys,rfl,hy⟩
  ·rw [nO];exact .zero
  rw [Cq];exact .facts m _ _ rfl rfl (hx.extT hy)
 ·rcases iT ha with rfl | ⟨xs,rfl,hx⟩
  ·rw [nN];exact .zero
  rcases iT hb with rfl | ⟨ys,rfl,hy⟩
  ·rw [nO];exact .zero
  rw [Cr];exact .cells m _ rfl rfl (G4 hx hy)
theorem sY (h:bJ t n l=true) (ha:OkP t n a) (hb:OkP t n b):dU t n a b=dU t n b a:=by
 rcases (dK h).2 with ⟨rfl,hn⟩ | ⟨rfl,h0,h1⟩ | ⟨rfl,m,rfl,hm⟩ | ⟨rfl,m,rfl,hm⟩
 ·rcases iR ha with rfl | rfl<;>rcases iR hb with rfl | rfl<;>simp only [dZ,eD ha,eD hb,qN]
 ·rcases iI ha with rfl | ⟨x,rfl,hx⟩
  ·rw [dZ,eD hb]
  rcases iI hb with rfl | ⟨y,rfl,hy⟩
  ·rw [dZ,eD ha]
  rw [mK,mK,Int.min_comm]
 ·rcases iS ha with rfl | ⟨g,xs,rfl,hx⟩
  ·rw [dZ,eD hb]
  rcases iS hb with rfl | ⟨g2,ys,rfl,hy⟩
  ·rw [dZ,eD ha]
  rw [oY,oY,(Bw hx hy).1,(Bw hx hy).2]
 ·rcases iT ha with rfl | ⟨xs,rfl,hx⟩
  ·rw [dZ,eD hb]
  rcases iT hb with rfl | ⟨ys,rfl,hy⟩
  ·rw [dZ,eD ha]
  rw [oZ,oZ,Oy hx hy]
theorem sZ (h:bJ t n l=true) (ha:OkP t n a):dU t n a a=a:=by
 rcases (dK h).2 with ⟨rfl,hn⟩ | ⟨rfl,h0,h1⟩ | ⟨rfl,m,rfl,hm⟩ | ⟨rfl,m,rfl,hm⟩
 ·rcases iR ha with rfl | rfl<;>simp only [dZ,qN]
 ·rcases iI ha with rfl | ⟨x,rfl,hx⟩
  ·rw [dZ]
  rw [mK,Int.min_self]
 ·rcases iS ha with rfl | ⟨g,xs,rfl,hx⟩
  ·rw [dZ]
  rw [oY,(Bx hx).1,(Bx hx).2]
 ·rcases iT ha with rfl | ⟨xs,rfl,hx⟩
  ·rw [dZ]
  rw [oZ,Cm hx]
theorem qO (h:bJ t n l=true) (ha:OkP t n a) (hb:OkP t n b) (hc:OkP t n c):dU t n (dU t n a b) c=dU t n a (dU t n b c):=by
 by_cases za:a=dC
 ·subst za;rw [dZ,dZ]
 by_cases zb:b=dC
 ·subst zb;rw [dZ,eD ha]
 by_cases zc:c=dC
 ·subst zc;rw [eD hb,eD (uC h ha hb)]
 rcases (dK h).2 with ⟨rfl,hn⟩ | ⟨rfl,h0,h1⟩ | ⟨rfl,m,rfl,hm⟩ | ⟨rfl,m,rfl,hm⟩
 ·obtain rfl:=(iR ha).resolve_left za;obtain rfl:=(iR hb).resolve_left zb;obtain rfl:=(iR hc).resolve_left zc
  simp only [qN]
 ·obtain ⟨x,rfl,hx⟩:=(iI ha).resolve_left za;obtain ⟨y,rfl,hy⟩:=(iI hb).resolve_left zb;obtain ⟨w,rfl,hw⟩:=(iI hc).resolve_left zc
  simp only [mK,Int.min_assoc]
 ·obtain ⟨g,x,rfl,hx⟩:=(iS ha).resolve_left za;obtain ⟨g2,y,rfl,hy⟩:=(iS hb).resolve_left zb;obtain ⟨g3,w,rfl,hw⟩:=(iS hc).resolve_left zc
  simp only [oY,(yR hx hy hw).1,(yR hx hy hw).2]
 ·obtain ⟨x,rfl,hx⟩:=(iT ha).resolve_left za;obtain ⟨y,rfl,hy⟩:=(iT hb).resolve_left zb;obtain ⟨w,rfl,hw⟩:=(iT hc).resolve_left zc
  simp only [oZ,yX hx hy hw]
theorem Ei (h:bJ t n l=true) (ha:OkP t n a):gM t n (kK t n) a=a:=by
 by_cases za:a=dC
 ·subst za;rw [nO]
 rcases (dK h).2 with ⟨rfl,hn⟩ | ⟨rfl,h0,h1⟩ | ⟨rfl,m,rfl,hm⟩ | ⟨rfl,m,rfl,hm⟩
 ·obtain rfl:=(iR ha).resolve_left za
  rw [Sj,Co]
 ·obtain ⟨x,rfl,hx⟩:=(iI ha).resolve_left za
  rw [Sk,Cp];congr 1;omega
 ·obtain ⟨g,x,rfl,hx⟩:=(iS ha).resolve_left za
  rw [Mo,Cq,(By hx).1,(By hx).2]
 ·obtain ⟨x,rfl,hx⟩:=(iT ha).resolve_left za
  rw [Mp,Cr,O1 hx]
theorem Ej (h:bJ t n l=true) (ha:OkP t n a):gM t n a (kK t n)=a:=by
 by_cases za:a=dC
 ·subst za;rw [nN]
 rcases (dK h).2 with ⟨rfl,hn⟩ | ⟨rfl,h0,h1⟩ | ⟨rfl,m,rfl,hm⟩ | ⟨rfl,m,rfl,hm⟩
 ·obtain rfl:=(iR ha).resolve_left za
  rw [Sj,Co]
 ·obtain ⟨x,rfl,hx⟩:=(iI ha).resolve_left za
  rw [Sk,Cp];congr 1;omega
 ·obtain ⟨g,x,rfl,hx⟩:=(iS ha).resolve_left za
  rw [Mo,Cq,(Bz hx).1,(Bz hx).2]
 ·obtain ⟨x,rfl,hx⟩:=(iT ha).resolve_left za
  rw [Mp,Cr,O8 hx]
theorem yZ (h:bJ t n l=true) (ha:OkP t n a) (hb:OkP t n b) (hc:OkP t n c):gM t n a (dU t n b c)=dU t n (gM t n a b) (gM t n a c):=by
 by_cases za:a=dC
 ·subst za;simp only [nN,dZ]
 by_cases zb:b=dC
 ·subst zb;simp only [nO,dZ]
 by_cases zc:c=dC
 ·subst zc;rw [nO,eD hb,eD (uD h ha hb)]
 rcases (dK h).2 with ⟨rfl,hn⟩ | ⟨rfl,h0,h1⟩ | ⟨rfl,m,rfl,hm⟩ | ⟨rfl,m,rfl,hm⟩
 ·obtain rfl:=(iR ha).resolve_left za;obtain rfl:=(iR hb).resolve_left zb;obtain rfl:=(iR hc).resolve_left zc
  simp only [Co,qN]
 ·obtain ⟨x,rfl,hx⟩:=(iI ha).resolve_left za;obtain ⟨y,rfl,hy⟩:=(iI hb).resolve_left zb;obtain ⟨w,rfl,hw⟩:=(iI hc).resolve_left zc
  simp only [Cp,mK];congr 1;omega
 ·obtain ⟨g,x,rfl,hx⟩:=(iS ha).resolve_left za;obtain ⟨g2,y,rfl,hy⟩:=(iS hb).resolve_left zb;obtain ⟨g3,w,rfl,hw⟩:=(iS hc).resolve_left zc
  simp only [Cq,oY,(Ca hx hy hw).1,(Ca hx hy hw).2]
 ·obtain ⟨x,rfl,hx⟩:=(iT ha).resolve_left za;obtain ⟨y,rfl,hy⟩:=(iT hb).resolve_left zb;obtain ⟨w,rfl,hw⟩:=(iT hc).resolve_left zc
  simp only [Cr,oZ,Oz hx hy hw]
theorem zA (h:bJ t n l=true) (ha:OkP t n a) (hb:OkP t n b) (hc:OkP t n c):gM t n (dU t n a b) c=dU t n (gM t n a c) (gM t n b c):=by
 by_cases zc:c=dC
 ·subst zc;simp only [nO,dZ]
 by_cases za:a=dC
 ·subst za;simp only [nN,dZ]
 by_cases zb:b=dC
 ·subst zb;rw [nN,eD ha,eD (uD h ha hc)]
 rcases (dK h).2 with ⟨rfl,hn⟩ | ⟨rfl,h0,h1⟩ | ⟨rfl,m,rfl,hm⟩ | ⟨rfl,m,rfl,hm⟩
 ·obtain rfl:=(iR ha).resolve_left za;obtain rfl:=(iR hb).resolve_left zb;obtain rfl:=(iR hc).resolve_left zc
  simp only [Co,qN]
 ·obtain ⟨x,rfl,hx⟩:=(iI ha).resolve_left za;obtain ⟨y,rfl,hy⟩:=(iI hb).resolve_left zb;obtain ⟨w,rfl,hw⟩:=(iI hc).resolve_left zc
  simp only [Cp,mK];congr 1;omega
 ·obtain ⟨g,x,rfl,hx⟩:=(iS ha).resolve_left za;obtain ⟨g2,y,rfl,hy⟩:=(iS hb).resolve_left zb;obtain ⟨g3,w,rfl,hw⟩:=(iS hc).resolve_left zc
  simp only [Cq,oY,(yS hx hy hw).1,(yS hx hy hw).2]
 ·obtain ⟨x,rfl,hx⟩:=(iT ha).resolve_left za;obtain ⟨y,rfl,hy⟩:=(iT hb).resolve_left zb;obtain ⟨w,rfl,hw⟩:=(iT hc).resolve_left zc
  simp only [Cr,oZ,O0 hx hy hw]
end
inductive PS where
 | one (t n:Int)
 | two (t n u m:Int)
def PS.ok:PS→Prop
 | .one t n=>bJ t n 0=true
 | .two t n u m=>bJ t n 0=true∧bJ u m 0=true
inductive PX where
 | one (a:PF)
 | two (a b:PF)
def OkX:PS→PX→Prop
 | .one t n,.one a=>OkP t n a
 | .two t n u m,.two a b=>OkP t n a∧OkP u m b
 | _,_=>False
def cB:PS→PX→PX→PX
 | .one t n,.one a,.one b=>.one (dU t n a b)
 | .two t n u m,.two a b,.two c d=>.two (dU t n a c) (dU u m b d)
 | _,x,_=>x
def kL:PS→PX→PX→PX
 | .one t n,.one a,.one b=>.one (gM t n a b)
 | .two t n u m,.two a b,.two c d=>.two (gM t n a c) (gM u m b d)
 | _,x,_=>x
def oE:PS→PX
 | .one t n=>.one (kK t n)
 | .two t n u m=>.two (kK t n) (kK u m)
def bW:PS→PX
 | .one _ _=>.one dC
 | .two _ _ _ _=>.two dC dC
section
variable {S:PS} {x y v:PX}
theorem pA (h:S.ok):OkX S (oE S):=by
 cases S with
 | one t n=>exact xJ h
 | two t n u m=>exact ⟨xJ h.1,xJ h.2⟩
theorem mL:OkX S (bW S):=by
 cases S with
 | one t n=>exact .zero
 | two t n u m=>exact ⟨.zero,.zero⟩
theorem lK (h:S.ok) (hx:OkX S x) (hy:OkX S y):OkX S (cB S x y):=by
 cases S<;>cases x<;>cases y<;>first | exact hx.elim | exact hy.elim | exact uC h hx hy | exact ⟨uC h.1 hx.1 hy.1,uC h.2 hx.2 hy.2⟩
theorem xK (h:S.ok) (hx:OkX S x) (hy:OkX S y):OkX S (kL S x y):=by
 cases S<;>cases x<;>cases y<;>first | exact hx.elim | exact hy.elim | exact uD h hx hy | exact ⟨uD h.1 hx.1 hy.1,uD h.2 hx.2 hy.2⟩
theorem zB (h:S.ok) (hx:OkX S x) (hy:OkX S y):cB S x y=cB S y x:=by
 cases S<;>cases x<;>cases y<;>first | exact hx.elim | exact hy.elim | exact congrArg PX.one (sY h hx hy) | (simp only [cB];rw [sY h.1 hx.1 hy.1,sY h.2 hx.2 hy.2])
theorem pB (h:S.ok) (hx:OkX S x):cB S x x=x:=by
 cases S<;>cases x<;>first | exact hx.elim | exact congrArg PX.one (sZ h hx) | (simp only [cB];rw [sZ h.1 hx.1,sZ h.2 hx.2])
theorem mM (hx:OkX S x):cB S (bW S) x=x:=by
 cases S<;>cases x<;>first | exact hx.elim | (simp only [cB,bW,dZ])
theorem lY (hx:OkX S x):cB S x (bW S)=x:=by
 cases S<;>cases x<;>first | exact hx.elim | (simp only [cB,bW];rw [eD hx]) | (simp only [cB,bW];rw [eD hx.1,eD hx.2])
theorem jJ (h:S.ok) (hx:OkX S x) (hy:OkX S y) (hv:OkX S v):cB S (cB S x y) v=cB S x (cB S y v):=by
 cases S<;>cases x<;>cases y<;>cases v<;>first | exact hx.elim | exact hy.elim | exact hv.elim | exact congrArg PX.one (qO h hx hy hv) | (simp only [cB];rw [qO h.1 hx.1 hy.1 hv.1,qO h.2 hx.2 hy.2 hv.2])
theorem Sl (h:S.ok) (hx:OkX S x):kL S (oE S) x=x:=by
 cases S<;>cases x<;>first | exact hx.elim | exact congrArg PX.one (Ei h hx) | (simp only [kL,oE];rw [Ei h.1 hx.1,Ei h.2 hx.2])
theorem Sm (h:S.ok) (hx:OkX S x):kL S x (oE S)=x:=by
 cases S<;>cases x<;>first | exact hx.elim | exact congrArg PX.one (Ej h hx) | (simp only [kL,oE];rw [Ej h.1 hx.1,Ej h.2 hx.2])
theorem O9 (hx:OkX S x):kL S (bW S) x=bW S:=by
 cases S<;>cases x<;>first | exact hx.elim | (simp only [kL,bW,nN])
theorem Pa (hx:OkX S x):kL S x (bW S)=bW S:=by
 cases S<;>cases x<;>first | exact hx.elim | (simp only [kL,bW,nO])
theorem Pb (h:S.ok) (hx:OkX S x) (hy:OkX S y) (hv:OkX S v):kL S x (cB S y v)=cB S (kL S x y) (kL S x v):=by
 cases S<;>cases x<;>cases y<;>cases v<;>first | exact hx.elim | exact hy.elim | exact hv.elim | exact congrArg PX.one (yZ h hx hy hv) | (simp only [cB,kL];rw [yZ h.1 hx.1 hy.1 hv.1,yZ h.2 hx.2 hy.2 hv.2])
theorem Pc (h:S.ok) (hx:OkX S x) (hy:OkX S y) (hv:OkX S v):kL S (cB S x y) v=cB S (kL S x v) (kL S y v):=by
 cases S<;>cases x<;>cases y<;>cases v<;>first | exact hx.elim | exact hy.elim | exact hv.elim | exact congrArg PX.one (zA h hx hy hv) | (simp only [cB,kL];rw [zA h.1 hx.1 hy.1 hv.1,zA h.2 hx.2 hy.2 hv.2])
end
structure PIs (w:World) (t n:Int) (f:WF) (a:PF):Prop where
 at_:f.At w
 pf:f.pf=a
 ok:OkP t n a
 pl:f.pl=0
theorem PIs.below {w w':World} {t n:Int} {f:WF} {a:PF} (h:PIs w t n f a) (hb:Below w.heap.size w w'):PIs w' t n f a:=⟨h.at_.below hb,h.pf,h.ok,h.pl⟩
def XIs (w:World):PS→WF→PX→Prop
 | .one t n,f,.one a=>PIs w t n f a
 | .two t n u m,f,.two a b=>f.pf=pC 0∧f.rl=0∧f.cl=0∧f.pl=2∧∃ blk off g h,f.pa=some ⟨blk,off,none⟩∧W6 w blk off g∧W6 w blk (off+6) h∧PIs w t n g a∧PIs w u m h b
 | _,_,_=>False
theorem XIs.below {w w':World} {S:PS} {f:WF} {x:PX} (h:XIs w S f x) (hb:Below w.heap.size w w'):XIs w' S f x:=by
 cases S<;>cases x<;>first | exact h.elim | exact PIs.below h hb | skip
 obtain ⟨h1,h2,h3,h4,blk,off,g,k,h5,h6,h7,h8,h9⟩:=h
 exact ⟨h1,h2,h3,h4,blk,off,g,k,h5,h6.below hb,h7.below hb,h8.below hb,h9.below hb⟩
theorem XIs.ok {w:World} {S:PS} {f:WF} {x:PX} (h:XIs w S f x):OkX S x:=by
 cases S<;>cases x<;>first | exact h.elim | exact PIs.ok h | skip
 obtain ⟨_,_,_,_,_,_,_,_,_,_,_,h8,h9⟩:=h
 exact ⟨h8.ok,h9.ok⟩
theorem PIs.of {w:World} {t n:Int} {f:WF} (hp:bJ t n 0=true) (hf:f.At w) (h:fE t n f=true):PIs w t n f f.pf:=by
 have hrl:=hf.rl;have hcl:=hf.cl;have hg:=hf.g64;have hr:=hf.r64
 obtain ⟨z,c,g,ra,rl,rc,rows,ca,cl,cc,cells,pa,pl,pc⟩:=f
 dsimp only at hrl hcl hg hr
 subst hrl hcl
 simp only [fE,Bool.and_eq_true,Bool.or_eq_true,iQ,iP,decide_eq_true_eq,Bool.not_eq_true'] at h
 obtain ⟨⟨h1,h2,h3,h4⟩,h5⟩:=h
 have ht5:t≠5:=by rintro rfl;simp [bJ] at hp
 have hpl:pl=0:=by
  rcases h4 with ⟨_,h4⟩ | h4
  ·exact absurd h4 ht5
  ·exact h4
 refine ⟨hf,rfl,?_,hpl⟩
 show OkP t n ⟨z,c,g,rows,cells⟩
 cases z
 ·have h1':t=2∨c=0:=by simpa using h1
  have h2':t=3∨(g=0∧rows.length=0):=by simpa using h2
  have h3':t=4∨cells.length=0:=by simpa using h3
  simp only [Bool.false_eq_true,false_or] at h5
  rcases (dK hp).2 with ⟨rfl,hn⟩ | ⟨rfl,h0,h1⟩ | ⟨rfl,m,rfl,hm⟩ | ⟨rfl,m,rfl,hm⟩
  ·obtain rfl:c=0:=by omega
   obtain ⟨rfl,hr0⟩:g=0∧rows.length=0:=by
    rcases h2' with h | h
    ·omega
    ·exact h
   obtain rfl:=List.eq_nil_of_length_eq_zero hr0
   obtain rfl:=List.eq_nil_of_length_eq_zero (h3'.resolve_left (by decide))
   exact .bool rfl
  ·obtain ⟨rfl,hr0⟩:=h2'.resolve_left (by decide)
   obtain rfl:=List.eq_nil_of_length_eq_zero hr0
   obtain rfl:=List.eq_nil_of_length_eq_zero (h3'.resolve_left (by decide))
   simp only [if_true,Bool.and_eq_true,decide_eq_true_eq] at h5
   exact .cost c rfl h5.1 h5.2
  ·obtain rfl:c=0:=by omega
   obtain rfl:=List.eq_nil_of_length_eq_zero (h3'.resolve_left (by decide))
   have h6:eU (m:Int) g rows=0:=by simpa using h5
   obtain ⟨k,hk,hgood⟩:=Jt hg hr h6
   exact .facts k g rows rfl hk hgood
  ·obtain rfl:c=0:=by omega
   obtain ⟨rfl,hr0⟩:=h2'.resolve_left (by decide)
   obtain rfl:=List.eq_nil_of_length_eq_zero hr0
   have h6:lS (m:Int) cells=0:=by simpa using h5
   obtain ⟨k,hk,hv⟩:=val_of h6
   exact .cells k cells rfl hk hv
 ·obtain rfl:c=0:=by simpa using h1
  obtain ⟨rfl,hr0⟩:g=0∧rows.length=0:=by simpa using h2
  have hc0:cells.length=0:=by simpa using h3
  obtain rfl:=List.eq_nil_of_length_eq_zero hr0
  obtain rfl:=List.eq_nil_of_length_eq_zero hc0
  exact .zero
def zC (blk:Nat):WF:=⟨false,0,0,none,0,0,[],none,0,0,[],some ⟨blk,0,none⟩,2,2⟩
def sG:WF:=⟨true,0,0,none,0,0,[],none,0,0,[],none,0,0⟩
set_option maxHeartbeats 2000000 in
theorem Mq (f g:WF) (w:World) :
  Calls prog 136 #[f.val,g.val] w fun e w'=>∃ blk,e = .returned (zC blk).val∧W6 w' blk 0 f∧W6 w' blk 6 g∧w.heap.size≤blk∧Below w.heap.size w w':=by
 obtain ⟨z,c,g0,ra,rl,rc,rows,ca,cl,cc,cells,pa,pl,pc⟩:=f
 obtain ⟨z2,c2,g2,ra2,rl2,rc2,rows2,ca2,cl2,cc2,cells2,pa2,pl2,pc2⟩:=g
 show Calls prog 136 #[.agg #[.bool z,.int .i64 c,.int .u64 (g0:Int),.slice ra rl rc,.slice ca cl cc,.slice pa pl pc],.agg #[.bool z2,.int .i64 c2,.int .u64 (g2:Int),.slice ra2 rl2 rc2,.slice ca2 cl2 cc2,.slice pa2 pl2 pc2]] w _
 obtain ⟨W2,hW2⟩:∃ W,(w.alloc (.cells #[.bool z,.int .i64 c,.int .u64 (g0:Int),.slice ra rl rc,.slice ca cl cc,.slice pa pl pc] 44)).alloc (.cells #[.bool z2,.int .i64 c2,.int .u64 (g2:Int),.slice ra2 rl2 rc2,.slice ca2 cl2 cc2,.slice pa2 pl2 pc2] 44)=W:=⟨_,rfl⟩
 have hs2:W2.heap.size=w.heap.size+1+1:=by rw [← hW2];simp
 have B2:Below w.heap.size w W2:=by rw [← hW2];exact N6 _ _ _ _ _
 obtain ⟨t0,t1⟩:=mH W2 #[.bool false,.int .i64 0,.int .u64 0,.slice none 0 0,.slice none 0 0,.slice (some ⟨w.heap.size+1+1+1,0,none⟩) 2 2] #[.bool z,.int .i64 c,.int .u64 (g0:Int),.slice ra rl rc,.slice ca cl cc,.slice pa pl pc,.bool z2,.int .i64 c2,.int .u64 (g2:Int),.slice ra2 rl2 rc2,.slice ca2 cl2 cc2,.slice pa2 pl2 pc2] 44 44
 have B4:Below w.heap.size w ((W2.alloc (.cells #[.bool false,.int .i64 0,.int .u64 0,.slice none 0 0,.slice none 0 0,.slice (some ⟨w.heap.size+1+1+1,0,none⟩) 2 2] 44)).alloc (.cells #[.bool z,.int .i64 c,.int .u64 (g0:Int),.slice ra rl rc,.slice ca cl cc,.slice pa pl pc,.bool z2,.int .i64 c2,.int .u64 (g2:Int),.slice ra2 rl2 rc2,.slice ca2 cl2 cc2,.slice pa2 pl2 pc2] 44)):=B2.trans ((N6 _ _ _ _ _).mono B2.size)
 rw [hs2] at t0 t1
 obtain ⟨s0,s1,s2,s3,s4,s5⟩:=eW t0
 have T1:=Lib.hid t1
 have HB4:=Lib.hid B4
 clear t0 t1 B2 B4 hs2
 subst hW2
 go_enter func136,ntmps136
 go_wp2_with fail
 refine bodyPost_ret (v:=.agg #[.bool false,.int .i64 0,.int .u64 0,.slice none 0 0,.slice none 0 0,.slice (some ⟨w.heap.size+1+1+1,0,none⟩) 2 2]) ?_ rfl ?_
 rotate_left
 ·exact ⟨w.heap.size+1+1+1,rfl,⟨iZ T1.out rfl,iZ T1.out rfl,iZ T1.out rfl,iZ T1.out rfl,iZ T1.out rfl,iZ T1.out rfl⟩,⟨iZ T1.out rfl,iZ T1.out rfl,iZ T1.out rfl,iZ T1.out rfl,iZ T1.out rfl,iZ T1.out rfl⟩,by omega,HB4.out⟩
 simp [results,results136,go_sem,s0,s1,s2,s3,s4,s5]
set_option maxHeartbeats 2000000 in
theorem wN (t n:Int) (a:Option Addr) (l c0:Nat) (ht:t≠5) (w:World) :
  Calls prog 107 #[.agg #[.int .i64 t,.int .i64 n,.slice a l c0]] w fun e w'=>e = .returned sG.val∧Below w.heap.size w w':=by
 have e5:(t == 5)=false:=by simp [ht]
 clear ht
 obtain ⟨t0,t1⟩:=mH w #[.int .i64 t,.int .i64 n,.slice a l c0] #[.bool true,.int .i64 0,.int .u64 0,.slice none 0 0,.slice none 0 0,.slice none 0 0] 25 44
 obtain ⟨s0,s1,s2,s3,s4,s5⟩:=eW t1
 clear t0 t1
 go_enter func107,ntmps107
 go_wp2_with fail
 refine bodyPost_ret (v:=.agg #[.bool true,.int .i64 0,.int .u64 0,.slice none 0 0,.slice none 0 0,.slice none 0 0]) ?_ rfl ⟨rfl,N6 _ _ _ _ _⟩
 simp [results,results107,go_sem,s0,s1,s2,s3,s4,s5]
theorem xL {t n:Int} {l:Nat} (h:bJ t n l=true):t≠5:=by
 rintro rfl;simp [bJ] at h
set_option maxHeartbeats 2000000 in
theorem vR (d:Nat) (s:SV) (e0:Int) (w:World) (hs:SIn w d s) (he:dE s=e0) :
  Calls prog 32 #[s.f.val] w fun e w'=>e = .returned (.int .i64 e0)∧Below w.heap.size w w':=by
 match d,s,hs with
 | d+1,.mk ⟨t,n,a,l,c⟩ ps,hs =>
 show Calls prog 32 #[.agg #[.int .i64 t,.int .i64 n,.slice a l c]] w _
 have hl:ps.length=l:=hs.1
 by_cases ht:t=5
 ·subst ht
  have hB:=Lib.hid (A6 w #[.int .i64 5,.int .i64 n,.slice a l c] 25)
  have BX:=Lib.hid (eJ w (.cells #[.int .i64 5,.int .i64 n,.slice a l c] 25))
  have hpl:bJ 5 n l=false:=by simp [bJ]
  by_cases h0:n=0∧l=2
  ·obtain ⟨rfl,rfl⟩:=h0
   obtain ⟨p,q,rfl⟩:=sS hl
   obtain ⟨_,b,off,ha,hb,hp,hq,_,_⟩:=hs.two
   obtain rfl:a=some ⟨b,off,none⟩:=ha
   obtain ⟨⟨pt,pn,pa,pl,pc⟩,pps⟩:=p
   obtain ⟨⟨qt,qn,qa,ql,qc⟩,qps⟩:=q
   have HP:=Lib.hid (hp.below hB.out);have HQ:=Lib.hid (hq.below hB.out)
   obtain ⟨r1,hr1⟩:∃ r,bJ pt pn pl=r:=⟨_,rfl⟩
   obtain ⟨r2,hr2⟩:∃ r,bJ qt qn ql=r:=⟨_,rfl⟩
   have HR1:=Lib.hid hr1;have HR2:=Lib.hid hr2
   have HE:Hid ((if r1=true∧r2=true then (0:Int) else 50)=e0):=by
    show _=_
    rw [← he];simp [dE,hpl,SV.pl,SV.f,hr1,hr2]
   obtain ⟨W0,hW0⟩:∃ W,w.alloc (.cells #[.int .i64 5,.int .i64 0,.slice (some ⟨b,off,none⟩) 2 c] 25)=W:=⟨_,rfl⟩
   rw [hW0] at BX HP HQ hB
   clear hs hl hp hq hr1 hr2 he hpl
   have NX:∀ W:World,Below W0.heap.size W0 W→Hid (W.cell? ⟨w.heap.size,0,none⟩=some (.int .i64 5)∧W.cell? ⟨w.heap.size,1,none⟩=some (.int .i64 0)∧W.cell? ⟨w.heap.size,2,none⟩=some (.slice (some ⟨b,off,none⟩) 2 c)):=fun _ h=>fX (cS BX.out h)
   have NNX:=Lib.hid NX
   clear NX
   obtain ⟨z0,z1,z2⟩:=(NNX.out _ (Below.refl _ _)).out
   go_enter func32,ntmps32
   go_wp2_with fail
   clear z0 z1 z2
   go_loopw [3,4] (fun o i wr=>Below W0.heap.size W0 wr∧((i = .int .i64 0∧o = .bool true)∨(i = .int .i64 1∧o = .bool r1)∨(i = .int .i64 2∧r1=true∧o = .bool r2))) (fun _ i _=>2 - (intOf i).toNat)
   case atStart=>exact ⟨Below.refl _ _,.inl ⟨rfl,rfl⟩⟩
   case round =>
    obtain ⟨hb1,hrel⟩:=hrel
    obtain ⟨x0,x1,x2⟩:=(NNX.out _ hb1).out
    obtain ⟨y0,y1,y2⟩:=HP.out.below hb1
    obtain ⟨v0,v1,v2⟩:=HQ.out.below hb1
    dsimp only [SV.f] at y0 y1 y2 v0 v1 v2
    simp only [Nat.add_assoc,Nat.reduceAdd] at v1 v2
    rcases hrel with ⟨rfl,rfl⟩ | ⟨rfl,rfl⟩ | ⟨rfl,hr,rfl⟩
    ·by_cases hp5:pt=5
     ·subst hp5
      have HF:Hid (r1=false):=by show _=_;rw [← HR1.out];simp [bJ]
      go_wp2_with fail
      go_roundw
      case rel=>exact ⟨hb1,.inr (.inl ⟨rfl,by rw [HF.out]⟩)⟩
      case measure=>simp [intOf]
     ·have hp6:(pt != 5)=true:=by simp [hp5]
      go_wp2_with fail
      refine (qK pt pn pa pl pc hp5 r1 HR1.out _).mono ?_
      rintro e w3 ⟨rfl,hb3⟩
      cases r1
      all_goals
       simp only [Bool.false_eq_true,if_false,if_true]
       go_wp2_with fail
       go_roundw
       case rel=>exact ⟨hb1.trans (hb3.mono hb1.size),.inr (.inl ⟨rfl,rfl⟩)⟩
       case measure=>simp [intOf]
    ·cases r1
     ·have HE2:Hid ((50:Int)=e0):=by show _=_;rw [← HE.out];simp
      go_wp2_with fail
      go_ret
      exact ⟨dM HE2.out,hB.out.trans (hb1.mono hB.out.size)⟩
     ·by_cases hp5:qt=5
      ·subst hp5
       have HF:Hid (r2=false):=by show _=_;rw [← HR2.out];simp [bJ]
       go_wp2_with fail
       go_roundw
       case rel=>exact ⟨hb1,.inr (.inr ⟨by first | rfl | trivial,by first | rfl | trivial,by first | rfl | (rw [HF.out])⟩)⟩
       case measure=>simp [intOf]
      ·have hp6:(qt != 5)=true:=by simp [hp5]
       go_wp2_with fail
       refine (qK qt qn qa ql qc hp5 r2 HR2.out _).mono ?_
       rintro e w3 ⟨rfl,hb3⟩
       cases r2
       all_goals
        simp only [Bool.false_eq_true,if_false,if_true]
        go_wp2_with fail
        go_roundw
        case rel=>exact ⟨hb1.trans (hb3.mono hb1.size),.inr (.inr ⟨by first | rfl | trivial,by first | rfl | trivial,by first | rfl | trivial⟩)⟩
        case measure=>simp [intOf]
    ·have HE2:Hid ((if r2=true then (0:Int) else 50)=e0):=by show _=_;rw [← HE.out,hr];simp
     cases r2
     all_goals
      go_wp2_with fail
      go_ret
      exact ⟨dM HE2.out,hB.out.trans (hb1.mono hB.out.size)⟩
  ·have HE:Hid ((50:Int)=e0):=by
    show _=_
    rw [← he,dE,hpl,if_neg (by simp),if_neg]
    rintro ⟨_,h1,h2,_⟩
    exact h0 ⟨h1,by omega⟩
   obtain ⟨W0,hW0⟩:∃ W,w.alloc (.cells #[.int .i64 5,.int .i64 n,.slice a l c] 25)=W:=⟨_,rfl⟩
   rw [hW0] at BX hB
   obtain ⟨x0,x1,x2⟩:=fX BX.out
   clear hs hl he hpl
   have hc:(n=0∧((n == 0)=true)∧((l:Int) == 2)=false)∨((n == 0)=false):=by
    by_cases hn:n=0
    ·exact .inl ⟨hn,by simp [hn],by simp;omega⟩
    ·exact .inr (by simp [hn])
   clear h0
   rcases hc with ⟨rfl,c1,c2⟩ | c1
   all_goals
    go_enter func32,ntmps32
    go_wp2_with fail
    go_loopw [3,4] (fun o i wr=>i = .int .i64 0∧o = .bool false∧W0=wr) (fun _ i _=>0)
    case atStart=>exact ⟨rfl,rfl,rfl⟩
    case round =>
     obtain ⟨rfl,rfl,rfl⟩:=hrel
     by_cases hl0:0 < l
     ·have g1:(0:Int) < (l:Int):=by omega
      go_wp2_with fail
      go_ret
      exact ⟨dM HE.out,hB.out⟩
     ·obtain rfl:l=0:=by omega
      go_wp2_with fail
      go_ret
      exact ⟨dM HE.out,hB.out⟩
 ·obtain ⟨r,hr⟩:∃ r,bJ t n l=r:=⟨_,rfl⟩
  refine (qK t n a l c ht r hr w).mono ?_
  rintro e w1 ⟨rfl,hb⟩
  refine ⟨?_,hb⟩
  rw [← he,Gg ht,hr]
end Go.Proofs.YtmgnkpibpjgncaaGreatDoor
