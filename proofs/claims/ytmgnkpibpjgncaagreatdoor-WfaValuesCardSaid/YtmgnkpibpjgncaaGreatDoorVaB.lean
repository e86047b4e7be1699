import Derived.Deep.DeepCutAuto
import Derived.Deep.CutRange
import Derived.Deep.RegionWith
import Derived.Laws.Bits64b
import Derived.Deep.DrawnRows
import Derived.Lib.SliceRun
import Derived.Laws.OwnMore
import Derived.OwnWalk
import Derived.WalkSpells
import Derived.Lib.Join
import Derived.Test.YtmgnkpibpjgncaaGreatDoorVaA
set_option maxRecDepth 100000
set_option maxHeartbeats 4000000
set_option linter.unusedVariables false
set_option linter.unusedVariables false
set_option linter.unusedSimpArgs false
set_option linter.unusedSectionVars false
set_option linter.unnecessarySimpa false
namespace Go.Proofs.YtmgnkpibpjgncaaGreatDoor
open Go.Proofs.Tryz
open Go.RowKit
theorem pL {k:IntKind} {a b:Int} (h:a=b):Ending.returned (.int k a) = .returned (.int k b):=by rw [h]
theorem kA {a b:Bool} (h:a=b):Ending.returned (.bool a) = .returned (.bool b):=by rw [h]
theorem yM (f d:Nat):((f:Int) / 2 ^ d)=((f / 2 ^ d:Nat):Int):=by
 rw [Int.natCast_ediv];congr 1
def kB (d f:Nat):Bool:=f / 2 ^ d == 0
def eC (f:Nat) (k v:Int):Bool:=if k=0 then v == 0 else if k=1 then true else if k=2 then v == 0 && f == 0 else false
def lY (d f:Nat) (k v:Int):Bool:=kB d f && eC f k v
theorem Nw (f d:Nat):((f:Int) / 2 ^ d != 0) = !kB d f:=by
 rw [yM];unfold kB
 generalize f / 2 ^ d=q
 rw [Bool.eq_iff_iff,bne_iff_ne,Bool.not_eq_true',beq_eq_false_iff_ne];omega
theorem Tx {d f:Nat} (h:64≤d) (hf:f < 18446744073709551616):kB d f=true:=by
 unfold kB
 have e:(2:Nat) ^ 64≤2 ^ d:=Nat.pow_le_pow_right (by decide) h
 have:f < 2 ^ d:=Nat.lt_of_lt_of_le hf e
 simp [Nat.div_eq_of_lt this]
theorem C4 (d f:Nat) (k v:Int) (w:World) (hf:f < 18446744073709551616) (hd:d≤64):Calls prog 155 #[.int .i64 d,.agg #[.int .u64 f,.int .i64 k,.int .i64 v]] w fun e w'=>e = .returned (.bool (lY d f k v))∧Below w.heap.size w w':=by
 cases hi:kB d f
 ·have hlt:d < 64:=by
   rcases Nat.lt_or_ge d 64 with h | h
   ·exact h
   ·rw [Tx h hf] at hi;cases hi
  have h0:((f:Int) / 2 ^ d != 0)=true:=by rw [Nw,hi];rfl
  have H:=Lib.hid (show lY d f k v=false by simp [lY,hi])
  clear hi
  go_enter func155,ntmps155
  go_wp2
  go_ret
  exact ⟨kA H.out.symm,(Below.refl _ _).alloc (Nat.le_refl _) _⟩
 ·have h0:((f:Int) / 2 ^ d != 0)=false:=by rw [Nw,hi];rfl
  have hc:lY d f k v=eC f k v:=by simp [lY,hi]
  rw [hc]
  clear hi hc
  by_cases hlt:d < 64
  all_goals
   by_cases k0:k=0
   ·subst k0
    have H:=Lib.hid (show eC f 0 v=(v == 0) by simp [eC])
    go_enter func155,ntmps155
    go_wp2
    go_ret
    exact ⟨kA H.out.symm,(Below.refl _ _).alloc (Nat.le_refl _) _⟩
   by_cases k1:k=1
   ·subst k1
    have H:=Lib.hid (show eC f 1 v=true by simp [eC])
    go_enter func155,ntmps155
    go_wp2
    go_ret
    exact ⟨kA H.out.symm,(Below.refl _ _).alloc (Nat.le_refl _) _⟩
   by_cases k2:k=2
   ·subst k2
    by_cases v0:v=0
    ·subst v0
     have H:=Lib.hid (show eC f 2 0=((f:Int) == 0) by simp [eC];rw [Bool.eq_iff_iff];simp)
     go_enter func155,ntmps155
     go_wp2
     go_ret
     exact ⟨kA H.out.symm,(Below.refl _ _).alloc (Nat.le_refl _) _⟩
    ·have H:=Lib.hid (show eC f 2 v=false by simp [eC,v0])
     have hv:(v == 0)=false:=by simp [v0]
     clear v0
     go_enter func155,ntmps155
     go_wp2
     go_ret
     exact ⟨kA H.out.symm,(Below.refl _ _).alloc (Nat.le_refl _) _⟩
   ·have H:=Lib.hid (show eC f k v=false by simp [eC,k0,k1,k2])
    have e0:(k == 0)=false:=by simp [k0]
    have e1:(k == 1)=false:=by simp [k1]
    have e2:(k == 2)=false:=by simp [k2]
    clear k0 k1 k2
    go_enter func155,ntmps155
    go_wp2
    go_ret
    exact ⟨kA H.out.symm,(Below.refl _ _).alloc (Nat.le_refl _) _⟩
theorem Hr (d f:Nat) (hf:f < 18446744073709551616):kB d f=true↔∀ i,d≤i→i < 64→f.testBit i=false:=by
 unfold kB
 rw [beq_iff_eq,Nat.div_eq_zero_iff]
 constructor
 ·intro h i hi _
  rcases h with h | h
  ·exact absurd h (by have:=Nat.two_pow_pos d;omega)
  ·exact Nat.testBit_lt_two_pow (Nat.lt_of_lt_of_le h (Nat.pow_le_pow_right (by omega) hi))
 ·intro h
  right
  apply Nat.lt_pow_two_of_testBit
  intro i hi
  by_cases h64:i < 64
  ·exact h i hi h64
  ·have e:(2:Nat) ^ 64≤2 ^ i:=Nat.pow_le_pow_right (by decide) (by omega)
   exact Nat.testBit_lt_two_pow (Nat.lt_of_lt_of_le hf e)
structure Cl where
 f:Nat
 k:Int
 v:Int
abbrev Cl.val (c:Cl):Value:=.agg #[.int .u64 (c.f:Int),.int .i64 c.k,.int .i64 c.v]
def eZ (w:World) (a:Option Addr) (cs:List Cl):Prop :=
 cs=[]∨∃ b off,a=some ⟨b,off,none⟩∧∀ i c,cs[i]?=some c→w.cell? ⟨b,off+i * 3,none⟩=some (.int .u64 (c.f:Int))∧w.cell? ⟨b,off+i * 3+1,none⟩=some (.int .i64 c.k)∧w.cell? ⟨b,off+i * 3+2,none⟩=some (.int .i64 c.v)
def pM (cs:List Cl):Prop:=∀ c,c∈cs→c.f < 18446744073709551616
theorem pN {w:World} {a:Addr} {v:Value} (h:w.cell? a=some v):a.block < w.heap.size:=by
 rcases Nat.lt_or_ge a.block w.heap.size with h' | h'
 ·exact h'
 ·simp [World.cell?,Array.getElem?_eq_none h'] at h
theorem eZ.below {w w':World} {a:Option Addr} {cs:List Cl} (h:eZ w a cs) (hb:Below w.heap.size w w'):eZ w' a cs:=by
 rcases h with h | ⟨b,off,rfl,hc⟩
 ·exact .inl h
 ·refine .inr ⟨b,off,rfl,fun i c hi=>?_⟩
  obtain ⟨h1,h2,h3⟩:=hc i c hi
  exact ⟨(hb.cell (pN h1)).trans h1,(hb.cell (pN h2)).trans h2,(hb.cell (pN h3)).trans h3⟩
theorem eZ.at_ {w:World} {a:Option Addr} {cs:List Cl} (h:eZ w a cs) {k:Nat} (hk:k < cs.length) :
  ∃ b off c,a=some ⟨b,off,none⟩∧cs[k]?=some c∧b < w.heap.size∧w.cell? ⟨b,off+k * 3,none⟩=some (.int .u64 (c.f:Int))∧w.cell? ⟨b,off+k * 3+1,none⟩=some (.int .i64 c.k)∧w.cell? ⟨b,off+k * 3+2,none⟩=some (.int .i64 c.v):=by
 rcases h with h | ⟨b,off,rfl,hc⟩
 ·subst h;simp at hk
 ·have e:cs[k]?=some cs[k]:=List.getElem?_eq_getElem hk
  obtain ⟨h1,h2,h3⟩:=hc k _ e
  exact ⟨b,off,cs[k],rfl,e,pN h1,h1,h2,h3⟩
def jV (d:Nat) (c:Cl):Bool:=lY d c.f c.k c.v
def lZ (d:Int) (cs:List Cl):Int:=if d < 0∨64 < d then 41 else if (cs.length:Int)≠d then 40 else if cs.all (jV d.toNat) then 0 else 40
def qO (d:Int):Int:=if d < 0∨64 < d then 41 else 0
theorem Fl (d:Int) (w:World):Calls prog 154 #[.int .i64 d] w fun e w'=>e = .returned (.int .i64 (qO d))∧w=w':=by
 by_cases h0:d < 0
 ·have H:=Lib.hid (show qO d=41 by simp [qO,h0])
  go_enter func154,ntmps154
  go_wp2
  go_ret
  exact ⟨pL H.out.symm,rfl⟩
 by_cases h1:64 < d
 ·have H:=Lib.hid (show qO d=41 by simp [qO,h1])
  go_enter func154,ntmps154
  go_wp2
  go_ret
  exact ⟨pL H.out.symm,rfl⟩
 ·have H:=Lib.hid (show qO d=0 by simp [qO,h0,h1])
  go_enter func154,ntmps154
  go_wp2
  go_ret
  exact ⟨pL H.out.symm,rfl⟩
theorem lP (d:Int) (w:World) (c:Int) (hc:qO d=c):Calls prog 154 #[.int .i64 d] w fun e w'=>e = .returned (.int .i64 c)∧w=w':=by subst hc;exact Fl d w
theorem oR {α:Type} {p:α→Bool} {zs:List α} {k:Nat} {z:α} (hz:zs[k]?=some z) (h:(zs.take k).all p=true) (hp:p z=true):(zs.take (k+1)).all p=true:=by
 obtain ⟨hk,e⟩:=List.getElem?_eq_some_iff.1 hz
 rw [List.take_succ_eq_append_getElem hk,List.all_append,h]
 simp [e,hp]
theorem Fm {α:Type} {p:α→Bool} {zs:List α} {k:Nat} {z:α} (hz:zs[k]?=some z) (hp:p z=false):zs.all p=false:=by
 obtain ⟨hk,e⟩:=List.getElem?_eq_some_iff.1 hz
 rw [List.all_eq_false]
 exact ⟨z,by rw [← e];exact List.getElem_mem hk,by rw [hp];simp⟩
theorem Hs {n:Nat} {cs:List Cl} {k:Nat} {c:Cl} (hn:n≤64) (hl:cs.length=n) (hz:cs[k]?=some c) (hp:jV n c=false):lZ n cs=40:=by
 unfold lZ
 rw [if_neg (by omega),if_neg (by omega),Int.toNat_natCast,Fm hz hp];rfl
theorem wY {n:Nat} {cs:List Cl} {k:Nat} (hn:n≤64) (hl:cs.length=n) (hk:cs.length≤k) (h:(cs.take k).all (jV n)=true):lZ n cs=0:=by
 rw [List.take_of_length_le hk] at h
 unfold lZ
 rw [if_neg (by omega),if_neg (by omega),Int.toNat_natCast,h];rfl
set_option maxHeartbeats 1000000 in
theorem Fn (d:Int) (a:Option Addr) (cap:Nat) (cs:List Cl) (w:World) (hm:cs.length≤maxLen) (hrow:eZ w a cs) (hbits:pM cs) :
  Calls prog 132 #[.int .i64 d,.slice a cs.length cap] w fun e w'=>e = .returned (.int .i64 (lZ d cs))∧Below w.heap.size w w':=by
 unfold maxLen at hm
 have HROW:=Lib.hid hrow
 have HBITS:=Lib.hid hbits
 clear hrow hbits
 by_cases hd:d < 0∨64 < d
 ·have H:=Lib.hid (show lZ d cs=41 by simp [lZ,hd])
  have H2:=Lib.hid (show qO d=41 by simp [qO,hd])
  clear hd
  go_enter func132,ntmps132
  go_wp2_with (go_at_call 154;refine (lP _ _ 41 H2.out).mono ?_;rintro e w' ⟨rfl,rfl⟩)
  go_ret
  exact ⟨pL H.out.symm,Below.refl _ _⟩
 obtain ⟨n,rfl⟩:∃ n:Nat,d=n:=⟨d.toNat,by omega⟩
 have hn:n≤64:=by omega
 have H2:=Lib.hid (show qO n=0 by simp [qO,hd])
 clear hd
 by_cases hl:cs.length=n
 ·have HL:=Lib.hid hl
  have hne:((cs.length:Int) != (n:Int))=false:=by simp [hl]
  have hn':cs.length≤64:=by omega
  clear hl
  go_enter func132,ntmps132
  go_wp2_with (go_at_call 154;refine (lP _ _ 0 H2.out).mono ?_;rintro e w' ⟨rfl,rfl⟩)
  go_loopw [19] (fun i wr=>∃ k:Nat,k≤cs.length∧i = .int .i64 k∧Hid ((cs.take k).all (jV n)=true)∧Below w.heap.size w wr) (fun i _=>cs.length - (intOf i).toNat)
  case atStart=>exact ⟨0,Nat.zero_le _,rfl,by simp [Hid],Below.refl _ _⟩
  case round =>
   obtain ⟨k,hk,rfl,HA,hb⟩:=hrel
   by_cases hlt:k < cs.length
   ·obtain ⟨b,off,c,rfl,hz,hblt,c0,c1,c2⟩:=(HROW.out.below hb).at_ hlt
    have hf:c.f < 18446744073709551616:=HBITS.out c (List.mem_of_getElem? hz)
    have HZ:=Lib.hid hz
    clear hz
    cases hok:jV n c
    ·have H:=Lib.hid (Hs hn HL.out HZ.out hok)
     have HOK:Hid (lY n c.f c.k c.v=false):=hok
     clear hok
     go_wp2_with (go_at_call 155;refine (C4 n c.f c.k c.v _ hf hn).mono ?_;rintro e w3 ⟨rfl,hb3⟩;rw [HOK.out])
     go_ret
     exact ⟨pL H.out.symm,(hb.alloc hb.size _).trans (hb3.mono (by have:=hb.size;simp;omega))⟩
    ·have H:=Lib.hid (oR HZ.out HA.out hok)
     have HOK:Hid (lY n c.f c.k c.v=true):=hok
     clear hok
     go_wp2_with (go_at_call 155;refine (C4 n c.f c.k c.v _ hf hn).mono ?_;rintro e w3 ⟨rfl,hb3⟩;rw [HOK.out])
     go_roundw
     case rel=>exact ⟨k+1,by omega,by go_num,H,(hb.alloc hb.size _).trans (hb3.mono (by have:=hb.size;simp;omega))⟩
     case measure=>simp [intOf];omega
   ·have H:=Lib.hid (wY hn HL.out (by omega) HA.out)
    go_wp2
    go_ret
    exact ⟨pL H.out.symm,hb⟩
 ·have H:=Lib.hid (show lZ n cs=40 by simp [lZ];omega)
  have hne:((cs.length:Int) != (n:Int))=true:=by simp;omega
  clear hl
  go_enter func132,ntmps132
  go_wp2_with (go_at_call 154;refine (lP _ _ 0 H2.out).mono ?_;rintro e w' ⟨rfl,rfl⟩)
  go_ret
  exact ⟨pL H.out.symm,Below.refl _ _⟩
structure SF where
 tag:Int
 dim:Int
 a:Option Addr
 len:Nat
 cap:Nat
abbrev SF.val (f:SF):Value:=.agg #[.int .i64 f.tag,.int .i64 f.dim,.slice f.a f.len f.cap]
inductive SV where
 | mk (f:SF) (ps:List SV)
def SV.f:SV→SF | .mk f _=>f
def SV.ps:SV→List SV | .mk _ ps=>ps
def S3 (w:World) (b o:Nat) (f:SF):Prop:=w.cell? ⟨b,o,none⟩=some (.int .i64 f.tag)∧w.cell? ⟨b,o+1,none⟩=some (.int .i64 f.dim)∧w.cell? ⟨b,o+2,none⟩=some (.slice f.a f.len f.cap)
def SRow (w:World) (a:Option Addr) (ps:List SV):Prop :=
 ps=[]∨∃ b off,a=some ⟨b,off,none⟩∧∀ (i:Nat) p,ps[i]?=some p→S3 w b (off+i * 3) p.f
def SIn (w:World):Nat→SV→Prop
 | 0,_=>False
 | d+1,.mk f ps=>ps.length=f.len∧SRow w f.a ps∧∀ p∈ps,SIn w d p
theorem kC {w w':World} {p:Addr} {v:Value} (h:w.cell? p=some v) (hb:Below w.heap.size w w'):w'.cell? p=some v:=(hb.cell (jK h)).trans h
theorem S3.below {w w':World} {b o:Nat} {f:SF} (h:S3 w b o f) (hb:Below w.heap.size w w'):S3 w' b o f:=⟨kC h.1 hb,kC h.2.1 hb,kC h.2.2 hb⟩
theorem SRow.below {w w':World} {a:Option Addr} {ps:List SV} (h:SRow w a ps) (hb:Below w.heap.size w w'):SRow w' a ps:=by
 rcases h with h | ⟨b,off,rfl,hc⟩
 ·exact .inl h
 ·exact .inr ⟨b,off,rfl,fun i p hi=>(hc i p hi).below hb⟩
theorem SIn.below {w w':World} (hb:Below w.heap.size w w'):∀ {d:Nat} {s:SV},SIn w d s→SIn w' d s
 | 0,_,h=>h.elim
 | d+1,.mk f ps,⟨h1,h2,h3⟩=>⟨h1,h2.below hb,fun p hp=>SIn.below hb (h3 p hp)⟩
structure WF where
 z:Bool
 c:Int
 g:Nat
 ra:Option Addr
 rl:Nat
 rc:Nat
 rows:List Nat
 ca:Option Addr
 cl:Nat
 cc:Nat
 cells:List Cl
 pa:Option Addr
 pl:Nat
 pc:Nat
abbrev WF.val (f:WF):Value:=.agg #[.bool f.z,.int .i64 f.c,.int .u64 (f.g:Int),.slice f.ra f.rl f.rc,.slice f.ca f.cl f.cc,.slice f.pa f.pl f.pc]
abbrev WF.six (f:WF):List Value:=[.bool f.z,.int .i64 f.c,.int .u64 (f.g:Int),.slice f.ra f.rl f.rc,.slice f.ca f.cl f.cc,.slice f.pa f.pl f.pc]
structure WF.At (w:World) (f:WF):Prop where
 rows:fQ w f.ra (u64s f.rows)
 rl:f.rows.length=f.rl
 g64:f.g < 18446744073709551616
 r64:∀ r∈f.rows,r < 18446744073709551616
 cells:eZ w f.ca f.cells
 cl:f.cells.length=f.cl
 bits:pM f.cells
 cmax:f.cl≤maxLen
theorem WF.At.below {w w':World} {f:WF} (h:f.At w) (hb:Below w.heap.size w w'):f.At w':=⟨h.rows.below hb,h.rl,h.g64,h.r64,h.cells.below hb,h.cl,h.bits,h.cmax⟩
inductive WV where
 | mk (f:WF) (ps:List WV)
def WV.f:WV→WF | .mk f _=>f
def WV.ps:WV→List WV | .mk _ ps=>ps
def W6 (w:World) (b o:Nat) (f:WF):Prop:=w.cell? ⟨b,o,none⟩=some (.bool f.z)∧w.cell? ⟨b,o+1,none⟩=some (.int .i64 f.c)∧w.cell? ⟨b,o+2,none⟩=some (.int .u64 (f.g:Int))∧w.cell? ⟨b,o+3,none⟩=some (.slice f.ra f.rl f.rc)∧w.cell? ⟨b,o+4,none⟩=some (.slice f.ca f.cl f.cc)∧w.cell? ⟨b,o+5,none⟩=some (.slice f.pa f.pl f.pc)
def yN (w:World) (a:Option Addr) (ps:List WV):Prop :=
 ps=[]∨∃ b off,a=some ⟨b,off,none⟩∧∀ (i:Nat) p,ps[i]?=some p→W6 w b (off+i * 6) p.f
def WIn (w:World):Nat→WV→Prop
 | 0,_=>False
 | d+1,.mk f ps=>f.At w∧ps.length=f.pl∧yN w f.pa ps∧∀ p∈ps,WIn w d p
theorem W6.below {w w':World} {b o:Nat} {f:WF} (h:W6 w b o f) (hb:Below w.heap.size w w'):W6 w' b o f:=⟨kC h.1 hb,kC h.2.1 hb,kC h.2.2.1 hb,kC h.2.2.2.1 hb,kC h.2.2.2.2.1 hb,kC h.2.2.2.2.2 hb⟩
theorem yN.below {w w':World} {a:Option Addr} {ps:List WV} (h:yN w a ps) (hb:Below w.heap.size w w'):yN w' a ps:=by
 rcases h with h | ⟨b,off,rfl,hc⟩
 ·exact .inl h
 ·exact .inr ⟨b,off,rfl,fun i p hi=>(hc i p hi).below hb⟩
theorem WIn.below {w w':World} (hb:Below w.heap.size w w'):∀ {d:Nat} {s:WV},WIn w d s→WIn w' d s
 | 0,_,h=>h.elim
 | d+1,.mk f ps,⟨h0,h1,h2,h3⟩=>⟨h0.below hb,h1,h2.below hb,fun p hp=>WIn.below hb (h3 p hp)⟩
theorem yN.at_ {w:World} {a:Option Addr} {ps:List WV} (h:yN w a ps) {i:Nat} {p:WV} (hi:ps[i]?=some p):∃ b off,a=some ⟨b,off,none⟩∧b < w.heap.size∧W6 w b (off+i * 6) p.f:=by
 rcases h with rfl | ⟨b,off,ha,hc⟩
 ·simp at hi
 ·exact ⟨b,off,ha,jK (hc i p hi).1,hc i p hi⟩
def bI (t n:Int) (l:Nat):Bool:=decide (l=0) && (if t=1 then decide (n=0) else if t=2 then decide (0≤n) && decide (n≤1048576) else if t=3∨t=4 then decide (0≤n) && decide (n≤64) else false)
theorem Cq (w:World) (v:Array Value) (T:TypeId):Below w.heap.size w (w.alloc (.cells v T)):=(Below.refl _ _).alloc (Nat.le_refl _) _
set_option maxHeartbeats 2000000 in
theorem kD (t n:Int) (a:Option Addr) (l c:Nat) (r:Bool) (hr:bI t n l=r) (w:World) :
  Calls prog 75 #[.agg #[.int .i64 t,.int .i64 n,.slice a l c]] w fun e w'=>e = .returned (.bool r)∧Below w.heap.size w w':=by
 have hB:=Lib.hid (Cq w #[.int .i64 t,.int .i64 n,.slice a l c] 25)
 by_cases ht:t=1∨t=2∨t=3∨t=4
 ·by_cases hl:l=0
  ·subst hl
   by_cases h0:0≤n
   ·rcases ht with rfl | rfl | rfl | rfl
    ·by_cases hm:n≤0
     ·obtain rfl:n=0:=by omega
      have HR:Hid (true=r):=by show _=_;rw [← hr];simp [bI]
      clear hr
      go_enter func75,ntmps75
      go_wp2
      go_ret
      exact ⟨bT HR.out,hB.out⟩
     ·have HR:Hid (false=r):=by show _=_;rw [← hr];simp [bI];omega
      clear hr
      go_enter func75,ntmps75
      go_wp2
      go_ret
      exact ⟨bT HR.out,hB.out⟩
    ·by_cases hm:n≤1048576
     ·have HR:Hid (true=r):=by show _=_;rw [← hr];simp [bI,h0,hm]
      clear hr
      go_enter func75,ntmps75
      go_wp2
      go_ret
      exact ⟨bT HR.out,hB.out⟩
     ·have HR:Hid (false=r):=by show _=_;rw [← hr];simp [bI,hm]
      clear hr
      go_enter func75,ntmps75
      go_wp2
      go_ret
      exact ⟨bT HR.out,hB.out⟩
    all_goals
     by_cases hm:n≤64
     ·have HR:Hid (true=r):=by show _=_;rw [← hr];simp [bI,h0,hm]
      clear hr
      go_enter func75,ntmps75
      go_wp2
      go_ret
      exact ⟨bT HR.out,hB.out⟩
     ·have HR:Hid (false=r):=by show _=_;rw [← hr];simp [bI,hm]
      clear hr
      go_enter func75,ntmps75
      go_wp2
      go_ret
      exact ⟨bT HR.out,hB.out⟩
   ·have HR:Hid (false=r):=by show _=_;rw [← hr];rcases ht with rfl | rfl | rfl | rfl<;>simp [bI]<;>omega
    clear hr
    rcases ht with rfl | rfl | rfl | rfl
    all_goals
     go_enter func75,ntmps75
     go_wp2
     go_ret
     exact ⟨bT HR.out,hB.out⟩
  ·have HR:Hid (false=r):=by show _=_;rw [← hr];simp [bI,hl]
   have hl2:((l:Int) == 0)=false:=by simp;omega
   clear hr
   rcases ht with rfl | rfl | rfl | rfl
   all_goals
    go_enter func75,ntmps75
    go_wp2
    go_ret
    exact ⟨bT HR.out,hB.out⟩
 ·have HR:Hid (false=r):=by show _=_;rw [← hr];simp only [not_or] at ht;simp [bI,ht]
  have e1:(t == 1)=false:=by simp;omega
  have e2:(t == 2)=false:=by simp;omega
  have e3:(t == 3)=false:=by simp;omega
  have e4:(t == 4)=false:=by simp;omega
  clear hr ht
  go_enter func75,ntmps75
  go_wp2
  go_ret
  exact ⟨bT HR.out,hB.out⟩
def SV.pl (s:SV):Bool:=bI s.f.tag s.f.dim s.f.len
def dW:SV→Int
 | .mk f ps=>if bI f.tag f.dim f.len=true then 0 else if f.tag=5∧f.dim=0∧ps.length=2∧ps.all SV.pl=true then 0 else 50
theorem jE {w:World} {B:Nat} {cs:Array Value} {T:TypeId} (h:w.heap[B]?=some (.cells cs T (0,0))) {j:Nat} {v:Value} (hj:cs[j]?=some v):w.cell? ⟨B,j,none⟩=some v:=by
 unfold World.cell?;simp only [h];exact hj
theorem gO {w:World} {B:Nat} {a b c:Value} {T:TypeId} (h:w.heap[B]?=some (.cells #[a,b,c] T (0,0))):w.cell? ⟨B,0,none⟩=some a∧w.cell? ⟨B,1,none⟩=some b∧w.cell? ⟨B,2,none⟩=some c:=⟨jE h rfl,jE h rfl,jE h rfl⟩
theorem fD {w:World} {B:Nat} {a b c d e f:Value} {T:TypeId} (h:w.heap[B]?=some (.cells #[a,b,c,d,e,f] T (0,0))):w.cell? ⟨B,0,none⟩=some a∧w.cell? ⟨B,1,none⟩=some b∧w.cell? ⟨B,2,none⟩=some c∧w.cell? ⟨B,3,none⟩=some d∧w.cell? ⟨B,4,none⟩=some e∧w.cell? ⟨B,5,none⟩=some f:=⟨jE h rfl,jE h rfl,jE h rfl,jE h rfl,jE h rfl,jE h rfl⟩
theorem SIn.two {w:World} {d:Nat} {f:SF} {p q:SV} (h:SIn w (d+1) (.mk f [p,q])):f.len=2∧∃ b off,f.a=some ⟨b,off,none⟩∧b < w.heap.size∧S3 w b off p.f∧S3 w b (off+3) q.f∧SIn w d p∧SIn w d q:=by
 obtain ⟨h1,h2,h3⟩:=h
 refine ⟨h1.symm,?_⟩
 rcases h2 with h2 | ⟨b,off,ha,hc⟩
 ·cases h2
 ·have c0:=hc 0 p rfl
  have c1:=hc 1 q rfl
  simp only [Nat.zero_mul,Nat.add_zero,Nat.one_mul] at c0 c1
  exact ⟨b,off,ha,jK c0.1,c0,c1,h3 p (by simp),h3 q (by simp)⟩
theorem tX {α:Type} {l:List α} (h:l.length=2):∃ p q,l=[p,q]:=by
 match l,h with
 | [p,q],_=>exact ⟨p,q,rfl⟩
set_option maxHeartbeats 2000000 in
theorem wZ (d:Nat) (s:SV) (e0:Int) (w:World) (hs:SIn w d s) (he:dW s=e0) :
  Calls prog 29 #[s.f.val] w fun e w'=>e = .returned (.int .i64 e0)∧Below w.heap.size w w':=by
 match d,s,hs with
 | d+1,.mk ⟨t,n,a,l,c⟩ ps,hs =>
 show Calls prog 29 #[.agg #[.int .i64 t,.int .i64 n,.slice a l c]] w _
 have hl:ps.length=l:=hs.1
 have hB:=Lib.hid (Cq w #[.int .i64 t,.int .i64 n,.slice a l c] 25)
 have BX:=Lib.hid (dL w (.cells #[.int .i64 t,.int .i64 n,.slice a l c] 25))
 obtain ⟨r,hr⟩:∃ r,bI t n l=r:=⟨_,rfl⟩
 have HR:=Lib.hid hr
 cases r
 ·by_cases ht:t=5
  ·subst ht
   by_cases hn:n=0
   ·subst hn
    by_cases hl2:l=2
    ·subst hl2
     obtain ⟨p,q,rfl⟩:=tX hl
     obtain ⟨_,b,off,ha,hb,hp,hq,_,_⟩:=hs.two
     obtain rfl:a=some ⟨b,off,none⟩:=ha
     obtain ⟨⟨pt,pn,pa,pl,pc⟩,pps⟩:=p
     obtain ⟨⟨qt,qn,qa,ql,qc⟩,qps⟩:=q
     have HP:=Lib.hid hp;have HQ:=Lib.hid hq
     obtain ⟨r1,hr1⟩:∃ r,bI pt pn pl=r:=⟨_,rfl⟩
     obtain ⟨r2,hr2⟩:∃ r,bI qt qn ql=r:=⟨_,rfl⟩
     have HR1:=Lib.hid hr1;have HR2:=Lib.hid hr2
     have HE:Hid ((if r1=true∧r2=true then (0:Int) else 50)=e0):=by
      show _=_
      rw [← he];simp [dW,hr,SV.pl,SV.f,hr1,hr2]
     clear hr hs hl hp hq hr1 hr2 he
     cases r1
     ·have HE2:Hid ((50:Int)=e0):=by show _=_;rw [← HE.out];simp
      clear HE
      go_enter func29,ntmps29
      go_wp2_with fail
      refine (kD 5 0 _ 2 c false HR.out _).mono ?_
      rintro e w1 ⟨rfl,hb1⟩
      obtain ⟨x0,x1,x2⟩:=gO (cE BX.out hb1)
      obtain ⟨y0,y1,y2⟩:=(HP.out.below hB.out).below hb1
      dsimp only [SV.f] at y0 y1 y2
      go_wp2_with fail
      refine (kD pt pn _ pl pc false HR1.out _).mono ?_
      rintro e w2 ⟨rfl,hb2⟩
      go_wp2
      go_ret
      exact ⟨eK HE2.out,(hB.out.trans (hb1.mono hB.out.size)).trans (hb2.mono (hB.out.trans (hb1.mono hB.out.size)).size)⟩
     ·have HE2:Hid ((if r2=true then (0:Int) else 50)=e0):=by show _=_;rw [← HE.out];simp
      clear HE
      go_enter func29,ntmps29
      go_wp2_with fail
      refine (kD 5 0 _ 2 c false HR.out _).mono ?_
      rintro e w1 ⟨rfl,hb1⟩
      have hB1:=hB.out.trans (hb1.mono hB.out.size)
      obtain ⟨x0,x1,x2⟩:=gO (cE BX.out hb1)
      obtain ⟨y0,y1,y2⟩:=(HP.out.below hB.out).below hb1
      dsimp only [SV.f] at y0 y1 y2
      go_wp2_with fail
      refine (kD pt pn _ pl pc true HR1.out _).mono ?_
      rintro e w2 ⟨rfl,hb2⟩
      have hB2:=hB1.trans (hb2.mono hB1.size)
      clear x0 x1 x2 y0 y1 y2
      obtain ⟨x0,x1,x2⟩:=gO (cE (cE BX.out hb1) hb2)
      obtain ⟨y0,y1,y2⟩:=((HQ.out.below hB.out).below hb1).below hb2
      dsimp only [SV.f] at y0 y1 y2
      simp only [Nat.add_assoc,Nat.reduceAdd] at y1 y2
      go_wp2_with fail
      refine (kD qt qn _ ql qc r2 HR2.out _).mono ?_
      rintro e w3 ⟨rfl,hb3⟩
      have hB3:=hB2.trans (hb3.mono hB2.size)
      cases r2
      all_goals
       go_wp2
       go_ret
       exact ⟨eK HE2.out,hB3⟩
    ·have HE:Hid ((50:Int)=e0):=by
      show _=_
      rw [← he];simp [dW,hr,hl,hl2]
     have hl3:((l:Int) == 2)=false:=by simp;omega
     clear hr hs hl he hl2
     go_enter func29,ntmps29
     go_wp2_with fail
     refine (kD 5 0 a l c false HR.out _).mono ?_
     rintro e w1 ⟨rfl,hb1⟩
     obtain ⟨x0,x1,x2⟩:=gO (cE BX.out hb1)
     go_wp2
     go_ret
     exact ⟨eK HE.out,hB.out.trans (hb1.mono hB.out.size)⟩
   ·have HE:Hid ((50:Int)=e0):=by show _=_;rw [← he];simp [dW,hr,hn]
    have hn3:(n == 0)=false:=by simp [hn]
    clear hr hs hl he hn
    go_enter func29,ntmps29
    go_wp2_with fail
    refine (kD 5 n a l c false HR.out _).mono ?_
    rintro e w1 ⟨rfl,hb1⟩
    obtain ⟨x0,x1,x2⟩:=gO (cE BX.out hb1)
    go_wp2
    go_ret
    exact ⟨eK HE.out,hB.out.trans (hb1.mono hB.out.size)⟩
  ·have HE:Hid ((50:Int)=e0):=by show _=_;rw [← he];simp [dW,hr,ht]
   have hn3:(t == 5)=false:=by simp [ht]
   clear hr hs hl he ht
   go_enter func29,ntmps29
   go_wp2_with fail
   refine (kD t n a l c false HR.out _).mono ?_
   rintro e w1 ⟨rfl,hb1⟩
   obtain ⟨x0,x1,x2⟩:=gO (cE BX.out hb1)
   go_wp2
   go_ret
   exact ⟨eK HE.out,hB.out.trans (hb1.mono hB.out.size)⟩
 ·have HE:Hid ((0:Int)=e0):=by show _=_;rw [← he];simp [dW,hr]
  clear hr hs hl he
  go_enter func29,ntmps29
  go_wp2_with fail
  refine (kD t n a l c true HR.out _).mono ?_
  rintro e w1 ⟨rfl,hb1⟩
  go_wp2
  go_ret
  exact ⟨eK HE.out,hB.out.trans (hb1.mono hB.out.size)⟩
theorem Ht {f:SF} {ps:List SV} (h:f.tag≠5):dW (.mk f ps)=if bI f.tag f.dim f.len=true then 0 else 50:=by simp [dW,h]
set_option maxHeartbeats 2000000 in
theorem rI (t n:Int) (a:Option Addr) (l c:Nat) (ht:t≠5) (r:Bool) (hr:bI t n l=r) (w:World) :
  Calls prog 32 #[.agg #[.int .i64 t,.int .i64 n,.slice a l c]] w fun e w'=>e = .returned (.int .i64 (if r=true then 0 else 50))∧Below w.heap.size w w':=by
 have hB:=Lib.hid (Cq w #[.int .i64 t,.int .i64 n,.slice a l c] 25)
 have e5:(t == 5)=false:=by simp [ht]
 by_cases ht2:t=1∨t=2∨t=3∨t=4
 ·by_cases hl:l=0
  ·subst hl
   by_cases h0:0≤n
   ·rcases ht2 with rfl | rfl | rfl | rfl
    ·by_cases hm:n=0
     ·subst hm
      obtain rfl:true=r:=by rw [← hr];simp [bI]
      clear hr
      go_enter func32,ntmps32
      go_wp2_with fail
      go_ret
      exact ⟨by simp,hB.out⟩
     ·obtain rfl:false=r:=by rw [← hr];simp [bI];omega
      have hm2:(n == 0)=false:=by simp [hm]
      clear hr
      go_enter func32,ntmps32
      go_wp2_with fail
      go_ret
      exact ⟨by simp,hB.out⟩
    ·by_cases hm:n≤1048576
     ·obtain rfl:true=r:=by rw [← hr];simp [bI,h0,hm]
      clear hr
      go_enter func32,ntmps32
      go_wp2_with fail
      go_ret
      exact ⟨by simp,hB.out⟩
     ·obtain rfl:false=r:=by rw [← hr];simp [bI,hm]
      clear hr
      go_enter func32,ntmps32
      go_wp2_with fail
      go_ret
      exact ⟨by simp,hB.out⟩
    all_goals
     by_cases hm:n≤64
     ·obtain rfl:true=r:=by rw [← hr];simp [bI,h0,hm]
      clear hr
      go_enter func32,ntmps32
      go_wp2_with fail
      go_ret
      exact ⟨by simp,hB.out⟩
     ·obtain rfl:false=r:=by rw [← hr];simp [bI,hm]
      clear hr
      go_enter func32,ntmps32
      go_wp2_with fail
      go_ret
      exact ⟨by simp,hB.out⟩
   ·obtain rfl:false=r:=by rw [← hr];rcases ht2 with rfl | rfl | rfl | rfl<;>simp [bI]<;>omega
    have hn0:(n == 0)=false:=by simp;omega
    clear hr
    rcases ht2 with rfl | rfl | rfl | rfl
    all_goals
     go_enter func32,ntmps32
     go_wp2_with fail
     go_ret
     exact ⟨by simp,hB.out⟩
  ·obtain rfl:false=r:=by rw [← hr];simp [bI,hl]
   have hl2:((l:Int) == 0)=false:=by simp;omega
   clear hr
   rcases ht2 with rfl | rfl | rfl | rfl
   ·by_cases hm:n=0
    ·subst hm
     go_enter func32,ntmps32
     go_wp2_with fail
     go_ret
     exact ⟨by simp,hB.out⟩
    ·have hm2:(n == 0)=false:=by simp [hm]
     go_enter func32,ntmps32
     go_wp2_with fail
     go_ret
     exact ⟨by simp,hB.out⟩
   all_goals
    by_cases h0:0≤n
    ·by_cases hm:n≤64
     ·have hm3:n≤1048576:=by omega
      go_enter func32,ntmps32
      go_wp2_with fail
      go_ret
      exact ⟨by simp,hB.out⟩
     ·by_cases hm3:n≤1048576
      all_goals
       go_enter func32,ntmps32
       go_wp2_with fail
       go_ret
       exact ⟨by simp,hB.out⟩
    ·go_enter func32,ntmps32
     go_wp2_with fail
     go_ret
     exact ⟨by simp,hB.out⟩
 ·obtain rfl:false=r:=by rw [← hr];simp only [not_or] at ht2;simp [bI,ht2]
  have e1:(t == 1)=false:=by simp;omega
  have e2:(t == 2)=false:=by simp;omega
  have e3:(t == 3)=false:=by simp;omega
  have e4:(t == 4)=false:=by simp;omega
  clear hr ht2 ht
  go_enter func32,ntmps32
  go_wp2_with fail
  go_ret
  exact ⟨by simp,hB.out⟩
def iX (cost facts cells parts:Bool) (f:WF):Bool:=(cost || decide (f.c=0)) && ((facts || (decide (f.g=0) && decide (f.rl=0))) && ((cells || decide (f.cl=0)) && (parts || decide (f.pl=0))))
def iY (t:Int) (f:WF):Bool:=iX (!f.z && decide (t=2)) (!f.z && decide (t=3)) (!f.z && decide (t=4)) (!f.z && decide (t=5)) f
theorem P6 (w:World) (a b:Array Value) (S T:TypeId):Below w.heap.size w ((w.alloc (.cells a S)).alloc (.cells b T)):=((Below.refl _ _).alloc (Nat.le_refl _) _).alloc (by simp) _
theorem nD (w:World) (a b:Array Value) (S T:TypeId):((w.alloc (.cells a S)).alloc (.cells b T)).heap[w.heap.size]?=some (.cells a S (0,0))∧((w.alloc (.cells a S)).alloc (.cells b T)).heap[w.heap.size+1]?=some (.cells b T (0,0)):=by
 refine ⟨cP (dL w _) _,?_⟩
 have:=dL (w.alloc (.cells a S)) (.cells b T)
 rwa [World.size_alloc] at this
theorem eD (n:Nat):((n:Int) == 0)=decide (n=0):=by
 rw [Bool.eq_iff_iff];simp
theorem sM (n:Int):(n == 0)=decide (n=0):=by
 rw [Bool.eq_iff_iff];simp
theorem Nx (t n:Int) (a:Option Addr) (l c0:Nat) (f:WF) (r:Bool) (hr:iY t f=r) (w:World) :
  Calls prog 130 #[.agg #[.int .i64 t,.int .i64 n,.slice a l c0],f.val] w fun e w'=>e = .returned (.bool r)∧Below w.heap.size w w':=by
 obtain ⟨z,c,g,ra,rl,rc,rows,ca,cl,cc,cells,pa,pl,pc⟩:=f
 show Calls prog 130 #[.agg #[.int .i64 t,.int .i64 n,.slice a l c0],.agg #[.bool z,.int .i64 c,.int .u64 (g:Int),.slice ra rl rc,.slice ca cl cc,.slice pa pl pc]] w _
 have hB:=Lib.hid (P6 w #[.int .i64 t,.int .i64 n,.slice a l c0] #[.bool z,.int .i64 c,.int .u64 (g:Int),.slice ra rl rc,.slice ca cl cc,.slice pa pl pc] 25 44)
 obtain ⟨t0,t1⟩:=nD w #[.int .i64 t,.int .i64 n,.slice a l c0] #[.bool z,.int .i64 c,.int .u64 (g:Int),.slice ra rl rc,.slice ca cl cc,.slice pa pl pc] 25 44
 obtain ⟨x0,x1,x2⟩:=gO t0
 obtain ⟨y0,y1,y2,y3,y4,y5⟩:=fD t1
 obtain ⟨W0,hW0⟩:∃ W,(w.alloc (.cells #[.int .i64 t,.int .i64 n,.slice a l c0] 25)).alloc (.cells #[.bool z,.int .i64 c,.int .u64 (g:Int),.slice ra rl rc,.slice ca cl cc,.slice pa pl pc] 44)=W:=⟨_,rfl⟩
 rw [hW0] at hB x0 x1 x2 y0 y1 y2 y3 y4 y5
 obtain ⟨b1,h1⟩:∃ b,(c == 0)=b:=⟨_,rfl⟩
 obtain ⟨b2,h2⟩:∃ b,(decide (g=0) && decide (rl=0))=b:=⟨_,rfl⟩
 obtain ⟨b3,h3⟩:∃ b,((cl:Int) == 0)=b:=⟨_,rfl⟩
 obtain ⟨b4,h4⟩:∃ b,((pl:Int) == 0)=b:=⟨_,rfl⟩
 have H2:=Lib.hid h2
 have HR:Hid ((((!z && decide (t=2)) || b1) && (((!z && decide (t=3)) || b2) && (((!z && decide (t=4)) || b3) && ((!z && decide (t=5)) || b4))))=r):=by
  show _=_
  rw [← hr,← h1,← h2,← h3,← h4,eD,eD,sM];rfl
 clear hr t0 t1 h2
 have hg:((g:Int) == 0)=decide (g=0):=eD g
 have hrl:((rl:Int) == 0)=decide (rl=0):=eD rl
 have HZ:∀ (b:Bool),b2=b→Hid (b2=b):=fun _ h=>h
 have h2:=H2.out
 have ht:t=2∨t=3∨t=4∨t=5∨((t == 2)=false∧(t == 3)=false∧(t == 4)=false∧(t == 5)=false∧decide (t=2)=false∧decide (t=3)=false∧decide (t=4)=false∧decide (t=5)=false):=by
  by_cases e2:t=2
  ·exact .inl e2
  by_cases e3:t=3
  ·exact .inr (.inl e3)
  by_cases e4:t=4
  ·exact .inr (.inr (.inl e4))
  by_cases e5:t=5
  ·exact .inr (.inr (.inr (.inl e5)))
  ·exact .inr (.inr (.inr (.inr ⟨by simp [e2],by simp [e3],by simp [e4],by simp [e5],by simp [e2],by simp [e3],by simp [e4],by simp [e5]⟩)))
 have HTT:=Lib.hid ht
 clear ht
 by_cases hg0:g=0
 ·have hg1:((g:Int) == 0)=true:=by simp [hg0]
  have h2':(decide (rl=0))=b2:=by simpa [hg0] using h2
  rw [h2'] at hrl
  clear h2 h2' hg HZ hg0
  cases z
  ·rcases HTT.out with rfl | rfl | rfl | rfl | ⟨e2,e3,e4,e5,d2,d3,d4,d5⟩
   case inr.inr.inr.inr =>
    have D:=Lib.hid (And.intro d2 (And.intro d3 (And.intro d4 d5)))
    clear d2 d3 d4 d5
    go_enter func130,ntmps130
    go_upto_region 15 with fail
    clear h1 h3 h4 hrl
    cases b1<;>cases b2<;>cases b3<;>cases b4<;>(go_wp2;go_ret;exact ⟨bT (by rw [← HR.out,D.out.1,D.out.2.1,D.out.2.2.1,D.out.2.2.2];rfl),hB.out⟩)
   all_goals
    go_enter func130,ntmps130
    go_upto_region 15 with fail
    clear h1 h3 h4 hrl
    cases b1<;>cases b2<;>cases b3<;>cases b4<;>(go_wp2;go_ret;exact ⟨bT (by rw [← HR.out];rfl),hB.out⟩)
  ·go_enter func130,ntmps130
   go_upto_region 15 with fail
   clear h1 h3 h4 hrl
   cases b1<;>cases b2<;>cases b3<;>cases b4<;>(go_wp2;go_ret;exact ⟨bT (by rw [← HR.out];rfl),hB.out⟩)
 ·have hg1:((g:Int) == 0)=false:=by simp [hg0]
  obtain rfl:b2=false:=by rw [← h2];simp [hg0]
  clear h2 hg HZ hrl hg0
  cases z
  ·rcases HTT.out with rfl | rfl | rfl | rfl | ⟨e2,e3,e4,e5,d2,d3,d4,d5⟩
   case inr.inr.inr.inr =>
    have D:=Lib.hid (And.intro d2 (And.intro d3 (And.intro d4 d5)))
    clear d2 d3 d4 d5
    go_enter func130,ntmps130
    go_upto_region 15 with fail
    clear h1 h3 h4 hg1
    cases b1<;>cases b3<;>cases b4<;>(go_wp2;go_ret;exact ⟨bT (by rw [← HR.out,D.out.1,D.out.2.1,D.out.2.2.1,D.out.2.2.2];rfl),hB.out⟩)
   all_goals
    go_enter func130,ntmps130
    go_upto_region 15 with fail
    clear h1 h3 h4 hg1
    cases b1<;>cases b3<;>cases b4<;>(go_wp2;go_ret;exact ⟨bT (by rw [← HR.out];rfl),hB.out⟩)
  ·go_enter func130,ntmps130
   go_upto_region 15 with fail
   clear h1 h3 h4 hg1
   cases b1<;>cases b3<;>cases b4<;>(go_wp2;go_ret;exact ⟨bT (by rw [← HR.out];rfl),hB.out⟩)
theorem gP (f k v:Int) (w:World):Calls prog 177 #[.agg #[.int .u64 f,.int .i64 k,.int .i64 v]] w fun e w'=>e = .returned (.agg #[.int .u64 0,.int .i64 k,.int .i64 v])∧(w.alloc (.cells #[.int .u64 0,.int .i64 k,.int .i64 v] 105)).alloc (.cells #[.int .u64 0,.int .i64 k,.int .i64 v] 105)=w':=by
 go_enter func177,ntmps177
 go_wp2
 refine bodyPost_ret (v:=.agg #[.int .u64 0,.int .i64 k,.int .i64 v]) (by simp [results,results177,go_sem]) rfl ⟨rfl,rfl⟩
set_option maxHeartbeats 1000000 in
theorem P7 (f f2:Int) (w:World):Calls prog 171 #[.agg #[.int .u64 f,.int .i64 0,.int .i64 0],.agg #[.int .u64 f2,.int .i64 0,.int .i64 0]] w fun e w'=>e = .returned (.agg #[.int .u64 (bits .or .u64 f f2),.int .i64 0,.int .i64 0])∧Below w.heap.size w w':=by
 go_enter func171,ntmps171
 go_wp2
 go_region_with (go_at_call 177;refine (gP _ _ _ _).mono ?_;rintro e w' ⟨rfl,rfl⟩)
 all_goals go_wp2
 all_goals refine bodyPost_ret (v:=.agg #[.int .u64 (bits .or .u64 f f2),.int .i64 0,.int .i64 0]) (by simp [results,results171,go_sem]) rfl ⟨rfl,?_⟩
 all_goals repeat (first | exact Below.refl _ _ | refine Below.drew ?_ | (refine Below.setCell ?_ (by simp) _) | (refine Below.alloc ?_ (by simp;try omega) _))
set_option maxHeartbeats 1000000 in
theorem P8 (f f2:Int) (v2:Int) (w:World):Calls prog 171 #[.agg #[.int .u64 f,.int .i64 0,.int .i64 0],.agg #[.int .u64 f2,.int .i64 1,.int .i64 v2]] w fun e w'=>e = .returned (.agg #[.int .u64 (bits .or .u64 f f2),.int .i64 1,.int .i64 v2])∧Below w.heap.size w w':=by
 go_enter func171,ntmps171
 go_wp2
 go_region_with (go_at_call 177;refine (gP _ _ _ _).mono ?_;rintro e w' ⟨rfl,rfl⟩)
 all_goals go_wp2
 all_goals refine bodyPost_ret (v:=.agg #[.int .u64 (bits .or .u64 f f2),.int .i64 1,.int .i64 v2]) (by simp [results,results171,go_sem]) rfl ⟨rfl,?_⟩
 all_goals repeat (first | exact Below.refl _ _ | refine Below.drew ?_ | (refine Below.setCell ?_ (by simp) _) | (refine Below.alloc ?_ (by simp;try omega) _))
set_option maxHeartbeats 1000000 in
theorem P9 (f f2:Int) (w:World):Calls prog 171 #[.agg #[.int .u64 f,.int .i64 0,.int .i64 0],.agg #[.int .u64 f2,.int .i64 2,.int .i64 0]] w fun e w'=>e = .returned (.agg #[.int .u64 0,.int .i64 2,.int .i64 0])∧Below w.heap.size w w':=by
 go_enter func171,ntmps171
 go_wp2
 go_region_with (go_at_call 177;refine (gP _ _ _ _).mono ?_;rintro e w' ⟨rfl,rfl⟩)
 all_goals go_wp2
 all_goals refine bodyPost_ret (v:=.agg #[.int .u64 0,.int .i64 2,.int .i64 0]) (by simp [results,results171,go_sem]) rfl ⟨rfl,?_⟩
 all_goals repeat (first | exact Below.refl _ _ | refine Below.drew ?_ | (refine Below.setCell ?_ (by simp) _) | (refine Below.alloc ?_ (by simp;try omega) _))
set_option maxHeartbeats 1000000 in
theorem Qa (f f2:Int) (v:Int) (w:World):Calls prog 171 #[.agg #[.int .u64 f,.int .i64 1,.int .i64 v],.agg #[.int .u64 f2,.int .i64 0,.int .i64 0]] w fun e w'=>e = .returned (.agg #[.int .u64 (bits .or .u64 f f2),.int .i64 1,.int .i64 v])∧Below w.heap.size w w':=by
 go_enter func171,ntmps171
 go_wp2
 go_region_with (go_at_call 177;refine (gP _ _ _ _).mono ?_;rintro e w' ⟨rfl,rfl⟩)
 all_goals go_wp2
 all_goals refine bodyPost_ret (v:=.agg #[.int .u64 (bits .or .u64 f f2),.int .i64 1,.int .i64 v]) (by simp [results,results171,go_sem]) rfl ⟨rfl,?_⟩
 all_goals repeat (first | exact Below.refl _ _ | refine Below.drew ?_ | (refine Below.setCell ?_ (by simp) _) | (refine Below.alloc ?_ (by simp;try omega) _))
set_option maxHeartbeats 1000000 in
theorem Qb (f f2:Int) (v:Int) (w:World):Calls prog 171 #[.agg #[.int .u64 f,.int .i64 1,.int .i64 v],.agg #[.int .u64 f2,.int .i64 1,.int .i64 v]] w fun e w'=>e = .returned (.agg #[.int .u64 (bits .or .u64 f f2),.int .i64 1,.int .i64 v])∧Below w.heap.size w w':=by
 go_enter func171,ntmps171
 go_wp2
 go_region_with (go_at_call 177;refine (gP _ _ _ _).mono ?_;rintro e w' ⟨rfl,rfl⟩)
 all_goals go_wp2
 all_goals refine bodyPost_ret (v:=.agg #[.int .u64 (bits .or .u64 f f2),.int .i64 1,.int .i64 v]) (by simp [results,results171,go_sem]) rfl ⟨rfl,?_⟩
 all_goals repeat (first | exact Below.refl _ _ | refine Below.drew ?_ | (refine Below.setCell ?_ (by simp) _) | (refine Below.alloc ?_ (by simp;try omega) _))
set_option maxHeartbeats 1000000 in
theorem Qc (f f2:Int) (v v2:Int) (hv:(v == v2)=false) (w:World):Calls prog 171 #[.agg #[.int .u64 f,.int .i64 1,.int .i64 v],.agg #[.int .u64 f2,.int .i64 1,.int .i64 v2]] w fun e w'=>e = .returned (.agg #[.int .u64 0,.int .i64 2,.int .i64 0])∧Below w.heap.size w w':=by
 go_enter func171,ntmps171
 go_wp2
 go_region_with (go_at_call 177;refine (gP _ _ _ _).mono ?_;rintro e w' ⟨rfl,rfl⟩)
 all_goals go_wp2
 all_goals refine bodyPost_ret (v:=.agg #[.int .u64 0,.int .i64 2,.int .i64 0]) (by simp [results,results171,go_sem]) rfl ⟨rfl,?_⟩
 all_goals repeat (first | exact Below.refl _ _ | refine Below.drew ?_ | (refine Below.setCell ?_ (by simp) _) | (refine Below.alloc ?_ (by simp;try omega) _))
set_option maxHeartbeats 1000000 in
theorem Qd (f f2:Int) (v:Int) (w:World):Calls prog 171 #[.agg #[.int .u64 f,.int .i64 1,.int .i64 v],.agg #[.int .u64 f2,.int .i64 2,.int .i64 0]] w fun e w'=>e = .returned (.agg #[.int .u64 0,.int .i64 2,.int .i64 0])∧Below w.heap.size w w':=by
 go_enter func171,ntmps171
 go_wp2
 go_region_with (go_at_call 177;refine (gP _ _ _ _).mono ?_;rintro e w' ⟨rfl,rfl⟩)
 all_goals go_wp2
 all_goals refine bodyPost_ret (v:=.agg #[.int .u64 0,.int .i64 2,.int .i64 0]) (by simp [results,results171,go_sem]) rfl ⟨rfl,?_⟩
 all_goals repeat (first | exact Below.refl _ _ | refine Below.drew ?_ | (refine Below.setCell ?_ (by simp) _) | (refine Below.alloc ?_ (by simp;try omega) _))
set_option maxHeartbeats 1000000 in
theorem Qe (f f2:Int) (w:World):Calls prog 171 #[.agg #[.int .u64 f,.int .i64 2,.int .i64 0],.agg #[.int .u64 f2,.int .i64 0,.int .i64 0]] w fun e w'=>e = .returned (.agg #[.int .u64 0,.int .i64 2,.int .i64 0])∧Below w.heap.size w w':=by
 go_enter func171,ntmps171
 go_wp2
 go_region_with (go_at_call 177;refine (gP _ _ _ _).mono ?_;rintro e w' ⟨rfl,rfl⟩)
 all_goals go_wp2
 all_goals refine bodyPost_ret (v:=.agg #[.int .u64 0,.int .i64 2,.int .i64 0]) (by simp [results,results171,go_sem]) rfl ⟨rfl,?_⟩
 all_goals repeat (first | exact Below.refl _ _ | refine Below.drew ?_ | (refine Below.setCell ?_ (by simp) _) | (refine Below.alloc ?_ (by simp;try omega) _))
set_option maxHeartbeats 1000000 in
theorem Qf (f f2:Int) (v2:Int) (w:World):Calls prog 171 #[.agg #[.int .u64 f,.int .i64 2,.int .i64 0],.agg #[.int .u64 f2,.int .i64 1,.int .i64 v2]] w fun e w'=>e = .returned (.agg #[.int .u64 0,.int .i64 2,.int .i64 0])∧Below w.heap.size w w':=by
 go_enter func171,ntmps171
 go_wp2
 go_region_with (go_at_call 177;refine (gP _ _ _ _).mono ?_;rintro e w' ⟨rfl,rfl⟩)
 all_goals go_wp2
 all_goals refine bodyPost_ret (v:=.agg #[.int .u64 0,.int .i64 2,.int .i64 0]) (by simp [results,results171,go_sem]) rfl ⟨rfl,?_⟩
 all_goals repeat (first | exact Below.refl _ _ | refine Below.drew ?_ | (refine Below.setCell ?_ (by simp) _) | (refine Below.alloc ?_ (by simp;try omega) _))
set_option maxHeartbeats 1000000 in
theorem Qg (f f2:Int) (w:World):Calls prog 171 #[.agg #[.int .u64 f,.int .i64 2,.int .i64 0],.agg #[.int .u64 f2,.int .i64 2,.int .i64 0]] w fun e w'=>e = .returned (.agg #[.int .u64 0,.int .i64 2,.int .i64 0])∧Below w.heap.size w w':=by
 go_enter func171,ntmps171
 go_wp2
 go_region_with (go_at_call 177;refine (gP _ _ _ _).mono ?_;rintro e w' ⟨rfl,rfl⟩)
 all_goals go_wp2
 all_goals refine bodyPost_ret (v:=.agg #[.int .u64 0,.int .i64 2,.int .i64 0]) (by simp [results,results171,go_sem]) rfl ⟨rfl,?_⟩
 all_goals repeat (first | exact Below.refl _ _ | refine Below.drew ?_ | (refine Below.setCell ?_ (by simp) _) | (refine Below.alloc ?_ (by simp;try omega) _))
def Cl.ok (c:Cl):Prop:=c.f < 18446744073709551616∧eC c.f c.k c.v=true
def joinK (k v k2 v2:Int):Int:=if k=0 then k2 else if k2=0 then k else if k=1∧k2=1∧v=v2 then 1 else 2
def dU (k v k2 v2:Int):Int:=if k=0 then v2 else if k2=0 then v else if k=1∧k2=1∧v=v2 then v else 0
def join (a b:Cl):Cl:=⟨if joinK a.k a.v b.k b.v=2 then 0 else a.f ||| b.f,joinK a.k a.v b.k b.v,dU a.k a.v b.k b.v⟩
theorem lC {f:Nat} {k v:Int} (h:eC f k v=true):(k=0∧v=0)∨k=1∨(k=2∧v=0):=by
 unfold eC at h
 split at h
 ·left;simp at h;exact ⟨by assumption,h⟩
 ·split at h
  ·right;left;assumption
  ·split at h
   ·right;right;simp at h;exact ⟨by assumption,h.1⟩
   ·cases h
theorem Ny (a b:Nat) (ha:a < 18446744073709551616) (hb:b < 18446744073709551616):bits .or .u64 (a:Int) (b:Int)=((a ||| b:Nat):Int):=bits_or_u64_nat a b ha hb
def Aa (a b:Cl) (w:World) (e:Ending) (w':World):Prop:=e = .returned (join a b).val∧Below w.heap.size w w'
theorem fE {f f2:Nat} {k v k2 v2:Int} {F K V:Int} {w:World} (hF:F=((if joinK k v k2 v2=2 then 0 else f ||| f2:Nat):Int)) (hK:K=joinK k v k2 v2) (hV:V=dU k v k2 v2) :
  ∀ e w',(e=Ending.returned (.agg #[.int .u64 F,.int .i64 K,.int .i64 V])∧Below w.heap.size w w')→Aa ⟨f,k,v⟩ ⟨f2,k2,v2⟩ w e w':=by
 rintro e w' ⟨rfl,hb⟩
 exact ⟨by simp only [join,Cl.val];rw [hF,hK,hV],hb⟩
theorem Lf (a b:Cl) (ha:a.ok) (hb:b.ok) (w:World):Calls prog 171 #[a.val,b.val] w (Aa a b w):=by
 obtain ⟨f,k,v⟩:=a
 obtain ⟨f2,k2,v2⟩:=b
 obtain ⟨hf,hk⟩:=ha
 obtain ⟨hf2,hk2⟩:=hb
 simp only at hf hk hf2 hk2
 have ho:=Ny f f2 hf hf2
 rcases lC hk with ⟨rfl,rfl⟩ | rfl | ⟨rfl,rfl⟩<;>rcases lC hk2 with ⟨rfl,rfl⟩ | rfl | ⟨rfl,rfl⟩
 ·exact (P7 f f2 w).mono (fE (by simp [joinK,ho]) (by simp [joinK]) (by simp [dU]))
 ·exact (P8 f f2 v2 w).mono (fE (by simp [joinK,ho]) (by simp [joinK]) (by simp [dU]))
 ·exact (P9 f f2 w).mono (fE (by simp [joinK]) (by simp [joinK]) (by simp [dU]))
 ·exact (Qa f f2 v w).mono (fE (by simp [joinK,ho]) (by simp [joinK]) (by simp [dU]))
 ·by_cases hv:v=v2
  ·subst hv
   exact (Qb f f2 v w).mono (fE (by simp [joinK,ho]) (by simp [joinK]) (by simp [dU]))
  ·exact (Qc f f2 v v2 (by simp [hv]) w).mono (fE (by simp [joinK,hv]) (by simp [joinK,hv]) (by simp [dU,hv]))
 ·exact (Qd f f2 v w).mono (fE (by simp [joinK]) (by simp [joinK]) (by simp [dU]))
 ·exact (Qe f f2 w).mono (fE (by simp [joinK]) (by simp [joinK]) (by simp [dU]))
 ·exact (Qf f f2 v2 w).mono (fE (by simp [joinK]) (by simp [joinK]) (by simp [dU]))
 ·exact (Qg f f2 w).mono (fE (by simp [joinK]) (by simp [joinK]) (by simp [dU]))
theorem vA (d:Int) (a:Option Addr) (len cap:Nat) (cs:List Cl) (w:World) (c:Int) (hl:cs.length=len) (hm:cs.length≤maxLen) (hrow:eZ w a cs) (hbits:pM cs) (hc:lZ d cs=c) :
  Calls prog 132 #[.int .i64 d,.slice a len cap] w fun e w'=>e = .returned (.int .i64 c)∧Below w.heap.size w w':=by
 subst hl;subst hc;exact Fn d a cap cs w hm hrow hbits
def nX (d:Int) (xs ys:List Cl):Int:=if lZ d xs=0 then lZ d ys else lZ d xs
theorem lJ (d:Int) (a b:Option Addr) (capa capb:Nat) (xs ys:List Cl) (w:World) (hma:xs.length≤maxLen) (hmb:ys.length≤maxLen) (hra:eZ w a xs) (hrb:eZ w b ys) (hba:pM xs) (hbb:pM ys) (c:Int) (hc:nX d xs ys=c) :
  Calls prog 163 #[.int .i64 d,.slice a xs.length capa,.slice b ys.length capb] w fun e w'=>e = .returned (.int .i64 c)∧Below w.heap.size w w':=by
 have HMA:=Lib.hid hma;have HMB:=Lib.hid hmb;have HRA:=Lib.hid hra;have HRB:=Lib.hid hrb;have HBA:=Lib.hid hba;have HBB:=Lib.hid hbb
 clear hma hmb hra hrb hba hbb
 by_cases h0:lZ d xs=0
 ·have H0:=Lib.hid h0
  have H1:=Lib.hid (show lZ d ys=c by simpa [nX,h0] using hc)
  clear h0 hc
  go_enter func163,ntmps163
  go_wp2_with fail
  refine (vA _ _ _ _ xs _ 0 rfl HMA.out HRA.out HBA.out H0.out).mono ?_
  rintro e w1 ⟨rfl,hb1⟩
  go_wp2_with fail
  refine (vA _ _ _ _ ys _ c rfl HMB.out (HRB.out.below hb1) HBB.out H1.out).mono ?_
  rintro e w2 ⟨rfl,hb2⟩
  go_wp2
  go_ret
  exact ⟨rfl,hb1.trans (hb2.mono hb1.size)⟩
 ·have H1:=Lib.hid (show lZ d xs=c by simpa [nX,h0] using hc)
  have hne:(c != 0)=true:=by rw [← H1.out];simpa using h0
  clear h0 hc
  go_enter func163,ntmps163
  go_wp2_with fail
  refine (vA _ _ _ _ xs _ c rfl HMA.out HRA.out HBA.out H1.out).mono ?_
  rintro e w1 ⟨rfl,hb1⟩
  go_wp2
  go_ret
  exact ⟨rfl,hb1⟩
def fU (t n:Int) (f:WF):Bool:=iY t f && (f.z || (if t=2 then decide (0≤f.c) && decide (f.c≤n) else if t=3 then decide (eO n f.g f.rows=0) else if t=4 then decide (lZ n f.cells=0) else true))
theorem fV {t n:Int} {l:Nat} (h:bI t n l=true):l=0∧(t=1∨t=2∨t=3∨t=4):=by
 simp only [bI,Bool.and_eq_true,decide_eq_true_eq] at h
 refine ⟨h.1,?_⟩
 rcases h with ⟨_,h⟩
 by_cases h1:t=1
 ·exact .inl h1
 by_cases h2:t=2
 ·exact .inr (.inl h2)
 by_cases h3:t=3
 ·exact .inr (.inr (.inl h3))
 by_cases h4:t=4
 ·exact .inr (.inr (.inr h4))
 ·simp [h1,h2,h3,h4] at h
theorem nE {t n:Int} {l:Nat} (h:bI t n l=true):0≤n∧n≤1048576∧(t=1→n=0)∧((t=3∨t=4)→n≤64):=by
 have ht:=(fV h).2
 simp only [bI,Bool.and_eq_true,decide_eq_true_eq] at h
 rcases h with ⟨_,h⟩
 rcases ht with rfl | rfl | rfl | rfl<;>simp at h<;>omega
theorem WF.At.fat {w:World} {f:WF} (h:f.At w) (hs:f.rl≤100):FAt w f.ra f.g f.rows:=⟨h.rows,h.g64,h.r64,by rw [h.rl];exact hs⟩
end Go.Proofs.YtmgnkpibpjgncaaGreatDoor
namespace Go.Proofs.YtmgnkpibpjgncaaGreatDoor
open Go.Proofs.Tryz
open Go Go.RowKit
theorem big_no {n:Int} (h:nB n≠0):(if fR n=true then (30:Int) else 31)=31:=by
 by_cases hd:fR n=true
 ·exfalso;apply h
  simp only [fR,Bool.and_eq_true,decide_eq_true_eq] at hd
  unfold nB;rw [if_pos (by omega)]
 ·rw [if_neg hd]
theorem big_yes {n:Int} (h:¬ nB n≠0):fR n=true∧n≤64:=by
 have h':nB n=0:=by omega
 unfold nB at h'
 split at h'
 ·rename_i hn
  refine ⟨?_,by omega⟩
  simp only [fR,Bool.and_eq_true,decide_eq_true_eq];omega
 ·omega
theorem big_ne {n:Int}:(if fR n=true then (30:Int) else 31)≠0:=by
 split<;>omega
theorem Nz {n:Int} (h:fR n=true):n≤64:=by
 simp only [fR,Bool.and_eq_true,decide_eq_true_eq] at h;omega
theorem Hu (n:Int) (a:Option Addr) (len cap gen:Nat) (w:World) (hl:100 < len) :
  Calls prog 153 #[.int .i64 n,.agg #[.int .u64 (gen:Int),.slice a len cap]] w (fun e w'=>e = .returned (.int .i64 (if fR n=true then 30 else 31))∧Below w.heap.size w w'):=by
 refine cB (args:=[.int .i64 n,.agg #[.int .u64 (gen:Int),.slice a len cap]]) func153 rfl ntmps153 rfl ?_
 have hS:=St.start w
 refine aJ (aQ (bR (cs:=[_,_]) hS rfl rfl rfl fun B1 W1 hS=>aC rfl rfl (aN (XF.thenN (aJ (aQ (aE rfl rfl (cL (vs:=[_]) hS Tc rfl (rF n _ _ rfl rfl _) rfl ?_))))))))
 rintro e W2 ⟨rfl,rfl⟩
 refine ⟨_,rfl,Below.refl _ _,fun hS'=>?_⟩
 clear hS;have hS:=hS';clear hS'
 refine aE rfl rfl (bJ rfl rfl rfl (bJ rfl rfl rfl (aC rfl rfl (aC rfl rfl (aN (XF.thenN (aJ (aJ (aQ (aE rfl rfl (dX rfl rfl rfl (aN (XF.thenN (bA rfl (fun hc=>?_) (fun hc=>?_)))))))))))))))
 ·have hc15:=of_decide_eq_true hc;clear hc
  refine aJ (aQ (aC rfl rfl (aN (XF.thenN (bX (XF.thenR (XF.res (cQ results153 rfl) ?_)))))))
  exact ⟨by rw [big_no hc15],hS.below⟩
 ·have hc15:=of_decide_eq_false hc;clear hc
  obtain ⟨hd,hd2⟩:=big_yes hc15
  refine bM (XF.thenN (aJ (aJ (aQ (aO (o':=1) yR rfl rfl rfl (aT isAgg38 rfl (aH (hS.at_ 0 rfl) rfl) rfl (cX underlying38 rfl rfl (aE rfl rfl (dX rfl rfl rfl (aE rfl rfl (cI (d:=21) rfl (fun hc=>?_) (fun hc=>absurd (of_decide_eq_false hc) (by omega)))))))))))))
  have hc:=of_decide_eq_true hc
  refine aP (d:=21) rfl rfl rfl rfl (aP (d:=21) rfl rfl rfl rfl (aP (d:=21) rfl rfl rfl rfl (aP (d:=21) rfl rfl rfl rfl (aP (d:=21) rfl rfl rfl rfl (bV rfl rfl rfl (aN (XF.thenN (gW rfl (aJ (aQ (aC rfl rfl (aN (XF.thenN (bX (XF.thenR (XF.res (cQ results153 rfl) ?_))))))))))))))))
  exact ⟨by rw [if_pos hd],hS.below⟩
theorem Lg (n:Int) (a:Option Addr) (len cap gen:Nat) (w:World) (hl:100 < len) :
  Calls prog 131 #[.int .i64 n,.agg #[.int .u64 (gen:Int),.slice a len cap]] w (fun e w'=>e = .returned (.int .i64 (if fR n=true then 30 else 31))∧Below w.heap.size w w'):=by
 refine cB (args:=[.int .i64 n,.agg #[.int .u64 (gen:Int),.slice a len cap]]) func131 rfl ntmps131 rfl ?_
 have hS:=St.start w
 refine aJ (aQ (bR (cs:=[_,_]) hS rfl rfl rfl fun B1 W1 hS=>aC rfl rfl (aN (XF.thenN (aJ (aJ (aQ (aE rfl rfl (aS (vs:=[_,_]) isAgg40 sizeOf40 rfl (aB.own (j:=0) (m:=2) (hS.at_ 0 rfl) rfl) rfl (cC (vs:=[_,_]) hS Tb rfl (Hu n a len cap gen _ hl) rfl fun W2 hS=>aC rfl rfl (aN (XF.thenN (aJ (aQ (aE rfl rfl (dX rfl rfl rfl (aN (XF.thenN (bA rfl (fun hc=>?_) (fun hc=>absurd (of_decide_eq_false hc) (by exact fun h=>h big_ne)))))))))))))))))))))
 have hc:=of_decide_eq_true hc
 refine aJ (aQ (aE rfl rfl (aC rfl rfl (aN (XF.thenN (bX (XF.thenR (XF.res (cQ results131 rfl) ?_))))))))
 exact ⟨rfl,hS.below⟩
theorem Lh (n:Int) (a:Option Addr) (len cap gen:Nat) (w:World) (hl:100 < len) (hd:fR n=true) :
  Calls prog 134 #[.int .i64 n,.agg #[.int .u64 (gen:Int),.slice a len cap]] w (fun e w'=>e = .returned (.bool false)∧Below w.heap.size w w'):=by
 have hd2:=Nz hd
 refine cB (args:=[.int .i64 n,.agg #[.int .u64 (gen:Int),.slice a len cap]]) func134 rfl ntmps134 rfl ?_
 have hS:=St.start w
 refine aJ (aQ (bR (cs:=[_,_]) hS rfl rfl rfl fun B1 W1 hS=>aC rfl rfl (aN (XF.thenN (aJ (aJ (aQ (aO (o':=1) yR rfl rfl rfl (aT isAgg38 rfl (aH (hS.at_ 0 rfl) rfl) rfl (cX underlying38 rfl rfl (aE rfl rfl (dX rfl rfl rfl (aE rfl rfl (cI (d:=11) rfl (fun hc=>?_) (fun hc=>absurd (of_decide_eq_false hc) (by omega))))))))))))))))
 have hc:=of_decide_eq_true hc
 refine aP (d:=11) rfl rfl rfl rfl (aP (d:=11) rfl rfl rfl rfl (aP (d:=11) rfl rfl rfl rfl (aP (d:=11) rfl rfl rfl rfl (aP (d:=11) rfl rfl rfl rfl (bV rfl rfl rfl (aN (XF.thenN (gW rfl (aJ (aQ (aC rfl rfl (aN (XF.thenN (bX (XF.thenR (XF.res (cQ results134 rfl) ?_))))))))))))))))
 exact ⟨rfl,hS.below⟩
theorem Li (n:Int) (a:Option Addr) (len cap gen:Nat) (w:World) (hl:100 < len) :
  Calls prog 105 #[.int .i64 n,.agg #[.int .u64 (gen:Int),.slice a len cap]] w (fun e w'=>e = .returned (.int .i64 (if fR n=true then 30 else 31))∧Below w.heap.size w w'):=by
 refine cB (args:=[.int .i64 n,.agg #[.int .u64 (gen:Int),.slice a len cap]]) func105 rfl ntmps105 rfl ?_
 have hS:=St.start w
 refine aJ (aQ (bR (cs:=[_,_]) hS rfl rfl rfl fun B1 W1 hS=>aC rfl rfl (aN (XF.thenN (aJ (aJ (aQ (aE rfl rfl (cL (vs:=[_]) hS S8 rfl (wV n _ rfl _) rfl ?_)))))))))
 rintro e W2 ⟨rfl,rfl⟩
 refine ⟨_,rfl,Below.refl _ _,fun hS'=>?_⟩
 clear hS;have hS:=hS';clear hS'
 refine fS rfl rfl (aN (XF.thenN (bA rfl (fun hc=>?_) (fun hc=>?_))))
 ·have hc7:=hc;clear hc
  refine aJ (aQ (aC rfl rfl (aN (XF.thenN (bX (XF.thenR (XF.res (cQ results105 rfl) ?_)))))))
  exact ⟨by rw [if_neg (by simpa using hc7)],hS.below⟩
 ·have hc7:=hc;clear hc
  have hd:fR n=true:=by simpa using hc7
  refine bM (XF.thenN (aJ (aJ (mK (m:=11) cD hS (by kernel_rfl) (by kernel_rfl) rfl (cJ 1 rfl 0 rfl rfl (fun w hw=>aY rfl) rfl (cJ 2 rfl 3 rfl rfl (fun w hw=>aX (vs:=[_,_]) isAgg40 sizeOf40 rfl (aB.agree (aK hw 0) (Nat.zero_le _) (aB.own (j:=0) (m:=2) (hS.at_ 0 rfl) rfl))) rfl ?_))))))
  refine aI 3 rfl (isV (.bool false)) (aF _) (cR [isV _,isV _] rfl Ta (aR rfl) ⟨bU (aL 0 (aA rfl rfl rfl)),bU (aL 1 (aA rfl rfl rfl)),trivial⟩ (fun vs w' hb hh=>by have e:=cA (us:=[_,_]) hh;subst e;exact (Lh n a len cap gen _ hl hd).mono fun e w2 h=>⟨_,h.1,rfl,h.2⟩) (aD rfl)) ?_
  refine aI 4 rfl (isV (.bool true)) (aF _) (pI (li:=[(10,_)]) rfl (aR rfl) ⟨aL 2 (aA rfl rfl rfl),trivial⟩ (fun w hw=>kX rfl) (rfl) (aD rfl)) (aZ 5 rfl 11 3 rfl rfl rfl (fun w hw=>aY rfl) rfl (aI 6 rfl (isV undef) (aF _) (bL rfl (bW 12 rfl (aA rfl rfl rfl) rfl) (aD rfl)) (aI 7 rfl (isV undef) (aF _) (bL rfl (bW 12 rfl (aA rfl rfl rfl) rfl) (aD rfl)) (aI 8 rfl (isV undef) (aF _) (bL rfl (bW 12 rfl (aA rfl rfl rfl) rfl) (aD rfl)) (aI 9 rfl (isV undef) (aF _) (bL rfl (bW 12 rfl (aA rfl rfl rfl) rfl) (aD rfl)) (aI 10 rfl (isV undef) (aF _) (bL rfl (bW 12 rfl (aA rfl rfl rfl) rfl) (aD rfl)) (aZ 11 rfl 12 4 rfl rfl rfl (fun w hw=>eX rfl rfl) rfl (dV ?_))))))))
  intro W3 hbR hS'
  clear hS;have hS:=hS';clear hS'
  refine aG (aG (aG (aG (aG (aG (aG (aG (aG (aG (aG (cO (XF.thenN (gW rfl (aJ (aQ (aC rfl rfl (aN (XF.thenN (bX (XF.thenR (XF.res (cQ results105 rfl) ?_)))))))))))))))))))))
  exact ⟨by rw [if_pos hd],hS.below⟩
theorem Ab {n:Int} {gen:Nat} {rows:List Nat} (h:100 < rows.length):eO n gen rows=(if fR n=true then 30 else 31):=by
 unfold eO
 by_cases hd:fR n=true
 ·have h64:=Nz hd
  have e:fJ n.toNat gen rows=false:=by
   unfold fJ
   rw [decide_eq_false (by omega)];rfl
  rw [if_pos hd,if_pos hd,e];rfl
 ·rw [if_neg hd,if_neg hd]
theorem Lj (n:Int) (a:Option Addr) (cap gen:Nat) (rows:List Nat) (w:World) {f:WF} (hf:f.At w) (r:Int) (hr:eO n gen rows=r) (len:Nat) (hl:rows.length=len) (ha:f.ra=a:=by rfl) (hg:f.g=gen:=by rfl) (hrr:f.rows=rows:=by rfl) :
  Calls prog 131 #[.int .i64 n,.agg #[.int .u64 (gen:Int),.slice a len cap]] w fun e w'=>e = .returned (.int .i64 r)∧Below w.heap.size w w':=by
 subst ha;subst hg;subst hrr
 by_cases h:f.rows.length≤100
 ·exact sK n _ cap _ _ w ⟨hf.rows,hf.g64,hf.r64,h⟩ r hr len hl
 ·rw [← hr,Ab (by omega)]
  exact Lg n _ len cap _ w (by omega)
theorem Lk (n:Int) (a:Option Addr) (cap gen:Nat) (rows:List Nat) (w:World) {f:WF} (hf:f.At w) (r:Int) (hr:eO n gen rows=r) (len:Nat) (hl:rows.length=len) (ha:f.ra=a:=by rfl) (hg:f.g=gen:=by rfl) (hrr:f.rows=rows:=by rfl) :
  Calls prog 105 #[.int .i64 n,.agg #[.int .u64 (gen:Int),.slice a len cap]] w fun e w'=>e = .returned (.int .i64 r)∧Below w.heap.size w w':=by
 subst ha;subst hg;subst hrr
 by_cases h:f.rows.length≤100
 ·exact sL n _ cap _ _ w ⟨hf.rows,hf.g64,hf.r64,h⟩ r hr len hl
 ·rw [← hr,Ab (by omega)]
  exact Li n _ len cap _ w (by omega)
end Go.Proofs.YtmgnkpibpjgncaaGreatDoor
namespace Go.Proofs.YtmgnkpibpjgncaaGreatDoor
open Go.Proofs.Tryz
open Go.RowKit
theorem Hv (f:WF) (r:Bool) (hr:iX false false false false f=r) (w:World) :
  Calls prog 104 #[f.val,.bool false,.bool false,.bool false,.bool false] w fun e w'=>e = .returned (.bool r)∧Below w.heap.size w w':=by
 obtain ⟨z,c,g,ra,rl,rc,rows,ca,cl,cc,cells,pa,pl,pc⟩:=f
 show Calls prog 104 #[.agg #[.bool z,.int .i64 c,.int .u64 (g:Int),.slice ra rl rc,.slice ca cl cc,.slice pa pl pc],.bool false,.bool false,.bool false,.bool false] w _
 have hB:=Lib.hid (Cq w #[.bool z,.int .i64 c,.int .u64 (g:Int),.slice ra rl rc,.slice ca cl cc,.slice pa pl pc] 44)
 obtain ⟨b1,h1⟩:∃ b,(c == 0)=b:=⟨_,rfl⟩
 obtain ⟨b2,h2⟩:∃ b,((g:Int) == 0)=b:=⟨_,rfl⟩
 obtain ⟨b3,h3⟩:∃ b,((rl:Int) == 0)=b:=⟨_,rfl⟩
 obtain ⟨b4,h4⟩:∃ b,((cl:Int) == 0)=b:=⟨_,rfl⟩
 obtain ⟨b5,h5⟩:∃ b,((pl:Int) == 0)=b:=⟨_,rfl⟩
 have HR:Hid (((false || b1) && ((false || (b2 && b3)) && ((false || b4) && (false || b5))))=r):=by
  show _=_
  rw [← hr,← h1,← h2,← h3,← h4,← h5,eD,eD,eD,eD,sM];rfl
 clear hr
 cases b1
 ·go_enter func104,ntmps104
  go_wp2_with fail
  go_ret
  exact ⟨bT (by rw [← HR.out];simp),hB.out⟩
 cases b2
 ·go_enter func104,ntmps104
  go_wp2_with fail
  go_ret
  exact ⟨bT (by rw [← HR.out];simp),hB.out⟩
 cases b3
 ·go_enter func104,ntmps104
  go_wp2_with fail
  go_ret
  exact ⟨bT (by rw [← HR.out];simp),hB.out⟩
 cases b4
 ·go_enter func104,ntmps104
  go_wp2_with fail
  go_ret
  exact ⟨bT (by rw [← HR.out];simp),hB.out⟩
 cases b5
 ·go_enter func104,ntmps104
  go_wp2_with fail
  go_ret
  exact ⟨bT (by rw [← HR.out];simp),hB.out⟩
 go_enter func104,ntmps104
 go_wp2_with fail
 go_ret
 exact ⟨bT (by rw [← HR.out];simp),hB.out⟩
theorem Ty (f:WF) (r:Bool) (hr:iX true false false false f=r) (w:World) :
  Calls prog 104 #[f.val,.bool true,.bool false,.bool false,.bool false] w fun e w'=>e = .returned (.bool r)∧Below w.heap.size w w':=by
 obtain ⟨z,c,g,ra,rl,rc,rows,ca,cl,cc,cells,pa,pl,pc⟩:=f
 show Calls prog 104 #[.agg #[.bool z,.int .i64 c,.int .u64 (g:Int),.slice ra rl rc,.slice ca cl cc,.slice pa pl pc],.bool true,.bool false,.bool false,.bool false] w _
 have hB:=Lib.hid (Cq w #[.bool z,.int .i64 c,.int .u64 (g:Int),.slice ra rl rc,.slice ca cl cc,.slice pa pl pc] 44)
 obtain ⟨b1,h1⟩:∃ b,(c == 0)=b:=⟨_,rfl⟩
 obtain ⟨b2,h2⟩:∃ b,((g:Int) == 0)=b:=⟨_,rfl⟩
 obtain ⟨b3,h3⟩:∃ b,((rl:Int) == 0)=b:=⟨_,rfl⟩
 obtain ⟨b4,h4⟩:∃ b,((cl:Int) == 0)=b:=⟨_,rfl⟩
 obtain ⟨b5,h5⟩:∃ b,((pl:Int) == 0)=b:=⟨_,rfl⟩
 have HR:Hid (((true || b1) && ((false || (b2 && b3)) && ((false || b4) && (false || b5))))=r):=by
  show _=_
  rw [← hr,← h1,← h2,← h3,← h4,← h5,eD,eD,eD,eD,sM];rfl
 clear hr
 cases b2
 ·go_enter func104,ntmps104
  go_wp2_with fail
  go_ret
  exact ⟨bT (by rw [← HR.out];simp),hB.out⟩
 cases b3
 ·go_enter func104,ntmps104
  go_wp2_with fail
  go_ret
  exact ⟨bT (by rw [← HR.out];simp),hB.out⟩
 cases b4
 ·go_enter func104,ntmps104
  go_wp2_with fail
  go_ret
  exact ⟨bT (by rw [← HR.out];simp),hB.out⟩
 cases b5
 ·go_enter func104,ntmps104
  go_wp2_with fail
  go_ret
  exact ⟨bT (by rw [← HR.out];simp),hB.out⟩
 go_enter func104,ntmps104
 go_wp2_with fail
 go_ret
 exact ⟨bT (by rw [← HR.out];simp),hB.out⟩
theorem Tz (f:WF) (r:Bool) (hr:iX false true false false f=r) (w:World) :
  Calls prog 104 #[f.val,.bool false,.bool true,.bool false,.bool false] w fun e w'=>e = .returned (.bool r)∧Below w.heap.size w w':=by
 obtain ⟨z,c,g,ra,rl,rc,rows,ca,cl,cc,cells,pa,pl,pc⟩:=f
 show Calls prog 104 #[.agg #[.bool z,.int .i64 c,.int .u64 (g:Int),.slice ra rl rc,.slice ca cl cc,.slice pa pl pc],.bool false,.bool true,.bool false,.bool false] w _
 have hB:=Lib.hid (Cq w #[.bool z,.int .i64 c,.int .u64 (g:Int),.slice ra rl rc,.slice ca cl cc,.slice pa pl pc] 44)
 obtain ⟨b1,h1⟩:∃ b,(c == 0)=b:=⟨_,rfl⟩
 obtain ⟨b2,h2⟩:∃ b,((g:Int) == 0)=b:=⟨_,rfl⟩
 obtain ⟨b3,h3⟩:∃ b,((rl:Int) == 0)=b:=⟨_,rfl⟩
 obtain ⟨b4,h4⟩:∃ b,((cl:Int) == 0)=b:=⟨_,rfl⟩
 obtain ⟨b5,h5⟩:∃ b,((pl:Int) == 0)=b:=⟨_,rfl⟩
 have HR:Hid (((false || b1) && ((true || (b2 && b3)) && ((false || b4) && (false || b5))))=r):=by
  show _=_
  rw [← hr,← h1,← h2,← h3,← h4,← h5,eD,eD,eD,eD,sM];rfl
 clear hr
 cases b1
 ·go_enter func104,ntmps104
  go_wp2_with fail
  go_ret
  exact ⟨bT (by rw [← HR.out];simp),hB.out⟩
 cases b4
 ·go_enter func104,ntmps104
  go_wp2_with fail
  go_ret
  exact ⟨bT (by rw [← HR.out];simp),hB.out⟩
 cases b5
 ·go_enter func104,ntmps104
  go_wp2_with fail
  go_ret
  exact ⟨bT (by rw [← HR.out];simp),hB.out⟩
 go_enter func104,ntmps104
 go_wp2_with fail
 go_ret
 exact ⟨bT (by rw [← HR.out];simp),hB.out⟩
theorem T3 (f:WF) (r:Bool) (hr:iX false false true false f=r) (w:World) :
  Calls prog 104 #[f.val,.bool false,.bool false,.bool true,.bool false] w fun e w'=>e = .returned (.bool r)∧Below w.heap.size w w':=by
 obtain ⟨z,c,g,ra,rl,rc,rows,ca,cl,cc,cells,pa,pl,pc⟩:=f
 show Calls prog 104 #[.agg #[.bool z,.int .i64 c,.int .u64 (g:Int),.slice ra rl rc,.slice ca cl cc,.slice pa pl pc],.bool false,.bool false,.bool true,.bool false] w _
 have hB:=Lib.hid (Cq w #[.bool z,.int .i64 c,.int .u64 (g:Int),.slice ra rl rc,.slice ca cl cc,.slice pa pl pc] 44)
 obtain ⟨b1,h1⟩:∃ b,(c == 0)=b:=⟨_,rfl⟩
 obtain ⟨b2,h2⟩:∃ b,((g:Int) == 0)=b:=⟨_,rfl⟩
 obtain ⟨b3,h3⟩:∃ b,((rl:Int) == 0)=b:=⟨_,rfl⟩
 obtain ⟨b4,h4⟩:∃ b,((cl:Int) == 0)=b:=⟨_,rfl⟩
 obtain ⟨b5,h5⟩:∃ b,((pl:Int) == 0)=b:=⟨_,rfl⟩
 have HR:Hid (((false || b1) && ((false || (b2 && b3)) && ((true || b4) && (false || b5))))=r):=by
  show _=_
  rw [← hr,← h1,← h2,← h3,← h4,← h5,eD,eD,eD,eD,sM];rfl
 clear hr
 cases b1
 ·go_enter func104,ntmps104
  go_wp2_with fail
  go_ret
  exact ⟨bT (by rw [← HR.out];simp),hB.out⟩
 cases b2
 ·go_enter func104,ntmps104
  go_wp2_with fail
  go_ret
  exact ⟨bT (by rw [← HR.out];simp),hB.out⟩
 cases b3
 ·go_enter func104,ntmps104
  go_wp2_with fail
  go_ret
  exact ⟨bT (by rw [← HR.out];simp),hB.out⟩
 cases b5
 ·go_enter func104,ntmps104
  go_wp2_with fail
  go_ret
  exact ⟨bT (by rw [← HR.out];simp),hB.out⟩
 go_enter func104,ntmps104
 go_wp2_with fail
 go_ret
 exact ⟨bT (by rw [← HR.out];simp),hB.out⟩
theorem vC (f:WF) (r:Bool) (hr:iX false false false true f=r) (w:World) :
  Calls prog 104 #[f.val,.bool false,.bool false,.bool false,.bool true] w fun e w'=>e = .returned (.bool r)∧Below w.heap.size w w':=by
 obtain ⟨z,c,g,ra,rl,rc,rows,ca,cl,cc,cells,pa,pl,pc⟩:=f
 show Calls prog 104 #[.agg #[.bool z,.int .i64 c,.int .u64 (g:Int),.slice ra rl rc,.slice ca cl cc,.slice pa pl pc],.bool false,.bool false,.bool false,.bool true] w _
 have hB:=Lib.hid (Cq w #[.bool z,.int .i64 c,.int .u64 (g:Int),.slice ra rl rc,.slice ca cl cc,.slice pa pl pc] 44)
 obtain ⟨b1,h1⟩:∃ b,(c == 0)=b:=⟨_,rfl⟩
 obtain ⟨b2,h2⟩:∃ b,((g:Int) == 0)=b:=⟨_,rfl⟩
 obtain ⟨b3,h3⟩:∃ b,((rl:Int) == 0)=b:=⟨_,rfl⟩
 obtain ⟨b4,h4⟩:∃ b,((cl:Int) == 0)=b:=⟨_,rfl⟩
 obtain ⟨b5,h5⟩:∃ b,((pl:Int) == 0)=b:=⟨_,rfl⟩
 have HR:Hid (((false || b1) && ((false || (b2 && b3)) && ((false || b4) && (true || b5))))=r):=by
  show _=_
  rw [← hr,← h1,← h2,← h3,← h4,← h5,eD,eD,eD,eD,sM];rfl
 clear hr
 cases b1
 ·go_enter func104,ntmps104
  go_wp2_with fail
  go_ret
  exact ⟨bT (by rw [← HR.out];simp),hB.out⟩
 cases b2
 ·go_enter func104,ntmps104
  go_wp2_with fail
  go_ret
  exact ⟨bT (by rw [← HR.out];simp),hB.out⟩
 cases b3
 ·go_enter func104,ntmps104
  go_wp2_with fail
  go_ret
  exact ⟨bT (by rw [← HR.out];simp),hB.out⟩
 cases b4
 ·go_enter func104,ntmps104
  go_wp2_with fail
  go_ret
  exact ⟨bT (by rw [← HR.out];simp),hB.out⟩
 go_enter func104,ntmps104
 go_wp2_with fail
 go_ret
 exact ⟨bT (by rw [← HR.out];simp),hB.out⟩
theorem Ll {m s:Nat} (hm:m≤64) (hs:s < 18446744073709551616):nT m s=kB m s:=by
 rw [Bool.eq_iff_iff,jZ hm hs,kB,beq_iff_eq,Nat.div_eq_zero_iff_lt (Nat.two_pow_pos m)]
set_option maxHeartbeats 2000000 in
theorem T4 (m:Nat) (hm:m≤64) (f:Nat) (k v:Int) (hf:f < 18446744073709551616) (r:Bool) (hr:jV m ⟨f,k,v⟩=r) (w:World) :
  Calls prog 106 #[.int .i64 m,.agg #[.int .u64 f,.int .i64 k,.int .i64 v]] w fun e w'=>e = .returned (.bool r)∧Below w.heap.size w w':=by
 have hB:=Lib.hid (Cq w #[.int .u64 f,.int .i64 k,.int .i64 v] 105)
 obtain ⟨i,hi⟩:∃ i,kB m f=i:=⟨_,rfl⟩
 have HI:Hid (Le m f=i):=by
  show _=_
  have hd:fR (m:Int)=true:=by simp [fR];omega
  rw [Le,if_pos hd,Int.toNat_natCast,Ll hm hf,hi]
 have HR:Hid ((i && eC f k v)=r):=by show _=_;rw [← hr,jV,lY,hi]
 clear hr hi
 cases i
 ·have HR2:Hid (false=r):=by show _=_;rw [← HR.out];rfl
  go_enter func106,ntmps106
  go_wp2_with fail
  refine (iL m f hf false HI.out _).mono ?_
  rintro e w1 ⟨rfl,rfl⟩
  go_wp2_with fail
  go_ret
  exact ⟨bT HR2.out,hB.out⟩
 by_cases k0:k=0
 ·subst k0
  have HR2:Hid ((v == 0)=r):=by show _=_;rw [← HR.out];simp [eC]
  go_enter func106,ntmps106
  go_wp2_with fail
  refine (iL m f hf true HI.out _).mono ?_
  rintro e w1 ⟨rfl,rfl⟩
  go_wp2_with fail
  go_ret
  exact ⟨bT HR2.out,hB.out⟩
 by_cases k1:k=1
 ·subst k1
  have HR2:Hid (true=r):=by show _=_;rw [← HR.out];simp [eC]
  clear k0
  go_enter func106,ntmps106
  go_wp2_with fail
  refine (iL m f hf true HI.out _).mono ?_
  rintro e w1 ⟨rfl,rfl⟩
  go_wp2_with fail
  go_ret
  exact ⟨bT HR2.out,hB.out⟩
 by_cases k2:k=2
 ·subst k2
  clear k0 k1
  by_cases v0:v=0
  ·subst v0
   have HR2:Hid (((f:Int) == 0)=r):=by show _=_;rw [← HR.out,eD,Bool.eq_iff_iff];simp [eC]
   go_enter func106,ntmps106
   go_wp2_with fail
   refine (iL m f hf true HI.out _).mono ?_
   rintro e w1 ⟨rfl,rfl⟩
   go_wp2_with fail
   go_ret
   exact ⟨bT HR2.out,hB.out⟩
  ·have HR2:Hid (false=r):=by show _=_;rw [← HR.out];simp [eC,v0]
   have hv:(v == 0)=false:=by simp [v0]
   go_enter func106,ntmps106
   go_wp2_with fail
   refine (iL m f hf true HI.out _).mono ?_
   rintro e w1 ⟨rfl,rfl⟩
   go_wp2_with fail
   go_ret
   exact ⟨bT HR2.out,hB.out⟩
 ·have HR2:Hid (false=r):=by show _=_;rw [← HR.out];simp [eC,k0,k1,k2]
  have e0:(k == 0)=false:=by simp [k0]
  have e1:(k == 1)=false:=by simp [k1]
  have e2:(k == 2)=false:=by simp [k2]
  clear k0 k1 k2
  go_enter func106,ntmps106
  go_wp2_with fail
  refine (iL m f hf true HI.out _).mono ?_
  rintro e w1 ⟨rfl,rfl⟩
  go_wp2_with fail
  go_ret
  exact ⟨bT HR2.out,hB.out⟩
attribute [local go_sem ↓] Go.wp_at_zero Go.wp_at_succ
def pwAt (p:SV):Option WV→Bool | some x=>fU p.f.tag p.f.dim x.f | none=>false
def iM (p q:SV) (g:WF) (qs:List WV):Bool:=iY 5 g && (!g.z && (decide (qs.length=2) && (pwAt p qs[0]? && pwAt q qs[1]?)))
theorem WIn.two {w:World} {d:Nat} {f:WF} {p q:WV} (h:WIn w (d+1) (.mk f [p,q])):f.pl=2∧∃ b off,f.pa=some ⟨b,off,none⟩∧b < w.heap.size∧W6 w b off p.f∧W6 w b (off+6) q.f∧WIn w d p∧WIn w d q:=by
 obtain ⟨_,h1,h2,h3⟩:=h
 refine ⟨h1.symm,?_⟩
 rcases h2 with h2 | ⟨b,off,ha,hc⟩
 ·cases h2
 ·have c0:=hc 0 p rfl
  have c1:=hc 1 q rfl
  simp only [Nat.zero_mul,Nat.add_zero,Nat.one_mul] at c0 c1
  exact ⟨b,off,ha,jK c0.1,c0,c1,h3 p (by simp),h3 q (by simp)⟩
theorem WIn.at_ {w:World} {d:Nat} {x:WV} (h:WIn w d x):x.f.At w:=by
 match d,x,h with
 | d+1,.mk f ps,h=>exact h.1
end Go.Proofs.YtmgnkpibpjgncaaGreatDoor
namespace Go.Proofs.YtmgnkpibpjgncaaGreatDoor
open Go.Proofs.Tryz
open Go.RowKit
def nU (ys xs:List Nat) (k:Nat):List Nat:=ys.take k++xs.drop k
theorem vD {ys xs:List Nat} {k x y:Nat} (hy:ys[k]?=some y) (hx:xs[k]?=some x):(nU ys xs k).set k y=nU ys xs (k+1):=by
 obtain ⟨hk,ex⟩:=List.getElem?_eq_some_iff.1 hx
 obtain ⟨hk2,ey⟩:=List.getElem?_eq_some_iff.1 hy
 unfold nU
 have hl:(ys.take k).length=k:=by rw [List.length_take];omega
 rw [List.set_append_right _ _ (by omega),hl,Nat.sub_self,List.drop_eq_getElem_cons hk,List.set_cons_zero,List.take_succ_eq_append_getElem hk2,ey,List.append_assoc]
 rfl
theorem yW {ys xs:List Nat} {k x:Nat} (hl:ys.length=xs.length) (hx:xs[k]?=some x):(nU ys xs k)[k]?=some x:=by
 obtain ⟨hk,ex⟩:=List.getElem?_eq_some_iff.1 hx
 unfold nU
 have h2:(ys.take k).length=k:=by rw [List.length_take];omega
 rw [List.getElem?_append_right (by omega),h2,Nat.sub_self,List.getElem?_drop,Nat.add_zero,hx]
theorem sO (ys xs:List Nat):nU ys xs 0=xs:=by simp [nU]
theorem vE {ys xs:List Nat} (hl:ys.length=xs.length):nU ys xs xs.length=ys:=by
 unfold nU
 rw [List.take_of_length_le (by omega),List.drop_of_length_le (Nat.le_refl _),List.append_nil]
theorem vF (l:List Nat) (k y:Nat):(u64s l).set k (.int .u64 (y:Int))=u64s (l.set k y):=by
 unfold u64s;rw [List.map_set]
theorem vG {l:List Nat} {k x:Nat} (h:l[k]?=some x):(u64s l)[k]?=some (.int .u64 (x:Int)):=by
 unfold u64s;rw [List.getElem?_map,h];rfl
theorem Fo {w:World} {ad:Addr} {vs:List Value} (h:fQ w (some ad) vs):∀ j u,vs[j]?=some u→w.cell? (ad.add j)=some u:=by
 intro j u hj
 rcases h with h | ⟨b,off,ha,hc⟩
 ·subst h;simp at hj
 ·cases ha
  have:=hc j u hj
  rw [← this]
  simp only [Addr.add];split<;>simp_all
theorem T5 (l:List Nat):∀ u∈u64s l,u.oneCell'=true:=by
 intro u hu
 unfold u64s at hu
 rw [List.mem_map] at hu
 obtain ⟨r,_,rfl⟩:=hu
 rfl
set_option maxHeartbeats 1000000 in
theorem Ac (a:Option Addr) (cap:Nat) (xs:List Nat) (w:World) (hx:xs.length≤100) (hra:wX w a xs) (n:Nat) (hn:xs.length=n) :
  Calls prog 157 #[.slice a n cap] w fun e w'=>∃ v,e = .returned v∧w'.ownsRow w.heap.size 37 1 v n (u64s xs)∧Below w.heap.size w w':=by
 obtain ⟨i0,hi,hz0,hz1,hz2⟩:=info_parts zZ
 have q22:∀ (w:World) (a:Option Addr) (n c n' c':Nat),(binOp .eql 38 (.slice a n c) (.slice none n' c')).run prog w = .ok (.bool a.isNone) w:=fun w a n c n' c'=>Lib.run_eql_slice_nil w _ _ a n c n' c' underlying38
 have HN:=Lib.hid hn
 rw [hn] at hx
 cases a with
 | none =>
  have hcs:u64s xs=[]:=by
   rcases hra with h | ⟨b,off,e,_⟩
   ·exact h
   ·cases e
  have hx0:xs=[]:=List.length_eq_zero_iff.1 (by rw [← fM,hcs];rfl)
  subst hx0
  obtain rfl:0=n:=HN.out
  clear hra
  go_enter func157,ntmps157
  go_wp2
  go_ret
  exact ⟨_,rfl,World.ownsRow_nil _ _ _ _,Below.refl _ _⟩
 | some ad =>
  have HNW:=Lib.hid (fun (o:Obj)=>Fo (fQ.below hra ((Below.refl _ w).alloc (Nat.le_refl _) o)))
  have hown:(w.alloc (.cells #[] 37)).ownsRow w.heap.size 37 1 (.slice (some ⟨w.heap.size,0,none⟩) 0 0) 0 []:=World.ownsRow_lit w #[] 0 (Nat.le_refl _) (by simp) rfl
  have HO:=Lib.hid hown
  have hul:Hid ((u64s xs).length=n * 1):=by show _=_;rw [fM,hn,Nat.mul_one]
  clear hra hown hn
  go_enter func157,ntmps157
  go_wp2_with (at_builtin;go_loud (refine wpList_append_own _ rfl (.tmp 5) (.tmp 6) 38 rfl w.heap.size 37 i0 _ 1 8 underlying38 hi hz0 hz1 hz2 rfl (by decide) _ _ _ rfl HO.out ad n cap (u64s xs) rfl hul.out (HNW.out _) (T5 xs) (by unfold maxLen;omega) (by omega) (by simp) ?_;intro v' w2 hown2 hgrow hnil))
  go_ret
  refine ⟨v',rfl,by simpa using hown2,?_⟩
  exact ((Below.refl _ _).alloc (Nat.le_refl _) _).grown hgrow (by simp) (fun j e=>by cases e;exact Nat.le_refl _)
structure OwnPost (w w':World) (base n:Nat) (v:Value) (xs:List Nat):Prop where
 own:w'.ownsRow base 37 1 v n (u64s xs)
 below:Below base w w'
 rest:∀ j,j < w.heap.size→some j≠v.ownBlock→w'.heap[j]?=w.heap[j]?
set_option maxHeartbeats 1000000 in
theorem vH (gen:Nat) (base n:Nat) (v:Value) (xs ys:List Nat) (w:World) (hgen:gen < 18446744073709551616) (hall:∀ r∈xs,r < 18446744073709551616) (hx:xs.length≤100) (hn:xs.length=n) (hb0:base≤w.heap.size) (hown:w.ownsRow base 37 1 v n (u64s xs)) (hys:eG gen xs=ys) :
  Calls prog 162 #[.int .u64 gen,v] w fun e w'=>e = .returned (.agg #[.int .u64 (gen:Int),v])∧OwnPost w w' base n v ys:=by
 have HALL:=Lib.hid hall;have HN:=Lib.hid hn
 have HYL:Hid (ys.length=xs.length):=by show _=_;rw [← hys,jD]
 have HYS:=Lib.hid hys
 obtain ⟨a,cap,hv⟩:∃ a cap,v = .slice a n cap:=by
  rcases hown.2 with ⟨h,h0⟩ | ⟨g,cap,cur,h,_⟩
  ·exact ⟨none,0,by rw [h,h0]⟩
  ·exact ⟨_,_,h⟩
 subst hv
 have HO0:=Lib.hid hown
 rw [hn] at hx
 clear hown hys hall hn
 go_enter func162,ntmps162
 go_wp2_with fail
 go_loopw [8] (fun i wr=>∃ k:Nat,k≤n∧i = .int .i64 k∧Hid (wr.ownsRow base 37 1 (.slice a n cap) n (u64s (nU ys xs k)))∧Hid (wr.heap[w.heap.size]?=some (.cells #[.int .u64 0,.slice none 0 0] 40 (0,0)))∧Below base w wr∧Hid (∀ j,j < w.heap.size→some j≠(Value.slice a n cap).ownBlock→wr.heap[j]?=w.heap[j]?)) (fun i _=>n - (intOf i).toNat)
 case atStart =>
  refine ⟨0,Nat.zero_le _,rfl,?_,dL _ _,(Below.refl _ _).alloc hb0 _,fun j hj _=>Below.heap_alloc _ _ _ hj⟩
  rw [sO]
  exact HO0.out.alloc _
 case round =>
  obtain ⟨k,hk,rfl,HO,HR,hb,HX⟩:=hrel
  by_cases hlt:k < n
  ·obtain ⟨x,hx1⟩:∃ x,xs[k]?=some x:=⟨xs[k]'(by rw [HN.out];exact hlt),by simp [HN.out,hlt]⟩
   have hx64:=HALL.out x (List.mem_of_getElem? hx1)
   have hag:=Nv x gen hx64 hgen
   obtain ⟨y,hy⟩:∃ y,andn x gen=y:=⟨_,rfl⟩
   rw [hy] at hag
   have hy1:ys[k]?=some y:=by rw [← HYS.out,eG,List.getElem?_map,hx1,← hy];rfl
   have HM:=Lib.hid (vD hy1 hx1)
   obtain ⟨g,capg,hv,hbg,hgl⟩:=HO.out.form (show 0 < n by omega)
   have hv2:a=some ⟨g,0,none⟩∧capg=cap:=by cases hv;exact ⟨rfl,rfl⟩
   obtain ⟨rfl,rfl⟩:=hv2
   have d0:=(HO.out.cellAt k (by omega)).trans (vG (yW HYL.out hx1))
   have q0:=HO.out.frozenAt k
   have g0:(0:Int)≤(k:Int):=by omega
   have g3:(k:Int) < (n:Int):=by omega
   have HO2:Hid ((wr.setCell ⟨g,k,none⟩ (.int .u64 (y:Int))).ownsRow base 37 1 (.slice (some ⟨g,0,none⟩) n capg) n (u64s (nU ys xs (k+1)))):=by
    rw [← HM.out,← vF]
    exact (HO.out.stored k _).1
   have hgr:g≠w.heap.size:=by
    intro e
    have h1:=hZ HR.out (by decide) HO.out
    apply h1
    show some _=some g
    rw [e]
   have HR2:=Lib.hid (dM (j:=k) (c:=.int .u64 (y:Int)) HR.out (fun e=>hgr e.symm))
   have HX2:Hid (∀ j,j < w.heap.size→some j≠(Value.slice (some ⟨g,0,none⟩) n capg).ownBlock→(wr.setCell ⟨g,k,none⟩ (.int .u64 (y:Int))).heap[j]?=w.heap[j]?):=fun j h1 h2=>by
    rw [Below.heap_setCell _ _ _ _ (show j≠g by intro e;apply h2;rw [e];rfl)]
    exact HX.out j h1 h2
   have hb2:=hb.setCell (p:=⟨g,k,none⟩) hbg (.int .u64 (y:Int))
   clear hx1 hy hy1 hv hgr
   go_wp2
   go_roundw
   case rel=>exact ⟨k+1,by omega,by go_num,HO2,HR2,hb2,HX2⟩
   case measure=>simp [intOf];omega
  ·obtain rfl:k=n:=by omega
   have HO2:Hid (wr.ownsRow base 37 1 (.slice a k cap) k (u64s ys)):=by
    have:=HO.out
    rw [← HN.out] at this ⊢
    rwa [vE HYL.out] at this
   obtain ⟨r0,r1,rf⟩:=bF HR.out
   have rf0:=rf 0;have rf1:=rf 1
   have N1:=Lib.hid (fG (c:=.slice a k cap) (iD (c:=.int .u64 (gen:Int)) HR.out))
   obtain ⟨s0,s1,_⟩:=bF N1.out
   have HNB:=Lib.hid (hZ HR.out (by decide) HO.out)
   clear rf
   go_wp2
   refine bodyPost_ret (v:=.agg #[.int .u64 (gen:Int),.slice a k cap]) ?_ rfl ⟨rfl,?_,(hb.setCell (p:=⟨w.heap.size,0,none⟩) hb0 _).setCell (p:=⟨w.heap.size,1,none⟩) hb0 _,?_⟩
   ·simp [results,results162,go_sem,s0,s1]
   ·exact (HO2.out.kept (dY _ _ _ _) (.inr HNB.out.symm)).kept (dY _ _ _ _) (.inr HNB.out.symm)
   ·intro j h1 h2
    rw [Below.heap_setCell _ _ _ _ (show j≠w.heap.size by omega),Below.heap_setCell _ _ _ _ (show j≠w.heap.size by omega)]
    exact HX.out j h1 h2
def Lm (gen:Nat) (rows:List Nat) (err:Int) (w:World) (e:Ending) (w':World):Prop :=
 ∃ a cap,e = .returned (.tuple #[.agg #[.int .u64 (gen:Int),.slice a rows.length cap],.int .i64 err])∧fQ w' a (u64s rows)∧(∀ ad,a=some ad→w.heap.size≤ad.block∧ad.block < w'.heap.size)∧Below w.heap.size w w'
theorem vI {w w':World} (err:Int) (hb:Below w.heap.size w w'):Lm 0 [] err w (.returned (.tuple #[.agg #[.int .u64 0,.slice none 0 0],.int .i64 err])) w' :=
 ⟨none,0,rfl,.inl rfl,(fun ad e=>by cases e),hb⟩
theorem C5 {w:World} {base n:Nat} {E:TypeId} {v:Value} {xs:List Value} (h:w.ownsRow base E 1 v n xs):∃ a cap,v = .slice a n cap:=by
 rcases h.2 with ⟨h,h0⟩ | ⟨g,cap,cur,h,_⟩
 ·exact ⟨none,0,by rw [h,h0]⟩
 ·exact ⟨_,_,h⟩
theorem Ad {w w':World} {gen n:Nat} {v:Value} {rows:List Nat} {base:Nat} (hb0:w.heap.size≤base) (h:w'.ownsRow base 37 1 v n (u64s rows)) (hb:Below w.heap.size w w') (err:Int):Lm gen rows err w (.returned (.tuple #[.agg #[.int .u64 (gen:Int),v],.int .i64 err])) w':=by
 obtain ⟨hn,a,cap,rfl,hr,hf⟩:=fQ.of_own h
 exact ⟨a,cap,by rw [fM],hr,fun ad e=>⟨Nat.le_trans hb0 (hf ad e).1,(hf ad e).2⟩,hb⟩
def kE (n:Int) (ga:Nat) (xs:List Nat) (gb:Nat) (ys:List Nat):Int:=if eO n ga xs=0 then eO n gb ys else eO n ga xs
set_option maxHeartbeats 1000000 in
theorem vJ (n:Int) (a b:Option Addr) (capa capb ga gb:Nat) (xs ys:List Nat) (w:World) (hfa:FAt w a ga xs) (hfb:FAt w b gb ys) (r:Int) (hr:kE n ga xs gb ys=r) (la lb:Nat) (hla:xs.length=la) (hlb:ys.length=lb) :
  Calls prog 161 #[.int .i64 n,fZ ga a la capa,fZ gb b lb capb] w fun e w'=>e = .returned (.int .i64 r)∧Below w.heap.size w w':=by
 unfold fZ
 have hB0:Below w.heap.size w ((w.alloc (.cells #[.int .u64 (ga:Int),.slice a la capa] 40)).alloc (.cells #[.int .u64 (gb:Int),.slice b lb capb] 40)):=((Below.refl _ _).alloc (Nat.le_refl _) _).alloc (by simp) _
 have HA:=Lib.hid (hfa.below hB0);have HB:=Lib.hid (hfb.below hB0);have HLA:=Lib.hid hla;have HLB:=Lib.hid hlb
 obtain ⟨t0,t1⟩:=oQ w #[.int .u64 (ga:Int),.slice a la capa] #[.int .u64 (gb:Int),.slice b lb capb] 40
 have T1:=Lib.hid t1
 obtain ⟨s,hs⟩:∃ s,eO n ga xs=s:=⟨_,rfl⟩
 have HS:=Lib.hid hs
 by_cases h0:s=0
 ·subst h0
  have HR:Hid (eO n gb ys=r):=by show _=_;rw [← hr,kE,if_pos hs]
  clear hfa hfb hr hla hlb t0 t1 hs
  go_enter func161,ntmps161
  go_wp2_with fail
  refine (sK n a capa ga xs _ HA.out 0 HS.out la HLA.out).mono ?_
  rintro e w1 ⟨rfl,hb1⟩
  have hB1:=hB0.trans (hb1.mono hB0.size)
  obtain ⟨d0,d1,_⟩:=bF (cE T1.out hb1)
  go_wp2_with fail
  refine (sK n b capb gb ys _ (HB.out.below hb1) r HR.out lb HLB.out).mono ?_
  rintro e w2 ⟨rfl,hb2⟩
  go_wp2
  go_ret
  exact ⟨rfl,hB1.trans (hb2.mono hB1.size)⟩
 ·have HR:Hid (s=r):=by show _=_;rw [← hr,kE,hs,if_neg h0]
  have hne:(s != 0)=true:=by simpa using h0
  clear hfa hfb hr hla hlb t0 t1 hs h0
  go_enter func161,ntmps161
  go_wp2_with fail
  refine (sK n a capa ga xs _ HA.out s HS.out la HLA.out).mono ?_
  rintro e w1 ⟨rfl,hb1⟩
  go_wp2
  go_ret
  exact ⟨eK HR.out,hB0.trans (hb1.mono hB0.size)⟩
set_option maxHeartbeats 1000000 in
theorem yX (n:Int) (a b:Option Addr) (capa capb ga gb:Nat) (xs ys:List Nat) (w:World) (hfa:FAt w a ga xs) (hfb:FAt w b gb ys) (r:Int) (hr:kE n ga xs gb ys=r) (la lb:Nat) (hla:xs.length=la) (hlb:ys.length=lb) :
  Calls prog 120 #[.int .i64 n,fZ ga a la capa,fZ gb b lb capb] w fun e w'=>e = .returned (.int .i64 r)∧Below w.heap.size w w':=by
 unfold fZ
 have hB0:Below w.heap.size w ((w.alloc (.cells #[.int .u64 (ga:Int),.slice a la capa] 40)).alloc (.cells #[.int .u64 (gb:Int),.slice b lb capb] 40)):=((Below.refl _ _).alloc (Nat.le_refl _) _).alloc (by simp) _
 have HA:=Lib.hid (hfa.below hB0);have HB:=Lib.hid (hfb.below hB0);have HLA:=Lib.hid hla;have HLB:=Lib.hid hlb
 obtain ⟨t0,t1⟩:=oQ w #[.int .u64 (ga:Int),.slice a la capa] #[.int .u64 (gb:Int),.slice b lb capb] 40
 have T1:=Lib.hid t1
 obtain ⟨s,hs⟩:∃ s,eO n ga xs=s:=⟨_,rfl⟩
 have HS:=Lib.hid hs
 by_cases h0:s=0
 ·subst h0
  have HR:Hid (eO n gb ys=r):=by show _=_;rw [← hr,kE,if_pos hs]
  clear hfa hfb hr hla hlb t0 t1 hs
  go_enter func120,ntmps120
  go_wp2_with fail
  refine (sL n a capa ga xs _ HA.out 0 HS.out la HLA.out).mono ?_
  rintro e w1 ⟨rfl,hb1⟩
  have hB1:=hB0.trans (hb1.mono hB0.size)
  obtain ⟨d0,d1,_⟩:=bF (cE T1.out hb1)
  go_wp2_with fail
  refine (sL n b capb gb ys _ (HB.out.below hb1) r HR.out lb HLB.out).mono ?_
  rintro e w2 ⟨rfl,hb2⟩
  go_wp2
  go_ret
  exact ⟨rfl,hB1.trans (hb2.mono hB1.size)⟩
 ·have HR:Hid (s=r):=by show _=_;rw [← hr,kE,hs,if_neg h0]
  have hne:(s != 0)=true:=by simpa using h0
  clear hfa hfb hr hla hlb t0 t1 hs h0
  go_enter func120,ntmps120
  go_wp2_with fail
  refine (sL n a capa ga xs _ HA.out s HS.out la HLA.out).mono ?_
  rintro e w1 ⟨rfl,hb1⟩
  go_wp2
  go_ret
  exact ⟨eK HR.out,hB0.trans (hb1.mono hB0.size)⟩
structure TabC (W:World):Prop where
 ctz:Lib.TabIs prog W "math/bits.deBruijn64tab" .u8 rE
theorem TabC.below {W W':World} (h:TabC W) (hb:Below W.heap.size W W'):TabC W':=⟨var?_below hb Lb (Tj Lb h.ctz) h.ctz⟩
theorem Ln (x:Nat) (hx0:x≠0) (hx:x < 18446744073709551616) (w:World) (ht:TabC w) :
  Calls prog 179 #[.int .u64 x] w fun e w'=>e = .returned (.int .i64 (Lib.ctz 64 x))∧w=w':=by
 obtain ⟨hlow,hk⟩:=Lib.lowest_bit 64 x hx0 hx
 obtain ⟨hi,htab⟩:=Lib.deBruijn64_at _ hk
 have hcell:=ht.ctz.cell Lb _ (by rw [rE,List.length_map];exact hi)
 have e:rE.getD (2 ^ Lib.ctz 64 x * 285870213051353865 % 18446744073709551616 / 288230376151711744) 0=((Lib.ctz 64 x:Nat):Int):=by
  have:rE.getD (2 ^ Lib.ctz 64 x * 285870213051353865 % 18446744073709551616 / 288230376151711744) 0=Int.ofNat (Lib.deBruijn64tab.getD (2 ^ Lib.ctz 64 x * 285870213051353865 % 18446744073709551616 / 288230376151711744) 0):=by
   simp only [rE,List.getD,List.getElem?_map]
   cases Lib.deBruijn64tab[2 ^ Lib.ctz 64 x * 285870213051353865 % 18446744073709551616 / 288230376151711744]?<;>rfl
  rw [this,htab];rfl
 rw [e] at hcell
 exact Ns x _ _ w (by simp;omega) (Go.Proofs.tz64_key x _ hx hx0 hlow) hi hk hcell
theorem Hw (f:Nat) (i:Int) (r:Int) (b:Bool) (h:nC f i r b) (hf:f < 18446744073709551616) (w:World) (ht:TabC w) :
  Calls prog 181 #[.int .u64 f,.int .i64 i] w fun e w'=>e = .returned (.tuple #[.int .i64 r,.bool b])∧w=w':=by
 have HT:=Lib.hid ht
 by_cases hi:63 < i
 ·have e:r=0∧b=false:=lO h (.inr ⟨rfl,rfl,fun j hj hij=>by omega⟩)
  obtain ⟨rfl,rfl⟩:=e
  clear h ht
  go_enter func181,ntmps181
  go_wp2
  go_ret2
  exact ⟨rfl,rfl⟩
 ·have hc:=Lib.hid (Fh f i i.toNat (by omega) rfl hf r b h)
  have HA:bits BinOp.andNot IntKind.u64 (f:Int) ((2 ^ i.toNat - 1:Nat):Int)=((restN f i.toNat:Nat):Int):=u64_andNot_nat f _ hf (Ff (by omega))
  have hmx:(if i < 0 then (0:Int) else i)=((i.toNat:Nat):Int):=by split<;>omega
  have hmx2:max i 0=((i.toNat:Nat):Int):=by omega
  have hlt:=Hj f i.toNat hf
  obtain ⟨m,hm⟩:∃ m,i.toNat=m:=⟨_,rfl⟩
  rw [hm] at HA hc hmx hmx2 hlt
  have hm63:m≤63:=by omega
  obtain ⟨q,hq⟩:∃ q,restN f m=q:=⟨_,rfl⟩
  rw [hq] at HA hc hlt
  obtain ⟨p,hp⟩:∃ p:Nat,2 ^ m - 1=p:=⟨_,rfl⟩
  rw [hp] at HA
  have HP:=Lib.hid hp
  clear ht h hq hp hf hm
  rcases hc.out with ⟨h0,rfl,rfl⟩ | ⟨h0,hr,rfl⟩
  ·subst h0
   go_enter func181,ntmps181
   go_wp2_with fail
   refine (zX m (by omega) _).mono ?_
   rintro e w1 ⟨rfl,rfl⟩
   rw [HP.out]
   go_wp2
   go_ret2
   exact ⟨rfl,rfl⟩
  ·have HR:=Lib.hid hr
   have hq0:((q:Int) == 0)=false:=by simp;omega
   clear hr hc
   go_enter func181,ntmps181
   go_wp2_with fail
   refine (zX m (by omega) _).mono ?_
   rintro e w1 ⟨rfl,rfl⟩
   rw [HP.out]
   go_wp2_with fail
   refine (Ln q (by omega) hlt _ HT.out).mono ?_
   rintro e w1 ⟨rfl,rfl⟩
   go_wp2
   go_ret2
   exact ⟨rib HR.out.symm rfl,rfl⟩
end Go.Proofs.YtmgnkpibpjgncaaGreatDoor
namespace Go.Proofs.YtmgnkpibpjgncaaGreatDoor
open Go.Proofs.Tryz
open Go.RowKit Go.Shelf
def Lo (rest:List Nat) (r:Int) (b:Bool):Prop:=(rest=[]∧r=0∧b=false)∨(∃ x l,rest=x::l∧r=(x:Int)∧b=true)
theorem tY {s j:Nat} (hj:j < 64) (h:s.testBit j=true):j∈mem s:=by
 unfold mem
 rw [List.mem_filter]
 exact ⟨List.mem_range.2 hj,h⟩
theorem tZ (s:Nat):(mem s).Pairwise (· < ·):=List.Pairwise.filter _ List.pairwise_lt_range
theorem C6 {s:Nat} {pre rest:List Nat} {i r:Int} {b:Bool} (hm:mem s=pre++rest) (hp:∀ p∈pre,(p:Int) < i) (hr:∀ q∈rest,i≤(q:Int)) (h:nC s i r b):Lo rest r b:=by
 have hs:=tZ s
 rw [hm,List.pairwise_append] at hs
 cases rest with
 | nil =>
  have:nC s i 0 false:=.inr ⟨rfl,rfl,fun j hj hij=>by
   cases hb:s.testBit j
   ·rfl
   ·have:=tY hj hb
    rw [hm,List.append_nil] at this
    have:=hp j this
    omega⟩
  obtain ⟨e1,e2⟩:=lO h this
  exact .inl ⟨rfl,e1,e2⟩
 | cons y l =>
  have hy:y∈mem s:=by rw [hm];simp
  have hyl:∀ q∈l,y < q:=fun q hq=>(List.pairwise_cons.1 hs.2.1).1 q hq
  have:nC s i y true:=.inl ⟨rfl,y,rfl,Fc hy,hr y (by simp),Fd hy,fun j hj hij=>by
   cases hb:s.testBit j
   ·rfl
   ·have hj64:=Fc hy
    have:=tY (by omega) hb
    rw [hm,List.mem_append,List.mem_cons] at this
    rcases this with h1 | h1 | h1
    ·have:=hp j h1;omega
    ·omega
    ·have:=hyl j h1;omega⟩
  obtain ⟨e1,e2⟩:=lO h this
  exact .inr ⟨y,l,rfl,e1,e2⟩
theorem Qh {s:Nat} {pre l:List Nat} {x:Nat} (hm:mem s=pre++x::l) {r:Int} {b:Bool} (h:nC s ((x:Int)+1) r b):Lo l r b:=by
 have hs:=tZ s
 rw [hm,List.pairwise_append] at hs
 refine C6 (pre:=pre++[x]) (by rw [hm];simp) (fun p hp=>?_) (fun q hq=>?_) h
 ·rw [List.mem_append,List.mem_singleton] at hp
  rcases hp with hp | rfl
  ·have:=hs.2.2 p hp x (by simp);omega
  ·omega
 ·have:=(List.pairwise_cons.1 hs.2.1).1 q hq
  omega
def Lp:Value→Bool
 | .bool b=>b
 | _=>false
section iter
attribute [local go_sem] Oper.semAt_some
set_option maxHeartbeats 1000000 in
theorem Qi (n:Nat) (hn:1≤n) (l B s:Nat) (hs:s < 18446744073709551616) (J:List Nat→World→Prop) (hA:Abide B J) (hT:∀ pre X,J pre X→TabC X)
  (hY:∀ (pre:List Nat) (x:Nat) (rest:List Nat) X,mem s=pre++x::rest→J pre X→YieldAt Fence.wide (n - 1) prog l #[.int .i64 x] X fun e X'=>e = .returned (.bool true)∧J (pre++[x]) X'∧X'.heap[B]?=X.heap[B]?)
  (W:World) (hB:Boxed W B 37 (.int .u64 s)) (h0:J [] W) :
  CallsIn Fence.wide n prog 180 #[.func (.yield l) #[] #[],.pointer (some ⟨B,0,none⟩)] W fun e W'=>(∃ v,e = .returned v)∧J (mem s) W':=by
 have HY:=Lib.hid hY
 have HJ0:=Lib.hid h0
 have HB0:=Lib.hid hB
 have hc0:=hB.cell
 obtain ⟨r0,b0,hn0⟩:=C2 s 0
 have HN0:=Lib.hid hn0
 have HNR:=Lib.hid (C6 (pre:=[]) (rest:=mem s) rfl (by simp) (fun q _=>by omega) hn0)
 clear hY h0 hB hn0
 refine callsIn_of_wp func180 rfl trivial ?_ rfl
 simp only [ntmps180,List.size_toArray,List.length_cons,List.length_nil,Nat.reduceAdd,Nat.reduceSub,Array.replicate_succ,Array.replicate_zero,List.push_toArray,List.append_toArray,List.nil_append,List.cons_append]
 gi_wp2_with (refine ⟨trivial,?_⟩;gi_at_call 181;refine (callsIn_wide.2 (Hw s 0 r0 b0 HN0.out hs _ (hT _ _ HJ0.out))).mono ?_;rintro e w' ⟨rfl,rfl⟩)
 gi_loopw [3,4] (fun i ok wr=>∃ (pre rest:List Nat) (r:Int) (b:Bool),i = .int .i64 r∧ok = .bool b∧Hid (mem s=pre++rest)∧Hid (Lo rest r b)∧Hid (Boxed wr B 37 (.int .u64 s))∧Hid (J pre wr))
  (fun i ok _=>if Lp ok=true then 65 - (intOf i).toNat else 0)
 case atStart=>exact ⟨[],mem s,r0,b0,rfl,rfl,rfl,HNR.out,HB0.out,HJ0.out⟩
 case round =>
  obtain ⟨pre,rest,r,b,rfl,rfl,hm,hnx,hb,hJ⟩:=hrel
  have hc:=hb.out.cell
  rcases hnx.out with ⟨rfl,rfl,rfl⟩ | ⟨x,tl,rfl,rfl,rfl⟩
  ·have hall:Hid (pre=mem s):=by show _=_;rw [hm.out,List.append_nil]
   gi_wp2
   go_end0
   exact ⟨⟨_,rfl⟩,by rw [← hall.out];exact hJ.out⟩
  ·have hx64:x < 64:=Fc (s:=s) (by rw [hm.out];simp)
   obtain ⟨r2,b2,hn2⟩:=C2 s ((x:Int)+1)
   have HN2:=Lib.hid hn2
   have HNR2:=Lib.hid (Qh hm.out hn2)
   have hM3:Hid (mem s=(pre++[x])++tl):=by show _=_;rw [hm.out];simp
   obtain ⟨fn,tmps,assign,body,hy,hR⟩:=HY.out pre x tl wr hm.out hJ.out
   have hmx:Hid (∀ y l2,tl=y::l2→x < y):=fun y l2 e=>by
    have hs:=tZ s
    rw [hm.out,List.pairwise_append] at hs
    exact (List.pairwise_cons.1 hs.2.1).1 y (by rw [e];simp)
   clear hn2
   gi_wp2
   refine hR.mono ?_
   rintro e W3 ⟨rfl,hJ3,hk3⟩
   have HB3:Hid (Boxed W3 B 37 (.int .u64 s)):=hk3.trans hb.out
   have HJ3:=Lib.hid hJ3
   have hc3:=HB3.out.cell
   clear hk3 hJ3
   gi_wp2_with (refine ⟨trivial,?_⟩;gi_at_call 181;refine (callsIn_wide.2 (Hw s ((x:Int)+1) r2 b2 HN2.out hs _ (hT _ _ HJ3.out))).mono ?_;rintro e w' ⟨rfl,rfl⟩)
   go_roundw
   case rel=>exact ⟨pre++[x],tl,r2,b2,rfl,rfl,hM3,HNR2,HB3,HJ3⟩
   case measure =>
    rcases HNR2.out with ⟨_,rfl,rfl⟩ | ⟨y,l2,e,rfl,rfl⟩
    ·simp [intOf,Lp];omega
    ·have:=hmx.out y l2 e
     simp [intOf,Lp];omega
end iter
theorem Fp (s:Nat) (w:World) :
  Calls prog 178 #[.int .u64 s] w fun e w'=>e = .returned (.func (.func 180) #[] #[.pointer (some ⟨w.heap.size,0,none⟩)])∧w'=w.alloc (.cells #[.int .u64 s] 37):=by
 go_enter func178,ntmps178
 go_wp2
 go_ret
 exact ⟨rfl,rfl⟩
theorem Fq (n:Nat) (hn:1≤n) (B s:Nat) (hs:s < 18446744073709551616) (w:World) (hB:Boxed w B 37 (.int .u64 s)) :
  Nu Fence.wide n prog 180 #[.pointer (some ⟨B,0,none⟩)] (fun x:Nat=>#[Value.int .i64 x]) (mem s) B TabC w :=
 fun l J W hW hA hT hY h0=>Qi n hn l B s hs J hA hT hY W (hW.trans hB) h0
def accF (rows:List Nat) (gen:Nat) (l:List Nat):Nat:=l.foldl (fun c i=>c ||| rows.getD i 0) gen
def madeF (gen:Nat) (rows:List Nat) (s:Nat):Nat:=accF rows gen (mem s)
theorem C7 (rows:List Nat) (gen:Nat) (l:List Nat) (x:Nat):accF rows gen (l++[x])=accF rows gen l ||| rows.getD x 0:=by
 unfold accF;rw [List.foldl_append];rfl
theorem Qj {a b:Nat} (ha:a < 18446744073709551616) (hb:b < 18446744073709551616):a ||| b < 18446744073709551616:=by
 have e:(18446744073709551616:Nat)=2 ^ 64:=rfl
 rw [e] at *;exact Nat.or_lt_two_pow ha hb
theorem Ft {rows:List Nat} (hr:∀ r∈rows,r < 18446744073709551616):∀ (l:List Nat) (gen:Nat),gen < 18446744073709551616→accF rows gen l < 18446744073709551616
 | [],gen,h=>h
 | x::l,gen,h=>by
  have:rows.getD x 0 < 18446744073709551616:=by
   rw [List.getD_eq_getElem?_getD]
   cases hx:rows[x]? with
   | none=>simp
   | some y=>exact hr y (List.mem_of_getElem? hx)
  exact Ft hr l _ (Qj h this)
theorem oS {rows:List Nat} {gen s:Nat} (hr:∀ r∈rows,r < 18446744073709551616) (hg:gen < 18446744073709551616):madeF gen rows s < 18446744073709551616:=Ft hr _ _ hg
end Go.Proofs.YtmgnkpibpjgncaaGreatDoor
namespace Go.Proofs.YtmgnkpibpjgncaaGreatDoor
open Go.Proofs.Tryz
open Go.RowKit Go.Shelf
theorem Lq {B C D:Nat} {t:TypeId} {f:List Nat→Value} {o:Obj} {w:World} (hBC:B≠C) (hBD:B≠D) (hBn:w.heap.size≤B) {tB:TypeId} {vB:Value} :
  Abide B (fun (pre:List Nat) W=>(∃ v,Boxed W B tB v)∧W.heap[D]?=some o∧Boxed W C t (f pre)∧Below w.heap.size w W) where
 cell:=by
  rintro pre X u ⟨⟨v,hB⟩,hD,hC,hb⟩
  exact ⟨⟨u,hB.set u⟩,(Below.heap_setCell _ _ _ _ hBD.symm).trans hD,hC.other hBC.symm _,hb.setCell (p:=⟨B,0,none⟩) hBn _⟩
 drew:=by
  rintro pre X m ⟨hB,hD,hC,hb⟩
  exact ⟨hB,hD,hC,below_drewN hb m⟩
theorem T6 {B C D E:Nat} {t tB T:TypeId} {f:List Nat→Value} {cs:Array Value} {w:World} (hE:w.heap.size≤E) :
  OwnFrom E (fun (pre:List Nat) W=>(∃ v,Boxed W B tB v)∧W.heap[D]?=some (.cells cs T (0,0))∧Boxed W C t (f pre)∧Below w.heap.size w W):=by
 rintro s X Y row ⟨⟨vB,hB⟩,hD,hC,hb⟩ hg hrow
 have ne:∀ (b:Nat) (tt:TypeId) (u:Array Value),X.heap[b]?=some (.cells u tt (0,0))→some b≠row:=fun b tt u hbx e'=>by
  obtain ⟨_,o,ho,hc⟩:=hrow b e'.symm
  rw [hbx] at ho;cases ho;cases hc
 exact ⟨⟨vB,hB.kept hg (ne _ _ _ hB)⟩,(hg.block D (Array.getElem?_eq_some_iff.1 hD).1 (ne _ _ _ hD)).trans hD,hC.kept hg (ne _ _ _ hC),hb.grown hg hb.size fun k e'=>Nat.le_trans hE (hrow k e').1⟩
section madeA
attribute [local go_sem] Oper.semAt_some
set_option maxHeartbeats 2000000 in
theorem T7 (a:Option Addr) (cap gen:Nat) (rows:List Nat) (s:Nat) (hs:s < 18446744073709551616) (w:World) (hf:FAt w a gen rows) (hin:∀ i∈mem s,i < rows.length) (ht:TabC w) (r:Nat) (hr:madeF gen rows s=r) (len:Nat) (hl:rows.length=len) :
  CallsIn Fence.wide 5 prog 173 #[fZ gen a len cap,.int .u64 s] w fun e W'=>e = .returned (.int .u64 r)∧Below w.heap.size w W':=by
 unfold fZ
 have HF:=Lib.hid hf;have HIN:=Lib.hid hin;have HR:=Lib.hid hr;have HL:=Lib.hid hl;have HT:=Lib.hid ht
 have hgen:=hf.gen
 have HALL:=Lib.hid hf.all
 have hlen:len≤100:=by rw [← hl];exact hf.len
 clear hin hr hl
 refine callsIn_of_wp_marks func173 rfl trivial ?_ rfl
 simp only [ntmps173,List.size_toArray,List.length_cons,List.length_nil,Nat.reduceAdd,Nat.reduceSub,Array.replicate_succ,Array.replicate_zero,List.push_toArray,List.append_toArray,List.nil_append,List.cons_append]
 gi_wp2_with (refine ⟨trivial,?_⟩;gi_at_call 178;refine (callsIn_wide.2 (Fp s _)).mono ?_;rintro e w' ⟨rfl,rfl⟩)
 have b0:=dL w (.cells #[.int .u64 (gen:Int),.slice a len cap] 40)
 have bO:=Boxed.new (w.alloc (.cells #[.int .u64 (gen:Int),.slice a len cap] 40)) 37 (.int .u64 (gen:Int))
 have bN:=Boxed.new ((w.alloc (.cells #[.int .u64 (gen:Int),.slice a len cap] 40)).alloc (.cells #[.int .u64 (gen:Int)] 37)) 37 (.int .u64 s)
 rw [World.size_alloc] at bO
 rw [World.size_alloc,World.size_alloc] at bN
 have hB0:Below w.heap.size w (((w.alloc (.cells #[.int .u64 (gen:Int),.slice a len cap] 40)).alloc (.cells #[.int .u64 (gen:Int)] 37)).alloc (.cells #[.int .u64 s] 37)):=(((Below.refl _ w).alloc (Nat.le_refl _) _).alloc (by simp) _).alloc (by simp;omega) _
 refine Ld (F:=Fence.wide) (n:=5) rfl (by omega) (gf:=180) (lb:=#[.pointer (some ⟨w.heap.size+1+1,0,none⟩)]) (by simp [go_sem]) trivial (enters_of func180 (by kernel_rfl) rfl)
  (B:=w.heap.size+1+1) (Kw:=TabC) (by simp) (Fq 4 (by omega) (w.heap.size+1+1) s hs _ bN) (fun _=>rfl)
  (fun pre W=>(∃ v,Boxed W (w.heap.size+1+1) 37 v)∧W.heap[w.heap.size]?=some (.cells #[.int .u64 (gen:Int),.slice a len cap] 40 (0,0))∧Boxed W (w.heap.size+1) 37 (.int .u64 (accF rows gen pre:Nat))∧Below w.heap.size w W)
  (T6 (by simp;omega)) (Lq (by omega) (by omega) (by omega) (vB:=undef)) (fun pre X h=>HT.out.below h.2.2.2) ⟨⟨_,bN⟩,cP (cP b0 _) _,bO.alloc _,hB0⟩
  (fun x=>{ tmps:=#[.agg #[.int .u64 (gen:Int),.slice a len cap],.int .u64 s,.pointer (some ⟨w.heap.size,0,none⟩),undef,.int .u64 0,.pointer (some ⟨w.heap.size+1,0,none⟩),.int .i64 x,.pointer (some ⟨w.heap.size,0,none⟩),.int .u64 (gen:Int),.int .u64 s,.func (.func 180) #[] #[.pointer (some ⟨w.heap.size+1+1,0,none⟩)],.int .i64 x,undef,undef,undef,undef,undef,undef,undef,undef],defers:=[] }) ?assign ?body ?done
 case assign =>
  intro l x W K hK
  gi_wp2
  exact hK
 case body =>
  rintro l pre x rest W hx ⟨⟨vB,hvB⟩,h0,hv,hB⟩
  have hc:=hv.cell
  have hfr:=hv.frozen
  obtain ⟨c0,c1,_⟩:=bF h0
  have hxm:x∈mem s:=by rw [hx];simp
  have hxl:x < len:=by rw [← HL.out];exact HIN.out x hxm
  obtain ⟨ba,offa,z,rfl,hz,hz64,hba,a0⟩:=(HF.out.below hB).at_ (i:=x) (by rw [HL.out];exact hxl)
  have g0:(0:Int)≤(x:Int):=by omega
  have g1:(x:Int) < (len:Int):=by omega
  have hacc:=Ft HALL.out pre gen hgen
  have hor:=u64_or_nat (accF rows gen pre) z hacc hz64
  have HS:Hid (accF rows gen (pre++[x])=accF rows gen pre ||| z):=by
   show _=_
   rw [C7,List.getD_eq_getElem?_getD,hz];rfl
  obtain ⟨u,hu⟩:∃ u,accF rows gen pre=u:=⟨_,rfl⟩
  rw [hu] at hor hc HS hv
  obtain ⟨q,hq⟩:∃ q,u ||| z=q:=⟨_,rfl⟩
  rw [hq] at hor HS
  have HV:=Lib.hid hv;have H0:=Lib.hid h0;have HVB:=Lib.hid hvB
  clear hz hu hq hx hacc hv h0 hvB
  have hmix:prog.follows .mixedOrders=true:=by kernel_rfl
  gi_wp2_with fail
  gi_region_with_o (fail)
  all_goals
   refine ⟨((KeepsOthers.setCell _ _ _).trans (KeepsOthers.drew _)).from _,Below.heap_setCell _ _ _ _ (show w.heap.size+1+1≠w.heap.size+1 by omega),⟨vB,HVB.out.other (by omega) _⟩,dM H0.out (by omega),?_,(hB.setCell (p:=⟨w.heap.size+1,0,none⟩) (by simp) _).drew⟩
   rw [HS.out]
   exact HV.out.set _
 case done =>
  rintro D W hD ⟨⟨vB,hvB⟩,h0,hv,hB⟩ hK
  have hc:=hv.cell
  have HQ:Hid (accF rows gen (mem s)=r):=HR.out
  gi_wp2
  refine ⟨by simp,.inl ⟨_,_,rfl,run_takeDeferred hK,?_⟩⟩
  exact ⟨_,results_tmp rfl _ _ _,by rw [← HQ.out];rfl,hB.trans (belowK_b (w:=w) (Nat.le_refl _) W D _ _ (by simp at hD;omega) hK rfl rfl)⟩
end madeA
theorem Hx (a:Option Addr) (cap gen:Nat) (rows:List Nat) (s:Nat) (hs:s < 18446744073709551616) (w:World) (hf:FAt w a gen rows) (hin:∀ i∈mem s,i < rows.length) (ht:TabC w) (r:Nat) (hr:madeF gen rows s=r) (len:Nat) (hl:rows.length=len) :
  Calls prog 173 #[fZ gen a len cap,.int .u64 s] w fun e W'=>e = .returned (.int .u64 r)∧Below w.heap.size w W' :=
 callsIn_wide.1 (T7 a cap gen rows s hs w hf hin ht r hr len hl)
theorem T8 {s m:Nat} (hs:s < 2 ^ m) (hm:m≤64):yL s m=mem s:=by
 unfold yL mem
 obtain ⟨d,hd⟩:∃ d,64=m+d:=⟨64 - m,by omega⟩
 rw [hd,List.range_add,List.filter_append]
 have:((List.range d).map (m + ·)).filter s.testBit=[]:=by
  rw [List.filter_eq_nil_iff]
  intro x hx
  rw [List.mem_map] at hx
  obtain ⟨y,_,rfl⟩:=hx
  rw [Nat.testBit_lt_two_pow (Nat.lt_of_lt_of_le hs (Nat.pow_le_pow_right (by omega) (by omega)))]
  simp
 rw [this,List.append_nil]
set_option maxHeartbeats 1000000 in
theorem Hy (a:Option Addr) (cap gen:Nat) (rows:List Nat) (s:Nat) (hs:s < 2 ^ rows.length) (hl64:rows.length≤64) (w:World) (hf:FAt w a gen rows) (r:Nat) (hr:madeF gen rows s=r) (len:Nat) (hl:rows.length=len) :
  Calls prog 151 #[fZ gen a len cap,.int .u64 s] w fun e W'=>e = .returned (.int .u64 r)∧Below w.heap.size w W':=by
 unfold fZ
 have hs64:s < 18446744073709551616:=Nat.lt_of_lt_of_le hs (nA hl64)
 have hB0:Below w.heap.size w (w.alloc (.cells #[.int .u64 (gen:Int),.slice a len cap] 40)):=(Below.refl _ _).alloc (Nat.le_refl _) _
 have HF1:Hid (FAt (w.alloc (.cells #[.int .u64 (gen:Int),.slice a len cap] 40)) a gen rows):=hf.below hB0
 have hgen:=hf.gen
 have HALL:=Lib.hid hf.all
 have HL:=Lib.hid hl
 rw [hl] at hl64 hs
 have HR:Hid (accF rows gen (yL s len)=r):=by show _=_;rw [T8 hs hl64];exact hr
 clear hf hr hl hs
 go_enter func151,ntmps151
 go_wp2_with fail
 go_loopw [5,6] (fun o i wr=>∃ (k u:Nat),k≤len∧i = .int .i64 k∧o = .int .u64 u∧u < 18446744073709551616∧Hid (accF rows gen (yL s k)=u)∧(w.alloc (.cells #[.int .u64 (gen:Int),.slice a len cap] 40))=wr) (fun _ i _=>len - (intOf i).toNat)
 case atStart=>exact ⟨0,gen,Nat.zero_le _,rfl,rfl,hgen,rfl,rfl⟩
 case round =>
  obtain ⟨k,u,hk,rfl,rfl,hu,HU,rfl⟩:=hrel
  by_cases hlt:k < len
  ·cases hbit:s.testBit k
   ·have HN:Hid (accF rows gen (yL s (k+1))=u):=by show _=_;rw [memK_no hbit];exact HU.out
    have HH:=Lib.hid (show Cp s k=false by simp [Cp,hbit])
    clear hbit
    go_wp2_with fail
    refine (Fb s k false HH.out hs64 _).mono ?_
    rintro e w1 ⟨rfl,rfl⟩
    go_wp2
    go_roundw
    case rel=>exact ⟨k+1,u,by omega,by go_num,rfl,hu,HN,by trivial⟩
    case measure=>simp [intOf];omega
   ·obtain ⟨ba,offa,z,rfl,hz,hz64,hba,a0⟩:=HF1.out.at_ (i:=k) (by rw [HL.out];exact hlt)
    obtain ⟨q,hq⟩:∃ q,u ||| z=q:=⟨_,rfl⟩
    have hq64:q < 18446744073709551616:=by rw [← hq];exact Qj hu hz64
    have HN:Hid (accF rows gen (yL s (k+1))=q):=by
     show _=_
     rw [Ts hbit,C7,HU.out,List.getD_eq_getElem?_getD,hz,← hq];rfl
    have HH:=Lib.hid (show Cp s k=true by simp [Cp,hbit];omega)
    have HQ:=Lib.hid hq
    have g0:(0:Int)≤(k:Int):=by omega
    have g1:(k:Int) < (len:Int):=by omega
    clear hbit hz hq
    go_wp2_with fail
    refine (Fb s k true HH.out hs64 _).mono ?_
    rintro e w1 ⟨rfl,rfl⟩
    go_wp2_with fail
    refine (Tt u z q hu hz64 HQ.out _).mono ?_
    rintro e w1 ⟨rfl,rfl⟩
    go_wp2
    go_roundw
    case rel=>exact ⟨k+1,q,by omega,by go_num,rfl,hq64,HN,by trivial⟩
    case measure=>simp [intOf];omega
  ·have HE:Hid ((u:Int)=(r:Int)):=by
    show _=_
    rw [← HU.out,← HR.out,show k=len by omega]
   go_wp2
   go_ret
   exact ⟨eK HE.out,hB0⟩
end Go.Proofs.YtmgnkpibpjgncaaGreatDoor
namespace Go.Proofs.YtmgnkpibpjgncaaGreatDoor
open Go.Proofs.Tryz
open Go.RowKit
theorem oT {n:Int} {gen:Nat} {rows:List Nat} (h:eO n gen rows=0):fR n=true∧fJ n.toNat gen rows=true∧lB gen rows=true:=by
 unfold eO at h
 split at h
 ·rename_i hd
  split at h
  ·rename_i hs
   rw [Bool.and_eq_true] at hs
   exact ⟨hd,hs.1,hs.2⟩
  ·cases h
 ·cases h
theorem nF {m gen:Nat} {rows:List Nat} (h:fJ m gen rows=true):rows.length=m∧nT m gen=true∧∀ r∈rows,nT m r=true:=by
 unfold fJ at h
 simp only [Bool.and_eq_true,decide_eq_true_eq,List.all_eq_true] at h
 exact h
theorem C8 {s m i:Nat} (hs:s < 2 ^ m) (hi:i∈mem s):i < m:=by
 rcases Nat.lt_or_ge i m with h | h
 ·exact h
 ·have:=Fd hi
  rw [Nat.testBit_lt_two_pow (Nat.lt_of_lt_of_le hs (Nat.pow_le_pow_right (by omega) h))] at this
  cases this
def orL (xs ys:List Nat):List Nat:=List.zipWith (fun a b:Nat=>a ||| b) xs ys
theorem Ls {xs ys:List Nat} {k x y:Nat} (hx:xs[k]?=some x) (hy:ys[k]?=some y):(orL xs ys)[k]?=some (x ||| y):=by simp [orL,List.getElem?_zipWith,hx,hy]
theorem yY {xs ys:List Nat} (h:ys.length=xs.length):(orL xs ys).length=xs.length:=by simp [orL,h]
theorem Lt {xs ys:List Nat} (hx:∀ r∈xs,r < 18446744073709551616) (hy:∀ r∈ys,r < 18446744073709551616):∀ r∈orL xs ys,r < 18446744073709551616:=by
 intro r hr
 obtain ⟨i,hi⟩:=List.getElem?_of_mem hr
 unfold orL at hi
 rw [List.getElem?_zipWith] at hi
 cases h1:xs[i]? with
 | none=>rw [h1] at hi;simp at hi
 | some a =>
  cases h2:ys[i]? with
  | none=>rw [h1,h2] at hi;simp at hi
  | some b =>
   rw [h1,h2] at hi
   have:a ||| b=r:=by simpa using hi
   rw [← this]
   exact Qj (hx a (List.mem_of_getElem? h1)) (hy b (List.mem_of_getElem? h2))
def gJ (n:Int) (ga:Nat) (xs:List Nat) (gb:Nat) (ys:List Nat):Nat:=if kE n ga xs gb ys=0 then ga ||| gb else 0
def gE (n:Int) (ga:Nat) (xs:List Nat) (gb:Nat) (ys:List Nat):List Nat:=if kE n ga xs gb ys=0 then eG (ga ||| gb) (orL xs ys) else []
theorem Ae {n:Int} {ga gb:Nat} {xs ys:List Nat} (h:kE n ga xs gb ys=0):eO n ga xs=0∧eO n gb ys=0:=by
 unfold kE at h
 split at h
 ·rename_i h1;exact ⟨h1,h⟩
 ·rename_i h1;exact absurd h h1
theorem sP {n:Int} {ga gb:Nat} {xs ys:List Nat} (h:kE n ga xs gb ys=0):∃ m:Nat,n=m∧m≤64∧xs.length=m∧ys.length=m:=by
 obtain ⟨h1,h2⟩:=Ae h
 obtain ⟨hd,s1,_⟩:=oT h1
 obtain ⟨_,s2,_⟩:=oT h2
 obtain ⟨m,rfl,hm⟩:=pK hd
 rw [Int.toNat_natCast] at s1 s2
 exact ⟨m,rfl,hm,(nF s1).1,(nF s2).1⟩
theorem nY (w:World) (a b c:Array Value) (T:TypeId) :
  (((w.alloc (.cells a T)).alloc (.cells b T)).alloc (.cells c T)).heap[w.heap.size]?=some (.cells a T (0,0))∧(((w.alloc (.cells a T)).alloc (.cells b T)).alloc (.cells c T)).heap[w.heap.size+1]?=some (.cells b T (0,0))∧(((w.alloc (.cells a T)).alloc (.cells b T)).alloc (.cells c T)).heap[w.heap.size+1+1]?=some (.cells c T (0,0)):=by
 obtain ⟨t0,t1⟩:=oQ w a b T
 refine ⟨cP t0 _,cP t1 _,?_⟩
 have:=dL ((w.alloc (.cells a T)).alloc (.cells b T)) (.cells c T)
 rwa [World.size_alloc,World.size_alloc] at this
theorem T9 (n:Int) (a b:Option Addr) (capa capb ga gb:Nat) (xs ys:List Nat) (w:World) (hfa:FAt w a ga xs) (hfb:FAt w b gb ys) (e0:Int) (he:kE n ga xs gb ys=e0) (g:Nat) (hg:gJ n ga xs gb ys=g) (zs:List Nat) (hz:gE n ga xs gb ys=zs) (la lb:Nat) (hla:xs.length=la) (hlb:ys.length=lb) :
  Calls prog 139 #[.int .i64 n,fZ ga a la capa,fZ gb b lb capb] w (Lm g zs e0 w):=by
 unfold fZ
 have hB0:Below w.heap.size w (((w.alloc (.cells #[.int .u64 (ga:Int),.slice a la capa] 40)).alloc (.cells #[.int .u64 (gb:Int),.slice b lb capb] 40)).alloc (.cells #[.int .u64 0,.slice none 0 0] 40)):=(((Below.refl _ _).alloc (Nat.le_refl _) _).alloc (by simp) _).alloc (by simp;omega) _
 have HA:=Lib.hid (hfa.below hB0);have HB:=Lib.hid (hfb.below hB0);have HLA:=Lib.hid hla;have HLB:=Lib.hid hlb
 obtain ⟨t0,t1,t2⟩:=nY w #[.int .u64 (ga:Int),.slice a la capa] #[.int .u64 (gb:Int),.slice b lb capb] #[.int .u64 0,.slice none 0 0] 40
 have T0:=Lib.hid t0;have T1:=Lib.hid t1;have T2:=Lib.hid t2
 have hga:=hfa.gen;have hgb:=hfb.gen
 have HXA:=Lib.hid hfa.all;have HYA:=Lib.hid hfb.all
 have HXL:=Lib.hid hfa.len
 have HE:=Lib.hid he
 by_cases h0:e0=0
 ·subst h0
  obtain ⟨m,rfl,hm,hxm,hym⟩:=sP he
  obtain rfl:m=la:=by omega
  obtain rfl:m=lb:=by omega
  obtain rfl:ga ||| gb=g:=by rw [← hg,gJ,if_pos he]
  have HZ:Hid (eG (ga ||| gb) (orL xs ys)=zs):=by show _=_;rw [← hz,gE,if_pos he]
  have HOL:Hid ((orL xs ys).length=xs.length):=yY (by omega)
  have hgg:=Qj hga hgb
  have hor:=u64_or_nat ga gb hga hgb
  obtain ⟨gg,hggq⟩:∃ gg,ga ||| gb=gg:=⟨_,rfl⟩
  rw [hggq] at hgg hor HZ ⊢
  clear hfa hfb he hg hz hla hlb t0 t1 t2 hxm hym hggq
  go_enter func139,ntmps139
  go_wp2_with fail
  refine (vJ m a b capa capb ga gb xs ys _ HA.out HB.out 0 HE.out m m HLA.out HLB.out).mono ?_
  rintro e w1 ⟨rfl,hb1⟩
  have hB1:=hB0.trans (hb1.mono hB0.size)
  have U0:=Lib.hid (cE T0.out hb1);have U1:=Lib.hid (cE T1.out hb1);have U2:=Lib.hid (cE T2.out hb1)
  obtain ⟨c0,c1,_⟩:=bF U0.out
  go_wp2_with fail
  refine (Ac a capa xs _ HXL.out (HA.out.below hb1).row m HLA.out).mono ?_
  rintro e w2 ⟨v,rfl,hown,hb2⟩
  obtain ⟨av,capv,hv⟩:=C5 hown
  subst hv
  have hB2:=hB1.trans (hb2.mono hB1.size)
  have V0:=Lib.hid (cE U0.out hb2);have V1:=Lib.hid (cE U1.out hb2);have V2:=Lib.hid (cE U2.out hb2)
  have HFB:=Lib.hid ((HB.out.below hb1).below hb2)
  have hw1:w.heap.size+1+1 < w1.heap.size:=(Array.getElem?_eq_some_iff.1 U2.out).1
  have HO0:Hid (w2.ownsRow w1.heap.size 37 1 (.slice av m capv) m (u64s (nU (orL xs ys) xs 0))):=by rw [sO];exact hown
  obtain ⟨k0,k1,_⟩:=bF V1.out
  clear hown c0 c1
  go_wp2_with fail
  go_loopw [26] (fun i wr=>∃ k:Nat,k≤m∧i = .int .i64 k∧Hid (wr.ownsRow w1.heap.size 37 1 (.slice av m capv) m (u64s (nU (orL xs ys) xs k)))∧Hid (wr.heap[w.heap.size]?=some (.cells #[.int .u64 (ga:Int),.slice a m capa] 40 (0,0)))∧Hid (wr.heap[w.heap.size+1]?=some (.cells #[.int .u64 (gb:Int),.slice b m capb] 40 (0,0)))∧Hid (wr.heap[w.heap.size+1+1]?=some (.cells #[.int .u64 0,.slice none 0 0] 40 (0,0)))∧Below w1.heap.size w2 wr) (fun i _=>m - (intOf i).toNat)
  case atStart=>exact ⟨0,Nat.zero_le _,rfl,HO0,V0,V1,V2,Below.refl _ _⟩
  case round =>
   obtain ⟨k,hk,rfl,HO,R0,R1,R2,hb⟩:=hrel
   by_cases hlt:k < m
   ·obtain ⟨x,hx⟩:∃ x,xs[k]?=some x:=⟨xs[k]'(by rw [HLA.out];exact hlt),by simp [HLA.out,hlt]⟩
    have hx64:=HXA.out x (List.mem_of_getElem? hx)
    obtain ⟨bb,offb,y,rfl,hy,hy64,hbb,b0⟩:=(HB.out.below hb1).at_ (i:=k) (by rw [HLB.out];exact hlt)
    have b0':=((hb.cell (p:=⟨bb,offb+k,none⟩) hbb).trans ((hb2.cell (p:=⟨bb,offb+k,none⟩) hbb).trans b0))
    have hxy:=u64_or_nat x y hx64 hy64
    have HM:=Lib.hid (vD (Ls hx hy) hx)
    obtain ⟨q,hq⟩:∃ q,x ||| y=q:=⟨_,rfl⟩
    rw [hq] at hxy HM
    obtain ⟨gr,capr,hvr,hbg,hgl⟩:=HO.out.form (show 0 < m by omega)
    have hv2:av=some ⟨gr,0,none⟩∧capr=capv:=by cases hvr;exact ⟨rfl,rfl⟩
    obtain ⟨rfl,rfl⟩:=hv2
    have d0:=(HO.out.cellAt k (by omega)).trans (vG (yW HOL.out hx))
    have q0:=HO.out.frozenAt k
    have g0:(0:Int)≤(k:Int):=by omega
    have g3:(k:Int) < (m:Int):=by omega
    have HO2:Hid ((wr.setCell ⟨gr,k,none⟩ (.int .u64 (q:Int))).ownsRow w1.heap.size 37 1 (.slice (some ⟨gr,0,none⟩) m capr) m (u64s (nU (orL xs ys) xs (k+1)))):=by
     rw [← HM.out,← vF]
     exact (HO.out.stored k _).1
    have R0':=Lib.hid (dM (B:=gr) (j:=k) (c:=.int .u64 (q:Int)) R0.out (by omega))
    have R1':=Lib.hid (dM (B:=gr) (j:=k) (c:=.int .u64 (q:Int)) R1.out (by omega))
    have R2':=Lib.hid (dM (B:=gr) (j:=k) (c:=.int .u64 (q:Int)) R2.out (by omega))
    have hb':=hb.setCell (p:=⟨gr,k,none⟩) hbg (.int .u64 (q:Int))
    clear hx hy hq hvr b0
    go_wp2
    go_roundw
    case rel=>exact ⟨k+1,by omega,by go_num,HO2,R0',R1',R2',hb'⟩
    case measure=>simp [intOf];omega
   ·obtain rfl:k=m:=by omega
    have HO2:Hid (wr.ownsRow w1.heap.size 37 1 (.slice av k capv) k (u64s (orL xs ys))):=by
     have:=HO.out
     rw [← HLA.out] at this ⊢
     rwa [vE HOL.out] at this
    obtain ⟨a0,a1,_⟩:=bF R0.out
    obtain ⟨b0,b1,_⟩:=bF R1.out
    have hbw:w1.heap.size≤wr.heap.size:=Nat.le_trans hb2.size hb.size
    have HOLT:=Lib.hid (Lt HXA.out HYA.out)
    have hol100:Hid ((orL xs ys).length≤100):=by show _≤_;rw [HOL.out];exact HXL.out
    have holn:Hid ((orL xs ys).length=k):=by show _=_;rw [HOL.out];exact HLA.out
    go_wp2_with fail
    refine (vH gg w1.heap.size k (.slice av k capv) (orL xs ys) zs _ hgg HOLT.out hol100.out holn.out hbw HO2.out HZ.out).mono ?_
    rintro e w4 ⟨rfl,post⟩
    have POST:=Lib.hid post
    have hB4:Below w.heap.size w w4:=((hB1.trans (hb2.mono hB1.size)).trans (hb.mono hB1.size)).trans (post.below.mono hB1.size)
    have W2:=Lib.hid ((post.rest (w.heap.size+1+1) ((Array.getElem?_eq_some_iff.1 R2.out).1) (fun e=>by have h9:=(HO2.out.lt _ e.symm).1;omega)).trans R2.out)
    obtain ⟨p0,p1,ff⟩:=bF W2.out
    have f0:=ff 0;have f1:=ff 1
    have N1:=Lib.hid (fG (c:=.slice av k capv) (iD (c:=.int .u64 (gg:Int)) W2.out))
    obtain ⟨s0,s1,_⟩:=bF N1.out
    have HNB:=Lib.hid (hZ W2.out (by decide) POST.out.own)
    have HO5:=Lib.hid ((POST.out.own.kept (dY _ _ 0 (.int .u64 (gg:Int))) (.inr HNB.out.symm)).kept (dY _ (w.heap.size+1+1) 1 (.slice av k capv)) (.inr HNB.out.symm))
    have HB5:=Lib.hid ((hB4.setCell (p:=⟨w.heap.size+1+1,0,none⟩) (by simp;omega) (.int .u64 (gg:Int))).setCell (p:=⟨w.heap.size+1+1,1,none⟩) (by simp;omega) (.slice av k capv))
    clear post ff a0 a1 b0 b1
    go_wp2
    refine bodyPost_ret (v:=.tuple #[.agg #[.int .u64 (gg:Int),.slice av k capv],.int .i64 0]) ?_ rfl (Ad hB1.size HO5.out HB5.out 0)
    simp [results,results139,go_sem,s0,s1]
 ·obtain rfl:0=g:=by rw [← hg,gJ,he,if_neg h0]
  obtain rfl:[]=zs:=by rw [← hz,gE,he,if_neg h0]
  have hne:(e0 != 0)=true:=by simpa using h0
  clear hfa hfb he hg hz hla hlb t0 t1 t2 h0
  go_enter func139,ntmps139
  go_wp2_with fail
  refine (vJ n a b capa capb ga gb xs ys _ HA.out HB.out e0 HE.out la lb HLA.out HLB.out).mono ?_
  rintro e w1 ⟨rfl,hb1⟩
  have hB1:=hB0.trans (hb1.mono hB0.size)
  have U2:=Lib.hid (cE T2.out hb1)
  obtain ⟨d0,d1,df⟩:=bF U2.out
  have f0:=df 0;have f1:=df 1
  have N1:=Lib.hid (fG (c:=.slice none 0 0) (iD (c:=.int .u64 0) U2.out))
  obtain ⟨s0,s1,_⟩:=bF N1.out
  clear df
  go_wp2
  refine bodyPost_ret (v:=.tuple #[.agg #[.int .u64 0,.slice none 0 0],.int .i64 e0]) ?_ rfl (vI e0 ((hB1.setCell (p:=⟨w.heap.size+1+1,0,none⟩) (by simp;omega) _).setCell (p:=⟨w.heap.size+1+1,1,none⟩) (by simp;omega) _))
  simp [results,results139,go_sem,s0,s1]
def jN (n:Int) (ga:Nat) (xs:List Nat) (gb:Nat) (ys:List Nat):Nat:=if kE n ga xs gb ys=0 then madeF gb ys ga else 0
def jF (n:Int) (ga:Nat) (xs:List Nat) (gb:Nat) (ys:List Nat):List Nat:=if kE n ga xs gb ys=0 then eG (madeF gb ys ga) (xs.map (madeF gb ys)) else []
theorem extA_is (n:Int) (a b:Option Addr) (capa capb ga gb:Nat) (xs ys:List Nat) (w:World) (hfa:FAt w a ga xs) (hfb:FAt w b gb ys) (ht:TabC w) (e0:Int) (he:kE n ga xs gb ys=e0) (g:Nat) (hg:jN n ga xs gb ys=g) (zs:List Nat) (hz:jF n ga xs gb ys=zs) (la lb:Nat) (hla:xs.length=la) (hlb:ys.length=lb) :
  Calls prog 168 #[.int .i64 n,fZ ga a la capa,fZ gb b lb capb] w (Lm g zs e0 w):=by
 unfold fZ
 have hB0:Below w.heap.size w (((w.alloc (.cells #[.int .u64 (ga:Int),.slice a la capa] 40)).alloc (.cells #[.int .u64 (gb:Int),.slice b lb capb] 40)).alloc (.cells #[.int .u64 0,.slice none 0 0] 40)):=(((Below.refl _ _).alloc (Nat.le_refl _) _).alloc (by simp) _).alloc (by simp;omega) _
 have HA:=Lib.hid (hfa.below hB0);have HB:=Lib.hid (hfb.below hB0);have HLA:=Lib.hid hla;have HLB:=Lib.hid hlb
 obtain ⟨t0,t1,t2⟩:=nY w #[.int .u64 (ga:Int),.slice a la capa] #[.int .u64 (gb:Int),.slice b lb capb] #[.int .u64 0,.slice none 0 0] 40
 have T0:=Lib.hid t0;have T1:=Lib.hid t1;have T2:=Lib.hid t2
 have hga:=hfa.gen;have hgb:=hfb.gen
 have HXA:=Lib.hid hfa.all;have HYA:=Lib.hid hfb.all
 have HXL:=Lib.hid hfa.len
 have HE:=Lib.hid he
 by_cases h0:e0=0
 ·subst h0
  obtain ⟨m,rfl,hm,hxm,hym⟩:=sP he
  obtain rfl:m=la:=by omega
  obtain rfl:m=lb:=by omega
  obtain rfl:madeF gb ys ga=g:=by rw [← hg,jN,if_pos he]
  have HZ:Hid (eG (madeF gb ys ga) (xs.map (madeF gb ys))=zs):=by show _=_;rw [← hz,jF,if_pos he]
  have HOL:Hid ((xs.map (madeF gb ys)).length=(List.replicate m 0).length):=by show _=_;simp;omega
  obtain ⟨hc1,hc2⟩:=Ae he
  obtain ⟨hd,sh1,_⟩:=oT hc1
  rw [Int.toNat_natCast] at sh1
  obtain ⟨_,ig,ir⟩:=nF sh1
  have HINg:Hid (∀ i∈mem ga,i < ys.length):=fun i hi=>by rw [hym];exact C8 ((jZ hm hga).1 ig) hi
  have HINr:Hid (∀ x∈xs,∀ i∈mem x,i < ys.length):=fun x hx i hi=>by rw [hym];exact C8 ((jZ hm (hfa.all x hx)).1 (ir x hx)) hi
  have hgg:madeF gb ys ga < 18446744073709551616:=oS hfb.all hgb
  have HGG:Hid (madeF gb ys ga=madeF gb ys ga):=rfl
  obtain ⟨gg,hggq⟩:∃ gg,madeF gb ys ga=gg:=⟨_,rfl⟩
  have HGQ:=Lib.hid hggq
  rw [hggq] at hgg HZ ⊢
  obtain ⟨i0,hi,hz0,hz1,hz2⟩:=info_parts zZ
  have HT:=Lib.hid ht
  have hm0:(0:Int)≤(m:Int):=by omega
  have hm64:(m:Int)≤64:=by omega
  clear hfa hfb he hg hz hla hlb t0 t1 t2 hxm hym hggq hc1 hc2 hd sh1 ig ir HGG ht
  go_enter func168,ntmps168
  go_wp2_with fail
  refine (vJ m a b capa capb ga gb xs ys _ HA.out HB.out 0 HE.out m m HLA.out HLB.out).mono ?_
  rintro e w1 ⟨rfl,hb1⟩
  have hB1:=hB0.trans (hb1.mono hB0.size)
  have U0:=Lib.hid (cE T0.out hb1);have U1:=Lib.hid (cE T1.out hb1);have U2:=Lib.hid (cE T2.out hb1)
  go_wp2_with (at_make;go_loud (refine wpList_make_full _ rfl (.tmp 20) (.tmp 20) 38 rfl w1.heap.size 37 i0 _ 1 underlying38 hi hz0 hz1 .i64 .i64 (m:Int) (m:Int) m rfl rfl rfl rfl (by rw [hz2];omega) (by unfold maxLen;omega) (Nat.le_refl _) ?_;intro w2 hown2 hgrow2;have hb2:Below w1.heap.size w1 w2:=(Below.refl _ _).grown hgrow2 (Nat.le_refl _) (fun j e=>by cases e);have V0:=Lib.hid (cE U0.out hb2);obtain ⟨c0,c1,_⟩:=bF V0.out))
  have hB2:=hB1.trans (hb2.mono hB1.size)
  have V1:=Lib.hid (cE U1.out hb2);have V2:=Lib.hid (cE U2.out hb2)
  have hw1:w.heap.size+1+1 < w1.heap.size:=(Array.getElem?_eq_some_iff.1 U2.out).1
  have HO0:Hid (w2.ownsRow w1.heap.size 37 1 (.slice (some ⟨w1.heap.size,0,none⟩) m m) m (u64s (nU (xs.map (madeF gb ys)) (List.replicate m 0) 0))):=by
   rw [sO]
   have e:u64s (List.replicate m 0)=List.replicate m (.int .u64 0):=by simp [u64s]
   have e2:(madeCells (Value.int IntKind.u64 0).cells (m * 1)).toList=List.replicate m (.int .u64 0):=by
    rw [Nat.mul_one]
    apply List.ext_getElem
    ·simp [madeCells]
    ·intro i h1 h2
     simp [madeCells,Value.cells,Nat.mod_one]
   rw [e,← e2]
   exact hown2
  clear hown2 c0 c1
  go_wp2_with fail
  go_loopw [25] (fun i wr=>∃ k:Nat,k≤m∧i = .int .i64 k∧Hid (wr.ownsRow w1.heap.size 37 1 (.slice (some ⟨w1.heap.size,0,none⟩) m m) m (u64s (nU (xs.map (madeF gb ys)) (List.replicate m 0) k)))∧Hid (wr.heap[w.heap.size]?=some (.cells #[.int .u64 (ga:Int),.slice a m capa] 40 (0,0)))∧Hid (wr.heap[w.heap.size+1]?=some (.cells #[.int .u64 (gb:Int),.slice b m capb] 40 (0,0)))∧Hid (wr.heap[w.heap.size+1+1]?=some (.cells #[.int .u64 0,.slice none 0 0] 40 (0,0)))∧Below w1.heap.size w1 wr) (fun i _=>m - (intOf i).toNat)
  case atStart=>exact ⟨0,Nat.zero_le _,rfl,HO0,V0,V1,V2,hb2⟩
  case round =>
   obtain ⟨k,hk,rfl,HO,R0,R1,R2,hb⟩:=hrel
   have HFB:=Lib.hid ((HB.out.below hb1).below hb)
   obtain ⟨d0,d1,_⟩:=bF R1.out
   by_cases hlt:k < m
   ·obtain ⟨ba,offa,x,rfl,hx,hx64,hba,a0⟩:=((HA.out.below hb1).below hb).at_ (i:=k) (by rw [HLA.out];exact hlt)
    have HXI:=Lib.hid (HINr.out x (List.mem_of_getElem? hx))
    have hxk:(List.replicate m 0)[k]?=some 0:=by simp [hlt]
    have hmx:(xs.map (madeF gb ys))[k]?=some (madeF gb ys x):=by rw [List.getElem?_map,hx];rfl
    have HM:=Lib.hid (vD hmx hxk)
    obtain ⟨q,hq⟩:∃ q,madeF gb ys x=q:=⟨_,rfl⟩
    have HQ:=Lib.hid hq
    rw [hq] at HM
    have z0:=Lib.hid (vG (yW HOL.out hxk))
    have g0:(0:Int)≤(k:Int):=by omega
    have g3:(k:Int) < (m:Int):=by omega
    have hbw:Hid (Below w.heap.size w wr):=hB1.trans (hb.mono hB1.size)
    clear hx hq hmx hxk
    go_wp2_with fail
    refine (Hx b capb gb ys x hx64 _ HFB.out HXI.out (HT.out.below hbw.out) q HQ.out m HLB.out).mono ?_
    rintro e w4 ⟨rfl,hb4⟩
    have HO4:=Lib.hid (tV HO.out hb4)
    have dd:=(HO4.out.cellAt k (by omega)).trans z0.out
    have q0:=HO4.out.frozenAt k
    have HO2:Hid ((w4.setCell ⟨w1.heap.size,k,none⟩ (.int .u64 (q:Int))).ownsRow w1.heap.size 37 1 (.slice (some ⟨w1.heap.size,0,none⟩) m m) m (u64s (nU (xs.map (madeF gb ys)) (List.replicate m 0) (k+1)))):=by
     rw [← HM.out,← vF]
     exact (HO4.out.stored k _).1
    have R0':=Lib.hid (dM (B:=w1.heap.size) (j:=k) (c:=.int .u64 (q:Int)) (cE R0.out hb4) (by omega))
    have R1':=Lib.hid (dM (B:=w1.heap.size) (j:=k) (c:=.int .u64 (q:Int)) (cE R1.out hb4) (by omega))
    have R2':=Lib.hid (dM (B:=w1.heap.size) (j:=k) (c:=.int .u64 (q:Int)) (cE R2.out hb4) (by omega))
    have hb':=(hb.trans (hb4.mono hb.size)).setCell (p:=⟨w1.heap.size,k,none⟩) (Nat.le_refl _) (.int .u64 (q:Int))
    go_wp2
    go_roundw
    case rel=>exact ⟨k+1,by omega,by go_num,HO2,R0',R1',R2',hb'⟩
    case measure=>simp [intOf];omega
   ·obtain rfl:k=m:=by omega
    have HO2:Hid (wr.ownsRow w1.heap.size 37 1 (.slice (some ⟨w1.heap.size,0,none⟩) k k) k (u64s (xs.map (madeF gb ys)))):=by
     have:=HO.out
     have e:nU (xs.map (madeF gb ys)) (List.replicate k 0) k=xs.map (madeF gb ys):=by
      have:=vE HOL.out
      rwa [List.length_replicate] at this
     rwa [e] at this
    obtain ⟨a0,a1,_⟩:=bF R0.out
    have hol100:Hid ((xs.map (madeF gb ys)).length≤100):=by show _≤_;rw [List.length_map];exact HXL.out
    have holn:Hid ((xs.map (madeF gb ys)).length=k):=by show _=_;rw [List.length_map];exact HLA.out
    have HOLT:Hid (∀ r∈xs.map (madeF gb ys),r < 18446744073709551616):=fun r hr=>by
     rw [List.mem_map] at hr
     obtain ⟨x,_,rfl⟩:=hr
     exact oS HYA.out hgb
    have hbw:Hid (Below w.heap.size w wr):=hB1.trans (hb.mono hB1.size)
    go_wp2_with fail
    refine (Hx b capb gb ys ga hga _ HFB.out HINg.out (HT.out.below hbw.out) gg HGQ.out k HLB.out).mono ?_
    rintro e w3 ⟨rfl,hb3⟩
    have hb3w:w1.heap.size≤w3.heap.size:=Nat.le_trans hb.size hb3.size
    have HO3:=Lib.hid (tV HO2.out hb3)
    have R3:=Lib.hid (cE R2.out hb3)
    go_wp2_with fail
    refine (vH gg w1.heap.size k _ (xs.map (madeF gb ys)) zs _ hgg HOLT.out hol100.out holn.out hb3w HO3.out HZ.out).mono ?_
    rintro e w4 ⟨rfl,post⟩
    have POST:=Lib.hid post
    have hB4:Below w.heap.size w w4:=(hbw.out.trans (hb3.mono hbw.out.size)).trans (post.below.mono hB1.size)
    have W2:=Lib.hid ((post.rest (w.heap.size+1+1) ((Array.getElem?_eq_some_iff.1 R3.out).1) (fun e=>by have h9:=(HO3.out.lt _ e.symm).1;omega)).trans R3.out)
    obtain ⟨p0,p1,ff⟩:=bF W2.out
    have f0:=ff 0;have f1:=ff 1
    have N1:=Lib.hid (fG (c:=.slice (some ⟨w1.heap.size,0,none⟩) k k) (iD (c:=.int .u64 (gg:Int)) W2.out))
    obtain ⟨s0,s1,_⟩:=bF N1.out
    have HNB:=Lib.hid (hZ W2.out (by decide) POST.out.own)
    have HO5:=Lib.hid ((POST.out.own.kept (dY _ _ 0 (.int .u64 (gg:Int))) (.inr HNB.out.symm)).kept (dY _ (w.heap.size+1+1) 1 (.slice (some ⟨w1.heap.size,0,none⟩) k k)) (.inr HNB.out.symm))
    have HB5:=Lib.hid ((hB4.setCell (p:=⟨w.heap.size+1+1,0,none⟩) (by simp;omega) (.int .u64 (gg:Int))).setCell (p:=⟨w.heap.size+1+1,1,none⟩) (by simp;omega) (.slice (some ⟨w1.heap.size,0,none⟩) k k))
    clear post ff a0 a1 d0 d1
    go_wp2
    refine bodyPost_ret (v:=.tuple #[.agg #[.int .u64 (gg:Int),.slice (some ⟨w1.heap.size,0,none⟩) k k],.int .i64 0]) ?_ rfl (Ad hB1.size HO5.out HB5.out 0)
    simp [results,results168,go_sem,s0,s1]
 ·obtain rfl:0=g:=by rw [← hg,jN,he,if_neg h0]
  obtain rfl:[]=zs:=by rw [← hz,jF,he,if_neg h0]
  have hne:(e0 != 0)=true:=by simpa using h0
  clear hfa hfb he hg hz hla hlb t0 t1 t2 h0
  go_enter func168,ntmps168
  go_wp2_with fail
  refine (vJ n a b capa capb ga gb xs ys _ HA.out HB.out e0 HE.out la lb HLA.out HLB.out).mono ?_
  rintro e w1 ⟨rfl,hb1⟩
  have hB1:=hB0.trans (hb1.mono hB0.size)
  have U2:=Lib.hid (cE T2.out hb1)
  obtain ⟨d0,d1,df⟩:=bF U2.out
  have f0:=df 0;have f1:=df 1
  have N1:=Lib.hid (fG (c:=.slice none 0 0) (iD (c:=.int .u64 0) U2.out))
  obtain ⟨s0,s1,_⟩:=bF N1.out
  clear df
  go_wp2
  refine bodyPost_ret (v:=.tuple #[.agg #[.int .u64 0,.slice none 0 0],.int .i64 e0]) ?_ rfl (vI e0 ((hB1.setCell (p:=⟨w.heap.size+1+1,0,none⟩) (by simp;omega) _).setCell (p:=⟨w.heap.size+1+1,1,none⟩) (by simp;omega) _))
  simp [results,results168,go_sem,s0,s1]
structure KeepK (w wr:World) (A B:Nat) (ca cb:Array Value):Prop where
 hA:wr.heap[A]?=some (.cells ca 40 (0,0))
 hB:wr.heap[B]?=some (.cells cb 40 (0,0))
 below:Below w.heap.size w wr
theorem KeepK.drew {w wr:World} {A B:Nat} {ca cb:Array Value} (h:KeepK w wr A B ca cb):KeepK w wr.drew A B ca cb:=⟨h.hA,h.hB,h.below.drew⟩
theorem KeepK.alloc {w wr:World} {A B:Nat} {ca cb:Array Value} (h:KeepK w wr A B ca cb) (o:Obj):KeepK w (wr.alloc o) A B ca cb:=⟨cP h.hA o,cP h.hB o,h.below.alloc h.below.size o⟩
theorem KeepK.call {w wr w':World} {A B:Nat} {ca cb:Array Value} (h:KeepK w wr A B ca cb) (hb:Below wr.heap.size wr w'):KeepK w w' A B ca cb:=⟨cE h.hA hb,cE h.hB hb,h.below.trans (hb.mono h.below.size)⟩
theorem KeepK.set {w wr:World} {A B F j:Nat} {ca cb:Array Value} (h:KeepK w wr A B ca cb) (h1:A≠F) (h2:B≠F) (h3:w.heap.size≤F) (v:Value):KeepK w (wr.setCell ⟨F,j,none⟩ v) A B ca cb:=⟨dM h.hA h1,dM h.hB h2,h.below.setCell (p:=⟨F,j,none⟩) h3 v⟩
theorem KeepK.grown {w wr w':World} {A B base n:Nat} {ca cb:Array Value} {v:Value} {xs:List Value} (h:KeepK w wr A B ca cb) (hr:wr.ownsRow base 37 1 v n xs) (hb:w.heap.size≤base) (hg:wr.grownBy w' v.ownBlock):KeepK w w' A B ca cb :=
 ⟨fT h.hA (by decide) hr hg,fT h.hB (by decide) hr hg,h.below.grown hg h.below.size (fun j e=>Nat.le_trans hb (hr.lt j e).1)⟩
theorem KeepK.cells {w wr:World} {A B:Nat} {u1 u2 v1 v2:Value} (h:KeepK w wr A B #[u1,u2] #[v1,v2]) {p q:Addr} {x y:Value} (hp:w.cell? p=some x) (hq:w.cell? q=some y) :
  wr.cell? ⟨A,1,none⟩=some u2∧wr.cell? p=some x∧wr.cell? ⟨B,1,none⟩=some v2∧wr.cell? q=some y :=
 ⟨(bF h.hA).2.1,(h.below.cell (jK hp)).trans hp,(bF h.hB).2.1,(h.below.cell (jK hq)).trans hq⟩
theorem Ua {xs ys:List Nat} {k x y q:Nat} (hx:xs[k]?=some x) (hy:ys[k]?=some y) (hq:x ||| y=q):(orL xs ys).take (k+1)=(orL xs ys).take k++[q]:=by
 have h2:=Ls hx hy
 rw [hq] at h2
 obtain ⟨hk,e⟩:=List.getElem?_eq_some_iff.1 h2
 rw [List.take_succ_eq_append_getElem hk,e]
set_option maxHeartbeats 20000000 in
theorem Ub (n:Int) (a b:Option Addr) (capa capb ga gb:Nat) (xs ys:List Nat) (w:World) (hfa:FAt w a ga xs) (hfb:FAt w b gb ys) (e0:Int) (he:kE n ga xs gb ys=e0) (g:Nat) (hg:gJ n ga xs gb ys=g) (zs:List Nat) (hz:gE n ga xs gb ys=zs) (la lb:Nat) (hla:xs.length=la) (hlb:ys.length=lb) :
  Calls prog 87 #[.int .i64 n,fZ ga a la capa,fZ gb b lb capb] w (Lm g zs e0 w):=by
 unfold fZ
 have hB0:Below w.heap.size w (((w.alloc (.cells #[.int .u64 (ga:Int),.slice a la capa] 40)).alloc (.cells #[.int .u64 (gb:Int),.slice b lb capb] 40)).alloc (.cells #[.int .u64 0,.slice none 0 0] 40)):=(((Below.refl _ _).alloc (Nat.le_refl _) _).alloc (by simp) _).alloc (by simp;omega) _
 have HA0:=Lib.hid hfa;have HBB0:=Lib.hid hfb
 have HA:=Lib.hid (hfa.below hB0);have HB:=Lib.hid (hfb.below hB0);have HLA:=Lib.hid hla;have HLB:=Lib.hid hlb
 obtain ⟨t0,t1,t2⟩:=nY w #[.int .u64 (ga:Int),.slice a la capa] #[.int .u64 (gb:Int),.slice b lb capb] #[.int .u64 0,.slice none 0 0] 40
 have T0:=Lib.hid t0;have T1:=Lib.hid t1;have T2:=Lib.hid t2
 have hga:=hfa.gen;have hgb:=hfb.gen
 have HXA:=Lib.hid hfa.all;have HYA:=Lib.hid hfb.all
 have HXL:=Lib.hid hfa.len
 have HE:=Lib.hid he
 by_cases h0:e0=0
 ·subst h0
  obtain ⟨m,rfl,hm,hxm,hym⟩:=sP he
  obtain rfl:m=la:=by omega
  obtain rfl:m=lb:=by omega
  obtain rfl:ga ||| gb=g:=by rw [← hg,gJ,if_pos he]
  have HZ:Hid (eG (ga ||| gb) (orL xs ys)=zs):=by show _=_;rw [← hz,gE,if_pos he]
  have HOL:Hid ((orL xs ys).length=m):=by show _=_;rw [yY (by omega)];exact hla
  have hgg:=Qj hga hgb
  obtain ⟨gg,hggq⟩:∃ gg,ga ||| gb=gg:=⟨_,rfl⟩
  have HGQ:=Lib.hid hggq
  rw [hggq] at hgg HZ ⊢
  obtain ⟨i0,hi,hz0,hz1,hz2⟩:=info_parts zZ
  clear hfa hfb he hg hz hla hlb t0 t1 t2 hxm hym hggq
  go_enter func87,ntmps87
  go_wp2_with fail
  refine (yX m a b capa capb ga gb xs ys _ HA.out HB.out 0 HE.out m m HLA.out HLB.out).mono ?_
  rintro e w1 ⟨rfl,hb1⟩
  have hB1:=hB0.trans (hb1.mono hB0.size)
  have U0:=Lib.hid (cE T0.out hb1);have U1:=Lib.hid (cE T1.out hb1);have U2:=Lib.hid (cE T2.out hb1)
  obtain ⟨c0,c1,_⟩:=bF U0.out
  obtain ⟨k0,k1,_⟩:=bF U1.out
  go_wp2_with fail
  refine (Tt ga gb gg hga hgb HGQ.out _).mono ?_
  rintro e w2 ⟨rfl,rfl⟩
  have hw1:w.heap.size+1+1 < w1.heap.size:=(Array.getElem?_eq_some_iff.1 U2.out).1
  have UF:=Lib.hid (dL w1 (.cells #[.int .u64 (gg:Int),.slice none 0 0] 40))
  have K0:Hid (KeepK w (w1.alloc (.cells #[.int .u64 (gg:Int),.slice none 0 0] 40)) w.heap.size (w.heap.size+1) #[.int .u64 (ga:Int),.slice a m capa] #[.int .u64 (gb:Int),.slice b m capb]):=KeepK.alloc ⟨U0.out,U1.out,hB1⟩ _
  have S0:=Lib.hid (cP U2.out (.cells #[.int .u64 (gg:Int),.slice none 0 0] 40))
  obtain ⟨F,hF⟩:∃ F,w1.heap.size=F:=⟨_,rfl⟩
  have HFL:Hid ((w1.alloc (.cells #[.int .u64 (gg:Int),.slice none 0 0] 40)).heap.size=F+1):=by show _=_;rw [World.size_alloc,hF]
  rw [hF] at UF hw1
  clear c0 c1 k0 k1
  go_wp2_with fail
  go_loopw [10] (fun i wr=>∃ (k:Nat) (v:Value),k≤m∧i = .int .i64 k∧Hid (KeepK w wr w.heap.size (w.heap.size+1) #[.int .u64 (ga:Int),.slice a m capa] #[.int .u64 (gb:Int),.slice b m capb])∧Hid (wr.heap[w.heap.size+1+1]?=some (.cells #[.int .u64 0,.slice none 0 0] 40 (0,0)))∧Hid (wr.heap[F]?=some (.cells #[.int .u64 (gg:Int),v] 40 (0,0)))∧Hid (wr.ownsRow F 37 1 v k (u64s ((orL xs ys).take k)))∧F≤wr.heap.size) (fun i _=>m - (intOf i).toNat)
  case atStart=>exact ⟨0,.slice none 0 0,Nat.zero_le _,rfl,K0,S0,UF,World.ownsRow_nil _ _ _ _,by have:=HFL.out;omega⟩
  case round =>
   obtain ⟨k,v,hk,rfl,K,R2,RF,HO,hFw⟩:=hrel
   obtain ⟨f0,f1,ff⟩:=bF RF.out
   have ff1:=ff 1
   by_cases hlt:k < m
   ·obtain ⟨ba,offa,x,rfl,hx,hx64,hba,a0⟩:=HA0.out.at_ (i:=k) (by rw [HLA.out];exact hlt)
    obtain ⟨bb,offb,y,rfl,hy,hy64,hbb,b0⟩:=HBB0.out.at_ (i:=k) (by rw [HLB.out];exact hlt)
    obtain ⟨q,hq⟩:∃ q,x ||| y=q:=⟨_,rfl⟩
    have HQ:=Lib.hid hq
    have HT:=Lib.hid (Ua hx hy hq)
    have A0:=Lib.hid a0;have B0:=Lib.hid b0
    have g0:(0:Int)≤(k:Int):=by omega
    have g1:(k:Int) < (m:Int):=by omega
    have q1:(wr.alloc (.cells #[.int .u64 (q:Int)] 37)).cell? ⟨F,1,none⟩=some v:=(bF (cP RF.out _)).2.1
    have KA:=Lib.hid (K.out.drew.alloc (.cells #[.int .u64 (q:Int)] 37))
    obtain ⟨s1,s2,s3,s4⟩:=K.out.cells a0 b0
    clear hx hy hq ff a0 b0
    go_wp2_with fail
    go_region_law (first | (refine step_append_lies (wr.drew.alloc (.cells #[.int .u64 (q:Int)] 37)) ?_ (.tmp 31) (.tmp 43) 38 ?_ F 37 i0 _ 1 8 underlying38 hi hz0 hz1 hz2 ?_ ?_ v k (u64s ((orL xs ys).take k)) ?_ ?_ ⟨wr.heap.size,0,none⟩ 1 1 [.int .u64 (q:Int)] ?_ ?_ ?_ ?_ ?_ ?_ ?_ ?_ (wr.heap.size+1) ?_ ?_;rfl;rfl;rfl;omega;rfl;exact (HO.out:(wr.drew).ownsRow _ _ _ _ _ _).alloc _;rfl;rfl;exact (World.news_of_block (cs:=#[.int .u64 (q:Int)]) (t:=37) (fr:=(0,0)) (dL wr.drew _));simp [Value.oneCell'];omega;(unfold maxLen;omega);omega;(simp;omega);simp;intro gg9 cp w5 hown1 hgrow hat hlt5;have HOA:=Lib.hid ((HO.out:(wr.drew).ownsRow _ _ _ _ _ _).alloc (.cells #[.int .u64 (q:Int)] 37));have K5:=Lib.hid (KA.out.grown HOA.out (by omega) hgrow);have D2:=Lib.hid (fT (cP (w:=wr.drew) R2.out (.cells #[.int .u64 (q:Int)] 37)) (by decide) HOA.out hgrow);have DF:=Lib.hid (fT (cP (w:=wr.drew) RF.out (.cells #[.int .u64 (q:Int)] 37)) (by decide) HOA.out hgrow);have hs5:=hgrow.size;obtain ⟨_,d1,df⟩:=bF DF.out;have df1:=df 1;clear df) | (go_simp;go_at_call 121;refine (Tt x y q hx64 hy64 HQ.out _).mono ?_;rintro e w3 ⟨rfl,rfl⟩) | fail)
    all_goals
     have hsl:Hid (F≤w5.heap.size):=by show _≤_;simp at hs5;omega
     have HO5:=Lib.hid (show (w5.setCell ⟨F,1,none⟩ (.slice (some ⟨gg9,0,none⟩) (k+1) cp)).ownsRow F 37 1 (.slice (some ⟨gg9,0,none⟩) (k+1) cp) (k+1) (u64s ((orL xs ys).take (k+1))) by
      rw [HT.out,sJ];exact hown1.kept (dY w5 _ _ _) (.inr (hZ DF.out (by decide) hown1).symm))
     have N2:=Lib.hid (dM (B:=F) (j:=1) (c:=.slice (some ⟨gg9,0,none⟩) (k+1) cp) D2.out (by omega))
     have NF:=Lib.hid (fG (c:=.slice (some ⟨gg9,0,none⟩) (k+1) cp) DF.out)
     have NK:=Lib.hid (K5.out.set (F:=F) (j:=1) (by omega) (by omega) (by omega) (.slice (some ⟨gg9,0,none⟩) (k+1) cp))
     clear hown1 hgrow hat d1 df1 q1 s1 s2 s3 s4 f0 f1 ff1 hs5
     go_wp2
     go_roundw
     case rel=>exact ⟨k+1,_,by omega,by go_num,NK,N2,NF,HO5,by have:=hsl.out;simpa [World.setCell] using this⟩
     case measure=>simp [intOf];omega
   ·obtain rfl:k=m:=by omega
    have HO2:Hid (wr.ownsRow F 37 1 v k (u64s (orL xs ys))):=by
     have:=HO.out
     rwa [List.take_of_length_le (by rw [HOL.out];exact Nat.le_refl _)] at this
    obtain ⟨hvn,a3,cap3,hv3,hr3,hf3⟩:=fQ.of_own HO2.out
    have hol:(u64s (orL xs ys)).length=k:=hvn.symm
    rw [hol] at hv3
    subst hv3
    have holn:(orL xs ys).length=k:=by rw [← hol,fM]
    have hfat:FAt wr a3 gg (orL xs ys):=⟨hr3,hgg,Lt HXA.out HYA.out,by rw [holn,← HLA.out];exact HXL.out⟩
    have can:∀ (W:World),FAt W a3 gg (orL xs ys)→Calls prog 122 #[.agg #[.int .u64 (gg:Int),.slice a3 k cap3]] W (FOne gg zs W):=fun W hW=>by
     have:=wW a3 cap3 gg (orL xs ys) W hW zs HZ.out
     rwa [holn] at this
    have HCAN:=Lib.hid can;have HFAT:=Lib.hid hfat
    have hrel:=K.out.below
    have hsz:w.heap.size≤wr.heap.size:=hrel.size
    have R3:=R2
    clear hvn hr3 hf3 hol holn hfat can ff ff1
    go_wp2_with fail
    refine (HCAN.out _ HFAT.out).mono ?_
    rintro e w4 ⟨a4,cap4,rfl,hr4,hf4,hb4⟩
    unfold fZ
    have hB4:=hrel.trans (hb4.mono hrel.size)
    have U4:=Lib.hid (cE R3.out hb4)
    obtain ⟨k0,k1,df⟩:=bF U4.out
    have y0:=df 0;have y1:=df 1
    have N1:=Lib.hid (fG (c:=.slice a4 zs.length cap4) (iD (c:=.int .u64 (gg:Int)) U4.out))
    obtain ⟨s0,s1,_⟩:=bF N1.out
    have hne:∀ ad,a4=some ad→ad.block≠w.heap.size+1+1:=fun ad e=>by
     have h1:=(hf4 ad e).1
     omega
    have NR:=Lib.hid (oP (oP hr4 (B:=w.heap.size+1+1) (j:=0) (v:=.int .u64 (gg:Int)) hne) (B:=w.heap.size+1+1) (j:=1) (v:=.slice a4 zs.length cap4) hne)
    have HF4:=Lib.hid hf4
    clear df hr4 hf4 hne
    go_wp2
    refine bodyPost_ret (v:=.tuple #[.agg #[.int .u64 (gg:Int),.slice a4 zs.length cap4],.int .i64 0]) ?_ rfl ⟨a4,cap4,rfl,NR.out,fun ad e=>⟨Nat.le_trans hsz (HF4.out ad e).1,by simpa [World.setCell] using (HF4.out ad e).2⟩,(hB4.setCell (p:=⟨w.heap.size+1+1,0,none⟩) (by simp;omega) _).setCell (p:=⟨w.heap.size+1+1,1,none⟩) (by simp;omega) _⟩
    simp [results,results87,go_sem,s0,s1]
 ·obtain rfl:0=g:=by rw [← hg,gJ,he,if_neg h0]
  obtain rfl:[]=zs:=by rw [← hz,gE,he,if_neg h0]
  have hne:(e0 != 0)=true:=by simpa using h0
  clear hfa hfb he hg hz hla hlb t0 t1 t2 h0
  go_enter func87,ntmps87
  go_wp2_with fail
  refine (yX n a b capa capb ga gb xs ys _ HA.out HB.out e0 HE.out la lb HLA.out HLB.out).mono ?_
  rintro e w1 ⟨rfl,hb1⟩
  have hB1:=hB0.trans (hb1.mono hB0.size)
  have U2:=Lib.hid (cE T2.out hb1)
  obtain ⟨d0,d1,df⟩:=bF U2.out
  have f0:=df 0;have f1:=df 1
  have N1:=Lib.hid (fG (c:=.slice none 0 0) (iD (c:=.int .u64 0) U2.out))
  obtain ⟨s0,s1,_⟩:=bF N1.out
  clear df
  go_wp2
  refine bodyPost_ret (v:=.tuple #[.agg #[.int .u64 0,.slice none 0 0],.int .i64 e0]) ?_ rfl (vI e0 ((hB1.setCell (p:=⟨w.heap.size+1+1,0,none⟩) (by simp;omega) _).setCell (p:=⟨w.heap.size+1+1,1,none⟩) (by simp;omega) _))
  simp [results,results87,go_sem,s0,s1]
theorem KeepK.cells4 {w wr:World} {A B:Nat} {u1 u2 v1 v2:Value} (h:KeepK w wr A B #[u1,u2] #[v1,v2]) {p:Addr} {x:Value} (hp:w.cell? p=some x) :
  wr.cell? ⟨A,1,none⟩=some u2∧wr.cell? p=some x∧wr.cell? ⟨B,0,none⟩=some v1∧wr.cell? ⟨B,1,none⟩=some v2 :=
 ⟨(bF h.hA).2.1,(h.below.cell (jK hp)).trans hp,(bF h.hB).1,(bF h.hB).2.1⟩
theorem Uc {f:Nat→Nat} {xs:List Nat} {k x q:Nat} (hx:xs[k]?=some x) (hq:f x=q):(xs.map f).take (k+1)=(xs.map f).take k++[q]:=by
 have h2:(xs.map f)[k]?=some q:=by rw [List.getElem?_map,hx,← hq];rfl
 obtain ⟨hk,e⟩:=List.getElem?_eq_some_iff.1 h2
 rw [List.take_succ_eq_append_getElem hk,e]
set_option maxHeartbeats 20000000 in
theorem extR_is (n:Int) (a b:Option Addr) (capa capb ga gb:Nat) (xs ys:List Nat) (w:World) (hfa:FAt w a ga xs) (hfb:FAt w b gb ys) (e0:Int) (he:kE n ga xs gb ys=e0) (g:Nat) (hg:jN n ga xs gb ys=g) (zs:List Nat) (hz:jF n ga xs gb ys=zs) (la lb:Nat) (hla:xs.length=la) (hlb:ys.length=lb) :
  Calls prog 128 #[.int .i64 n,fZ ga a la capa,fZ gb b lb capb] w (Lm g zs e0 w):=by
 unfold fZ
 have hB0:Below w.heap.size w (((w.alloc (.cells #[.int .u64 (ga:Int),.slice a la capa] 40)).alloc (.cells #[.int .u64 (gb:Int),.slice b lb capb] 40)).alloc (.cells #[.int .u64 0,.slice none 0 0] 40)):=(((Below.refl _ _).alloc (Nat.le_refl _) _).alloc (by simp) _).alloc (by simp;omega) _
 have HA0:=Lib.hid hfa;have HBB0:=Lib.hid hfb
 have HA:=Lib.hid (hfa.below hB0);have HB:=Lib.hid (hfb.below hB0);have HLA:=Lib.hid hla;have HLB:=Lib.hid hlb
 obtain ⟨t0,t1,t2⟩:=nY w #[.int .u64 (ga:Int),.slice a la capa] #[.int .u64 (gb:Int),.slice b lb capb] #[.int .u64 0,.slice none 0 0] 40
 have T0:=Lib.hid t0;have T1:=Lib.hid t1;have T2:=Lib.hid t2
 have hga:=hfa.gen;have hgb:=hfb.gen
 have HXA:=Lib.hid hfa.all;have HYA:=Lib.hid hfb.all
 have HXL:=Lib.hid hfa.len
 have HE:=Lib.hid he
 by_cases h0:e0=0
 ·subst h0
  obtain ⟨m,rfl,hm,hxm,hym⟩:=sP he
  obtain rfl:m=la:=by omega
  obtain rfl:m=lb:=by omega
  obtain rfl:madeF gb ys ga=g:=by rw [← hg,jN,if_pos he]
  have HZ:Hid (eG (madeF gb ys ga) (xs.map (madeF gb ys))=zs):=by show _=_;rw [← hz,jF,if_pos he]
  have HOL:Hid ((xs.map (madeF gb ys)).length=m):=by show _=_;rw [List.length_map];exact hla
  obtain ⟨hc1,hc2⟩:=Ae he
  obtain ⟨_,sh1,_⟩:=oT hc1
  rw [Int.toNat_natCast] at sh1
  obtain ⟨_,ig,ir⟩:=nF sh1
  have HINg:Hid (ga < 2 ^ ys.length):=by show _ < _;rw [hym];exact (jZ hm hga).1 ig
  have HINr:Hid (∀ x∈xs,x < 2 ^ ys.length):=fun x hx=>by rw [hym];exact (jZ hm (hfa.all x hx)).1 (ir x hx)
  have HY64:Hid (ys.length≤64):=by show _≤_;omega
  have hgg:madeF gb ys ga < 18446744073709551616:=oS hfb.all hgb
  obtain ⟨gg,hggq⟩:∃ gg,madeF gb ys ga=gg:=⟨_,rfl⟩
  have HGQ:=Lib.hid hggq
  rw [hggq] at hgg HZ ⊢
  obtain ⟨i0,hi,hz0,hz1,hz2⟩:=info_parts zZ
  clear hfa hfb he hg hz hla hlb t0 t1 t2 hxm hym hggq hc1 hc2 sh1 ig ir
  go_enter func128,ntmps128
  go_wp2_with fail
  refine (yX m a b capa capb ga gb xs ys _ HA.out HB.out 0 HE.out m m HLA.out HLB.out).mono ?_
  rintro e w1 ⟨rfl,hb1⟩
  have hB1:=hB0.trans (hb1.mono hB0.size)
  have U0:=Lib.hid (cE T0.out hb1);have U1:=Lib.hid (cE T1.out hb1);have U2:=Lib.hid (cE T2.out hb1)
  obtain ⟨c0,c1,_⟩:=bF U0.out
  obtain ⟨k0,k1,_⟩:=bF U1.out
  go_wp2_with fail
  refine (Hy b capb gb ys ga HINg.out HY64.out _ (HB.out.below hb1) gg HGQ.out m HLB.out).mono ?_
  rintro e w2 ⟨rfl,hb2⟩
  have U0:=Lib.hid (cE U0.out hb2);have U1:=Lib.hid (cE U1.out hb2);have U2:=Lib.hid (cE U2.out hb2)
  have hB1:=hB1.trans (hb2.mono hB1.size)
  have hw1:w.heap.size+1+1 < w2.heap.size:=(Array.getElem?_eq_some_iff.1 U2.out).1
  have UF:=Lib.hid (dL w2 (.cells #[.int .u64 (gg:Int),.slice none 0 0] 40))
  have K0:Hid (KeepK w (w2.alloc (.cells #[.int .u64 (gg:Int),.slice none 0 0] 40)) w.heap.size (w.heap.size+1) #[.int .u64 (ga:Int),.slice a m capa] #[.int .u64 (gb:Int),.slice b m capb]):=KeepK.alloc ⟨U0.out,U1.out,hB1⟩ _
  have S0:=Lib.hid (cP U2.out (.cells #[.int .u64 (gg:Int),.slice none 0 0] 40))
  obtain ⟨F,hF⟩:∃ F,w2.heap.size=F:=⟨_,rfl⟩
  have HFL:Hid ((w2.alloc (.cells #[.int .u64 (gg:Int),.slice none 0 0] 40)).heap.size=F+1):=by show _=_;rw [World.size_alloc,hF]
  rw [hF] at UF hw1
  clear c0 c1 k0 k1
  go_wp2_with fail
  go_loopw [10] (fun i wr=>∃ (k:Nat) (v:Value),k≤m∧i = .int .i64 k∧Hid (KeepK w wr w.heap.size (w.heap.size+1) #[.int .u64 (ga:Int),.slice a m capa] #[.int .u64 (gb:Int),.slice b m capb])∧Hid (wr.heap[w.heap.size+1+1]?=some (.cells #[.int .u64 0,.slice none 0 0] 40 (0,0)))∧Hid (wr.heap[F]?=some (.cells #[.int .u64 (gg:Int),v] 40 (0,0)))∧Hid (wr.ownsRow F 37 1 v k (u64s ((xs.map (madeF gb ys)).take k)))∧F≤wr.heap.size) (fun i _=>m - (intOf i).toNat)
  case atStart=>exact ⟨0,.slice none 0 0,Nat.zero_le _,rfl,K0,S0,UF,World.ownsRow_nil _ _ _ _,by have:=HFL.out;omega⟩
  case round =>
   obtain ⟨k,v,hk,rfl,K,R2,RF,HO,hFw⟩:=hrel
   obtain ⟨f0,f1,ff⟩:=bF RF.out
   have ff1:=ff 1
   by_cases hlt:k < m
   ·obtain ⟨ba,offa,x,rfl,hx,hx64,hba,a0⟩:=HA0.out.at_ (i:=k) (by rw [HLA.out];exact hlt)
    obtain ⟨q,hq⟩:∃ q,madeF gb ys x=q:=⟨_,rfl⟩
    have HQ:=Lib.hid hq
    have HT:=Lib.hid (Uc hx hq)
    have HX2:=Lib.hid (HINr.out x (List.mem_of_getElem? hx))
    have A0:=Lib.hid a0
    have g0:(0:Int)≤(k:Int):=by omega
    have g1:(k:Int) < (m:Int):=by omega
    obtain ⟨s1,s2,s3,s4⟩:=K.out.cells4 a0
    clear hx hq ff a0
    go_wp2_with fail
    go_region_law (first | (refine step_append_lies (w3.alloc (.cells #[.int .u64 (q:Int)] 37)) ?_ (.tmp 30) (.tmp 38) 38 ?_ F 37 i0 _ 1 8 underlying38 hi hz0 hz1 hz2 ?_ ?_ v k (u64s ((xs.map (madeF gb ys)).take k)) ?_ ?_ ⟨w3.heap.size,0,none⟩ 1 1 [.int .u64 (q:Int)] ?_ ?_ ?_ ?_ ?_ ?_ ?_ ?_ (w3.heap.size+1) ?_ ?_;rfl;rfl;rfl;omega;rfl;exact HO3.out.alloc _;rfl;rfl;exact (World.news_of_block (cs:=#[.int .u64 (q:Int)]) (t:=37) (fr:=(0,0)) (dL w3 _));simp [Value.oneCell'];omega;(unfold maxLen;omega);omega;(simp;omega);simp;intro gg9 cp w5 hown1 hgrow hat hlt5;have HOA:=Lib.hid (HO3.out.alloc (.cells #[.int .u64 (q:Int)] 37));have K5:=Lib.hid (KA.out.grown HOA.out (by omega) hgrow);have D2:=Lib.hid (fT (cP R23.out (.cells #[.int .u64 (q:Int)] 37)) (by decide) HOA.out hgrow);have DF:=Lib.hid (fT (cP RF3.out (.cells #[.int .u64 (q:Int)] 37)) (by decide) HOA.out hgrow);have hs5:=hgrow.size;obtain ⟨_,d1,df⟩:=bF DF.out;have df1:=df 1;clear df) | (go_simp;go_at_call 151;refine (Hy b capb gb ys x HX2.out HY64.out _ (by first | exact HBB0.out.below K.out.drew.below | exact HBB0.out.below K.out.below) q HQ.out m HLB.out).mono ?_;rintro e w3 ⟨rfl,hb3⟩;have K3:=Lib.hid (K.out.drew.call hb3);have R23:=Lib.hid (cE (w:=wr.drew) R2.out hb3);have RF3:=Lib.hid (cE (w:=wr.drew) RF.out hb3);have HO3:=Lib.hid (tV (w:=wr.drew) HO.out hb3);have hFw3:F≤w3.heap.size:=Nat.le_trans hFw hb3.size;have x1:=(bF RF3.out).2.1;have q1:=(bF (cP RF3.out (.cells #[.int .u64 (q:Int)] 37))).2.1;have KA:=Lib.hid (K3.out.alloc (.cells #[.int .u64 (q:Int)] 37))) | fail)
    all_goals
     have hsl:Hid (F≤w5.heap.size):=by show _≤_;simp at hs5;omega
     have HO5:=Lib.hid (show (w5.setCell ⟨F,1,none⟩ (.slice (some ⟨gg9,0,none⟩) (k+1) cp)).ownsRow F 37 1 (.slice (some ⟨gg9,0,none⟩) (k+1) cp) (k+1) (u64s ((xs.map (madeF gb ys)).take (k+1))) by
      rw [HT.out,sJ];exact hown1.kept (dY w5 _ _ _) (.inr (hZ DF.out (by decide) hown1).symm))
     have N2:=Lib.hid (dM (B:=F) (j:=1) (c:=.slice (some ⟨gg9,0,none⟩) (k+1) cp) D2.out (by omega))
     have NF:=Lib.hid (fG (c:=.slice (some ⟨gg9,0,none⟩) (k+1) cp) DF.out)
     have NK:=Lib.hid (K5.out.set (F:=F) (j:=1) (by omega) (by omega) (by omega) (.slice (some ⟨gg9,0,none⟩) (k+1) cp))
     clear hown1 hgrow hat d1 df1 q1 x1 s1 s2 s3 s4 f0 f1 ff1 hs5 hb3
     go_wp2
     go_roundw
     case rel=>exact ⟨k+1,_,by omega,by go_num,NK,N2,NF,HO5,by have:=hsl.out;simpa [World.setCell] using this⟩
     case measure=>simp [intOf];omega
   ·obtain rfl:k=m:=by omega
    have HO2:Hid (wr.ownsRow F 37 1 v k (u64s (xs.map (madeF gb ys)))):=by
     have:=HO.out
     rwa [List.take_of_length_le (by rw [HOL.out];exact Nat.le_refl _)] at this
    obtain ⟨hvn,a3,cap3,hv3,hr3,hf3⟩:=fQ.of_own HO2.out
    have hol:(u64s (xs.map (madeF gb ys))).length=k:=hvn.symm
    rw [hol] at hv3
    subst hv3
    have HMLT:Hid (∀ r∈xs.map (madeF gb ys),r < 18446744073709551616):=fun r hr=>by obtain ⟨x,_,e⟩:=List.mem_map.1 hr;rw [← e];exact oS HYA.out hgb
    have holn:(xs.map (madeF gb ys)).length=k:=by rw [← hol,fM]
    have hfat:FAt wr a3 gg (xs.map (madeF gb ys)):=⟨hr3,hgg,HMLT.out,by rw [holn,← HLA.out];exact HXL.out⟩
    have can:∀ (W:World),FAt W a3 gg (xs.map (madeF gb ys))→Calls prog 122 #[.agg #[.int .u64 (gg:Int),.slice a3 k cap3]] W (FOne gg zs W):=fun W hW=>by
     have:=wW a3 cap3 gg (xs.map (madeF gb ys)) W hW zs HZ.out
     rwa [holn] at this
    have HCAN:=Lib.hid can;have HFAT:=Lib.hid hfat
    have hrel:=K.out.below
    have hsz:w.heap.size≤wr.heap.size:=hrel.size
    have R3:=R2
    clear hvn hr3 hf3 hol holn hfat can ff ff1
    go_wp2_with fail
    refine (HCAN.out _ HFAT.out).mono ?_
    rintro e w4 ⟨a4,cap4,rfl,hr4,hf4,hb4⟩
    unfold fZ
    have hB4:=hrel.trans (hb4.mono hrel.size)
    have U4:=Lib.hid (cE R3.out hb4)
    obtain ⟨k0,k1,df⟩:=bF U4.out
    have y0:=df 0;have y1:=df 1
    have N1:=Lib.hid (fG (c:=.slice a4 zs.length cap4) (iD (c:=.int .u64 (gg:Int)) U4.out))
    obtain ⟨s0,s1,_⟩:=bF N1.out
    have hne:∀ ad,a4=some ad→ad.block≠w.heap.size+1+1:=fun ad e=>by
     have h1:=(hf4 ad e).1
     omega
    have NR:=Lib.hid (oP (oP hr4 (B:=w.heap.size+1+1) (j:=0) (v:=.int .u64 (gg:Int)) hne) (B:=w.heap.size+1+1) (j:=1) (v:=.slice a4 zs.length cap4) hne)
    have HF4:=Lib.hid hf4
    clear df hr4 hf4 hne
    go_wp2
    refine bodyPost_ret (v:=.tuple #[.agg #[.int .u64 (gg:Int),.slice a4 zs.length cap4],.int .i64 0]) ?_ rfl ⟨a4,cap4,rfl,NR.out,fun ad e=>⟨Nat.le_trans hsz (HF4.out ad e).1,by simpa [World.setCell] using (HF4.out ad e).2⟩,(hB4.setCell (p:=⟨w.heap.size+1+1,0,none⟩) (by simp;omega) _).setCell (p:=⟨w.heap.size+1+1,1,none⟩) (by simp;omega) _⟩
    simp [results,results128,go_sem,s0,s1]
 ·obtain rfl:0=g:=by rw [← hg,jN,he,if_neg h0]
  obtain rfl:[]=zs:=by rw [← hz,jF,he,if_neg h0]
  have hne:(e0 != 0)=true:=by simpa using h0
  clear hfa hfb he hg hz hla hlb t0 t1 t2 h0
  go_enter func128,ntmps128
  go_wp2_with fail
  refine (yX n a b capa capb ga gb xs ys _ HA.out HB.out e0 HE.out la lb HLA.out HLB.out).mono ?_
  rintro e w1 ⟨rfl,hb1⟩
  have hB1:=hB0.trans (hb1.mono hB0.size)
  have U2:=Lib.hid (cE T2.out hb1)
  obtain ⟨d0,d1,df⟩:=bF U2.out
  have f0:=df 0;have f1:=df 1
  have N1:=Lib.hid (fG (c:=.slice none 0 0) (iD (c:=.int .u64 0) U2.out))
  obtain ⟨s0,s1,_⟩:=bF N1.out
  clear df
  go_wp2
  refine bodyPost_ret (v:=.tuple #[.agg #[.int .u64 0,.slice none 0 0],.int .i64 e0]) ?_ rfl (vI e0 ((hB1.setCell (p:=⟨w.heap.size+1+1,0,none⟩) (by simp;omega) _).setCell (p:=⟨w.heap.size+1+1,1,none⟩) (by simp;omega) _))
  simp [results,results128,go_sem,s0,s1]
def Hz (gen:Nat) (rows:List Nat) (err:Int) (w:World) (e:Ending) (w':World):Prop :=
 ∃ v,e = .returned (.tuple #[.agg #[.int .u64 (gen:Int),v],.int .i64 err])∧w'.ownsRow w.heap.size 37 1 v rows.length (u64s rows)∧Below w.heap.size w w'
theorem H3 {w w':World} (err:Int) (hb:Below w.heap.size w w'):Hz 0 [] err w (.returned (.tuple #[.agg #[.int .u64 0,.slice none 0 0],.int .i64 err])) w' :=
 ⟨_,rfl,World.ownsRow_nil _ _ _ _,hb⟩
theorem H4 {w w':World} {gen n:Nat} {v:Value} {rows:List Nat} (h:w'.ownsRow w.heap.size 37 1 v n (u64s rows)) (hb:Below w.heap.size w w') (err:Int):Hz gen rows err w (.returned (.tuple #[.agg #[.int .u64 (gen:Int),v],.int .i64 err])) w':=by
 have hn:n=rows.length:=by have:=h.1;rw [fM] at this;omega
 subst hn
 exact ⟨v,rfl,h,hb⟩
theorem Hz.ret {gen:Nat} {rows:List Nat} {err:Int} {w w':World} {e:Ending} (h:Hz gen rows err w e w'):Lm gen rows err w e w':=by
 obtain ⟨v,rfl,ho,hb⟩:=h
 exact Ad (Nat.le_refl _) ho hb err
def gX (m:Nat):List Nat:=(List.range m).map fun i=>2 ^ i
theorem iV (m:Nat):(gX m).length=m:=by simp [gX]
theorem Af {m k:Nat} (h:k < m):(gX m)[k]?=some (2 ^ k):=by
 unfold gX
 rw [List.getElem?_map,List.getElem?_range h];rfl
def oneV (n:Int):List Nat:=if fR n=true then gX n.toNat else []
def H5 (n:Int):Int:=if fR n=true then 0 else 31
set_option maxHeartbeats 2000000 in
theorem oneA_is (n:Int) (w:World) (e0:Int) (he:H5 n=e0) (ys:List Nat) (hys:oneV n=ys) :
  Calls prog 146 #[.int .i64 n] w (Hz 0 ys e0 w):=by
 have hB0:Below w.heap.size w (w.alloc (.cells #[.int .u64 0,.slice none 0 0] 40)):=(Below.refl _ _).alloc (Nat.le_refl _) _
 have T0:=Lib.hid (dL w (.cells #[.int .u64 0,.slice none 0 0] 40))
 obtain ⟨i0,hi,hz0,hz1,hz2⟩:=info_parts zZ
 cases hd:fR n
 ·obtain rfl:31=e0:=by rw [← he,H5,hd];rfl
  obtain rfl:[]=ys:=by rw [← hys,oneV,hd];rfl
  obtain ⟨d0,d1,df⟩:=bF T0.out
  have f0:=df 0;have f1:=df 1
  have hx:n < 0∨64 < n:=by
   by_cases h:n < 0
   ·exact .inl h
   ·simp [fR,show 0≤n by omega] at hd;exact .inr hd
  clear df hd he hys
  rcases hx with hx | hx
  all_goals
   go_enter func146,ntmps146
   go_wp2
   refine bodyPost_ret (v:=.tuple #[.agg #[.int .u64 0,.slice none 0 0],.int .i64 31]) ?_ rfl (H3 31 hB0)
   simp [results,results146,go_sem,d0,d1]
 ·obtain ⟨m,rfl,hm⟩:=pK hd
  obtain rfl:0=e0:=by rw [← he,H5,hd];rfl
  have HY:Hid (gX m=ys):=by show _=_;rw [← hys,oneV,hd,if_pos rfl,Int.toNat_natCast]
  have hm0:(0:Int)≤(m:Int):=by omega
  have hm64:(m:Int)≤64:=by omega
  clear hd he hys
  go_enter func146,ntmps146
  go_wp2_with (at_make;go_loud (refine wpList_make_full _ rfl (.tmp 13) (.tmp 13) 38 rfl w.heap.size 37 i0 _ 1 underlying38 hi hz0 hz1 .i64 .i64 (m:Int) (m:Int) m rfl rfl rfl rfl (by rw [hz2];omega) (by unfold maxLen;omega) hB0.size ?_;intro w2 hown2 hgrow2))
  have hbl:(w.alloc (.cells #[.int .u64 0,.slice none 0 0] 40)).heap.size=w.heap.size+1:=by simp
  have hzz:Hid (w2.ownsRow w.heap.size 37 1 (.slice (some ⟨w.heap.size+1,0,none⟩) m m) m (u64s (nU (gX m) (List.replicate m 0) 0))):=by
   rw [sO,← hbl]
   have e:u64s (List.replicate m 0)=List.replicate m (.int .u64 0):=by simp [u64s]
   have e2:(madeCells (Value.int IntKind.u64 0).cells (m * 1)).toList=List.replicate m (.int .u64 0):=by
    rw [Nat.mul_one]
    apply List.ext_getElem
    ·simp [madeCells]
    ·intro i h1 h2
     simp [madeCells,Value.cells,Nat.mod_one]
   rw [e,← e2]
   exact hown2
  have U0:=Lib.hid ((hgrow2.block _ (Array.getElem?_eq_some_iff.1 T0.out).1 (by simp)).trans T0.out)
  have hB2:Below w.heap.size w w2:=hB0.grown hgrow2 hB0.size (fun j e=>by cases e)
  clear hown2
  go_wp2_with fail
  go_loopw [17] (fun i wr=>∃ k:Nat,k≤m∧i = .int .i64 k∧Hid (wr.ownsRow w.heap.size 37 1 (.slice (some ⟨w.heap.size+1,0,none⟩) m m) m (u64s (nU (gX m) (List.replicate m 0) k)))∧Hid (wr.heap[w.heap.size]?=some (.cells #[.int .u64 0,.slice none 0 0] 40 (0,0)))∧Below w.heap.size w wr) (fun i _=>m - (intOf i).toNat)
  case atStart=>exact ⟨0,Nat.zero_le _,rfl,hzz,U0,hB2⟩
  case round =>
   obtain ⟨k,hk,rfl,HO,HR,hb⟩:=hrel
   by_cases hlt:k < m
   ·have hsh:IntKind.u64.wrap ((2:Int) ^ k)=((2 ^ k:Nat):Int):=by
     have hpw:2 ^ k≤9223372036854775808:=uZ (by omega)
     rw [IntKind.wrap_u64]
     have e:((2:Int) ^ k)=((2 ^ k:Nat):Int):=by simp
     rw [e]
     generalize 2 ^ k=q at *
     omega
    have hxk:(List.replicate m 0)[k]?=some 0:=by simp [hlt]
    have HM:=Lib.hid (vD (Af hlt) hxk)
    obtain ⟨q,hq⟩:∃ q:Nat,2 ^ k=q:=⟨_,rfl⟩
    rw [hq] at hsh HM
    have q0:=HO.out.frozenAt k
    have d0:=(HO.out.cellAt k (by omega)).trans (vG (yW (by rw [iV];simp) hxk))
    have g0:(0:Int)≤(k:Int):=by omega
    have g3:(k:Int) < (m:Int):=by omega
    have HO2:Hid ((wr.setCell ⟨w.heap.size+1,k,none⟩ (.int .u64 (q:Int))).ownsRow w.heap.size 37 1 (.slice (some ⟨w.heap.size+1,0,none⟩) m m) m (u64s (nU (gX m) (List.replicate m 0) (k+1)))):=by
     rw [← HM.out,← vF]
     exact (HO.out.stored k _).1
    have HR2:=Lib.hid (dM (B:=w.heap.size+1) (j:=k) (c:=.int .u64 (q:Int)) HR.out (by omega))
    have hb2:=hb.setCell (p:=⟨w.heap.size+1,k,none⟩) (by simp) (.int .u64 (q:Int))
    clear hxk hq
    go_wp2
    go_roundw
    case rel=>exact ⟨k+1,by omega,by go_num,HO2,HR2,hb2⟩
    case measure=>simp [intOf];omega
   ·obtain rfl:k=m:=by omega
    have HO2:Hid (wr.ownsRow w.heap.size 37 1 (.slice (some ⟨w.heap.size+1,0,none⟩) k k) k (u64s ys)):=by
     have:=HO.out
     have e:nU (gX k) (List.replicate k 0) k=gX k:=by
      have:=vE (ys:=gX k) (xs:=List.replicate k 0) (by rw [iV];simp)
      simpa using this
     rwa [e,HY.out] at this
    obtain ⟨r0,r1,rf⟩:=bF HR.out
    have rf0:=rf 0;have rf1:=rf 1
    have N1:=Lib.hid (fG (c:=.slice (some ⟨w.heap.size+1,0,none⟩) k k) (iD (c:=.int .u64 0) HR.out))
    obtain ⟨s0,s1,_⟩:=bF N1.out
    have HO5:=Lib.hid ((HO2.out.kept (dY _ _ 0 (.int .u64 0)) (.inr (hZ HR.out (by decide) HO2.out).symm)).kept (dY _ w.heap.size 1 (.slice (some ⟨w.heap.size+1,0,none⟩) k k)) (.inr (hZ HR.out (by decide) HO2.out).symm))
    have HB5:=Lib.hid ((hb.setCell (p:=⟨w.heap.size,0,none⟩) (Nat.le_refl _) (.int .u64 0)).setCell (p:=⟨w.heap.size,1,none⟩) (Nat.le_refl _) (.slice (some ⟨w.heap.size+1,0,none⟩) k k))
    clear rf
    go_wp2
    refine bodyPost_ret (v:=.tuple #[.agg #[.int .u64 0,.slice (some ⟨w.heap.size+1,0,none⟩) k k],.int .i64 0]) ?_ rfl (H4 (gen:=0) HO5.out HB5.out 0)
    simp [results,results146,go_sem,s0,s1]
theorem oneR_is (n:Int) (w:World) (e0:Int) (he:H5 n=e0) (ys:List Nat) (hys:oneV n=ys) :
  Calls prog 149 #[.int .i64 n] w (Hz 0 ys e0 w):=by
 have hB0:Below w.heap.size w (w.alloc (.cells #[.int .u64 0,.slice none 0 0] 40)):=(Below.refl _ _).alloc (Nat.le_refl _) _
 have T0:=Lib.hid (dL w (.cells #[.int .u64 0,.slice none 0 0] 40))
 obtain ⟨i0,hi,hz0,hz1,hz2⟩:=info_parts zZ
 cases hd:fR n
 ·obtain rfl:31=e0:=by rw [← he,H5,hd];rfl
  obtain rfl:[]=ys:=by rw [← hys,oneV,hd];rfl
  have HD:=Lib.hid hd
  obtain ⟨d0,d1,df⟩:=bF T0.out
  have f0:=df 0;have f1:=df 1
  clear df hd he hys
  go_enter func149,ntmps149
  go_wp2_with fail
  refine (wV n false HD.out _).mono ?_
  rintro e w1 ⟨rfl,rfl⟩
  go_wp2
  refine bodyPost_ret (v:=.tuple #[.agg #[.int .u64 0,.slice none 0 0],.int .i64 31]) ?_ rfl (H3 31 hB0)
  simp [results,results149,go_sem,d0,d1]
 ·have HD:=Lib.hid hd
  obtain ⟨m,rfl,hm⟩:=pK hd
  obtain rfl:0=e0:=by rw [← he,H5,hd];rfl
  have HY:Hid (gX m=ys):=by show _=_;rw [← hys,oneV,hd,if_pos rfl,Int.toNat_natCast]
  have HYL:Hid (ys.length=m):=by show _=_;rw [← HY.out,iV]
  clear hd he hys
  obtain ⟨t0,t1⟩:=oQ w #[.int .u64 0,.slice none 0 0] #[.int .u64 0,.slice none 0 0] 40
  have A0:=Lib.hid t0;have A1:=Lib.hid t1
  clear t0 t1
  go_enter func149,ntmps149
  go_wp2_with fail
  refine (wV m true HD.out _).mono ?_
  rintro e w1 ⟨rfl,rfl⟩
  go_wp2_with fail
  go_loopw [5] (fun i wr=>∃ (k:Nat) (v:Value),k≤m∧i = .int .i64 k∧Hid (wr.heap[w.heap.size]?=some (.cells #[.int .u64 0,.slice none 0 0] 40 (0,0)))∧Hid (wr.heap[w.heap.size+1]?=some (.cells #[.int .u64 0,v] 40 (0,0)))∧Hid (wr.ownsRow w.heap.size 37 1 v k (u64s (ys.take k)))∧Below w.heap.size w wr) (fun i _=>m - (intOf i).toNat)
  case atStart=>exact ⟨0,.slice none 0 0,Nat.zero_le _,rfl,A0,A1,World.ownsRow_nil _ _ _ _,hB0.alloc (by simp) _⟩
  case round =>
   obtain ⟨k,v,hk,rfl,B1,B2,HO,hb⟩:=hrel
   obtain ⟨e0,e1,ef⟩:=bF B2.out
   have ef1:=ef 1
   by_cases hlt:k < m
   ·obtain ⟨y,hy⟩:∃ y:Nat,2 ^ k=y:=⟨_,rfl⟩
    have HYK:=Lib.hid hy
    have HT:Hid (ys.take (k+1)=ys.take k++[y]):=by
     show _=_
     have h2:ys[k]?=some y:=by rw [← HY.out,Af hlt,hy]
     obtain ⟨hk2,e⟩:=List.getElem?_eq_some_iff.1 h2
     rw [List.take_succ_eq_append_getElem hk2,e]
    have q1:(wr.alloc (.cells #[.int .u64 (y:Int)] 37)).cell? ⟨w.heap.size+1,1,none⟩=some v:=(bF (cP B2.out _)).2.1
    clear hy ef
    go_wp2_with fail
    go_region_law (first | (refine step_append_lies (wr.drew.alloc (.cells #[.int .u64 (y:Int)] 37)) ?_ (.tmp 17) (.tmp 20) 38 ?_ w.heap.size 37 i0 _ 1 8 underlying38 hi hz0 hz1 hz2 ?_ ?_ v k (u64s (ys.take k)) ?_ ?_ ⟨wr.heap.size,0,none⟩ 1 1 [.int .u64 (y:Int)] ?_ ?_ ?_ ?_ ?_ ?_ ?_ ?_ (wr.heap.size+1) ?_ ?_;rfl;rfl;rfl;omega;rfl;exact (HO.out:(wr.drew).ownsRow _ _ _ _ _ _).alloc _;rfl;rfl;exact (World.news_of_block (cs:=#[.int .u64 (y:Int)]) (t:=37) (fr:=(0,0)) (dL wr.drew _));simp [Value.oneCell'];omega;(unfold maxLen;omega);omega;(have:=hb.size;simp;omega);simp;intro gg cp w5 hown1 hgrow hat hlt5;have hB4:Below w.heap.size w w5:=(hb.drew.alloc hb.size _).grown hgrow (by have:=hb.size;simp;omega) (fun j e=>(HO.out.lt j e).1);have D1:=Lib.hid (fT (cP (w:=wr.drew) B1.out (.cells #[.int .u64 (y:Int)] 37)) (by decide) ((HO.out:(wr.drew).ownsRow _ _ _ _ _ _).alloc _) hgrow);have D2:=Lib.hid (fT (cP (w:=wr.drew) B2.out (.cells #[.int .u64 (y:Int)] 37)) (by decide) ((HO.out:(wr.drew).ownsRow _ _ _ _ _ _).alloc _) hgrow);obtain ⟨_,d1,df⟩:=bF D2.out;have df1:=df 1;clear df) | (go_simp;go_at_call 150;refine (Hk k k y rfl HYK.out (by omega) _).mono ?_;rintro e w3 ⟨rfl,rfl⟩) | fail)
    all_goals
     have HO5:=Lib.hid (show (w5.setCell ⟨w.heap.size+1,1,none⟩ (.slice (some ⟨gg,0,none⟩) (k+1) cp)).ownsRow w.heap.size 37 1 (.slice (some ⟨gg,0,none⟩) (k+1) cp) (k+1) (u64s (ys.take (k+1))) by
      rw [HT.out,sJ];exact hown1.kept (dY w5 _ _ _) (.inr (hZ D2.out (by decide) hown1).symm))
     have N1:=Lib.hid (dM (B:=w.heap.size+1) (j:=1) (c:=.slice (some ⟨gg,0,none⟩) (k+1) cp) D1.out (by omega))
     have N2:=Lib.hid (fG (c:=.slice (some ⟨gg,0,none⟩) (k+1) cp) D2.out)
     have NB:=Lib.hid (hB4.setCell (p:=⟨w.heap.size+1,1,none⟩) (by simp) (.slice (some ⟨gg,0,none⟩) (k+1) cp))
     clear hown1 hgrow hat d1 df1 q1 e0 e1 ef1
     go_wp2
     go_roundw
     case rel=>exact ⟨k+1,_,by omega,by go_num,N1,N2,HO5,NB.out⟩
     case measure=>simp [intOf];omega
   ·obtain rfl:k=m:=by omega
    obtain ⟨r0,r1,rf⟩:=bF B1.out
    have rf0:=rf 0;have rf1:=rf 1
    have HO2:Hid (wr.ownsRow w.heap.size 37 1 v k (u64s ys)):=by
     have:=HO.out
     rwa [List.take_of_length_le (by rw [HYL.out];exact Nat.le_refl _)] at this
    obtain ⟨a3,cap3,hv3⟩:=C5 HO2.out
    subst hv3
    have N1:=Lib.hid (fG (c:=.slice a3 k cap3) (iD (c:=.int .u64 0) B1.out))
    obtain ⟨s0,s1,_⟩:=bF N1.out
    have HO5:=Lib.hid ((HO2.out.kept (dY _ _ 0 (.int .u64 0)) (.inr (hZ B1.out (by decide) HO2.out).symm)).kept (dY _ w.heap.size 1 (.slice a3 k cap3)) (.inr (hZ B1.out (by decide) HO2.out).symm))
    have HB5:=Lib.hid ((hb.setCell (p:=⟨w.heap.size,0,none⟩) (Nat.le_refl _) (.int .u64 0)).setCell (p:=⟨w.heap.size,1,none⟩) (Nat.le_refl _) (.slice a3 k cap3))
    clear rf ef
    go_wp2
    refine bodyPost_ret (v:=.tuple #[.agg #[.int .u64 0,.slice a3 k cap3],.int .i64 0]) ?_ rfl (H4 (gen:=0) HO5.out HB5.out 0)
    simp [results,results149,go_sem,s0,s1]
theorem Fu {a:Int} (h:(Lit.int .u64 a).wf=true):∃ n:Nat,a=n∧n < 18446744073709551616:=by
 simp only [Lit.wf,IntKind.min,IntKind.max,IntKind.signed,IntKind.bits,Bool.and_eq_true,decide_eq_true_eq] at h
 simp at h
 exact ⟨a.toNat,by omega,by omega⟩
theorem C9 (g:Nat) (zs:List Nat):qK g zs g zs=true:=by simp [qK]
theorem mem_iff {s i:Nat}:i∈mem s↔i < 64∧s.testBit i=true:=⟨fun h=>⟨Fc h,Fd h⟩,fun h=>tY h.1 h.2⟩
theorem N3 (rows:List Nat) (j:Nat):∀ (l:List Nat) (g:Nat),(accF rows g l).testBit j=true↔g.testBit j=true∨∃ i∈l,(rows.getD i 0).testBit j=true
 | [],g=>by simp [accF]
 | x::l,g=>by
  have:=N3 rows j l (g ||| rows.getD x 0)
  rw [show accF rows g (x::l)=accF rows (g ||| rows.getD x 0) l from rfl,this,Nat.testBit_or,Bool.or_eq_true]
  simp only [List.mem_cons,exists_eq_or_imp]
  exact or_assoc
theorem eS {g s j:Nat} {rows:List Nat}:(madeF g rows s).testBit j=true↔g.testBit j=true∨∃ i,(i < 64∧s.testBit i=true)∧(rows.getD i 0).testBit j=true:=by
 rw [madeF,N3]
 simp only [mem_iff]
theorem pO {a b:Nat} (h:∀ j,a.testBit j=true↔b.testBit j=true):a=b:=by
 apply Nat.eq_of_testBit_eq
 intro j
 rw [Bool.eq_iff_iff];exact h j
theorem H6 {a b j:Nat} (ha:a < 18446744073709551616) (hb:b < 18446744073709551616):(andn a b).testBit j=true↔a.testBit j=true∧¬ b.testBit j=true:=by
 rw [rH ha hb];simp
theorem N4 {rows:List Nat} (h:∀ r∈rows,r < 18446744073709551616) (i:Nat):rows.getD i 0 < 18446744073709551616:=by
 rw [List.getD_eq_getElem?_getD]
 cases hx:rows[i]? with
 | none=>simp
 | some y=>exact h y (List.mem_of_getElem? hx)
theorem Ag {g:Nat} {rows:List Nat} (i:Nat):(eG g rows).getD i 0=andn (rows.getD i 0) g:=by
 rw [List.getD_eq_getElem?_getD,List.getD_eq_getElem?_getD,eG,List.getElem?_map]
 cases rows[i]?<;>simp [andn]
theorem Fv {xs ys:List Nat} (hl:ys.length=xs.length) (i:Nat):(orL xs ys).getD i 0=xs.getD i 0 ||| ys.getD i 0:=by
 rw [List.getD_eq_getElem?_getD,List.getD_eq_getElem?_getD,List.getD_eq_getElem?_getD,orL,List.getElem?_zipWith]
 rcases Nat.lt_or_ge i xs.length with h | h
 ·rw [List.getElem?_eq_getElem h,List.getElem?_eq_getElem (by omega)];simp
 ·rw [List.getElem?_eq_none h,List.getElem?_eq_none (by omega)];simp
theorem Ah {g:Nat} {rows:List Nat} (hg:g < 18446744073709551616) (hr:∀ r∈rows,r < 18446744073709551616) (s:Nat):madeF g (eG g rows) s=madeF g rows s:=by
 apply pO;intro j
 rw [eS,eS]
 constructor
 ·rintro (h | ⟨i,hi,h⟩)
  ·exact .inl h
  ·rw [Ag,H6 (N4 hr i) hg] at h
   exact .inr ⟨i,hi,h.1⟩
 ·rintro (h | ⟨i,hi,h⟩)
  ·exact .inl h
  ·by_cases hj:g.testBit j=true
   ·exact .inl hj
   ·exact .inr ⟨i,hi,by rw [Ag,H6 (N4 hr i) hg];exact ⟨h,hj⟩⟩
theorem made_or {ga gb:Nat} {xs ys:List Nat} (hl:ys.length=xs.length) (s:Nat):madeF (ga ||| gb) (orL xs ys) s=madeF ga xs s ||| madeF gb ys s:=by
 apply pO;intro j
 rw [Nat.testBit_or,Bool.or_eq_true,eS,eS,eS,Nat.testBit_or,Bool.or_eq_true]
 constructor
 ·rintro ((h | h) | ⟨i,hi,h⟩)
  ·exact .inl (.inl h)
  ·exact .inr (.inl h)
  ·rw [Fv hl,Nat.testBit_or,Bool.or_eq_true] at h
   rcases h with h | h
   ·exact .inl (.inr ⟨i,hi,h⟩)
   ·exact .inr (.inr ⟨i,hi,h⟩)
 ·rintro ((h | ⟨i,hi,h⟩) | (h | ⟨i,hi,h⟩))
  ·exact .inl (.inl h)
  ·exact .inr ⟨i,hi,by rw [Fv hl,Nat.testBit_or,Bool.or_eq_true];exact .inl h⟩
  ·exact .inl (.inr h)
  ·exact .inr ⟨i,hi,by rw [Fv hl,Nat.testBit_or,Bool.or_eq_true];exact .inr h⟩
theorem H7 {f:Nat→Nat} {xs:List Nat} (i:Nat):(xs.map f).getD i 0=if i < xs.length then f (xs.getD i 0) else 0:=by
 rw [List.getD_eq_getElem?_getD,List.getD_eq_getElem?_getD,List.getElem?_map]
 split
 ·rename_i h;rw [List.getElem?_eq_getElem h];rfl
 ·rename_i h;rw [List.getElem?_eq_none (by omega)];rfl
theorem Qk {ga gb:Nat} {xs ys:List Nat} (s:Nat):madeF (madeF gb ys ga) (xs.map (madeF gb ys)) s=madeF gb ys (madeF ga xs s):=by
 apply pO;intro j
 rw [eS,eS,eS]
 simp only [eS]
 constructor
 ·rintro ((h | ⟨k,⟨hk,hk2⟩,h⟩) | ⟨i,hi,h⟩)
  ·exact .inl h
  ·exact .inr ⟨k,⟨hk,.inl hk2⟩,h⟩
  ·rw [H7] at h
   split at h
   ·rw [eS] at h
    rcases h with h | ⟨k,⟨hk,hk2⟩,h⟩
    ·exact .inl h
    ·exact .inr ⟨k,⟨hk,.inr ⟨i,hi,hk2⟩⟩,h⟩
   ·simp at h
 ·rintro (h | ⟨k,⟨hk,(hk2 | ⟨i,hi,hk2⟩)⟩,h⟩)
  ·exact .inl (.inl h)
  ·exact .inl (.inr ⟨k,⟨hk,hk2⟩,h⟩)
  ·refine .inr ⟨i,hi,?_⟩
   rw [H7]
   split
   ·rw [eS];exact .inr ⟨k,⟨hk,hk2⟩,h⟩
   ·rename_i hn
    rw [List.getD_eq_getElem?_getD,List.getElem?_eq_none (by omega)] at hk2
    simp at hk2
theorem Ud {g:Nat} {rows:List Nat} (s t:Nat):madeF g rows (s ||| t)=madeF g rows s ||| madeF g rows t:=by
 apply pO;intro j
 rw [Nat.testBit_or,Bool.or_eq_true,eS,eS,eS]
 simp only [Nat.testBit_or,Bool.or_eq_true]
 constructor
 ·rintro (h | ⟨i,⟨hi,(h1 | h1)⟩,h⟩)
  ·exact .inl (.inl h)
  ·exact .inl (.inr ⟨i,⟨hi,h1⟩,h⟩)
  ·exact .inr (.inr ⟨i,⟨hi,h1⟩,h⟩)
 ·rintro ((h | ⟨i,⟨hi,h1⟩,h⟩) | (h | ⟨i,⟨hi,h1⟩,h⟩))
  ·exact .inl h
  ·exact .inr ⟨i,⟨hi,.inl h1⟩,h⟩
  ·exact .inl h
  ·exact .inr ⟨i,⟨hi,.inr h1⟩,h⟩
structure Good (m:Nat) (g:Nat) (rows:List Nat):Prop where
 hm:m≤64
 hl:rows.length=m
 hg:g < 2 ^ m
 hr:∀ r∈rows,r < 2 ^ m
 hc:∀ r∈rows,r &&& g=0
theorem Good.g64 {m g:Nat} {rows:List Nat} (h:Good m g rows):g < 18446744073709551616:=Nat.lt_of_lt_of_le h.hg (nA h.hm)
theorem Good.r64 {m g:Nat} {rows:List Nat} (h:Good m g rows):∀ r∈rows,r < 18446744073709551616:=fun r hr=>Nat.lt_of_lt_of_le (h.hr r hr) (nA h.hm)
theorem uA {m g:Nat} {rows:List Nat} (h:Good m g rows):eO m g rows=0:=by
 have hd:fR m=true:=by simp [fR];have:=h.hm;omega
 have h1:fJ m g rows=true:=by
  unfold fJ
  simp only [Bool.and_eq_true,decide_eq_true_eq,List.all_eq_true]
  exact ⟨h.hl,(jZ h.hm h.g64).2 h.hg,fun r hr=>(jZ h.hm (h.r64 r hr)).2 (h.hr r hr)⟩
 have h2:lB g rows=true:=by
  unfold lB
  rw [List.all_eq_true]
  intro r hr
  have:=h.hc r hr
  simp [this]
 unfold eO
 rw [if_pos hd,Int.toNat_natCast,h1,h2];rfl
theorem Lu {n:Int} {g:Nat} {rows:List Nat} (hg:g < 18446744073709551616) (hr:∀ r∈rows,r < 18446744073709551616) (h:eO n g rows=0):∃ m:Nat,n=m∧Good m g rows:=by
 obtain ⟨hd,hs,hc⟩:=oT h
 obtain ⟨m,rfl,hm⟩:=pK hd
 rw [Int.toNat_natCast] at hs
 obtain ⟨hl,ig,ir⟩:=nF hs
 unfold lB at hc
 rw [List.all_eq_true] at hc
 exact ⟨m,rfl,hm,hl,(jZ hm hg).1 ig,fun r h=>(jZ hm (hr r h)).1 (ir r h),fun r h=>by simpa using hc r h⟩
theorem Ai {m g:Nat} {rows:List Nat} (hm:m≤64) (hl:rows.length=m) (hg:g < 2 ^ m) (hr:∀ r∈rows,r < 2 ^ m):Good m g (eG g rows) where
 hm:=hm
 hl:=by rw [jD,hl]
 hg:=hg
 hr:=fun r h=>by
  obtain ⟨x,hx,rfl⟩:=List.mem_map.1 h
  exact Nat.lt_of_le_of_lt Nat.and_le_left (hr x hx)
 hc:=fun r h=>by
  obtain ⟨x,hx,rfl⟩:=List.mem_map.1 h
  have h1:=Nat.lt_of_lt_of_le (hr x hx) (nA hm)
  have h2:=Nat.lt_of_lt_of_le hg (nA hm)
  apply Nat.eq_of_testBit_eq
  intro j
  rw [Nat.testBit_and,rH h1 h2,Nat.zero_testBit]
  cases x.testBit j<;>cases g.testBit j<;>rfl
theorem Da {m:Nat} {rows:List Nat} (hr:∀ r∈rows,r < 2 ^ m):∀ (l:List Nat) (g:Nat),g < 2 ^ m→accF rows g l < 2 ^ m
 | [],g,h=>h
 | x::l,g,h=>by
  have:rows.getD x 0 < 2 ^ m:=by
   rw [List.getD_eq_getElem?_getD]
   cases hx:rows[x]? with
   | none=>exact Nat.two_pow_pos m
   | some y=>exact hr y (List.mem_of_getElem? hx)
  exact Da hr l _ (Nat.or_lt_two_pow h this)
theorem Good.made {m g:Nat} {rows:List Nat} (h:Good m g rows) (s:Nat):madeF g rows s < 2 ^ m:=Da h.hr _ _ h.hg
theorem Good.comb {m ga gb:Nat} {xs ys:List Nat} (ha:Good m ga xs) (hb:Good m gb ys):Good m (ga ||| gb) (eG (ga ||| gb) (orL xs ys)) :=
 Ai ha.hm (by rw [yY (by rw [ha.hl,hb.hl]),ha.hl]) (Nat.or_lt_two_pow ha.hg hb.hg) (fun r hr=>by
  obtain ⟨i,hi⟩:=List.getElem?_of_mem hr
  unfold orL at hi
  rw [List.getElem?_zipWith] at hi
  cases h1:xs[i]? with
  | none=>rw [h1] at hi;simp at hi
  | some a =>
   cases h2:ys[i]? with
   | none=>rw [h1,h2] at hi;simp at hi
   | some b =>
    rw [h1,h2] at hi
    have:a ||| b=r:=by simpa using hi
    rw [← this]
    exact Nat.or_lt_two_pow (ha.hr a (List.mem_of_getElem? h1)) (hb.hr b (List.mem_of_getElem? h2)))
theorem Good.ext {m ga gb:Nat} {xs ys:List Nat} (ha:Good m ga xs) (hb:Good m gb ys):Good m (madeF gb ys ga) (eG (madeF gb ys ga) (xs.map (madeF gb ys))) :=
 Ai ha.hm (by rw [List.length_map,ha.hl]) (hb.made ga) (fun r hr=>by
  obtain ⟨x,_,rfl⟩:=List.mem_map.1 hr
  exact hb.made x)
theorem sQ {m ga gb:Nat} {xs ys:List Nat} (ha:Good m ga xs) (hb:Good m gb ys):kE m ga xs gb ys=0:=by
 rw [kE,if_pos (uA ha)];exact uA hb
theorem uB {m ga gb:Nat} {xs ys:List Nat} (ha:Good m ga xs) (hb:Good m gb ys):gJ m ga xs gb ys=ga ||| gb:=by rw [gJ,if_pos (sQ ha hb)]
theorem uC {m ga gb:Nat} {xs ys:List Nat} (ha:Good m ga xs) (hb:Good m gb ys):gE m ga xs gb ys=eG (ga ||| gb) (orL xs ys):=by rw [gE,if_pos (sQ ha hb)]
theorem Db {m ga gb:Nat} {xs ys:List Nat} (ha:Good m ga xs) (hb:Good m gb ys):jN m ga xs gb ys=madeF gb ys ga:=by rw [jN,if_pos (sQ ha hb)]
theorem Dc {m ga gb:Nat} {xs ys:List Nat} (ha:Good m ga xs) (hb:Good m gb ys):jF m ga xs gb ys=eG (madeF gb ys ga) (xs.map (madeF gb ys)):=by rw [jF,if_pos (sQ ha hb)]
theorem Good.combT {m ga gb:Nat} {xs ys:List Nat} (ha:Good m ga xs) (hb:Good m gb ys):Good m (gJ m ga xs gb ys) (gE m ga xs gb ys):=by rw [uB ha hb,uC ha hb];exact ha.comb hb
theorem Good.extT {m ga gb:Nat} {xs ys:List Nat} (ha:Good m ga xs) (hb:Good m gb ys):Good m (jN m ga xs gb ys) (jF m ga xs gb ys):=by rw [Db ha hb,Dc ha hb];exact ha.ext hb
theorem gQ {m ga gb:Nat} {xs ys:List Nat} (ha:Good m ga xs) (hb:Good m gb ys) (s:Nat):madeF (gJ m ga xs gb ys) (gE m ga xs gb ys) s=madeF ga xs s ||| madeF gb ys s:=by
 rw [uB ha hb,uC ha hb,Ah (Qj ha.g64 hb.g64) (Lt ha.r64 hb.r64),made_or (by rw [ha.hl,hb.hl])]
theorem iE {m ga gb:Nat} {xs ys:List Nat} (ha:Good m ga xs) (hb:Good m gb ys) (s:Nat):madeF (jN m ga xs gb ys) (jF m ga xs gb ys) s=madeF gb ys (madeF ga xs s):=by
 rw [Db ha hb,Dc ha hb,Ah (oS hb.r64 hb.g64) (fun r hr=>by obtain ⟨x,_,rfl⟩:=List.mem_map.1 hr;exact oS hb.r64 hb.g64),Qk]
theorem Dd (g:Nat) (rows:List Nat):madeF g rows 0=g:=by rw [madeF,Tp];rfl
theorem H8 {m g:Nat} {rows:List Nat} (h:Good m g rows) {i r:Nat} (hi:rows[i]?=some r):madeF g rows (2 ^ i)=g ||| r:=by
 have hil:=(List.getElem?_eq_some_iff.1 hi).1
 have hi64:i < 64:=by have:=h.hl;have:=h.hm;omega
 apply pO;intro j
 rw [eS,Nat.testBit_or,Bool.or_eq_true]
 constructor
 ·rintro (h1 | ⟨k,⟨hk,h2⟩,h3⟩)
  ·exact .inl h1
  ·rw [Nat.testBit_two_pow] at h2
   have e:i=k:=by simpa using h2
   subst e
   rw [List.getD_eq_getElem?_getD,hi] at h3
   exact .inr h3
 ·rintro (h1 | h1)
  ·exact .inl h1
  ·exact .inr ⟨i,⟨hi64,by rw [Nat.testBit_two_pow];simp⟩,by rw [List.getD_eq_getElem?_getD,hi];exact h1⟩
theorem lQ {m g h:Nat} {xs ys:List Nat} (hx:Good m g xs) (hy:Good m h ys) (e:∀ s,madeF g xs s=madeF h ys s):g=h∧xs=ys:=by
 have e0:=e 0
 rw [Dd,Dd] at e0
 subst e0
 refine ⟨rfl,tW (by rw [hx.hl,hy.hl]) fun i x y hi hj=>?_⟩
 have e1:=e (2 ^ i)
 rw [H8 hx hi,H8 hy hj] at e1
 have c1:=hx.hc x (List.mem_of_getElem? hi)
 have c2:=hy.hc y (List.mem_of_getElem? hj)
 apply Nat.eq_of_testBit_eq
 intro j
 have b1:=congrArg (fun n=>n.testBit j) e1
 have b2:=congrArg (fun n=>n.testBit j) c1
 have b3:=congrArg (fun n=>n.testBit j) c2
 simp only [Nat.testBit_or,Nat.testBit_and,Nat.zero_testBit] at b1 b2 b3
 cases h1:x.testBit j<;>cases h2:y.testBit j<;>cases h3:g.testBit j<;>simp_all
theorem Ue {m i j:Nat}:((gX m).getD i 0).testBit j=true↔i < m∧i=j:=by
 rw [List.getD_eq_getElem?_getD]
 rcases Nat.lt_or_ge i m with h | h
 ·rw [Af h]
  simp only [Option.getD_some,Nat.testBit_two_pow,decide_eq_true_eq]
  exact ⟨fun e=>⟨h,e⟩,fun e=>e.2⟩
 ·rw [List.getElem?_eq_none (by rw [iV];exact h)]
  simp only [Option.getD_none,Nat.zero_testBit]
  exact ⟨fun e=>(Bool.false_ne_true e).elim,fun e=>(by omega)⟩
theorem De {m s:Nat} (hm:m≤64) (hs:s < 2 ^ m):madeF 0 (gX m) s=s:=by
 apply pO;intro j
 rw [eS]
 simp only [Ue,Nat.zero_testBit]
 constructor
 ·rintro (h | ⟨i,⟨_,h2⟩,_,rfl⟩)
  ·cases h
  ·exact h2
 ·intro h
  have hj:j < m:=by
   rcases Nat.lt_or_ge j m with h1 | h1
   ·exact h1
   ·rw [Nat.testBit_lt_two_pow (Nat.lt_of_lt_of_le hs (Nat.pow_le_pow_right (by omega) h1))] at h;cases h
  exact .inr ⟨j,⟨by omega,h⟩,hj,rfl⟩
theorem lD {m:Nat} (hm:m≤64):Good m 0 (gX m) where
 hm:=hm
 hl:=iV m
 hg:=Nat.two_pow_pos m
 hr:=fun r hr=>by
  obtain ⟨i,hi,rfl⟩:=List.mem_map.1 hr
  exact Nat.pow_lt_pow_right (by omega) (List.mem_range.1 hi)
 hc:=fun r _=>Nat.and_zero r
theorem vK {m:Nat} (hm:m≤64):H5 m=0∧oneV m=gX m:=by
 have hd:fR m=true:=by simp [fR];omega
 exact ⟨by rw [H5,if_pos hd],by rw [oneV,if_pos hd,Int.toNat_natCast]⟩
section
variable {m ga gb gc:Nat} {xs ys zs:List Nat}
theorem Df (a:Good m ga xs) (b:Good m gb ys):gJ m ga xs gb ys=gJ m gb ys ga xs∧gE m ga xs gb ys=gE m gb ys ga xs :=
 lQ (a.combT b) (b.combT a) fun s=>by rw [gQ a b,gQ b a,Nat.or_comm]
theorem Dg (a:Good m ga xs):gJ m ga xs ga xs=ga∧gE m ga xs ga xs=xs :=
 lQ (a.combT a) a fun s=>by rw [gQ a a,Nat.or_self]
theorem Aj (a:Good m ga xs) (b:Good m gb ys) (c:Good m gc zs):gJ m (gJ m ga xs gb ys) (gE m ga xs gb ys) gc zs=gJ m ga xs (gJ m gb ys gc zs) (gE m gb ys gc zs)∧gE m (gJ m ga xs gb ys) (gE m ga xs gb ys) gc zs=gE m ga xs (gJ m gb ys gc zs) (gE m gb ys gc zs) :=
 lQ ((a.combT b).combT c) (a.combT (b.combT c)) fun s=>by rw [gQ (a.combT b) c,gQ a (b.combT c),gQ a b,gQ b c,Nat.or_assoc]
theorem Dh (a:Good m ga xs) (b:Good m gb ys) (c:Good m gc zs):jN m (jN m ga xs gb ys) (jF m ga xs gb ys) gc zs=jN m ga xs (jN m gb ys gc zs) (jF m gb ys gc zs)∧jF m (jN m ga xs gb ys) (jF m ga xs gb ys) gc zs=jF m ga xs (jN m gb ys gc zs) (jF m gb ys gc zs) :=
 lQ ((a.extT b).extT c) (a.extT (b.extT c)) fun s=>by rw [iE (a.extT b) c,iE a (b.extT c),iE a b,iE b c]
theorem N5 {m s:Nat} (hm:m≤64) (g:Nat) (rows:List Nat) (hl:rows.length=m):madeF g rows s=madeF g rows (s % 2 ^ m):=by
 apply pO;intro j
 rw [eS,eS]
 constructor
 ·rintro (h | ⟨i,⟨hi,h2⟩,h3⟩)
  ·exact .inl h
  ·have him:i < m:=by
    rcases Nat.lt_or_ge i m with h1 | h1
    ·exact h1
    ·rw [List.getD_eq_getElem?_getD,List.getElem?_eq_none (by omega)] at h3;simp at h3
   exact .inr ⟨i,⟨hi,by rw [Nat.testBit_mod_two_pow];simp [him,h2]⟩,h3⟩
 ·rintro (h | ⟨i,⟨hi,h2⟩,h3⟩)
  ·exact .inl h
  ·rw [Nat.testBit_mod_two_pow,Bool.and_eq_true] at h2
   exact .inr ⟨i,⟨hi,h2.2⟩,h3⟩
theorem Di (a:Good m ga xs):jN m 0 (gX m) ga xs=ga∧jF m 0 (gX m) ga xs=xs :=
 lQ ((lD a.hm).extT a) a fun s=>by
  rw [iE (lD a.hm) a,N5 a.hm 0 (gX m) (iV m),De a.hm (Nat.mod_lt _ (Nat.two_pow_pos m)),← N5 a.hm ga xs a.hl]
theorem Dj (a:Good m ga xs):jN m ga xs 0 (gX m)=ga∧jF m ga xs 0 (gX m)=xs :=
 lQ (a.extT (lD a.hm)) a fun s=>by rw [iE a (lD a.hm),De a.hm (a.made s)]
theorem Dk (a:Good m ga xs) (b:Good m gb ys) (c:Good m gc zs):jN m ga xs (gJ m gb ys gc zs) (gE m gb ys gc zs)=gJ m (jN m ga xs gb ys) (jF m ga xs gb ys) (jN m ga xs gc zs) (jF m ga xs gc zs)∧jF m ga xs (gJ m gb ys gc zs) (gE m gb ys gc zs)=gE m (jN m ga xs gb ys) (jF m ga xs gb ys) (jN m ga xs gc zs) (jF m ga xs gc zs) :=
 lQ (a.extT (b.combT c)) ((a.extT b).combT (a.extT c)) fun s=>by rw [iE a (b.combT c),gQ b c,gQ (a.extT b) (a.extT c),iE a b,iE a c]
theorem Ak (a:Good m ga xs) (b:Good m gb ys) (c:Good m gc zs):jN m (gJ m ga xs gb ys) (gE m ga xs gb ys) gc zs=gJ m (jN m ga xs gc zs) (jF m ga xs gc zs) (jN m gb ys gc zs) (jF m gb ys gc zs)∧jF m (gJ m ga xs gb ys) (gE m ga xs gb ys) gc zs=gE m (jN m ga xs gc zs) (jF m ga xs gc zs) (jN m gb ys gc zs) (jF m gb ys gc zs) :=
 lQ ((a.combT b).extT c) ((a.extT c).combT (b.extT c)) fun s=>by rw [iE (a.combT b) c,gQ a b,gQ (a.extT c) (b.extT c),iE a c,iE b c,Ud]
end
def vals (c:Cl):List Value:=[.int .u64 (c.f:Int),.int .i64 c.k,.int .i64 c.v]
def flat (cs:List Cl):List Value:=cs.flatMap vals
theorem nZ (cs:List Cl):(flat cs).length=cs.length * 3:=by
 induction cs with
 | nil=>rfl
 | cons c r ih=>simp [flat,vals] at ih ⊢;omega
theorem jP (c:Cl) (r:List Cl):flat (c::r)=vals c++flat r:=by simp [flat]
theorem Dl (cs:List Cl) (c:Cl):flat (cs++[c])=flat cs++vals c:=by simp [flat]
theorem pP:∀ {cs:List Cl} {i:Nat} {c:Cl},cs[i]?=some c→(flat cs)[i * 3]?=some (.int .u64 (c.f:Int))∧(flat cs)[i * 3+1]?=some (.int .i64 c.k)∧(flat cs)[i * 3+2]?=some (.int .i64 c.v)
 | [],i,c,h=>by simp at h
 | x::r,0,c,h=>by
  simp at h;subst h
  simp [jP,vals]
 | x::r,i+1,c,h=>by
  simp at h
  have ih:=pP (cs:=r) (i:=i) h
  have e0:(i+1) * 3=i * 3+3:=by omega
  have e1:(i+1) * 3+1=(i * 3+1)+3:=by omega
  have e2:(i+1) * 3+2=(i * 3+2)+3:=by omega
  rw [e1,e2,e0,jP]
  simp only [vals,List.cons_append,List.nil_append,List.getElem?_cons_succ]
  exact ih
theorem Ia:∀ (cs:List Cl) (i:Nat) (c:Cl),i < cs.length→(((flat cs).set (i * 3) (.int .u64 (c.f:Int))).set (i * 3+1) (.int .i64 c.k)).set (i * 3+2) (.int .i64 c.v)=flat (cs.set i c)
 | [],i,c,h=>by simp at h
 | x::r,0,c,h=>by simp [jP,vals]
 | x::r,i+1,c,h=>by
  have ih:=Ia r i c (by simpa using h)
  have e0:(i+1) * 3=i * 3+3:=by omega
  have e1:(i+1) * 3+1=(i * 3+1)+3:=by omega
  have e2:(i+1) * 3+2=(i * 3+2)+3:=by omega
  rw [e1,e2,e0,jP,List.set_cons_succ,jP,← ih]
  simp [vals]
theorem Dm {w w':World} {base size n:Nat} {E:Nat} {v:Value} {xs:List Value} (h:w.ownsRow base E size v n xs) (hb:Below w.heap.size w w'):w'.ownsRow base E size v n xs:=by
 refine ⟨h.1,?_⟩
 rcases h.2 with h2 | ⟨g,cap,cur,hv,hg,hh,r⟩
 ·exact .inl h2
 ·exact .inr ⟨g,cap,cur,hv,hg,by rw [hb.block g (Array.getElem?_eq_some_iff.1 hh).1];exact hh,r⟩
theorem fO {w:World} {base:Nat} {E:Nat} {v:Value} {n:Nat} {cs:List Cl} (h:w.ownsRow base E 3 v n (flat cs)) :
  n=cs.length∧∃ a cap,v = .slice a n cap∧eZ w a cs∧∀ ad,a=some ad→base≤ad.block∧ad.off=0∧ad.block < w.heap.size:=by
 have hl:=h.1
 rw [nZ] at hl
 have hn:n=cs.length:=by omega
 refine ⟨hn,?_⟩
 rcases h.2 with ⟨rfl,h0⟩ | ⟨g,cap,cur,rfl,hg,hh,hnc,hcm,hcs,ht⟩
 ·subst h0
  have:cs=[]:=List.length_eq_zero_iff.1 hn.symm
  exact ⟨none,0,rfl,.inl this,fun ad e=>by cases e⟩
 ·refine ⟨some ⟨g,0,none⟩,cap,rfl,.inr ⟨g,0,rfl,fun i c hi=>?_⟩,fun ad e=>by cases e;exact ⟨hg,rfl,(Array.getElem?_eq_some_iff.1 hh).1⟩⟩
  obtain ⟨f0,f1,f2⟩:=pP hi
  have hi2:i < cs.length:=(List.getElem?_eq_some_iff.1 hi).1
  have c0:=h.cellAt (i * 3) (by omega)
  have c1:=h.cellAt (i * 3+1) (by omega)
  have c2:=h.cellAt (i * 3+2) (by omega)
  rw [Nat.zero_add]
  exact ⟨c0.trans f0,c1.trans f1,c2.trans f2⟩
def kF (cs:List Cl) (err:Int) (w:World) (e:Ending) (w':World):Prop :=
 ∃ a cap,e = .returned (.tuple #[.slice a cs.length cap,.int .i64 err])∧eZ w' a cs∧(∀ ad,a=some ad→w.heap.size≤ad.block∧ad.block < w'.heap.size)∧Below w.heap.size w w'
theorem pQ (err:Int) {w w':World} (hb:Below w.heap.size w w'):kF [] err w (.returned (.tuple #[.slice none 0 0,.int .i64 err])) w' :=
 ⟨none,0,rfl,.inl rfl,(fun ad e=>by cases e),hb⟩
theorem Fw {cs:List Cl} {w w':World} {E:Nat} {v:Value} {n:Nat} (h:w'.ownsRow w.heap.size E 3 v n (flat cs)) (hb:Below w.heap.size w w') (err:Int):kF cs err w (.returned (.tuple #[v,.int .i64 err])) w':=by
 obtain ⟨rfl,a,cap,rfl,hr,hf⟩:=fO h
 exact ⟨a,cap,rfl,hr,fun ad e=>⟨(hf ad e).1,(hf ad e).2.2⟩,hb⟩
def xA (cs:List Cl) (w:World) (e:Ending) (w':World):Prop :=
 ∃ v,e = .returned v∧w'.ownsRow w.heap.size 105 3 v cs.length (flat cs)∧Below w.heap.size w w'
theorem Uf:(prog.info? 105).map (fun i=>(i.zero,i.size,i.bytes))=some (some (.agg #[.int .u64 0,.int .i64 0,.int .i64 0]),3,24):=by kernel_rfl
def dC (xs ys:List Cl):List Cl:=List.zipWith join xs ys
theorem okAt_ok {n:Nat} {c:Cl} (hf:c.f < 18446744073709551616) (h:jV n c=true):c.ok:=by
 unfold jV lY at h
 simp only [Bool.and_eq_true] at h
 exact ⟨hf,h.2⟩
theorem mW {d:Int} {cs:List Cl} (h:lZ d cs=0):0≤d∧d≤64∧(cs.length:Int)=d∧cs.all (jV d.toNat)=true:=by
 unfold lZ at h
 split at h
 ·omega
 ·split at h
  ·omega
  ·cases hz:cs.all (jV d.toNat)<;>rw [hz] at h<;>simp at h
   exact ⟨by omega,by omega,by omega,rfl⟩
theorem Al {d:Int} {xs ys:List Cl} (h:nX d xs ys=0):lZ d xs=0∧lZ d ys=0:=by
 unfold nX at h
 split at h
 ·exact ⟨by assumption,h⟩
 ·exact absurd h (by assumption)
theorem Fx {n:Nat} {cs:List Cl} (hb:pM cs) (h:cs.all (jV n)=true) {i:Nat} {c:Cl} (hi:cs[i]?=some c):c.ok:=by
 rw [List.all_eq_true] at h
 exact okAt_ok (hb c (List.mem_of_getElem? hi)) (h c (List.mem_of_getElem? hi))
theorem Ug {xs ys:List Cl} {k:Nat} {x y:Cl} (hx:xs[k]?=some x) (hy:ys[k]?=some y):(dC xs ys).take (k+1)=(dC xs ys).take k++[join x y]:=by
 have h:(dC xs ys)[k]?=some (join x y):=by simp [dC,List.getElem?_zipWith,hx,hy]
 obtain ⟨hk,e⟩:=List.getElem?_eq_some_iff.1 h
 rw [List.take_succ_eq_append_getElem hk,e]
def tI (d:Int) (xs ys:List Cl):List Cl:=if nX d xs ys=0 then dC xs ys else []
theorem Dn (x y z:Cl) (hx:x.ok) (hy:y.ok) (hz:join x y=z) (w:World):Calls prog 171 #[x.val,y.val] w fun e w'=>e = .returned z.val∧Below w.heap.size w w':=by
 subst hz;exact Lf x y hx hy w
theorem Lv {w:World} {b off:Nat} {cs:List Cl} (h:∀ i c,cs[i]?=some c→w.cell? ⟨b,off+i * 3,none⟩=some (.int .u64 (c.f:Int))∧w.cell? ⟨b,off+i * 3+1,none⟩=some (.int .i64 c.k)∧w.cell? ⟨b,off+i * 3+2,none⟩=some (.int .i64 c.v)) :
  ∀ j u,(flat cs)[j]?=some u→w.cell? ((⟨b,off,none⟩:Addr).add j)=some u:=by
 intro j u hj
 have hlt:j < cs.length * 3:=by rw [← nZ];exact (List.getElem?_eq_some_iff.1 hj).1
 obtain ⟨i,r,hr,rfl⟩:∃ i r,r < 3∧j=i * 3+r:=⟨j / 3,j % 3,by omega,by omega⟩
 have hi:i < cs.length:=by omega
 obtain ⟨h0,h1,h2⟩:=h i cs[i] (List.getElem?_eq_getElem hi)
 obtain ⟨f0,f1,f2⟩:=pP (List.getElem?_eq_getElem hi)
 have e:((⟨b,off,none⟩:Addr).add (i * 3+r))=⟨b,off+(i * 3+r),none⟩:=by
  simp only [Addr.add];split<;>simp_all
 rw [e]
 match r,hr with
 | 0,_=>rw [Nat.add_zero] at hj ⊢;rw [f0] at hj;rw [h0];exact hj
 | 1,_=>rw [f1] at hj;rw [← Nat.add_assoc,h1];exact hj
 | 2,_=>rw [f2] at hj;rw [← Nat.add_assoc,h2];exact hj
theorem Ql {w:World} {ad:Addr} {cs:List Cl} (h:eZ w (some ad) cs):∀ j u,(flat cs)[j]?=some u→w.cell? (ad.add j)=some u:=by
 rcases h with h | ⟨b,off,e,hc⟩
 ·subst h;intro j u hj;simp [flat] at hj
 ·cases e;exact Lv hc
theorem Uh (cs:List Cl):∀ u∈flat cs,u.oneCell'=true:=by
 intro u hu
 simp only [flat,List.mem_flatMap,vals] at hu
 obtain ⟨c,_,hu⟩:=hu
 simp at hu
 rcases hu with rfl | rfl | rfl<;>rfl
set_option maxHeartbeats 1000000 in
theorem Do (a:Option Addr) (cap:Nat) (cs:List Cl) (w:World) (hm:cs.length≤64) (hrow:eZ w a cs) :
  Calls prog 158 #[.slice a cs.length cap] w (xA cs w):=by
 obtain ⟨i0,hi,hz0,hz1,hz2⟩:=info_parts Uf
 have q22:∀ (w:World) (a:Option Addr) (n c n' c':Nat),(binOp .eql 41 (.slice a n c) (.slice none n' c')).run prog w = .ok (.bool a.isNone) w:=fun w a n c n' c'=>Lib.run_eql_slice_nil w _ _ a n c n' c' underlying41
 cases a with
 | none =>
  have hcs:cs=[]:=by
   rcases hrow with h | ⟨b,off,e,_⟩
   ·exact h
   ·cases e
  subst hcs
  clear hrow
  go_enter func158,ntmps158
  go_wp2
  go_ret
  exact ⟨_,rfl,World.ownsRow_nil _ _ _ _,Below.refl _ _⟩
 | some ad =>
  have HN:=Lib.hid (fun (o:Obj)=>Ql (hrow.below ((Below.refl _ w).alloc (Nat.le_refl _) o)))
  have hown:(w.alloc (.cells #[] 105)).ownsRow w.heap.size 105 3 (.slice (some ⟨w.heap.size,0,none⟩) 0 0) 0 []:=World.ownsRow_lit w #[] 0 (Nat.le_refl _) (by simp) rfl
  have HO:=Lib.hid hown
  clear hrow hown
  go_enter func158,ntmps158
  go_wp2_with (at_builtin;refine wpList_append_own _ rfl (.tmp 5) (.tmp 6) 41 rfl w.heap.size 105 i0 _ 3 24 underlying41 hi hz0 hz1 hz2 rfl (by decide) _ _ _ rfl HO.out ad cs.length cap (flat cs) rfl (nZ cs) (HN.out _) (Uh cs) (by unfold maxLen;omega) (by omega) (by simp) ?_;intro v' w2 hown2 hgrow hnil)
  go_ret
  refine ⟨v',rfl,by simpa using hown2,?_⟩
  exact ((Below.refl _ _).alloc (Nat.le_refl _) _).grown hgrow (by simp) (fun j e=>by cases e;exact Nat.le_refl _)
theorem Am {w:World} {base g n cap k:Nat} {E:Nat} {cs:List Cl} (h:w.ownsRow base E 3 (.slice (some ⟨g,0,none⟩) n cap) n (flat cs)) (hk:k < cs.length) (z:Cl) :
  (((w.setCell ⟨g,k * 3,none⟩ (.int .u64 (z.f:Int))).setCell ⟨g,k * 3+1,none⟩ (.int .i64 z.k)).setCell ⟨g,k * 3+2,none⟩ (.int .i64 z.v)).ownsRow base E 3 (.slice (some ⟨g,0,none⟩) n cap) n (flat (cs.set k z)):=by
 rw [← Ia cs k z hk]
 exact ((((h.stored (k * 3) _).1.stored (k * 3+1) _).1.stored (k * 3+2) _).1)
theorem Ui {xs ys:List Cl} {k:Nat} {x y z:Cl} (hx:xs[k]?=some x) (hy:ys[k]?=some y) (hz:join x y=z):(((dC xs ys).take k++xs.drop k).set k z)=(dC xs ys).take (k+1)++xs.drop (k+1):=by
 obtain ⟨hk,ex⟩:=List.getElem?_eq_some_iff.1 hx
 obtain ⟨hk2,ey⟩:=List.getElem?_eq_some_iff.1 hy
 have hl:((dC xs ys).take k).length=k:=by simp [dC];omega
 rw [Ug hx hy,hz,List.set_append_right _ _ (by omega),hl,Nat.sub_self,List.drop_eq_getElem_cons hk,List.set_cons_zero,List.append_assoc]
 rfl
theorem mix_at {xs ys:List Cl} {k:Nat} {x y:Cl} (hx:xs[k]?=some x) (hy:ys[k]?=some y):((dC xs ys).take k++xs.drop k)[k]?=some x:=by
 obtain ⟨hk,ex⟩:=List.getElem?_eq_some_iff.1 hx
 obtain ⟨hk2,ey⟩:=List.getElem?_eq_some_iff.1 hy
 have hl:((dC xs ys).take k).length=k:=by simp [dC];omega
 rw [List.getElem?_append_right (by omega),hl,Nat.sub_self,List.getElem?_drop,Nat.add_zero,hx]
theorem mix_len {xs ys:List Cl} {k:Nat} (hl:ys.length=xs.length) (hk:k≤xs.length):((dC xs ys).take k++xs.drop k).length=xs.length:=by simp [dC];omega
set_option maxHeartbeats 2000000 in
theorem Uj (a b:Option Addr) (capa capb:Nat) (xs ys:List Cl) (w:World) (hm:xs.length≤64) (hl:ys.length=xs.length) (hra:eZ w a xs) (hrb:eZ w b ys) (hoa:∀ (i:Nat) c,xs[i]?=some c→c.ok) (hob:∀ (i:Nat) c,ys[i]?=some c→c.ok) :
  Calls prog 164 #[.slice a xs.length capa,.slice b ys.length capb] w (xA (dC xs ys) w):=by
 have HRA:=Lib.hid hra;have HRB:=Lib.hid hrb;have HOA:=Lib.hid hoa;have HOB:=Lib.hid hob;have HL:=Lib.hid hl
 have g1:ys.length≤xs.length:=by omega
 have g2:xs.length≤ys.length:=by omega
 clear hra hrb hoa hob hl
 go_enter func164,ntmps164
 go_wp2_with fail
 refine (Do a capa xs _ hm HRA.out).mono ?_
 rintro e w1 ⟨v,rfl,hown1,hb1⟩
 have HO1:=Lib.hid hown1
 clear hown1
 go_wp2_with fail
 go_loopw [12] (fun i wr=>∃ k:Nat,k≤xs.length∧i = .int .i64 k∧Hid (wr.ownsRow w.heap.size 105 3 v xs.length (flat ((dC xs ys).take k++xs.drop k)))∧Below w.heap.size w wr) (fun i _=>xs.length - (intOf i).toNat)
 case atStart=>exact ⟨0,Nat.zero_le _,rfl,HO1.out,hb1⟩
 case round =>
  obtain ⟨k,hk,rfl,HO,hb⟩:=hrel
  by_cases hlt:k < xs.length
  ·obtain ⟨bb,offb,y,rfl,hy,hbb,b0,b1,b2⟩:=HRB.out.at_ (show k < ys.length by omega)
   obtain ⟨x,hx⟩:∃ x,xs[k]?=some x:=⟨_,List.getElem?_eq_getElem hlt⟩
   have c0:=(hb.cell (p:=⟨bb,offb+k * 3,none⟩) hbb).trans b0
   have c1:=(hb.cell (p:=⟨bb,offb+k * 3+1,none⟩) hbb).trans b1
   have c2:=(hb.cell (p:=⟨bb,offb+k * 3+2,none⟩) hbb).trans b2
   clear b0 b1 b2
   obtain ⟨z,hz⟩:∃ z,join x y=z:=⟨_,rfl⟩
   have OX:=Lib.hid (HOA.out k x hx)
   have OY:=Lib.hid (HOB.out k y hy)
   have HJ:=Lib.hid hz
   have HM:=Lib.hid (Ui hx hy hz)
   have HA:=Lib.hid (mix_at hx hy)
   have HLEN:=Lib.hid (mix_len HL.out hk)
   clear hx hy hz
   obtain ⟨g,capg,hv,hbg,hgl⟩:=HO.out.form (show 0 < xs.length by omega)
   subst hv
   obtain ⟨f0,f1,f2⟩:=pP HA.out
   have d0:=(HO.out.cellAt (k * 3) (by omega)).trans f0
   have d1:=(HO.out.cellAt (k * 3+1) (by omega)).trans f1
   have d2:=(HO.out.cellAt (k * 3+2) (by omega)).trans f2
   have F0:=Lib.hid f0;have F1:=Lib.hid f1;have F2:=Lib.hid f2
   clear f0 f1 f2
   have g0:(0:Int)≤(k:Int):=by omega
   have g3:(k:Int) < (xs.length:Int):=by omega
   have g4:(k:Int) < (ys.length:Int):=by omega
   go_wp2_with fail
   go_region_with (go_at_call 171;refine (Dn x y z OX.out OY.out HJ.out _).mono ?_;rintro e w3 ⟨rfl,hb3⟩;have hB3:Below wr.heap.size wr w3:=Below.trans (by repeat (first | exact Below.refl _ _ | refine Below.drew ?_ | refine Below.alloc ?_ (Nat.le_refl _) _)) (hb3.mono (by simp));have o3:=Dm HO.out hB3;have e0:=(o3.cellAt (k * 3) (by omega)).trans F0.out;have e1:=(o3.cellAt (k * 3+1) (by omega)).trans F1.out;have e2:=(o3.cellAt (k * 3+2) (by omega)).trans F2.out;have q0:=o3.frozenAt (k * 3);have q1:=o3.frozenAt (k * 3+1);have q2:=o3.frozenAt (k * 3+2);have O3:=Lib.hid o3;clear o3)
   all_goals
    have HS:=Lib.hid (Am O3.out (by rw [HLEN.out];exact hlt) z)
    rw [HM.out] at HS
    have HB:Hid (Below w.heap.size w (((w3.setCell ⟨g,k * 3,none⟩ (.int .u64 (z.f:Int))).setCell ⟨g,k * 3+1,none⟩ (.int .i64 z.k)).setCell ⟨g,k * 3+2,none⟩ (.int .i64 z.v))):=(((hb.trans (hB3.mono hb.size)).setCell (p:=⟨g,k * 3,none⟩) hbg _).setCell (p:=⟨g,k * 3+1,none⟩) hbg _).setCell (p:=⟨g,k * 3+2,none⟩) hbg _
    clear e0 e1 e2 q0 q1 q2 O3
    go_wp2
    go_roundw
    case rel=>exact ⟨k+1,by omega,by go_num,HS,HB.out⟩
    case measure=>simp [intOf];omega
  ·obtain rfl:k=xs.length:=by omega
   have HE:Hid (wr.ownsRow w.heap.size 105 3 v (dC xs ys).length (flat (dC xs ys))):=by
    have h:=HO.out
    have hlen:(dC xs ys).length=xs.length:=by simp [dC,HL.out]
    rw [List.take_of_length_le (by omega),List.drop_of_length_le (Nat.le_refl _),List.append_nil] at h
    rw [hlen];exact h
   go_wp2
   go_ret
   exact ⟨v,rfl,HE.out,hb⟩
theorem both_ok {d:Int} {xs ys:List Cl} (h:nX d xs ys=0) (hx:pM xs) (hy:pM ys) :
  xs.length≤64∧ys.length=xs.length∧(∀ (i:Nat) c,xs[i]?=some c→c.ok)∧(∀ (i:Nat) c,ys[i]?=some c→c.ok):=by
 obtain ⟨k1,k2⟩:=Al h
 obtain ⟨d0,d1,la,oka⟩:=mW k1
 obtain ⟨_,_,lb,okb⟩:=mW k2
 exact ⟨by omega,by omega,fun i c hi=>Fx hx oka hi,fun i c hi=>Fx hy okb hi⟩
theorem Qm (d:Int) (a b:Option Addr) (capa capb:Nat) (xs ys:List Cl) (w:World) (hma:xs.length≤maxLen) (hmb:ys.length≤maxLen) (hra:eZ w a xs) (hrb:eZ w b ys) (hba:pM xs) (hbb:pM ys) (c:Int) (hc:nX d xs ys=c) :
  Calls prog 140 #[.int .i64 d,.slice a xs.length capa,.slice b ys.length capb] w (kF (tI d xs ys) c w):=by
 have HMA:=Lib.hid hma;have HMB:=Lib.hid hmb;have HRA:=Lib.hid hra;have HRB:=Lib.hid hrb;have HBA:=Lib.hid hba;have HBB:=Lib.hid hbb
 have HC:=Lib.hid hc
 clear hma hmb hra hrb hba hbb
 by_cases h0:c=0
 ·subst h0
  obtain ⟨k1,k2,k3,k4⟩:=both_ok hc HBA.out HBB.out
  have K2:=Lib.hid k2;have K3:=Lib.hid k3;have K4:=Lib.hid k4
  have HR:=Lib.hid (show tI d xs ys=dC xs ys by simp [tI,hc])
  clear hc k2 k3 k4
  go_enter func140,ntmps140
  go_wp2_with fail
  refine (lJ _ a b capa capb xs ys _ HMA.out HMB.out HRA.out HRB.out HBA.out HBB.out 0 HC.out).mono ?_
  rintro e w1 ⟨rfl,hb1⟩
  go_wp2_with fail
  refine (Uj a b capa capb xs ys _ k1 K2.out (HRA.out.below hb1) (HRB.out.below hb1) K3.out K4.out).mono ?_
  rintro e w2 ⟨v,rfl,hown,hb2⟩
  have HO:=Lib.hid hown
  clear hown
  go_wp2
  go_ret2
  rw [HR.out]
  obtain ⟨_,a2,cap2,rfl,hr2,hf2⟩:=fO HO.out
  exact ⟨a2,cap2,rfl,hr2,fun ad e=>⟨Nat.le_trans hb1.size (hf2 ad e).1,(hf2 ad e).2.2⟩,hb1.trans (hb2.mono hb1.size)⟩
 ·have HR:=Lib.hid (show tI d xs ys=[] by simp [tI,hc,h0])
  have hne:(c != 0)=true:=by simpa using h0
  clear hc h0
  go_enter func140,ntmps140
  go_wp2_with fail
  refine (lJ _ a b capa capb xs ys _ HMA.out HMB.out HRA.out HRB.out HBA.out HBB.out c HC.out).mono ?_
  rintro e w1 ⟨rfl,hb1⟩
  go_wp2
  go_ret2
  rw [HR.out]
  exact pQ c hb1
def lE (x y:Cl):Bool:=decide (x.f=y.f) && decide (x.k=y.k) && decide (x.v=y.v)
theorem sR {x y:Cl}:lE x y=true↔x=y:=by
 obtain ⟨f,k,v⟩:=x;obtain ⟨f2,k2,v2⟩:=y
 simp [lE,and_assoc]
def xW (xs ys:List Cl):Bool:=if xs.length=ys.length then (List.range xs.length).all fun i=>match xs[i]?,ys[i]? with | some x,some y=>lE x y | _,_=>true else false
theorem oU {xs ys:List Cl}:xW xs ys=true↔xs=ys:=by
 unfold xW
 split
 ·rename_i hl
  rw [List.all_eq_true]
  constructor
  ·intro h
   apply List.ext_getElem?
   intro i
   by_cases hi:i < xs.length
   ·have:=h i (List.mem_range.2 hi)
    rw [List.getElem?_eq_getElem hi,List.getElem?_eq_getElem (hl▸hi)] at this ⊢
    simp only at this
    rw [sR.1 this]
   ·rw [List.getElem?_eq_none (by omega),List.getElem?_eq_none (by omega)]
  ·rintro rfl i hi
   have hi:=List.mem_range.1 hi
   rw [List.getElem?_eq_getElem hi]
   exact sR.2 rfl
 ·rename_i hl
  simp
  intro e;exact hl (by rw [e])
theorem Lw {xs ys:List Cl} {k:Nat} {x y:Cl} (hl:xs.length=ys.length) (hk:k < xs.length) (hx:xs[k]?=some x) (hy:ys[k]?=some y) (h:lE x y=false):xW xs ys=false:=by
 cases hs:xW xs ys
 ·rfl
 ·rw [oU] at hs
  subst hs
  rw [hx] at hy
  cases hy
  rw [sR.2 rfl] at h;cases h
theorem Fy (f f2:Nat) (k k2 v v2:Int) (w:World) :
  (binOp .neq 105 (.agg #[.int .u64 (f:Int),.int .i64 k,.int .i64 v]) (.agg #[.int .u64 (f2:Int),.int .i64 k2,.int .i64 v2])).run prog w = .ok (.bool (!lE ⟨f,k,v⟩ ⟨f2,k2,v2⟩)) w:=by
 by_cases h1:f=f2
 ·subst h1
  by_cases h2:k=k2
  ·subst h2
   by_cases h3:v=v2
   ·subst h3
    simp [lE,go_sem]
   ·have h3':(v == v2)=false:=by simp [h3]
    simp [lE,go_sem,h3]
  ·simp [lE,go_sem,h2]
 ·simp [lE,go_sem,h1]
  intro h;omega
theorem Lx (x y:Cl) (s:Bool) (h:lE x y=s) (w:World):(binOp .neq 105 x.val y.val).run prog w = .ok (.bool (!s)) w:=by
 subst h;exact Fy _ _ _ _ _ _ w
set_option maxHeartbeats 2000000 in
theorem Qn (a b:Option Addr) (capa capb:Nat) (xs ys:List Cl) (w:World) (hm:xs.length≤maxLen) (hmb:ys.length≤maxLen) (hra:eZ w a xs) (hrb:eZ w b ys) (s:Bool) (hs:xW xs ys=s) :
  Calls prog 124 #[.slice a xs.length capa,.slice b ys.length capb] w fun e w'=>e = .returned (.bool s)∧Below w.heap.size w w':=by
 unfold maxLen at hm hmb
 have HRA:=Lib.hid hra;have HRB:=Lib.hid hrb;have HS:=Lib.hid hs
 clear hra hrb hs
 by_cases hl:xs.length=ys.length
 ·have g1:xs.length≤ys.length:=by omega
  have g2:ys.length≤xs.length:=by omega
  have hne:((xs.length:Int) != (ys.length:Int))=false:=by simp;omega
  have HL:=Lib.hid hl
  clear hl
  go_enter func124,ntmps124
  go_wp2
  go_loopw [13] (fun i wr=>∃ k:Nat,k≤xs.length∧i = .int .i64 k∧Hid (∀ (j:Nat) x y,j < k→xs[j]?=some x→ys[j]?=some y→x=y)∧Below w.heap.size w wr) (fun i _=>xs.length - (intOf i).toNat)
  case atStart=>exact ⟨0,Nat.zero_le _,rfl,(fun j x y h=>by omega),Below.refl _ _⟩
  case round =>
   obtain ⟨k,hk,rfl,HE,hb⟩:=hrel
   by_cases hlt:k < xs.length
   ·obtain ⟨ba,offa,x,rfl,hx,hba,a0,a1,a2⟩:=(HRA.out.below hb).at_ hlt
    obtain ⟨bb,offb,y,rfl,hy,hbb,b0,b1,b2⟩:=(HRB.out.below hb).at_ (show k < ys.length by omega)
    have g0:(0:Int)≤(k:Int):=by omega
    have g3:(k:Int) < (xs.length:Int):=by omega
    have g4:(k:Int) < (ys.length:Int):=by omega
    cases hxy:lE x y
    ·have hq:∀ W,(binOp .neq 105 (.agg #[.int .u64 (x.f:Int),.int .i64 x.k,.int .i64 x.v]) (.agg #[.int .u64 (y.f:Int),.int .i64 y.k,.int .i64 y.v])).run prog W = .ok (.bool true) W:=fun W=>Lx x y false hxy W
     have HT:Hid (s=false):=HS.out.symm.trans (Lw HL.out hlt hx hy hxy)
     clear hx hy hxy
     go_wp2
     go_quiet (fail)
     go_wp2
     go_ret
     exact ⟨kA HT.out.symm,below_drewN hb _⟩
    ·have hq:∀ W,(binOp .neq 105 (.agg #[.int .u64 (x.f:Int),.int .i64 x.k,.int .i64 x.v]) (.agg #[.int .u64 (y.f:Int),.int .i64 y.k,.int .i64 y.v])).run prog W = .ok (.bool false) W:=fun W=>Lx x y true hxy W
     have HE2:Hid (∀ (j:Nat) x y,j < k+1→xs[j]?=some x→ys[j]?=some y→x=y):=by
      intro j x' y' hj h1 h2
      by_cases e:j=k
      ·subst e
       rw [hx] at h1;rw [hy] at h2
       cases h1;cases h2
       exact sR.1 hxy
      ·exact HE.out j x' y' (by omega) h1 h2
     clear hx hy hxy
     go_wp2
     go_quiet (fail)
     go_wp2
     go_roundw
     case rel=>exact ⟨k+1,by omega,by go_num,HE2,below_drewN hb _⟩
     case measure=>simp [intOf];omega
   ·have HT:Hid (s=true):=by
     show s=true
     rw [← HS.out,oU]
     apply List.ext_getElem?
     intro i
     by_cases hi:i < xs.length
     ·have h1:=List.getElem?_eq_getElem hi
      have h2:=List.getElem?_eq_getElem (show i < ys.length by omega)
      rw [h1,h2,HE.out i _ _ (by omega) h1 h2]
     ·rw [List.getElem?_eq_none (by omega),List.getElem?_eq_none (by omega)]
    go_wp2
    go_ret
    exact ⟨kA HT.out.symm,hb⟩
 ·have HT:Hid (s=false):=by
   show s=false
   rw [← HS.out];simp [xW,hl]
  have hne:((xs.length:Int) != (ys.length:Int))=true:=by simp;omega
  clear hl
  go_enter func124,ntmps124
  go_wp2
  go_ret
  exact ⟨kA HT.out.symm,Below.refl _ _⟩
def kG (row:List Cl) (c:Cl) (out:Cl) (i:Nat):Cl:=if c.f.testBit i then (match row[i]? with | some a=>join out a | none=>out) else out
def iF (row:List Cl) (c:Cl) (n:Nat):Cl:=(List.range n).foldl (kG row c) ⟨0,c.k,c.v⟩
def ofC (row:List Cl) (c:Cl):Cl:=iF row c row.length
theorem gA (row:List Cl) (c:Cl) (n:Nat):iF row c (n+1)=kG row c (iF row c n) n:=by
 simp [iF,List.range_succ]
theorem An {row:List Cl} {c x:Cl} {n:Nat} (hb:c.f.testBit n=true) (hx:row[n]?=some x):iF row c (n+1)=join (iF row c n) x:=by
 rw [gA,kG,if_pos hb,hx]
theorem Fz {row:List Cl} {c:Cl} {n:Nat} (hb:c.f.testBit n=false):iF row c (n+1)=iF row c n:=by
 rw [gA,kG,if_neg (by rw [hb];simp)]
theorem mX {row:List Cl} {c:Cl} {k:Nat}:∀ {n:Nat},k≤n→(∀ i,k≤i→i < n→c.f.testBit i=false)→iF row c n=iF row c k
 | 0,h,_=>by
  obtain rfl:k=0:=by omega
  rfl
 | n+1,h,hb=>by
  by_cases e:k=n+1
  ·subst e;rfl
  ·rw [Fz (hb n (by omega) (by omega))]
   exact mX (by omega) (fun i h1 h2=>hb i h1 (by omega))
theorem rJ {f:Nat} {k v:Int} (h:eC f k v=true):eC 0 k v=true:=by
 unfold eC at *
 split
 ·rw [if_pos (by assumption)] at h;exact h
 ·rw [if_neg (by assumption)] at h
  split
  ·rfl
  ·rw [if_neg (by assumption)] at h
   split
   ·rw [if_pos (by assumption)] at h;simp at h ⊢;exact h.1
   ·rw [if_neg (by assumption)] at h;cases h
theorem oB {a b:Cl} (ha:a.ok) (hb:b.ok):(join a b).ok:=by
 obtain ⟨f,k,v⟩:=a
 obtain ⟨f2,k2,v2⟩:=b
 obtain ⟨hf,hk⟩:=ha
 obtain ⟨hf2,hk2⟩:=hb
 simp only at hf hk hf2 hk2
 have hor:f ||| f2 < 18446744073709551616:=Nat.or_lt_two_pow (n:=64) hf hf2
 refine ⟨?_,?_⟩
 ·show (if joinK k v k2 v2=2 then 0 else f ||| f2) < _
  split<;>omega
 ·show eC (if joinK k v k2 v2=2 then 0 else f ||| f2) (joinK k v k2 v2) (dU k v k2 v2)=true
  rcases lC hk with ⟨rfl,rfl⟩ | rfl | ⟨rfl,rfl⟩<;>rcases lC hk2 with ⟨rfl,rfl⟩ | rfl | ⟨rfl,rfl⟩
  all_goals (try (simp [joinK,dU,eC];done))
  by_cases hv:v=v2<;>simp [joinK,dU,eC,hv]
theorem kH {row:List Cl} {c:Cl} (hc:c.ok) (hr:∀ (i:Nat) x,row[i]?=some x→x.ok):∀ n,(iF row c n).ok
 | 0=>⟨by simp [iF],rJ hc.2⟩
 | n+1=>by
  rw [gA,kG]
  split
  ·split
   ·rename_i a h;exact oB (kH hc hr n) (hr n a h)
   ·exact kH hc hr n
  ·exact kH hc hr n
theorem rK {w:World} {B:Nat} {a b c:Value} {T:Nat} (h:w.heap[B]?=some (.cells #[a,b,c] T (0,0))) :
  w.cell? ⟨B,0,none⟩=some a∧w.cell? ⟨B,1,none⟩=some b∧w.cell? ⟨B,2,none⟩=some c∧(∀ j,w.frozen? ⟨B,j,none⟩=false):=by
 refine ⟨by simp [World.cell?,h],by simp [World.cell?,h],by simp [World.cell?,h],fun j=>by simp [World.frozen?,h]⟩
theorem Qo {w:World} {B:Nat} {a b c a' b' c':Value} {T:Nat} (h:w.heap[B]?=some (.cells #[a,b,c] T (0,0))) :
  (((w.setCell ⟨B,0,none⟩ a').setCell ⟨B,1,none⟩ b').setCell ⟨B,2,none⟩ c').heap[B]?=some (.cells #[a',b',c'] T (0,0)):=by
 simp [World.setCell,Array.getElem?_modify,h]
theorem Ib {w:World} {B D:Nat} {o:Option Obj} {a' b' c':Value} (hne:D≠B) (h:w.heap[D]?=o) :
  (((w.setCell ⟨B,0,none⟩ a').setCell ⟨B,1,none⟩ b').setCell ⟨B,2,none⟩ c').heap[D]?=o:=by
 rw [Below.heap_setCell _ _ _ _ hne,Below.heap_setCell _ _ _ _ hne,Below.heap_setCell _ _ _ _ hne,h]
theorem Uk {w:World} {B:Nat} {o:Obj} (h:w.heap[B]?=some o):B < w.heap.size:=(Array.getElem?_eq_some_iff.1 h).1
theorem xX {w w':World} {B:Nat} {o:Obj} (h:w.heap[B]?=some o) (hb:Below w.heap.size w w'):w'.heap[B]?=some o:=(hb.block B (Uk h)).trans h
theorem Ul (a b:Nat) (ha:a < 18446744073709551616) (hb:b < 18446744073709551616):bits .and .u64 (a:Int) (b:Int)=((a &&& b:Nat):Int):=bits_and_u64_nat a b ha hb
set_option maxHeartbeats 2000000 in
theorem Qp (a:Option Addr) (cap:Nat) (row:List Cl) (c:Cl) (w:World) (ht:Tabs w) (hm:row.length≤64) (hra:eZ w a row) (hok:∀ (i:Nat) x,row[i]?=some x→x.ok) (hc:c.ok) (hin:∀ i,c.f.testBit i=true→i < row.length) (z:Cl) (hz:ofC row c=z) :
  Calls prog 174 #[c.val,.slice a row.length cap] w fun e w'=>e = .returned z.val∧Below w.heap.size w w':=by
 have HT:=Lib.hid ht
 have HRA:=Lib.hid hra;have HOK:=Lib.hid hok;have HC:=Lib.hid hc;have HZ:=Lib.hid hz;have HIN:=Lib.hid hin
 have hf:=hc.1
 clear hra hok hc hz ht hin
 go_enter func174,ntmps174
 go_wp2_with fail
 refine (gP _ _ _ _).mono ?_
 rintro e w1 ⟨rfl,rfl⟩
 go_wp2_with fail
 go_loopw [6] (fun i wr=>∃ (k x:Nat) (o:Cl),k≤row.length∧x < 18446744073709551616∧i = .int .u64 x∧Hid (∀ i,x.testBit i=(c.f.testBit i && decide (k≤i)))∧Hid (iF row c k=o)∧Hid (wr.heap[w.heap.size+1]?=some (.cells #[.int .u64 0,.int .i64 0,.int .i64 0] 105 (0,0)))∧Hid (wr.heap[w.heap.size+1+1+1+1]?=some (.cells #[.int .u64 (o.f:Int),.int .i64 o.k,.int .i64 o.v] 105 (0,0)))∧Below w.heap.size w wr) (fun i _=>(intOf i).toNat)
 case atStart =>
  refine ⟨0,c.f,⟨0,c.k,c.v⟩,Nat.zero_le _,hf,rfl,(fun i=>by simp),rfl,?_,?_,((((((Below.refl _ _).alloc (Nat.le_refl _) _).alloc (by simp) _).alloc (by simp;omega) _).alloc (by simp;omega) _).alloc (by simp;omega) _)⟩
  ·show _=_
   rw [heap_alloc_old _ _ (by simp),heap_alloc_old _ _ (by simp),heap_alloc_old _ _ (by simp),show w.heap.size+1=(w.alloc (.cells #[.int .u64 (c.f:Int),.int .i64 c.k,.int .i64 c.v] 105)).heap.size by simp,heap_alloc_new]
  ·show _=_
   rw [show w.heap.size+1+1+1+1=((((w.alloc (.cells #[.int .u64 (c.f:Int),.int .i64 c.k,.int .i64 c.v] 105)).alloc (.cells #[.int .u64 0,.int .i64 0,.int .i64 0] 105)).alloc (.cells #[.int .u64 0,.int .i64 c.k,.int .i64 c.v] 105)).alloc (.cells #[.int .u64 0,.int .i64 c.k,.int .i64 c.v] 105)).heap.size by simp,heap_alloc_new]
   rfl
 case round =>
  obtain ⟨k,x,o,hk,hx64,rfl,HX,HO,B1,B2,hb⟩:=hrel
  obtain ⟨o0,o1,o2,of⟩:=rK B2.out
  have o4:=of 0;have o5:=of 1;have o6:=of 2
  clear of
  by_cases hx0:x=0
  ·have hall:∀ i,k≤i→i < row.length→c.f.testBit i=false:=fun i h1 _=>by
    have:=HX.out i
    rw [hx0,Nat.zero_testBit] at this
    simp [h1] at this
    exact this
   have HE:Hid (o=z):=by show o=z;rw [← HO.out,← HZ.out];exact (mX hk hall).symm
   have hx00:(x:Int)=0:=by omega
   subst hx0
   obtain ⟨d0,d1,d2,df⟩:=rK B1.out
   have d4:=df 0;have d5:=df 1;have d6:=df 2
   clear df hx00 hall
   go_wp2
   refine bodyPost_ret (v:=.agg #[.int .u64 (o.f:Int),.int .i64 o.k,.int .i64 o.v]) ?_ rfl ⟨by rw [HE.out],?_⟩
   ·simp [results,results174,go_sem,d0,d1,d2]
   ·exact (((hb.setCell (p:=⟨w.heap.size+1,0,none⟩) (by simp) _).setCell (p:=⟨w.heap.size+1,1,none⟩) (by simp) _).setCell (p:=⟨w.heap.size+1,2,none⟩) (by simp) _)
  ·obtain ⟨j,hj⟩:∃ j,Lib.ctz 64 x=j:=⟨_,rfl⟩
   have hbx:x.testBit j=true:=by rw [← hj];exact Nt hx0 hx64
   have hbc:c.f.testBit j=true∧k≤j:=by
    have:=HX.out j
    rw [hbx] at this
    simpa using this.symm
   have hjr:j < row.length:=HIN.out j hbc.1
   have hskip:iF row c j=o:=by
    rw [mX hbc.2 (fun i h1 h2=>?_)]
    ·exact HO.out
    ·have h3:=HX.out i
     rw [zW hx0 hx64 (by omega)] at h3
     simp [h1] at h3
     exact h3
   obtain ⟨ba,offa,y,rfl,hy,hba,a0,a1,a2⟩:=(HRA.out.below hb).at_ hjr
   obtain ⟨t,htt⟩:∃ t,join o y=t:=⟨_,rfl⟩
   have HN:Hid (iF row c (j+1)=t):=(An hbc.1 hy).trans (by rw [hskip,htt])
   have OO:Hid o.ok:=by rw [← HO.out];exact kH HC.out HOK.out k
   have OY:=Lib.hid (HOK.out j y hy)
   have HTT:=Lib.hid htt
   have HJ:=Lib.hid hj
   have HX2:Hid (∀ i,(x &&& (x - 1)).testBit i=(c.f.testBit i && decide (j+1≤i))):=by
    intro i
    rw [P3 hx0 hx64,hj]
    by_cases h1:i < j
    ·rw [zW hx0 hx64 (by omega)]
     have e9:¬ (j+1≤i):=by omega
     simp [e9]
    ·rw [HX.out i]
     by_cases h2:i=j
     ·subst h2;simp
     ·have e1:k≤i:=by omega
      have e2:j+1≤i:=by omega
      simp [e1,e2,h2]
   have hlt2:x &&& (x - 1) < x:=Tk hx0
   have hxp:(1:Int)≤(x:Int):=by omega
   have hand:bits .and .u64 (x:Int) ((x:Int) - 1)=((x &&& (x - 1):Nat):Int):=by
    rw [← Ul x (x - 1) hx64 (by omega)]
    congr 1
    omega
   obtain ⟨x',hx'⟩:∃ x',x'=x &&& (x - 1):=⟨_,rfl⟩
   rw [← hx'] at HX2 hlt2 hand
   have hne:((x:Int) != 0)=true:=by simp;omega
   have hx9:(x:Int)≤18446744073709551615:=by omega
   have g0:(0:Int)≤(j:Int):=by omega
   have g3:(j:Int) < (row.length:Int):=by omega
   have HX':=Lib.hid hx'
   have HNE:=Lib.hid hx0
   have HBC:=Lib.hid hbc
   clear hbx hbc hskip hy htt hj hx' hx0
   go_wp2_with fail
   go_region_with (first | (go_at_call 179;refine (P2 x HNE.out hx64 _ (HT.out.below (by repeat (first | exact hb | refine Below.drew ?_)))).mono ?_;rintro e w4 ⟨rfl,rfl⟩;rw [HJ.out]) | (go_at_call 171;refine (Dn o y t OO.out OY.out HTT.out _).mono ?_;rintro e w3 ⟨rfl,hb3⟩;have hB3:Below wr.heap.size wr w3:=Below.trans (by repeat (first | exact Below.refl _ _ | refine Below.drew ?_)) hb3;have D1:=Lib.hid (xX B1.out hB3);have D2:=Lib.hid (xX B2.out hB3);obtain ⟨e0,e1,e2,ef⟩:=rK D2.out;have e4:=ef 0;have e5:=ef 1;have e6:=ef 2;clear ef))
   all_goals
    have N2:=Lib.hid (Qo (a':=.int .u64 (t.f:Int)) (b':=.int .i64 t.k) (c':=.int .i64 t.v) D2.out)
    have N1:=Lib.hid (Ib (B:=w.heap.size+1+1+1+1) (a':=.int .u64 (t.f:Int)) (b':=.int .i64 t.k) (c':=.int .i64 t.v) (by omega) D1.out)
    have NB:=Lib.hid ((((hb.trans (hB3.mono hb.size)).setCell (p:=⟨w.heap.size+1+1+1+1,0,none⟩) (by simp;omega) (.int .u64 (t.f:Int))).setCell (p:=⟨w.heap.size+1+1+1+1,1,none⟩) (by simp;omega) (.int .i64 t.k)).setCell (p:=⟨w.heap.size+1+1+1+1,2,none⟩) (by simp;omega) (.int .i64 t.v))
    clear e0 e1 e2 e4 e5 e6 hb3
    go_wp2
    go_roundw
    case rel=>exact ⟨j+1,x',t,by omega,by omega,by first | rfl | rw [hand],HX2,HN,N1,N2,NB.out⟩
    case measure=>simp [intOf];omega
def dZ (xs ys:List Cl):List Cl:=ys.map (ofC xs)
def thenR (d:Int) (xs ys:List Cl):List Cl:=if nX d xs ys=0 then dZ xs ys else []
theorem Ic {xs ys:List Cl} {n:Nat} (h2:ys.length=n):(dZ xs ys).length=n:=by simp [dZ,h2]
theorem Id {w w':World} {B q:Nat} {o2:Nat} {u0 u1 u2:Value} (hb:Below B w w') (hq:q < B)
  (h:w.cell? ⟨q,o2,none⟩=some u0∧w.cell? ⟨q,o2+1,none⟩=some u1∧w.cell? ⟨q,o2+2,none⟩=some u2) :
  w'.cell? ⟨q,o2,none⟩=some u0∧w'.cell? ⟨q,o2+1,none⟩=some u1∧w'.cell? ⟨q,o2+2,none⟩=some u2:=by
 obtain ⟨b0,b1,b2⟩:=h
 exact ⟨(hb.cell (p:=⟨q,_,none⟩) hq).trans b0,(hb.cell (p:=⟨q,_,none⟩) hq).trans b1,(hb.cell (p:=⟨q,_,none⟩) hq).trans b2⟩
def z0:Cl:=⟨0,0,0⟩
theorem Dp (n:Nat):(madeCells (Value.agg #[.int .u64 0,.int .i64 0,.int .i64 0]).cells (n * 3)).toList=flat (List.replicate n z0):=by
 have hc:(Value.agg #[.int .u64 0,.int .i64 0,.int .i64 0]).cells=#[.int .u64 0,.int .i64 0,.int .i64 0]:=rfl
 rw [hc]
 apply List.ext_getElem?
 intro j
 by_cases hj:j < n * 3
 ·have e:(List.replicate n z0)[j / 3]?=some z0:=by rw [List.getElem?_replicate,if_pos (by omega)]
  obtain ⟨f0,f1,f2⟩:=pP e
  have hr:j % 3=0∨j % 3=1∨j % 3=2:=by omega
  have hlt:j < (madeCells #[Value.int .u64 0,.int .i64 0,.int .i64 0] (n * 3)).toList.length:=by simp [madeCells];exact hj
  rcases hr with h | h | h
  ·have ej:j=j / 3 * 3:=by omega
   rw [← ej] at f0
   rw [f0,List.getElem?_eq_getElem hlt]
   simp [madeCells,h,z0]
  ·have ej:j=j / 3 * 3+1:=by omega
   rw [← ej] at f1
   rw [f1,List.getElem?_eq_getElem hlt]
   simp [madeCells,h,z0]
  ·have ej:j=j / 3 * 3+2:=by omega
   rw [← ej] at f2
   rw [f2,List.getElem?_eq_getElem hlt]
   simp [madeCells,h,z0]
 ·rw [List.getElem?_eq_none (by simp [madeCells];omega),List.getElem?_eq_none (by rw [nZ];simp;omega)]
theorem Dq {full:List Cl} {n k:Nat} {z:Cl} (hl:full.length=n) (hz:full[k]?=some z):(full.take k++List.replicate (n - k) z0).set k z=full.take (k+1)++List.replicate (n - (k+1)) z0:=by
 obtain ⟨hk,ex⟩:=List.getElem?_eq_some_iff.1 hz
 have hl2:(full.take k).length=k:=by simp;omega
 rw [List.set_append_right _ _ (by omega),hl2,Nat.sub_self,show n - k=(n - (k+1))+1 by omega,List.replicate_succ,List.set_cons_zero,List.take_succ_eq_append_getElem hk,List.append_assoc,ex]
 rfl
theorem N6 {full:List Cl} {n k:Nat} (hl:full.length=n) (hk:k < n):(full.take k++List.replicate (n - k) z0)[k]?=some z0:=by
 have hl2:(full.take k).length=k:=by simp;omega
 rw [List.getElem?_append_right (by omega),hl2,Nat.sub_self,List.getElem?_replicate,if_pos (by omega)]
theorem Um {full:List Cl} {n k:Nat} (hl:full.length=n) (hk:k≤n):(full.take k++List.replicate (n - k) z0).length=n:=by simp;omega
theorem okAt_in {n:Nat} {c:Cl} (hf:c.f < 18446744073709551616) (h:jV n c=true) (i:Nat) (hb:c.f.testBit i=true):i < n:=by
 have h1:kB n c.f=true:=by
  unfold jV lY at h
  cases hi:kB n c.f
  ·rw [hi] at h;simp at h
  ·rfl
 rcases Nat.lt_or_ge i n with hi | hi
 ·exact hi
 ·rcases Nat.lt_or_ge i 64 with h64 | h64
  ·rw [(Hr n c.f hf).1 h1 i hi h64] at hb;cases hb
  ·rw [Nat.testBit_lt_two_pow (Nat.lt_of_lt_of_le hf (Nat.le_trans (by decide:18446744073709551616≤2 ^ 64) (Nat.pow_le_pow_right (by decide) h64)))] at hb;cases hb
set_option maxHeartbeats 2000000 in
theorem Un (d:Int) (a b:Option Addr) (capa capb:Nat) (xs ys:List Cl) (w:World) (ht:Tabs w) (hma:xs.length≤maxLen) (hmb:ys.length≤maxLen) (hra:eZ w a xs) (hrb:eZ w b ys) (hba:pM xs) (hbb:pM ys) (c:Int) (hc:nX d xs ys=c) :
  Calls prog 169 #[.int .i64 d,.slice a xs.length capa,.slice b ys.length capb] w (kF (thenR d xs ys) c w):=by
 have HT:=Lib.hid ht
 have HMA:=Lib.hid hma;have HMB:=Lib.hid hmb;have HRA:=Lib.hid hra;have HRB:=Lib.hid hrb;have HBA:=Lib.hid hba;have HBB:=Lib.hid hbb
 have HC:=Lib.hid hc
 clear ht hma hmb hra hrb hba hbb
 by_cases h0:c=0
 ·subst h0
  obtain ⟨k1,k2⟩:=Al hc
  obtain ⟨d0,d1,la,oka⟩:=mW k1
  obtain ⟨_,_,lb,okb⟩:=mW k2
  obtain ⟨n,rfl⟩:∃ n:Nat,d=n:=⟨d.toNat,by omega⟩
  have hla:xs.length=n:=by omega
  have hlb:ys.length=n:=by omega
  have HR:=Lib.hid (show thenR n xs ys=dZ xs ys by simp [thenR,hc])
  have HN:=Lib.hid (Ic (xs:=xs) hlb)
  have OKA:=Lib.hid oka;have OKB:=Lib.hid okb
  have ga1:n≤xs.length:=by omega
  have gb1:n≤ys.length:=by omega
  have ga2:xs.length≤n:=by omega
  have gb2:ys.length≤n:=by omega
  have hn:n≤64:=by omega
  obtain ⟨i0,hi,hz0,hz1,hz2⟩:=info_parts Uf
  clear hc k1 k2 d0 d1 la oka lb okb hla hlb
  go_enter func169,ntmps169
  go_wp2_with fail
  refine (lJ _ a b capa capb xs ys _ HMA.out HMB.out HRA.out HRB.out HBA.out HBB.out 0 HC.out).mono ?_
  rintro e w1 ⟨rfl,hb1⟩
  go_wp2_with (at_make;refine wpList_make_full _ rfl (.tmp 18) (.tmp 18) 41 rfl w.heap.size 105 i0 _ 3 underlying41 hi hz0 hz1 .i64 .i64 (n:Int) (n:Int) n rfl rfl rfl rfl (by rw [hz2];omega) (by unfold maxLen;omega) hb1.size ?_;intro w2 hown2 hgrow2)
  have HO1:Hid (w2.ownsRow w.heap.size 105 3 (.slice (some ⟨w1.heap.size,0,none⟩) n n) n (flat ((dZ xs ys).take 0++List.replicate (n - 0) z0))):=by
   rw [List.take_zero,List.nil_append,Nat.sub_zero,← Dp];exact hown2
  have hb2:Below w.heap.size w w2:=hb1.grown hgrow2 hb1.size (fun j e=>by cases e)
  have hsz:=hb1.size
  clear hown2
  go_wp2_with fail
  go_loopw [21] (fun i wr=>∃ k:Nat,k≤n∧i = .int .i64 k∧Hid (wr.ownsRow w.heap.size 105 3 (.slice (some ⟨w1.heap.size,0,none⟩) n n) n (flat ((dZ xs ys).take k++List.replicate (n - k) z0)))∧Below w.heap.size w wr) (fun i _=>n - (intOf i).toNat)
  case atStart=>exact ⟨0,Nat.zero_le _,rfl,HO1,hb2⟩
  case round =>
   obtain ⟨k,hk,rfl,HO,hb⟩:=hrel
   by_cases hlt:k < n
   ·obtain ⟨bb,offb,y,rfl,hy,hbb,b0,b1,b2⟩:=HRB.out.at_ (show k < ys.length by omega)
    have HF:Hid (_∧_∧_):=⟨b0,b1,b2⟩
    clear b0 b1 b2
    obtain ⟨b0,b1,b2⟩:=Id hb hbb HF.out
    have OY:=Lib.hid (Fx HBB.out OKB.out hy)
    have OIN:Hid (∀ i,y.f.testBit i=true→i < xs.length):=fun i h=>Nat.lt_of_lt_of_le (okAt_in OY.out.1 (List.all_eq_true.1 OKB.out y (List.mem_of_getElem? hy)) i h) (by omega)
    have OAL:Hid (∀ (i:Nat) x,xs[i]?=some x→x.ok):=fun i x hi=>Fx HBA.out OKA.out hi
    obtain ⟨z,hz⟩:∃ z,ofC xs y=z:=⟨_,rfl⟩
    have HZ:=Lib.hid (Dq (full:=dZ xs ys) (n:=n) (k:=k) (z:=z) HN.out (by rw [← hz];simp [dZ,hy]))
    have HA:=Lib.hid (N6 (full:=dZ xs ys) (n:=n) HN.out hlt)
    have HLEN:=Lib.hid (Um (full:=dZ xs ys) (n:=n) HN.out hk)
    have HJ:=Lib.hid hz
    clear hy hz
    have g0:(0:Int)≤(k:Int):=by omega
    have g2:(k:Int) < (ys.length:Int):=by omega
    have g3:(k:Int) < (n:Int):=by omega
    go_wp2_with (go_at_call 174;refine (Qp a capa xs y _ (HT.out.below hb) (by omega) (HRA.out.below hb) OAL.out OY.out OIN.out z HJ.out).mono ?_;rintro e w3 ⟨rfl,hb3⟩;have hB3:Below wr.heap.size wr w3:=hb3;have o3:=Dm HO.out hB3;have f3:=pP HA.out;have e0:=(o3.cellAt (k * 3) (by omega)).trans f3.1;have e1:=(o3.cellAt (k * 3+1) (by omega)).trans f3.2.1;have e2:=(o3.cellAt (k * 3+2) (by omega)).trans f3.2.2;have q0:=o3.frozenAt (k * 3);have q1:=o3.frozenAt (k * 3+1);have q2:=o3.frozenAt (k * 3+2);have O3:=Lib.hid o3;clear o3 f3)
    have HS:=Lib.hid (Am O3.out (by rw [HLEN.out];exact hlt) z)
    rw [HZ.out] at HS
    have HB:Hid (Below w.heap.size w (((w3.setCell ⟨w1.heap.size,k * 3,none⟩ (.int .u64 (z.f:Int))).setCell ⟨w1.heap.size,k * 3+1,none⟩ (.int .i64 z.k)).setCell ⟨w1.heap.size,k * 3+2,none⟩ (.int .i64 z.v))):=(((hb.trans (hB3.mono hb.size)).setCell (p:=⟨w1.heap.size,k * 3,none⟩) hsz _).setCell (p:=⟨w1.heap.size,k * 3+1,none⟩) hsz _).setCell (p:=⟨w1.heap.size,k * 3+2,none⟩) hsz _
    clear e0 e1 e2 q0 q1 q2 O3
    go_wp2
    go_roundw
    case rel=>exact ⟨k+1,by omega,by go_num,HS,HB.out⟩
    case measure=>simp [intOf];omega
   ·obtain rfl:n=k:=by omega
    have HE:Hid (wr.ownsRow w.heap.size 105 3 (.slice (some ⟨w1.heap.size,0,none⟩) n n) n (flat (thenR n xs ys))):=by
     have:=HO.out
     rw [List.take_of_length_le (by rw [HN.out];exact Nat.le_refl _),Nat.sub_self,List.replicate_zero,List.append_nil] at this
     rw [HR.out];exact this
    go_wp2
    go_ret2
    exact Fw HE.out hb 0
 ·have HR:=Lib.hid (show thenR d xs ys=[] by simp [thenR,hc,h0])
  have hne:(c != 0)=true:=by simpa using h0
  clear hc h0
  go_enter func169,ntmps169
  go_wp2_with fail
  refine (lJ _ a b capa capb xs ys _ HMA.out HMB.out HRA.out HRB.out HBA.out HBB.out c HC.out).mono ?_
  rintro e w1 ⟨rfl,hb1⟩
  go_wp2
  go_ret2
  rw [HR.out]
  exact pQ c hb1
def oC (k:Nat):Cl:=⟨2 ^ k,0,0⟩
def fW (n:Nat):List Cl:=(List.range n).map oC
def Ao (d:Int):List Cl:=if qO d=0 then fW d.toNat else []
theorem iQ (n:Nat):(fW n).length=n:=by simp [fW]
theorem vL {n k:Nat} (hk:k < n):(fW n)[k]?=some (oC k):=by
 simp [fW,List.getElem?_range hk]
theorem Qq {n k:Nat} (hk:k < n):(fW n).take (k+1)=(fW n).take k++[oC k]:=by
 obtain ⟨h,e⟩:=List.getElem?_eq_some_iff.1 (vL hk)
 rw [List.take_succ_eq_append_getElem h,e]
theorem pow_u64 {k:Nat} (hk:k < 64):IntKind.u64.wrap (2 ^ k:Int)=((2 ^ k:Nat):Int):=by
 have h:2 ^ k < 18446744073709551616:=Nat.lt_of_lt_of_le (Nat.pow_lt_pow_right (by decide) hk) (by decide)
 have e:(2 ^ k:Int)=((2 ^ k:Nat):Int):=by simp
 rw [e]
 generalize 2 ^ k=q at h
 simp [IntKind.wrap,IntKind.signed,IntKind.bits]
 omega
theorem Dr:∀ (cs:List Cl) (i:Nat) (f f':Nat),cs[i]?=some ⟨f,0,0⟩→(flat cs).set (i * 3) (.int .u64 (f':Int))=flat (cs.set i ⟨f',0,0⟩)
 | [],i,f,f',h=>by simp at h
 | x::r,0,f,f',h=>by
  simp at h;subst h
  simp [jP,vals]
 | x::r,i+1,f,f',h=>by
  have ih:=Dr r i f f' (by simpa using h)
  have e0:(i+1) * 3=i * 3+3:=by omega
  rw [e0,jP,List.set_cons_succ,jP,← ih]
  simp [vals]
theorem Ly {w:World} {base g n cap k:Nat} {E:Nat} {cs:List Cl} {f:Nat} (h:w.ownsRow base E 3 (.slice (some ⟨g,0,none⟩) n cap) n (flat cs)) (hk:cs[k]?=some ⟨f,0,0⟩) (f':Nat) :
  (w.setCell ⟨g,k * 3,none⟩ (.int .u64 (f':Int))).ownsRow base E 3 (.slice (some ⟨g,0,none⟩) n cap) n (flat (cs.set k ⟨f',0,0⟩)):=by
 rw [← Dr cs k f f' hk]
 exact (h.stored (k * 3) _).1
set_option maxHeartbeats 2000000 in
theorem Uo (n:Nat) (w:World) (hn:n≤64):Calls prog 166 #[.int .i64 n] w (xA (fW n) w):=by
 obtain ⟨i0,hi,hz0,hz1,hz2⟩:=info_parts Uf
 have HN:=Lib.hid (iQ n)
 go_enter func166,ntmps166
 go_wp2_with (at_make;refine wpList_make_full _ rfl (.tmp 5) (.tmp 5) 41 rfl w.heap.size 105 i0 _ 3 underlying41 hi hz0 hz1 .i64 .i64 (n:Int) (n:Int) n rfl rfl rfl rfl (by rw [hz2];omega) (by unfold maxLen;omega) (Nat.le_refl _) ?_;intro w2 hown2 hgrow2)
 have HO1:Hid (w2.ownsRow w.heap.size 105 3 (.slice (some ⟨w.heap.size,0,none⟩) n n) n (flat ((fW n).take 0++List.replicate (n - 0) z0))):=by
  rw [List.take_zero,List.nil_append,Nat.sub_zero,← Dp];exact hown2
 have hb2:Below w.heap.size w w2:=(Below.refl _ _).grown hgrow2 (Nat.le_refl _) (fun j e=>by cases e)
 clear hown2
 go_wp2_with fail
 go_loopw [8] (fun i wr=>∃ k:Nat,k≤n∧i = .int .i64 k∧Hid (wr.ownsRow w.heap.size 105 3 (.slice (some ⟨w.heap.size,0,none⟩) n n) n (flat ((fW n).take k++List.replicate (n - k) z0)))∧Below w.heap.size w wr) (fun i _=>n - (intOf i).toNat)
 case atStart=>exact ⟨0,Nat.zero_le _,rfl,HO1,hb2⟩
 case round =>
  obtain ⟨k,hk,rfl,HO,hb⟩:=hrel
  by_cases hlt:k < n
  ·have HZ:=Lib.hid (Dq (full:=fW n) (n:=n) (k:=k) HN.out (vL hlt))
   have HA:=Lib.hid (N6 (full:=fW n) (n:=n) HN.out hlt)
   have HW:=Lib.hid (pow_u64 (k:=k) (by omega))
   have f3:=pP HA.out
   have e0:=(HO.out.cellAt (k * 3) (by omega)).trans f3.1
   have q0:=HO.out.frozenAt (k * 3)
   clear f3
   have g0:(0:Int)≤(k:Int):=by omega
   have g1:k < 64:=by omega
   have g2:(k:Int) < 64:=by omega
   have g3:(k:Int) < (n:Int):=by omega
   have HS:=Lib.hid (Ly HO.out HA.out (2 ^ k))
   rw [show (⟨2 ^ k,0,0⟩:Cl)=oC k from rfl,HZ.out,← HW.out] at HS
   have HB:Hid (Below w.heap.size w (wr.setCell ⟨w.heap.size,k * 3,none⟩ (.int .u64 (IntKind.u64.wrap (2 ^ k))))):=hb.setCell (p:=⟨w.heap.size,k * 3,none⟩) (Nat.le_refl _) _
   go_wp2
   go_roundw
   case rel=>exact ⟨k+1,by omega,by go_num,HS,HB.out⟩
   case measure=>simp [intOf];omega
  ·obtain rfl:n=k:=by omega
   have HE:Hid (wr.ownsRow w.heap.size 105 3 (.slice (some ⟨w.heap.size,0,none⟩) n n) n (flat (fW n))):=by
    have:=HO.out
    rw [List.take_of_length_le (by rw [HN.out];exact Nat.le_refl _),Nat.sub_self,List.replicate_zero,List.append_nil] at this
    exact this
   go_wp2
   go_ret
   exact ⟨_,rfl,by rw [HN.out];exact HE.out,hb⟩
theorem F3 {cs:List Cl} {w w1 w2:World} {v:Value} (hb1:Below w.heap.size w w1) (hown:w2.ownsRow w1.heap.size 105 3 v cs.length (flat cs)) (hb2:Below w1.heap.size w1 w2) (err:Int):kF cs err w (.returned (.tuple #[v,.int .i64 err])) w2:=by
 obtain ⟨_,a2,cap2,rfl,hr2,hf2⟩:=fO hown
 exact ⟨a2,cap2,rfl,hr2,fun ad e=>⟨Nat.le_trans hb1.size (hf2 ad e).1,(hf2 ad e).2.2⟩,hb1.trans (hb2.mono hb1.size)⟩
theorem Lz {d:Int} (h:qO d=0):∃ n:Nat,d=n∧n≤64:=by
 by_cases hd:d < 0∨64 < d
 ·simp [qO,hd] at h
 ·exact ⟨d.toNat,by omega,by omega⟩
set_option maxHeartbeats 2000000 in
theorem one_any (d:Int) (w:World) (c:Int) (hc:qO d=c) :
  Calls prog 147 #[.int .i64 d] w (kF (Ao d) c w):=by
 have HC:=Lib.hid hc
 by_cases h0:c=0
 ·subst h0
  obtain ⟨n,rfl,hn⟩:=Lz hc
  have HR:=Lib.hid (show Ao n=fW n by simp [Ao,hc])
  clear hc
  go_enter func147,ntmps147
  go_wp2_with (go_at_call 154;refine (lP _ _ 0 HC.out).mono ?_;rintro e w' ⟨rfl,rfl⟩)
  refine (Uo n _ hn).mono ?_
  rintro e w2 ⟨v,rfl,hown,hb2⟩
  have HO:=Lib.hid hown
  clear hown
  go_wp2
  go_ret2
  rw [HR.out]
  exact F3 (Below.refl _ _) HO.out hb2 0
 ·have HR:=Lib.hid (show Ao d=[] by simp [Ao,hc,h0])
  have hne:(c != 0)=true:=by simpa using h0
  clear hc h0
  go_enter func147,ntmps147
  go_wp2_with (go_at_call 154;refine (lP _ _ c HC.out).mono ?_;rintro e w' ⟨rfl,rfl⟩)
  go_ret2
  rw [HR.out]
  exact pQ c (Below.refl _ _)
structure IsCells (w:World) (a:Option Addr) (len cap:Nat) (xs:List Cl):Prop where
 len:len=xs.length
 max:xs.length≤maxLen
 row:eZ w a xs
 bits:pM xs
set_option linter.unusedSimpArgs false
def jQ:Cl:=⟨0,2,0⟩
theorem iR {c:Cl} (h:c.ok):(∃ f,c=⟨f,0,0⟩)∨(∃ f v,c=⟨f,1,v⟩)∨c=jQ:=by
 obtain ⟨f,k,v⟩:=c
 obtain ⟨_,h⟩:=h
 simp only at h
 unfold eC at h
 split at h
 ·rename_i h2;left;simp at h;subst h;subst h2;exact ⟨f,rfl⟩
 ·split at h
  ·rename_i h2;right;left;subst h2;exact ⟨f,v,rfl⟩
  ·split at h
   ·rename_i h2;right;right;subst h2;simp at h;obtain ⟨rfl,rfl⟩:=h;rfl
   ·cases h
theorem oV {a b:Cl} (ha:a.ok) (hb:b.ok):join a b=join b a:=by
 rcases iR ha with ⟨f,rfl⟩ | ⟨f,v,rfl⟩ | rfl<;>rcases iR hb with ⟨f2,rfl⟩ | ⟨f2,v2,rfl⟩ | rfl
 all_goals (try (simp [join,joinK,dU,jQ,Nat.or_comm];done))
 by_cases hv:v=v2
 ·subst hv;simp [join,joinK,dU,Nat.or_comm]
 ·have hv2:¬ v2=v:=fun h=>hv h.symm
  simp [join,joinK,dU,hv,hv2]
theorem xB {a:Cl} (ha:a.ok):join a a=a:=by
 rcases iR ha with ⟨f,rfl⟩ | ⟨f,v,rfl⟩ | rfl<;>simp [join,joinK,dU,jQ]
theorem xC {a:Cl} (ha:a.ok):join jQ a=jQ:=by
 rcases iR ha with ⟨f,rfl⟩ | ⟨f,v,rfl⟩ | rfl<;>simp [join,joinK,dU,jQ]
theorem gG {a b c:Cl} (ha:a.ok) (hb:b.ok) (hc:c.ok):join (join a b) c=join a (join b c):=by
 rcases iR ha with ⟨f,rfl⟩ | ⟨f,v,rfl⟩ | rfl<;>rcases iR hb with ⟨f2,rfl⟩ | ⟨f2,v2,rfl⟩ | rfl<;>rcases iR hc with ⟨f3,rfl⟩ | ⟨f3,v3,rfl⟩ | rfl
 all_goals (try (simp [join,joinK,dU,jQ,Nat.or_assoc];done))
 all_goals (try (by_cases h1:v=v2<;>simp [join,joinK,dU,jQ,Nat.or_assoc,h1];done))
 all_goals (try (by_cases h1:v=v3<;>simp [join,joinK,dU,jQ,Nat.or_assoc,h1];done))
 all_goals (try (by_cases h1:v2=v3<;>simp [join,joinK,dU,jQ,Nat.or_assoc,h1];done))
 by_cases h1:v=v2
 ·subst h1
  by_cases h2:v=v3<;>simp [join,joinK,dU,jQ,Nat.or_assoc,h2]
 ·by_cases h2:v2=v3
  ·subst h2;simp [join,joinK,dU,h1]
  ·simp [join,joinK,dU,h1,h2]
theorem Ap {x a y b:Cl} (hx:x.ok) (ha:a.ok) (hy:y.ok) (hb:b.ok):join (join x a) (join y b)=join (join x y) (join a b):=by
 rw [gG hx ha (oB hy hb),← gG ha hy hb,oV ha hy,gG hy ha hb,← gG hx hy (oB ha hb)]
def Oks (xs:List Cl):Prop:=∀ (i:Nat) x,xs[i]?=some x→x.ok
theorem base_ok {c:Cl} (h:c.ok):(⟨0,c.k,c.v⟩:Cl).ok:=⟨by simp,rJ h.2⟩
theorem Ds {row:List Cl} (hr:Oks row) {x y:Cl} (hx:x.ok) (hy:y.ok):∀ n,iF row (join x y) n=join (iF row x n) (iF row y n)
 | 0=>by
  show (⟨0,(join x y).k,(join x y).v⟩:Cl)=join ⟨0,x.k,x.v⟩ ⟨0,y.k,y.v⟩
  simp [join]
 | n+1=>by
  have ih:=Ds hr hx hy n
  have ox:=kH hx hr n
  have oy:=kH hy hr n
  have ob:=kH (oB hx hy) hr n
  rcases hrow:row[n]? with _ | A
  ·simp only [gA,kG,hrow]
   split<;>split<;>split<;>exact ih
  ·have oA:=hr n A hrow
   by_cases hm:joinK x.k x.v y.k y.v=2
   ·have hz:join x y=jQ:=by
     rcases iR (oB hx hy) with ⟨f,e⟩ | ⟨f,v,e⟩ | e
     ·have:=congrArg Cl.k e;simp [join,hm] at this
     ·have:=congrArg Cl.k e;simp [join,hm] at this
     ·exact e
    have hall:∀ m,iF row (join x y) m=jQ:=by
     intro m
     rw [hz,mX (Nat.zero_le m) (fun i _ _=>by simp [jQ])]
     rfl
    have e1:join (iF row x n) (iF row y n)=jQ:=by rw [← ih,hall n]
    rw [hall]
    simp only [gA,kG,hrow]
    split<;>split
    ·rw [Ap ox oA oy oA,e1,xC (oB oA oA)]
    ·rw [oV ox oA,gG oA ox oy,e1,oV oA (by rw [← e1];exact oB ox oy),xC oA]
    ·rw [← gG ox oy oA,e1,xC oA]
    ·exact e1.symm
   ·have hf:(join x y).f=x.f ||| y.f:=by simp [join,hm]
    simp only [gA,kG,hrow,hf,Nat.testBit_or]
    rw [ih]
    cases hbx:x.f.testBit n<;>cases hby:y.f.testBit n<;>simp
    ·rw [gG ox oy oA]
    ·rw [gG ox oy oA,oV oy oA,← gG ox oA oy]
    ·rw [Ap ox oA oy oA,xB oA]
theorem Ie {row:List Cl} (hr:Oks row) {x y:Cl} (hx:x.ok) (hy:y.ok):ofC row (join x y)=join (ofC row x) (ofC row y):=Ds hr hx hy _
theorem Up (row:List Cl) (c:Cl):ofC row ⟨0,c.k,c.v⟩=⟨0,c.k,c.v⟩:=by
 unfold ofC
 rw [mX (Nat.zero_le _) (fun i _ _=>by simp)]
 rfl
theorem Dt {xs ys:List Cl} (hx:Oks xs) (hy:Oks ys) {c:Cl} (hc:c.ok):∀ n,iF (ys.map (ofC xs)) c n=ofC xs (iF ys c n)
 | 0=>(Up xs c).symm
 | n+1=>by
  have ih:=Dt hx hy hc n
  rcases hrow:ys[n]? with _ | A
  ·have h2:(ys.map (ofC xs))[n]?=none:=by simp [hrow]
   simp only [gA,kG,hrow,h2]
   split<;>exact ih
  ·have h2:(ys.map (ofC xs))[n]?=some (ofC xs A):=by simp [hrow]
   simp only [gA,kG,hrow,h2]
   split
   ·rw [ih,Ie hx (kH hc hy n) (hy n A hrow)]
   ·exact ih
theorem L0 {xs ys zs:List Cl} (hx:Oks xs) (hy:Oks ys) (hz:Oks zs):dZ (dZ xs ys) zs=dZ xs (dZ ys zs):=by
 unfold dZ
 rw [List.map_map]
 apply List.map_congr_left
 intro c hc
 obtain ⟨i,hi,e⟩:=List.mem_iff_getElem.1 hc
 have h:=Dt hx hy (hz i c (by rw [← e];exact List.getElem?_eq_getElem hi)) ys.length
 show iF (ys.map (ofC xs)) c (ys.map (ofC xs)).length=ofC xs (iF ys c ys.length)
 rw [List.length_map,h]
theorem Du {xs ys:List Cl} (hl:ys.length=xs.length) (hx:Oks xs) (hy:Oks ys) {c:Cl} (hc:c.ok):∀ n,iF (dC xs ys) c n=join (iF xs c n) (iF ys c n)
 | 0=>(xB (base_ok hc)).symm
 | n+1=>by
  have ih:=Du hl hx hy hc n
  have o1:=kH hc hx n
  have o2:=kH hc hy n
  by_cases hn:n < xs.length
  ·have e1:xs[n]?=some xs[n]:=List.getElem?_eq_getElem hn
   have e2:ys[n]?=some (ys[n]'(by omega)):=List.getElem?_eq_getElem (by omega)
   have e3:(dC xs ys)[n]?=some (join xs[n] (ys[n]'(by omega))):=by simp [dC,List.getElem?_zipWith,e1,e2]
   simp only [gA,kG,e1,e2,e3]
   split
   ·rw [ih,Ap o1 (hx n _ e1) o2 (hy n _ e2)]
   ·exact ih
  ·have e1:xs[n]?=none:=List.getElem?_eq_none (by omega)
   have e2:ys[n]?=none:=List.getElem?_eq_none (by omega)
   have e3:(dC xs ys)[n]?=none:=List.getElem?_eq_none (by simp [dC];omega)
   simp only [gA,kG,e1,e2,e3]
   split<;>exact ih
end Go.Proofs.YtmgnkpibpjgncaaGreatDoor
