import Derived.Lib.Join
import Derived.Orders
import Derived.Deep.RegionHeld
import Derived.KernelRfl
import Derived.Laws.Rows
import Derived.Laws.AppendOwn
import Derived.Laws.Strings
import Derived.Laws.Small
import Derived.IntWalk
import Derived.Laws.Tables
import Derived.Laws.Concat
import Derived.Laws.MakeOwn
import Derived.Deep.DrawnRows
import Derived.Test.YtofaiolkihcfmaaGreatDoorLrA
set_option maxRecDepth 100000
set_option maxHeartbeats 4000000
set_option linter.unusedVariables false
set_option linter.unusedSimpArgs false
set_option linter.unusedSectionVars false
set_option linter.unnecessarySimpa false
namespace Go.Proofs.YtofaiolkihcfmaaGreatDoor
open Go.Proofs.Tryz
section
open Go.RowKit
theorem both_ok {d:Int} {xs ys:List Cl} (h:mF d xs ys=0) (hx:nR xs) (hy:nR ys) :
  xs.length≤64∧ys.length=xs.length∧(∀ (i:Nat) c,xs[i]?=some c→c.ok)∧(∀ (i:Nat) c,ys[i]?=some c→c.ok):=by
 obtain ⟨k1,k2⟩:=xA h
 obtain ⟨d0,d1,la,oka⟩:=lJ k1
 obtain ⟨_,_,lb,okb⟩:=lJ k2
 exact ⟨by omega,by omega,fun i c hi=>Bx hx oka hi,fun i c hi=>Bx hy okb hi⟩
theorem Mi (d:Int) (a b:Option Addr) (capa capb:Nat) (xs ys:List Cl) (w:World) (hma:xs.length≤maxLen) (hmb:ys.length≤maxLen) (hra:fN w a xs) (hrb:fN w b ys) (hba:nR xs) (hbb:nR ys) (c:Int) (hc:mF d xs ys=c) :
  Calls prog 84 #[.int .i64 d,.slice a xs.length capa,.slice b ys.length capb] w (jA (qW d xs ys) c w):=by
 have HMA:=Lib.hid hma;have HMB:=Lib.hid hmb;have HRA:=Lib.hid hra;have HRB:=Lib.hid hrb;have HBA:=Lib.hid hba;have HBB:=Lib.hid hbb
 have HC:=Lib.hid hc
 clear hma hmb hra hrb hba hbb
 by_cases h0:c=0
 ·subst h0
  obtain ⟨k1,k2,k3,k4⟩:=both_ok hc HBA.out HBB.out
  have K2:=Lib.hid k2;have K3:=Lib.hid k3;have K4:=Lib.hid k4
  have HR:=Lib.hid (show qW d xs ys=eN xs ys by simp [qW,hc])
  clear hc k2 k3 k4
  go_enter func84,ntmps84
  go_wp2_with fail
  refine (kA _ a b capa capb xs ys _ HMA.out HMB.out HRA.out HRB.out HBA.out HBB.out 0 HC.out).mono ?_
  rintro e w1 ⟨rfl,hb1⟩
  go_wp2_with fail
  refine (Ow a b capa capb xs ys _ k1 K2.out (HRA.out.below hb1) (HRB.out.below hb1) K3.out K4.out).mono ?_
  rintro e w2 ⟨v,rfl,hown,hb2⟩
  have HO:=Lib.hid hown
  clear hown
  go_wp2
  go_ret2
  rw [HR.out]
  obtain ⟨_,a2,cap2,rfl,hr2,hf2⟩:=fF HO.out
  exact ⟨a2,cap2,rfl,hr2,fun ad e=>⟨Nat.le_trans hb1.size (hf2 ad e).1,(hf2 ad e).2.2⟩,hb1.trans (hb2.mono hb1.size)⟩
 ·have HR:=Lib.hid (show qW d xs ys=[] by simp [qW,hc,h0])
  have hne:(c != 0)=true:=by simpa using h0
  clear hc h0
  go_enter func84,ntmps84
  go_wp2_with fail
  refine (kA _ a b capa capb xs ys _ HMA.out HMB.out HRA.out HRB.out HBA.out HBB.out c HC.out).mono ?_
  rintro e w1 ⟨rfl,hb1⟩
  go_wp2
  go_ret2
  rw [HR.out]
  exact nU c hb1
def jQ (x y:Cl):Bool:=decide (x.f=y.f) && decide (x.k=y.k) && decide (x.v=y.v)
theorem Aa {x y:Cl}:jQ x y=true↔x=y:=by
 obtain ⟨f,k,v⟩:=x;obtain ⟨f2,k2,v2⟩:=y
 simp [jQ,and_assoc]
def Ox (xs ys:List Cl):Bool:=if xs.length=ys.length then (List.range xs.length).all fun i=>match xs[i]?,ys[i]? with | some x,some y=>jQ x y | _,_=>true else false
theorem Mj {xs ys:List Cl}:Ox xs ys=true↔xs=ys:=by
 unfold Ox
 split
 ·rename_i hl
  rw [List.all_eq_true]
  constructor
  ·intro h
   apply List.ext_getElem?
   intro i
   by_cases hi:i < xs.length
   ·have:=h i (List.mem_range.2 hi)
    rw [List.getElem?_eq_getElem hi,List.getElem?_eq_getElem (hl▸hi)] at this ⊢
    simp only at this
    rw [Aa.1 this]
   ·rw [List.getElem?_eq_none (by omega),List.getElem?_eq_none (by omega)]
  ·rintro rfl i hi
   have hi:=List.mem_range.1 hi
   rw [List.getElem?_eq_getElem hi]
   exact Aa.2 rfl
 ·rename_i hl
  simp
  intro e;exact hl (by rw [e])
theorem By (f f2:Nat) (k k2 v v2:Int) (w:World) :
  (binOp .neq 92 (.agg #[.int .u64 (f:Int),.int .i64 k,.int .i64 v]) (.agg #[.int .u64 (f2:Int),.int .i64 k2,.int .i64 v2])).run prog w = .ok (.bool (!jQ ⟨f,k,v⟩ ⟨f2,k2,v2⟩)) w:=by
 by_cases h1:f=f2
 ·subst h1
  by_cases h2:k=k2
  ·subst h2
   by_cases h3:v=v2
   ·subst h3
    simp [jQ,go_sem]
   ·have h3':(v == v2)=false:=by simp [h3]
    simp [jQ,go_sem,h3]
  ·simp [jQ,go_sem,h2]
 ·simp [jQ,go_sem,h1]
  intro h;omega
theorem Oy (x y:Cl) (s:Bool) (h:jQ x y=s) (w:World):(binOp .neq 92 x.val y.val).run prog w = .ok (.bool (!s)) w:=by
 subst h;exact By _ _ _ _ _ _ w
def uF (row:List Cl) (c:Cl) (out:Cl) (i:Nat):Cl:=if c.f.testBit i then (match row[i]? with | some a=>join out a | none=>out) else out
def mN (row:List Cl) (c:Cl) (n:Nat):Cl:=(List.range n).foldl (uF row c) ⟨0,c.k,c.v⟩
def ofC (row:List Cl) (c:Cl):Cl:=mN row c row.length
theorem qD (row:List Cl) (c:Cl) (n:Nat):mN row c (n+1)=uF row c (mN row c n) n:=by
 simp [mN,List.range_succ]
theorem E1 {row:List Cl} {c x:Cl} {n:Nat} (hb:c.f.testBit n=true) (hx:row[n]?=some x):mN row c (n+1)=join (mN row c n) x:=by
 rw [qD,uF,if_pos hb,hx]
theorem Jy {row:List Cl} {c:Cl} {n:Nat} (hb:c.f.testBit n=false):mN row c (n+1)=mN row c n:=by
 rw [qD,uF,if_neg (by rw [hb];simp)]
theorem uG {row:List Cl} {c:Cl} {k:Nat}:∀ {n:Nat},k≤n→(∀ i,k≤i→i < n→c.f.testBit i=false)→mN row c n=mN row c k
 | 0,h,_=>by
  obtain rfl:k=0:=by omega
  rfl
 | n+1,h,hb=>by
  by_cases e:k=n+1
  ·subst e;rfl
  ·rw [Jy (hb n (by omega) (by omega))]
   exact uG (by omega) (fun i h1 h2=>hb i h1 (by omega))
theorem uX {f:Nat} {k v:Int} (h:eH f k v=true):eH 0 k v=true:=by
 unfold eH at *
 split
 ·rw [if_pos (by assumption)] at h;exact h
 ·rw [if_neg (by assumption)] at h
  split
  ·rfl
  ·rw [if_neg (by assumption)] at h
   split
   ·rw [if_pos (by assumption)] at h;simp at h ⊢;exact h.1
   ·rw [if_neg (by assumption)] at h;cases h
theorem Jz {a b:Cl} (ha:a.ok) (hb:b.ok):(join a b).ok:=by
 obtain ⟨f,k,v⟩:=a
 obtain ⟨f2,k2,v2⟩:=b
 obtain ⟨hf,hk⟩:=ha
 obtain ⟨hf2,hk2⟩:=hb
 simp only at hf hk hf2 hk2
 have hor:f ||| f2 < 18446744073709551616:=Nat.or_lt_two_pow (n:=64) hf hf2
 refine ⟨?_,?_⟩
 ·show (if joinK k v k2 v2=2 then 0 else f ||| f2) < _
  split<;>omega
 ·show eH (if joinK k v k2 v2=2 then 0 else f ||| f2) (joinK k v k2 v2) (gK k v k2 v2)=true
  rcases jP hk with ⟨rfl,rfl⟩ | rfl | ⟨rfl,rfl⟩<;>rcases jP hk2 with ⟨rfl,rfl⟩ | rfl | ⟨rfl,rfl⟩
  all_goals (try (simp [joinK,gK,eH];done))
  by_cases hv:v=v2<;>simp [joinK,gK,eH,hv]
theorem sS {row:List Cl} {c:Cl} (hc:c.ok) (hr:∀ (i:Nat) x,row[i]?=some x→x.ok):∀ n,(mN row c n).ok
 | 0=>⟨by simp [mN],uX hc.2⟩
 | n+1=>by
  rw [qD,uF]
  split
  ·split
   ·rename_i a h;exact Jz (sS hc hr n) (hr n a h)
   ·exact sS hc hr n
  ·exact sS hc hr n
theorem oS {w:World} {B:Nat} {a b c:Value} {T:Nat} (h:w.heap[B]?=some (.cells #[a,b,c] T (0,0))) :
  w.cell? ⟨B,0,none⟩=some a∧w.cell? ⟨B,1,none⟩=some b∧w.cell? ⟨B,2,none⟩=some c∧(∀ j,w.frozen? ⟨B,j,none⟩=false):=by
 refine ⟨by simp [World.cell?,h],by simp [World.cell?,h],by simp [World.cell?,h],fun j=>by simp [World.frozen?,h]⟩
theorem Mk {w:World} {B:Nat} {a b c a' b' c':Value} {T:Nat} (h:w.heap[B]?=some (.cells #[a,b,c] T (0,0))) :
  (((w.setCell ⟨B,0,none⟩ a').setCell ⟨B,1,none⟩ b').setCell ⟨B,2,none⟩ c').heap[B]?=some (.cells #[a',b',c'] T (0,0)):=by
 simp [World.setCell,Array.getElem?_modify,h]
theorem E2 {w:World} {B D:Nat} {o:Option Obj} {a' b' c':Value} (hne:D≠B) (h:w.heap[D]?=o) :
  (((w.setCell ⟨B,0,none⟩ a').setCell ⟨B,1,none⟩ b').setCell ⟨B,2,none⟩ c').heap[D]?=o:=by
 rw [Below.heap_setCell _ _ _ _ hne,Below.heap_setCell _ _ _ _ hne,Below.heap_setCell _ _ _ _ hne,h]
theorem Oz {w:World} {B:Nat} {o:Obj} (h:w.heap[B]?=some o):B < w.heap.size:=(Array.getElem?_eq_some_iff.1 h).1
theorem uY {w w':World} {B:Nat} {o:Obj} (h:w.heap[B]?=some o) (hb:Below w.heap.size w w'):w'.heap[B]?=some o:=(hb.block B (Oz h)).trans h
theorem O0 (a b:Nat) (ha:a < 18446744073709551616) (hb:b < 18446744073709551616):bits .and .u64 (a:Int) (b:Int)=((a &&& b:Nat):Int):=bits_and_u64_nat a b ha hb
set_option maxHeartbeats 2000000 in
theorem Ml (a:Option Addr) (cap:Nat) (row:List Cl) (c:Cl) (w:World) (ht:Tabs w) (hm:row.length≤64) (hra:fN w a row) (hok:∀ (i:Nat) x,row[i]?=some x→x.ok) (hc:c.ok) (hin:∀ i,c.f.testBit i=true→i < row.length) (z:Cl) (hz:ofC row c=z) :
  Calls prog 123 #[c.val,.slice a row.length cap] w fun e w'=>e = .returned z.val∧Below w.heap.size w w':=by
 have HT:=Lib.hid ht
 have HRA:=Lib.hid hra;have HOK:=Lib.hid hok;have HC:=Lib.hid hc;have HZ:=Lib.hid hz;have HIN:=Lib.hid hin
 have hf:=hc.1
 clear hra hok hc hz ht hin
 go_enter func123,ntmps123
 go_wp2_with fail
 refine (fY _ _ _ _).mono ?_
 rintro e w1 ⟨rfl,rfl⟩
 go_wp2_with fail
 go_loopw [6] (fun i wr=>∃ (k x:Nat) (o:Cl),k≤row.length∧x < 18446744073709551616∧i = .int .u64 x∧Hid (∀ i,x.testBit i=(c.f.testBit i && decide (k≤i)))∧Hid (mN row c k=o)∧Hid (wr.heap[w.heap.size+1]?=some (.cells #[.int .u64 0,.int .i64 0,.int .i64 0] 92 (0,0)))∧Hid (wr.heap[w.heap.size+1+1+1+1]?=some (.cells #[.int .u64 (o.f:Int),.int .i64 o.k,.int .i64 o.v] 92 (0,0)))∧Below w.heap.size w wr) (fun i _=>(intOf i).toNat)
 case atStart =>
  refine ⟨0,c.f,⟨0,c.k,c.v⟩,Nat.zero_le _,hf,rfl,(fun i=>by simp),rfl,?_,?_,((((((Below.refl _ _).alloc (Nat.le_refl _) _).alloc (by simp) _).alloc (by simp;omega) _).alloc (by simp;omega) _).alloc (by simp;omega) _)⟩
  ·show _=_
   rw [heap_alloc_old _ _ (by simp),heap_alloc_old _ _ (by simp),heap_alloc_old _ _ (by simp),show w.heap.size+1=(w.alloc (.cells #[.int .u64 (c.f:Int),.int .i64 c.k,.int .i64 c.v] 92)).heap.size by simp,heap_alloc_new]
  ·show _=_
   rw [show w.heap.size+1+1+1+1=((((w.alloc (.cells #[.int .u64 (c.f:Int),.int .i64 c.k,.int .i64 c.v] 92)).alloc (.cells #[.int .u64 0,.int .i64 0,.int .i64 0] 92)).alloc (.cells #[.int .u64 0,.int .i64 c.k,.int .i64 c.v] 92)).alloc (.cells #[.int .u64 0,.int .i64 c.k,.int .i64 c.v] 92)).heap.size by simp,heap_alloc_new]
   rfl
 case round =>
  obtain ⟨k,x,o,hk,hx64,rfl,HX,HO,B1,B2,hb⟩:=hrel
  obtain ⟨o0,o1,o2,of⟩:=oS B2.out
  have o4:=of 0;have o5:=of 1;have o6:=of 2
  clear of
  by_cases hx0:x=0
  ·have hall:∀ i,k≤i→i < row.length→c.f.testBit i=false:=fun i h1 _=>by
    have:=HX.out i
    rw [hx0,Nat.zero_testBit] at this
    simp [h1] at this
    exact this
   have HE:Hid (o=z):=by show o=z;rw [← HO.out,← HZ.out];exact (uG hk hall).symm
   have hx00:(x:Int)=0:=by omega
   subst hx0
   obtain ⟨d0,d1,d2,df⟩:=oS B1.out
   have d4:=df 0;have d5:=df 1;have d6:=df 2
   clear df hx00 hall
   go_wp2
   refine bodyPost_ret (v:=.agg #[.int .u64 (o.f:Int),.int .i64 o.k,.int .i64 o.v]) ?_ rfl ⟨by rw [HE.out],?_⟩
   ·simp [results,results123,go_sem,d0,d1,d2]
   ·exact (((hb.setCell (p:=⟨w.heap.size+1,0,none⟩) (by simp) _).setCell (p:=⟨w.heap.size+1,1,none⟩) (by simp) _).setCell (p:=⟨w.heap.size+1,2,none⟩) (by simp) _)
  ·obtain ⟨j,hj⟩:∃ j,Lib.ctz 64 x=j:=⟨_,rfl⟩
   have hbx:x.testBit j=true:=by rw [← hj];exact Jr hx0 hx64
   have hbc:c.f.testBit j=true∧k≤j:=by
    have:=HX.out j
    rw [hbx] at this
    simpa using this.symm
   have hjr:j < row.length:=HIN.out j hbc.1
   have hskip:mN row c j=o:=by
    rw [uG hbc.2 (fun i h1 h2=>?_)]
    ·exact HO.out
    ·have h3:=HX.out i
     rw [wO hx0 hx64 (by omega)] at h3
     simp [h1] at h3
     exact h3
   obtain ⟨ba,offa,y,rfl,hy,hba,a0,a1,a2⟩:=(HRA.out.below hb).at_ hjr
   obtain ⟨t,htt⟩:∃ t,join o y=t:=⟨_,rfl⟩
   have HN:Hid (mN row c (j+1)=t):=(E1 hbc.1 hy).trans (by rw [hskip,htt])
   have OO:Hid o.ok:=by rw [← HO.out];exact sS HC.out HOK.out k
   have OY:=Lib.hid (HOK.out j y hy)
   have HTT:=Lib.hid htt
   have HJ:=Lib.hid hj
   have HX2:Hid (∀ i,(x &&& (x - 1)).testBit i=(c.f.testBit i && decide (j+1≤i))):=by
    intro i
    rw [Lx hx0 hx64,hj]
    by_cases h1:i < j
    ·rw [wO hx0 hx64 (by omega)]
     have e9:¬ (j+1≤i):=by omega
     simp [e9]
    ·rw [HX.out i]
     by_cases h2:i=j
     ·subst h2;simp
     ·have e1:k≤i:=by omega
      have e2:j+1≤i:=by omega
      simp [e1,e2,h2]
   have hlt2:x &&& (x - 1) < x:=N4 hx0
   have hxp:(1:Int)≤(x:Int):=by omega
   have hand:bits .and .u64 (x:Int) ((x:Int) - 1)=((x &&& (x - 1):Nat):Int):=by
    rw [← O0 x (x - 1) hx64 (by omega)]
    congr 1
    omega
   obtain ⟨x',hx'⟩:∃ x',x'=x &&& (x - 1):=⟨_,rfl⟩
   rw [← hx'] at HX2 hlt2 hand
   have hne:((x:Int) != 0)=true:=by simp;omega
   have hx9:(x:Int)≤18446744073709551615:=by omega
   have g0:(0:Int)≤(j:Int):=by omega
   have g3:(j:Int) < (row.length:Int):=by omega
   have HX':=Lib.hid hx'
   have HNE:=Lib.hid hx0
   have HBC:=Lib.hid hbc
   clear hbx hbc hskip hy htt hj hx' hx0
   go_wp2_with fail
   go_region_with (first | (go_at_call 129;refine (Lw x HNE.out hx64 _ (HT.out.below (by repeat (first | exact hb | refine Below.drew ?_)))).mono ?_;rintro e w4 ⟨rfl,rfl⟩;rw [HJ.out]) | (go_at_call 126;refine (zY o y t OO.out OY.out HTT.out _).mono ?_;rintro e w3 ⟨rfl,hb3⟩;have hB3:Below wr.heap.size wr w3:=Below.trans (by repeat (first | exact Below.refl _ _ | refine Below.drew ?_)) hb3;have D1:=Lib.hid (uY B1.out hB3);have D2:=Lib.hid (uY B2.out hB3);obtain ⟨e0,e1,e2,ef⟩:=oS D2.out;have e4:=ef 0;have e5:=ef 1;have e6:=ef 2;clear ef))
   all_goals
    have N2:=Lib.hid (Mk (a':=.int .u64 (t.f:Int)) (b':=.int .i64 t.k) (c':=.int .i64 t.v) D2.out)
    have N1:=Lib.hid (E2 (B:=w.heap.size+1+1+1+1) (a':=.int .u64 (t.f:Int)) (b':=.int .i64 t.k) (c':=.int .i64 t.v) (by omega) D1.out)
    have NB:=Lib.hid ((((hb.trans (hB3.mono hb.size)).setCell (p:=⟨w.heap.size+1+1+1+1,0,none⟩) (by simp;omega) (.int .u64 (t.f:Int))).setCell (p:=⟨w.heap.size+1+1+1+1,1,none⟩) (by simp;omega) (.int .i64 t.k)).setCell (p:=⟨w.heap.size+1+1+1+1,2,none⟩) (by simp;omega) (.int .i64 t.v))
    clear e0 e1 e2 e4 e5 e6 hb3
    go_wp2
    go_roundw
    case rel=>exact ⟨j+1,x',t,by omega,by omega,by first | rfl | rw [hand],HX2,HN,N1,N2,NB.out⟩
    case measure=>simp [intOf];omega
def fZ (xs ys:List Cl):List Cl:=ys.map (ofC xs)
def thenR (d:Int) (xs ys:List Cl):List Cl:=if mF d xs ys=0 then fZ xs ys else []
theorem E3 {xs ys:List Cl} {n:Nat} (h2:ys.length=n):(fZ xs ys).length=n:=by simp [fZ,h2]
theorem E4 {w w':World} {B q:Nat} {o2:Nat} {u0 u1 u2:Value} (hb:Below B w w') (hq:q < B)
  (h:w.cell? ⟨q,o2,none⟩=some u0∧w.cell? ⟨q,o2+1,none⟩=some u1∧w.cell? ⟨q,o2+2,none⟩=some u2) :
  w'.cell? ⟨q,o2,none⟩=some u0∧w'.cell? ⟨q,o2+1,none⟩=some u1∧w'.cell? ⟨q,o2+2,none⟩=some u2:=by
 obtain ⟨b0,b1,b2⟩:=h
 exact ⟨(hb.cell (p:=⟨q,_,none⟩) hq).trans b0,(hb.cell (p:=⟨q,_,none⟩) hq).trans b1,(hb.cell (p:=⟨q,_,none⟩) hq).trans b2⟩
def z0:Cl:=⟨0,0,0⟩
theorem Ab (n:Nat):(madeCells (Value.agg #[.int .u64 0,.int .i64 0,.int .i64 0]).cells (n * 3)).toList=flat (List.replicate n z0):=by
 have hc:(Value.agg #[.int .u64 0,.int .i64 0,.int .i64 0]).cells=#[.int .u64 0,.int .i64 0,.int .i64 0]:=rfl
 rw [hc]
 apply List.ext_getElem?
 intro j
 by_cases hj:j < n * 3
 ·have e:(List.replicate n z0)[j / 3]?=some z0:=by rw [List.getElem?_replicate,if_pos (by omega)]
  obtain ⟨f0,f1,f2⟩:=nT e
  have hr:j % 3=0∨j % 3=1∨j % 3=2:=by omega
  have hlt:j < (madeCells #[Value.int .u64 0,.int .i64 0,.int .i64 0] (n * 3)).toList.length:=by simp [madeCells];exact hj
  rcases hr with h | h | h
  ·have ej:j=j / 3 * 3:=by omega
   rw [← ej] at f0
   rw [f0,List.getElem?_eq_getElem hlt]
   simp [madeCells,h,z0]
  ·have ej:j=j / 3 * 3+1:=by omega
   rw [← ej] at f1
   rw [f1,List.getElem?_eq_getElem hlt]
   simp [madeCells,h,z0]
  ·have ej:j=j / 3 * 3+2:=by omega
   rw [← ej] at f2
   rw [f2,List.getElem?_eq_getElem hlt]
   simp [madeCells,h,z0]
 ·rw [List.getElem?_eq_none (by simp [madeCells];omega),List.getElem?_eq_none (by rw [mH];simp;omega)]
theorem Ac {full:List Cl} {n k:Nat} {z:Cl} (hl:full.length=n) (hz:full[k]?=some z):(full.take k++List.replicate (n - k) z0).set k z=full.take (k+1)++List.replicate (n - (k+1)) z0:=by
 obtain ⟨hk,ex⟩:=List.getElem?_eq_some_iff.1 hz
 have hl2:(full.take k).length=k:=by simp;omega
 rw [List.set_append_right _ _ (by omega),hl2,Nat.sub_self,show n - k=(n - (k+1))+1 by omega,List.replicate_succ,List.set_cons_zero,List.take_succ_eq_append_getElem hk,List.append_assoc,ex]
 rfl
theorem J0 {full:List Cl} {n k:Nat} (hl:full.length=n) (hk:k < n):(full.take k++List.replicate (n - k) z0)[k]?=some z0:=by
 have hl2:(full.take k).length=k:=by simp;omega
 rw [List.getElem?_append_right (by omega),hl2,Nat.sub_self,List.getElem?_replicate,if_pos (by omega)]
theorem O1 {full:List Cl} {n k:Nat} (hl:full.length=n) (hk:k≤n):(full.take k++List.replicate (n - k) z0).length=n:=by simp;omega
theorem okAt_in {n:Nat} {c:Cl} (hf:c.f < 18446744073709551616) (h:kV n c=true) (i:Nat) (hb:c.f.testBit i=true):i < n:=by
 have h1:iW n c.f=true:=by
  unfold kV kM at h
  cases hi:iW n c.f
  ·rw [hi] at h;simp at h
  ·rfl
 rcases Nat.lt_or_ge i n with hi | hi
 ·exact hi
 ·rcases Nat.lt_or_ge i 64 with h64 | h64
  ·rw [(El n c.f hf).1 h1 i hi h64] at hb;cases hb
  ·rw [Nat.testBit_lt_two_pow (Nat.lt_of_lt_of_le hf (Nat.le_trans (by decide:18446744073709551616≤2 ^ 64) (Nat.pow_le_pow_right (by decide) h64)))] at hb;cases hb
set_option maxHeartbeats 2000000 in
theorem O4 (d:Int) (a b:Option Addr) (capa capb:Nat) (xs ys:List Cl) (w:World) (ht:Tabs w) (hma:xs.length≤maxLen) (hmb:ys.length≤maxLen) (hra:fN w a xs) (hrb:fN w b ys) (hba:nR xs) (hbb:nR ys) (c:Int) (hc:mF d xs ys=c) :
  Calls prog 101 #[.int .i64 d,.slice a xs.length capa,.slice b ys.length capb] w (jA (thenR d xs ys) c w):=by
 have HT:=Lib.hid ht
 have HMA:=Lib.hid hma;have HMB:=Lib.hid hmb;have HRA:=Lib.hid hra;have HRB:=Lib.hid hrb;have HBA:=Lib.hid hba;have HBB:=Lib.hid hbb
 have HC:=Lib.hid hc
 clear ht hma hmb hra hrb hba hbb
 by_cases h0:c=0
 ·subst h0
  obtain ⟨k1,k2⟩:=xA hc
  obtain ⟨d0,d1,la,oka⟩:=lJ k1
  obtain ⟨_,_,lb,okb⟩:=lJ k2
  obtain ⟨n,rfl⟩:∃ n:Nat,d=n:=⟨d.toNat,by omega⟩
  have hla:xs.length=n:=by omega
  have hlb:ys.length=n:=by omega
  have HR:=Lib.hid (show thenR n xs ys=fZ xs ys by simp [thenR,hc])
  have HN:=Lib.hid (E3 (xs:=xs) hlb)
  have OKA:=Lib.hid oka;have OKB:=Lib.hid okb
  have ga1:n≤xs.length:=by omega
  have gb1:n≤ys.length:=by omega
  have ga2:xs.length≤n:=by omega
  have gb2:ys.length≤n:=by omega
  have hn:n≤64:=by omega
  obtain ⟨i0,hi,hz0,hz1,hz2⟩:=info_parts Or
  clear hc k1 k2 d0 d1 la oka lb okb hla hlb
  go_enter func101,ntmps101
  go_wp2_with fail
  refine (kA _ a b capa capb xs ys _ HMA.out HMB.out HRA.out HRB.out HBA.out HBB.out 0 HC.out).mono ?_
  rintro e w1 ⟨rfl,hb1⟩
  go_wp2_with (at_make;refine wpList_make_full _ rfl (.tmp 18) (.tmp 18) 50 rfl w.heap.size 92 i0 _ 3 underlying50 hi hz0 hz1 .i64 .i64 (n:Int) (n:Int) n rfl rfl rfl rfl (by rw [hz2];omega) (by unfold maxLen;omega) hb1.size ?_;intro w2 hown2 hgrow2)
  have HO1:Hid (w2.ownsRow w.heap.size 92 3 (.slice (some ⟨w1.heap.size,0,none⟩) n n) n (flat ((fZ xs ys).take 0++List.replicate (n - 0) z0))):=by
   rw [List.take_zero,List.nil_append,Nat.sub_zero,← Ab];exact hown2
  have hb2:Below w.heap.size w w2:=hb1.grown hgrow2 hb1.size (fun j e=>by cases e)
  have hsz:=hb1.size
  clear hown2
  go_wp2_with fail
  go_loopw [21] (fun i wr=>∃ k:Nat,k≤n∧i = .int .i64 k∧Hid (wr.ownsRow w.heap.size 92 3 (.slice (some ⟨w1.heap.size,0,none⟩) n n) n (flat ((fZ xs ys).take k++List.replicate (n - k) z0)))∧Below w.heap.size w wr) (fun i _=>n - (intOf i).toNat)
  case atStart=>exact ⟨0,Nat.zero_le _,rfl,HO1,hb2⟩
  case round =>
   obtain ⟨k,hk,rfl,HO,hb⟩:=hrel
   by_cases hlt:k < n
   ·obtain ⟨bb,offb,y,rfl,hy,hbb,b0,b1,b2⟩:=HRB.out.at_ (show k < ys.length by omega)
    have HF:Hid (_∧_∧_):=⟨b0,b1,b2⟩
    clear b0 b1 b2
    obtain ⟨b0,b1,b2⟩:=E4 hb hbb HF.out
    have OY:=Lib.hid (Bx HBB.out OKB.out hy)
    have OIN:Hid (∀ i,y.f.testBit i=true→i < xs.length):=fun i h=>Nat.lt_of_lt_of_le (okAt_in OY.out.1 (List.all_eq_true.1 OKB.out y (List.mem_of_getElem? hy)) i h) (by omega)
    have OAL:Hid (∀ (i:Nat) x,xs[i]?=some x→x.ok):=fun i x hi=>Bx HBA.out OKA.out hi
    obtain ⟨z,hz⟩:∃ z,ofC xs y=z:=⟨_,rfl⟩
    have HZ:=Lib.hid (Ac (full:=fZ xs ys) (n:=n) (k:=k) (z:=z) HN.out (by rw [← hz];simp [fZ,hy]))
    have HA:=Lib.hid (J0 (full:=fZ xs ys) (n:=n) HN.out hlt)
    have HLEN:=Lib.hid (O1 (full:=fZ xs ys) (n:=n) HN.out hk)
    have HJ:=Lib.hid hz
    clear hy hz
    have g0:(0:Int)≤(k:Int):=by omega
    have g2:(k:Int) < (ys.length:Int):=by omega
    have g3:(k:Int) < (n:Int):=by omega
    go_wp2_with (go_at_call 123;refine (Ml a capa xs y _ (HT.out.below hb) (by omega) (HRA.out.below hb) OAL.out OY.out OIN.out z HJ.out).mono ?_;rintro e w3 ⟨rfl,hb3⟩;have hB3:Below wr.heap.size wr w3:=hb3;have o3:=zX HO.out hB3;have f3:=nT HA.out;have e0:=(o3.cellAt (k * 3) (by omega)).trans f3.1;have e1:=(o3.cellAt (k * 3+1) (by omega)).trans f3.2.1;have e2:=(o3.cellAt (k * 3+2) (by omega)).trans f3.2.2;have q0:=o3.frozenAt (k * 3);have q1:=o3.frozenAt (k * 3+1);have q2:=o3.frozenAt (k * 3+2);have O3:=Lib.hid o3;clear o3 f3)
    have HS:=Lib.hid (xB O3.out (by rw [HLEN.out];exact hlt) z)
    rw [HZ.out] at HS
    have HB:Hid (Below w.heap.size w (((w3.setCell ⟨w1.heap.size,k * 3,none⟩ (.int .u64 (z.f:Int))).setCell ⟨w1.heap.size,k * 3+1,none⟩ (.int .i64 z.k)).setCell ⟨w1.heap.size,k * 3+2,none⟩ (.int .i64 z.v))):=(((hb.trans (hB3.mono hb.size)).setCell (p:=⟨w1.heap.size,k * 3,none⟩) hsz _).setCell (p:=⟨w1.heap.size,k * 3+1,none⟩) hsz _).setCell (p:=⟨w1.heap.size,k * 3+2,none⟩) hsz _
    clear e0 e1 e2 q0 q1 q2 O3
    go_wp2
    go_roundw
    case rel=>exact ⟨k+1,by omega,by go_num,HS,HB.out⟩
    case measure=>simp [intOf];omega
   ·obtain rfl:n=k:=by omega
    have HE:Hid (wr.ownsRow w.heap.size 92 3 (.slice (some ⟨w1.heap.size,0,none⟩) n n) n (flat (thenR n xs ys))):=by
     have:=HO.out
     rw [List.take_of_length_le (by rw [HN.out];exact Nat.le_refl _),Nat.sub_self,List.replicate_zero,List.append_nil] at this
     rw [HR.out];exact this
    go_wp2
    go_ret2
    exact Bw HE.out hb 0
 ·have HR:=Lib.hid (show thenR d xs ys=[] by simp [thenR,hc,h0])
  have hne:(c != 0)=true:=by simpa using h0
  clear hc h0
  go_enter func101,ntmps101
  go_wp2_with fail
  refine (kA _ a b capa capb xs ys _ HMA.out HMB.out HRA.out HRB.out HBA.out HBB.out c HC.out).mono ?_
  rintro e w1 ⟨rfl,hb1⟩
  go_wp2
  go_ret2
  rw [HR.out]
  exact nU c hb1
def E5 (k:Nat):Cl:=⟨2 ^ k,0,0⟩
def gA (n:Nat):List Cl:=(List.range n).map E5
def xC (d:Int):List Cl:=if oN d=0 then gA d.toNat else []
theorem kE (n:Nat):(gA n).length=n:=by simp [gA]
theorem Bz {n k:Nat} (hk:k < n):(gA n)[k]?=some (E5 k):=by
 simp [gA,List.getElem?_range hk]
theorem Mm {n k:Nat} (hk:k < n):(gA n).take (k+1)=(gA n).take k++[E5 k]:=by
 obtain ⟨h,e⟩:=List.getElem?_eq_some_iff.1 (Bz hk)
 rw [List.take_succ_eq_append_getElem h,e]
theorem pow_u64 {k:Nat} (hk:k < 64):IntKind.u64.wrap (2 ^ k:Int)=((2 ^ k:Nat):Int):=by
 have h:2 ^ k < 18446744073709551616:=Nat.lt_of_lt_of_le (Nat.pow_lt_pow_right (by decide) hk) (by decide)
 have e:(2 ^ k:Int)=((2 ^ k:Nat):Int):=by simp
 rw [e]
 generalize 2 ^ k=q at h
 simp [IntKind.wrap,IntKind.signed,IntKind.bits]
 omega
theorem Ad:∀ (cs:List Cl) (i:Nat) (f f':Nat),cs[i]?=some ⟨f,0,0⟩→(flat cs).set (i * 3) (.int .u64 (f':Int))=flat (cs.set i ⟨f',0,0⟩)
 | [],i,f,f',h=>by simp at h
 | x::r,0,f,f',h=>by
  simp at h;subst h
  simp [iP,vN]
 | x::r,i+1,f,f',h=>by
  have ih:=Ad r i f f' (by simpa using h)
  have e0:(i+1) * 3=i * 3+3:=by omega
  rw [e0,iP,List.set_cons_succ,iP,← ih]
  simp [vN]
theorem Hq {w:World} {base g n cap k:Nat} {E:Nat} {cs:List Cl} {f:Nat} (h:w.ownsRow base E 3 (.slice (some ⟨g,0,none⟩) n cap) n (flat cs)) (hk:cs[k]?=some ⟨f,0,0⟩) (f':Nat) :
  (w.setCell ⟨g,k * 3,none⟩ (.int .u64 (f':Int))).ownsRow base E 3 (.slice (some ⟨g,0,none⟩) n cap) n (flat (cs.set k ⟨f',0,0⟩)):=by
 rw [← Ad cs k f f' hk]
 exact (h.stored (k * 3) _).1
set_option maxHeartbeats 2000000 in
theorem O5 (n:Nat) (w:World) (hn:n≤64):Calls prog 120 #[.int .i64 n] w (uE (gA n) w):=by
 obtain ⟨i0,hi,hz0,hz1,hz2⟩:=info_parts Or
 have HN:=Lib.hid (kE n)
 go_enter func120,ntmps120
 go_wp2_with (at_make;refine wpList_make_full _ rfl (.tmp 5) (.tmp 5) 50 rfl w.heap.size 92 i0 _ 3 underlying50 hi hz0 hz1 .i64 .i64 (n:Int) (n:Int) n rfl rfl rfl rfl (by rw [hz2];omega) (by unfold maxLen;omega) (Nat.le_refl _) ?_;intro w2 hown2 hgrow2)
 have HO1:Hid (w2.ownsRow w.heap.size 92 3 (.slice (some ⟨w.heap.size,0,none⟩) n n) n (flat ((gA n).take 0++List.replicate (n - 0) z0))):=by
  rw [List.take_zero,List.nil_append,Nat.sub_zero,← Ab];exact hown2
 have hb2:Below w.heap.size w w2:=(Below.refl _ _).grown hgrow2 (Nat.le_refl _) (fun j e=>by cases e)
 clear hown2
 go_wp2_with fail
 go_loopw [8] (fun i wr=>∃ k:Nat,k≤n∧i = .int .i64 k∧Hid (wr.ownsRow w.heap.size 92 3 (.slice (some ⟨w.heap.size,0,none⟩) n n) n (flat ((gA n).take k++List.replicate (n - k) z0)))∧Below w.heap.size w wr) (fun i _=>n - (intOf i).toNat)
 case atStart=>exact ⟨0,Nat.zero_le _,rfl,HO1,hb2⟩
 case round =>
  obtain ⟨k,hk,rfl,HO,hb⟩:=hrel
  by_cases hlt:k < n
  ·have HZ:=Lib.hid (Ac (full:=gA n) (n:=n) (k:=k) HN.out (Bz hlt))
   have HA:=Lib.hid (J0 (full:=gA n) (n:=n) HN.out hlt)
   have HW:=Lib.hid (pow_u64 (k:=k) (by omega))
   have f3:=nT HA.out
   have e0:=(HO.out.cellAt (k * 3) (by omega)).trans f3.1
   have q0:=HO.out.frozenAt (k * 3)
   clear f3
   have g0:(0:Int)≤(k:Int):=by omega
   have g1:k < 64:=by omega
   have g2:(k:Int) < 64:=by omega
   have g3:(k:Int) < (n:Int):=by omega
   have HS:=Lib.hid (Hq HO.out HA.out (2 ^ k))
   rw [show (⟨2 ^ k,0,0⟩:Cl)=E5 k from rfl,HZ.out,← HW.out] at HS
   have HB:Hid (Below w.heap.size w (wr.setCell ⟨w.heap.size,k * 3,none⟩ (.int .u64 (IntKind.u64.wrap (2 ^ k))))):=hb.setCell (p:=⟨w.heap.size,k * 3,none⟩) (Nat.le_refl _) _
   go_wp2
   go_roundw
   case rel=>exact ⟨k+1,by omega,by go_num,HS,HB.out⟩
   case measure=>simp [intOf];omega
  ·obtain rfl:n=k:=by omega
   have HE:Hid (wr.ownsRow w.heap.size 92 3 (.slice (some ⟨w.heap.size,0,none⟩) n n) n (flat (gA n))):=by
    have:=HO.out
    rw [List.take_of_length_le (by rw [HN.out];exact Nat.le_refl _),Nat.sub_self,List.replicate_zero,List.append_nil] at this
    exact this
   go_wp2
   go_ret
   exact ⟨_,rfl,by rw [HN.out];exact HE.out,hb⟩
theorem Ca {cs:List Cl} {w w1 w2:World} {v:Value} (hb1:Below w.heap.size w w1) (hown:w2.ownsRow w1.heap.size 92 3 v cs.length (flat cs)) (hb2:Below w1.heap.size w1 w2) (err:Int):jA cs err w (.returned (.tuple #[v,.int .i64 err])) w2:=by
 obtain ⟨_,a2,cap2,rfl,hr2,hf2⟩:=fF hown
 exact ⟨a2,cap2,rfl,hr2,fun ad e=>⟨Nat.le_trans hb1.size (hf2 ad e).1,(hf2 ad e).2.2⟩,hb1.trans (hb2.mono hb1.size)⟩
theorem Hr {d:Int} (h:oN d=0):∃ n:Nat,d=n∧n≤64:=by
 by_cases hd:d < 0∨64 < d
 ·simp [oN,hd] at h
 ·exact ⟨d.toNat,by omega,by omega⟩
set_option maxHeartbeats 2000000 in
theorem one_any (d:Int) (w:World) (c:Int) (hc:oN d=c) :
  Calls prog 96 #[.int .i64 d] w (jA (xC d) c w):=by
 have HC:=Lib.hid hc
 by_cases h0:c=0
 ·subst h0
  obtain ⟨n,rfl,hn⟩:=Hr hc
  have HR:=Lib.hid (show xC n=gA n by simp [xC,hc])
  clear hc
  go_enter func96,ntmps96
  go_wp2_with (go_at_call 119;refine (kD _ _ 0 HC.out).mono ?_;rintro e w' ⟨rfl,rfl⟩)
  refine (O5 n _ hn).mono ?_
  rintro e w2 ⟨v,rfl,hown,hb2⟩
  have HO:=Lib.hid hown
  clear hown
  go_wp2
  go_ret2
  rw [HR.out]
  exact Ca (Below.refl _ _) HO.out hb2 0
 ·have HR:=Lib.hid (show xC d=[] by simp [xC,hc,h0])
  have hne:(c != 0)=true:=by simpa using h0
  clear hc h0
  go_enter func96,ntmps96
  go_wp2_with (go_at_call 119;refine (kD _ _ c HC.out).mono ?_;rintro e w' ⟨rfl,rfl⟩)
  go_ret2
  rw [HR.out]
  exact nU c (Below.refl _ _)
structure IsCells (w:World) (a:Option Addr) (len cap:Nat) (xs:List Cl):Prop where
 len:len=xs.length
 max:xs.length≤maxLen
 row:fN w a xs
 bits:nR xs
set_option linter.unusedSimpArgs false
def Oks (xs:List Cl):Prop:=∀ (i:Nat) x,xs[i]?=some x→x.ok
set_option linter.unusedSimpArgs false
theorem lT {n:Nat} {c:Cl}:kV n c=true↔c.f < 2 ^ n∧eH c.f c.k c.v=true:=by
 unfold kV kM iW
 rw [Bool.and_eq_true,beq_iff_eq,Nat.div_eq_zero_iff]
 constructor
 ·rintro ⟨h | h,h2⟩
  ·have:=Nat.two_pow_pos n;omega
  ·exact ⟨h,h2⟩
 ·rintro ⟨h,h2⟩;exact ⟨.inr h,h2⟩
theorem oT {n f:Nat} (hn:n≤64) (h:f < 2 ^ n):f < 18446744073709551616 :=
 Nat.lt_of_lt_of_le h (Nat.le_trans (Nat.pow_le_pow_right (by decide) hn) (by decide))
structure Val (n:Nat) (xs:List Cl):Prop where
 le:n≤64
 len:xs.length=n
 ok:∀ (i:Nat) c,xs[i]?=some c→kV n c=true
theorem Val.oks {n:Nat} {xs:List Cl} (h:Val n xs):Oks xs:=fun i c hi=>by
 obtain ⟨h1,h2⟩:=lT.1 (h.ok i c hi)
 exact ⟨oT h.le h1,h2⟩
theorem Val.bits {n:Nat} {xs:List Cl} (h:Val n xs):nR xs:=fun c hc=>by
 obtain ⟨i,hi,e⟩:=List.mem_iff_getElem.1 hc
 exact (h.oks i c (by rw [← e];exact List.getElem?_eq_getElem hi)).1
theorem Val.chk {n:Nat} {xs:List Cl} (h:Val n xs):kN n xs=0:=by
 refine tZ h.le h.len (Nat.le_refl _) ?_
 rw [List.take_length,List.all_eq_true]
 intro c hc
 obtain ⟨i,hi,e⟩:=List.mem_iff_getElem.1 hc
 exact h.ok i c (by rw [← e];exact List.getElem?_eq_getElem hi)
theorem Val.chk2 {n:Nat} {xs ys:List Cl} (h:Val n xs) (h2:Val n ys):mF n xs ys=0:=by
 unfold mF
 rw [h.chk,h2.chk];rfl
theorem val_of {d:Int} {xs:List Cl} (h:kN d xs=0):∃ n:Nat,d=n∧Val n xs:=by
 obtain ⟨d0,d1,la,oka⟩:=lJ h
 refine ⟨d.toNat,by omega,by omega,by omega,fun i c hi=>?_⟩
 exact List.all_eq_true.1 oka c (List.mem_of_getElem? hi)
theorem Ae {n:Nat} {a b:Cl} (ha:kV n a=true) (hb:kV n b=true) (hn:n≤64):kV n (join a b)=true:=by
 obtain ⟨h1,h2⟩:=lT.1 ha
 obtain ⟨h3,h4⟩:=lT.1 hb
 have h5:=Jz (a:=a) (b:=b) ⟨oT hn h1,h2⟩ ⟨oT hn h3,h4⟩
 refine lT.2 ⟨?_,h5.2⟩
 show (if joinK a.k a.v b.k b.v=2 then 0 else a.f ||| b.f) < 2 ^ n
 split
 ·exact Nat.two_pow_pos n
 ·exact Nat.or_lt_two_pow h1 h3
theorem xD {n:Nat} {xs ys:List Cl} (hx:Val n xs) (hy:Val n ys):Val n (eN xs ys):=by
 refine ⟨hx.le,by simp [eN,hx.len,hy.len],fun i c hi=>?_⟩
 simp [eN,List.getElem?_zipWith] at hi
 split at hi
 ·rename_i a b ha hb
  cases hi
  exact Ae (hx.ok i a ha) (hy.ok i b hb) hx.le
 ·cases hi
theorem Af {n:Nat} {xs:List Cl} (hx:Val n xs) {c:Cl} (hc:kV n c=true):∀ m,kV n (mN xs c m)=true
 | 0=>lT.2 ⟨Nat.two_pow_pos n,uX (lT.1 hc).2⟩
 | m+1=>by
  have ih:=Af hx hc m
  rw [qD,uF]
  split
  ·split
   ·rename_i a h;exact Ae ih (hx.ok m a h) hx.le
   ·exact ih
  ·exact ih
theorem xE {n:Nat} {xs ys:List Cl} (hx:Val n xs) (hy:Val n ys):Val n (fZ xs ys):=by
 refine ⟨hx.le,by simp [fZ,hy.len],fun i c hi=>?_⟩
 simp [fZ] at hi
 obtain ⟨y,h1,rfl⟩:=hi
 exact Af hx (hy.ok i y h1) _
theorem E6 {n:Nat} (hn:n≤64):Val n (gA n):=by
 refine ⟨hn,kE n,fun i c hi=>?_⟩
 have h1:i < n:=by rw [← kE n];exact (List.getElem?_eq_some_iff.1 hi).1
 rw [Bz h1] at hi
 cases hi
 exact lT.2 ⟨Nat.pow_lt_pow_right (by decide) h1,by simp [eH,E5]⟩
structure PF where
 z:Bool
 c:Int
 g:Nat
 rows:List Nat
 cells:List Cl
def WF.pf (f:WF):PF:=⟨f.z,f.c,f.g,f.rows,f.cells⟩
def eW:PF:=⟨true,0,0,[],[]⟩
def pC (c:Int):PF:=⟨false,c,0,[],[]⟩
def pF (g:Nat) (rows:List Nat):PF:=⟨false,0,g,rows,[]⟩
def pX (cs:List Cl):PF:=⟨false,0,0,[],cs⟩
inductive OkP (t n:Int):PF→Prop
 | zero:OkP t n eW
 | bool (h:t=1):OkP t n (pC 0)
 | cost (c:Int) (h:t=2) (h0:0≤c) (h1:c≤n):OkP t n (pC c)
 | facts (m g:Nat) (rows:List Nat) (h:t=3) (hn:n=(m:Int)) (hg:Good m g rows):OkP t n (pF g rows)
 | cells (m:Nat) (cs:List Cl) (h:t=4) (hn:n=(m:Int)) (hv:Val m cs):OkP t n (pX cs)
def eO (t n:Int) (a b:PF):PF :=
 if a.z=true then b else if b.z=true then a else if t=2 then pC (min a.c b.c) else if t=3 then pF (oJ n a.g a.rows b.g b.rows) (nC n a.g a.rows b.g b.rows) else if t=4 then pX (eN a.cells b.cells) else pC 0
def gE (t n:Int) (a b:PF):PF :=
 if a.z=true then eW else if b.z=true then eW else if t=2 then pC (min (a.c+b.c) n) else if t=3 then pF (vM n a.g a.rows b.g b.rows) (uC n a.g a.rows b.g b.rows) else if t=4 then pX (fZ a.cells b.cells) else pC 0
def gM (t n:Int):PF:=if t=3 then pF 0 (iZ n.toNat) else if t=4 then pX (gA n.toNat) else pC 0
theorem E7 {n:Int} {a:PF} (h:OkP 1 n a):a=eW∨a=pC 0:=by
 cases h with
 | zero=>exact .inl rfl
 | bool h=>exact .inr rfl
 | cost c h h0 h1=>omega
 | facts m g rows h=>omega
 | cells m cs h=>omega
theorem E8 {n:Int} {a:PF} (h:OkP 2 n a):a=eW∨∃ c,a=pC c∧0≤c∧c≤n:=by
 cases h with
 | zero=>exact .inl rfl
 | bool h=>omega
 | cost c h h0 h1=>exact .inr ⟨c,rfl,h0,h1⟩
 | facts m g rows h=>omega
 | cells m cs h=>omega
theorem E9 {m:Nat} {a:PF} (h:OkP 3 m a):a=eW∨∃ g rows,a=pF g rows∧Good m g rows:=by
 cases h with
 | zero=>exact .inl rfl
 | bool h=>omega
 | cost c h h0 h1=>omega
 | facts k g rows h hn hg =>
  obtain rfl:m=k:=by omega
  exact .inr ⟨g,rows,rfl,hg⟩
 | cells m cs h=>omega
theorem Fa {m:Nat} {a:PF} (h:OkP 4 m a):a=eW∨∃ cs,a=pX cs∧Val m cs:=by
 cases h with
 | zero=>exact .inl rfl
 | bool h=>omega
 | cost c h h0 h1=>omega
 | facts k g rows h hn hg=>omega
 | cells k cs h hn hv =>
  obtain rfl:m=k:=by omega
  exact .inr ⟨cs,rfl,hv⟩
theorem kX {t n:Int} {l:Nat} (h:cA t n l=true):l=0∧((t=1∧n=0)∨(t=2∧0≤n∧n≤1048576)∨(t=3∧∃ m:Nat,n=m∧m≤64)∨(t=4∧∃ m:Nat,n=m∧m≤64)):=by
 obtain ⟨h0,ht⟩:=fK h
 obtain ⟨d0,d1,d2,d3⟩:=lR h
 refine ⟨h0,?_⟩
 rcases ht with rfl | rfl | rfl | rfl
 ·exact .inl ⟨rfl,d2 rfl⟩
 ·exact .inr (.inl ⟨rfl,d0,d1⟩)
 ·exact .inr (.inr (.inl ⟨rfl,n.toNat,by omega,by have:=d3 (.inl rfl);omega⟩))
 ·exact .inr (.inr (.inr ⟨rfl,n.toNat,by omega,by have:=d3 (.inr rfl);omega⟩))
section
variable {t n:Int} {l:Nat} {a b c:PF}
theorem nV:eO t n eW a=a:=by simp [eO,eW]
theorem qE (ha:OkP t n a):eO t n a eW=a:=by cases ha<;>simp [eO,eW,pC,pF,pX]
theorem xF:gE t n eW a=eW:=by simp [gE,eW]
theorem xG:gE t n a eW=eW:=by simp [gE,eW]
theorem O6:eO 1 n (pC 0) (pC 0)=pC 0:=by simp [eO,pC]
theorem Hs (x y:Int):eO 2 n (pC x) (pC y)=pC (min x y):=by simp [eO,pC]
theorem O7 (g h:Nat) (xs ys:List Nat):eO 3 n (pF g xs) (pF h ys)=pF (oJ n g xs h ys) (nC n g xs h ys):=by simp [eO,pF]
theorem Ht (xs ys:List Cl):eO 4 n (pX xs) (pX ys)=pX (eN xs ys):=by simp [eO,pX]
theorem ext_1:gE 1 n (pC 0) (pC 0)=pC 0:=by simp [gE,pC]
theorem O8 (x y:Int):gE 2 n (pC x) (pC y)=pC (min (x+y) n):=by simp [gE,pC]
theorem ext_3 (g h:Nat) (xs ys:List Nat):gE 3 n (pF g xs) (pF h ys)=pF (vM n g xs h ys) (uC n g xs h ys):=by simp [gE,pF]
theorem O9 (xs ys:List Cl):gE 4 n (pX xs) (pX ys)=pX (fZ xs ys):=by simp [gE,pX]
theorem one_1:gM 1 n=pC 0:=by simp [gM]
theorem one_2:gM 2 n=pC 0:=by simp [gM]
theorem one_3 (m:Nat):gM 3 m=pF 0 (iZ m):=by simp [gM]
theorem one_4 (m:Nat):gM 4 m=pX (gA m):=by simp [gM]
theorem vV (h:cA t n l=true):OkP t n (gM t n):=by
 rcases (kX h).2 with ⟨rfl,hn⟩ | ⟨rfl,h0,h1⟩ | ⟨rfl,m,rfl,hm⟩ | ⟨rfl,m,rfl,hm⟩
 ·rw [one_1];exact .bool rfl
 ·rw [one_2];exact .cost 0 rfl (by omega) h0
 ·rw [one_3];exact .facts m 0 _ rfl rfl (uD hm)
 ·rw [one_4];exact .cells m _ rfl rfl (E6 hm)
theorem xH (h:cA t n l=true) (ha:OkP t n a) (hb:OkP t n b):OkP t n (eO t n a b):=by
 rcases (kX h).2 with ⟨rfl,hn⟩ | ⟨rfl,h0,h1⟩ | ⟨rfl,m,rfl,hm⟩ | ⟨rfl,m,rfl,hm⟩
 ·rcases E7 ha with rfl | rfl<;>rcases E7 hb with rfl | rfl<;>simp only [nV,qE ha,O6]<;>assumption
 ·rcases E8 ha with rfl | ⟨x,rfl,hx⟩
  ·rw [nV];exact hb
  rcases E8 hb with rfl | ⟨y,rfl,hy⟩
  ·rw [qE ha];exact ha
  rw [Hs];exact .cost _ rfl (by omega) (by omega)
 ·rcases E9 ha with rfl | ⟨g,xs,rfl,hx⟩
  ·rw [nV];exact hb
  rcases E9 hb with rfl | ⟨g2,ys,rfl,hy⟩
  ·rw [qE ha];exact ha
  rw [O7];exact .facts m _ _ rfl rfl (hx.combT hy)
 ·rcases Fa ha with rfl | ⟨xs,rfl,hx⟩
  ·rw [nV];exact hb
  rcases Fa hb with rfl | ⟨ys,rfl,hy⟩
  ·rw [qE ha];exact ha
  rw [Ht];exact .cells m _ rfl rfl (xD hx hy)
theorem Cb (h:cA t n l=true) (ha:OkP t n a) (hb:OkP t n b):OkP t n (gE t n a b):=by
 rcases (kX h).2 with ⟨rfl,hn⟩ | ⟨rfl,h0,h1⟩ | ⟨rfl,m,rfl,hm⟩ | ⟨rfl,m,rfl,hm⟩
 ·rcases E7 ha with rfl | rfl<;>rcases E7 hb with rfl | rfl<;>simp only [xF,xG,ext_1]<;>assumption
 ·rcases E8 ha with rfl | ⟨x,rfl,hx⟩
  ·rw [xF];exact .zero
  rcases E8 hb with rfl | ⟨y,rfl,hy⟩
  ·rw [xG];exact .zero
  rw [O8];exact .cost _ rfl (by omega) (by omega)
 ·rcases E9 ha with rfl | ⟨g,xs,rfl,hx⟩
  ·rw [xF];exact .zero
  rcases E9 hb with rfl | ⟨g2,ys,rfl,hy⟩
  ·rw [xG];exact .zero
  rw [ext_3];exact .facts m _ _ rfl rfl (hx.extT hy)
 ·rcases Fa ha with rfl | ⟨xs,rfl,hx⟩
  ·rw [xF];exact .zero
  rcases Fa hb with rfl | ⟨ys,rfl,hy⟩
  ·rw [xG];exact .zero
  rw [O9];exact .cells m _ rfl rfl (xE hx hy)
end
inductive PS where
 | one (t n:Int)
 | two (t n u m:Int)
def PS.ok:PS→Prop
 | .one t n=>cA t n 0=true
 | .two t n u m=>cA t n 0=true∧cA u m 0=true
inductive PX where
 | one (a:PF)
 | two (a b:PF)
def OkX:PS→PX→Prop
 | .one t n,.one a=>OkP t n a
 | .two t n u m,.two a b=>OkP t n a∧OkP u m b
 | _,_=>False
def kT:PS→PX→PX→PX
 | .one t n,.one a,.one b=>.one (eO t n a b)
 | .two t n u m,.two a b,.two c d=>.two (eO t n a c) (eO u m b d)
 | _,x,_=>x
def kO:PS→PX→PX→PX
 | .one t n,.one a,.one b=>.one (gE t n a b)
 | .two t n u m,.two a b,.two c d=>.two (gE t n a c) (gE u m b d)
 | _,x,_=>x
def rH:PS→PX
 | .one t n=>.one (gM t n)
 | .two t n u m=>.two (gM t n) (gM u m)
def kF:PS→PX
 | .one _ _=>.one eW
 | .two _ _ _ _=>.two eW eW
section
variable {S:PS} {x y v:PX}
theorem one_okX (h:S.ok):OkX S (rH S):=by
 cases S with
 | one t n=>exact vV h
 | two t n u m=>exact ⟨vV h.1,vV h.2⟩
theorem Pa:OkX S (kF S):=by
 cases S with
 | one t n=>exact .zero
 | two t n u m=>exact ⟨.zero,.zero⟩
theorem Pb (h:S.ok) (hx:OkX S x) (hy:OkX S y):OkX S (kT S x y):=by
 cases S<;>cases x<;>cases y<;>first | exact hx.elim | exact hy.elim | exact xH h hx hy | exact ⟨xH h.1 hx.1 hy.1,xH h.2 hx.2 hy.2⟩
theorem ext_okX (h:S.ok) (hx:OkX S x) (hy:OkX S y):OkX S (kO S x y):=by
 cases S<;>cases x<;>cases y<;>first | exact hx.elim | exact hy.elim | exact Cb h hx hy | exact ⟨Cb h.1 hx.1 hy.1,Cb h.2 hx.2 hy.2⟩
theorem Hu (hx:OkX S x):kT S (kF S) x=x:=by
 cases S<;>cases x<;>first | exact hx.elim | (simp only [kT,kF,nV])
end
structure PIs (w:World) (t n:Int) (f:WF) (a:PF):Prop where
 at_:f.At w
 pf:f.pf=a
 ok:OkP t n a
 pl:f.pl=0
theorem PIs.below {w w':World} {t n:Int} {f:WF} {a:PF} (h:PIs w t n f a) (hb:Below w.heap.size w w'):PIs w' t n f a:=⟨h.at_.below hb,h.pf,h.ok,h.pl⟩
def XIs (w:World):PS→WF→PX→Prop
 | .one t n,f,.one a=>PIs w t n f a
 | .two t n u m,f,.two a b=>f.pf=pC 0∧f.rl=0∧f.cl=0∧f.pl=2∧∃ blk off g h,f.pa=some ⟨blk,off,none⟩∧W6 w blk off g∧W6 w blk (off+6) h∧PIs w t n g a∧PIs w u m h b
 | _,_,_=>False
theorem XIs.below {w w':World} {S:PS} {f:WF} {x:PX} (h:XIs w S f x) (hb:Below w.heap.size w w'):XIs w' S f x:=by
 cases S<;>cases x<;>first | exact h.elim | exact PIs.below h hb | skip
 obtain ⟨h1,h2,h3,h4,blk,off,g,k,h5,h6,h7,h8,h9⟩:=h
 exact ⟨h1,h2,h3,h4,blk,off,g,k,h5,h6.below hb,h7.below hb,h8.below hb,h9.below hb⟩
theorem XIs.ok {w:World} {S:PS} {f:WF} {x:PX} (h:XIs w S f x):OkX S x:=by
 cases S<;>cases x<;>first | exact h.elim | exact PIs.ok h | skip
 obtain ⟨_,_,_,_,_,_,_,_,_,_,_,h8,h9⟩:=h
 exact ⟨h8.ok,h9.ok⟩
theorem PIs.of {w:World} {t n:Int} {f:WF} (hp:cA t n 0=true) (hf:f.At w) (h:fM t n f=true):PIs w t n f f.pf:=by
 have hrl:=hf.rl;have hcl:=hf.cl;have hg:=hf.g64;have hr:=hf.r64
 obtain ⟨z,c,g,ra,rl,rc,rows,ca,cl,cc,cells,pa,pl,pc⟩:=f
 dsimp only at hrl hcl hg hr
 subst hrl hcl
 simp only [fM,Bool.and_eq_true,Bool.or_eq_true,iI,iH,decide_eq_true_eq,Bool.not_eq_true'] at h
 obtain ⟨⟨h1,h2,h3,h4⟩,h5⟩:=h
 have ht5:t≠5:=by rintro rfl;simp [cA] at hp
 have hpl:pl=0:=by
  rcases h4 with ⟨_,h4⟩ | h4
  ·exact absurd h4 ht5
  ·exact h4
 refine ⟨hf,rfl,?_,hpl⟩
 show OkP t n ⟨z,c,g,rows,cells⟩
 cases z
 ·have h1':t=2∨c=0:=by simpa using h1
  have h2':t=3∨(g=0∧rows.length=0):=by simpa using h2
  have h3':t=4∨cells.length=0:=by simpa using h3
  simp only [Bool.false_eq_true,false_or] at h5
  rcases (kX hp).2 with ⟨rfl,hn⟩ | ⟨rfl,h0,h1⟩ | ⟨rfl,m,rfl,hm⟩ | ⟨rfl,m,rfl,hm⟩
  ·obtain rfl:c=0:=by omega
   obtain ⟨rfl,hr0⟩:g=0∧rows.length=0:=by
    rcases h2' with h | h
    ·omega
    ·exact h
   obtain rfl:=List.eq_nil_of_length_eq_zero hr0
   obtain rfl:=List.eq_nil_of_length_eq_zero (h3'.resolve_left (by decide))
   exact .bool rfl
  ·obtain ⟨rfl,hr0⟩:=h2'.resolve_left (by decide)
   obtain rfl:=List.eq_nil_of_length_eq_zero hr0
   obtain rfl:=List.eq_nil_of_length_eq_zero (h3'.resolve_left (by decide))
   simp only [if_true,Bool.and_eq_true,decide_eq_true_eq] at h5
   exact .cost c rfl h5.1 h5.2
  ·obtain rfl:c=0:=by omega
   obtain rfl:=List.eq_nil_of_length_eq_zero (h3'.resolve_left (by decide))
   have h6:eR (m:Int) g rows=0:=by simpa using h5
   obtain ⟨k,hk,hgood⟩:=Hm hg hr h6
   exact .facts k g rows rfl hk hgood
  ·obtain rfl:c=0:=by omega
   obtain ⟨rfl,hr0⟩:=h2'.resolve_left (by decide)
   obtain rfl:=List.eq_nil_of_length_eq_zero hr0
   have h6:kN (m:Int) cells=0:=by simpa using h5
   obtain ⟨k,hk,hv⟩:=val_of h6
   exact .cells k cells rfl hk hv
 ·obtain rfl:c=0:=by simpa using h1
  obtain ⟨rfl,hr0⟩:g=0∧rows.length=0:=by simpa using h2
  have hc0:cells.length=0:=by simpa using h3
  obtain rfl:=List.eq_nil_of_length_eq_zero hr0
  obtain rfl:=List.eq_nil_of_length_eq_zero hc0
  exact .zero
abbrev Crs:=List Int×Int×List Int
abbrev Nxt:=Int×List Int→List (Int×Int×List Int)×Int
def qX (x:Crs) (y:Int×Int×List Int):Crs:=(x.1++[y.1],y.2)
def vO (nx:Nxt) (n:Nat):Nat→List Crs→Nat→Int×List Crs
 | 0,all,_=>(0,all)
 | f+1,all,i=>match all[i]? with
  | none=>(0,all)
  | some x=>if n≤x.1.length then (0,all) else
   if (nx x.2).2≠0 then ((nx x.2).2,[]) else
   if 10000 < all.length+(nx x.2).1.length then (3,[]) else
   vO nx n f (all++(nx x.2).1.map (qX x)) (i+1)
theorem nD {nx:Nxt} {n f i:Nat} {all:List Crs} (h:all.length≤i):vO nx n f all i=(0,all):=by
 cases f with
 | zero=>rfl
 | succ f=>show (match all[i]? with | none=>_ | some x=>_)=_;rw [List.getElem?_eq_none h]
theorem lK {nx:Nxt} {n f i:Nat} {all:List Crs} {x:Crs} (hx:all[i]?=some x) (h:n≤x.1.length):vO nx n f all i=(0,all):=by
 cases f with
 | zero=>rfl
 | succ f=>show (match all[i]? with | none=>_ | some x=>_)=_;rw [hx];exact if_pos h
theorem sT {nx:Nxt} {n f i:Nat} {all:List Crs} {x:Crs} (hx:all[i]?=some x) (h:¬ n≤x.1.length) (he:(nx x.2).2≠0):vO nx n (f+1) all i=((nx x.2).2,[]):=by
 show (match all[i]? with | none=>_ | some x=>_)=_;rw [hx];dsimp only;rw [if_neg h,if_pos he]
theorem qF {nx:Nxt} {n f i:Nat} {all:List Crs} {x:Crs} (hx:all[i]?=some x) (h:¬ n≤x.1.length) (he:¬ (nx x.2).2≠0) (hm:10000 < all.length+(nx x.2).1.length):vO nx n (f+1) all i=(3,[]):=by
 show (match all[i]? with | none=>_ | some x=>_)=_;rw [hx];dsimp only;rw [if_neg h,if_neg he,if_pos hm]
theorem qG {nx:Nxt} {n f i:Nat} {all:List Crs} {x:Crs} (hx:all[i]?=some x) (h:¬ n≤x.1.length) (he:¬ (nx x.2).2≠0) (hm:¬ 10000 < all.length+(nx x.2).1.length):vO nx n (f+1) all i=vO nx n f (all++(nx x.2).1.map (qX x)) (i+1):=by
 show (match all[i]? with | none=>_ | some x=>_)=_;rw [hx];dsimp only;rw [if_neg h,if_neg he,if_neg hm]
def gQ (e1 e2 n:Int):Int:=if e1≠0 then e1 else if e2≠0 then e2 else if n < 0∨64 < n then 5 else if 12 < n then 3 else 0
def iQ (nx:Nxt) (n:Nat) (c:Int×List Int):Int×List Crs:=vO nx n 10001 [([],c)] 0
def sU (d:Int×List Int) (l:List Crs):List (List Int):=(l.filter (fun x=>decide (x.2=d))).map (·.1)
theorem nW {d:Int×List Int} {l:List Crs} {i:Nat} {x:Crs} (hx:l[i]?=some x):sU d (l.take (i+1))=sU d (l.take i)++(if x.2=d then [x.1] else []):=by
 unfold sU
 rw [List.take_add_one,hx,List.filter_append,List.map_append]
 congr 1
 by_cases h:x.2=d
 ·rw [if_pos h];simp [h]
 ·rw [if_neg h];simp [h]
def sV (e1 e2 n:Int) (nx:Nxt) (c d:Int×List Int):Int×List (List Int) :=
 if gQ e1 e2 n≠0 then (gQ e1 e2 n,[]) else
 if (iQ nx n.toNat c).1≠0 then ((iQ nx n.toNat c).1,[]) else (0,sU d (iQ nx n.toNat c).2)
def freeT (ops:Array Oper) (t:Nat):Bool:=ops.all fun o=>o.dst != some t
def bI (ops:Array Oper) (i j d:Nat):Bool :=
 (match ops[i]? with | some o=>o.after.any fun e=>e.on == j && Region.binds .any e | none=>false) && (ops[j]?).bind (·.dst) == some d
def eP (ops:Array Oper) (n:Nat):Bool :=
 (List.range ops.size).all fun i=>match ops[i]? with
  | some o=>o.after.all (fun e => !Region.binds .any e || decide (e.on < i)) && (match o.dst with | some d=>decide (d < n) && (List.range ops.size).all (fun j=>j == i || (ops[j]?).bind (·.dst) != some d) | none=>true)
  | none=>true
def nE (ops:Array Oper) (k:Nat):Bool :=
 decide (k+1=ops.size) && (match ops[k]? with | some o=>(List.range k).all fun j=>o.after.any fun e=>e.on == j && Region.binds .any e | none=>false)
section
variable {P:Program} {ops:Array Oper} {Q:Exit→Act→World→Prop} {t0:Array Value} {d0:List Deferred} {G:World→Prop} {I:Nat→Value→World→Prop}
structure RInv (ops:Array Oper) (t0:Array Value) (d0:List Deferred) (G:World→Prop) (I:Nat→Value→World→Prop) (L:Array Bool) (a:Act) (w:World):Prop where
 size:a.tmps.size=t0.size
 defers:a.defers=d0
 frame:∀ t,freeT ops t=true→a.tmps.getD t undef=t0.getD t undef
 glob:G w
 done:∀ i d,(ops[i]?).bind (·.dst)=some d→L.getD i false=true→I i (a.tmps.getD d undef) w
def jB (P:Program) (ops:Array Oper) (Q:Exit→Act→World→Prop) (t0:Array Value) (G:World→Prop) (I:Nat→Value→World→Prop) (i:Nat):Prop :=
 ∀ (a:Act) (w:World),(∀ t,freeT ops t=true→a.eval (.tmp t)=t0.getD t undef)→G w→(∀ j d,bI ops i j d=true→I j (a.eval (.tmp d)) w) →
  wpOp P ops Q i (fun a' w'=>(∃ v,a'=a.put ((ops[i]?).bind (·.dst)) v∧(∀ d,(ops[i]?).bind (·.dst)=some d→I i v w'))∧G w'∧Below w.heap.size w w') a w
def Fb (ops:Array Oper) (t0:Array Value) (d0:List Deferred) (G:World→Prop) (I:Nat→Value→World→Prop) (n:Nat) (R:Act→World→Prop):Prop :=
 ∀ (a:Act) (w:World),a.tmps.size=t0.size→a.defers=d0→(∀ t,freeT ops t=true→a.tmps.getD t undef=t0.getD t undef)→G w →
  (∀ i d,i < n→(ops[i]?).bind (·.dst)=some d→I i (a.tmps.getD d undef) w)→R a w
theorem iL:∀ (l:List Bool) (i:Nat),l[i]?=some false→(l.set i true).count false+1=l.count false
 | [],_,h=>by simp at h
 | b::l,0,h=>by simp at h;subst h;simp
 | b::l,i+1,h=>by
  have:=iL l i (by simpa using h)
  cases b<;>simp<;>omega
theorem jR {n i:Nat} {o:Oper} (h:eP ops n=true) (ho:ops[i]?=some o):∀ e∈o.after,Region.binds .any e=true→e.on < i:=fun e he hb=>by
 have hi:i < ops.size:=(Array.getElem?_eq_some_iff.1 ho).1
 have h1:=(List.all_eq_true.1 h) i (List.mem_range.2 hi)
 simp only [ho,Bool.and_eq_true] at h1
 have h2:=Array.all_eq_true'.1 h1.1 e he
 simp [hb] at h2
 exact h2
theorem kG {n i d:Nat} (h:eP ops n=true) (hd:(ops[i]?).bind (·.dst)=some d):d < n∧∀ j,(ops[j]?).bind (·.dst)=some d→j=i:=by
 obtain ⟨o,ho,hd⟩:=Option.bind_eq_some_iff.1 hd
 have hi:i < ops.size:=(Array.getElem?_eq_some_iff.1 ho).1
 have h1:=(List.all_eq_true.1 h) i (List.mem_range.2 hi)
 simp only [ho,hd,Bool.and_eq_true,decide_eq_true_eq] at h1
 refine ⟨h1.2.1,fun j hj=>?_⟩
 have hjs:j < ops.size:=by
  obtain ⟨o',ho',_⟩:=Option.bind_eq_some_iff.1 hj
  exact (Array.getElem?_eq_some_iff.1 ho').1
 have h2:=(List.all_eq_true.1 h1.2.2) j (List.mem_range.2 hjs)
 rw [Bool.or_eq_true] at h2
 rcases h2 with h2 | h2
 ·simpa using h2
 ·simp only [bne_iff_ne,ne_eq] at h2
  exact absurd hj h2
theorem jS {n:Nat} {L:Array Bool} (h:eP ops n=true) (hs:L.size=ops.size) (hr:Region.ready .any ops L=[]):∀ i,i < ops.size→L.getD i true=true:=by
 intro i
 induction i using Nat.strongRecOn with
 | _ i ih =>
 intro hi
 cases hL:L.getD i true with
 | true=>rfl
 | false =>
  obtain ⟨o,ho⟩:∃ o,ops[i]?=some o:=⟨ops[i],Array.getElem?_eq_getElem hi⟩
  have:i∈Region.ready .any ops L:=mem_ready.2 ⟨hL,o,ho,fun e he hb=>by
   have hlt:=jR h ho e he hb
   have h3:=ih e.on hlt (by omega)
   rw [Array.getD_eq_getD_getElem?] at h3 ⊢
   have hes:e.on < L.size:=by omega
   rw [Array.getElem?_eq_getElem hes] at h3 ⊢
   simpa using h3⟩
  rw [hr] at this
  cases this
theorem xI {a:Act} {o:Option Nat} {v:Value} {d:Nat} (hd:o=some d) (hs:d < a.tmps.size):(a.put o v).tmps.getD d undef=v:=by
 subst hd
 simp [Act.put,hs]
theorem iA {a:Act} {o:Option Nat} {v:Value} {t:Nat} (hd:o≠some t):(a.put o v).tmps.getD t undef=a.tmps.getD t undef:=by
 cases o with
 | none=>rfl
 | some d =>
  have:d≠t:=fun e=>hd (by rw [e])
  simp only [Act.put,Array.getD_eq_getD_getElem?]
  rw [Array.getElem?_setIfInBounds_ne this]
theorem oU {a:Act} {o:Option Nat} {v:Value}:(a.put o v).tmps.size=a.tmps.size:=by cases o<;>simp [Act.put]
theorem lU {a:Act} {o:Option Nat} {v:Value}:(a.put o v).defers=a.defers:=by cases o<;>rfl
theorem RInv.next {L:Array Bool} {a:Act} {w w':World} {i:Nat} {v:Value} (h:RInv ops t0 d0 G I L a w) (ht:eP ops t0.size=true) (hi:L.getD i true=false)
  (hst:∀ i v w w',G w→I i v w→Below w.heap.size w w'→I i v w') (hI:∀ d,(ops[i]?).bind (·.dst)=some d→I i v w') (hG:G w') (hB:Below w.heap.size w w') :
  RInv ops t0 d0 G I (L.setIfInBounds i true) (a.put ((ops[i]?).bind (·.dst)) v) w' where
 size:=by rw [oU];exact h.size
 defers:=by rw [lU];exact h.defers
 frame:=fun t hf=>by
  rw [iA ?_]
  ·exact h.frame t hf
  ·intro hd
   obtain ⟨o,ho,hd⟩:=Option.bind_eq_some_iff.1 hd
   have:=Array.all_eq_true'.1 hf o (Array.mem_of_getElem? ho)
   simp [hd] at this
 glob:=hG
 done:=fun j d hd hj=>by
  by_cases hji:j=i
  ·subst hji
   rw [xI hd (by rw [h.size];exact (kG ht hd).1)]
   exact hI d hd
  ·rw [getD_set_ne false (Ne.symm hji)] at hj
   rw [iA (fun e=>hji ((kG ht e).2 j hd))]
   exact hst _ _ _ _ h.glob (h.done j d hd hj) hB
theorem RInv.deps {L:Array Bool} {a:Act} {w:World} {i:Nat} (h:RInv ops t0 d0 G I L a w) (hi:i∈Region.ready .any ops L):∀ j d,bI ops i j d=true→I j (a.eval (.tmp d)) w:=fun j d hw=>by
 obtain ⟨_,o,ho,hall⟩:=mem_ready.1 hi
 simp only [bI,ho,Bool.and_eq_true,beq_iff_eq] at hw
 obtain ⟨e,he,h1⟩:=Array.any_eq_true'.1 hw.1
 simp only [Bool.and_eq_true,beq_iff_eq] at h1
 have:=hall e he h1.2
 rw [h1.1] at this
 exact h.done j d hw.2 this
theorem RInv.frameE {L:Array Bool} {a:Act} {w:World} (h:RInv ops t0 d0 G I L a w):∀ t,freeT ops t=true→a.eval (.tmp t)=t0.getD t undef:=fun t ht=>h.frame t ht
theorem Hv (ht:eP ops t0.size=true) (hst:∀ i v w w',G w→I i v w→Below w.heap.size w w'→I i v w')
  (hstep:∀ i,i < ops.size→jB P ops Q t0 G I i) (hfin:Fb ops t0 d0 G I ops.size (Q .normal)) :
  ∀ (fuel:Nat) (L:Array Bool) (a:Act) (w:World),L.size=ops.size→L.toList.count false≤fuel→RInv ops t0 d0 G I L a w→wpAny P .any ops Q fuel L a w:=by
 have fin:∀ (L:Array Bool) (a:Act) (w:World),(∀ i,i < ops.size→L.getD i true=true)→L.size=ops.size→RInv ops t0 d0 G I L a w→Q .normal a w:=fun L a w hall hs h =>
  hfin a w h.size h.defers h.frame h.glob fun i d hi hd=>h.done i d hd (by
   have:=hall i hi
   rw [Array.getD_eq_getD_getElem?] at this ⊢
   rw [Array.getElem?_eq_getElem (by omega)] at this ⊢
   simpa using this)
 intro fuel
 induction fuel with
 | zero =>
  intro L a w hs hc h
  have hall:∀ i,i < ops.size→L.getD i true=true:=fun i hi=>by
   have hn:false∉L.toList:=List.count_eq_zero.1 (by omega)
   cases hL:L.getD i true with
   | true=>rfl
   | false =>
    rw [Array.getD_eq_getD_getElem?,Array.getElem?_eq_getElem (by omega)] at hL
    exact absurd (by rw [← show L[i]=false by simpa using hL];exact Array.mem_toList_iff.2 (Array.getElem_mem _)) hn
  refine ⟨?_,fin L a w hall hs h⟩
  cases hr:Region.ready .any ops L with
  | nil=>rfl
  | cons i rest =>
   have hi:i∈Region.ready .any ops L:=by rw [hr];exact List.mem_cons_self
   obtain ⟨h1,o,ho,_⟩:=mem_ready.1 hi
   rw [hall i (Array.getElem?_eq_some_iff.1 ho).1] at h1
   cases h1
 | succ fuel ih =>
  intro L a w hs hc h
  refine ⟨fun hr=>fin L a w (jS ht hs hr) hs h,fun i hi=>?_⟩
  obtain ⟨h1,o,ho,_⟩:=mem_ready.1 hi
  have his:i < ops.size:=(Array.getElem?_eq_some_iff.1 ho).1
  refine wpOp_mono ?_ (hstep i his a w h.frameE h.glob (h.deps hi))
  rintro a' w' ⟨⟨v,rfl,hI⟩,hG,hB⟩
  refine ih _ _ _ (by simpa using hs) ?_ (h.next ht h1 hst hI hG hB)
  have:L.toList[i]?=some false:=by
   rw [Array.getD_eq_getD_getElem?,Array.getElem?_eq_getElem (by omega)] at h1
   rw [Array.getElem?_toList,Array.getElem?_eq_getElem (by omega)]
   simpa using h1
  have:=iL _ _ this
  rw [Array.toList_setIfInBounds]
  omega
theorem Fc {k:Nat} (hl:nE ops k=true) (ht:eP ops t0.size=true) (hst:∀ i v w w',G w→I i v w→Below w.heap.size w w'→I i v w')
  (hstep:∀ i,i < k→jB P ops Q t0 G I i) (hfin:Fb ops t0 d0 G I k (wpOp P ops Q k (Q .normal))) :
  ∀ (fuel:Nat) (L:Array Bool) (a:Act) (w:World),L.size=ops.size→L.getD k true=false→L.toList.count false≤fuel→RInv ops t0 d0 G I L a w→wpAny P .any ops Q fuel L a w:=by
 simp only [nE,Bool.and_eq_true,decide_eq_true_eq] at hl
 obtain ⟨hk,hl⟩:=hl
 have cnt:∀ (L:Array Bool) i,L.getD i true=false→L.toList[i]?=some false:=fun L i h1=>by
  rw [Array.getD_eq_getD_getElem?] at h1
  rw [Array.getElem?_toList]
  cases hL:L[i]? with
  | none=>rw [hL] at h1;cases h1
  | some b=>rw [hL] at h1;simpa using h1
 intro fuel
 induction fuel with
 | zero =>
  intro L a w hs hlk hc h
  have:=iL _ _ (cnt L k hlk)
  omega
 | succ fuel ih =>
  intro L a w hs hlk hc h
  refine ⟨fun hr=>?_,fun i hi=>?_⟩
  ·rw [jS ht hs hr k (by omega)] at hlk
   cases hlk
  ·obtain ⟨h1,o,ho,hdep⟩:=mem_ready.1 hi
   have his:i < ops.size:=(Array.getElem?_eq_some_iff.1 ho).1
   have hc1:=iL _ _ (cnt L i h1)
   by_cases hik:i=k
   ·subst hik
    simp only [ho] at hl
    have hall:∀ j,j < i→L.getD j false=true:=fun j hj=>by
     have:=List.all_eq_true.1 hl j (List.mem_range.2 hj)
     obtain ⟨e,he,h2⟩:=Array.any_eq_true'.1 this
     simp only [Bool.and_eq_true,beq_iff_eq] at h2
     have:=hdep e he h2.2
     rw [h2.1] at this
     exact this
    refine wpOp_mono ?_ (hfin a w h.size h.defers h.frame h.glob fun j d hj hd=>h.done j d hd (hall j hj))
    intro a' w' hq
    have hnil:Region.ready .any ops (L.setIfInBounds i true)=[]:=by
     cases hr:Region.ready .any ops (L.setIfInBounds i true) with
     | nil=>rfl
     | cons j rest =>
      have hj:j∈Region.ready .any ops (L.setIfInBounds i true):=by rw [hr];exact List.mem_cons_self
      obtain ⟨h5,o',ho',_⟩:=mem_ready.1 hj
      have hjs:j < ops.size:=(Array.getElem?_eq_some_iff.1 ho').1
      by_cases hji:j=i
      ·subst hji
       rw [Array.getD_eq_getD_getElem?,Array.getElem?_eq_getElem (by simpa using (by omega:j < L.size))] at h5
       simp at h5
      ·rw [getD_set_ne true (Ne.symm hji)] at h5
       have h6:=hall j (by omega)
       rw [Array.getD_eq_getD_getElem?] at h5 h6
       rw [Array.getElem?_eq_getElem (by omega)] at h5 h6
       simp at h5 h6
       rw [h5] at h6
       cases h6
    cases fuel with
    | zero=>exact ⟨hnil,hq⟩
    | succ fuel=>exact ⟨fun _=>hq,by rw [hnil];simp⟩
   ·refine wpOp_mono ?_ (hstep i (by omega) a w h.frameE h.glob (h.deps hi))
    rintro a' w' ⟨⟨v,rfl,hI⟩,hG,hB⟩
    refine ih _ _ _ (by simpa using hs) (by rw [getD_set_ne true hik];exact hlk) ?_ (h.next ht h1 hst hI hG hB)
    rw [Array.toList_setIfInBounds]
    omega
theorem xJ {a:Act} {w:World} (hG:G w):RInv ops a.tmps a.defers G I (Array.replicate ops.size false) a w where
 size:=rfl
 defers:=rfl
 frame:=fun _ _=>rfl
 glob:=hG
 done:=fun i d _ h=>by
  rw [Array.getD_eq_getD_getElem?,Array.getElem?_replicate] at h
  split at h<;>simp at h
theorem jT (n:Nat):(Array.replicate n false).toList.count false≤n:=by
 rw [Array.toList_replicate,List.count_replicate_self];exact Nat.le_refl _
theorem zG {id:Nat} {a:Act} {w:World} (hm:P.follows .mixedOrders=true) (G:World→Prop) (I:Nat→Value→World→Prop) (hG:G w.drew)
  (ht:eP ops a.tmps.size=true) (hst:∀ i v w w',G w→I i v w→Below w.heap.size w w'→I i v w')
  (hstep:∀ i,i < ops.size→jB P ops Q a.tmps G I i) (hfin:Fb ops a.tmps a.defers G I ops.size (Q .normal)):(Code.region id ops true).wp P Q a w :=
 wp_region_any hm (Hv ht hst hstep hfin _ _ _ _ (by simp) (jT _) (xJ hG))
theorem rI {id:Nat} {a:Act} {w:World} (hm:P.follows .mixedOrders=true) (k:Nat) (G:World→Prop) (I:Nat→Value→World→Prop) (hG:G w.drew) (hl:nE ops k=true)
  (ht:eP ops a.tmps.size=true) (hst:∀ i v w w',G w→I i v w→Below w.heap.size w w'→I i v w')
  (hstep:∀ i,i < k→jB P ops Q a.tmps G I i) (hfin:Fb ops a.tmps a.defers G I k (wpOp P ops Q k (Q .normal))):(Code.region id ops true).wp P Q a w :=
 wp_region_any hm (Fc hl ht hst hstep hfin _ _ _ _ (by simp) (by
  have hk:k < ops.size:=by
   simp only [nE,Bool.and_eq_true,decide_eq_true_eq] at hl;omega
  rw [Array.getD_eq_getD_getElem?,Array.getElem?_replicate,if_pos hk];rfl) (jT _) (xJ hG))
theorem fR {o:Oper} {y:Nat→Option Bool} (h:o.guard=none):Region.wanted o y=true:=by simp [Region.wanted,h]
theorem mI {a:Act} {o:Oper} {g d:Nat} {b c:Bool} (h:o.guard=some (g,b)) (hd:(ops[g]?).bind (·.dst)=some d) (hv:a.eval (.tmp d) = .bool c):Region.wanted o (yielded ops a.tmps)=(c == b):=by
 have h1:a.tmps[d]?=some (.bool c):=by
  simp only [Act.eval,Array.getD_eq_getD_getElem?] at hv
  cases hx:a.tmps[d]? with
  | none=>rw [hx] at hv;simp [undef] at hv
  | some x=>rw [hx] at hv;simpa using hv
 simp [Region.wanted,h,yielded,hd,h1]
theorem jB.value {i:Nat} {o:Oper} (hi:ops[i]?=some o)
  (h:∀ (a:Act) (w:World),(∀ t,freeT ops t=true→a.eval (.tmp t)=t0.getD t undef)→G w→(∀ j d,bI ops i j d=true→I j (a.eval (.tmp d)) w) →
   Region.wanted o (yielded ops a.tmps)=true∧∃ v w',(execOp a.eval o).run P w = .ok (.value v) w'∧I i v w'∧G w'∧Below w.heap.size w w'):jB P ops Q t0 G I i:=fun a w hF hG hD=>by
 obtain ⟨hw,v,w',hr,hI,hG',hB⟩:=h a w hF hG hD
 unfold wpOp
 simp only [hi,hw,if_true]
 refine .inl ?_
 unfold Oper.wp
 rw [hr]
 exact ⟨⟨v,by simp,fun _ _=>hI⟩,hG',hB⟩
theorem jB.none {i:Nat} {o:Oper} (hi:ops[i]?=some o)
  (h:∀ (a:Act) (w:World),(∀ t,freeT ops t=true→a.eval (.tmp t)=t0.getD t undef)→G w→(∀ j d,bI ops i j d=true→I j (a.eval (.tmp d)) w) →
   Region.wanted o (yielded ops a.tmps)=false∧I i undef w):jB P ops Q t0 G I i:=fun a w hF hG hD=>by
 obtain ⟨hw,hI⟩:=h a w hF hG hD
 unfold wpOp
 simp only [hi,hw]
 exact ⟨⟨undef,by simp,fun _ _=>hI⟩,hG,Below.refl _ _⟩
theorem jB.call {i:Nat} {o:Oper} (hi:ops[i]?=some o)
  (h:∀ (a:Act) (w:World),(∀ t,freeT ops t=true→a.eval (.tmp t)=t0.getD t undef)→G w→(∀ j d,bI ops i j d=true→I j (a.eval (.tmp d)) w) →
   Region.wanted o (yielded ops a.tmps)=true∧∃ f args,(execOp a.eval o).run P w = .ok (.enter f args) w ∧
    Calls P f args w fun e w'=>∃ v,e = .returned v∧I i v w'∧G w'∧Below w.heap.size w w'):jB P ops Q t0 G I i:=fun a w hF hG hD=>by
 obtain ⟨hw,f,args,hr,hc⟩:=h a w hF hG hD
 unfold wpOp
 simp only [hi,hw,if_true]
 refine .inl ?_
 unfold Oper.wp
 rw [hr,Oper.upon_enter]
 refine hc.mono ?_
 rintro e w' ⟨v,rfl,hI,hG',hB⟩
 exact ⟨⟨v,by simp,fun _ _=>hI⟩,hG',hB⟩
end
abbrev Asr:=Value→World→Prop
def isV (c:Value):Asr:=fun v _=>v=c
def atI:List Asr→Nat→Asr
 | [],_=>fun _ _=>True
 | p::_,0=>p
 | _::l,n+1=>atI l n
def kY (p:Asr):Prop:=∀ v w w',p v w→Below w.heap.size w w'→p v w'
def qY:List Asr→Prop
 | []=>True
 | p::l=>kY p∧qY l
theorem aJ (c:Value):kY (isV c):=fun _ _ _ h _=>h
theorem oV:∀ {L:List Asr},qY L→∀ i v w w',atI L i v w→Below w.heap.size w w'→atI L i v w'
 | [],_,_,_,_,_,_,_=>trivial
 | p::l,h,0,v,w,w',hp,hb=>h.1 v w w' hp hb
 | p::l,h,i+1,v,w,w',hp,hb=>oV h.2 i v w w' hp hb
def sW (p:Nat→Prop):Nat→Nat→Prop
 | 0,_=>True
 | n+1,k=>p k∧sW p n (k+1)
theorem rJ {p:Nat→Prop}:∀ {n k:Nat},sW p n k→∀ i,i < n→p (k+i)
 | n+1,k,h,0,_=>h.1
 | n+1,k,h,i+1,hi=>by
  have:=rJ h.2 i (by omega)
  rwa [show k+1+i=k+(i+1) by omega] at this
section
variable {P:Program} {ops:Array Oper} {Q:Exit→Act→World→Prop} {t0:Array Value} {d0:List Deferred} {L:List Asr} {w0:World} {i:Nat} {o:Oper} {p q r:Asr} {x y z:Operand}
abbrev RS (P:Program) (ops:Array Oper) (Q:Exit→Act→World→Prop) (t0:Array Value) (w0:World) (L:List Asr) (i:Nat):Prop:=jB P ops Q t0 (fun w=>Below w0.heap.size w0 w) (atI L) i
theorem vP {id:Nat} {a:Act} {w:World} (hm:P.follows .mixedOrders=true) (L:List Asr) (ht:eP ops a.tmps.size=true) (hst:qY L)
  (hstep:sW (RS P ops Q a.tmps w L) ops.size 0) (hfin:Fb ops a.tmps a.defers (fun w'=>Below w.heap.size w w') (atI L) ops.size (Q .normal)):(Code.region id ops true).wp P Q a w :=
 zG hm _ (atI L) ((Below.refl _ _).drew) ht (fun i v w w' _ h hb=>oV hst i v w w' h hb) (fun i hi=>by have:=rJ hstep i hi;rwa [Nat.zero_add] at this) hfin
theorem oW {id:Nat} {a:Act} {w:World} (hm:P.follows .mixedOrders=true) (k:Nat) (L:List Asr) (hl:nE ops k=true) (ht:eP ops a.tmps.size=true) (hst:qY L)
  (hstep:sW (RS P ops Q a.tmps w L) k 0) (hfin:Fb ops a.tmps a.defers (fun w'=>Below w.heap.size w w') (atI L) k (wpOp P ops Q k (Q .normal))):(Code.region id ops true).wp P Q a w :=
 rI hm k _ (atI L) ((Below.refl _ _).drew) hl ht (fun i v w w' _ h hb=>oV hst i v w w' h hb) (fun i hi=>by have:=rJ hstep i hi;rwa [Nat.zero_add] at this) hfin
def gG (ops:Array Oper) (L:List Asr) (i:Nat) (o:Oper):Prop :=
 o.guard=none∨∃ g b d,o.guard=some (g,b)∧(ops[g]?).bind (·.dst)=some d∧bI ops i g d=true∧atI L g=isV (.bool b)
def nF (ops:Array Oper) (L:List Asr) (i:Nat) (o:Oper):Prop :=
 (∃ g b c d,o.guard=some (g,b)∧(ops[g]?).bind (·.dst)=some d∧bI ops i g d=true∧atI L g=isV (.bool c)∧(c == b)=false) ∨
 ∃ g b d,o.guard=some (g,b)∧(ops[g]?).bind (·.dst)=some d∧bI ops i g d=true∧atI L g=isV undef
theorem Cc {a:Act} {o:Oper} {g d:Nat} {b:Bool} (h:o.guard=some (g,b)) (hd:(ops[g]?).bind (·.dst)=some d) (hv:a.eval (.tmp d)=undef):Region.wanted o (yielded ops a.tmps)=false:=by
 unfold Region.wanted
 rw [h]
 show (yielded ops a.tmps g == some b)=false
 unfold yielded
 rw [hd]
 show ((match a.tmps[d]? with | some (.bool b)=>some b | _=>none) == some b)=false
 have h2:a.tmps.getD d undef=undef:=hv
 cases h3:a.tmps[d]? with
 | none=>rfl
 | some v =>
  have h4:v=undef:=by rw [Array.getD_eq_getD_getElem?,h3] at h2;exact h2
  subst h4;rfl
theorem gG.yes {a:Act} {w:World} (h:gG ops L i o) (hD:∀ j d,bI ops i j d=true→atI L j (a.eval (.tmp d)) w):Region.wanted o (yielded ops a.tmps)=true:=by
 rcases h with h | ⟨g,b,d,h,hd,hw,hL⟩
 ·exact fR h
 ·have:=hD g d hw
  rw [hL] at this
  rw [mI h hd this];simp
theorem nF.no {a:Act} {w:World} (h:nF ops L i o) (hD:∀ j d,bI ops i j d=true→atI L j (a.eval (.tmp d)) w):Region.wanted o (yielded ops a.tmps)=false:=by
 rcases h with ⟨g,b,c,d,h,hd,hw,hL,hne⟩ | ⟨g,b,d,h,hd,hw,hL⟩
 ·have:=hD g d hw
  rw [hL] at this
  rw [mI h hd this];exact hne
 ·have:=hD g d hw
  rw [hL] at this
  exact Cc h hd this
def OpI (ops:Array Oper) (t0:Array Value) (L:List Asr) (i:Nat) (x:Operand) (p:Asr):Prop :=
 ∀ (a:Act) (w:World),(∀ t,freeT ops t=true→a.eval (.tmp t)=t0.getD t undef)→(∀ j d,bI ops i j d=true→atI L j (a.eval (.tmp d)) w)→p (a.eval x) w
theorem opF {t:Nat} {v:Value} (hf:freeT ops t=true) (hv:t0.getD t undef=v):OpI ops t0 L i (.tmp t) (isV v):=fun a w hF _=>(hF t hf).trans hv
theorem opD (j t:Nat) (hw:bI ops i j t=true) (hL:atI L j=p):OpI ops t0 L i (.tmp t) p:=fun a w _ hD=>hL▸hD j t hw
theorem opC {v:Value}:OpI ops t0 L i (.const v) (isV v):=fun a w _ _=>rfl
theorem sX (hi:ops[i]?=some o) (hw:gG ops L i o)
  (h:∀ (a:Act) (w:World),(∀ t,freeT ops t=true→a.eval (.tmp t)=t0.getD t undef)→Below w0.heap.size w0 w→(∀ j d,bI ops i j d=true→atI L j (a.eval (.tmp d)) w) →
   ∃ v w',(execOp a.eval o).run P w = .ok (.value v) w'∧atI L i v w'∧Below w.heap.size w w'):RS P ops Q t0 w0 L i :=
 jB.value hi fun a w hF hG hD=>by
  obtain ⟨v,w',h1,h2,h3⟩:=h a w hF hG hD
  exact ⟨hw.yes hD,v,w',h1,h2,hG.trans (h3.mono hG.size),h3⟩
theorem st_none (hi:ops[i]?=some o) (hw:nF ops L i o) (hI:atI L i=isV undef):RS P ops Q t0 w0 L i :=
 jB.none hi fun a w hF hG hD=>⟨hw.no hD,by rw [hI];rfl⟩
def bW (P:Program) (f:FuncId):Bool:=match P.funcs[f]? with | some fn=>fn.body.isSome && !(fn.name == "runtime.NumGoroutine") | none=>false
theorem oX (P:Program) (ev:Operand→Value) (w:World) (f:FuncId) (args:Array Operand) (ts:Array TypeId) (o:Oper) (h:o.op = .call { callee:=.value (.func f),args:=args,argTypes:=ts }) (hf:ev (.func f) = .func (.func f) #[] #[]) (hb:bW P f=true):(execOp ev o).run P w = .ok (.enter f (args.map ev)) w:=by
 unfold bW at hb
 cases hx:P.funcs[f]? with
 | none=>rw [hx] at hb;cases hb
 | some fn =>
  rw [hx] at hb
  simp only [Bool.and_eq_true,Bool.not_eq_true',beq_eq_false_iff_ne,ne_eq] at hb
  obtain ⟨c,hc⟩:=Option.isSome_iff_exists.1 hb.1
  unfold execOp;simp only [h];simp [go_sem,resolve,hf,callFunc,hx,hc,hb.2]
def uZ (p:Asr) (w:World):Ending→World→Prop:=fun e w'=>∃ v,e = .returned v∧p v w'∧Below w.heap.size w w'
theorem st_call {f:FuncId} {args:Array Operand} {ts:Array TypeId} (hi:ops[i]?=some o) (hop:o.op = .call { callee:=.value (.func f),args:=args,argTypes:=ts }) (hgo:bW P f=true) (hw:gG ops L i o)
  (hc:∀ (a:Act) (w:World),(∀ t,freeT ops t=true→a.eval (.tmp t)=t0.getD t undef)→Below w0.heap.size w0 w→(∀ j d,bI ops i j d=true→atI L j (a.eval (.tmp d)) w)→Calls P f (args.map a.eval) w (uZ (atI L i) w)):RS P ops Q t0 w0 L i :=
 jB.call hi fun a w hF hG hD=>⟨hw.yes hD,f,args.map a.eval,oX P a.eval w f args ts o hop rfl hgo,(hc a w hF hG hD).mono fun e w' ⟨v,h1,h2,h3⟩=>⟨v,h1,h2,hG.trans (h3.mono hG.size),h3⟩⟩
end
abbrev Fr:=List (Nat×Value)
def look:Fr→Nat→Option Value
 | [],_=>none
 | p::l,t=>bif Nat.beq p.1 t then some p.2 else look l t
structure Has (n:Nat) (l:Fr) (a:Act):Prop where
 size:a.tmps.size=n
 defers:a.defers=[]
 at_:∀ t v,look l t=some v→a.tmps.getD t undef=v
theorem Has.put {n:Nat} {l:Fr} {a:Act} {d:Nat} {v:Value} (h:Has n l a) (hd:Nat.blt d n=true):Has n ((d,v)::l) (a.put (some d) v):=by
 have hd':d < n:=Nat.le_of_ble_eq_true hd
 refine ⟨by rw [oU];exact h.size,by rw [lU];exact h.defers,fun t u hu=>?_⟩
 unfold look at hu
 cases hb:Nat.beq d t with
 | true =>
  have:d=t:=Nat.eq_of_beq_eq_true hb
  subst this
  simp only [hb,cond_true,Option.some.injEq] at hu
  rw [xI rfl (by rw [h.size];exact hd')];exact hu
 | false =>
  simp only [hb,cond_false] at hu
  have hne:d≠t:=fun e=>by subst e;rw [Nat.beq_refl] at hb;cases hb
  rw [iA (fun e=>hne (Option.some.inj e))]
  exact h.at_ t u hu
def evL (l:Fr):Operand→Option Value
 | .tmp t=>look l t
 | .const v=>some v
 | .global g=>some (.pointer (some ⟨g,0,none⟩))
 | .func f=>some (.func (.func f) #[] #[])
theorem Has.ev {n:Nat} {l:Fr} {a:Act} (h:Has n l a):∀ x v,evL l x=some v→a.eval x=v:=by
 intro x v hx
 cases x with
 | tmp t=>exact h.at_ t v hx
 | const u=>exact Option.some.inj hx
 | global g=>exact Option.some.inj hx
 | func f=>exact Option.some.inj hx
def Fd (l:Fr):Fr→Prop
 | []=>True
 | p::r=>look l p.1=some p.2∧Fd l r
theorem Fd.at_ {l:Fr}:∀ {r:Fr},Fd l r→∀ t v,look r t=some v→look l t=some v
 | [],_,t,v,h=>by cases h
 | p::r,h,t,v,hv=>by
  unfold look at hv
  cases hb:Nat.beq p.1 t with
  | true =>
   simp only [hb,cond_true,Option.some.injEq] at hv
   rw [← Nat.eq_of_beq_eq_true hb,← hv];exact h.1
  | false =>
   simp only [hb,cond_false] at hv
   exact Fd.at_ h.2 t v hv
theorem Has.sub {n:Nat} {l r:Fr} {a:Act} (h:Has n l a) (hs:Fd l r):Has n r a:=⟨h.size,h.defers,fun t v hv=>h.at_ t v (hs.at_ t v hv)⟩
def Fe:Nat→List Value→Fr
 | _,[]=>[]
 | i,v::r=>(i,v)::Fe (i+1) r
theorem Ff:∀ (r:List Value) (i t:Nat) (v:Value),look (Fe i r) t=some v→i≤t∧r[t - i]?=some v
 | [],_,_,_,h=>by cases h
 | u::r,i,t,v,h=>by
  unfold Fe look at h
  cases hb:Nat.beq i t with
  | true =>
   have:i=t:=Nat.eq_of_beq_eq_true hb
   subst this
   simp only [hb,cond_true,Option.some.injEq] at h
   simp [h]
  | false =>
   simp only [hb,cond_false] at h
   have hne:i≠t:=fun e=>by subst e;rw [Nat.beq_refl] at hb;cases hb
   obtain ⟨h1,h2⟩:=Ff r (i+1) t v h
   exact ⟨by omega,by rw [show t - i=(t - (i+1))+1 by omega];exact h2⟩
theorem has_par {n:Nat} {args:List Value} (hn:Nat.ble args.length n=true):Has n (Fe 0 args) { tmps:=args.toArray++Array.replicate (n - args.toArray.size) undef,defers:=[] }:=by
 have hn':args.length≤n:=Nat.le_of_ble_eq_true hn
 refine ⟨by simp;omega,rfl,fun t v h=>?_⟩
 obtain ⟨_,h2⟩:=Ff _ _ _ _ h
 have ht:t < args.length:=(List.getElem?_eq_some_iff.1 h2).1
 simp only [Array.getD_eq_getD_getElem?]
 rw [Array.getElem?_append_left (by simpa using ht)]
 simp only [Nat.sub_zero] at h2
 simp [h2]
section
variable {P:Program} {n:Nat} {Q:Exit→Act→World→Prop} {l:Fr} {W:World} {ops:Array Oper} {os:List Oper}
def fG (P:Program) (n:Nat) (c:Code) (Q:Exit→Act→World→Prop) (l:Fr) (W:World):Prop:=∀ a,Has n l a→c.wp P Q a W
def cX (P:Program) (n:Nat) (ops:Array Oper) (Q:Exit→Act→World→Prop) (os:List Oper) (l:Fr) (W:World):Prop:=∀ a,Has n l a→wpList P ops Q os a W
def XF (Q:Exit→Act→World→Prop) (e:Exit) (n:Nat) (l:Fr) (W:World):Prop:=∀ a,Has n l a→Q e a W
theorem cH {f:FuncId} {fn:Func} {c:Code} {args:List Value} {R:Ending→World→Prop} (hf:P.funcs[f]?=some fn) (hb:fn.body=some c) (hn:fn.ntmps=n) (hl:Nat.ble args.length n=true)
  (h:fG P n c (bodyPost P fn R) (Fe 0 args) W):Calls P f args.toArray W R :=
 calls_of_wp hf hb (by subst hn;exact h _ (has_par hl))
theorem aL {x y:Code} (h:fG P n x (Exit.then (y.wp P Q) Q) l W):fG P n (.seq x y) Q l W:=fun a ha=>wp_seq (h a ha)
theorem bG (h:XF Q .normal n l W):fG P n .skip Q l W:=fun a ha=>wp_skip (h a ha)
theorem dE {i:Nat} (h:XF Q (.exit i) n l W):fG P n (.exit i) Q l W:=fun a ha=>wp_exit (h a ha)
theorem bJ (h:XF Q .ret n l W):fG P n .ret Q l W:=fun a ha=>wp_ret (h a ha)
theorem bM {i:Nat} {c:Code} (h:fG P n c (Exit.inBlock i Q) l W):fG P n (.block i c) Q l W:=fun a ha=>wp_block (h a ha)
theorem aZ {c:Operand} {x y:Code} {b:Bool} (hc:evL l c=some (.bool b)) (ht:b=true→fG P n x Q l W) (hf:b=false→fG P n y Q l W):fG P n (.cond c x y) Q l W :=
 fun a ha=>wp_cond_split (t:=b) (ha.ev _ _ hc) (fun e=>ht e a ha) (fun e=>hf e a ha)
theorem dJ {c:Operand} {x y:Code} (hc:evL l c=some (.bool true)) (h:fG P n x Q l W):fG P n (.cond c x y) Q l W:=fun a ha=>wp_cond_true (ha.ev _ _ hc) (h a ha)
theorem vA {c:Operand} {x y:Code} (hc:evL l c=some (.bool false)) (h:fG P n y Q l W):fG P n (.cond c x y) Q l W:=fun a ha=>wp_cond_false (ha.ev _ _ hc) (h a ha)
theorem aR {id:Nat} (h:cX P n os.toArray Q os l W):fG P n (.region id os.toArray false) Q l W:=fun a ha=>wp_region_lit (h a ha)
theorem dK {c:Code} (I:Nat→Fr→World→Prop) (m0:Nat) (l0:Fr) (hs:Fd l l0) (h0:I m0 l0 W)
  (round:∀ m l W,I m l W→fG P n c (Exit.then (fun a' w'=>∃ m' l',m' < m∧I m' l' w'∧Has n l' a') Q) l W):fG P n (.loop c) Q l W:=fun a ha=>by
 intro b k cs
 have key:∀ m l W a,I m l W→Has n l a→∃ e a' w',Q e a' w'∧Arrives P (lone (b.at a (.code c :: .inLoop c::k)) cs W) b k cs e a' w':=by
  intro m
  induction m using Nat.strongRecOn with
  | _ m ih =>
   intro l W a hI ha
   obtain ⟨e,a₁,w₁,hq,harr⟩:=round m l W hI a ha b (.inLoop c::k) cs
   cases e with
   | normal =>
    obtain ⟨m',l',hlt,hI₁,ha₁⟩:=hq
    obtain ⟨e₂,a₂,w₂,hq₂,harr₂⟩:=ih m' hlt l' w₁ a₁ hI₁ ha₁
    exact ⟨e₂,a₂,w₂,hq₂,.of_steps (Steps.trans harr (.one step_inLoop)) harr₂⟩
   | exit id=>exact ⟨_,a₁,w₁,hq,.pass (x:=.inLoop c) rfl (fun _ _=>.inl (by simp)) harr⟩
   | goto l=>exact ⟨_,a₁,w₁,hq,.pass (x:=.inLoop c) rfl (fun _ _=>.inl (by simp)) harr⟩
   | ret=>exact ⟨_,a₁,w₁,hq,.pass (x:=.inLoop c) rfl (fun _ _=>.inl (by simp)) harr⟩
   | panic ch=>exact ⟨_,a₁,w₁,hq,.pass (x:=.inLoop c) rfl (fun _ _=>.inl (by simp)) harr⟩
   | outgrown=>exact ⟨_,a₁,w₁,hq,.pass (x:=.inLoop c) rfl (fun _ _=>.inl (by simp)) harr⟩
 obtain ⟨e,a',w',hq,harr⟩:=key m0 l0 W a h0 (ha.sub hs)
 exact ⟨e,a',w',hq,.of_steps (.one step_loop) harr⟩
theorem XF.thenN {y:Code} (h:fG P n y Q l W):XF (Exit.then (y.wp P Q) Q) .normal n l W:=fun a ha=>h a ha
theorem XF.thenX {i:Nat} {K:Act→World→Prop} (h:XF Q (.exit i) n l W):XF (Exit.then K Q) (.exit i) n l W:=fun a ha=>h a ha
theorem XF.thenR {K:Act→World→Prop} (h:XF Q .ret n l W):XF (Exit.then K Q) .ret n l W:=fun a ha=>h a ha
theorem XF.blkN {i:Nat} (h:XF Q .normal n l W):XF (Exit.inBlock i Q) .normal n l W:=fun a ha=>h a ha
theorem XF.blkR {i:Nat} (h:XF Q .ret n l W):XF (Exit.inBlock i Q) .ret n l W:=fun a ha=>h a ha
theorem XF.blkX {i:Nat} (h:XF Q .normal n l W):XF (Exit.inBlock i Q) (.exit i) n l W:=fun a ha=>by show (if i=i then Q .normal a W else Q (.exit i) a W);rw [if_pos rfl];exact h a ha
theorem XF.blkO {i j:Nat} (hne:Nat.beq j i=false) (h:XF Q (.exit j) n l W):XF (Exit.inBlock i Q) (.exit j) n l W:=fun a ha=>by
 show (if j=i then Q .normal a W else Q (.exit j) a W)
 rw [if_neg (fun e=>by subst e;rw [Nat.beq_refl] at hne;cases hne)];exact h a ha
theorem XF.round {I:Nat→Fr→World→Prop} {m:Nat} (m':Nat) (l':Fr) (hm:m' < m) (hs:Fd l l') (hI:I m' l' W):XF (Exit.then (fun a' w'=>∃ m' l',m' < m∧I m' l' w'∧Has n l' a') Q) .normal n l W :=
 fun a ha=>⟨m',l',hm,hI,ha.sub hs⟩
theorem aQ (h:XF Q .normal n l W):cX P n ops Q [] l W:=fun a ha=>h a ha
theorem XF.res {fn:Func} {R:Ending→World→Prop} {v:Value} (hr:∀ a,Has n l a→(results fn a.tmps).run P W = .ok v W) (hR:R (.returned v) W):XF (bodyPost P fn R) .ret n l W :=
 fun a ha=>⟨ha.defers,v,hr a ha,hR⟩
theorem cJ {fn:Func} {t:Nat} {v:Value} (hf:fn.results=#[.tmp t]) (hv:look l t=some v):∀ a,Has n l a→(results fn a.tmps).run P W = .ok v W :=
 fun a ha=>by rw [results_tmp hf,ha.at_ t v hv]
theorem rK {fn:Func} {t u:Nat} {v x:Value} (hf:fn.results=#[.tmp t,.tmp u]) (hv:look l t=some v) (hx:look l u=some x):∀ a,Has n l a→(results fn a.tmps).run P W = .ok (.tuple #[v,x]) W :=
 fun a ha=>by rw [results_tmp2 hf,ha.at_ t v hv,ha.at_ u x hx]
theorem aC {dst:Option Tmp} {op:Op} {ty:TypeId} {pos:String} {aft:Array Edge} {g d:Nat} {b:Bool} (hd:(ops[g]?).bind (·.dst)=some d) (hv:look l d=some (.bool b))
  (h:cX P n ops Q (⟨dst,op,ty,pos,aft,none⟩::os) l W):cX P n ops Q (⟨dst,op,ty,pos,aft,some (g,b)⟩::os) l W:=fun a ha=>by
 have h1:=h a ha
 have hw:Region.wanted ⟨dst,op,ty,pos,aft,some (g,b)⟩ (yielded ops a.tmps)=true:=by
  rw [mI (ops:=ops) rfl hd (ha.at_ d _ hv)];simp
 unfold wpList at h1 ⊢
 rw [hw]
 rw [show Region.wanted ⟨dst,op,ty,pos,aft,none⟩ (yielded ops a.tmps)=true from rfl] at h1
 exact h1
theorem aF {dst:Nat} {op:Op} {ty:TypeId} {pos:String} {aft:Array Edge} {g d:Nat} {b c:Bool} (hd:(ops[g]?).bind (·.dst)=some d) (hv:look l d=some (.bool c)) (hc:(c == b)=false) (hn:Nat.blt dst n=true)
  (h:cX P n ops Q os ((dst,undef)::l) W):cX P n ops Q (⟨some dst,op,ty,pos,aft,some (g,b)⟩::os) l W:=fun a ha=>by
 have hw:Region.wanted ⟨some dst,op,ty,pos,aft,some (g,b)⟩ (yielded ops a.tmps)=false:=by
  rw [mI (ops:=ops) rfl hd (ha.at_ d _ hv)];exact hc
 unfold wpList
 rw [hw]
 exact h _ (ha.put hn)
theorem bS {d:Nat} {b:Bool} (hv:look l d=some (.bool b)) (ht:b=true→cX P n ops Q os ((d,.bool true)::l) W) (hf:b=false→cX P n ops Q os ((d,.bool false)::l) W):cX P n ops Q os l W:=fun a ha=>by
 have hb:=ha.at_ d _ hv
 have key:∀ c,b=c→Has n ((d,.bool c)::l) a:=fun c hc=>⟨ha.size,ha.defers,fun t u hu=>by
  unfold look at hu
  cases hx:Nat.beq d t with
  | true =>
   simp only [hx,cond_true,Option.some.injEq] at hu
   rw [← Nat.eq_of_beq_eq_true hx,← hu,← hc];exact hb
  | false =>
   simp only [hx,cond_false] at hu
   exact ha.at_ t u hu⟩
 cases hc:b with
 | true=>exact ht hc a (key _ hc)
 | false=>exact hf hc a (key _ hc)
variable {d:Nat} {op:Op} {ty:TypeId} {pos:String} {aft:Array Edge} {v:Value}
def gF (P:Program) (l:Fr) (o:Oper) (W:World) (v:Value) (W':World):Prop:=∀ ev:Operand→Value,(∀ x u,evL l x=some u→ev x=u)→(execOp ev o).run P W = .ok (.value v) W'
theorem opV {W':World} (hr:gF P l ⟨some d,op,ty,pos,aft,none⟩ W v W') (hd:Nat.blt d n=true) (h:cX P n ops Q os ((d,v)::l) W'):cX P n ops Q (⟨some d,op,ty,pos,aft,none⟩::os) l W:=fun a ha =>
 wpList_plain rfl fun K hK=>by
  unfold Oper.wp
  rw [hr a.eval ha.ev]
  exact hK _ _ (h _ (ha.put hd))
theorem bE {x:Operand} (hx:evL l x=some v):gF P l ⟨some d,.move x,ty,pos,aft,none⟩ W (v) W:=fun ev he=>by unfold execOp;simp only [];rw [he x v hx];rfl
theorem aG {x:Operand} (hx:evL l x=some v) (hd:Nat.blt d n=true) (h:cX P n ops Q os ((d,v)::l) W):cX P n ops Q (⟨some d,.move x,ty,pos,aft,none⟩::os) l W:=opV (bE hx) hd h
theorem eM {x:Operand} (hx:evL l x=some v):gF P l ⟨some d,.assign x,ty,pos,aft,none⟩ W (v) W:=fun ev he=>by unfold execOp;simp only [];rw [he x v hx];rfl
theorem aA {x:Operand} (hx:evL l x=some v) (hd:Nat.blt d n=true) (h:cX P n ops Q os ((d,v)::l) W):cX P n ops Q (⟨some d,.assign x,ty,pos,aft,none⟩::os) l W:=opV (eM hx) hd h
theorem dU {x y z:Operand} (hx:evL l x=some (.bool true)) (hy:evL l y=some v):gF P l ⟨some d,.pick x y z,ty,pos,aft,none⟩ W (v) W:=fun ev he=>by unfold execOp;simp only [];rw [he x _ hx,he y _ hy];rfl
theorem bC {x y z:Operand} (hx:evL l x=some (.bool true)) (hy:evL l y=some v) (hd:Nat.blt d n=true) (h:cX P n ops Q os ((d,v)::l) W):cX P n ops Q (⟨some d,.pick x y z,ty,pos,aft,none⟩::os) l W:=opV (dU hx hy) hd h
theorem eD {x y z:Operand} (hx:evL l x=some (.bool false)) (hz:evL l z=some v):gF P l ⟨some d,.pick x y z,ty,pos,aft,none⟩ W (v) W:=fun ev he=>by unfold execOp;simp only [];rw [he x _ hx,he z _ hz];rfl
theorem bV {x y z:Operand} (hx:evL l x=some (.bool false)) (hz:evL l z=some v) (hd:Nat.blt d n=true) (h:cX P n ops Q os ((d,v)::l) W):cX P n ops Q (⟨some d,.pick x y z,ty,pos,aft,none⟩::os) l W:=opV (eD hx hz) hd h
theorem jU {x:Operand} {b:Bool} {t:TypeId} (hx:evL l x=some (.bool b)):gF P l ⟨some d,.unOp .not t x,ty,pos,aft,none⟩ W (.bool (!b)) W:=fun ev he=>by unfold execOp;simp only [];rw [he x _ hx];rfl
theorem eA {x:Operand} {b:Bool} {t:TypeId} (hx:evL l x=some (.bool b)) (hd:Nat.blt d n=true) (h:cX P n ops Q os ((d,.bool (!b))::l) W):cX P n ops Q (⟨some d,.unOp .not t x,ty,pos,aft,none⟩::os) l W:=opV (jU hx) hd h
theorem gU {x:Operand} {i:Nat} {vs:Array Value} (hx:evL l x=some (.tuple vs)) (hv:vs[i]?=some v):gF P l ⟨some d,.extract x i,ty,pos,aft,none⟩ W (v) W:=fun ev he=>by unfold execOp;simp only [];rw [he x _ hx];simp [Instr.extract,hv]
theorem bL {x:Operand} {i:Nat} {vs:Array Value} (hx:evL l x=some (.tuple vs)) (hv:vs[i]?=some v) (hd:Nat.blt d n=true) (h:cX P n ops Q os ((d,v)::l) W):cX P n ops Q (⟨some d,.extract x i,ty,pos,aft,none⟩::os) l W:=opV (gU hx hv) hd h
theorem kP {x:Operand} {t e:TypeId} {ad:Option Addr} {m c:Nat} (ht:P.underlying t=some (.slice e)) (hx:evL l x=some (.slice ad m c)):gF P l ⟨some d,.call { callee:=.builtin .len,args:=#[x],argTypes:=#[t] },ty,pos,aft,none⟩ W (.int .i64 (m:Int)) W:=fun ev he=>by unfold execOp;simp [resolve,invoke,builtin,he x _ hx,Builtin.len_,run_underlying ht,goInt]
theorem bX {x:Operand} {t e:TypeId} {ad:Option Addr} {m c:Nat} (ht:P.underlying t=some (.slice e)) (hx:evL l x=some (.slice ad m c)) (hd:Nat.blt d n=true) (h:cX P n ops Q os ((d,.int .i64 (m:Int))::l) W):cX P n ops Q (⟨some d,.call { callee:=.builtin .len,args:=#[x],argTypes:=#[t] },ty,pos,aft,none⟩::os) l W:=opV (kP ht hx) hd h
end
def dD (lo:Nat) (A W:World):Prop:=A.heap.size≤W.heap.size∧∀ b,lo≤b→b < A.heap.size→W.heap[b]?=A.heap[b]?
theorem dD.refl (lo:Nat) (A:World):dD lo A A:=⟨Nat.le_refl _,fun _ _ _=>rfl⟩
theorem dD.cell {lo:Nat} {A W:World} (h:dD lo A W) {p:Addr} {v:Value} (hp:lo≤p.block) (hc:A.cell? p=some v):W.cell? p=some v :=
 (World.cell?_of_block (h.2 p.block hp (World.block_lt_of_cell? A p hc))).trans hc
theorem dD.mono {lo lo':Nat} {A W:World} (h:dD lo A W) (hl:lo≤lo'):dD lo' A W:=⟨h.1,fun b h1 h2=>h.2 b (Nat.le_trans hl h1) h2⟩
theorem dD.trans {lo:Nat} {A B C:World} (h:dD lo A B) (k:dD lo B C):dD lo A C :=
 ⟨Nat.le_trans h.1 k.1,fun b h1 h2=>(k.2 b h1 (Nat.lt_of_lt_of_le h2 h.1)).trans (h.2 b h1 h2)⟩
theorem aN {A W:World} (h:Below A.heap.size A W) (lo:Nat):dD lo A W:=⟨h.size,fun b _ hb=>h.block b hb⟩
abbrev Own:=List (Nat×List Value×TypeId)
structure GR where
 v:Value
 n:Nat
 xs:List Value
 e:TypeId
 size:Nat
abbrev cY:=List GR
def Value.apart (v u:Value):Prop:=∀ b,v.ownBlock=some b→u.ownBlock≠some b
structure St (w0:World) (O:Own) (G:cY) (K:List (Nat×World)) (W:World):Prop where
 below:Below w0.heap.size w0 W
 own:∀ p∈O,w0.heap.size≤p.1∧W.heap[p.1]?=some (.cells p.2.1.toArray p.2.2 (0,0))
 dist:O.Pairwise (fun p q=>p.1≠q.1)
 kept:∀ q∈K,dD q.1 q.2 W∧∀ p∈O,p.1 < q.1∨q.2.heap.size≤p.1
 rows:∀ g∈G,W.ownsRow w0.heap.size g.e g.size g.v g.n g.xs∧∀ b,g.v.ownBlock=some b→(∀ p∈O,p.1≠b)∧∀ q∈K,b < q.1∨q.2.heap.size≤b
 gdist:G.Pairwise (fun g h=>Value.apart g.v h.v)
section
variable {w0 W:World} {O:Own} {G:cY} {K:List (Nat×World)}
theorem cQ {w:World} {b:Nat} {o:Obj} (h:w.heap[b]?=some o):b < w.heap.size:=(Array.getElem?_eq_some_iff.1 h).1
theorem St.start (w:World):St w [] [] [] w:=⟨Below.refl _ _,(fun p h=>by cases h),List.Pairwise.nil,(fun q h=>by cases h),(fun q h=>by cases h),List.Pairwise.nil⟩
theorem St.glt (h:St w0 O G K W) {g:GR} (hg:g∈G) {b:Nat} (hb:g.v.ownBlock=some b):w0.heap.size≤b∧b < W.heap.size:=(h.rows g hg).1.lt b hb
theorem eJ {w w':World} {base:Nat} {e:TypeId} {size:Nat} {v:Value} {n:Nat} {xs:List Value} (h:w.ownsRow base e size v n xs) (hb:∀ b,v.ownBlock=some b→w'.heap[b]?=w.heap[b]?):w'.ownsRow base e size v n xs:=by
 refine ⟨h.1,?_⟩
 rcases h.2 with h2 | ⟨g,cap,cur,rfl,h3,h4,h5⟩
 ·exact .inl h2
 ·exact .inr ⟨g,cap,cur,rfl,h3,by rw [hb g rfl];exact h4,h5⟩
theorem St.alloc (h:St w0 O G K W) (cs:List Value) (T:TypeId):St w0 ((W.heap.size,cs,T)::O) G K (W.alloc (.cells cs.toArray T)) where
 below:=h.below.alloc h.below.size _
 own:=fun p hp=>by
  rcases List.mem_cons.1 hp with rfl | hp
  ·exact ⟨h.below.size,heap_alloc_new W _⟩
  ·obtain ⟨h1,h2⟩:=h.own p hp
   exact ⟨h1,(Below.heap_alloc W _ _ (cQ h2)).trans h2⟩
 dist:=List.Pairwise.cons (fun q hq e=>by have:=cQ (h.own q hq).2;simp only at e;omega) h.dist
 kept:=fun q hq=>by
  obtain ⟨h1,h2⟩:=h.kept q hq
  refine ⟨⟨by have:=h1.1;simp;omega,fun b hb hb2=>(Below.heap_alloc W _ _ (by have:=h1.1;omega)).trans (h1.2 b hb hb2)⟩,fun p hp=>?_⟩
  rcases List.mem_cons.1 hp with rfl | hp
  ·exact .inr h1.1
  ·exact h2 p hp
 rows:=fun g hg=>by
  obtain ⟨h1,h2⟩:=h.rows g hg
  refine ⟨eJ h1 fun b hb=>Below.heap_alloc W _ _ (h.glt hg hb).2,fun b hb=>⟨fun p hp=>?_,(h2 b hb).2⟩⟩
  rcases List.mem_cons.1 hp with rfl | hp
  ·have:=(h.glt hg hb).2;simp only;omega
  ·exact (h2 b hb).1 p hp
 gdist:=h.gdist
theorem St.grow {W':World} (h:St w0 O G K W) (hb:Below W.heap.size W W'):St w0 O G K W' where
 below:=h.below.trans (hb.mono h.below.size)
 own:=fun p hp=>by
  obtain ⟨h1,h2⟩:=h.own p hp
  exact ⟨h1,(hb.block _ (cQ h2)).trans h2⟩
 dist:=h.dist
 kept:=fun q hq=>by
  obtain ⟨h1,h2⟩:=h.kept q hq
  exact ⟨⟨Nat.le_trans h1.1 hb.size,fun b hb1 hb2=>(hb.block b (Nat.lt_of_lt_of_le hb2 h1.1)).trans (h1.2 b hb1 hb2)⟩,h2⟩
 rows:=fun g hg=>⟨eJ (h.rows g hg).1 fun b h1=>hb.block b (h.glt hg h1).2,(h.rows g hg).2⟩
 gdist:=h.gdist
theorem St.call {W':World} (h:St w0 O G K W) (hb:Below W.heap.size W W'):St w0 O G ((W.heap.size,W')::K) W' :=
 let g:=h.grow hb
 ⟨g.below,g.own,g.dist,fun q hq=>by
  rcases List.mem_cons.1 hq with rfl | hq
  ·exact ⟨dD.refl _ _,fun p hp=>.inl (cQ (h.own p hp).2)⟩
  ·exact g.kept q hq,(fun r hr=>⟨(g.rows r hr).1,fun b hb=>⟨((g.rows r hr).2 b hb).1,fun q hq=>by
   rcases List.mem_cons.1 hq with rfl | hq
   ·exact .inl (h.glt hr hb).2
   ·exact ((g.rows r hr).2 b hb).2 q hq⟩⟩),g.gdist⟩
theorem St.drew (h:St w0 O G K W):St w0 O G K W.drew:=h.grow (Below.refl _ _).drew
theorem St.at_ (h:St w0 O G K W) (i:Nat) {B:Nat} {cs:List Value} {T:TypeId} (hi:O[i]?=some (B,cs,T)):W.heap[B]?=some (.cells cs.toArray T (0,0)):=(h.own _ (List.mem_of_getElem? hi)).2
theorem St.ge (h:St w0 O G K W) (i:Nat) {B:Nat} {cs:List Value} {T:TypeId} (hi:O[i]?=some (B,cs,T)):w0.heap.size≤B:=(h.own _ (List.mem_of_getElem? hi)).1
theorem St.since (h:St w0 O G K W) (i:Nat) {lo:Nat} {A:World} (hi:K[i]?=some (lo,A)):dD lo A W:=(h.kept _ (List.mem_of_getElem? hi)).1
theorem St.old (h:St w0 O G K W) {p:Addr} {v:Value} (hc:w0.cell? p=some v):W.cell? p=some v:=(h.below.cell (World.block_lt_of_cell? _ _ hc)).trans hc
theorem St.agree (h:St w0 O G K W):dD 0 w0 W:=aN h.below 0
theorem aK {B j:Nat} {cs:List Value} {T:TypeId} {v:Value} (h:W.heap[B]?=some (.cells cs.toArray T (0,0))) (hv:cs[j]?=some v):W.cell? ⟨B,j,none⟩=some v:=by
 unfold World.cell?;simp [h,hv]
theorem xK {B j:Nat} {cs:List Value} {T:TypeId} (h:W.heap[B]?=some (.cells cs.toArray T (0,0))):W.frozen? ⟨B,j,none⟩=false:=by
 unfold World.frozen?;simp [h]
theorem heap_set {B j:Nat} {cs:List Value} {T:TypeId} (v:Value) (h:W.heap[B]?=some (.cells cs.toArray T (0,0))):(W.setCell ⟨B,j,none⟩ v).heap[B]?=some (.cells (cs.set j v).toArray T (0,0)):=by
 simp only [World.setCell,Array.getElem?_modify,if_true,h,Option.map_some]
 simp
theorem Pc {x y:Nat×List Value×TypeId} (hx:x.1=y.1):∀ {O:Own} {i:Nat},O[i]?=some x→O.Pairwise (fun p q=>p.1≠q.1)→(O.set i y).Pairwise (fun p q=>p.1≠q.1)
 | [],_,h,_=>by simp at h
 | p::O,0,h,hp=>by
  simp at h;subst h
  cases hp with
  | cons a b=>exact List.Pairwise.cons (fun q hq=>by rw [← hx];exact a q hq) b
 | p::O,i+1,h,hp=>by
  cases hp with
  | cons a b =>
   refine List.Pairwise.cons (fun q hq=>?_) (Pc hx (by simpa using h) b)
   rcases List.mem_or_eq_of_mem_set hq with hq | rfl
   ·exact a q hq
   ·rw [← hx];exact a x (List.mem_of_getElem? (by simpa using h))
theorem nX:∀ {O:Own} {i:Nat} {x y q:Nat×List Value×TypeId},O[i]?=some x→O.Pairwise (fun p q=>p.1≠q.1)→q∈O.set i y→q=y∨(q∈O∧q.1≠x.1)
 | [],_,_,_,_,h,_,_=>by simp at h
 | p::O,0,x,y,q,h,hp,hq=>by
  simp at h;subst h
  cases hp with
  | cons a b =>
   rcases List.mem_cons.1 hq with rfl | hq
   ·exact .inl rfl
   ·exact .inr ⟨List.mem_cons_of_mem _ hq,fun e=>a q hq e.symm⟩
 | p::O,i+1,x,y,q,h,hp,hq=>by
  cases hp with
  | cons a b =>
   rcases List.mem_cons.1 hq with rfl | hq
   ·exact .inr ⟨List.mem_cons_self,a x (List.mem_of_getElem? (by simpa using h))⟩
   ·rcases nX (by simpa using h) b hq with h1 | ⟨h1,h2⟩
    ·exact .inl h1
    ·exact .inr ⟨List.mem_cons_of_mem _ h1,h2⟩
theorem St.set (h:St w0 O G K W) (i:Nat) {B:Nat} {cs:List Value} {T:TypeId} (hi:O[i]?=some (B,cs,T)) (j:Nat) (v:Value):St w0 (O.set i (B,cs.set j v,T)) G K (W.setCell ⟨B,j,none⟩ v) where
 below:=h.below.setCell (p:=⟨B,j,none⟩) (h.ge i hi) v
 own:=fun p hp=>by
  rcases nX hi h.dist hp with rfl | ⟨h1,h2⟩
  ·exact ⟨h.ge i hi,heap_set v (h.at_ i hi)⟩
  ·obtain ⟨h3,h4⟩:=h.own p h1
   exact ⟨h3,(Below.heap_setCell _ _ _ _ h2).trans h4⟩
 dist:=Pc (x:=(B,cs,T)) (y:=(B,cs.set j v,T)) rfl hi h.dist
 kept:=fun q hq=>by
  obtain ⟨h1,h2⟩:=h.kept q hq
  have hB:=h2 _ (List.mem_of_getElem? hi)
  refine ⟨⟨by have:=h1.1;simpa using this,fun b hb hb2=>(Below.heap_setCell _ _ _ _ (by show b≠B;simp only at hB;omega)).trans (h1.2 b hb hb2)⟩,fun p hp=>?_⟩
  rcases nX hi h.dist hp with rfl | ⟨h3,_⟩
  ·exact hB
  ·exact h2 p h3
 rows:=fun g hg=>by
  obtain ⟨h1,h2⟩:=h.rows g hg
  refine ⟨eJ h1 fun b hb=>Below.heap_setCell _ _ _ _ (fun e=>(h2 b hb).1 _ (List.mem_of_getElem? hi) (by simpa using e.symm)),fun b hb=>⟨fun p hp=>?_,(h2 b hb).2⟩⟩
  rcases nX hi h.dist hp with rfl | ⟨h3,_⟩
  ·exact (h2 b hb).1 (B,cs,T) (List.mem_of_getElem? hi)
  ·exact (h2 b hb).1 p h3
 gdist:=h.gdist
theorem St.tail {p:Nat×List Value×TypeId} (h:St w0 (p::O) G K W):St w0 O G K W where
 below:=h.below
 own:=fun q hq=>h.own q (List.mem_cons_of_mem _ hq)
 dist:=by cases h.dist with | cons a b=>exact b
 kept:=fun q hq=>⟨(h.kept q hq).1,fun r hr=>(h.kept q hq).2 r (List.mem_cons_of_mem _ hr)⟩
 rows:=fun g hg=>⟨(h.rows g hg).1,fun b hb=>⟨fun r hr=>((h.rows g hg).2 b hb).1 r (List.mem_cons_of_mem _ hr),((h.rows g hg).2 b hb).2⟩⟩
 gdist:=h.gdist
theorem St.keep (K':List (Nat×World)) (h:St w0 O G K W) (hk:∀ q∈K',q∈K):St w0 O G K' W where
 below:=h.below
 own:=h.own
 dist:=h.dist
 kept:=fun q hq=>h.kept q (hk q hq)
 rows:=fun g hg=>⟨(h.rows g hg).1,fun b hb=>⟨((h.rows g hg).2 b hb).1,fun q hq=>((h.rows g hg).2 b hb).2 q (hk q hq)⟩⟩
 gdist:=h.gdist
theorem St.clear (h:St w0 O G K W):St w0 O G [] W:=h.keep [] (fun q hq=>by cases hq)
theorem St.newG (h:St w0 O G K W) (e:TypeId) (size:Nat):St w0 O (⟨.slice none 0 0,0,[],e,size⟩::G) K W where
 below:=h.below
 own:=h.own
 dist:=h.dist
 kept:=h.kept
 rows:=fun g hg=>by
  rcases List.mem_cons.1 hg with rfl | hg
  ·exact ⟨World.ownsRow_nil _ _ _ _,fun b hb=>by simp [Value.ownBlock] at hb⟩
  ·exact h.rows g hg
 gdist:=List.Pairwise.cons (fun g hg b hb=>by simp [Value.ownBlock] at hb) h.gdist
theorem St.row (h:St w0 O G K W) (i:Nat) {g:GR} (hi:G[i]?=some g):W.ownsRow w0.heap.size g.e g.size g.v g.n g.xs:=(h.rows g (List.mem_of_getElem? hi)).1
theorem gV {P:Program} {w:World} (base:Nat) (t ty e:TypeId) (i:TypeInfo) (z:Value) (ht:P.underlying t=some (.slice e)) (hi:P.info? e=some i) (hz:i.zero=some z) (hzs:z.cells.size=i.size) (hsz:0 < i.size)
  (v:Value) (n:Nat) (xs:List Value) (hown:w.ownsRow base e i.size v n xs) (a:Addr) (m c:Nat) (news:List Value) (hl:news.length=m * i.size) (hnews:∀ j u,news[j]?=some u→w.cell? (a.add j)=some u) (h1:∀ u∈news,u.oneCell'=true)
  (h63:n+m≤maxLen) (hbytes:(n+m) * i.bytes≤140737488355328) (hbase:base≤w.heap.size) :
  ∃ v' w',(Builtin.append_ #[t,t] ty #[v,.slice (some a) m c]).run P w = .ok v' w'∧w'.ownsRow base e i.size v' (n+m) (xs++news)∧w.grownBy w' v.ownBlock∧(v'.ownBlock=v.ownBlock∨v'.ownBlock=some w.heap.size):=by
 obtain ⟨v',w',hr,h2,h3,h4⟩:=run_append_own (P:=P) w base t ty e i z i.size i.bytes ht hi hz rfl rfl hzs hsz v n xs hown a m c news hl hnews h1 h63 hbytes hbase
 refine ⟨v',w',hr,h2,h3,?_⟩
 cases hv:v'.ownBlock with
 | none =>
  rcases h2.2 with ⟨rfl,hn⟩ | ⟨g,cap,cur,rfl,_⟩
  ·rw [(h4.1 rfl).1];exact .inl rfl
  ·simp [Value.ownBlock] at hv
 | some b =>
  by_cases hvb:v.ownBlock=some b
  ·exact .inl hvb.symm
  ·refine .inr ?_
   -- the block is no old one: append would have had to lie there before
   have hbig:=run_append_own (P:=P) w base t ty e i z i.size i.bytes ht hi hz rfl rfl hzs hsz v n xs hown a m c news hl hnews h1 h63 hbytes hbase
   rcases hown.2 with ⟨rfl,rfl⟩ | ⟨g,cap,cur,rfl,hbg,hg,hnc,hcm,hcs,htake⟩
   ·have hx:xs=[]:=List.eq_nil_of_length_eq_zero (by simpa using hown.1)
    subst hx
    by_cases hm:m=0
    ·subst hm
     have:=h4.2 ⟨rfl,rfl⟩
     subst this;simp [Value.ownBlock] at hv
    ·have hr2:=run_append_nil (P:=P) w t ty e i z ht hi hz a m c news hl hnews (by omega) (by simp only [maxLen] at h63;omega) (by have hb:=hbytes;simp only [Nat.zero_add] at hb;omega)
     rw [hr2] at hr
     simp only [Result.ok.injEq] at hr
     rw [← hr.1] at hv
     simpa [Value.ownBlock] using hv.symm
   ·by_cases hroom:n+m≤cap
    ·have hfit:n * i.size+news.length≤cur.size:=by rw [hl,hcs,← Nat.add_mul];exact Nat.mul_le_mul_right _ hroom
     have hr2:=run_append_room (P:=P) w t ty e i ht hi g n cap cur hg a m c news hl hnews h1 hroom hfit
     rw [hr2] at hr
     simp only [Result.ok.injEq] at hr
     rw [← hr.1] at hv
     exact absurd hv hvb
    ·have holds:∀ j u,xs[j]?=some u→w.cell? ((⟨g,0,none⟩:Addr).add j)=some u:=hown.cells (g:=g) rfl
     have hr2:=run_append_grow (P:=P) w t ty e i z ht hi hz ⟨g,0,none⟩ n cap xs hown.1 holds a m c news hl hnews (by omega) (by simp only [maxLen] at h63;omega) (growslice_fits (by omega) hbytes)
     rw [hr2] at hr
     simp only [Result.ok.injEq] at hr
     rw [← hr.1] at hv
     simpa [Value.ownBlock] using hv.symm
theorem Fg:∀ {G:cY} {i:Nat} {x y q:GR},G[i]?=some x→q∈G.set i y→G.Pairwise (fun g h=>Value.apart g.v h.v)→q=y∨(q∈G∧(Value.apart q.v x.v∨Value.apart x.v q.v))
 | [],_,_,_,_,h,_,_=>by simp at h
 | p::G,0,x,y,q,h,hq,hp=>by
  simp at h;subst h
  cases hp with
  | cons a b =>
   rcases List.mem_cons.1 hq with rfl | hq
   ·exact .inl rfl
   ·exact .inr ⟨List.mem_cons_of_mem _ hq,.inr (a q hq)⟩
 | p::G,i+1,x,y,q,h,hq,hp=>by
  cases hp with
  | cons a b =>
   rcases List.mem_cons.1 hq with rfl | hq
   ·exact .inr ⟨List.mem_cons_self,.inl (a x (List.mem_of_getElem? (by simpa using h)))⟩
   ·rcases Fg (by simpa using h) hq b with h1 | ⟨h1,h2⟩
    ·exact .inl h1
    ·exact .inr ⟨List.mem_cons_of_mem _ h1,h2⟩
theorem J1:∀ {G:cY} {i:Nat} {x y:GR},G[i]?=some x→(∀ q∈G,Value.apart q.v x.v→Value.apart q.v y.v)→(∀ q∈G,Value.apart x.v q.v→Value.apart y.v q.v)→G.Pairwise (fun g h=>Value.apart g.v h.v)→(G.set i y).Pairwise (fun g h=>Value.apart g.v h.v)
 | [],_,_,_,h,_,_,_=>by simp at h
 | p::G,0,x,y,h,k1,k2,hp=>by
  simp at h;subst h
  cases hp with
  | cons a b=>exact List.Pairwise.cons (fun q hq=>k2 q (List.mem_cons_of_mem _ hq) (a q hq)) b
 | p::G,i+1,x,y,h,k1,k2,hp=>by
  cases hp with
  | cons a b =>
   have hx:=a x (List.mem_of_getElem? (by simpa using h))
   refine List.Pairwise.cons (fun q hq=>?_) (J1 (by simpa using h) (fun q hq=>k1 q (List.mem_cons_of_mem _ hq)) (fun q hq=>k2 q (List.mem_cons_of_mem _ hq)) b)
   rcases List.mem_or_eq_of_mem_set hq with hq | rfl
   ·exact a q hq
   ·exact k1 p List.mem_cons_self hx
theorem St.setG {W':World} (h:St w0 O G K W) (i:Nat) {g:GR} (hi:G[i]?=some g) {v':Value} {n':Nat} {xs':List Value} (hown:W'.ownsRow w0.heap.size g.e g.size v' n' xs') (hgr:W.grownBy W' g.v.ownBlock) (hv:v'.ownBlock=g.v.ownBlock∨v'.ownBlock=some W.heap.size) :
  St w0 O (G.set i ⟨v',n',xs',g.e,g.size⟩) K W' where
 below:=h.below.grown hgr h.below.size (fun k hk=>(h.glt (List.mem_of_getElem? hi) hk).1)
 own:=fun p hp=>by
  obtain ⟨h1,h2⟩:=h.own p hp
  refine ⟨h1,(hgr.block _ (cQ h2) (fun e=>?_)).trans h2⟩
  exact ((h.rows g (List.mem_of_getElem? hi)).2 p.1 e.symm).1 p hp rfl
 dist:=h.dist
 kept:=fun q hq=>by
  obtain ⟨h1,h2⟩:=h.kept q hq
  refine ⟨⟨Nat.le_trans h1.1 hgr.size,fun b hb hb2=>(hgr.block b (Nat.lt_of_lt_of_le hb2 h1.1) (fun e=>?_)).trans (h1.2 b hb hb2)⟩,h2⟩
  have:=((h.rows g (List.mem_of_getElem? hi)).2 b e.symm).2 q hq
  omega
 rows:=fun r hr=>by
  rcases Fg hi hr h.gdist with rfl | ⟨hr',hap⟩
  ·refine ⟨hown,fun b hb=>?_⟩
   rcases hv with e | e
   ·have hb':g.v.ownBlock=some b:=e▸hb
    exact (h.rows g (List.mem_of_getElem? hi)).2 b hb'
   ·have hb':W.heap.size=b:=by rw [show v'.ownBlock=some b from hb] at e;exact (Option.some.inj e).symm
    subst hb'
    exact ⟨fun p hp e=>by have:=cQ (h.own p hp).2;omega,fun q hq=>.inr (h.kept q hq).1.1⟩
  ·refine ⟨eJ (h.rows r hr').1 fun b hb=>hgr.block b (h.glt hr' hb).2 (fun e=>?_),(h.rows r hr').2⟩
   rcases hap with h1 | h1
   ·exact h1 b hb e.symm
   ·exact h1 b e.symm hb
 gdist:=J1 hi (fun q hq hap b hb e=>by
   rcases hv with e' | e'
   ·exact hap b hb (e'▸e)
   ·rw [show v'.ownBlock=some b from e] at e'
    have:=(h.glt hq hb).2
    have:=Option.some.inj e';omega) (fun q hq hap b hb e=>by
   rcases hv with e' | e'
   ·exact hap b (e'▸hb) e
   ·rw [show v'.ownBlock=some b from hb] at e'
    have:=(h.glt hq e).2
    have:=Option.some.inj e';omega) h.gdist
def setMany (W:World) (B:Nat):Nat→List Value→World
 | _,[]=>W
 | j,v::r=>setMany (W.setCell ⟨B,j,none⟩ v) B (j+1) r
def jC (cs:List Value):Nat→List Value→List Value
 | _,[]=>cs
 | j,v::r=>jC (cs.set j v) (j+1) r
theorem St.setMany {T:TypeId} {B:Nat} (i:Nat):∀ (vs:List Value) (j:Nat) {O:Own} {W:World} {cs:List Value},St w0 O G K W→O[i]?=some (B,cs,T)→St w0 (O.set i (B,jC cs j vs,T)) G K (Go.Proofs.YtofaiolkihcfmaaGreatDoor.setMany W B j vs)
 | [],j,O,W,cs,h,hi=>by
  have:O.set i (B,cs,T)=O:=by
   apply List.ext_getElem?
   intro k
   rw [List.getElem?_set]
   by_cases hk:i=k
   ·subst hk;rw [if_pos rfl];rw [hi];simp [(List.getElem?_eq_some_iff.1 hi).1]
   ·rw [if_neg hk]
  unfold jC Go.Proofs.YtofaiolkihcfmaaGreatDoor.setMany
  rw [this];exact h
 | v::r,j,O,W,cs,h,hi=>by
  have h1:=h.set i hi j v
  have hi2:(O.set i (B,cs.set j v,T))[i]?=some (B,cs.set j v,T):=by
   rw [List.getElem?_set];rw [if_pos rfl];simp [(List.getElem?_eq_some_iff.1 hi).1]
  have h2:=St.setMany i r (j+1) h1 hi2
  rw [List.set_set] at h2
  exact h2
end
def aE (W:World) (b o:Nat):List Value→Prop
 | []=>True
 | v::r=>W.cell? ⟨b,o,none⟩=some v∧aE W b (o+1) r
theorem aE.get {W:World} {b:Nat}:∀ {vs:List Value} {o:Nat},aE W b o vs→∀ j v,vs[j]?=some v→W.cell? ⟨b,o+j,none⟩=some v
 | [],_,_,j,v,h=>by simp at h
 | u::r,o,hc,0,v,h=>by simp at h;subst h;exact hc.1
 | u::r,o,hc,j+1,v,h=>by rw [show o+(j+1)=o+1+j by omega];exact aE.get hc.2 j v (by simpa using h)
theorem aE.of {W:World} {b:Nat}:∀ {vs:List Value} {o:Nat},(∀ j v,vs[j]?=some v→W.cell? ⟨b,o+j,none⟩=some v)→aE W b o vs
 | [],_,_=>trivial
 | u::r,o,h=>⟨h 0 u rfl,aE.of fun j v hv=>by rw [show o+1+j=o+(j+1) by omega];exact h (j+1) v (by simpa using hv)⟩
theorem aE.agree {A W:World} {lo b:Nat} (hw:dD lo A W) (hb:lo≤b):∀ {vs:List Value} {o:Nat},aE A b o vs→aE W b o vs
 | [],_,_=>trivial
 | _::_,_,h=>⟨hw.cell hb h.1,aE.agree hw hb h.2⟩
theorem aE.own {W:World} {B:Nat} {cs:List Value} {T:TypeId} (h:W.heap[B]?=some (.cells cs.toArray T (0,0))) {j m:Nat} {vs:List Value} (hv:(cs.drop j).take m=vs):aE W B j vs:=by
 subst hv
 refine aE.of fun i v hi=>aK h ?_
 rw [List.getElem?_take] at hi
 split at hi
 ·rwa [List.getElem?_drop] at hi
 ·cases hi
section
variable {P:Program} {n:Nat} {Q:Exit→Act→World→Prop} {l:Fr} {w0 W:World} {ops:Array Oper} {os:List Oper} {O:Own} {G:cY} {K:List (Nat×World)}
variable {d:Nat} {ty:TypeId} {pos:String} {aft:Array Edge} {v:Value}
theorem bA {x:Operand} {T:TypeId} {p:Addr} (hT:∀ w,(isAgg T).run P w = .ok false w) (hx:evL l x=some (.pointer (some p))) (hc:W.cell? p=some v):gF P l ⟨some d,.load T x,ty,pos,aft,none⟩ W (v) W:=fun ev he=>by unfold execOp;simp only [];rw [he x _ hx];simp [Instr.loadAt,Instr.sureAddr,loadVar,hT,run_load,hc]
theorem aT {x:Operand} {T:TypeId} {p:Addr} (hT:∀ w,(isAgg T).run P w = .ok false w) (hx:evL l x=some (.pointer (some p))) (hc:W.cell? p=some v) (hd:Nat.blt d n=true) (h:cX P n ops Q os ((d,v)::l) W):cX P n ops Q (⟨some d,.load T x,ty,pos,aft,none⟩::os) l W:=opV (bA hT hx hc) hd h
theorem bF {x:Operand} {T:TypeId} {b o:Nat} {vs:List Value} (hT:∀ w,(isAgg T).run P w = .ok true w) (hS:∀ w,(sizeOf T).run P w = .ok vs.length w) (hx:evL l x=some (.pointer (some ⟨b,o,none⟩))) (hc:aE W b o vs):gF P l ⟨some d,.load T x,ty,pos,aft,none⟩ W (.agg vs.toArray) W:=fun ev he=>by
  unfold execOp;simp only [];rw [he x _ hx]
  have:=run_loadCells_list (P:=P) W ⟨b,o,none⟩ vs (fun j u hj=>by rw [Addr.add_lit];exact hc.get j u hj)
  simp [Instr.loadAt,Instr.sureAddr,loadVar,hT,hS,this]
theorem aS {x:Operand} {T:TypeId} {b o:Nat} {vs:List Value} (hT:∀ w,(isAgg T).run P w = .ok true w) (hS:∀ w,(sizeOf T).run P w = .ok vs.length w) (hx:evL l x=some (.pointer (some ⟨b,o,none⟩))) (hc:aE W b o vs) (hd:Nat.blt d n=true) (h:cX P n ops Q os ((d,.agg vs.toArray)::l) W):cX P n ops Q (⟨some d,.load T x,ty,pos,aft,none⟩::os) l W:=opV (bF hT hS hx hc) hd h
theorem bK {x:Operand} {T:TypeId} {cs:List Value} (hS:St w0 O G K W) (hx:evL l x=some v) (hcs:v.cells=cs.toArray) (hd:Nat.blt d n=true)
  (h:∀ B W',St w0 ((B,cs,T)::O) G K W'→cX P n ops Q os ((d,.pointer (some ⟨B,0,none⟩))::l) W'):cX P n ops Q (⟨some d,.box T x,ty,pos,aft,none⟩::os) l W :=
 opV (W':=W.alloc (.cells cs.toArray T)) (v:=.pointer (some ⟨W.heap.size,0,none⟩)) (fun ev he=>by unfold execOp;simp only [];rw [he x _ hx];simp [Instr.box,newVar,newRow,hcs]) hd (h _ _ (hS.alloc cs T))
theorem bH {T:TypeId} {z:Value} {cs:List Value} (hS:St w0 O G K W) (hz:∀ w,(zeroValue T).run P w = .ok z w) (hcs:z.cells=cs.toArray) (hd:Nat.blt d n=true)
  (h:∀ B W',St w0 ((B,cs,T)::O) G K W'→cX P n ops Q os ((d,.pointer (some ⟨B,0,none⟩))::l) W'):cX P n ops Q (⟨some d,.alloc T,ty,pos,aft,none⟩::os) l W :=
 opV (W':=W.alloc (.cells cs.toArray T)) (v:=.pointer (some ⟨W.heap.size,0,none⟩)) (fun ev he=>by unfold execOp;simp only [];simp [Instr.alloc,newVar,newRow,hz,hcs]) hd (h _ _ (hS.alloc cs T))
theorem zH {P:Program} {W:World} {p:Addr} {c v:Value} (hc:W.cell? p=some c) (hf:W.frozen? p=false) (hv:v.oneCell'=true):(store p v).run P W = .ok () (W.setCell p v):=by
 rw [run_store P W p v .plain hv,hc];simp [hf]
theorem kB {P:Program} {B:Nat} {U:TypeId}:∀ (vs:List Value) (j k:Nat) (W:World) (cs:List Value),W.heap[B]?=some (.cells cs.toArray U (0,0))→k+j+vs.length≤cs.length→(∀ u∈vs,u.oneCell'=true) →
  (storeCells ⟨B,k,none⟩ vs j).run P W = .ok () (setMany W B (k+j) vs)
 | [],j,k,W,cs,_,_,_=>by simp [storeCells,setMany]
 | v::r,j,k,W,cs,h,hl,h1=>by
  have hj':k+j < cs.length:=by simp at hl;omega
  have hc:W.cell? ⟨B,k+j,none⟩=some cs[k+j]:=aK h (by simp [hj'])
  have hfz:=xK (j:=k+j) h
  have ih:=kB (P:=P) r (j+1) k (W.setCell ⟨B,k+j,none⟩ v) (cs.set (k+j) v) (heap_set v h) (by simp at hl ⊢;omega) (fun u hu=>h1 u (List.mem_cons_of_mem _ hu))
  have hv:=h1 v List.mem_cons_self
  unfold setMany
  rw [show k+j+1=k+(j+1) by omega]
  rw [← ih]
  have hst:=zH (P:=P) hc hfz hv
  simp only [storeCells,Addr.add_lit,Sem.run_bind,hst,Result.andThen_ok]
theorem fA {T U:TypeId} {x y:Operand} {B j i:Nat} {cs cs':List Value} {O':Own} (hS:St w0 O G K W) (hsz:∀ w,(sizeOf T).run P w = .ok 1 w) (hx:evL l x=some (.pointer (some ⟨B,j,none⟩))) (hy:evL l y=some v) (hv:v.oneCell'=true) (hi:O[i]?=some (B,cs,U)) (hj:Nat.blt j cs.length=true)
  (hcs:cs.set j v=cs') (hO:O.set i (B,cs',U)=O') (h:∀ W',St w0 O' G K W'→cX P n ops Q os l W'):cX P n ops Q (⟨none,.store T x y,ty,pos,aft,none⟩::os) l W:=fun a ha=>by
 refine wpList_plain rfl fun K' hK=>?_
 unfold Oper.wp execOp
 simp only []
 rw [ha.ev x _ hx,ha.ev y _ hy]
 subst hcs;subst hO
 have hj':j < cs.length:=Nat.le_of_ble_eq_true hj
 have hc:W.cell? ⟨B,j,none⟩=some cs[j]:=aK (hS.at_ i hi) (by simp [hj'])
 have hfz:=xK (j:=j) (hS.at_ i hi)
 have h2:=h _ (hS.set i hi j v)
 have hcells:v.cells=#[v]:=by cases v<;>first | rfl | cases hv
 have hst:=kB (P:=P) [v] 0 j W cs (hS.at_ i hi) (by simp;omega) (fun u hu=>by simp at hu;subst hu;exact hv)
 simp only [Nat.add_zero,Go.Proofs.YtofaiolkihcfmaaGreatDoor.setMany] at hst
 have:(Instr.storeAt T (.pointer (some ⟨B,j,none⟩)) v).run P W = .ok () (W.setCell ⟨B,j,none⟩ v):=by
  simp [Instr.storeAt,Instr.sureAddr,storeVar,hsz,hcells,hst]
 simp only [Sem.run_bind,this,Result.andThen_ok,Sem.run_pure,Oper.upon_skip]
 exact hK _ _ (h2 _ ha)
theorem aV {T U:TypeId} {x y:Operand} {B j i:Nat} {cs cs' vs:List Value} {O':Own} (hS:St w0 O G K W) (hsz:∀ w,(sizeOf T).run P w = .ok vs.length w) (hx:evL l x=some (.pointer (some ⟨B,j,none⟩))) (hy:evL l y=some (.agg vs.toArray)) (hv:vs.all Value.oneCell'=true) (hi:O[i]?=some (B,cs,U)) (hj:Nat.ble (j+vs.length) cs.length=true)
  (hcs:jC cs j vs=cs') (hO:O.set i (B,cs',U)=O') (h:∀ W',St w0 O' G K W'→cX P n ops Q os l W'):cX P n ops Q (⟨none,.store T x y,ty,pos,aft,none⟩::os) l W:=fun a ha=>by
 refine wpList_plain rfl fun K' hK=>?_
 unfold Oper.wp execOp
 simp only []
 rw [ha.ev x _ hx,ha.ev y _ hy]
 subst hcs;subst hO
 have hj':j+vs.length≤cs.length:=Nat.le_of_ble_eq_true hj
 have h2:=h _ (hS.setMany i vs j hi)
 have hst:=kB (P:=P) vs 0 j W cs (hS.at_ i hi) (by omega) (fun u hu=>List.all_eq_true.1 hv u hu)
 rw [Nat.add_zero] at hst
 have:(Instr.storeAt T (.pointer (some ⟨B,j,none⟩)) (.agg vs.toArray)).run P W = .ok () (Go.Proofs.YtofaiolkihcfmaaGreatDoor.setMany W B j vs):=by
  simp [Instr.storeAt,Instr.sureAddr,storeVar,hsz,Value.cells,hst]
 simp only [Sem.run_bind,this,Result.andThen_ok,Sem.run_pure,Oper.upon_skip]
 exact hK _ _ (h2 _ ha)
theorem aW {T:TypeId} {x:Operand} {b o f k:Nat} (hF:∀ w b o,(Instr.fieldAt T (.pointer (some ⟨b,o,none⟩)) f).run P w = .ok (.pointer (some ⟨b,o+k,none⟩)) w) (hx:evL l x=some (.pointer (some ⟨b,o,none⟩))) {o':Nat} (ho:o+k=o'):gF P l ⟨some d,.fieldAddr T x f,ty,pos,aft,none⟩ W (.pointer (some ⟨b,o',none⟩)) W:=fun ev he=>by subst ho;unfold execOp;simp only [];rw [he x _ hx];simp [hF]
theorem aP {T:TypeId} {x:Operand} {b o f k:Nat} (hF:∀ w b o,(Instr.fieldAt T (.pointer (some ⟨b,o,none⟩)) f).run P w = .ok (.pointer (some ⟨b,o+k,none⟩)) w) (hx:evL l x=some (.pointer (some ⟨b,o,none⟩))) {o':Nat} (ho:o+k=o') (hd:Nat.blt d n=true) (h:cX P n ops Q os ((d,.pointer (some ⟨b,o',none⟩))::l) W):cX P n ops Q (⟨some d,.fieldAddr T x f,ty,pos,aft,none⟩::os) l W:=opV (aW hF hx ho) hd h
theorem bB {T e:TypeId} {x y:Operand} {b o m c j k:Nat} {ki:IntKind} {i:Int} (hU:P.underlying T=some (.slice e)) (hS:∀ w,(sizeOf e).run P w = .ok k w) (hx:evL l x=some (.slice (some ⟨b,o,none⟩) m c)) (hy:evL l y=some (.int ki i)) (hi:i=(j:Int)) (hj:j < m) {o':Nat} (ho:o+j * k=o'):gF P l ⟨some d,.indexAddr T x y,ty,pos,aft,none⟩ W (.pointer (some ⟨b,o',none⟩)) W:=fun ev he=>by
  subst ho;subst hi
  unfold execOp;simp only [];rw [he x _ hx,he y _ hy]
  have h0:(0:Int)≤(j:Int):=by omega
  have h1:(j:Int) < (m:Int):=by omega
  simp [Instr.indexAt,asIntOf,run_underlying hU,h0,h1,hS,hj,Addr.add_lit]
theorem cK {T e:TypeId} {x y:Operand} {b o m c j k:Nat} {ki:IntKind} {i:Int} (hU:P.underlying T=some (.slice e)) (hS:∀ w,(sizeOf e).run P w = .ok k w) (hx:evL l x=some (.slice (some ⟨b,o,none⟩) m c)) (hy:evL l y=some (.int ki i)) (hi:i=(j:Int)) (hj:j < m) {o':Nat} (ho:o+j * k=o') (hd:Nat.blt d n=true) (h:cX P n ops Q os ((d,.pointer (some ⟨b,o',none⟩))::l) W):cX P n ops Q (⟨some d,.indexAddr T x y,ty,pos,aft,none⟩::os) l W:=opV (bB hU hS hx hy hi hj ho) hd h
theorem cO {f:FuncId} {args:Array Operand} {ts:Array TypeId} {vs:List Value} {R:Ending→World→Prop} (hS:St w0 O G K W) (hgo:bW P f=true) (ha:args.toList.map (evL l)=vs.map some) (hc:Calls P f vs.toArray W R)
  (hd:Nat.blt d n=true)
  (h:∀ e W',R e W'→∃ v,e = .returned v∧Below W.heap.size W W'∧(St w0 O G ((W.heap.size,W')::K) W'→cX P n ops Q os ((d,v)::l) W')):cX P n ops Q (⟨some d,.call { callee:=.value (.func f),args:=args,argTypes:=ts },ty,pos,aft,none⟩::os) l W:=fun a hl=>by
 refine wpList_plain rfl fun K' hK=>?_
 unfold Oper.wp
 rw [oX P a.eval W f args ts _ rfl rfl hgo,Oper.upon_enter]
 have hargs:args.map a.eval=vs.toArray:=by
  have key:∀ (xs:List Operand) (us:List Value),xs.map (evL l)=us.map some→xs.map a.eval=us:=by
   intro xs
   induction xs with
   | nil=>intro us h;cases us<;>simp at h ⊢
   | cons x xs ih =>
    intro us h
    cases us with
    | nil=>simp at h
    | cons u us =>
     simp only [List.map_cons,List.cons.injEq] at h
     simp only [List.map_cons,hl.ev x u h.1,ih us h.2]
  apply Array.ext'
  rw [Array.toList_map,key _ _ ha]
 rw [hargs]
 refine hc.mono ?_
 intro e W' hRe
 obtain ⟨v,rfl,hb,hn⟩:=h e W' hRe
 exact hK _ _ (hn (hS.call hb) _ (hl.put hd))
theorem cF {f:FuncId} {args:Array Operand} {ts:Array TypeId} {vs:List Value} {u:Value} (hS:St w0 O G K W) (hgo:bW P f=true) (ha:args.toList.map (evL l)=vs.map some) (hc:Calls P f vs.toArray W fun e w'=>e = .returned u∧Below W.heap.size W w')
  (hd:Nat.blt d n=true) (h:∀ W',St w0 O G ((W.heap.size,W')::K) W'→cX P n ops Q os ((d,u)::l) W'):cX P n ops Q (⟨some d,.call { callee:=.value (.func f),args:=args,argTypes:=ts },ty,pos,aft,none⟩::os) l W :=
 cO hS hgo ha hc hd fun _ W' hR=>⟨u,hR.1,hR.2,h W'⟩
theorem iB {t e:TypeId} {x y:Operand} {i:Nat} {g:GR} {b o m c:Nat} {news:List Value} {inf:TypeInfo} {z:Value} (hS:St w0 O G K W) (hU:P.underlying t=some (.slice e)) (hinf:P.info? e=some inf) (hz:inf.zero=some z) (hzs:z.cells.size=inf.size) (hsz:0 < inf.size)
  (hi:G[i]?=some g) (he:g.e=e) (hgs:g.size=inf.size) (hx:evL l x=some g.v) (hy:evL l y=some (.slice (some ⟨b,o,none⟩) m c)) (hc:aE W b o news) (hl:news.length=m * inf.size) (h1:news.all Value.oneCell'=true)
  (h63:g.n+m≤maxLen) (hbytes:(g.n+m) * inf.bytes≤140737488355328) (hd:Nat.blt d n=true)
  (h:∀ v' W',St w0 O (G.set i ⟨v',g.n+m,g.xs++news,e,g.size⟩) K W'→cX P n ops Q os ((d,v')::l) W') :
  cX P n ops Q (⟨some d,.call { callee:=.builtin .append,args:=#[x,y],argTypes:=#[t,t] },ty,pos,aft,none⟩::os) l W:=by
 subst he
 have hrow:=hS.row i hi
 rw [hgs] at hrow
 obtain ⟨v',W',hr,h2,h3,h4⟩:=gV (P:=P) (w:=W) w0.heap.size t ty g.e inf z hU hinf hz hzs hsz g.v g.n g.xs hrow ⟨b,o,none⟩ m c news hl (fun j u hj=>by rw [Addr.add_lit];exact hc.get j u hj) (fun u hu=>List.all_eq_true.1 h1 u hu) h63 hbytes hS.below.size
 rw [← hgs] at h2
 refine opV (W':=W') (v:=v') (fun ev hev=>?_) hd (h v' W' (hS.setG i hi h2 h3 h4))
 unfold execOp
 simp only [resolve,invoke,builtin,Sem.run_bind,Sem.run_pure,Result.andThen_ok,List.map_toArray,List.map_cons,List.map_nil,hev x _ hx,hev y _ hy,hr]
end
section
variable {P:Program} {n:Nat} {Q:Exit→Act→World→Prop} {l:Fr} {w0 W:World} {ops:Array Oper} {os:List Oper} {O:Own} {G:cY} {K:List (Nat×World)}
variable {d:Nat} {ty:TypeId} {pos:String} {aft:Array Edge} {v:Value} {t u:TypeId} {x y:Operand} {k:IntKind} {a b:Int}
theorem gB {op:BinOp} {ev:Operand→Value} {r:Value} {p q:Value} (hx:ev x=p) (hy:ev y=q) (hg:(eqGuard op t x y p q).run P W = .ok () W) (h:(binOp op t p q).run P W = .ok r W) :
  (execOp ev ⟨some d,.binOp op t x y u,ty,pos,aft,none⟩).run P W = .ok (.value r) W:=by
 unfold execOp;simp only [hx,hy,Sem.run_bind,hg,Result.andThen_ok,h,Sem.run_pure]
theorem iR {op:BinOp}:(eqGuard op t x y (.int k a) (.int k b)).run P W = .ok () W:=by
 cases op<;>rfl
theorem Hw (hx:evL l x=some (.int k a)) (hy:evL l y=some (.int k b)):gF P l ⟨some d,.binOp .lss t x y u,ty,pos,aft,none⟩ W (.bool (decide (a < b))) W:=fun ev he=>gB (he x _ hx) (he y _ hy) iR (by simp [binOp,Op.intCmp])
theorem cN (hx:evL l x=some (.int k a)) (hy:evL l y=some (.int k b)) (hd:Nat.blt d n=true) (h:cX P n ops Q os ((d,.bool (decide (a < b)))::l) W):cX P n ops Q (⟨some d,.binOp .lss t x y u,ty,pos,aft,none⟩::os) l W:=opV (Hw hx hy) hd h
theorem rn_leq (hx:evL l x=some (.int k a)) (hy:evL l y=some (.int k b)):gF P l ⟨some d,.binOp .leq t x y u,ty,pos,aft,none⟩ W (.bool (decide (a≤b))) W:=fun ev he=>gB (he x _ hx) (he y _ hy) iR (by simp [binOp,Op.intCmp])
theorem Cd (hx:evL l x=some (.int k a)) (hy:evL l y=some (.int k b)) (hd:Nat.blt d n=true) (h:cX P n ops Q os ((d,.bool (decide (a≤b)))::l) W):cX P n ops Q (⟨some d,.binOp .leq t x y u,ty,pos,aft,none⟩::os) l W:=opV (rn_leq hx hy) hd h
theorem Hx (hx:evL l x=some (.int k a)) (hy:evL l y=some (.int k b)):gF P l ⟨some d,.binOp .gtr t x y u,ty,pos,aft,none⟩ W (.bool (decide (b < a))) W:=fun ev he=>gB (he x _ hx) (he y _ hy) iR (by simp [binOp,Op.intCmp])
theorem dM (hx:evL l x=some (.int k a)) (hy:evL l y=some (.int k b)) (hd:Nat.blt d n=true) (h:cX P n ops Q os ((d,.bool (decide (b < a)))::l) W):cX P n ops Q (⟨some d,.binOp .gtr t x y u,ty,pos,aft,none⟩::os) l W:=opV (Hx hx hy) hd h
theorem Pd (hx:evL l x=some (.int k a)) (hy:evL l y=some (.int k b)):gF P l ⟨some d,.binOp .geq t x y u,ty,pos,aft,none⟩ W (.bool (decide (b≤a))) W:=fun ev he=>gB (he x _ hx) (he y _ hy) iR (by simp [binOp,Op.intCmp])
theorem nY (hx:evL l x=some (.int k a)) (hy:evL l y=some (.int k b)) (hd:Nat.blt d n=true) (h:cX P n ops Q os ((d,.bool (decide (b≤a)))::l) W):cX P n ops Q (⟨some d,.binOp .geq t x y u,ty,pos,aft,none⟩::os) l W:=opV (Pd hx hy) hd h
theorem jD (hx:evL l x=some (.int k a)) (hy:evL l y=some (.int k b)):gF P l ⟨some d,.binOp .eql t x y u,ty,pos,aft,none⟩ W (.bool (decide (a=b))) W:=fun ev he=>gB (he x _ hx) (he y _ hy) iR (by simp [binOp,Op.intCmp];rfl)
theorem cM (hx:evL l x=some (.int k a)) (hy:evL l y=some (.int k b)) (hd:Nat.blt d n=true) (h:cX P n ops Q os ((d,.bool (decide (a=b)))::l) W):cX P n ops Q (⟨some d,.binOp .eql t x y u,ty,pos,aft,none⟩::os) l W:=opV (jD hx hy) hd h
theorem rL (hx:evL l x=some (.int k a)) (hy:evL l y=some (.int k b)):gF P l ⟨some d,.binOp .neq t x y u,ty,pos,aft,none⟩ W (.bool (decide (a≠b))) W:=fun ev he=>gB (he x _ hx) (he y _ hy) iR (by simp [binOp,Op.intCmp];by_cases h:a=b<;>simp [h])
theorem dA (hx:evL l x=some (.int k a)) (hy:evL l y=some (.int k b)) (hd:Nat.blt d n=true) (h:cX P n ops Q os ((d,.bool (decide (a≠b)))::l) W):cX P n ops Q (⟨some d,.binOp .neq t x y u,ty,pos,aft,none⟩::os) l W:=opV (rL hx hy) hd h
theorem rn_neqB {p q:Bool} (hB:P.underlying t=some .bool) (hx:evL l x=some (.bool p)) (hy:evL l y=some (.bool q)):gF P l ⟨some d,.binOp .neq t x y u,ty,pos,aft,none⟩ W (.bool (!(p == q))) W:=fun ev he=>gB (he x _ hx) (he y _ hy) rfl (run_neq_bool W t p q hB)
theorem Ce {p q:Bool} (hB:P.underlying t=some .bool) (hx:evL l x=some (.bool p)) (hy:evL l y=some (.bool q)) (hd:Nat.blt d n=true) (h:cX P n ops Q os ((d,.bool (!(p == q)))::l) W):cX P n ops Q (⟨some d,.binOp .neq t x y u,ty,pos,aft,none⟩::os) l W:=opV (rn_neqB hB hx hy) hd h
theorem Pe {c:Int} (hx:evL l x=some (.int k a)) (hy:evL l y=some (.int k b)) (hw:k.wrap (a+b)=c):gF P l ⟨some d,.binOp .add t x y u,ty,pos,aft,none⟩ W (.int k c) W:=fun ev he=>by subst hw;exact gB (he x _ hx) (he y _ hy) iR (by simp [binOp,Op.intArith])
theorem cR {c:Int} (hx:evL l x=some (.int k a)) (hy:evL l y=some (.int k b)) (hw:k.wrap (a+b)=c) (hd:Nat.blt d n=true) (h:cX P n ops Q os ((d,.int k c)::l) W):cX P n ops Q (⟨some d,.binOp .add t x y u,ty,pos,aft,none⟩::os) l W:=opV (Pe hx hy hw) hd h
theorem Pf {c:Int} (hx:evL l x=some (.int k a)) (hy:evL l y=some (.int k b)) (hw:k.wrap (a - b)=c):gF P l ⟨some d,.binOp .sub t x y u,ty,pos,aft,none⟩ W (.int k c) W:=fun ev he=>by subst hw;exact gB (he x _ hx) (he y _ hy) iR (by simp [binOp,Op.intArith])
theorem rM {c:Int} (hx:evL l x=some (.int k a)) (hy:evL l y=some (.int k b)) (hw:k.wrap (a - b)=c) (hd:Nat.blt d n=true) (h:cX P n ops Q os ((d,.int k c)::l) W):cX P n ops Q (⟨some d,.binOp .sub t x y u,ty,pos,aft,none⟩::os) l W:=opV (Pf hx hy hw) hd h
theorem J2 {op:BinOp} {p q r:Value} (hx:evL l x=some p) (hy:evL l y=some q) (hg:(eqGuard op t x y p q).run P W = .ok () W) (hr:(binOp op t p q).run P W = .ok r W):gF P l ⟨some d,.binOp op t x y u,ty,pos,aft,none⟩ W r W:=fun ev he=>gB (he x _ hx) (he y _ hy) hg hr
theorem rN {ev:Operand→Value} (he:∀ x u,evL l x=some u→ev x=u):∀ (xs:List (Nat×Operand)) (us:List (Nat×Value)),xs.map (fun p=>(p.1,evL l p.2))=us.map (fun p=>(p.1,some p.2))→xs.map (fun p=>(p.1,ev p.2))=us
 | [],us,h=>by cases us<;>simp at h ⊢
 | x::xs,us,h=>by
  cases us with
  | nil=>simp at h
  | cons u us =>
   simp only [List.map_cons,List.cons.injEq,Prod.mk.injEq] at h
   obtain ⟨⟨h1,h2⟩,h3⟩:=h
   simp only [List.map_cons,he _ _ h2,h1,rN he xs us h3]
theorem oY {T:TypeId} {xs:List (Nat×Operand)} {us:List (Nat×Value)} {cs:Array Value} (hp:xs.map (fun p=>(p.1,evL l p.2))=us.map (fun p=>(p.1,some p.2))) (hb:P.built T us=some cs):gF P l ⟨some d,.build T xs.toArray,ty,pos,aft,none⟩ W (.agg cs) W:=fun ev he=>by
  have h1:=rN he xs us hp
  have h2:(Array.map (fun p=>(p.1,ev p.2)) xs.toArray)=us.toArray:=by simp [h1]
  have h3:=run_build W T us.toArray cs (P:=P) (by simpa using hb)
  unfold execOp
  simp only []
  rw [h2]
  simp [h3]
theorem cS {T:TypeId} {xs:List (Nat×Operand)} {us:List (Nat×Value)} {cs:Array Value} (hp:xs.map (fun p=>(p.1,evL l p.2))=us.map (fun p=>(p.1,some p.2))) (hb:P.built T us=some cs) (hd:Nat.blt d n=true) (h:cX P n ops Q os ((d,.agg cs)::l) W):cX P n ops Q (⟨some d,.build T xs.toArray,ty,pos,aft,none⟩::os) l W:=opV (oY hp hb) hd h
theorem cU {T e:TypeId} {m s:Nat} {xs:List (Nat×Operand)} {us:List (Nat×Value)} {z:Value} {cs:List Value} (hS:St w0 O G K W) (hU:P.underlying T=some (.slice e)) (hs:∀ w,(sizeOf e).run P w = .ok s w) (hz:∀ w,(zeroValue e).run P w = .ok z w)
  (hm:Nat.ble (m * s) 16777216=true) (hm0:Nat.beq (m * s) 0=false) (hp:xs.map (fun p=>(p.1,evL l p.2))=us.map (fun p=>(p.1,some p.2)))
  (hf:Instr.fill (fun i=>some (i * s,s)) ((Array.range (m * s)).map (z.cells[· % z.cells.size]!)) us=some cs.toArray) (hd:Nat.blt d n=true)
  (h:∀ B W',St w0 ((B,cs,e)::O) G K W'→cX P n ops Q os ((d,.slice (some ⟨B,0,none⟩) m m)::l) W'):cX P n ops Q (⟨some d,.buildSlice T m xs.toArray,ty,pos,aft,none⟩::os) l W :=
 opV (W':=W.alloc (.cells cs.toArray e)) (v:=.slice (some ⟨W.heap.size,0,none⟩) m m) (fun ev he=>by
  have h1:=rN he xs us hp
  have h2:(Array.map (fun p=>(p.1,ev p.2)) xs.toArray)=us.toArray:=by simp [h1]
  have h4:m * s≤16777216:=Nat.le_of_ble_eq_true hm
  have h5:m * s≠0:=fun e=>by rw [e] at hm0;cases hm0
  have h6:¬ (m * s > 2 ^ 24):=by omega
  unfold execOp
  simp only []
  rw [h2]
  simp only [Instr.buildSlice,Sem.run_bind,run_underlying hU,Result.andThen_ok,hs,if_neg h6,if_neg h5,hz,Sem.run_pure,hf,newRow,run_newObj_alloc]) hd (h _ _ (hS.alloc cs e))
theorem sY {T e:TypeId} {ad:Option Addr} {m c j s:Nat} {i:Int} (hU:P.underlying T=some (.slice e)) (hs:∀ w,(sizeOf e).run P w = .ok s w) (hx:evL l x=some (.slice ad m c)) (hy:evL l y=some (.int k i)) (hi:i=(j:Int)) (hj:j≤m) :
  gF P l ⟨some d,.slice T x (some y) none none,ty,pos,aft,none⟩ W (.slice (if c=j then ad else ad.map (·.add (j * s))) (m - j) (c - j)) W:=fun ev he=>by
 subst hi
 unfold execOp;simp only [Option.map_some,Option.map_none];rw [he x _ hx,he y _ hy]
 have h0:(0:Int)≤(j:Int):=by omega
 have h1:(j:Int)≤(m:Int):=by omega
 simp [Instr.sliceAt,Instr.slice,Instr.sliceBounds,Instr.sliceBound,run_underlying hU,asIntOf,hj,hs]
theorem sZ {T e:TypeId} {ad:Option Addr} {m c j s:Nat} {i:Int} (hU:P.underlying T=some (.slice e)) (hs:∀ w,(sizeOf e).run P w = .ok s w) (hx:evL l x=some (.slice ad m c)) (hy:evL l y=some (.int k i)) (hi:i=(j:Int)) (hj:j≤m) (hd:Nat.blt d n=true)
  (h:∀ ad',(c=j→ad'=ad)→(c≠j→ad'=ad.map (·.add (j * s)))→cX P n ops Q os ((d,.slice ad' (m - j) (c - j))::l) W):cX P n ops Q (⟨some d,.slice T x (some y) none none,ty,pos,aft,none⟩::os) l W :=
 opV (sY hU hs hx hy hi hj) hd (h _ (fun e=>if_pos e) (fun e=>if_neg e))
theorem dO {fn:Func} {r:Nat} {T:TypeId} {B o:Nat} {vs:List Value} (hf:fn.results=#[.cell r T]) (hT:∀ w,(isAgg T).run P w = .ok true w) (hS:∀ w,(sizeOf T).run P w = .ok vs.length w) (hl:look l r=some (.pointer (some ⟨B,o,none⟩))) (hc:aE W B o vs) :
  ∀ a,Has n l a→(results fn a.tmps).run P W = .ok (.agg vs.toArray) W:=fun a ha=>by
 have h1:=run_loadCells_list (P:=P) W ⟨B,o,none⟩ vs (fun j u hj=>by rw [Addr.add_lit];exact hc.get j u hj)
 have h2:=ha.at_ r _ hl
 rw [Array.getD_eq_getD_getElem?] at h2
 simp [results,hf,h2,asAddr,loadVar,hT,hS,h1]
theorem oK {fn:Func} {r t:Nat} {T:TypeId} {B o:Nat} {vs:List Value} {x:Value} (hf:fn.results=#[.cell r T,.tmp t]) (hT:∀ w,(isAgg T).run P w = .ok true w) (hS:∀ w,(sizeOf T).run P w = .ok vs.length w) (hl:look l r=some (.pointer (some ⟨B,o,none⟩))) (hc:aE W B o vs) (hx:look l t=some x) :
  ∀ a,Has n l a→(results fn a.tmps).run P W = .ok (.tuple #[.agg vs.toArray,x]) W:=fun a ha=>by
 have h1:=run_loadCells_list (P:=P) W ⟨B,o,none⟩ vs (fun j u hj=>by rw [Addr.add_lit];exact hc.get j u hj)
 have h2:=ha.at_ r _ hl
 have h3:=ha.at_ t _ hx
 rw [Array.getD_eq_getD_getElem?] at h2 h3
 simp [results,hf,h2,h3,asAddr,loadVar,hT,hS,h1]
end
section
variable {P:Program} {n:Nat} {Q:Exit→Act→World→Prop} {l:Fr} {w0 W:World} {ops:Array Oper} {os:List Oper} {O:Own} {G:cY} {K:List (Nat×World)} {L:List Asr} {i:Nat}
def RG (P:Program) (n:Nat) (ops:Array Oper) (Q:Exit→Act→World→Prop) (l:Fr) (W:World) (L:List Asr) (i:Nat):Prop:=∀ a,Has n l a→RS P ops Q a.tmps W L i
def Mn (P:Program) (n:Nat) (ops:Array Oper) (Q:Exit→Act→World→Prop) (l:Fr) (W:World) (L:List Asr):Nat→Nat→Prop
 | 0,_=>True
 | m+1,k=>RG P n ops Q l W L k∧Mn P n ops Q l W L m (k+1)
theorem uH {a:Act} (ha:Has n l a):∀ {m k:Nat},Mn P n ops Q l W L m k→sW (RS P ops Q a.tmps W L) m k
 | 0,_,_=>trivial
 | m+1,k,h=>⟨h.1 a ha,uH ha h.2⟩
def OpG (n:Nat) (ops:Array Oper) (l:Fr) (L:List Asr) (i t:Nat) (p:Asr):Prop:=∀ a,Has n l a→OpI ops a.tmps L i (.tmp t) p
theorem g_fr {t:Nat} {v:Value} (hf:freeT ops t=true) (hv:look l t=some v):OpG n ops l L i t (isV v):=fun a ha=>opF hf (ha.at_ t v hv)
theorem cI {t:Nat} {v:Value} (hv:look l t=some v) (hf:freeT ops t=true:=by kernel_rfl):OpG n ops l L i t (isV v):=g_fr hf hv
theorem g_dep (j:Nat) {t:Nat} {p:Asr} (hw:bI ops i j t=true) (hL:atI L j=p):OpG n ops l L i t p:=fun a ha=>opD j t hw hL
theorem aO (j:Nat) {t:Nat} {p:Asr} (hL:atI L j=p) (hw:bI ops i j t=true:=by kernel_rfl):OpG n ops l L i t p:=g_dep j hw hL
def uI (n:Nat) (ops:Array Oper) (l:Fr) (L:List Asr) (i:Nat):Fr→Prop
 | []=>True
 | p::r=>OpG n ops l L i p.1 (isV p.2)∧uI n ops l L i r
theorem iJ {t0:Act} (h0:Has n l t0) {a:Act} {w:World} (hF:∀ t,freeT ops t=true→a.eval (.tmp t)=t0.tmps.getD t undef) (hD:∀ j d,bI ops i j d=true→atI L j (a.eval (.tmp d)) w) :
  ∀ {li:Fr},uI n ops l L i li→∀ x u,evL li x=some u→a.eval x=u:=by
 have key:∀ {li:Fr},uI n ops l L i li→∀ t v,look li t=some v→a.eval (.tmp t)=v:=by
  intro li
  induction li with
  | nil=>intro _ t v h;cases h
  | cons p r ih =>
   intro h t v hv
   unfold look at hv
   cases hb:Nat.beq p.1 t with
   | true =>
    simp only [hb,cond_true,Option.some.injEq] at hv
    rw [← Nat.eq_of_beq_eq_true hb,← hv]
    exact h.1 t0 h0 a w hF hD
   | false =>
    simp only [hb,cond_false] at hv
    exact ih h.2 t v hv
 intro li hli x u hx
 cases x with
 | tmp t=>exact key hli t u hx
 | const c=>exact Option.some.inj hx
 | global g=>exact Option.some.inj hx
 | func f=>exact Option.some.inj hx
theorem eK (ev:Operand→Value) (dst:Option Tmp) (op:Op) (ty:TypeId) (pos pos':String) (aft aft':Array Edge) (g g':Option (Nat×Bool)):execOp ev ⟨dst,op,ty,pos,aft,g⟩=execOp ev ⟨dst,op,ty,pos',aft',g'⟩:=by unfold execOp;rfl
variable {d:Nat} {op:Op} {ty:TypeId} {pos:String} {aft:Array Edge} {v:Value} {gd:Option (Nat×Bool)}
theorem rgV (li:Fr) (hi:ops[i]?=some ⟨some d,op,ty,pos,aft,gd⟩) (hw:gG ops L i ⟨some d,op,ty,pos,aft,gd⟩) (hli:uI n ops l L i li) (hr:∀ w,Below W.heap.size W w→gF P li ⟨some d,op,ty,pos,#[],none⟩ w v w) (hI:atI L i=isV v):RG P n ops Q l W L i :=
 fun a ha=>sX hi hw fun b w hF hG hD=>⟨v,w,by rw [eK b.eval _ _ _ _ pos _ #[] _ none];exact hr w hG b.eval (iJ ha hF hD hli),by rw [hI];rfl,Below.refl _ _⟩
theorem kH (li:Fr) {v':Value} (hi:ops[i]?=some ⟨some d,op,ty,pos,aft,gd⟩) (hw:gG ops L i ⟨some d,op,ty,pos,aft,gd⟩) (hli:uI n ops l L i li) (hr:∀ w,Below W.heap.size W w→gF P li ⟨some d,op,ty,pos,#[],none⟩ w v w) (he:v=v') (hI:atI L i=isV v'):RG P n ops Q l W L i:=by
 subst he;exact rgV li hi hw hli hr hI
theorem rgP (li:Fr) {p:Asr} (hi:ops[i]?=some ⟨some d,op,ty,pos,aft,gd⟩) (hw:gG ops L i ⟨some d,op,ty,pos,aft,gd⟩) (hli:uI n ops l L i li) (hr:∀ w,Below W.heap.size W w→gF P li ⟨some d,op,ty,pos,#[],none⟩ w v w) (hp:∀ w,Below W.heap.size W w→p v w) (hI:atI L i=p):RG P n ops Q l W L i :=
 fun a ha=>sX hi hw fun b w hF hG hD=>⟨v,w,by rw [eK b.eval _ _ _ _ pos _ #[] _ none];exact hr w hG b.eval (iJ ha hF hD hli),by rw [hI];exact hp w hG,Below.refl _ _⟩
theorem bT (hi:ops[i]?=some ⟨some d,op,ty,pos,aft,gd⟩) (hw:nF ops L i ⟨some d,op,ty,pos,aft,gd⟩) (hI:atI L i=isV undef):RG P n ops Q l W L i:=fun a ha=>st_none hi hw hI
theorem aU {o:Oper} (h:o.guard=none):gG ops L i o:=.inl h
theorem w_yes {o:Oper} {g:Nat} {b:Bool} (d:Nat) (h:o.guard=some (g,b)) (hd:(ops[g]?).bind (·.dst)=some d) (hw:bI ops i g d=true) (hL:atI L g=isV (.bool b)):gG ops L i o:=.inr ⟨g,b,d,h,hd,hw,hL⟩
theorem bQ {o:Oper} {g:Nat} {b:Bool} (d:Nat) (h:o.guard=some (g,b)) (hL:atI L g=isV (.bool b)) (hd:(ops[g]?).bind (·.dst)=some d:=by kernel_rfl) (hw:bI ops i g d=true:=by kernel_rfl):gG ops L i o:=w_yes d h hd hw hL
theorem w_no {o:Oper} {g:Nat} {b c:Bool} (d:Nat) (h:o.guard=some (g,b)) (hd:(ops[g]?).bind (·.dst)=some d) (hw:bI ops i g d=true) (hL:atI L g=isV (.bool c)) (hc:(c == b)=false):nF ops L i o:=.inl ⟨g,b,c,d,h,hd,hw,hL,hc⟩
theorem bU {o:Oper} {g:Nat} {b c:Bool} (d:Nat) (h:o.guard=some (g,b)) (hL:atI L g=isV (.bool c)) (hc:(c == b)=false) (hd:(ops[g]?).bind (·.dst)=some d:=by kernel_rfl) (hw:bI ops i g d=true:=by kernel_rfl):nF ops L i o:=w_no d h hd hw hL hc
def uJ (n:Nat) (ops:Array Oper) (l:Fr) (L:List Asr) (i:Nat):List Operand→List Asr→Prop
 | [],[]=>True
 | x::xs,p::ps=>(∀ a,Has n l a→OpI ops a.tmps L i x p)∧uJ n ops l L i xs ps
 | _,_=>False
def Holds:List Asr→List Value→World→Prop
 | [],[],_=>True
 | p::ps,v::vs,w=>p v w∧Holds ps vs w
 | _,_,_=>False
theorem bZ {t:Nat} {p:Asr} (h:OpG n ops l L i t p):∀ a,Has n l a→OpI ops a.tmps L i (.tmp t) p:=h
theorem fL {c:Value}:∀ a,Has n l a→OpI ops a.tmps L i (.const c) (isV c):=fun a ha=>opC
theorem gW {t0:Act} (h0:Has n l t0) {a:Act} {w:World} (hF:∀ t,freeT ops t=true→a.eval (.tmp t)=t0.tmps.getD t undef) (hD:∀ j d,bI ops i j d=true→atI L j (a.eval (.tmp d)) w) :
  ∀ {xs:List Operand} {ps:List Asr},uJ n ops l L i xs ps→Holds ps (xs.map a.eval) w
 | [],[],_=>trivial
 | x::xs,p::ps,h=>⟨h.1 t0 h0 a w hF hD,gW h0 hF hD h.2⟩
 | [],_::_,h=>h.elim
 | _::_,[],h=>h.elim
theorem cV {f:FuncId} {xs:List Operand} {ts:Array TypeId} (ps:List Asr) (hi:ops[i]?=some ⟨some d,.call { callee:=.value (.func f),args:=xs.toArray,argTypes:=ts },ty,pos,aft,gd⟩) (hgo:bW P f=true)
  (hw:gG ops L i ⟨some d,.call { callee:=.value (.func f),args:=xs.toArray,argTypes:=ts },ty,pos,aft,gd⟩) (hp:uJ n ops l L i xs ps)
  {p:Asr} (hc:∀ vs w,Below W.heap.size W w→Holds ps vs w→Calls P f vs.toArray w (uZ p w)) (hI:atI L i=p):RG P n ops Q l W L i :=
 fun a ha=>st_call hi rfl hgo hw fun b w hF hG hD=>by
  have:=hc (xs.map b.eval) w hG (gW ha hF hD hp)
  subst hI
  rwa [show (xs.map b.eval).toArray=xs.toArray.map b.eval by simp] at this
theorem Cf {T e:TypeId} {m s:Nat} {xs:List (Nat×Operand)} {z:Value} (ps:List Asr) (hi:ops[i]?=some ⟨some d,.buildSlice T m xs.toArray,ty,pos,aft,gd⟩) (hw:gG ops L i ⟨some d,.buildSlice T m xs.toArray,ty,pos,aft,gd⟩)
  (hU:P.underlying T=some (.slice e)) (hs:∀ w,(sizeOf e).run P w = .ok s w) (hz:∀ w,(zeroValue e).run P w = .ok z w) (hm:Nat.ble (m * s) 16777216=true) (hm0:Nat.beq (m * s) 0=false) (hp:uJ n ops l L i (xs.map (·.2)) ps)
  (hf:∀ vs w,Below W.heap.size W w→Holds ps vs w→∃ cs:List Value,Instr.fill (fun i=>some (i * s,s)) ((Array.range (m * s)).map (z.cells[· % z.cells.size]!)) ((xs.map (·.1)).zip vs)=some cs.toArray ∧
   ∀ B w',w.heap.size=B→w'.heap[B]?=some (.cells cs.toArray e (0,0))→Below w.heap.size w w'→atI L i (.slice (some ⟨B,0,none⟩) m m) w'):RG P n ops Q l W L i :=
 fun a ha=>sX hi hw fun b w hF hG hD=>by
  obtain ⟨cs,h1,h2⟩:=hf _ w hG (gW ha hF hD hp)
  have h4:m * s≤16777216:=Nat.le_of_ble_eq_true hm
  have h5:m * s≠0:=fun e=>by rw [e] at hm0;cases hm0
  have h6:¬ (m * s > 2 ^ 24):=by omega
  have h7:((xs.map (·.1)).zip ((xs.map (·.2)).map b.eval))=xs.map (fun p=>(p.1,b.eval p.2)):=by
   clear hi hw hp h1 hf h2
   induction xs with
   | nil=>rfl
   | cons x xs ih=>simp only [List.map_cons,List.zip_cons_cons,ih]
  rw [h7] at h1
  have hB:Below w.heap.size w (w.alloc (.cells cs.toArray e)):=(Below.refl _ _).alloc (Nat.le_refl _) _
  refine ⟨_,w.alloc (.cells cs.toArray e),?_,h2 _ _ rfl (heap_alloc_new w _) hB,hB⟩
  unfold execOp
  simp only []
  rw [show (Array.map (fun p=>(p.1,b.eval p.2)) xs.toArray)=(xs.map (fun p=>(p.1,b.eval p.2))).toArray by simp]
  simp only [Instr.buildSlice,Sem.run_bind,run_underlying hU,Result.andThen_ok,hs,if_neg h6,if_neg h5,hz,Sem.run_pure,h1,newRow,run_newObj_alloc]
def kZ:List Oper→List Asr→Fr→(Fr→World→Prop)→World→Prop
 | [],_,l,K,W=>K l W
 | o::os,L,l,K,W=>∀ v,atI L 0 v W→kZ os L.tail ((match o.dst with | some d=>[(d,v)] | none=>[])++l) K W
theorem aI {c:Value} {K:Fr→World→Prop} {dst:Nat} {op:Op} {ty:TypeId} {pos:String} {aft:Array Edge} {g:Option (Nat×Bool)} (h:kZ os L ((dst,c)::l) K W):kZ (⟨some dst,op,ty,pos,aft,g⟩::os) (isV c::L) l K W:=fun v hv=>by
 have:v=c:=hv
 subst this;exact h
theorem cW {p:Asr} {K:Fr→World→Prop} {dst:Nat} {op:Op} {ty:TypeId} {pos:String} {aft:Array Edge} {g:Option (Nat×Bool)} (h:∀ v,p v W→kZ os L ((dst,v)::l) K W):kZ (⟨some dst,op,ty,pos,aft,g⟩::os) (p::L) l K W:=fun v hv=>h v hv
theorem cL {K:Fr→World→Prop} (h:K l W):kZ [] L l K W:=h
theorem oZ (L:List Asr) (i:Nat):atI L.tail i=atI L (i+1):=by cases L<;>rfl
theorem vW {a:Act} {K:Fr→World→Prop} {G:Prop}:∀ (os:List Oper) (L:List Asr) (l:Fr),(∀ i d,i < os.length→(os[i]?).bind (·.dst)=some d→atI L i (a.tmps.getD d undef) W)→a.tmps.size=n→a.defers=[] →
  (∀ t v,look l t=some v→(∀ o∈os,o.dst≠some t)→a.tmps.getD t undef=v)→(∀ o∈os,∃ d,o.dst=some d)→(hK:∀ l',K l' W→Has n l' a→G)→kZ os L l K W→G
 | [],L,l,hI,hs,hd,hl,_,hK,h=>hK l h ⟨hs,hd,fun t v hv=>hl t v hv (fun o ho=>by cases ho)⟩
 | o::os,L,l,hI,hs,hd,hl,hdst,hK,h=>by
  obtain ⟨d,hod⟩:=hdst o List.mem_cons_self
  have h0:=hI 0 d (by simp) (by simp [hod])
  have h1:=h _ h0
  refine vW os L.tail _ (fun i e hi he=>by rw [oZ];exact hI (i+1) e (by simpa using hi) (by simpa using he)) hs hd ?_ (fun o ho=>hdst o (List.mem_cons_of_mem _ ho)) hK h1
  intro t v hv hno
  rw [hod] at hv
  simp only [List.cons_append,List.nil_append] at hv
  unfold look at hv
  cases hb:Nat.beq d t with
  | true =>
   simp only [hb,cond_true,Option.some.injEq] at hv
   rw [← Nat.eq_of_beq_eq_true hb];exact hv
  | false =>
   simp only [hb,cond_false] at hv
   refine hl t v hv (fun o' ho'=>?_)
   rcases List.mem_cons.1 ho' with rfl | ho'
   ·rw [hod];intro e;rw [Option.some.inj e,Nat.beq_refl] at hb;cases hb
   ·exact hno o' ho'
theorem regD {id:Nat} (hm:P.follows .mixedOrders=true) (L:List Asr) (hS:St w0 O G K W) (ht:eP os.toArray n=true) (hdst:os.all (fun o=>o.dst.isSome)=true) {m:Nat} (hlen:os.length=m)
  (hstep:Mn P n os.toArray Q l W L m 0) (hst:qY L)
  (hfin:∀ W',Below W.heap.size W W'→St w0 O G ((W.heap.size,W')::K) W'→kZ os L l (fun l' W'=>XF Q .normal n l' W') W'):fG P n (.region id os.toArray true) Q l W:=fun a ha=>by
 subst hlen
 refine vP hm L (by rw [ha.size];exact ht) hst (by have:=uH ha hstep;simpa using this) ?_
 intro a' W' hs hd hf hG hI
 refine vW os L l (fun i d hi hd'=>hI i d (by simpa using hi) (by simpa using hd')) (hs.trans ha.size) (hd.trans ha.defers) ?_ (fun o ho=>?_) (fun l' h ha'=>h a' ha') (hfin W' hG (hS.call hG))
 ·intro t v hv hno
  rw [hf t (by unfold freeT;rw [Array.all_eq_true'];intro o ho;simpa using hno o (by simpa using ho))]
  exact ha.at_ t v hv
 ·have:=List.all_eq_true.1 hdst o ho
  exact Option.isSome_iff_exists.1 this
theorem regDL {id:Nat} {o:Oper} (hm:P.follows .mixedOrders=true) (L:List Asr) (hS:St w0 O G K W) (hl:nE (os++[o]).toArray os.length=true) (ht:eP (os++[o]).toArray n=true) (hdst:os.all (fun o=>o.dst.isSome)=true) (hfree:∀ d,o.dst=some d→look l d=none)
  (hstep:Mn P n (os++[o]).toArray Q l W L os.length 0) (hst:qY L)
  (hfin:∀ W',Below W.heap.size W W'→St w0 O G ((W.heap.size,W')::K) W'→kZ os L l (fun l' W'=>cX P n (os++[o]).toArray Q [o] l' W') W'):fG P n (.region id (os++[o]).toArray true) Q l W:=fun a ha=>by
 refine oW hm os.length L hl (by rw [ha.size];exact ht) hst (uH ha hstep) ?_
 intro a' W' hs hd hf hG hI
 have hk:((os++[o]).toArray)[os.length]?=some o:=by simp
 refine vW os L l (fun i d hi hd'=>hI i d hi (by simp [List.getElem?_append_left hi];simpa using hd')) (hs.trans ha.size) (hd.trans ha.defers) ?_ (fun o ho=>?_) (fun l' h ha'=>?_) (hfin W' hG (hS.call hG))
 ·intro t v hv hno
  rw [hf t (by
   unfold freeT;rw [Array.all_eq_true'];intro o' ho'
   have:o'∈os++[o]:=by simpa using ho'
   rcases List.mem_append.1 this with h1 | h1
   ·simpa using hno o' h1
   ·simp only [List.mem_singleton] at h1
    subst h1
    cases hx:o'.dst with
    | none=>simp
    | some d=>simp;intro e;subst e;rw [hfree d hx] at hv;cases hv)]
  exact ha.at_ t v hv
 ·have:=List.all_eq_true.1 hdst o ho
  exact Option.isSome_iff_exists.1 this
 ·have h1:=h a' ha'
  unfold wpOp
  rw [hk]
  exact h1
theorem regDK {id:Nat} {o:Oper} (hm:P.follows .mixedOrders=true) (L:List Asr) (k:Nat) (hS:St w0 O G K W) (hk:os[k]?=some o) (hlen:os.length=k+1) (hl:nE os.toArray k=true) (ht:eP os.toArray n=true) (hdst:(os.take k).all (fun o=>o.dst.isSome)=true) (hfree:∀ d,o.dst=some d→look l d=none)
  (hstep:Mn P n os.toArray Q l W L k 0) (hst:qY L)
  (hfin:∀ W',Below W.heap.size W W'→St w0 O G ((W.heap.size,W')::K) W'→kZ (os.take k) L l (fun l' W'=>cX P n os.toArray Q [o] l' W') W'):fG P n (.region id os.toArray true) Q l W:=by
 have e:os=os.take k++[o]:=by
  apply List.ext_getElem?
  intro j
  by_cases hj:j < k
  ·rw [List.getElem?_append_left (by simp;omega),List.getElem?_take,if_pos hj]
  ·by_cases hj2:j=k
   ·subst hj2;rw [List.getElem?_append_right (by simp;omega),hk];simp [show min j os.length=j by omega]
   ·rw [List.getElem?_eq_none (by omega),List.getElem?_eq_none (by simp;omega)]
 have hkl:(os.take k).length=k:=by simp;omega
 generalize hg:os.take k=os1 at *
 subst hkl
 subst e
 exact regDL hm L hS hl ht hdst hfree hstep hst hfin
def gR (lo m:Nat) (e:TypeId) (cs:List Value):Asr:=fun v w=>∃ B,v = .slice (some ⟨B,0,none⟩) m m∧lo≤B∧w.heap[B]?=some (.cells cs.toArray e (0,0))
theorem rO {lo m:Nat} {e:TypeId} {cs:List Value}:kY (gR lo m e cs):=fun v w w' ⟨B,h1,h2,h3⟩ hb=>⟨B,h1,h2,(hb.block B (cQ h3)).trans h3⟩
theorem cB:∀ {us vs:List Value} {w:World},Holds (us.map isV) vs w→vs=us
 | [],[],_,_=>rfl
 | u::us,v::vs,w,h=>by rw [cB h.2];congr 1;exact h.1
 | [],_::_,_,h=>h.elim
 | _::_,[],_,h=>h.elim
theorem Cg {T e:TypeId} {m s:Nat} {xs:List (Nat×Operand)} {us:List Value} {z:Value} {cs:List Value} (hi:ops[i]?=some ⟨some d,.buildSlice T m xs.toArray,ty,pos,aft,gd⟩) (hw:gG ops L i ⟨some d,.buildSlice T m xs.toArray,ty,pos,aft,gd⟩)
  (hU:P.underlying T=some (.slice e)) (hs:∀ w,(sizeOf e).run P w = .ok s w) (hz:∀ w,(zeroValue e).run P w = .ok z w) (hm:Nat.ble (m * s) 16777216=true) (hm0:Nat.beq (m * s) 0=false) (hp:uJ n ops l L i (xs.map (·.2)) (us.map isV))
  (hf:Instr.fill (fun i=>some (i * s,s)) ((Array.range (m * s)).map (z.cells[· % z.cells.size]!)) ((xs.map (·.1)).zip us)=some cs.toArray) (hI:atI L i=gR W.heap.size m e cs):RG P n ops Q l W L i :=
 Cf (us.map isV) hi hw hU hs hz hm hm0 hp fun vs w hb hh=>by
  rw [cB hh]
  exact ⟨cs,hf,fun B w' hB h1 h2=>by rw [hI];exact ⟨B,rfl,by rw [← hB];exact hb.size,h1⟩⟩
theorem qH:∀ (L:List Asr) (i:Nat),i < L.length→some (atI L i)=L[i]?
 | [],i,h=>by simp at h
 | p::L,0,_=>rfl
 | p::L,i+1,h=>by rw [List.getElem?_cons_succ];exact qH L i (by simpa using h)
theorem aH {p:Asr} {Lr:List Asr} (h:Lr.length=i):atI (p::Lr).reverse i=p:=by
 have:=qH (p::Lr).reverse i (by simp;omega)
 rw [List.getElem?_reverse (by simp;omega)] at this
 simp only [List.length_cons,h,show i+1 - 1 - i=0 by omega,List.getElem?_cons_zero,Option.some.injEq] at this
 exact this
theorem aB {Lr:List Asr} {j:Nat} {p:Asr} (h:Lr.length=i+1) (hj:Nat.ble j i=true) (hL:atI Lr (i - j)=p):atI Lr.reverse j=p:=by
 have hj':j≤i:=Nat.le_of_ble_eq_true hj
 have h1:=qH Lr.reverse j (by simp;omega)
 rw [List.getElem?_reverse (by omega)] at h1
 have h2:=qH Lr (i - j) (by omega)
 rw [show Lr.length - 1 - j=i - j by omega,← h2,hL] at h1
 exact Option.some.inj h1
theorem RG.ext {L1 L2:List Asr} (ht:eP ops n=true) (hag:∀ j,j≤i→atI L1 j=atI L2 j) (h:RG P n ops Q l W L1 i):RG P n ops Q l W L2 i:=fun a ha=>by
 have h1:=h a ha
 intro b w hF hG hD
 have hlt:∀ j d,bI ops i j d=true→j < i:=fun j d hw=>by
  cases ho:ops[i]? with
  | none=>simp [bI,ho] at hw
  | some o =>
   simp only [bI,ho,Bool.and_eq_true,beq_iff_eq] at hw
   obtain ⟨e,he,h2⟩:=Array.any_eq_true'.1 hw.1
   simp only [Bool.and_eq_true,beq_iff_eq] at h2
   rw [← h2.1];exact jR ht ho e he h2.2
 have h2:=h1 b w hF hG (fun j d hw=>by rw [hag j (Nat.le_of_lt (hlt j d hw))];exact hD j d hw)
 rw [hag i (Nat.le_refl _)] at h2
 exact h2
def BL (P:Program) (n:Nat) (ops:Array Oper) (Q:Exit→Act→World→Prop) (l:Fr) (W:World) (Goal:List Asr→Prop):Nat→List Asr→Nat→Prop
 | 0,Lr,_=>Goal Lr
 | m+1,Lr,k=>∃ p,kY p∧RG P n ops Q l W (p::Lr).reverse k∧BL P n ops Q l W Goal m (p::Lr) (k+1)
variable {Goal:List Asr→Prop}
theorem dC {Lr:List Asr} {k:Nat} (h:Goal Lr):BL P n ops Q l W Goal 0 Lr k:=h
theorem aM {m k:Nat} {Lr:List Asr} (k':Nat) (hk:k+1=k') (p:Asr) (hs:kY p) (h:RG P n ops Q l W (p::Lr).reverse k) (hr:BL P n ops Q l W Goal m (p::Lr) k'):BL P n ops Q l W Goal (m+1) Lr k:=by
 subst hk;exact ⟨p,hs,h,hr⟩
theorem bl_f {m k:Nat} {Lr:List Asr} {x u:Value} (k':Nat) (hk:k+1=k') (t:Nat) (hi:ops[k]?=some ⟨some d,op,ty,pos,aft,none⟩) (hf:freeT ops t=true) (hv:look l t=some u) (hr:∀ w,Below W.heap.size W w→gF P [(t,u)] ⟨some d,op,ty,pos,#[],none⟩ w x w) (hl:Lr.length=k) (h:BL P n ops Q l W Goal m (isV x::Lr) k'):BL P n ops Q l W Goal (m+1) Lr k :=
 aM k' hk (isV x) (aJ x) (rgV [(t,u)] hi (aU rfl) ⟨g_fr hf hv,trivial⟩ hr (aH hl)) h
theorem cC {m k:Nat} {Lr:List Asr} {x u:Value} (k':Nat) (hk:k+1=k') (t:Nat) (hi:ops[k]?=some ⟨some d,op,ty,pos,aft,none⟩) (hv:look l t=some u) (hr:∀ w,Below W.heap.size W w→gF P [(t,u)] ⟨some d,op,ty,pos,#[],none⟩ w x w) (hl:Lr.length=k) (h:BL P n ops Q l W Goal m (isV x::Lr) k') (hf:freeT ops t=true:=by kernel_rfl):BL P n ops Q l W Goal (m+1) Lr k:=bl_f k' hk t hi hf hv hr hl h
theorem bl_d {m k:Nat} {Lr:List Asr} {x u:Value} (k':Nat) (hk:k+1=k') (t j:Nat) (hi:ops[k]?=some ⟨some d,op,ty,pos,aft,none⟩) (hw:bI ops k j t=true) (hj:Nat.ble j k=true) (hL:atI (isV x::Lr) (k - j)=isV u) (hr:∀ w,Below W.heap.size W w→gF P [(t,u)] ⟨some d,op,ty,pos,#[],none⟩ w x w) (hl:Lr.length=k) (h:BL P n ops Q l W Goal m (isV x::Lr) k'):BL P n ops Q l W Goal (m+1) Lr k :=
 aM k' hk (isV x) (aJ x) (rgV [(t,u)] hi (aU rfl) ⟨g_dep j hw (aB (by rw [List.length_cons,hl]) hj hL),trivial⟩ hr (aH hl)) h
theorem aX {m k:Nat} {Lr:List Asr} {x u:Value} (k':Nat) (hk:k+1=k') (t j:Nat) (hi:ops[k]?=some ⟨some d,op,ty,pos,aft,none⟩) (hj:Nat.ble j k=true) (hL:atI (isV x::Lr) (k - j)=isV u) (hr:∀ w,Below W.heap.size W w→gF P [(t,u)] ⟨some d,op,ty,pos,#[],none⟩ w x w) (hl:Lr.length=k) (h:BL P n ops Q l W Goal m (isV x::Lr) k') (hw:bI ops k j t=true:=by kernel_rfl):BL P n ops Q l W Goal (m+1) Lr k:=bl_d k' hk t j hi hw hj hL hr hl h
theorem pA:∀ {L:List Asr},(∀ p∈L,kY p)→qY L
 | [],_=>trivial
 | p::L,h=>⟨h p List.mem_cons_self,pA fun q hq=>h q (List.mem_cons_of_mem _ hq)⟩
theorem jV {A B:List Asr} {j:Nat} (h:j < A.length):atI (A++B) j=atI A j:=by
 have h1:=qH (A++B) j (by simp;omega)
 have h2:=qH A j h
 rw [List.getElem?_append_left h,← h2] at h1
 exact Option.some.inj h1
theorem Hy (ht:eP ops n=true):∀ (m k:Nat) (Lr:List Asr),Lr.length=k→(∀ p∈Lr,kY p)→(∀ i,i < k→RG P n ops Q l W Lr.reverse i)→BL P n ops Q l W Goal m Lr k →
  ∃ Lr',Lr'.length=k+m∧(∀ p∈Lr',kY p)∧(∀ i,i < k+m→RG P n ops Q l W Lr'.reverse i)∧Goal Lr'
 | 0,k,Lr,hl,hs,hg,h=>⟨Lr,hl,hs,hg,h⟩
 | m+1,k,Lr,hl,hs,hg,⟨p,hp,hr,hn⟩=>by
  obtain ⟨L',h1,h2,h3,h4⟩:=Hy ht m (k+1) (p::Lr) (by simp [hl]) (fun q hq=>by
   rcases List.mem_cons.1 hq with rfl | hq
   ·exact hp
   ·exact hs q hq) (fun i hi=>by
   by_cases hik:i=k
   ·subst hik;exact hr
   ·refine RG.ext ht (fun j hj=>?_) (hg i (by omega))
    rw [List.reverse_cons,jV (by simp;omega)]) hn
  exact ⟨L',by omega,h2,fun i hi=>h3 i (by omega),h4⟩
theorem Ch {L:List Asr}:∀ (m k:Nat),(∀ i,i < k+m→RG P n ops Q l W L i)→Mn P n ops Q l W L m k
 | 0,_,_=>trivial
 | m+1,k,h=>⟨h k (by omega),Ch m (k+1) fun i hi=>h i (by omega)⟩
theorem iE {id:Nat} {m:Nat} (hm:P.follows .mixedOrders=true) (hS:St w0 O G K W) (ht:eP os.toArray n=true) (hdst:os.all (fun o=>o.dst.isSome)=true) (hlen:os.length=m)
  (h:BL P n os.toArray Q l W (fun Lr=>∀ W',Below W.heap.size W W'→St w0 O G ((W.heap.size,W')::K) W'→kZ os Lr.reverse l (fun l' W'=>XF Q .normal n l' W') W') m [] 0):fG P n (.region id os.toArray true) Q l W:=by
 obtain ⟨Lr,h1,h2,h3,h4⟩:=Hy ht m 0 [] rfl (fun p hp=>by cases hp) (fun i hi=>by omega) h
 exact regD hm Lr.reverse hS ht hdst hlen (Ch m 0 (by simpa using h3)) (pA fun p hp=>h2 p (List.mem_reverse.1 hp)) h4
theorem pB {id:Nat} {o:Oper} (hm:P.follows .mixedOrders=true) (k:Nat) (hS:St w0 O G K W) (hk:os[k]?=some o) (hlen:os.length=k+1) (hl:nE os.toArray k=true) (ht:eP os.toArray n=true) (hdst:(os.take k).all (fun o=>o.dst.isSome)=true) (hfree:∀ d,o.dst=some d→look l d=none)
  (h:BL P n os.toArray Q l W (fun Lr=>∀ W',Below W.heap.size W W'→St w0 O G ((W.heap.size,W')::K) W'→kZ (os.take k) Lr.reverse l (fun l' W'=>cX P n os.toArray Q [o] l' W') W') k [] 0):fG P n (.region id os.toArray true) Q l W:=by
 obtain ⟨Lr,h1,h2,h3,h4⟩:=Hy ht k 0 [] rfl (fun p hp=>by cases hp) (fun i hi=>by omega) h
 exact regDK hm Lr.reverse k hS hk hlen hl ht hdst hfree (Ch k 0 (by simpa using h3)) (pA fun p hp=>h2 p (List.mem_reverse.1 hp)) h4
end
theorem cE:prog.follows .mixedOrders=true:=by kernel_rfl
theorem Hz (v0:Int) (v1:Int):prog.built 25 [(0,.int .i64 v0),(1,.int .i64 v1)]=some #[.int .i64 v0,.int .i64 v1,.slice none 0 0]:=by kernel_rfl
theorem iN:prog.built 53 []=some #[.bool false,.int .i64 0,.int .u64 0,.slice none 0 0,.slice none 0 0,.slice none 0 0]:=by kernel_rfl
theorem pD (v0:Bool):prog.built 53 [(0,.bool v0)]=some #[.bool v0,.int .i64 0,.int .u64 0,.slice none 0 0,.slice none 0 0,.slice none 0 0]:=by kernel_rfl
theorem Fh (v1:Int):prog.built 53 [(1,.int .i64 v1)]=some #[.bool false,.int .i64 v1,.int .u64 0,.slice none 0 0,.slice none 0 0,.slice none 0 0]:=by kernel_rfl
theorem Pg (v4a:Option Addr) (v4l:Nat) (v4c:Nat):prog.built 53 [(4,.slice v4a v4l v4c)]=some #[.bool false,.int .i64 0,.int .u64 0,.slice none 0 0,.slice none 0 0,.slice v4a v4l v4c]:=by kernel_rfl
theorem Ci (v0:Int) (v1:Int):Instr.fill (fun i=>some (i * 1,1)) ((Array.range (2 * 1)).map ((Value.cells (.int .i64 0))[· % (Value.cells (.int .i64 0)).size]!)) [(0,.int .i64 v0),(1,.int .i64 v1)]=some (List.toArray [.int .i64 v0,.int .i64 v1]):=by kernel_rfl
theorem Cj (v00:Value) (v01:Value) (v02:Value):Instr.fill (fun i=>some (i * 3,3)) ((Array.range (1 * 3)).map ((Value.cells (.agg #[.int .u64 0,.int .i64 0,.int .i64 0]))[· % (Value.cells (.agg #[.int .u64 0,.int .i64 0,.int .i64 0])).size]!)) [(0,.agg #[v00,v01,v02])]=some (List.toArray [v00,v01,v02]):=by kernel_rfl
theorem Ck (v00:Value) (v01:Value) (v02:Value) (v03:Value) (v04:Value) (v05:Value):Instr.fill (fun i=>some (i * 6,6)) ((Array.range (1 * 6)).map ((Value.cells (.agg #[.bool false,.int .i64 0,.int .u64 0,.slice none 0 0,.slice none 0 0,.slice none 0 0]))[· % (Value.cells (.agg #[.bool false,.int .i64 0,.int .u64 0,.slice none 0 0,.slice none 0 0,.slice none 0 0])).size]!)) [(0,.agg #[v00,v01,v02,v03,v04,v05])]=some (List.toArray [v00,v01,v02,v03,v04,v05]):=by kernel_rfl
theorem vX (v00:Value) (v01:Value) (v02:Value) (v03:Value) (v04:Value) (v05:Value) (v10:Value) (v11:Value) (v12:Value) (v13:Value) (v14:Value) (v15:Value):Instr.fill (fun i=>some (i * 6,6)) ((Array.range (2 * 6)).map ((Value.cells (.agg #[.bool false,.int .i64 0,.int .u64 0,.slice none 0 0,.slice none 0 0,.slice none 0 0]))[· % (Value.cells (.agg #[.bool false,.int .i64 0,.int .u64 0,.slice none 0 0,.slice none 0 0,.slice none 0 0])).size]!)) [(0,.agg #[v00,v01,v02,v03,v04,v05]),(1,.agg #[v10,v11,v12,v13,v14,v15])]=some (List.toArray [v00,v01,v02,v03,v04,v05,v10,v11,v12,v13,v14,v15]):=by kernel_rfl
theorem dW (w:World) (b o:Nat):(Instr.fieldAt 25 (.pointer (some ⟨b,o,none⟩)) 0).run prog w = .ok (.pointer (some ⟨b,o+0,none⟩)) w:=by
 simp [Instr.fieldAt,run_underlying underlying25,Instr.sureAddr,go_sem,Addr.add_lit]
theorem dX (w:World) (b o:Nat):(Instr.fieldAt 25 (.pointer (some ⟨b,o,none⟩)) 1).run prog w = .ok (.pointer (some ⟨b,o+1,none⟩)) w:=by
 simp [Instr.fieldAt,run_underlying underlying25,Instr.sureAddr,go_sem,Addr.add_lit]
theorem dI (w:World) (b o:Nat):(Instr.fieldAt 25 (.pointer (some ⟨b,o,none⟩)) 2).run prog w = .ok (.pointer (some ⟨b,o+2,none⟩)) w:=by
 simp [Instr.fieldAt,run_underlying underlying25,Instr.sureAddr,go_sem,Addr.add_lit]
theorem tA (w:World) (b o:Nat):(Instr.fieldAt 49 (.pointer (some ⟨b,o,none⟩)) 1).run prog w = .ok (.pointer (some ⟨b,o+1,none⟩)) w:=by
 simp [Instr.fieldAt,run_underlying underlying49,Instr.sureAddr,go_sem,Addr.add_lit]
theorem dL (w:World) (b o:Nat):(Instr.fieldAt 53 (.pointer (some ⟨b,o,none⟩)) 0).run prog w = .ok (.pointer (some ⟨b,o+0,none⟩)) w:=by
 simp [Instr.fieldAt,run_underlying underlying53,Instr.sureAddr,go_sem,Addr.add_lit]
theorem eL (w:World) (b o:Nat):(Instr.fieldAt 53 (.pointer (some ⟨b,o,none⟩)) 1).run prog w = .ok (.pointer (some ⟨b,o+1,none⟩)) w:=by
 simp [Instr.fieldAt,run_underlying underlying53,Instr.sureAddr,go_sem,Addr.add_lit]
theorem dY (w:World) (b o:Nat):(Instr.fieldAt 53 (.pointer (some ⟨b,o,none⟩)) 2).run prog w = .ok (.pointer (some ⟨b,o+2,none⟩)) w:=by
 simp [Instr.fieldAt,run_underlying underlying53,Instr.sureAddr,go_sem,Addr.add_lit]
theorem cZ (w:World) (b o:Nat):(Instr.fieldAt 53 (.pointer (some ⟨b,o,none⟩)) 3).run prog w = .ok (.pointer (some ⟨b,o+4,none⟩)) w:=by
 simp [Instr.fieldAt,run_underlying underlying53,Instr.sureAddr,go_sem,Addr.add_lit]
theorem cP (w:World) (b o:Nat):(Instr.fieldAt 53 (.pointer (some ⟨b,o,none⟩)) 4).run prog w = .ok (.pointer (some ⟨b,o+5,none⟩)) w:=by
 simp [Instr.fieldAt,run_underlying underlying53,Instr.sureAddr,go_sem,Addr.add_lit]
theorem fa_92_0 (w:World) (b o:Nat):(Instr.fieldAt 92 (.pointer (some ⟨b,o,none⟩)) 0).run prog w = .ok (.pointer (some ⟨b,o+0,none⟩)) w:=by
 simp [Instr.fieldAt,run_underlying underlying92,Instr.sureAddr,go_sem,Addr.add_lit]
theorem fa_92_1 (w:World) (b o:Nat):(Instr.fieldAt 92 (.pointer (some ⟨b,o,none⟩)) 1).run prog w = .ok (.pointer (some ⟨b,o+1,none⟩)) w:=by
 simp [Instr.fieldAt,run_underlying underlying92,Instr.sureAddr,go_sem,Addr.add_lit]
theorem fa_92_2 (w:World) (b o:Nat):(Instr.fieldAt 92 (.pointer (some ⟨b,o,none⟩)) 2).run prog w = .ok (.pointer (some ⟨b,o+2,none⟩)) w:=by
 simp [Instr.fieldAt,run_underlying underlying92,Instr.sureAddr,go_sem,Addr.add_lit]
theorem goes_59:bW prog 59=true:=by kernel_rfl
theorem goes_32:bW prog 32=true:=by kernel_rfl
theorem J3:bW prog 36=true:=by kernel_rfl
theorem goes_23:bW prog 23=true:=by kernel_rfl
theorem tC:bW prog 57=true:=by kernel_rfl
theorem vY:bW prog 42=true:=by kernel_rfl
theorem goes_67:bW prog 67=true:=by kernel_rfl
theorem goes_70:bW prog 70=true:=by kernel_rfl
theorem vZ:bW prog 11=true:=by kernel_rfl
theorem goes_41:bW prog 41=true:=by kernel_rfl
theorem goes_60:bW prog 60=true:=by kernel_rfl
theorem Cm:bW prog 78=true:=by kernel_rfl
theorem Cn:bW prog 51=true:=by kernel_rfl
theorem J4:bW prog 58=true:=by kernel_rfl
theorem Co:bW prog 43=true:=by kernel_rfl
theorem Cp:bW prog 61=true:=by kernel_rfl
theorem wA:bW prog 93=true:=by kernel_rfl
theorem Cq:bW prog 25=true:=by kernel_rfl
theorem Cr:bW prog 62=true:=by kernel_rfl
theorem tD:bW prog 79=true:=by kernel_rfl
theorem Cs:bW prog 80=true:=by kernel_rfl
theorem tE:bW prog 81=true:=by kernel_rfl
theorem goes_95:bW prog 95=true:=by kernel_rfl
theorem goes_96:bW prog 96=true:=by kernel_rfl
theorem Ct:bW prog 77=true:=by kernel_rfl
theorem goes_71:bW prog 71=true:=by kernel_rfl
theorem goes_82:bW prog 82=true:=by kernel_rfl
theorem goes_83:bW prog 83=true:=by kernel_rfl
theorem goes_84:bW prog 84=true:=by kernel_rfl
theorem goes_97:bW prog 97=true:=by kernel_rfl
theorem goes_98:bW prog 98=true:=by kernel_rfl
theorem goes_99:bW prog 99=true:=by kernel_rfl
theorem Ph:bW prog 100=true:=by kernel_rfl
theorem Pi:bW prog 101=true:=by kernel_rfl
theorem Pj:prog.info? 53=some Tryz.t53:=by kernel_rfl
theorem Pk (v0:Int):prog.built 92 [(0,.int .u64 v0)]=some #[.int .u64 v0,.int .i64 0,.int .i64 0]:=by kernel_rfl
theorem goes_72:bW prog 72=true:=by kernel_rfl
theorem H3:prog.info? 92=some Tryz.t92:=by kernel_rfl
theorem H4 (v1:Int) (v2:Int):prog.built 92 [(1,.int .i64 v1),(2,.int .i64 v2)]=some #[.int .u64 0,.int .i64 v1,.int .i64 v2]:=by kernel_rfl
theorem goes_75:bW prog 75=true:=by kernel_rfl
theorem Cu:bW prog 24=true:=by kernel_rfl
theorem Cv:bW prog 34=true:=by kernel_rfl
theorem goes_44:bW prog 44=true:=by kernel_rfl
theorem J5:bW prog 45=true:=by kernel_rfl
theorem goes_55:bW prog 55=true:=by kernel_rfl
theorem goes_56:bW prog 56=true:=by kernel_rfl
theorem goes_94:bW prog 94=true:=by kernel_rfl
theorem Pm:bW prog 111=true:=by kernel_rfl
theorem Pn:bW prog 124=true:=by kernel_rfl
theorem Po:bW prog 132=true:=by kernel_rfl
theorem xL (v00:Value) (v01:Value) (v02:Value) (v1:Int) (v2:Int) (v3a:Option Addr) (v3l:Nat) (v3c:Nat):prog.built 28 [(0,.agg #[v00,v01,v02]),(1,.int .i64 v1),(2,.int .i64 v2),(3,.slice v3a v3l v3c)]=some #[v00,v01,v02,.int .i64 v1,.int .i64 v2,.slice v3a v3l v3c]:=by kernel_rfl
theorem pE:prog.built 36 []=some #[.int .i64 0,.slice none 0 0]:=by kernel_rfl
theorem rP (v0:Int) (v1a:Option Addr) (v1l:Nat) (v1c:Nat):prog.built 36 [(0,.int .i64 v0),(1,.slice v1a v1l v1c)]=some #[.int .i64 v0,.slice v1a v1l v1c]:=by kernel_rfl
theorem Pp (v1a:Option Addr) (v1l:Nat) (v1c:Nat):prog.built 36 [(1,.slice v1a v1l v1c)]=some #[.int .i64 0,.slice v1a v1l v1c]:=by kernel_rfl
theorem H5 (v00:Value) (v01:Value) (v02:Value) (v10:Value) (v11:Value) (v12:Value) (v13:Value) (v14:Value) (v15:Value):prog.built 81 [(0,.agg #[v00,v01,v02]),(1,.agg #[v10,v11,v12,v13,v14,v15])]=some #[v00,v01,v02,v10,v11,v12,v13,v14,v15]:=by kernel_rfl
theorem bs_94_1 (v0:Int):Instr.fill (fun i=>some (i * 1,1)) ((Array.range (1 * 1)).map ((Value.cells (.int .u8 0))[· % (Value.cells (.int .u8 0)).size]!)) [(0,.int .u8 v0)]=some (List.toArray [.int .u8 v0]):=by kernel_rfl
theorem bs_26_2 (v00:Value) (v01:Value) (v02:Value) (v03:Value) (v04:Value) (v05:Value) (v06:Value) (v07:Value) (v08:Value) (v09:Value) (v10:Value) (v11:Value) (v12:Value) (v13:Value) (v14:Value) (v15:Value) (v16:Value) (v17:Value) (v18:Value) (v19:Value):Instr.fill (fun i=>some (i * 10,10)) ((Array.range (2 * 10)).map ((Value.cells (.agg #[.int .i64 0,.int .i64 0,.int .i64 0,.slice none 0 0,.bool false,.int .i64 0,.int .u64 0,.slice none 0 0,.slice none 0 0,.slice none 0 0]))[· % (Value.cells (.agg #[.int .i64 0,.int .i64 0,.int .i64 0,.slice none 0 0,.bool false,.int .i64 0,.int .u64 0,.slice none 0 0,.slice none 0 0,.slice none 0 0])).size]!)) [(0,.agg #[v00,v01,v02,v03,v04,v05,v06,v07,v08,v09]),(1,.agg #[v10,v11,v12,v13,v14,v15,v16,v17,v18,v19])]=some (List.toArray [v00,v01,v02,v03,v04,v05,v06,v07,v08,v09,v10,v11,v12,v13,v14,v15,v16,v17,v18,v19]):=by kernel_rfl
theorem qI (v0:Int):Instr.fill (fun i=>some (i * 1,1)) ((Array.range (1 * 1)).map ((Value.cells (.int .i64 0))[· % (Value.cells (.int .i64 0)).size]!)) [(0,.int .i64 v0)]=some (List.toArray [.int .i64 v0]):=by kernel_rfl
theorem jE (w:World) (b o:Nat):(Instr.fieldAt 28 (.pointer (some ⟨b,o,none⟩)) 0).run prog w = .ok (.pointer (some ⟨b,o+0,none⟩)) w:=by
 simp [Instr.fieldAt,run_underlying underlying28,Instr.sureAddr,go_sem,Addr.add_lit]
theorem lA (w:World) (b o:Nat):(Instr.fieldAt 28 (.pointer (some ⟨b,o,none⟩)) 1).run prog w = .ok (.pointer (some ⟨b,o+3,none⟩)) w:=by
 simp [Instr.fieldAt,run_underlying underlying28,Instr.sureAddr,go_sem,Addr.add_lit]
theorem lB (w:World) (b o:Nat):(Instr.fieldAt 28 (.pointer (some ⟨b,o,none⟩)) 2).run prog w = .ok (.pointer (some ⟨b,o+4,none⟩)) w:=by
 simp [Instr.fieldAt,run_underlying underlying28,Instr.sureAddr,go_sem,Addr.add_lit]
theorem eX (w:World) (b o:Nat):(Instr.fieldAt 28 (.pointer (some ⟨b,o,none⟩)) 3).run prog w = .ok (.pointer (some ⟨b,o+5,none⟩)) w:=by
 simp [Instr.fieldAt,run_underlying underlying28,Instr.sureAddr,go_sem,Addr.add_lit]
theorem iM (w:World) (b o:Nat):(Instr.fieldAt 36 (.pointer (some ⟨b,o,none⟩)) 0).run prog w = .ok (.pointer (some ⟨b,o+0,none⟩)) w:=by
 simp [Instr.fieldAt,run_underlying underlying36,Instr.sureAddr,go_sem,Addr.add_lit]
theorem dZ (w:World) (b o:Nat):(Instr.fieldAt 36 (.pointer (some ⟨b,o,none⟩)) 1).run prog w = .ok (.pointer (some ⟨b,o+1,none⟩)) w:=by
 simp [Instr.fieldAt,run_underlying underlying36,Instr.sureAddr,go_sem,Addr.add_lit]
theorem mJ (w:World) (b o:Nat):(Instr.fieldAt 62 (.pointer (some ⟨b,o,none⟩)) 0).run prog w = .ok (.pointer (some ⟨b,o+0,none⟩)) w:=by
 simp [Instr.fieldAt,run_underlying underlying62,Instr.sureAddr,go_sem,Addr.add_lit]
theorem tF (w:World) (b o:Nat):(Instr.fieldAt 62 (.pointer (some ⟨b,o,none⟩)) 1).run prog w = .ok (.pointer (some ⟨b,o+1,none⟩)) w:=by
 simp [Instr.fieldAt,run_underlying underlying62,Instr.sureAddr,go_sem,Addr.add_lit]
theorem qJ (w:World) (b o:Nat):(Instr.fieldAt 62 (.pointer (some ⟨b,o,none⟩)) 2).run prog w = .ok (.pointer (some ⟨b,o+2,none⟩)) w:=by
 simp [Instr.fieldAt,run_underlying underlying62,Instr.sureAddr,go_sem,Addr.add_lit]
theorem iC (w:World) (b o:Nat):(Instr.fieldAt 62 (.pointer (some ⟨b,o,none⟩)) 3).run prog w = .ok (.pointer (some ⟨b,o+3,none⟩)) w:=by
 simp [Instr.fieldAt,run_underlying underlying62,Instr.sureAddr,go_sem,Addr.add_lit]
theorem tG (w:World) (b o:Nat):(Instr.fieldAt 62 (.pointer (some ⟨b,o,none⟩)) 4).run prog w = .ok (.pointer (some ⟨b,o+4,none⟩)) w:=by
 simp [Instr.fieldAt,run_underlying underlying62,Instr.sureAddr,go_sem,Addr.add_lit]
theorem wB (w:World) (b o:Nat):(Instr.fieldAt 81 (.pointer (some ⟨b,o,none⟩)) 0).run prog w = .ok (.pointer (some ⟨b,o+0,none⟩)) w:=by
 simp [Instr.fieldAt,run_underlying underlying81,Instr.sureAddr,go_sem,Addr.add_lit]
theorem Cw:bW prog 26=true:=by kernel_rfl
theorem wC:bW prog 31=true:=by kernel_rfl
theorem goes_21:bW prog 21=true:=by kernel_rfl
theorem goes_52:bW prog 52=true:=by kernel_rfl
theorem goes_53:bW prog 53=true:=by kernel_rfl
theorem goes_54:bW prog 54=true:=by kernel_rfl
theorem goes_73:bW prog 73=true:=by kernel_rfl
theorem goes_46:bW prog 46=true:=by kernel_rfl
theorem goes_47:bW prog 47=true:=by kernel_rfl
theorem goes_50:bW prog 50=true:=by kernel_rfl
theorem Cx:bW prog 15=true:=by kernel_rfl
theorem J6:bW prog 19=true:=by kernel_rfl
theorem goes_37:bW prog 37=true:=by kernel_rfl
theorem goes_38:bW prog 38=true:=by kernel_rfl
theorem J7:bW prog 39=true:=by kernel_rfl
theorem goes_40:bW prog 40=true:=by kernel_rfl
theorem goes_66:bW prog 66=true:=by kernel_rfl
theorem goes_69:bW prog 69=true:=by kernel_rfl
theorem J8:bW prog 27=true:=by kernel_rfl
theorem J9:bW prog 86=true:=by kernel_rfl
theorem Ka:bW prog 87=true:=by kernel_rfl
theorem wD:bW prog 92=true:=by kernel_rfl
theorem qZ:prog.info? 3=some Tryz.t3:=by kernel_rfl
theorem inf_5:prog.info? 5=some Tryz.t5:=by kernel_rfl
section
variable {β:Option Nat} {w w' w'' W:World} {p:Asr} {v c:Value}
def GB (W:World) (β:Option Nat) (w:World):Prop:=Below W.heap.size W w∧∀ B,β=some B→W.heap.size≤B∧B < w.heap.size
def lV (p:Asr) (w:World):Ending→World→Prop:=fun e w'=>∃ v,e = .returned v∧(∀ w2,dD w.heap.size w' w2→p v w2)∧Below w.heap.size w w'
end
section
variable {P:Program} {n:Nat} {Q:Exit→Act→World→Prop} {l:Fr} {w0 W:World} {ops:Array Oper} {os:List Oper} {O:Own} {G:cY} {K:List (Nat×World)} {L:List Asr} {i:Nat}
variable {d:Nat} {op:Op} {ty:TypeId} {pos:String} {aft:Array Edge} {v:Value} {gd:Option (Nat×Bool)}
def G2 (W:World) (B:Nat) (cs:List Value) (T:TypeId) (w:World):Prop:=GB W (some B) w∧w.heap[B]?=some (.cells cs.toArray T (0,0))
theorem Mo (W':World) {B lo:Nat} (hB:B≤W'.heap.size):∃ A1:World,A1.heap.size=B∧dD lo A1 W':=by
 refine ⟨{ W' with heap:=W'.heap.extract 0 B },by simp;omega,by simp;omega,fun b _ hb=>?_⟩
 have hb':b < (W'.heap.extract 0 B).size:=hb
 simp at hb'
 show W'.heap[b]?=(W'.heap.extract 0 B)[b]?
 rw [Array.getElem?_extract,if_pos (by omega),Nat.zero_add]
def anyA:Asr:=fun _ _=>True
theorem uK:kY anyA:=fun _ _ _ _ _=>trivial
variable {Goal:List Asr→Prop}
theorem St.mark (h:St w0 O G K W) (lo:Nat) (hO:∀ p∈O,p.1 < lo) (hG:G=[]):St w0 O G ((lo,W)::K) W:=by
 subst hG
 exact ⟨h.below,h.own,h.dist,fun q hq=>by
  rcases List.mem_cons.1 hq with rfl | hq
  ·exact ⟨dD.refl _ _,fun p hp=>.inl (hO p hp)⟩
  ·exact h.kept q hq,fun g hg=>absurd hg List.not_mem_nil,h.gdist⟩
theorem St.own_lt (h:St w0 O G K W):∀ p∈O,p.1 < W.heap.size:=fun p hp=>cQ (h.own p hp).2
end
section
variable {P:Program} {n:Nat} {Q:Exit→Act→World→Prop} {l:Fr} {w0 W:World} {ops:Array Oper} {os:List Oper} {O:Own} {G:cY} {K:List (Nat×World)} {L L2:List Asr} {i:Nat}
theorem Cy {k:Nat} {dn:Nat→Bool} {t0:Array Value} {d0:List Deferred} {G:World→Prop} {I:Nat→Value→World→Prop} (hl:nE ops k=true) (ht:eP ops t0.size=true) (hst:∀ i v w w',G w→I i v w→Below w.heap.size w w'→I i v w')
  (hstep:∀ i,i < k→dn i=false→jB P ops Q t0 G I i) (hfin:Fb ops t0 d0 G I k (wpOp P ops Q k (Q .normal))) :
  ∀ (fuel:Nat) (L:Array Bool) (a:Act) (w:World),L.size=ops.size→L.getD k true=false→(∀ i,dn i=true→L.getD i false=true)→L.toList.count false≤fuel→RInv ops t0 d0 G I L a w→wpAny P .any ops Q fuel L a w:=by
 simp only [nE,Bool.and_eq_true,decide_eq_true_eq] at hl
 obtain ⟨hk,hl⟩:=hl
 have cnt:∀ (L:Array Bool) i,L.getD i true=false→L.toList[i]?=some false:=fun L i h1=>by
  rw [Array.getD_eq_getD_getElem?] at h1
  rw [Array.getElem?_toList]
  cases hL:L[i]? with
  | none=>rw [hL] at h1;cases h1
  | some b=>rw [hL] at h1;simpa using h1
 intro fuel
 induction fuel with
 | zero =>
  intro L a w hs hlk hlp hc h
  have:=iL _ _ (cnt L k hlk)
  omega
 | succ fuel ih =>
  intro L a w hs hlk hlp hc h
  refine ⟨fun hr=>?_,fun i hi=>?_⟩
  ·rw [jS ht hs hr k (by omega)] at hlk
   cases hlk
  ·obtain ⟨h1,o,ho,hdep⟩:=mem_ready.1 hi
   have his:i < ops.size:=(Array.getElem?_eq_some_iff.1 ho).1
   have hc1:=iL _ _ (cnt L i h1)
   have hip:dn i=false:=by
    cases hd:dn i with
    | false=>rfl
    | true =>
     have h3:=hlp i hd
     have h2:=cnt L i h1
     rw [Array.getElem?_toList] at h2
     rw [Array.getD_eq_getD_getElem?,h2] at h3
     cases h3
   by_cases hik:i=k
   ·subst hik
    simp only [ho] at hl
    have hall:∀ j,j < i→L.getD j false=true:=fun j hj=>by
     have:=List.all_eq_true.1 hl j (List.mem_range.2 hj)
     obtain ⟨e,he,h2⟩:=Array.any_eq_true'.1 this
     simp only [Bool.and_eq_true,beq_iff_eq] at h2
     have:=hdep e he h2.2
     rw [h2.1] at this
     exact this
    refine wpOp_mono ?_ (hfin a w h.size h.defers h.frame h.glob fun j d hj hd=>h.done j d hd (hall j hj))
    intro a' w' hq
    have hnil:Region.ready .any ops (L.setIfInBounds i true)=[]:=by
     cases hr:Region.ready .any ops (L.setIfInBounds i true) with
     | nil=>rfl
     | cons j rest =>
      have hj:j∈Region.ready .any ops (L.setIfInBounds i true):=by rw [hr];exact List.mem_cons_self
      obtain ⟨h5,o',ho',_⟩:=mem_ready.1 hj
      have hjs:j < ops.size:=(Array.getElem?_eq_some_iff.1 ho').1
      by_cases hji:j=i
      ·subst hji
       rw [Array.getD_eq_getD_getElem?,Array.getElem?_eq_getElem (by simpa using (by omega:j < L.size))] at h5
       simp at h5
      ·rw [getD_set_ne true (Ne.symm hji)] at h5
       have h6:=hall j (by omega)
       rw [Array.getD_eq_getD_getElem?] at h5 h6
       rw [Array.getElem?_eq_getElem (by omega)] at h5 h6
       simp at h5 h6
       rw [h5] at h6
       cases h6
    cases fuel with
    | zero=>exact ⟨hnil,hq⟩
    | succ fuel=>exact ⟨fun _=>hq,by rw [hnil];simp⟩
   ·refine wpOp_mono ?_ (hstep i (by omega) hip a w h.frameE h.glob (h.deps hi))
    rintro a' w' ⟨⟨v,rfl,hI⟩,hG,hB⟩
    refine ih _ _ _ (by simpa using hs) (by rw [getD_set_ne true hik];exact hlk) (fun j hj=>?_) ?_ (h.next ht h1 hst hI hG hB)
    ·have hij:i≠j:=fun e=>by subst e;rw [hip] at hj;cases hj
     rw [getD_set_ne false hij];exact hlp j hj
    ·rw [Array.toList_setIfInBounds]
     omega
def aft (ops:Array Oper) (j:Nat):List Nat:=match ops[j]? with | some o=>(o.after.toList.filter fun e=>Region.binds .any e).map (·.on) | none=>[]
def earlyL (ops:Array Oper) (p:Nat):List Nat:=(List.range p).reverse.foldl (fun S j=>bif S.contains j then aft ops j++S else S) (aft ops p)
theorem nZ {p:Nat} {D:Nat→Prop} (h0:∀ x∈aft ops p,D x) (hc:∀ j,D j→∀ x∈aft ops j,D x):∀ x∈earlyL ops p,D x:=by
 have key:∀ (js S:List Nat),(∀ x∈S,D x)→∀ x∈js.foldl (fun S j=>bif S.contains j then aft ops j++S else S) S,D x:=by
  intro js
  induction js with
  | nil=>intro S h;exact h
  | cons j js ih =>
   intro S h
   refine ih _ ?_
   show ∀ x∈(bif S.contains j then aft ops j++S else S),D x
   cases hj:S.contains j with
   | false=>exact h
   | true =>
    intro x hx
    rw [cond_true] at hx
    rcases List.mem_append.1 hx with hx | hx
    ·exact hc j (h j (List.contains_iff_mem.1 hj)) x hx
    ·exact h x hx
 exact key _ _ h0
theorem Cz {j:Nat} {o:Oper} (ho:ops[j]?=some o) {x:Nat} (hx:x∈aft ops j):∃ e∈o.after,e.on=x∧Region.binds .any e=true:=by
 unfold aft at hx
 rw [ho] at hx
 obtain ⟨e,he,rfl⟩:=List.mem_map.1 hx
 obtain ⟨h1,h2⟩:=List.mem_filter.1 he
 exact ⟨e,Array.mem_toList_iff.1 h1,rfl,h2⟩
def IP (L2:List Asr) (p:Nat) (v':Value) (i:Nat) (v:Value) (w:World):Prop:=(i=p→v=v')∧atI L2 i v w
theorem zI {k p dp:Nat} {t0:Array Value} {d0:List Deferred} {late:Nat→Bool} {o:Oper} {RA:World→Value→World→Prop} (hl:nE ops k=true) (ht:eP ops t0.size=true) (hst:qY L) (hst2:qY L2) (hpk:p < k) (hp:ops[p]?=some o) (hod:o.dst=some dp) (hog:o.guard=none)
  (hearly:∀ j,j < k→j≠p→late j=false→j∈earlyL ops p)
  (hstep:∀ i,i < k→i≠p→jB P ops Q t0 (fun w=>Below W.heap.size W w) (atI L) i)
  (happ:∀ (a:Act) (w:World),(∀ t,freeT ops t=true→a.eval (.tmp t)=t0.getD t undef)→Below W.heap.size W w→(∀ j d,bI ops p j d=true→atI L j (a.eval (.tmp d)) w)→∃ v w',(execOp a.eval o).run P w = .ok (.value v) w'∧RA w v w')
  (hL2p:atI L2 p=anyA) (hpure:∀ i,i < k→i≠p→∀ v w w',atI L i v w→atI L2 i v w')
  (hlate:∀ v' W2 i,i < k→i≠p→late i=true→jB P ops Q t0 (fun w=>w=W2) (IP L2 p v') i)
  (hfin:∀ A v' W2,Below W.heap.size W A→RA A v' W2→Fb ops t0 d0 (fun w=>w=W2) (IP L2 p v') k (wpOp P ops Q k (Q .normal))) :
  ∀ (fuel:Nat) (LB:Array Bool) (a:Act) (w:World),LB.size=ops.size→LB.getD k true=false→LB.toList.count false≤fuel→LB.getD p true=false→(∀ j,LB.getD j false=true→∀ x∈aft ops j,LB.getD x false=true)→RInv ops t0 d0 (fun w=>Below W.heap.size W w) (atI L) LB a w→wpAny P .any ops Q fuel LB a w:=by
 have hl0:=hl
 simp only [nE,Bool.and_eq_true,decide_eq_true_eq] at hl
 obtain ⟨hk,hl⟩:=hl
 have cnt:∀ (L:Array Bool) i,L.getD i true=false→L.toList[i]?=some false:=fun L i h1=>by
  rw [Array.getD_eq_getD_getElem?] at h1
  rw [Array.getElem?_toList]
  cases hL:L[i]? with
  | none=>rw [hL] at h1;cases h1
  | some b=>rw [hL] at h1;simpa using h1
 intro fuel
 induction fuel with
 | zero =>
  intro LB a w hs hlk hc hlp hcl h
  have:=iL _ _ (cnt LB k hlk)
  omega
 | succ fuel ih =>
  intro LB a w hs hlk hc hlp hcl h
  refine ⟨fun hr=>?_,fun i hi=>?_⟩
  ·rw [jS ht hs hr k (by omega)] at hlk
   cases hlk
  ·obtain ⟨h1,o',ho,hdep⟩:=mem_ready.1 hi
   have his:i < ops.size:=(Array.getElem?_eq_some_iff.1 ho).1
   have hc1:=iL _ _ (cnt LB i h1)
   by_cases hik:i=k
   ·subst hik
    simp only [ho] at hl
    have:=List.all_eq_true.1 hl p (List.mem_range.2 hpk)
    obtain ⟨e,he,h2⟩:=Array.any_eq_true'.1 this
    simp only [Bool.and_eq_true,beq_iff_eq] at h2
    have h3:=hdep e he h2.2
    rw [h2.1] at h3
    have h4:=cnt LB p hlp
    rw [Array.getElem?_toList] at h4
    rw [Array.getD_eq_getD_getElem?,h4] at h3
    cases h3
   ·by_cases hip:i=p
    ·subst hip
     rw [hp] at ho
     have ho':=(Option.some.inj ho).symm
     subst ho'
     obtain ⟨v',w',hr,hRA⟩:=happ a w h.frameE h.glob (h.deps hi)
     have step:wpOp P ops Q i (fun a2 w2=>a2=a.put (some dp) v'∧w2=w') a w:=by
      unfold wpOp
      simp only [hp,fR hog,if_true]
      refine .inl ?_
      unfold Oper.wp
      rw [hr]
      exact ⟨by rw [hod],rfl⟩
     refine wpOp_mono ?_ step
     rintro a2 w2 ⟨rfl,rfl⟩
     have hdst:(ops[i]?).bind (·.dst)=some dp:=by rw [hp];exact hod
     refine Cy (t0:=t0) (d0:=d0) (dn:=fun j=>decide (j=i) || (decide (j < k) && !late j)) (G:=fun w=>w=w2) (I:=IP L2 i v') hl0 ht ?_ ?_ (hfin _ _ _ h.glob hRA) fuel _ _ _ (by simpa using hs) (by rw [getD_set_ne true hik];exact hlk) ?_ ?_ ?_
     ·rintro j v w1 w3 _ ⟨h5,h6⟩ hb
      exact ⟨h5,oV hst2 _ _ _ _ h6 hb⟩
     ·intro j hj hd
      simp only [Bool.or_eq_false_iff,decide_eq_false_iff_not,Bool.and_eq_false_iff,Bool.not_eq_false'] at hd
      refine hlate v' w2 j hj hd.1 ?_
      rcases hd.2 with h5 | h5
      ·exact absurd hj h5
      ·exact h5
     ·intro j hd
      simp only [Bool.or_eq_true,decide_eq_true_eq,Bool.and_eq_true,Bool.not_eq_true'] at hd
      by_cases hji:j=i
      ·subst hji
       rw [Array.getD_eq_getD_getElem?,Array.getElem?_setIfInBounds_self_of_lt (by omega)];rfl
      ·rcases hd with hd | ⟨hd1,hd2⟩
       ·exact absurd hd hji
       ·rw [getD_set_ne false (Ne.symm hji)]
        refine nZ (D:=fun x=>LB.getD x false=true) (fun x hx=>?_) (fun j hj x hx=>hcl j hj x hx) j (hearly j hd1 hji hd2)
        obtain ⟨e,he,h5,h6⟩:=Cz hp hx
        have h7:=hdep e he h6
        rw [h5] at h7
        exact h7
     ·rw [Array.toList_setIfInBounds];omega
     ·refine ⟨by rw [oU];exact h.size,by rw [lU];exact h.defers,fun t hf=>?_,rfl,fun j d hd hj=>?_⟩
      ·rw [iA ?_]
       ·exact h.frame t hf
       ·intro e
        have:=Array.all_eq_true'.1 hf _ (Array.mem_of_getElem? hp)
        simp at this
        exact this (hod.trans e)
      ·by_cases hji:j=i
       ·subst hji
        rw [hdst] at hd
        rw [xI hd (by rw [h.size];exact (kG ht (hdst.trans hd)).1)]
        exact ⟨fun _=>rfl,by rw [hL2p];trivial⟩
       ·rw [getD_set_ne false (Ne.symm hji)] at hj
        rw [iA (fun e=>hji ((kG ht (hdst.trans e)).2 j hd))]
        have hjk:j < k:=by
         obtain ⟨o2,ho2,_⟩:=Option.bind_eq_some_iff.1 hd
         have h5:=(Array.getElem?_eq_some_iff.1 ho2).1
         have h6:j≠k:=fun e=>by
          subst e
          have h4:=cnt LB j hlk
          rw [Array.getElem?_toList] at h4
          rw [Array.getD_eq_getD_getElem?,h4] at hj
          cases hj
         omega
        exact ⟨fun e=>absurd e hji,hpure j hjk hji _ _ _ (h.done j d hd hj)⟩
    ·refine wpOp_mono ?_ (hstep i (by omega) hip a w h.frameE h.glob (h.deps hi))
     rintro a' w' ⟨⟨v,rfl,hI⟩,hG,hB⟩
     refine ih _ _ _ (by simpa using hs) (by rw [getD_set_ne true hik];exact hlk) ?_ (by rw [getD_set_ne true hip];exact hlp) (fun j hj x hx=>?_) (h.next ht h1 (fun i v w w' _ h hb=>oV hst i v w w' h hb) hI hG hB)
     ·rw [Array.toList_setIfInBounds]
      omega
     ·have hx2:LB.getD x false=true:=by
       by_cases hji:j=i
       ·subst hji
        obtain ⟨e,he,h5,h6⟩:=Cz ho hx
        have h7:=hdep e he h6
        rw [h5] at h7
        exact h7
       ·rw [getD_set_ne false (Ne.symm hji)] at hj
        exact hcl j hj x hx
      by_cases hxi:x=i
      ·subst hxi
       rw [Array.getD_eq_getD_getElem?,Array.getElem?_setIfInBounds_self_of_lt (by omega)];rfl
      ·rw [getD_set_ne false (Ne.symm hxi)];exact hx2
def pvL (v:Value) (p:Nat):Nat→List Asr→List Asr
 | _,[]=>[]
 | j,q::L=>(bif Nat.beq j p then isV v else q)::pvL v p (j+1) L
theorem Kb {v:Value} {p:Nat}:∀ (L:List Asr) (j i:Nat),i < L.length→atI (pvL v p j L) i=if i+j=p then isV v else atI L i
 | [],j,i,h=>by simp at h
 | q::L,j,0,h=>by
  show (bif Nat.beq j p then isV v else q)=_
  cases hb:Nat.beq j p with
  | true=>rw [if_pos (by rw [Nat.zero_add];exact Nat.eq_of_beq_eq_true hb)];rfl
  | false=>rw [if_neg (by rw [Nat.zero_add];intro e;rw [e,Nat.beq_refl] at hb;cases hb)];rfl
 | q::L,j,i+1,h=>by
  show atI (pvL v p (j+1) L) i=_
  rw [Kb L (j+1) i (by simpa using h)]
  by_cases h1:i+(j+1)=p
  ·rw [if_pos h1,if_pos (by omega)]
  ·rw [if_neg h1,if_neg (by omega)];rfl
variable {d:Nat} {op:Op} {ty:TypeId} {pos:String} {aft:Array Edge} {v:Value} {gd:Option (Nat×Bool)}
def RGL (P:Program) (n:Nat) (ops:Array Oper) (Q:Exit→Act→World→Prop) (l:Fr) (L2:List Asr) (p i:Nat):Prop:=∀ v' W2 a,Has n l a→jB P ops Q a.tmps (fun w=>w=W2) (IP L2 p v') i
theorem lgV {p:Nat} (li:Fr) (hi:ops[i]?=some ⟨some d,op,ty,pos,aft,gd⟩) (hw:gG ops L2 i ⟨some d,op,ty,pos,aft,gd⟩) (hli:uI n ops l L2 i li) (hr:∀ w,gF P li ⟨some d,op,ty,pos,#[],none⟩ w v w) (hI:atI L2 i=isV v) (hip:Nat.beq i p=false):RGL P n ops Q l L2 p i :=
 fun v' W2 a ha=>jB.value hi fun b w hF hG hD=>⟨hw.yes (fun j d h=>(hD j d h).2),v,w,by rw [eK b.eval _ _ _ _ pos _ #[] _ none];exact hr w b.eval (iJ ha hF (fun j d h=>(hD j d h).2) hli),⟨fun e=>absurd hip (by rw [e,Nat.beq_refl];decide),by rw [hI];rfl⟩,hG,Below.refl _ _⟩
theorem RGL.ext {L1 L2:List Asr} {p:Nat} (ht:eP ops n=true) (hag:∀ j,j≤i→atI L1 j=atI L2 j) (h:RGL P n ops Q l L1 p i):RGL P n ops Q l L2 p i:=fun v' W2 a ha=>by
 have h1:=h v' W2 a ha
 intro b w hF hG hD
 have hlt:∀ j d,bI ops i j d=true→j < i:=fun j d hw=>by
  cases ho:ops[i]? with
  | none=>simp [bI,ho] at hw
  | some o =>
   simp only [bI,ho,Bool.and_eq_true,beq_iff_eq] at hw
   obtain ⟨e,he,h2⟩:=Array.any_eq_true'.1 hw.1
   simp only [Bool.and_eq_true,beq_iff_eq] at h2
   rw [← h2.1];exact jR ht ho e he h2.2
 have h2:=h1 b w hF hG (fun j d hw=>by unfold IP;rw [hag j (Nat.le_of_lt (hlt j d hw))];exact hD j d hw)
 unfold IP at h2
 rw [hag i (Nat.le_refl _)] at h2
 exact h2
def Kc (q q2:Asr):Prop:=∀ v w w',q v w→q2 v w'
theorem Pq {c:Value}:Kc (isV c) (isV c):=fun _ _ _ h=>h
theorem Fi {q:Asr}:Kc q anyA:=fun _ _ _ _=>trivial
def xM (ops:Array Oper) (p j:Nat):Bool:=(earlyL ops p).contains j
def BLP (P:Program) (n:Nat) (ops:Array Oper) (Q:Exit→Act→World→Prop) (l:Fr) (W:World) (p:Nat) (Goal:List Asr→List Asr→Prop):Nat→List Asr→List Asr→Nat→Prop
 | 0,Lr,L2r,_=>Goal Lr L2r
 | m+1,Lr,L2r,k=>∃ q q2,kY q∧kY q2∧Kc q q2∧((k=p∧q2=anyA)∨(k≠p∧RG P n ops Q l W (q::Lr).reverse k∧(xM ops p k=true∨RGL P n ops Q l (q2::L2r).reverse p k)))∧BLP P n ops Q l W p Goal m (q::Lr) (q2::L2r) (k+1)
variable {Goal:List Asr→List Asr→Prop}
theorem C0 {Lr L2r:List Asr} {k p:Nat} (h:Goal Lr L2r):BLP P n ops Q l W p Goal 0 Lr L2r k:=h
theorem fU {m k p:Nat} {Lr L2r:List Asr} {c:Value} (k':Nat) (hk:k+1=k') (hne:Nat.beq k p=false) (he:xM ops p k=true) (h:RG P n ops Q l W (isV c::Lr).reverse k) (hr:BLP P n ops Q l W p Goal m (isV c::Lr) (isV c::L2r) k'):BLP P n ops Q l W p Goal (m+1) Lr L2r k:=by
 subst hk;exact ⟨isV c,isV c,aJ _,aJ _,Pq,.inr ⟨fun e=>absurd hne (by rw [e,Nat.beq_refl];decide),h,.inl he⟩,hr⟩
theorem Pr {m k p:Nat} {Lr L2r:List Asr} (k':Nat) (hk:k+1=k') (hne:Nat.beq k p=false) (he:xM ops p k=true) (q:Asr) (hs:kY q) (h:RG P n ops Q l W (q::Lr).reverse k) (hr:BLP P n ops Q l W p Goal m (q::Lr) (anyA::L2r) k'):BLP P n ops Q l W p Goal (m+1) Lr L2r k:=by
 subst hk;exact ⟨q,anyA,hs,uK,Fi,.inr ⟨fun e=>absurd hne (by rw [e,Nat.beq_refl];decide),h,.inl he⟩,hr⟩
theorem xN {m k p:Nat} {Lr L2r:List Asr} {c:Value} (k':Nat) (hk:k+1=k') (hne:Nat.beq k p=false) (h:RG P n ops Q l W (isV c::Lr).reverse k) (h2:RGL P n ops Q l (isV c::L2r).reverse p k) (hr:BLP P n ops Q l W p Goal m (isV c::Lr) (isV c::L2r) k'):BLP P n ops Q l W p Goal (m+1) Lr L2r k:=by
 subst hk;exact ⟨isV c,isV c,aJ _,aJ _,Pq,.inr ⟨fun e=>absurd hne (by rw [e,Nat.beq_refl];decide),h,.inr h2⟩,hr⟩
theorem C1 {m k p:Nat} {Lr L2r:List Asr} (k':Nat) (hk:k+1=k') (hp:k=p) (hr:BLP P n ops Q l W p Goal m (anyA::Lr) (anyA::L2r) k'):BLP P n ops Q l W p Goal (m+1) Lr L2r k:=by
 subst hk;exact ⟨anyA,anyA,uK,uK,Fi,.inl ⟨hp,rfl⟩,hr⟩
def BG (P:Program) (n:Nat) (ops:Array Oper) (Q:Exit→Act→World→Prop) (l:Fr) (W:World) (p:Nat) (L L2:List Asr) (i:Nat):Prop:=Kc (atI L i) (atI L2 i)∧((i=p∧atI L2 i=anyA)∨(i≠p∧RG P n ops Q l W L i∧(xM ops p i=true∨RGL P n ops Q l L2 p i)))
theorem Kd (p:Nat) (ht:eP ops n=true):∀ (m k:Nat) (Lr L2r:List Asr),Lr.length=k→L2r.length=k→(∀ q∈Lr,kY q)→(∀ q∈L2r,kY q)→(∀ i,i < k→BG P n ops Q l W p Lr.reverse L2r.reverse i)→BLP P n ops Q l W p Goal m Lr L2r k →
  ∃ Lr' L2r',Lr'.length=k+m∧L2r'.length=k+m∧(∀ q∈Lr',kY q)∧(∀ q∈L2r',kY q)∧(∀ i,i < k+m→BG P n ops Q l W p Lr'.reverse L2r'.reverse i)∧Goal Lr' L2r'
 | 0,k,Lr,L2r,hl,hl2,hs,hs2,hg,h=>⟨Lr,L2r,hl,hl2,hs,hs2,hg,h⟩
 | m+1,k,Lr,L2r,hl,hl2,hs,hs2,hg,⟨q,q2,hp,hp2,hpu,hr,hn⟩=>by
  obtain ⟨L',L2',h1,h2,h3,h4,h5,h6⟩:=Kd p ht m (k+1) (q::Lr) (q2::L2r) (by simp [hl]) (by simp [hl2]) (fun r hq=>by
   rcases List.mem_cons.1 hq with rfl | hq
   ·exact hp
   ·exact hs r hq) (fun r hq=>by
   rcases List.mem_cons.1 hq with rfl | hq
   ·exact hp2
   ·exact hs2 r hq) (fun i hi=>by
   by_cases hik:i=k
   ·subst hik
    refine ⟨by rw [aH hl,aH hl2];exact hpu,?_⟩
    rcases hr with ⟨e1,e2⟩ | hr
    ·exact .inl ⟨e1,by rw [aH hl2];exact e2⟩
    ·exact .inr hr
   ·have hap:∀ j,j≤i→atI Lr.reverse j=atI (q::Lr).reverse j:=fun j hj=>by rw [List.reverse_cons,jV (by simp;omega)]
    have hap2:∀ j,j≤i→atI L2r.reverse j=atI (q2::L2r).reverse j:=fun j hj=>by rw [List.reverse_cons,jV (by simp;omega)]
    obtain ⟨g1,g2⟩:=hg i (by omega)
    refine ⟨by rw [← hap i (Nat.le_refl _),← hap2 i (Nat.le_refl _)];exact g1,?_⟩
    rcases g2 with ⟨e1,e2⟩ | ⟨e1,e2,e3⟩
    ·exact .inl ⟨e1,by rw [← hap2 i (Nat.le_refl _)];exact e2⟩
    ·exact .inr ⟨e1,RG.ext ht hap e2,e3.imp id (RGL.ext ht hap2)⟩) hn
  exact ⟨L',L2',by omega,by omega,h3,h4,fun i hi=>h5 i (by omega),h6⟩
def RowOf (m s:Nat) (q:List Value→World→Prop) (py:Asr):Prop:=∀ v w,py v w→∃ b o c cs,v = .slice (some ⟨b,o,none⟩) m c∧aE w b o cs∧cs.length=m * s∧cs.all Value.oneCell'=true∧q cs w
theorem pG {lo m s:Nat} {e:TypeId} {cs:List Value} (hl:Nat.beq cs.length (m * s)=true) (h1:cs.all Value.oneCell'=true):RowOf m s (fun xs _=>xs=cs) (gR lo m e cs):=fun v w ⟨B,hv,_,hc⟩ =>
 ⟨B,0,m,cs,hv,aE.own (j:=0) (m:=cs.length) hc (by simp),Nat.eq_of_beq_eq_true hl,h1,rfl⟩
theorem Ps {id dp p k:Nat} {o:Oper} {t e tx tz:TypeId} {inf:TypeInfo} {z:Value} {gi m:Nat} {g:GR} {aftp:Array Edge} (hm:P.follows .mixedOrders=true) (hS:St w0 O G K W) (hk:os[k]?=some o) (hlen:os.length=k+1) (hl:nE os.toArray k=true) (ht:eP os.toArray n=true) (hdst:(os.take k).all (fun o=>o.dst.isSome)=true) (hfree:∀ d,o.dst=some d→look l d=none)
  (hp:os[p]?=some ⟨some dp,.call { callee:=.builtin .append,args:=#[.tmp tx,.tmp tz],argTypes:=#[t,t] },ty,pos,aftp,none⟩) (hpk:Nat.blt p k=true)
  (hU:P.underlying t=some (.slice e)) (hinf:P.info? e=some inf) (hz:inf.zero=some z) (hzs:z.cells.size=inf.size) (hsz:0 < inf.size)
  (hi:G[gi]?=some g) (he:g.e=e) (hgs:g.size=inf.size) (h63:g.n+m≤maxLen) (hbytes:(g.n+m) * inf.bytes≤140737488355328)
  (h:BLP P n os.toArray Q l W p (fun Lr L2r=>∃ (py:Asr) (q:List Value→World→Prop),OpG n os.toArray l Lr.reverse p tx (isV g.v)∧OpG n os.toArray l Lr.reverse p tz py∧RowOf m inf.size q py ∧
   ∀ A v' news W',Below W.heap.size W A→q news A→St w0 O (G.set gi ⟨v',g.n+m,g.xs++news,e,g.size⟩) ((W.heap.size,A)::K) W'→kZ (os.take k) (pvL v' p 0 L2r.reverse) l (fun l' W'=>cX P n os.toArray Q [o] l' W') W') k [] [] 0):fG P n (.region id os.toArray true) Q l W:=by
 obtain ⟨Lr,L2r,h1,h2,h3,h4,h5,py,q,hx,hy,hpy,hfin⟩:=Kd p ht k 0 [] [] rfl rfl (fun p hp=>by cases hp) (fun p hp=>by cases hp) (fun i hi=>by omega) h
 have hpk':p < k:=Nat.lt_of_lt_of_le (Nat.lt_succ_self _) (Nat.le_of_ble_eq_true hpk)
 subst he
 rw [Nat.zero_add] at h1 h2 h5
 have hpo:os.toArray[p]?=some ⟨some dp,.call { callee:=.builtin .append,args:=#[.tmp tx,.tmp tz],argTypes:=#[t,t] },ty,pos,aftp,none⟩:=by simpa using hp
 have hko:os.toArray[k]?=some o:=by simpa using hk
 have hL2p:atI L2r.reverse p=anyA:=by
  rcases (h5 p hpk').2 with h6 | h6
  ·exact h6.2
  ·exact absurd rfl h6.1
 intro a ha
 refine wp_region_any hm (zI (W:=W) (t0:=a.tmps) (d0:=a.defers) (L:=Lr.reverse) (L2:=L2r.reverse) (late:=fun j => !xM os.toArray p j)
  (RA:=fun A v' W'=>∃ news,q news A∧St w0 O (G.set gi ⟨v',g.n+m,g.xs++news,g.e,g.size⟩) ((W.heap.size,A)::K) W') hl (by rw [ha.size];exact ht) (pA fun q hq=>h3 q (List.mem_reverse.1 hq)) (pA fun q hq=>h4 q (List.mem_reverse.1 hq)) hpk' hpo rfl rfl ?_ ?_ ?_ hL2p ?_ ?_ ?_ _ _ _ _ (by simp) ?_ (jT _) ?_ (fun j hj=>by rw [Array.getD_eq_getD_getElem?,Array.getElem?_replicate] at hj;split at hj<;>simp at hj) (xJ ((Below.refl _ _).drew)))
 ·intro j hj hjp he
  simp only [Bool.not_eq_false'] at he
  exact List.contains_iff_mem.1 he
 ·intro i hi hip
  rcases (h5 i hi).2 with h6 | h6
  ·exact absurd h6.1 hip
  ·exact h6.2.1 a ha
 ·intro b w hF hG hD
  have ex:b.eval (.tmp tx)=g.v:=hx a ha b w hF hD
  obtain ⟨bb,oo,c,cs,ey,hc,hcl,h1c,hq⟩:=hpy _ w (hy a ha b w hF hD)
  have hS2:=hS.call hG
  have hrow:=hS2.row gi hi
  rw [hgs] at hrow
  obtain ⟨v',W',hr,k2,k3,k4⟩:=gV (P:=P) (w:=w) w0.heap.size t ty g.e inf z hU hinf hz hzs hsz g.v g.n g.xs hrow ⟨bb,oo,none⟩ m c cs hcl (fun j u hj=>by rw [Addr.add_lit];exact hc.get j u hj) (fun u hu=>List.all_eq_true.1 h1c u hu) h63 hbytes hS2.below.size
  rw [← hgs] at k2
  refine ⟨v',W',?_,cs,hq,hS2.setG gi hi k2 k3 k4⟩
  unfold execOp
  simp only [resolve,invoke,builtin,Sem.run_bind,Sem.run_pure,Result.andThen_ok,List.map_toArray,List.map_cons,List.map_nil,ex,ey,hr]
 ·intro i hi hip v w w' hv
  exact (h5 i hi).1 v w w' hv
 ·intro v' W2 i hi hip hlt
  rcases (h5 i hi).2 with h6 | h6
  ·exact absurd h6.1 hip
  ·rcases h6.2.2 with h7 | h7
   ·rw [h7] at hlt;cases hlt
   ·exact h7 v' W2 a ha
 ·rintro A v' W2 hB ⟨news,hq,hS2⟩
  intro a' W' hs hd hf hG hI
  subst hG
  have hdst':∀ o∈os.take k,∃ d,o.dst=some d:=fun o ho=>Option.isSome_iff_exists.1 (List.all_eq_true.1 hdst o ho)
  have htk:(os.take k).length=k:=by simp;omega
  refine vW (os.take k) (pvL v' p 0 L2r.reverse) l (fun i d hi hd'=>?_) (hs.trans ha.size) (hd.trans ha.defers) ?_ hdst' (fun l' h ha'=>?_) (hfin A v' news W' hB hq hS2)
  ·have hik:i < k:=by omega
   have h6:=hI i d hik (by rw [List.getElem?_take,if_pos hik] at hd';simpa using hd')
   rw [Kb L2r.reverse 0 i (by simp;omega)]
   by_cases hip:i+0=p
   ·rw [if_pos hip];exact h6.1 hip
   ·rw [if_neg hip];exact h6.2
  ·intro t' v hv hno
   rw [hf t' (by
    unfold freeT;rw [Array.all_eq_true'];intro o' ho'
    have ho2:o'∈os:=by simpa using ho'
    obtain ⟨j,hj⟩:=List.getElem?_of_mem ho2
    by_cases hjk:j < k
    ·have:o'∈os.take k:=List.mem_of_getElem? (by rw [List.getElem?_take,if_pos hjk];exact hj)
     simpa using hno o' this
    ·have hjl:=(List.getElem?_eq_some_iff.1 hj).1
     have:j=k:=by omega
     subst this
     rw [hk] at hj
     have e2:=Option.some.inj hj
     subst e2
     cases hx:o.dst with
     | none=>simp
     | some d=>simp;intro e;subst e;rw [hfree d hx] at hv;cases hv)]
   exact ha.at_ t' v hv
  ·have h6:=h a' ha'
   unfold wpOp
   rw [hko]
   exact h6
 ·rw [Array.getD_eq_getD_getElem?,Array.getElem?_replicate,if_pos (by simp;omega)];rfl
 ·rw [Array.getD_eq_getD_getElem?,Array.getElem?_replicate,if_pos (by simp;omega)];rfl
end
theorem big_no {n:Int} (h:lO n≠0):(if fH n=true then (30:Int) else 31)=31:=by
 by_cases hd:fH n=true
 ·exfalso;apply h
  simp only [fH,Bool.and_eq_true,decide_eq_true_eq] at hd
  unfold lO;rw [if_pos (by omega)]
 ·rw [if_neg hd]
theorem big_yes {n:Int} (h:¬ lO n≠0):fH n=true∧n≤64:=by
 have h':lO n=0:=by omega
 unfold lO at h'
 split at h'
 ·rename_i hn
  refine ⟨?_,by omega⟩
  simp only [fH,Bool.and_eq_true,decide_eq_true_eq];omega
 ·omega
theorem big_ne {n:Int}:(if fH n=true then (30:Int) else 31)≠0:=by
 split<;>omega
theorem Ke {n:Int} (h:fH n=true):n≤64:=by
 simp only [fH,Bool.and_eq_true,decide_eq_true_eq] at h;omega
theorem Fj (n:Int) (a:Option Addr) (len cap gen:Nat) (w:World) (hl:100 < len) :
  Calls prog 124 #[.int .i64 n,.agg #[.int .u64 (gen:Int),.slice a len cap]] w (fun e w'=>e = .returned (.int .i64 (if fH n=true then 30 else 31))∧Below w.heap.size w w'):=by
 refine cH (args:=[.int .i64 n,.agg #[.int .u64 (gen:Int),.slice a len cap]]) func124 rfl ntmps124 rfl ?_
 have hS:=St.start w
 refine aL (aR (bK (cs:=[_,_]) hS rfl rfl rfl fun B1 W1 hS=>aA rfl rfl (aQ (XF.thenN (aL (aR (aG rfl rfl (cO (vs:=[_]) hS Po rfl (oP n _ _ rfl rfl _) rfl ?_))))))))
 rintro e W2 ⟨rfl,rfl⟩
 refine ⟨_,rfl,Below.refl _ _,fun hS'=>?_⟩
 clear hS;have hS:=hS';clear hS'
 refine aG rfl rfl (bL rfl rfl rfl (bL rfl rfl rfl (aA rfl rfl (aA rfl rfl (aQ (XF.thenN (aL (aL (aR (aG rfl rfl (dA rfl rfl rfl (aQ (XF.thenN (aZ rfl (fun hc=>?_) (fun hc=>?_)))))))))))))))
 ·have hc15:=of_decide_eq_true hc;clear hc
  refine aL (aR (aA rfl rfl (aQ (XF.thenN (bJ (XF.thenR (XF.res (cJ results124 rfl) ?_)))))))
  exact ⟨by rw [big_no hc15],hS.below⟩
 ·have hc15:=of_decide_eq_false hc;clear hc
  obtain ⟨hd,hd2⟩:=big_yes hc15
  refine bG (XF.thenN (aL (aL (aR (aP (o':=1) tA rfl rfl rfl (aT isAgg47 rfl (aK (hS.at_ 0 rfl) rfl) rfl (bX underlying47 rfl rfl (aG rfl rfl (dA rfl rfl rfl (aG rfl rfl (bS (d:=21) rfl (fun hc=>?_) (fun hc=>absurd (of_decide_eq_false hc) (by omega)))))))))))))
  have hc:=of_decide_eq_true hc
  refine aF (d:=21) rfl rfl rfl rfl (aF (d:=21) rfl rfl rfl rfl (aF (d:=21) rfl rfl rfl rfl (aF (d:=21) rfl rfl rfl rfl (aF (d:=21) rfl rfl rfl rfl (bC rfl rfl rfl (aQ (XF.thenN (dJ rfl (aL (aR (aA rfl rfl (aQ (XF.thenN (bJ (XF.thenR (XF.res (cJ results124 rfl) ?_))))))))))))))))
  exact ⟨by rw [if_pos hd],hS.below⟩
theorem H6 (n:Int) (a:Option Addr) (len cap gen:Nat) (w:World) (hl:100 < len) :
  Calls prog 103 #[.int .i64 n,.agg #[.int .u64 (gen:Int),.slice a len cap]] w (fun e w'=>e = .returned (.int .i64 (if fH n=true then 30 else 31))∧Below w.heap.size w w'):=by
 refine cH (args:=[.int .i64 n,.agg #[.int .u64 (gen:Int),.slice a len cap]]) func103 rfl ntmps103 rfl ?_
 have hS:=St.start w
 refine aL (aR (bK (cs:=[_,_]) hS rfl rfl rfl fun B1 W1 hS=>aA rfl rfl (aQ (XF.thenN (aL (aL (aR (aG rfl rfl (aS (vs:=[_,_]) isAgg49 sizeOf49 rfl (aE.own (j:=0) (m:=2) (hS.at_ 0 rfl) rfl) rfl (cF (vs:=[_,_]) hS Pn rfl (Fj n a len cap gen _ hl) rfl fun W2 hS=>aA rfl rfl (aQ (XF.thenN (aL (aR (aG rfl rfl (dA rfl rfl rfl (aQ (XF.thenN (aZ rfl (fun hc=>?_) (fun hc=>absurd (of_decide_eq_false hc) (by exact fun h=>h big_ne)))))))))))))))))))))
 have hc:=of_decide_eq_true hc
 refine aL (aR (aG rfl rfl (aA rfl rfl (aQ (XF.thenN (bJ (XF.thenR (XF.res (cJ results103 rfl) ?_))))))))
 exact ⟨rfl,hS.below⟩
theorem H7 (n:Int) (a:Option Addr) (len cap gen:Nat) (w:World) (hl:100 < len) (hd:fH n=true) :
  Calls prog 111 #[.int .i64 n,.agg #[.int .u64 (gen:Int),.slice a len cap]] w (fun e w'=>e = .returned (.bool false)∧Below w.heap.size w w'):=by
 have hd2:=Ke hd
 refine cH (args:=[.int .i64 n,.agg #[.int .u64 (gen:Int),.slice a len cap]]) func111 rfl ntmps111 rfl ?_
 have hS:=St.start w
 refine aL (aR (bK (cs:=[_,_]) hS rfl rfl rfl fun B1 W1 hS=>aA rfl rfl (aQ (XF.thenN (aL (aL (aR (aP (o':=1) tA rfl rfl rfl (aT isAgg47 rfl (aK (hS.at_ 0 rfl) rfl) rfl (bX underlying47 rfl rfl (aG rfl rfl (dA rfl rfl rfl (aG rfl rfl (bS (d:=11) rfl (fun hc=>?_) (fun hc=>absurd (of_decide_eq_false hc) (by omega))))))))))))))))
 have hc:=of_decide_eq_true hc
 refine aF (d:=11) rfl rfl rfl rfl (aF (d:=11) rfl rfl rfl rfl (aF (d:=11) rfl rfl rfl rfl (aF (d:=11) rfl rfl rfl rfl (aF (d:=11) rfl rfl rfl rfl (bC rfl rfl rfl (aQ (XF.thenN (dJ rfl (aL (aR (aA rfl rfl (aQ (XF.thenN (bJ (XF.thenR (XF.res (cJ results111 rfl) ?_))))))))))))))))
 exact ⟨rfl,hS.below⟩
theorem H8 (n:Int) (a:Option Addr) (len cap gen:Nat) (w:World) (hl:100 < len) :
  Calls prog 85 #[.int .i64 n,.agg #[.int .u64 (gen:Int),.slice a len cap]] w (fun e w'=>e = .returned (.int .i64 (if fH n=true then 30 else 31))∧Below w.heap.size w w'):=by
 refine cH (args:=[.int .i64 n,.agg #[.int .u64 (gen:Int),.slice a len cap]]) func85 rfl ntmps85 rfl ?_
 have hS:=St.start w
 refine aL (aR (bK (cs:=[_,_]) hS rfl rfl rfl fun B1 W1 hS=>aA rfl rfl (aQ (XF.thenN (aL (aL (aR (aG rfl rfl (cO (vs:=[_]) hS goes_94 rfl (tY n _ rfl _) rfl ?_)))))))))
 rintro e W2 ⟨rfl,rfl⟩
 refine ⟨_,rfl,Below.refl _ _,fun hS'=>?_⟩
 clear hS;have hS:=hS';clear hS'
 refine eA rfl rfl (aQ (XF.thenN (aZ rfl (fun hc=>?_) (fun hc=>?_))))
 ·have hc7:=hc;clear hc
  refine aL (aR (aA rfl rfl (aQ (XF.thenN (bJ (XF.thenR (XF.res (cJ results85 rfl) ?_)))))))
  exact ⟨by rw [if_neg (by simpa using hc7)],hS.below⟩
 ·have hc7:=hc;clear hc
  have hd:fH n=true:=by simpa using hc7
  refine bG (XF.thenN (aL (aL (iE (m:=11) cE hS (by kernel_rfl) (by kernel_rfl) rfl (cC 1 rfl 0 rfl rfl (fun w hw=>bE rfl) rfl (cC 2 rfl 3 rfl rfl (fun w hw=>bF (vs:=[_,_]) isAgg49 sizeOf49 rfl (aE.agree (aN hw 0) (Nat.zero_le _) (aE.own (j:=0) (m:=2) (hS.at_ 0 rfl) rfl))) rfl ?_))))))
  refine aM 3 rfl (isV (.bool false)) (aJ _) (cV [isV _,isV _] rfl Pm (aU rfl) ⟨bZ (aO 0 (aB rfl rfl rfl)),bZ (aO 1 (aB rfl rfl rfl)),trivial⟩ (fun vs w' hb hh=>by have e:=cB (us:=[_,_]) hh;subst e;exact (H7 n a len cap gen _ hl hd).mono fun e w2 h=>⟨_,h.1,rfl,h.2⟩) (aH rfl)) ?_
  refine aM 4 rfl (isV (.bool true)) (aJ _) (kH (li:=[(10,_)]) rfl (aU rfl) ⟨aO 2 (aB rfl rfl rfl),trivial⟩ (fun w hw=>jU rfl) (rfl) (aH rfl)) (aX 5 rfl 11 3 rfl rfl rfl (fun w hw=>bE rfl) rfl (aM 6 rfl (isV undef) (aJ _) (bT rfl (bU 12 rfl (aB rfl rfl rfl) rfl) (aH rfl)) (aM 7 rfl (isV undef) (aJ _) (bT rfl (bU 12 rfl (aB rfl rfl rfl) rfl) (aH rfl)) (aM 8 rfl (isV undef) (aJ _) (bT rfl (bU 12 rfl (aB rfl rfl rfl) rfl) (aH rfl)) (aM 9 rfl (isV undef) (aJ _) (bT rfl (bU 12 rfl (aB rfl rfl rfl) rfl) (aH rfl)) (aM 10 rfl (isV undef) (aJ _) (bT rfl (bU 12 rfl (aB rfl rfl rfl) rfl) (aH rfl)) (aX 11 rfl 12 4 rfl rfl rfl (fun w hw=>dU rfl rfl) rfl (dC ?_))))))))
  intro W3 hbR hS'
  clear hS;have hS:=hS';clear hS'
  refine aI (aI (aI (aI (aI (aI (aI (aI (aI (aI (aI (cL (XF.thenN (dJ rfl (aL (aR (aA rfl rfl (aQ (XF.thenN (bJ (XF.thenR (XF.res (cJ results85 rfl) ?_)))))))))))))))))))))
  exact ⟨by rw [if_pos hd],hS.below⟩
theorem xO {n:Int} {gen:Nat} {rows:List Nat} (h:100 < rows.length):eR n gen rows=(if fH n=true then 30 else 31):=by
 unfold eR
 by_cases hd:fH n=true
 ·have h64:=Ke hd
  have e:fC n.toNat gen rows=false:=by
   unfold fC
   rw [decide_eq_false (by omega)];rfl
  rw [if_pos hd,if_pos hd,e];rfl
 ·rw [if_neg hd,if_neg hd]
theorem H9 (n:Int) (a:Option Addr) (cap gen:Nat) (rows:List Nat) (w:World) {f:WF} (hf:f.At w) (r:Int) (hr:eR n gen rows=r) (len:Nat) (hl:rows.length=len) (ha:f.ra=a:=by rfl) (hg:f.g=gen:=by rfl) (hrr:f.rows=rows:=by rfl) :
  Calls prog 103 #[.int .i64 n,.agg #[.int .u64 (gen:Int),.slice a len cap]] w fun e w'=>e = .returned (.int .i64 r)∧Below w.heap.size w w':=by
 subst ha;subst hg;subst hrr
 by_cases h:f.rows.length≤100
 ·exact pY n _ cap _ _ w ⟨hf.rows,hf.g64,hf.r64,h⟩ r hr len hl
 ·rw [← hr,xO (by omega)]
  exact H6 n _ len cap _ w (by omega)
theorem Ia (n:Int) (a:Option Addr) (cap gen:Nat) (rows:List Nat) (w:World) {f:WF} (hf:f.At w) (r:Int) (hr:eR n gen rows=r) (len:Nat) (hl:rows.length=len) (ha:f.ra=a:=by rfl) (hg:f.g=gen:=by rfl) (hrr:f.rows=rows:=by rfl) :
  Calls prog 85 #[.int .i64 n,.agg #[.int .u64 (gen:Int),.slice a len cap]] w fun e w'=>e = .returned (.int .i64 r)∧Below w.heap.size w w':=by
 subst ha;subst hg;subst hrr
 by_cases h:f.rows.length≤100
 ·exact pZ n _ cap _ _ w ⟨hf.rows,hf.g64,hf.r64,h⟩ r hr len hl
 ·rw [← hr,xO (by omega)]
  exact H8 n _ len cap _ w (by omega)
theorem Fk (f:WF) (r:Bool) (hr:iH false false false false f=r) (w:World) :
  Calls prog 117 #[f.val,.bool false,.bool false,.bool false,.bool false] w fun e w'=>e = .returned (.bool r)∧Below w.heap.size w w':=by
 obtain ⟨z,c,g,ra,rl,rc,rows,ca,cl,cc,cells,pa,pl,pc⟩:=f
 show Calls prog 117 #[.agg #[.bool z,.int .i64 c,.int .u64 (g:Int),.slice ra rl rc,.slice ca cl cc,.slice pa pl pc],.bool false,.bool false,.bool false,.bool false] w _
 have hB:=Lib.hid (zF w #[.bool z,.int .i64 c,.int .u64 (g:Int),.slice ra rl rc,.slice ca cl cc,.slice pa pl pc] 53)
 obtain ⟨b1,h1⟩:∃ b,(c == 0)=b:=⟨_,rfl⟩
 obtain ⟨b2,h2⟩:∃ b,((g:Int) == 0)=b:=⟨_,rfl⟩
 obtain ⟨b3,h3⟩:∃ b,((rl:Int) == 0)=b:=⟨_,rfl⟩
 obtain ⟨b4,h4⟩:∃ b,((cl:Int) == 0)=b:=⟨_,rfl⟩
 obtain ⟨b5,h5⟩:∃ b,((pl:Int) == 0)=b:=⟨_,rfl⟩
 have HR:Hid (((false || b1) && ((false || (b2 && b3)) && ((false || b4) && (false || b5))))=r):=by
  show _=_
  rw [← hr,← h1,← h2,← h3,← h4,← h5,dV,dV,dV,dV,pW];rfl
 clear hr
 cases b1
 ·go_enter func117,ntmps117
  go_wp2_with fail
  go_ret
  exact ⟨bY (by rw [← HR.out];simp),hB.out⟩
 cases b2
 ·go_enter func117,ntmps117
  go_wp2_with fail
  go_ret
  exact ⟨bY (by rw [← HR.out];simp),hB.out⟩
 cases b3
 ·go_enter func117,ntmps117
  go_wp2_with fail
  go_ret
  exact ⟨bY (by rw [← HR.out];simp),hB.out⟩
 cases b4
 ·go_enter func117,ntmps117
  go_wp2_with fail
  go_ret
  exact ⟨bY (by rw [← HR.out];simp),hB.out⟩
 cases b5
 ·go_enter func117,ntmps117
  go_wp2_with fail
  go_ret
  exact ⟨bY (by rw [← HR.out];simp),hB.out⟩
 go_enter func117,ntmps117
 go_wp2_with fail
 go_ret
 exact ⟨bY (by rw [← HR.out];simp),hB.out⟩
theorem Pt (f:WF) (r:Bool) (hr:iH true false false false f=r) (w:World) :
  Calls prog 117 #[f.val,.bool true,.bool false,.bool false,.bool false] w fun e w'=>e = .returned (.bool r)∧Below w.heap.size w w':=by
 obtain ⟨z,c,g,ra,rl,rc,rows,ca,cl,cc,cells,pa,pl,pc⟩:=f
 show Calls prog 117 #[.agg #[.bool z,.int .i64 c,.int .u64 (g:Int),.slice ra rl rc,.slice ca cl cc,.slice pa pl pc],.bool true,.bool false,.bool false,.bool false] w _
 have hB:=Lib.hid (zF w #[.bool z,.int .i64 c,.int .u64 (g:Int),.slice ra rl rc,.slice ca cl cc,.slice pa pl pc] 53)
 obtain ⟨b1,h1⟩:∃ b,(c == 0)=b:=⟨_,rfl⟩
 obtain ⟨b2,h2⟩:∃ b,((g:Int) == 0)=b:=⟨_,rfl⟩
 obtain ⟨b3,h3⟩:∃ b,((rl:Int) == 0)=b:=⟨_,rfl⟩
 obtain ⟨b4,h4⟩:∃ b,((cl:Int) == 0)=b:=⟨_,rfl⟩
 obtain ⟨b5,h5⟩:∃ b,((pl:Int) == 0)=b:=⟨_,rfl⟩
 have HR:Hid (((true || b1) && ((false || (b2 && b3)) && ((false || b4) && (false || b5))))=r):=by
  show _=_
  rw [← hr,← h1,← h2,← h3,← h4,← h5,dV,dV,dV,dV,pW];rfl
 clear hr
 cases b2
 ·go_enter func117,ntmps117
  go_wp2_with fail
  go_ret
  exact ⟨bY (by rw [← HR.out];simp),hB.out⟩
 cases b3
 ·go_enter func117,ntmps117
  go_wp2_with fail
  go_ret
  exact ⟨bY (by rw [← HR.out];simp),hB.out⟩
 cases b4
 ·go_enter func117,ntmps117
  go_wp2_with fail
  go_ret
  exact ⟨bY (by rw [← HR.out];simp),hB.out⟩
 cases b5
 ·go_enter func117,ntmps117
  go_wp2_with fail
  go_ret
  exact ⟨bY (by rw [← HR.out];simp),hB.out⟩
 go_enter func117,ntmps117
 go_wp2_with fail
 go_ret
 exact ⟨bY (by rw [← HR.out];simp),hB.out⟩
theorem Pu (f:WF) (r:Bool) (hr:iH false true false false f=r) (w:World) :
  Calls prog 117 #[f.val,.bool false,.bool true,.bool false,.bool false] w fun e w'=>e = .returned (.bool r)∧Below w.heap.size w w':=by
 obtain ⟨z,c,g,ra,rl,rc,rows,ca,cl,cc,cells,pa,pl,pc⟩:=f
 show Calls prog 117 #[.agg #[.bool z,.int .i64 c,.int .u64 (g:Int),.slice ra rl rc,.slice ca cl cc,.slice pa pl pc],.bool false,.bool true,.bool false,.bool false] w _
 have hB:=Lib.hid (zF w #[.bool z,.int .i64 c,.int .u64 (g:Int),.slice ra rl rc,.slice ca cl cc,.slice pa pl pc] 53)
 obtain ⟨b1,h1⟩:∃ b,(c == 0)=b:=⟨_,rfl⟩
 obtain ⟨b2,h2⟩:∃ b,((g:Int) == 0)=b:=⟨_,rfl⟩
 obtain ⟨b3,h3⟩:∃ b,((rl:Int) == 0)=b:=⟨_,rfl⟩
 obtain ⟨b4,h4⟩:∃ b,((cl:Int) == 0)=b:=⟨_,rfl⟩
 obtain ⟨b5,h5⟩:∃ b,((pl:Int) == 0)=b:=⟨_,rfl⟩
 have HR:Hid (((false || b1) && ((true || (b2 && b3)) && ((false || b4) && (false || b5))))=r):=by
  show _=_
  rw [← hr,← h1,← h2,← h3,← h4,← h5,dV,dV,dV,dV,pW];rfl
 clear hr
 cases b1
 ·go_enter func117,ntmps117
  go_wp2_with fail
  go_ret
  exact ⟨bY (by rw [← HR.out];simp),hB.out⟩
 cases b4
 ·go_enter func117,ntmps117
  go_wp2_with fail
  go_ret
  exact ⟨bY (by rw [← HR.out];simp),hB.out⟩
 cases b5
 ·go_enter func117,ntmps117
  go_wp2_with fail
  go_ret
  exact ⟨bY (by rw [← HR.out];simp),hB.out⟩
 go_enter func117,ntmps117
 go_wp2_with fail
 go_ret
 exact ⟨bY (by rw [← HR.out];simp),hB.out⟩
theorem Pv (f:WF) (r:Bool) (hr:iH false false true false f=r) (w:World) :
  Calls prog 117 #[f.val,.bool false,.bool false,.bool true,.bool false] w fun e w'=>e = .returned (.bool r)∧Below w.heap.size w w':=by
 obtain ⟨z,c,g,ra,rl,rc,rows,ca,cl,cc,cells,pa,pl,pc⟩:=f
 show Calls prog 117 #[.agg #[.bool z,.int .i64 c,.int .u64 (g:Int),.slice ra rl rc,.slice ca cl cc,.slice pa pl pc],.bool false,.bool false,.bool true,.bool false] w _
 have hB:=Lib.hid (zF w #[.bool z,.int .i64 c,.int .u64 (g:Int),.slice ra rl rc,.slice ca cl cc,.slice pa pl pc] 53)
 obtain ⟨b1,h1⟩:∃ b,(c == 0)=b:=⟨_,rfl⟩
 obtain ⟨b2,h2⟩:∃ b,((g:Int) == 0)=b:=⟨_,rfl⟩
 obtain ⟨b3,h3⟩:∃ b,((rl:Int) == 0)=b:=⟨_,rfl⟩
 obtain ⟨b4,h4⟩:∃ b,((cl:Int) == 0)=b:=⟨_,rfl⟩
 obtain ⟨b5,h5⟩:∃ b,((pl:Int) == 0)=b:=⟨_,rfl⟩
 have HR:Hid (((false || b1) && ((false || (b2 && b3)) && ((true || b4) && (false || b5))))=r):=by
  show _=_
  rw [← hr,← h1,← h2,← h3,← h4,← h5,dV,dV,dV,dV,pW];rfl
 clear hr
 cases b1
 ·go_enter func117,ntmps117
  go_wp2_with fail
  go_ret
  exact ⟨bY (by rw [← HR.out];simp),hB.out⟩
 cases b2
 ·go_enter func117,ntmps117
  go_wp2_with fail
  go_ret
  exact ⟨bY (by rw [← HR.out];simp),hB.out⟩
 cases b3
 ·go_enter func117,ntmps117
  go_wp2_with fail
  go_ret
  exact ⟨bY (by rw [← HR.out];simp),hB.out⟩
 cases b5
 ·go_enter func117,ntmps117
  go_wp2_with fail
  go_ret
  exact ⟨bY (by rw [← HR.out];simp),hB.out⟩
 go_enter func117,ntmps117
 go_wp2_with fail
 go_ret
 exact ⟨bY (by rw [← HR.out];simp),hB.out⟩
theorem tH (f:WF) (r:Bool) (hr:iH false false false true f=r) (w:World) :
  Calls prog 117 #[f.val,.bool false,.bool false,.bool false,.bool true] w fun e w'=>e = .returned (.bool r)∧Below w.heap.size w w':=by
 obtain ⟨z,c,g,ra,rl,rc,rows,ca,cl,cc,cells,pa,pl,pc⟩:=f
 show Calls prog 117 #[.agg #[.bool z,.int .i64 c,.int .u64 (g:Int),.slice ra rl rc,.slice ca cl cc,.slice pa pl pc],.bool false,.bool false,.bool false,.bool true] w _
 have hB:=Lib.hid (zF w #[.bool z,.int .i64 c,.int .u64 (g:Int),.slice ra rl rc,.slice ca cl cc,.slice pa pl pc] 53)
 obtain ⟨b1,h1⟩:∃ b,(c == 0)=b:=⟨_,rfl⟩
 obtain ⟨b2,h2⟩:∃ b,((g:Int) == 0)=b:=⟨_,rfl⟩
 obtain ⟨b3,h3⟩:∃ b,((rl:Int) == 0)=b:=⟨_,rfl⟩
 obtain ⟨b4,h4⟩:∃ b,((cl:Int) == 0)=b:=⟨_,rfl⟩
 obtain ⟨b5,h5⟩:∃ b,((pl:Int) == 0)=b:=⟨_,rfl⟩
 have HR:Hid (((false || b1) && ((false || (b2 && b3)) && ((false || b4) && (true || b5))))=r):=by
  show _=_
  rw [← hr,← h1,← h2,← h3,← h4,← h5,dV,dV,dV,dV,pW];rfl
 clear hr
 cases b1
 ·go_enter func117,ntmps117
  go_wp2_with fail
  go_ret
  exact ⟨bY (by rw [← HR.out];simp),hB.out⟩
 cases b2
 ·go_enter func117,ntmps117
  go_wp2_with fail
  go_ret
  exact ⟨bY (by rw [← HR.out];simp),hB.out⟩
 cases b3
 ·go_enter func117,ntmps117
  go_wp2_with fail
  go_ret
  exact ⟨bY (by rw [← HR.out];simp),hB.out⟩
 cases b4
 ·go_enter func117,ntmps117
  go_wp2_with fail
  go_ret
  exact ⟨bY (by rw [← HR.out];simp),hB.out⟩
 go_enter func117,ntmps117
 go_wp2_with fail
 go_ret
 exact ⟨bY (by rw [← HR.out];simp),hB.out⟩
theorem Ib {m s:Nat} (hm:m≤64) (hs:s < 18446744073709551616):mC m s=iW m s:=by
 rw [Bool.eq_iff_iff,iV hm hs,iW,beq_iff_eq,Nat.div_eq_zero_iff_lt (Nat.two_pow_pos m)]
set_option maxHeartbeats 2000000 in
theorem Pw (m:Nat) (hm:m≤64) (f:Nat) (k v:Int) (hf:f < 18446744073709551616) (r:Bool) (hr:kV m ⟨f,k,v⟩=r) (w:World) :
  Calls prog 118 #[.int .i64 m,.agg #[.int .u64 f,.int .i64 k,.int .i64 v]] w fun e w'=>e = .returned (.bool r)∧Below w.heap.size w w':=by
 have hB:=Lib.hid (zF w #[.int .u64 f,.int .i64 k,.int .i64 v] 92)
 obtain ⟨i,hi⟩:∃ i,iW m f=i:=⟨_,rfl⟩
 have HI:Hid (He m f=i):=by
  show _=_
  have hd:fH (m:Int)=true:=by simp [fH];omega
  rw [He,if_pos hd,Int.toNat_natCast,Ib hm hf,hi]
 have HR:Hid ((i && eH f k v)=r):=by show _=_;rw [← hr,kV,kM,hi]
 clear hr hi
 cases i
 ·have HR2:Hid (false=r):=by show _=_;rw [← HR.out];rfl
  go_enter func118,ntmps118
  go_wp2_with fail
  refine (gL m f hf false HI.out _).mono ?_
  rintro e w1 ⟨rfl,rfl⟩
  go_wp2_with fail
  go_ret
  exact ⟨bY HR2.out,hB.out⟩
 by_cases k0:k=0
 ·subst k0
  have HR2:Hid ((v == 0)=r):=by show _=_;rw [← HR.out];simp [eH]
  go_enter func118,ntmps118
  go_wp2_with fail
  refine (gL m f hf true HI.out _).mono ?_
  rintro e w1 ⟨rfl,rfl⟩
  go_wp2_with fail
  go_ret
  exact ⟨bY HR2.out,hB.out⟩
 by_cases k1:k=1
 ·subst k1
  have HR2:Hid (true=r):=by show _=_;rw [← HR.out];simp [eH]
  clear k0
  go_enter func118,ntmps118
  go_wp2_with fail
  refine (gL m f hf true HI.out _).mono ?_
  rintro e w1 ⟨rfl,rfl⟩
  go_wp2_with fail
  go_ret
  exact ⟨bY HR2.out,hB.out⟩
 by_cases k2:k=2
 ·subst k2
  clear k0 k1
  by_cases v0:v=0
  ·subst v0
   have HR2:Hid (((f:Int) == 0)=r):=by show _=_;rw [← HR.out,dV,Bool.eq_iff_iff];simp [eH]
   go_enter func118,ntmps118
   go_wp2_with fail
   refine (gL m f hf true HI.out _).mono ?_
   rintro e w1 ⟨rfl,rfl⟩
   go_wp2_with fail
   go_ret
   exact ⟨bY HR2.out,hB.out⟩
  ·have HR2:Hid (false=r):=by show _=_;rw [← HR.out];simp [eH,v0]
   have hv:(v == 0)=false:=by simp [v0]
   go_enter func118,ntmps118
   go_wp2_with fail
   refine (gL m f hf true HI.out _).mono ?_
   rintro e w1 ⟨rfl,rfl⟩
   go_wp2_with fail
   go_ret
   exact ⟨bY HR2.out,hB.out⟩
 ·have HR2:Hid (false=r):=by show _=_;rw [← HR.out];simp [eH,k0,k1,k2]
  have e0:(k == 0)=false:=by simp [k0]
  have e1:(k == 1)=false:=by simp [k1]
  have e2:(k == 2)=false:=by simp [k2]
  clear k0 k1 k2
  go_enter func118,ntmps118
  go_wp2_with fail
  refine (gL m f hf true HI.out _).mono ?_
  rintro e w1 ⟨rfl,rfl⟩
  go_wp2_with fail
  go_ret
  exact ⟨bY HR2.out,hB.out⟩
attribute [local go_sem ↓] Go.wp_at_zero Go.wp_at_succ
def pwAt (p:SV):Option WV→Bool | some x=>fM p.f.tag p.f.dim x.f | none=>false
def gN (p q:SV) (g:WF) (qs:List WV):Bool:=iI 5 g && (!g.z && (decide (qs.length=2) && (pwAt p qs[0]? && pwAt q qs[1]?)))
theorem WIn.two {w:World} {d:Nat} {f:WF} {p q:WV} (h:WIn w (d+1) (.mk f [p,q])):f.pl=2∧∃ b off,f.pa=some ⟨b,off,none⟩∧b < w.heap.size∧W6 w b off p.f∧W6 w b (off+6) q.f∧WIn w d p∧WIn w d q:=by
 obtain ⟨_,h1,h2,h3⟩:=h
 refine ⟨h1.symm,?_⟩
 rcases h2 with h2 | ⟨b,off,ha,hc⟩
 ·cases h2
 ·have c0:=hc 0 p rfl
  have c1:=hc 1 q rfl
  simp only [Nat.zero_mul,Nat.add_zero,Nat.one_mul] at c0 c1
  exact ⟨b,off,ha,iU c0.1,c0,c1,h3 p (by simp),h3 q (by simp)⟩
theorem WIn.at_ {w:World} {d:Nat} {x:WV} (h:WIn w d x):x.f.At w:=by
 match d,x,h with
 | d+1,.mk f ps,h=>exact h.1
end
section
open Go.RowKit
def pH (blk:Nat):WF:=⟨false,0,0,none,0,0,[],none,0,0,[],some ⟨blk,0,none⟩,2,2⟩
def rA:WF:=⟨true,0,0,none,0,0,[],none,0,0,[],none,0,0⟩
set_option maxHeartbeats 2000000 in
theorem Kf (f g:WF) (w:World) :
  Calls prog 77 #[f.val,g.val] w fun e w'=>∃ blk,e = .returned (pH blk).val∧W6 w' blk 0 f∧W6 w' blk 6 g∧w.heap.size≤blk∧Below w.heap.size w w':=by
 obtain ⟨z,c,g0,ra,rl,rc,rows,ca,cl,cc,cells,pa,pl,pc⟩:=f
 obtain ⟨z2,c2,g2,ra2,rl2,rc2,rows2,ca2,cl2,cc2,cells2,pa2,pl2,pc2⟩:=g
 show Calls prog 77 #[.agg #[.bool z,.int .i64 c,.int .u64 (g0:Int),.slice ra rl rc,.slice ca cl cc,.slice pa pl pc],.agg #[.bool z2,.int .i64 c2,.int .u64 (g2:Int),.slice ra2 rl2 rc2,.slice ca2 cl2 cc2,.slice pa2 pl2 pc2]] w _
 obtain ⟨W2,hW2⟩:∃ W,(w.alloc (.cells #[.bool z,.int .i64 c,.int .u64 (g0:Int),.slice ra rl rc,.slice ca cl cc,.slice pa pl pc] 53)).alloc (.cells #[.bool z2,.int .i64 c2,.int .u64 (g2:Int),.slice ra2 rl2 rc2,.slice ca2 cl2 cc2,.slice pa2 pl2 pc2] 53)=W:=⟨_,rfl⟩
 have hs2:W2.heap.size=w.heap.size+1+1:=by rw [← hW2];simp
 have B2:Below w.heap.size w W2:=by rw [← hW2];exact L0 _ _ _ _ _
 obtain ⟨t0,t1⟩:=lQ W2 #[.bool false,.int .i64 0,.int .u64 0,.slice none 0 0,.slice none 0 0,.slice (some ⟨w.heap.size+1+1+1,0,none⟩) 2 2] #[.bool z,.int .i64 c,.int .u64 (g0:Int),.slice ra rl rc,.slice ca cl cc,.slice pa pl pc,.bool z2,.int .i64 c2,.int .u64 (g2:Int),.slice ra2 rl2 rc2,.slice ca2 cl2 cc2,.slice pa2 pl2 pc2] 53 53
 have B4:Below w.heap.size w ((W2.alloc (.cells #[.bool false,.int .i64 0,.int .u64 0,.slice none 0 0,.slice none 0 0,.slice (some ⟨w.heap.size+1+1+1,0,none⟩) 2 2] 53)).alloc (.cells #[.bool z,.int .i64 c,.int .u64 (g0:Int),.slice ra rl rc,.slice ca cl cc,.slice pa pl pc,.bool z2,.int .i64 c2,.int .u64 (g2:Int),.slice ra2 rl2 rc2,.slice ca2 cl2 cc2,.slice pa2 pl2 pc2] 53)):=B2.trans ((L0 _ _ _ _ _).mono B2.size)
 rw [hs2] at t0 t1
 obtain ⟨s0,s1,s2,s3,s4,s5⟩:=eU t0
 have T1:=Lib.hid t1
 have HB4:=Lib.hid B4
 clear t0 t1 B2 B4 hs2
 subst hW2
 go_enter func77,ntmps77
 go_wp2_with fail
 refine bodyPost_ret (v:=.agg #[.bool false,.int .i64 0,.int .u64 0,.slice none 0 0,.slice none 0 0,.slice (some ⟨w.heap.size+1+1+1,0,none⟩) 2 2]) ?_ rfl ?_
 rotate_left
 ·exact ⟨w.heap.size+1+1+1,rfl,⟨iG T1.out rfl,iG T1.out rfl,iG T1.out rfl,iG T1.out rfl,iG T1.out rfl,iG T1.out rfl⟩,⟨iG T1.out rfl,iG T1.out rfl,iG T1.out rfl,iG T1.out rfl,iG T1.out rfl,iG T1.out rfl⟩,by omega,HB4.out⟩
 simp [results,results77,go_sem,s0,s1,s2,s3,s4,s5]
set_option maxHeartbeats 2000000 in
theorem vC (t n:Int) (a:Option Addr) (l c0:Nat) (ht:t≠5) (w:World) :
  Calls prog 58 #[.agg #[.int .i64 t,.int .i64 n,.slice a l c0]] w fun e w'=>e = .returned rA.val∧Below w.heap.size w w':=by
 have e5:(t == 5)=false:=by simp [ht]
 clear ht
 obtain ⟨t0,t1⟩:=lQ w #[.int .i64 t,.int .i64 n,.slice a l c0] #[.bool true,.int .i64 0,.int .u64 0,.slice none 0 0,.slice none 0 0,.slice none 0 0] 25 53
 obtain ⟨s0,s1,s2,s3,s4,s5⟩:=eU t1
 clear t0 t1
 go_enter func58,ntmps58
 go_wp2_with fail
 refine bodyPost_ret (v:=.agg #[.bool true,.int .i64 0,.int .u64 0,.slice none 0 0,.slice none 0 0,.slice none 0 0]) ?_ rfl ⟨rfl,L0 _ _ _ _ _⟩
 simp [results,results58,go_sem,s0,s1,s2,s3,s4,s5]
theorem wE {t n:Int} {l:Nat} (h:cA t n l=true):t≠5:=by
 rintro rfl;simp [cA] at h
set_option maxHeartbeats 2000000 in
theorem uL (d:Nat) (s:SV) (e0:Int) (w:World) (hs:SIn w d s) (he:eI s=e0) :
  Calls prog 42 #[s.f.val] w fun e w'=>e = .returned (.int .i64 e0)∧Below w.heap.size w w':=by
 match d,s,hs with
 | d+1,.mk ⟨t,n,a,l,c⟩ ps,hs =>
 show Calls prog 42 #[.agg #[.int .i64 t,.int .i64 n,.slice a l c]] w _
 have hl:ps.length=l:=hs.1
 by_cases ht:t=5
 ·subst ht
  have hB:=Lib.hid (zF w #[.int .i64 5,.int .i64 n,.slice a l c] 25)
  have BX:=Lib.hid (dG w (.cells #[.int .i64 5,.int .i64 n,.slice a l c] 25))
  have hpl:cA 5 n l=false:=by simp [cA]
  by_cases h0:n=0∧l=2
  ·obtain ⟨rfl,rfl⟩:=h0
   obtain ⟨p,q,rfl⟩:=rE hl
   obtain ⟨_,b,off,ha,hb,hp,hq,_,_⟩:=hs.two
   obtain rfl:a=some ⟨b,off,none⟩:=ha
   obtain ⟨⟨pt,pn,pa,pl,pc⟩,pps⟩:=p
   obtain ⟨⟨qt,qn,qa,ql,qc⟩,qps⟩:=q
   have HP:=Lib.hid (hp.below hB.out);have HQ:=Lib.hid (hq.below hB.out)
   obtain ⟨r1,hr1⟩:∃ r,cA pt pn pl=r:=⟨_,rfl⟩
   obtain ⟨r2,hr2⟩:∃ r,cA qt qn ql=r:=⟨_,rfl⟩
   have HR1:=Lib.hid hr1;have HR2:=Lib.hid hr2
   have HE:Hid ((if r1=true∧r2=true then (0:Int) else 50)=e0):=by
    show _=_
    rw [← he];simp [eI,hpl,SV.pl,SV.f,hr1,hr2]
   obtain ⟨W0,hW0⟩:∃ W,w.alloc (.cells #[.int .i64 5,.int .i64 0,.slice (some ⟨b,off,none⟩) 2 c] 25)=W:=⟨_,rfl⟩
   rw [hW0] at BX HP HQ hB
   clear hs hl hp hq hr1 hr2 he hpl
   have NX:∀ W:World,Below W0.heap.size W0 W→Hid (W.cell? ⟨w.heap.size,0,none⟩=some (.int .i64 5)∧W.cell? ⟨w.heap.size,1,none⟩=some (.int .i64 0)∧W.cell? ⟨w.heap.size,2,none⟩=some (.slice (some ⟨b,off,none⟩) 2 c)):=fun _ h=>fX (cG BX.out h)
   have NNX:=Lib.hid NX
   clear NX
   obtain ⟨z0,z1,z2⟩:=(NNX.out _ (Below.refl _ _)).out
   go_enter func42,ntmps42
   go_wp2_with fail
   clear z0 z1 z2
   go_loopw [3,4] (fun o i wr=>Below W0.heap.size W0 wr∧((i = .int .i64 0∧o = .bool true)∨(i = .int .i64 1∧o = .bool r1)∨(i = .int .i64 2∧r1=true∧o = .bool r2))) (fun _ i _=>2 - (intOf i).toNat)
   case atStart=>exact ⟨Below.refl _ _,.inl ⟨rfl,rfl⟩⟩
   case round =>
    obtain ⟨hb1,hrel⟩:=hrel
    obtain ⟨x0,x1,x2⟩:=(NNX.out _ hb1).out
    obtain ⟨y0,y1,y2⟩:=HP.out.below hb1
    obtain ⟨v0,v1,v2⟩:=HQ.out.below hb1
    dsimp only [SV.f] at y0 y1 y2 v0 v1 v2
    simp only [Nat.add_assoc,Nat.reduceAdd] at v1 v2
    rcases hrel with ⟨rfl,rfl⟩ | ⟨rfl,rfl⟩ | ⟨rfl,hr,rfl⟩
    ·by_cases hp5:pt=5
     ·subst hp5
      have HF:Hid (r1=false):=by show _=_;rw [← HR1.out];simp [cA]
      go_wp2_with fail
      go_roundw
      case rel=>exact ⟨hb1,.inr (.inl ⟨rfl,by rw [HF.out]⟩)⟩
      case measure=>simp [intOf]
     ·have hp6:(pt != 5)=true:=by simp [hp5]
      go_wp2_with fail
      refine (oR pt pn pa pl pc hp5 r1 HR1.out _).mono ?_
      rintro e w3 ⟨rfl,hb3⟩
      cases r1
      all_goals
       simp only [Bool.false_eq_true,if_false,if_true]
       go_wp2_with fail
       go_roundw
       case rel=>exact ⟨hb1.trans (hb3.mono hb1.size),.inr (.inl ⟨rfl,rfl⟩)⟩
       case measure=>simp [intOf]
    ·cases r1
     ·have HE2:Hid ((50:Int)=e0):=by show _=_;rw [← HE.out];simp
      go_wp2_with fail
      go_ret
      exact ⟨dR HE2.out,hB.out.trans (hb1.mono hB.out.size)⟩
     ·by_cases hp5:qt=5
      ·subst hp5
       have HF:Hid (r2=false):=by show _=_;rw [← HR2.out];simp [cA]
       go_wp2_with fail
       go_roundw
       case rel=>exact ⟨hb1,.inr (.inr ⟨by first | rfl | trivial,by first | rfl | trivial,by first | rfl | (rw [HF.out])⟩)⟩
       case measure=>simp [intOf]
      ·have hp6:(qt != 5)=true:=by simp [hp5]
       go_wp2_with fail
       refine (oR qt qn qa ql qc hp5 r2 HR2.out _).mono ?_
       rintro e w3 ⟨rfl,hb3⟩
       cases r2
       all_goals
        simp only [Bool.false_eq_true,if_false,if_true]
        go_wp2_with fail
        go_roundw
        case rel=>exact ⟨hb1.trans (hb3.mono hb1.size),.inr (.inr ⟨by first | rfl | trivial,by first | rfl | trivial,by first | rfl | trivial⟩)⟩
        case measure=>simp [intOf]
    ·have HE2:Hid ((if r2=true then (0:Int) else 50)=e0):=by show _=_;rw [← HE.out,hr];simp
     cases r2
     all_goals
      go_wp2_with fail
      go_ret
      exact ⟨dR HE2.out,hB.out.trans (hb1.mono hB.out.size)⟩
  ·have HE:Hid ((50:Int)=e0):=by
    show _=_
    rw [← he,eI,hpl,if_neg (by simp),if_neg]
    rintro ⟨_,h1,h2,_⟩
    exact h0 ⟨h1,by omega⟩
   obtain ⟨W0,hW0⟩:∃ W,w.alloc (.cells #[.int .i64 5,.int .i64 n,.slice a l c] 25)=W:=⟨_,rfl⟩
   rw [hW0] at BX hB
   obtain ⟨x0,x1,x2⟩:=fX BX.out
   clear hs hl he hpl
   have hc:(n=0∧((n == 0)=true)∧((l:Int) == 2)=false)∨((n == 0)=false):=by
    by_cases hn:n=0
    ·exact .inl ⟨hn,by simp [hn],by simp;omega⟩
    ·exact .inr (by simp [hn])
   clear h0
   rcases hc with ⟨rfl,c1,c2⟩ | c1
   all_goals
    go_enter func42,ntmps42
    go_wp2_with fail
    go_loopw [3,4] (fun o i wr=>i = .int .i64 0∧o = .bool false∧W0=wr) (fun _ i _=>0)
    case atStart=>exact ⟨rfl,rfl,rfl⟩
    case round =>
     obtain ⟨rfl,rfl,rfl⟩:=hrel
     by_cases hl0:0 < l
     ·have g1:(0:Int) < (l:Int):=by omega
      go_wp2_with fail
      go_ret
      exact ⟨dR HE.out,hB.out⟩
     ·obtain rfl:l=0:=by omega
      go_wp2_with fail
      go_ret
      exact ⟨dR HE.out,hB.out⟩
 ·obtain ⟨r,hr⟩:∃ r,cA t n l=r:=⟨_,rfl⟩
  refine (oR t n a l c ht r hr w).mono ?_
  rintro e w1 ⟨rfl,hb⟩
  refine ⟨?_,hb⟩
  rw [← he,Eo ht,hr]
theorem eB {w:World} {B:Nat} {cs:Array Value} {T:TypeId} (h:w.heap[B]?=some (.cells cs T (0,0))) (j:Nat):w.frozen? ⟨B,j,none⟩=false:=by
 unfold World.frozen?;simp [h]
theorem Kg {w:World} {B:Nat} {a b c d e f v0 v1 v2 v3 v4 v5:Value} {T:TypeId} (h:w.heap[B]?=some (.cells #[a,b,c,d,e,f] T (0,0))) :
  ((((((w.setCell ⟨B,0,none⟩ v0).setCell ⟨B,1,none⟩ v1).setCell ⟨B,2,none⟩ v2).setCell ⟨B,3,none⟩ v3).setCell ⟨B,4,none⟩ v4).setCell ⟨B,5,none⟩ v5).heap[B]?=some (.cells #[v0,v1,v2,v3,v4,v5] T (0,0)) :=
 heap_setCell_same _ B 5 _ _ _ (heap_setCell_same _ B 4 _ _ _ (heap_setCell_same _ B 3 _ _ _ (heap_setCell_same _ B 2 _ _ _ (heap_setCell_same _ B 1 _ _ _ (heap_setCell_same w B 0 _ _ _ h)))))
theorem xP {n:Nat} {w0 w:World} {B:Nat} (v0 v1 v2 v3 v4 v5:Value) (h:Below n w0 w) (hB:n≤B) :
  Below n w0 ((((((w.setCell ⟨B,0,none⟩ v0).setCell ⟨B,1,none⟩ v1).setCell ⟨B,2,none⟩ v2).setCell ⟨B,3,none⟩ v3).setCell ⟨B,4,none⟩ v4).setCell ⟨B,5,none⟩ v5) :=
 (((((h.setCell (p:=⟨B,0,none⟩) hB _).setCell (p:=⟨B,1,none⟩) hB _).setCell (p:=⟨B,2,none⟩) hB _).setCell (p:=⟨B,3,none⟩) hB _).setCell (p:=⟨B,4,none⟩) hB _).setCell (p:=⟨B,5,none⟩) hB _
def jF (n:Nat) (w w':World):Prop:=∀ k,n≤k→w'.heap[k]?=w.heap[k]?
theorem jF.refl (n:Nat) (w:World):jF n w w:=fun _ _=>rfl
theorem jF.setCell {n:Nat} {a w:World} (h:jF n a w) {p:Addr} (hp:p.block < n) (u:Value):jF n a (w.setCell p u):=fun k hk=>(Below.heap_setCell _ _ _ _ (by omega)).trans (h k hk)
theorem jF.cell {n:Nat} {w w':World} (h:jF n w w') {p:Addr} (hp:n≤p.block):w'.cell? p=w.cell? p:=World.cell?_of_block (w:=w) (h p.block hp)
theorem rQ {n:Nat} {w0 w:World} {B:Nat} (v0 v1 v2 v3 v4 v5:Value) (h:jF n w0 w) (hB:B < n) :
  jF n w0 ((((((w.setCell ⟨B,0,none⟩ v0).setCell ⟨B,1,none⟩ v1).setCell ⟨B,2,none⟩ v2).setCell ⟨B,3,none⟩ v3).setCell ⟨B,4,none⟩ v4).setCell ⟨B,5,none⟩ v5) :=
 (((((h.setCell (p:=⟨B,0,none⟩) hB _).setCell (p:=⟨B,1,none⟩) hB _).setCell (p:=⟨B,2,none⟩) hB _).setCell (p:=⟨B,3,none⟩) hB _).setCell (p:=⟨B,4,none⟩) hB _).setCell (p:=⟨B,5,none⟩) hB _
theorem fP.above {w w':World} {n:Nat} {a:Option Addr} {vs:List Value} (h:fP w a vs) (hn:∀ ad,a=some ad→n≤ad.block) (hb:jF n w w'):fP w' a vs:=by
 rcases h with h | ⟨b,off,rfl,hc⟩
 ·exact .inl h
 ·exact .inr ⟨b,off,rfl,fun i v hi=>(hb.cell (p:=⟨b,off+i,none⟩) (hn ⟨b,off,none⟩ rfl)).trans (hc i v hi)⟩
theorem fN.above {w w':World} {n:Nat} {a:Option Addr} {cs:List Cl} (h:fN w a cs) (hn:∀ ad,a=some ad→n≤ad.block) (hb:jF n w w'):fN w' a cs:=by
 rcases h with h | ⟨b,off,rfl,hc⟩
 ·exact .inl h
 ·exact .inr ⟨b,off,rfl,fun i v hi=>⟨(hb.cell (p:=⟨b,off+i * 3,none⟩) (hn ⟨b,off,none⟩ rfl)).trans (hc i v hi).1,(hb.cell (p:=⟨b,off+i * 3+1,none⟩) (hn ⟨b,off,none⟩ rfl)).trans (hc i v hi).2.1,(hb.cell (p:=⟨b,off+i * 3+2,none⟩) (hn ⟨b,off,none⟩ rfl)).trans (hc i v hi).2.2⟩⟩
theorem W6.above {w w':World} {n b o:Nat} {f:WF} (h:W6 w b o f) (hn:n≤b) (hb:jF n w w'):W6 w' b o f :=
 ⟨(hb.cell hn).trans h.1,(hb.cell hn).trans h.2.1,(hb.cell hn).trans h.2.2.1,(hb.cell hn).trans h.2.2.2.1,(hb.cell hn).trans h.2.2.2.2.1,(hb.cell hn).trans h.2.2.2.2.2⟩
structure PNew (n:Nat) (w:World) (t d:Int) (f:WF) (a:PF):Prop where
 is:PIs w t d f a
 ra:∀ ad,f.ra=some ad→n≤ad.block
 ca:∀ ad,f.ca=some ad→n≤ad.block
theorem PNew.below {n:Nat} {w w':World} {t d:Int} {f:WF} {a:PF} (h:PNew n w t d f a) (hb:Below w.heap.size w w'):PNew n w' t d f a:=⟨h.is.below hb,h.ra,h.ca⟩
theorem PNew.mono {n m:Nat} {w:World} {t d:Int} {f:WF} {a:PF} (h:PNew n w t d f a) (hm:m≤n):PNew m w t d f a:=⟨h.is,fun ad e=>Nat.le_trans hm (h.ra ad e),fun ad e=>Nat.le_trans hm (h.ca ad e)⟩
def jM (n:Nat) (w:World):PS→WF→PX→Prop
 | .one t d,f,.one a=>PNew n w t d f a
 | .two t d u m,f,.two a b=>f.pf=pC 0∧f.rl=0∧f.cl=0∧f.pl=2∧∃ blk g h,f.pa=some ⟨blk,0,none⟩∧n≤blk∧W6 w blk 0 g∧W6 w blk 6 h∧PNew n w t d g a∧PNew n w u m h b
 | _,_,_=>False
theorem jM.is {n:Nat} {w:World} {S:PS} {f:WF} {x:PX} (h:jM n w S f x):XIs w S f x:=by
 cases S<;>cases x<;>first | exact h.elim | exact PNew.is h | skip
 obtain ⟨h1,h2,h3,h4,blk,g,k,h5,_,h6,h7,h8,h9⟩:=h
 exact ⟨h1,h2,h3,h4,blk,0,g,k,h5,h6,by simpa using h7,h8.is,h9.is⟩
theorem jM.below {n:Nat} {w w':World} {S:PS} {f:WF} {x:PX} (h:jM n w S f x) (hb:Below w.heap.size w w'):jM n w' S f x:=by
 cases S<;>cases x<;>first | exact h.elim | exact PNew.below h hb | skip
 obtain ⟨h1,h2,h3,h4,blk,g,k,h5,h0,h6,h7,h8,h9⟩:=h
 exact ⟨h1,h2,h3,h4,blk,g,k,h5,h0,h6.below hb,h7.below hb,h8.below hb,h9.below hb⟩
theorem jM.mono {n m:Nat} {w:World} {S:PS} {f:WF} {x:PX} (h:jM n w S f x) (hm:m≤n):jM m w S f x:=by
 cases S<;>cases x<;>first | exact h.elim | exact PNew.mono h hm | skip
 obtain ⟨h1,h2,h3,h4,blk,g,k,h5,h0,h6,h7,h8,h9⟩:=h
 exact ⟨h1,h2,h3,h4,blk,g,k,h5,Nat.le_trans hm h0,h6,h7,h8.mono hm,h9.mono hm⟩
def gO (S:PS) (x:PX) (w:World) (e:Ending) (w':World):Prop:=∃ f:WF,e = .returned f.val∧jM w.heap.size w' S f x∧Below w.heap.size w w'
theorem nG (n:Nat) (w:World) (t d:Int):PNew n w t d rA eW :=
 ⟨⟨⟨.inl rfl,rfl,by decide,(fun r hr=>by cases hr),.inl rfl,rfl,(fun c hc=>by cases hc),by decide⟩,rfl,.zero,rfl⟩,(fun ad e=>by cases e),(fun ad e=>by cases e)⟩
theorem xQ {n:Nat} {w:World} {t d u m:Int} {blk:Nat} {g h:WF} {a b:PF} (h6:W6 w blk 0 g) (h7:W6 w blk 6 h) (hn:n≤blk) (ha:PNew n w t d g a) (hb:PNew n w u m h b):jM n w (.two t d u m) (pH blk) (.two a b) :=
 ⟨rfl,rfl,rfl,rfl,blk,g,h,rfl,hn,h6,h7,ha,hb⟩
theorem jG {k:IntKind} {a b:Int} (h:a=b):Ending.returned (.int k a) = .returned (.int k b):=by rw [h]
def Row (w:World) (a:Option Addr) (zs:List Int):Prop :=
 zs=[]∨∃ b off,a=some ⟨b,off,none⟩∧∀ i,i < zs.length→w.cell? ⟨b,off+i,none⟩=some (.int .i64 (zs.getD i 0))
def okc (limit c:Int):Bool:=decide (-1≤c) && decide (c≤limit)
def chk (limit:Int) (zs:List Int):Int:=if limit < 0∨1048576 < limit then 20 else if zs.all (okc limit) then 0 else 21
def gP (a b:Int):Int:=if a = -1 then b else if b = -1 then a else min a b
def jN (limit a b:Int):Int:=if a = -1∨b = -1 then -1 else min (a+b) limit
theorem Ic (a b:Int) (w:World):Calls prog 106 #[.int .i64 a,.int .i64 b] w fun e w'=>e = .returned (.int .i64 (gP a b))∧w=w':=by
 by_cases ha:a = -1
 ·have h1:(a == -1)=true:=by simp [ha]
  have e1:gP a b=b:=by simp [gP,ha]
  have H:=Lib.hid e1;clear e1 ha
  go_enter func106,ntmps106
  go_wp2
  go_ret
  exact ⟨jG H.out.symm,rfl⟩
 ·have h1:(a == -1)=false:=by simp [ha]
  by_cases hb:b = -1
  ·have h2:(b == -1)=true:=by simp [hb]
   have e1:gP a b=a:=by simp [gP,ha,hb]
   have H:=Lib.hid e1;clear e1 ha hb
   go_enter func106,ntmps106
   go_wp2
   go_ret
   exact ⟨jG H.out.symm,rfl⟩
  ·have h2:(b == -1)=false:=by simp [hb]
   have e1:gP a b=min a b:=by simp [gP,ha,hb]
   have H:=Lib.hid e1;clear e1 ha hb
   go_enter func106,ntmps106
   go_wp2
   all_goals go_ret
   all_goals exact ⟨jG (by rw [H.out]<;>omega),rfl⟩
theorem Mp (l a b:Int) (w:World) (hs : -9223372036854775808≤a+b∧a+b≤9223372036854775807):Calls prog 121 #[.int .i64 l,.int .i64 a,.int .i64 b] w fun e w'=>e = .returned (.int .i64 (jN l a b))∧w=w':=by
 by_cases ha:a = -1
 ·have h1:(a == -1)=true:=by simp [ha]
  have e1:jN l a b = -1:=by simp [jN,ha]
  have H:=Lib.hid e1;clear e1 ha
  go_enter func121,ntmps121
  go_wp2
  go_ret
  exact ⟨jG H.out.symm,rfl⟩
 ·have h1:(a == -1)=false:=by simp [ha]
  by_cases hb:b = -1
  ·have h2:(b == -1)=true:=by simp [hb]
   have e1:jN l a b = -1:=by simp [jN,ha,hb]
   have H:=Lib.hid e1;clear e1 ha hb
   go_enter func121,ntmps121
   go_wp2
   go_ret
   exact ⟨jG H.out.symm,rfl⟩
  ·have h2:(b == -1)=false:=by simp [hb]
   have e1:jN l a b=min (a+b) l:=by simp [jN,ha,hb]
   have H:=Lib.hid e1;clear e1 ha hb
   obtain ⟨hs1,hs2⟩:=hs
   go_enter func121,ntmps121
   go_wp2
   all_goals go_ret
   all_goals exact ⟨jG (by rw [H.out]<;>omega),rfl⟩
theorem uM {p:Int→Bool} {zs:List Int} {k:Nat} {z:Int} (hk:k < zs.length) (hz:z=zs.getD k 0) (h:(zs.take k).all p=true) (hp:p z=true):(zs.take (k+1)).all p=true:=by
 rw [List.take_succ_eq_append_getElem hk,List.all_append,h]
 have:zs.getD k 0=zs[k]:=by simp [List.getD,hk]
 rw [this] at hz
 simp [← hz,hp]
theorem C2 {p:Int→Bool} {zs:List Int} {k:Nat} {z:Int} (hk:k < zs.length) (hz:z=zs.getD k 0) (hp:p z=false):zs.all p=false:=by
 have:zs.getD k 0=zs[k]:=by simp [List.getD,hk]
 rw [this] at hz
 rw [List.all_eq_false]
 exact ⟨zs[k],List.getElem_mem hk,by rw [← hz,hp];simp⟩
theorem Kh {limit:Int} {zs:List Int} {k:Nat} {z:Int} (h0:0≤limit) (h1:limit≤1048576) (hk:k < zs.length) (hz:z=zs.getD k 0) (hp:okc limit z=false):chk limit zs=21:=by
 unfold chk;rw [if_neg (by omega),C2 hk hz hp];rfl
theorem Px {limit:Int} {zs:List Int} {k:Nat} (h0:0≤limit) (h1:limit≤1048576) (hk:zs.length≤k) (h:(zs.take k).all (okc limit)=true):chk limit zs=0:=by
 rw [List.take_of_length_le hk] at h
 unfold chk;rw [if_neg (by omega),h];rfl
theorem okc_lo {l z:Int} (h:z < -1):okc l z=false:=by simp [okc];omega
theorem okc_hi {l z:Int} (h:l < z):okc l z=false:=by simp [okc];omega
theorem okc_in {l z:Int} (h : -1≤z) (h2:z≤l):okc l z=true:=by simp [okc];omega
set_option maxHeartbeats 400000 in
theorem lC (limit:Int) (a:Option Addr) (cap:Nat) (zs:List Int) (w:World) (hm:zs.length≤maxLen) (hrow:Row w a zs) :
  Calls prog 105 #[.int .i64 limit,.slice a zs.length cap] w fun e w'=>e = .returned (.int .i64 (chk limit zs))∧w=w':=by
 unfold maxLen at hm
 by_cases h0:limit < 0
 ·have e1:chk limit zs=20:=by simp [chk,h0]
  have H:=Lib.hid e1;clear e1
  go_enter func105,ntmps105
  go_wp2
  go_ret
  exact ⟨jG H.out.symm,rfl⟩
 by_cases h1:1048576 < limit
 ·have e1:chk limit zs=20:=by simp [chk,h1]
  have H:=Lib.hid e1;clear e1
  go_enter func105,ntmps105
  go_wp2
  go_ret
  exact ⟨jG H.out.symm,rfl⟩
 have h0':0≤limit:=by omega
 have h1':limit≤1048576:=by omega
 clear h0 h1
 go_enter func105,ntmps105
 go_wp2
 go_loop [15] (fun i=>∃ k:Nat,k≤zs.length∧i = .int .i64 k∧Hid ((zs.take k).all (okc limit)=true)) (fun i=>zs.length - (intOf i).toNat)
 case atStart=>exact ⟨0,Nat.zero_le _,rfl,by simp [Hid]⟩
 case round =>
  obtain ⟨k,hk,rfl,HA⟩:=hrel
  by_cases hlt:k < zs.length
  ·rcases hrow with h | ⟨b,off,rfl,hc⟩
   ·subst h;simp at hlt
   have hck:=hc k hlt
   obtain ⟨z,hz⟩:∃ z,z=zs.getD k 0:=⟨_,rfl⟩
   rw [← hz] at hck
   have HZ:=Lib.hid hz;clear hz hc
   by_cases h2:z < -1
   ·have H:=Lib.hid (Kh h0' h1' hlt HZ.out (okc_lo h2))
    go_wp2
    go_ret
    exact ⟨jG H.out.symm,rfl⟩
   by_cases h3:limit < z
   ·have H:=Lib.hid (Kh h0' h1' hlt HZ.out (okc_hi h3))
    go_wp2
    go_ret
    exact ⟨jG H.out.symm,rfl⟩
   have H:=Lib.hid (uM hlt HZ.out HA.out (okc_in (by omega) (by omega)))
   have h2' : -1≤z:=by omega
   have h3':z≤limit:=by omega
   clear h2 h3
   go_wp2
   go_round
   case rel=>exact ⟨k+1,by omega,by go_num,H⟩
   case measure=>simp [intOf];omega
  ·have H:=Lib.hid (Px h0' h1' (by omega) HA.out)
   go_wp2
   go_ret
   exact ⟨jG H.out.symm,rfl⟩
end
end Go.Proofs.YtofaiolkihcfmaaGreatDoor
