import Derived.Laws.OwnMore
import Derived.OwnWalk
import Derived.WalkSpells
import Derived.Lib.Join
import Derived.Deep.DrawnRows
import Derived.WideKeyEntry
import Derived.DeepKeys4
import Derived.Lib.AppendZeros
import Derived.Test.YtfnmjcgfagldkaaEmD
set_option maxRecDepth 100000
set_option maxHeartbeats 4000000
set_option linter.unusedVariables false
set_option linter.unusedSimpArgs false
set_option linter.unusedSectionVars false
set_option linter.unnecessarySimpa false
namespace Go.Proofs.Ytfnmjcgfagldkaa
open Go.Proofs.Try
section
open Go.RowKit
def uR (gen:Nat) (rows:List Nat) (err:Int) (w:World) (e:Ending) (w':World):Prop :=
 ∃ v,e = .returned (.tuple #[.agg #[.int .u64 (gen:Int),v],.int .i64 err])∧w'.ownsRow w.heap.size 52 1 v rows.length (fZ rows)∧Below w.heap.size w w'
theorem wH {w w':World} (err:Int) (hb:Below w.heap.size w w'):uR 0 [] err w (.returned (.tuple #[.agg #[.int .u64 0,.slice none 0 0],.int .i64 err])) w' :=
 ⟨_,rfl,World.ownsRow_nil _ _ _ _,hb⟩
theorem wI {w w':World} {gen n:Nat} {v:Value} {rows:List Nat} (h:w'.ownsRow w.heap.size 52 1 v n (fZ rows)) (hb:Below w.heap.size w w') (err:Int):uR gen rows err w (.returned (.tuple #[.agg #[.int .u64 (gen:Int),v],.int .i64 err])) w':=by
 have hn:n=rows.length:=by have:=h.1;rw [mN] at this;omega
 subst hn
 exact ⟨v,rfl,h,hb⟩
theorem uR.ret {gen:Nat} {rows:List Nat} {err:Int} {w w':World} {e:Ending} (h:uR gen rows err w e w'):Dk gen rows err w e w':=by
 obtain ⟨v,rfl,ho,hb⟩:=h
 exact jY (Nat.le_refl _) ho hb err
def dE (m:Nat):List Nat:=(List.range m).map fun i=>2 ^ i
theorem eL (m:Nat):(dE m).length=m:=by simp [dE]
theorem oT {m k:Nat} (h:k < m):(dE m)[k]?=some (2 ^ k):=by
 unfold dE
 rw [List.getElem?_map,List.getElem?_range h];rfl
def oneV (n:Int):List Nat:=if kT n=true then dE n.toNat else []
def nM (n:Int):Int:=if kT n=true then 0 else 31
set_option maxHeartbeats 2000000 in
theorem rA (n:Int) (w:World) (e0:Int) (he:nM n=e0) (ys:List Nat) (hys:oneV n=ys) :
  Calls prog 38 #[.int .i64 n] w (uR 0 ys e0 w):=by
 have hB0:Below w.heap.size w (w.alloc (.cells #[.int .u64 0,.slice none 0 0] 55)):=(Below.refl _ _).alloc (Nat.le_refl _) _
 have T0:=Lib.hid (fX w (.cells #[.int .u64 0,.slice none 0 0] 55))
 obtain ⟨i0,hi,hz0,hz1,hz2⟩:=info_parts infoU
 cases hd:kT n
 ·obtain rfl:31=e0:=by rw [← he,nM,hd];rfl
  obtain rfl:[]=ys:=by rw [← hys,oneV,hd];rfl
  obtain ⟨d0,d1,df⟩:=cE T0.out
  have f0:=df 0;have f1:=df 1
  have hx:n < 0∨64 < n:=by
   by_cases h:n < 0
   ·exact .inl h
   ·simp [kT,show 0≤n by omega] at hd;exact .inr hd
  clear df hd he hys
  rcases hx with hx | hx
  all_goals
   go_enter func38,ntmps38
   go_wp2
   refine bodyPost_ret (v:=.tuple #[.agg #[.int .u64 0,.slice none 0 0],.int .i64 31]) ?_ rfl (wH 31 hB0)
   simp [results,results38,go_sem,d0,d1]
 ·obtain ⟨m,rfl,hm⟩:=qZ hd
  obtain rfl:0=e0:=by rw [← he,nM,hd];rfl
  have HY:Hid (dE m=ys):=by show _=_;rw [← hys,oneV,hd,if_pos rfl,Int.toNat_natCast]
  have hm0:(0:Int)≤(m:Int):=by omega
  have hm64:(m:Int)≤64:=by omega
  clear hd he hys
  go_enter func38,ntmps38
  go_wp2_with (at_make;go_loud (refine wpList_make_full _ rfl (.tmp 13) (.tmp 13) 53 rfl w.heap.size 52 i0 _ 1 underlying53 hi hz0 hz1 .i64 .i64 (m:Int) (m:Int) m rfl rfl rfl rfl (by rw [hz2];omega) (by unfold maxLen;omega) hB0.size ?_;intro w2 hown2 hgrow2))
  have hbl:(w.alloc (.cells #[.int .u64 0,.slice none 0 0] 55)).heap.size=w.heap.size+1:=by simp
  have hzz:Hid (w2.ownsRow w.heap.size 52 1 (.slice (some ⟨w.heap.size+1,0,none⟩) m m) m (fZ (pO (dE m) (List.replicate m 0) 0))):=by
   rw [Bu,← hbl]
   have e:fZ (List.replicate m 0)=List.replicate m (.int .u64 0):=by simp [fZ]
   have e2:(madeCells (Value.int IntKind.u64 0).cells (m * 1)).toList=List.replicate m (.int .u64 0):=by
    rw [Nat.mul_one]
    apply List.ext_getElem
    ·simp [madeCells]
    ·intro i h1 h2
     simp [madeCells,Value.cells,Nat.mod_one]
   rw [e,← e2]
   exact hown2
  have U0:=Lib.hid ((hgrow2.block _ (Array.getElem?_eq_some_iff.1 T0.out).1 (by simp)).trans T0.out)
  have hB2:Below w.heap.size w w2:=hB0.grown hgrow2 hB0.size (fun j e=>by cases e)
  clear hown2
  go_wp2_with fail
  go_loopw [17] (fun i wr=>∃ k:Nat,k≤m∧i = .int .i64 k∧Hid (wr.ownsRow w.heap.size 52 1 (.slice (some ⟨w.heap.size+1,0,none⟩) m m) m (fZ (pO (dE m) (List.replicate m 0) k)))∧Hid (wr.heap[w.heap.size]?=some (.cells #[.int .u64 0,.slice none 0 0] 55 (0,0)))∧Below w.heap.size w wr) (fun i _=>m - (intOf i).toNat)
  case atStart=>exact ⟨0,Nat.zero_le _,rfl,hzz,U0,hB2⟩
  case round =>
   obtain ⟨k,hk,rfl,HO,HR,hb⟩:=hrel
   by_cases hlt:k < m
   ·have hsh:IntKind.u64.wrap ((2:Int) ^ k)=((2 ^ k:Nat):Int):=by
     have hpw:2 ^ k≤9223372036854775808:=jW (by omega)
     rw [IntKind.wrap_u64]
     have e:((2:Int) ^ k)=((2 ^ k:Nat):Int):=by simp
     rw [e]
     generalize 2 ^ k=q at *
     omega
    have hxk:(List.replicate m 0)[k]?=some 0:=by simp [hlt]
    have HM:=Lib.hid (Di (oT hlt) hxk)
    obtain ⟨q,hq⟩:∃ q:Nat,2 ^ k=q:=⟨_,rfl⟩
    rw [hq] at hsh HM
    have q0:=HO.out.frozenAt k
    have d0:=(HO.out.cellAt k (by omega)).trans (mR (mixL_at (by rw [eL];simp) hxk))
    have g0:(0:Int)≤(k:Int):=by omega
    have g3:(k:Int) < (m:Int):=by omega
    have HO2:Hid ((wr.setCell ⟨w.heap.size+1,k,none⟩ (.int .u64 (q:Int))).ownsRow w.heap.size 52 1 (.slice (some ⟨w.heap.size+1,0,none⟩) m m) m (fZ (pO (dE m) (List.replicate m 0) (k+1)))):=by
     rw [← HM.out,← mQ]
     exact (HO.out.stored k _).1
    have HR2:=Lib.hid (eU (B:=w.heap.size+1) (j:=k) (c:=.int .u64 (q:Int)) HR.out (by omega))
    have hb2:=hb.setCell (p:=⟨w.heap.size+1,k,none⟩) (by simp) (.int .u64 (q:Int))
    clear hxk hq
    go_wp2
    go_roundw
    case rel=>exact ⟨k+1,by omega,by go_num,HO2,HR2,hb2⟩
    case measure=>simp [intOf];omega
   ·obtain rfl:k=m:=by omega
    have HO2:Hid (wr.ownsRow w.heap.size 52 1 (.slice (some ⟨w.heap.size+1,0,none⟩) k k) k (fZ ys)):=by
     have:=HO.out
     have e:pO (dE k) (List.replicate k 0) k=dE k:=by
      have:=Dj (ys:=dE k) (xs:=List.replicate k 0) (by rw [eL];simp)
      simpa using this
     rwa [e,HY.out] at this
    obtain ⟨r0,r1,rf⟩:=cE HR.out
    have rf0:=rf 0;have rf1:=rf 1
    have N1:=Lib.hid (gH (c:=.slice (some ⟨w.heap.size+1,0,none⟩) k k) (fV (c:=.int .u64 0) HR.out))
    obtain ⟨s0,s1,_⟩:=cE N1.out
    have HO5:=Lib.hid ((HO2.out.kept (dG _ _ 0 (.int .u64 0)) (.inr (eH HR.out (by decide) HO2.out).symm)).kept (dG _ w.heap.size 1 (.slice (some ⟨w.heap.size+1,0,none⟩) k k)) (.inr (eH HR.out (by decide) HO2.out).symm))
    have HB5:=Lib.hid ((hb.setCell (p:=⟨w.heap.size,0,none⟩) (Nat.le_refl _) (.int .u64 0)).setCell (p:=⟨w.heap.size,1,none⟩) (Nat.le_refl _) (.slice (some ⟨w.heap.size+1,0,none⟩) k k))
    clear rf
    go_wp2
    refine bodyPost_ret (v:=.tuple #[.agg #[.int .u64 0,.slice (some ⟨w.heap.size+1,0,none⟩) k k],.int .i64 0]) ?_ rfl (wI (gen:=0) HO5.out HB5.out 0)
    simp [results,results38,go_sem,s0,s1]
theorem uS (n:Int) (w:World) (e0:Int) (he:nM n=e0) (ys:List Nat) (hys:oneV n=ys) :
  Calls prog 47 #[.int .i64 n] w (uR 0 ys e0 w):=by
 have hB0:Below w.heap.size w (w.alloc (.cells #[.int .u64 0,.slice none 0 0] 55)):=(Below.refl _ _).alloc (Nat.le_refl _) _
 have T0:=Lib.hid (fX w (.cells #[.int .u64 0,.slice none 0 0] 55))
 obtain ⟨i0,hi,hz0,hz1,hz2⟩:=info_parts infoU
 cases hd:kT n
 ·obtain rfl:31=e0:=by rw [← he,nM,hd];rfl
  obtain rfl:[]=ys:=by rw [← hys,oneV,hd];rfl
  have HD:=Lib.hid hd
  obtain ⟨d0,d1,df⟩:=cE T0.out
  have f0:=df 0;have f1:=df 1
  clear df hd he hys
  go_enter func47,ntmps47
  go_wp2_with fail
  refine (rW n false HD.out _).mono ?_
  rintro e w1 ⟨rfl,rfl⟩
  go_wp2
  refine bodyPost_ret (v:=.tuple #[.agg #[.int .u64 0,.slice none 0 0],.int .i64 31]) ?_ rfl (wH 31 hB0)
  simp [results,results47,go_sem,d0,d1]
 ·have HD:=Lib.hid hd
  obtain ⟨m,rfl,hm⟩:=qZ hd
  obtain rfl:0=e0:=by rw [← he,nM,hd];rfl
  have HY:Hid (dE m=ys):=by show _=_;rw [← hys,oneV,hd,if_pos rfl,Int.toNat_natCast]
  have HYL:Hid (ys.length=m):=by show _=_;rw [← HY.out,eL]
  clear hd he hys
  obtain ⟨t0,t1⟩:=tN w #[.int .u64 0,.slice none 0 0] #[.int .u64 0,.slice none 0 0] 55
  have A0:=Lib.hid t0;have A1:=Lib.hid t1
  clear t0 t1
  go_enter func47,ntmps47
  go_wp2_with fail
  refine (rW m true HD.out _).mono ?_
  rintro e w1 ⟨rfl,rfl⟩
  go_wp2_with fail
  go_loopw [5] (fun i wr=>∃ (k:Nat) (v:Value),k≤m∧i = .int .i64 k∧Hid (wr.heap[w.heap.size]?=some (.cells #[.int .u64 0,.slice none 0 0] 55 (0,0)))∧Hid (wr.heap[w.heap.size+1]?=some (.cells #[.int .u64 0,v] 55 (0,0)))∧Hid (wr.ownsRow w.heap.size 52 1 v k (fZ (ys.take k)))∧Below w.heap.size w wr) (fun i _=>m - (intOf i).toNat)
  case atStart=>exact ⟨0,.slice none 0 0,Nat.zero_le _,rfl,A0,A1,World.ownsRow_nil _ _ _ _,hB0.alloc (by simp) _⟩
  case round =>
   obtain ⟨k,v,hk,rfl,B1,B2,HO,hb⟩:=hrel
   obtain ⟨e0,e1,ef⟩:=cE B2.out
   have ef1:=ef 1
   by_cases hlt:k < m
   ·obtain ⟨y,hy⟩:∃ y:Nat,2 ^ k=y:=⟨_,rfl⟩
    have HYK:=Lib.hid hy
    have HT:Hid (ys.take (k+1)=ys.take k++[y]):=by
     show _=_
     have h2:ys[k]?=some y:=by rw [← HY.out,oT hlt,hy]
     obtain ⟨hk2,e⟩:=List.getElem?_eq_some_iff.1 h2
     rw [List.take_succ_eq_append_getElem hk2,e]
    have q1:(wr.alloc (.cells #[.int .u64 (y:Int)] 52)).cell? ⟨w.heap.size+1,1,none⟩=some v:=(cE (fN B2.out _)).2.1
    clear hy ef
    go_wp2_with fail
    go_region_law (first | (refine step_append_lies (wr.drew.alloc (.cells #[.int .u64 (y:Int)] 52)) ?_ (.tmp 17) (.tmp 20) 53 ?_ w.heap.size 52 i0 _ 1 8 underlying53 hi hz0 hz1 hz2 ?_ ?_ v k (fZ (ys.take k)) ?_ ?_ ⟨wr.heap.size,0,none⟩ 1 1 [.int .u64 (y:Int)] ?_ ?_ ?_ ?_ ?_ ?_ ?_ ?_ (wr.heap.size+1) ?_ ?_;rfl;rfl;rfl;omega;rfl;exact (HO.out:(wr.drew).ownsRow _ _ _ _ _ _).alloc _;rfl;rfl;exact (World.news_of_block (cs:=#[.int .u64 (y:Int)]) (t:=52) (fr:=(0,0)) (fX wr.drew _));simp [Value.oneCell'];omega;(unfold maxLen;omega);omega;(have:=hb.size;simp;omega);simp;intro gg cp w5 hown1 hgrow hat hlt5;have hB4:Below w.heap.size w w5:=(hb.drew.alloc hb.size _).grown hgrow (by have:=hb.size;simp;omega) (fun j e=>(HO.out.lt j e).1);have D1:=Lib.hid (rX (fN (w:=wr.drew) B1.out (.cells #[.int .u64 (y:Int)] 52)) (by decide) ((HO.out:(wr.drew).ownsRow _ _ _ _ _ _).alloc _) hgrow);have D2:=Lib.hid (rX (fN (w:=wr.drew) B2.out (.cells #[.int .u64 (y:Int)] 52)) (by decide) ((HO.out:(wr.drew).ownsRow _ _ _ _ _ _).alloc _) hgrow);obtain ⟨_,d1,df⟩:=cE D2.out;have df1:=df 1;clear df) | (go_simp;go_at_call 49;refine (jX k k y rfl HYK.out (by omega) _).mono ?_;rintro e w3 ⟨rfl,rfl⟩) | fail)
    all_goals
     have HO5:=Lib.hid (show (w5.setCell ⟨w.heap.size+1,1,none⟩ (.slice (some ⟨gg,0,none⟩) (k+1) cp)).ownsRow w.heap.size 52 1 (.slice (some ⟨gg,0,none⟩) (k+1) cp) (k+1) (fZ (ys.take (k+1))) by
      rw [HT.out,Br];exact hown1.kept (dG w5 _ _ _) (.inr (eH D2.out (by decide) hown1).symm))
     have N1:=Lib.hid (eU (B:=w.heap.size+1) (j:=1) (c:=.slice (some ⟨gg,0,none⟩) (k+1) cp) D1.out (by omega))
     have N2:=Lib.hid (gH (c:=.slice (some ⟨gg,0,none⟩) (k+1) cp) D2.out)
     have NB:=Lib.hid (hB4.setCell (p:=⟨w.heap.size+1,1,none⟩) (by simp) (.slice (some ⟨gg,0,none⟩) (k+1) cp))
     clear hown1 hgrow hat d1 df1 q1 e0 e1 ef1
     go_wp2
     go_roundw
     case rel=>exact ⟨k+1,_,by omega,by go_num,N1,N2,HO5,NB.out⟩
     case measure=>simp [intOf];omega
   ·obtain rfl:k=m:=by omega
    obtain ⟨r0,r1,rf⟩:=cE B1.out
    have rf0:=rf 0;have rf1:=rf 1
    have HO2:Hid (wr.ownsRow w.heap.size 52 1 v k (fZ ys)):=by
     have:=HO.out
     rwa [List.take_of_length_le (by rw [HYL.out];exact Nat.le_refl _)] at this
    obtain ⟨a3,cap3,hv3⟩:=pP HO2.out
    subst hv3
    have N1:=Lib.hid (gH (c:=.slice a3 k cap3) (fV (c:=.int .u64 0) B1.out))
    obtain ⟨s0,s1,_⟩:=cE N1.out
    have HO5:=Lib.hid ((HO2.out.kept (dG _ _ 0 (.int .u64 0)) (.inr (eH B1.out (by decide) HO2.out).symm)).kept (dG _ w.heap.size 1 (.slice a3 k cap3)) (.inr (eH B1.out (by decide) HO2.out).symm))
    have HB5:=Lib.hid ((hb.setCell (p:=⟨w.heap.size,0,none⟩) (Nat.le_refl _) (.int .u64 0)).setCell (p:=⟨w.heap.size,1,none⟩) (Nat.le_refl _) (.slice a3 k cap3))
    clear rf ef
    go_wp2
    refine bodyPost_ret (v:=.tuple #[.agg #[.int .u64 0,.slice a3 k cap3],.int .i64 0]) ?_ rfl (wI (gen:=0) HO5.out HB5.out 0)
    simp [results,results47,go_sem,s0,s1]
def oU (n x y:Int):Bool:=decide (0≤x) && (decide (x < n) && (decide (-2≤y) && decide (y < n)))
def qV (n x y:Int):Int:=if kT n=true then (if oU n x y=true then 0 else 5) else 31
def setG (n x y:Int):Nat:=if qV n x y=0∧y = -1 then 2 ^ x.toNat else 0
def sB (m i:Nat) (y:Int):List Nat:=if 0≤y then ((dE m).set i 0).set y.toNat ((((dE m).set i 0)[y.toNat]?).getD 0 ||| 2 ^ i) else (dE m).set i 0
def kJ (n x y:Int):List Nat:=if qV n x y=0 then sB n.toNat x.toNat y else []
theorem wJ (m i:Nat) (y:Int):(sB m i y).length=m:=by
 unfold sB
 split<;>simp [eL]
theorem qI {m i j x:Nat} (hm:m≤64) (h:((dE m).set i 0)[j]?=some x):x < 18446744073709551616:=by
 rw [List.getElem?_set] at h
 split at h
 ·split at h
  ·cases h;decide
  ·cases h
 ·unfold dE at h
  rw [List.getElem?_map] at h
  cases hr:(List.range m)[j]? with
  | none=>rw [hr] at h;cases h
  | some k =>
   rw [hr] at h
   have hk:k < m:=List.mem_range.1 (List.mem_of_getElem? hr)
   have hv:2 ^ k=x:=Option.some.inj h
   rw [← hv]
   exact Nat.lt_of_le_of_lt (jW (by omega)) (by decide)
set_option maxHeartbeats 2000000 in
theorem oV (n x y:Int) (w:World) (e0:Int) (he:qV n x y=e0) (g:Nat) (hg:setG n x y=g) (ys:List Nat) (hys:kJ n x y=ys) :
  Calls prog 39 #[.int .i64 n,.int .i64 x,.int .i64 y] w (Dk g ys e0 w):=by
 have hB0:Below w.heap.size w (w.alloc (.cells #[.int .u64 0,.slice none 0 0] 55)):=(Below.refl _ _).alloc (Nat.le_refl _) _
 have T0:=Lib.hid (fX w (.cells #[.int .u64 0,.slice none 0 0] 55))
 cases hd:kT n
 ·obtain rfl:31=e0:=by rw [← he,qV,hd];rfl
  obtain rfl:0=g:=by rw [← hg,setG,he];simp
  obtain rfl:[]=ys:=by rw [← hys,kJ,he];rfl
  have H1:Hid (nM n=31):=by show _=_;rw [nM,hd];rfl
  have H2:Hid (oneV n=[]):=by show _=_;rw [oneV,hd];rfl
  clear hd he hg hys
  go_enter func39,ntmps39
  go_wp2_with fail
  refine (rA n _ 31 H1.out [] H2.out).mono ?_
  rintro e w1 ⟨v,rfl,hown,hb1⟩
  obtain ⟨a5,cap5,hv5⟩:=pP hown
  subst hv5
  have hB1:=hB0.trans (hb1.mono hB0.size)
  have U0:=Lib.hid (fN (mO T0.out hb1) (.cells #[.int .u64 0,.slice a5 0 cap5] 55))
  obtain ⟨d0,d1,df⟩:=cE U0.out
  have f0:=df 0;have f1:=df 1
  have N1:=Lib.hid (gH (c:=.slice none 0 0) (fV (c:=.int .u64 0) U0.out))
  obtain ⟨s0,s1,_⟩:=cE N1.out
  clear df hown
  go_wp2
  refine bodyPost_ret (v:=.tuple #[.agg #[.int .u64 0,.slice none 0 0],.int .i64 31]) ?_ rfl (oS 31 (((hB1.alloc hB1.size _).setCell (p:=⟨w.heap.size,0,none⟩) (Nat.le_refl _) _).setCell (p:=⟨w.heap.size,1,none⟩) (Nat.le_refl _) _))
  simp [results,results39,go_sem,s0,s1]
 ·obtain ⟨m,rfl,hm⟩:=qZ hd
  have H1:Hid (nM m=0):=by show _=_;rw [nM,hd];rfl
  have H2:Hid (oneV m=dE m):=by show _=_;rw [oneV,hd,if_pos rfl,Int.toNat_natCast]
  have HL:Hid ((dE m).length=m):=eL m
  by_cases hok:oU m x y=true
  ·obtain rfl:0=e0:=by rw [← he,qV,hd,if_pos rfl,if_pos hok]
   have HV:Hid (sB m x.toNat y=ys):=by show _=_;rw [← hys,kJ,he,if_pos rfl,Int.toNat_natCast]
   have HG:Hid ((if y = -1 then 2 ^ x.toNat else 0)=g):=by show _=_;rw [← hg,setG,he];simp
   simp only [oU,Bool.and_eq_true,decide_eq_true_eq] at hok
   obtain ⟨x0,x1,y0,y1⟩:=hok
   obtain ⟨i,rfl⟩:∃ i:Nat,x=i:=⟨x.toNat,by omega⟩
   rw [Int.toNat_natCast] at HV HG
   have hi64:i < 64:=by omega
   have him:i < m:=by omega
   have hsh:IntKind.u64.wrap ((2:Int) ^ i)=((2 ^ i:Nat):Int):=by
    have hpw:2 ^ i≤9223372036854775808:=jW (by omega)
    rw [IntKind.wrap_u64]
    have e:((2:Int) ^ i)=((2 ^ i:Nat):Int):=by simp
    rw [e]
    generalize 2 ^ i=q at *
    omega
   have hq64:2 ^ i < 18446744073709551616:=Nat.lt_of_le_of_lt (jW (by omega)) (by decide)
   obtain ⟨q,hq⟩:∃ q:Nat,2 ^ i=q:=⟨_,rfl⟩
   have HQ:=Lib.hid hq
   rw [hq] at hsh hq64 HG
   obtain ⟨zs,hzs⟩:∃ zs,(dE m).set i 0=zs:=⟨_,rfl⟩
   have HZS:=Lib.hid hzs
   have HZL:Hid (zs.length=m):=by show _=_;rw [← hzs,List.length_set,eL]
   clear hd he hg hys hq hzs
   go_enter func39,ntmps39
   go_wp2_with fail
   refine (rA m _ 0 H1.out (dE m) H2.out).mono ?_
   rintro e w1 ⟨v,rfl,hown,hb1⟩
   rw [HL.out] at hown
   obtain ⟨gb,capg,hv,hbg,hgl⟩:=hown.form (show 0 < m by omega)
   subst hv
   have hB1:=hB0.trans (hb1.mono hB0.size)
   have hsz1:=hb1.size
   have hbg2:w.heap.size+1≤gb:=by simpa using hbg
   have HO1:=Lib.hid (hown.alloc (.cells #[.int .u64 0,.slice (some ⟨gb,0,none⟩) m capg] 55))
   have U0:=Lib.hid (fN (mO T0.out hb1) (.cells #[.int .u64 0,.slice (some ⟨gb,0,none⟩) m capg] 55))
   have U8:=Lib.hid (fX w1 (.cells #[.int .u64 0,.slice (some ⟨gb,0,none⟩) m capg] 55))
   have hB2:=hB1.alloc hB1.size (.cells #[.int .u64 0,.slice (some ⟨gb,0,none⟩) m capg] 55)
   have hw1:w.heap.size+1≤w1.heap.size:=by simpa using hsz1
   obtain ⟨W2,hW2⟩:∃ W2,w1.alloc (.cells #[.int .u64 0,.slice (some ⟨gb,0,none⟩) m capg] 55)=W2:=⟨_,rfl⟩
   rw [hW2] at HO1 U0 U8 hB2
   have hbs:(w.alloc (.cells #[.int .u64 0,.slice none 0 0] 55)).heap.size=w.heap.size+1:=by simp
   rw [hbs] at HO1
   clear hown
   -- the store at x
   have q0:=HO1.out.frozenAt i
   have d0:=(HO1.out.cellAt i (by omega)).trans (mR (oT him))
   have HO2:Hid ((W2.setCell ⟨gb,i,none⟩ (.int .u64 0)).ownsRow (w.heap.size+1) 52 1 (.slice (some ⟨gb,0,none⟩) m capg) m (fZ zs)):=by
    rw [← HZS.out,← mQ]
    exact (HO1.out.stored i _).1
   have V0:=Lib.hid (eU (B:=gb) (j:=i) (c:=.int .u64 0) U0.out (by omega))
   have V8:=Lib.hid (eU (B:=gb) (j:=i) (c:=.int .u64 0) U8.out (by omega))
   have hB3:=hB2.setCell (p:=⟨gb,i,none⟩) (by simp;omega) (.int .u64 0)
   obtain ⟨W3,hW3⟩:∃ W3,W2.setCell ⟨gb,i,none⟩ (.int .u64 0)=W3:=⟨_,rfl⟩
   rw [hW3] at HO2 V0 V8 hB3
   obtain ⟨c0,c1,_⟩:=cE U8.out
   obtain ⟨k0,k1,kf⟩:=cE V8.out
   obtain ⟨z0,z1,zf⟩:=cE V0.out
   have zf0:=zf 0;have zf1:=zf 1;have kf0:=kf 0
   have g0:(0:Int)≤(i:Int):=by omega
   have g1:(i:Int) < (m:Int):=by omega
   have hg8:∀ j,(⟨gb,j,none⟩:Addr).block≠w1.heap.size:=fun j=>by show gb≠_;exact fun e=>eH U8.out (by decide) HO1.out (by show some _=some gb;rw [e])
   by_cases hy0:0≤y
   ·obtain ⟨j,rfl⟩:∃ j:Nat,y=j:=⟨y.toNat,by omega⟩
    have hjm:j < m:=by omega
    obtain ⟨z,hz⟩:∃ z,zs[j]?=some z:=⟨zs[j]'(by rw [HZL.out];exact hjm),by simp [HZL.out,hjm]⟩
    have hz64:z < 18446744073709551616:=qI hm (i:=i) (j:=j) (by rw [HZS.out];exact hz)
    have hor:=u64_or_nat z q hz64 hq64
    obtain ⟨r,hr⟩:∃ r:Nat,z ||| q=r:=⟨_,rfl⟩
    rw [hr] at hor
    have HYS:Hid (zs.set j r=ys):=by
     show _=_
     rw [← HV.out,sB,if_pos (by omega),HZS.out,Int.toNat_natCast,hz,HQ.out,Option.getD_some,hr]
    obtain rfl:0=g:=by rw [← HG.out,if_neg (by omega)]
    have d3:=(HO2.out.cellAt j (by omega)).trans (mR hz)
    have q3:=HO2.out.frozenAt j
    have HO4:Hid ((W3.setCell ⟨gb,j,none⟩ (.int .u64 (r:Int))).ownsRow (w.heap.size+1) 52 1 (.slice (some ⟨gb,0,none⟩) m capg) m (fZ ys)):=by
     rw [← HYS.out,← mQ]
     exact (HO2.out.stored j _).1
    have X0:=Lib.hid (eU (B:=gb) (j:=j) (c:=.int .u64 (r:Int)) V0.out (by omega))
    have X8:=Lib.hid (eU (B:=gb) (j:=j) (c:=.int .u64 (r:Int)) V8.out (fun e=>hg8 0 e.symm))
    have hB4:=hB3.setCell (p:=⟨gb,j,none⟩) (by simp;omega) (.int .u64 (r:Int))
    obtain ⟨W4,hW4⟩:∃ W4,W3.setCell ⟨gb,j,none⟩ (.int .u64 (r:Int))=W4:=⟨_,rfl⟩
    rw [hW4] at HO4 X0 X8 hB4
    obtain ⟨l0,l1,_⟩:=cE X8.out
    obtain ⟨_,_,mf⟩:=cE X0.out
    have mf0:=mf 0;have mf1:=mf 1
    obtain ⟨m0,m1,_⟩:=cE X0.out
    have N1:=Lib.hid (gH (c:=.slice (some ⟨gb,0,none⟩) m capg) (fV (c:=.int .u64 0) X0.out))
    obtain ⟨s0,s1,_⟩:=cE N1.out
    have hw8:w.heap.size≠gb:=by omega
    have HO5:=Lib.hid ((HO4.out.kept (dG _ _ 0 (.int .u64 0)) (.inr (eH X0.out (by decide) HO4.out).symm)).kept (dG _ w.heap.size 1 (.slice (some ⟨gb,0,none⟩) m capg)) (.inr (eH X0.out (by decide) HO4.out).symm))
    have HB5:=Lib.hid ((hB4.setCell (p:=⟨w.heap.size,0,none⟩) (Nat.le_refl _) (.int .u64 0)).setCell (p:=⟨w.heap.size,1,none⟩) (Nat.le_refl _) (.slice (some ⟨gb,0,none⟩) m capg))
    have gj0:(0:Int)≤(j:Int):=by omega
    have gj1:(j:Int) < (m:Int):=by omega
    have gj2:((j:Int) == -1)=false:=by simp
    clear hz hr zf kf mf hg8 hw8
    go_wp2
    refine bodyPost_ret (v:=.tuple #[.agg #[.int .u64 0,.slice (some ⟨gb,0,none⟩) m capg],.int .i64 0]) ?_ rfl (jY (gen:=0) (by omega) HO5.out HB5.out 0)
    simp [results,results39,go_sem,s0,s1]
   ·have HYS:Hid (zs=ys):=by show _=_;rw [← HV.out,sB,if_neg hy0,HZS.out]
    rw [HYS.out] at HO2
    by_cases hy1:y = -1
    ·subst hy1
     obtain rfl:q=g:=by rw [← HG.out,if_pos rfl]
     have X0:=Lib.hid (eU (B:=w1.heap.size) (j:=0) (c:=.int .u64 (q:Int)) V0.out (by omega))
     have X8:=Lib.hid (fV (c:=.int .u64 (q:Int)) V8.out)
     have hB4:=hB3.setCell (p:=⟨w1.heap.size,0,none⟩) (by simp;omega) (.int .u64 (q:Int))
     have HO4:=Lib.hid (HO2.out.kept (dG _ w1.heap.size 0 (.int .u64 (q:Int))) (.inr (eH V8.out (by decide) HO2.out).symm))
     obtain ⟨W4,hW4⟩:∃ W4,W3.setCell ⟨w1.heap.size,0,none⟩ (.int .u64 (q:Int))=W4:=⟨_,rfl⟩
     rw [hW4] at HO4 X0 X8 hB4
     obtain ⟨l0,l1,_⟩:=cE X8.out
     obtain ⟨m0,m1,mf⟩:=cE X0.out
     have mf0:=mf 0;have mf1:=mf 1
     have N1:=Lib.hid (gH (c:=.slice (some ⟨gb,0,none⟩) m capg) (fV (c:=.int .u64 (q:Int)) X0.out))
     obtain ⟨s0,s1,_⟩:=cE N1.out
     have HO5:=Lib.hid ((HO4.out.kept (dG _ _ 0 (.int .u64 (q:Int))) (.inr (eH X0.out (by decide) HO4.out).symm)).kept (dG _ w.heap.size 1 (.slice (some ⟨gb,0,none⟩) m capg)) (.inr (eH X0.out (by decide) HO4.out).symm))
     have HB5:=Lib.hid ((hB4.setCell (p:=⟨w.heap.size,0,none⟩) (Nat.le_refl _) (.int .u64 (q:Int))).setCell (p:=⟨w.heap.size,1,none⟩) (Nat.le_refl _) (.slice (some ⟨gb,0,none⟩) m capg))
     clear zf kf mf hg8
     go_wp2
     refine bodyPost_ret (v:=.tuple #[.agg #[.int .u64 (q:Int),.slice (some ⟨gb,0,none⟩) m capg],.int .i64 0]) ?_ rfl (jY (by omega) HO5.out HB5.out 0)
     simp [results,results39,go_sem,s0,s1]
    ·obtain rfl:0=g:=by rw [← HG.out,if_neg hy1]
     have gj2:(y == -1)=false:=by simp [hy1]
     have N1:=Lib.hid (gH (c:=.slice (some ⟨gb,0,none⟩) m capg) (fV (c:=.int .u64 0) V0.out))
     obtain ⟨s0,s1,_⟩:=cE N1.out
     have HO5:=Lib.hid ((HO2.out.kept (dG _ _ 0 (.int .u64 0)) (.inr (eH V0.out (by decide) HO2.out).symm)).kept (dG _ w.heap.size 1 (.slice (some ⟨gb,0,none⟩) m capg)) (.inr (eH V0.out (by decide) HO2.out).symm))
     have HB5:=Lib.hid ((hB3.setCell (p:=⟨w.heap.size,0,none⟩) (Nat.le_refl _) (.int .u64 0)).setCell (p:=⟨w.heap.size,1,none⟩) (Nat.le_refl _) (.slice (some ⟨gb,0,none⟩) m capg))
     clear zf kf hg8 hy1
     go_wp2
     refine bodyPost_ret (v:=.tuple #[.agg #[.int .u64 0,.slice (some ⟨gb,0,none⟩) m capg],.int .i64 0]) ?_ rfl (jY (gen:=0) (by omega) HO5.out HB5.out 0)
     simp [results,results39,go_sem,s0,s1]
  ·obtain rfl:5=e0:=by rw [← he,qV,hd,if_pos rfl,if_neg hok]
   obtain rfl:0=g:=by rw [← hg,setG,he];simp
   obtain rfl:[]=ys:=by rw [← hys,kJ,he];rfl
   have hx:x < 0∨(0≤x∧(m:Int)≤x)∨(0≤x∧x < m∧y < -2)∨(0≤x∧x < m ∧ -2≤y∧(m:Int)≤y):=by
    simp [oU] at hok
    omega
   clear hok hd he hg hys
   rcases hx with hx | ⟨x0,hx⟩ | ⟨x0,x1,hx⟩ | ⟨x0,x1,y0,hx⟩
   all_goals
    go_enter func39,ntmps39
    go_wp2_with fail
    refine (rA m _ 0 H1.out (dE m) H2.out).mono ?_
    rintro e w1 ⟨v,rfl,hown,hb1⟩
    obtain ⟨a5,cap5,hv5⟩:=pP hown
    subst hv5
    have hB1:=hB0.trans (hb1.mono hB0.size)
    have U0:=Lib.hid (fN (mO T0.out hb1) (.cells #[.int .u64 0,.slice a5 (dE m).length cap5] 55))
    obtain ⟨d0,d1,df⟩:=cE U0.out
    have f0:=df 0;have f1:=df 1
    have N1:=Lib.hid (gH (c:=.slice none 0 0) (fV (c:=.int .u64 0) U0.out))
    obtain ⟨s0,s1,_⟩:=cE N1.out
    clear df hown
    go_wp2
    refine bodyPost_ret (v:=.tuple #[.agg #[.int .u64 0,.slice none 0 0],.int .i64 5]) ?_ rfl (oS 5 (((hB1.alloc hB1.size _).setCell (p:=⟨w.heap.size,0,none⟩) (Nat.le_refl _) _).setCell (p:=⟨w.heap.size,1,none⟩) (Nat.le_refl _) _))
    simp [results,results39,go_sem,s0,s1]
set_option maxHeartbeats 8000000 in
theorem oW (n x y:Int) (w:World) (e0:Int) (he:qV n x y=e0) (g:Nat) (hg:setG n x y=g) (ys:List Nat) (hys:kJ n x y=ys) :
  Calls prog 48 #[.int .i64 n,.int .i64 x,.int .i64 y] w (Dk g ys e0 w):=by
 have hB0:Below w.heap.size w (w.alloc (.cells #[.int .u64 0,.slice none 0 0] 55)):=(Below.refl _ _).alloc (Nat.le_refl _) _
 have T0:=Lib.hid (fX w (.cells #[.int .u64 0,.slice none 0 0] 55))
 cases hd:kT n
 ·obtain rfl:31=e0:=by rw [← he,qV,hd];rfl
  obtain rfl:0=g:=by rw [← hg,setG,he];simp
  obtain rfl:[]=ys:=by rw [← hys,kJ,he];rfl
  have H1:Hid (nM n=31):=by show _=_;rw [nM,hd];rfl
  have H2:Hid (oneV n=[]):=by show _=_;rw [oneV,hd];rfl
  have HD:=Lib.hid hd
  obtain ⟨d0,d1,df⟩:=cE T0.out
  have f0:=df 0;have f1:=df 1
  clear df hd he hg hys H1 H2
  go_enter func48,ntmps48
  go_wp2_with fail
  refine (rW n false HD.out _).mono ?_
  rintro e w1 ⟨rfl,rfl⟩
  go_wp2
  refine bodyPost_ret (v:=.tuple #[.agg #[.int .u64 0,.slice none 0 0],.int .i64 31]) ?_ rfl (oS 31 hB0)
  simp [results,results48,go_sem,d0,d1]
 ·have HD:=Lib.hid hd
  obtain ⟨m,rfl,hm⟩:=qZ hd
  have H1:Hid (nM m=0):=by show _=_;rw [nM,hd];rfl
  have H2:Hid (oneV m=dE m):=by show _=_;rw [oneV,hd,if_pos rfl,Int.toNat_natCast]
  have HL:Hid ((dE m).length=m):=eL m
  by_cases hok:oU m x y=true
  ·obtain rfl:0=e0:=by rw [← he,qV,hd,if_pos rfl,if_pos hok]
   have HV:Hid (sB m x.toNat y=ys):=by show _=_;rw [← hys,kJ,he,if_pos rfl,Int.toNat_natCast]
   have HG:Hid ((if y = -1 then 2 ^ x.toNat else 0)=g):=by show _=_;rw [← hg,setG,he];simp
   simp only [oU,Bool.and_eq_true,decide_eq_true_eq] at hok
   obtain ⟨x0,x1,y0,y1⟩:=hok
   obtain ⟨i,rfl⟩:∃ i:Nat,x=i:=⟨x.toNat,by omega⟩
   rw [Int.toNat_natCast] at HV HG
   have hi64:i < 64:=by omega
   have him:i < m:=by omega
   have hsh:IntKind.u64.wrap ((2:Int) ^ i)=((2 ^ i:Nat):Int):=by
    have hpw:2 ^ i≤9223372036854775808:=jW (by omega)
    rw [IntKind.wrap_u64]
    have e:((2:Int) ^ i)=((2 ^ i:Nat):Int):=by simp
    rw [e]
    generalize 2 ^ i=q at *
    omega
   have hq64:2 ^ i < 18446744073709551616:=Nat.lt_of_le_of_lt (jW (by omega)) (by decide)
   obtain ⟨q,hq⟩:∃ q:Nat,2 ^ i=q:=⟨_,rfl⟩
   have HQ:=Lib.hid hq
   rw [hq] at hsh hq64 HG
   obtain ⟨zs,hzs⟩:∃ zs,(dE m).set i 0=zs:=⟨_,rfl⟩
   have HZS:=Lib.hid hzs
   have HZL:Hid (zs.length=m):=by show _=_;rw [← hzs,List.length_set,eL]
   clear hd he hg hys hq hzs
   go_enter func48,ntmps48
   go_wp2_with fail
   refine (rW m true HD.out _).mono ?_
   rintro e w1 ⟨rfl,rfl⟩
   go_wp2_with fail
   refine (uS m _ 0 H1.out (dE m) H2.out).mono ?_
   rintro e w1 ⟨v,rfl,hown,hb1⟩
   rw [HL.out] at hown
   obtain ⟨gb,capg,hv,hbg,hgl⟩:=hown.form (show 0 < m by omega)
   subst hv
   have hB1:=hB0.trans (hb1.mono hB0.size)
   have hsz1:=hb1.size
   have hbg2:w.heap.size+1≤gb:=by simpa using hbg
   have HO1:=Lib.hid (hown.alloc (.cells #[.int .u64 0,.slice (some ⟨gb,0,none⟩) m capg] 55))
   have U0:=Lib.hid (fN (mO T0.out hb1) (.cells #[.int .u64 0,.slice (some ⟨gb,0,none⟩) m capg] 55))
   have U8:=Lib.hid (fX w1 (.cells #[.int .u64 0,.slice (some ⟨gb,0,none⟩) m capg] 55))
   have hB2:=hB1.alloc hB1.size (.cells #[.int .u64 0,.slice (some ⟨gb,0,none⟩) m capg] 55)
   have hw1:w.heap.size+1≤w1.heap.size:=by simpa using hsz1
   obtain ⟨W2,hW2⟩:∃ W2,w1.alloc (.cells #[.int .u64 0,.slice (some ⟨gb,0,none⟩) m capg] 55)=W2:=⟨_,rfl⟩
   rw [hW2] at HO1 U0 U8 hB2
   have hbs:(w.alloc (.cells #[.int .u64 0,.slice none 0 0] 55)).heap.size=w.heap.size+1:=by simp
   rw [hbs] at HO1
   clear hown
   -- the store at x
   have q0:=HO1.out.frozenAt i
   have d0:=(HO1.out.cellAt i (by omega)).trans (mR (oT him))
   have HO2:Hid ((W2.setCell ⟨gb,i,none⟩ (.int .u64 0)).ownsRow (w.heap.size+1) 52 1 (.slice (some ⟨gb,0,none⟩) m capg) m (fZ zs)):=by
    rw [← HZS.out,← mQ]
    exact (HO1.out.stored i _).1
   have V0:=Lib.hid (eU (B:=gb) (j:=i) (c:=.int .u64 0) U0.out (by omega))
   have V8:=Lib.hid (eU (B:=gb) (j:=i) (c:=.int .u64 0) U8.out (by omega))
   have hB3:=hB2.setCell (p:=⟨gb,i,none⟩) (by simp;omega) (.int .u64 0)
   obtain ⟨W3,hW3⟩:∃ W3,W2.setCell ⟨gb,i,none⟩ (.int .u64 0)=W3:=⟨_,rfl⟩
   rw [hW3] at HO2 V0 V8 hB3
   obtain ⟨c0,c1,_⟩:=cE U8.out
   obtain ⟨k0,k1,kf⟩:=cE V8.out
   obtain ⟨z0,z1,zf⟩:=cE V0.out
   have zf0:=zf 0;have zf1:=zf 1;have kf0:=kf 0
   have g0:(0:Int)≤(i:Int):=by omega
   have g1:(i:Int) < (m:Int):=by omega
   have hg8:∀ j,(⟨gb,j,none⟩:Addr).block≠w1.heap.size:=fun j=>by show gb≠_;exact fun e=>eH U8.out (by decide) HO1.out (by show some _=some gb;rw [e])
   by_cases hy0:0≤y
   ·obtain ⟨j,rfl⟩:∃ j:Nat,y=j:=⟨y.toNat,by omega⟩
    have hjm:j < m:=by omega
    obtain ⟨z,hz⟩:∃ z,zs[j]?=some z:=⟨zs[j]'(by rw [HZL.out];exact hjm),by simp [HZL.out,hjm]⟩
    have hz64:z < 18446744073709551616:=qI hm (i:=i) (j:=j) (by rw [HZS.out];exact hz)
    have hor:=u64_or_nat z q hz64 hq64
    obtain ⟨r,hr⟩:∃ r:Nat,z ||| q=r:=⟨_,rfl⟩
    rw [hr] at hor
    have HYS:Hid (zs.set j r=ys):=by
     show _=_
     rw [← HV.out,sB,if_pos (by omega),HZS.out,Int.toNat_natCast,hz,HQ.out,Option.getD_some,hr]
    obtain rfl:0=g:=by rw [← HG.out,if_neg (by omega)]
    have d3:=(HO2.out.cellAt j (by omega)).trans (mR hz)
    have q3:=HO2.out.frozenAt j
    have HO4:Hid ((W3.setCell ⟨gb,j,none⟩ (.int .u64 (r:Int))).ownsRow (w.heap.size+1) 52 1 (.slice (some ⟨gb,0,none⟩) m capg) m (fZ ys)):=by
     rw [← HYS.out,← mQ]
     exact (HO2.out.stored j _).1
    have X0:=Lib.hid (eU (B:=gb) (j:=j) (c:=.int .u64 (r:Int)) V0.out (by omega))
    have X8:=Lib.hid (eU (B:=gb) (j:=j) (c:=.int .u64 (r:Int)) V8.out (fun e=>hg8 0 e.symm))
    have hB4:=hB3.setCell (p:=⟨gb,j,none⟩) (by simp;omega) (.int .u64 (r:Int))
    obtain ⟨W4,hW4⟩:∃ W4,W3.setCell ⟨gb,j,none⟩ (.int .u64 (r:Int))=W4:=⟨_,rfl⟩
    rw [hW4] at HO4 X0 X8 hB4
    obtain ⟨l0,l1,_⟩:=cE X8.out
    obtain ⟨_,_,mf⟩:=cE X0.out
    have mf0:=mf 0;have mf1:=mf 1
    obtain ⟨m0,m1,_⟩:=cE X0.out
    have N1:=Lib.hid (gH (c:=.slice (some ⟨gb,0,none⟩) m capg) (fV (c:=.int .u64 0) X0.out))
    obtain ⟨s0,s1,_⟩:=cE N1.out
    have hw8:w.heap.size≠gb:=by omega
    have HO5:=Lib.hid ((HO4.out.kept (dG _ _ 0 (.int .u64 0)) (.inr (eH X0.out (by decide) HO4.out).symm)).kept (dG _ w.heap.size 1 (.slice (some ⟨gb,0,none⟩) m capg)) (.inr (eH X0.out (by decide) HO4.out).symm))
    have HB5:=Lib.hid ((hB4.setCell (p:=⟨w.heap.size,0,none⟩) (Nat.le_refl _) (.int .u64 0)).setCell (p:=⟨w.heap.size,1,none⟩) (Nat.le_refl _) (.slice (some ⟨gb,0,none⟩) m capg))
    have gj0:(0:Int)≤(j:Int):=by omega
    have gj1:(j:Int) < (m:Int):=by omega
    have gj2:((j:Int) == -1)=false:=by simp
    have HZQ:=Lib.hid hr
    clear hz hr zf kf mf hg8 hw8
    go_wp2_with fail
    go_region_with (first | (go_at_call 49;refine (jX i i q rfl HQ.out (by omega) _).mono ?_;rintro e w4 ⟨rfl,rfl⟩) | (go_at_call 58;refine (or_is z q r hz64 hq64 HZQ.out _).mono ?_;rintro e w4 ⟨rfl,rfl⟩))
    all_goals
     go_wp2
     refine bodyPost_ret (v:=.tuple #[.agg #[.int .u64 0,.slice (some ⟨gb,0,none⟩) m capg],.int .i64 0]) ?_ rfl (jY (gen:=0) (base:=w.heap.size+1) (by omega) (by exact HO5.out) (by first | exact HB5.out.drew | exact ((hB4.drew).setCell (p:=⟨w.heap.size,0,none⟩) (Nat.le_refl _) (.int .u64 0)).setCell (p:=⟨w.heap.size,1,none⟩) (Nat.le_refl _) (.slice (some ⟨gb,0,none⟩) m capg)) 0)
     simp [results,results48,go_sem,s0,s1]
   ·have HYS:Hid (zs=ys):=by show _=_;rw [← HV.out,sB,if_neg hy0,HZS.out]
    rw [HYS.out] at HO2
    by_cases hy1:y = -1
    ·subst hy1
     obtain rfl:q=g:=by rw [← HG.out,if_pos rfl]
     have X0:=Lib.hid (eU (B:=w1.heap.size) (j:=0) (c:=.int .u64 (q:Int)) V0.out (by omega))
     have X8:=Lib.hid (fV (c:=.int .u64 (q:Int)) V8.out)
     have hB4:=hB3.setCell (p:=⟨w1.heap.size,0,none⟩) (by simp;omega) (.int .u64 (q:Int))
     have HO4:=Lib.hid (HO2.out.kept (dG _ w1.heap.size 0 (.int .u64 (q:Int))) (.inr (eH V8.out (by decide) HO2.out).symm))
     obtain ⟨W4,hW4⟩:∃ W4,W3.setCell ⟨w1.heap.size,0,none⟩ (.int .u64 (q:Int))=W4:=⟨_,rfl⟩
     rw [hW4] at HO4 X0 X8 hB4
     obtain ⟨l0,l1,_⟩:=cE X8.out
     obtain ⟨m0,m1,mf⟩:=cE X0.out
     have mf0:=mf 0;have mf1:=mf 1
     have N1:=Lib.hid (gH (c:=.slice (some ⟨gb,0,none⟩) m capg) (fV (c:=.int .u64 (q:Int)) X0.out))
     obtain ⟨s0,s1,_⟩:=cE N1.out
     have HO5:=Lib.hid ((HO4.out.kept (dG _ _ 0 (.int .u64 (q:Int))) (.inr (eH X0.out (by decide) HO4.out).symm)).kept (dG _ w.heap.size 1 (.slice (some ⟨gb,0,none⟩) m capg)) (.inr (eH X0.out (by decide) HO4.out).symm))
     have HB5:=Lib.hid ((hB4.setCell (p:=⟨w.heap.size,0,none⟩) (Nat.le_refl _) (.int .u64 (q:Int))).setCell (p:=⟨w.heap.size,1,none⟩) (Nat.le_refl _) (.slice (some ⟨gb,0,none⟩) m capg))
     clear zf kf mf hg8
     go_wp2_with fail
     refine (jX i i q rfl HQ.out (by omega) _).mono ?_
     rintro e w4 ⟨rfl,rfl⟩
     go_wp2
     refine bodyPost_ret (v:=.tuple #[.agg #[.int .u64 (q:Int),.slice (some ⟨gb,0,none⟩) m capg],.int .i64 0]) ?_ rfl (jY (by omega) HO5.out HB5.out 0)
     simp [results,results48,go_sem,s0,s1]
    ·obtain rfl:0=g:=by rw [← HG.out,if_neg hy1]
     have gj2:(y == -1)=false:=by simp [hy1]
     have N1:=Lib.hid (gH (c:=.slice (some ⟨gb,0,none⟩) m capg) (fV (c:=.int .u64 0) V0.out))
     obtain ⟨s0,s1,_⟩:=cE N1.out
     have HO5:=Lib.hid ((HO2.out.kept (dG _ _ 0 (.int .u64 0)) (.inr (eH V0.out (by decide) HO2.out).symm)).kept (dG _ w.heap.size 1 (.slice (some ⟨gb,0,none⟩) m capg)) (.inr (eH V0.out (by decide) HO2.out).symm))
     have HB5:=Lib.hid ((hB3.setCell (p:=⟨w.heap.size,0,none⟩) (Nat.le_refl _) (.int .u64 0)).setCell (p:=⟨w.heap.size,1,none⟩) (Nat.le_refl _) (.slice (some ⟨gb,0,none⟩) m capg))
     clear zf kf hg8 hy1
     go_wp2
     refine bodyPost_ret (v:=.tuple #[.agg #[.int .u64 0,.slice (some ⟨gb,0,none⟩) m capg],.int .i64 0]) ?_ rfl (jY (gen:=0) (by omega) HO5.out HB5.out 0)
     simp [results,results48,go_sem,s0,s1]
  ·obtain rfl:5=e0:=by rw [← he,qV,hd,if_pos rfl,if_neg hok]
   obtain rfl:0=g:=by rw [← hg,setG,he];simp
   obtain rfl:[]=ys:=by rw [← hys,kJ,he];rfl
   have hx:x < 0∨(0≤x∧(m:Int)≤x)∨(0≤x∧x < m∧y < -2)∨(0≤x∧x < m ∧ -2≤y∧(m:Int)≤y):=by
    simp [oU] at hok
    omega
   obtain ⟨d0,d1,df⟩:=cE T0.out
   have f0:=df 0;have f1:=df 1
   clear df hok hd he hg hys
   rcases hx with hx | ⟨x0,hx⟩ | ⟨x0,x1,hx⟩ | ⟨x0,x1,y0,hx⟩
   all_goals
    go_enter func48,ntmps48
    go_wp2_with fail
    refine (rW m true HD.out _).mono ?_
    rintro e w1 ⟨rfl,rfl⟩
    go_wp2
    refine bodyPost_ret (v:=.tuple #[.agg #[.int .u64 0,.slice none 0 0],.int .i64 5]) ?_ rfl (oS 5 hB0)
    simp [results,results48,go_sem,d0,d1]
theorem Bv (g:Nat) (zs:List Nat):rY g zs g zs=true:=by simp [rY]
structure Good (m:Nat) (g:Nat) (rows:List Nat):Prop where
 hm:m≤64
 hl:rows.length=m
 hg:g < 2 ^ m
 hr:∀ r∈rows,r < 2 ^ m
 hc:∀ r∈rows,r &&& g=0
theorem Good.g64 {m g:Nat} {rows:List Nat} (h:Good m g rows):g < 18446744073709551616:=Nat.lt_of_lt_of_le h.hg (wC h.hm)
theorem Good.r64 {m g:Nat} {rows:List Nat} (h:Good m g rows):∀ r∈rows,r < 18446744073709551616:=fun r hr=>Nat.lt_of_lt_of_le (h.hr r hr) (wC h.hm)
theorem nE {m:Nat} (hm:m≤64):Good m 0 (dE m) where
 hm:=hm
 hl:=eL m
 hg:=Nat.two_pow_pos m
 hr:=fun r hr=>by
  obtain ⟨i,hi,rfl⟩:=List.mem_map.1 hr
  exact Nat.pow_lt_pow_right (by omega) (List.mem_range.1 hi)
 hc:=fun r _=>Nat.and_zero r
theorem oX {m:Nat} (hm:m≤64):nM m=0∧oneV m=dE m:=by
 have hd:kT m=true:=by simp [kT];omega
 exact ⟨by rw [nM,if_pos hd],by rw [oneV,if_pos hd,Int.toNat_natCast]⟩
section
variable {m ga gb gc:Nat} {xs ys zs:List Nat}
end
def oY (c:Cl):List Value:=[.int .u64 (c.f:Int),.int .i64 c.k,.int .i64 c.v]
def eK (cs:List Cl):List Value:=cs.flatMap oY
theorem mS (cs:List Cl):(eK cs).length=cs.length * 3:=by
 induction cs with
 | nil=>rfl
 | cons c r ih=>simp [eK,oY] at ih ⊢;omega
theorem hZ (c:Cl) (r:List Cl):eK (c::r)=oY c++eK r:=by simp [eK]
theorem pQ (cs:List Cl) (c:Cl):eK (cs++[c])=eK cs++oY c:=by simp [eK]
theorem oZ:∀ {cs:List Cl} {i:Nat} {c:Cl},cs[i]?=some c→(eK cs)[i * 3]?=some (.int .u64 (c.f:Int))∧(eK cs)[i * 3+1]?=some (.int .i64 c.k)∧(eK cs)[i * 3+2]?=some (.int .i64 c.v)
 | [],i,c,h=>by simp at h
 | x::r,0,c,h=>by
  simp at h;subst h
  simp [hZ,oY]
 | x::r,i+1,c,h=>by
  simp at h
  have ih:=oZ (cs:=r) (i:=i) h
  have e0:(i+1) * 3=i * 3+3:=by omega
  have e1:(i+1) * 3+1=(i * 3+1)+3:=by omega
  have e2:(i+1) * 3+2=(i * 3+2)+3:=by omega
  rw [e1,e2,e0,hZ]
  simp only [oY,List.cons_append,List.nil_append,List.getElem?_cons_succ]
  exact ih
theorem wK:∀ (cs:List Cl) (i:Nat) (c:Cl),i < cs.length→(((eK cs).set (i * 3) (.int .u64 (c.f:Int))).set (i * 3+1) (.int .i64 c.k)).set (i * 3+2) (.int .i64 c.v)=eK (cs.set i c)
 | [],i,c,h=>by simp at h
 | x::r,0,c,h=>by simp [hZ,oY]
 | x::r,i+1,c,h=>by
  have ih:=wK r i c (by simpa using h)
  have e0:(i+1) * 3=i * 3+3:=by omega
  have e1:(i+1) * 3+1=(i * 3+1)+3:=by omega
  have e2:(i+1) * 3+2=(i * 3+2)+3:=by omega
  rw [e1,e2,e0,hZ,List.set_cons_succ,hZ,← ih]
  simp [oY]
theorem eQ {w:World} {base:Nat} {E:Nat} {v:Value} {n:Nat} {cs:List Cl} (h:w.ownsRow base E 3 v n (eK cs)) :
  n=cs.length∧∃ a cap,v = .slice a n cap∧lA w a cs∧∀ ad,a=some ad→base≤ad.block∧ad.off=0∧ad.block < w.heap.size:=by
 have hl:=h.1
 rw [mS] at hl
 have hn:n=cs.length:=by omega
 refine ⟨hn,?_⟩
 rcases h.2 with ⟨rfl,h0⟩ | ⟨g,cap,cur,rfl,hg,hh,hnc,hcm,hcs,ht⟩
 ·subst h0
  have:cs=[]:=List.length_eq_zero_iff.1 hn.symm
  exact ⟨none,0,rfl,.inl this,fun ad e=>by cases e⟩
 ·refine ⟨some ⟨g,0,none⟩,cap,rfl,.inr ⟨g,0,rfl,fun i c hi=>?_⟩,fun ad e=>by cases e;exact ⟨hg,rfl,(Array.getElem?_eq_some_iff.1 hh).1⟩⟩
  obtain ⟨f0,f1,f2⟩:=oZ hi
  have hi2:i < cs.length:=(List.getElem?_eq_some_iff.1 hi).1
  have c0:=h.cellAt (i * 3) (by omega)
  have c1:=h.cellAt (i * 3+1) (by omega)
  have c2:=h.cellAt (i * 3+2) (by omega)
  rw [Nat.zero_add]
  exact ⟨c0.trans f0,c1.trans f1,c2.trans f2⟩
def jZ (cs:List Cl) (err:Int) (w:World) (e:Ending) (w':World):Prop :=
 ∃ a cap,e = .returned (.tuple #[.slice a cs.length cap,.int .i64 err])∧lA w' a cs∧(∀ ad,a=some ad→w.heap.size≤ad.block∧ad.block < w'.heap.size)∧Below w.heap.size w w'
theorem gO (err:Int) {w w':World} (hb:Below w.heap.size w w'):jZ [] err w (.returned (.tuple #[.slice none 0 0,.int .i64 err])) w' :=
 ⟨none,0,rfl,.inl rfl,(fun ad e=>by cases e),hb⟩
def Bw (cs:List Cl) (w:World) (e:Ending) (w':World):Prop :=
 ∃ v,e = .returned v∧w'.ownsRow w.heap.size 88 3 v cs.length (eK cs)∧Below w.heap.size w w'
theorem infoC:(prog.info? 88).map (fun i=>(i.zero,i.size,i.bytes))=some (some (.agg #[.int .u64 0,.int .i64 0,.int .i64 0]),3,24):=by kernel_rfl
theorem yI {w:World} {base g n cap k:Nat} {E:Nat} {cs:List Cl} (h:w.ownsRow base E 3 (.slice (some ⟨g,0,none⟩) n cap) n (eK cs)) (hk:k < cs.length) (z:Cl) :
  (((w.setCell ⟨g,k * 3,none⟩ (.int .u64 (z.f:Int))).setCell ⟨g,k * 3+1,none⟩ (.int .i64 z.k)).setCell ⟨g,k * 3+2,none⟩ (.int .i64 z.v)).ownsRow base E 3 (.slice (some ⟨g,0,none⟩) n cap) n (eK (cs.set k z)):=by
 rw [← wK cs k z hk]
 exact ((((h.stored (k * 3) _).1.stored (k * 3+1) _).1.stored (k * 3+2) _).1)
def mT (x y:Cl):Bool:=decide (x.f=y.f) && decide (x.k=y.k) && decide (x.v=y.v)
theorem uT (f f2:Nat) (k k2 v v2:Int) (w:World) :
  (binOp .neq 88 (.agg #[.int .u64 (f:Int),.int .i64 k,.int .i64 v]) (.agg #[.int .u64 (f2:Int),.int .i64 k2,.int .i64 v2])).run prog w = .ok (.bool (!mT ⟨f,k,v⟩ ⟨f2,k2,v2⟩)) w:=by
 by_cases h1:f=f2
 ·subst h1
  by_cases h2:k=k2
  ·subst h2
   by_cases h3:v=v2
   ·subst h3
    simp [mT,go_sem]
   ·have h3':(v == v2)=false:=by simp [h3]
    simp [mT,go_sem,h3]
  ·simp [mT,go_sem,h2]
 ·simp [mT,go_sem,h1]
  intro h;omega
theorem neq_is (x y:Cl) (s:Bool) (h:mT x y=s) (w:World):(binOp .neq 88 x.val y.val).run prog w = .ok (.bool (!s)) w:=by
 subst h;exact uT _ _ _ _ _ _ w
theorem wL {w:World} {B:Nat} {a b c:Value} {T:Nat} (h:w.heap[B]?=some (.cells #[a,b,c] T (0,0))) :
  w.cell? ⟨B,0,none⟩=some a∧w.cell? ⟨B,1,none⟩=some b∧w.cell? ⟨B,2,none⟩=some c∧(∀ j,w.frozen? ⟨B,j,none⟩=false):=by
 refine ⟨by simp [World.cell?,h],by simp [World.cell?,h],by simp [World.cell?,h],fun j=>by simp [World.frozen?,h]⟩
def z0:Cl:=⟨0,0,0⟩
theorem Bx (n:Nat):(madeCells (Value.agg #[.int .u64 0,.int .i64 0,.int .i64 0]).cells (n * 3)).toList=eK (List.replicate n z0):=by
 have hc:(Value.agg #[.int .u64 0,.int .i64 0,.int .i64 0]).cells=#[.int .u64 0,.int .i64 0,.int .i64 0]:=rfl
 rw [hc]
 apply List.ext_getElem?
 intro j
 by_cases hj:j < n * 3
 ·have e:(List.replicate n z0)[j / 3]?=some z0:=by rw [List.getElem?_replicate,if_pos (by omega)]
  obtain ⟨f0,f1,f2⟩:=oZ e
  have hr:j % 3=0∨j % 3=1∨j % 3=2:=by omega
  have hlt:j < (madeCells #[Value.int .u64 0,.int .i64 0,.int .i64 0] (n * 3)).toList.length:=by simp [madeCells];exact hj
  rcases hr with h | h | h
  ·have ej:j=j / 3 * 3:=by omega
   rw [← ej] at f0
   rw [f0,List.getElem?_eq_getElem hlt]
   simp [madeCells,h,z0]
  ·have ej:j=j / 3 * 3+1:=by omega
   rw [← ej] at f1
   rw [f1,List.getElem?_eq_getElem hlt]
   simp [madeCells,h,z0]
  ·have ej:j=j / 3 * 3+2:=by omega
   rw [← ej] at f2
   rw [f2,List.getElem?_eq_getElem hlt]
   simp [madeCells,h,z0]
 ·rw [List.getElem?_eq_none (by simp [madeCells];omega),List.getElem?_eq_none (by rw [mS];simp;omega)]
theorem By {full:List Cl} {n k:Nat} {z:Cl} (hl:full.length=n) (hz:full[k]?=some z):(full.take k++List.replicate (n - k) z0).set k z=full.take (k+1)++List.replicate (n - (k+1)) z0:=by
 obtain ⟨hk,ex⟩:=List.getElem?_eq_some_iff.1 hz
 have hl2:(full.take k).length=k:=by simp;omega
 rw [List.set_append_right _ _ (by omega),hl2,Nat.sub_self,show n - k=(n - (k+1))+1 by omega,List.replicate_succ,List.set_cons_zero,List.take_succ_eq_append_getElem hk,List.append_assoc,ex]
 rfl
theorem fill_at {full:List Cl} {n k:Nat} (hl:full.length=n) (hk:k < n):(full.take k++List.replicate (n - k) z0)[k]?=some z0:=by
 have hl2:(full.take k).length=k:=by simp;omega
 rw [List.getElem?_append_right (by omega),hl2,Nat.sub_self,List.getElem?_replicate,if_pos (by omega)]
def kA (k:Nat):Cl:=⟨2 ^ k,0,0⟩
def dK (n:Nat):List Cl:=(List.range n).map kA
def qJ (d:Int):List Cl:=if iJ d=0 then dK d.toNat else []
theorem dL (n:Nat):(dK n).length=n:=by simp [dK]
theorem nF {n k:Nat} (hk:k < n):(dK n)[k]?=some (kA k):=by
 simp [dK,List.getElem?_range hk]
theorem pR {n k:Nat} (hk:k < n):(dK n).take (k+1)=(dK n).take k++[kA k]:=by
 obtain ⟨h,e⟩:=List.getElem?_eq_some_iff.1 (nF hk)
 rw [List.take_succ_eq_append_getElem h,e]
theorem uU {k:Nat} (hk:k < 64):IntKind.u64.wrap (2 ^ k:Int)=((2 ^ k:Nat):Int):=by
 have h:2 ^ k < 18446744073709551616:=Nat.lt_of_lt_of_le (Nat.pow_lt_pow_right (by decide) hk) (by decide)
 have e:(2 ^ k:Int)=((2 ^ k:Nat):Int):=by simp
 rw [e]
 generalize 2 ^ k=q at h
 simp [IntKind.wrap,IntKind.signed,IntKind.bits]
 omega
theorem tO:∀ (cs:List Cl) (i:Nat) (f f':Nat),cs[i]?=some ⟨f,0,0⟩→(eK cs).set (i * 3) (.int .u64 (f':Int))=eK (cs.set i ⟨f',0,0⟩)
 | [],i,f,f',h=>by simp at h
 | x::r,0,f,f',h=>by
  simp at h;subst h
  simp [hZ,oY]
 | x::r,i+1,f,f',h=>by
  have ih:=tO r i f f' (by simpa using h)
  have e0:(i+1) * 3=i * 3+3:=by omega
  rw [e0,hZ,List.set_cons_succ,hZ,← ih]
  simp [oY]
theorem yJ {w:World} {base g n cap k:Nat} {E:Nat} {cs:List Cl} {f:Nat} (h:w.ownsRow base E 3 (.slice (some ⟨g,0,none⟩) n cap) n (eK cs)) (hk:cs[k]?=some ⟨f,0,0⟩) (f':Nat) :
  (w.setCell ⟨g,k * 3,none⟩ (.int .u64 (f':Int))).ownsRow base E 3 (.slice (some ⟨g,0,none⟩) n cap) n (eK (cs.set k ⟨f',0,0⟩)):=by
 rw [← tO cs k f f' hk]
 exact (h.stored (k * 3) _).1
set_option maxHeartbeats 2000000 in
theorem sC (n:Nat) (w:World) (hn:n≤64):Calls prog 55 #[.int .i64 n] w (Bw (dK n) w):=by
 obtain ⟨i0,hi,hz0,hz1,hz2⟩:=info_parts infoC
 have HN:=Lib.hid (dL n)
 go_enter func55,ntmps55
 go_wp2_with (at_make;refine wpList_make_full _ rfl (.tmp 5) (.tmp 5) 56 rfl w.heap.size 88 i0 _ 3 underlying56 hi hz0 hz1 .i64 .i64 (n:Int) (n:Int) n rfl rfl rfl rfl (by rw [hz2];omega) (by unfold maxLen;omega) (Nat.le_refl _) ?_;intro w2 hown2 hgrow2)
 have HO1:Hid (w2.ownsRow w.heap.size 88 3 (.slice (some ⟨w.heap.size,0,none⟩) n n) n (eK ((dK n).take 0++List.replicate (n - 0) z0))):=by
  rw [List.take_zero,List.nil_append,Nat.sub_zero,← Bx];exact hown2
 have hb2:Below w.heap.size w w2:=(Below.refl _ _).grown hgrow2 (Nat.le_refl _) (fun j e=>by cases e)
 clear hown2
 go_wp2_with fail
 go_loopw [8] (fun i wr=>∃ k:Nat,k≤n∧i = .int .i64 k∧Hid (wr.ownsRow w.heap.size 88 3 (.slice (some ⟨w.heap.size,0,none⟩) n n) n (eK ((dK n).take k++List.replicate (n - k) z0)))∧Below w.heap.size w wr) (fun i _=>n - (intOf i).toNat)
 case atStart=>exact ⟨0,Nat.zero_le _,rfl,HO1,hb2⟩
 case round =>
  obtain ⟨k,hk,rfl,HO,hb⟩:=hrel
  by_cases hlt:k < n
  ·have HZ:=Lib.hid (By (full:=dK n) (n:=n) (k:=k) HN.out (nF hlt))
   have HA:=Lib.hid (fill_at (full:=dK n) (n:=n) HN.out hlt)
   have HW:=Lib.hid (uU (k:=k) (by omega))
   have f3:=oZ HA.out
   have e0:=(HO.out.cellAt (k * 3) (by omega)).trans f3.1
   have q0:=HO.out.frozenAt (k * 3)
   clear f3
   have g0:(0:Int)≤(k:Int):=by omega
   have g1:k < 64:=by omega
   have g2:(k:Int) < 64:=by omega
   have g3:(k:Int) < (n:Int):=by omega
   have HS:=Lib.hid (yJ HO.out HA.out (2 ^ k))
   rw [show (⟨2 ^ k,0,0⟩:Cl)=kA k from rfl,HZ.out,← HW.out] at HS
   have HB:Hid (Below w.heap.size w (wr.setCell ⟨w.heap.size,k * 3,none⟩ (.int .u64 (IntKind.u64.wrap (2 ^ k))))):=hb.setCell (p:=⟨w.heap.size,k * 3,none⟩) (Nat.le_refl _) _
   go_wp2
   go_roundw
   case rel=>exact ⟨k+1,by omega,by go_num,HS,HB.out⟩
   case measure=>simp [intOf];omega
  ·obtain rfl:n=k:=by omega
   have HE:Hid (wr.ownsRow w.heap.size 88 3 (.slice (some ⟨w.heap.size,0,none⟩) n n) n (eK (dK n))):=by
    have:=HO.out
    rw [List.take_of_length_le (by rw [HN.out];exact Nat.le_refl _),Nat.sub_self,List.replicate_zero,List.append_nil] at this
    exact this
   go_wp2
   go_ret
   exact ⟨_,rfl,by rw [HN.out];exact HE.out,hb⟩
theorem uV {cs:List Cl} {w w1 w2:World} {v:Value} (hb1:Below w.heap.size w w1) (hown:w2.ownsRow w1.heap.size 88 3 v cs.length (eK cs)) (hb2:Below w1.heap.size w1 w2) (err:Int):jZ cs err w (.returned (.tuple #[v,.int .i64 err])) w2:=by
 obtain ⟨_,a2,cap2,rfl,hr2,hf2⟩:=eQ hown
 exact ⟨a2,cap2,rfl,hr2,fun ad e=>⟨Nat.le_trans hb1.size (hf2 ad e).1,(hf2 ad e).2.2⟩,hb1.trans (hb2.mono hb1.size)⟩
theorem oD {d:Int} (h:iJ d=0):∃ n:Nat,d=n∧n≤64:=by
 by_cases hd:d < 0∨64 < d
 ·simp [iJ,hd] at h
 ·exact ⟨d.toNat,by omega,by omega⟩
set_option maxHeartbeats 2000000 in
theorem one_any (d:Int) (w:World) (c:Int) (hc:iJ d=c) :
  Calls prog 40 #[.int .i64 d] w (jZ (qJ d) c w):=by
 have HC:=Lib.hid hc
 by_cases h0:c=0
 ·subst h0
  obtain ⟨n,rfl,hn⟩:=oD hc
  have HR:=Lib.hid (show qJ n=dK n by simp [qJ,hc])
  clear hc
  go_enter func40,ntmps40
  go_wp2_with (go_at_call 54;refine (eP _ _ 0 HC.out).mono ?_;rintro e w' ⟨rfl,rfl⟩)
  refine (sC n _ hn).mono ?_
  rintro e w2 ⟨v,rfl,hown,hb2⟩
  have HO:=Lib.hid hown
  clear hown
  go_wp2
  go_ret2
  rw [HR.out]
  exact uV (Below.refl _ _) HO.out hb2 0
 ·have HR:=Lib.hid (show qJ d=[] by simp [qJ,hc,h0])
  have hne:(c != 0)=true:=by simpa using h0
  clear hc h0
  go_enter func40,ntmps40
  go_wp2_with (go_at_call 54;refine (eP _ _ c HC.out).mono ?_;rintro e w' ⟨rfl,rfl⟩)
  go_ret2
  rw [HR.out]
  exact gO c (Below.refl _ _)
def oE (d i:Int):Int:=if iJ d≠0 then iJ d else if i < 0∨d≤i then 5 else 0
def oF (d i:Int) (c:Cl):List Cl:=if oE d i=0 then (dK d.toNat).set i.toNat c else []
set_option maxHeartbeats 2000000 in
theorem pA (d i:Int) (c:Cl) (w:World) (e:Int) (he:oE d i=e) (r:List Cl) (hr:oF d i c=r) :
  Calls prog 56 #[.int .i64 d,.int .i64 i,c.val] w (jZ r e w):=by
 by_cases hd:iJ d=0
 ·obtain ⟨n,rfl,hn⟩:=oD hd
  have HD:=Lib.hid hd
  by_cases hi:i < 0∨(n:Int)≤i
  ·obtain rfl:5=e:=by rw [← he];simp [oE,hd,hi]
   obtain rfl:[]=r:=by rw [← hr];simp [oF,he]
   clear hd he hr
   rcases Int.lt_or_le i 0 with hi0 | hi0
   ·clear hi
    go_enter func56,ntmps56
    go_wp2_with (go_at_call 54;refine (eP _ _ 0 HD.out).mono ?_;rintro e w' ⟨rfl,rfl⟩)
    go_ret2
    exact gO 5 ((Below.refl _ _).alloc (Nat.le_refl _) _)
   ·have hi1:(n:Int)≤i:=by omega
    clear hi
    go_enter func56,ntmps56
    go_wp2_with (go_at_call 54;refine (eP _ _ 0 HD.out).mono ?_;rintro e w' ⟨rfl,rfl⟩)
    go_ret2
    exact gO 5 ((Below.refl _ _).alloc (Nat.le_refl _) _)
  ·obtain ⟨k,rfl⟩:∃ k:Nat,i=k:=⟨i.toNat,by omega⟩
   have hk:k < n:=by omega
   obtain rfl:0=e:=by rw [← he];simp [oE,hd];omega
   have HR:Hid (r=(dK n).set k c):=by show _=_;rw [← hr];simp [oF,he]
   have HN:=Lib.hid (dL n)
   have g0:(0:Int)≤(k:Int):=by omega
   have g3:(k:Int) < (n:Int):=by omega
   clear hd he hr hi
   go_enter func56,ntmps56
   go_wp2_with (go_at_call 54;refine (eP _ _ 0 HD.out).mono ?_;rintro e w' ⟨rfl,rfl⟩)
   refine (sC n _ hn).mono ?_
   rintro e w2 ⟨v,rfl,hown,hb2⟩
   rw [HN.out] at hown
   obtain ⟨g,capg,hv,hbg,hgl⟩:=hown.form (show 0 < n by omega)
   subst hv
   have HO:=Lib.hid hown
   obtain ⟨f0,f1,f2⟩:=oZ (nF hk)
   have d0:=(hown.cellAt (k * 3) (by omega)).trans f0
   have d1:=(hown.cellAt (k * 3+1) (by omega)).trans f1
   have d2:=(hown.cellAt (k * 3+2) (by omega)).trans f2
   have q0:=hown.frozenAt (k * 3);have q1:=hown.frozenAt (k * 3+1);have q2:=hown.frozenAt (k * 3+2)
   have hsz:w.heap.size≤g:=by simp at hbg;omega
   have HS:=Lib.hid (yI hown (by rw [HN.out];exact hk) c)
   rw [← HR.out] at HS
   have hB2:Below w.heap.size w w2:=((Below.refl _ _).alloc (Nat.le_refl _) _).trans (hb2.mono (by simp))
   have HB:=Lib.hid (((hB2.setCell (p:=⟨g,k * 3,none⟩) hsz (.int .u64 (c.f:Int))).setCell (p:=⟨g,k * 3+1,none⟩) hsz (.int .i64 c.k)).setCell (p:=⟨g,k * 3+2,none⟩) hsz (.int .i64 c.v))
   have hc0:w2.heap[w.heap.size]?=some (.cells #[.int .u64 (c.f:Int),.int .i64 c.k,.int .i64 c.v] 88 (0,0)):=by
    rw [hb2.block w.heap.size (by simp),heap_alloc_new]
   obtain ⟨c0,c1,c2,_⟩:=wL hc0
   clear hown f0 f1 f2
   go_wp2
   go_ret2
   obtain ⟨hl,a2,cap2,hv2,hr2,hf2⟩:=eQ HS.out
   cases hv2
   exact ⟨some ⟨g,0,none⟩,capg,by rw [← hl];rfl,hr2,fun ad e=>⟨by cases e;exact hsz,(hf2 ad e).2.2⟩,HB.out⟩
 ·have HD:=Lib.hid (show iJ d=e by rw [← he];simp [oE,hd])
  have h0:e≠0:=by rw [← HD.out];exact hd
  have hne:(e != 0)=true:=by simpa using h0
  obtain rfl:[]=r:=by rw [← hr];simp [oF,he,h0]
  clear hd he h0 hr
  go_enter func56,ntmps56
  go_wp2_with (go_at_call 54;refine (eP _ _ e HD.out).mono ?_;rintro e w' ⟨rfl,rfl⟩)
  go_ret2
  exact gO e ((Below.refl _ _).alloc (Nat.le_refl _) _)
theorem set_any (d i k:Int) (w:World) (e:Int) (he:oE d i=e) (r:List Cl) (hr:oF d i ⟨0,1,k⟩=r) :
  Calls prog 41 #[.int .i64 d,.int .i64 i,.int .i64 k] w (jZ r e w):=by
 have HE:=Lib.hid he;have HR:=Lib.hid hr
 clear he hr
 go_enter func41,ntmps41
 go_wp2_with fail
 refine (pA _ _ ⟨0,1,k⟩ _ e HE.out r HR.out).mono ?_
 rintro x w2 ⟨a,cap,rfl,h1,h2,h3⟩
 go_wp2
 go_ret2
 exact ⟨a,cap,rfl,h1,h2,h3⟩
theorem any_any (d i:Int) (w:World) (e:Int) (he:oE d i=e) (r:List Cl) (hr:oF d i ⟨0,2,0⟩=r) :
  Calls prog 43 #[.int .i64 d,.int .i64 i] w (jZ r e w):=by
 have HE:=Lib.hid he;have HR:=Lib.hid hr
 clear he hr
 go_enter func43,ntmps43
 go_wp2_with fail
 refine (pA _ _ ⟨0,2,0⟩ _ e HE.out r HR.out).mono ?_
 rintro x w2 ⟨a,cap,rfl,h1,h2,h3⟩
 go_wp2
 go_ret2
 exact ⟨a,cap,rfl,h1,h2,h3⟩
def nQ (d i from_:Int):Int:=if iJ d≠0 then iJ d else if from_ < 0∨d≤from_ then 5 else oE d i
def qK (d i from_:Int):List Cl:=if nQ d i from_=0 then oF d i (kA from_.toNat) else []
theorem Dl (x:Int):∃ j:Nat,j < 64∧(IntKind.u64.wrap x).tmod 64=(j:Int):=by
 have h:0≤IntKind.u64.wrap x:=by simp [IntKind.wrap,IntKind.signed,IntKind.bits];omega
 rw [Int.tmod_eq_emod_of_nonneg h]
 generalize IntKind.u64.wrap x=y at h
 exact ⟨(y % 64).toNat,by omega,by omega⟩
set_option maxHeartbeats 2000000 in
theorem Dm (d i from_:Int) (w:World) (hf:(Lit.int .i64 from_).wf=true) (e:Int) (he:nQ d i from_=e) (r:List Cl) (hr:qK d i from_=r) :
  Calls prog 42 #[.int .i64 d,.int .i64 i,.int .i64 from_] w (jZ r e w):=by
 by_cases hd:iJ d=0
 ·obtain ⟨n,rfl,hn⟩:=oD hd
  have HD:=Lib.hid hd
  by_cases hi:from_ < 0∨(n:Int)≤from_
  ·obtain rfl:5=e:=by rw [← he];simp [nQ,hd,hi]
   obtain rfl:[]=r:=by rw [← hr];simp [qK,he]
   clear hd he hr
   rcases Int.lt_or_le from_ 0 with hi0 | hi0
   ·clear hi
    go_enter func42,ntmps42
    go_wp2_with (go_at_call 54;refine (eP _ _ 0 HD.out).mono ?_;rintro e w' ⟨rfl,rfl⟩)
    go_ret2
    exact gO 5 (Below.refl _ _)
   ·have hi1:(n:Int)≤from_:=by omega
    clear hi
    go_enter func42,ntmps42
    go_wp2_with (go_at_call 54;refine (eP _ _ 0 HD.out).mono ?_;rintro e w' ⟨rfl,rfl⟩)
    go_ret2
    exact gO 5 (Below.refl _ _)
  ·obtain ⟨k,rfl⟩:∃ k:Nat,from_=k:=⟨from_.toNat,by omega⟩
   have h8:¬ n≤k:=by omega
   have h7:¬ ((k:Int) < 0):=by omega
   have HE:Hid (oE n i=e):=by show _=_;rw [← he];simp [nQ,hd,h8,h7]
   have HR:Hid (oF n i (kA k)=r):=by
    show _=_;rw [← hr]
    by_cases h9:oE n i=0
    ·simp [qK,nQ,hd,h8,h9,h7]
    ·simp [qK,nQ,hd,h8,h9,oF,h7]
   have hk0:¬ ((k:Int) < 0):=by omega
   have hk1:(k:Int) < n:=by omega
   have HW:=Lib.hid (uU (k:=k) (by omega))
   have hmod:(k:Int) % 64=k:=by omega
   have hmod2:k % 64=k:=by omega
   have g1:k < 64:=by omega
   clear hd he hr hi
   go_enter func42,ntmps42
   go_wp2_with (go_at_call 54;refine (eP _ _ 0 HD.out).mono ?_;rintro e w' ⟨rfl,rfl⟩)
   rw [HW.out]
   refine (pA _ _ (kA k) _ e HE.out r HR.out).mono ?_
   rintro x w2 ⟨a,cap,rfl,h1,h2,h3⟩
   go_wp2
   go_ret2
   exact ⟨a,cap,rfl,h1,h2,h3⟩
 ·have HD:=Lib.hid (show iJ d=e by rw [← he];simp [nQ,hd])
  have h0:e≠0:=by rw [← HD.out];exact hd
  have hne:(e != 0)=true:=by simpa using h0
  have hnf:(e == 0)=false:=by simpa using h0
  have HE:Hid (oE d i=e):=by show _=_;rw [← HD.out];simp [oE,hd]
  have hr2:[]=r:=by rw [← hr];simp [qK,he,h0]
  have HR:Hid (∀ c,oF d i c=r):=fun c=>by rw [← hr2];simp [oF,HE.out,h0]
  clear hd he h0 hr hr2
  obtain ⟨j,hj,hq⟩:=Dl from_
  have HQ:=Lib.hid hq
  have HW:=Lib.hid (uU hj)
  have hj2:(j:Int) < 64:=by omega
  go_enter func42,ntmps42
  go_wp2_with (go_at_call 54;refine (eP _ _ e HD.out).mono ?_;rintro e w' ⟨rfl,rfl⟩)
  try rw [HQ.out]
  go_wp2_with fail
  rw [HW.out]
  refine (pA _ _ (kA j) _ e HE.out r (HR.out _)).mono ?_
  rintro x w2 ⟨a,cap,rfl,h1,h2,h3⟩
  go_wp2
  go_ret2
  exact ⟨a,cap,rfl,h1,h2,h3⟩
set_option linter.unusedSimpArgs false
def Oks (xs:List Cl):Prop:=∀ (i:Nat) x,xs[i]?=some x→x.ok
set_option linter.unusedSimpArgs false
theorem mU {n:Nat} {c:Cl}:okAt n c=true↔c.f < 2 ^ n∧oB c.f c.k c.v=true:=by
 unfold okAt Dg Df
 rw [Bool.and_eq_true,beq_iff_eq,Nat.div_eq_zero_iff]
 constructor
 ·rintro ⟨h | h,h2⟩
  ·have:=Nat.two_pow_pos n;omega
  ·exact ⟨h,h2⟩
 ·rintro ⟨h,h2⟩;exact ⟨.inr h,h2⟩
theorem wM {n f:Nat} (hn:n≤64) (h:f < 2 ^ n):f < 18446744073709551616 :=
 Nat.lt_of_lt_of_le h (Nat.le_trans (Nat.pow_le_pow_right (by decide) hn) (by decide))
structure Val (n:Nat) (xs:List Cl):Prop where
 le:n≤64
 len:xs.length=n
 ok:∀ (i:Nat) c,xs[i]?=some c→okAt n c=true
theorem Val.oks {n:Nat} {xs:List Cl} (h:Val n xs):Oks xs:=fun i c hi=>by
 obtain ⟨h1,h2⟩:=mU.1 (h.ok i c hi)
 exact ⟨wM h.le h1,h2⟩
theorem Val.bits {n:Nat} {xs:List Cl} (h:Val n xs):Bits xs:=fun c hc=>by
 obtain ⟨i,hi,e⟩:=List.mem_iff_getElem.1 hc
 exact (h.oks i c (by rw [← e];exact List.getElem?_eq_getElem hi)).1
theorem mV {n:Nat} (hn:n≤64):Val n (dK n):=by
 refine ⟨hn,dL n,fun i c hi=>?_⟩
 have h1:i < n:=by rw [← dL n];exact (List.getElem?_eq_some_iff.1 hi).1
 rw [nF h1] at hi
 cases hi
 exact mU.2 ⟨Nat.pow_lt_pow_right (by decide) h1,by simp [oB,kA]⟩
structure PF where
 z:Bool
 c:Int
 g:Nat
 rows:List Nat
 cells:List Cl
def WF.pf (f:WF):PF:=⟨f.z,f.c,f.g,f.rows,f.cells⟩
def zeroP:PF:=⟨true,0,0,[],[]⟩
def pC (c:Int):PF:=⟨false,c,0,[],[]⟩
def pF (g:Nat) (rows:List Nat):PF:=⟨false,0,g,rows,[]⟩
def pX (cs:List Cl):PF:=⟨false,0,0,[],cs⟩
inductive OkP (t n:Int):PF→Prop
 | zero:OkP t n zeroP
 | bool (h:t=1):OkP t n (pC 0)
 | cost (c:Int) (h:t=2) (h0:0≤c) (h1:c≤n):OkP t n (pC c)
 | facts (m g:Nat) (rows:List Nat) (h:t=3) (hn:n=(m:Int)) (hg:Good m g rows):OkP t n (pF g rows)
 | cells (m:Nat) (cs:List Cl) (h:t=4) (hn:n=(m:Int)) (hv:Val m cs):OkP t n (pX cs)
def hM (t n:Int):PF:=if t=3 then pF 0 (dE n.toNat) else if t=4 then pX (dK n.toNat) else pC 0
theorem uW {t n:Int} {l:Nat} (h:dD t n l=true):l=0∧((t=1∧n=0)∨(t=2∧0≤n∧n≤1048576)∨(t=3∧∃ m:Nat,n=m∧m≤64)∨(t=4∧∃ m:Nat,n=m∧m≤64)):=by
 obtain ⟨h0,ht⟩:=rZ h
 obtain ⟨d0,d1,d2,d3⟩:=sA h
 refine ⟨h0,?_⟩
 rcases ht with rfl | rfl | rfl | rfl
 ·exact .inl ⟨rfl,d2 rfl⟩
 ·exact .inr (.inl ⟨rfl,d0,d1⟩)
 ·exact .inr (.inr (.inl ⟨rfl,n.toNat,by omega,by have:=d3 (.inl rfl);omega⟩))
 ·exact .inr (.inr (.inr ⟨rfl,n.toNat,by omega,by have:=d3 (.inr rfl);omega⟩))
section
variable {t n:Int} {l:Nat} {a b c:PF}
theorem one_1:hM 1 n=pC 0:=by simp [hM]
theorem one_2:hM 2 n=pC 0:=by simp [hM]
theorem one_3 (m:Nat):hM 3 m=pF 0 (dE m):=by simp [hM]
theorem one_4 (m:Nat):hM 4 m=pX (dK m):=by simp [hM]
theorem one_okP (h:dD t n l=true):OkP t n (hM t n):=by
 rcases (uW h).2 with ⟨rfl,hn⟩ | ⟨rfl,h0,h1⟩ | ⟨rfl,m,rfl,hm⟩ | ⟨rfl,m,rfl,hm⟩
 ·rw [one_1];exact .bool rfl
 ·rw [one_2];exact .cost 0 rfl (by omega) h0
 ·rw [one_3];exact .facts m 0 _ rfl rfl (nE hm)
 ·rw [one_4];exact .cells m _ rfl rfl (mV hm)
end
inductive PS where
 | one (t n:Int)
 | two (t n u m:Int)
def PS.ok:PS→Prop
 | .one t n=>dD t n 0=true
 | .two t n u m=>dD t n 0=true∧dD u m 0=true
inductive PX where
 | one (a:PF)
 | two (a b:PF)
def OkX:PS→PX→Prop
 | .one t n,.one a=>OkP t n a
 | .two t n u m,.two a b=>OkP t n a∧OkP u m b
 | _,_=>False
def oneX:PS→PX
 | .one t n=>.one (hM t n)
 | .two t n u m=>.two (hM t n) (hM u m)
section
variable {S:PS} {x y v:PX}
end
structure PIs (w:World) (t n:Int) (f:WF) (a:PF):Prop where
 at_:f.At w
 pf:f.pf=a
 ok:OkP t n a
 pl:f.pl=0
theorem PIs.below {w w':World} {t n:Int} {f:WF} {a:PF} (h:PIs w t n f a) (hb:Below w.heap.size w w'):PIs w' t n f a:=⟨h.at_.below hb,h.pf,h.ok,h.pl⟩
def XIs (w:World):PS→WF→PX→Prop
 | .one t n,f,.one a=>PIs w t n f a
 | .two t n u m,f,.two a b=>f.pf=pC 0∧f.rl=0∧f.cl=0∧f.pl=2∧∃ blk off g h,f.pa=some ⟨blk,off,none⟩∧W6 w blk off g∧W6 w blk (off+6) h∧PIs w t n g a∧PIs w u m h b
 | _,_,_=>False
theorem XIs.below {w w':World} {S:PS} {f:WF} {x:PX} (h:XIs w S f x) (hb:Below w.heap.size w w'):XIs w' S f x:=by
 cases S<;>cases x<;>first | exact h.elim | exact PIs.below h hb | skip
 obtain ⟨h1,h2,h3,h4,blk,off,g,k,h5,h6,h7,h8,h9⟩:=h
 exact ⟨h1,h2,h3,h4,blk,off,g,k,h5,h6.below hb,h7.below hb,h8.below hb,h9.below hb⟩
def tkY (k y:Int):Option Int:=if k=2∨k=4∨k=6 then some (-2) else if k=5 then some (-1) else if k=3 then some y else none
def tkG (n:Nat) (k x y:Int):Nat:=match tkY k y with | some z=>setG n x z | none=>0
def tkR (n:Nat) (k x y:Int):List Nat:=match tkY k y with | some z=>kJ n x z | none=>dE n
def tkC (n:Nat) (k x y v:Int):List Cl:=if k=2 then (dK n).set x.toNat ⟨0,1,v⟩ else if k=3 then (dK n).set x.toNat (kA y.toNat) else if k=4 then (dK n).set x.toNat ⟨0,2,0⟩ else dK n
def spM (m:Int) (n:Nat):PS:=if m=2 then .two 2 1048576 3 n else if m=3 then .one 4 n else .one 1 0
def wtM (m:Int) (n:Nat) (k x y v:Int):PX:=if m=2 then .two (pC 1) (pF (tkG n k x y) (tkR n k x y)) else if m=3 then .one (pX (tkC n k x y v)) else .one (pC 0)
structure StOk (n:Nat) (k x y:Int):Prop where
 x:2≤k∧k≤6→0≤x∧x < (n:Int)
 y:k=3→0≤y∧y < (n:Int)
theorem uX {m:Int} {n:Nat} (hn:n≤64):(spM m n).ok:=by
 unfold spM
 by_cases h2:m=2
 ·rw [if_pos h2]
  refine ⟨by decide,?_⟩
  simp only [dD];simp;omega
 ·rw [if_neg h2]
  by_cases h3:m=3
  ·rw [if_pos h3]
   show dD 4 n 0=true
   simp only [dD];simp;omega
  ·rw [if_neg h3]
   show dD 1 0 0=true
   decide
theorem iL {n:Nat} {x z:Int} (hn:n≤64) (hx:0≤x∧x < (n:Int)) (hz : -2≤z∧z < (n:Int)):qV n x z=0:=by
 unfold qV
 have h1:kT n=true:=by simp [kT];omega
 have h2:oU n x z=true:=by simp [oU];omega
 rw [if_pos h1,if_pos h2]
theorem iM {m i:Nat} {r:Nat} (hm:m≤64) (h:r∈(dE m).set i 0):r < 2 ^ m∧r &&& 2 ^ i=0:=by
 obtain ⟨j,hj⟩:=List.getElem?_of_mem h
 rw [List.getElem?_set] at hj
 split at hj
 ·split at hj
  ·cases hj;exact ⟨Nat.two_pow_pos m,by simp⟩
  ·cases hj
 ·rename_i hij
  unfold dE at hj
  rw [List.getElem?_map] at hj
  obtain ⟨k,hk,e⟩:=Option.map_eq_some_iff.1 hj
  obtain ⟨hk1,hk2⟩:=List.getElem?_eq_some_iff.1 hk
  rw [List.getElem_range] at hk2
  subst hk2
  have hjm:j < m:=by simpa using hk1
  have hv:2 ^ j=r:=e
  subst hv
  refine ⟨Nat.pow_lt_pow_right (by decide) hjm,?_⟩
  apply Nat.eq_of_testBit_eq
  intro q
  rw [Nat.testBit_and,Nat.zero_testBit,Nat.testBit_two_pow,Nat.testBit_two_pow]
  by_cases h1:j=q
  ·subst h1;simp [hij]
  ·simp [h1]
theorem Ab {n:Nat} {k x y:Int} (hn:n≤64) (h:StOk n k x y):Good n (tkG n k x y) (tkR n k x y):=by
 unfold tkG tkR
 have key:∀ z:Int,(2≤k∧k≤6) → -2≤z→z < (n:Int)→Good n (setG n x z) (kJ n x z):=fun z hk h1 h2=>by
  obtain ⟨hx0,hx1⟩:=h.x hk
  have he:=iL hn ⟨hx0,hx1⟩ ⟨h1,h2⟩
  unfold setG kJ
  rw [if_pos he,Int.toNat_natCast]
  have hi:x.toNat < n:=by omega
  by_cases hz1:z = -1
  ·subst hz1
   rw [if_pos ⟨he,rfl⟩]
   unfold sB
   rw [if_neg (by omega)]
   exact ⟨hn,by simp [eL],Nat.pow_lt_pow_right (by decide) hi,fun r hr=>(iM hn hr).1,fun r hr=>(iM hn hr).2⟩
  ·rw [if_neg (fun h=>hz1 h.2)]
   refine ⟨hn,wJ _ _ _,Nat.two_pow_pos n,fun r hr=>?_,fun r hr=>by simp⟩
   unfold sB at hr
   split at hr
   ·obtain ⟨j,hj⟩:=List.getElem?_of_mem hr
    rw [List.getElem?_set] at hj
    split at hj
    ·split at hj
     ·cases hj
      refine Nat.or_lt_two_pow ?_ (Nat.pow_lt_pow_right (by decide) hi)
      cases hq:((dE n).set x.toNat 0)[z.toNat]? with
      | none=>exact Nat.two_pow_pos n
      | some q=>exact (iM hn (List.mem_of_getElem? hq)).1
     ·cases hj
    ·exact (iM hn (List.mem_of_getElem? hj)).1
   ·exact (iM hn hr).1
 unfold tkY
 split
 ·rename_i z hz
  split at hz
  ·rename_i h1
   cases hz
   exact key (-2) (by omega) (by omega) (by omega)
  ·split at hz
   ·rename_i h2
    cases hz
    exact key (-1) (by omega) (by omega) (by omega)
   ·split at hz
    ·rename_i h3
     cases hz
     have:=h.y h3
     exact key y (by omega) (by omega) (by omega)
    ·cases hz
 ·exact nE hn
theorem Ac {n:Nat} {k x y v:Int} (hn:n≤64) (h:StOk n k x y):Val n (tkC n k x y v):=by
 have key:∀ c:Cl,okAt n c=true→Val n ((dK n).set x.toNat c):=fun c hc=>by
  refine ⟨hn,by simp [dL],fun i d hi=>?_⟩
  rw [List.getElem?_set] at hi
  split at hi
  ·split at hi
   ·cases hi;exact hc
   ·cases hi
  ·exact (mV hn).ok i d hi
 unfold tkC
 split
 ·exact key _ (mU.2 ⟨Nat.two_pow_pos n,by simp [oB]⟩)
 ·split
  ·rename_i h3
   have hy:=h.y h3
   exact key _ ((mV hn).ok y.toNat _ (nF (by omega)))
  ·split
   ·exact key _ (mU.2 ⟨Nat.two_pow_pos n,by simp [oB]⟩)
   ·exact mV hn
def lB (blk:Nat):WF:=⟨false,0,0,none,0,0,[],none,0,0,[],some ⟨blk,0,none⟩,2,2⟩
theorem pl_pair {t n:Int} {l:Nat} (h:dD t n l=true):t≠5:=by
 rintro rfl;simp [dD] at h
set_option maxHeartbeats 2000000 in
theorem Bz (d:Nat) (s:SV) (e0:Int) (w:World) (hs:SIn w d s) (he:oC s=e0) :
  Calls prog 33 #[s.f.val] w fun e w'=>e = .returned (.int .i64 e0)∧Below w.heap.size w w':=by
 match d,s,hs with
 | d+1,.mk ⟨t,n,a,l,c⟩ ps,hs =>
 show Calls prog 33 #[.agg #[.int .i64 t,.int .i64 n,.slice a l c]] w _
 have hl:ps.length=l:=hs.1
 by_cases ht:t=5
 ·subst ht
  have hB:=Lib.hid (sbox w #[.int .i64 5,.int .i64 n,.slice a l c] 35)
  have BX:=Lib.hid (fX w (.cells #[.int .i64 5,.int .i64 n,.slice a l c] 35))
  have hpl:dD 5 n l=false:=by simp [dD]
  by_cases h0:n=0∧l=2
  ·obtain ⟨rfl,rfl⟩:=h0
   obtain ⟨p,q,rfl⟩:=two_of hl
   obtain ⟨_,b,off,ha,hb,hp,hq,_,_⟩:=hs.two
   obtain rfl:a=some ⟨b,off,none⟩:=ha
   obtain ⟨⟨pt,pn,pa,pl,pc⟩,pps⟩:=p
   obtain ⟨⟨qt,qn,qa,ql,qc⟩,qps⟩:=q
   have HP:=Lib.hid (hp.below hB.out);have HQ:=Lib.hid (hq.below hB.out)
   obtain ⟨r1,hr1⟩:∃ r,dD pt pn pl=r:=⟨_,rfl⟩
   obtain ⟨r2,hr2⟩:∃ r,dD qt qn ql=r:=⟨_,rfl⟩
   have HR1:=Lib.hid hr1;have HR2:=Lib.hid hr2
   have HE:Hid ((if r1=true∧r2=true then (0:Int) else 50)=e0):=by
    show _=_
    rw [← he];simp [oC,hpl,SV.pl,SV.f,hr1,hr2]
   obtain ⟨W0,hW0⟩:∃ W,w.alloc (.cells #[.int .i64 5,.int .i64 0,.slice (some ⟨b,off,none⟩) 2 c] 35)=W:=⟨_,rfl⟩
   rw [hW0] at BX HP HQ hB
   clear hs hl hp hq hr1 hr2 he hpl
   have NX:∀ W:World,Below W0.heap.size W0 W→Hid (W.cell? ⟨w.heap.size,0,none⟩=some (.int .i64 5)∧W.cell? ⟨w.heap.size,1,none⟩=some (.int .i64 0)∧W.cell? ⟨w.heap.size,2,none⟩=some (.slice (some ⟨b,off,none⟩) 2 c)):=fun _ h=>tM (mO BX.out h)
   have NNX:=Lib.hid NX
   clear NX
   obtain ⟨z0,z1,z2⟩:=(NNX.out _ (Below.refl _ _)).out
   go_enter func33,ntmps33
   go_wp2_with fail
   clear z0 z1 z2
   go_loopw [3,4] (fun o i wr=>Below W0.heap.size W0 wr∧((i = .int .i64 0∧o = .bool true)∨(i = .int .i64 1∧o = .bool r1)∨(i = .int .i64 2∧r1=true∧o = .bool r2))) (fun _ i _=>2 - (intOf i).toNat)
   case atStart=>exact ⟨Below.refl _ _,.inl ⟨rfl,rfl⟩⟩
   case round =>
    obtain ⟨hb1,hrel⟩:=hrel
    obtain ⟨x0,x1,x2⟩:=(NNX.out _ hb1).out
    obtain ⟨y0,y1,y2⟩:=HP.out.below hb1
    obtain ⟨v0,v1,v2⟩:=HQ.out.below hb1
    dsimp only [SV.f] at y0 y1 y2 v0 v1 v2
    simp only [Nat.add_assoc,Nat.reduceAdd] at v1 v2
    rcases hrel with ⟨rfl,rfl⟩ | ⟨rfl,rfl⟩ | ⟨rfl,hr,rfl⟩
    ·by_cases hp5:pt=5
     ·subst hp5
      have HF:Hid (r1=false):=by show _=_;rw [← HR1.out];simp [dD]
      go_wp2_with fail
      go_roundw
      case rel=>exact ⟨hb1,.inr (.inl ⟨rfl,by rw [HF.out]⟩)⟩
      case measure=>simp [intOf]
     ·have hp6:(pt != 5)=true:=by simp [hp5]
      go_wp2_with fail
      refine (mP pt pn pa pl pc hp5 r1 HR1.out _).mono ?_
      rintro e w3 ⟨rfl,hb3⟩
      cases r1
      all_goals
       simp only [Bool.false_eq_true,if_false,if_true]
       go_wp2_with fail
       go_roundw
       case rel=>exact ⟨hb1.trans (hb3.mono hb1.size),.inr (.inl ⟨rfl,rfl⟩)⟩
       case measure=>simp [intOf]
    ·cases r1
     ·have HE2:Hid ((50:Int)=e0):=by show _=_;rw [← HE.out];simp
      go_wp2_with fail
      go_ret
      exact ⟨Bp HE2.out,hB.out.trans (hb1.mono hB.out.size)⟩
     ·by_cases hp5:qt=5
      ·subst hp5
       have HF:Hid (r2=false):=by show _=_;rw [← HR2.out];simp [dD]
       go_wp2_with fail
       go_roundw
       case rel=>exact ⟨hb1,.inr (.inr ⟨by first | rfl | trivial,by first | rfl | trivial,by first | rfl | (rw [HF.out])⟩)⟩
       case measure=>simp [intOf]
      ·have hp6:(qt != 5)=true:=by simp [hp5]
       go_wp2_with fail
       refine (mP qt qn qa ql qc hp5 r2 HR2.out _).mono ?_
       rintro e w3 ⟨rfl,hb3⟩
       cases r2
       all_goals
        simp only [Bool.false_eq_true,if_false,if_true]
        go_wp2_with fail
        go_roundw
        case rel=>exact ⟨hb1.trans (hb3.mono hb1.size),.inr (.inr ⟨by first | rfl | trivial,by first | rfl | trivial,by first | rfl | trivial⟩)⟩
        case measure=>simp [intOf]
    ·have HE2:Hid ((if r2=true then (0:Int) else 50)=e0):=by show _=_;rw [← HE.out,hr];simp
     cases r2
     all_goals
      go_wp2_with fail
      go_ret
      exact ⟨Bp HE2.out,hB.out.trans (hb1.mono hB.out.size)⟩
  ·have HE:Hid ((50:Int)=e0):=by
    show _=_
    rw [← he,oC,hpl,if_neg (by simp),if_neg]
    rintro ⟨_,h1,h2,_⟩
    exact h0 ⟨h1,by omega⟩
   obtain ⟨W0,hW0⟩:∃ W,w.alloc (.cells #[.int .i64 5,.int .i64 n,.slice a l c] 35)=W:=⟨_,rfl⟩
   rw [hW0] at BX hB
   obtain ⟨x0,x1,x2⟩:=tM BX.out
   clear hs hl he hpl
   have hc:(n=0∧((n == 0)=true)∧((l:Int) == 2)=false)∨((n == 0)=false):=by
    by_cases hn:n=0
    ·exact .inl ⟨hn,by simp [hn],by simp;omega⟩
    ·exact .inr (by simp [hn])
   clear h0
   rcases hc with ⟨rfl,c1,c2⟩ | c1
   all_goals
    go_enter func33,ntmps33
    go_wp2_with fail
    go_loopw [3,4] (fun o i wr=>i = .int .i64 0∧o = .bool false∧W0=wr) (fun _ i _=>0)
    case atStart=>exact ⟨rfl,rfl,rfl⟩
    case round =>
     obtain ⟨rfl,rfl,rfl⟩:=hrel
     by_cases hl0:0 < l
     ·have g1:(0:Int) < (l:Int):=by omega
      go_wp2_with fail
      go_ret
      exact ⟨Bp HE.out,hB.out⟩
     ·obtain rfl:l=0:=by omega
      go_wp2_with fail
      go_ret
      exact ⟨Bp HE.out,hB.out⟩
 ·obtain ⟨r,hr⟩:∃ r,dD t n l=r:=⟨_,rfl⟩
  refine (mP t n a l c ht r hr w).mono ?_
  rintro e w1 ⟨rfl,hb⟩
  refine ⟨?_,hb⟩
  rw [← he,wE ht,hr]
structure PNew (n:Nat) (w:World) (t d:Int) (f:WF) (a:PF):Prop where
 is:PIs w t d f a
 ra:∀ ad,f.ra=some ad→n≤ad.block
 ca:∀ ad,f.ca=some ad→n≤ad.block
theorem PNew.below {n:Nat} {w w':World} {t d:Int} {f:WF} {a:PF} (h:PNew n w t d f a) (hb:Below w.heap.size w w'):PNew n w' t d f a:=⟨h.is.below hb,h.ra,h.ca⟩
theorem PNew.mono {n m:Nat} {w:World} {t d:Int} {f:WF} {a:PF} (h:PNew n w t d f a) (hm:m≤n):PNew m w t d f a:=⟨h.is,fun ad e=>Nat.le_trans hm (h.ra ad e),fun ad e=>Nat.le_trans hm (h.ca ad e)⟩
def gW (n:Nat) (w:World):PS→WF→PX→Prop
 | .one t d,f,.one a=>PNew n w t d f a
 | .two t d u m,f,.two a b=>f.pf=pC 0∧f.rl=0∧f.cl=0∧f.pl=2∧∃ blk g h,f.pa=some ⟨blk,0,none⟩∧n≤blk∧W6 w blk 0 g∧W6 w blk 6 h∧PNew n w t d g a∧PNew n w u m h b
 | _,_,_=>False
theorem gW.is {n:Nat} {w:World} {S:PS} {f:WF} {x:PX} (h:gW n w S f x):XIs w S f x:=by
 cases S<;>cases x<;>first | exact h.elim | exact PNew.is h | skip
 obtain ⟨h1,h2,h3,h4,blk,g,k,h5,_,h6,h7,h8,h9⟩:=h
 exact ⟨h1,h2,h3,h4,blk,0,g,k,h5,h6,by simpa using h7,h8.is,h9.is⟩
theorem gW.below {n:Nat} {w w':World} {S:PS} {f:WF} {x:PX} (h:gW n w S f x) (hb:Below w.heap.size w w'):gW n w' S f x:=by
 cases S<;>cases x<;>first | exact h.elim | exact PNew.below h hb | skip
 obtain ⟨h1,h2,h3,h4,blk,g,k,h5,h0,h6,h7,h8,h9⟩:=h
 exact ⟨h1,h2,h3,h4,blk,g,k,h5,h0,h6.below hb,h7.below hb,h8.below hb,h9.below hb⟩
theorem gW.mono {n m:Nat} {w:World} {S:PS} {f:WF} {x:PX} (h:gW n w S f x) (hm:m≤n):gW m w S f x:=by
 cases S<;>cases x<;>first | exact h.elim | exact PNew.mono h hm | skip
 obtain ⟨h1,h2,h3,h4,blk,g,k,h5,h0,h6,h7,h8,h9⟩:=h
 exact ⟨h1,h2,h3,h4,blk,g,k,h5,Nat.le_trans hm h0,h6,h7,h8.mono hm,h9.mono hm⟩
def pB (S:PS) (x:PX) (w:World) (e:Ending) (w':World):Prop:=∃ f:WF,e = .returned f.val∧gW w.heap.size w' S f x∧Below w.heap.size w w'
theorem iN {n:Nat} {w:World} {t d u m:Int} {blk:Nat} {g h:WF} {a b:PF} (h6:W6 w blk 0 g) (h7:W6 w blk 6 h) (hn:n≤blk) (ha:PNew n w t d g a) (hb:PNew n w u m h b):gW n w (.two t d u m) (lB blk) (.two a b) :=
 ⟨rfl,rfl,rfl,rfl,blk,g,h,rfl,hn,h6,h7,ha,hb⟩
def Row (w:World) (a:Option Addr) (zs:List Int):Prop :=
 zs=[]∨∃ b off,a=some ⟨b,off,none⟩∧∀ i,i < zs.length→w.cell? ⟨b,off+i,none⟩=some (.int .i64 (zs.getD i 0))
theorem yK {w:World} {a:Addr} {v:Value} (h:w.cell? a=some v):a.block < w.heap.size:=by
 rcases Nat.lt_or_ge a.block w.heap.size with h' | h'
 ·exact h'
 ·simp [World.cell?,Array.getElem?_eq_none h'] at h
theorem Row.below {w w':World} {a:Option Addr} {zs:List Int} (h:Row w a zs) (hb:Below w.heap.size w w'):Row w' a zs:=by
 rcases h with h | ⟨b,off,rfl,hc⟩
 ·exact .inl h
 ·refine .inr ⟨b,off,rfl,fun i hi=>?_⟩
  have h1:=hc i hi
  rw [hb.cell]
  ·exact h1
  ·exact yK h1
theorem gX:prog.follows .mixedOrders=true:=by kernel_rfl
theorem yL:prog.built 59 []=some #[.bool false,.int .i64 0,.int .u64 0,.slice none 0 0,.slice none 0 0,.slice none 0 0]:=by kernel_rfl
theorem bs_56_1 (v00:Value) (v01:Value) (v02:Value):Instr.fill (fun i=>some (i * 3,3)) ((Array.range (1 * 3)).map ((Value.cells (.agg #[.int .u64 0,.int .i64 0,.int .i64 0]))[· % (Value.cells (.agg #[.int .u64 0,.int .i64 0,.int .i64 0])).size]!)) [(0,.agg #[v00,v01,v02])]=some (List.toArray [v00,v01,v02]):=by kernel_rfl
theorem bs_57_2 (v00:Value) (v01:Value) (v02:Value) (v03:Value) (v04:Value) (v05:Value) (v10:Value) (v11:Value) (v12:Value) (v13:Value) (v14:Value) (v15:Value):Instr.fill (fun i=>some (i * 6,6)) ((Array.range (2 * 6)).map ((Value.cells (.agg #[.bool false,.int .i64 0,.int .u64 0,.slice none 0 0,.slice none 0 0,.slice none 0 0]))[· % (Value.cells (.agg #[.bool false,.int .i64 0,.int .u64 0,.slice none 0 0,.slice none 0 0,.slice none 0 0])).size]!)) [(0,.agg #[v00,v01,v02,v03,v04,v05]),(1,.agg #[v10,v11,v12,v13,v14,v15])]=some (List.toArray [v00,v01,v02,v03,v04,v05,v10,v11,v12,v13,v14,v15]):=by kernel_rfl
theorem pD (w:World) (b o:Nat):(Instr.fieldAt 35 (.pointer (some ⟨b,o,none⟩)) 0).run prog w = .ok (.pointer (some ⟨b,o+0,none⟩)) w:=by
 simp [Instr.fieldAt,run_underlying underlying35,Instr.sureAddr,go_sem,Addr.add_lit]
theorem rB (w:World) (b o:Nat):(Instr.fieldAt 35 (.pointer (some ⟨b,o,none⟩)) 1).run prog w = .ok (.pointer (some ⟨b,o+1,none⟩)) w:=by
 simp [Instr.fieldAt,run_underlying underlying35,Instr.sureAddr,go_sem,Addr.add_lit]
theorem lO (w:World) (b o:Nat):(Instr.fieldAt 35 (.pointer (some ⟨b,o,none⟩)) 2).run prog w = .ok (.pointer (some ⟨b,o+2,none⟩)) w:=by
 simp [Instr.fieldAt,run_underlying underlying35,Instr.sureAddr,go_sem,Addr.add_lit]
theorem rC (w:World) (b o:Nat):(Instr.fieldAt 59 (.pointer (some ⟨b,o,none⟩)) 0).run prog w = .ok (.pointer (some ⟨b,o+0,none⟩)) w:=by
 simp [Instr.fieldAt,run_underlying underlying59,Instr.sureAddr,go_sem,Addr.add_lit]
theorem rD (w:World) (b o:Nat):(Instr.fieldAt 59 (.pointer (some ⟨b,o,none⟩)) 1).run prog w = .ok (.pointer (some ⟨b,o+1,none⟩)) w:=by
 simp [Instr.fieldAt,run_underlying underlying59,Instr.sureAddr,go_sem,Addr.add_lit]
theorem pE (w:World) (b o:Nat):(Instr.fieldAt 59 (.pointer (some ⟨b,o,none⟩)) 2).run prog w = .ok (.pointer (some ⟨b,o+2,none⟩)) w:=by
 simp [Instr.fieldAt,run_underlying underlying59,Instr.sureAddr,go_sem,Addr.add_lit]
theorem iO (w:World) (b o:Nat):(Instr.fieldAt 59 (.pointer (some ⟨b,o,none⟩)) 3).run prog w = .ok (.pointer (some ⟨b,o+4,none⟩)) w:=by
 simp [Instr.fieldAt,run_underlying underlying59,Instr.sureAddr,go_sem,Addr.add_lit]
theorem gP (w:World) (b o:Nat):(Instr.fieldAt 59 (.pointer (some ⟨b,o,none⟩)) 4).run prog w = .ok (.pointer (some ⟨b,o+5,none⟩)) w:=by
 simp [Instr.fieldAt,run_underlying underlying59,Instr.sureAddr,go_sem,Addr.add_lit]
theorem goes_33:cL prog 33=true:=by kernel_rfl
theorem rE:cL prog 14=true:=by kernel_rfl
theorem uY:cL prog 24=true:=by kernel_rfl
theorem uZ:cL prog 34=true:=by kernel_rfl
theorem Ad:cL prog 26=true:=by kernel_rfl
theorem goes_47:cL prog 47=true:=by kernel_rfl
theorem gE.agree {A W:World} {lo:Nat} {a:Option Addr} {vs:List Value} (h:gE A a vs) (hl:∀ ad,a=some ad→lo≤ad.block) (hg:dN lo A W):gE W a vs:=by
 rcases h with h | ⟨b,off,rfl,hc⟩
 ·exact .inl h
 ·exact .inr ⟨b,off,rfl,fun i v hi=>hg.cell (p:=⟨b,off+i,none⟩) (hl ⟨b,off,none⟩ rfl) (hc i v hi)⟩
theorem lA.agree {A W:World} {lo:Nat} {a:Option Addr} {cs:List Cl} (h:lA A a cs) (hl:∀ ad,a=some ad→lo≤ad.block) (hg:dN lo A W):lA W a cs:=by
 rcases h with h | ⟨b,off,rfl,hc⟩
 ·exact .inl h
 ·exact .inr ⟨b,off,rfl,fun i c hi=>⟨hg.cell (p:=⟨b,_,none⟩) (hl ⟨b,off,none⟩ rfl) (hc i c hi).1,hg.cell (p:=⟨b,_,none⟩) (hl ⟨b,off,none⟩ rfl) (hc i c hi).2.1,hg.cell (p:=⟨b,_,none⟩) (hl ⟨b,off,none⟩ rfl) (hc i c hi).2.2⟩⟩
theorem W6.agree {A W:World} {lo b o:Nat} {f:WF} (h:W6 A b o f) (hb:lo≤b) (hg:dN lo A W):W6 W b o f :=
 ⟨hg.cell hb h.1,hg.cell hb h.2.1,hg.cell hb h.2.2.1,hg.cell hb h.2.2.2.1,hg.cell hb h.2.2.2.2.1,hg.cell hb h.2.2.2.2.2⟩
theorem PNew.agree {n:Nat} {A W:World} {t d:Int} {f:WF} {a:PF} (h:PNew n A t d f a) (hg:dN n A W):PNew n W t d f a :=
 ⟨⟨⟨h.is.at_.rows.agree h.ra hg,h.is.at_.rl,h.is.at_.g64,h.is.at_.r64,h.is.at_.cells.agree h.ca hg,h.is.at_.cl,h.is.at_.bits,h.is.at_.cmax⟩,h.is.pf,h.is.ok,h.is.pl⟩,h.ra,h.ca⟩
theorem gW.agree {n:Nat} {A W:World} {S:PS} {f:WF} {x:PX} (h:gW n A S f x) (hg:dN n A W):gW n W S f x:=by
 cases S<;>cases x<;>first | exact h.elim | exact PNew.agree h hg | skip
 obtain ⟨h1,h2,h3,h4,blk,g,k,h5,h0,h6,h7,h8,h9⟩:=h
 exact ⟨h1,h2,h3,h4,blk,g,k,h5,h0,h6.agree h0 hg,h7.agree h0 hg,h8.agree hg,h9.agree hg⟩
theorem W6.cells {w:World} {b o:Nat} {f:WF} (h:W6 w b o f):aM w b o f.six:=⟨h.1,h.2.1,h.2.2.1,h.2.2.2.1,h.2.2.2.2.1,h.2.2.2.2.2,trivial⟩
theorem W6.of_cells {w:World} {b o:Nat} {f:WF} (h:aM w b o f.six):W6 w b o f:=⟨h.1,h.2.1,h.2.2.1,h.2.2.2.1,h.2.2.2.2.1,h.2.2.2.2.2.1⟩
abbrev SF.three (f:SF):List Value:=[.int .i64 f.tag,.int .i64 f.dim,.slice f.a f.len f.cap]
theorem S3.cells {w:World} {b o:Nat} {f:SF} (h:S3 w b o f):aM w b o f.three:=⟨h.1,h.2.1,h.2.2,trivial⟩
abbrev gI (c:Int):WF:=⟨false,c,0,none,0,0,[],none,0,0,[],none,0,0⟩
abbrev gT (g:Nat) (a:Option Addr) (cap:Nat) (rows:List Nat):WF:=⟨false,0,g,a,rows.length,cap,rows,none,0,0,[],none,0,0⟩
abbrev cellsF (a:Option Addr) (cap:Nat) (cs:List Cl):WF:=⟨false,0,0,none,0,0,[],a,cs.length,cap,cs,none,0,0⟩
theorem Dn {n:Nat} {W:World} {t d c:Int} (h:OkP t d (pC c)):PNew n W t d (gI c) (pC c) :=
 ⟨⟨⟨.inl rfl,rfl,(by show (0:Nat) < _;decide),(fun r hr=>by cases hr),.inl rfl,rfl,(fun c hc=>by cases hc),(by show (0:Nat)≤_;decide)⟩,rfl,h,rfl⟩,(fun ad e=>by cases e),(fun ad e=>by cases e)⟩
theorem Ca {n:Nat} {W:World} {t d:Int} {g:Nat} {a:Option Addr} {cap:Nat} {rows:List Nat} (h:OkP t d (pF g rows)) (hg:g < 18446744073709551616) (hr:∀ r∈rows,r < 18446744073709551616) (hv:gE W a (fZ rows)) (hl:∀ ad,a=some ad→n≤ad.block):PNew n W t d (gT g a cap rows) (pF g rows) :=
 ⟨⟨⟨hv,rfl,hg,hr,.inl rfl,rfl,(fun c hc=>by cases hc),by simp [maxLen]⟩,rfl,h,rfl⟩,hl,(fun ad e=>by cases e)⟩
theorem Cb {n:Nat} {W:World} {t d:Int} {a:Option Addr} {cap:Nat} {cs:List Cl} (h:OkP t d (pX cs)) (hb:Bits cs) (hm:cs.length≤maxLen) (hv:lA W a cs) (hl:∀ ad,a=some ad→n≤ad.block):PNew n W t d (cellsF a cap cs) (pX cs) :=
 ⟨⟨⟨.inl rfl,rfl,(by show (0:Nat) < _;decide),(fun r hr=>by cases hr),hv,rfl,hb,hm⟩,rfl,h,rfl⟩,(fun ad e=>by cases e),hl⟩
theorem row_own {W:World} {B:Nat} {T:TypeId} {a b:Int} (h:W.heap[B]?=some (.cells (List.toArray [.int .i64 a,.int .i64 b]) T (0,0))):Row W (some ⟨B,0,none⟩) [a,b]:=by
 refine .inr ⟨B,0,rfl,fun i hi=>?_⟩
 match i,hi with
 | 0,_=>exact aI h rfl
 | 1,_=>exact aI h rfl
theorem Cc {t n:Int} {l:Nat} (h:dD t n l=true):t≠5:=pl_pair h
section
variable {w W:World} {k:Nat} {n:Int} {f g:WF} {x y:PF}
theorem wN {t:Int} {f:WF} {x:PF} (h:PNew w.heap.size W t n f x) (hb:Below w.heap.size w W):pB (.one t n) (.one x) w (.returned f.val) W:=⟨f,rfl,h,hb⟩
theorem one_f1 {t:Int} (hp:dD t n 0=true) (h3:t≠3) (h4:t≠4):PNew k W t n (gI 0) (hM t n):=by
 have h:=one_okP hp
 have e:hM t n=pC 0:=by unfold hM;rw [if_neg h3,if_neg h4]
 rw [e] at h ⊢
 exact Dn h
theorem one_f3 {m:Nat} {a:Option Addr} {cap:Nat} (hm:m≤64) (hv:gE W a (fZ (dE m))) (hl:∀ ad,a=some ad→k≤ad.block):PNew k W 3 m (gT 0 a cap (dE m)) (hM 3 m):=by
 rw [one_3]
 exact Ca (.facts m _ _ rfl rfl (nE hm)) (by decide) (nE hm).r64 hv hl
theorem one_f4 {m:Nat} {a:Option Addr} {cap:Nat} (hm:m≤64) (hv:lA W a (dK m)) (hl:∀ ad,a=some ad→k≤ad.block):PNew k W 4 m (cellsF a cap (dK m)) (hM 4 m):=by
 have h:=mV hm
 rw [one_4]
 exact Cb (.cells m _ rfl rfl h) h.bits (by have:=h.len;unfold maxLen;omega) hv hl
theorem dim3 {t:Int} {l:Nat} (h:dD t n l=true) (ht:t=3∨t=4):∃ m:Nat,n=m∧m≤64:=by
 obtain ⟨d0,_,_,d3⟩:=sA h
 exact ⟨n.toNat,by omega,by have:=d3 ht;omega⟩
end
def SIs (w:World):PS→SF→Prop
 | .one t n,f=>∃ a c,f=⟨t,n,a,0,c⟩
 | .two t n u m,f=>∃ b off c a1 c1 a2 c2,f=⟨5,0,some ⟨b,off,none⟩,2,c⟩∧S3 w b off ⟨t,n,a1,0,c1⟩∧S3 w b (off+3) ⟨u,m,a2,0,c2⟩
theorem SIs.below {w w':World} {S:PS} {f:SF} (h:SIs w S f) (hb:Below w.heap.size w w'):SIs w' S f:=by
 cases S with
 | one t n=>exact h
 | two t n u m =>
  obtain ⟨b,off,c,a1,c1,a2,c2,h1,h2,h3⟩:=h
  exact ⟨b,off,c,a1,c1,a2,c2,h1,h2.below hb,h3.below hb⟩
def gD (lo:Nat) (S:PS) (x:PX):Asr:=fun v w=>∃ f:WF,v=f.val∧gW lo w S f x
theorem iY {lo:Nat} {S:PS} {x:PX}:jJ (gD lo S x):=fun v w w' ⟨f,h1,h2⟩ hb=>⟨f,h1,h2.below hb⟩
theorem iZ {P:Program} {f:FuncId} {vs:Array Value} {w:World} {S:PS} {x:PX} {lo:Nat} (hlo:lo≤w.heap.size) (h:Calls P f vs w (pB S x w)):Calls P f vs w (Ct (gD lo S x) w):=h.mono fun e w' ⟨f,he,hn,hb⟩=>⟨f.val,he,⟨f,rfl,hn.mono hlo⟩,hb⟩
theorem holds2 {p q:Asr} {vs:List Value} {w:World} (h:qD [p,q] vs w):∃ a b,vs=[a,b]∧p a w∧q b w:=by
 match vs,h with
 | [a,b],h=>exact ⟨a,b,rfl,h.1,h.2.1⟩
attribute [local go_sem ↓] Go.wp_at_zero Go.wp_at_succ
theorem PIs.rows64 {w:World} {t n:Int} {l:Nat} {f:WF} {a:PF} (h:PIs w t n f a):f.rl≤64∧f.cl≤64:=by
 have h1:=h.at_.rl;have h2:=h.at_.cl;have h3:=h.pf;have h4:=h.ok
 subst h3
 unfold WF.pf at h4
 generalize hr:f.rows=rows at *
 generalize hc:f.cells=cells at *
 generalize f.g=g at *
 generalize f.z=z at *
 generalize f.c=c at *
 have key:rows.length≤64∧cells.length≤64:=by
  generalize hp:(⟨z,c,g,rows,cells⟩:PF)=p at h4
  cases h4 with
  | zero=>cases hp;exact ⟨by decide,by decide⟩
  | bool h=>cases hp;exact ⟨by decide,by decide⟩
  | cost c h h0 h1=>cases hp;exact ⟨by decide,by decide⟩
  | facts m g rows h hn hg=>cases hp;exact ⟨by rw [hg.hl];exact hg.hm,by decide⟩
  | cells m cs h hn hv=>cases hp;exact ⟨by decide,by rw [hv.len];exact hv.le⟩
 omega
end
section
open Go.RowKit
theorem Do (v0:Int):prog.built 88 [(0,.int .u64 v0)]=some #[.int .u64 v0,.int .i64 0,.int .i64 0]:=by kernel_rfl
theorem goes_49:cL prog 49=true:=by kernel_rfl
theorem inf_88:prog.info? 88=some Try.t88:=by kernel_rfl
theorem SIs.sin {w:World} {S:PS} {f:SF} (h:SIs w S f) (hok:S.ok):∃ s:SV,s.f=f∧SIn w 2 s∧oC s=0:=by
 cases S with
 | one t n =>
  obtain ⟨a,c,rfl⟩:=h
  exact ⟨.mk ⟨t,n,a,0,c⟩ [],rfl,⟨rfl,.inl rfl,by simp⟩,by
   show (if dD t n 0=true then (0:Int) else _)=0
   rw [if_pos (show dD t n 0=true from hok)]⟩
 | two t n u m =>
  obtain ⟨b,off,c,a1,c1,a2,c2,rfl,h1,h2⟩:=h
  refine ⟨.mk ⟨5,0,some ⟨b,off,none⟩,2,c⟩ [.mk ⟨t,n,a1,0,c1⟩ [],.mk ⟨u,m,a2,0,c2⟩ []],rfl,⟨rfl,.inr ⟨b,off,rfl,fun i p hi=>?_⟩,?_⟩,?_⟩
  ·match i,hi with
   | 0,hi=>simp at hi;subst hi;simpa [SV.f] using h1
   | 1,hi=>simp at hi;subst hi;simpa [SV.f] using h2
  ·intro p hp
   simp at hp
   rcases hp with rfl | rfl<;>exact ⟨rfl,.inl rfl,by simp⟩
  ·have e1:SV.pl (.mk ⟨t,n,a1,0,c1⟩ [])=true:=hok.1
   have e2:SV.pl (.mk ⟨u,m,a2,0,c2⟩ [])=true:=hok.2
   simp only [oC]
   rw [if_neg (by simp [dD]),if_pos ⟨trivial,trivial,rfl,by simp [e1,e2]⟩]
theorem XIs.two {w:World} {t n u m:Int} {f:WF} {a b:PF} (h:XIs w (.two t n u m) f (.two a b)):∃ (ra ca:Option Addr) (rc cc pc fb fo:Nat) (f1 f2:WF),f=⟨false,0,0,ra,0,rc,[],ca,0,cc,[],some ⟨fb,fo,none⟩,2,pc⟩∧W6 w fb fo f1∧W6 w fb (fo+6) f2∧PIs w t n f1 a∧PIs w u m f2 b:=by
 obtain ⟨h1,h2,h3,h4,blk,off,g,k,h5,h6,h7,h8,h9⟩:=h
 obtain ⟨z,c,gg,ra,rl,rc,rows,ca,cl,cc,cells,pa,pl,pc⟩:=f
 simp only [WF.pf,pC,PF.mk.injEq] at h1
 obtain ⟨rfl,rfl,rfl,rfl,rfl⟩:=h1
 dsimp only at h2 h3 h4 h5
 subst h2;subst h3;subst h4;subst h5
 exact ⟨ra,ca,rc,cc,pc,blk,off,g,k,rfl,h6,h7,h8,h9⟩
section
variable {w:World} {S:PS} {sf:SF} {f g:WF} {x y:PX}
end
section
variable {w:World} {S:PS} {sf:SF} {f g:WF} {x y:PX}
end
def FRow (w:World) (a:Option Addr) (fs:List WF):Prop:=fs=[]∨∃ b off,a=some ⟨b,off,none⟩∧∀ (i:Nat) f,fs[i]?=some f→W6 w b (off+i * 6) f
def wO (S:PS) (x:PX) (e0:Int) (w:World) (e:Ending) (w':World):Prop:=∃ f:WF,e = .returned (.tuple #[f.val,.int .i64 e0])∧gW w.heap.size w' S f x∧Below w.heap.size w w'
def smS:Nat→SV→Bool
 | 0,_=>false
 | k+1,.mk f ps=>decide (f.len≤3) && ps.all (smS k)
theorem vA {α:Type} {l:List α} {q:α→Bool} {i:Nat} {x:α} (h:l[i]?=some x) (hq:q x=false):l.all q=false:=by
 rw [List.all_eq_false];exact ⟨x,List.mem_of_getElem? h,by rw [hq];decide⟩
theorem wP {α:Type} {l:List α} {q:α→Bool} {i:Nat} {x:α} (h:l[i]?=some x) (ha:(l.take i).all q=true) (hq:q x=true):(l.take (i+1)).all q=true:=by
 rw [List.take_add_one,h];simp [ha,hq]
theorem lP {r:Bool} {C:Prop} (hr:r=true↔C) (h:¬ C):false=r:=by
 cases r
 ·rfl
 ·exact absurd (hr.1 rfl) h
theorem Dp {r:Bool} {C:Prop} (hr:r=true↔C) (h:C):true=r:=(hr.2 h).symm
theorem Cd (az:Bool) (ac:Int) (ag:Nat) (ara:Option Addr) (arl arc:Nat) (arows:List Nat) (aca:Option Addr) (acl acc:Nat) (acells:List Cl) (apa:Option Addr) (apc:Nat)(bz:Bool) (bc:Int) (bg:Nat) (bra:Option Addr) (brl brc:Nat) (brows:List Nat) (bca:Option Addr) (bcl bcc:Nat) (bcells:List Cl) (bpa:Option Addr) (bpc:Nat)(w:World) (hra:gE w ara (fZ arows)) (hla:arows.length=arl) (hma:arl≤100) (hca:lA w aca acells) (hka:acells.length=acl) (hna:acl≤100)(hrb:gE w bra (fZ brows)) (hlb:brows.length=brl) (hmb:brl≤100) (hcb:lA w bca bcells) (hkb:bcells.length=bcl) (hnb:bcl≤100)(r:Bool) (hr:r=true↔(az=bz∧ac=bc∧ag=bg∧arows=brows∧acells=bcells)) :
  Calls prog 14 #[.agg #[.bool az,.int .i64 ac,.int .u64 (ag:Int),.slice ara arl arc,.slice aca acl acc,.slice apa 0 apc],.agg #[.bool bz,.int .i64 bc,.int .u64 (bg:Int),.slice bra brl brc,.slice bca bcl bcc,.slice bpa 0 bpc]] w (fun e w'=>e = .returned (.bool r)∧Below w.heap.size w w'):=by
 refine cS (args:=[.agg #[.bool az,.int .i64 ac,.int .u64 (ag:Int),.slice ara arl arc,.slice aca acl acc,.slice apa 0 apc],.agg #[.bool bz,.int .i64 bc,.int .u64 (bg:Int),.slice bra brl brc,.slice bca bcl bcc,.slice bpa 0 bpc]]) func14 rfl ntmps14 rfl ?_
 have hS:=St.start w
 refine aR (aU (cR (cs:=[_,_,_,_,_,_]) hS rfl rfl rfl fun B1 W1 hS=>cR (cs:=[_,_,_,_,_,_]) hS rfl rfl rfl fun B2 W2 hS=>aK rfl rfl (aT (XF.thenN (aR (aR (aU (aQ (o':=0) rC rfl rfl rfl (aV isAgg4 rfl (aI (hS.at_ 1 rfl) rfl) rfl (aQ (o':=0) rC rfl rfl rfl (aV isAgg4 rfl (aI (hS.at_ 0 rfl) rfl) rfl (zL underlying4 rfl rfl rfl (aL rfl rfl (bK (d:=12) rfl (fun hc=>?_) (fun hc=>?_)))))))))))))))
 ·have hg12:=hc;clear hc
  refine aH (d:=12) rfl rfl rfl rfl (aH (d:=12) rfl rfl rfl rfl (aH (d:=12) rfl rfl rfl rfl (aH (d:=12) rfl rfl rfl rfl (aH (d:=12) rfl rfl rfl rfl (bC rfl rfl rfl (aL rfl rfl (aH (d:=19) rfl rfl rfl rfl (aH (d:=19) rfl rfl rfl rfl (aH (d:=19) rfl rfl rfl rfl (aH (d:=19) rfl rfl rfl rfl (aH (d:=19) rfl rfl rfl rfl (aH (d:=19) rfl rfl rfl rfl (bC rfl rfl rfl (aL rfl rfl (aH (d:=27) rfl rfl rfl rfl (aH (d:=27) rfl rfl rfl rfl (aH (d:=27) rfl rfl rfl rfl (aH (d:=27) rfl rfl rfl rfl (aH (d:=27) rfl rfl rfl rfl (aH (d:=27) rfl rfl rfl rfl (aH (d:=27) rfl rfl rfl rfl (bC rfl rfl rfl (aL rfl rfl (aH (d:=36) rfl rfl rfl rfl (aH (d:=36) rfl rfl rfl rfl (aH (d:=36) rfl rfl rfl rfl (aH (d:=36) rfl rfl rfl rfl (aH (d:=36) rfl rfl rfl rfl (aH (d:=36) rfl rfl rfl rfl (aH (d:=36) rfl rfl rfl rfl (bC rfl rfl rfl (aT (XF.thenN ?_)))))))))))))))))))))))))))))))))
  refine eA rfl (aR (aU (aK rfl rfl (aT (XF.thenN (bP (XF.thenR (XF.res (cG results14 rfl) ?_))))))))
  exact ⟨iR (lP hr (fun h=>by have h1:=h.1;subst h1;simp at hg12)),hS.below⟩
 ·have hg12:=hc;clear hc
  refine aF (d:=12) rfl rfl (aQ (o':=1) rD rfl rfl rfl (aF (d:=12) rfl rfl (aV isAgg3 rfl (aI (hS.at_ 1 rfl) rfl) rfl (aF (d:=12) rfl rfl (aQ (o':=1) rD rfl rfl rfl (aF (d:=12) rfl rfl (aV isAgg3 rfl (aI (hS.at_ 0 rfl) rfl) rfl (aF (d:=12) rfl rfl (cW rfl rfl rfl (bE rfl rfl rfl (aL rfl rfl (bK (d:=19) rfl (fun hc=>?_) (fun hc=>?_)))))))))))))
  ·have hg19:=of_decide_eq_true hc;clear hc
   refine aH (d:=19) rfl rfl rfl rfl (aH (d:=19) rfl rfl rfl rfl (aH (d:=19) rfl rfl rfl rfl (aH (d:=19) rfl rfl rfl rfl (aH (d:=19) rfl rfl rfl rfl (aH (d:=19) rfl rfl rfl rfl (bC rfl rfl rfl (aL rfl rfl (aH (d:=27) rfl rfl rfl rfl (aH (d:=27) rfl rfl rfl rfl (aH (d:=27) rfl rfl rfl rfl (aH (d:=27) rfl rfl rfl rfl (aH (d:=27) rfl rfl rfl rfl (aH (d:=27) rfl rfl rfl rfl (aH (d:=27) rfl rfl rfl rfl (bC rfl rfl rfl (aL rfl rfl (aH (d:=36) rfl rfl rfl rfl (aH (d:=36) rfl rfl rfl rfl (aH (d:=36) rfl rfl rfl rfl (aH (d:=36) rfl rfl rfl rfl (aH (d:=36) rfl rfl rfl rfl (aH (d:=36) rfl rfl rfl rfl (aH (d:=36) rfl rfl rfl rfl (bC rfl rfl rfl (aT (XF.thenN (eA rfl (aR (aU (aK rfl rfl (aT (XF.thenN (bP (XF.thenR (XF.res (cG results14 rfl) ?_)))))))))))))))))))))))))))))))))))
   exact ⟨iR (lP hr (fun h=>hg19 h.2.1)),hS.below⟩
  ·have hg19:=of_decide_eq_false hc;clear hc
   refine aF (d:=19) rfl rfl (aQ (o':=2) pE rfl rfl rfl (aF (d:=19) rfl rfl (bF (vs:=[_,_]) isAgg55 sizeOf55 rfl (aM.own (j:=2) (m:=2) (hS.at_ 1 rfl) rfl) rfl (aF (d:=19) rfl rfl (aQ (o':=2) pE rfl rfl rfl (aF (d:=19) rfl rfl (bF (vs:=[_,_]) isAgg55 sizeOf55 rfl (aM.own (j:=2) (m:=2) (hS.at_ 0 rfl) rfl) rfl (aF (d:=19) rfl rfl (cD (vs:=[_,_]) hS Ad rfl (wG _ _ _ _ _ _ _ _ _ (by omega) (by omega) (gE.below hra hS.below) (gE.below hrb hS.below) _ rfl _ _ hla hlb) rfl fun W3 hS=>aF (d:=19) rfl rfl (eX rfl rfl (bE rfl rfl rfl (aL rfl rfl (bK (d:=27) rfl (fun hc=>?_) (fun hc=>?_))))))))))))))
   ·have hg27:=hc;clear hc
    refine aH (d:=27) rfl rfl rfl rfl (aH (d:=27) rfl rfl rfl rfl (aH (d:=27) rfl rfl rfl rfl (aH (d:=27) rfl rfl rfl rfl (aH (d:=27) rfl rfl rfl rfl (aH (d:=27) rfl rfl rfl rfl (aH (d:=27) rfl rfl rfl rfl (bC rfl rfl rfl (aL rfl rfl (aH (d:=36) rfl rfl rfl rfl (aH (d:=36) rfl rfl rfl rfl (aH (d:=36) rfl rfl rfl rfl (aH (d:=36) rfl rfl rfl rfl (aH (d:=36) rfl rfl rfl rfl (aH (d:=36) rfl rfl rfl rfl (aH (d:=36) rfl rfl rfl rfl (bC rfl rfl rfl (aT (XF.thenN (eA rfl (aR (aU (aK rfl rfl (aT (XF.thenN (bP (XF.thenR (XF.res (cG results14 rfl) ?_)))))))))))))))))))))))))))
    exact ⟨iR (lP hr (fun h=>by obtain ⟨_,_,h3,h4,_⟩:=h;subst h3;subst h4;rw [Bv] at hg27;cases hg27)),hS.below⟩
   ·have hg27:=hc;clear hc
    refine aF (d:=27) rfl rfl (aQ (o':=4) iO rfl rfl rfl (aF (d:=27) rfl rfl (aV isAgg56 rfl (aI (hS.at_ 1 rfl) rfl) rfl (aF (d:=27) rfl rfl (bU underlying56 rfl rfl (aF (d:=27) rfl rfl (aQ (o':=4) iO rfl rfl rfl (aF (d:=27) rfl rfl (aV isAgg56 rfl (aI (hS.at_ 0 rfl) rfl) rfl (aF (d:=27) rfl rfl (bU underlying56 rfl rfl (aF (d:=27) rfl rfl (cW rfl rfl rfl (bE rfl rfl rfl (aL rfl rfl (bK (d:=36) rfl (fun hc=>?_) (fun hc=>?_)))))))))))))))))
    ·have hg36:=of_decide_eq_true hc;clear hc
     refine aH (d:=36) rfl rfl rfl rfl (aH (d:=36) rfl rfl rfl rfl (aH (d:=36) rfl rfl rfl rfl (aH (d:=36) rfl rfl rfl rfl (aH (d:=36) rfl rfl rfl rfl (aH (d:=36) rfl rfl rfl rfl (aH (d:=36) rfl rfl rfl rfl (bC rfl rfl rfl (aT (XF.thenN (eA rfl (aR (aU (aK rfl rfl (aT (XF.thenN (bP (XF.thenR (XF.res (cG results14 rfl) ?_))))))))))))))))))
     exact ⟨iR (lP hr (fun h=>by have h5:=h.2.2.2.2;subst h5;omega)),hS.below⟩
    ·have hg36:=of_decide_eq_false hc;clear hc
     have hz:az=bz:=by simpa using hg12
     have hcc:ac=bc:=by omega
     have hff:ag=bg∧arows=brows:=by simpa [rY] using hg27
     have hcl:acl=bcl:=by omega
     refine aF (d:=36) rfl rfl (aQ (o':=5) gP rfl rfl rfl (aF (d:=36) rfl rfl (aV isAgg57 rfl (aI (hS.at_ 1 rfl) rfl) rfl (aF (d:=36) rfl rfl (bU underlying57 rfl rfl (aF (d:=36) rfl rfl (aQ (o':=5) gP rfl rfl rfl (aF (d:=36) rfl rfl (aV isAgg57 rfl (aI (hS.at_ 0 rfl) rfl) rfl (aF (d:=36) rfl rfl (bU underlying57 rfl rfl (aF (d:=36) rfl rfl (cW rfl rfl rfl (bE rfl rfl rfl (aT (XF.thenN (bJ rfl (fun hc=>absurd (of_decide_eq_true hc) (by omega)) (fun hc=>?_))))))))))))))))))
     have hc:=of_decide_eq_false hc
     refine bQ (XF.thenN (aR (aR (aU (aK rfl rfl (aT (XF.thenN (bR (eI (fun q l W=>∃ i:Nat,i≤acl∧q=acl - i∧l=[(2,.pointer (some ⟨B1,0,none⟩)),(3,.pointer (some ⟨B2,0,none⟩)),(5,.int .i64 (i:Int))]∧acells.take i=bcells.take i∧St w [(B2,[.bool bz,.int .i64 bc,.int .u64 (bg:Int),.slice bra brl brc,.slice bca bcl bcc,.slice bpa 0 bpc],59),(B1,[.bool az,.int .i64 ac,.int .u64 (ag:Int),.slice ara arl arc,.slice aca acl acc,.slice apa 0 apc],59)] [] [] W) (acl - 0) ([(2,_),(3,_),(5,_)]) ⟨rfl,rfl,rfl,trivial⟩ (⟨0,Nat.zero_le _,rfl,rfl,rfl,hS.clear⟩) ?_)))))))))
     clear hS
     rintro q l W ⟨i,hi,rfl,rfl,hall,hS⟩
     refine aR (aR (aU (aL rfl rfl (aQ (o':=4) iO rfl rfl rfl (aV isAgg56 rfl (aI (hS.at_ 1 rfl) rfl) rfl (bU underlying56 rfl rfl (dA rfl rfl rfl (aT (XF.thenN (bJ rfl (fun hc=>?_) (fun hc=>?_)))))))))))
     ·have hc49:=of_decide_eq_true hc;clear hc
      have hk:i < acl:=by omega
      obtain ⟨b1,o1,x,hx1,hx2,_,x0,x1,x2⟩:=hca.at_ (k:=i) (by omega)
      obtain ⟨b2,o2,y,hy1,hy2,_,y0,y1,y2⟩:=hcb.at_ (k:=i) (by omega)
      subst hx1;subst hy1
      have k1:aM W b1 (o1+i * 3) [.int .u64 (x.f:Int),.int .i64 x.k,.int .i64 x.v]:=aM.agree hS.agree (Nat.zero_le _) ⟨x0,x1,x2,trivial⟩
      have k2:aM W b2 (o2+i * 3) [.int .u64 (y.f:Int),.int .i64 y.k,.int .i64 y.v]:=aM.agree hS.agree (Nat.zero_le _) ⟨y0,y1,y2,trivial⟩
      refine bQ (XF.thenN (aR (bR (aR (fK (m:=11) gX hS (by kernel_rfl) (by kernel_rfl) rfl (bZ 1 rfl 2 rfl rfl (fun w hw=>aO (o':=4) iO rfl rfl) rfl (aZ 2 rfl 52 0 rfl rfl rfl (fun w hw=>aS isAgg56 rfl ((aJ hw 0).cell (Nat.zero_le _) (aI (hS.at_ 1 rfl) rfl))) rfl (bZ 3 rfl 5 rfl rfl (fun w hw=>aW rfl) rfl (aD 4 rfl (isV _) (aB _) (rgV (li:=[(53,_),(54,_)]) rfl (aP rfl) ⟨aG 1 (aA rfl rfl rfl),aG 2 (aA rfl rfl rfl),trivial⟩ (fun w hw=>bH  underlying56 sizeOf88 rfl rfl rfl (by omega) rfl) (aC rfl)) (aZ 5 rfl 55 3 rfl rfl rfl (fun w hw=>cJ (vs:=[_,_,_]) isAgg88 sizeOf88 rfl (aM.agree (aJ hw 0) (Nat.zero_le _) (by assumption))) rfl (bZ 6 rfl 3 rfl rfl (fun w hw=>aO (o':=4) iO rfl rfl) rfl (aZ 7 rfl 57 5 rfl rfl rfl (fun w hw=>aS isAgg56 rfl ((aJ hw 0).cell (Nat.zero_le _) (aI (hS.at_ 0 rfl) rfl))) rfl (bZ 8 rfl 5 rfl rfl (fun w hw=>aW rfl) rfl (aD 9 rfl (isV _) (aB _) (rgV (li:=[(58,_),(59,_)]) rfl (aP rfl) ⟨aG 6 (aA rfl rfl rfl),aG 7 (aA rfl rfl rfl),trivial⟩ (fun w hw=>bH  underlying56 sizeOf88 rfl rfl rfl (by omega) rfl) (aC rfl)) (aZ 10 rfl 60 8 rfl rfl rfl (fun w hw=>cJ (vs:=[_,_,_]) isAgg88 sizeOf88 rfl (aM.agree (aJ hw 0) (Nat.zero_le _) (by assumption))) rfl (aD 11 rfl (isV _) (aB _) (rgV (li:=[(56,_),(61,_)]) rfl (aP rfl) ⟨aG 4 (aA rfl rfl rfl),aG 9 (aA rfl rfl rfl),trivial⟩ (fun w hw=>rn_binG rfl rfl (run_eqGuard_agg _ _ _ _ _ _ _ (by kernel_rfl)) (neq_is x y _ rfl w)) (aC rfl)) (dF ?_)))))))))))))))))
      intro W4 hbR hS'
      clear hS;have hS:=hS';clear hS'
      refine aE (aE (aE (aE (aE (aE (aE (aE (aE (aE (aE (bV (XF.thenN (bJ rfl (fun hc=>?_) (fun hc=>?_))))))))))))))
      ·have hc62:=hc;clear hc
       refine aR (aU (aK rfl rfl (aT (XF.thenN (bP (XF.blkR (XF.thenR (XF.thenR (XF.blkR (XF.thenR (XF.res (cG results14 rfl) ?_)))))))))))
       exact ⟨iR (lP hr (fun h=>by have h5:=h.2.2.2.2;subst h5;rw [hx2] at hy2;cases hy2;simp [mT] at hc62)),hS.below⟩
      ·have hc62:=hc;clear hc
       have hxy:x=y:=by
        obtain ⟨xf,xk,xv⟩:=x
        obtain ⟨yf,yk,yv⟩:=y
        simp [mT] at hc62
        simp [hc62]
       subst hxy
       refine bQ (XF.blkN (XF.thenN (aU (aL rfl rfl (dH rfl rfl (IntWalk.i64_in _ (by omega)) rfl (aK rfl rfl (aT ?_)))))))
       exact XF.round (acl - (i+1)) [(2,_),(3,_),(5,_)] (by omega) ⟨rfl,rfl,rfl,trivial⟩ ⟨i+1,by omega,rfl,rfl,by rw [List.take_add_one,List.take_add_one,hx2,hy2,hall],hS.clear⟩
     ·have hc49:=of_decide_eq_false hc;clear hc
      have hce:acells=bcells:=by
       rw [List.take_of_length_le (by omega),List.take_of_length_le (by omega)] at hall
       exact hall
      refine cZ (XF.thenX (XF.thenX (XF.blkX (XF.thenN (aR (aR (aU (aK rfl rfl (aT (XF.thenN (bR (eI (fun q l W=>l=[(2,.pointer (some ⟨B1,0,none⟩)),(3,.pointer (some ⟨B2,0,none⟩)),(6,.int .i64 0)]∧St w [(B2,[.bool bz,.int .i64 bc,.int .u64 (bg:Int),.slice bra brl brc,.slice bca bcl bcc,.slice bpa 0 bpc],59),(B1,[.bool az,.int .i64 ac,.int .u64 (ag:Int),.slice ara arl arc,.slice aca acl acc,.slice apa 0 apc],59)] [] [] W) (0) ([(2,_),(3,_),(6,_)]) ⟨rfl,rfl,rfl,trivial⟩ (⟨rfl,hS⟩) ?_))))))))))))
      clear hS
      rintro q l W ⟨rfl,hS⟩
      refine aR (aR (aU (aL rfl rfl (aQ (o':=5) gP rfl rfl rfl (aV isAgg57 rfl (aI (hS.at_ 1 rfl) rfl) rfl (bU underlying57 rfl rfl (dA rfl rfl rfl (aT (XF.thenN (bJ rfl (fun hc=>absurd (of_decide_eq_true hc) (by omega)) (fun hc=>?_)))))))))))
      have hc:=of_decide_eq_false hc
      refine cZ (XF.thenX (XF.thenX (XF.blkX (XF.thenN (aR (aU (aK rfl rfl (aT (XF.thenN (bP (XF.res (cG results14 rfl) ?_)))))))))))
      exact ⟨iR (Dp hr ⟨hz,hcc,hff.1,hff.2,hce⟩),hS.below⟩
theorem mW {w:World} {t n:Int} {f g:WF} {x y:PF} (hx:PIs w t n f x) (hy:PIs w t n g y) (r:Bool) (hr:r=true↔x=y):Calls prog 14 #[f.val,g.val] w fun e w'=>e = .returned (.bool r)∧Below w.heap.size w w':=by
 have h1:=hx.rows64 (l:=0);have h2:=hy.rows64 (l:=0)
 have e1:=hx.pl;have e2:=hy.pl
 have a1:=hx.at_;have a2:=hy.at_
 obtain rfl:=hx.pf
 obtain rfl:=hy.pf
 obtain ⟨az,ac,ag,ara,arl,arc,arows,aca,acl,acc,acells,apa,apl,apc⟩:=f
 obtain ⟨bz,bc,bg,bra,brl,brc,brows,bca,bcl,bcc,bcells,bpa,bpl,bpc⟩:=g
 dsimp only at e1 e2 h1 h2
 subst e1;subst e2
 refine Cd _ _ _ _ _ _ _ _ _ _ _ _ _ _ _ _ _ _ _ _ _ _ _ _ _ _ w a1.rows a1.rl (by dsimp only;omega) a1.cells a1.cl (by dsimp only;omega) a2.rows a2.rl (by dsimp only;omega) a2.cells a2.cl (by dsimp only;omega) r ?_
 rw [hr]
 simp [WF.pf]
theorem Ce (t n u m:Int) (fra fca:Option Addr) (frc fcc fpc fb fo:Nat) (f1 f2:WF)(gra gca:Option Addr) (grc gcc gpc gb go:Nat) (g1 g2:WF)(x1 x2 y1 y2:PF) (w:World) (hf6:W6 w fb fo f1) (hf7:W6 w fb (fo+6) f2) (hg6:W6 w gb go g1) (hg7:W6 w gb (go+6) g2) (hx1:PIs w t n f1 x1) (hx2:PIs w u m f2 x2) (hy1:PIs w t n g1 y1) (hy2:PIs w u m g2 y2) (r r1 r2:Bool) (hr:r=true↔(x1=y1∧x2=y2)) (hr1:r1=true↔x1=y1) (hr2:r2=true↔x2=y2) :
  Calls prog 14 #[.agg #[.bool false,.int .i64 0,.int .u64 0,.slice fra 0 frc,.slice fca 0 fcc,.slice (some ⟨fb,fo,none⟩) 2 fpc],.agg #[.bool false,.int .i64 0,.int .u64 0,.slice gra 0 grc,.slice gca 0 gcc,.slice (some ⟨gb,go,none⟩) 2 gpc]] w (fun e w'=>e = .returned (.bool r)∧Below w.heap.size w w'):=by
 refine cS (args:=[.agg #[.bool false,.int .i64 0,.int .u64 0,.slice fra 0 frc,.slice fca 0 fcc,.slice (some ⟨fb,fo,none⟩) 2 fpc],.agg #[.bool false,.int .i64 0,.int .u64 0,.slice gra 0 grc,.slice gca 0 gcc,.slice (some ⟨gb,go,none⟩) 2 gpc]]) func14 rfl ntmps14 rfl ?_
 have hS:=St.start w
 refine aR (aU (cR (cs:=[_,_,_,_,_,_]) hS rfl rfl rfl fun B1 W1 hS=>cR (cs:=[_,_,_,_,_,_]) hS rfl rfl rfl fun B2 W2 hS=>aK rfl rfl (aT (XF.thenN (aR (aR (aU (aQ (o':=0) rC rfl rfl rfl (aV isAgg4 rfl (aI (hS.at_ 1 rfl) rfl) rfl (aQ (o':=0) rC rfl rfl rfl (aV isAgg4 rfl (aI (hS.at_ 0 rfl) rfl) rfl (zL underlying4 rfl rfl rfl (aL rfl rfl (bK (d:=12) rfl (fun hc=>absurd hc (by decide)) (fun hc=>?_)))))))))))))))
 skip
 refine aF (d:=12) rfl rfl (aQ (o':=1) rD rfl rfl rfl (aF (d:=12) rfl rfl (aV isAgg3 rfl (aI (hS.at_ 1 rfl) rfl) rfl (aF (d:=12) rfl rfl (aQ (o':=1) rD rfl rfl rfl (aF (d:=12) rfl rfl (aV isAgg3 rfl (aI (hS.at_ 0 rfl) rfl) rfl (aF (d:=12) rfl rfl (cW rfl rfl rfl (bE rfl rfl rfl (aL rfl rfl (bK (d:=19) rfl (fun hc=>absurd (of_decide_eq_true hc) (by omega)) (fun hc=>?_)))))))))))))
 have hc:=of_decide_eq_false hc
 refine aF (d:=19) rfl rfl (aQ (o':=2) pE rfl rfl rfl (aF (d:=19) rfl rfl (bF (vs:=[_,_]) isAgg55 sizeOf55 rfl (aM.own (j:=2) (m:=2) (hS.at_ 1 rfl) rfl) rfl (aF (d:=19) rfl rfl (aQ (o':=2) pE rfl rfl rfl (aF (d:=19) rfl rfl (bF (vs:=[_,_]) isAgg55 sizeOf55 rfl (aM.own (j:=2) (m:=2) (hS.at_ 0 rfl) rfl) rfl (aF (d:=19) rfl rfl (cD (vs:=[_,_]) hS Ad rfl (wG _ _ _ _ 0 0 [] [] _ (by simp) (by simp) (.inl rfl) (.inl rfl) true rfl _ _ rfl rfl) rfl fun W3 hS=>aF (d:=19) rfl rfl (eX rfl rfl (bE rfl rfl rfl (aL rfl rfl (bK (d:=27) rfl (fun hc=>absurd hc (by decide)) (fun hc=>?_))))))))))))))
 skip
 refine aF (d:=27) rfl rfl (aQ (o':=4) iO rfl rfl rfl (aF (d:=27) rfl rfl (aV isAgg56 rfl (aI (hS.at_ 1 rfl) rfl) rfl (aF (d:=27) rfl rfl (bU underlying56 rfl rfl (aF (d:=27) rfl rfl (aQ (o':=4) iO rfl rfl rfl (aF (d:=27) rfl rfl (aV isAgg56 rfl (aI (hS.at_ 0 rfl) rfl) rfl (aF (d:=27) rfl rfl (bU underlying56 rfl rfl (aF (d:=27) rfl rfl (cW rfl rfl rfl (bE rfl rfl rfl (aL rfl rfl (bK (d:=36) rfl (fun hc=>absurd (of_decide_eq_true hc) (by omega)) (fun hc=>?_)))))))))))))))))
 have hc:=of_decide_eq_false hc
 refine aF (d:=36) rfl rfl (aQ (o':=5) gP rfl rfl rfl (aF (d:=36) rfl rfl (aV isAgg57 rfl (aI (hS.at_ 1 rfl) rfl) rfl (aF (d:=36) rfl rfl (bU underlying57 rfl rfl (aF (d:=36) rfl rfl (aQ (o':=5) gP rfl rfl rfl (aF (d:=36) rfl rfl (aV isAgg57 rfl (aI (hS.at_ 0 rfl) rfl) rfl (aF (d:=36) rfl rfl (bU underlying57 rfl rfl (aF (d:=36) rfl rfl (cW rfl rfl rfl (bE rfl rfl rfl (aT (XF.thenN (bJ rfl (fun hc=>absurd (of_decide_eq_true hc) (by omega)) (fun hc=>?_))))))))))))))))))
 have hc:=of_decide_eq_false hc
 refine bQ (XF.thenN (aR (aR (aU (aK rfl rfl (aT (XF.thenN (bR (eI (fun q l W=>l=[(2,.pointer (some ⟨B1,0,none⟩)),(3,.pointer (some ⟨B2,0,none⟩)),(5,.int .i64 0)]∧St w [(B2,[.bool false,.int .i64 0,.int .u64 0,.slice gra 0 grc,.slice gca 0 gcc,.slice (some ⟨gb,go,none⟩) 2 gpc],59),(B1,[.bool false,.int .i64 0,.int .u64 0,.slice fra 0 frc,.slice fca 0 fcc,.slice (some ⟨fb,fo,none⟩) 2 fpc],59)] [] [] W) (0) ([(2,_),(3,_),(5,_)]) ⟨rfl,rfl,rfl,trivial⟩ (⟨rfl,hS.clear⟩) ?_)))))))))
 clear hS
 rintro q l W ⟨rfl,hS⟩
 refine aR (aR (aU (aL rfl rfl (aQ (o':=4) iO rfl rfl rfl (aV isAgg56 rfl (aI (hS.at_ 1 rfl) rfl) rfl (bU underlying56 rfl rfl (dA rfl rfl rfl (aT (XF.thenN (bJ rfl (fun hc=>absurd (of_decide_eq_true hc) (by omega)) (fun hc=>?_)))))))))))
 have hc:=of_decide_eq_false hc
 refine cZ (XF.thenX (XF.thenX (XF.blkX (XF.thenN (aR (aR (aU (aK rfl rfl (aT (XF.thenN (bR (eI (fun q l W=>(q=2∧l=[(2,.pointer (some ⟨B1,0,none⟩)),(3,.pointer (some ⟨B2,0,none⟩)),(6,.int .i64 0)]∧St w [(B2,[.bool false,.int .i64 0,.int .u64 0,.slice gra 0 grc,.slice gca 0 gcc,.slice (some ⟨gb,go,none⟩) 2 gpc],59),(B1,[.bool false,.int .i64 0,.int .u64 0,.slice fra 0 frc,.slice fca 0 fcc,.slice (some ⟨fb,fo,none⟩) 2 fpc],59)] [] [] W)∨(q=1∧l=[(2,.pointer (some ⟨B1,0,none⟩)),(3,.pointer (some ⟨B2,0,none⟩)),(6,.int .i64 1)]∧r1=true∧St w [(B2,[.bool false,.int .i64 0,.int .u64 0,.slice gra 0 grc,.slice gca 0 gcc,.slice (some ⟨gb,go,none⟩) 2 gpc],59),(B1,[.bool false,.int .i64 0,.int .u64 0,.slice fra 0 frc,.slice fca 0 fcc,.slice (some ⟨fb,fo,none⟩) 2 fpc],59)] [] [] W)∨(q=0∧l=[(2,.pointer (some ⟨B1,0,none⟩)),(3,.pointer (some ⟨B2,0,none⟩)),(6,.int .i64 2)]∧r1=true∧r2=true∧St w [(B2,[.bool false,.int .i64 0,.int .u64 0,.slice gra 0 grc,.slice gca 0 gcc,.slice (some ⟨gb,go,none⟩) 2 gpc],59),(B1,[.bool false,.int .i64 0,.int .u64 0,.slice fra 0 frc,.slice fca 0 fcc,.slice (some ⟨fb,fo,none⟩) 2 fpc],59)] [] [] W)) (2) ([(2,_),(3,_),(6,_)]) ⟨rfl,rfl,rfl,trivial⟩ (.inl ⟨rfl,rfl,hS⟩) ?_))))))))))))
 clear hS
 rintro q l W (⟨rfl,rfl,hS⟩ | ⟨rfl,rfl,hq1,hS⟩ | ⟨rfl,rfl,hq1,hq2,hS⟩)
 ·have k1:=aM.agree hS.agree (Nat.zero_le _) hf6.cells
  have k2:=aM.agree hS.agree (Nat.zero_le _) hg6.cells
  refine aR (aR (aU (aL rfl rfl (aQ (o':=5) gP rfl rfl rfl (aV isAgg57 rfl (aI (hS.at_ 1 rfl) rfl) rfl (bU underlying57 rfl rfl (dA rfl rfl rfl (aT (XF.thenN (bJ rfl (fun hc=>?_) (fun hc=>absurd (of_decide_eq_false hc) (by omega))))))))))))
  have hc:=of_decide_eq_true hc
  refine bQ (XF.thenN (aR (bR (aR (fK (m:=12) gX hS (by kernel_rfl) (by kernel_rfl) rfl (bZ 1 rfl 2 rfl rfl (fun w hw=>aO (o':=5) gP rfl rfl) rfl (aZ 2 rfl 70 0 rfl rfl rfl (fun w hw=>aS isAgg57 rfl ((aJ hw 0).cell (Nat.zero_le _) (aI (hS.at_ 1 rfl) rfl))) rfl (bZ 3 rfl 6 rfl rfl (fun w hw=>aW rfl) rfl (aD 4 rfl (isV _) (aB _) (rgV (li:=[(71,_),(72,_)]) rfl (aP rfl) ⟨aG 1 (aA rfl rfl rfl),aG 2 (aA rfl rfl rfl),trivial⟩ (fun w hw=>bH (j:=0) underlying57 sizeOf59 rfl rfl rfl (by omega) (Nat.add_zero _)) (aC rfl)) (aZ 5 rfl 73 3 rfl rfl rfl (fun w hw=>cJ (vs:=[_,_,_,_,_,_]) isAgg59 sizeOf59 rfl (aM.agree (aJ hw 0) (Nat.zero_le _) (by assumption))) rfl (bZ 6 rfl 3 rfl rfl (fun w hw=>aO (o':=5) gP rfl rfl) rfl (aZ 7 rfl 75 5 rfl rfl rfl (fun w hw=>aS isAgg57 rfl ((aJ hw 0).cell (Nat.zero_le _) (aI (hS.at_ 0 rfl) rfl))) rfl (bZ 8 rfl 6 rfl rfl (fun w hw=>aW rfl) rfl (aD 9 rfl (isV _) (aB _) (rgV (li:=[(76,_),(77,_)]) rfl (aP rfl) ⟨aG 6 (aA rfl rfl rfl),aG 7 (aA rfl rfl rfl),trivial⟩ (fun w hw=>bH (j:=0) underlying57 sizeOf59 rfl rfl rfl (by omega) (Nat.add_zero _)) (aC rfl)) (aZ 10 rfl 78 8 rfl rfl rfl (fun w hw=>cJ (vs:=[_,_,_,_,_,_]) isAgg59 sizeOf59 rfl (aM.agree (aJ hw 0) (Nat.zero_le _) (by assumption))) rfl ?_)))))))))))))))
  refine aD 11 rfl (isV (.bool r1)) (aB _) (cH [isV _,isV _] rfl rE (aP rfl) ⟨bO (aG 4 (aA rfl rfl rfl)),bO (aG 9 (aA rfl rfl rfl)),trivial⟩ (fun vs w' hb hh=>by have e:=bN (us:=[_,_]) hh;subst e;exact (mW (hx1.below (hS.below.trans (hb.mono hS.below.size))) (hy1.below (hS.below.trans (hb.mono hS.below.size))) r1 hr1).mono fun e w2 h=>⟨.bool r1,h.1,rfl,h.2⟩) (aC rfl)) ?_
  refine aZ 12 rfl 80 10 rfl rfl rfl (fun w hw=>dM rfl) rfl (dF ?_)
  intro W4 hbR hS'
  clear hS;have hS:=hS';clear hS'
  refine aE (aE (aE (aE (aE (aE (aE (aE (aE (aE (aE (aE (bV (XF.thenN (bJ rfl (fun hc=>?_) (fun hc=>?_)))))))))))))))
  ·have hc81:=hc;clear hc
   refine aR (aU (aK rfl rfl (aT (XF.thenN (bP (XF.blkR (XF.thenR (XF.thenR (XF.blkR (XF.thenR (XF.res (cG results14 rfl) ?_)))))))))))
   exact ⟨iR (lP hr (fun h=>by rw [hr1.2 h.1] at hc81;cases hc81)),hS.below⟩
  ·have hc81:=hc;clear hc
   refine bQ (XF.blkN (XF.thenN (aU (aL rfl rfl (dH rfl rfl (IntWalk.i64_in _ (by omega)) rfl (aK rfl rfl (aT ?_)))))))
   exact XF.round 1 [(2,_),(3,_),(6,_)] (by omega) ⟨rfl,rfl,rfl,trivial⟩ (.inr (.inl ⟨rfl,rfl,by simpa using hc81,hS.clear⟩))
 ·have k1:=aM.agree hS.agree (Nat.zero_le _) hf7.cells
  have k2:=aM.agree hS.agree (Nat.zero_le _) hg7.cells
  refine aR (aR (aU (aL rfl rfl (aQ (o':=5) gP rfl rfl rfl (aV isAgg57 rfl (aI (hS.at_ 1 rfl) rfl) rfl (bU underlying57 rfl rfl (dA rfl rfl rfl (aT (XF.thenN (bJ rfl (fun hc=>?_) (fun hc=>absurd (of_decide_eq_false hc) (by omega))))))))))))
  have hc:=of_decide_eq_true hc
  refine bQ (XF.thenN (aR (bR (aR (fK (m:=12) gX hS (by kernel_rfl) (by kernel_rfl) rfl (bZ 1 rfl 2 rfl rfl (fun w hw=>aO (o':=5) gP rfl rfl) rfl (aZ 2 rfl 70 0 rfl rfl rfl (fun w hw=>aS isAgg57 rfl ((aJ hw 0).cell (Nat.zero_le _) (aI (hS.at_ 1 rfl) rfl))) rfl (bZ 3 rfl 6 rfl rfl (fun w hw=>aW rfl) rfl (aD 4 rfl (isV _) (aB _) (rgV (li:=[(71,_),(72,_)]) rfl (aP rfl) ⟨aG 1 (aA rfl rfl rfl),aG 2 (aA rfl rfl rfl),trivial⟩ (fun w hw=>bH (j:=1) underlying57 sizeOf59 rfl rfl rfl (by omega) rfl) (aC rfl)) (aZ 5 rfl 73 3 rfl rfl rfl (fun w hw=>cJ (vs:=[_,_,_,_,_,_]) isAgg59 sizeOf59 rfl (aM.agree (aJ hw 0) (Nat.zero_le _) (by assumption))) rfl (bZ 6 rfl 3 rfl rfl (fun w hw=>aO (o':=5) gP rfl rfl) rfl (aZ 7 rfl 75 5 rfl rfl rfl (fun w hw=>aS isAgg57 rfl ((aJ hw 0).cell (Nat.zero_le _) (aI (hS.at_ 0 rfl) rfl))) rfl (bZ 8 rfl 6 rfl rfl (fun w hw=>aW rfl) rfl (aD 9 rfl (isV _) (aB _) (rgV (li:=[(76,_),(77,_)]) rfl (aP rfl) ⟨aG 6 (aA rfl rfl rfl),aG 7 (aA rfl rfl rfl),trivial⟩ (fun w hw=>bH (j:=1) underlying57 sizeOf59 rfl rfl rfl (by omega) rfl) (aC rfl)) (aZ 10 rfl 78 8 rfl rfl rfl (fun w hw=>cJ (vs:=[_,_,_,_,_,_]) isAgg59 sizeOf59 rfl (aM.agree (aJ hw 0) (Nat.zero_le _) (by assumption))) rfl ?_)))))))))))))))
  refine aD 11 rfl (isV (.bool r2)) (aB _) (cH [isV _,isV _] rfl rE (aP rfl) ⟨bO (aG 4 (aA rfl rfl rfl)),bO (aG 9 (aA rfl rfl rfl)),trivial⟩ (fun vs w' hb hh=>by have e:=bN (us:=[_,_]) hh;subst e;exact (mW (hx2.below (hS.below.trans (hb.mono hS.below.size))) (hy2.below (hS.below.trans (hb.mono hS.below.size))) r2 hr2).mono fun e w2 h=>⟨.bool r2,h.1,rfl,h.2⟩) (aC rfl)) ?_
  refine aZ 12 rfl 80 10 rfl rfl rfl (fun w hw=>dM rfl) rfl (dF ?_)
  intro W5 hbR hS'
  clear hS;have hS:=hS';clear hS'
  refine aE (aE (aE (aE (aE (aE (aE (aE (aE (aE (aE (aE (bV (XF.thenN (bJ rfl (fun hc=>?_) (fun hc=>?_)))))))))))))))
  ·have hc81:=hc;clear hc
   refine aR (aU (aK rfl rfl (aT (XF.thenN (bP (XF.blkR (XF.thenR (XF.thenR (XF.blkR (XF.thenR (XF.res (cG results14 rfl) ?_)))))))))))
   exact ⟨iR (lP hr (fun h=>by rw [hr2.2 h.2] at hc81;cases hc81)),hS.below⟩
  ·have hc81:=hc;clear hc
   refine bQ (XF.blkN (XF.thenN (aU (aL rfl rfl (dH rfl rfl (IntWalk.i64_in _ (by omega)) rfl (aK rfl rfl (aT ?_)))))))
   exact XF.round 0 [(2,_),(3,_),(6,_)] (by omega) ⟨rfl,rfl,rfl,trivial⟩ (.inr (.inr ⟨rfl,rfl,hq1,by simpa using hc81,hS.clear⟩))
 ·skip
  refine aR (aR (aU (aL rfl rfl (aQ (o':=5) gP rfl rfl rfl (aV isAgg57 rfl (aI (hS.at_ 1 rfl) rfl) rfl (bU underlying57 rfl rfl (dA rfl rfl rfl (aT (XF.thenN (bJ rfl (fun hc=>absurd (of_decide_eq_true hc) (by omega)) (fun hc=>?_)))))))))))
  have hc:=of_decide_eq_false hc
  refine cZ (XF.thenX (XF.thenX (XF.blkX (XF.thenN (aR (aU (aK rfl rfl (aT (XF.thenN (bP (XF.res (cG results14 rfl) ?_)))))))))))
  exact ⟨iR (Dp hr ⟨hr1.1 hq1,hr2.1 hq2⟩),hS.below⟩
theorem sD {w:World} {S:PS} {f g:WF} {x y:PX} (hx:XIs w S f x) (hy:XIs w S g y) (r:Bool) (hr:r=true↔x=y):Calls prog 14 #[f.val,g.val] w fun e w'=>e = .returned (.bool r)∧Below w.heap.size w w':=by
 classical
 cases S<;>cases x<;>cases y<;>first | exact hx.elim | exact hy.elim | skip
 ·exact mW hx hy r (by rw [hr];simp)
 ·obtain ⟨ra,ca,rc,cc,pc,fb,fo,f1,f2,rfl,h6,h7,h8,h9⟩:=hx.two
  obtain ⟨ra',ca',rc',cc',pc',gb,go,g1,g2,rfl,h6',h7',h8',h9'⟩:=hy.two
  exact Ce _ _ _ _ _ _ _ _ _ _ _ _ _ _ _ _ _ _ _ _ _ _ _ _ _ _ w h6 h7 h6' h7' h8 h9 h8' h9' r (decide _) (decide _) (by rw [hr];simp) decide_eq_true_iff decide_eq_true_iff
theorem frow2 {W:World} {B:Nat} {T:TypeId} {f g:WF} (h:W.heap[B]?=some (.cells (List.toArray (f.six++g.six)) T (0,0))):FRow W (some ⟨B,0,none⟩) [f,g] :=
 .inr ⟨B,0,rfl,fun i k hi=>by
  match i,hi with
  | 0,hi=>simp at hi;subst hi;exact W6.of_cells (aM.own (j:=0) (m:=6) h rfl)
  | 1,hi=>simp at hi;subst hi;exact W6.of_cells (aM.own (j:=6) (m:=6) h rfl)⟩
set_option linter.unusedSimpArgs false
def pc:Nat→Nat→Nat
 | 0,_=>0
 | n+1,f=>pc n f+(if f.testBit n then 1 else 0)
def eqS:Nat→SV→SV→Bool
 | 0,_,_=>false
 | k+1,.mk f ps,.mk g qs=>decide (f.tag=g.tag) && (decide (f.dim=g.dim) && (decide (ps.length=qs.length) && (ps.zip qs).all fun x=>eqS k x.1 x.2))
theorem smS_succ {j:Nat} {f:SF} {ps:List SV} (h:smS (j+1) (.mk f ps)=true):f.len≤3∧∀ p∈ps,smS j p=true:=by
 simp only [smS,Bool.and_eq_true,decide_eq_true_eq,List.all_eq_true] at h
 exact h
def mxS:Nat→SV→Bool
 | 0,_=>false
 | k+1,.mk f ps=>decide (f.len≤9223372036854775807) && ps.all (mxS k)
theorem wQ {j:Nat} {f:SF} {ps:List SV} (h:mxS (j+1) (.mk f ps)=true):f.len≤9223372036854775807∧∀ p∈ps,mxS j p=true:=by
 simp only [mxS,Bool.and_eq_true,decide_eq_true_eq,List.all_eq_true] at h
 exact h
theorem Dq:∀ {j:Nat} {s:SV},smS j s=true→mxS j s=true
 | 0,_,h=>by simp [smS] at h
 | j+1,.mk f ps,h=>by
  simp only [smS,mxS,Bool.and_eq_true,decide_eq_true_eq,List.all_eq_true] at h ⊢
  exact ⟨Nat.le_trans h.1 (by decide),fun p hp=>Dq (h.2 p hp)⟩
theorem pS (k j:Nat) (t n u m:Int) (pa qa:Option Addr) (pl ql pc qc:Nat) (ps qs:List SV) (w:World) (hps:ps.length=pl) (hqs:qs.length=ql) (hrow:wD w pa ps) (hrow2:wD w qa qs) (hin:∀ p∈ps,SIn w k p) (hin2:∀ p∈qs,SIn w k p) (hpl:pl≤9223372036854775807) (hsm:∀ p∈ps,mxS j p=true) (ih:∀ (p q:SV) (W:World),SIn W k p→SIn W k q→mxS j p=true→Calls prog 24 #[p.f.val,q.f.val] W fun e w'=>e = .returned (.bool (eqS k p q))∧Below W.heap.size W w') :
  Calls prog 24 #[.agg #[.int .i64 t,.int .i64 n,.slice pa pl pc],.agg #[.int .i64 u,.int .i64 m,.slice qa ql qc]] w (fun e w'=>e = .returned (.bool (eqS (k+1) (.mk ⟨t,n,pa,pl,pc⟩ ps) (.mk ⟨u,m,qa,ql,qc⟩ qs)))∧Below w.heap.size w w'):=by
 refine cS (args:=[.agg #[.int .i64 t,.int .i64 n,.slice pa pl pc],.agg #[.int .i64 u,.int .i64 m,.slice qa ql qc]]) func24 rfl ntmps24 rfl ?_
 have hS:=St.start w
 refine aR (aU (cR (cs:=[_,_,_]) hS rfl rfl rfl fun B1 W1 hS=>cR (cs:=[_,_,_]) hS rfl rfl rfl fun B2 W2 hS=>aK rfl rfl (aT (XF.thenN (aR (aR (aU (aQ (o':=0) pD rfl rfl rfl (aV isAgg32 rfl (aI (hS.at_ 1 rfl) rfl) rfl (aQ (o':=0) pD rfl rfl rfl (aV isAgg32 rfl (aI (hS.at_ 0 rfl) rfl) rfl (cW rfl rfl rfl (aL rfl rfl (bK (d:=11) rfl (fun hc=>?_) (fun hc=>?_)))))))))))))))
 ·have hg11:=of_decide_eq_true hc;clear hc
  refine aH (d:=11) rfl rfl rfl rfl (aH (d:=11) rfl rfl rfl rfl (aH (d:=11) rfl rfl rfl rfl (aH (d:=11) rfl rfl rfl rfl (aH (d:=11) rfl rfl rfl rfl (bC rfl rfl rfl (aL rfl rfl (aH (d:=18) rfl rfl rfl rfl (aH (d:=18) rfl rfl rfl rfl (aH (d:=18) rfl rfl rfl rfl (aH (d:=18) rfl rfl rfl rfl (aH (d:=18) rfl rfl rfl rfl (aH (d:=18) rfl rfl rfl rfl (aH (d:=18) rfl rfl rfl rfl (bC rfl rfl rfl (aT (XF.thenN (eA rfl (aR (aU (aK rfl rfl (aT (XF.thenN (bP (XF.thenR (XF.res (cG results24 rfl) ?_)))))))))))))))))))))))))
  exact ⟨iR (by simp only [eqS];rw [decide_eq_false (show ¬ t=u by omega)];rfl),hS.below⟩
 ·have hg11:=of_decide_eq_false hc;clear hc
  refine aF (d:=11) rfl rfl (aQ (o':=1) rB rfl rfl rfl (aF (d:=11) rfl rfl (aV isAgg3 rfl (aI (hS.at_ 1 rfl) rfl) rfl (aF (d:=11) rfl rfl (aQ (o':=1) rB rfl rfl rfl (aF (d:=11) rfl rfl (aV isAgg3 rfl (aI (hS.at_ 0 rfl) rfl) rfl (aF (d:=11) rfl rfl (cW rfl rfl rfl (bE rfl rfl rfl (aL rfl rfl (bK (d:=18) rfl (fun hc=>?_) (fun hc=>?_)))))))))))))
  ·have hg18:=of_decide_eq_true hc;clear hc
   refine aH (d:=18) rfl rfl rfl rfl (aH (d:=18) rfl rfl rfl rfl (aH (d:=18) rfl rfl rfl rfl (aH (d:=18) rfl rfl rfl rfl (aH (d:=18) rfl rfl rfl rfl (aH (d:=18) rfl rfl rfl rfl (aH (d:=18) rfl rfl rfl rfl (bC rfl rfl rfl (aT (XF.thenN (eA rfl (aR (aU (aK rfl rfl (aT (XF.thenN (bP (XF.thenR (XF.res (cG results24 rfl) ?_))))))))))))))))))
   exact ⟨iR (by simp only [eqS];rw [decide_eq_false (show ¬ n=m by omega)];simp),hS.below⟩
  ·have hg18:=of_decide_eq_false hc;clear hc
   refine aF (d:=18) rfl rfl (aQ (o':=2) lO rfl rfl rfl (aF (d:=18) rfl rfl (aV isAgg33 rfl (aI (hS.at_ 1 rfl) rfl) rfl (aF (d:=18) rfl rfl (bU underlying33 rfl rfl (aF (d:=18) rfl rfl (aQ (o':=2) lO rfl rfl rfl (aF (d:=18) rfl rfl (aV isAgg33 rfl (aI (hS.at_ 0 rfl) rfl) rfl (aF (d:=18) rfl rfl (bU underlying33 rfl rfl (aF (d:=18) rfl rfl (cW rfl rfl rfl (bE rfl rfl rfl (aT (XF.thenN (bJ rfl (fun hc=>?_) (fun hc=>?_))))))))))))))))))
   ·have hc26:=of_decide_eq_true hc;clear hc
    refine aR (aU (aK rfl rfl (aT (XF.thenN (bP (XF.thenR (XF.res (cG results24 rfl) ?_)))))))
    exact ⟨iR (by simp only [eqS];rw [decide_eq_false (show ¬ ps.length=qs.length by omega)];simp),hS.below⟩
   ·have hc26:=of_decide_eq_false hc;clear hc
    refine bQ (XF.thenN (aR (aR (aU (aK rfl rfl (aT (XF.thenN (bR (eI (fun q l W=>∃ i:Nat,i≤pl∧q=pl - i∧l=[(2,.pointer (some ⟨B1,0,none⟩)),(3,.pointer (some ⟨B2,0,none⟩)),(5,.int .i64 (i:Int))]∧((ps.zip qs).take i).all (fun x=>eqS k x.1 x.2)=true∧St w [(B2,[.int .i64 u,.int .i64 m,.slice qa ql qc],35),(B1,[.int .i64 t,.int .i64 n,.slice pa pl pc],35)] [] [] W) (pl - 0) ([(2,_),(3,_),(5,_)]) ⟨rfl,rfl,rfl,trivial⟩ (⟨0,Nat.zero_le _,rfl,rfl,rfl,hS.clear⟩) ?_)))))))))
    clear hS
    rintro q l W ⟨i,hi,rfl,rfl,hall,hS⟩
    refine aR (aR (aU (aL rfl rfl (aQ (o':=2) lO rfl rfl rfl (aV isAgg33 rfl (aI (hS.at_ 1 rfl) rfl) rfl (bU underlying33 rfl rfl (dA rfl rfl rfl (aT (XF.thenN (bJ rfl (fun hc=>?_) (fun hc=>?_)))))))))))
    ·have hc31:=of_decide_eq_true hc;clear hc
     have hk:i < pl:=by omega
     obtain ⟨p,hp⟩:∃ p,ps[i]?=some p:=⟨ps[i]'(by omega),List.getElem?_eq_getElem _⟩
     obtain ⟨q,hq⟩:∃ q,qs[i]?=some q:=⟨qs[i]'(by omega),List.getElem?_eq_getElem _⟩
     have hz:(ps.zip qs)[i]?=some (p,q):=List.getElem?_zip_eq_some.2 ⟨hp,hq⟩
     obtain ⟨b,off,rfl,hb,h6⟩:=hrow.at_ hp
     obtain ⟨b2,off2,rfl,hb2,h7⟩:=hrow2.at_ hq
     have k1:=aM.agree hS.agree (Nat.zero_le _) h6.cells
     have k2:=aM.agree hS.agree (Nat.zero_le _) h7.cells
     refine bQ (XF.thenN (aR (bR (aR (fK (m:=12) gX hS (by kernel_rfl) (by kernel_rfl) rfl (bZ 1 rfl 2 rfl rfl (fun w hw=>aO (o':=2) lO rfl rfl) rfl (aZ 2 rfl 34 0 rfl rfl rfl (fun w hw=>aS isAgg33 rfl ((aJ hw 0).cell (Nat.zero_le _) (aI (hS.at_ 1 rfl) rfl))) rfl (bZ 3 rfl 5 rfl rfl (fun w hw=>aW rfl) rfl (aD 4 rfl (isV _) (aB _) (rgV (li:=[(35,_),(36,_)]) rfl (aP rfl) ⟨aG 1 (aA rfl rfl rfl),aG 2 (aA rfl rfl rfl),trivial⟩ (fun w hw=>bH  underlying33 sizeOf35 rfl rfl rfl (by omega) rfl) (aC rfl)) (aZ 5 rfl 37 3 rfl rfl rfl (fun w hw=>cJ (vs:=[_,_,_]) isAgg35 sizeOf35 rfl (aM.agree (aJ hw 0) (Nat.zero_le _) (by assumption))) rfl (bZ 6 rfl 3 rfl rfl (fun w hw=>aO (o':=2) lO rfl rfl) rfl (aZ 7 rfl 39 5 rfl rfl rfl (fun w hw=>aS isAgg33 rfl ((aJ hw 0).cell (Nat.zero_le _) (aI (hS.at_ 0 rfl) rfl))) rfl (bZ 8 rfl 5 rfl rfl (fun w hw=>aW rfl) rfl (aD 9 rfl (isV _) (aB _) (rgV (li:=[(40,_),(41,_)]) rfl (aP rfl) ⟨aG 6 (aA rfl rfl rfl),aG 7 (aA rfl rfl rfl),trivial⟩ (fun w hw=>bH  underlying33 sizeOf35 rfl rfl rfl (by omega) rfl) (aC rfl)) (aZ 10 rfl 42 8 rfl rfl rfl (fun w hw=>cJ (vs:=[_,_,_]) isAgg35 sizeOf35 rfl (aM.agree (aJ hw 0) (Nat.zero_le _) (by assumption))) rfl ?_)))))))))))))))
     refine aD 11 rfl (isV (.bool (eqS k p q))) (aB _) (cH [isV _,isV _] rfl uY (aP rfl) ⟨bO (aG 4 (aA rfl rfl rfl)),bO (aG 9 (aA rfl rfl rfl)),trivial⟩ (fun vs w' hb hh=>by have e:=bN (us:=[_,_]) hh;subst e;exact (ih p q _ (SIn.below (hS.below.trans (hb.mono hS.below.size)) (hin p (List.mem_of_getElem? hp))) (SIn.below (hS.below.trans (hb.mono hS.below.size)) (hin2 q (List.mem_of_getElem? hq))) (hsm p (List.mem_of_getElem? hp))).mono fun e w2 h=>⟨_,h.1,rfl,h.2⟩) (aC rfl)) ?_
     refine aZ 12 rfl 44 10 rfl rfl rfl (fun w hw=>dM rfl) rfl (dF ?_)
     intro W3 hbR hS'
     clear hS;have hS:=hS';clear hS'
     refine aE (aE (aE (aE (aE (aE (aE (aE (aE (aE (aE (aE (bV (XF.thenN (bJ rfl (fun hc=>?_) (fun hc=>?_)))))))))))))))
     ·have hc45:=hc;clear hc
      refine aR (aU (aK rfl rfl (aT (XF.thenN (bP (XF.blkR (XF.thenR (XF.thenR (XF.blkR (XF.thenR (XF.res (cG results24 rfl) ?_)))))))))))
      exact ⟨iR (by simp only [eqS];rw [vA hz (by simpa using hc45)];simp),hS.below⟩
     ·have hc45:=hc;clear hc
      refine bQ (XF.blkN (XF.thenN (aU (aL rfl rfl (dH rfl rfl (IntWalk.i64_in _ (by omega)) rfl (aK rfl rfl (aT ?_)))))))
      exact XF.round (pl - (i+1)) [(2,_),(3,_),(5,_)] (by omega) ⟨rfl,rfl,rfl,trivial⟩ ⟨i+1,by omega,rfl,rfl,wP hz hall (by simpa using hc45),hS.clear⟩
    ·have hc31:=of_decide_eq_false hc;clear hc
     refine cZ (XF.thenX (XF.thenX (XF.blkX (XF.thenN (aR (aU (aK rfl rfl (aT (XF.thenN (bP (XF.res (cG results24 rfl) ?_)))))))))))
     rw [List.take_of_length_le (by rw [List.length_zip];omega)] at hall
     exact ⟨iR (by simp only [eqS];rw [hall,decide_eq_true (show t=u by omega),decide_eq_true (show n=m by omega),decide_eq_true (show ps.length=qs.length by omega)];rfl),hS.below⟩
theorem qL:∀ (k j:Nat) (s t:SV) (w:World),SIn w k s→SIn w k t→mxS j s=true→Calls prog 24 #[s.f.val,t.f.val] w fun e w'=>e = .returned (.bool (eqS k s t))∧Below w.heap.size w w'
 | 0,_,s,t,w,hs,ht,_=>hs.elim
 | k+1,0,s,t,w,hs,ht,h=>by simp [mxS] at h
 | k+1,j+1,.mk ⟨t,n,pa,pl,pc⟩ ps,.mk ⟨u,m,qa,ql,qc⟩ qs,w,hs,ht,h=>pS k j t n u m pa qa pl ql pc qc ps qs w hs.1 ht.1 hs.2.1 ht.2.1 hs.2.2 ht.2.2 (wQ h).1 (wQ h).2 (fun p q W hp hq hj=>qL k j p q W hp hq hj)
theorem tB (k j:Nat) (s t:SV) (w:World) (hs:SIn w k s) (ht:SIn w k t) (h:smS j s=true):Calls prog 24 #[s.f.val,t.f.val] w fun e w'=>e = .returned (.bool (eqS k s t))∧Below w.heap.size w w':=qL k j s t w hs ht (Dq h)
theorem tP {S:PS} {sf:SF} {w:World} (hs:SIs w S sf) (hok:S.ok):Calls prog 33 #[sf.val] w fun e w'=>e = .returned (.int .i64 0)∧Below w.heap.size w w':=by
 obtain ⟨s,rfl,h,he⟩:=SIs.sin hs hok
 exact Bz 2 s 0 w h he
def pT (lo:Nat) (S:PS) (x:PX):Asr:=fun v w=>∃ b,v = .slice (some ⟨b,0,none⟩) 2 2∧gW lo w S (lB b) x
theorem sE {lo:Nat} {S:PS} {x:PX}:jJ (pT lo S x):=fun v w w' ⟨b,h1,h2⟩ hb=>⟨b,h1,h2.below hb⟩
section
variable {n:Nat} {Q:Exit→Act→World→Prop} {l:Fr} {W:World} {ops:Array Oper} {L:List Asr} {i d:Nat} {ty:TypeId} {pos:String} {aft:Array Edge} {gd:Option (Nat×Bool)} {t k u m:Int} {x y:PF} {p q:Operand}
theorem yO (hi:ops[i]?=some ⟨some d,.buildSlice 57 2 (List.toArray [(0,p),(1,q)]),ty,pos,aft,gd⟩) (hw:iB ops L i ⟨some d,.buildSlice 57 2 (List.toArray [(0,p),(1,q)]),ty,pos,aft,gd⟩) (hp:uC n ops l L i [p,q] [gD W.heap.size (.one t k) (.one x),gD W.heap.size (.one u m) (.one y)]) (hI:atI L i=pT W.heap.size (.two t k u m) (.two x y)):RG prog n ops Q l W L i :=
 xH [gD W.heap.size (.one t k) (.one x),gD W.heap.size (.one u m) (.one y)] hi hw underlying57 sizeOf59 zeroValue59 rfl rfl hp fun vs w hb hh=>by
  obtain ⟨v1,v2,rfl,⟨f,rfl,hf⟩,g,rfl,hg⟩:=holds2 hh
  refine ⟨f.six++g.six,bs_57_2 _ _ _ _ _ _ _ _ _ _ _ _,fun B w' hB h1 h2=>?_⟩
  rw [hI]
  rcases frow2 h1 with h | ⟨b,off,e,h3⟩
  ·cases h
  ·cases e
   exact ⟨B,rfl,iN (h3 0 f rfl) (h3 1 g rfl) (by rw [← hB];exact hb.size) (PNew.below hf h2) (PNew.below hg h2)⟩
end
theorem Cf (t n:Int) (sa:Option Addr) (sc:Nat) (w:World) (hp:dD t n 0=true) (ht4:t≠4) :
  Calls prog 34 #[.agg #[.int .i64 t,.int .i64 n,.slice sa 0 sc]] w (pB (.one t n) (.one (hM t n)) w):=by
 refine cS (args:=[.agg #[.int .i64 t,.int .i64 n,.slice sa 0 sc]]) func34 rfl ntmps34 rfl ?_
 have hS:=St.start w
 refine aR (aU (cR (cs:=[_,_,_]) hS rfl rfl rfl fun B1 W1 hS=>bY (cs:=[_,_,_,_,_,_]) hS zeroValue59 rfl rfl fun B2 W2 hS=>aT (XF.thenN (aR (aU (bL (us:=[]) rfl (yL) rfl (bY (cs:=[_,_,_,_,_,_]) hS zeroValue59 rfl rfl fun B3 W3 hS=>bA (i:=0) (vs:=[_,_,_,_,_,_]) (cs':=[_,_,_,_,_,_]) (O':=[_,_,_]) hS sizeOf59 rfl rfl rfl rfl rfl rfl rfl fun W4 hS=>aT (XF.thenN (aR (aR (aU (aQ (o':=0) pD rfl rfl rfl (aV isAgg32 rfl (aI (hS.at_ 2 rfl) rfl) rfl (aT (XF.thenN (bR (aR (aU (bW rfl rfl rfl (aK rfl rfl (aT (XF.thenN (bJ rfl (fun hc=>?_) (fun hc=>?_))))))))))))))))))))))))
 ·have hc8:=of_decide_eq_true hc;clear hc
  have e3:t=3:=hc8
  subst e3
  obtain ⟨m,rfl,hm⟩:=dim3 hp (.inl rfl)
  refine aU (aQ (o':=1) rB rfl rfl rfl (aV isAgg3 rfl (aI (hS.at_ 2 rfl) rfl) rfl ?_))
  have hsz:=hS.below.size
  refine cV (vs:=[_]) hS goes_47 rfl ((uS m _ _ (oX hm).1 _ (oX hm).2).mono fun _ _ h=>uR.ret h) rfl ?_
  rintro e W5 ⟨a1,c1,rfl,hv,hl,hb⟩
  refine ⟨_,rfl,hb,fun hS'=>?_⟩
  clear hS;have hS:=hS';clear hS'
  refine aL rfl rfl (bM rfl rfl rfl (bM rfl rfl rfl (aQ (o':=2) pE rfl rfl rfl (bA (i:=0) (vs:=[_,_]) (cs':=[_,_,_,_,_,_]) (O':=[_,_,_]) hS sizeOf55 rfl rfl rfl rfl rfl rfl rfl fun W6 hS=>aT (XF.blkN (XF.thenN (aR (aU (bF (vs:=[_,_,_,_,_,_]) isAgg59 sizeOf59 rfl (aM.own (j:=0) (m:=6) (hS.at_ 0 rfl) rfl) rfl (bA (i:=1) (vs:=[_,_,_,_,_,_]) (cs':=[_,_,_,_,_,_]) (O':=[_,_,_]) hS sizeOf59 rfl rfl rfl rfl rfl rfl rfl fun W7 hS=>aT (XF.thenN (bP (XF.res (eC (vs:=[_,_,_,_,_,_]) results34 isAgg59 sizeOf59 rfl (aM.own (j:=0) (m:=6) (hS.at_ 1 rfl) rfl)) ?_)))))))))))))
  exact wN (one_f3 hm (hv.agree (fun ad e=>(hl ad e).1) (hS.since 0 rfl)) (fun ad e=>Nat.le_trans hsz (hl ad e).1)) hS.below
 ·have hc8:=of_decide_eq_false hc;clear hc
  refine aR (aU (bW rfl rfl rfl (aK rfl rfl (aT (XF.thenN (bJ rfl (fun hc=>absurd (of_decide_eq_true hc) (by exact ht4)) (fun hc=>?_)))))))
  have hc:=of_decide_eq_false hc
  refine aR (aU (bW rfl rfl rfl (aK rfl rfl (aT (XF.thenN (bJ rfl (fun hc=>absurd (of_decide_eq_true hc) (by exact Cc hp)) (fun hc=>?_)))))))
  have hc:=of_decide_eq_false hc
  refine bQ (XF.blkN (XF.thenN (aR (aU (bF (vs:=[_,_,_,_,_,_]) isAgg59 sizeOf59 rfl (aM.own (j:=0) (m:=6) (hS.at_ 0 rfl) rfl) rfl (bA (i:=1) (vs:=[_,_,_,_,_,_]) (cs':=[_,_,_,_,_,_]) (O':=[_,_,_]) hS sizeOf59 rfl rfl rfl rfl rfl rfl rfl fun W8 hS=>aT (XF.thenN (bP (XF.res (eC (vs:=[_,_,_,_,_,_]) results34 isAgg59 sizeOf59 rfl (aM.own (j:=0) (m:=6) (hS.at_ 1 rfl) rfl)) ?_)))))))))
  exact wN (one_f1 hp hc8 ht4) hS.below
theorem Cg (t n u m:Int) (a1 a2:Option Addr) (c1 c2 b off sc:Nat) (w:World) (hs1:S3 w b off ⟨t,n,a1,0,c1⟩) (hs2:S3 w b (off+3) ⟨u,m,a2,0,c2⟩) (hp1:dD t n 0=true) (hp2:dD u m 0=true) (ih10:∀ W:World,Calls prog 34 #[.agg #[.int .i64 t,.int .i64 n,.slice a1 0 c1]] W (pB (.one t n) (.one (hM t n)) W)) (ih20:∀ W:World,Calls prog 34 #[.agg #[.int .i64 u,.int .i64 m,.slice a2 0 c2]] W (pB (.one u m) (.one (hM u m)) W)) :
  Calls prog 34 #[.agg #[.int .i64 5,.int .i64 0,.slice (some ⟨b,off,none⟩) 2 sc]] w (pB (.two t n u m) (.two (hM t n) (hM u m)) w):=by
 refine cS (args:=[.agg #[.int .i64 5,.int .i64 0,.slice (some ⟨b,off,none⟩) 2 sc]]) func34 rfl ntmps34 rfl ?_
 have hS:=St.start w
 refine aR (aU (cR (cs:=[_,_,_]) hS rfl rfl rfl fun B1 W1 hS=>bY (cs:=[_,_,_,_,_,_]) hS zeroValue59 rfl rfl fun B2 W2 hS=>aT (XF.thenN (aR (aU (bL (us:=[]) rfl (yL) rfl (bY (cs:=[_,_,_,_,_,_]) hS zeroValue59 rfl rfl fun B3 W3 hS=>bA (i:=0) (vs:=[_,_,_,_,_,_]) (cs':=[_,_,_,_,_,_]) (O':=[_,_,_]) hS sizeOf59 rfl rfl rfl rfl rfl rfl rfl fun W4 hS=>aT (XF.thenN (aR (aR (aU (aQ (o':=0) pD rfl rfl rfl (aV isAgg32 rfl (aI (hS.at_ 2 rfl) rfl) rfl (aT (XF.thenN (bR (aR (aU (bW rfl rfl rfl (aK rfl rfl (aT (XF.thenN (bJ rfl (fun hc=>absurd (of_decide_eq_true hc) (by omega)) (fun hc=>?_))))))))))))))))))))))))
 have hc:=of_decide_eq_false hc
 refine aR (aU (bW rfl rfl rfl (aK rfl rfl (aT (XF.thenN (bJ rfl (fun hc=>absurd (of_decide_eq_true hc) (by omega)) (fun hc=>?_)))))))
 have hc:=of_decide_eq_false hc
 refine aR (aU (bW rfl rfl rfl (aK rfl rfl (aT (XF.thenN (bJ rfl (fun hc=>?_) (fun hc=>absurd (of_decide_eq_false hc) (by omega))))))))
 have hc:=of_decide_eq_true hc
 have hsz:=hS.below.size
 have k1:=aM.agree hS.agree (Nat.zero_le _) hs1.cells
 have k2:=aM.agree hS.agree (Nat.zero_le _) hs2.cells
 have ih1:=fun (W2:World) (_:Below W4.heap.size W4 W2)=>ih10 W2
 have ih2:=fun (W2:World) (_:Below W4.heap.size W4 W2)=>ih20 W2
 refine Cv gX 12 hS rfl rfl (by kernel_rfl) (by kernel_rfl) (by kernel_rfl) (fun d hd=>by cases hd) (bZ 1 rfl 1 rfl rfl (fun w hw=>aO (o':=2) lO rfl rfl) rfl (aZ 2 rfl 35 0 rfl rfl rfl (fun w hw=>aS isAgg33 rfl ((aJ hw 0).cell (Nat.zero_le _) (aI (hS.at_ 2 rfl) rfl))) rfl (aZ 3 rfl 36 1 rfl rfl rfl (fun w hw=>bH (j:=0) underlying33 sizeOf35 rfl rfl rfl (by omega) (Nat.add_zero _)) rfl (aZ 4 rfl 37 2 rfl rfl rfl (fun w hw=>cJ (vs:=[_,_,_]) isAgg35 sizeOf35 rfl (aM.agree (aJ hw 0) (Nat.zero_le _) (by assumption))) rfl ?_))))
 refine aD 5 rfl (gD W4.heap.size (.one t n) (.one (hM t n))) (iY) (cH [isV _] rfl uZ (aP rfl) ⟨bO (aG 3 (aA rfl rfl rfl)),trivial⟩ (fun vs w' hb hh=>by have e:=bN (us:=[_]) hh;subst e;exact iZ hb.size (ih1 _ hb)) (aC rfl)) ?_
 refine bZ 6 rfl 1 rfl rfl (fun w hw=>aO (o':=2) lO rfl rfl) rfl (aZ 7 rfl 40 5 rfl rfl rfl (fun w hw=>aS isAgg33 rfl ((aJ hw 0).cell (Nat.zero_le _) (aI (hS.at_ 2 rfl) rfl))) rfl (aZ 8 rfl 41 6 rfl rfl rfl (fun w hw=>bH (j:=1) underlying33 sizeOf35 rfl rfl rfl (by omega) rfl) rfl (aZ 9 rfl 42 7 rfl rfl rfl (fun w hw=>cJ (vs:=[_,_,_]) isAgg35 sizeOf35 rfl (aM.agree (aJ hw 0) (Nat.zero_le _) (by assumption))) rfl ?_)))
 refine aD 10 rfl (gD W4.heap.size (.one u m) (.one (hM u m))) (iY) (cH [isV _] rfl uZ (aP rfl) ⟨bO (aG 8 (aA rfl rfl rfl)),trivial⟩ (fun vs w' hb hh=>by have e:=bN (us:=[_]) hh;subst e;exact iZ hb.size (ih2 _ hb)) (aC rfl)) ?_
 refine aD 11 rfl (pT W4.heap.size (.two t n u m) (.two (hM t n) (hM u m))) (sE) (yO rfl (aP rfl) ⟨bO (aG 4 (aA rfl rfl rfl)),bO (aG 9 (aA rfl rfl rfl)),trivial⟩ (aC rfl)) (bZ 12 rfl 3 rfl rfl (fun w hw=>aO (o':=5) gP rfl rfl) rfl (dF ?_))
 intro W5 hbR hS'
 clear hS;have hS:=hS';clear hS'
 refine aE (aE (aE (aE ?_)))
 refine dO ?_;rintro _ ⟨v1,rfl,hn1⟩
 refine aE (aE (aE (aE ?_)))
 refine dO ?_;rintro _ ⟨v2,rfl,hn2⟩
 refine dO ?_;rintro _ ⟨b9,rfl,hn9⟩
 refine aE (bV (eV (i:=0) (cs':=[_,_,_,_,_,_]) (O':=[_,_,_]) hS sizeOf57 rfl rfl rfl rfl rfl rfl rfl fun W6 hS=>aT (XF.blkN (XF.thenN (aR (aU (bF (vs:=[_,_,_,_,_,_]) isAgg59 sizeOf59 rfl (aM.own (j:=0) (m:=6) (hS.at_ 0 rfl) rfl) rfl (bA (i:=1) (vs:=[_,_,_,_,_,_]) (cs':=[_,_,_,_,_,_]) (O':=[_,_,_]) hS sizeOf59 rfl rfl rfl rfl rfl rfl rfl fun W7 hS=>aT (XF.thenN (bP (XF.res (eC (vs:=[_,_,_,_,_,_]) results34 isAgg59 sizeOf59 rfl (aM.own (j:=0) (m:=6) (hS.at_ 1 rfl) rfl)) ?_)))))))))))
 exact ⟨lB b9,rfl,(hn9.agree (hS.since 0 rfl)).mono hsz,hS.below⟩
theorem oneR_4 (m:Nat) (sa:Option Addr) (sc:Nat) (w:World) (hm:m≤64) :
  Calls prog 34 #[.agg #[.int .i64 4,.int .i64 (m:Int),.slice sa 0 sc]] w (pB (.one 4 m) (.one (hM 4 m)) w):=by
 refine cS (args:=[.agg #[.int .i64 4,.int .i64 (m:Int),.slice sa 0 sc]]) func34 rfl ntmps34 rfl ?_
 have hS:=St.start w
 refine aR (aU (cR (cs:=[_,_,_]) hS rfl rfl rfl fun B1 W1 hS=>bY (cs:=[_,_,_,_,_,_]) hS zeroValue59 rfl rfl fun B2 W2 hS=>aT (XF.thenN (aR (aU (bL (us:=[]) rfl (yL) rfl (bY (cs:=[_,_,_,_,_,_]) hS zeroValue59 rfl rfl fun B3 W3 hS=>bA (i:=0) (vs:=[_,_,_,_,_,_]) (cs':=[_,_,_,_,_,_]) (O':=[_,_,_]) hS sizeOf59 rfl rfl rfl rfl rfl rfl rfl fun W4 hS=>aT (XF.thenN (aR (aR (aU (aQ (o':=0) pD rfl rfl rfl (aV isAgg32 rfl (aI (hS.at_ 2 rfl) rfl) rfl (aT (XF.thenN (bR (aR (aU (bW rfl rfl rfl (aK rfl rfl (aT (XF.thenN (bJ rfl (fun hc=>absurd (of_decide_eq_true hc) (by omega)) (fun hc=>?_))))))))))))))))))))))))
 have hc:=of_decide_eq_false hc
 refine aR (aU (bW rfl rfl rfl (aK rfl rfl (aT (XF.thenN (bJ rfl (fun hc=>?_) (fun hc=>absurd (of_decide_eq_false hc) (by omega))))))))
 have hc:=of_decide_eq_true hc
 refine aR (aU (aK rfl rfl (aT (XF.thenN (bR (eI (fun q l W=>∃ (k:Nat) (v:Value),k≤m∧q=m - k∧l=[(1,.pointer (some ⟨B1,0,none⟩)),(2,.pointer (some ⟨B2,0,none⟩)),(3,.pointer (some ⟨B3,0,none⟩)),(4,.int .i64 (k:Int))]∧St w [(B3,[.bool false,.int .i64 0,.int .u64 0,.slice none 0 0,v,.slice none 0 0],59),(B2,[.bool false,.int .i64 0,.int .u64 0,.slice none 0 0,.slice none 0 0,.slice none 0 0],59),(B1,[.int .i64 4,.int .i64 (m:Int),.slice sa 0 sc],35)] [⟨v,k,eK ((dK m).take k),88,3⟩] [] W) (m - 0) ([(1,_),(2,_),(3,_),(4,_)]) ⟨rfl,rfl,rfl,rfl,trivial⟩ (⟨0,.slice none 0 0,Nat.zero_le _,rfl,rfl,hS.clear.newG _ _⟩) ?_))))))
 clear hS
 rintro q l W ⟨k,v,hkm,rfl,rfl,hS⟩
 refine aR (aR (aU (aL rfl rfl (aQ (o':=1) rB rfl rfl rfl (aV isAgg3 rfl (aI (hS.at_ 2 rfl) rfl) rfl (dA rfl rfl rfl (aT (XF.thenN (bJ rfl (fun hc=>?_) (fun hc=>?_))))))))))
 ·have hc22:=of_decide_eq_true hc;clear hc
  have hk:k < m:=by omega
  refine bQ (XF.thenN (aR (bR ?_)))
  refine mE (p:=6) (k:=8) (gi:=0) (m:=1) gX hS rfl rfl (by kernel_rfl) (by kernel_rfl) (by kernel_rfl) (fun d hd=>by cases hd) rfl rfl underlying56 inf_88 rfl rfl (by show 0 < 3;decide) rfl rfl rfl (by dsimp only;simp only [maxLen];omega) (by dsimp only;show _ * 24≤_;omega) ?_
  refine cN 1 rfl rfl (by kernel_rfl) (rgV (li:=[(3,_)]) rfl (aP rfl) ⟨bB rfl,trivial⟩ (fun w hw=>aO (o':=4) iO rfl rfl) (aC rfl)) (cN 2 rfl rfl (by kernel_rfl) (rgV (li:=[(25,_)]) rfl (aP rfl) ⟨aG 0 (aA rfl rfl rfl),trivial⟩ (fun w hw=>aS isAgg56 rfl ((aJ hw 0).cell (Nat.zero_le _) (aI (hS.at_ 0 rfl) rfl))) (aC rfl)) (cN 3 rfl rfl (by kernel_rfl) (rgV (li:=[(4,_)]) rfl (aP rfl) ⟨bB rfl,trivial⟩ (fun w hw=>aW rfl) (aC rfl)) ?_))
  refine cN 4 rfl rfl (by kernel_rfl) (cH [isV _] rfl goes_49 (aP rfl) ⟨bO (aG 2 (aA rfl rfl rfl)),trivial⟩ (fun vs w' hb hh=>by have e:=bN (us:=[_]) hh;subst e;exact (jX (k:Int) k (2 ^ k) (by omega) rfl (by omega) _).mono fun e w2 h=>⟨_,h.1,rfl,h.2▸Below.refl _ _⟩) (aC rfl)) ?_
  refine cN 5 rfl rfl (by kernel_rfl) (rgV (li:=[(28,_)]) rfl (aP rfl) ⟨aG 3 (aA rfl rfl rfl),trivial⟩ (fun w hw=>eN (us:=[(0,.int .u64 _)]) rfl (Do _)) (aC rfl)) (iF 6 rfl rfl (by kernel_rfl) (dV W.heap.size 1 88 _) (eJ) (iD (us:=[.agg (List.toArray [_,_,_])]) rfl (aP rfl) underlying56 sizeOf88 zeroValue88 rfl rfl ⟨bO (aG 4 (aA rfl rfl rfl)),trivial⟩ (bs_56_1 _ _ _) (aC rfl)) (iG 7 rfl rfl (gF 8 rfl rfl (rgV (li:=[(3,_)]) rfl (aP rfl) ⟨bB rfl,trivial⟩ (fun w hw=>aO (o':=4) iO rfl rfl) (aC rfl)) (lgV (li:=[(3,_)]) rfl (aP rfl) ⟨bB rfl,trivial⟩ (fun w=>aO (o':=4) iO rfl rfl) (aC rfl) rfl) (iE ⟨_,_,aG 1 (aA rfl rfl rfl),aG 5 (aA rfl rfl rfl),gG rfl rfl,?_⟩))))
  intro A5 v5 news5 W5 hbR hqA5 hS'
  clear hS;have hS:=hS';clear hS'
  cases hqA5
  refine aE (aE (aE (aE (aE ?_))))
  refine dO ?_;intro _ _
  refine aE (aE ?_)
  obtain ⟨g9,c9,e9,_,_⟩:=(hS.row 0 rfl).form (by show 0 < k+1;omega)
  dsimp only at e9
  subst e9
  refine bV (eV (i:=0) (cs':=[_,_,_,_,_,_]) (O':=[_,_,_]) hS sizeOf56 rfl rfl rfl rfl rfl rfl rfl fun W6 hS=>aT (XF.blkN (XF.thenN (aU (aL rfl rfl (dH rfl rfl (IntWalk.i64_in _ (by omega)) rfl (aK rfl rfl (aT ?_))))))))
  exact XF.round (m - (k+1)) [(1,_),(2,_),(3,_),(4,_)] (by omega) ⟨rfl,rfl,rfl,rfl,trivial⟩ ⟨k+1,_,by omega,rfl,rfl,by rw [pR hk,pQ];exact hS.clear⟩
 ·have hc22:=of_decide_eq_false hc;clear hc
  refine cZ (XF.thenX (XF.thenX (XF.blkX (XF.blkN (XF.thenN (aR ?_))))))
  obtain rfl:k=m:=by omega
  have hrow:=hS.row 0 rfl
  have ht:(dK k).take k=dK k:=List.take_of_length_le (by rw [dL];exact Nat.le_refl _)
  simp only [ht] at hrow
  obtain ⟨hn,a9,c9,rfl,_,_⟩:=eQ hrow
  clear hrow
  refine aU (bF (vs:=[_,_,_,_,_,_]) isAgg59 sizeOf59 rfl (aM.own (j:=0) (m:=6) (hS.at_ 0 rfl) rfl) rfl (bA (i:=1) (vs:=[_,_,_,_,_,_]) (cs':=[_,_,_,_,_,_]) (O':=[_,_,_]) hS sizeOf59 rfl rfl rfl rfl rfl rfl rfl fun W7 hS=>aT (XF.thenN (bP (XF.res (eC (vs:=[_,_,_,_,_,_]) results34 isAgg59 sizeOf59 rfl (aM.own (j:=0) (m:=6) (hS.at_ 1 rfl) rfl)) ?_)))))
  have hrow:=hS.row 0 rfl
  simp only [ht] at hrow
  obtain ⟨_,a8,c8,e8,hr9,hf9⟩:=eQ hrow
  cases e8
  have e9:(dK k).length=k:=dL k
  refine ⟨cellsF a9 c9 (dK k),?_,one_f4 hm hr9 (fun ad e=>(hf9 ad e).1),hS.below⟩
  show _=Ending.returned (Value.agg #[.bool false,.int .i64 0,.int .u64 ((0:Nat):Int),.slice none 0 0,.slice a9 (dK k).length c9,.slice none 0 0])
  rw [e9]
  rfl
theorem oG (t n:Int) (sa:Option Addr) (sc:Nat) (w:World) (hp:dD t n 0=true):Calls prog 34 #[.agg #[.int .i64 t,.int .i64 n,.slice sa 0 sc]] w (pB (.one t n) (.one (hM t n)) w):=by
 by_cases h4:t=4
 ·subst h4
  obtain ⟨m,rfl,hm⟩:=dim3 hp (.inr rfl)
  exact oneR_4 m sa sc w hm
 ·exact Cf t n sa sc w hp h4
theorem oneR_ok {S:PS} {sf:SF} {w:World} (hs:SIs w S sf) (hok:S.ok):Calls prog 34 #[sf.val] w (pB S (oneX S) w):=by
 cases S with
 | one t n =>
  obtain ⟨a,c,rfl⟩:=hs
  exact oG _ _ _ _ _ hok
 | two t n u m =>
  obtain ⟨b,off,c,a1,c1,a2,c2,rfl,h1,h2⟩:=hs
  exact Cg _ _ _ _ _ _ _ _ _ _ _ _ h1 h2 hok.1 hok.2 (fun W=>oG _ _ _ _ _ hok.1) (fun W=>oG _ _ _ _ _ hok.2)
theorem OneR_ok (S:PS) (sf:SF) (w:World) (hs:SIs w S sf) (hok:S.ok) :
  Calls prog 23 #[sf.val] w (wO S (oneX S) 0 w):=by
 refine cS (args:=[sf.val]) func23 rfl ntmps23 rfl ?_
 have hS:=St.start w
 refine aR (aU (cR (cs:=[_,_,_]) hS rfl rfl rfl fun B1 W1 hS=>bY (cs:=[_,_,_,_,_,_]) hS zeroValue59 rfl rfl fun B2 W2 hS=>aK rfl rfl (aT (XF.thenN (aR (aR (aU (bF (vs:=[_,_,_]) isAgg35 sizeOf35 rfl (aM.own (j:=0) (m:=3) (hS.at_ 1 rfl) rfl) rfl (cD (vs:=[_]) hS goes_33 rfl (tP (hs.below hS.below) hok) rfl fun W3 hS=>cW rfl rfl rfl (aT (XF.thenN (bJ rfl (fun hc=>absurd (of_decide_eq_true hc) (by omega)) (fun hc=>?_)))))))))))))
 have hc:=of_decide_eq_false hc
 refine bQ (XF.thenN (aR (aU (bF (vs:=[_,_,_]) isAgg35 sizeOf35 rfl (aM.own (j:=0) (m:=3) (hS.at_ 1 rfl) rfl) rfl ?_))))
 have hsz:=hS.below.size
 refine cV (vs:=[_]) hS uZ rfl (oneR_ok (hs.below hS.below) hok) rfl ?_
 rintro e W4 ⟨f,rfl,hn,hb⟩
 refine ⟨_,rfl,hb,fun hS'=>?_⟩
 clear hS;have hS:=hS';clear hS'
 refine bA (i:=0) (vs:=[_,_,_,_,_,_]) (cs':=[_,_,_,_,_,_]) (O':=[_,_]) hS sizeOf59 rfl rfl rfl rfl rfl rfl rfl fun W5 hS=>aK rfl rfl (aT (XF.thenN (bP (XF.res (fE (vs:=[_,_,_,_,_,_]) results23 isAgg59 sizeOf59 rfl (aM.own (j:=0) (m:=6) (hS.at_ 0 rfl) rfl) rfl) ?_))))
 exact ⟨f,rfl,(hn.agree (hS.since 0 rfl)).mono hsz,hS.below⟩
section
variable {w0 W:World} {O:Own} {G:Grows} {K:List (Nat×World)}
theorem wR {w:World} {base n b k:Nat} {e:TypeId} {size:Nat} {c:Nat} {xs:List Value} {x:Value} (h:w.ownsRow base e size (.slice (some ⟨b,0,none⟩) n c) n xs) (hk:xs[k]?=some x):w.cell? ⟨b,k,none⟩=some x:=by
 rcases kR h with ⟨h1,_⟩ | ⟨b2,h1,_,h3⟩
 ·cases h1
 ·cases h1;exact h3 k x hk
variable {P:Program} {n:Nat} {ops:Array Oper} {Q:Exit→Act→World→Prop} {l:Fr} {os:List Oper} {d:Nat} {ty:TypeId} {pos:String} {aft:Array Edge}
theorem St.oneV (h:St w0 O G K W) (i:Nat) (g:GR) (hi:G[i]?=some g):g.v.oneCell'=true:=by
 rcases (h.rows g (List.mem_of_getElem? hi)).1.2 with ⟨h1,_⟩ | ⟨_,_,_,h1,_⟩<;>rw [h1]<;>rfl
end
section
variable {P:Program} {ops opf:Array Oper} {Q:Exit→Act→World→Prop} {n:Nat} {l:Fr} {w0 W:World} {K:List (Nat×World)} {lo:Nat} {al:List AB} {Ob:Own} {G:Sy→Grows} {E:List Nat} {L:List Asr} {i:Nat}
variable {d:Nat} {op:Op} {ty:TypeId} {pos:String} {aft_:Array Edge}
end
section
variable {P:Program} {n:Nat} {ops:Array Oper} {Q:Exit→Act→World→Prop} {l:Fr} {w0 W:World} {O:Own} {G:Grows} {K:List (Nat×World)} {os:List Oper} {ty:TypeId} {pos:String} {aft:Array Edge}
theorem wS {α:Type} {G:List α} {i:Nat} {g:α} (h:G[i]?=some g):G.set i g=G:=by
 apply List.ext_getElem?
 intro k
 rw [List.getElem?_set]
 by_cases hk:i=k
 ·subst hk;rw [if_pos rfl,h];simp [(List.getElem?_eq_some_iff.1 h).1]
 ·rw [if_neg hk]
theorem St.setRowMany {b c nn size:Nat} {e:TypeId} (i:Nat):∀ (vs:List Value) (jx:Nat) {G:Grows} {W:World} {xs:List Value},St w0 O G K W→G[i]?=some ⟨.slice (some ⟨b,0,none⟩) nn c,nn,xs,e,size⟩→jx+vs.length≤nn * size→St w0 O (G.set i ⟨.slice (some ⟨b,0,none⟩) nn c,nn,gS xs jx vs,e,size⟩) K (Go.Proofs.Ytfnmjcgfagldkaa.setMany W b jx vs)
 | [],jx,G,W,xs,h,hi,_=>by
  rw [show gS xs jx []=xs from rfl,wS hi];exact h
 | v::vs,jx,G,W,xs,h,hi,hl=>by
  simp only [List.length_cons] at hl
  have h1:=h.setRow i hi v (show jx < nn * size by omega)
  have hlt:=(List.getElem?_eq_some_iff.1 hi).1
  have h2:=St.setRowMany i vs (jx+1) h1 (List.getElem?_set_self hlt) (by omega)
  rw [List.set_set] at h2
  exact h2
theorem lC {T U:TypeId} {x y:Operand} {b c nn size j i:Nat} {xs vs:List Value} (hS:St w0 O G K W) (hsz:∀ w,(sizeOf T).run P w = .ok vs.length w) (hi:G[i]?=some ⟨.slice (some ⟨b,0,none⟩) nn c,nn,xs,U,size⟩) (hx:evL l x=some (.pointer (some ⟨b,j,none⟩))) (hy:evL l y=some (.agg vs.toArray)) (hv:vs.all Value.oneCell'=true) (hj:j+vs.length≤nn * size)
  (h:∀ W',St w0 O (G.set i ⟨.slice (some ⟨b,0,none⟩) nn c,nn,gS xs j vs,U,size⟩) K W'→dJ P n ops Q os l W'):dJ P n ops Q (⟨none,.store T x y,ty,pos,aft,none⟩::os) l W:=fun a ha=>by
 refine wpList_plain rfl fun K' hK=>?_
 unfold Oper.wp execOp
 simp only []
 rw [ha.ev x _ hx,ha.ev y _ hy]
 have h2:=h _ (hS.setRowMany i vs j hi hj)
 obtain ⟨cs,hc,hcl⟩:∃ cs:List Value,W.heap[b]?=some (.cells cs.toArray U (0,0))∧nn * size≤cs.length:=by
  have hr:=(hS.rows _ (List.mem_of_getElem? hi)).1
  rcases hr.2 with ⟨e1,_⟩ | ⟨g,cap,cur,e1,hg,hh,hn2,hm,hs,ht⟩
  ·cases e1
  ·injection e1 with e1 _ _
   injection e1 with e1
   injection e1 with e1
   subst e1
   exact ⟨cur.toList,by simpa using hh,by
    have h9:=Nat.mul_le_mul_right size hn2
    have h8:cur.toList.length=cur.size:=by simp
    rw [h8]
    dsimp only at hs h9
    omega⟩
 have hst:=gU (P:=P) vs 0 j W cs hc (by omega) (fun u hu=>List.all_eq_true.1 hv u hu)
 rw [Nat.add_zero] at hst
 have:(Instr.storeAt T (.pointer (some ⟨b,j,none⟩)) (.agg vs.toArray)).run P W = .ok () (Go.Proofs.Ytfnmjcgfagldkaa.setMany W b j vs):=by
  simp [Instr.storeAt,Instr.sureAddr,storeVar,hsz,Value.cells,hst]
 simp only [Sem.run_bind,this,Result.andThen_ok,Sem.run_pure,Oper.upon_skip]
 exact hK _ _ (h2 _ ha)
end
theorem jF {lo:Nat} {w:World} {n c:Int} (h0:0≤c) (h1:c≤n):PNew lo w 2 n (gI c) (pC c) :=
 ⟨⟨⟨.inl rfl,rfl,by show (0:Nat) < _;decide,(fun r hr=>by cases hr),.inl rfl,rfl,(fun c hc=>by cases hc),by show (0:Nat)≤maxLen;decide⟩,rfl,.cost c rfl h0 h1,rfl⟩,(fun ad e=>by cases e),(fun ad e=>by cases e)⟩
theorem sF {lo:Nat} {w:World} {n:Int}:PNew lo w 1 n (gI 0) (pC 0) :=
 ⟨⟨⟨.inl rfl,rfl,by show (0:Nat) < _;decide,(fun r hr=>by cases hr),.inl rfl,rfl,(fun c hc=>by cases hc),by show (0:Nat)≤maxLen;decide⟩,rfl,.bool rfl,rfl⟩,(fun ad e=>by cases e),(fun ad e=>by cases e)⟩
theorem fH {lo n g c:Nat} {w:World} {a:Option Addr} {rows:List Nat} (h:Good n g rows) (hr:gE w a (fZ rows)) (hb:∀ ad,a=some ad→lo≤ad.block):PNew lo w 3 n (gT g a c rows) (pF g rows) :=
 ⟨⟨⟨hr,rfl,h.g64,h.r64,.inl rfl,rfl,(fun c hc=>by cases hc),by show (0:Nat)≤maxLen;decide⟩,rfl,.facts n g rows rfl rfl h,rfl⟩,hb,(fun ad e=>by cases e)⟩
theorem gQ {lo n c:Nat} {w:World} {a:Option Addr} {cs:List Cl} (h:Val n cs) (hr:lA w a cs) (hb:∀ ad,a=some ad→lo≤ad.block):PNew lo w 4 n (cellsF a c cs) (pX cs) :=
 ⟨⟨⟨.inl rfl,rfl,by show (0:Nat) < _;decide,(fun r hr=>by cases hr),hr,rfl,h.bits,by show cs.length≤maxLen;have h1:=h.le;have h2:=h.len;simp only [maxLen];omega⟩,rfl,.cells n cs rfl rfl h,rfl⟩,(fun ad e=>by cases e),hb⟩
theorem wfI {x:Int} (h0:0≤x) (h1:x≤1000000):(Lit.int .i64 x).wf=true:=by
 have e1:IntKind.i64.min = -9223372036854775808:=rfl
 have e2:IntKind.i64.max=9223372036854775807:=rfl
 simp [Lit.wf]
 omega
theorem vB {n:Nat} {x:Int} {c:Cl} (hn:n≤64) (hx:0≤x∧x < (n:Int)):oE n x=0∧oF n x c=(dK n).set x.toNat c:=by
 have h1:iJ n=0:=by unfold iJ;rw [if_neg (by omega)]
 have h2:oE n x=0:=by unfold oE;rw [if_neg (by omega),if_neg (by omega)]
 exact ⟨h2,by unfold oF;rw [if_pos h2,Int.toNat_natCast]⟩
theorem copy_ok {n:Nat} {x y:Int} (hn:n≤64) (hx:0≤x∧x < (n:Int)) (hy:0≤y∧y < (n:Int)):nQ n x y=0∧qK n x y=(dK n).set x.toNat (kA y.toNat):=by
 have h1:iJ n=0:=by unfold iJ;rw [if_neg (by omega)]
 have h2:nQ n x y=0:=by unfold nQ;rw [if_neg (by omega),if_neg (by omega)];exact (vB (c:=kA 0) hn hx).1
 exact ⟨h2,by unfold qK;rw [if_pos h2];exact (vB hn hx).2⟩
theorem one_ok9 {n:Nat} (hn:n≤64):iJ n=0∧qJ n=dK n:=by
 have h1:iJ n=0:=by unfold iJ;rw [if_neg (by omega)]
 exact ⟨h1,by unfold qJ;rw [if_pos h1,Int.toNat_natCast]⟩
theorem nG {k y:Int} (h:k=2∨k=4∨k=6):tkY k y=some (-2):=by unfold tkY;rw [if_pos h]
theorem wT {k y:Int} (h:k=5):tkY k y=some (-1):=by unfold tkY;rw [if_neg (by omega),if_pos h]
theorem wU {k y:Int} (h:k=3):tkY k y=some y:=by unfold tkY;rw [if_neg (by omega),if_neg (by omega),if_pos h]
theorem wV {k y:Int} (h:¬ (k=2∨k=4∨k=6)∧¬ k=5∧¬ k=3):tkY k y=none:=by unfold tkY;rw [if_neg h.1,if_neg h.2.1,if_neg h.2.2]
theorem jB {n:Nat} {k x y z:Int} (h:tkY k y=some z):tkG n k x y=setG n x z∧tkR n k x y=kJ n x z:=by unfold tkG tkR;rw [h];exact ⟨rfl,rfl⟩
theorem Ae {n:Nat} {k x y:Int} (h:tkY k y=none):tkG n k x y=0∧tkR n k x y=dE n:=by unfold tkG tkR;rw [h];exact ⟨rfl,rfl⟩
theorem w6c {w:World} {b o:Nat} {f:WF} (h:aM w b o f.six):W6 w b o f:=W6.of_cells h
theorem qM:∀ (A old new B:List Value),old.length=new.length→gS (A++old++B) A.length new=A++new++B
 | A,[],[],B,_=>by simp [gS]
 | A,[],_::_,B,h=>by simp at h
 | A,_::_,[],B,h=>by simp at h
 | A,o::old,v::new,B,h=>by
  have h9:=qM (A++[v]) old new B (by simpa using h)
  simp only [gS]
  have e:(A++o::old++B).set A.length v=(A++[v])++old++B:=by simp [List.set_append]
  rw [e]
  simpa using h9
theorem kB {cs:List Cl} {x:Nat} {c:Cl} (hx:x < cs.length):gS (eK cs) (0+x * 3) [.int .u64 (c.f:Int),.int .i64 c.k,.int .i64 c.v]=eK (cs.set x c):=by
 have e:cs=cs.take x++cs[x]::cs.drop (x+1):=by rw [List.getElem_cons_drop hx,List.take_append_drop]
 have hl:(eK (cs.take x)).length=x * 3:=by rw [mS,List.length_take,Nat.min_eq_left (by omega)]
 have e2:cs.set x c=cs.take x++c::cs.drop (x+1):=by
  rw [List.set_eq_take_append_cons_drop,if_pos hx]
 have e3:eK cs=eK (cs.take x)++oY cs[x]++eK (cs.drop (x+1)):=by
  conv=>lhs;rw [e]
  simp only [eK,List.flatMap_append,List.flatMap_cons,List.append_assoc]
 have e4:eK (cs.set x c)=eK (cs.take x)++oY c++eK (cs.drop (x+1)):=by
  rw [e2]
  simp only [eK,List.flatMap_append,List.flatMap_cons,List.append_assoc]
 have h9:=qM (eK (cs.take x)) (oY cs[x]) (oY c) (eK (cs.drop (x+1))) rfl
 rw [hl] at h9
 rw [Nat.zero_add,e4,← h9,← e3]
 rfl
theorem fY (v0:Int) (v1:Int):prog.built 35 [(0,.int .i64 v0),(1,.int .i64 v1)]=some #[.int .i64 v0,.int .i64 v1,.slice none 0 0]:=by kernel_rfl
theorem nR (v0:Int) (v2a:Option Addr) (v2l:Nat) (v2c:Nat):prog.built 35 [(0,.int .i64 v0),(2,.slice v2a v2l v2c)]=some #[.int .i64 v0,.int .i64 0,.slice v2a v2l v2c]:=by kernel_rfl
theorem sG (v00:Value) (v01:Value) (v02:Value) (v10:Value) (v11:Value) (v12:Value):Instr.fill (fun i=>some (i * 3,3)) ((Array.range (2 * 3)).map ((Value.cells (.agg #[.int .i64 0,.int .i64 0,.slice none 0 0]))[· % (Value.cells (.agg #[.int .i64 0,.int .i64 0,.slice none 0 0])).size]!)) [(0,.agg #[v00,v01,v02]),(1,.agg #[v10,v11,v12])]=some (List.toArray [v00,v01,v02,v10,v11,v12]):=by kernel_rfl
theorem yP:cL prog 38=true:=by kernel_rfl
theorem kC:cL prog 39=true:=by kernel_rfl
theorem sH:cL prog 40=true:=by kernel_rfl
theorem yQ:cL prog 41=true:=by kernel_rfl
theorem yR:cL prog 42=true:=by kernel_rfl
theorem yS:cL prog 43=true:=by kernel_rfl
def gA (g:GV) (m:Int):Int:=if gr_checkE g≠0 then gr_checkE g else if m≠1∧m≠2∧m≠3 then 1 else 0
theorem vC (va:Option Addr) (vl:Nat) (vc:Nat) (pa:Option Addr) (pl:Nat) (pc:Nat) (ea:Option Addr) (el:Nat) (ec:Nat) (es:List Int) (xa:Option Addr) (xl:Nat) (xc:Nat) (xs:List Int) (mn:Int) (oa:Option Addr) (ol:Nat) (oc:Nat) (os:List Int) (sa:Option Addr) (sl:Nat) (sc:Nat) (ss:List gr_TV) (ta:Option Addr) (tl:Nat) (tc:Nat) (ts:List UV) (na:Option Addr) (nl:Nat) (nc:Nat) (ns:List NV) (ka:Option Addr) (kl:Nat) (kc:Nat) (ks:List KV) (w:World) (he:dS w ea es) (hel:es.length=el) (hx:dS w xa xs) (hxl:xs.length=xl) (ho:dS w oa os) (hol:os.length=ol) (hs:dB gr_TV.sev 7 w sa ss) (hsl:ss.length=sl) (ht:dB UV.four 4 w ta ts) (htl:ts.length=tl) (hn:dB NV.two 2 w na ns) (hnl:ns.length=nl) (hk:dB KV.two 2 w ka ks) (hkl:ks.length=kl) (b1:vl≤5000) (b2:pl≤5000) (b3:el≤5000) (b4:xl≤5000) (b5:ol≤5000) (b6:sl≤5000) (b7:tl≤5000) (b8:nl≤5000) (b9:kl≤5000) (m:Int) :
  Calls prog 17 #[.agg #[.slice va vl vc,.slice pa pl pc,.slice ea el ec,.slice xa xl xc,.int .i64 mn,.slice oa ol oc,.slice sa sl sc,.slice ta tl tc,.slice na nl nc,.slice ka kl kc],.int .i64 m] w (fun e w'=>e = .returned (.int .i64 (gA ⟨va,vl,vc,pa,pl,pc,ea,el,ec,es,xa,xl,xc,xs,mn,oa,ol,oc,os,sa,sl,sc,ss,ta,tl,tc,ts,na,nl,nc,ns,ka,kl,kc,ks⟩ m))∧Below w.heap.size w w'):=by
 refine cS (args:=[.agg #[.slice va vl vc,.slice pa pl pc,.slice ea el ec,.slice xa xl xc,.int .i64 mn,.slice oa ol oc,.slice sa sl sc,.slice ta tl tc,.slice na nl nc,.slice ka kl kc],.int .i64 m]) func17 rfl ntmps17 rfl ?_
 have hS:=St.start w
 refine aR (aU (cR (cs:=[_,_,_,_,_,_,_,_,_,_]) hS rfl rfl rfl fun B1 W1 hS=>aK rfl rfl (aT (XF.thenN (aR (aR (aU (bF (vs:=[_,_,_,_,_,_,_,_,_,_]) isAgg29 sizeOf29 rfl (aM.own (j:=0) (m:=10) (hS.at_ 0 rfl) rfl) rfl (cD (vs:=[_]) hS oA rfl (uN _ vl vc _ pl pc _ el ec es _ xl xc xs mn _ ol oc os _ sl sc ss _ tl tc ts _ nl nc ns _ kl kc ks  _ (he.below hS.below) hel (hx.below hS.below) hxl (ho.below hS.below) hol (hs.below hS.below) hsl (ht.below hS.below) htl (hn.below hS.below) hnl (hk.below hS.below) hkl b1 b2 b3 b4 b5 b6 b7 b8 b9) rfl fun W2 hS=>aK rfl rfl (aT (XF.thenN (aR (aU (aL rfl rfl (cW rfl rfl rfl (aT (XF.thenN (bJ rfl (fun hc=>?_) (fun hc=>?_)))))))))))))))))))
 ·have hc9:=of_decide_eq_true hc;clear hc
  refine aR (aU (aL rfl rfl (aK rfl rfl (aT (XF.thenN (bP (XF.thenR (XF.res (cG results17 rfl) ?_))))))))
  exact ⟨eD (by unfold gA;rw [if_pos hc9]),hS.below⟩
 ·have hc9:=of_decide_eq_false hc;clear hc
  have hce:¬ gr_checkE ⟨va,vl,vc,pa,pl,pc,ea,el,ec,es,xa,xl,xc,xs,mn,oa,ol,oc,os,sa,sl,sc,ss,ta,tl,tc,ts,na,nl,nc,ns,ka,kl,kc,ks⟩≠0:=hc9
  refine bQ (XF.thenN (aR (aR (aU (aL rfl rfl (cW rfl rfl rfl (aL rfl rfl (bK (d:=13) rfl (fun hc=>?_) (fun hc=>?_)))))))))
  ·have hg13:=of_decide_eq_true hc;clear hc
   refine aF (d:=13) rfl rfl (aL rfl rfl (aF (d:=13) rfl rfl (cW rfl rfl rfl (bC rfl rfl rfl (aL rfl rfl (bK (d:=17) rfl (fun hc=>?_) (fun hc=>?_)))))))
   ·have hg17:=of_decide_eq_true hc;clear hc
    refine aF (d:=17) rfl rfl (aL rfl rfl (aF (d:=17) rfl rfl (cW rfl rfl rfl (bC rfl rfl rfl (aT (XF.thenN (bJ rfl (fun hc=>?_) (fun hc=>?_))))))))
    ·have hc20:=of_decide_eq_true hc;clear hc
     refine aR (aU (aK rfl rfl (aT (XF.thenN (bP (XF.thenR (XF.res (cG results17 rfl) ?_)))))))
     exact ⟨eD (by unfold gA;rw [if_neg hce,if_pos (by omega)]),hS.below⟩
    ·have hc20:=of_decide_eq_false hc;clear hc
     refine bQ (XF.thenN (aR (aU (aK rfl rfl (aT (XF.thenN (bP (XF.res (cG results17 rfl) ?_))))))))
     exact ⟨eD (by unfold gA;rw [if_neg hce,if_neg (by omega)]),hS.below⟩
   ·have hg17:=of_decide_eq_false hc;clear hc
    refine aH (d:=17) rfl rfl rfl rfl (aH (d:=17) rfl rfl rfl rfl (bE rfl rfl rfl (aT (XF.thenN (nN rfl (bQ (XF.thenN (aR (aU (aK rfl rfl (aT (XF.thenN (bP (XF.res (cG results17 rfl) ?_))))))))))))))
    exact ⟨eD (by unfold gA;rw [if_neg hce,if_neg (by omega)]),hS.below⟩
  ·have hg13:=of_decide_eq_false hc;clear hc
   refine aH (d:=13) rfl rfl rfl rfl (aH (d:=13) rfl rfl rfl rfl (bE rfl rfl rfl (aL rfl rfl (aH (d:=17) rfl rfl rfl rfl (aH (d:=17) rfl rfl rfl rfl (bE rfl rfl rfl (aT (XF.thenN (nN rfl (bQ (XF.thenN (aR (aU (aK rfl rfl (aT (XF.thenN (bP (XF.res (cG results17 rfl) ?_))))))))))))))))))
   exact ⟨eD (by unfold gA;rw [if_neg hce,if_neg (by omega)]),hS.below⟩
theorem vD (va:Option Addr) (vl:Nat) (vc:Nat) (pa:Option Addr) (pl:Nat) (pc:Nat) (ea:Option Addr) (el:Nat) (ec:Nat) (es:List Int) (xa:Option Addr) (xl:Nat) (xc:Nat) (xs:List Int) (mn:Int) (oa:Option Addr) (ol:Nat) (oc:Nat) (os:List Int) (sa:Option Addr) (sl:Nat) (sc:Nat) (ss:List gr_TV) (ta:Option Addr) (tl:Nat) (tc:Nat) (ts:List UV) (na:Option Addr) (nl:Nat) (nc:Nat) (ns:List NV) (ka:Option Addr) (kl:Nat) (kc:Nat) (ks:List KV) (w:World) (he:dS w ea es) (hel:es.length=el) (hx:dS w xa xs) (hxl:xs.length=xl) (ho:dS w oa os) (hol:os.length=ol) (hs:dB gr_TV.sev 7 w sa ss) (hsl:ss.length=sl) (ht:dB UV.four 4 w ta ts) (htl:ts.length=tl) (hn:dB NV.two 2 w na ns) (hnl:ns.length=nl) (hk:dB KV.two 2 w ka ks) (hkl:ks.length=kl) (b1:vl≤5000) (b2:pl≤5000) (b3:el≤5000) (b4:xl≤5000) (b5:ol≤5000) (b6:sl≤5000) (b7:tl≤5000) (b8:nl≤5000) (b9:kl≤5000) (m:Int) :
  Calls prog 20 #[.agg #[.slice va vl vc,.slice pa pl pc,.slice ea el ec,.slice xa xl xc,.int .i64 mn,.slice oa ol oc,.slice sa sl sc,.slice ta tl tc,.slice na nl nc,.slice ka kl kc],.int .i64 m] w (fun e w'=>e = .returned (.int .i64 (gA ⟨va,vl,vc,pa,pl,pc,ea,el,ec,es,xa,xl,xc,xs,mn,oa,ol,oc,os,sa,sl,sc,ss,ta,tl,tc,ts,na,nl,nc,ns,ka,kl,kc,ks⟩ m))∧Below w.heap.size w w'):=by
 refine cS (args:=[.agg #[.slice va vl vc,.slice pa pl pc,.slice ea el ec,.slice xa xl xc,.int .i64 mn,.slice oa ol oc,.slice sa sl sc,.slice ta tl tc,.slice na nl nc,.slice ka kl kc],.int .i64 m]) func20 rfl ntmps20 rfl ?_
 have hS:=St.start w
 refine aR (aU (cR (cs:=[_,_,_,_,_,_,_,_,_,_]) hS rfl rfl rfl fun B1 W1 hS=>aK rfl rfl (aT (XF.thenN (aR (aU (bF (vs:=[_,_,_,_,_,_,_,_,_,_]) isAgg29 sizeOf29 rfl (aM.own (j:=0) (m:=10) (hS.at_ 0 rfl) rfl) rfl (cD (vs:=[_]) hS yF rfl (Dc _ vl vc _ pl pc _ el ec es _ xl xc xs mn _ ol oc os _ sl sc ss _ tl tc ts _ nl nc ns _ kl kc ks  _ (he.below hS.below) hel (hx.below hS.below) hxl (ho.below hS.below) hol (hs.below hS.below) hsl (ht.below hS.below) htl (hn.below hS.below) hnl (hk.below hS.below) hkl b1 b2 b3 b4 b5 b6 b7 b8 b9) rfl fun W2 hS=>aK rfl rfl (aT (XF.thenN (aR (aR (aU (aL rfl rfl (cW rfl rfl rfl (aT (XF.thenN (bJ rfl (fun hc=>?_) (fun hc=>?_)))))))))))))))))))
 ·have hc9:=of_decide_eq_true hc;clear hc
  refine aR (aU (aL rfl rfl (aK rfl rfl (aT (XF.thenN (bP (XF.thenR (XF.res (cG results20 rfl) ?_))))))))
  exact ⟨eD (by unfold gA;rw [if_pos hc9]),hS.below⟩
 ·have hc9:=of_decide_eq_false hc;clear hc
  have hce:¬ gr_checkE ⟨va,vl,vc,pa,pl,pc,ea,el,ec,es,xa,xl,xc,xs,mn,oa,ol,oc,os,sa,sl,sc,ss,ta,tl,tc,ts,na,nl,nc,ns,ka,kl,kc,ks⟩≠0:=hc9
  refine bQ (XF.thenN (aR (aR (aU (aL rfl rfl (cW rfl rfl rfl (aL rfl rfl (bK (d:=13) rfl (fun hc=>?_) (fun hc=>?_)))))))))
  ·have hg13:=of_decide_eq_true hc;clear hc
   refine aF (d:=13) rfl rfl (aL rfl rfl (aF (d:=13) rfl rfl (cW rfl rfl rfl (bC rfl rfl rfl (aL rfl rfl (bK (d:=17) rfl (fun hc=>?_) (fun hc=>?_)))))))
   ·have hg17:=of_decide_eq_true hc;clear hc
    refine aF (d:=17) rfl rfl (aL rfl rfl (aF (d:=17) rfl rfl (cW rfl rfl rfl (bC rfl rfl rfl (aT (XF.thenN (bJ rfl (fun hc=>?_) (fun hc=>?_))))))))
    ·have hc20:=of_decide_eq_true hc;clear hc
     refine aR (aU (aK rfl rfl (aT (XF.thenN (bP (XF.thenR (XF.res (cG results20 rfl) ?_)))))))
     exact ⟨eD (by unfold gA;rw [if_neg hce,if_pos (by omega)]),hS.below⟩
    ·have hc20:=of_decide_eq_false hc;clear hc
     refine bQ (XF.thenN (aR (aU (aK rfl rfl (aT (XF.thenN (bP (XF.res (cG results20 rfl) ?_))))))))
     exact ⟨eD (by unfold gA;rw [if_neg hce,if_neg (by omega)]),hS.below⟩
   ·have hg17:=of_decide_eq_false hc;clear hc
    refine aH (d:=17) rfl rfl rfl rfl (aH (d:=17) rfl rfl rfl rfl (bE rfl rfl rfl (aT (XF.thenN (nN rfl (bQ (XF.thenN (aR (aU (aK rfl rfl (aT (XF.thenN (bP (XF.res (cG results20 rfl) ?_))))))))))))))
    exact ⟨eD (by unfold gA;rw [if_neg hce,if_neg (by omega)]),hS.below⟩
  ·have hg13:=of_decide_eq_false hc;clear hc
   refine aH (d:=13) rfl rfl rfl rfl (aH (d:=13) rfl rfl rfl rfl (bE rfl rfl rfl (aL rfl rfl (aH (d:=17) rfl rfl rfl rfl (aH (d:=17) rfl rfl rfl rfl (bE rfl rfl rfl (aT (XF.thenN (nN rfl (bQ (XF.thenN (aR (aU (aK rfl rfl (aT (XF.thenN (bP (XF.res (cG results20 rfl) ?_))))))))))))))))))
   exact ⟨eD (by unfold gA;rw [if_neg hce,if_neg (by omega)]),hS.below⟩
theorem nH (m:Int) (n:Nat) (w:World) :
  Calls prog 18 #[.int .i64 m,.int .i64 (n:Int)] w (fun e w'=>∃ sf:SF,e = .returned sf.val∧(∀ W2,dN w.heap.size w' W2→SIs W2 (spM m n) sf)∧Below w.heap.size w w'):=by
 refine cS (args:=[.int .i64 m,.int .i64 (n:Int)]) func18 rfl ntmps18 rfl ?_
 have hS:=St.start w
 refine aR (aU (bY (cs:=[_,_,_]) hS zeroValue35 rfl rfl fun B1 W1 hS=>aT (XF.thenN (aR (aR (aU (aL rfl rfl (aT (XF.thenN (bR (aR (aU (bW rfl rfl rfl (aK rfl rfl (aT (XF.thenN (bJ rfl (fun hc=>?_) (fun hc=>?_))))))))))))))))))
 ·have hc6:=of_decide_eq_true hc;clear hc
  refine aR (aU (bL (us:=[(0,.int .i64 _),(1,.int .i64 _)]) rfl (fY _ _) rfl (aL rfl rfl (bL (us:=[(0,.int .i64 _),(1,.int .i64 _)]) rfl (fY _ _) rfl (cQ (us:=[(0,.agg (List.toArray [_,_,_])),(1,.agg (List.toArray [_,_,_]))]) hS underlying33 sizeOf35 zeroValue35 rfl rfl rfl (sG _ _ _ _ _ _) rfl fun B2 W2 hS=>bL (us:=[(0,.int .i64 _),(2,.slice _ _ _)]) rfl (nR _ _ _ _) rfl (bA (i:=1) (vs:=[_,_,_]) (cs':=[_,_,_]) (O':=[_,_]) hS sizeOf35 rfl rfl rfl rfl rfl rfl rfl fun W3 hS=>aT (XF.thenN (bP (XF.blkR (XF.thenR (XF.res (eC (vs:=[_,_,_]) results18 isAgg35 sizeOf35 rfl (aM.own (j:=0) (m:=3) (hS.at_ 1 rfl) rfl)) ?_)))))))))))
  exact ⟨⟨5,0,some ⟨B2,0,none⟩,2,2⟩,rfl,(fun W2 hg=>by
   have e1:spM m n = .two 2 1048576 3 n:=by unfold spM;rw [if_pos hc6]
   rw [e1]
   have hc:=aM.agree hg (hS.ge 0 rfl) (aM.own (j:=0) (m:=6) (vs:=[_,_,_,_,_,_]) (hS.at_ 0 rfl) rfl)
   exact ⟨B2,0,2,none,0,none,0,rfl,⟨hc.1,hc.2.1,hc.2.2.1⟩,⟨hc.2.2.2.1,hc.2.2.2.2.1,hc.2.2.2.2.2.1⟩⟩),hS.below⟩
 ·have hc6:=of_decide_eq_false hc;clear hc
  refine aR (aU (bW rfl rfl rfl (aK rfl rfl (aT (XF.thenN (bJ rfl (fun hc=>?_) (fun hc=>?_)))))))
  ·have hc13:=of_decide_eq_true hc;clear hc
   refine aR (aU (aL rfl rfl (bL (us:=[(0,.int .i64 _),(1,.int .i64 _)]) rfl (fY _ _) rfl (bA (i:=0) (vs:=[_,_,_]) (cs':=[_,_,_]) (O':=[_]) hS sizeOf35 rfl rfl rfl rfl rfl rfl rfl fun W4 hS=>aT (XF.thenN (bP (XF.blkR (XF.thenR (XF.res (eC (vs:=[_,_,_]) results18 isAgg35 sizeOf35 rfl (aM.own (j:=0) (m:=3) (hS.at_ 0 rfl) rfl)) ?_)))))))))
   exact ⟨⟨4,(n:Int),none,0,0⟩,rfl,(fun W2 hg=>by
    have e1:spM m n = .one 4 n:=by unfold spM;rw [if_neg hc6,if_pos hc13]
    rw [e1]
    exact ⟨none,0,rfl⟩),hS.below⟩
  ·have hc13:=of_decide_eq_false hc;clear hc
   refine bQ (XF.blkN (XF.thenN (aR (aU (bL (us:=[(0,.int .i64 _)]) rfl (mK _) rfl (bA (i:=0) (vs:=[_,_,_]) (cs':=[_,_,_]) (O':=[_]) hS sizeOf35 rfl rfl rfl rfl rfl rfl rfl fun W5 hS=>aT (XF.thenN (bP (XF.res (eC (vs:=[_,_,_]) results18 isAgg35 sizeOf35 rfl (aM.own (j:=0) (m:=3) (hS.at_ 0 rfl) rfl)) ?_)))))))))
   exact ⟨⟨1,0,none,0,0⟩,rfl,(fun W2 hg=>by
    have e1:spM m n = .one 1 0:=by unfold spM;rw [if_neg hc6,if_neg hc13]
    rw [e1]
    exact ⟨none,0,rfl⟩),hS.below⟩
theorem sI (g:GV) (m:Int) (n:Nat) (w:World) (hn:n=g.vl) :
  Calls prog 21 #[g.val,.int .i64 m] w (fun e w'=>∃ sf:SF,e = .returned sf.val∧(∀ W2,dN w.heap.size w' W2→SIs W2 (spM m n) sf)∧Below w.heap.size w w'):=by
 refine cS (args:=[g.val,.int .i64 m]) func21 rfl ntmps21 rfl ?_
 have hS:=St.start w
 subst hn
 refine aR (aU (cR (cs:=[_,_,_,_,_,_,_,_,_,_]) hS rfl rfl rfl fun B1 W1 hS=>bY (cs:=[_,_,_]) hS zeroValue35 rfl rfl fun B2 W2 hS=>aT (XF.thenN (aR (aR (aU (aL rfl rfl (aT (XF.thenN (bR (aR (aU (bW rfl rfl rfl (aK rfl rfl (aT (XF.thenN (bJ rfl (fun hc=>?_) (fun hc=>?_))))))))))))))))))
 ·have hc6:=of_decide_eq_true hc;clear hc
  refine aR (aU (bL (us:=[(0,.int .i64 _),(1,.int .i64 _)]) rfl (fY _ _) rfl (aQ (o':=0) eE rfl rfl rfl (aV isAgg22 rfl (aI (hS.at_ 1 rfl) rfl) rfl (bU underlying22 rfl rfl (bL (us:=[(0,.int .i64 _),(1,.int .i64 _)]) rfl (fY _ _) rfl (cQ (us:=[(0,.agg (List.toArray [_,_,_])),(1,.agg (List.toArray [_,_,_]))]) hS underlying33 sizeOf35 zeroValue35 rfl rfl rfl (sG _ _ _ _ _ _) rfl fun B3 W3 hS=>bL (us:=[(0,.int .i64 _),(2,.slice _ _ _)]) rfl (nR _ _ _ _) rfl (bA (i:=1) (vs:=[_,_,_]) (cs':=[_,_,_]) (O':=[_,_,_]) hS sizeOf35 rfl rfl rfl rfl rfl rfl rfl fun W4 hS=>aT (XF.thenN (bP (XF.blkR (XF.thenR (XF.res (eC (vs:=[_,_,_]) results21 isAgg35 sizeOf35 rfl (aM.own (j:=0) (m:=3) (hS.at_ 1 rfl) rfl)) ?_)))))))))))))
  exact ⟨⟨5,0,some ⟨B3,0,none⟩,2,2⟩,rfl,(fun W2 hg=>by
   have e1:spM m g.vl = .two 2 1048576 3 g.vl:=by unfold spM;rw [if_pos hc6]
   rw [e1]
   have hc:=aM.agree hg (hS.ge 0 rfl) (aM.own (j:=0) (m:=6) (vs:=[_,_,_,_,_,_]) (hS.at_ 0 rfl) rfl)
   exact ⟨B3,0,2,none,0,none,0,rfl,⟨hc.1,hc.2.1,hc.2.2.1⟩,⟨hc.2.2.2.1,hc.2.2.2.2.1,hc.2.2.2.2.2.1⟩⟩),hS.below⟩
 ·have hc6:=of_decide_eq_false hc;clear hc
  refine aR (aU (bW rfl rfl rfl (aK rfl rfl (aT (XF.thenN (bJ rfl (fun hc=>?_) (fun hc=>?_)))))))
  ·have hc15:=of_decide_eq_true hc;clear hc
   refine aR (aU (aQ (o':=0) eE rfl rfl rfl (aV isAgg22 rfl (aI (hS.at_ 1 rfl) rfl) rfl (bU underlying22 rfl rfl (bL (us:=[(0,.int .i64 _),(1,.int .i64 _)]) rfl (fY _ _) rfl (bA (i:=0) (vs:=[_,_,_]) (cs':=[_,_,_]) (O':=[_,_]) hS sizeOf35 rfl rfl rfl rfl rfl rfl rfl fun W5 hS=>aT (XF.thenN (bP (XF.blkR (XF.thenR (XF.res (eC (vs:=[_,_,_]) results21 isAgg35 sizeOf35 rfl (aM.own (j:=0) (m:=3) (hS.at_ 0 rfl) rfl)) ?_)))))))))))
   exact ⟨⟨4,(g.vl:Int),none,0,0⟩,rfl,(fun W2 hg=>by
    have e1:spM m g.vl = .one 4 g.vl:=by unfold spM;rw [if_neg hc6,if_pos hc15]
    rw [e1]
    exact ⟨none,0,rfl⟩),hS.below⟩
  ·have hc15:=of_decide_eq_false hc;clear hc
   refine bQ (XF.blkN (XF.thenN (aR (aU (bL (us:=[(0,.int .i64 _)]) rfl (mK _) rfl (bA (i:=0) (vs:=[_,_,_]) (cs':=[_,_,_]) (O':=[_,_]) hS sizeOf35 rfl rfl rfl rfl rfl rfl rfl fun W6 hS=>aT (XF.thenN (bP (XF.res (eC (vs:=[_,_,_]) results21 isAgg35 sizeOf35 rfl (aM.own (j:=0) (m:=3) (hS.at_ 0 rfl) rfl)) ?_)))))))))
   exact ⟨⟨1,0,none,0,0⟩,rfl,(fun W2 hg=>by
    have e1:spM m g.vl = .one 1 0:=by unfold spM;rw [if_neg hc6,if_neg hc15]
    rw [e1]
    exact ⟨none,0,rfl⟩),hS.below⟩
theorem tQ (n:Nat) (s:gr_TV) (w:World) (hn:n≤64) (hs:StOk n s.k s.x s.y) (g:Nat) (rows:List Nat) (hg:tkG n s.k s.x s.y=g) (hr:tkR n s.k s.x s.y=rows) :
  Calls prog 28 #[.int .i64 (n:Int),s.val] w (fun e w'=>∃ (a:Option Addr) (c:Nat),e = .returned (.agg #[.int .u64 (g:Int),.slice a rows.length c])∧PNew w.heap.size w' 3 n (gT g a c rows) (pF g rows)∧Below w.heap.size w w'):=by
 refine cS (args:=[.int .i64 (n:Int),s.val]) func28 rfl ntmps28 rfl ?_
 have hS:=St.start w
 have hgd:Good n g rows:=by rw [← hg,← hr];exact Ab hn hs
 have h1n:=oX hn
 refine aR (aU (cR (cs:=[_,_,_,_,_,_,_]) hS rfl rfl rfl fun B1 W1 hS=>bY (cs:=[_,_]) hS zeroValue55 rfl rfl fun B2 W2 hS=>aT (XF.thenN (aR (aU (aL rfl rfl ?_))))))
 have hsz1:=hS.below.size
 refine cV (vs:=[_]) hS yP rfl ((rA (n:Int) _ 0 h1n.1 (dE n) h1n.2).mono fun _ _ h=>uR.ret h) rfl ?_
 rintro e W3 ⟨a1,c1,rfl,hv1,hk1,hb⟩
 refine ⟨_,rfl,hb,fun hS'=>?_⟩
 clear hS;have hS:=hS';clear hS'
 refine aL rfl rfl (bM rfl rfl rfl (bM rfl rfl rfl (bY (cs:=[_,_]) hS zeroValue55 rfl rfl fun B4 W4 hS=>bA (i:=0) (vs:=[_,_]) (cs':=[_,_]) (O':=[_,_,_]) hS sizeOf55 rfl rfl rfl rfl rfl rfl rfl fun W5 hS=>aK rfl rfl (aT (XF.thenN (aR (aU (aK rfl rfl (aT (XF.thenN (aR (aR (aU (aQ (o':=2) dQ rfl rfl rfl (aV isAgg77 rfl (aI (hS.at_ 2 rfl) rfl) rfl (aT (XF.thenN (bR (aR (bR (aR (bR (aR (bR (aR (aR (aR (aR (aU (bW rfl rfl rfl (aK rfl rfl (aT (XF.thenN (bJ rfl (fun hc=>?_) (fun hc=>?_)))))))))))))))))))))))))))))))))))
 ·have hc15:=of_decide_eq_true hc;clear hc
  refine bQ (XF.thenN (bJ rfl (fun hc=>?_) (fun hc=>absurd (of_decide_eq_false hc) (by exact fun h=>h hc15))))
  have hc:=of_decide_eq_true hc
  refine cZ (XF.thenX (XF.thenX (XF.blkX (XF.thenN (aU (aK rfl rfl (aT (XF.blkN (XF.thenN (aR ?_))))))))))
  clear hv1 hk1 hsz1
  have hkk:2≤s.k∧s.k≤6:=by omega
  have hxx:=hs.x hkk
  have hsz1:=hS.below.size
  have ht:=jB (n:=n) (x:=s.x) (nG (y:=s.y) (by omega:s.k=2∨s.k=4∨s.k=6))
  have hgz:setG n s.x (-2)=g:=ht.1.symm.trans hg
  have hrz:kJ n s.x (-2)=rows:=ht.2.symm.trans hr
  refine aU (aL rfl rfl (aQ (o':=3) cF rfl rfl rfl (aV isAgg3 rfl (aI (hS.at_ 2 rfl) rfl) rfl (aL rfl rfl (cV (vs:=[_,_,_]) hS kC rfl (oV (n:Int) s.x (-2) _ 0 (iL hn hxx (by omega)) g hgz rows hrz) rfl ?_)))))
  rintro e W6 ⟨a1,c1,rfl,hv1,hk1,hb⟩
  refine ⟨_,rfl,hb,fun hS'=>?_⟩
  clear hS;have hS:=hS';clear hS'
  refine aL rfl rfl (bM rfl rfl rfl (bM rfl rfl rfl (bA (i:=0) (vs:=[_,_]) (cs':=[_,_]) (O':=[_,_,_]) hS sizeOf55 rfl rfl rfl rfl rfl rfl rfl fun W7 hS=>aT (XF.thenN (cZ (XF.blkO rfl (XF.thenX (XF.blkX (XF.thenN (aR (aU (bF (vs:=[_,_]) isAgg55 sizeOf55 rfl (aM.own (j:=0) (m:=2) (hS.at_ 0 rfl) rfl) rfl (bA (i:=1) (vs:=[_,_]) (cs':=[_,_]) (O':=[_,_,_]) hS sizeOf55 rfl rfl rfl rfl rfl rfl rfl fun W8 hS=>aT (XF.thenN (bP (XF.res (eC (vs:=[_,_]) results28 isAgg55 sizeOf55 rfl (aM.own (j:=0) (m:=2) (hS.at_ 1 rfl) rfl)) ?_))))))))))))))))
  exact ⟨a1,c1,rfl,fH hgd (gE.agree hv1 (fun ad e=>(hk1 ad e).1) (hS.since 0 rfl)) (fun ad e=>Nat.le_trans hsz1 (hk1 ad e).1),hS.below⟩
 ·have hc15:=of_decide_eq_false hc;clear hc
  have hn2:=hc15
  refine aR (aU (bW rfl rfl rfl (aK rfl rfl (aT (XF.thenN (bJ rfl (fun hc=>?_) (fun hc=>?_)))))))
  ·have hc15:=of_decide_eq_true hc;clear hc
   refine bQ (XF.thenN (bJ rfl (fun hc=>?_) (fun hc=>absurd (of_decide_eq_false hc) (by exact fun h=>h hc15))))
   have hc:=of_decide_eq_true hc
   refine cZ (XF.thenX (XF.thenX (XF.blkX (XF.thenN (aU (aK rfl rfl (aT (XF.blkN (XF.thenN (aR ?_))))))))))
   clear hv1 hk1 hsz1
   have hkk:2≤s.k∧s.k≤6:=by omega
   have hxx:=hs.x hkk
   have hsz1:=hS.below.size
   have ht:=jB (n:=n) (x:=s.x) (nG (y:=s.y) (by omega:s.k=2∨s.k=4∨s.k=6))
   have hgz:setG n s.x (-2)=g:=ht.1.symm.trans hg
   have hrz:kJ n s.x (-2)=rows:=ht.2.symm.trans hr
   refine aU (aL rfl rfl (aQ (o':=3) cF rfl rfl rfl (aV isAgg3 rfl (aI (hS.at_ 2 rfl) rfl) rfl (aL rfl rfl (cV (vs:=[_,_,_]) hS kC rfl (oV (n:Int) s.x (-2) _ 0 (iL hn hxx (by omega)) g hgz rows hrz) rfl ?_)))))
   rintro e W9 ⟨a1,c1,rfl,hv1,hk1,hb⟩
   refine ⟨_,rfl,hb,fun hS'=>?_⟩
   clear hS;have hS:=hS';clear hS'
   refine aL rfl rfl (bM rfl rfl rfl (bM rfl rfl rfl (bA (i:=0) (vs:=[_,_]) (cs':=[_,_]) (O':=[_,_,_]) hS sizeOf55 rfl rfl rfl rfl rfl rfl rfl fun W10 hS=>aT (XF.thenN (cZ (XF.blkO rfl (XF.thenX (XF.blkX (XF.thenN (aR (aU (bF (vs:=[_,_]) isAgg55 sizeOf55 rfl (aM.own (j:=0) (m:=2) (hS.at_ 0 rfl) rfl) rfl (bA (i:=1) (vs:=[_,_]) (cs':=[_,_]) (O':=[_,_,_]) hS sizeOf55 rfl rfl rfl rfl rfl rfl rfl fun W11 hS=>aT (XF.thenN (bP (XF.res (eC (vs:=[_,_]) results28 isAgg55 sizeOf55 rfl (aM.own (j:=0) (m:=2) (hS.at_ 1 rfl) rfl)) ?_))))))))))))))))
   exact ⟨a1,c1,rfl,fH hgd (gE.agree hv1 (fun ad e=>(hk1 ad e).1) (hS.since 0 rfl)) (fun ad e=>Nat.le_trans hsz1 (hk1 ad e).1),hS.below⟩
  ·have hc15:=of_decide_eq_false hc;clear hc
   have hn4:=hc15
   refine aU (bW rfl rfl rfl (aK rfl rfl (aT (XF.thenN (bJ rfl (fun hc=>?_) (fun hc=>?_))))))
   ·have hc15:=of_decide_eq_true hc;clear hc
    refine cZ (XF.thenX (XF.thenX (XF.blkX (XF.thenN (aU (aK rfl rfl (aT (XF.blkN (XF.thenN (aR ?_))))))))))
    clear hv1 hk1 hsz1
    have hkk:2≤s.k∧s.k≤6:=by omega
    have hxx:=hs.x hkk
    have hsz1:=hS.below.size
    have ht:=jB (n:=n) (x:=s.x) (nG (y:=s.y) (by omega:s.k=2∨s.k=4∨s.k=6))
    have hgz:setG n s.x (-2)=g:=ht.1.symm.trans hg
    have hrz:kJ n s.x (-2)=rows:=ht.2.symm.trans hr
    refine aU (aL rfl rfl (aQ (o':=3) cF rfl rfl rfl (aV isAgg3 rfl (aI (hS.at_ 2 rfl) rfl) rfl (aL rfl rfl (cV (vs:=[_,_,_]) hS kC rfl (oV (n:Int) s.x (-2) _ 0 (iL hn hxx (by omega)) g hgz rows hrz) rfl ?_)))))
    rintro e W12 ⟨a1,c1,rfl,hv1,hk1,hb⟩
    refine ⟨_,rfl,hb,fun hS'=>?_⟩
    clear hS;have hS:=hS';clear hS'
    refine aL rfl rfl (bM rfl rfl rfl (bM rfl rfl rfl (bA (i:=0) (vs:=[_,_]) (cs':=[_,_]) (O':=[_,_,_]) hS sizeOf55 rfl rfl rfl rfl rfl rfl rfl fun W13 hS=>aT (XF.thenN (cZ (XF.blkO rfl (XF.thenX (XF.blkX (XF.thenN (aR (aU (bF (vs:=[_,_]) isAgg55 sizeOf55 rfl (aM.own (j:=0) (m:=2) (hS.at_ 0 rfl) rfl) rfl (bA (i:=1) (vs:=[_,_]) (cs':=[_,_]) (O':=[_,_,_]) hS sizeOf55 rfl rfl rfl rfl rfl rfl rfl fun W14 hS=>aT (XF.thenN (bP (XF.res (eC (vs:=[_,_]) results28 isAgg55 sizeOf55 rfl (aM.own (j:=0) (m:=2) (hS.at_ 1 rfl) rfl)) ?_))))))))))))))))
    exact ⟨a1,c1,rfl,fH hgd (gE.agree hv1 (fun ad e=>(hk1 ad e).1) (hS.since 0 rfl)) (fun ad e=>Nat.le_trans hsz1 (hk1 ad e).1),hS.below⟩
   ·have hc15:=of_decide_eq_false hc;clear hc
    have hn6:=hc15
    refine bQ (XF.thenN (aR (aR (aU (bW rfl rfl rfl (aK rfl rfl (aT (XF.thenN (bJ rfl (fun hc=>?_) (fun hc=>?_))))))))))
    ·have hc19:=of_decide_eq_true hc;clear hc
     refine cZ (XF.thenX (XF.thenX (XF.blkO rfl (XF.thenX (XF.blkX (XF.thenN (aR ?_)))))))
     clear hv1 hk1 hsz1
     have hkk:2≤s.k∧s.k≤6:=by omega
     have hxx:=hs.x hkk
     have hsz1:=hS.below.size
     have ht:=jB (n:=n) (x:=s.x) (wT (y:=s.y) (by omega:s.k=5))
     have hgz:setG n s.x (-1)=g:=ht.1.symm.trans hg
     have hrz:kJ n s.x (-1)=rows:=ht.2.symm.trans hr
     refine aU (aL rfl rfl (aQ (o':=3) cF rfl rfl rfl (aV isAgg3 rfl (aI (hS.at_ 2 rfl) rfl) rfl (aL rfl rfl (cV (vs:=[_,_,_]) hS kC rfl (oV (n:Int) s.x (-1) _ 0 (iL hn hxx (by omega)) g hgz rows hrz) rfl ?_)))))
     rintro e W15 ⟨a1,c1,rfl,hv1,hk1,hb⟩
     refine ⟨_,rfl,hb,fun hS'=>?_⟩
     clear hS;have hS:=hS';clear hS'
     refine aL rfl rfl (bM rfl rfl rfl (bM rfl rfl rfl (bA (i:=0) (vs:=[_,_]) (cs':=[_,_]) (O':=[_,_,_]) hS sizeOf55 rfl rfl rfl rfl rfl rfl rfl fun W16 hS=>aT (XF.thenN (cZ (XF.blkO rfl (XF.thenX (XF.blkX (XF.thenN (aR (aU (bF (vs:=[_,_]) isAgg55 sizeOf55 rfl (aM.own (j:=0) (m:=2) (hS.at_ 0 rfl) rfl) rfl (bA (i:=1) (vs:=[_,_]) (cs':=[_,_]) (O':=[_,_,_]) hS sizeOf55 rfl rfl rfl rfl rfl rfl rfl fun W17 hS=>aT (XF.thenN (bP (XF.res (eC (vs:=[_,_]) results28 isAgg55 sizeOf55 rfl (aM.own (j:=0) (m:=2) (hS.at_ 1 rfl) rfl)) ?_))))))))))))))))
     exact ⟨a1,c1,rfl,fH hgd (gE.agree hv1 (fun ad e=>(hk1 ad e).1) (hS.since 0 rfl)) (fun ad e=>Nat.le_trans hsz1 (hk1 ad e).1),hS.below⟩
    ·have hc19:=of_decide_eq_false hc;clear hc
     refine bQ (XF.thenN (aR (aU (bW rfl rfl rfl (aK rfl rfl (aT (XF.thenN (bJ rfl (fun hc=>?_) (fun hc=>?_)))))))))
     ·have hc21:=of_decide_eq_true hc;clear hc
      refine cZ (XF.thenX (XF.blkO rfl (XF.thenX (XF.blkO rfl (XF.thenX (XF.blkX (XF.thenN (aR ?_))))))))
      clear hv1 hk1 hsz1
      have hyy:=hs.y hc21
      have hkk:2≤s.k∧s.k≤6:=by omega
      have hxx:=hs.x hkk
      have hsz1:=hS.below.size
      have ht:=jB (n:=n) (x:=s.x) (wU (y:=s.y) (by omega:s.k=3))
      have hgz:setG n s.x s.y=g:=ht.1.symm.trans hg
      have hrz:kJ n s.x s.y=rows:=ht.2.symm.trans hr
      refine aU (aL rfl rfl (aQ (o':=3) cF rfl rfl rfl (aV isAgg3 rfl (aI (hS.at_ 2 rfl) rfl) rfl (aQ (o':=4) dT rfl rfl rfl (aV isAgg3 rfl (aI (hS.at_ 2 rfl) rfl) rfl (cV (vs:=[_,_,_]) hS kC rfl (oV (n:Int) s.x s.y _ 0 (iL hn hxx (by omega)) g hgz rows hrz) rfl ?_))))))
      rintro e W18 ⟨a1,c1,rfl,hv1,hk1,hb⟩
      refine ⟨_,rfl,hb,fun hS'=>?_⟩
      clear hS;have hS:=hS';clear hS'
      refine aL rfl rfl (bM rfl rfl rfl (bM rfl rfl rfl (bA (i:=0) (vs:=[_,_]) (cs':=[_,_]) (O':=[_,_,_]) hS sizeOf55 rfl rfl rfl rfl rfl rfl rfl fun W19 hS=>aT (XF.thenN (cZ (XF.blkX (XF.thenN (aR (aU (bF (vs:=[_,_]) isAgg55 sizeOf55 rfl (aM.own (j:=0) (m:=2) (hS.at_ 0 rfl) rfl) rfl (bA (i:=1) (vs:=[_,_]) (cs':=[_,_]) (O':=[_,_,_]) hS sizeOf55 rfl rfl rfl rfl rfl rfl rfl fun W20 hS=>aT (XF.thenN (bP (XF.res (eC (vs:=[_,_]) results28 isAgg55 sizeOf55 rfl (aM.own (j:=0) (m:=2) (hS.at_ 1 rfl) rfl)) ?_))))))))))))))
      exact ⟨a1,c1,rfl,fH hgd (gE.agree hv1 (fun ad e=>(hk1 ad e).1) (hS.since 0 rfl)) (fun ad e=>Nat.le_trans hsz1 (hk1 ad e).1),hS.below⟩
     ·have hc21:=of_decide_eq_false hc;clear hc
      refine bQ (XF.thenN (cZ (XF.blkO rfl (XF.thenX (XF.blkO rfl (XF.thenX (XF.blkO rfl (XF.thenX (XF.blkX (XF.thenN (aR (aU (bF (vs:=[_,_]) isAgg55 sizeOf55 rfl (aM.own (j:=0) (m:=2) (hS.at_ 0 rfl) rfl) rfl (bA (i:=1) (vs:=[_,_]) (cs':=[_,_]) (O':=[_,_,_]) hS sizeOf55 rfl rfl rfl rfl rfl rfl rfl fun W21 hS=>aT (XF.thenN (bP (XF.res (eC (vs:=[_,_]) results28 isAgg55 sizeOf55 rfl (aM.own (j:=0) (m:=2) (hS.at_ 1 rfl) rfl)) ?_)))))))))))))))))
      have ht:=Ae (n:=n) (x:=s.x) (wV (k:=s.k) (y:=s.y) ⟨by omega,hc19,hc21⟩)
      obtain rfl:0=g:=ht.1.symm.trans hg
      obtain rfl:dE n=rows:=ht.2.symm.trans hr
      exact ⟨a1,c1,rfl,fH hgd (gE.agree hv1 (fun ad e=>(hk1 ad e).1) (hS.since 0 rfl)) (fun ad e=>Nat.le_trans hsz1 (hk1 ad e).1),hS.below⟩
theorem Dr (n:Nat) (s:gr_TV) (w:World) (hn:n≤64) (hs:StOk n s.k s.x s.y) (cs:List Cl) (hc:tkC n s.k s.x s.y s.kk=cs) :
  Calls prog 29 #[.int .i64 (n:Int),s.val] w (fun e w'=>∃ (a:Option Addr) (c:Nat),e = .returned (.slice a cs.length c)∧PNew w.heap.size w' 4 n (cellsF a c cs) (pX cs)∧Below w.heap.size w w'):=by
 refine cS (args:=[.int .i64 (n:Int),s.val]) func29 rfl ntmps29 rfl ?_
 have hS:=St.start w
 have hvd:Val n cs:=by rw [← hc];exact Ac hn hs
 have h1n:=one_ok9 hn
 have hc0:=hc;clear hc
 refine aR (aU (cR (cs:=[_,_,_,_,_,_,_]) hS rfl rfl rfl fun B1 W1 hS=>aK rfl rfl (aT (XF.thenN (aR (aU (aL rfl rfl ?_)))))))
 have hsz1:=hS.below.size
 refine cV (vs:=[_]) hS sH rfl (one_any (n:Int) _ 0 h1n.1) rfl ?_
 rintro e W2 ⟨a1,c1,rfl,hv1,hk1,hb⟩
 refine ⟨_,rfl,hb,fun hS'=>?_⟩
 clear hS;have hS:=hS';clear hS'
 refine aL rfl rfl (bM rfl rfl rfl (bM rfl rfl rfl (aK rfl rfl (aK rfl rfl (aT (XF.thenN (aR (aR (aU (aQ (o':=2) dQ rfl rfl rfl (aV isAgg77 rfl (aI (hS.at_ 0 rfl) rfl) rfl (aT (XF.thenN (bR (aR (aU (bW rfl rfl rfl (aK rfl rfl (aT (XF.thenN (bJ rfl (fun hc=>?_) (fun hc=>?_))))))))))))))))))))))
 ·have hc14:=of_decide_eq_true hc;clear hc
  clear hv1 hk1 hsz1
  have hkk:2≤s.k∧s.k≤6:=by omega
  have hxx:=hs.x hkk
  have hsz1:=hS.below.size
  have hp:=vB (c:=⟨0,1,s.kk⟩) hn hxx
  have hq:oF n s.x ⟨0,1,s.kk⟩=cs:=hp.2.trans (by rw [← hc0];unfold tkC;rw [if_pos hc14])
  refine aU (aL rfl rfl (aQ (o':=3) cF rfl rfl rfl (aV isAgg3 rfl (aI (hS.at_ 0 rfl) rfl) rfl (aQ (o':=5) fU rfl rfl rfl (aV isAgg2 rfl (aI (hS.at_ 0 rfl) rfl) rfl (cV (vs:=[_,_,_]) hS yQ rfl (set_any (n:Int) s.x s.kk _ 0 hp.1 cs hq) rfl ?_))))))
  rintro e W3 ⟨a1,c1,rfl,hv1,hk1,hb⟩
  refine ⟨_,rfl,hb,fun hS'=>?_⟩
  clear hS;have hS:=hS';clear hS'
  refine aL rfl rfl (bM rfl rfl rfl (bM rfl rfl rfl (aK rfl rfl (aT (XF.blkN (XF.thenN (aR (aU (aL rfl rfl (aK rfl rfl (aT (XF.thenN (bP (XF.res (cG results29 rfl) ?_))))))))))))))
  exact ⟨a1,c1,rfl,gQ hvd (lA.agree hv1 (fun ad e=>(hk1 ad e).1) (hS.since 0 rfl)) (fun ad e=>Nat.le_trans hsz1 (hk1 ad e).1),hS.below⟩
 ·have hc14:=of_decide_eq_false hc;clear hc
  refine aR (aU (bW rfl rfl rfl (aK rfl rfl (aT (XF.thenN (bJ rfl (fun hc=>?_) (fun hc=>?_)))))))
  ·have hc25:=of_decide_eq_true hc;clear hc
   clear hv1 hk1 hsz1
   have hkk:2≤s.k∧s.k≤6:=by omega
   have hxx:=hs.x hkk
   have hsz1:=hS.below.size
   have hyy:=hs.y hc25
   have hp:=copy_ok hn hxx hyy
   have hq:qK n s.x s.y=cs:=hp.2.trans (by rw [← hc0];unfold tkC;rw [if_neg hc14,if_pos hc25])
   have hwf:(Lit.int .i64 s.y).wf=true:=wfI (by omega) (by omega)
   refine aU (aL rfl rfl (aQ (o':=3) cF rfl rfl rfl (aV isAgg3 rfl (aI (hS.at_ 0 rfl) rfl) rfl (aQ (o':=4) dT rfl rfl rfl (aV isAgg3 rfl (aI (hS.at_ 0 rfl) rfl) rfl (cV (vs:=[_,_,_]) hS yR rfl (Dm (n:Int) s.x s.y _ hwf 0 hp.1 cs hq) rfl ?_))))))
   rintro e W4 ⟨a1,c1,rfl,hv1,hk1,hb⟩
   refine ⟨_,rfl,hb,fun hS'=>?_⟩
   clear hS;have hS:=hS';clear hS'
   refine aL rfl rfl (bM rfl rfl rfl (bM rfl rfl rfl (aK rfl rfl (aT (XF.blkN (XF.thenN (aR (aU (aL rfl rfl (aK rfl rfl (aT (XF.thenN (bP (XF.res (cG results29 rfl) ?_))))))))))))))
   exact ⟨a1,c1,rfl,gQ hvd (lA.agree hv1 (fun ad e=>(hk1 ad e).1) (hS.since 0 rfl)) (fun ad e=>Nat.le_trans hsz1 (hk1 ad e).1),hS.below⟩
  ·have hc25:=of_decide_eq_false hc;clear hc
   refine aR (aU (bW rfl rfl rfl (aK rfl rfl (aT (XF.thenN (bJ rfl (fun hc=>?_) (fun hc=>?_)))))))
   ·have hc36:=of_decide_eq_true hc;clear hc
    clear hv1 hk1 hsz1
    have hkk:2≤s.k∧s.k≤6:=by omega
    have hxx:=hs.x hkk
    have hsz1:=hS.below.size
    have hp:=vB (c:=⟨0,2,0⟩) hn hxx
    have hq:oF n s.x ⟨0,2,0⟩=cs:=hp.2.trans (by rw [← hc0];unfold tkC;rw [if_neg hc14,if_neg hc25,if_pos hc36])
    refine aU (aL rfl rfl (aQ (o':=3) cF rfl rfl rfl (aV isAgg3 rfl (aI (hS.at_ 0 rfl) rfl) rfl (cV (vs:=[_,_]) hS yS rfl (any_any (n:Int) s.x _ 0 hp.1 cs hq) rfl ?_))))
    rintro e W5 ⟨a1,c1,rfl,hv1,hk1,hb⟩
    refine ⟨_,rfl,hb,fun hS'=>?_⟩
    clear hS;have hS:=hS';clear hS'
    refine aL rfl rfl (bM rfl rfl rfl (bM rfl rfl rfl (aK rfl rfl (aT (XF.blkN (XF.thenN (aR (aU (aL rfl rfl (aK rfl rfl (aT (XF.thenN (bP (XF.res (cG results29 rfl) ?_))))))))))))))
    exact ⟨a1,c1,rfl,gQ hvd (lA.agree hv1 (fun ad e=>(hk1 ad e).1) (hS.since 0 rfl)) (fun ad e=>Nat.le_trans hsz1 (hk1 ad e).1),hS.below⟩
   ·have hc36:=of_decide_eq_false hc;clear hc
    refine bQ (XF.blkN (XF.thenN (aR (aU (aL rfl rfl (aK rfl rfl (aT (XF.thenN (bP (XF.res (cG results29 rfl) ?_))))))))))
    have hq:qJ (n:Int)=cs:=h1n.2.trans (by rw [← hc0];unfold tkC;rw [if_neg hc14,if_neg hc25,if_neg hc36])
    subst hq
    exact ⟨a1,c1,rfl,gQ hvd (lA.agree hv1 (fun ad e=>(hk1 ad e).1) (hS.since 0 rfl)) (fun ad e=>Nat.le_trans hsz1 (hk1 ad e).1),hS.below⟩
end
end Go.Proofs.Ytfnmjcgfagldkaa
