import Derived.Test.YtmgnkpibpjgncaaGreatDoorMoF
set_option maxRecDepth 100000
set_option maxHeartbeats 4000000
set_option linter.unusedVariables false
set_option linter.unusedVariables false
set_option linter.unusedSimpArgs false
set_option linter.unusedSectionVars false
set_option linter.unnecessarySimpa false
namespace Go.Proofs.YtmgnkpibpjgncaaGreatDoor
open Go Go.RowKit
theorem Lz:Tryz.prog.built 141 []=some #[]:=by kernel_rfl
theorem St.restG {w0 W:World} {O:Own} {g:GR} {G:cO} {K:List (Nat×World)} (h:St w0 O (g::G) K W):St w0 O G K W:=⟨h.below,h.own,h.dist,h.kept,fun g hg=>h.rows g (List.mem_cons_of_mem _ hg),(List.pairwise_cons.1 h.gdist).2⟩
theorem Qv.cap {k:Nat} {g:GR} {ad:Option Addr} {m c base:Nat} {w:World} (h:Qv k g (.slice ad m c)) (ho:w.ownsRow base g.e g.size g.v g.n g.xs):m≤c:=by
 obtain ⟨h0,a,c0,ad0,h1,h2,h3⟩:=h
 injection h2 with _ e1 e2
 obtain ⟨a2,c2,e,hle⟩:=gH ho
 rw [h1] at e
 injection e with _ _ e3
 omega
theorem iO.blk {b n:Nat} {ks:List Nat} {W:World} (h:iO b n ks W):∃ es clock,W.heap[b]?=some (.map es clock):=by
 obtain ⟨D,⟨es,clock,h1,h2⟩,h3⟩:=h
 exact ⟨es,clock,h1⟩
theorem iO.kept {w0 W W':World} {O:Own} {G:cO} {K:List (Nat×World)} {b n:Nat} {ks:List Nat} (h:iO b n ks W) (hS:St w0 O G K W') (hq:(b,rL W b)∈K):iO b n ks W':=h.same fun hlt=>((hS.kept _ hq).1.2 b (Nat.le_refl _) (tY hlt)).trans (tZ hlt)
theorem L0 {w0 W W':World} {O:Own} {G:cO} {K:List (Nat×World)} {b:Nat} (hS:St w0 O G K W') (hq:(b,rL W b)∈K) (hb:b < W.heap.size):b < W'.heap.size:=Nat.lt_of_lt_of_le (tY hb) (hS.kept _ hq).1.1
theorem Es {S:PS} {x0 x:PX} (hok:S.ok) (h0:OkX S x0) (hx:OkX S x) (h:bY S x0 x≠x0):bY S x0 x≠bJ S:=by
 by_cases hz:x0=bJ S
 ·rw [hz] at h ⊢;exact h
 ·exact Ln hok h0 hx hz
theorem wE (S:PS) (a:AV) (f0:WF) (bk:Bool) (bm VA VX RB IA WA n:Nat) (va:Value) (fs:List WF) (xs:List PX) (l:List Nat) (Ot:Own) (Gt:cO) (K:List (Nat×World)) (w0:World) (lo:Nat) (py:TV→PX) (kf:TV→Int×Int) (w:World) (hS0:St w0 ((RB,rdC f0 a bk bm VA VX,109)::(VA,gL va n IA WA,139)::(IA,inC S xs,4)::(WA,wC fs,44)::Ot) (⟨va,l.length,atC l,3,1⟩::Gt) K w) (hV:VecOk S w0 K n fs xs l) (hn:n≤4096) (hM:oN w0 K kf lo a.ts bm) (htrow:qL w0 a.ta a.ts) (htlen:a.ts.length=a.tl) (htm:a.tl≤65536) (htq:∀ t∈a.ts,inQ t.t (n:Int)=true) (hpy:∀ t∈a.ts,XIs w0 S t.x.f (py t)) (hkf:∀ t∈a.ts,∃ s:Nat,(kf t).1=(s:Int)∧s < n) (hht:Gf S≤4194304) (hsi:SIs w0 S a.s.f) (hok:S.ok) (ht:Tabs w0) (H0:lF w0 K (fun W=>XIs W S f0 (bJ S))) :
  Calls Tryz.prog 57 #[.pointer (some ⟨RB,0,none⟩)] w (fun e w'=>∃ (u:Value) (l':List Nat) (fs':List WF) (xs':List PX) (Kn:List (Nat×World)),e = .returned (.tuple #[])∧(∀ q∈K,q∈Kn)∧VecOk S w0 Kn n fs' xs' l'∧Eps S bk (egsX kf py a.ts) xs xs'∧vO S bk (egsX kf py a.ts) xs'∧St w0 ((RB,rdC f0 a bk bm VA VX,109)::(VA,gL u n IA WA,139)::(IA,inC S xs',4)::(WA,wC fs',44)::Ot) (⟨u,l'.length,atC l',3,1⟩::Gt) Kn w'):=by
 refine cE (args:=[.pointer (some ⟨RB,0,none⟩)]) Tryz.func57 rfl Tryz.ntmps57 rfl ?_
 have hS:=hS0
 obtain ⟨aa,ac,hva,_⟩:=gH (hS.row 0 rfl)
 have hva:va = .slice aa l.length ac:=hva
 subst hva
 have hll:=hV.len
 have hEo:∀ e∈(egsX kf py a.ts),OkX S e.y:=fun e he=>by obtain ⟨t,ht9,rfl⟩:=List.mem_map.1 he;exact (hpy t ht9).ok
 refine aN (aP (aI rfl rfl (cG rfl rfl (aM (o':=18) jV rfl rfl rfl (aR Tryz.isAgg107 rfl (aK (hS.at_ 0 rfl) rfl) rfl (aC rfl rfl (aO (XF.thenN (aN (aP (Nz hS Tryz.underlying26 Tryz.sizeOf3 rfl fun v1 W1 hS=>aI rfl rfl (cG rfl rfl (aM (o':=0) jU rfl rfl rfl (aR Tryz.isAgg26 rfl (aK (hS.at_ 1 rfl) rfl) rfl ?_))))))))))))))
 refine yW (i:=0) (news:=atC l) hS Tryz.underlying26 Jw rfl rfl (by show 0 < 1;decide) rfl rfl rfl rfl rfl (row_src (hS.row 1 rfl)) (by rw [atC_len];show _=l.length * 1;omega) (fun u hu=>by obtain ⟨i,_,rfl⟩:=List.mem_map.1 hu;rfl) (by dsimp only;simp only [maxLen];omega) (by show (0+l.length) * 8≤_;omega) rfl fun v2 W2 hS=>?_
 obtain ⟨a3,c3,hv3,_⟩:=gH (hS.row 0 rfl)
 have hv3:v2 = .slice a3 (0+l.length) c3:=hv3
 rw [Nat.zero_add] at hv3
 subst hv3
 have hS:=(hS.castG (G':=⟨(.slice a3 l.length c3),l.length,atC l,3,1⟩::⟨(.slice aa l.length ac),l.length,atC l,3,1⟩::Gt) (by show _::_=_;rw [Nat.zero_add];rfl)).permG (List.Perm.swap _ _ _)
 refine aC rfl rfl (aO (XF.thenN (aN (aP (aI rfl rfl (cJ Tryz.underlying26 rfl rfl (Hd hS Tryz.underlying140 rfl rfl ?_)))))))
 have hsz2:=hS.below.size
 have hKs2:∀ q∈K,q.2.heap.size≤_:=fun q hq=>(hS.kept q hq).1.1
 clear hS;intro bS W8 hbS hlS hS
 have hmt:=iO.made hbS
 have hS:=hS.keep K (fun q hq=>List.mem_cons_of_mem _ hq)
 have hKb:(∀ q∈K,bS < q.1∨q.2.heap.size≤bS):=fun q hq=>.inr (Nat.le_trans (hKs2 q hq) hlS)
 have hwb:w0.heap.size≤bS:=Nat.le_trans hsz2 hlS
 refine aC rfl rfl (aO (XF.thenN (aN (aN (aP (aI rfl rfl (cJ Tryz.underlying26 rfl rfl (aI rfl rfl (aO (XF.thenN (bX (eO (fun m lf W=>∃ i:Nat,i≤l.length∧m=l.length - i∧lf=[(0,.pointer (some ⟨RB,0,none⟩)),(2,.pointer (some ⟨VA,0,none⟩)),(3,.slice a3 l.length c3),(4,.map (some bS)),(26,.slice a3 l.length c3),(27,.int .i64 (l.length:Int)),(28,.int .i64 (i:Int))]∧iO bS i (l.take i).reverse W∧St w0 ((RB,rdC f0 a bk bm VA VX,109)::(VA,gL (.slice aa l.length ac) n IA WA,139)::(IA,inC S xs,4)::(WA,wC fs,44)::Ot) (⟨(.slice aa l.length ac),l.length,atC l,3,1⟩::⟨(.slice a3 l.length c3),l.length,atC l,3,1⟩::Gt) K W) (l.length - 0) ([(0,_),(2,_),(3,_),(4,_),(26,_),(27,_),(28,_)]) ⟨rfl,rfl,rfl,rfl,rfl,rfl,rfl,trivial⟩ (⟨0,Nat.zero_le _,rfl,rfl,hmt,hS⟩) ?_))))))))))))
 clear hS
 rintro m lf W ⟨i,hi,rfl,rfl,hmt,hS⟩
 refine aN (aP (cU rfl rfl rfl (aO (XF.thenN (aN (bA rfl (fun hc=>?_) (fun hc=>?_)))))))
 ·have hc29:=of_decide_eq_true hc;clear hc
  have hk:i < l.length:=by omega
  obtain ⟨y,hy⟩:∃ y,l[i]?=some y:=⟨l[i],List.getElem?_eq_getElem hk⟩
  obtain ⟨xy,hxy,hxz⟩:=(hV.ats y).1 (List.mem_of_getElem? hy)
  have hyn:y < n:=by have:=(List.getElem?_eq_some_iff.1 hxy).1;rw [hV.xl] at this;exact this
  obtain ⟨b9,rfl,k9⟩:=jB (hS.row 1 rfl) (show (atC l)[i]?=some (.int .i64 (y:Int)) by rw [List.getElem?_map,hy];rfl)
  refine bM (XF.thenN (aN (bX (aN (aP (cL  Tryz.underlying26 Tryz.sizeOf3 rfl rfl rfl (by omega) rfl rfl (aR Tryz.isAgg3 rfl (k9) rfl (aC rfl rfl (aO (XF.thenN (aP (aI rfl rfl (aI rfl rfl (dR (us:=[]) rfl (Lz) rfl ?_))))))))))))))
  refine zX hS hmt (by omega) (by simp only [maxLen];omega) hwb hKb rfl rfl rfl ?_
  clear hS hmt;intro W7 hS hmt
  refine aO (XF.blkN (XF.thenN (aP (dE rfl rfl (IntWalk.i64_in _ (by omega)) rfl (aI rfl rfl (aO ?_))))))
  exact XF.round (l.length - (i+1)) [(0,_),(2,_),(3,_),(4,_),(26,_),(27,_),(28,_)] (by omega) ⟨rfl,rfl,rfl,rfl,rfl,rfl,rfl,trivial⟩ ⟨i+1,by omega,rfl,rfl,(by rw [List.take_add_one,hy,List.reverse_append];exact hmt),hS⟩
 ·have hc29:=of_decide_eq_false hc;clear hc
  rw [List.take_of_length_le (by omega)] at hmt
  have hil:i=l.length:=by omega
  subst hil
  have hB0:=Ly (S:=S) xs
  have hxl:=hV.xl
  obtain ⟨B0,hB⟩:∃ b,b=n+xs.length * (Gf S).toNat:=⟨_,rfl⟩
  have hB0le:B0≤4096+4096 * 4194304:=by rw [hB];exact Nat.add_le_add hn (Nat.mul_le_mul (by rw [hxl];exact hn) (by omega))
  have hq0:=Qv.start (hS.row 1 rfl)
  refine eN (XF.thenX (XF.thenX (XF.blkX (XF.thenN (bX (eO (fun m lf W=>∃ (q vq:Value) (mq kq cnt:Nat) (xq:List Value) (ks ws:List Nat) (v9:Value) (f9s:List WF) (x9s:List PX) (l9:List Nat) (Kk:List (Nat×World)),m=nS S x9s+ws.length∧lf=[(0,.pointer (some ⟨RB,0,none⟩)),(2,.pointer (some ⟨VA,0,none⟩)),(3,q),(4,.map (some bS))]∧(∀ q∈K,q∈Kk)∧(∀ q∈Kk,bS < q.1∨q.2.heap.size≤bS)∧Qv kq ⟨vq,mq,xq,3,1⟩ q∧xq.drop kq=atC ws∧mq - kq=ws.length∧mq+nS S x9s≤B0∧cnt+nS S x9s≤B0∧iO bS cnt ks W∧(∀ i,i∈ks↔i∈ws)∧ws.Nodup∧(∀ i∈ws,i∈l9)∧Eps S bk (egsX kf py a.ts) xs x9s∧Wt S bk (egsX kf py a.ts) x9s ws (fun _=>True)∧VecOk S w0 Kk n f9s x9s l9∧St w0 ((RB,rdC f0 a bk bm VA VX,109)::(VA,gL v9 n IA WA,139)::(IA,inC S x9s,4)::(WA,wC f9s,44)::Ot) (⟨v9,l9.length,atC l9,3,1⟩::⟨vq,mq,xq,3,1⟩::Gt) Kk W) (nS S xs+l.length) ([(0,_),(2,_),(3,_),(4,_)]) ⟨rfl,rfl,rfl,rfl,trivial⟩ (⟨_,_,_,0,l.length,_,l.reverse,l,_,fs,xs,l,K,rfl,rfl,(fun q hq=>hq),hKb,hq0,rfl,rfl,by omega,by omega,hmt,(fun i=>List.mem_reverse),hV.nd,(fun i hi=>hi),Eps.refl hok hV.ok,Wt.start hV.ok hEo (fun i x h1 h2=>Classical.byContradiction fun h3=>h2 ((hV.ats i).2 ⟨x,h1,h3⟩)),hV,hS⟩) ?_))))))
  clear hS
  clear hmt hq0 hS;rintro m lf W ⟨q,vq,mq,kq,cnt,xq,ks,ws,v9,f9s,x9s,l9,Kk,rfl,rfl,hKk,hKbk,hq,hxq,hmq,hd1,hd2,hmt,hks,hnd,hwn,hE,hW,hV9,hS⟩
  obtain ⟨adq,cq,hq9⟩:=hq.len
  have hq9:q = .slice adq ws.length cq:=by rw [hq9];show Value.slice adq (mq - kq) cq=_;rw [hmq]
  subst hq9
  refine aN (aN (aP (aI rfl rfl (cJ Tryz.underlying26 rfl rfl (pD rfl rfl rfl (aO (XF.thenN (bA rfl (fun hc=>?_) (fun hc=>?_)))))))))
  ·have hc38:=of_decide_eq_true hc;clear hc
   obtain ⟨s,ws,rfl⟩:∃ y t,ws=y::t:=by
    cases ws with
    | nil=>exact absurd hc38 (by simp)
    | cons y t=>exact ⟨y,t,rfl⟩
   have hx9:(xq.drop kq)[0]?=some (.int .i64 (s:Int)):=by rw [hxq];rfl
   rw [List.getElem?_drop,Nat.add_zero] at hx9
   obtain ⟨bq,cq9,hqc,kqc⟩:=Qv.cell hq rfl (hS.row 1 rfl) hx9
   injection hqc with e1 e2 e3
   subst e1;subst e3
   have hsl9:s∈l9:=hwn s List.mem_cons_self
   obtain ⟨xs9,hxs9,hxsz⟩:=(hV9.ats s).1 hsl9
   have hsn:s < n:=by have:=(List.getElem?_eq_some_iff.1 hxs9).1;rw [hV9.xl] at this;exact this
   have hkq:kq < mq:=by rw [List.length_cons] at hmq;omega
   have hcap:=hq.cap (hS.row 1 rfl)
   obtain ⟨M0,hM0⟩:∃ m,m=nS S x9s+ws.length:=⟨_,rfl⟩
   rw [List.length_cons] at hmq
   refine bM (XF.thenN (bX (aN (aP (aI rfl rfl (cL (j:=0) Tryz.underlying26 Tryz.sizeOf3 rfl rfl (rfl) (Nat.succ_pos _) rfl rfl (aR Tryz.isAgg3 rfl (kqc) rfl (aC rfl rfl (aO (XF.thenN (aN (aP (aI rfl rfl (sU (j:=1) Tryz.underlying26 Tryz.sizeOf3 rfl rfl rfl (Nat.succ_le_succ (Nat.zero_le _)) rfl ?_))))))))))))))
   intro ad3 hadE3 hadN3
   have hqN:=Qv.next hq hkq hcap hadE3 hadN3
   refine aC rfl rfl (aO (XF.thenN (aN (aP (aI rfl rfl (aI rfl rfl (Hc hS hmt (by omega) hwb hKbk rfl rfl ?_)))))))
   clear hS hmt;intro W7 hS hmt
   refine aO (XF.thenN (aN ?_))
   obtain ⟨Wf,hG,hH⟩:=hM
   have hH4:=hH hS hKk
   obtain ⟨v33,hlk,hrw⟩:=Grp.look hG Jg Tryz.underlying106 Tryz.zeroValue26 (k:=((s:Int),-1)) (Jh (zS (Int.natCast_nonneg _) (by omega)) (Ji (by decide) (by decide))) Jf
   obtain ⟨ra,rc,rfl,hrc⟩:=gH hrw
   obtain ⟨rl,hrl⟩:∃ m,m=(Am kf a.ts ((s:Int),-1)).length:=⟨_,rfl⟩
   rw [← hrl] at hlk hrw hrc
   have hlk4:=hlk _ hH4.1
   have hrl2:rl=(byT kf a.ts 0 ((s:Int),-1)).length:=by rw [hrl,List.length_map]
   have hrl3:=uL kf ((s:Int),-1) a.ts 0
   refine aP (aI rfl rfl (cG rfl rfl (aM (o':=17) zT rfl rfl rfl (aR Tryz.isAgg106 rfl (aK (hS.at_ 0 rfl) rfl) rfl (aI rfl rfl (dR (us:=[(0,.int .i64 _),(1,.int .i64 _)]) rfl (qO _ _) rfl (opV (Cd rfl rfl hlk4) rfl (cJ Tryz.underlying26 rfl rfl (aI rfl rfl (aO (XF.thenN (bX ?_))))))))))))
   refine eO (fun m lf W=>∃ (j:Nat) (q vq:Value) (mq kq cnt:Nat) (xq:List Value) (ks ws9:List Nat) (v7:Value) (f7:List WF) (x7:List PX) (l7:List Nat) (Kj:List (Nat×World)),j≤rl∧m=rl - j∧lf=[(0,.pointer (some ⟨RB,0,none⟩)),(2,.pointer (some ⟨VA,0,none⟩)),(3,q),(4,.map (some bS)),(7,.int .i64 (s:Int)),(52,.slice ra rl rc),(53,.int .i64 (rl:Int)),(54,.int .i64 (j:Int))]∧(∀ q∈K,q∈Kj)∧(∀ q∈Kj,bS < q.1∨q.2.heap.size≤bS)∧Qv kq ⟨vq,mq,xq,3,1⟩ q∧xq.drop kq=atC ws9∧mq - kq=ws9.length∧mq+nS S x7≤B0∧cnt+nS S x7≤B0∧iO bS cnt ks W∧(∀ i,i∈ks↔i∈ws9)∧ws9.Nodup∧(∀ i∈ws9,i∈l7)∧s∈l7∧Eps S bk (egsX kf py a.ts) xs x7∧Wt S bk (egsX kf py a.ts) x7 ws9 (dnX kf py a.ts s ((byT kf a.ts 0 ((s:Int),-1)).take j))∧nS S x7+ws9.length≤M0∧VecOk S w0 Kj n f7 x7 l7∧St w0 ((RB,rdC f0 a bk bm VA VX,109)::(VA,gL v7 n IA WA,139)::(IA,inC S x7,4)::(WA,wC f7,44)::Ot) (⟨v7,l7.length,atC l7,3,1⟩::⟨vq,mq,xq,3,1⟩::Gt) Kj W) (rl - 0) ([(0,_),(2,_),(3,_),(4,_),(7,_),(52,_),(53,_),(54,_)]) ⟨rfl,rfl,rfl,rfl,rfl,rfl,rfl,rfl,trivial⟩ (⟨0,_,vq,mq,kq+1,cnt,xq,_,ws,v9,f9s,x9s,l9,Kk,Nat.zero_le _,rfl,rfl,hKk,hKbk,hqN,(by have h:=congrArg List.tail hxq;rw [List.tail_drop] at h;exact h),by omega,hd1,hd2,hmt,(fun i=>by rw [List.mem_filter,hks i];have h9:=(List.nodup_cons.1 hnd).1;constructor<;>intro h<;>first | (rcases List.mem_cons.1 h.1 with rfl | h8;exact absurd h.2 (by simp);exact h8) | exact ⟨List.mem_cons_of_mem _ h,by simp;intro e;subst e;exact h9 h⟩),(List.nodup_cons.1 hnd).2,(fun i hi=>hwn i (List.mem_cons_of_mem _ hi)),hsl9,hE,hW.pop,Nat.le_of_eq hM0.symm,hV9,hS⟩) ?_
   clear hS
   clear hmt hq hqN hS hW hE hV9 hks hnd hwn hd1 hd2 hxq hmq hcap hxs9 kqc hx9 hkq;rintro m lf W ⟨j,q,vq,mq,kq,cnt,xq,ks,ws9,v7,f7,x7,l7,Kj,hj,rfl,rfl,hKj,hKbj,hq,hxq,hmq,hd1,hd2,hmt,hks,hnd,hwn,hsl7,hE,hW,hM7,hV7,hS⟩
   refine aN (aP (cU rfl rfl rfl (aO (XF.thenN (aN (bA rfl (fun hc=>?_) (fun hc=>?_)))))))
   ·have hc55:=of_decide_eq_true hc;clear hc
    have hkj:j < rl:=by omega
    obtain ⟨xy,hxy,hxz⟩:=(hV7.ats s).1 hsl7
    obtain ⟨fy,hfy⟩:∃ fy,f7[s]?=some fy:=⟨f7[s]'(by rw [hV7.fl];exact hsn),List.getElem?_eq_getElem _⟩
    obtain ⟨z,hz⟩:∃ z,(byT kf a.ts 0 ((s:Int),-1))[j]?=some z:=⟨_,List.getElem?_eq_getElem (by omega)⟩
    obtain ⟨tj,t9,hz1,ht9,hkt⟩:=rJ.1 (List.mem_of_getElem? hz)
    rw [Nat.zero_add] at hz1;subst hz1
    have hrwW:=dH hrw (fun p hp=>(hH hS hKj).2 p (hrw.lt p hp).1 (hrw.lt p hp).2)
    obtain ⟨b6,rfl,k6⟩:=jB hrwW (show (Am kf a.ts ((s:Int),-1))[j]?=some (.int .i64 (tj:Int)) by rw [List.getElem?_map,hz];rfl)
    have htj:=(List.getElem?_eq_some_iff.1 ht9).1
    have hmt9:=List.mem_of_getElem? ht9
    obtain ⟨rf,rg,rt,tx⟩:=t9
    obtain ⟨tN,htt,htN⟩:=lI (htq _ hmt9)
    dsimp only at htt
    subst htt
    have hpt:=hpy _ hmt9
    obtain ⟨bt,ot,hta,hcs⟩:=htrow.at_ ht9
    have kt:=aB.agree hS.agree (Nat.zero_le _) hcs
    obtain ⟨f5,x5,hf5,hx5,hok5⟩:=hV7.at_ htN
    have hokx:OkX S (mE S bk xy (py ⟨rf,rg,(tN:Int),tx⟩)):=G9 hok (hV7.ok xy (List.mem_of_getElem? hxy)) hpt.ok
    have heM:egX kf py ⟨rf,rg,(tN:Int),tx⟩∈(egsX kf py a.ts):=List.mem_map_of_mem hmt9
    have hef:(egX kf py ⟨rf,rg,(tN:Int),tx⟩).f=s:=by show (kf _).1.toNat=s;rw [← hkt];exact Int.toNat_natCast s
    have heg:(egX kf py ⟨rf,rg,(tN:Int),tx⟩).g = -1:=by show (kf _).2 = -1;rw [← hkt]
    obtain ⟨es9,ck9,hme⟩:=hmt.blk
    have hS:=hS.markMap hme
    have hlt7:=hmt.lt
    refine bM (XF.thenN (aN (bX (aN (aP (cL  Tryz.underlying26 Tryz.sizeOf3 rfl rfl rfl (by omega) rfl rfl (aR Tryz.isAgg3 rfl (k6) rfl (aC rfl rfl (aO (XF.thenN (aN (aP (aI rfl rfl (cG rfl rfl (aM (o':=9) uK rfl rfl rfl (aM (o':=15) gR rfl rfl rfl (aR Tryz.isAgg27 rfl (aK (hS.at_ 0 rfl) rfl) rfl (aI rfl rfl ?_))))))))))))))))))
    refine cL (j:=tj) (b:=bt) (o:=ot) (m:=a.tl) (c:=a.tc) Tryz.underlying27 Tryz.sizeOf66 (by show some (Value.slice a.ta a.tl a.tc)=_;rw [hta]) rfl rfl (by omega) rfl rfl ?_
    refine aS (vs:=[_,_,_,_,_,_,_,_,_]) Tryz.isAgg66 Tryz.sizeOf66 rfl (kt) rfl (bG (cs:=[_,_,_,_,_,_,_,_,_]) hS Tryz.zeroValue66 rfl rfl fun B4 W4 hS=>aU (i:=0) (vs:=[_,_,_,_,_,_,_,_,_]) (cs':=[_,_,_,_,_,_,_,_,_]) (O':=(_::_::_::_::_::Ot)) hS Tryz.sizeOf66 rfl rfl rfl rfl rfl rfl rfl fun W5 hS=>aO (XF.thenN (aN (aN ?_))))
    have hb15:=L0 hS List.mem_cons_self hlt7
    refine regS (ef:=16) (jy:=16) (ca:=qD (fun _=>[])) (ta:=fun _=>0) (Os:=osNo _) (Gs:=yV _) (al:=[]) (k:=14) (ds:=[80,81]) cD rfl hS rfl (by kernel_rfl) (by kernel_rfl) rfl (by decide) rfl (fun _=>none) (.inr ⟨rfl,rfl,rfl⟩) rfl rfl (aX 1 rfl rfl (isV _) (fun hNo=>sgV [(0,_)] rfl rfl rfl rfl hNo (aT rfl) ⟨dK (by kernel_rfl) rfl,trivial⟩ (fun ev w he hw=>aZ rfl) (aE rfl)) (aX 2 rfl rfl (isV _) (fun hNo=>sgV [(2,_)] rfl rfl rfl rfl hNo (aT rfl) ⟨dK (by kernel_rfl) rfl,trivial⟩ (fun ev w he hw=>aZ rfl) (aE rfl)) (aX 3 rfl rfl (isV _) (fun hNo=>sgV [(10,_)] rfl rfl rfl rfl hNo (aT rfl) ⟨dK (by kernel_rfl) rfl,trivial⟩ (fun ev w he hw=>aV (o':=2) oL rfl rfl) (aE rfl)) (aX 4 rfl rfl (isV _) (fun hNo=>sgV [(68,_)] rfl rfl rfl rfl hNo (aT rfl) ⟨aQ 2 (by kernel_rfl) (aA rfl rfl rfl),trivial⟩ (fun ev w he hw=>bB Tryz.isAgg3 rfl ((aK (hw.at_ 0 rfl) rfl))) (aE rfl)) (aX 5 rfl rfl (isV _) (fun hNo=>sgV [(0,_)] rfl rfl rfl rfl hNo (aT rfl) ⟨dK (by kernel_rfl) rfl,trivial⟩ (fun ev w he hw=>aZ rfl) (aE rfl)) (aX 6 rfl rfl (isV _) (fun hNo=>sgV [(2,_)] rfl rfl rfl rfl hNo (aT rfl) ⟨dK (by kernel_rfl) rfl,trivial⟩ (fun ev w he hw=>aZ rfl) (aE rfl)) (aX 7 rfl rfl (isV _) (fun hNo=>sgV [(71,_)] rfl rfl rfl rfl hNo (aT rfl) ⟨aQ 5 (by kernel_rfl) (aA rfl rfl rfl),trivial⟩ (fun ev w he hw=>cP rfl) (aE rfl)) (aX 8 rfl rfl (isV _) (fun hNo=>sgV [(72,_)] rfl rfl rfl rfl hNo (aT rfl) ⟨aQ 6 (by kernel_rfl) (aA rfl rfl rfl),trivial⟩ (fun ev w he hw=>aV (o':=2) mA rfl rfl) (aE rfl)) (aX 9 rfl rfl (isV _) (fun hNo=>sgV [(73,_)] rfl rfl rfl rfl hNo (aT rfl) ⟨aQ 7 (by kernel_rfl) (aA rfl rfl rfl),trivial⟩ (fun ev w he hw=>bB Tryz.isAgg42 rfl ((aK (hw.at_ 2 rfl) rfl))) (aE rfl)) (aX 10 rfl rfl (isV _) (fun hNo=>sgV [(7,_)] rfl rfl rfl rfl hNo (aT rfl) ⟨dK (by kernel_rfl) rfl,trivial⟩ (fun ev w he hw=>aZ rfl) (aE rfl)) (aX 11 rfl rfl (isV _) (fun hNo=>sgV [(74,_),(75,_)] rfl rfl rfl rfl hNo (aT rfl) ⟨aQ 8 (by kernel_rfl) (aA rfl rfl rfl),aQ 9 (by kernel_rfl) (aA rfl rfl rfl),trivial⟩ (fun ev w he hw=>bC (j:=s) Tryz.underlying42 Tryz.sizeOf44 rfl rfl (rfl) (hsn) rfl) (aE rfl)) (aX 12 rfl rfl (isV _) (fun hNo=>sgV [(76,_)] rfl rfl rfl rfl hNo (aT rfl) ⟨aQ 10 (by kernel_rfl) (aA rfl rfl rfl),trivial⟩ (fun ev w he hw=>aW (vs:=[_,_,_,_,_,_]) Tryz.isAgg44 Tryz.sizeOf44 rfl ((aB.own (j:=0+s * 6) (m:=6) (hw.at_ 4 rfl) (Gv hfy)))) (aE rfl)) (aX 13 rfl rfl (isV _) (fun hNo=>sgV [(10,_)] rfl rfl rfl rfl hNo (aT rfl) ⟨dK (by kernel_rfl) rfl,trivial⟩ (fun ev w he hw=>aW (vs:=[_,_,_,_,_,_,_,_,_]) Tryz.isAgg66 Tryz.sizeOf66 rfl ((aB.own (j:=0) (m:=9) (hw.at_ 0 rfl) rfl))) (aE rfl)) ?_)))))))))))))
    refine aX 14 rfl rfl (dO W5.heap.size S (mE S bk xy (py ⟨rf,rg,(tN:Int),tx⟩))) (fun hNo=>wV [isV _,isV _,isV _] rfl rfl rfl rfl hNo Lv (aT rfl) ⟨bZ (aQ 4 (by kernel_rfl) (aA rfl rfl rfl)),bZ (aQ 11 (by kernel_rfl) (aA rfl rfl rfl)),bZ (aQ 12 (by kernel_rfl) (aA rfl rfl rfl)),trivial⟩ (fun vs ev w' he hSt hlo hh=>by
     have e:=cA (us:=[_,_,_]) hh
     subst e
     exact lW hlo (Ck S a f0 bk bm VA VX RB fy tx.f xy (py ⟨rf,rg,(tN:Int),tx⟩) rf rg (tN:Int) w' (hSt.at_ 1 rfl) (hsi.below hSt.below) hok (ht.below hSt.below) (hV7.held s fy xy hfy hxy hxz hSt (fun q hq=>List.mem_cons_of_mem _ hq)) (hpt.below hSt.below))) (aE rfl)) ?_
    refine oJ ?_
    intro Bf6 y6 W6 Ks6 hsz6 hKs6 hS' hcov6
    clear hS;have hS:=hS'.castO (O':=(_::_::_::_::_::Ot)) rfl;clear hS'
    refine wA (L':=[AwS _ _ (isV _),AwS _ _ (isV _),AwS _ _ (isV _),AwS _ _ (isV _),AwS _ _ (isV _),AwS _ _ (isV _),AwS _ _ (isV _),AwS _ _ (isV _),AwS _ _ (isV _),AwS _ _ (isV _),AwS _ _ (isV _),AwS _ _ (isV _),AwS _ _ (isV _),AwS _ _ (dO W5.heap.size S (mE S bk xy (py ⟨rf,rg,(tN:Int),tx⟩)))]) rfl (bR (bR (bR (bR (bR (bR (bR (bR (bR (bR (bR (bR (bR ?_)))))))))))))
    refine dF ?_;rintro vP h8p;obtain ⟨f9,rfl,hn9⟩:=h8p.here
    have HX9:lF w0 (Ks6++Kj) (fun W2=>XIs W2 S f9 (mE S bk xy (py ⟨rf,rg,(tN:Int),tx⟩))):=fun h2 hk=>(newS hn9 h8p (hcov6 h2 (fun q hq=>hk q (List.mem_append_left _ hq))) (Nat.le_refl _)).is
    have hKs8:=hKs6
    obtain ⟨K8,hK8⟩:∃ x,x=Ks6++Kj:=⟨_,rfl⟩
    have hK98:∀ q∈Kj,q∈K8:=fun q hq=>by rw [hK8];exact List.mem_append_right _ hq
    have hKv8:∀ q∈K8,q∈Ks6++((bS,rL W bS)::Kj):=fun q hq=>by rw [hK8] at hq;rcases List.mem_append.1 hq with h | h;exact List.mem_append_left _ h;exact List.mem_append_right _ (List.mem_cons_of_mem _ h)
    have hb16:=L0 hS (List.mem_append_right Ks6 List.mem_cons_self) hlt7
    rw [← hK8] at HX9
    refine cQ (iN (vs:=[_,_,_,_]) Ep rfl (zP S a f0 bk bm VA VX RB VA IA WA n v7 f7 x7 l7 _ _ _ K8 w0 tN f9 (mE S bk xy (py ⟨rf,rg,(tN:Int),tx⟩)) x5 _ (hS.perm (Lw _ _ _ _ _ _)) hKv8 (hV7.more hK98) hn htN hx5 hsi hok ht (H0.more (fun q hq=>hK98 q (hKj q hq))) HX9 hokx) rfl ?_)
    rintro e W9 ⟨u8,l8,fs8,Kw8,rfl,hnw8,hV8,hl8,hS8⟩
    obtain ⟨K9,hK9⟩:∃ x,x=Kw8++K8:=⟨_,rfl⟩
    have hsub9:∀ q∈Kj,q∈K9:=fun q hq=>by rw [hK9];exact List.mem_append_right _ (hK98 q hq)
    rw [← hK9] at hV8
    have hKb9:∀ q∈K9,bS < q.1∨q.2.heap.size≤bS:=fun q hq=>by
     rw [hK9,hK8] at hq
     rcases List.mem_append.1 hq with h | h
     ·exact .inl (Nat.lt_of_lt_of_le hb16 (hnw8 q h))
     ·rcases List.mem_append.1 h with h | h
      ·exact .inl (Nat.lt_of_lt_of_le hb15 (hKs8 q h))
      ·exact hKbj q h
    clear hS;have hS:=(hS8.perm (Lw _ _ _ _ _ _).symm).keep ((bS,rL W bS)::K9) (fun q hq=>by
     rw [hK9,hK8] at hq
     simp only [List.mem_cons,List.mem_append] at hq ⊢
     rcases hq with h | h | h | h<;>simp [h]);clear hS8
    have hE8:=hE.step hok hV.ok hV7.ok hEo heM heg (x:=xy) (y:=x5) (by rw [hef];exact hxy) hx5
    have hsl8:s∈l8:=by rcases hl8 with ⟨_,h⟩ | h | h<;>rw [h]<;>simp [hsl7]
    have hll8:∀ i∈l7,i∈l8:=fun i hi=>by rcases hl8 with ⟨_,h⟩ | h | h<;>rw [h]<;>simp [hi]
    refine ⟨_,rfl,?_⟩
    refine eX rfl rfl (aO (XF.thenN (bA rfl (fun hc=>?_) (fun hc=>?_))))
    ·have hc81:=hc;clear hc
     have hee:bY S x5 (mE S bk xy (py ⟨rf,rg,(tN:Int),tx⟩))=x5:=by have h9:=hc81;rw [Bool.not_not] at h9;exact qJ.1 h9
     have hd8:nS S (x7.set tN (bY S x5 (mE S bk xy (py ⟨rf,rg,(tN:Int),tx⟩))))=nS S x7:=by rw [hee,zO hx5]
     refine eN (XF.thenX (XF.blkX (XF.thenN (aP (dE rfl rfl (IntWalk.i64_in _ (by omega)) rfl (aI rfl rfl (aO ?_)))))))
     exact XF.round (rl - (j+1)) [(0,_),(2,_),(3,_),(4,_),(7,_),(52,_),(53,_),(54,_)] (by omega) ⟨rfl,rfl,rfl,rfl,rfl,rfl,rfl,rfl,trivial⟩ ⟨j+1,q,vq,mq,kq,cnt,xq,ks,ws9,u8,fs8,(x7.set tN (bY S x5 (mE S bk xy (py ⟨rf,rg,(tN:Int),tx⟩)))),l8,K9,by omega,rfl,rfl,(fun q hq=>hsub9 q (hKj q hq)),hKb9,hq,hxq,hmq,by omega,by omega,hmt.kept hS List.mem_cons_self,hks,hnd,(fun i hi=>hll8 i (hwn i hi)),hsl8,hE8,(hW.put hok hV7.ok hEo heM (by rw [hef];exact hxy) hx5 (fun i hi=>hi) (fun h=>absurd hee h)).weaken (fun e hf hd=>⟨hf,zY hz ht9 e hd⟩),by omega,hV8,(hS.keep K9 (fun q hq=>List.mem_cons_of_mem _ hq)).tail⟩
    ·have hc81:=hc;clear hc
     have hne:bY S x5 (mE S bk xy (py ⟨rf,rg,(tN:Int),tx⟩))≠x5:=by have h9:=hc81;rw [Bool.not_not] at h9;exact rF.1 h9
     have hd8:nS S (x7.set tN (bY S x5 (mE S bk xy (py ⟨rf,rg,(tN:Int),tx⟩)))) < nS S x7:=Ha hok hok5 hokx hne hx5
     have htl8:tN∈l8:=(hV8.ats tN).2 ⟨_,List.getElem?_set_self (by rw [hV7.xl];exact htN),Es hok hok5 hokx hne⟩
     have hmt8:=hmt.kept hS List.mem_cons_self
     refine bM (XF.thenN (aN (aP (aI rfl rfl (aM (o':=2) oL rfl rfl rfl (aR Tryz.isAgg3 rfl (aK (hS.at_ 0 rfl) rfl) rfl (Hb hmt8 (by omega) Tryz.zeroValue141 rfl rfl rfl (aI rfl rfl (bK rfl rfl rfl (bK rfl rfl rfl (bG (cs:=[]) hS Tryz.zeroValue141 rfl rfl fun B7 W7 hS=>aU (i:=0) (vs:=[]) (cs':=[]) (O':=(_::_::_::_::_::_::Ot)) hS Tryz.sizeOf141 rfl rfl rfl rfl rfl rfl rfl fun W8 hS=>aC rfl rfl (aO (XF.thenN (aN (aP (aI rfl rfl (eX rfl rfl (aO (XF.thenN (bA rfl (fun hc=>?_) (fun hc=>?_)))))))))))))))))))))
     ·have hc90:=hc;clear hc
      have hnin:tN∉ks:=by have h9:=hc90;rw [Bool.not_eq_true'] at h9;exact of_decide_eq_false h9
      have hmt9w:=hmt.kept hS List.mem_cons_self
      have hnws:tN∉ws9:=fun h=>hnin ((hks tN).2 h)
      have hS:=hS.keep K9 (fun q hq=>List.mem_cons_of_mem _ hq)
      refine aN (aP (aI rfl rfl (aM (o':=2) oL rfl rfl rfl (aR Tryz.isAgg3 rfl (aK (hS.at_ 1 rfl) rfl) rfl (dR (us:=[]) rfl (Lz) rfl ?_)))))
      refine zX hS hmt9w (by omega) (by simp only [maxLen];omega) hwb hKb9 rfl rfl rfl ?_
      clear hS hmt9w;intro W19 hS hmt19
      obtain ⟨es19,ck19,hme19⟩:=hmt19.blk
      have hS:=hS.markMap hme19
      refine aO (XF.thenN (aP (aI rfl rfl (aM (o':=2) oL rfl rfl rfl (aR Tryz.isAgg3 rfl (aK (hS.at_ 1 rfl) rfl) rfl (cZ (us:=[(0,.int .i64 _)]) hS Tryz.underlying26 Tryz.sizeOf3 Tryz.zeroValue3 rfl rfl rfl (mG _) rfl fun B9 W9 hS=>?_))))))
      refine Jj (gi:=1) hS Tryz.underlying26 Jw rfl rfl rfl rfl hq rfl rfl (hS.at_ 0 rfl) rfl (by simp only [maxLen];omega) (by show (_+1) * 8≤_;omega) rfl ?_
      clear hS;intro q9 vq9 mq9 kq9 xq9 W20 hS hq9 hxq9 hmq9 hmq99
      have hmt20:=hmt19.kept hS List.mem_cons_self
      have hS:=(hS.keep K9 (fun q hq=>List.mem_cons_of_mem _ hq)).castG (G':=⟨u8,l8.length,atC l8,3,1⟩::⟨vq9,mq9,xq9,3,1⟩::Gt) rfl
      refine aC rfl rfl (aO (XF.blkN (XF.thenN (aP (dE rfl rfl (IntWalk.i64_in _ (by omega)) rfl (aI rfl rfl (aO ?_)))))))
      exact XF.round (rl - (j+1)) [(0,_),(2,_),(3,_),(4,_),(7,_),(52,_),(53,_),(54,_)] (by omega) ⟨rfl,rfl,rfl,rfl,rfl,rfl,rfl,rfl,trivial⟩ ⟨j+1,q9,vq9,mq9,kq9,cnt+1,xq9,tN::ks,ws9++[tN],u8,fs8,(x7.set tN (bY S x5 (mE S bk xy (py ⟨rf,rg,(tN:Int),tx⟩)))),l8,K9,by omega,rfl,rfl,(fun q hq=>hsub9 q (hKj q hq)),hKb9,hq9,(by rw [hxq9,hxq];simp [atC]),(by rw [hmq9,hmq,List.length_append];rfl),by omega,by omega,hmt20,(fun i=>by rw [List.mem_cons,List.mem_append,List.mem_singleton,hks i];exact Or.comm),(by rw [List.nodup_append];exact ⟨hnd,by simp,fun a ha b hb=>by simp at hb;subst hb;intro e;subst e;exact hnws ha⟩),(fun i hi=>by rcases List.mem_append.1 hi with h | h;exact hll8 i (hwn i h);simp at h;subst h;exact htl8),hsl8,hE8,(hW.put hok hV7.ok hEo heM (by rw [hef];exact hxy) hx5 (fun i hi=>List.mem_append_left _ hi) (fun _=>by simp;exact .inr rfl)).weaken (fun e hf hd=>⟨hf,zY hz ht9 e hd⟩),(by rw [List.length_append];simp only [List.length_cons,List.length_nil];omega),hV8,hS.tail.tail.tail⟩
     ·have hc90:=hc;clear hc
      have hin:tN∈ks:=by have h9:=hc90;rw [Bool.not_eq_false'] at h9;exact of_decide_eq_true h9
      have hmt9w:=hmt.kept hS List.mem_cons_self
      refine bM (XF.blkN (XF.thenN (aP (dE rfl rfl (IntWalk.i64_in _ (by omega)) rfl (aI rfl rfl (aO ?_))))))
      exact XF.round (rl - (j+1)) [(0,_),(2,_),(3,_),(4,_),(7,_),(52,_),(53,_),(54,_)] (by omega) ⟨rfl,rfl,rfl,rfl,rfl,rfl,rfl,rfl,trivial⟩ ⟨j+1,q,vq,mq,kq,cnt,xq,ks,ws9,u8,fs8,(x7.set tN (bY S x5 (mE S bk xy (py ⟨rf,rg,(tN:Int),tx⟩)))),l8,K9,by omega,rfl,rfl,(fun q hq=>hsub9 q (hKj q hq)),hKb9,hq,hxq,hmq,by omega,by omega,hmt9w,hks,hnd,(fun i hi=>hll8 i (hwn i hi)),hsl8,hE8,(hW.put hok hV7.ok hEo heM (by rw [hef];exact hxy) hx5 (fun i hi=>hi) (fun _=>(hks tN).1 hin)).weaken (fun e hf hd=>⟨hf,zY hz ht9 e hd⟩),by omega,hV8,(hS.keep K9 (fun q hq=>List.mem_cons_of_mem _ hq)).tail.tail⟩
   ·have hc55:=of_decide_eq_false hc;clear hc
    rw [List.take_of_length_le (by omega)] at hW
    have hW:=hW.done (fun t ht=>by obtain ⟨i,h1,_⟩:=hkf t ht;exact ⟨i,h1⟩)
    refine eN (XF.thenX (XF.thenX (XF.blkX (XF.blkN ?_))))
    exact XF.round (nS S x7+ws9.length) [(0,_),(2,_),(3,_),(4,_)] (by rw [List.length_cons];omega) ⟨rfl,rfl,rfl,rfl,trivial⟩ ⟨q,vq,mq,kq,cnt,xq,ks,ws9,v7,f7,x7,l7,Kj,rfl,rfl,hKj,hKbj,hq,hxq,hmq,hd1,hd2,hmt,hks,hnd,hwn,hE,hW,hV7,hS⟩
  ·have hc38:=of_decide_eq_false hc;clear hc
   have hws:ws=[]:=List.eq_nil_of_length_eq_zero (by omega)
   subst hws
   refine eN (XF.thenX (XF.thenX (XF.blkX (XF.resN (L7 Tryz.results57) ?_))))
   exact ⟨v9,l9,f9s,x9s,Kk,rfl,hKk,hV9,hE,hW.closed,(hS.permG (List.Perm.swap _ _ _)).restG⟩
section
variable {S:PS} {b:Bool} {A A':PX→Prop}
theorem Fs.bind (h:S.ok) (hA':∀ x,A' x→OkX S x) {z:PX} (hz:Fs S A z) (hA:∀ x,A x→Fs S A' x):Fs S A' z:=by
 induction hz with
 | zero=>exact .zero
 | add _ h1 ih=>exact Fs.plus h hA' ih (hA _ h1)
end
def StB (S:PS) (b:Bool) (E:List Eg) (xs:List PX) (sym:Int) (s:Nat) (y:PX):Prop:=∃ e∈E,e.g=sym∧e.t=s∧∃ x,AtX xs e.f x∧y=gT S b x e.y
structure StI (S:PS) (b:Bool) (E:List Eg) (xs:List PX) (sym:Int) (n:Nat) (ys:List PX):Prop where
 len:ys.length=n
 ok:∀ x∈ys,OkX S x
 sum:∀ s z,AtX ys s z→Fs S (StB S b E xs sym s) z
def UpX (S:PS) (ys zs:List PX):Prop:=∀ s x y,AtX ys s x→AtX zs s y→LeX S x y
section
variable {S:PS} {b:Bool} {E:List Eg} {xs ys zs us:List PX} {sym:Int} {n:Nat}
theorem UpX.refl (h:S.ok) (hx:∀ x∈xs,OkX S x):UpX S xs xs:=fun s x y h1 h2=>by
 unfold AtX at h1 h2;rw [h1] at h2;cases h2;exact zU h (hx x (List.mem_of_getElem? h1))
theorem UpX.trans (h:S.ok) (h1:UpX S ys zs) (h2:UpX S zs us) (hy:∀ x∈ys,OkX S x) (hz:∀ x∈zs,OkX S x) (hu:∀ x∈us,OkX S x) (hl:zs.length=ys.length):UpX S ys us:=fun s x y hx hv=>by
 have hlt:s < zs.length:=by rw [hl];exact (List.getElem?_eq_some_iff.1 hx).1
 have hm:AtX zs s zs[s]:=List.getElem?_eq_getElem hlt
 exact gA h (hy x (List.mem_of_getElem? hx)) (hz _ (List.mem_of_getElem? hm)) (hu y (List.mem_of_getElem? hv)) (h1 s x _ hx hm) (h2 s _ y hm hv)
theorem StI.zero (n:Nat):StI S b E xs sym n (List.replicate n (bJ S)):=⟨by simp,fun x hx=>by rw [(List.mem_replicate.1 hx).2];exact lR,fun s z hz=>by
 have h4:=(List.getElem?_eq_some_iff.1 hz).2
 rw [List.getElem_replicate] at h4
 rw [← h4];exact .zero⟩
theorem StI.hop (h:S.ok) (hx:∀ x∈xs,OkX S x) (hE:∀ e∈E,OkX S e.y) (hi:StI S b E xs sym n ys) {e:Eg} (he:e∈E) (hg:e.g=sym) {x:PX} (hxf:AtX xs e.f x) (ht:e.t < n) :
  StI S b E xs sym n (ys.set e.t (bY S (ys.getD e.t (bJ S)) (gT S b x e.y)))∧UpX S ys (ys.set e.t (bY S (ys.getD e.t (bJ S)) (gT S b x e.y)))∧∀ z,AtX (ys.set e.t (bY S (ys.getD e.t (bJ S)) (gT S b x e.y))) e.t z→LeX S (gT S b x e.y) z:=by
 have hlt:e.t < ys.length:=by rw [hi.len];exact ht
 have hyt:AtX ys e.t ys[e.t]:=List.getElem?_eq_getElem hlt
 have hg9:ys.getD e.t (bJ S)=ys[e.t]:=by rw [List.getD_eq_getElem?_getD,List.getElem?_eq_getElem hlt];rfl
 rw [hg9]
 have hyo:=hi.ok _ (List.mem_of_getElem? hyt)
 have hxo:=hx x (List.mem_of_getElem? hxf)
 have hzo:=gS (b:=b) h hxo (hE e he)
 have hco:=kP h hyo hzo
 refine ⟨⟨by rw [List.length_set];exact hi.len,fun z hz=>?_,fun s z hz=>?_⟩,fun s v z hv hz=>?_,fun z hz=>?_⟩
 ·rcases List.mem_or_eq_of_mem_set hz with h1 | rfl
  ·exact hi.ok z h1
  ·exact hco
 ·rcases Nat.decEq s e.t with e1 | e1
  ·rw [AtX,List.getElem?_set_ne (Ne.symm e1)] at hz
   exact hi.sum s z hz
  ·subst e1
   rw [AtX,List.getElem?_set_self hlt] at hz
   cases hz
   exact .add (hi.sum _ _ hyt) ⟨e,he,hg,rfl,x,hxf,rfl⟩
 ·rcases Nat.decEq s e.t with e1 | e1
  ·rw [AtX,List.getElem?_set_ne (Ne.symm e1)] at hz
   unfold AtX at hv
   rw [hv] at hz;cases hz
   exact zU h (hi.ok _ (List.mem_of_getElem? hv))
  ·subst e1
   rw [AtX,List.getElem?_set_self hlt] at hz
   cases hz
   unfold AtX at hv hyt
   rw [hyt] at hv;cases hv
   exact rK h hzo hyo
 ·rw [AtX,List.getElem?_set_self hlt] at hz
  cases hz
  exact zV h hzo hyo
end
section
variable {S:PS} {b:Bool} {py:TV→PX} {ts:List TV} {xs:List PX} {sym:Int} {n:Nat}
theorem He (h:S.ok) (hx:∀ x∈xs,OkX S x) (hp:∀ t∈ts,OkX S (py t)) (hb:∀ t∈ts,t.t.toNat < n) {s:Nat} {x:PX} (hs:AtX xs s x):∀ (js:List Int) (ys:List PX),(∀ j∈js,∃ t,ts[j.toNat]?=some t∧kSym t=((s:Int),sym))→StI S b (egsX kSym py ts) xs sym n ys →
  StI S b (egsX kSym py ts) xs sym n (kZ S b py ts x js ys)∧UpX S ys (kZ S b py ts x js ys)∧∀ j∈js,∀ t,ts[j.toNat]?=some t→∀ z,AtX (kZ S b py ts x js ys) t.t.toNat z→LeX S (gT S b x (py t)) z
 | [],ys,_,hi=>⟨hi,UpX.refl h hi.ok,fun j hj=>by cases hj⟩
 | j::js,ys,hj,hi=>by
  obtain ⟨t,ht,hk⟩:=hj j List.mem_cons_self
  have hm:=List.mem_of_getElem? ht
  have hf:t.f=(s:Int):=congrArg Prod.fst hk
  have hg:t.g=sym:=congrArg Prod.snd hk
  have he:egX kSym py t∈egsX kSym py ts:=List.mem_map_of_mem hm
  have hE:∀ e∈egsX kSym py ts,OkX S e.y:=fun e he=>by obtain ⟨u,hu,rfl⟩:=List.mem_map.1 he;exact hp u hu
  have hfn:(egX kSym py t).f=s:=by show t.f.toNat=s;rw [hf,Int.toNat_natCast]
  obtain ⟨h1,h2,h3⟩:=StI.hop h hx hE hi he hg (x:=x) (by rw [hfn];exact hs) (hb t hm)
  have e1:kZ S b py ts x (j::js) ys=kZ S b py ts x js (ys.set (egX kSym py t).t (bY S (ys.getD (egX kSym py t).t (bJ S)) (gT S b x (egX kSym py t).y))):=by
   unfold kZ
   rw [List.foldl_cons,ht];rfl
  rw [e1]
  obtain ⟨k1,k2,k3⟩:=He h hx hp hb hs js _ (fun i hi=>hj i (List.mem_cons_of_mem _ hi)) h1
  refine ⟨k1,h2.trans h k2 hi.ok h1.ok k1.ok (by rw [h1.len,hi.len]),fun i hi9 u hu z hz=>?_⟩
  rcases List.mem_cons.1 hi9 with rfl | hi9
  ·rw [ht] at hu;cases hu
   have hlt:(egX kSym py t).t < (ys.set (egX kSym py t).t (bY S (ys.getD (egX kSym py t).t (bJ S)) (gT S b x (egX kSym py t).y))).length:=by rw [h1.len];exact hb t hm
   have hmid:=List.getElem?_eq_getElem hlt
   exact gA h (gS h (hx x (List.mem_of_getElem? hs)) (hp t hm)) (h1.ok _ (List.mem_of_getElem? hmid)) (k1.ok z (List.mem_of_getElem? hz)) (h3 _ hmid) (k2 _ _ _ hmid hz)
  ·exact k3 i hi9 u hu z hz
theorem byT_sym {s:Nat}:∀ j∈byT kSym ts 0 ((s:Int),sym),∃ t,ts[j.toNat]?=some t∧kSym t=((s:Int),sym):=fun j hj=>by
 obtain ⟨m,t,h1,h2,h3⟩:=rJ.1 hj
 rw [Nat.zero_add] at h1;subst h1
 exact ⟨t,by rw [Int.toNat_natCast];exact h2,h3.symm⟩
theorem Hf (h:S.ok) (hx:∀ x∈xs,OkX S x) (hp:∀ t∈ts,OkX S (py t)) (hb:∀ t∈ts,t.t.toNat < n):∀ (l:List Nat) (ys:List PX),(∀ s∈l,s < xs.length)→StI S b (egsX kSym py ts) xs sym n ys →
  StI S b (egsX kSym py ts) xs sym n (jW S b py ts xs sym l ys)∧UpX S ys (jW S b py ts xs sym l ys)∧∀ s∈l,∀ x,AtX xs s x→∀ t∈ts,kSym t=((s:Int),sym)→∀ z,AtX (jW S b py ts xs sym l ys) t.t.toNat z→LeX S (gT S b x (py t)) z
 | [],ys,_,hi=>⟨hi,UpX.refl h hi.ok,fun j hj=>by cases hj⟩
 | s::l,ys,hl,hi=>by
  have hlt:=hl s List.mem_cons_self
  have hs:AtX xs s xs[s]:=List.getElem?_eq_getElem hlt
  obtain ⟨h1,h2,h3⟩:=He h hx hp hb hs (byT kSym ts 0 ((s:Int),sym)) ys byT_sym hi
  have e1:jW S b py ts xs sym (s::l) ys=jW S b py ts xs sym l (kZ S b py ts xs[s] (byT kSym ts 0 ((s:Int),sym)) ys):=by
   show List.foldl _ _ _=_
   unfold jW
   rw [List.foldl_cons,List.getD_eq_getElem?_getD,List.getElem?_eq_getElem hlt];rfl
  rw [e1]
  obtain ⟨k1,k2,k3⟩:=Hf h hx hp hb l _ (fun i hi=>hl i (List.mem_cons_of_mem _ hi)) h1
  refine ⟨k1,h2.trans h k2 hi.ok h1.ok k1.ok (by rw [h1.len,hi.len]),fun i hi9 x hxi t ht hk z hz=>?_⟩
  rcases List.mem_cons.1 hi9 with rfl | hi9
  ·unfold AtX at hxi hs
   rw [hs] at hxi;cases hxi
   obtain ⟨m,hm⟩:=List.getElem?_of_mem ht
   have hj:((m:Nat):Int)∈byT kSym ts 0 ((i:Int),sym):=rJ.2 ⟨m,t,by rw [Nat.zero_add],hm,hk.symm⟩
   have hlt2:t.t.toNat < (kZ S b py ts xs[i] (byT kSym ts 0 ((i:Int),sym)) ys).length:=by rw [h1.len];exact hb t ht
   have hmid:=List.getElem?_eq_getElem hlt2
   exact gA h (gS h (hx _ (List.getElem_mem hlt)) (hp t ht)) (h1.ok _ (List.mem_of_getElem? hmid)) (k1.ok z (List.mem_of_getElem? hz)) (h3 _ hj t (by rw [Int.toNat_natCast];exact hm) _ hmid) (k2 _ _ _ hmid hz)
  ·exact k3 i hi9 x hxi t ht hk z hz
structure InN (n:Nat) (ts:List TV):Prop where
 f:∀ t∈ts,∃ i:Nat,t.f=(i:Int)∧i < n
 t:∀ t∈ts,∃ i:Nat,t.t=(i:Int)∧i < n
theorem InN.tn {t:TV} (h:InN n ts) (ht:t∈ts):t.t.toNat < n:=by obtain ⟨i,h1,h2⟩:=h.t t ht;rw [h1,Int.toNat_natCast];exact h2
theorem InN.fn {t:TV} (h:InN n ts) (ht:t∈ts):t.f.toNat < n:=by obtain ⟨i,h1,h2⟩:=h.f t ht;rw [h1,Int.toNat_natCast];exact h2
theorem Et {kf:TV→Int×Int} (hp:∀ t∈ts,OkX S (py t)):∀ e∈egsX kf py ts,OkX S e.y:=fun e he=>by obtain ⟨u,hu,rfl⟩:=List.mem_map.1 he;exact hp u hu
theorem Hg {E:List Eg} {p:Nat} {ys:List PX} (h:S.ok) (hE:∀ e∈E,OkX S e.y) (hb:∀ e∈E,e.f < n∧e.t < n) (hp:p < n) (he:Eps S b E ((List.replicate n (bJ S)).set p (nH S)) ys) (hyo:∀ x∈ys,OkX S x) (hc:vO S b E ys):Full S b E p [] ys:=by
 have hl:ys.length=n:=by rw [he.len];simp
 refine Lx h hE hyo hl hb hc (fun s x hx=>he.sum (Pth S b E p [] ) (fun s x hx=>hx.ok h hE) (fun e he hg x hx=>.eps hx he rfl hg) (fun s x hx=>?_) s x hx) (fun _ x hx=>?_) (fun v q x e _ _ _ h1=>by simp at h1)
 ·rcases Nat.decEq s p with e | rfl
  ·rw [AtX,List.getElem?_set_ne (Ne.symm e)] at hx
   have h4:=(List.getElem?_eq_some_iff.1 hx).2
   rw [List.getElem_replicate] at h4
   rw [← h4];exact .zero
  ·rw [AtX,List.getElem?_set_self (by simp;exact hp)] at hx
   cases hx
   exact Fs.one .nil (oF h)
 ·exact he.up p _ x (by rw [AtX,List.getElem?_set_self (by simp;exact hp)]) hx
theorem Jk {p:Nat} {u:List Int} {ys:List PX} {l:List Nat} (h:S.ok) (hp:∀ t∈ts,OkX S (py t)) (hn:InN n ts) (hf:Full S b (egsX kSym py ts) p u xs) (hxo:∀ x∈xs,OkX S x) (hxl:xs.length=n) (hl:∀ i,i∈l↔∃ x,xs[i]?=some x∧x≠bJ S) (hsy:sym ≠ -1)
  (he:Eps S b (egsX kSym py ts) (jW S b py ts xs sym l (List.replicate n (bJ S))) ys) (hyo:∀ x∈ys,OkX S x) (hc:vO S b (egsX kSym py ts) ys):Full S b (egsX kSym py ts) p (u++[sym]) ys:=by
 have hE:=Et (kf:=kSym) hp
 have hb:∀ e∈egsX kSym py ts,e.f < n∧e.t < n:=fun e he=>by
  obtain ⟨t,ht,rfl⟩:=List.mem_map.1 he
  exact ⟨hn.fn ht,hn.tn ht⟩
 obtain ⟨h1,h2,h3⟩:=Hf (sym:=sym) (b:=b) h hxo hp (fun t ht=>hn.tn ht) l (List.replicate n (bJ S)) (fun s hs=>by obtain ⟨x,h9,_⟩:=(hl s).1 hs;exact (List.getElem?_eq_some_iff.1 h9).1) (StI.zero n)
 have hly:ys.length=n:=by rw [he.len];exact h1.len
 refine Lx h hE hyo hly hb hc (fun s x hx=>he.sum (Pth S b (egsX kSym py ts) p (u++[sym])) (fun s x hx=>hx.ok h hE) (fun e he hg x hx=>.eps hx he rfl hg) (fun s x hx=>?_) s x hx) (fun h9=>by simp at h9) (fun v q x e he9 hq hg hv hpth z hz=>?_)
 ·refine Fs.bind h (fun x hx=>hx.ok h hE) (h1.sum s x hx) ?_
  rintro y ⟨e,he9,hg,rfl,x9,hx9,rfl⟩
  refine Fs.extL h (fun x hx=>hx.ok h hE) (hE e he9) (hf.sum _ _ hx9) (fun v hv=>?_)
  rw [← hg]
  exact .sym hv he9 rfl (by rw [hg];exact hsy)
 ·obtain ⟨rfl,h9⟩:=List.append_inj' hv rfl
  have h9:sym=e.g:=by simpa using h9
  subst h9
  obtain ⟨t,ht,rfl⟩:=List.mem_map.1 he9
  obtain ⟨i,hi,hin⟩:=hn.f t ht
  have hfi:(egX kSym py t).f=i:=by show t.f.toNat=i;rw [hi,Int.toNat_natCast]
  have hlt:(egX kSym py t).f < xs.length:=by rw [hfi,hxl];exact hin
  have hx9:AtX xs (egX kSym py t).f xs[(egX kSym py t).f]:=List.getElem?_eq_getElem hlt
  have hle:LeX S x xs[(egX kSym py t).f]:=hf.top (egX kSym py t).f _ x hx9 (by rw [hq];exact hpth)
  have hlt2:t.t.toNat < (jW S b py ts xs (egX kSym py t).g l (List.replicate n (bJ S))).length:=by rw [h1.len];exact hn.tn ht
  have hmid:=List.getElem?_eq_getElem hlt2
  have hxe:=hxo _ (List.getElem_mem hlt)
  have hmo:=h1.ok _ (List.mem_of_getElem? hmid)
  have hz0:=hyo z (List.mem_of_getElem? hz)
  have hpt:=hp t ht
  have key:LeX S (gT S b xs[(egX kSym py t).f] (py t)) (jW S b py ts xs (egX kSym py t).g l (List.replicate n (bJ S)))[t.t.toNat]:=by
   by_cases hzz:xs[(egX kSym py t).f]=bJ S
   ·have h8:LeX S (gT S b xs[(egX kSym py t).f] (py t)) (jW S b py ts xs (egX kSym py t).g l (List.replicate n (bJ S)))[t.t.toNat]:=by
     rw [hzz,Su hpt];exact uN hmo
    exact h8
   ·refine h3 (egX kSym py t).f ((hl _).2 ⟨_,hx9,hzz⟩) _ hx9 t ht ?_ _ hmid
    show (t.f,t.g)=_
    rw [hfi,hi];rfl
  have hm1:=oO (b:=b) h (hpth.ok h hE) hxe hpt hle
  have hxo9:=hpth.ok h hE
  exact gA h (gS h hxo9 hpt) (gS h hxe hpt) hz0 hm1 (gA h (gS h hxe hpt) hmo hz0 key (he.up _ _ _ hmid hz))
theorem end_lub {E:List Eg} {p:Nat} {u:List Int} (h:S.ok) (hE:∀ e∈E,OkX S e.y) (hf:Full S b E p u xs) (hxo:∀ x∈xs,OkX S x) (fs:List Int) (hq:∀ s∈fs,s.toNat < xs.length):LubX S (An S b E (fs.map Int.toNat) p u) (uM S xs fs):=by
 have hok:=Eq (b:=b) (F:=fs.map Int.toNat) (p:=p) (u:=u) h hE
 constructor
 ·unfold uM
  have:∀ (l:List Int) (z:PX),(∀ s∈l,s∈fs)→Fs S (An S b E (fs.map Int.toNat) p u) z→Fs S (An S b E (fs.map Int.toNat) p u) (l.foldl (fun z s=>bY S z (xs.getD s.toNat (bJ S))) z):=by
   intro l
   induction l with
   | nil=>intro z _ hz;exact hz
   | cons s l ih =>
    intro z hl hz
    refine ih _ (fun i hi=>hl i (List.mem_cons_of_mem _ hi)) (Fs.plus h hok hz ?_)
    have hs:=hl s List.mem_cons_self
    have hlt:=hq s hs
    rw [List.getD_eq_getElem?_getD,List.getElem?_eq_getElem hlt]
    exact (hf.sum s.toNat _ (List.getElem?_eq_getElem hlt)).mono fun x hx=>⟨_,List.mem_map_of_mem hs,hx⟩
  exact this fs _ (fun s hs=>hs) .zero
 ·rintro x ⟨q,hqm,hx⟩
  obtain ⟨s,hs,rfl⟩:=List.mem_map.1 hqm
  have hlt:=hq s hs
  have h1:=hf.top _ _ x (List.getElem?_eq_getElem hlt) hx
  have hxo1:=hx.ok h hE
  have hso:=hxo _ (List.getElem_mem hlt)
  have:∀ (l:List Int) (z:PX),(∀ s∈l,s∈fs)→OkX S z→(LeX S x z∨s∈l)→LeX S x (l.foldl (fun z s=>bY S z (xs.getD s.toNat (bJ S))) z):=by
   intro l
   induction l with
   | nil=>intro z _ _ hz;exact hz.resolve_right (by simp)
   | cons r l ih =>
    intro z hl hz hc
    have hr:=hl r List.mem_cons_self
    have hltr:=hq r hr
    have hg:xs.getD r.toNat (bJ S)=xs[r.toNat]:=by rw [List.getD_eq_getElem?_getD,List.getElem?_eq_getElem hltr];rfl
    have hro:=hxo _ (List.getElem_mem hltr)
    have hco:OkX S (bY S z (xs.getD r.toNat (bJ S))):=by rw [hg];exact kP h hz hro
    refine ih _ (fun i hi=>hl i (List.mem_cons_of_mem _ hi)) hco ?_
    rcases hc with hc | hc
    ·refine .inl (gA h hxo1 hz hco hc ?_)
     show LeX S z (bY S z (xs.getD r.toNat (bJ S)))
     rw [hg];exact rK h hro hz
    ·rcases List.mem_cons.1 hc with rfl | hc
     ·refine .inl (gA h hxo1 hso hco h1 ?_)
      show LeX S _ (bY S z (xs.getD s.toNat (bJ S)))
      rw [hg];exact zV h hso hz
     ·exact .inr hc
  exact this fs _ (fun s hs=>hs) lR (.inr hs)
end
theorem Hh {S:PS} (h:S.ok):Gf S≤4194304:=by
 cases S with
 | one t n =>
  have h1:=sO (l:=0) h
  show nL t n≤4194304;omega
 | two t n u m =>
  have h1:=sO (l:=0) h.1
  have h2:=sO (l:=0) h.2
  show nL t n+nL u m≤4194304;omega
structure AutoOk (w:World) (S:PS) (py:TV→PX) (n:Nat) (a:AV):Prop where
 ok:S.ok
 si:SIs w S a.s.f
 st:a.st=(n:Int)
 n4:n≤4096
 frow:Row w a.fa a.fs
 flen:a.fs.length=a.fl
 fmax:a.fl≤9223372036854775807
 trow:qL w a.ta a.ts
 tlen:a.ts.length=a.tl
 tl:a.tl≤65536
 fq:∀ s∈a.fs,inQ s (n:Int)=true
 tf:∀ t∈a.ts,inQ t.f (n:Int)=true
 tt:∀ t∈a.ts,inQ t.t (n:Int)=true
 tg:∀ t∈a.ts,-1≤t.g∧t.g < a.sy
 sy:0≤a.sy∧a.sy≤4096
 px:∀ t∈a.ts,XIs w S t.x.f (py t)
theorem AutoOk.below {w w':World} {S:PS} {py:TV→PX} {n:Nat} {a:AV} (h:AutoOk w S py n a) (hb:Below w.heap.size w w'):AutoOk w' S py n a :=
 ⟨h.ok,h.si.below hb,h.st,h.n4,h.frow.below hb,h.flen,h.fmax,h.trow.below hb,h.tlen,h.tl,h.fq,h.tf,h.tt,h.tg,h.sy,fun t ht=>(h.px t ht).below hb⟩
theorem AutoOk.inN {w:World} {S:PS} {py:TV→PX} {n:Nat} {a:AV} (h:AutoOk w S py n a):InN n a.ts:=⟨fun t ht=>lI (h.tf t ht),fun t ht=>lI (h.tt t ht)⟩
theorem AutoOk.py {w:World} {S:PS} {py:TV→PX} {n:Nat} {a:AV} (h:AutoOk w S py n a):∀ t∈a.ts,OkX S (py t):=fun t ht=>(h.px t ht).ok
theorem AutoOk.ky {w:World} {S:PS} {py:TV→PX} {n:Nat} {a:AV} (h:AutoOk w S py n a):∀ t∈a.ts,(0≤t.f∧t.f≤1000000)∧(-1≤t.g∧t.g≤1000000):=fun t ht=>by
 obtain ⟨i,h1,h2⟩:=lI (h.tf t ht)
 have h3:=h.tg t ht
 have h4:=h.sy
 have h5:=h.n4
 omega
theorem AutoOk.kf {w:World} {S:PS} {py:TV→PX} {n:Nat} {a:AV} (h:AutoOk w S py n a) (kf:TV→Int×Int) (hk:∀ t,(kf t).1=t.f):∀ t∈a.ts,∃ s:Nat,(kf t).1=(s:Int)∧s < n:=fun t ht=>by
 rw [hk t];exact lI (h.tf t ht)
theorem AutoOk.eb {w:World} {S:PS} {py:TV→PX} {n:Nat} {a:AV} (h:AutoOk w S py n a) (kf:TV→Int×Int) (hk:∀ t,(kf t).1=t.f):∀ e∈egsX kf py a.ts,e.f < n∧e.t < n:=fun e he=>by
 obtain ⟨t,ht,rfl⟩:=List.mem_map.1 he
 refine ⟨?_,h.inN.tn ht⟩
 show (kf t).1.toNat < n
 rw [hk t];exact h.inN.fn ht
theorem finB_in {st:Int} {fs:List Int} (h:I5 st fs=true):∀ s∈fs,inQ s st=true:=fun s hs=>by
 obtain ⟨i,hi⟩:=List.getElem?_of_mem hs
 have h1:=List.all_eq_true.1 h i (List.mem_range.2 (List.getElem?_eq_some_iff.1 hi).1)
 unfold lY at h1
 rw [uB hi,Bool.and_eq_true] at h1
 exact h1.1
theorem Cn {w:World} {ds d:Nat} {a:AV} (h:AIn w ds d a) (hE:eR a=0):∃ S py n,AutoOk w S py n a:=by
 unfold eR at hE
 by_cases h1:dP a.s≠0
 ·rw [if_pos h1] at hE;exact absurd hE h1
 rw [if_neg h1] at hE
 have h1:dP a.s=0:=Decidable.of_not_not h1
 by_cases h2:65536 < a.tl
 ·rw [if_pos h2] at hE;cases hE
 rw [if_neg h2] at hE
 by_cases h3:dA a.st a.sy a.fs a.ts=false
 ·rw [if_pos h3] at hE;cases hE
 rw [if_neg h3] at hE
 by_cases h4:¬ a.ts.all (fun t=>decide (kQ a.s t.x=0))=true
 ·rw [if_neg h4] at hE;cases hE
 have h4:a.ts.all (fun t=>decide (kQ a.s t.x=0))=true:=Decidable.of_not_not h4
 have h3:dA a.st a.sy a.fs a.ts=true:=by simpa using h3
 unfold dA at h3
 by_cases h5:a.st < 0∨4096 < a.st∨a.sy < 0∨4096 < a.sy
 ·rw [if_pos h5] at h3;cases h3
 rw [if_neg h5,Bool.and_eq_true] at h3
 obtain ⟨n,hn⟩:∃ n:Nat,a.st=(n:Int):=⟨a.st.toNat,by omega⟩
 obtain ⟨S,hok,hsi,hx⟩:=Gl h.s h1
 have hw:∀ t∈a.ts,∃ y,XIs w S t.x.f y:=fun t ht=>by
  have h6:=of_decide_eq_true (List.all_eq_true.1 h4 t ht)
  refine hx t.x d (h.tin t ht) ?_
  unfold kQ at h6
  rw [if_pos h1] at h6
  by_cases h7:okW a.s t.x=true
  ·exact h7
  ·rw [if_neg h7] at h6;cases h6
 have htr:∀ t∈a.ts,inQ t.f a.st=true∧inQ t.t a.st=true ∧ -1≤t.g∧t.g < a.sy:=fun t ht=>by
  have h6:=List.all_eq_true.1 h3.2 t ht
  unfold trB at h6
  simp only [Bool.and_eq_true,decide_eq_true_eq] at h6
  exact h6
 have hcl:=fun t:TV=>Classical.propDecidable (∃ y,XIs w S t.x.f y)
 refine ⟨S,fun t=>@dite _ (∃ y,XIs w S t.x.f y) (hcl t) (fun h9=>h9.choose) (fun _=>bJ S),n,hok,hsi,hn,by omega,h.frow,h.flen,h.fmax,h.trow,h.tlen,by omega,?_,?_,?_,?_,by omega,?_⟩
 ·rw [← hn];exact finB_in h3.1
 ·rw [← hn];exact fun t ht=>(htr t ht).1
 ·rw [← hn];exact fun t ht=>(htr t ht).2.1
 ·exact fun t ht=>(htr t ht).2.2
 ·intro t ht
  rw [dif_pos (hw t ht)]
  exact (hw t ht).choose_spec
theorem lJ {a:AV} {fr ws:List Int} (h:iB a fr ws=0):eR a=0∧(∀ y∈fr,inQ y a.st=true)∧∀ y∈ws,inQ y a.sy=true:=by
 unfold iB at h
 by_cases h1:eR a≠0
 ·rw [if_pos h1] at h;exact absurd h h1
 rw [if_neg h1] at h
 by_cases h2:¬ fr.all (fun y=>inQ y a.st)=true
 ·rw [if_neg h2] at h;cases h
 have h2:fr.all (fun y=>inQ y a.st)=true:=Decidable.of_not_not h2
 rw [if_pos h2] at h
 by_cases h3:¬ ws.all (fun y=>inQ y a.sy)=true
 ·rw [if_neg h3] at h;cases h
 have h3:ws.all (fun y=>inQ y a.sy)=true:=Decidable.of_not_not h3
 exact ⟨Decidable.of_not_not h1,fun y hy=>List.all_eq_true.1 h2 y hy,fun y hy=>List.all_eq_true.1 h3 y hy⟩
theorem Sx {a:AV} {fr ws:List Int} (h:iB a fr ws=0):iB a fr []=0:=by
 obtain ⟨h1,h2,_⟩:=lJ h
 unfold iB
 rw [if_neg (fun h=>h h1),if_pos (List.all_eq_true.2 h2),if_pos (show ([]:List Int).all _=true from rfl)]
theorem Eu {a:AV} {fr ws:List Int} (h1:eR a=0) (h2:∀ y∈fr,inQ y a.st=true) (h3:∀ y∈ws,inQ y a.sy=true):iB a fr ws=0:=by
 unfold iB
 rw [if_neg (fun h=>h h1),if_pos (List.all_eq_true.2 h2),if_pos (List.all_eq_true.2 h3)]
theorem Ou {a:AV} {fr ws:List Int} (h:iB a fr []≠0):iB a fr ws=iB a fr []:=by
 unfold iB at h ⊢
 by_cases h1:eR a≠0
 ·rw [if_pos h1,if_pos h1]
 rw [if_neg h1] at h ⊢
 rw [if_neg h1]
 by_cases h2:fr.all (fun y=>inQ y a.st)=true
 ·rw [if_pos h2,if_pos (show ([]:List Int).all _=true from rfl)] at h;exact absurd rfl h
 ·rw [if_neg h2,if_neg h2]
theorem Co {a:AV} {fr ws:List Int} (h:iB a fr []=0) (h2:ws.all (fun y=>inQ y a.sy)=false):iB a fr ws=102:=by
 obtain ⟨h1,h3,_⟩:=lJ h
 unfold iB
 rw [if_neg (fun h=>h h1),if_pos (List.all_eq_true.2 h3),if_neg (by rw [h2];decide)]
theorem perm33 {α:Type} (x a b c d e f:α) (l:List α):(x::a::b::c::d::e::f::l).Perm (x::d::e::f::a::b::c::l):=by
 refine List.Perm.cons x ?_
 have h:([a,b,c]++[d,e,f]).Perm ([d,e,f]++[a,b,c]):=List.perm_append_comm
 exact h.append_right l
theorem perm71 {α:Type} (x a b c d e f:α) (l:List α):(a::b::c::d::e::f::x::l).Perm (x::a::b::c::d::e::f::l):=List.perm_middle (l₁:=[a,b,c,d,e,f])
theorem L3:bI Tryz.prog 57=true:=by kernel_rfl
theorem Jl (S:PS) (a:AV) (f0:WF) (bk:Bool) (bm VA VX RB IA WA n:Nat) (va:Value) (fs:List WF) (p:Nat) (Ot:Own) (Gt:cO) (K:List (Nat×World)) (w0:World) (lo:Nat) (py:TV→PX) (kf:TV→Int×Int) (w:World) (hS0:St w0 ((RB,rdC f0 a bk bm VA VX,109)::(VA,gL va n IA WA,139)::(IA,inC S (List.replicate n (bJ S)),4)::(WA,wC fs,44)::Ot) (⟨va,([]:List Nat).length,atC ([]:List Nat),3,1⟩::Gt) K w) (hV:VecOk S w0 K n fs (List.replicate n (bJ S)) []) (hn:n≤4096) (hp:p < n) (hM:oN w0 K kf lo a.ts bm) (htrow:qL w0 a.ta a.ts) (htlen:a.ts.length=a.tl) (htm:a.tl≤65536) (htq:∀ t∈a.ts,inQ t.t (n:Int)=true) (hpy:∀ t∈a.ts,XIs w0 S t.x.f (py t)) (hkf:∀ t∈a.ts,∃ s:Nat,(kf t).1=(s:Int)∧s < n) (hht:Gf S≤4194304) (hsi:SIs w0 S a.s.f) (hok:S.ok) (ht:Tabs w0) (H0:lF w0 K (fun W=>XIs W S f0 (bJ S))) :
  Calls Tryz.prog 55 #[.pointer (some ⟨RB,0,none⟩),.int .i64 (p:Int)] w (fun e w'=>∃ (u:Value) (l':List Nat) (fs':List WF) (xs':List PX) (Kn:List (Nat×World)),e = .returned (.tuple #[])∧(∀ q∈K,q∈Kn)∧VecOk S w0 Kn n fs' xs' l'∧Eps S bk (egsX kf py a.ts) ((List.replicate n (bJ S)).set p (nH S)) xs'∧vO S bk (egsX kf py a.ts) xs'∧St w0 ((RB,rdC f0 a bk bm VA VX,109)::(VA,gL u n IA WA,139)::(IA,inC S xs',4)::(WA,wC fs',44)::Ot) (⟨u,l'.length,atC l',3,1⟩::Gt) Kn w'):=by
 refine cE (args:=[.pointer (some ⟨RB,0,none⟩),.int .i64 (p:Int)]) Tryz.func55 rfl Tryz.ntmps55 rfl ?_
 have hS:=hS0
 refine aN (regS (ef:=12) (jy:=12) (ca:=qD (fun _=>[])) (ta:=fun _=>0) (Os:=osNo _) (Gs:=yV _) (al:=[]) (k:=11) (ds:=[15]) cD rfl hS rfl (by kernel_rfl) (by kernel_rfl) rfl (by decide) rfl (fun _=>none) (.inr ⟨rfl,rfl,rfl⟩) rfl rfl (aX 1 rfl rfl (isV _) (fun hNo=>sgV [(0,_)] rfl rfl rfl rfl hNo (aT rfl) ⟨dK (by kernel_rfl) rfl,trivial⟩ (fun ev w he hw=>aZ rfl) (aE rfl)) (aX 2 rfl rfl (isV _) (fun hNo=>sgV [(0,_)] rfl rfl rfl rfl hNo (aT rfl) ⟨dK (by kernel_rfl) rfl,trivial⟩ (fun ev w he hw=>aZ rfl) (aE rfl)) (aX 3 rfl rfl (isV _) (fun hNo=>sgV [(5,_)] rfl rfl rfl rfl hNo (aT rfl) ⟨aQ 1 (by kernel_rfl) (aA rfl rfl rfl),trivial⟩ (fun ev w he hw=>cP rfl) (aE rfl)) (aX 4 rfl rfl (isV _) (fun hNo=>sgV [(6,_)] rfl rfl rfl rfl hNo (aT rfl) ⟨aQ 2 (by kernel_rfl) (aA rfl rfl rfl),trivial⟩ (fun ev w he hw=>aV (o':=18) jV rfl rfl) (aE rfl)) (aX 5 rfl rfl (isV _) (fun hNo=>sgV [(7,_)] rfl rfl rfl rfl hNo (aT rfl) ⟨aQ 3 (by kernel_rfl) (aA rfl rfl rfl),trivial⟩ (fun ev w he hw=>bB Tryz.isAgg107 rfl ((aK (hw.at_ 0 rfl) rfl))) (aE rfl)) (aX 6 rfl rfl (isV _) (fun hNo=>sgV [(1,_)] rfl rfl rfl rfl hNo (aT rfl) ⟨dK (by kernel_rfl) rfl,trivial⟩ (fun ev w he hw=>aZ rfl) (aE rfl)) (aX 7 rfl rfl (isV _) (fun hNo=>sgV [(0,_)] rfl rfl rfl rfl hNo (aT rfl) ⟨dK (by kernel_rfl) rfl,trivial⟩ (fun ev w he hw=>aZ rfl) (aE rfl)) (aX 8 rfl rfl (isV _) (fun hNo=>sgV [(10,_)] rfl rfl rfl rfl hNo (aT rfl) ⟨aQ 6 (by kernel_rfl) (aA rfl rfl rfl),trivial⟩ (fun ev w he hw=>cP rfl) (aE rfl)) (aX 9 rfl rfl (isV _) (fun hNo=>sgV [(11,_)] rfl rfl rfl rfl hNo (aT rfl) ⟨aQ 7 (by kernel_rfl) (aA rfl rfl rfl),trivial⟩ (fun ev w he hw=>aV (o':=0) lZ rfl rfl) (aE rfl)) (aX 10 rfl rfl (isV _) (fun hNo=>sgV [(12,_)] rfl rfl rfl rfl hNo (aT rfl) ⟨aQ 8 (by kernel_rfl) (aA rfl rfl rfl),trivial⟩ (fun ev w he hw=>aW (vs:=[_,_,_,_,_,_,_,_,_]) Tryz.isAgg76 Tryz.sizeOf76 rfl ((aB.own (j:=0) (m:=9) (hw.at_ 0 rfl) rfl))) (aE rfl)) ?_)))))))))))
 refine aX 11 rfl rfl (dO w.heap.size S (nH S)) (fun hNo=>wV [isV _] rfl rfl rfl rfl hNo goes_65 (aT rfl) ⟨bZ (aQ 9 (by kernel_rfl) (aA rfl rfl rfl)),trivial⟩ (fun vs ev w' he hSt hlo hh=>by have e:=cA (us:=[_]) hh;subst e;exact lW hlo (Ix S a.s.f f0 w' (hsi.below hSt.below) hok)) (aE rfl)) ?_
 refine oJ ?_
 intro Bf1 y1 W1 Ks1 hsz1 hKs1 hS' hcov1
 clear hS;have hS:=hS'.castO (O':=(_::_::_::_::Ot)) rfl;clear hS'
 refine wA (L':=[AwS _ _ (isV _),AwS _ _ (isV _),AwS _ _ (isV _),AwS _ _ (isV _),AwS _ _ (isV _),AwS _ _ (isV _),AwS _ _ (isV _),AwS _ _ (isV _),AwS _ _ (isV _),AwS _ _ (isV _),AwS _ _ (dO w.heap.size S (nH S))]) rfl (bR (bR (bR (bR (bR (bR (bR (bR (bR (bR ?_))))))))))
 refine dF ?_;rintro vP h8p;obtain ⟨f9,rfl,hn9⟩:=h8p.here
 have HX9:lF w0 (Ks1++K) (fun W2=>XIs W2 S f9 (nH S)):=fun h2 hk=>(newS hn9 h8p (hcov1 h2 (fun q hq=>hk q (List.mem_append_left _ hq))) (Nat.le_refl _)).is
 obtain ⟨K8,hK8⟩:∃ x,x=Ks1++K:=⟨_,rfl⟩
 have hK98:∀ q∈K,q∈K8:=fun q hq=>by rw [hK8];exact List.mem_append_right _ hq
 rw [← hK8] at HX9 hS
 refine cQ (iN (vs:=[_,_,_,_]) Ep rfl (zP S a f0 bk bm VA VX RB VA IA WA n va fs (List.replicate n (bJ S)) [] Ot Gt K8 K8 w0 p f9 (nH S) (bJ S) _ hS (fun q hq=>hq) (hV.more hK98) hn hp (by rw [List.getElem?_replicate,if_pos hp]) hsi hok ht (H0.more hK98) HX9 (oF hok)) rfl ?_)
 rintro e W9 ⟨u8,l8,fs8,Kw8,rfl,_,hV8,hl8,hS8⟩
 rw [oH (oF hok)] at hV8 hS8
 obtain ⟨Kn8,hKn8⟩:∃ x,x=Kw8++K8:=⟨_,rfl⟩
 rw [← hKn8] at hV8 hS8
 have hsub8:∀ q∈K,q∈Kn8:=fun q hq=>by rw [hKn8];exact List.mem_append_right _ (hK98 q hq)
 refine ⟨_,rfl,?_⟩
 clear hS;have hS:=hS8;clear hS8
 refine aO (XF.thenN (aP (aI rfl rfl (iN (vs:=[_]) L3 rfl (wE S a f0 bk bm VA VX RB IA WA n u8 fs8 ((List.replicate n (bJ S)).set p (nH S)) l8 Ot Gt Kn8 w0 lo py kf _ hS hV8 hn (hM.more hsub8) htrow htlen htm htq hpy hkf hht hsi hok ht (H0.more hsub8)) rfl ?_))))
 rintro e W10 ⟨u9,l9,fs9,xs9,Kn9,rfl,hsub9,hV9,hE9,hC9,hS9⟩
 refine ⟨_,rfl,?_⟩
 clear hS;have hS:=hS9;clear hS9
 refine aO (XF.resN (L7 Tryz.results55) ?_)
 exact ⟨u9,l9,fs9,xs9,Kn9,rfl,(fun q hq=>hsub9 q (hsub8 q hq)),hV9,hE9,hC9,hS⟩
theorem Hi (ds d:Nat) (s:SV) (st sy:Int) (fa:Option Addr) (fl fc:Nat) (fs:List Int) (ta:Option Addr) (tl tc:Nat) (ts:List TV) (w:World) (hs:SIn w ds s) (hfrow:Row w fa fs) (hflen:fs.length=fl) (htrow:qL w ta ts) (htlen:ts.length=tl) (htin:∀ t∈ts,WIn w d t.x) (hfm:fl≤9223372036854775807) (htm:tl≤9223372036854775807) (ra:Option Addr) (rl rc:Nat) (fr:List Int) (hra:Row w ra fr) (hrl:fr.length=rl) (hrm:rl≤9223372036854775807) :
  Calls Tryz.prog 52 #[.agg #[.int .i64 s.f.tag,.int .i64 s.f.dim,.slice s.f.a s.f.len s.f.cap,.int .i64 st,.int .i64 sy,.slice fa fl fc,.slice ta tl tc],.slice ra rl rc] w (fun e w'=>e = .returned (.int .i64 (iB ⟨s,st,sy,fa,fl,fc,fs,ta,tl,tc,ts⟩ fr []))∧Below w.heap.size w w'):=by
 refine cE (args:=[.agg #[.int .i64 s.f.tag,.int .i64 s.f.dim,.slice s.f.a s.f.len s.f.cap,.int .i64 st,.int .i64 sy,.slice fa fl fc,.slice ta tl tc],.slice ra rl rc]) Tryz.func52 rfl Tryz.ntmps52 rfl ?_
 have hS:=St.start w
 refine aN (aP (bW (cs:=[_,_,_,_,_,_,_]) hS rfl rfl rfl fun B1 W1 hS=>aC rfl rfl (aO (XF.thenN (aN (aN (aP (aS (vs:=[_,_,_,_,_,_,_]) Tryz.isAgg29 Tryz.sizeOf29 rfl (aB.own (j:=0) (m:=7) (hS.at_ 0 rfl) rfl) rfl (cB (vs:=[_]) hS goes_8 rfl (R7 ds d ⟨s,st,sy,fa,fl,fc,fs,ta,tl,tc,ts⟩ _ (AIn.below ⟨hs,hfrow,hflen,htrow,htlen,htin,hfm,htm⟩ hS.below)) rfl fun W2 hS=>aC rfl rfl (aO (XF.thenN (aN (aP (aI rfl rfl (dG rfl rfl rfl (aO (XF.thenN (bA rfl (fun hc=>?_) (fun hc=>?_)))))))))))))))))))
 ·have hc11:=of_decide_eq_true hc;clear hc
  refine aN (aP (aI rfl rfl (aC rfl rfl (aO (XF.thenN (bT (XF.thenR (XF.res (cH Tryz.results52 rfl) ?_))))))))
  exact ⟨eK (by unfold iB;rw [if_pos hc11]),hS.below⟩
 ·have hc11:=of_decide_eq_false hc;clear hc
  have h0:¬ eR ⟨s,st,sy,fa,fl,fc,fs,ta,tl,tc,ts⟩≠0:=hc11
  refine bM (XF.thenN (aN (aN (aP (aI rfl rfl (cJ Tryz.underlying26 rfl rfl (aI rfl rfl (aO (XF.thenN (bX (eO (fun m l W=>∃ i:Nat,i≤rl∧m=rl - i∧l=[(2,.pointer (some ⟨B1,0,none⟩)),(13,.slice ra rl rc),(14,.int .i64 (rl:Int)),(15,.int .i64 (i:Int))]∧(fr.take i).all (fun y=>inQ y st)=true∧St w [(B1,[.int .i64 s.f.tag,.int .i64 s.f.dim,.slice s.f.a s.f.len s.f.cap,.int .i64 st,.int .i64 sy,.slice fa fl fc,.slice ta tl tc],29)] [] [] W) (rl - 0) ([(2,_),(13,_),(14,_),(15,_)]) ⟨rfl,rfl,rfl,rfl,trivial⟩ (⟨0,Nat.zero_le _,rfl,rfl,rfl,hS.clear⟩) ?_)))))))))))
  clear hS
  rintro m l W ⟨i,hi,rfl,rfl,hall,hS⟩
  refine aN (aP (cU rfl rfl rfl (aO (XF.thenN (aN (bA rfl (fun hc=>?_) (fun hc=>?_)))))))
  ·have hc16:=of_decide_eq_true hc;clear hc
   have hk:i < rl:=by omega
   obtain ⟨b,off,y,rfl,hy,hyc⟩:=hra.at1 (show i < fr.length by omega)
   have k1:=hS.old hyc
   refine bM (XF.thenN (aN (bX (aN (aP (cL  Tryz.underlying26 Tryz.sizeOf3 rfl rfl rfl (by omega) rfl rfl (aR Tryz.isAgg3 rfl (k1) rfl (aC rfl rfl (aO (XF.thenN (aN (aP (aS (vs:=[_,_,_,_,_,_,_]) Tryz.isAgg29 Tryz.sizeOf29 rfl (aB.own (j:=0) (m:=7) (hS.at_ 0 rfl) rfl) rfl (aI rfl rfl (cB (vs:=[_,_]) hS xA rfl (uF ⟨s,st,sy,fa,fl,fc,fs,ta,tl,tc,ts⟩ y _) rfl fun W3 hS=>eX rfl rfl (aO (XF.thenN (bA rfl (fun hc=>?_) (fun hc=>?_)))))))))))))))))))
   ·have hc22:=hc;clear hc
    refine aN (aP (aC rfl rfl (aO (XF.thenN (bT (XF.blkR (XF.thenR (XF.thenR (XF.blkR (XF.thenR (XF.res (cH Tryz.results52 rfl) ?_)))))))))))
    exact ⟨eK (by unfold iB;rw [if_neg h0,if_neg (by rw [dD hy (by have h9:=hc22;simpa using h9)];decide)]),hS.below⟩
   ·have hc22:=hc;clear hc
    refine bM (XF.blkN (XF.thenN (aP (dE rfl rfl (IntWalk.i64_in _ (by omega)) rfl (aI rfl rfl (aO ?_))))))
    exact XF.round (rl - (i+1)) [(2,_),(13,_),(14,_),(15,_)] (by omega) ⟨rfl,rfl,rfl,rfl,trivial⟩ ⟨i+1,by omega,rfl,rfl,gC hy hall (by have h9:=hc22;simpa using h9),hS.clear⟩
  ·have hc16:=of_decide_eq_false hc;clear hc
   rw [List.take_of_length_le (by omega)] at hall
   refine eN (XF.thenX (XF.thenX (XF.blkX (XF.thenN (aN (aP (aC rfl rfl (aO (XF.thenN (bT (XF.res (cH Tryz.results52 rfl) ?_)))))))))))
   exact ⟨eK (by unfold iB;rw [if_neg h0,if_pos hall,if_pos (show ([]:List Int).all _=true from rfl)]),hS.below⟩
theorem uP (ds d:Nat) (a:AV) (w:World) (h:AIn w ds d a) (ra:Option Addr) (rl rc:Nat) (fr:List Int) (hra:Row w ra fr) (hrl:fr.length=rl) (hrm:rl≤9223372036854775807):Calls Tryz.prog 52 #[a.val,.slice ra rl rc] w (fun e w'=>e = .returned (.int .i64 (iB a fr []))∧Below w.heap.size w w'):=Hi ds d _ _ _ _ _ _ _ _ _ _ _ w h.s h.frow h.flen h.trow h.tlen h.tin h.fmax h.tmax ra rl rc fr hra hrl hrm
theorem Sz {w:World} {b:Nat} {x:Int} {T:TypeId} (h:w.heap[b]?=some (.cells (List.toArray [.int .i64 x]) T (0,0))):Row w (some ⟨b,0,none⟩) [x]:=by
 refine .inr ⟨b,0,rfl,fun i hi=>?_⟩
 have:i=0:=by simp at hi;omega
 subst this
 simp [World.cell?,h]
theorem L4:bI Tryz.prog 52=true:=by kernel_rfl
theorem goes_53:bI Tryz.prog 53=true:=by kernel_rfl
theorem goes_54:bI Tryz.prog 54=true:=by kernel_rfl
theorem goes_55:bI Tryz.prog 55=true:=by kernel_rfl
theorem goes_56:bI Tryz.prog 56=true:=by kernel_rfl
theorem goes_58:bI Tryz.prog 58=true:=by kernel_rfl
theorem S1 {S:PS} {n:Nat}:inC S (List.replicate n (bJ S))=List.replicate n (Value.bool false):=by simp [inC,kH.2 rfl]
theorem vQ (ds d:Nat) (a:AV) (S:PS) (py:TV→PX) (n:Nat) (bk:Bool) (p:Nat) (w:World) (hin:AIn w ds d a) (hA:AutoOk w S py n a) (hp:p < n) (wa:Option Addr) (wl wc:Nat) (ws:List Int) (hwa:Row w wa ws) (hwl:ws.length=wl) (hwm:wl≤9223372036854775807) (hask:iB a [(p:Int)] ws=0) (ht:Tabs w) :
  Calls Tryz.prog 16 #[a.val,.bool bk,.int .i64 (p:Int),.slice wa wl wc] w (fun e w'=>∃ (f:WF) (z:PX),e = .returned (.tuple #[f.val,.int .i64 0])∧gG w.heap.size w' S f z∧LubX S (An S bk (egsX kSym py a.ts) (a.fs.map Int.toNat) p ws) z∧Below w.heap.size w w'):=by
 refine cE (args:=[a.val,.bool bk,.int .i64 (p:Int),.slice wa wl wc]) Tryz.func16 rfl Tryz.ntmps16 rfl ?_
 have hS:=St.start w
 have hsy:=(lJ hask).2.2
 have hsyy:=hA.sy
 refine aN (aP (bW (cs:=[_,_,_,_,_,_,_]) hS rfl rfl rfl fun B1 W1 hS=>bG (cs:=[_,_,_,_,_,_]) hS Tryz.zeroValue44 rfl rfl fun B2 W2 hS=>aC rfl rfl (aO (XF.thenN (aN (aN (aP (aS (vs:=[_,_,_,_,_,_,_]) Tryz.isAgg29 Tryz.sizeOf29 rfl (aB.own (j:=0) (m:=7) (hS.at_ 1 rfl) rfl) rfl (aI rfl rfl (cZ (us:=[(0,.int .i64 _)]) hS Tryz.underlying26 Tryz.sizeOf3 Tryz.zeroValue3 rfl rfl rfl (mG _) rfl fun B3 W3 hS=>cB (vs:=[_,_]) hS L4 rfl (uP ds d a _ (hin.below hS.below) _ 1 1 [(p:Int)] (Sz (hS.at_ 0 rfl)) rfl (by decide)) rfl fun W4 hS=>aC rfl rfl (aO (XF.thenN (aN (aP (aI rfl rfl (dG rfl rfl rfl (aO (XF.thenN (bA rfl (fun hc=>absurd (of_decide_eq_true hc) (by exact fun h=>h (Sx hask))) (fun hc=>?_))))))))))))))))))))
 have hc:=of_decide_eq_false hc
 refine bM (XF.thenN (aN (aN (aP (aI rfl rfl (cJ Tryz.underlying26 rfl rfl (aI rfl rfl (aO (XF.thenN (bX (eO (fun m l W=>∃ i:Nat,i≤wl∧m=wl - i∧l=[(1,.bool bk),(2,.int .i64 (p:Int)),(3,.slice wa wl wc),(4,.pointer (some ⟨B1,0,none⟩)),(8,.pointer (some ⟨B2,0,none⟩)),(24,.slice wa wl wc),(25,.int .i64 (wl:Int)),(26,.int .i64 (i:Int))]∧St w [(B2,[.bool false,.int .i64 0,.int .u64 0,.slice none 0 0,.slice none 0 0,.slice none 0 0],44),(B1,a.seven,29)] [] [] W) (wl - 0) ([(1,_),(2,_),(3,_),(4,_),(8,_),(24,_),(25,_),(26,_)]) ⟨rfl,rfl,rfl,rfl,rfl,rfl,rfl,rfl,trivial⟩ (⟨0,Nat.zero_le _,rfl,rfl,hS.tail.clear⟩) ?_)))))))))))
 clear hS
 rintro m l W ⟨i,hi,rfl,rfl,hS⟩
 refine aN (aP (cU rfl rfl rfl (aO (XF.thenN (aN (bA rfl (fun hc=>?_) (fun hc=>?_)))))))
 ·have hc27:=of_decide_eq_true hc;clear hc
  have hk:i < wl:=by omega
  obtain ⟨b,off,y,rfl,hy,hyc⟩:=hwa.at1 (show i < ws.length by omega)
  have k1:=hS.old hyc
  have hyq:=hsy y (List.mem_of_getElem? hy)
  simp only [inQ,Bool.and_eq_true,decide_eq_true_eq] at hyq
  refine bM (XF.thenN (aN (bX (aN (aP (cL  Tryz.underlying26 Tryz.sizeOf3 rfl rfl rfl (by omega) rfl rfl (aR Tryz.isAgg3 rfl (k1) rfl (aC rfl rfl (aO (XF.thenN (aN (aP (aI rfl rfl (cU rfl rfl rfl (aI rfl rfl (bQ (d:=32) rfl (fun hc=>absurd (of_decide_eq_true hc) (by omega)) (fun hc=>?_)))))))))))))))))
  have hc:=of_decide_eq_false hc
  refine aF (d:=32) rfl rfl (aI rfl rfl (aF (d:=32) rfl rfl (aM (o':=4) mN rfl rfl rfl (aF (d:=32) rfl rfl (aR Tryz.isAgg3 rfl (aK (hS.at_ 1 rfl) rfl) rfl (aF (d:=32) rfl rfl (pE rfl rfl rfl (bU rfl rfl rfl (aO (XF.thenN (bA rfl (fun hc=>absurd (of_decide_eq_true hc) (by omega)) (fun hc=>?_))))))))))))
  have hc:=of_decide_eq_false hc
  refine bM (XF.blkN (XF.thenN (aP (dE rfl rfl (IntWalk.i64_in _ (by omega)) rfl (aI rfl rfl (aO ?_))))))
  exact XF.round (wl - (i+1)) [(1,_),(2,_),(3,_),(4,_),(8,_),(24,_),(25,_),(26,_)] (by omega) ⟨rfl,rfl,rfl,rfl,rfl,rfl,rfl,rfl,trivial⟩ ⟨i+1,by omega,rfl,rfl,hS⟩
 ·have hc27:=of_decide_eq_false hc;clear hc
  refine eN (XF.thenX (XF.thenX (XF.blkX (XF.thenN (aN (aP (aS (vs:=[_,_,_,_,_,_,_]) Tryz.isAgg29 Tryz.sizeOf29 rfl (aB.own (j:=0) (m:=7) (hS.at_ 1 rfl) rfl) rfl (aI rfl rfl (iN (vs:=[_,_]) goes_53 rfl (Eo S a bk n _ _ w _ hS hA.si hA.ok hA.st hA.n4) rfl ?_)))))))))
  rintro e W9 ⟨RB,VA,IA,WA,VX,IX,WX,bm,f0,Kr,rfl,hKr,H0,hwb,hmap,hKb,hS9⟩
  refine ⟨_,rfl,?_⟩
  clear hS;have hS:=hS9.perm (perm71 _ _ _ _ _ _ _ _);clear hS9
  refine aC rfl rfl (aO (XF.thenN (aN (aP (aI rfl rfl (iN (vs:=[_]) goes_54 rfl (Sp S a f0 bk bm VA VX RB _ Kr w _ hS hmap hwb hKb hA.trow hA.tlen hA.tl hA.ky) rfl ?_))))))
  rintro e W10 ⟨lo,Kb,rfl,hKb2,hlo,hM,hS9⟩
  refine ⟨_,rfl,?_⟩
  clear hS;have hS:=(((hS9.newG 3 1).newG 3 1).castO (O':=(RB,rdC f0 a bk bm VA VX,109)::(VA,gL (.slice none 0 0) n IA WA,139)::(IA,inC S (List.replicate n (bJ S)),4)::(WA,wC (List.replicate n (⟨false,0,0,none,0,0,[],none,0,0,[],none,0,0⟩:WF)),44)::(VX,gL (.slice none 0 0) n IX WX,139)::(IX,inC S (List.replicate n (bJ S)),4)::(WX,wC (List.replicate n (⟨false,0,0,none,0,0,[],none,0,0,[],none,0,0⟩:WF)),44)::_) (by rw [S1])).castG (G':=[⟨(.slice none 0 0),([]:List Nat).length,atC ([]:List Nat),3,1⟩,⟨(.slice none 0 0),([]:List Nat).length,atC ([]:List Nat),3,1⟩]) rfl;clear hS9
  replace H0:lF w Kb (fun W=>XIs W S f0 (bJ S)):=H0.more hKb2
  refine aO (XF.thenN (aN (aP (aI rfl rfl (aI rfl rfl (iN (vs:=[_,_]) goes_55 rfl (Jl S a f0 bk bm VA VX RB IA WA n _ (List.replicate n (⟨false,0,0,none,0,0,[],none,0,0,[],none,0,0⟩:WF)) p _ _ Kb w lo py kSym _ hS (VecOk.emptied (by simp)) hA.n4 hp hM hA.trow hA.tlen hA.tl hA.tt hA.px (hA.kf kSym (fun _=>rfl)) (Hh hA.ok) hA.si hA.ok ht H0) rfl ?_))))))
  rintro e W11 ⟨u9,l9,fs9,xs9,Kn9,rfl,hsub9,hV9,hE9,hC9,hS9⟩
  refine ⟨_,rfl,?_⟩
  clear hS;have hS:=hS9;clear hS9
  have hF9:=Hg hA.ok (Et hA.py) (hA.eb kSym (fun _=>rfl)) hp hE9 hV9.ok hC9
  refine aO (XF.thenN (aN (aN (aP (aI rfl rfl (cJ Tryz.underlying26 rfl rfl (aI rfl rfl (aO (XF.thenN (bX (eO (fun m lf W=>∃ (i VA VX IA WA IX WX:Nat) (va vx:Value) (fs fx:List WF) (xs xx:List PX) (l lx:List Nat) (Kk:List (Nat×World)),i≤wl∧m=wl - i∧lf=[(8,.pointer (some ⟨B2,0,none⟩)),(13,.pointer (some ⟨RB,0,none⟩)),(48,.slice wa wl wc),(49,.int .i64 (wl:Int)),(50,.int .i64 (i:Int))]∧(∀ q∈Kb,q∈Kk)∧VecOk S w Kk n fs xs l∧VecOk S w Kk n fx xx lx∧Full S bk (egsX kSym py a.ts) p (ws.take i) xs∧St w ((RB,rdC f0 a bk bm VA VX,109)::(VA,gL va n IA WA,139)::(IA,inC S xs,4)::(WA,wC fs,44)::(VX,gL vx n IX WX,139)::(IX,inC S xx,4)::(WX,wC fx,44)::[(B2,[.bool false,.int .i64 0,.int .u64 0,.slice none 0 0,.slice none 0 0,.slice none 0 0],44),(B1,a.seven,29)]) [⟨va,l.length,atC l,3,1⟩,⟨vx,lx.length,atC lx,3,1⟩] Kk W) (wl - 0) ([(8,_),(13,_),(48,_),(49,_),(50,_)]) ⟨rfl,rfl,rfl,rfl,rfl,trivial⟩ (⟨0,VA,VX,IA,WA,IX,WX,u9,_,fs9,(List.replicate n (⟨false,0,0,none,0,0,[],none,0,0,[],none,0,0⟩:WF)),xs9,(List.replicate n (bJ S)),l9,[],Kn9,Nat.zero_le _,rfl,rfl,hsub9,hV9,VecOk.emptied (by simp),hF9,hS⟩) ?_)))))))))))
  clear hS
  clear hV9 hE9 hC9 hF9 hsub9;rintro m lf W ⟨i,VA,VX,IA,WA,IX,WX,va,vx,fs,fx,xs,xx,l,lx,Kk,hi,rfl,rfl,hKk,hVA,hVX,hF,hS⟩
  refine aN (aP (cU rfl rfl rfl (aO (XF.thenN (aN (bA rfl (fun hc=>?_) (fun hc=>?_)))))))
  ·have hc51:=of_decide_eq_true hc;clear hc
   have hk:i < wl:=by omega
   obtain ⟨b,off,y,rfl,hy,hyc⟩:=hwa.at1 (show i < ws.length by omega)
   have k1:=hS.old hyc
   have hyq:=hsy y (List.mem_of_getElem? hy)
   simp only [inQ,Bool.and_eq_true,decide_eq_true_eq] at hyq
   refine bM (XF.thenN (aN (bX (aN (aP (cL  Tryz.underlying26 Tryz.sizeOf3 rfl rfl rfl (by omega) rfl rfl (aR Tryz.isAgg3 rfl (k1) rfl (aC rfl rfl (aO (XF.thenN (aN (aP (aI rfl rfl (aI rfl rfl ?_))))))))))))))
   have hS1:=(hS.perm (perm33 _ _ _ _ _ _ _ _)).permG (List.Perm.swap _ _ _)
   refine iN (vs:=[_,_]) goes_56 rfl (Oq S a f0 bk bm VA VX RB IA WA IX WX n vx va fx fs xx xs lx l _ _ Kk w lo py y _ hS1 hVX hVA hA.n4 (hM.more hKk) hA.trow hA.tlen hA.tl hA.tt hA.px (by omega) hA.si hA.ok ht (H0.more hKk)) rfl ?_
   rintro e W12 ⟨u9,v9,l9,fs9,Kn9,rfl,hsub9,hV9,hS9⟩
   refine ⟨_,rfl,?_⟩
   clear hS hS1;have hS:=hS9;clear hS9
   refine aO (XF.thenN (aP (aI rfl rfl (iN (vs:=[_]) L3 rfl (wE S a f0 bk bm VX VA RB IX WX n u9 fs9 (jW S bk py a.ts xs y l (List.replicate n (bJ S))) l9 _ _ Kn9 w lo py kSym _ hS hV9 hA.n4 (hM.more (fun q hq=>hsub9 q (hKk q hq))) hA.trow hA.tlen hA.tl hA.tt hA.px (hA.kf kSym (fun _=>rfl)) (Hh hA.ok) hA.si hA.ok ht (H0.more (fun q hq=>hsub9 q (hKk q hq)))) rfl ?_))))
   rintro e W13 ⟨u7,l7,fs7,xs7,Kn7,rfl,hsub7,hV7,hE7,hC7,hS7⟩
   refine ⟨_,rfl,?_⟩
   clear hS;have hS:=hS7;clear hS7
   have hF7:=Jk hA.ok hA.py hA.inN hF hVA.ok hVA.xl hVA.ats (show y ≠ -1 by omega) hE7 hV7.ok hC7
   refine aO (XF.blkN (XF.thenN (aP (dE rfl rfl (IntWalk.i64_in _ (by omega)) rfl (aI rfl rfl (aO ?_))))))
   exact XF.round (wl - (i+1)) [(8,_),(13,_),(48,_),(49,_),(50,_)] (by omega) ⟨rfl,rfl,rfl,rfl,rfl,trivial⟩ ⟨i+1,VX,VA,IX,WX,IA,WA,u7,v9,fs7,fs,xs7,xs,l7,l,Kn7,by omega,rfl,rfl,(fun q hq=>hsub7 q (hsub9 q (hKk q hq))),hV7,hVA.more (fun q hq=>hsub7 q (hsub9 q hq)),(by rw [List.take_add_one,hy];exact hF7),hS⟩
  ·have hc51:=of_decide_eq_false hc;clear hc
   rw [List.take_of_length_le (by omega)] at hF
   refine eN (XF.thenX (XF.thenX (XF.blkX (XF.thenN (aN (aP (aI rfl rfl ?_)))))))
   have hszE:=hS.below.size
   refine cR (vs:=[_]) hS goes_58 rfl (Sq S a f0 bk bm VA VX RB IA WA n va fs xs _ (hS.at_ 0 rfl) (hS.at_ 1 rfl) (hS.at_ 2 rfl) (hS.at_ 3 rfl) hVA.fl hVA.xl (fun i f x h1 h2 h3=>(hVA.held i f x h1 h2 h3) hS (fun q hq=>hq)) hVA.ok hA.n4 (hA.frow.below hS.below) hA.flen hA.fmax hA.fq (hA.si.below hS.below) hA.ok (ht.below hS.below)) rfl ?_
   rintro e W5 ⟨f9,rfl,hn9,hb⟩
   refine ⟨_,rfl,hb,fun hS'=>?_⟩
   clear hS;have hS:=hS';clear hS'
   refine aU (i:=7) (vs:=[_,_,_,_,_,_]) (cs':=[_,_,_,_,_,_]) (O':=[_,_,_,_,_,_,_,_,_]) hS Tryz.sizeOf44 rfl rfl rfl rfl rfl rfl rfl fun W6 hS=>aC rfl rfl (aO (XF.thenN (bT (XF.res (sV (vs:=[_,_,_,_,_,_]) Tryz.results16 Tryz.isAgg44 Tryz.sizeOf44 rfl (aB.own (j:=0) (m:=6) (hS.at_ 7 rfl) rfl) rfl) ?_))))
   have hlub:=end_lub hA.ok (Et hA.py) hF hVA.ok a.fs (fun s hs=>by obtain ⟨i9,h1,h2⟩:=lI (hA.fq s hs);rw [h1,Int.toNat_natCast,hVA.xl];exact h2)
   exact ⟨f9,_,rfl,(hn9.agree (hS.since 0 rfl)).mono hszE,hlub,hS.below⟩
theorem Jm (ds d:Nat) (a:AV) (bk:Bool) (fr:Int) (w:World) (hin:AIn w ds d a) (wa:Option Addr) (wl wc:Nat) (ws:List Int) (hwa:Row w wa ws) (hwl:ws.length=wl) (hwm:wl≤9223372036854775807) (hask:iB a [fr] ws≠0) :
  Calls Tryz.prog 16 #[a.val,.bool bk,.int .i64 fr,.slice wa wl wc] w (fun e w'=>e = .returned (.tuple #[.agg #[.bool false,.int .i64 0,.int .u64 0,.slice none 0 0,.slice none 0 0,.slice none 0 0],.int .i64 (iB a [fr] ws)])∧Below w.heap.size w w'):=by
 refine cE (args:=[a.val,.bool bk,.int .i64 fr,.slice wa wl wc]) Tryz.func16 rfl Tryz.ntmps16 rfl ?_
 have hS:=St.start w
 refine aN (aP (bW (cs:=[_,_,_,_,_,_,_]) hS rfl rfl rfl fun B1 W1 hS=>bG (cs:=[_,_,_,_,_,_]) hS Tryz.zeroValue44 rfl rfl fun B2 W2 hS=>aC rfl rfl (aO (XF.thenN (aN (aN (aP (aS (vs:=[_,_,_,_,_,_,_]) Tryz.isAgg29 Tryz.sizeOf29 rfl (aB.own (j:=0) (m:=7) (hS.at_ 1 rfl) rfl) rfl (aI rfl rfl (cZ (us:=[(0,.int .i64 _)]) hS Tryz.underlying26 Tryz.sizeOf3 Tryz.zeroValue3 rfl rfl rfl (mG _) rfl fun B3 W3 hS=>cB (vs:=[_,_]) hS L4 rfl (uP ds d a _ (hin.below hS.below) _ 1 1 [fr] (Sz (hS.at_ 0 rfl)) rfl (by decide)) rfl fun W4 hS=>aC rfl rfl (aO (XF.thenN (aN (aP (aI rfl rfl (dG rfl rfl rfl (aO (XF.thenN (bA rfl (fun hc=>?_) (fun hc=>?_))))))))))))))))))))
 ·have hc21:=of_decide_eq_true hc;clear hc
  refine aN (aP (dR (us:=[]) rfl (xD) rfl (aI rfl rfl (aU (i:=1) (vs:=[_,_,_,_,_,_]) (cs':=[_,_,_,_,_,_]) (O':=[_,_,_]) hS Tryz.sizeOf44 rfl rfl rfl rfl rfl rfl rfl fun W5 hS=>aC rfl rfl (aO (XF.thenN (bT (XF.thenR (XF.res (sV (vs:=[_,_,_,_,_,_]) Tryz.results16 Tryz.isAgg44 Tryz.sizeOf44 rfl (aB.own (j:=0) (m:=6) (hS.at_ 1 rfl) rfl) rfl) ?_)))))))))
  exact ⟨by rw [Ou (ws:=ws) hc21],hS.below⟩
 ·have hc21:=of_decide_eq_false hc;clear hc
  have h0:iB a [fr] []=0:=Decidable.of_not_not hc21
  refine bM (XF.thenN (aN (aN (aP (aI rfl rfl (cJ Tryz.underlying26 rfl rfl (aI rfl rfl (aO (XF.thenN (bX (eO (fun m l W=>∃ i:Nat,i≤wl∧m=wl - i∧l=[(1,.bool bk),(2,.int .i64 fr),(3,.slice wa wl wc),(4,.pointer (some ⟨B1,0,none⟩)),(8,.pointer (some ⟨B2,0,none⟩)),(24,.slice wa wl wc),(25,.int .i64 (wl:Int)),(26,.int .i64 (i:Int))]∧(ws.take i).all (fun y=>inQ y a.sy)=true∧St w [(B2,[.bool false,.int .i64 0,.int .u64 0,.slice none 0 0,.slice none 0 0,.slice none 0 0],44),(B1,a.seven,29)] [] [] W) (wl - 0) ([(1,_),(2,_),(3,_),(4,_),(8,_),(24,_),(25,_),(26,_)]) ⟨rfl,rfl,rfl,rfl,rfl,rfl,rfl,rfl,trivial⟩ (⟨0,Nat.zero_le _,rfl,rfl,rfl,hS.tail.clear⟩) ?_)))))))))))
  clear hS
  rintro m l W ⟨i,hi,rfl,rfl,hall,hS⟩
  refine aN (aP (cU rfl rfl rfl (aO (XF.thenN (aN (bA rfl (fun hc=>?_) (fun hc=>?_)))))))
  ·have hc27:=of_decide_eq_true hc;clear hc
   have hk:i < wl:=by omega
   obtain ⟨b,off,y,rfl,hy,hyc⟩:=hwa.at1 (show i < ws.length by omega)
   have k1:=hS.old hyc
   refine bM (XF.thenN (aN (bX (aN (aP (cL  Tryz.underlying26 Tryz.sizeOf3 rfl rfl rfl (by omega) rfl rfl (aR Tryz.isAgg3 rfl (k1) rfl (aC rfl rfl (aO (XF.thenN (aN (aP (aI rfl rfl (cU rfl rfl rfl (aI rfl rfl (bQ (d:=32) rfl (fun hc=>?_) (fun hc=>?_)))))))))))))))))
   ·have hg32:=of_decide_eq_true hc;clear hc
    have e5:inQ y a.sy=false:=by simp [inQ];omega
    refine aG (d:=32) rfl rfl rfl rfl (aG (d:=32) rfl rfl rfl rfl (aG (d:=32) rfl rfl rfl rfl (aG (d:=32) rfl rfl rfl rfl (bD rfl rfl rfl (aO (XF.thenN (fI rfl (aN (aP (dR (us:=[]) rfl (xD) rfl (aU (i:=0) (vs:=[_,_,_,_,_,_]) (cs':=[_,_,_,_,_,_]) (O':=[_,_]) hS Tryz.sizeOf44 rfl rfl rfl rfl rfl rfl rfl fun W6 hS=>aC rfl rfl (aO (XF.thenN (bT (XF.blkR (XF.thenR (XF.thenR (XF.blkR (XF.thenR (XF.res (sV (vs:=[_,_,_,_,_,_]) Tryz.results16 Tryz.isAgg44 Tryz.sizeOf44 rfl (aB.own (j:=0) (m:=6) (hS.at_ 0 rfl) rfl) rfl) ?_))))))))))))))))))))
    exact ⟨by rw [Co h0 (dD hy e5)],hS.below⟩
   ·have hg32:=of_decide_eq_false hc;clear hc
    refine aF (d:=32) rfl rfl (aI rfl rfl (aF (d:=32) rfl rfl (aM (o':=4) mN rfl rfl rfl (aF (d:=32) rfl rfl (aR Tryz.isAgg3 rfl (aK (hS.at_ 1 rfl) rfl) rfl (aF (d:=32) rfl rfl (pE rfl rfl rfl (bU rfl rfl rfl (aO (XF.thenN (bA rfl (fun hc=>?_) (fun hc=>?_))))))))))))
    ·have hc37:=of_decide_eq_true hc;clear hc
     have e5:inQ y a.sy=false:=by simp [inQ];omega
     refine aN (aP (dR (us:=[]) rfl (xD) rfl (aU (i:=0) (vs:=[_,_,_,_,_,_]) (cs':=[_,_,_,_,_,_]) (O':=[_,_]) hS Tryz.sizeOf44 rfl rfl rfl rfl rfl rfl rfl fun W7 hS=>aC rfl rfl (aO (XF.thenN (bT (XF.blkR (XF.thenR (XF.thenR (XF.blkR (XF.thenR (XF.res (sV (vs:=[_,_,_,_,_,_]) Tryz.results16 Tryz.isAgg44 Tryz.sizeOf44 rfl (aB.own (j:=0) (m:=6) (hS.at_ 0 rfl) rfl) rfl) ?_))))))))))))
     exact ⟨by rw [Co h0 (dD hy e5)],hS.below⟩
    ·have hc37:=of_decide_eq_false hc;clear hc
     have e5:inQ y a.sy=true:=by simp [inQ];omega
     refine bM (XF.blkN (XF.thenN (aP (dE rfl rfl (IntWalk.i64_in _ (by omega)) rfl (aI rfl rfl (aO ?_))))))
     exact XF.round (wl - (i+1)) [(1,_),(2,_),(3,_),(4,_),(8,_),(24,_),(25,_),(26,_)] (by omega) ⟨rfl,rfl,rfl,rfl,rfl,rfl,rfl,rfl,trivial⟩ ⟨i+1,by omega,rfl,rfl,gC hy hall e5,hS⟩
  ·have hc27:=of_decide_eq_false hc;clear hc
   exact absurd (by rw [List.take_of_length_le (by omega)] at hall;obtain ⟨h1,h2,_⟩:=lJ h0;exact Eu h1 h2 (fun y hy=>List.all_eq_true.1 hall y hy)) hask
abbrev S9:PS:=.one 2 9
abbrev exE:List Eg:=[⟨0,0,1,.one (pC 3)⟩,⟨0,-1,0,.one (pC 1)⟩,⟨0,0,1,.one (pC 5)⟩]
theorem lA:S9.ok:=by show bE 2 9 0=true;decide
theorem Hj {c:Int} (h0:0≤c) (h1:c≤9):OkX S9 (.one (pC c)):=OkP.cost c rfl h0 h1
theorem Jn:∀ e∈exE,OkX S9 e.y:=fun e he=>by
 simp only [List.mem_cons,List.not_mem_nil,or_false] at he
 rcases he with rfl | rfl | rfl
 ·exact Hj (by decide) (by decide)
 ·exact Hj (by decide) (by decide)
 ·exact Hj (by decide) (by decide)
theorem Hk {x:PX} (hx:OkX S9 x):LeX S9 x (nH S9):=by
 cases x with
 | two a b=>exact hx.elim
 | one a =>
  rcases hQ hx with rfl | ⟨c,rfl,h0,h1⟩
  ·exact uN (oF lA)
  ·show PX.one (dC 2 9 (pC 0) (pC c))=PX.one (pC 0)
   rw [kX,Int.min_eq_left h0]
theorem ex_lub {z:PX} (h:LubX S9 (An S9 false exE [1] 0 [0]) z):z = .one (pC 3):=by
 have hA:=Eq (b:=false) (F:=[1]) (p:=0) (u:=[0]) lA Jn
 have h3:OkX S9 (.one (pC 3)):=Hj (by decide) (by decide)
 refine h.uniq lA hA ⟨Fs.one ?_ h3,?_⟩
 ·refine ⟨1,by simp,?_⟩
  have h9:=Pth.sym (S:=S9) (b:=false) (E:=exE) (p:=0) (e:=⟨0,0,1,.one (pC 3)⟩) .nil (by simp) rfl (by decide)
  rw [show gT S9 false (nH S9) (PX.one (pC 3))=PX.one (pC 3) from oneD lA h3] at h9
  exact h9
 ·rintro x ⟨q,_,hp⟩
  have key:∀ {u q x},Pth S9 false exE 0 u q x→(u=[]→q=0)∧(u=[0]→q=1∧LeX S9 x (.one (pC 3))):=by
   intro u q x hp
   induction hp with
   | nil=>exact ⟨fun _=>rfl,fun h=>by cases h⟩
   | @eps u q x e h0 he hf hg ih =>
    simp only [List.mem_cons,List.not_mem_nil,or_false] at he
    rcases he with rfl | rfl | rfl
    ·exact absurd hg (by decide)
    ·refine ⟨fun _=>rfl,fun hu=>?_⟩
     have h1:=(ih.2 hu).1
     rw [← hf] at h1
     exact absurd h1 (by decide)
    ·exact absurd hg (by decide)
   | @sym u q x e h0 he hf hg ih =>
    refine ⟨fun h=>by simp at h,fun hu=>?_⟩
    have hxo:=h0.ok lA Jn
    have h1:OkX S9 (PX.one (pC 3)):=h3
    simp only [List.mem_cons,List.not_mem_nil,or_false] at he
    rcases he with rfl | rfl | rfl
    ·refine ⟨rfl,?_⟩
     have h9:=oO (b:=false) lA hxo (oF lA) h3 (Hk hxo)
     rw [oneD lA h3] at h9
     exact h9
    ·exact absurd rfl hg
    ·refine ⟨rfl,?_⟩
     have h5:OkX S9 (PX.one (pC 5)):=Hj (by decide) (by decide)
     have h9:=oO (b:=false) lA hxo (oF lA) h5 (Hk hxo)
     rw [oneD lA h5] at h9
     refine gA lA (gS lA hxo h5) h5 h3 h9 ?_
     show PX.one (dC 2 9 (pC 3) (pC 5))=PX.one (pC 3)
     rw [kX];rfl
  exact ((key hp).2 rfl).2
theorem ex_none {z:PX} (h:LubX S9 (An S9 false exE [1] 1 [0]) z):z=bJ S9:=by
 have hA:=Eq (b:=false) (F:=[1]) (p:=1) (u:=[0]) lA Jn
 refine h.uniq lA hA (LubX.none ?_)
 rintro x ⟨q,_,hp⟩
 have key:∀ {u q x},Pth S9 false exE 1 u q x→u=[]∧q=1:=by
  intro u q x hp
  induction hp with
  | nil=>exact ⟨rfl,rfl⟩
  | @eps u q x e h0 he hf hg ih =>
   have h1:=ih.2
   rw [← hf] at h1
   simp only [List.mem_cons,List.not_mem_nil,or_false] at he
   rcases he with rfl | rfl | rfl<;>exact absurd h1 (by decide)
  | @sym u q x e h0 he hf hg ih =>
   have h1:=ih.2
   rw [← hf] at h1
   simp only [List.mem_cons,List.not_mem_nil,or_false] at he
   rcases he with rfl | rfl | rfl<;>exact absurd h1 (by decide)
 exact absurd (key hp).1 (by simp)
theorem S2 {S:PS} {b:Bool} {E E':List Eg} {F:List Nat} {p:Nat} {u:List Int} (hs:∀ e∈E,e∈E'):∀ x,An S b E F p u x→An S b E' F p u x:=fun x ⟨q,h1,h2⟩=>⟨q,h1,h2.more hs⟩
theorem vR (v00:Value) (v01:Value) (v02:Value) (v1:Int) (v2:Int) (v3a:Option Addr) (v3l:Nat) (v3c:Nat) (v4a:Option Addr) (v4l:Nat) (v4c:Nat):Tryz.prog.built 29 [(0,.agg #[v00,v01,v02]),(1,.int .i64 v1),(2,.int .i64 v2),(3,.slice v3a v3l v3c),(4,.slice v4a v4l v4c)]=some #[v00,v01,v02,.int .i64 v1,.int .i64 v2,.slice v3a v3l v3c,.slice v4a v4l v4c]:=by kernel_rfl
theorem uQ (v1:Int) (v2:Int) (v30:Value) (v31:Value) (v32:Value) (v33:Value) (v34:Value) (v35:Value):Tryz.prog.built 66 [(1,.int .i64 v1),(2,.int .i64 v2),(3,.agg #[v30,v31,v32,v33,v34,v35])]=some #[.int .i64 0,.int .i64 v1,.int .i64 v2,v30,v31,v32,v33,v34,v35]:=by kernel_rfl
theorem Jo (v1:Int) (v30:Value) (v31:Value) (v32:Value) (v33:Value) (v34:Value) (v35:Value):Tryz.prog.built 66 [(1,.int .i64 v1),(3,.agg #[v30,v31,v32,v33,v34,v35])]=some #[.int .i64 0,.int .i64 v1,.int .i64 0,v30,v31,v32,v33,v34,v35]:=by kernel_rfl
theorem bs_27_3 (v00:Value) (v01:Value) (v02:Value) (v03:Value) (v04:Value) (v05:Value) (v06:Value) (v07:Value) (v08:Value) (v10:Value) (v11:Value) (v12:Value) (v13:Value) (v14:Value) (v15:Value) (v16:Value) (v17:Value) (v18:Value) (v20:Value) (v21:Value) (v22:Value) (v23:Value) (v24:Value) (v25:Value) (v26:Value) (v27:Value) (v28:Value):Instr.fill (fun i=>some (i * 9,9)) ((Array.range (3 * 9)).map ((Value.cells (.agg #[.int .i64 0,.int .i64 0,.int .i64 0,.bool false,.int .i64 0,.int .u64 0,.slice none 0 0,.slice none 0 0,.slice none 0 0]))[· % (Value.cells (.agg #[.int .i64 0,.int .i64 0,.int .i64 0,.bool false,.int .i64 0,.int .u64 0,.slice none 0 0,.slice none 0 0,.slice none 0 0])).size]!)) [(0,.agg #[v00,v01,v02,v03,v04,v05,v06,v07,v08]),(1,.agg #[v10,v11,v12,v13,v14,v15,v16,v17,v18]),(2,.agg #[v20,v21,v22,v23,v24,v25,v26,v27,v28])]=some (List.toArray [v00,v01,v02,v03,v04,v05,v06,v07,v08,v10,v11,v12,v13,v14,v15,v16,v17,v18,v20,v21,v22,v23,v24,v25,v26,v27,v28]):=by kernel_rfl
def wC9 (c:Int):WV:=.mk ⟨false,c,0,none,0,0,[],none,0,0,[],none,0,0⟩ []
abbrev exA (b1 b2:Nat):AV:=⟨.mk ⟨2,9,none,0,0⟩ [],2,1,some ⟨b1,0,none⟩,1,1,[1],some ⟨b2,0,none⟩,3,3,[⟨0,0,1,wC9 3⟩,⟨0,-1,0,wC9 1⟩,⟨0,0,1,wC9 5⟩]⟩
def pyC (t:TV):PX:=.one t.x.f.pf
theorem S4 (w:World) (c:Int):WIn w 1 (wC9 c):=⟨⟨.inl rfl,rfl,by show 0 < 18446744073709551616;decide,(fun r hr=>by cases hr),.inl rfl,rfl,(fun c hc=>by cases hc),Nat.zero_le _⟩,rfl,.inl rfl,fun p hp=>by cases hp⟩
theorem S5 {w:World} {c:Int} (h0:0≤c) (h1:c≤9):XIs w S9 (wC9 c).f (.one (wC9 c).f.pf):=PIs.of (t:=2) (n:=9) (by decide) (S4 w c).1 (by simp [fD,wC9,WV.f,iF,iE,h0,h1])
theorem exA_in {w:World} {b1 b2:Nat} {T1 T2:TypeId} (h1:w.heap[b1]?=some (.cells (List.toArray [.int .i64 1]) T1 (0,0)))
  (h2:w.heap[b2]?=some (.cells (List.toArray ((⟨0,0,1,wC9 3⟩:TV).nine++(⟨0,-1,0,wC9 1⟩:TV).nine++(⟨0,0,1,wC9 5⟩:TV).nine)) T2 (0,0))):AIn w 1 1 (exA b1 b2):=by
 refine ⟨⟨rfl,.inl rfl,fun p hp=>by cases hp⟩,Sz h1,rfl,.inr ⟨b2,0,rfl,fun i r hi=>?_⟩,rfl,fun r hr=>?_,by show 1≤9223372036854775807;decide,by show 3≤9223372036854775807;decide⟩
 ·match i,hi with
  | 0,hi=>cases hi;exact aB.own (j:=0) (m:=9) h2 rfl
  | 1,hi=>cases hi;exact aB.own (j:=9) (m:=9) h2 rfl
  | 2,hi=>cases hi;exact aB.own (j:=18) (m:=9) h2 rfl
  | i+3,hi=>exact absurd hi (by simp)
 ·simp only [List.mem_cons,List.not_mem_nil,or_false] at hr
  rcases hr with rfl | rfl | rfl<;>exact S4 w _
theorem S6 {w:World} {b1 b2:Nat} (h:AIn w 1 1 (exA b1 b2)):AutoOk w S9 pyC 2 (exA b1 b2):=by
 refine ⟨lA,⟨none,0,rfl⟩,rfl,by decide,h.frow,h.flen,h.fmax,h.trow,h.tlen,by show 3≤65536;decide,?_,?_,?_,?_,by show (0:Int)≤1∧(1:Int)≤4096;decide,?_⟩
 ·intro s hs;simp at hs;subst hs;decide
 ·intro t ht;simp only [List.mem_cons,List.not_mem_nil,or_false] at ht;rcases ht with rfl | rfl | rfl<;>decide
 ·intro t ht;simp only [List.mem_cons,List.not_mem_nil,or_false] at ht;rcases ht with rfl | rfl | rfl<;>decide
 ·intro t ht
  show -1≤t.g∧t.g < 1
  simp only [List.mem_cons,List.not_mem_nil,or_false] at ht
  rcases ht with rfl | rfl | rfl<;>(dsimp only;omega)
 ·intro t ht;simp only [List.mem_cons,List.not_mem_nil,or_false] at ht;rcases ht with rfl | rfl | rfl
  ·exact S5 (by decide) (by decide)
  ·exact S5 (by decide) (by decide)
  ·exact S5 (by decide) (by decide)
theorem exA_E {b1 b2:Nat}:eR (exA b1 b2)=0:=by
 have e1:dP (exA b1 b2).s=0:=by show dP (.mk ⟨2,9,none,0,0⟩ [])=0;decide
 have e2:dA (exA b1 b2).st (exA b1 b2).sy (exA b1 b2).fs (exA b1 b2).ts=true:=by show dA 2 1 [1] [⟨0,0,1,wC9 3⟩,⟨0,-1,0,wC9 1⟩,⟨0,0,1,wC9 5⟩]=true;decide
 have e3:∀ c:Int,c=3∨c=1∨c=5→kQ (exA b1 b2).s (wC9 c)=0:=fun c hc=>by rcases hc with rfl | rfl | rfl<;>(show kQ (.mk ⟨2,9,none,0,0⟩ []) _=0;decide)
 unfold eR
 rw [if_neg (fun h=>h e1),if_neg (by show ¬ 65536 < 3;decide),if_neg (by rw [e2];decide),if_pos]
 refine List.all_eq_true.2 fun t ht=>decide_eq_true ?_
 simp only [List.mem_cons,List.not_mem_nil,or_false] at ht
 rcases ht with rfl | rfl | rfl
 ·exact e3 3 (.inl rfl)
 ·exact e3 1 (.inr (.inl rfl))
 ·exact e3 5 (.inr (.inr rfl))
theorem L5 {b1 b2:Nat} (p:Int) (hp:p=0∨p=1):iB (exA b1 b2) [p] [0]=0:=Eu exA_E (fun y hy=>by simp at hy;subst hy;show inQ y 2=true;rcases hp with rfl | rfl<;>decide) (fun y hy=>by simp at hy;subst hy;show inQ 0 1=true;decide)
theorem wF (w:World) :
  Calls Tryz.prog 35 #[] w (fun e w'=>∃ b1 b2,e = .returned (exA b1 b2).val∧(∀ w2,dQ w.heap.size w' w2→AIn w2 1 1 (exA b1 b2))∧Below w.heap.size w w'):=by
 refine cE (args:=[]) Tryz.func35 rfl Tryz.ntmps35 rfl ?_
 have hS:=St.start w
 refine aN (aP (bG (cs:=[_,_,_,_,_,_,_]) hS Tryz.zeroValue29 rfl rfl fun B1 W1 hS=>aO (XF.thenN (aN (aP (dR (us:=[(0,.int .i64 _),(1,.int .i64 _)]) rfl (Ht _ _) rfl (cZ (us:=[(0,.int .i64 _)]) hS Tryz.underlying26 Tryz.sizeOf3 Tryz.zeroValue3 rfl rfl rfl (mG _) rfl fun B2 W2 hS=>dR (us:=[(1,.int .i64 _)]) rfl (xF _) rfl (dR (us:=[(1,.int .i64 _),(2,.int .i64 _),(3,.agg (List.toArray [_,_,_,_,_,_]))]) rfl (uQ _ _ _ _ _ _ _ _) rfl (dR (us:=[(1,.int .i64 _)]) rfl (xF _) rfl (dR (us:=[(1,.int .i64 _),(3,.agg (List.toArray [_,_,_,_,_,_]))]) rfl (Jo _ _ _ _ _ _ _) rfl (dR (us:=[(1,.int .i64 _)]) rfl (xF _) rfl (dR (us:=[(1,.int .i64 _),(2,.int .i64 _),(3,.agg (List.toArray [_,_,_,_,_,_]))]) rfl (uQ _ _ _ _ _ _ _ _) rfl (cZ (us:=[(0,.agg (List.toArray [_,_,_,_,_,_,_,_,_])),(1,.agg (List.toArray [_,_,_,_,_,_,_,_,_])),(2,.agg (List.toArray [_,_,_,_,_,_,_,_,_]))]) hS Tryz.underlying27 Tryz.sizeOf66 Tryz.zeroValue66 rfl rfl rfl (bs_27_3 _ _ _ _ _ _ _ _ _ _ _ _ _ _ _ _ _ _ _ _ _ _ _ _ _ _ _) rfl fun B3 W3 hS=>dR (us:=[(0,.agg (List.toArray [_,_,_])),(1,.int .i64 _),(2,.int .i64 _),(3,.slice _ _ _),(4,.slice _ _ _)]) rfl (vR _ _ _ _ _ _ _ _ _ _ _) rfl (aU (i:=2) (vs:=[_,_,_,_,_,_,_]) (cs':=[_,_,_,_,_,_,_]) (O':=[_,_,_]) hS Tryz.sizeOf29 rfl rfl rfl rfl rfl rfl rfl fun W4 hS=>aO (XF.thenN (bT (XF.res (eH (vs:=[_,_,_,_,_,_,_]) Tryz.results35 Tryz.isAgg29 Tryz.sizeOf29 rfl (aB.own (j:=0) (m:=7) (hS.at_ 2 rfl) rfl)) ?_)))))))))))))))))
 exact ⟨B2,B3,rfl,fun w2 hg=>exA_in ((hg.2 _ (hS.ge 1 rfl) (bL (hS.at_ 1 rfl))).trans (hS.at_ 1 rfl)) ((hg.2 _ (hS.ge 0 rfl) (bL (hS.at_ 0 rfl))).trans (hS.at_ 0 rfl)),hS.below⟩
theorem Ov (a:AV) (wa:Option Addr) (wl wc:Nat) (w:World) :
  Calls Tryz.prog 11 #[a.val,.slice wa wl wc] w (fun e w'=>∃ b:Bool,e = .returned (.bool b)∧(b=true→(a.tl:Int)≤300∧a.st≤300∧(wl:Int)≤40)∧Below w.heap.size w w'):=by
 refine cE (args:=[a.val,.slice wa wl wc]) Tryz.func11 rfl Tryz.ntmps11 rfl ?_
 have hS:=St.start w
 refine aN (aP (bW (cs:=[_,_,_,_,_,_,_]) hS rfl rfl rfl fun B1 W1 hS=>aC rfl rfl (aO (XF.thenN (aN (aP (aM (o':=6) gR rfl rfl rfl (aR Tryz.isAgg27 rfl (aK (hS.at_ 0 rfl) rfl) rfl (cJ Tryz.underlying27 rfl rfl (uS rfl rfl rfl (aI rfl rfl (bQ (d:=9) rfl (fun hc=>?_) (fun hc=>?_)))))))))))))
 ·have hg9:=of_decide_eq_true hc;clear hc
  refine aF (d:=9) rfl rfl (aM (o':=3) lG rfl rfl rfl (aF (d:=9) rfl rfl (aR Tryz.isAgg3 rfl (aK (hS.at_ 0 rfl) rfl) rfl (aF (d:=9) rfl rfl (uS rfl rfl rfl (bD rfl rfl rfl (aI rfl rfl (bQ (d:=14) rfl (fun hc=>?_) (fun hc=>?_)))))))))
  ·have hg14:=of_decide_eq_true hc;clear hc
   refine aF (d:=14) rfl rfl (aI rfl rfl (aF (d:=14) rfl rfl (cJ Tryz.underlying26 rfl rfl (aF (d:=14) rfl rfl (uS rfl rfl rfl (bD rfl rfl rfl (aC rfl rfl (aO (XF.thenN (bT (XF.res (cH Tryz.results11 rfl) ?_)))))))))))
   exact ⟨_,rfl,fun h=>⟨hg9,hg14,of_decide_eq_true h⟩,hS.below⟩
  ·have hg14:=of_decide_eq_false hc;clear hc
   refine aG (d:=14) rfl rfl rfl rfl (aG (d:=14) rfl rfl rfl rfl (aG (d:=14) rfl rfl rfl rfl (bU rfl rfl rfl (aC rfl rfl (aO (XF.thenN (bT (XF.res (cH Tryz.results11 rfl) ?_))))))))
   exact ⟨false,rfl,fun h=>by (cases h),hS.below⟩
 ·have hg9:=of_decide_eq_false hc;clear hc
  refine aG (d:=9) rfl rfl rfl rfl (aG (d:=9) rfl rfl rfl rfl (aG (d:=9) rfl rfl rfl rfl (bU rfl rfl rfl (aI rfl rfl (aG (d:=14) rfl rfl rfl rfl (aG (d:=14) rfl rfl rfl rfl (aG (d:=14) rfl rfl rfl rfl (bU rfl rfl rfl (aC rfl rfl (aO (XF.thenN (bT (XF.res (cH Tryz.results11 rfl) ?_)))))))))))))
  exact ⟨false,rfl,fun h=>by (cases h),hS.below⟩
theorem xB:bI Tryz.prog 16=true:=by kernel_rfl
theorem L6:bI Tryz.prog 35=true:=by kernel_rfl
theorem Ow (w:World) (ht:Tabs w) :
  Calls Tryz.prog 10 #[] w (fun e w'=>e = .returned (.bool (true))∧Below w.heap.size w w'):=by
 refine cE (args:=[]) Tryz.func10 rfl Tryz.ntmps10 rfl ?_
 have hS:=St.start w
 refine aN (aP (aC rfl rfl (aO (XF.thenN (aN (aP (cR (vs:=[]) hS L6 rfl (wF _) rfl ?_)))))))
 rintro e W1 ⟨b1,b2,rfl,hex,hb⟩
 refine ⟨_,rfl,hb,fun hS'=>?_⟩
 clear hS;have hS:=hS';clear hS'
 refine cZ (us:=[(0,.int .i64 _)]) hS Tryz.underlying26 Tryz.sizeOf3 Tryz.zeroValue3 rfl rfl rfl (mG _) rfl fun B2 W2 hS=>?_
 have hx0:=hex _ (hS.since 0 rfl)
 refine cR (vs:=[_,_,_,_]) hS xB rfl (vQ 1 1 (exA b1 b2) S9 pyC 2 false 0 _ hx0 (S6 hx0) (by decide) _ 1 1 [0] (Sz (hS.at_ 0 rfl)) rfl (by decide) (L5 _ (.inl rfl)) (ht.below hS.below)) rfl ?_
 rintro e W3 ⟨f1,z1,rfl,hn1,hl1,hb⟩
 refine ⟨_,rfl,hb,fun hS'=>?_⟩
 clear hS;have hS:=hS';clear hS'
 have hz1:z1 = .one (pC 3):=ex_lub hl1
 subst hz1
 have hc1:f1.c=3:=(kY hn1.is.pf).2.1
 have hz1:f1.z=false:=(kY hn1.is.pf).1
 refine aI rfl rfl (bK rfl rfl rfl (bK rfl rfl rfl (bG (cs:=[_,_,_,_,_,_]) hS Tryz.zeroValue44 rfl rfl fun B4 W4 hS=>aU (i:=0) (vs:=[_,_,_,_,_,_]) (cs':=[_,_,_,_,_,_]) (O':=[_,_]) hS Tryz.sizeOf44 rfl rfl rfl rfl rfl rfl rfl fun W5 hS=>aC rfl rfl (aO (XF.thenN (aN (aP (cR (vs:=[]) hS L6 rfl (wF _) rfl ?_))))))))
 rintro e W6 ⟨b3,b4,rfl,hex2,hb⟩
 refine ⟨_,rfl,hb,fun hS'=>?_⟩
 clear hS;have hS:=hS';clear hS'
 refine cZ (us:=[(0,.int .i64 _)]) hS Tryz.underlying26 Tryz.sizeOf3 Tryz.zeroValue3 rfl rfl rfl (mG _) rfl fun B7 W7 hS=>?_
 have hx1:=hex2 _ (hS.since 0 rfl)
 refine cR (vs:=[_,_,_,_]) hS xB rfl (vQ 1 1 (exA b3 b4) S9 pyC 2 false 1 _ hx1 (S6 hx1) (by decide) _ 1 1 [0] (Sz (hS.at_ 0 rfl)) rfl (by decide) (L5 _ (.inr rfl)) (ht.below hS.below)) rfl ?_
 rintro e W8 ⟨f2,z2,rfl,hn2,hl2,hb⟩
 refine ⟨_,rfl,hb,fun hS'=>?_⟩
 clear hS;have hS:=hS';clear hS'
 have hz2:z2=bJ S9:=ex_none hl2
 subst hz2
 have hz2:f2.z=true:=(kY hn2.is.pf).1
 refine aI rfl rfl (bK rfl rfl rfl (bK rfl rfl rfl (bG (cs:=[_,_,_,_,_,_]) hS Tryz.zeroValue44 rfl rfl fun B9 W9 hS=>aU (i:=0) (vs:=[_,_,_,_,_,_]) (cs':=[_,_,_,_,_,_]) (O':=[_,_,_,_]) hS Tryz.sizeOf44 rfl rfl rfl rfl rfl rfl rfl fun W10 hS=>aC rfl rfl (aO (XF.thenN (aN (aP (aI rfl rfl (cN rfl rfl rfl (aI rfl rfl (bQ (d:=19) rfl (fun hc=>?_) (fun hc=>absurd (of_decide_eq_false hc) (by simp)))))))))))))
 have hc:=of_decide_eq_true hc
 refine aF (d:=19) rfl rfl (aI rfl rfl (aF (d:=19) rfl rfl (cN rfl rfl rfl (bD rfl rfl rfl (aI rfl rfl (bQ (d:=23) rfl (fun hc=>?_) (fun hc=>absurd (of_decide_eq_false hc) (by simp))))))))
 have hc:=of_decide_eq_true hc
 refine aF (d:=23) rfl rfl (aM (o':=1) eF rfl rfl rfl (aF (d:=23) rfl rfl (aR Tryz.isAgg3 rfl (aK (hS.at_ 2 rfl) rfl) rfl (aF (d:=23) rfl rfl (cN rfl rfl rfl (bD rfl rfl rfl (aI rfl rfl (bQ (d:=28) rfl (fun hc=>?_) (fun hc=>absurd (of_decide_eq_false hc) (by exact fun h=>h hc1))))))))))
 have hc:=of_decide_eq_true hc
 refine aF (d:=28) rfl rfl (aM (o':=0) dI rfl rfl rfl (aF (d:=28) rfl rfl (aR Tryz.isAgg4 rfl (aK (hS.at_ 2 rfl) rfl) rfl (aF (d:=28) rfl rfl (eX rfl rfl (bD rfl rfl rfl (aI rfl rfl ?_)))))))
 refine bQ (d:=33) rfl (fun hc=>?_) (fun hc=>absurd hc (by rw [hz1];decide))
 skip
 refine aF (d:=33) rfl rfl (aM (o':=0) dI rfl rfl rfl (aF (d:=33) rfl rfl (aR Tryz.isAgg4 rfl (aK (hS.at_ 0 rfl) rfl) rfl (bD rfl rfl rfl (aC rfl rfl (aO (XF.thenN (bT (XF.res (cH Tryz.results10 rfl) ?_)))))))))
 exact ⟨bF hz2,hS.below⟩
theorem zZ (ds d:Nat) (a:AV) (S:PS) (py:TV→PX) (n:Nat) (bk:Bool) (fr:Int) (w:World) (hin:AIn w ds d a) (wa:Option Addr) (wl wc:Nat) (ws:List Int) (hwa:Row w wa ws) (hwl:ws.length=wl) (hwm:wl≤9223372036854775807) (hA:iB a [fr] ws=0→AutoOk w S py n a) (ht:Tabs w) :
  Calls Tryz.prog 16 #[a.val,.bool bk,.int .i64 fr,.slice wa wl wc] w (fun e w'=>∃ f:WF,e = .returned (.tuple #[f.val,.int .i64 (iB a [fr] ws)])∧(iB a [fr] ws=0→∃ p z,fr=((p:Nat):Int)∧p < n∧gG w.heap.size w' S f z∧LubX S (An S bk (egsX kSym py a.ts) (a.fs.map Int.toNat) p ws) z)∧Below w.heap.size w w'):=by
 by_cases h0:iB a [fr] ws=0
 ·have hA9:=hA h0
  have h1:=(lJ h0).2.1 fr (by simp)
  rw [hA9.st] at h1
  obtain ⟨p,rfl,hp⟩:=lI h1
  refine (vQ ds d a S py n bk p w hin hA9 hp wa wl wc ws hwa hwl hwm h0 ht).mono ?_
  rintro e w' ⟨f,z,rfl,hn,hl,hb⟩
  exact ⟨f,by rw [h0],fun _=>⟨p,z,rfl,hp,hn,hl⟩,hb⟩
 ·refine (Jm ds d a bk fr w hin wa wl wc ws hwa hwl hwm h0).mono ?_
  rintro e w' ⟨rfl,hb⟩
  exact ⟨⟨false,0,0,none,0,0,[],none,0,0,[],none,0,0⟩,rfl,fun h=>absurd h h0,hb⟩
abbrev AV.add (a:AV) (t:TV) (ta:Option Addr) (tc:Nat):AV:=⟨a.s,a.st,a.sy,a.fa,a.fl,a.fc,a.fs,ta,a.tl+1,tc,a.ts++[t]⟩
theorem AutoOk.sub {w:World} {S:PS} {py:TV→PX} {n ds d:Nat} {a:AV} {t:TV} {ta:Option Addr} {tc:Nat} (h:AutoOk w S py n (a.add t ta tc)) (hin:AIn w ds d a):AutoOk w S py n a :=
 ⟨h.ok,h.si,h.st,h.n4,hin.frow,hin.flen,hin.fmax,hin.trow,hin.tlen,by have h9:a.tl+1≤65536:=h.tl;omega,h.fq,fun t ht=>h.tf t (List.mem_append_left _ ht),fun t ht=>h.tt t (List.mem_append_left _ ht),fun t ht=>h.tg t (List.mem_append_left _ ht),h.sy,fun t ht=>h.px t (List.mem_append_left _ ht)⟩
theorem more_ex {w:World} {ds d:Nat} {a:AV} {t:TV} {ta:Option Addr} {tc:Nat} {fr:Int} {ws:List Int} (hin:AIn w ds d a) (hb:AIn w ds d (a.add t ta tc)):∃ S py n,(iB a [fr] ws=0→AutoOk w S py n a)∧(iB (a.add t ta tc) [fr] ws=0→AutoOk w S py n (a.add t ta tc)):=by
 by_cases h2:iB (a.add t ta tc) [fr] ws=0
 ·obtain ⟨S,py,n,h⟩:=Cn hb (lJ h2).1
  exact ⟨S,py,n,fun _=>h.sub hin,fun _=>h⟩
 ·by_cases h1:iB a [fr] ws=0
  ·obtain ⟨S,py,n,h⟩:=Cn hin (lJ h1).1
   exact ⟨S,py,n,fun _=>h,fun h=>absurd h h2⟩
  ·exact ⟨.one 1 0,fun _=>.one dB,0,fun h=>absurd h h1,fun h=>absurd h h2⟩
theorem vS (ts:List TV):(ts.flatMap TV.nine).length=ts.length * 9:=by
 induction ts with
 | nil=>rfl
 | cons f r ih=>rw [List.flatMap_cons,List.length_append,ih];simp only [List.length_cons,List.length_nil];omega
theorem Hl {ts:List TV} {i:Nat} {t:TV} (h:ts[i]?=some t) {j:Nat} (hj:j < 9):(ts.flatMap TV.nine)[i * 9+j]?=t.nine[j]?:=by
 induction ts generalizing i with
 | nil=>simp at h
 | cons f r ih =>
  rw [List.flatMap_cons]
  cases i with
  | zero =>
   simp at h;subst h
   rw [Nat.zero_mul,Nat.zero_add,List.getElem?_append_left (by simp only [List.length_cons,List.length_nil];omega)]
  | succ i =>
   rw [List.getElem?_append_right (by simp only [List.length_cons,List.length_nil];omega)]
   have e:(i+1) * 9+j - f.nine.length=i * 9+j:=by simp only [List.length_cons,List.length_nil];omega
   rw [e]
   exact ih (by simpa using h)
theorem Cp {ts:List TV} {u:Value} (hu:u∈ts.flatMap TV.nine):u.oneCell'=true:=by
 obtain ⟨t,_,h⟩:=List.mem_flatMap.1 hu
 simp only [List.mem_cons,List.not_mem_nil,or_false] at h
 rcases h with rfl | rfl | rfl | rfl | rfl | rfl | rfl | rfl | rfl<;>rfl
theorem Ox {W:World} {lo n c:Nat} {a:Option Addr} {ts:List TV} {T:TypeId} (h:W.ownsRow lo T 9 (.slice a n c) n (ts.flatMap TV.nine)):qL W a ts:=by
 rcases rS h with ⟨_,h2⟩ | ⟨b,rfl,_,hc⟩
 ·have h3:=h.1
  rw [vS,h2] at h3
  exact .inl (List.eq_nil_of_length_eq_zero (by omega))
 ·refine .inr ⟨b,0,rfl,fun i r hi=>aB.of fun j v hj=>?_⟩
  have hj9:j < 9:=(List.getElem?_eq_some_iff.1 hj).1
  have h9:=hc (i * 9+j) v (by rw [Hl hi hj9];exact hj)
  simpa [Nat.add_assoc] using h9
theorem S7 {w:World} {a:Option Addr} {ts:List TV} {n:Nat} (h:qL w a ts) (hl:ts.length=n):(a=none∧n=0)∨∃ p,a=some p∧∀ (j:Nat) u,(ts.flatMap TV.nine)[j]?=some u→w.cell? (p.add j)=some u:=by
 rcases h with rfl | ⟨b,off,rfl,hc⟩
 ·cases a with
  | none=>exact .inl ⟨rfl,hl.symm⟩
  | some p=>exact .inr ⟨p,rfl,fun j u hj=>by simp at hj⟩
 ·refine .inr ⟨_,rfl,fun j u hj=>?_⟩
  have hlt:=(List.getElem?_eq_some_iff.1 hj).1
  rw [vS] at hlt
  have hi:j / 9 < ts.length:=by omega
  have ht:=List.getElem?_eq_getElem hi
  have h9:=Hl ht (j:=j % 9) (Nat.mod_lt _ (by decide))
  rw [show j / 9 * 9+j % 9=j by omega,hj] at h9
  have h8:=aB.get (hc _ _ ht) (j % 9) u h9.symm
  rw [Addr.add_lit]
  rw [show off+j / 9 * 9+j % 9=off+j by omega] at h8
  exact h8
theorem bs_27_1 (v00:Value) (v01:Value) (v02:Value) (v03:Value) (v04:Value) (v05:Value) (v06:Value) (v07:Value) (v08:Value):Instr.fill (fun i=>some (i * 9,9)) ((Array.range (1 * 9)).map ((Value.cells (.agg #[.int .i64 0,.int .i64 0,.int .i64 0,.bool false,.int .i64 0,.int .u64 0,.slice none 0 0,.slice none 0 0,.slice none 0 0]))[· % (Value.cells (.agg #[.int .i64 0,.int .i64 0,.int .i64 0,.bool false,.int .i64 0,.int .u64 0,.slice none 0 0,.slice none 0 0,.slice none 0 0])).size]!)) [(0,.agg #[v00,v01,v02,v03,v04,v05,v06,v07,v08])]=some (List.toArray [v00,v01,v02,v03,v04,v05,v06,v07,v08]):=by kernel_rfl
theorem goes_10:bI Tryz.prog 10=true:=by kernel_rfl
theorem goes_11:bI Tryz.prog 11=true:=by kernel_rfl
theorem S8:Tryz.prog.info? 66=some Tryz.t66:=by kernel_rfl
theorem AIn.more {w:World} {n m:Nat} {a:AV} (h:AIn w n n a) (hm:n≤m):AIn w m m a:=⟨h.s.more hm,h.frow,h.flen,h.trow,h.tlen,fun t ht=>(h.tin t ht).more hm,h.fmax,h.tmax⟩
theorem Ao (ds d:Nat) (a:AV) (t:TV) (bk:Bool) (fr:Int) (w:World) (hin:AIn w ds d a) (hit:WIn w d t.x) (wa:Option Addr) (wl wc:Nat) (ws:List Int) (hwa:Row w wa ws) (hwl:ws.length=wl) (hwm:wl≤9223372036854775807) (ht:Tabs w) :
  Calls Tryz.prog 7 #[a.val,.agg #[.int .i64 t.f,.int .i64 t.g,.int .i64 t.t,.bool t.x.f.z,.int .i64 t.x.f.c,.int .u64 (t.x.f.g:Int),.slice t.x.f.ra t.x.f.rl t.x.f.rc,.slice t.x.f.ca t.x.f.cl t.x.f.cc,.slice t.x.f.pa t.x.f.pl t.x.f.pc],.bool bk,.int .i64 fr,.slice wa wl wc] w (fun e w'=>e = .returned (.bool (true))∧Below w.heap.size w w'):=by
 refine cE (args:=[a.val,.agg #[.int .i64 t.f,.int .i64 t.g,.int .i64 t.t,.bool t.x.f.z,.int .i64 t.x.f.c,.int .u64 (t.x.f.g:Int),.slice t.x.f.ra t.x.f.rl t.x.f.rc,.slice t.x.f.ca t.x.f.cl t.x.f.cc,.slice t.x.f.pa t.x.f.pl t.x.f.pc],.bool bk,.int .i64 fr,.slice wa wl wc]) Tryz.func7 rfl Tryz.ntmps7 rfl ?_
 have hS:=St.start w
 refine aN (aP (bW (cs:=[_,_,_,_,_,_,_]) hS rfl rfl rfl fun B1 W1 hS=>bW (cs:=[_,_,_,_,_,_,_,_,_]) hS rfl rfl rfl fun B2 W2 hS=>aC rfl rfl (aO (XF.thenN (aN (aN (aP (cB (vs:=[]) hS goes_10 rfl (Ow _ (ht.below hS.below)) rfl fun W3 hS=>eX rfl rfl (aO (XF.thenN (Ez rfl (bM (XF.thenN (aN (aN (aP (aS (vs:=[_,_,_,_,_,_,_]) Tryz.isAgg29 Tryz.sizeOf29 rfl (aB.own (j:=0) (m:=7) (hS.at_ 1 rfl) rfl) rfl (aI rfl rfl (cR (vs:=[_,_]) hS goes_11 rfl (Ov a wa wl wc _) rfl ?_)))))))))))))))))))
 rintro e W4 ⟨b9,rfl,hsm,hb⟩
 refine ⟨_,rfl,hb,fun hS'=>?_⟩
 clear hS;have hS:=hS';clear hS' hb
 refine eX rfl rfl (aO (XF.thenN (bA rfl (fun hc=>?_) (fun hc=>?_))))
 ·have hc23:=hc;clear hc
  refine aN (aP (aC rfl rfl (aO (XF.thenN (bT (XF.thenR (XF.res (cH Tryz.results7 rfl) ?_)))))))
  exact ⟨rfl,hS.below⟩
 ·have hc23:=hc;clear hc
  have hb9:b9=true:=by simpa using hc23
  obtain ⟨hs1,hs2,hs3⟩:=hsm hb9
  refine bM (XF.thenN (aN (aP (aS (vs:=[_,_,_,_,_,_,_]) Tryz.isAgg29 Tryz.sizeOf29 rfl (aB.own (j:=0) (m:=7) (hS.at_ 1 rfl) rfl) rfl (bG (cs:=[_,_,_,_,_,_,_]) hS Tryz.zeroValue29 rfl rfl fun B5 W5 hS=>aU (i:=0) (vs:=[_,_,_,_,_,_,_]) (cs':=[_,_,_,_,_,_,_]) (O':=[_,_,_]) hS Tryz.sizeOf29 rfl rfl rfl rfl rfl rfl rfl fun W6 hS=>aO (XF.thenN (aN (regY (al:=[]) (G:=GCh ([]) 66 9 [(3,0+a.tl,[]++a.ts.flatMap TV.nine),(0,0,[])]) (E:=[0,3]) (k:=6) (ds:=[31,32]) cD rfl hS rfl rfl (by kernel_rfl) (by kernel_rfl) rfl (by decide) rfl ?_))))))))
  refine nO 1 rfl (anyA) (N8 rfl rfl Tryz.underlying27 Tryz.sizeOf66 rfl rfl (fun s v hk=>by rw [zE ((vM _ _ (by decide)).trans (hk.no 3 (by kernel_rfl))),zD (zA _ _ _),zE (hk.no 3 (by kernel_rfl)),zE hk.self];rfl) (aE rfl)) ?_
  refine nO 2 rfl (isV _) (syV qH [(5,_)] rfl rfl (fun _=>(aT rfl)) (fun _=>⟨dK (by kernel_rfl) rfl,trivial⟩) (fun s w hw=>aV (o':=6) gR rfl rfl) (aE rfl)) (nO 3 rfl (isV _) (syV qH [(26,_)] rfl rfl (fun _=>(aT rfl)) (fun _=>⟨aQ 1 (by kernel_rfl) (at_n rfl rfl (aA rfl rfl rfl)),trivial⟩) (fun s w hw=>bB Tryz.isAgg27 rfl ((aK (hw.at_ 2 rfl) rfl))) (aE rfl)) ?_)
  refine nO 4 rfl (anyA) (sy_app (tx:=25) (j0:=0) (gi:=0) (news:=a.ts.flatMap TV.nine) qH [(27,_)] rfl rfl Tryz.underlying27 S8 rfl rfl (by show 0 < 9;decide) rfl rfl (by kernel_rfl) (fun _=>⟨aQ 2 (by kernel_rfl) (at_n rfl rfl (aA rfl rfl rfl)),trivial⟩) rfl rfl rfl (fun s v0 hk h0=>⟨by rw [zE hk.self,zD h0];rfl,fun v=>by rw [zD (zA _ _ _),zE hk.self,zD h0];rfl⟩) (fun s w hw=>S7 (hin.trow.below hw.below) hin.tlen) (by show (a.ts.flatMap TV.nine).length=a.tl * 9;rw [vS,hin.tlen]) (fun u hu=>Cp hu) (by simp only [maxLen];omega) (by show _ * 120≤_;omega) (aE rfl)) ?_
  refine nO 5 rfl (isV _) (syV qH [(6,_)] rfl rfl (fun _=>(aT rfl)) (fun _=>⟨dK (by kernel_rfl) rfl,trivial⟩) (fun s w hw=>aW (vs:=[_,_,_,_,_,_,_,_,_]) Tryz.isAgg66 Tryz.sizeOf66 rfl ((aB.own (j:=0) (m:=9) (hw.at_ 1 rfl) rfl))) (aE rfl)) (nO 6 rfl (oQ W6.heap.size 1 66 _) (sy_rowV qH (us:=[.agg (List.toArray [_,_,_,_,_,_,_,_,_])]) rfl rfl (fun _=>(aT rfl)) Tryz.underlying27 Tryz.sizeOf66 Tryz.zeroValue66 rfl rfl (fun _=>⟨bZ (aQ 4 (by kernel_rfl) (at_n rfl rfl (aA rfl rfl rfl))),trivial⟩) (bs_27_1 _ _ _ _ _ _ _ _ _) (aE rfl)) (bly_nil ?_))
  intro s7 W7 Ks7 hall7 hsz7 hKs7 hS' hcov7 hfx7 hno7
  obtain ⟨v7_0,h7_0⟩:=hall7 0 rfl
  obtain ⟨v7_3,h7_3⟩:=hall7 3 rfl
  clear hS;have hS:=hS'.castO (O':=[_,_,_]) rfl;clear hS'
  have hS:=hS.castG (zD h7_3)
  refine wA (L':=[isE s7 0,AwS _ _ (isV _),AwS _ _ (isV _),isE s7 3,AwS _ _ (isV _),AwS _ _ (oQ W6.heap.size 1 66 _)]) rfl ?_
  refine dF ?_;intro u hu;obtain rfl:=Option.some.inj (h7_0.symm.trans hu);clear hu
  refine bR (bR ?_)
  refine dF ?_;intro u hu;obtain rfl:=Option.some.inj (h7_3.symm.trans hu);clear hu
  refine bR ?_
  refine dF ?_;rintro _ hA6
  obtain ⟨BR6,rfl,hlo6,hrow6⟩:=hA6.here
  refine cQ ?_
  refine yW (i:=0) (news:=t.nine) hS Tryz.underlying27 S8 rfl rfl (by show 0 < 9;decide) rfl rfl rfl rfl rfl (.inr ⟨_,rfl,fun j u hj=>by rw [Addr.add_lit,Nat.zero_add];simp only [World.cell?,hrow6];simpa using hj⟩) (rfl) (fun u hu=>Cp (ts:=[t]) (by simpa using hu)) (by dsimp only;simp only [maxLen];omega) (by dsimp only;show _ * 120≤_;omega) rfl fun v8 W8 hS=>?_
  obtain ⟨a9,c9,e9⟩:=own_sl9 (hS.row 0 rfl)
  dsimp only at e9
  rw [show 0+a.tl+1=a.tl+1 by omega] at e9
  subst e9
  refine aM (o':=6) gR rfl rfl rfl (eC (i:=0) (cs':=[_,_,_,_,_,_,_]) (O':=[_,_,_]) hS Tryz.sizeOf27 rfl rfl (by first | rfl | exact (hS.oneV 0 _ rfl :) | exact (hS.oneV 1 _ rfl :) | exact (hS.oneV 2 _ rfl :) | exact (hS.oneV 3 _ rfl :)) rfl rfl rfl rfl fun W9 hS=>aO (XF.thenN (aN ?_)))
  have hRoot:=hS.below
  have hR7:=hRoot
  have ka:aB W9 B1 0 a.seven:=aB.own (j:=0) (m:=7) (hS.at_ 2 rfl) rfl
  have kb:aB W9 B5 0 (a.add t a9 c9).seven:=aB.own (j:=0) (m:=7) (hS.at_ 0 rfl) rfl
  have hin7:=hin.below hRoot
  have hrow9:=hS.row 0 rfl
  dsimp only at hrow9
  rw [show 0+a.tl+1=a.tl+1 by omega,List.nil_append,show a.ts.flatMap TV.nine++t.nine=(a.ts++[t]).flatMap TV.nine by simp] at hrow9
  have hinb:AIn W9 ds d (a.add t a9 c9):=⟨hin7.s,hin7.frow,hin7.flen,Ox hrow9,by show (a.ts++[t]).length=a.tl+1;rw [List.length_append,hin7.tlen];rfl,fun t9 h9=>by rcases List.mem_append.1 h9 with h | h;exact hin7.tin t9 h;simp at h;subst h;exact hit.below hRoot,hin7.fmax,by dsimp only;omega⟩
  obtain ⟨S,py,n,hAa,hAb⟩:=more_ex (fr:=fr) (ws:=ws) hin7 hinb
  have hwa7:=hwa.below hRoot
  have ht7:=ht.below hRoot
  clear hrow9
  clear hS;have hS:=St.start W9
  refine aP (aS (vs:=[_,_,_,_,_,_,_]) Tryz.isAgg29 Tryz.sizeOf29 rfl ((aB.agree hS.agree (Nat.zero_le _) ka)) rfl (aI rfl rfl (aI rfl rfl (aI rfl rfl (cR (vs:=[_,_,_,_]) hS xB rfl (zZ ds d a S py n bk fr _ (hin7.below hS.below) wa wl wc ws (hwa7.below hS.below) hwl hwm (fun h=>(hAa h).below hS.below) (ht7.below hS.below)) rfl ?_)))))
  rintro e W10 ⟨f1,rfl,hv1,hb⟩
  refine ⟨_,rfl,hb,fun hS'=>?_⟩
  clear hS;have hS:=hS';clear hS'
  refine aI rfl rfl (bK rfl rfl rfl (bK rfl rfl rfl (bG (cs:=[_,_,_,_,_,_]) hS Tryz.zeroValue44 rfl rfl fun B11 W11 hS=>aU (i:=0) (vs:=[_,_,_,_,_,_]) (cs':=[_,_,_,_,_,_]) (O':=[_]) hS Tryz.sizeOf44 rfl rfl rfl rfl rfl rfl rfl fun W12 hS=>aC rfl rfl (aO (XF.thenN (aN (aP (aS (vs:=[_,_,_,_,_,_,_]) Tryz.isAgg29 Tryz.sizeOf29 rfl ((aB.agree hS.agree (Nat.zero_le _) kb)) rfl (aI rfl rfl (aI rfl rfl (aI rfl rfl (cR (vs:=[_,_,_,_]) hS xB rfl (zZ ds d (a.add t a9 c9) S py n bk fr _ (hinb.below hS.below) wa wl wc ws (hwa7.below hS.below) hwl hwm (fun h=>(hAb h).below hS.below) (ht7.below hS.below)) rfl ?_))))))))))))
  rintro e W13 ⟨f2,rfl,hv2,hb⟩
  refine ⟨_,rfl,hb,fun hS'=>?_⟩
  clear hS;have hS:=hS';clear hS'
  refine aI rfl rfl (bK rfl rfl rfl (bK rfl rfl rfl (bG (cs:=[_,_,_,_,_,_]) hS Tryz.zeroValue44 rfl rfl fun B14 W14 hS=>aU (i:=0) (vs:=[_,_,_,_,_,_]) (cs':=[_,_,_,_,_,_]) (O':=[_,_]) hS Tryz.sizeOf44 rfl rfl rfl rfl rfl rfl rfl fun W15 hS=>aC rfl rfl (aO (XF.thenN (aN (aN (aP (aI rfl rfl (dG rfl rfl rfl (aI rfl rfl (bQ (d:=51) rfl (fun hc=>?_) (fun hc=>?_)))))))))))))
  ·have hg51:=of_decide_eq_true hc;clear hc
   refine aG (d:=51) rfl rfl rfl rfl (aG (d:=51) rfl rfl rfl rfl (bD rfl rfl rfl (aO (XF.thenN (fI rfl (aN (aP (aI rfl rfl (dG rfl rfl rfl (aI rfl rfl (bQ (d:=57) rfl (fun hc=>?_) (fun hc=>absurd (of_decide_eq_false hc) (by exact fun h=>h hg51)))))))))))))
   have hc:=of_decide_eq_true hc
   refine aG (d:=57) rfl rfl rfl rfl (aG (d:=57) rfl rfl rfl rfl (aG (d:=57) rfl rfl rfl rfl (bD rfl rfl rfl (aC rfl rfl (aO (XF.thenN (bT (XF.thenR (XF.res (cH Tryz.results7 rfl) ?_)))))))))
   exact ⟨rfl,hR7.trans (hS.below.mono hR7.size)⟩
  ·have hg51:=of_decide_eq_false hc;clear hc
   refine aF (d:=51) rfl rfl (aI rfl rfl (aF (d:=51) rfl rfl (dG rfl rfl rfl (bU rfl rfl rfl (aO (XF.thenN (bA rfl (fun hc=>?_) (fun hc=>?_))))))))
   ·have hc54:=of_decide_eq_true hc;clear hc
    refine aN (aP (aI rfl rfl (dG rfl rfl rfl (aI rfl rfl (bQ (d:=57) rfl (fun hc=>absurd (of_decide_eq_true hc) (by exact hg51)) (fun hc=>?_))))))
    have hc:=of_decide_eq_false hc
    refine aF (d:=57) rfl rfl (aS (vs:=[_,_,_,_,_,_,_]) Tryz.isAgg29 Tryz.sizeOf29 rfl ((aB.agree hS.agree (Nat.zero_le _) kb)) rfl (aF (d:=57) rfl rfl (cB (vs:=[_]) hS goes_9 rfl (R8 ds d (a.add t a9 c9) _ (hinb.below hS.below)) rfl fun W16 hS=>aF (d:=57) rfl rfl (dG rfl rfl rfl (bU rfl rfl rfl (aC rfl rfl (aO (XF.thenN (bT (XF.thenR (XF.res (cH Tryz.results7 rfl) ?_)))))))))))
    have hE1:iB a [fr] ws=0:=Decidable.of_not_not hg51
    exact ⟨bF (decide_eq_true fun h=>hc54 (Eu h (lJ hE1).2.1 (lJ hE1).2.2)),hR7.trans (hS.below.mono hR7.size)⟩
   ·have hc54:=of_decide_eq_false hc;clear hc
    refine bM (XF.thenN (aN ?_))
    have hE1:iB a [fr] ws=0:=Decidable.of_not_not hg51
    have hE2:iB (a.add t a9 c9) [fr] ws=0:=Decidable.of_not_not hc54
    obtain ⟨p,z1,hfp,hp,hn1,hl1⟩:=hv1 hE1
    obtain ⟨p2,z2,hfp2,hp2,hn2,hl2⟩:=hv2 hE2
    obtain rfl:p2=p:=by omega
    have hA2:=hAb hE2
    have hx1:=(hn1.agree (hS.since 1 rfl)).is
    have hx2:=(hn2.agree (hS.since 0 rfl)).is
    have hle:=LubX.le hA2.ok (Eq hA2.ok (Et hA2.py)) (S2 (fun e he=>by obtain ⟨t9,h9,rfl⟩:=List.mem_map.1 he;exact List.mem_map_of_mem (List.mem_append_left _ h9))) hl1 hl2
    have hle:bY S z1 z2=z2:=by rw [sH hA2.ok hx1.ok hx2.ok];exact hle
    refine aP (aM rH rfl (Nat.add_zero _) rfl (aS (vs:=[_,_,_]) Tryz.isAgg25 Tryz.sizeOf25 rfl ((aB.agree hS.agree (Nat.zero_le _) (⟨ka.1,ka.2.1,ka.2.2.1,trivial⟩:aB _ _ 0 [_,_,_]))) rfl (aS (vs:=[_,_,_,_,_,_]) Tryz.isAgg44 Tryz.sizeOf44 rfl (aB.own (j:=0) (m:=6) (hS.at_ 1 rfl) rfl) rfl (aS (vs:=[_,_,_,_,_,_]) Tryz.isAgg44 Tryz.sizeOf44 rfl (aB.own (j:=0) (m:=6) (hS.at_ 0 rfl) rfl) rfl (cB (vs:=[_,_,_]) hS goes_24 rfl (N7 S a.s.f f1 f2 z1 z2 _ (hA2.si.below hS.below) hA2.ok hx1 hx2 true ⟨fun _=>hle,fun _=>rfl⟩) rfl fun W17 hS=>aI rfl rfl (bK rfl rfl rfl (bK rfl rfl rfl (aC rfl rfl (aC rfl rfl (aO (XF.thenN (aN (aP (aI rfl rfl (cN rfl rfl rfl (aI rfl rfl (bQ (d:=72) rfl (fun hc=>?_) (fun hc=>absurd (of_decide_eq_false hc) (by simp)))))))))))))))))))
    have hc:=of_decide_eq_true hc
    refine aF (d:=72) rfl rfl (aI rfl rfl (bD rfl rfl rfl (aC rfl rfl (aO (XF.thenN (bT (XF.res (cH Tryz.results7 rfl) ?_)))))))
    exact ⟨rfl,hR7.trans (hS.below.mono hR7.size)⟩
theorem Ev (n0 n1:Nat) (a:AV) (t:TV) (bk:Bool) (fr:Int) (wa:Option Addr) (wl wc:Nat) (ws:List Int) (w:World) (hin:AIn w n0 n0 a) (hit:WIn w n1 t.x) (_hfr:(Lit.int .i64 fr).wf=true) (hws:Row w wa ws∧ws.length=wl∧wl≤wc∧wl≤9223372036854775807) (ht:Tabs w):Calls Tryz.prog 7 #[a.val,.agg t.nine.toArray,.bool bk,.int .i64 fr,.slice wa wl wc] w (fun e w'=>e = .returned (.bool (true))∧Below w.heap.size w w'):=Ao (n0+n1) (n0+n1) a t bk fr w (hin.more (by omega)) (hit.more (by omega)) wa wl wc ws hws.1 hws.2.1 hws.2.2.2 ht
end Go.Proofs.YtmgnkpibpjgncaaGreatDoor
namespace Go.Proofs.YtmgnkpibpjgncaaGreatDoor
open Go.RowKit Go.ChangeShapes Go.WideShapes Go.Deep Go.Joins
theorem Oy {cs:List Value} (h:cs.length=9):∃ a b c d e f g i j,cs=[a,b,c,d,e,f,g,i,j]:=by
 match cs,h with
 | [a,b,c,d,e,f,g,i,j],_=>exact ⟨a,b,c,d,e,f,g,i,j,rfl⟩
theorem Jp {cs:List Value} (h:cs.length=7):∃ a b c d e f g,cs=[a,b,c,d,e,f,g]:=by
 match cs,h with
 | [a,b,c,d,e,f,g],_=>exact ⟨a,b,c,d,e,f,g,rfl⟩
section
variable {H:Type} {enc:TypeId×Value→H} {w:World} {base:Nat} {spare:Nat→Bool} {held:Bool}
theorem Hm {n:Nat} {cs:List Value} {x:DataW H×List MemPlace} (h:DataW.trod enc Tryz.prog w base spare held n 66 cs=some x):∃ r:TV,cs=r.nine∧WIn w n r.x:=by
 obtain ⟨xs,n',hn,_,hl,hlen,hg⟩:=DataW.trod_struct Tryz.underlying66 h
 rw [show Tryz.prog.cellsOf 66=9 by kernel_rfl] at hl
 obtain ⟨a,b,c,e,f,g,i,j,k,rfl⟩:=Oy hl
 have hlen4:xs.length=4:=hlen
 have g0:=hg 0 _ rfl
 have g1:=hg 1 _ rfl
 have g2:=hg 2 _ rfl
 have g4:=hg 3 _ rfl
 rw [show Tryz.prog.cellsOf _=1 by kernel_rfl,List.getElem?_eq_getElem (by omega)] at g0 g1 g2
 rw [show Tryz.prog.cellsOf _=6 by kernel_rfl,List.getElem?_eq_getElem (by omega)] at g4
 obtain ⟨z0,e0,_,w0⟩:=DataW.trod_int (k:=.i64) (by kernel_rfl) g0
 obtain ⟨z1,e1,_,w1⟩:=DataW.trod_int (k:=.i64) (by kernel_rfl) g1
 obtain ⟨z2,e2,_,w2⟩:=DataW.trod_int (k:=.i64) (by kernel_rfl) g2
 simp at e0 e1 e2
 subst e0 e1 e2
 obtain ⟨s,e4,hs⟩:=Of n' g4
 have e4':[e,f,g,i,j,k]=s.f.six:=by simpa using e4
 simp only [List.cons.injEq,and_true] at e4'
 obtain ⟨rfl,rfl,rfl,rfl,rfl,rfl⟩:=e4'
 exact ⟨⟨z0,z1,z2,s⟩,rfl,hs.more (by omega)⟩
theorem auto_in {n:Nat} {cs:List Value} {x:DataW H×List MemPlace} (h:DataW.trod enc Tryz.prog w base spare held n 29 cs=some x):∃ p:AV,cs=p.seven∧AIn w n n p:=by
 obtain ⟨xs,n',hn,_,hl,hlen,hg⟩:=DataW.trod_struct Tryz.underlying29 h
 rw [show Tryz.prog.cellsOf 29=7 by kernel_rfl] at hl
 obtain ⟨a,b,c,d,e,f,g,rfl⟩:=Jp hl
 have hlen5:xs.length=5:=hlen
 have g0:=hg 0 _ rfl
 have g1:=hg 1 _ rfl
 have g2:=hg 2 _ rfl
 have g3:=hg 3 _ rfl
 have g4:=hg 4 _ rfl
 rw [show Tryz.prog.cellsOf _=3 by kernel_rfl,List.getElem?_eq_getElem (by omega)] at g0
 rw [show Tryz.prog.cellsOf _=1 by kernel_rfl,List.getElem?_eq_getElem (by omega)] at g1 g2 g3 g4
 obtain ⟨s,es,hs⟩:=Sa n' g0
 have es':[a,b,c]=[.int .i64 s.f.tag,.int .i64 s.f.dim,.slice s.f.a s.f.len s.f.cap]:=by simpa using es
 simp only [List.cons.injEq,and_true] at es'
 obtain ⟨rfl,rfl,rfl⟩:=es'
 obtain ⟨z1,e1,_,w1⟩:=DataW.trod_int (k:=.i64) (by kernel_rfl) g1
 obtain ⟨z2,e2,_,w2⟩:=DataW.trod_int (k:=.i64) (by kernel_rfl) g2
 simp at e1 e2
 subst e1 e2
 obtain ⟨fa,fl,fc,fs,rfl,hfrow,hfl,hfc,hfm⟩:=Ll (v:=f) g3
 have hfm9:fl≤9223372036854775807:=by simp only [maxLen] at hfm;omega
 rcases DataW.trod_slice Tryz.underlying27 g4 with ⟨hcs,_⟩ | ⟨ad,len,cap,elems,rest,n2,hn2,hcs,_,hb,hle,hcap,hel,hi,_,_⟩
 ·simp at hcs
  subst hcs
  exact ⟨⟨s,z1,z2,fa,fl,fc,fs,none,0,0,[]⟩,rfl,⟨hs.more (by omega),hfrow,hfl,.inl rfl,rfl,(fun r hr=>by cases hr),hfm9,Nat.zero_le _⟩⟩
 ·simp at hcs
  subst hcs
  rw [show Tryz.prog.cellsOf 66=9 by kernel_rfl] at hi
  obtain ⟨rs,hrl,hrs⟩:=rI len (fun i (r:TV)=>(∀ (j:Nat) u,r.nine[j]?=some u→w.cell? (ad.add (i * 9+j))=some u)∧WIn w n2 r.x) (fun i hil=>by
   have hii:=hi i hil
   rw [List.getElem?_eq_getElem (by omega)] at hii
   obtain ⟨cs',hc,ht⟩:=Option.bind_eq_some_iff.1 hii
   obtain ⟨_,hcl,hat⟩:=World.cells?_some hc
   obtain ⟨r,rfl,hr⟩:=Hm ht
   refine ⟨r,fun j u hj=>?_,hr⟩
   have hj9:j < 9:=(List.getElem?_eq_some_iff.1 hj).1
   have h0:=hat j (by omega)
   rw [Go.Deep.add_add] at h0
   rw [h0];exact hj)
  refine ⟨⟨s,z1,z2,fa,fl,fc,fs,some ad,len,cap,rs⟩,rfl,⟨hs.more (by omega),hfrow,hfl,?_,hrl,fun r hr=>?_,hfm9,by simp only [maxLen] at hcap hle;dsimp only;omega⟩⟩
  ·rcases Nat.eq_zero_or_pos len with h0 | h0
   ·exact .inl (List.length_eq_zero_iff.1 (by dsimp only;omega))
   ·obtain ⟨b,off,spot⟩:=ad
    have h1:=(hrs 0 (rs[0]'(by omega)) (List.getElem?_eq_getElem (by omega))).1 0 _ rfl
    have hspot:spot=none:=by simpa [Addr.add] using World.cell?_spot h1
    subst hspot
    refine .inr ⟨b,off,rfl,fun i r hir=>zM _ _ fun j u hj=>?_⟩
    have h3:=(hrs i r hir).1 j u hj
    have e:∀ k,({ block:=b,off:=off }:Addr).add k=⟨b,off+k,none⟩:=fun k=>by simp [Addr.add]
    rw [e,← Nat.add_assoc] at h3
    exact h3
  ·obtain ⟨i,hi',hic⟩:=List.mem_iff_getElem.1 hr
   exact (hrs i r (by rw [← hic];exact List.getElem?_eq_getElem hi')).2.more (by omega)
theorem Oz {r:Reach} {b0:Nat} {v:Value} {d:DataW H} {p:List MemPlace} (hv:Value.okWide Tryz.prog w r b0 29 v) (h:DataW.Trod enc Tryz.prog w base spare held 29 v d p) :
  ∃ (n:Nat) (s:AV),v=s.val∧AIn w n n s:=by
 obtain ⟨cs,rfl,_⟩:=okWide_struct Tryz.underlying29 hv
 obtain ⟨n,h⟩:=h
 obtain ⟨s,e,hs⟩:=auto_in (n:=n) h
 have e':cs.toList=_:=e
 exact ⟨n,s,by show Value.agg cs=Value.agg _;congr 1;exact Array.ext' e',hs⟩
end
section
variable {H:Type} {enc:TypeId×Value→H} {w:World} {base:Nat} {spare:Nat→Bool} {held:Bool}
theorem Jq {r:Reach} {b0:Nat} {v:Value} {d:DataW H} {p:List MemPlace} (hv:Value.okWide Tryz.prog w r b0 66 v) (h:DataW.Trod enc Tryz.prog w base spare held 66 v d p) :
  ∃ (n:Nat) (s:TV),v = .agg s.nine.toArray∧WIn w n s.x:=by
 obtain ⟨cs,rfl,_⟩:=okWide_struct Tryz.underlying66 hv
 obtain ⟨n,h⟩:=h
 obtain ⟨s,e,hs⟩:=Hm (n:=n) h
 exact ⟨n,s,by congr 1;exact Array.ext' e,hs⟩
end
end Go.Proofs.YtmgnkpibpjgncaaGreatDoor
