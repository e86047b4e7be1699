import Derived.Test.YtghmbejblbnjjaaDpB
set_option maxRecDepth 100000
set_option maxHeartbeats 4000000
set_option linter.unusedVariables false
set_option linter.unusedSimpArgs false
set_option linter.unusedSectionVars false
set_option linter.unnecessarySimpa false
namespace Go.Proofs.Ytghmbejblbnjjaa
open Go.Proofs.Try
section
open Go.RowKit
theorem eH (v0:Int):Instr.fill (fun i=>some (i * 1,1)) ((Array.range (1 * 1)).map ((Value.cells (.int .i32 0))[· % (Value.cells (.int .i32 0)).size]!)) [(0,.int .i32 v0)]=some (List.toArray [.int .i32 v0]):=by kernel_rfl
theorem iI (w:World) (b o:Nat):(Instr.fieldAt 87 (.pointer (some ⟨b,o,none⟩)) 4).run prog w = .ok (.pointer (some ⟨b,o+4,none⟩)) w:=by
 simp [Instr.fieldAt,run_underlying underlying87,Instr.sureAddr,go_sem,Addr.add_lit]
theorem dZ:prog.info? 21=some Try.t21:=by kernel_rfl
def PSt (n PB Ab Lb Kb:Nat) (Ot:Own) (G:bN) (K:List (Nat×World)) (w0 W:World) (P:PT):Prop:=∃ (Fb Sb Mb cf cs cm:Nat) (e1 e2 e3:List Value),(i32 P.fs++e1).length=cf * 1∧(i32 P.sz++e2).length=cs * 1∧(i32 P.mr++e3).length=cm * 1∧cf≤maxLen∧cs≤maxLen∧cm≤maxLen∧St w0 ((PB,[.slice (some ⟨Ab,0,none⟩) n n,.slice (some ⟨Lb,0,none⟩) n n,.slice (some ⟨Kb,0,none⟩) n n,.slice (some ⟨Fb,0,none⟩) P.fs.length cf,.slice (some ⟨Sb,0,none⟩) P.fs.length cs,.slice (some ⟨Mb,0,none⟩) P.fs.length cm],87)::(Ab,i32 (P.al),21)::(Lb,i32 (P.pl),21)::(Kb,i32 (P.bk),21)::(Fb,i32 (P.fs)++e1,21)::(Sb,i32 (P.sz)++e2,21)::(Mb,i32 (P.mr)++e3,21)::Ot) G K W
theorem hZ {l:List Nat} {v:Nat} {x:Int} (h:x=(v:Int)):i32 l++[Value.int .i32 x]=i32 (l++[v]):=by subst h;exact nJ.symm
theorem PInv.le {n:Nat} {P:PT} (h:PInv n P):P.fs.length≤n:=by
 have h1:((List.range P.fs.length).map (fun b=>gN P.al (gN P.fs b))).Nodup:=by
  rw [List.nodup_iff_pairwise_ne,List.pairwise_map]
  refine List.Pairwise.imp_of_mem ?_ (List.nodup_iff_pairwise_ne.1 List.nodup_range)
  intro a b ha hb hne e
  have ha:=List.mem_range.1 ha
  have hb:=List.mem_range.1 hb
  obtain ⟨a1,a2,_⟩:=h.rg a ha
  obtain ⟨b1,b2,_⟩:=h.rg b hb
  obtain ⟨a3,a4⟩:=h.ap (gN P.fs a) (by omega)
  obtain ⟨b3,b4⟩:=h.ap (gN P.fs b) (by omega)
  have a5:=(h.bi _ a a3 ha).2 (by rw [a4];omega)
  have b5:=(h.bi _ b b3 hb).2 (by rw [b4];omega)
  exact hne (a5.symm.trans ((congrArg (gN P.bk) e).trans b5))
 have h2:=kW h1 fun x hx=>by
  obtain ⟨b,hb,rfl⟩:=List.mem_map.1 hx
  have hb:=List.mem_range.1 hb
  obtain ⟨a1,a2,_⟩:=h.rg b hb
  exact (h.ap _ (by omega)).1
 rw [List.length_map,List.length_range] at h2
 exact h2
theorem rM {P:PT} {b:Nat} (h:jL P b=false):dK P b=⟨P.al,P.pl,P.bk,P.fs,P.sz,P.mr.set b 0⟩:=by
 unfold dK;rw [if_neg (by rw [h];decide)]
theorem yQ {P:PT} {b:Nat} (h:gN P.mr b=0∨gN P.sz b≤gN P.mr b):jL P b=false:=by
 unfold jL iH
 rcases h with h | h
 ·rw [decide_eq_true h];rfl
 ·rw [decide_eq_true (show gN P.sz b - gN P.mr b=0 by omega),Bool.or_true];rfl
theorem Bw {P:PT} {b:Nat} (h:gN P.mr b≠0) (h2:gN P.mr b < gN P.sz b):jL P b=true:=by
 unfold jL iH
 rw [decide_eq_false h,decide_eq_false (by omega)];rfl
theorem Ae {P:PT} {b:Nat} (h:jL P b=true) (h2:gN P.mr b≤gN P.sz b - gN P.mr b):dK P b=⟨P.al,P.pl,gC P.al P.fs.length (gN P.fs b) P.bk (gN P.mr b),P.fs.set b (gN P.fs b+gN P.mr b)++[gN P.fs b],P.sz.set b (gN P.sz b - gN P.mr b)++[gN P.mr b],P.mr.set b 0++[0]⟩:=by
 unfold dK;rw [if_pos h,show eD P b=_ from if_pos h2,show jB P b=_ from if_pos h2,if_pos (show gN P.mr b≤iH P b from h2)]
theorem Af {P:PT} {b:Nat} (h:jL P b=true) (h2:¬ gN P.mr b≤gN P.sz b - gN P.mr b):dK P b=⟨P.al,P.pl,gC P.al P.fs.length (gN P.fs b+gN P.mr b) P.bk (gN P.sz b - gN P.mr b),P.fs++[gN P.fs b+gN P.mr b],P.sz.set b (gN P.sz b - (gN P.sz b - gN P.mr b))++[gN P.sz b - gN P.mr b],P.mr.set b 0++[0]⟩:=by
 unfold dK;rw [if_pos h,show eD P b=_ from if_neg h2,show jB P b=_ from if_neg h2,if_neg (show ¬ gN P.mr b≤iH P b from h2)];rfl
theorem rN (n:Nat) (P:PT) (PB Ab Lb Kb Fb Sb Mb cf cs cm:Nat) (e1 e2 e3:List Value) (Ot:Own) (G:bN) (K:List (Nat×World)) (w0 w:World) (b:Nat) (hcf:(i32 P.fs++e1).length=cf * 1) (hcs:(i32 P.sz++e2).length=cs * 1) (hcm:(i32 P.mr++e3).length=cm * 1) (mcf:cf≤maxLen) (mcs:cs≤maxLen) (mcm:cm≤maxLen) (hS0:St w0 ((PB,[.slice (some ⟨Ab,0,none⟩) n n,.slice (some ⟨Lb,0,none⟩) n n,.slice (some ⟨Kb,0,none⟩) n n,.slice (some ⟨Fb,0,none⟩) P.fs.length cf,.slice (some ⟨Sb,0,none⟩) P.fs.length cs,.slice (some ⟨Mb,0,none⟩) P.fs.length cm],87)::(Ab,i32 (P.al),21)::(Lb,i32 (P.pl),21)::(Kb,i32 (P.bk),21)::(Fb,i32 (P.fs)++e1,21)::(Sb,i32 (P.sz)++e2,21)::(Mb,i32 (P.mr)++e3,21)::Ot) G K w) (hP:PInv n P) (hn:n≤100000) (hb:b < P.fs.length) :
  Calls prog 62 #[.pointer (some ⟨PB,0,none⟩),.int .i32 (b:Int)] w (fun e w'=>e = .returned (.bool (jL P b))∧PSt n PB Ab Lb Kb Ot G K w0 w' (dK P b)):=by
 refine cP (args:=[.pointer (some ⟨PB,0,none⟩),.int .i32 (b:Int)]) func62 rfl ntmps62 rfl ?_
 have hS:=hS0
 have hla:=hP.la
 have hlp:=hP.lp
 have hlb:=hP.lb
 have hlf:=hP.lf
 have hlm:=hP.lm
 have hrg:=hP.rg b hb
 have hle:=hP.le
 refine aH (aN (aB rfl rfl (aK (XF.thenN (aH (aN (aA rfl rfl (bM rfl rfl (aU (o':=5) gV rfl rfl rfl (aP isAgg59 rfl (aD (hS.at_ 0 rfl) rfl) rfl (aA rfl rfl (aX (j:=b) underlying59 sizeOf21 rfl rfl (rfl) (by omega) rfl rfl (aP isAgg21 rfl (aD (hS.at_ 6 rfl) (fP (by omega))) rfl (aB rfl rfl (aK (XF.thenN (aH (aN (aA rfl rfl (bM rfl rfl (aU (o':=5) gV rfl rfl rfl (aP isAgg59 rfl (aD (hS.at_ 0 rfl) rfl) rfl (aA rfl rfl (aX (j:=b) underlying59 sizeOf21 rfl rfl (rfl) (by omega) rfl rfl ?_))))))))))))))))))))))))
 refine bL (i:=6) (cs':=i32 (P.mr.set b 0)++e3) (O':=(_::_::_::_::_::_::_::Ot)) hS sizeOf21 rfl rfl rfl rfl (Nat.ble_eq_true_of_le (by rw [List.length_append,cB];omega)) (kX (by omega) rfl) rfl fun W21 hS=>?_
 refine aK (XF.thenN (aH (aN (aA rfl rfl (bM rfl rfl (aU (o':=4) iI rfl rfl rfl (aP isAgg59 rfl (aD (hS.at_ 0 rfl) rfl) rfl (aA rfl rfl (aX (j:=b) underlying59 sizeOf21 rfl rfl (rfl) (by omega) rfl rfl (aP isAgg21 rfl (aD (hS.at_ 5 rfl) (fP (by omega))) rfl (aA rfl rfl (mI rfl rfl (IntWalk.i32_in _ (by omega)) rfl (aB rfl rfl (aK (XF.thenN (aH (aH (aN (aA rfl rfl (fD rfl rfl rfl (aA rfl rfl (bZ (d:=36) rfl (fun hc=>?_) (fun hc=>?_)))))))))))))))))))))))
 ·have hg36:=of_decide_eq_true hc;clear hc
  have hc9:jL P b=false:=yQ (.inl (by omega))
  refine aQ (d:=36) rfl rfl rfl rfl (aQ (d:=36) rfl rfl rfl rfl (bI rfl rfl rfl (aK (XF.thenN (fT rfl (aH (aN (aB rfl rfl (aK (XF.thenN (cK (XF.thenR (XF.res (cZ results62 rfl) ?_)))))))))))))
  exact ⟨by rw [hc9],by rw [rM hc9];exact ⟨Fb,Sb,Mb,cf,cs,cm,e1,e2,e3,hcf,hcs,by rw [List.length_append,cB,List.length_set];rw [List.length_append,cB] at hcm;exact hcm,mcf,mcs,mcm,hS.keep K (fun q hq=>by simp [hq])⟩⟩
 ·have hg36:=of_decide_eq_false hc;clear hc
  refine aE (d:=36) rfl rfl (aA rfl rfl (aE (d:=36) rfl rfl (fD rfl rfl rfl (cG rfl rfl rfl (aK (XF.thenN (bS rfl (fun hc=>?_) (fun hc=>?_))))))))
  ·have hc39:=of_decide_eq_true hc;clear hc
   have hc9:jL P b=false:=yQ (.inr (by omega))
   refine aH (aN (aB rfl rfl (aK (XF.thenN (cK (XF.thenR (XF.res (cZ results62 rfl) ?_)))))))
   exact ⟨by rw [hc9],by rw [rM hc9];exact ⟨Fb,Sb,Mb,cf,cs,cm,e1,e2,e3,hcf,hcs,by rw [List.length_append,cB,List.length_set];rw [List.length_append,cB] at hcm;exact hcm,mcf,mcs,mcm,hS.keep K (fun q hq=>by simp [hq])⟩⟩
  ·have hc39:=of_decide_eq_false hc;clear hc
   have hc9:jL P b=true:=Bw (by omega) (by omega)
   refine bV (XF.thenN (aH (aN (aA rfl rfl (bM rfl rfl (aU (o':=3) eC rfl rfl rfl (aP isAgg59 rfl (aD (hS.at_ 0 rfl) rfl) rfl (aA rfl rfl (aX (j:=b) underlying59 sizeOf21 rfl rfl (rfl) (by omega) rfl rfl (aP isAgg21 rfl (aD (hS.at_ 4 rfl) (fP (by omega))) rfl (aA rfl rfl (aB rfl rfl (aB rfl rfl (aK (XF.thenN (aH (aH (aN (aA rfl rfl (aA rfl rfl (sC rfl rfl rfl (aK (XF.thenN (bS rfl (fun hc=>?_) (fun hc=>?_)))))))))))))))))))))))))
   ·have hc50:=of_decide_eq_true hc;clear hc
    have hlo:gN P.mr b≤gN P.sz b - gN P.mr b:=by omega
    rw [Ae hc9 hlo]
    refine aN (aA rfl rfl (bM rfl rfl (aU (o':=3) eC rfl rfl rfl (aP isAgg59 rfl (aD (hS.at_ 0 rfl) rfl) rfl (aA rfl rfl (aX (j:=b) underlying59 sizeOf21 rfl rfl (rfl) (by omega) rfl rfl (aP isAgg21 rfl (aD (hS.at_ 4 rfl) (fP (by omega))) rfl (aA rfl rfl (bY rfl rfl (IntWalk.i32_in _ (by omega)) rfl (aX (j:=b) underlying59 sizeOf21 rfl rfl (rfl) (by omega) rfl rfl ?_))))))))))
    refine bL (i:=4) (cs':=i32 (P.fs.set b (gN P.fs b+gN P.mr b))++e1) (O':=(_::_::_::_::_::_::_::Ot)) hS sizeOf21 rfl rfl rfl rfl (Nat.ble_eq_true_of_le (by rw [List.length_append,cB];omega)) (kX (by omega) (by omega)) rfl fun W81 hS=>?_
    refine aK (XF.thenN (aH (aN (aA rfl rfl (bM rfl rfl (aU (o':=4) iI rfl rfl rfl (aP isAgg59 rfl (aD (hS.at_ 0 rfl) rfl) rfl (aA rfl rfl (aX (j:=b) underlying59 sizeOf21 rfl rfl (rfl) (by omega) rfl rfl (aP isAgg21 rfl (aD (hS.at_ 5 rfl) (fP (by omega))) rfl (aA rfl rfl (mI rfl rfl (IntWalk.i32_in _ (by omega)) rfl (aX (j:=b) underlying59 sizeOf21 rfl rfl (rfl) (by omega) rfl rfl ?_)))))))))))))
    refine bL (i:=5) (cs':=i32 (P.sz.set b (gN P.sz b - gN P.mr b))++e2) (O':=(_::_::_::_::_::_::_::Ot)) hS sizeOf21 rfl rfl rfl rfl (Nat.ble_eq_true_of_le (by rw [List.length_append,cB];omega)) (kX (by omega) (by omega)) rfl fun W10T hS=>?_
    refine aK (XF.thenN (aH (aN (aA rfl rfl (bM rfl rfl (aU (o':=3) eC rfl rfl rfl (aP isAgg59 rfl (aD (hS.at_ 0 rfl) rfl) rfl (bX underlying59 rfl rfl (eE underlying3 underlying21 rfl (by omega) rfl (aB rfl rfl (aK (XF.thenN (aH ?_)))))))))))))
    have hl1:(P.fs.set b (gN P.fs b+gN P.mr b)).length=P.fs.length:=by simp
    have hl2:(P.sz.set b (gN P.sz b - gN P.mr b)).length=P.fs.length:=by simp [hlf]
    have hl3:(P.mr.set b 0).length=P.fs.length:=by simp [hlm]
    have hS':=hS.perm uO;clear hS
    have hS:=hS'.ownRowE (n:=P.fs.length) (c:=cm) (sz:=1) (by rw [cB,hl3,Nat.mul_one]) (by rw [List.length_append,cB,hl3];rw [List.length_append,cB] at hcm;omega) (by rw [List.length_append,cB] at hcm;omega) mcm;clear hS'
    have hS':=hS.ownRowE (n:=P.fs.length) (c:=cs) (sz:=1) (by rw [cB,hl2,Nat.mul_one]) (by rw [List.length_append,cB,hl2];rw [List.length_append,cB] at hcs;omega) (by rw [List.length_append,cB] at hcs;omega) mcs;clear hS
    have hS:=hS'.ownRowE (n:=P.fs.length) (c:=cf) (sz:=1) (by rw [cB,hl1,Nat.mul_one]) (by rw [List.length_append,cB,hl1];rw [List.length_append,cB] at hcf;omega) (by rw [List.length_append,cB] at hcf;omega) mcf;clear hS'
    have hS':=(hS.castO (O':=((PB,[.slice (some ⟨Ab,0,none⟩) n n,.slice (some ⟨Lb,0,none⟩) n n,.slice (some ⟨Kb,0,none⟩) n n,.slice (some ⟨Fb,0,none⟩) P.fs.length cf,.slice (some ⟨Sb,0,none⟩) P.fs.length cs,.slice (some ⟨Mb,0,none⟩) P.fs.length cm]++[],87)::_::_::_::Ot)) (by rw [List.append_nil])).ownRowE (n:=6) (c:=6) (sz:=1) rfl rfl (Nat.le_refl _) (by decide);clear hS
    have hS:=hS';clear hS'
    refine regY (al:=[]) (G:=GA3 G PB 87 21 (.slice (some ⟨Ab,0,none⟩) n n) (.slice (some ⟨Lb,0,none⟩) n n) (.slice (some ⟨Kb,0,none⟩) n n) (.slice (some ⟨Fb,0,none⟩) P.fs.length cf) (.slice (some ⟨Sb,0,none⟩) P.fs.length cs) (.slice (some ⟨Mb,0,none⟩) P.fs.length cm) P.fs.length (i32 (P.fs.set b (gN P.fs b+gN P.mr b))) (i32 (P.sz.set b (gN P.sz b - gN P.mr b))) (i32 (P.mr.set b 0)) (.int .i32 (((gN P.fs b:Nat):Int))) (.int .i32 (((gN P.mr b:Nat):Int))) (.int .i32 0) 9 16 22 25 28) (E:=[9,16,22,25,28]) (k:=29) (ds:=[108,109]) cA rfl hS rfl rfl (by kernel_rfl) (by kernel_rfl) rfl (by decide) rfl (bJ 1 rfl (isV _) (syV bT [(0,_)] rfl rfl (fun _=>(aL rfl)) (fun _=>⟨cD rfl,trivial⟩) (fun s w hw=>aV rfl) (aG rfl)) (bJ 2 rfl (isV _) (syV bT [(0,_)] rfl rfl (fun _=>(aL rfl)) (fun _=>⟨cD rfl,trivial⟩) (fun s w hw=>aV rfl) (aG rfl)) (bJ 3 rfl (isV _) (syV bT [(0,_)] rfl rfl (fun _=>(aL rfl)) (fun _=>⟨cD rfl,trivial⟩) (fun s w hw=>aV rfl) (aG rfl)) (bJ 4 rfl (isV _) (syV bT [(0,_)] rfl rfl (fun _=>(aL rfl)) (fun _=>⟨cD rfl,trivial⟩) (fun s w hw=>aV rfl) (aG rfl)) (bJ 5 rfl (isV _) (syV bT [(84,_)] rfl rfl (fun _=>(aL rfl)) (fun _=>⟨aJ 3 (gA rfl rfl (aC rfl rfl rfl)),trivial⟩) (fun s w hw=>bP rfl) (aG rfl)) (bJ 6 rfl (isV _) (syV bT [(85,_)] rfl rfl (fun _=>(aL rfl)) (fun _=>⟨aJ 4 (gA rfl rfl (aC rfl rfl rfl)),trivial⟩) (fun s w hw=>bA (o':=3) eC rfl rfl) (aG rfl)) (bJ 7 rfl (isV (.slice (some ⟨Fb,0,none⟩) P.fs.length cf)) (Aa bT [(86,.pointer (some ⟨PB,3,none⟩))] rfl rfl (fun _=>(aL rfl)) (fun _=>⟨aJ 5 (gA rfl rfl (aC rfl rfl rfl)),trivial⟩) (fun s w hk hw=>aY isAgg59 rfl (Bn hw (hk.no 25 (by kernel_rfl)))) (aG rfl)) (bJ 8 rfl (isV _) (syV bT [(7,_)] rfl rfl (fun _=>(aL rfl)) (fun _=>⟨cD rfl,trivial⟩) (fun s w hw=>aV rfl) (aG rfl)) (bJ 9 rfl (fQ W10T.heap.size 1 21 _) (lN bT (us:=[.int .i32 _]) rfl rfl (fun _=>(aL rfl)) underlying59 sizeOf21 zeroValue21 rfl rfl (fun _=>⟨eN (aJ 7 (gA rfl rfl (aC rfl rfl rfl))),trivial⟩) (eH _) (aG rfl)) ?_)))))))))
    refine bJ 10 rfl (gZ) (lO (t:=59) (e:=21) (tx:=87) (tyy:=89) (jx:=6) (jy:=8) (gi:=1) (m:=1) (size:=1) (v0:=.slice (some ⟨Fb,0,none⟩) P.fs.length cf) (news:=[.int .i32 (((gN P.fs b:Nat):Int))]) rfl rfl underlying59 dZ rfl rfl (by show 0 < 1;decide) rfl (by kernel_rfl) (aC rfl rfl rfl) (by kernel_rfl) (aC rfl rfl rfl) rfl rfl (fun s hk=>ga3_1 hk.self (by decide) (by decide) (by decide) (by decide) (hk.no 25 (by kernel_rfl))) jT rfl (fun u hu=>by obtain rfl:=List.mem_singleton.1 hu;rfl) (by show _+1≤9223372036854775807;omega) (by show (_+1) * 4≤_;omega) (aG rfl)) ?_
    refine bJ 11 rfl (isV _) (syV bT [(0,_)] rfl rfl (fun _=>(aL rfl)) (fun _=>⟨cD rfl,trivial⟩) (fun s w hw=>aV rfl) (aG rfl)) (bJ 12 rfl (isV _) (syV bT [(91,_)] rfl rfl (fun _=>(aL rfl)) (fun _=>⟨aJ 10 (gA rfl rfl (aC rfl rfl rfl)),trivial⟩) (fun s w hw=>bP rfl) (aG rfl)) (bJ 13 rfl (isV _) (syV bT [(92,_)] rfl rfl (fun _=>(aL rfl)) (fun _=>⟨aJ 11 (gA rfl rfl (aC rfl rfl rfl)),trivial⟩) (fun s w hw=>bA (o':=4) iI rfl rfl) (aG rfl)) (bJ 14 rfl (isV (.slice (some ⟨Sb,0,none⟩) P.fs.length cs)) (Aa bT [(93,.pointer (some ⟨PB,4,none⟩))] rfl rfl (fun _=>(aL rfl)) (fun _=>⟨aJ 12 (gA rfl rfl (aC rfl rfl rfl)),trivial⟩) (fun s w hk hw=>aY isAgg59 rfl (Bo hw (hk.no 28 (by kernel_rfl)))) (aG rfl)) (bJ 15 rfl (isV _) (syV bT [(8,_)] rfl rfl (fun _=>(aL rfl)) (fun _=>⟨cD rfl,trivial⟩) (fun s w hw=>aV rfl) (aG rfl)) (bJ 16 rfl (fQ W10T.heap.size 1 21 _) (lN bT (us:=[.int .i32 _]) rfl rfl (fun _=>(aL rfl)) underlying59 sizeOf21 zeroValue21 rfl rfl (fun _=>⟨eN (aJ 14 (gA rfl rfl (aC rfl rfl rfl))),trivial⟩) (eH _) (aG rfl)) ?_)))))
    refine bJ 17 rfl (gZ) (lO (t:=59) (e:=21) (tx:=94) (tyy:=96) (jx:=13) (jy:=15) (gi:=2) (m:=1) (size:=1) (v0:=.slice (some ⟨Sb,0,none⟩) P.fs.length cs) (news:=[.int .i32 (((gN P.mr b:Nat):Int))]) rfl rfl underlying59 dZ rfl rfl (by show 0 < 1;decide) rfl (by kernel_rfl) (aC rfl rfl rfl) (by kernel_rfl) (aC rfl rfl rfl) rfl rfl (fun s hk=>ga3_2 hk.self (by decide) (by decide) (by decide) (by decide) (hk.no 28 (by kernel_rfl))) jT rfl (fun u hu=>by obtain rfl:=List.mem_singleton.1 hu;rfl) (by show _+1≤9223372036854775807;omega) (by show (_+1) * 4≤_;omega) (aG rfl)) ?_
    refine bJ 18 rfl (isV _) (syV bT [(0,_)] rfl rfl (fun _=>(aL rfl)) (fun _=>⟨cD rfl,trivial⟩) (fun s w hw=>aV rfl) (aG rfl)) (bJ 19 rfl (isV _) (syV bT [(98,_)] rfl rfl (fun _=>(aL rfl)) (fun _=>⟨aJ 17 (gA rfl rfl (aC rfl rfl rfl)),trivial⟩) (fun s w hw=>bP rfl) (aG rfl)) (bJ 20 rfl (isV _) (syV bT [(99,_)] rfl rfl (fun _=>(aL rfl)) (fun _=>⟨aJ 18 (gA rfl rfl (aC rfl rfl rfl)),trivial⟩) (fun s w hw=>bA (o':=5) gV rfl rfl) (aG rfl)) (bJ 21 rfl (isV (.slice (some ⟨Mb,0,none⟩) P.fs.length cm)) (Aa bT [(100,.pointer (some ⟨PB,5,none⟩))] rfl rfl (fun _=>(aL rfl)) (fun _=>⟨aJ 19 (gA rfl rfl (aC rfl rfl rfl)),trivial⟩) (fun s w hk hw=>aY isAgg59 rfl (Bp hw)) (aG rfl)) (bJ 22 rfl (fQ W10T.heap.size 1 21 _) (lN bT (us:=[.int .i32 _]) rfl rfl (fun _=>(aL rfl)) underlying59 sizeOf21 zeroValue21 rfl rfl (fun _=>⟨xZ,trivial⟩) (eH _) (aG rfl)) ?_))))
    refine bJ 23 rfl (gZ) (lO (t:=59) (e:=21) (tx:=101) (tyy:=102) (jx:=20) (jy:=21) (gi:=3) (m:=1) (size:=1) (v0:=.slice (some ⟨Mb,0,none⟩) P.fs.length cm) (news:=[.int .i32 0]) rfl rfl underlying59 dZ rfl rfl (by show 0 < 1;decide) rfl (by kernel_rfl) (aC rfl rfl rfl) (by kernel_rfl) (aC rfl rfl rfl) rfl rfl (fun s hk=>ga3_3 hk.self (by decide) (by decide) (by decide) (by decide)) jT rfl (fun u hu=>by obtain rfl:=List.mem_singleton.1 hu;rfl) (by show _+1≤9223372036854775807;omega) (by show (_+1) * 4≤_;omega) (aG rfl)) ?_
    refine bJ 24 rfl (isV _) (syV bT [(81,_)] rfl rfl (fun _=>(aL rfl)) (fun _=>⟨aJ 0 (gA rfl rfl (aC rfl rfl rfl)),trivial⟩) (fun s w hw=>bP rfl) (aG rfl)) (bJ 25 rfl (isV _) (syV bT [(104,_)] rfl rfl (fun _=>(aL rfl)) (fun _=>⟨aJ 23 (gA rfl rfl (aC rfl rfl rfl)),trivial⟩) (fun s w hw=>bA (o':=3) eC rfl rfl) (aG rfl)) (bJ 26 rfl (gZ) (lP (ja:=24) (jy:=9) (b:=PB) (off:=3) (nn:=6) (c:=6) (gi:=0) rfl rfl rfl rfl (by kernel_rfl) (aC rfl rfl rfl) (by kernel_rfl) (aC rfl rfl rfl) (aG rfl) rfl sizeOf59 rfl (fun s y hk hy=>ga3_4 hy hk.self (by decide) (by decide) (by decide) (by decide))) (bJ 27 rfl (isV _) (syV bT [(82,_)] rfl rfl (fun _=>(aL rfl)) (fun _=>⟨aJ 1 (gA rfl rfl (aC rfl rfl rfl)),trivial⟩) (fun s w hw=>bP rfl) (aG rfl)) (bJ 28 rfl (isV _) (syV bT [(106,_)] rfl rfl (fun _=>(aL rfl)) (fun _=>⟨aJ 26 (gA rfl rfl (aC rfl rfl rfl)),trivial⟩) (fun s w hw=>bA (o':=4) iI rfl rfl) (aG rfl)) (bJ 29 rfl (gZ) (lP (ja:=27) (jy:=16) (b:=PB) (off:=4) (nn:=6) (c:=6) (gi:=0) rfl rfl rfl rfl (by kernel_rfl) (aC rfl rfl rfl) (by kernel_rfl) (aC rfl rfl rfl) (aG rfl) rfl sizeOf59 rfl (fun s y hk hy=>ga3_5 hy hk.self (by decide) (by decide) (by decide) (by decide))) (oY ?_))))))
    intro s1 W1 Ks1 hall1 hsz1 hKs1 hS' hcov1 hfx1 hno1
    obtain ⟨v1_9,h1_9⟩:=hall1 9 rfl
    obtain ⟨v1_16,h1_16⟩:=hall1 16 rfl
    obtain ⟨v1_22,h1_22⟩:=hall1 22 rfl
    obtain ⟨v1_25,h1_25⟩:=hall1 25 rfl
    obtain ⟨v1_28,h1_28⟩:=hall1 28 rfl
    have f1_25:AwS _ _ (gZ) _ _:=hfx1 25 rfl _ h1_25
    have f1_28:AwS _ _ (gZ) _ _:=hfx1 28 rfl _ h1_28
    clear hS;have hS:=hS'.castO (O':=(_::_::_::Ot)) rfl;clear hS'
    have hS':=hS.castG (yG h1_9 h1_16 h1_22 h1_25 h1_28);clear hS
    obtain ⟨aF,cF,eF,_⟩:=bQ (hS'.row 1 rfl)
    obtain ⟨aS,cS,eS,_⟩:=bQ (hS'.row 2 rfl)
    obtain ⟨aM,cM,eM,_⟩:=bQ (hS'.row 3 rfl)
    dsimp only at eF eS eM
    subst eF;subst eS;subst eM
    have hS:=hS'.ownBack;clear hS'
    refine nF (L':=[AwS _ _ (isV _),AwS _ _ (isV _),AwS _ _ (isV _),AwS _ _ (isV _),AwS _ _ (isV _),AwS _ _ (isV _),AwS _ _ (isV (.slice (some ⟨Fb,0,none⟩) P.fs.length cf)),AwS _ _ (isV _),AwS _ _ (fQ W10T.heap.size 1 21 _),isE s1 9,AwS _ _ (isV _),AwS _ _ (isV _),AwS _ _ (isV _),AwS _ _ (isV (.slice (some ⟨Sb,0,none⟩) P.fs.length cs)),AwS _ _ (isV _),AwS _ _ (fQ W10T.heap.size 1 21 _),isE s1 16,AwS _ _ (isV _),AwS _ _ (isV _),AwS _ _ (isV _),AwS _ _ (isV (.slice (some ⟨Mb,0,none⟩) P.fs.length cm)),AwS _ _ (fQ W10T.heap.size 1 21 _),isE s1 22,AwS _ _ (isV _),AwS _ _ (isV _),isE s1 25,AwS _ _ (isV _),AwS _ _ (isV _),isE s1 28]) rfl (bB (bB (bB (bB (bB (bB (bB (bB ?_))))))))
    refine eO ?_;intro _ _
    refine eO ?_;intro u hu;obtain rfl:=Option.some.inj (h1_9.symm.trans hu);clear hu
    refine bB (bB (bB (bB (bB ?_))))
    refine eO ?_;intro _ _
    refine eO ?_;intro u hu;obtain rfl:=Option.some.inj (h1_16.symm.trans hu);clear hu
    refine bB (bB (bB (bB ?_)))
    refine eO ?_;intro _ _
    refine eO ?_;intro u hu;obtain rfl:=Option.some.inj (h1_22.symm.trans hu);clear hu
    refine bB (bB (pV (bB (bB (pV (cN (bM rfl rfl (aU (o':=5) gV rfl rfl rfl (bL (i:=0) (cs':=[_,_,_,_,_,_]) (O':=(_::_::_::_::Ot)) hS sizeOf59 rfl rfl rfl rfl rfl rfl rfl fun W2 hS=>aK (XF.thenN (aH (aH (aN (aA rfl rfl (bM rfl rfl (aU (o':=0) kE rfl rfl rfl (aP isAgg59 rfl (aD (hS.at_ 0 rfl) rfl) rfl (aA rfl rfl (aA rfl rfl (aA rfl rfl (bY rfl rfl (IntWalk.i32_in _ (by omega)) rfl (yM (i:=gN P.fs b) (L:=gN P.mr b) underlying59 sizeOf21 rfl rfl rfl (by omega) (by omega) (by omega) (by omega) rfl (bX underlying59 rfl rfl (aA rfl rfl (aK (XF.thenN (bH (cW (fun m l W=>∃ (i:Nat),i≤gN P.mr b∧m=gN P.mr b - i∧l=[(0,.pointer (some ⟨PB,0,none⟩)),(9,.int .i32 (P.fs.length:Int)),(118,.slice (some ⟨Ab,0+(gN P.fs b) * 1,none⟩) (gN P.mr b) (n - (gN P.fs b))),(119,.int .i64 ((gN P.mr b:Nat):Int)),(120,.int .i64 (i:Int))]∧St w0 ((PB,[.slice (some ⟨Ab,0,none⟩) n n,.slice (some ⟨Lb,0,none⟩) n n,.slice (some ⟨Kb,0,none⟩) n n,.slice aF (P.fs.length+1) cF,.slice aS (P.fs.length+1) cS,.slice aM (P.fs.length+1) cM],87)::(Ab,i32 P.al,21)::(Lb,i32 P.pl,21)::(Kb,i32 (gC P.al P.fs.length (gN P.fs b) P.bk i),21)::Ot) (⟨.slice aF (P.fs.length+1) cF,P.fs.length+1,i32 (P.fs.set b (gN P.fs b+gN P.mr b))++[Value.int .i32 (((gN P.fs b:Nat):Int))],21,1⟩::⟨.slice aS (P.fs.length+1) cS,P.fs.length+1,i32 (P.sz.set b (gN P.sz b - gN P.mr b))++[Value.int .i32 (((gN P.mr b:Nat):Int))],21,1⟩::⟨.slice aM (P.fs.length+1) cM,P.fs.length+1,i32 (P.mr.set b 0)++[Value.int .i32 0],21,1⟩::G) K W) ((gN P.mr b) - 0) ([(0,_),(9,_),(118,_),(119,_),(120,_)]) ⟨rfl,rfl,rfl,rfl,rfl,trivial⟩ (⟨0,Nat.zero_le _,rfl,rfl,hS.keep K (fun q hq=>by simp [hq])⟩) ?_))))))))))))))))))))))))))))
    clear hS
    rintro m l W ⟨i,hi,rfl,rfl,hS⟩
    have hap:=hP.ap (gN P.fs b+i)
    refine aH (aN (cH rfl rfl rfl (aK (XF.thenN (aH (bS rfl (fun hc=>?_) (fun hc=>?_)))))))
    ·have hc121:=of_decide_eq_true hc;clear hc
     refine bV (XF.thenN (aH (bH (aH (aN (aX (j:=i) underlying59 sizeOf21 rfl rfl (rfl) (by omega) rfl rfl ?_))))))
     refine aP isAgg21 rfl (aD (hS.at_ 1 rfl) (by rw [show 0+(gN P.fs b) * 1+i * 1=0+(gN P.fs b+i) * 1 by omega];exact gU (by omega))) rfl ?_
     refine aB rfl rfl (aK (XF.thenN (aN (aA rfl rfl (bM rfl rfl (aU (o':=2) nK rfl rfl rfl (aP isAgg59 rfl (aD (hS.at_ 0 rfl) rfl) rfl (aA rfl rfl (aA rfl rfl (aX (j:=gN P.al (gN P.fs b+i)) underlying59 sizeOf21 rfl rfl (rfl) (by omega) rfl rfl ?_))))))))))
     refine bL (i:=3) (cs':=i32 (gC P.al P.fs.length (gN P.fs b) P.bk (i+1))) (O':=(_::_::_::_::Ot)) hS sizeOf21 rfl rfl rfl rfl (Nat.ble_eq_true_of_le (by rw [cB,jA];omega)) (fY rfl) rfl fun W16T hS=>?_
     refine aK (XF.blkN (XF.thenN (aN (bY rfl rfl (IntWalk.i64_in _ (by omega)) rfl (aA rfl rfl (aK ?_))))))
     exact XF.round ((gN P.mr b) - (i+1)) [(0,_),(9,_),(118,_),(119,_),(120,_)] (by omega) ⟨rfl,rfl,rfl,rfl,rfl,trivial⟩ ⟨i+1,by omega,rfl,rfl,hS.keep K (fun q hq=>by simp [hq])⟩
    ·have hc121:=of_decide_eq_false hc;clear hc
     refine cV (XF.thenX (XF.thenX (XF.blkX (XF.thenN (aH (aN (aB rfl rfl (aK (XF.thenN (cK (XF.res (cZ results62 rfl) ?_)))))))))))
     have e9:i=gN P.mr b:=by omega
     subst e9
     obtain ⟨Fb',e1',rfl,g1,g2,g3,hS1⟩:=hS.rowOwnE (by omega)
     obtain ⟨Sb',e2',rfl,g4,g5,g6,hS2⟩:=hS1.rowOwnE (by omega)
     obtain ⟨Mb',e3',rfl,g7,g8,g9,hS3⟩:=hS2.rowOwnE (by omega)
     have q1:i32 (P.fs.set b (gN P.fs b+gN P.mr b))++[Value.int .i32 (((gN P.fs b:Nat):Int))]=i32 (P.fs.set b (gN P.fs b+gN P.mr b)++[gN P.fs b]):=hZ (by omega)
     have q2:i32 (P.sz.set b (gN P.sz b - gN P.mr b))++[Value.int .i32 (((gN P.mr b:Nat):Int))]=i32 (P.sz.set b (gN P.sz b - gN P.mr b)++[gN P.mr b]):=hZ (by omega)
     have q3:i32 (P.mr.set b 0)++[Value.int .i32 0]=i32 (P.mr.set b 0++[0]):=hZ rfl
     rw [q1] at g1 hS3
     rw [q2] at g4 hS3
     rw [q3] at g7 hS3
     have q4:(P.fs.set b (gN P.fs b+gN P.mr b)++[gN P.fs b]).length=P.fs.length+1:=by simp
     exact ⟨by rw [hc9],Fb',Sb',Mb',cF,cS,cM,e1',e2',e3',g1,g4,g7,g3,g6,g9,by dsimp only;rw [q4];exact hS3.perm uO.symm⟩
   ·have hc50:=of_decide_eq_false hc;clear hc
    have hlo:¬ gN P.mr b≤gN P.sz b - gN P.mr b:=by omega
    rw [Af hc9 hlo]
    refine aN (aA rfl rfl (aA rfl rfl (bY rfl rfl (IntWalk.i32_in _ (by omega)) rfl (aA rfl rfl (aB rfl rfl (aB rfl rfl (aK (XF.thenN (aH (aN (aA rfl rfl (bM rfl rfl (aU (o':=4) iI rfl rfl rfl (aP isAgg59 rfl (aD (hS.at_ 0 rfl) rfl) rfl (aA rfl rfl (aX (j:=b) underlying59 sizeOf21 rfl rfl (rfl) (by omega) rfl rfl (aP isAgg21 rfl (aD (hS.at_ 5 rfl) (fP (by omega))) rfl (aA rfl rfl (mI rfl rfl (IntWalk.i32_in _ (by omega)) rfl (aX (j:=b) underlying59 sizeOf21 rfl rfl (rfl) (by omega) rfl rfl ?_))))))))))))))))))))
    refine bL (i:=5) (cs':=i32 (P.sz.set b (gN P.sz b - (gN P.sz b - gN P.mr b)))++e2) (O':=(_::_::_::_::_::_::_::Ot)) hS sizeOf21 rfl rfl rfl rfl (Nat.ble_eq_true_of_le (by rw [List.length_append,cB];omega)) (kX (by omega) (by omega)) rfl fun W10F hS=>?_
    refine aK (XF.thenN (aH (aN (aA rfl rfl (bM rfl rfl (aU (o':=3) eC rfl rfl rfl (aP isAgg59 rfl (aD (hS.at_ 0 rfl) rfl) rfl (bX underlying59 rfl rfl (eE underlying3 underlying21 rfl (by omega) rfl (aB rfl rfl (aK (XF.thenN (aH ?_)))))))))))))
    have hl1:(P.fs).length=P.fs.length:=by simp
    have hl2:(P.sz.set b (gN P.sz b - (gN P.sz b - gN P.mr b))).length=P.fs.length:=by simp [hlf]
    have hl3:(P.mr.set b 0).length=P.fs.length:=by simp [hlm]
    have hS':=hS.perm uO;clear hS
    have hS:=hS'.ownRowE (n:=P.fs.length) (c:=cm) (sz:=1) (by rw [cB,hl3,Nat.mul_one]) (by rw [List.length_append,cB,hl3];rw [List.length_append,cB] at hcm;omega) (by rw [List.length_append,cB] at hcm;omega) mcm;clear hS'
    have hS':=hS.ownRowE (n:=P.fs.length) (c:=cs) (sz:=1) (by rw [cB,hl2,Nat.mul_one]) (by rw [List.length_append,cB,hl2];rw [List.length_append,cB] at hcs;omega) (by rw [List.length_append,cB] at hcs;omega) mcs;clear hS
    have hS:=hS'.ownRowE (n:=P.fs.length) (c:=cf) (sz:=1) (by rw [cB,hl1,Nat.mul_one]) (by rw [List.length_append,cB,hl1];rw [List.length_append,cB] at hcf;omega) (by rw [List.length_append,cB] at hcf;omega) mcf;clear hS'
    have hS':=(hS.castO (O':=((PB,[.slice (some ⟨Ab,0,none⟩) n n,.slice (some ⟨Lb,0,none⟩) n n,.slice (some ⟨Kb,0,none⟩) n n,.slice (some ⟨Fb,0,none⟩) P.fs.length cf,.slice (some ⟨Sb,0,none⟩) P.fs.length cs,.slice (some ⟨Mb,0,none⟩) P.fs.length cm]++[],87)::_::_::_::Ot)) (by rw [List.append_nil])).ownRowE (n:=6) (c:=6) (sz:=1) rfl rfl (Nat.le_refl _) (by decide);clear hS
    have hS:=hS';clear hS'
    refine regY (al:=[]) (G:=GA3 G PB 87 21 (.slice (some ⟨Ab,0,none⟩) n n) (.slice (some ⟨Lb,0,none⟩) n n) (.slice (some ⟨Kb,0,none⟩) n n) (.slice (some ⟨Fb,0,none⟩) P.fs.length cf) (.slice (some ⟨Sb,0,none⟩) P.fs.length cs) (.slice (some ⟨Mb,0,none⟩) P.fs.length cm) P.fs.length (i32 (P.fs)) (i32 (P.sz.set b (gN P.sz b - (gN P.sz b - gN P.mr b)))) (i32 (P.mr.set b 0)) (.int .i32 (((gN P.fs b:Nat):Int)+((gN P.mr b:Nat):Int))) (.int .i32 (((gN P.sz b:Nat):Int) - ((gN P.mr b:Nat):Int))) (.int .i32 0) 9 16 22 25 28) (E:=[9,16,22,25,28]) (k:=29) (ds:=[108,109]) cA rfl hS rfl rfl (by kernel_rfl) (by kernel_rfl) rfl (by decide) rfl (bJ 1 rfl (isV _) (syV bT [(0,_)] rfl rfl (fun _=>(aL rfl)) (fun _=>⟨cD rfl,trivial⟩) (fun s w hw=>aV rfl) (aG rfl)) (bJ 2 rfl (isV _) (syV bT [(0,_)] rfl rfl (fun _=>(aL rfl)) (fun _=>⟨cD rfl,trivial⟩) (fun s w hw=>aV rfl) (aG rfl)) (bJ 3 rfl (isV _) (syV bT [(0,_)] rfl rfl (fun _=>(aL rfl)) (fun _=>⟨cD rfl,trivial⟩) (fun s w hw=>aV rfl) (aG rfl)) (bJ 4 rfl (isV _) (syV bT [(0,_)] rfl rfl (fun _=>(aL rfl)) (fun _=>⟨cD rfl,trivial⟩) (fun s w hw=>aV rfl) (aG rfl)) (bJ 5 rfl (isV _) (syV bT [(84,_)] rfl rfl (fun _=>(aL rfl)) (fun _=>⟨aJ 3 (gA rfl rfl (aC rfl rfl rfl)),trivial⟩) (fun s w hw=>bP rfl) (aG rfl)) (bJ 6 rfl (isV _) (syV bT [(85,_)] rfl rfl (fun _=>(aL rfl)) (fun _=>⟨aJ 4 (gA rfl rfl (aC rfl rfl rfl)),trivial⟩) (fun s w hw=>bA (o':=3) eC rfl rfl) (aG rfl)) (bJ 7 rfl (isV (.slice (some ⟨Fb,0,none⟩) P.fs.length cf)) (Aa bT [(86,.pointer (some ⟨PB,3,none⟩))] rfl rfl (fun _=>(aL rfl)) (fun _=>⟨aJ 5 (gA rfl rfl (aC rfl rfl rfl)),trivial⟩) (fun s w hk hw=>aY isAgg59 rfl (Bn hw (hk.no 25 (by kernel_rfl)))) (aG rfl)) (bJ 8 rfl (isV _) (syV bT [(7,_)] rfl rfl (fun _=>(aL rfl)) (fun _=>⟨cD rfl,trivial⟩) (fun s w hw=>aV rfl) (aG rfl)) (bJ 9 rfl (fQ W10F.heap.size 1 21 _) (lN bT (us:=[.int .i32 _]) rfl rfl (fun _=>(aL rfl)) underlying59 sizeOf21 zeroValue21 rfl rfl (fun _=>⟨eN (aJ 7 (gA rfl rfl (aC rfl rfl rfl))),trivial⟩) (eH _) (aG rfl)) ?_)))))))))
    refine bJ 10 rfl (gZ) (lO (t:=59) (e:=21) (tx:=87) (tyy:=89) (jx:=6) (jy:=8) (gi:=1) (m:=1) (size:=1) (v0:=.slice (some ⟨Fb,0,none⟩) P.fs.length cf) (news:=[.int .i32 (((gN P.fs b:Nat):Int)+((gN P.mr b:Nat):Int))]) rfl rfl underlying59 dZ rfl rfl (by show 0 < 1;decide) rfl (by kernel_rfl) (aC rfl rfl rfl) (by kernel_rfl) (aC rfl rfl rfl) rfl rfl (fun s hk=>ga3_1 hk.self (by decide) (by decide) (by decide) (by decide) (hk.no 25 (by kernel_rfl))) jT rfl (fun u hu=>by obtain rfl:=List.mem_singleton.1 hu;rfl) (by show _+1≤9223372036854775807;omega) (by show (_+1) * 4≤_;omega) (aG rfl)) ?_
    refine bJ 11 rfl (isV _) (syV bT [(0,_)] rfl rfl (fun _=>(aL rfl)) (fun _=>⟨cD rfl,trivial⟩) (fun s w hw=>aV rfl) (aG rfl)) (bJ 12 rfl (isV _) (syV bT [(91,_)] rfl rfl (fun _=>(aL rfl)) (fun _=>⟨aJ 10 (gA rfl rfl (aC rfl rfl rfl)),trivial⟩) (fun s w hw=>bP rfl) (aG rfl)) (bJ 13 rfl (isV _) (syV bT [(92,_)] rfl rfl (fun _=>(aL rfl)) (fun _=>⟨aJ 11 (gA rfl rfl (aC rfl rfl rfl)),trivial⟩) (fun s w hw=>bA (o':=4) iI rfl rfl) (aG rfl)) (bJ 14 rfl (isV (.slice (some ⟨Sb,0,none⟩) P.fs.length cs)) (Aa bT [(93,.pointer (some ⟨PB,4,none⟩))] rfl rfl (fun _=>(aL rfl)) (fun _=>⟨aJ 12 (gA rfl rfl (aC rfl rfl rfl)),trivial⟩) (fun s w hk hw=>aY isAgg59 rfl (Bo hw (hk.no 28 (by kernel_rfl)))) (aG rfl)) (bJ 15 rfl (isV _) (syV bT [(8,_)] rfl rfl (fun _=>(aL rfl)) (fun _=>⟨cD rfl,trivial⟩) (fun s w hw=>aV rfl) (aG rfl)) (bJ 16 rfl (fQ W10F.heap.size 1 21 _) (lN bT (us:=[.int .i32 _]) rfl rfl (fun _=>(aL rfl)) underlying59 sizeOf21 zeroValue21 rfl rfl (fun _=>⟨eN (aJ 14 (gA rfl rfl (aC rfl rfl rfl))),trivial⟩) (eH _) (aG rfl)) ?_)))))
    refine bJ 17 rfl (gZ) (lO (t:=59) (e:=21) (tx:=94) (tyy:=96) (jx:=13) (jy:=15) (gi:=2) (m:=1) (size:=1) (v0:=.slice (some ⟨Sb,0,none⟩) P.fs.length cs) (news:=[.int .i32 (((gN P.sz b:Nat):Int) - ((gN P.mr b:Nat):Int))]) rfl rfl underlying59 dZ rfl rfl (by show 0 < 1;decide) rfl (by kernel_rfl) (aC rfl rfl rfl) (by kernel_rfl) (aC rfl rfl rfl) rfl rfl (fun s hk=>ga3_2 hk.self (by decide) (by decide) (by decide) (by decide) (hk.no 28 (by kernel_rfl))) jT rfl (fun u hu=>by obtain rfl:=List.mem_singleton.1 hu;rfl) (by show _+1≤9223372036854775807;omega) (by show (_+1) * 4≤_;omega) (aG rfl)) ?_
    refine bJ 18 rfl (isV _) (syV bT [(0,_)] rfl rfl (fun _=>(aL rfl)) (fun _=>⟨cD rfl,trivial⟩) (fun s w hw=>aV rfl) (aG rfl)) (bJ 19 rfl (isV _) (syV bT [(98,_)] rfl rfl (fun _=>(aL rfl)) (fun _=>⟨aJ 17 (gA rfl rfl (aC rfl rfl rfl)),trivial⟩) (fun s w hw=>bP rfl) (aG rfl)) (bJ 20 rfl (isV _) (syV bT [(99,_)] rfl rfl (fun _=>(aL rfl)) (fun _=>⟨aJ 18 (gA rfl rfl (aC rfl rfl rfl)),trivial⟩) (fun s w hw=>bA (o':=5) gV rfl rfl) (aG rfl)) (bJ 21 rfl (isV (.slice (some ⟨Mb,0,none⟩) P.fs.length cm)) (Aa bT [(100,.pointer (some ⟨PB,5,none⟩))] rfl rfl (fun _=>(aL rfl)) (fun _=>⟨aJ 19 (gA rfl rfl (aC rfl rfl rfl)),trivial⟩) (fun s w hk hw=>aY isAgg59 rfl (Bp hw)) (aG rfl)) (bJ 22 rfl (fQ W10F.heap.size 1 21 _) (lN bT (us:=[.int .i32 _]) rfl rfl (fun _=>(aL rfl)) underlying59 sizeOf21 zeroValue21 rfl rfl (fun _=>⟨xZ,trivial⟩) (eH _) (aG rfl)) ?_))))
    refine bJ 23 rfl (gZ) (lO (t:=59) (e:=21) (tx:=101) (tyy:=102) (jx:=20) (jy:=21) (gi:=3) (m:=1) (size:=1) (v0:=.slice (some ⟨Mb,0,none⟩) P.fs.length cm) (news:=[.int .i32 0]) rfl rfl underlying59 dZ rfl rfl (by show 0 < 1;decide) rfl (by kernel_rfl) (aC rfl rfl rfl) (by kernel_rfl) (aC rfl rfl rfl) rfl rfl (fun s hk=>ga3_3 hk.self (by decide) (by decide) (by decide) (by decide)) jT rfl (fun u hu=>by obtain rfl:=List.mem_singleton.1 hu;rfl) (by show _+1≤9223372036854775807;omega) (by show (_+1) * 4≤_;omega) (aG rfl)) ?_
    refine bJ 24 rfl (isV _) (syV bT [(81,_)] rfl rfl (fun _=>(aL rfl)) (fun _=>⟨aJ 0 (gA rfl rfl (aC rfl rfl rfl)),trivial⟩) (fun s w hw=>bP rfl) (aG rfl)) (bJ 25 rfl (isV _) (syV bT [(104,_)] rfl rfl (fun _=>(aL rfl)) (fun _=>⟨aJ 23 (gA rfl rfl (aC rfl rfl rfl)),trivial⟩) (fun s w hw=>bA (o':=3) eC rfl rfl) (aG rfl)) (bJ 26 rfl (gZ) (lP (ja:=24) (jy:=9) (b:=PB) (off:=3) (nn:=6) (c:=6) (gi:=0) rfl rfl rfl rfl (by kernel_rfl) (aC rfl rfl rfl) (by kernel_rfl) (aC rfl rfl rfl) (aG rfl) rfl sizeOf59 rfl (fun s y hk hy=>ga3_4 hy hk.self (by decide) (by decide) (by decide) (by decide))) (bJ 27 rfl (isV _) (syV bT [(82,_)] rfl rfl (fun _=>(aL rfl)) (fun _=>⟨aJ 1 (gA rfl rfl (aC rfl rfl rfl)),trivial⟩) (fun s w hw=>bP rfl) (aG rfl)) (bJ 28 rfl (isV _) (syV bT [(106,_)] rfl rfl (fun _=>(aL rfl)) (fun _=>⟨aJ 26 (gA rfl rfl (aC rfl rfl rfl)),trivial⟩) (fun s w hw=>bA (o':=4) iI rfl rfl) (aG rfl)) (bJ 29 rfl (gZ) (lP (ja:=27) (jy:=16) (b:=PB) (off:=4) (nn:=6) (c:=6) (gi:=0) rfl rfl rfl rfl (by kernel_rfl) (aC rfl rfl rfl) (by kernel_rfl) (aC rfl rfl rfl) (aG rfl) rfl sizeOf59 rfl (fun s y hk hy=>ga3_5 hy hk.self (by decide) (by decide) (by decide) (by decide))) (oY ?_))))))
    intro s3 W3 Ks3 hall3 hsz3 hKs3 hS' hcov3 hfx3 hno3
    obtain ⟨v3_9,h3_9⟩:=hall3 9 rfl
    obtain ⟨v3_16,h3_16⟩:=hall3 16 rfl
    obtain ⟨v3_22,h3_22⟩:=hall3 22 rfl
    obtain ⟨v3_25,h3_25⟩:=hall3 25 rfl
    obtain ⟨v3_28,h3_28⟩:=hall3 28 rfl
    have f3_25:AwS _ _ (gZ) _ _:=hfx3 25 rfl _ h3_25
    have f3_28:AwS _ _ (gZ) _ _:=hfx3 28 rfl _ h3_28
    clear hS;have hS:=hS'.castO (O':=(_::_::_::Ot)) rfl;clear hS'
    have hS':=hS.castG (yG h3_9 h3_16 h3_22 h3_25 h3_28);clear hS
    obtain ⟨aF,cF,eF,_⟩:=bQ (hS'.row 1 rfl)
    obtain ⟨aS,cS,eS,_⟩:=bQ (hS'.row 2 rfl)
    obtain ⟨aM,cM,eM,_⟩:=bQ (hS'.row 3 rfl)
    dsimp only at eF eS eM
    subst eF;subst eS;subst eM
    have hS:=hS'.ownBack;clear hS'
    refine nF (L':=[AwS _ _ (isV _),AwS _ _ (isV _),AwS _ _ (isV _),AwS _ _ (isV _),AwS _ _ (isV _),AwS _ _ (isV _),AwS _ _ (isV (.slice (some ⟨Fb,0,none⟩) P.fs.length cf)),AwS _ _ (isV _),AwS _ _ (fQ W10F.heap.size 1 21 _),isE s3 9,AwS _ _ (isV _),AwS _ _ (isV _),AwS _ _ (isV _),AwS _ _ (isV (.slice (some ⟨Sb,0,none⟩) P.fs.length cs)),AwS _ _ (isV _),AwS _ _ (fQ W10F.heap.size 1 21 _),isE s3 16,AwS _ _ (isV _),AwS _ _ (isV _),AwS _ _ (isV _),AwS _ _ (isV (.slice (some ⟨Mb,0,none⟩) P.fs.length cm)),AwS _ _ (fQ W10F.heap.size 1 21 _),isE s3 22,AwS _ _ (isV _),AwS _ _ (isV _),isE s3 25,AwS _ _ (isV _),AwS _ _ (isV _),isE s3 28]) rfl (bB (bB (bB (bB (bB (bB (bB (bB ?_))))))))
    refine eO ?_;intro _ _
    refine eO ?_;intro u hu;obtain rfl:=Option.some.inj (h3_9.symm.trans hu);clear hu
    refine bB (bB (bB (bB (bB ?_))))
    refine eO ?_;intro _ _
    refine eO ?_;intro u hu;obtain rfl:=Option.some.inj (h3_16.symm.trans hu);clear hu
    refine bB (bB (bB (bB ?_)))
    refine eO ?_;intro _ _
    refine eO ?_;intro u hu;obtain rfl:=Option.some.inj (h3_22.symm.trans hu);clear hu
    refine bB (bB (pV (bB (bB (pV (cN (bM rfl rfl (aU (o':=5) gV rfl rfl rfl (bL (i:=0) (cs':=[_,_,_,_,_,_]) (O':=(_::_::_::_::Ot)) hS sizeOf59 rfl rfl rfl rfl rfl rfl rfl fun W4 hS=>aK (XF.thenN (aH (aH (aN (aA rfl rfl (bM rfl rfl (aU (o':=0) kE rfl rfl rfl (aP isAgg59 rfl (aD (hS.at_ 0 rfl) rfl) rfl (aA rfl rfl (aA rfl rfl (aA rfl rfl (bY rfl rfl (IntWalk.i32_in _ (by omega)) rfl (yM (i:=gN P.fs b+gN P.mr b) (L:=gN P.sz b - gN P.mr b) underlying59 sizeOf21 rfl rfl rfl (by omega) (by omega) (by omega) (by omega) rfl (bX underlying59 rfl rfl (aA rfl rfl (aK (XF.thenN (bH (cW (fun m l W=>∃ (i:Nat),i≤gN P.sz b - gN P.mr b∧m=gN P.sz b - gN P.mr b - i∧l=[(0,.pointer (some ⟨PB,0,none⟩)),(9,.int .i32 (P.fs.length:Int)),(118,.slice (some ⟨Ab,0+(gN P.fs b+gN P.mr b) * 1,none⟩) (gN P.sz b - gN P.mr b) (n - (gN P.fs b+gN P.mr b))),(119,.int .i64 ((gN P.sz b - gN P.mr b:Nat):Int)),(120,.int .i64 (i:Int))]∧St w0 ((PB,[.slice (some ⟨Ab,0,none⟩) n n,.slice (some ⟨Lb,0,none⟩) n n,.slice (some ⟨Kb,0,none⟩) n n,.slice aF (P.fs.length+1) cF,.slice aS (P.fs.length+1) cS,.slice aM (P.fs.length+1) cM],87)::(Ab,i32 P.al,21)::(Lb,i32 P.pl,21)::(Kb,i32 (gC P.al P.fs.length (gN P.fs b+gN P.mr b) P.bk i),21)::Ot) (⟨.slice aF (P.fs.length+1) cF,P.fs.length+1,i32 (P.fs)++[Value.int .i32 (((gN P.fs b:Nat):Int)+((gN P.mr b:Nat):Int))],21,1⟩::⟨.slice aS (P.fs.length+1) cS,P.fs.length+1,i32 (P.sz.set b (gN P.sz b - (gN P.sz b - gN P.mr b)))++[Value.int .i32 (((gN P.sz b:Nat):Int) - ((gN P.mr b:Nat):Int))],21,1⟩::⟨.slice aM (P.fs.length+1) cM,P.fs.length+1,i32 (P.mr.set b 0)++[Value.int .i32 0],21,1⟩::G) K W) ((gN P.sz b - gN P.mr b) - 0) ([(0,_),(9,_),(118,_),(119,_),(120,_)]) ⟨rfl,rfl,rfl,rfl,rfl,trivial⟩ (⟨0,Nat.zero_le _,rfl,rfl,hS.keep K (fun q hq=>by simp [hq])⟩) ?_))))))))))))))))))))))))))))
    clear hS
    rintro m l W ⟨i,hi,rfl,rfl,hS⟩
    have hap:=hP.ap (gN P.fs b+gN P.mr b+i)
    refine aH (aN (cH rfl rfl rfl (aK (XF.thenN (aH (bS rfl (fun hc=>?_) (fun hc=>?_)))))))
    ·have hc121:=of_decide_eq_true hc;clear hc
     refine bV (XF.thenN (aH (bH (aH (aN (aX (j:=i) underlying59 sizeOf21 rfl rfl (rfl) (by omega) rfl rfl ?_))))))
     refine aP isAgg21 rfl (aD (hS.at_ 1 rfl) (by rw [show 0+(gN P.fs b+gN P.mr b) * 1+i * 1=0+(gN P.fs b+gN P.mr b+i) * 1 by omega];exact gU (by omega))) rfl ?_
     refine aB rfl rfl (aK (XF.thenN (aN (aA rfl rfl (bM rfl rfl (aU (o':=2) nK rfl rfl rfl (aP isAgg59 rfl (aD (hS.at_ 0 rfl) rfl) rfl (aA rfl rfl (aA rfl rfl (aX (j:=gN P.al (gN P.fs b+gN P.mr b+i)) underlying59 sizeOf21 rfl rfl (rfl) (by omega) rfl rfl ?_))))))))))
     refine bL (i:=3) (cs':=i32 (gC P.al P.fs.length (gN P.fs b+gN P.mr b) P.bk (i+1))) (O':=(_::_::_::_::Ot)) hS sizeOf21 rfl rfl rfl rfl (Nat.ble_eq_true_of_le (by rw [cB,jA];omega)) (fY rfl) rfl fun W16F hS=>?_
     refine aK (XF.blkN (XF.thenN (aN (bY rfl rfl (IntWalk.i64_in _ (by omega)) rfl (aA rfl rfl (aK ?_))))))
     exact XF.round ((gN P.sz b - gN P.mr b) - (i+1)) [(0,_),(9,_),(118,_),(119,_),(120,_)] (by omega) ⟨rfl,rfl,rfl,rfl,rfl,trivial⟩ ⟨i+1,by omega,rfl,rfl,hS.keep K (fun q hq=>by simp [hq])⟩
    ·have hc121:=of_decide_eq_false hc;clear hc
     refine cV (XF.thenX (XF.thenX (XF.blkX (XF.thenN (aH (aN (aB rfl rfl (aK (XF.thenN (cK (XF.res (cZ results62 rfl) ?_)))))))))))
     have e9:i=gN P.sz b - gN P.mr b:=by omega
     subst e9
     obtain ⟨Fb',e1',rfl,g1,g2,g3,hS1⟩:=hS.rowOwnE (by omega)
     obtain ⟨Sb',e2',rfl,g4,g5,g6,hS2⟩:=hS1.rowOwnE (by omega)
     obtain ⟨Mb',e3',rfl,g7,g8,g9,hS3⟩:=hS2.rowOwnE (by omega)
     have q1:i32 (P.fs)++[Value.int .i32 (((gN P.fs b:Nat):Int)+((gN P.mr b:Nat):Int))]=i32 (P.fs++[gN P.fs b+gN P.mr b]):=hZ (by omega)
     have q2:i32 (P.sz.set b (gN P.sz b - (gN P.sz b - gN P.mr b)))++[Value.int .i32 (((gN P.sz b:Nat):Int) - ((gN P.mr b:Nat):Int))]=i32 (P.sz.set b (gN P.sz b - (gN P.sz b - gN P.mr b))++[gN P.sz b - gN P.mr b]):=hZ (by omega)
     have q3:i32 (P.mr.set b 0)++[Value.int .i32 0]=i32 (P.mr.set b 0++[0]):=hZ rfl
     rw [q1] at g1 hS3
     rw [q2] at g4 hS3
     rw [q3] at g7 hS3
     have q4:(P.fs++[gN P.fs b+gN P.mr b]).length=P.fs.length+1:=by simp
     exact ⟨by rw [hc9],Fb',Sb',Mb',cF,cS,cM,e1',e2',e3',g1,g4,g7,g3,g6,g9,by dsimp only;rw [q4];exact hS3.perm uO.symm⟩
theorem sV (v0a:Option Addr) (v0l:Nat) (v0c:Nat) (v1a:Option Addr) (v1l:Nat) (v1c:Nat) (v2a:Option Addr) (v2l:Nat) (v2c:Nat):prog.built 87 [(0,.slice v0a v0l v0c),(1,.slice v1a v1l v1c),(2,.slice v2a v2l v2c)]=some #[.slice v0a v0l v0c,.slice v1a v1l v1c,.slice v2a v2l v2c,.slice none 0 0,.slice none 0 0,.slice none 0 0]:=by kernel_rfl
theorem yR:cC prog 61=true:=by kernel_rfl
theorem yS:cC prog 62=true:=by kernel_rfl
def rgz (n i:Nat):List Nat:=List.range i++List.replicate (n - i) 0
theorem sW {n i:Nat} (h:i≤n):(rgz n i).length=n:=by unfold rgz;simp;omega
theorem uX {n:Nat}:rgz n 0=List.replicate n 0:=by unfold rgz;simp
theorem yT {n:Nat}:rgz n n=List.range n:=by unfold rgz;simp
theorem yU {n i:Nat} (h:i < n):(rgz n i).set i i=rgz n (i+1):=by
 unfold rgz
 obtain ⟨k,hk⟩:∃ k,n - i=k+1:=⟨n - i - 1,by omega⟩
 rw [hk,show n - (i+1)=k by omega,List.replicate_succ,List.range_succ,List.set_append_right _ _ (by simp),List.length_range,Nat.sub_self]
 simp
theorem mset_T {bs:List Bool} {i t:Nat} (h:bs.getD i false=true):((t < i∧bs.getD t false=true)∨t=i)↔(t < i+1∧bs.getD t false=true) :=
 ⟨fun h2=>h2.elim (fun h3=>⟨by omega,h3.2⟩) (fun h3=>by rw [h3];exact ⟨by omega,h⟩),fun h2=>by
  rcases Nat.lt_or_ge t i with h3 | h3
  ·exact .inl ⟨h3,h2.2⟩
  ·exact .inr (by omega)⟩
theorem mset_F {bs:List Bool} {i t:Nat} (h:bs.getD i false=false):(t < i∧bs.getD t false=true)↔(t < i+1∧bs.getD t false=true) :=
 ⟨fun h3=>⟨by omega,h3.2⟩,fun h2=>⟨by
  rcases Nat.lt_or_ge t i with h3 | h3
  ·exact h3
  ·have e:t=i:=by omega
   rw [e,h] at h2;exact absurd h2.2 (by decide),h2.2⟩⟩
theorem PSt.keep {n PB Ab Lb Kb:Nat} {Ot:Own} {G:bN} {K K2:List (Nat×World)} {w0 W:World} {P:PT} (h:PSt n PB Ab Lb Kb Ot G K w0 W P) (hk:∀ q∈K2,q∈K):PSt n PB Ab Lb Kb Ot G K2 w0 W P:=by
 obtain ⟨Fb,Sb,Mb,cf,cs,cm,e1,e2,e3,h1,h2,h3,h4,h5,h6,hS⟩:=h
 exact ⟨Fb,Sb,Mb,cf,cs,cm,e1,e2,e3,h1,h2,h3,h4,h5,h6,hS.keep K2 hk⟩
theorem fE.get {W:World} {aa:Option Addr} {bs:List Bool} {i:Nat} (h:fE W aa bs) (hi:i < bs.length):∃ b off,aa=some ⟨b,off,none⟩∧W.cell? ⟨b,off+i * 1,none⟩=some (.bool (bs.getD i false)):=by
 obtain ⟨b,off,e,hc⟩:=h i _ (List.getElem?_eq_getElem hi)
 exact ⟨b,off,e,by rw [hc];simp [hi]⟩
theorem wV (n:Nat) (aa:Option Addr) (ac:Nat) (bs:List Bool) (Kt:List (Nat×World)) (Ot:Own) (G:bN) (K:List (Nat×World)) (w0 w:World) (hS0:St w0 Ot G K w) (hKt:∀ q∈Kt,q∈K) (hB:cL w0 Kt (fun W=>fE W aa bs)) (hl:bs.length=n) (hn0:0 < n) (hn:n≤100000) :
  Calls prog 52 #[.slice aa n ac] w (fun e w'=>∃ (PB Ab Lb Kb:Nat) (P:PT) (T:List Nat),e = .returned (.pointer (some ⟨PB,0,none⟩))∧MI n (kY n) (fun s=>bs.getD s false=true) P T∧PSt n PB Ab Lb Kb Ot G K w0 w' (dK P 0)):=by
 refine cP (args:=[.slice aa n ac]) func52 rfl ntmps52 rfl ?_
 have hS:=hS0
 refine aH (aN (aB rfl rfl (aK (XF.thenN (aH (aN (aA rfl rfl (bX underlying23 rfl rfl (aB rfl rfl (aK (XF.thenN (aH (regY (al:=[⟨1,21,i32 (List.replicate n 0),10⟩,⟨3,21,i32 (List.replicate n 0),12⟩,⟨5,21,i32 (List.replicate n 0),14⟩]) (G:=fun _=>G) (E:=[1,3,5]) (k:=6) (ds:=[4,16,17]) cA rfl hS rfl rfl (by kernel_rfl) (by kernel_rfl) rfl (by decide) rfl (bJ 1 rfl (isV _) (syV bT [(3,_)] rfl rfl (fun _=>(aL rfl)) (fun _=>⟨cD rfl,trivial⟩) (fun s w hw=>aV rfl) (aG rfl)) ?_))))))))))))))
 refine bJ 2 rfl (kL w.heap.size (n)) (sR (m:=n) (cs:=i32 (List.replicate n 0)) (jx:=0) ⟨1,21,i32 (List.replicate n 0),10⟩ rfl rfl underlying59 dZ rfl (mO n) (by show (4:Int) * _≤_;omega) (by omega) (by kernel_rfl) (aC rfl rfl rfl) List.mem_cons_self rfl rfl rfl (.inr rfl) (by show List.Nodup [1,3,5];decide) rfl (fun _ _=>rfl) (aG rfl)) ?_
 refine bJ 3 rfl (isV _) (syV bT [(3,_)] rfl rfl (fun _=>(aL rfl)) (fun _=>⟨cD rfl,trivial⟩) (fun s w hw=>aV rfl) (aG rfl)) ?_
 refine bJ 4 rfl (kL w.heap.size (n)) (sR (m:=n) (cs:=i32 (List.replicate n 0)) (jx:=2) ⟨3,21,i32 (List.replicate n 0),12⟩ rfl rfl underlying59 dZ rfl (mO n) (by show (4:Int) * _≤_;omega) (by omega) (by kernel_rfl) (aC rfl rfl rfl) (List.mem_cons_of_mem _ List.mem_cons_self) rfl rfl rfl (.inr rfl) (by show List.Nodup [1,3,5];decide) rfl (fun _ _=>rfl) (aG rfl)) ?_
 refine bJ 5 rfl (isV _) (syV bT [(3,_)] rfl rfl (fun _=>(aL rfl)) (fun _=>⟨cD rfl,trivial⟩) (fun s w hw=>aV rfl) (aG rfl)) ?_
 refine bJ 6 rfl (kL w.heap.size (n)) (sR (m:=n) (cs:=i32 (List.replicate n 0)) (jx:=4) ⟨5,21,i32 (List.replicate n 0),14⟩ rfl rfl underlying59 dZ rfl (mO n) (by show (4:Int) * _≤_;omega) (by omega) (by kernel_rfl) (aC rfl rfl rfl) (List.mem_cons_of_mem _ (List.mem_cons_of_mem _ List.mem_cons_self)) rfl rfl rfl (.inr rfl) (by show List.Nodup [1,3,5];decide) rfl (fun _ _=>rfl) (aG rfl)) ?_
 refine oY ?_
 intro s1 W1 Ks1 hall1 hsz1 hKs1 hS' hcov1 hfx1 hno1
 obtain ⟨v1_1,h1_1⟩:=hall1 1 rfl
 obtain ⟨v1_3,h1_3⟩:=hall1 3 rfl
 obtain ⟨v1_5,h1_5⟩:=hall1 5 rfl
 have f1_1:AwS _ _ (kL w.heap.size (n)) _ _:=hfx1 1 rfl _ h1_1
 obtain ⟨B1_1,rfl,hB1_1⟩:=f1_1.here
 have f1_3:AwS _ _ (kL w.heap.size (n)) _ _:=hfx1 3 rfl _ h1_3
 obtain ⟨B1_3,rfl,hB1_3⟩:=f1_3.here
 have f1_5:AwS _ _ (kL w.heap.size (n)) _ _:=hfx1 5 rfl _ h1_5
 obtain ⟨B1_5,rfl,hB1_5⟩:=f1_5.here
 clear hS;have hS:=hS'.castO (O':=((B1_1,_,21)::(B1_3,_,21)::(B1_5,_,21)::Ot)) (by simp only [OY,lM,AB.cs,h1_1,h1_3,h1_5,hno1 10 rfl,hno1 12 rfl,hno1 14 rfl];rfl);clear hS'
 refine nF (L':=[AwS _ _ (isV _),isE s1 1,AwS _ _ (isV _),isE s1 3,AwS _ _ (isV _),isE s1 5]) rfl (bB ?_)
 refine eO ?_;intro u hu;obtain rfl:=Option.some.inj (h1_1.symm.trans hu);clear hu
 refine bB ?_
 refine eO ?_;intro u hu;obtain rfl:=Option.some.inj (h1_3.symm.trans hu);clear hu
 refine bB ?_
 refine eO ?_;intro u hu;obtain rfl:=Option.some.inj (h1_5.symm.trans hu);clear hu
 refine cN (dP (us:=[(0,.slice _ _ _),(1,.slice _ _ _),(2,.slice _ _ _)]) rfl (sV _ _ _ _ _ _ _ _ _) rfl (cI (cs:=[_,_,_,_,_,_]) hS rfl rfl rfl fun B2 W2 hS=>aB rfl rfl (aK (XF.thenN (aH (aN (aA rfl rfl (aA rfl rfl (aA rfl rfl (bK (us:=[(0,.int .i32 _)]) hS underlying59 sizeOf21 zeroValue21 rfl rfl rfl (eH _) rfl fun B3 W3 hS=>aA rfl rfl (eE underlying3 underlying21 rfl (by omega) rfl (bK (us:=[(0,.int .i32 _)]) hS underlying59 sizeOf21 zeroValue21 rfl rfl rfl (eH _) rfl fun B4 W4 hS=>bK (us:=[(0,.int .i32 _)]) hS underlying59 sizeOf21 zeroValue21 rfl rfl rfl (eH _) rfl fun B5 W5 hS=>bM rfl rfl (aU (o':=3) eC rfl rfl rfl (bL (i:=3) (cs':=[_,_,_,_,_,_]) (O':=(_::_::_::_::_::_::_::Ot)) hS sizeOf59 rfl rfl rfl rfl rfl rfl rfl fun W6 hS=>bM rfl rfl (aU (o':=4) iI rfl rfl rfl (bL (i:=3) (cs':=[_,_,_,_,_,_]) (O':=(_::_::_::_::_::_::_::Ot)) hS sizeOf59 rfl rfl rfl rfl rfl rfl rfl fun W7 hS=>bM rfl rfl (aU (o':=5) gV rfl rfl rfl (bL (i:=3) (cs':=[_,_,_,_,_,_]) (O':=(_::_::_::_::_::_::_::Ot)) hS sizeOf59 rfl rfl rfl rfl rfl rfl rfl fun W8 hS=>aK (XF.thenN (aH (aH ?_)))))))))))))))))))))
 have hS':=hS.perm uO.symm;clear hS
 have hS:=hS'.castO (O':=((B2,[.slice (some ⟨B1_1,0,none⟩) n n,.slice (some ⟨B1_3,0,none⟩) n n,.slice (some ⟨B1_5,0,none⟩) n n,.slice (some ⟨B3,0,none⟩) 1 1,.slice (some ⟨B4,0,none⟩) 1 1,.slice (some ⟨B5,0,none⟩) 1 1],87)::(B1_1,i32 (rgz n (0)),21)::(B1_3,i32 (rgz n (0)),21)::(B1_5,i32 (List.replicate n 0),21)::(B3,i32 ([0])++([]:List Value),21)::(B4,i32 ([n])++([]:List Value),21)::(B5,i32 ([0])++([]:List Value),21)::Ot)) (by rw [uX];rfl);clear hS'
 refine aN (aA rfl rfl (aA rfl rfl (aK (XF.thenN (bH (cW (fun m l W=>∃ (i:Nat),i≤n∧m=n - i∧l=[(0,.slice aa n ac),(3,.int .i64 (n:Int)),(4,.pointer (some ⟨B2,0,none⟩)),(32,.int .i64 (n:Int)),(33,.int .i64 (i:Int))]∧St w0 ((B2,[.slice (some ⟨B1_1,0,none⟩) n n,.slice (some ⟨B1_3,0,none⟩) n n,.slice (some ⟨B1_5,0,none⟩) n n,.slice (some ⟨B3,0,none⟩) 1 1,.slice (some ⟨B4,0,none⟩) 1 1,.slice (some ⟨B5,0,none⟩) 1 1],87)::(B1_1,i32 (rgz n (i)),21)::(B1_3,i32 (rgz n (i)),21)::(B1_5,i32 (List.replicate n 0),21)::(B3,i32 ([0])++([]:List Value),21)::(B4,i32 ([n])++([]:List Value),21)::(B5,i32 ([0])++([]:List Value),21)::Ot) G K W) (n - 0) ([(0,_),(3,_),(4,_),(32,_),(33,_)]) ⟨rfl,rfl,rfl,rfl,rfl,trivial⟩ (⟨0,Nat.zero_le _,rfl,rfl,hS.keep K (fun q hq=>by simp [hq])⟩) ?_))))))
 clear hS
 rintro m l W ⟨i,hi,rfl,rfl,hS⟩
 refine aH (aN (cH rfl rfl rfl (aK (XF.thenN (aH (bS rfl (fun hc=>?_) (fun hc=>?_)))))))
 ·have hc34:=of_decide_eq_true hc;clear hc
  refine bV (XF.thenN (aH (bH (aH (aN (aA rfl rfl (aB rfl rfl (aK (XF.thenN (regS (ef:=15) (jy:=11) (ca:=rC (fun _=>[])) (ta:=fun _=>0) (Os:=osY _ 1 (0+i * 1) B1_1 (i32 (rgz n i)) 21) (Gs:=wM _) (al:=[]) (k:=16) (ds:=[51]) cA rfl hS rfl (by kernel_rfl) (by kernel_rfl) rfl (by decide) rfl some (.inl ⟨rfl,rfl⟩) rfl rfl (bD 1 rfl rfl (isV _) (fun hNo=>sgV [(4,_)] rfl rfl rfl rfl hNo (aL rfl) ⟨cD rfl,trivial⟩ (fun ev w he hw=>aV rfl) (aG rfl)) (bD 2 rfl rfl (isV _) (fun hNo=>sgV [(36,_)] rfl rfl rfl rfl hNo (aL rfl) ⟨aJ 0 (aC rfl rfl rfl),trivial⟩ (fun ev w he hw=>bP rfl) (aG rfl)) (bD 3 rfl rfl (isV _) (fun hNo=>sgV [(37,_)] rfl rfl rfl rfl hNo (aL rfl) ⟨aJ 1 (aC rfl rfl rfl),trivial⟩ (fun ev w he hw=>bA (o':=0) kE rfl rfl) (aG rfl)) (bD 4 rfl rfl (isV _) (fun hNo=>sgV [(38,_)] rfl rfl rfl rfl hNo (aL rfl) ⟨aJ 2 (aC rfl rfl rfl),trivial⟩ (fun ev w he hw=>aY isAgg59 rfl ((aD (hw.at_ 0 (oG (i:=0) (j:=1) rfl rfl)) rfl))) (aG rfl)) (bD 5 rfl rfl (isV _) (fun hNo=>sgV [(5,_)] rfl rfl rfl rfl hNo (aL rfl) ⟨cD rfl,trivial⟩ (fun ev w he hw=>aV rfl) (aG rfl)) (bD 6 rfl rfl (isV _) (fun hNo=>sgV [(4,_)] rfl rfl rfl rfl hNo (aL rfl) ⟨cD rfl,trivial⟩ (fun ev w he hw=>aV rfl) (aG rfl)) (bD 7 rfl rfl (isV _) (fun hNo=>sgV [(41,_)] rfl rfl rfl rfl hNo (aL rfl) ⟨aJ 5 (aC rfl rfl rfl),trivial⟩ (fun ev w he hw=>bP rfl) (aG rfl)) (bD 8 rfl rfl (isV _) (fun hNo=>sgV [(42,_)] rfl rfl rfl rfl hNo (aL rfl) ⟨aJ 6 (aC rfl rfl rfl),trivial⟩ (fun ev w he hw=>bA (o':=1) pC rfl rfl) (aG rfl)) (bD 9 rfl rfl (isV _) (fun hNo=>sgV [(43,_)] rfl rfl rfl rfl hNo (aL rfl) ⟨aJ 7 (aC rfl rfl rfl),trivial⟩ (fun ev w he hw=>aY isAgg59 rfl ((aD (hw.at_ 0 (oG (i:=0) (j:=1) rfl rfl)) rfl))) (aG rfl)) (bD 10 rfl rfl (isV _) (fun hNo=>sgV [(5,_)] rfl rfl rfl rfl hNo (aL rfl) ⟨cD rfl,trivial⟩ (fun ev w he hw=>aV rfl) (aG rfl)) (bD 11 rfl rfl (isV _) (fun hNo=>sgV [(5,_)] rfl rfl rfl rfl hNo (aL rfl) ⟨cD rfl,trivial⟩ (fun ev w he hw=>aV rfl) (aG rfl)) (bD 12 rfl rfl (isV _) (fun hNo=>sgV [(46,_)] rfl rfl rfl rfl hNo (aL rfl) ⟨aJ 10 (aC rfl rfl rfl),trivial⟩ (fun ev w he hw=>iN underlying3 underlying21 rfl (by omega)) (aG rfl)) (bD 13 rfl rfl (isV _) (fun hNo=>sgV [(5,_)] rfl rfl rfl rfl hNo (aL rfl) ⟨cD rfl,trivial⟩ (fun ev w he hw=>aV rfl) (aG rfl)) (bD 14 rfl rfl (isV _) (fun hNo=>sgV [(48,_)] rfl rfl rfl rfl hNo (aL rfl) ⟨aJ 12 (aC rfl rfl rfl),trivial⟩ (fun ev w he hw=>iN underlying3 underlying21 rfl (by omega)) (aG rfl)) (bD 15 rfl rfl (isV _) (fun hNo=>sgV [(39,_),(40,_)] rfl rfl rfl rfl hNo (aL rfl) ⟨aJ 3 (aC rfl rfl rfl),aJ 4 (aC rfl rfl rfl),trivial⟩ (fun ev w he hw=>bE (j:=i) underlying59 sizeOf21 rfl rfl (rfl) (by omega) rfl) (aG rfl)) ?_)))))))))))))))))))))))))
  refine sK 16 rfl (sU (py:=isV _) (m:=1) 1 (0+i * 1) [(50,_)] rfl rfl rfl rfl (by kernel_rfl) rfl rfl (fun j hj=>by rcases hj with h | rfl<;>first | (cases h<;>rfl) | rfl) ⟨aJ 14 (aC rfl rfl rfl),trivial⟩ rfl rfl sizeOf21 (fun v w e=>⟨[v],by rw [show v=_ from e];rfl,rfl,by rw [show v=_ from e];rfl⟩) (Nat.ble_eq_true_of_le (by rw [cB,sW hi];show _+1≤_;omega))) ?_
  refine nC ?_
  intro Bf9 y9 W9 Ks9 hsz9 hKs9 hS' hcov9
  clear hS;have hS:=hS'.castO (O':=(_::_::_::_::_::_::_::Ot)) rfl;clear hS'
  refine nF (L':=[AwS _ _ (isV _),AwS _ _ (isV _),AwS _ _ (isV _),AwS _ _ (isV _),AwS _ _ (isV _),AwS _ _ (isV _),AwS _ _ (isV _),AwS _ _ (isV _),AwS _ _ (isV _),AwS _ _ (isV _),AwS _ _ (isV _),(fun v0_ w0_=>v0_=_∧AwS _ _ (isV _) v0_ w0_),AwS _ _ (isV _),AwS _ _ (isV _),AwS _ _ (isV _),isV _]) rfl (bB (bB (bB (bB (bB (bB (bB (bB (bB (bB (bB ?_)))))))))))
  refine eO ?_;rintro _ ⟨rfl,hA9⟩;have hA9:=hA9.here;cases hA9
  refine bB (bB (bB (pV ?_)))
  have hS:=hS.castO (O':=(_::(B1_1,i32 ((rgz n i).set i i),_)::_::_::_::_::_::Ot)) (by show (_::(_,fR _ _ [_],_)::_)=_;rw [mN rfl])
  refine cN (aX (j:=i) underlying59 sizeOf21 rfl rfl (rfl) (by omega) rfl rfl ?_)
  refine bL (i:=2) (cs':=i32 ((rgz n i).set i i)) (O':=(_::_::_::_::_::_::_::Ot)) hS sizeOf21 rfl rfl rfl rfl (Nat.ble_eq_true_of_le (by rw [cB,sW (by omega)];omega)) (fY rfl) rfl fun W72 hS=>?_
  refine aK (XF.blkN (XF.thenN (aN (bY rfl rfl (IntWalk.i64_in _ (by omega)) rfl (aA rfl rfl (aK ?_))))))
  rw [yU (by omega)] at hS
  exact XF.round (n - (i+1)) [(0,_),(3,_),(4,_),(32,_),(33,_)] (by omega) ⟨rfl,rfl,rfl,rfl,rfl,trivial⟩ ⟨i+1,by omega,rfl,rfl,hS.keep K (fun q hq=>by simp [hq])⟩
 ·have hc34:=of_decide_eq_false hc;clear hc
  have ein:i=n:=by omega
  rw [ein,yT] at hS
  refine cV (XF.thenX (XF.thenX (XF.blkX (XF.thenN (aH (aH (aN (aA rfl rfl (bX underlying23 rfl rfl (aA rfl rfl (aK (XF.thenN (bH (cW (fun m l W=>∃ (i:Nat) (P:PT) (T:List Nat),i≤n∧m=n - i∧l=[(4,.pointer (some ⟨B2,0,none⟩)),(53,.slice aa n ac),(54,.int .i64 (n:Int)),(55,.int .i64 (i:Int))]∧MI n (kY n) (fun s=>s < i∧bs.getD s false=true) P T∧St w0 ((B2,[.slice (some ⟨B1_1,0,none⟩) n n,.slice (some ⟨B1_3,0,none⟩) n n,.slice (some ⟨B1_5,0,none⟩) n n,.slice (some ⟨B3,0,none⟩) 1 1,.slice (some ⟨B4,0,none⟩) 1 1,.slice (some ⟨B5,0,none⟩) 1 1],87)::(B1_1,i32 (P.al),21)::(B1_3,i32 (P.pl),21)::(B1_5,i32 (P.bk),21)::(B3,i32 (P.fs)++([]:List Value),21)::(B4,i32 (P.sz)++([]:List Value),21)::(B5,i32 (P.mr)++([]:List Value),21)::Ot) G K W) (n - 0) ([(4,_),(53,_),(54,_),(55,_)]) ⟨rfl,rfl,rfl,rfl,trivial⟩ (⟨0,kY n,[],Nat.zero_le _,rfl,rfl,(MI.start (pini_ok hn0) (fun s _=>pini_un s)).imp (fun t ht=>⟨fun h=>h.elim,fun h=>by omega⟩),hS.keep K (fun q hq=>by simp [hq])⟩) ?_))))))))))))))
  clear hS
  rintro m l W ⟨i,P,T,hi,rfl,rfl,hM,hS⟩
  refine aH (aN (cH rfl rfl rfl (aK (XF.thenN (aH (bS rfl (fun hc=>?_) (fun hc=>?_)))))))
  ·have hc56:=of_decide_eq_true hc;clear hc
   obtain ⟨b5,o5,rfl,hc5⟩:=fE.get (hB hS hKt) (i:=i) (by omega)
   refine bV (XF.thenN (aH (bH (aH (aN (aA rfl rfl (aX  underlying23 sizeOf4 rfl rfl rfl (by omega) rfl rfl (aP isAgg4 rfl (hc5) rfl (aB rfl rfl (aB rfl rfl (aK (XF.thenN (aH (aN (aA rfl rfl (aK (XF.thenN (bS rfl (fun hc=>?_) (fun hc=>?_)))))))))))))))))))
   ·have hc60:=hc;clear hc
    have hM2:=hM.step (s:=i) (by omega)
    refine aN (aA rfl rfl (aA rfl rfl (eE underlying3 underlying21 rfl (by omega) rfl ?_)))
    refine bW (vs:=[_,_]) yR rfl (uW n 1 P B2 B1_1 B1_3 B1_5 B3 B4 B5 1 1 1 [] [] [] Ot G _ w0 _ i hS hM.inv (by rw [hM.fs];rfl) hn (by omega)) rfl ?_
    rintro e W9 ⟨rfl,hS9⟩
    refine ⟨_,rfl,?_⟩
    clear hS;have hS:=hS9;clear hS9
    have ho:=qC hM.inv (s:=i) (by omega)
    rw [← ho.bk,← ho.fs,← ho.sz] at hS
    refine aK (XF.blkN (XF.thenN (aN (bY rfl rfl (IntWalk.i64_in _ (by omega)) rfl (aA rfl rfl (aK ?_))))))
    exact XF.round (n - (i+1)) [(4,_),(53,_),(54,_),(55,_)] (by omega) ⟨rfl,rfl,rfl,rfl,trivial⟩ ⟨i+1,jG P i,_,by omega,rfl,rfl,hM2.imp (fun t ht=>mset_T hc60),hS.keep K (fun q hq=>by simp [hq])⟩
   ·have hc60:=hc;clear hc
    refine bV (XF.blkN (XF.thenN (aN (bY rfl rfl (IntWalk.i64_in _ (by omega)) rfl (aA rfl rfl (aK ?_))))))
    exact XF.round (n - (i+1)) [(4,_),(53,_),(54,_),(55,_)] (by omega) ⟨rfl,rfl,rfl,rfl,trivial⟩ ⟨i+1,P,T,by omega,rfl,rfl,hM.imp (fun t ht=>mset_F hc60),hS.keep K (fun q hq=>by simp [hq])⟩
  ·have hc56:=of_decide_eq_false hc;clear hc
   have ein:i=n:=by omega
   have hM9:=hM.imp (Y:=fun s=>bs.getD s false=true) (fun t ht=>⟨fun h=>h.2,fun h=>⟨by omega,h⟩⟩)
   have e1:P.fs.length=1:=by rw [hM9.fs];rfl
   refine cV (XF.thenX (XF.thenX (XF.blkX (XF.thenN (aH (aN (aA rfl rfl ?_)))))))
   refine bW (vs:=[_,_]) yS rfl (rN n P B2 B1_1 B1_3 B1_5 B3 B4 B5 1 1 1 [] [] [] Ot G _ w0 _ 0 (by rw [hM9.fs];rfl) (by rw [hM9.sz];rfl) (by rw [List.length_append,cB,hM9.inv.lm,e1];rfl) (by decide) (by decide) (by decide) (by rw [e1];exact hS) hM9.inv hn (by rw [e1];decide)) rfl ?_
   rintro e W9 ⟨rfl,hP9⟩
   refine ⟨_,rfl,?_⟩
   refine aK (XF.thenN (aH (aN (aA rfl rfl (aB rfl rfl (aK (XF.thenN (cK (XF.res (cZ results52 rfl) ?_)))))))))
   exact ⟨B2,B1_1,B1_3,B1_5,P,T,rfl,hM9,hP9.keep (fun q hq=>by simp [hq])⟩
theorem uY (v0a:Option Addr) (v0l:Nat) (v0c:Nat) (v1a:Option Addr) (v1l:Nat) (v1c:Nat):prog.built 102 [(0,.slice v0a v0l v0c),(1,.slice v1a v1l v1c)]=some #[.slice v0a v0l v0c,.slice v1a v1l v1c]:=by kernel_rfl
theorem jW (w:World) (b o:Nat):(Instr.fieldAt 102 (.pointer (some ⟨b,o,none⟩)) 0).run prog w = .ok (.pointer (some ⟨b,o+0,none⟩)) w:=by
 simp [Instr.fieldAt,run_underlying underlying102,Instr.sureAddr,go_sem,Addr.add_lit]
theorem uZ (w:World) (b o:Nat):(Instr.fieldAt 102 (.pointer (some ⟨b,o,none⟩)) 1).run prog w = .ok (.pointer (some ⟨b,o+1,none⟩)) w:=by
 simp [Instr.fieldAt,run_underlying underlying102,Instr.sureAddr,go_sem,Addr.add_lit]
theorem iJ (w:World) (b o:Nat):(Instr.fieldAt 61 (.pointer (some ⟨b,o,none⟩)) 0).run prog w = .ok (.pointer (some ⟨b,o+0,none⟩)) w:=by
 simp [Instr.fieldAt,run_underlying underlying61,Instr.sureAddr,go_sem,Addr.add_lit]
theorem iK (w:World) (b o:Nat):(Instr.fieldAt 61 (.pointer (some ⟨b,o,none⟩)) 1).run prog w = .ok (.pointer (some ⟨b,o+1,none⟩)) w:=by
 simp [Instr.fieldAt,run_underlying underlying61,Instr.sureAddr,go_sem,Addr.add_lit]
theorem eZ (w:World) (b o:Nat):(Instr.fieldAt 61 (.pointer (some ⟨b,o,none⟩)) 2).run prog w = .ok (.pointer (some ⟨b,o+2,none⟩)) w:=by
 simp [Instr.fieldAt,run_underlying underlying61,Instr.sureAddr,go_sem,Addr.add_lit]
theorem Bx {P:Program} {n:Nat} {Q:Exit→Act→World→Prop} {os:List Oper} {ops:Array Oper} {l:Fr} {W:World} {d:Nat} {ty:TypeId} {pos:String} {aft:Array Edge} {T e:TypeId} {x y z:Operand} {k1 k2:IntKind} {a:Option Addr} {m c i L s:Nat} {i1 j1:Int} (hU:P.underlying T=some (.slice e)) (hs:∀ w,(sizeOf e).run P w = .ok s w) (hx:evL l x=some (.slice a m c)) (hy:evL l y=some (.int k1 i1)) (hz:evL l z=some (.int k2 j1)) (hi:i1=(i:Int)) (hj:j1=(i:Int)+(L:Int)) (hjc:i+L≤c) (hd:Nat.blt d n=true) (h:cJ P n ops Q os ((d,.slice (fV a c i s) L (c - i))::l) W):cJ P n ops Q (⟨some d,.slice T x (some y) (some z) none,ty,pos,aft,none⟩::os) l W:=opV (by
 have h9:=yN (P:=P) (d:=d) (ty:=ty) (pos:=pos) (aft:=aft) (W:=W) (i:=i) (j:=i+L) hU hs hx hy hz hi (by omega) (by omega) hjc
 rwa [Nat.add_sub_cancel_left] at h9) hd h
theorem wW {f:Nat→Nat} {t:Nat}:∀ {m:Nat},cnt f t m≤m
 | 0=>Nat.le_refl _
 | m+1=>by
  have:=wW (f:=f) (t:=t) (m:=m)
  rw [cnt];split<;>omega
theorem pD {W:World} {A:Nat} {L:List Nat} {T:TypeId} (h:W.heap[A]?=some (.cells (i32 L).toArray T (0,0))):R32 W (some ⟨A,0,none⟩) L:=fun i x hi=>⟨A,0,rfl,by
 rw [Nat.zero_add,Nat.mul_one]
 exact aD h (by unfold i32;rw [List.getElem?_map,hi];rfl)⟩
theorem St.ownKeep {w0 W:World} {O:Own} {G:bN} {K:List (Nat×World)} {b:Nat} {cs:List Value} {T:TypeId} (h:St w0 ((b,cs,T)::O) G K W):∃ Kn,(∀ q∈K,q∈Kn)∧cL w0 Kn (fun W2=>W2.heap[b]?=some (.cells cs.toArray T (0,0)))∧St w0 O G Kn W:=by
 have h1:=h.own _ List.mem_cons_self
 have hlt:=dF h1.2
 refine ⟨(b,lX W b)::K,fun q hq=>List.mem_cons_of_mem _ hq,fun h2 hk=>?_,h.tail.markBlk hlt (fun p hp e=>(List.pairwise_cons.1 h.dist).1 p hp e.symm) (fun g hg k hk e=>((h.rows g hg).2 k hk).1 _ List.mem_cons_self e.symm)⟩
 have h3:=(h2.kept _ (hk _ List.mem_cons_self)).1.2 b (Nat.le_refl _) (sO hlt)
 exact h3.trans ((oZ hlt).trans h1.2)
theorem cL.moreK {w0:World} {K1 K2:List (Nat×World)} {p:World→Prop} (h:cL w0 K1 p) (hk:∀ q∈K1,q∈K2):cL w0 K2 p:=fun h2 hq=>h h2 (fun q h9=>hq q (hk q h9))
theorem TAt.next {t:TB} {W:World} {s x:Nat} (h:TAt t W) (hT:TOk t) (hs:s < t.n) (hx:x < t.k):∃ b off,t.na=some ⟨b,off,none⟩∧W.cell? ⟨b,off+(s * t.k+x) * 1,none⟩=some (.int .i32 ((t.fa.nx s x:Nat):Int)):=h.1.get (by rw [hT.len];exact (hT.ix hs hx).1)
theorem oH (t:TB) (s:Nat) (w:World) (hT:TOk t) (hs:s < t.n) :
  Calls prog 55 #[t.val,.int .i64 (s:Int)] w (fun e w'=>e = .returned (.slice (fV t.na t.nc (s * t.k) 1) t.k (t.nc - s * t.k))∧Below w.heap.size w w'):=by
 refine cP (args:=[t.val,.int .i64 (s:Int)]) func55 rfl ntmps55 rfl ?_
 have hS:=St.start w
 have hn1:=hT.n1
 refine aH (aN (cI (cs:=[_,_,_]) hS rfl rfl rfl fun B1 W1 hS=>aB rfl rfl (aK (XF.thenN (aH (aN (aU (o':=1) iK rfl rfl rfl (aP isAgg59 rfl (aD (hS.at_ 0 rfl) rfl) rfl (aA rfl rfl (aU (o':=0) iJ rfl rfl rfl (aP isAgg3 rfl (aD (hS.at_ 0 rfl) rfl) rfl ?_)))))))))))
 refine nV rfl rfl (IntWalk.i64_in _ (by have h9:=hT.mul (s:=s) (by omega);have h8:(s:Int) * (t.k:Int)=((s * t.k:Nat):Int):=(Int.natCast_mul _ _).symm;omega)) rfl ?_
 refine aA rfl rfl (bY rfl rfl (IntWalk.i64_in _ (by omega)) rfl (aU (o':=0) iJ rfl rfl rfl (aP isAgg3 rfl (aD (hS.at_ 0 rfl) rfl) rfl ?_)))
 refine nV rfl rfl (IntWalk.i64_in _ (by have h9:=hT.mul (s:=s+1) (by omega);have h8:((s:Int)+1) * (t.k:Int)=(((s+1) * t.k:Nat):Int):=(by rw [Int.natCast_mul];rfl);omega)) rfl ?_
 refine Bx (i:=s * t.k) (L:=t.k) underlying59 sizeOf21 rfl rfl rfl (Int.natCast_mul _ _).symm (by rw [Int.natCast_mul,Int.add_mul,Int.one_mul]) (by have h9:=hT.mul (s:=s+1) (by omega);have h8:=hT.cap;rw [Nat.succ_mul] at h9;omega) rfl ?_
 refine aB rfl rfl (aK (XF.thenN (cK (XF.res (cZ results55 rfl) ?_))))
 exact ⟨rfl,hS.below⟩
theorem Ag (t:TB) (sym:Nat) (Kt:List (Nat×World)) (Ot:Own) (G:bN) (K:List (Nat×World)) (w0 w:World) (hS0:St w0 Ot G K w) (hKt:∀ q∈Kt,q∈K) (hB:cL w0 Kt (TAt t)) (hT:TOk t) (hy:sym < t.k) :
  Calls prog 63 #[t.val,.int .i64 (sym:Int)] w (fun e w'=>∃ (A F:Nat) (L U:List Nat) (Kn:List (Nat×World)),e = .returned (.agg #[.slice (some ⟨A,0,none⟩) (t.n+1) (t.n+1),.slice (some ⟨F,0,none⟩) t.n t.n])∧BkOk (fun s=>t.fa.nx s sym) t.n L U∧(∀ q∈K,q∈Kn)∧cL w0 Kn (fun W=>R32 W (some ⟨A,0,none⟩) L∧R32 W (some ⟨F,0,none⟩) U)∧St w0 Ot G Kn w'):=by
 refine cP (args:=[t.val,.int .i64 (sym:Int)]) func63 rfl ntmps63 rfl ?_
 have hS:=hS0
 have hn1:=hT.n1
 have hk1:=hT.k1
 have hp:=hT.pos
 refine aH (aN (cI (cs:=[_,_,_]) hS rfl rfl rfl fun B1 W1 hS=>cE (cs:=[_,_]) hS zeroValue102 rfl rfl fun B2 W2 hS=>aK (XF.thenN (aH (aN (aU (o':=2) eZ rfl rfl rfl (aP isAgg23 rfl (aD (hS.at_ 1 rfl) rfl) rfl (bX underlying23 rfl rfl (aB rfl rfl (aK (XF.thenN (aH (regY (al:=[⟨2,21,i32 (List.replicate (t.n+1) 0),10⟩,⟨4,21,i32 (List.replicate t.n 0),12⟩,⟨6,102,[.slice none 0 0,.slice none 0 0],14⟩]) (G:=jH G 5 (uQ 2 4 5)) (E:=[2,4,5,6]) (k:=7) (ds:=[]) cA rfl hS rfl rfl (by kernel_rfl) (by kernel_rfl) rfl (by decide) rfl (bJ 1 rfl (isV _) (syV bT [(5,_)] rfl rfl (fun _=>(aL rfl)) (fun _=>⟨cD rfl,trivial⟩) (fun s w hw=>aV rfl) (aG rfl)) (bJ 2 rfl (isV _) (syV bT [(15,_)] rfl rfl (fun _=>(aL rfl)) (fun _=>⟨aJ 0 (gA rfl rfl (aC rfl rfl rfl)),trivial⟩) (fun s w hw=>iB rfl rfl (IntWalk.i64_in _ (by omega))) (aG rfl)) ?_)))))))))))))))
 refine bJ 3 rfl (kL W2.heap.size (t.n+1)) (uP (m:=t.n+1) (cs:=i32 (List.replicate (t.n+1) 0)) (jx:=1) ⟨2,21,i32 (List.replicate (t.n+1) 0),10⟩ rfl rfl underlying59 dZ rfl (mO _) (by show (4:Int) * _≤_;omega) (by omega) (by kernel_rfl) (aC rfl rfl rfl) List.mem_cons_self rfl rfl rfl (.inr rfl) (by show List.Nodup [2,4,6];decide) rfl (fun s v hk=>uR (hk.no 5 (by kernel_rfl)) (by decide)) (aG rfl)) ?_
 refine bJ 4 rfl (isV _) (syV bT [(5,_)] rfl rfl (fun _=>(aL rfl)) (fun _=>⟨cD rfl,trivial⟩) (fun s w hw=>aV rfl) (aG rfl)) ?_
 refine bJ 5 rfl (kL W2.heap.size (t.n)) (uP (m:=t.n) (cs:=i32 (List.replicate t.n 0)) (jx:=3) ⟨4,21,i32 (List.replicate t.n 0),12⟩ rfl rfl underlying59 dZ rfl (mO _) (by show (4:Int) * _≤_;omega) (by omega) (by kernel_rfl) (aC rfl rfl rfl) (List.mem_cons_of_mem _ List.mem_cons_self) rfl rfl rfl (.inr rfl) (by show List.Nodup [2,4,6];decide) rfl (fun s v hk=>uR (hk.no 5 (by kernel_rfl)) (by decide)) (aG rfl)) ?_
 refine bJ 6 rfl (anyA) (Br (j1:=2) (j2:=4) rfl rfl rfl rfl (by kernel_rfl) rfl (aC rfl rfl rfl) (by kernel_rfl) rfl (aC rfl rfl rfl) (fun v1 v2 w ⟨B1,e1,_⟩ ⟨B2,e2,_⟩=>by subst e1;subst e2;exact uY _ _ _ _ _ _) (fun s v1 v2 hk h1 h2=>pr_self h1 h2 hk.self (by decide) (by decide)) (aG rfl)) ?_
 refine bJ 7 rfl (Bd W2.heap.size) (Be ⟨6,102,[.slice none 0 0,.slice none 0 0],14⟩ rfl rfl zeroValue102 (List.mem_cons_of_mem _ (List.mem_cons_of_mem _ List.mem_cons_self)) rfl rfl rfl (.inr rfl) (by show List.Nodup [2,4,6];decide) rfl (fun _ _=>pr_far (by decide) (by decide) (by decide)) (aG rfl)) ?_
 refine oY ?_
 intro s3 W3 Ks3 hall3 hsz3 hKs3 hS' hcov3 hfx3 hno3
 obtain ⟨v3_2,h3_2⟩:=hall3 2 rfl
 obtain ⟨v3_4,h3_4⟩:=hall3 4 rfl
 obtain ⟨v3_5,h3_5⟩:=hall3 5 rfl
 obtain ⟨v3_6,h3_6⟩:=hall3 6 rfl
 have f3_2:AwS _ _ (kL W2.heap.size (t.n+1)) _ _:=hfx3 2 rfl _ h3_2
 obtain ⟨B3_2,rfl,hB3_2⟩:=f3_2.here
 have f3_4:AwS _ _ (kL W2.heap.size (t.n)) _ _:=hfx3 4 rfl _ h3_4
 obtain ⟨B3_4,rfl,hB3_4⟩:=f3_4.here
 have f3_6:AwS _ _ (Bd W2.heap.size) _ _:=hfx3 6 rfl _ h3_6
 obtain ⟨B3_6,rfl,hB3_6⟩:=f3_6.here
 clear hS;have hS:=hS'.castO (O':=((B3_2,_,21)::(B3_4,_,21)::(B3_6,_,102)::_::_::Ot)) (by simp only [OY,lM,AB.cs,h3_2,h3_4,h3_6,hno3 10 rfl,hno3 12 rfl,hno3 14 rfl];rfl);clear hS'
 obtain ⟨⟨p1,p2,q1,q2,q3⟩,q4⟩:=Bq hS h3_5
 have hS':=hS.castG q4;clear hS;have hS:=hS';clear hS'
 obtain rfl:=Option.some.inj (h3_2.symm.trans q1)
 obtain rfl:=Option.some.inj (h3_4.symm.trans q2)
 obtain rfl:=Option.some.inj (h3_5.symm.trans q3)
 refine nF (L':=[AwS _ _ (isV _),AwS _ _ (isV _),isE s3 2,AwS _ _ (isV _),isE s3 4,isE s3 5,isE s3 6]) rfl (bB (bB ?_))
 refine eO ?_;intro u hu;obtain rfl:=Option.some.inj (h3_2.symm.trans hu);clear hu
 refine bB ?_
 refine eO ?_;intro u hu;obtain rfl:=Option.some.inj (h3_4.symm.trans hu);clear hu
 refine eO ?_;intro u hu;obtain rfl:=Option.some.inj (h3_5.symm.trans hu);clear hu
 refine eO ?_;intro u hu;obtain rfl:=Option.some.inj (h3_6.symm.trans hu);clear hu
 refine cN (bU (i:=2) (vs:=[_,_]) (cs':=[_,_]) (O':=(_::_::_::_::_::Ot)) hS sizeOf102 rfl rfl rfl rfl rfl rfl rfl fun W4 hS=>aK (XF.thenN (aH (aH ?_))))
 skip
 refine aN (aA rfl rfl (aA rfl rfl (aK (XF.thenN (bH (cW (fun m l W=>∃ (i:Nat) (L:List Nat),i≤t.n∧m=t.n - i∧l=[(1,.int .i64 (sym:Int)),(2,.pointer (some ⟨B1,0,none⟩)),(4,.pointer (some ⟨B2,0,none⟩)),(5,.int .i64 (t.n:Int)),(6,.pointer (some ⟨B3_6,0,none⟩)),(21,.int .i64 (t.n:Int)),(22,.int .i64 (i:Int))]∧B1I (fun s=>t.fa.nx s sym) t.n i L∧St w0 ((B3_2,i32 (L),21)::(B3_4,i32 (List.replicate t.n 0),21)::(B3_6,[.slice (some ⟨B3_2,0,none⟩) (t.n+1) (t.n+1),.slice (some ⟨B3_4,0,none⟩) t.n t.n],102)::(B2,[.slice none 0 0,.slice none 0 0],102)::(B1,t.cells,61)::Ot) G K W) (t.n - 0) ([(1,_),(2,_),(4,_),(5,_),(6,_),(21,_),(22,_)]) ⟨rfl,rfl,rfl,rfl,rfl,rfl,rfl,trivial⟩ (⟨0,_,Nat.zero_le _,rfl,rfl,B1I.start,hS.keep K (fun q hq=>by simp [hq])⟩) ?_))))))
 clear hS
 rintro m l W ⟨i,L,hi,rfl,rfl,hL,hS⟩
 refine aH (aN (cH rfl rfl rfl (aK (XF.thenN (aH (bS rfl (fun hc=>?_) (fun hc=>?_)))))))
 ·have hc23:=of_decide_eq_true hc;clear hc
  refine bV (XF.thenN (aH (bH (aH (aN (aA rfl rfl (aB rfl rfl (aK (XF.thenN ?_)))))))))
  have hi9:i < t.n:=by omega
  obtain ⟨b5,o5,hna,hc5⟩:=TAt.next (hB hS hKt) hT hi9 hy
  have hlt:t.fa.nx i sym < t.n:=hT.fa.t0_ i sym hi9 hy
  have hll:=hL.len
  have hcv:gN L (t.fa.nx i sym+1)=cnt (fun s=>t.fa.nx s sym) (t.fa.nx i sym) i:=hL.at_ _ hlt
  have hcl:=wW (f:=(fun s=>t.fa.nx s sym)) (t:=t.fa.nx i sym) (m:=i)
  refine yA cA 17 hS rfl rfl (by kernel_rfl) (by kernel_rfl) (by kernel_rfl) (fun d hd=>by cases hd) (bR 1 rfl 6 rfl rfl (fun w hw=>bA (o':=0) jW rfl rfl) rfl (bF 2 rfl 25 0 rfl rfl rfl (fun w hw=>aY isAgg59 rfl ((aO hw 0).cell (Nat.zero_le _) (aD (hS.at_ 2 rfl) rfl))) rfl (bR 3 rfl 2 rfl rfl (fun w hw=>bA (o':=1) iK rfl rfl) rfl (bF 4 rfl 27 2 rfl rfl rfl (fun w hw=>aY isAgg59 rfl ((aO hw 0).cell (Nat.zero_le _) (aD (hS.at_ 4 rfl) rfl))) rfl (bR 5 rfl 7 rfl rfl (fun w hw=>aV rfl) rfl (bR 6 rfl 2 rfl rfl (fun w hw=>bA (o':=0) iJ rfl rfl) rfl (bF 7 rfl 30 5 rfl rfl rfl (fun w hw=>aY isAgg3 rfl ((aO hw 0).cell (Nat.zero_le _) (aD (hS.at_ 4 rfl) rfl))) rfl ?_)))))))
  refine aZ 8 rfl (isV _) (aW _) (rgV (li:=[(29,_),(31,_)]) rfl (aL rfl) ⟨aJ 4 (aC rfl rfl rfl),aJ 6 (aC rfl rfl rfl),trivial⟩ (fun w hw=>wG rfl rfl (IntWalk.i64_in _ (by have h9:=hT.mul (s:=i) (by omega);have h8:(i:Int) * (t.k:Int)=((i * t.k:Nat):Int):=(Int.natCast_mul _ _).symm;omega))) (aG rfl)) ?_
  refine bR 9 rfl 1 rfl rfl (fun w hw=>aV rfl) rfl ?_
  refine aZ 10 rfl (isV _) (aW _) (rgV (li:=[(32,_),(33,_)]) rfl (aL rfl) ⟨aJ 7 (aC rfl rfl rfl),aJ 8 (aC rfl rfl rfl),trivial⟩ (fun w hw=>iB rfl rfl (IntWalk.i64_in _ (by have h9:=hT.mul (s:=i) (by omega);have h8:(i:Int) * (t.k:Int)=((i * t.k:Nat):Int):=(Int.natCast_mul _ _).symm;omega))) (aG rfl)) ?_
  refine aZ 11 rfl (isV _) (aW _) (rgV (li:=[(28,_),(34,_)]) rfl (aL rfl) ⟨aJ 3 (aC rfl rfl rfl),aJ 9 (aC rfl rfl rfl),trivial⟩ (fun w hw=>bE (j:=i * t.k+sym) (b:=b5) (o:=o5) (m:=t.n * t.k) (c:=t.nc) underlying59 sizeOf21 (by show some (Value.slice t.na _ _)=_;rw [hna]) rfl (by rw [Int.natCast_add,Int.natCast_mul]) (hT.ix hi9 hy).1 rfl) (aG rfl)) ?_
  refine bF 12 rfl 35 10 rfl rfl rfl (fun w hw=>aY isAgg21 rfl ((aO hw 0).cell (Nat.zero_le _) (hc5))) rfl (bF 13 rfl 36 11 rfl rfl rfl (fun w hw=>iB rfl rfl (IntWalk.i32_in _ (by omega))) rfl (aZ 14 rfl (isV _) (aW _) (rgV (li:=[(26,_),(37,_)]) rfl (aL rfl) ⟨aJ 1 (aC rfl rfl rfl),aJ 12 (aC rfl rfl rfl),trivial⟩ (fun w hw=>bE (j:=t.fa.nx i sym+1) underlying59 sizeOf21 rfl rfl (by omega) (by omega) rfl) (aG rfl)) (bF 15 rfl 38 13 rfl rfl rfl (fun w hw=>aY isAgg21 rfl ((aO hw 0).cell (Nat.zero_le _) (aD (hS.at_ 0 rfl) (gU (by omega))))) rfl (bF 16 rfl 39 14 rfl rfl rfl (fun w hw=>iB rfl rfl (IntWalk.i32_in _ (by omega))) rfl (aZ 17 rfl (isV _) (aW _) (rgV (li:=[(26,_),(37,_)]) rfl (aL rfl) ⟨aJ 1 (aC rfl rfl rfl),aJ 12 (aC rfl rfl rfl),trivial⟩ (fun w hw=>bE (j:=t.fa.nx i sym+1) underlying59 sizeOf21 rfl rfl (by omega) (by omega) rfl) (aG rfl)) (dJ ?_))))))
  intro W5 hbR hS'
  clear hS;have hS:=hS';clear hS'
  refine aI (aI (aI (aI (aI (aI (aI (aI (aI (aI (aI (aI (aI (aI (aI (aI (aI (cN ?_)))))))))))))))))
  refine bL (i:=0) (cs':=i32 (L.set (t.fa.nx i sym+1) (gN L (t.fa.nx i sym+1)+1))) (O':=(_::_::_::_::_::Ot)) hS sizeOf21 rfl rfl rfl rfl (Nat.ble_eq_true_of_le (by rw [cB];omega)) (fY rfl) rfl fun W61 hS=>?_
  refine aK (XF.blkN (XF.thenN (aN (bY rfl rfl (IntWalk.i64_in _ (by omega)) rfl (aA rfl rfl (aK ?_))))))
  have hL2:B1I (fun s=>t.fa.nx s sym) t.n (i+1) (L.set (t.fa.nx i sym+1) (gN L (t.fa.nx i sym+1)+1)):=hL.step hlt
  exact XF.round (t.n - (i+1)) [(1,_),(2,_),(4,_),(5,_),(6,_),(21,_),(22,_)] (by omega) ⟨rfl,rfl,rfl,rfl,rfl,rfl,rfl,trivial⟩ ⟨i+1,_,by omega,rfl,rfl,hL2,hS.keep K (fun q hq=>by simp [hq])⟩
 ·have hc23:=of_decide_eq_false hc;clear hc
  have ein:i=t.n:=by omega
  rw [ein] at hL
  have hL0:=B2I.start hL
  refine cV (XF.thenX (XF.thenX (XF.blkX (XF.thenN (aH (aH (aN (aA rfl rfl (aA rfl rfl (aK (XF.thenN (bH (cW (fun m l W=>∃ (i:Nat) (L:List Nat),i≤t.n∧m=t.n - i∧l=[(1,.int .i64 (sym:Int)),(2,.pointer (some ⟨B1,0,none⟩)),(4,.pointer (some ⟨B2,0,none⟩)),(5,.int .i64 (t.n:Int)),(6,.pointer (some ⟨B3_6,0,none⟩)),(43,.int .i64 (t.n:Int)),(44,.int .i64 (i:Int))]∧B2I (fun s=>t.fa.nx s sym) t.n i L∧St w0 ((B3_2,i32 (L),21)::(B3_4,i32 (List.replicate t.n 0),21)::(B3_6,[.slice (some ⟨B3_2,0,none⟩) (t.n+1) (t.n+1),.slice (some ⟨B3_4,0,none⟩) t.n t.n],102)::(B2,[.slice none 0 0,.slice none 0 0],102)::(B1,t.cells,61)::Ot) G K W) (t.n - 0) ([(1,_),(2,_),(4,_),(5,_),(6,_),(43,_),(44,_)]) ⟨rfl,rfl,rfl,rfl,rfl,rfl,rfl,trivial⟩ (⟨0,_,Nat.zero_le _,rfl,rfl,hL0,hS.keep K (fun q hq=>by simp [hq])⟩) ?_)))))))))))))
  clear hS
  rintro m l W ⟨i,L,hi,rfl,rfl,hL,hS⟩
  refine aH (aN (cH rfl rfl rfl (aK (XF.thenN (aH (bS rfl (fun hc=>?_) (fun hc=>?_)))))))
  ·have hc45:=of_decide_eq_true hc;clear hc
   refine bV (XF.thenN (aH (bH (aH (aN (aA rfl rfl (aB rfl rfl (aK (XF.thenN ?_)))))))))
   have hi9:i < t.n:=by omega
   have hll:=hL.len
   have hc1:=hL.hi i (Nat.le_refl _) hi9
   have hc2:=hL.lo i (Nat.le_refl _)
   have hc3:=wW (f:=(fun s=>t.fa.nx s sym)) (t:=i) (m:=t.n)
   have hc4:=iO (f:=(fun s=>t.fa.nx s sym)) (m:=t.n) (show i≤t.n by omega)
   have e9:=qH (f:=(fun s=>t.fa.nx s sym)) (n:=t.n) (m:=t.n) (fun s hs=>hT.fa.t0_ s sym hs hy)
   rw [e9] at hc4
   refine yA cA 13 hS rfl rfl (by kernel_rfl) (by kernel_rfl) (by kernel_rfl) (fun d hd=>by cases hd) (bR 1 rfl 6 rfl rfl (fun w hw=>bA (o':=0) jW rfl rfl) rfl (bF 2 rfl 47 0 rfl rfl rfl (fun w hw=>aY isAgg59 rfl ((aO hw 0).cell (Nat.zero_le _) (aD (hS.at_ 2 rfl) rfl))) rfl (bR 3 rfl 8 rfl rfl (fun w hw=>aV rfl) rfl (bF 4 rfl 49 2 rfl rfl rfl (fun w hw=>iB rfl rfl (IntWalk.i64_in _ (by omega))) rfl (aZ 5 rfl (isV _) (aW _) (rgV (li:=[(48,_),(50,_)]) rfl (aL rfl) ⟨aJ 1 (aC rfl rfl rfl),aJ 3 (aC rfl rfl rfl),trivial⟩ (fun w hw=>bE (j:=i+1) underlying59 sizeOf21 rfl rfl (by omega) (by omega) rfl) (aG rfl)) (bF 6 rfl 51 4 rfl rfl rfl (fun w hw=>aY isAgg21 rfl ((aO hw 0).cell (Nat.zero_le _) (aD (hS.at_ 0 rfl) (gU (by omega))))) rfl (bR 7 rfl 6 rfl rfl (fun w hw=>bA (o':=0) jW rfl rfl) rfl (bF 8 rfl 53 6 rfl rfl rfl (fun w hw=>aY isAgg59 rfl ((aO hw 0).cell (Nat.zero_le _) (aD (hS.at_ 2 rfl) rfl))) rfl (bR 9 rfl 8 rfl rfl (fun w hw=>aV rfl) rfl (aZ 10 rfl (isV _) (aW _) (rgV (li:=[(54,_),(55,_)]) rfl (aL rfl) ⟨aJ 7 (aC rfl rfl rfl),aJ 8 (aC rfl rfl rfl),trivial⟩ (fun w hw=>bE (j:=i) underlying59 sizeOf21 rfl rfl (rfl) (by omega) rfl) (aG rfl)) (bF 11 rfl 56 9 rfl rfl rfl (fun w hw=>aY isAgg21 rfl ((aO hw 0).cell (Nat.zero_le _) (aD (hS.at_ 0 rfl) (gU (by omega))))) rfl (aZ 12 rfl (isV _) (aW _) (rgV (li:=[(52,_),(57,_)]) rfl (aL rfl) ⟨aJ 5 (aC rfl rfl rfl),aJ 10 (aC rfl rfl rfl),trivial⟩ (fun w hw=>iB rfl rfl (IntWalk.i32_in _ (by omega))) (aG rfl)) (aZ 13 rfl (isV _) (aW _) (rgV (li:=[(48,_),(50,_)]) rfl (aL rfl) ⟨aJ 1 (aC rfl rfl rfl),aJ 3 (aC rfl rfl rfl),trivial⟩ (fun w hw=>bE (j:=i+1) underlying59 sizeOf21 rfl rfl (by omega) (by omega) rfl) (aG rfl)) (dJ ?_))))))))))))))
   intro W6 hbR hS'
   clear hS;have hS:=hS';clear hS'
   refine aI (aI (aI (aI (aI (aI (aI (aI (aI (aI (aI (aI (aI (cN ?_)))))))))))))
   refine bL (i:=0) (cs':=i32 (L.set (i+1) (gN L (i+1)+gN L i))) (O':=(_::_::_::_::_::Ot)) hS sizeOf21 rfl rfl rfl rfl (Nat.ble_eq_true_of_le (by rw [cB];omega)) (fY (by omega)) rfl fun W111 hS=>?_
   refine aK (XF.blkN (XF.thenN (aN (bY rfl rfl (IntWalk.i64_in _ (by omega)) rfl (aA rfl rfl (aK ?_))))))
   exact XF.round (t.n - (i+1)) [(1,_),(2,_),(4,_),(5,_),(6,_),(43,_),(44,_)] (by omega) ⟨rfl,rfl,rfl,rfl,rfl,rfl,rfl,trivial⟩ ⟨i+1,_,by omega,rfl,rfl,hL.step hi9,hS.keep K (fun q hq=>by simp [hq])⟩
  ·have hc45:=of_decide_eq_false hc;clear hc
   have ein:i=t.n:=by omega
   rw [ein] at hL
   have hL9:=hL
   refine cV (XF.thenX (XF.thenX (XF.blkX (XF.thenN (aH (aN (aA rfl rfl ?_)))))))
   refine eX (m:=t.n) (cs:=i32 (List.replicate t.n 0)) hS underlying59 dZ rfl rfl rfl (rfl) (rfl) (mO _) (by show (4:Int) * _≤_;omega) (by omega) rfl fun B7 W7 hS=>?_
   refine aB rfl rfl (aK (XF.thenN (aH (aH (aN (aA rfl rfl (aA rfl rfl (aK (XF.thenN (bH (cW (fun m l W=>∃ (i:Nat) (U F:List Nat),i≤t.n∧m=t.n - i∧l=[(1,.int .i64 (sym:Int)),(2,.pointer (some ⟨B1,0,none⟩)),(4,.pointer (some ⟨B2,0,none⟩)),(5,.int .i64 (t.n:Int)),(6,.pointer (some ⟨B3_6,0,none⟩)),(9,.slice (some ⟨B7,0,none⟩) t.n t.n),(63,.int .i64 (t.n:Int)),(64,.int .i64 (i:Int))]∧B3I (fun s=>t.fa.nx s sym) t.n i U F∧St w0 ((B7,i32 (U),21)::(B3_2,i32 (L),21)::(B3_4,i32 (F),21)::(B3_6,[.slice (some ⟨B3_2,0,none⟩) (t.n+1) (t.n+1),.slice (some ⟨B3_4,0,none⟩) t.n t.n],102)::(B2,[.slice none 0 0,.slice none 0 0],102)::(B1,t.cells,61)::Ot) G K W) (t.n - 0) ([(1,_),(2,_),(4,_),(5,_),(6,_),(9,_),(63,_),(64,_)]) ⟨rfl,rfl,rfl,rfl,rfl,rfl,rfl,rfl,trivial⟩ (⟨0,_,_,Nat.zero_le _,rfl,rfl,B3I.start hp,hS.keep K (fun q hq=>by simp [hq])⟩) ?_)))))))))))
   clear hS
   rintro m l W ⟨i,U,F,hi,rfl,rfl,hF,hS⟩
   refine aH (aN (cH rfl rfl rfl (aK (XF.thenN (aH (bS rfl (fun hc=>?_) (fun hc=>?_)))))))
   ·have hc65:=of_decide_eq_true hc;clear hc
    refine bV (XF.thenN (aH (bH (aH (aN (aA rfl rfl (aB rfl rfl (aK (XF.thenN (aH ?_))))))))))
    have hi9:i < t.n:=by omega
    obtain ⟨b5,o5,hna,hc5⟩:=TAt.next (hB hS hKt) hT hi9 hy
    have hlt:t.fa.nx i sym < t.n:=hT.fa.t0_ i sym hi9 hy
    have hll:=hL9.len
    have hlu:=hF.lu
    have hlf:=hF.lf
    have e9:gN L (t.fa.nx i sym)=gD (fun s=>t.fa.nx s sym) t.n (t.fa.nx i sym):=hL9.lo _ (Nat.le_of_lt hlt)
    have hat:gD (fun s=>t.fa.nx s sym) t.n (t.fa.nx i sym)+gN U (t.fa.nx i sym) < t.n∧gN U (t.fa.nx i sym) < t.n:=hF.at_ hi9 (fun s hs=>hT.fa.t0_ s sym hs hy)
    rw [← e9] at hat
    refine aN (aU (o':=1) iK rfl rfl rfl (aP isAgg59 rfl (aD (hS.at_ 5 rfl) rfl) rfl (aA rfl rfl (aU (o':=0) iJ rfl rfl rfl (aP isAgg3 rfl (aD (hS.at_ 5 rfl) rfl) rfl ?_)))))
    refine nV rfl rfl (IntWalk.i64_in _ (by have h9:=hT.mul (s:=i) (by omega);have h8:(i:Int) * (t.k:Int)=((i * t.k:Nat):Int):=(Int.natCast_mul _ _).symm;omega)) rfl ?_
    refine aA rfl rfl ?_
    refine bY rfl rfl (IntWalk.i64_in _ (by have h9:=hT.mul (s:=i) (by omega);have h8:(i:Int) * (t.k:Int)=((i * t.k:Nat):Int):=(Int.natCast_mul _ _).symm;omega)) rfl ?_
    refine aX (j:=i * t.k+sym) (b:=b5) (o:=o5) (m:=t.n * t.k) (c:=t.nc) underlying59 sizeOf21 (by show some (Value.slice t.na _ _)=_;rw [hna]) rfl (by rw [Int.natCast_add,Int.natCast_mul]) (hT.ix hi9 hy).1 rfl rfl ?_
    refine aP isAgg21 rfl (hc5) rfl (aB rfl rfl (aK (XF.thenN (aH (yA cA 15 hS rfl rfl (by kernel_rfl) (by kernel_rfl) (by kernel_rfl) (fun d hd=>by cases hd) (bR 1 rfl 6 rfl rfl (fun w hw=>bA (o':=1) uZ rfl rfl) rfl (bF 2 rfl 77 0 rfl rfl rfl (fun w hw=>aY isAgg59 rfl ((aO hw 0).cell (Nat.zero_le _) (aD (hS.at_ 3 rfl) rfl))) rfl (bR 3 rfl 6 rfl rfl (fun w hw=>bA (o':=0) jW rfl rfl) rfl (bF 4 rfl 79 2 rfl rfl rfl (fun w hw=>aY isAgg59 rfl ((aO hw 0).cell (Nat.zero_le _) (aD (hS.at_ 3 rfl) rfl))) rfl (bR 5 rfl 11 rfl rfl (fun w hw=>aV rfl) rfl (aZ 6 rfl (isV _) (aW _) (rgV (li:=[(80,_),(81,_)]) rfl (aL rfl) ⟨aJ 3 (aC rfl rfl rfl),aJ 4 (aC rfl rfl rfl),trivial⟩ (fun w hw=>bE (j:=t.fa.nx i sym) underlying59 sizeOf21 rfl rfl (rfl) (by omega) rfl) (aG rfl)) (bF 7 rfl 82 5 rfl rfl rfl (fun w hw=>aY isAgg21 rfl ((aO hw 0).cell (Nat.zero_le _) (aD (hS.at_ 1 rfl) (gU (by omega))))) rfl (bR 8 rfl 9 rfl rfl (fun w hw=>aV rfl) rfl (bR 9 rfl 11 rfl rfl (fun w hw=>aV rfl) rfl (aZ 10 rfl (isV _) (aW _) (rgV (li:=[(84,_),(85,_)]) rfl (aL rfl) ⟨aJ 7 (aC rfl rfl rfl),aJ 8 (aC rfl rfl rfl),trivial⟩ (fun w hw=>bE (j:=t.fa.nx i sym) underlying59 sizeOf21 rfl rfl (rfl) (by omega) rfl) (aG rfl)) (bF 11 rfl 86 9 rfl rfl rfl (fun w hw=>aY isAgg21 rfl ((aO hw 0).cell (Nat.zero_le _) (aD (hS.at_ 0 rfl) (gU (by omega))))) rfl (aZ 12 rfl (isV _) (aW _) (rgV (li:=[(83,_),(87,_)]) rfl (aL rfl) ⟨aJ 6 (aC rfl rfl rfl),aJ 10 (aC rfl rfl rfl),trivial⟩ (fun w hw=>iB rfl rfl (IntWalk.i32_in _ (by omega))) (aG rfl)) (bR 13 rfl 10 rfl rfl (fun w hw=>aV rfl) rfl (bF 14 rfl 89 12 rfl rfl rfl (fun w hw=>iN underlying3 underlying21 rfl (by omega)) rfl (aZ 15 rfl (isV _) (aW _) (rgV (li:=[(78,_),(88,_)]) rfl (aL rfl) ⟨aJ 1 (aC rfl rfl rfl),aJ 11 (aC rfl rfl rfl),trivial⟩ (fun w hw=>bE (j:=gN L (t.fa.nx i sym)+gN U (t.fa.nx i sym)) underlying59 sizeOf21 rfl rfl (by omega) (by omega) rfl) (aG rfl)) (dJ ?_)))))))))))))))))))))
    intro W8 hbR hS'
    clear hS;have hS:=hS';clear hS'
    refine aI (aI (aI (aI (aI (aI (aI (aI (aI (aI (aI (aI (aI (aI (aI (cN ?_)))))))))))))))
    refine bL (i:=2) (cs':=i32 (F.set (gN L (t.fa.nx i sym)+gN U (t.fa.nx i sym)) i)) (O':=(_::_::_::_::_::_::Ot)) hS sizeOf21 rfl rfl rfl rfl (Nat.ble_eq_true_of_le (by rw [cB];omega)) (fY rfl) rfl fun W181 hS=>?_
    refine aK (XF.thenN (aN (aA rfl rfl (aA rfl rfl (aX (j:=t.fa.nx i sym) underlying59 sizeOf21 rfl rfl (rfl) (by omega) rfl rfl (aP isAgg21 rfl (aD (hS.at_ 0 rfl) (gU (by omega))) rfl (bY rfl rfl (IntWalk.i32_in _ (by omega)) rfl (aX (j:=t.fa.nx i sym) underlying59 sizeOf21 rfl rfl (rfl) (by omega) rfl rfl ?_))))))))
    refine bL (i:=0) (cs':=i32 (U.set (t.fa.nx i sym) (gN U (t.fa.nx i sym)+1))) (O':=(_::_::_::_::_::_::Ot)) hS sizeOf21 rfl rfl rfl rfl (Nat.ble_eq_true_of_le (by rw [cB];omega)) (fY rfl) rfl fun W191 hS=>?_
    refine aK (XF.blkN (XF.thenN (aN (bY rfl rfl (IntWalk.i64_in _ (by omega)) rfl (aA rfl rfl (aK ?_))))))
    have hF2:B3I (fun s=>t.fa.nx s sym) t.n (i+1) (U.set (t.fa.nx i sym) (gN U (t.fa.nx i sym)+1)) (F.set (gD (fun s=>t.fa.nx s sym) t.n (t.fa.nx i sym)+gN U (t.fa.nx i sym)) i):=hF.step hi9 (fun s hs=>hT.fa.t0_ s sym hs hy)
    rw [← e9] at hF2
    exact XF.round (t.n - (i+1)) [(1,_),(2,_),(4,_),(5,_),(6,_),(9,_),(63,_),(64,_)] (by omega) ⟨rfl,rfl,rfl,rfl,rfl,rfl,rfl,rfl,trivial⟩ ⟨i+1,_,_,by omega,rfl,rfl,hF2,hS.keep K (fun q hq=>by simp [hq])⟩
   ·have hc65:=of_decide_eq_false hc;clear hc
    have ein:i=t.n:=by omega
    rw [ein] at hF
    have hok:=hF.ok hL9 (fun s hs=>hT.fa.t0_ s sym hs hy)
    refine cV (XF.thenX (XF.thenX (XF.blkX (XF.thenN (aH (aN (bC (vs:=[_,_]) isAgg102 sizeOf102 rfl (aT.own (j:=0) (m:=2) (hS.at_ 3 rfl) rfl) rfl (bU (i:=4) (vs:=[_,_]) (cs':=[_,_]) (O':=(_::_::_::_::_::_::Ot)) hS sizeOf102 rfl rfl rfl rfl rfl rfl rfl fun W9 hS=>aK (XF.thenN (cK (XF.res (pS (vs:=[_,_]) results63 isAgg102 sizeOf102 rfl (aT.own (j:=0) (m:=2) (hS.at_ 4 rfl) rfl)) ?_)))))))))))
    obtain ⟨K1,k1,h1,hS1⟩:=hS.tail.ownKeep
    obtain ⟨K2,k2,h2,hS2⟩:=hS1.ownKeep
    exact ⟨_,_,L,F,K2,rfl,hok,fun q hq=>k2 q (k1 q (by simp [hq])),fun h9 hk9=>⟨pD (h1.moreK k2 h9 hk9),pD (h2 h9 hk9)⟩,hS2.tail.tail.tail⟩
theorem By (v00:Value) (v01:Value):Instr.fill (fun i=>some (i * 2,2)) ((Array.range (1 * 2)).map ((Value.cells (.agg #[.slice none 0 0,.slice none 0 0]))[· % (Value.cells (.agg #[.slice none 0 0,.slice none 0 0])).size]!)) [(0,.agg #[v00,v01])]=some (List.toArray [v00,v01]):=by kernel_rfl
theorem goes_63:cC prog 63=true:=by kernel_rfl
theorem inf_102:prog.info? 102=some Try.t102:=by kernel_rfl
theorem B0 {α:Type} {x a b c d e f g:α} {l:List α}:(x::a::b::c::d::e::f::g::l).Perm (a::b::c::d::e::f::g::x::l):=(List.perm_middle (l₁:=[a,b,c,d,e,f,g])).symm
structure BK where
 A:Nat
 F:Nat
 L:List Nat
 U:List Nat
abbrev bkC (n:Nat) (b:BK):List Value:=[.slice (some ⟨b.A,0,none⟩) (n+1) (n+1),.slice (some ⟨b.F,0,none⟩) n n]
def BKs (t:TB) (w0:World) (Kk:List (Nat×World)) (bks:List BK):Prop:=∀ (j:Nat) b,bks[j]?=some b→BkOk (fun s=>t.fa.nx s j) t.n b.L b.U∧cL w0 Kk (fun W=>R32 W (some ⟨b.A,0,none⟩) b.L∧R32 W (some ⟨b.F,0,none⟩) b.U)
theorem BKs.snoc {t:TB} {w0:World} {Kk Kn:List (Nat×World)} {bks:List BK} {b:BK} (h:BKs t w0 Kk bks) (hk:∀ q∈Kk,q∈Kn) (h1:BkOk (fun s=>t.fa.nx s bks.length) t.n b.L b.U) (h2:cL w0 Kn (fun W=>R32 W (some ⟨b.A,0,none⟩) b.L∧R32 W (some ⟨b.F,0,none⟩) b.U)):BKs t w0 Kn (bks++[b]):=fun j c hj=>by
 rcases Nat.lt_or_ge j bks.length with h3 | h3
 ·rw [List.getElem?_append_left h3] at hj
  exact ⟨(h j c hj).1,cL.moreK (h j c hj).2 hk⟩
 ·rw [List.getElem?_append_right h3] at hj
  obtain ⟨h4,h5⟩:=List.getElem?_eq_some_iff.1 hj
  have e:j=bks.length:=by simp at h4;omega
  subst e
  simp at h5
  subst h5
  exact ⟨h1,h2⟩
theorem Ah {α:Type} {l:List α} (h:0 < l.length):∃ l1 b,l=l1++[b]:=⟨l.dropLast,l.getLast (fun e=>by rw [e] at h;cases h),(List.dropLast_concat_getLast _).symm⟩
theorem B8 {l:List Nat} {b:Nat}:(i32 (l++[b]))[l.length]?=some (.int .i32 (b:Int)):=by unfold i32;simp
theorem Ca {l:List Nat} {b:Nat}:(i32 (l++[b])).take (l.length * 1)=i32 l:=by
 rw [nJ,Nat.mul_one,List.take_left' cB]
theorem yV {l:List Nat} {i:Nat} (h:i < l.length):(i32 l)[i]?=some (.int .i32 ((gN l i:Nat):Int)):=by unfold i32;rw [List.getElem?_map,uM h];rfl
theorem cut_src {W:World} {Ab f L:Nat} {al:List Nat} {T:TypeId} (h:W.heap[Ab]?=some (.cells (i32 al).toArray T (0,0))):∀ (j:Nat) u,(i32 ((al.drop f).take L))[j]?=some u→W.cell? ((⟨Ab,0+f * 1,none⟩:Addr).add j)=some u:=fun j u hj=>by
 unfold i32 at hj
 rw [List.getElem?_map,List.getElem?_take] at hj
 split at hj
 ·rw [List.getElem?_drop] at hj
  rw [Addr.add_lit]
  exact aD h (by rw [show 0+f * 1+j=f+j by omega];unfold i32;rw [List.getElem?_map];exact hj)
 ·cases hj
theorem R32.at0 {W:World} {A i:Nat} {L:List Nat} (h:R32 W (some ⟨A,0,none⟩) L) (hi:i < L.length):W.cell? ⟨A,0+i * 1,none⟩=some (.int .i32 ((gN L i:Nat):Int)):=by
 obtain ⟨b,off,e,hc⟩:=h.get hi
 cases e;exact hc
theorem Ai {l:List Nat} {i:Nat} (h:i < l.length):gN l i∈l:=List.mem_of_getElem? (uM h)
theorem PInv.members {n:Nat} {P:PT} (h:PInv n P) {b:Nat} (hb:b < P.fs.length):((P.al.drop (gN P.fs b)).take (gN P.sz b)).length=gN P.sz b∧(∀ s,s < n→(gN P.bk s=b↔s∈(P.al.drop (gN P.fs b)).take (gN P.sz b)))∧∀ s∈(P.al.drop (gN P.fs b)).take (gN P.sz b),s < n:=by
 obtain ⟨h1,h2,_⟩:=h.rg b hb
 have hl:((P.al.drop (gN P.fs b)).take (gN P.sz b)).length=gN P.sz b:=by rw [List.length_take,List.length_drop,h.la];omega
 have hm:∀ s,s∈(P.al.drop (gN P.fs b)).take (gN P.sz b)→∃ p,p < gN P.sz b∧gN P.al (gN P.fs b+p)=s:=fun s hs=>by
  obtain ⟨p,hp⟩:=List.getElem?_of_mem hs
  have hlt:=(List.getElem?_eq_some_iff.1 hp).1
  rw [hl] at hlt
  refine ⟨p,hlt,?_⟩
  rw [← dU hlt]
  unfold gN;rw [List.getD_eq_getElem?_getD,hp];rfl
 refine ⟨hl,fun s hs=>⟨fun e=>?_,fun hs9=>?_⟩,fun s hs=>?_⟩
 ·have h3:=(h.bi s b hs hb).1 e
  have h4:=Ai (l:=(P.al.drop (gN P.fs b)).take (gN P.sz b)) (i:=gN P.pl s - gN P.fs b) (by rw [hl];omega)
  rw [dU (by omega),show gN P.fs b+(gN P.pl s - gN P.fs b)=gN P.pl s by omega,(h.pa s hs).2] at h4
  exact h4
 ·obtain ⟨p,hp,e⟩:=hm s hs9
  obtain ⟨h3,h4⟩:=h.ap (gN P.fs b+p) (by omega)
  refine (h.bi s b hs hb).2 ?_
  rw [← e,h4];omega
 ·obtain ⟨p,hp,e⟩:=hm s hs
  rw [← e];exact (h.ap _ (by omega)).1
theorem step3 {F i lo hi q s:Nat} {g U:List Nat} (h:F=gN g i↔∃ p,lo≤p∧p < hi∧gN U p=s) (e:lo+q=hi):((∃ x,x < i∧F=gN g x)∨∃ p,lo≤p∧p < lo+q∧gN U p=s)↔∃ x,x < i+1∧F=gN g x:=by
 rw [e,← h]
 constructor
 ·rintro (⟨x,h1,h2⟩ | h1)
  ·exact ⟨x,by omega,h2⟩
  ·exact ⟨i,by omega,h1⟩
 ·rintro ⟨x,h1,h2⟩
  rcases Nat.lt_or_ge x i with h3 | h3
  ·exact .inl ⟨x,h3,h2⟩
  ·exact .inr (by rw [h2,show x=i by omega])
theorem mem_g {l:List Nat} {v:Nat}:(∃ x,x < l.length∧v=gN l x)↔v∈l:=by
 constructor
 ·rintro ⟨x,h1,h2⟩
  rw [h2];exact Ai h1
 ·intro h
  obtain ⟨x,hx⟩:=List.getElem?_of_mem h
  have h1:=(List.getElem?_eq_some_iff.1 hx).1
  exact ⟨x,h1,by rw [uM h1] at hx;exact (Option.some.inj hx).symm⟩
theorem Cb {l:List Nat} {i:Nat} (h:i < l.length):l.take i++[gN l i]=l.take (i+1):=by
 rw [List.take_add_one,uM h];rfl
theorem nodup_g {l:List Nat} {i:Nat} (h:l.Nodup) (hi:i < l.length):gN l i∉l.take i:=fun hm=>by
 have h1:(l.take (i+1)).Nodup:=h.sublist (List.take_sublist _ _)
 rw [← Cb hi] at h1
 exact (List.nodup_append.1 h1).2.2 _ hm _ (List.mem_singleton.2 rfl) rfl
theorem step4 {A:Prop} {U:List Nat} {lo q t:Nat}:((A∨∃ p,lo≤p∧p < lo+q∧gN U p=t)∨t=gN U (lo+q))↔(A∨∃ p,lo≤p∧p < lo+(q+1)∧gN U p=t):=by
 constructor
 ·rintro ((h | ⟨p,h1,h2,h3⟩) | h)
  ·exact .inl h
  ·exact .inr ⟨p,h1,by omega,h3⟩
  ·exact .inr ⟨lo+q,by omega,by omega,h.symm⟩
 ·rintro (h | ⟨p,h1,h2,h3⟩)
  ·exact .inl (.inl h)
  ·rcases Nat.lt_or_ge p (lo+q) with h4 | h4
   ·exact .inl (.inr ⟨p,h1,h4,h3⟩)
   ·exact .inr (by rw [← h3,show p=lo+q by omega])
theorem PSt.tail {n PB Ab Lb Kb:Nat} {x:Nat×List Value×TypeId} {Ot:Own} {G:bN} {K:List (Nat×World)} {w0 W:World} {P:PT} (h:PSt n PB Ab Lb Kb (x::Ot) G K w0 W P):PSt n PB Ab Lb Kb Ot G K w0 W P:=by
 obtain ⟨Fb,Sb,Mb,cf,cs,cm,e1,e2,e3,h1,h2,h3,h4,h5,h6,hS⟩:=h
 exact ⟨Fb,Sb,Mb,cf,cs,cm,e1,e2,e3,h1,h2,h3,h4,h5,h6,(hS.perm B0.symm).tail⟩
theorem PSt.tailG {n PB Ab Lb Kb:Nat} {g:GR} {Ot:Own} {G:bN} {K:List (Nat×World)} {w0 W:World} {P:PT} (h:PSt n PB Ab Lb Kb Ot (g::G) K w0 W P):PSt n PB Ab Lb Kb Ot G K w0 W P:=by
 obtain ⟨Fb,Sb,Mb,cf,cs,cm,e1,e2,e3,h1,h2,h3,h4,h5,h6,hS⟩:=h
 exact ⟨Fb,Sb,Mb,cf,cs,cm,e1,e2,e3,h1,h2,h3,h4,h5,h6,hS.tailG⟩
theorem Aj (t:TB) (mo:Nat) (P:PT) (PB Ab Lb Kb Fb Sb Mb cf cs cm:Nat) (e1 e2 e3:List Value) (Kt:List (Nat×World)) (Ot:Own) (G:bN) (K:List (Nat×World)) (w0 w:World) (hcf:(i32 P.fs++e1).length=cf * 1) (hcs:(i32 P.sz++e2).length=cs * 1) (hcm:(i32 P.mr++e3).length=cm * 1) (mcf:cf≤maxLen) (mcs:cs≤maxLen) (mcm:cm≤maxLen) (hS0:St w0 ((PB,[.slice (some ⟨Ab,0,none⟩) t.n t.n,.slice (some ⟨Lb,0,none⟩) t.n t.n,.slice (some ⟨Kb,0,none⟩) t.n t.n,.slice (some ⟨Fb,0,none⟩) P.fs.length cf,.slice (some ⟨Sb,0,none⟩) P.fs.length cs,.slice (some ⟨Mb,0,none⟩) P.fs.length cm],87)::(Ab,i32 (P.al),21)::(Lb,i32 (P.pl),21)::(Kb,i32 (P.bk),21)::(Fb,i32 (P.fs)++e1,21)::(Sb,i32 (P.sz)++e2,21)::(Mb,i32 (P.mr)++e3,21)::Ot) G K w) (hP:PInv t.n P) (hum:∀ s,s < t.n→¬ PM P s) (hH:HI t.fa (gN P.bk) P.fs.length (if 1 < P.fs.length then [1] else []) NoS t.k) (hT:TOk t) (hKt:∀ q∈Kt,q∈K) (hB:cL w0 Kt (TAt t)) :
  Calls prog 53 #[.pointer (some ⟨PB,0,none⟩),t.val,.int .i64 (mo:Int)] w (fun e w'=>∃ (Q:PT) (wk:List Nat) (Kk:List (Nat×World)),e = .returned (.bool (decide (Q.fs.length≤mo)))∧PInv t.n Q∧HI t.fa (gN Q.bk) Q.fs.length wk NoS t.k∧(Q.fs.length≤mo→wk=[])∧(∀ q∈K,q∈Kk)∧PSt t.n PB Ab Lb Kb Ot G Kk w0 w' Q):=by
 refine cP (args:=[.pointer (some ⟨PB,0,none⟩),t.val,.int .i64 (mo:Int)]) func53 rfl ntmps53 rfl ?_
 have hS:=hS0
 have hn1:=hT.n1
 have hk1:=hT.k1
 have hp:=hT.pos
 refine aH (aN (cI (cs:=[_,_,_]) hS rfl rfl rfl fun B1 W1 hS=>aB rfl rfl (aK (XF.thenN (aH (aN (aB rfl rfl (aK (XF.thenN (aH (aH ?_)))))))))))
 have hS':=(((((hS.perm B0).newG 102 2).newG 21 1).newG 21 1).newG 21 1);clear hS;have hS:=hS';clear hS'
 refine aN (aU (o':=0) iJ rfl rfl rfl (aP isAgg3 rfl (aD (hS.at_ 7 rfl) rfl) rfl (aA rfl rfl (aK (XF.thenN (bH (cW (fun m l W=>∃ (j:Nat) (bks:List BK) (ba:Option Addr) (bc:Nat) (Kk:List (Nat×World)),j≤t.k∧m=t.k - j∧l=[(0,.pointer (some ⟨PB,0,none⟩)),(2,.int .i64 (mo:Int)),(4,.pointer (some ⟨B1,0,none⟩)),(7,.slice ba j bc),(22,.int .i64 (t.k:Int)),(23,.int .i64 (j:Int))]∧bks.length=j∧(∀ q∈K,q∈Kk)∧BKs t w0 Kk bks∧St w0 ((PB,[.slice (some ⟨Ab,0,none⟩) t.n t.n,.slice (some ⟨Lb,0,none⟩) t.n t.n,.slice (some ⟨Kb,0,none⟩) t.n t.n,.slice (some ⟨Fb,0,none⟩) P.fs.length cf,.slice (some ⟨Sb,0,none⟩) P.fs.length cs,.slice (some ⟨Mb,0,none⟩) P.fs.length cm],87)::(Ab,i32 (P.al),21)::(Lb,i32 (P.pl),21)::(Kb,i32 (P.bk),21)::(Fb,i32 (P.fs)++e1,21)::(Sb,i32 (P.sz)++e2,21)::(Mb,i32 (P.mr)++e3,21)::(B1,t.cells,61)::Ot) (⟨.slice none 0 0,0,[],21,1⟩::⟨.slice none 0 0,0,[],21,1⟩::⟨.slice none 0 0,0,[],21,1⟩::⟨.slice ba j bc,j,bks.flatMap (bkC t.n),102,2⟩::G) Kk W) (t.k - 0) ([(0,_),(2,_),(4,_),(7,_),(22,_),(23,_)]) ⟨rfl,rfl,rfl,rfl,rfl,rfl,trivial⟩ (⟨0,[],none,0,K,Nat.zero_le _,rfl,rfl,rfl,fun q hq=>hq,fun j b hj=>(by cases hj),hS.keep K (fun q hq=>by simp [hq])⟩) ?_)))))))
 clear hS
 rintro m l W ⟨j,bks,ba,bc,Kk,hj,rfl,rfl,hbl,hsub,hbk,hS⟩
 refine aH (aN (cH rfl rfl rfl (aK (XF.thenN (aH (bS rfl (fun hc=>?_) (fun hc=>?_)))))))
 ·have hc24:=of_decide_eq_true hc;clear hc
  refine bV (XF.thenN (aH (bH (aH (aN (aA rfl rfl (aB rfl rfl (aK (XF.thenN (aN (aA rfl rfl (bC (vs:=[_,_,_]) isAgg61 sizeOf61 rfl (aT.own (j:=0) (m:=3) (hS.at_ 7 rfl) rfl) rfl (aA rfl rfl (bW (vs:=[_,_]) goes_63 rfl (Ag t j Kt _ _ _ w0 _ hS (fun q hq=>hsub q (hKt q hq)) hB hT (by omega)) rfl ?_))))))))))))))
  rintro e W9 ⟨A9,F9,L9,U9,Kn,rfl,hok9,hsub9,hR9,hS9⟩
  refine ⟨_,rfl,?_⟩
  clear hS;have hS:=hS9;clear hS9
  refine bK (us:=[(0,.agg (List.toArray [_,_]))]) hS underlying100 sizeOf102 zeroValue102 rfl rfl rfl (By _ _) rfl fun B2 W2 hS=>?_
  refine cR (i:=3) (news:=[_,_]) hS underlying100 inf_102 rfl rfl (by show 0 < 2;decide) rfl rfl rfl rfl rfl (aT.own (j:=0) (m:=2) (hS.at_ 0 rfl) rfl) rfl rfl (by dsimp only;simp only [maxLen];omega) (by dsimp only;show _ * 48≤_;omega) rfl fun v3 W3 hS=>?_
  obtain ⟨a9,c9,e9,_⟩:=bQ (hS.row 3 rfl)
  dsimp only at e9
  subst e9
  refine aB rfl rfl (aK (XF.blkN (XF.thenN (aN (bY rfl rfl (IntWalk.i64_in _ (by omega)) rfl (aA rfl rfl (aK ?_)))))))
  exact XF.round (t.k - (j+1)) [(0,_),(2,_),(4,_),(7,_),(22,_),(23,_)] (by omega) ⟨rfl,rfl,rfl,rfl,rfl,rfl,trivial⟩ ⟨j+1,bks++[⟨A9,F9,L9,U9⟩],a9,c9,Kn,by omega,rfl,rfl,by simp [hbl],fun q hq=>hsub9 q (hsub q hq),hbk.snoc hsub9 (by rw [hbl];exact hok9) hR9,(hS.tail.castG (by simp [bkC])).keep Kn (fun q hq=>by simp [hq])⟩
 ·have hc24:=of_decide_eq_false hc;clear hc
  have ejn:j=t.k:=by omega
  subst ejn
  refine cV (XF.thenX (XF.thenX (XF.blkX (XF.thenN (aH (aN (aB rfl rfl (aK (XF.thenN (joinF (fun l W=>∃ (wk:List Nat) (wa:Option Addr) (wl wc:Nat),wk.length=wl∧wk=(if 1 < P.fs.length then [1] else [])∧l=[(0,.pointer (some ⟨PB,0,none⟩)),(2,.int .i64 (mo:Int)),(7,.slice ba t.k bc),(9,.slice wa wl wc)]∧St w0 ((PB,[.slice (some ⟨Ab,0,none⟩) t.n t.n,.slice (some ⟨Lb,0,none⟩) t.n t.n,.slice (some ⟨Kb,0,none⟩) t.n t.n,.slice (some ⟨Fb,0,none⟩) P.fs.length cf,.slice (some ⟨Sb,0,none⟩) P.fs.length cs,.slice (some ⟨Mb,0,none⟩) P.fs.length cm],87)::(Ab,i32 (P.al),21)::(Lb,i32 (P.pl),21)::(Kb,i32 (P.bk),21)::(Fb,i32 (P.fs)++e1,21)::(Sb,i32 (P.sz)++e2,21)::(Mb,i32 (P.mr)++e3,21)::(B1,t.cells,61)::Ot) (⟨.slice none 0 0,0,[],21,1⟩::⟨.slice none 0 0,0,[],21,1⟩::⟨.slice wa wl wc,wl,i32 (wk),21,1⟩::⟨.slice ba t.k bc,t.k,bks.flatMap (bkC t.n),102,2⟩::G) Kk W) ?_ ?_))))))))))
  ·clear hS
   rintro _ W ⟨wk,wa,wl,wc,hwl,hwk,rfl,hS⟩
   rw [← hwk] at hH
   have hwl9:wl≤P.fs.length:=by
    rw [← hwl,hwk]
    split
    ·rename_i h9;exact Nat.le_of_lt h9
    ·exact Nat.zero_le _
   refine aH (aN (aB rfl rfl (aB rfl rfl (aK (XF.thenN (aH (bH (cW (fun m l W=>∃ (P:PT) (wk mem tch:List Nat) (wa ma ta:Option Addr) (wl wc ml mc tl tc:Nat),wk.length=wl∧mem.length=ml∧tch.length=tl∧m=wl+2 * (t.n - P.fs.length)∧wl≤P.fs.length∧l=[(0,.pointer (some ⟨PB,0,none⟩)),(2,.int .i64 (mo:Int)),(7,.slice ba t.k bc),(9,.slice wa wl wc),(10,.slice ma ml mc),(11,.slice ta tl tc)]∧PInv t.n P∧(∀ s,s < t.n→¬ PM P s)∧HI t.fa (gN P.bk) P.fs.length wk NoS t.k∧PSt t.n PB Ab Lb Kb ((B1,t.cells,61)::Ot) (⟨.slice ma ml mc,ml,i32 (mem),21,1⟩::⟨.slice ta tl tc,tl,i32 (tch),21,1⟩::⟨.slice wa wl wc,wl,i32 (wk),21,1⟩::⟨.slice ba t.k bc,t.k,bks.flatMap (bkC t.n),102,2⟩::G) Kk w0 W P) (wl+2 * (t.n - P.fs.length)) ([(0,_),(2,_),(7,_),(9,_),(10,_),(11,_)]) ⟨rfl,rfl,rfl,rfl,rfl,rfl,trivial⟩ (⟨P,wk,[],[],wa,none,none,wl,wc,0,0,0,0,hwl,rfl,rfl,rfl,hwl9,rfl,hP,hum,hH,⟨Fb,Sb,Mb,cf,cs,cm,e1,e2,e3,hcf,hcs,hcm,mcf,mcs,mcm,hS.keep Kk (fun q hq=>by simp [hq])⟩⟩) ?_))))))))
   clear hS
   clear hcf hcs hcm mcf mcs mcm hum hH hP hwk hwl hwl9
   rintro m l W ⟨P,wk,mem,tch,wa,ma,ta,wl,wc,ml,mc,tl,tc,hwl,hml,htl,rfl,hwm,rfl,hP,hum,hH,Fb,Sb,Mb,cf,cs,cm,e1,e2,e3,hcf,hcs,hcm,mcf,mcs,mcm,hS⟩
   have hle:=hP.le
   refine aH (aH (aN (aA rfl rfl (bX underlying59 rfl rfl (gS rfl rfl rfl (aA rfl rfl (bZ (d:=45) rfl (fun hc=>?_) (fun hc=>?_))))))))
   ·have hg45:=of_decide_eq_true hc;clear hc
    refine aE (d:=45) rfl rfl (aA rfl rfl (aE (d:=45) rfl rfl (bM rfl rfl (aE (d:=45) rfl rfl (aU (o':=3) eC rfl rfl rfl (aE (d:=45) rfl rfl (aP isAgg59 rfl (aD (hS.at_ 0 rfl) rfl) rfl (aE (d:=45) rfl rfl (bX underlying59 rfl rfl (aE (d:=45) rfl rfl (aA rfl rfl (aE (d:=45) rfl rfl (sC rfl rfl rfl (bI rfl rfl rfl (aK (XF.thenN (bS rfl (fun hc=>?_) (fun hc=>?_))))))))))))))))))
    ·have hc53:=of_decide_eq_true hc;clear hc
     refine bV (XF.thenN (bH (aH ?_)))
     obtain ⟨wb,rfl⟩:=eG (m:=wl) (hS.row 2 rfl) (by omega)
     obtain ⟨w1,b,rfl⟩:=Ah (l:=wk) (by omega)
     have hw1:w1.length+1=wl:=by rw [← hwl];simp
     have hb:b < P.fs.length:=hH.wlt b (by simp)
     have hrg:=hP.rg b hb
     have hlf:=hP.lf
     have hla:=hP.la
     refine aN (aA rfl rfl (aA rfl rfl (bX underlying59 rfl rfl (mI rfl rfl (IntWalk.i64_in _ (by omega)) rfl (aX (j:=w1.length) underlying59 sizeOf21 rfl rfl (by omega) (by omega) rfl rfl ?_)))))
     refine aP isAgg21 rfl (by rw [Nat.zero_add,Nat.mul_one];exact cX (hS.row 2 rfl) (k:=w1.length) B8) rfl ?_
     refine aB rfl rfl (aK (XF.thenN (aH (aN (aA rfl rfl (aA rfl rfl (bX underlying59 rfl rfl (mI rfl rfl (IntWalk.i64_in _ (by omega)) rfl (op_cut (k:=w1.length) hS 2 underlying59 sizeOf21 rfl rfl rfl (by omega) (by omega) rfl ?_)))))))))
     intro hS';clear hS;have hS:=hS';clear hS'
     refine aB rfl rfl (aK (XF.thenN (aH ?_)))
     have hS':=hS.castG (G':=(⟨.slice ma ml mc,ml,i32 (mem),21,1⟩::⟨.slice ta tl tc,tl,i32 (tch),21,1⟩::⟨.slice (some ⟨wb,0,none⟩) w1.length wc,w1.length,i32 (w1),21,1⟩::⟨.slice ba t.k bc,t.k,bks.flatMap (bkC t.n),102,2⟩::G)) (by show (_::_::GR.mk _ _ ((i32 (w1++[b])).take (w1.length * 1)) _ _::_)=_;rw [Ca]);clear hS;have hS:=hS';clear hS'
     have hma:=uS (hS.row 0 rfl)
     have hH1:=hH.pop
     obtain ⟨hm1,hm2,hm3⟩:=hP.members hb
     refine regSF (ef:=31) (jy:=31) (ca:=rC (fun _=>[])) (ta:=fun _=>0) (Os:=osNo _) (Gs:=wM _) (al:=[]) (k:=29) cA rfl hS rfl (by kernel_rfl) (by kernel_rfl) (by kernel_rfl) (by kernel_rfl) rfl (by decide) rfl (fun _=>none) (.inr ⟨rfl,rfl,rfl⟩) rfl (bD 1 rfl rfl (isV _) (fun hNo=>sgV [(10,_)] rfl rfl rfl rfl hNo (aL rfl) ⟨cD rfl,trivial⟩ (fun ev w he hw=>aV rfl) (aG rfl)) (bD 2 rfl rfl (isV _) (fun hNo=>sgV [(65,_)] rfl rfl rfl rfl hNo (aL rfl) ⟨aJ 0 (aC rfl rfl rfl),trivial⟩ (fun ev w he hw=>yO underlying59 sizeOf21 rfl rfl rfl hma) (aG rfl)) (bD 3 rfl rfl (isV _) (fun hNo=>sgV [(0,_)] rfl rfl rfl rfl hNo (aL rfl) ⟨cD rfl,trivial⟩ (fun ev w he hw=>aV rfl) (aG rfl)) (bD 4 rfl rfl (isV _) (fun hNo=>sgV [(67,_)] rfl rfl rfl rfl hNo (aL rfl) ⟨aJ 2 (aC rfl rfl rfl),trivial⟩ (fun ev w he hw=>bP rfl) (aG rfl)) (bD 5 rfl rfl (isV _) (fun hNo=>sgV [(68,_)] rfl rfl rfl rfl hNo (aL rfl) ⟨aJ 3 (aC rfl rfl rfl),trivial⟩ (fun ev w he hw=>bA (o':=0) kE rfl rfl) (aG rfl)) (bD 6 rfl rfl (isV _) (fun hNo=>sgV [(69,_)] rfl rfl rfl rfl hNo (aL rfl) ⟨aJ 4 (aC rfl rfl rfl),trivial⟩ (fun ev w he hw=>aY isAgg59 rfl ((aD (hw.at_ 0 rfl) rfl))) (aG rfl)) (bD 7 rfl rfl (isV _) (fun hNo=>sgV [(0,_)] rfl rfl rfl rfl hNo (aL rfl) ⟨cD rfl,trivial⟩ (fun ev w he hw=>aV rfl) (aG rfl)) (bD 8 rfl rfl (isV _) (fun hNo=>sgV [(71,_)] rfl rfl rfl rfl hNo (aL rfl) ⟨aJ 6 (aC rfl rfl rfl),trivial⟩ (fun ev w he hw=>bP rfl) (aG rfl)) (bD 9 rfl rfl (isV _) (fun hNo=>sgV [(72,_)] rfl rfl rfl rfl hNo (aL rfl) ⟨aJ 7 (aC rfl rfl rfl),trivial⟩ (fun ev w he hw=>bA (o':=3) eC rfl rfl) (aG rfl)) (bD 10 rfl rfl (isV _) (fun hNo=>sgV [(73,_)] rfl rfl rfl rfl hNo (aL rfl) ⟨aJ 8 (aC rfl rfl rfl),trivial⟩ (fun ev w he hw=>aY isAgg59 rfl ((aD (hw.at_ 0 rfl) rfl))) (aG rfl)) (bD 11 rfl rfl (isV _) (fun hNo=>sgV [(12,_)] rfl rfl rfl rfl hNo (aL rfl) ⟨cD rfl,trivial⟩ (fun ev w he hw=>aV rfl) (aG rfl)) (bD 12 rfl rfl (isV _) (fun hNo=>sgV [(74,_),(75,_)] rfl rfl rfl rfl hNo (aL rfl) ⟨aJ 9 (aC rfl rfl rfl),aJ 10 (aC rfl rfl rfl),trivial⟩ (fun ev w he hw=>bE (j:=b) underlying59 sizeOf21 rfl rfl (rfl) (by omega) rfl) (aG rfl)) (bD 13 rfl rfl (isV _) (fun hNo=>sgV [(76,_)] rfl rfl rfl rfl hNo (aL rfl) ⟨aJ 11 (aC rfl rfl rfl),trivial⟩ (fun ev w he hw=>aY isAgg21 rfl ((aD (hw.at_ 4 rfl) (fP (by omega))))) (aG rfl)) (bD 14 rfl rfl (isV _) (fun hNo=>sgV [(0,_)] rfl rfl rfl rfl hNo (aL rfl) ⟨cD rfl,trivial⟩ (fun ev w he hw=>aV rfl) (aG rfl)) (bD 15 rfl rfl (isV _) (fun hNo=>sgV [(78,_)] rfl rfl rfl rfl hNo (aL rfl) ⟨aJ 13 (aC rfl rfl rfl),trivial⟩ (fun ev w he hw=>bP rfl) (aG rfl)) (bD 16 rfl rfl (isV _) (fun hNo=>sgV [(79,_)] rfl rfl rfl rfl hNo (aL rfl) ⟨aJ 14 (aC rfl rfl rfl),trivial⟩ (fun ev w he hw=>bA (o':=3) eC rfl rfl) (aG rfl)) (bD 17 rfl rfl (isV _) (fun hNo=>sgV [(80,_)] rfl rfl rfl rfl hNo (aL rfl) ⟨aJ 15 (aC rfl rfl rfl),trivial⟩ (fun ev w he hw=>aY isAgg59 rfl ((aD (hw.at_ 0 rfl) rfl))) (aG rfl)) (bD 18 rfl rfl (isV _) (fun hNo=>sgV [(12,_)] rfl rfl rfl rfl hNo (aL rfl) ⟨cD rfl,trivial⟩ (fun ev w he hw=>aV rfl) (aG rfl)) (bD 19 rfl rfl (isV _) (fun hNo=>sgV [(81,_),(82,_)] rfl rfl rfl rfl hNo (aL rfl) ⟨aJ 16 (aC rfl rfl rfl),aJ 17 (aC rfl rfl rfl),trivial⟩ (fun ev w he hw=>bE (j:=b) underlying59 sizeOf21 rfl rfl (rfl) (by omega) rfl) (aG rfl)) (bD 20 rfl rfl (isV _) (fun hNo=>sgV [(83,_)] rfl rfl rfl rfl hNo (aL rfl) ⟨aJ 18 (aC rfl rfl rfl),trivial⟩ (fun ev w he hw=>aY isAgg21 rfl ((aD (hw.at_ 4 rfl) (fP (by omega))))) (aG rfl)) (bD 21 rfl rfl (isV _) (fun hNo=>sgV [(0,_)] rfl rfl rfl rfl hNo (aL rfl) ⟨cD rfl,trivial⟩ (fun ev w he hw=>aV rfl) (aG rfl)) (bD 22 rfl rfl (isV _) (fun hNo=>sgV [(85,_)] rfl rfl rfl rfl hNo (aL rfl) ⟨aJ 20 (aC rfl rfl rfl),trivial⟩ (fun ev w he hw=>bP rfl) (aG rfl)) (bD 23 rfl rfl (isV _) (fun hNo=>sgV [(86,_)] rfl rfl rfl rfl hNo (aL rfl) ⟨aJ 21 (aC rfl rfl rfl),trivial⟩ (fun ev w he hw=>bA (o':=4) iI rfl rfl) (aG rfl)) (bD 24 rfl rfl (isV _) (fun hNo=>sgV [(87,_)] rfl rfl rfl rfl hNo (aL rfl) ⟨aJ 22 (aC rfl rfl rfl),trivial⟩ (fun ev w he hw=>aY isAgg59 rfl ((aD (hw.at_ 0 rfl) rfl))) (aG rfl)) (bD 25 rfl rfl (isV _) (fun hNo=>sgV [(12,_)] rfl rfl rfl rfl hNo (aL rfl) ⟨cD rfl,trivial⟩ (fun ev w he hw=>aV rfl) (aG rfl)) (bD 26 rfl rfl (isV _) (fun hNo=>sgV [(88,_),(89,_)] rfl rfl rfl rfl hNo (aL rfl) ⟨aJ 23 (aC rfl rfl rfl),aJ 24 (aC rfl rfl rfl),trivial⟩ (fun ev w he hw=>bE (j:=b) underlying59 sizeOf21 rfl rfl (rfl) (by omega) rfl) (aG rfl)) (bD 27 rfl rfl (isV _) (fun hNo=>sgV [(90,_)] rfl rfl rfl rfl hNo (aL rfl) ⟨aJ 25 (aC rfl rfl rfl),trivial⟩ (fun ev w he hw=>aY isAgg21 rfl ((aD (hw.at_ 5 rfl) (fP (by omega))))) (aG rfl)) (bD 28 rfl rfl (isV _) (fun hNo=>sgV [(84,_),(91,_)] rfl rfl rfl rfl hNo (aL rfl) ⟨aJ 19 (aC rfl rfl rfl),aJ 26 (aC rfl rfl rfl),trivial⟩ (fun ev w he hw=>iB rfl rfl (IntWalk.i32_in _ (by omega))) (aG rfl)) (bD 29 rfl rfl (isV _) (fun hNo=>sgV [(70,_),(77,_),(92,_)] rfl rfl rfl rfl hNo (aL rfl) ⟨aJ 5 (aC rfl rfl rfl),aJ 12 (aC rfl rfl rfl),aJ 27 (aC rfl rfl rfl),trivial⟩ (fun ev w he hw=>yL (i:=gN P.fs b) (L:=gN P.sz b) underlying59 sizeOf21 rfl rfl rfl rfl rfl (by omega) (by omega)) (aG rfl)) (nC ?_))))))))))))))))))))))))))))))
     intro Bf4 y4 W4 Ks4 hsz4 hKs4 hS' hcov4
     clear hS;have hS:=hS'.castO (O':=(_::_::_::_::_::_::_::_::Ot)) rfl;clear hS'
     refine nF (L':=[AwS _ _ (isV _),AwS _ _ (isV _),AwS _ _ (isV _),AwS _ _ (isV _),AwS _ _ (isV _),AwS _ _ (isV _),AwS _ _ (isV _),AwS _ _ (isV _),AwS _ _ (isV _),AwS _ _ (isV _),AwS _ _ (isV _),AwS _ _ (isV _),AwS _ _ (isV _),AwS _ _ (isV _),AwS _ _ (isV _),AwS _ _ (isV _),AwS _ _ (isV _),AwS _ _ (isV _),AwS _ _ (isV _),AwS _ _ (isV _),AwS _ _ (isV _),AwS _ _ (isV _),AwS _ _ (isV _),AwS _ _ (isV _),AwS _ _ (isV _),AwS _ _ (isV _),AwS _ _ (isV _),AwS _ _ (isV _),AwS _ _ (isV _)]) rfl (bB (bB (bB (bB (bB (bB (bB (bB (bB (bB (bB (bB (bB (bB (bB (bB (bB (bB (bB (bB (bB (bB (bB (bB (bB (bB (bB (bB (bB (cN ?_))))))))))))))))))))))))))))))
     have hS':=hS.zero 0 rfl;clear hS;have hS:=hS';clear hS'
     obtain ⟨m9,hm9⟩:∃ x,x=(P.al.drop (gN P.fs b)).take (gN P.sz b):=⟨_,rfl⟩
     rw [← hm9] at hm1 hm2 hm3
     refine pW (i:=0) (news:=i32 m9) hS underlying59 dZ rfl rfl (by show 0 < 1;decide) rfl rfl rfl rfl rfl (.inr ⟨_,rfl,fun j u hj=>cut_src (f:=gN P.fs b) (L:=gN P.sz b) (hS.at_ 1 rfl) j u (by rw [← hm9];exact hj)⟩) (by rw [cB,hm1];exact (Nat.mul_one _).symm) (fun u hu=>by obtain ⟨x,_,rfl⟩:=List.mem_map.1 hu;rfl) (by show 0+_≤9223372036854775807;omega) (by show (0+_) * 4≤_;omega) rfl fun v5 W5 hS=>?_
     obtain ⟨ma9,mc9,e9,_⟩:=bQ (hS.row 0 rfl)
     dsimp only at e9
     rw [Nat.zero_add] at e9
     subst e9
     have hS':=hS.castG (G':=(⟨.slice ma9 (gN P.sz b) mc9,(gN P.sz b),i32 (m9),21,1⟩::⟨.slice ta tl tc,tl,i32 (tch),21,1⟩::⟨.slice (some ⟨wb,0,none⟩) w1.length wc,w1.length,i32 (w1),21,1⟩::⟨.slice ba t.k bc,t.k,bks.flatMap (bkC t.n),102,2⟩::G)) (by show (GR.mk _ (0+_) ([]++_) _ _::_)=_;rw [Nat.zero_add,List.nil_append]);clear hS;have hS:=hS';clear hS'
     refine aB rfl rfl (aK (XF.thenN (aH (aN (aA rfl rfl (bX underlying100 rfl rfl (aA rfl rfl (aK (XF.thenN (bH (cW (fun m l W=>∃ (j:Nat) (Q:PT) (wk tch:List Nat) (wa ta:Option Addr) (wl wc tl tc:Nat),j≤t.k∧m=t.k - j∧l=[(0,.pointer (some ⟨PB,0,none⟩)),(2,.int .i64 (mo:Int)),(7,.slice ba t.k bc),(9,.slice wa wl wc),(10,.slice ma9 (gN P.sz b) mc9),(11,.slice ta tl tc),(95,.slice ba t.k bc),(96,.int .i64 (t.k:Int)),(97,.int .i64 (j:Int))]∧wk.length=wl∧tch.length=tl∧PInv t.n Q∧(∀ s,s < t.n→¬ PM Q s)∧HI t.fa (gN Q.bk) Q.fs.length wk (fun s=>gN P.bk s=b) j∧wl+P.fs.length=w1.length+Q.fs.length∧P.fs.length≤Q.fs.length∧PSt t.n PB Ab Lb Kb ((B1,t.cells,61)::Ot) (⟨.slice ma9 (gN P.sz b) mc9,(gN P.sz b),i32 (m9),21,1⟩::⟨.slice ta tl tc,tl,i32 (tch),21,1⟩::⟨.slice wa wl wc,wl,i32 (wk),21,1⟩::⟨.slice ba t.k bc,t.k,bks.flatMap (bkC t.n),102,2⟩::G) Kk w0 W Q) (t.k - 0) ([(0,_),(2,_),(7,_),(9,_),(10,_),(11,_),(95,_),(96,_),(97,_)]) ⟨rfl,rfl,rfl,rfl,rfl,rfl,rfl,rfl,rfl,trivial⟩ (⟨0,P,w1,tch,some ⟨wb,0,none⟩,ta,w1.length,wc,tl,tc,Nat.zero_le _,rfl,rfl,rfl,htl,hP,hum,hH1,rfl,Nat.le_refl _,⟨Fb,Sb,Mb,cf,cs,cm,e1,e2,e3,hcf,hcs,hcm,mcf,mcs,mcm,hS.keep Kk (fun q hq=>by simp [hq])⟩⟩) ?_)))))))))))
     clear hS
     clear hcf hcs hcm mcf mcs mcm
     rintro m l W ⟨j,Q,wk,tch,wa,ta,wl2,wc,tl,tc,hj,rfl,rfl,hwl2,htl,hPQ,humQ,hHQ,hmq,hpq,Fb,Sb,Mb,cf,cs,cm,e1,e2,e3,hcf,hcs,hcm,mcf,mcs,mcm,hS⟩
     have hleQ:=hPQ.le
     refine aH (aN (cH rfl rfl rfl (aK (XF.thenN (aH (bS rfl (fun hc=>?_) (fun hc=>?_)))))))
     ·have hc98:=of_decide_eq_true hc;clear hc
      refine bV (XF.thenN (aH (bH (aH ?_))))
      obtain ⟨bb,rfl⟩:=eG (m:=t.k) (hS.row 3 rfl) (by omega)
      obtain ⟨bk,hbj⟩:∃ x,bks[j]?=some x:=⟨_,List.getElem?_eq_getElem (by omega)⟩
      obtain ⟨hok,hR⟩:=hbk j bk hbj
      have hjk:j < t.k:=by omega
      refine aN (aX (j:=j) underlying100 sizeOf102 rfl rfl (rfl) (by omega) rfl rfl (bC (vs:=[_,_]) isAgg102 sizeOf102 rfl (qI (f:=bkC t.n) (hS.row 3 rfl) (fun x=>⟨_,_,rfl⟩) hbj) rfl (cE (cs:=[_,_]) hS zeroValue102 rfl rfl fun B6 W6 hS=>bU (i:=0) (vs:=[_,_]) (cs':=[_,_]) (O':=(_::_::_::_::_::_::_::_::_::Ot)) hS sizeOf102 rfl rfl rfl rfl rfl rfl rfl fun W7 hS=>aK (XF.thenN (aH ?_)))))
      have hS':=hS.perm B0;clear hS;have hS:=hS';clear hS'
      refine aN (aA rfl rfl (op_zero underlying59 sizeOf21 rfl rfl rfl (uS (hS.row 1 rfl)) rfl ?_))
      have hS':=hS.zero 1 rfl;clear hS;have hS:=hS';clear hS'
      refine aB rfl rfl (aK (XF.thenN (aH (aH (aN (aA rfl rfl (bX underlying59 rfl rfl (aA rfl rfl (aK (XF.thenN (bH (cW (fun m l W=>∃ (i:Nat) (P2:PT) (T:List Nat) (ta:Option Addr) (tl tc:Nat),i≤gN P.sz b∧m=gN P.sz b - i∧l=[(0,.pointer (some ⟨PB,0,none⟩)),(2,.int .i64 (mo:Int)),(7,.slice (some ⟨bb,0,none⟩) t.k bc),(9,.slice wa wl2 wc),(10,.slice ma9 (gN P.sz b) mc9),(11,.slice ta tl tc),(14,.pointer (some ⟨B6,0,none⟩)),(95,.slice (some ⟨bb,0,none⟩) t.k bc),(96,.int .i64 (t.k:Int)),(97,.int .i64 (j:Int)),(103,.slice ma9 (gN P.sz b) mc9),(104,.int .i64 ((gN P.sz b:Nat):Int)),(105,.int .i64 (i:Int))]∧T.length=tl∧MI t.n Q (fun s=>∃ x,x < i∧t.fa.nx s j=gN m9 x) P2 T∧St w0 ((PB,[.slice (some ⟨Ab,0,none⟩) t.n t.n,.slice (some ⟨Lb,0,none⟩) t.n t.n,.slice (some ⟨Kb,0,none⟩) t.n t.n,.slice (some ⟨Fb,0,none⟩) Q.fs.length cf,.slice (some ⟨Sb,0,none⟩) Q.fs.length cs,.slice (some ⟨Mb,0,none⟩) Q.fs.length cm],87)::(Ab,i32 (P2.al),21)::(Lb,i32 (P2.pl),21)::(Kb,i32 (P2.bk),21)::(Fb,i32 (P2.fs)++e1,21)::(Sb,i32 (P2.sz)++e2,21)::(Mb,i32 (P2.mr)++e3,21)::(B6,bkC t.n bk,102)::(B1,t.cells,61)::Ot) (⟨.slice ma9 (gN P.sz b) mc9,(gN P.sz b),i32 (m9),21,1⟩::⟨.slice ta tl tc,tl,i32 (T),21,1⟩::⟨.slice wa wl2 wc,wl2,i32 (wk),21,1⟩::⟨.slice (some ⟨bb,0,none⟩) t.k bc,t.k,bks.flatMap (bkC t.n),102,2⟩::G) Kk W) (gN P.sz b - 0) ([(0,_),(2,_),(7,_),(9,_),(10,_),(11,_),(14,_),(95,_),(96,_),(97,_),(103,_),(104,_),(105,_)]) ⟨rfl,rfl,rfl,rfl,rfl,rfl,rfl,rfl,rfl,rfl,rfl,rfl,rfl,trivial⟩ (⟨0,Q,[],ta,0,tc,Nat.zero_le _,rfl,rfl,rfl,(MI.start hPQ humQ).imp (fun t ht=>⟨fun h=>h.elim,fun ⟨x,hx,_⟩=>absurd hx (Nat.not_lt_zero _)⟩),hS.keep Kk (fun q hq=>by simp [hq])⟩) ?_))))))))))))
      clear hS
      rintro m l W ⟨i,P2,T,ta,tl2,tc,hi,rfl,rfl,htl2,hM,hS⟩
      refine aH (aN (cH rfl rfl rfl (aK (XF.thenN (aH (bS rfl (fun hc=>?_) (fun hc=>?_)))))))
      ·have hc106:=of_decide_eq_true hc;clear hc
       refine bV (XF.thenN (aH (bH (aH ?_))))
       obtain ⟨mb,rfl⟩:=eG (m:=gN P.sz b) (hS.row 0 rfl) (by omega)
       have him:i < m9.length:=by omega
       have hx:=hm3 _ (Ai him)
       refine aN (aX (j:=i) underlying59 sizeOf21 rfl rfl (rfl) (by omega) rfl rfl ?_)
       refine aP isAgg21 rfl (by rw [Nat.zero_add,Nat.mul_one];exact cX (hS.row 0 rfl) (k:=i) (yV him)) rfl ?_
       refine aB rfl rfl (aK (XF.thenN (aH ?_)))
       have hR9:=hR hS (fun q hq=>hq)
       have hoL:=hok.ll
       have hoF:=hok.lf
       have k1:=hR9.1.at0 (i:=gN m9 i) (by omega)
       have k2:=hR9.1.at0 (i:=gN m9 i+1) (by omega)
       have hol2:=hok.le _ hx
       refine iF (m:=16) cA hS (by kernel_rfl) (by kernel_rfl) rfl (bR 1 rfl 14 rfl rfl (fun w hw=>bA (o':=1) uZ rfl rfl) rfl (bF 2 rfl 109 0 rfl rfl rfl (fun w hw=>aY isAgg59 rfl ((aO hw 0).cell (Nat.zero_le _) (aD (hS.at_ 7 rfl) rfl))) rfl (bR 3 rfl 14 rfl rfl (fun w hw=>bA (o':=0) jW rfl rfl) rfl (bF 4 rfl 111 2 rfl rfl rfl (fun w hw=>aY isAgg59 rfl ((aO hw 0).cell (Nat.zero_le _) (aD (hS.at_ 7 rfl) rfl))) rfl (bR 5 rfl 16 rfl rfl (fun w hw=>aV rfl) rfl (aZ 6 rfl (isV _) (aW _) (rgV (li:=[(112,_),(113,_)]) rfl (aL rfl) ⟨aJ 3 (aC rfl rfl rfl),aJ 4 (aC rfl rfl rfl),trivial⟩ (fun w hw=>bE (j:=gN m9 i) underlying59 sizeOf21 rfl rfl (rfl) (by omega) rfl) (aG rfl)) (bF 7 rfl 114 5 rfl rfl rfl (fun w hw=>aY isAgg21 rfl ((aO hw 0).cell (Nat.zero_le _) (k1))) rfl (bR 8 rfl 14 rfl rfl (fun w hw=>bA (o':=0) jW rfl rfl) rfl (bF 9 rfl 116 7 rfl rfl rfl (fun w hw=>aY isAgg59 rfl ((aO hw 0).cell (Nat.zero_le _) (aD (hS.at_ 7 rfl) rfl))) rfl (bR 10 rfl 16 rfl rfl (fun w hw=>aV rfl) rfl (bF 11 rfl 118 9 rfl rfl rfl (fun w hw=>iB rfl rfl (IntWalk.i32_in _ (by omega))) rfl (aZ 12 rfl (isV _) (aW _) (rgV (li:=[(117,_),(119,_)]) rfl (aL rfl) ⟨aJ 8 (aC rfl rfl rfl),aJ 10 (aC rfl rfl rfl),trivial⟩ (fun w hw=>bE (j:=gN m9 i+1) underlying59 sizeOf21 rfl rfl (by omega) (by omega) rfl) (aG rfl)) (bF 13 rfl 120 11 rfl rfl rfl (fun w hw=>aY isAgg21 rfl ((aO hw 0).cell (Nat.zero_le _) (k2))) rfl (aZ 14 rfl (isV _) (aW _) (rgV (li:=[(110,_),(115,_),(121,_)]) rfl (aL rfl) ⟨aJ 1 (aC rfl rfl rfl),aJ 6 (aC rfl rfl rfl),aJ 12 (aC rfl rfl rfl),trivial⟩ (fun w hw=>yN (i:=gN bk.L (gN m9 i)) (j:=gN bk.L (gN m9 i+1)) underlying59 sizeOf21 rfl rfl rfl rfl rfl (by omega) (by omega)) (aG rfl)) (bF 15 rfl 122 13 rfl rfl rfl (fun w hw=>iS underlying59 rfl) rfl (aZ 16 rfl (isV _) (aW _) (rgV (li:=[]) rfl (aL rfl) trivial (fun w hw=>aV rfl) (aG rfl)) (dJ ?_)))))))))))))))))
       intro W8 hbR hS'
       clear hS;have hS:=hS';clear hS'
       refine aI (aI (aI (aI (aI (aI (aI (aI (aI (aI (aI (aI (aI (aI (aI (aI (cN (XF.thenN (bH (cW (fun m l W=>∃ (q:Nat) (P3:PT) (T:List Nat) (ta:Option Addr) (tl3 tc:Nat),q≤gN bk.L (gN m9 i+1) - gN bk.L (gN m9 i)∧m=gN bk.L (gN m9 i+1) - gN bk.L (gN m9 i) - q∧l=[(0,.pointer (some ⟨PB,0,none⟩)),(2,.int .i64 (mo:Int)),(7,.slice (some ⟨bb,0,none⟩) t.k bc),(9,.slice wa wl2 wc),(10,.slice (some ⟨mb,0,none⟩) (gN P.sz b) mc9),(11,.slice ta tl3 tc),(14,.pointer (some ⟨B6,0,none⟩)),(95,.slice (some ⟨bb,0,none⟩) t.k bc),(96,.int .i64 (t.k:Int)),(97,.int .i64 (j:Int)),(103,.slice (some ⟨mb,0,none⟩) (gN P.sz b) mc9),(104,.int .i64 ((gN P.sz b:Nat):Int)),(105,.int .i64 (i:Int)),(122,.slice (fV (some ⟨bk.F,0,none⟩) t.n (gN bk.L (gN m9 i)) 1) (gN bk.L (gN m9 i+1) - gN bk.L (gN m9 i)) (t.n - gN bk.L (gN m9 i))),(123,.int .i64 ((gN bk.L (gN m9 i+1) - gN bk.L (gN m9 i):Nat):Int)),(124,.int .i64 (q:Int))]∧T.length=tl3∧MI t.n Q (fun s=>(∃ x,x < i∧t.fa.nx s j=gN m9 x)∨∃ p,gN bk.L (gN m9 i)≤p∧p < gN bk.L (gN m9 i)+q∧gN bk.U p=s) P3 T∧St w0 ((PB,[.slice (some ⟨Ab,0,none⟩) t.n t.n,.slice (some ⟨Lb,0,none⟩) t.n t.n,.slice (some ⟨Kb,0,none⟩) t.n t.n,.slice (some ⟨Fb,0,none⟩) Q.fs.length cf,.slice (some ⟨Sb,0,none⟩) Q.fs.length cs,.slice (some ⟨Mb,0,none⟩) Q.fs.length cm],87)::(Ab,i32 (P3.al),21)::(Lb,i32 (P3.pl),21)::(Kb,i32 (P3.bk),21)::(Fb,i32 (P3.fs)++e1,21)::(Sb,i32 (P3.sz)++e2,21)::(Mb,i32 (P3.mr)++e3,21)::(B6,bkC t.n bk,102)::(B1,t.cells,61)::Ot) (⟨.slice (some ⟨mb,0,none⟩) (gN P.sz b) mc9,(gN P.sz b),i32 (m9),21,1⟩::⟨.slice ta tl3 tc,tl3,i32 (T),21,1⟩::⟨.slice wa wl2 wc,wl2,i32 (wk),21,1⟩::⟨.slice (some ⟨bb,0,none⟩) t.k bc,t.k,bks.flatMap (bkC t.n),102,2⟩::G) Kk W) (gN bk.L (gN m9 i+1) - gN bk.L (gN m9 i) - 0) ([(0,_),(2,_),(7,_),(9,_),(10,_),(11,_),(14,_),(95,_),(96,_),(97,_),(103,_),(104,_),(105,_),(122,_),(123,_),(124,_)]) ⟨rfl,rfl,rfl,rfl,rfl,rfl,rfl,rfl,rfl,rfl,rfl,rfl,rfl,rfl,rfl,rfl,trivial⟩ (⟨0,P2,T,ta,tl2,tc,Nat.zero_le _,rfl,rfl,htl2,hM.imp (fun t ht=>⟨fun h=>.inl h,fun h=>h.elim id (fun ⟨p,h1,h2,_⟩=>by omega)⟩),hS.keep Kk (fun q hq=>by simp [hq])⟩) ?_)))))))))))))))))))
       clear hS
       clear hM
       rintro m l W ⟨q,P3,T,ta,tl3,tc,hq9,rfl,rfl,htl3,hM,hS⟩
       refine aH (aN (cH rfl rfl rfl (aK (XF.thenN (aH (bS rfl (fun hc=>?_) (fun hc=>?_)))))))
       ·have hc125:=of_decide_eq_true hc;clear hc
        refine bV (XF.thenN (aH (bH (aH ?_))))
        have hcu:fV (some ⟨bk.F,0,none⟩) t.n (gN bk.L (gN m9 i)) 1=some ⟨bk.F,0+(gN bk.L (gN m9 i)) * 1,none⟩:=by
         unfold fV;rw [if_neg (by omega),Option.map_some,Addr.add_lit]
        have hR8:=hR hS (fun q hq=>hq)
        have k3:=hR8.2.at0 (i:=gN bk.L (gN m9 i)+q) (by omega)
        have hsn:gN bk.U (gN bk.L (gN m9 i)+q) < t.n:=hok.v _ (by omega)
        refine aN ?_
        refine aX (j:=q) (b:=bk.F) (o:=0+(gN bk.L (gN m9 i)) * 1) (m:=gN bk.L (gN m9 i+1) - gN bk.L (gN m9 i)) (c:=t.n - gN bk.L (gN m9 i)) underlying59 sizeOf21 (by show some (Value.slice (fV _ _ _ _) _ _)=_;rw [hcu]) rfl rfl (by omega) rfl rfl ?_
        refine aP isAgg21 rfl (by rw [show 0+(gN bk.L (gN m9 i)) * 1+q * 1=0+(gN bk.L (gN m9 i)+q) * 1 by omega];exact k3) rfl ?_
        refine aB rfl rfl (aK (XF.thenN (aH (aN (aA rfl rfl (aA rfl rfl (bW (vs:=[_,_]) yR rfl (uW t.n Q.fs.length P3 PB Ab Lb Kb Fb Sb Mb cf cs cm e1 e2 e3 _ _ _ w0 _ (gN bk.U (gN bk.L (gN m9 i)+q)) hS hM.inv (by rw [hM.fs]) hn1 hsn) rfl ?_)))))))
        rintro e W9 ⟨rfl,hS9⟩
        refine ⟨_,rfl,?_⟩
        clear hS;have hS:=hS9;clear hS9
        have ho:=qC hM.inv hsn
        rw [← ho.bk,← ho.fs,← ho.sz] at hS
        have hM2:=hM.step hsn
        refine aK (XF.thenN (bS rfl (fun hc=>?_) (fun hc=>?_)))
        ·have hc130:=hc;clear hc
         rw [if_pos hc130] at hM2
         have hlb9:=ho.inv.lb
         have hbl9:T.length≤100000:=by
          have h9:=kW hM.nd hM.tlt;omega
         refine aN (aA rfl rfl (aA rfl rfl (bM rfl rfl (aU (o':=2) nK rfl rfl rfl (aP isAgg59 rfl (aD (hS.at_ 0 rfl) rfl) rfl (aA rfl rfl (aX (j:=gN bk.U (gN bk.L (gN m9 i)+q)) underlying59 sizeOf21 rfl rfl (rfl) (by omega) rfl rfl (aP isAgg21 rfl (aD (hS.at_ 3 rfl) (gU (by omega))) rfl (bK (us:=[(0,.int .i32 _)]) hS underlying59 sizeOf21 zeroValue21 rfl rfl rfl (eH _) rfl fun B9 W9 hS=>?_)))))))))
         refine cR (i:=1) (news:=[_]) hS underlying59 dZ rfl rfl (by show 0 < 1;decide) rfl rfl rfl rfl rfl (aT.own (j:=0) (m:=1) (hS.at_ 0 rfl) rfl) rfl rfl (by dsimp only;simp only [maxLen];omega) (by dsimp only;show _ * 4≤_;omega) rfl fun v10 W10 hS=>?_
         obtain ⟨ta9,tc9,e9,_⟩:=bQ (hS.row 1 rfl)
         dsimp only at e9
         subst e9
         refine aB rfl rfl (aK (XF.blkN (XF.thenN (aN (bY rfl rfl (IntWalk.i64_in _ (by omega)) rfl (aA rfl rfl (aK ?_)))))))
         have hS9:=hS.tail.castG (G':=(⟨.slice (some ⟨mb,0,none⟩) (gN P.sz b) mc9,(gN P.sz b),i32 (m9),21,1⟩::⟨.slice ta9 (tl3+1) tc9,(tl3+1),i32 (T++[gN P3.bk (gN bk.U (gN bk.L (gN m9 i)+q))]),21,1⟩::⟨.slice wa wl2 wc,wl2,i32 (wk),21,1⟩::⟨.slice (some ⟨bb,0,none⟩) t.k bc,t.k,bks.flatMap (bkC t.n),102,2⟩::G)) (by show (_::GR.mk _ _ (i32 T++[Value.int .i32 _]) _ _::_)=_;rw [ho.bk,← nJ])
         exact XF.round (gN bk.L (gN m9 i+1) - gN bk.L (gN m9 i) - (q+1)) [(0,_),(2,_),(7,_),(9,_),(10,_),(11,_),(14,_),(95,_),(96,_),(97,_),(103,_),(104,_),(105,_),(122,_),(123,_),(124,_)] (by omega) ⟨rfl,rfl,rfl,rfl,rfl,rfl,rfl,rfl,rfl,rfl,rfl,rfl,rfl,rfl,rfl,rfl,trivial⟩ ⟨q+1,_,_,_,_,_,by omega,rfl,rfl,by simp [htl3],hM2.imp (fun t ht=>step4),hS9.keep Kk (fun q hq=>by simp [hq])⟩
        ·have hc130:=hc;clear hc
         rw [if_neg (by rw [hc130];decide)] at hM2
         refine bV (XF.blkN (XF.thenN (aN (bY rfl rfl (IntWalk.i64_in _ (by omega)) rfl (aA rfl rfl (aK ?_))))))
         exact XF.round (gN bk.L (gN m9 i+1) - gN bk.L (gN m9 i) - (q+1)) [(0,_),(2,_),(7,_),(9,_),(10,_),(11,_),(14,_),(95,_),(96,_),(97,_),(103,_),(104,_),(105,_),(122,_),(123,_),(124,_)] (by omega) ⟨rfl,rfl,rfl,rfl,rfl,rfl,rfl,rfl,rfl,rfl,rfl,rfl,rfl,rfl,rfl,rfl,trivial⟩ ⟨q+1,_,_,_,_,_,by omega,rfl,rfl,htl3,hM2.imp (fun t ht=>step4),hS.keep Kk (fun q hq=>by simp [hq])⟩
       ·have hc125:=of_decide_eq_false hc;clear hc
        refine cV (XF.thenX (XF.thenX (XF.blkX (XF.blkN (XF.thenN (aN (bY rfl rfl (IntWalk.i64_in _ (by omega)) rfl (aA rfl rfl (aK ?_)))))))))
        have hM3:=hM.imp (Y:=fun s=>∃ x,x < i+1∧t.fa.nx s j=gN m9 x) (fun s hs=>step3 (hok.mem (gN m9 i) s hx hs) (by omega))
        exact XF.round (gN P.sz b - (i+1)) [(0,_),(2,_),(7,_),(9,_),(10,_),(11,_),(14,_),(95,_),(96,_),(97,_),(103,_),(104,_),(105,_)] (by omega) ⟨rfl,rfl,rfl,rfl,rfl,rfl,rfl,rfl,rfl,rfl,rfl,rfl,rfl,trivial⟩ ⟨i+1,P3,T,ta,tl3,tc,by omega,rfl,rfl,htl3,hM3,hS.keep Kk (fun q hq=>by simp [hq])⟩
      ·have hc106:=of_decide_eq_false hc;clear hc
       have eim:i=m9.length:=by omega
       have hM4:MI t.n Q (fun s=>(fun s=>gN P.bk s=b) (t.fa.nx s j)) P2 T:=hM.imp (fun s hs=>by rw [eim];exact mem_g.trans (hm2 _ (hT.fa.t0_ s j hs hjk)).symm)
       rw [← hM4.fs] at hS
       have hfq:P2.fs.length=Q.fs.length:=by rw [hM4.fs]
       have hbl9:T.length≤100000:=by
        have h9:=kW hM.nd hM.tlt;omega
       refine cV (XF.thenX (XF.thenX (XF.blkX (XF.thenN (aH (aN (aA rfl rfl (bX underlying59 rfl rfl (aA rfl rfl (aK (XF.thenN (bH ?_))))))))))))
       refine cW (fun m l W=>∃ (i:Nat) (R:PT) (wk2:List Nat) (wa:Option Addr) (wl3 wc:Nat),i≤tl2∧m=tl2 - i∧l=[(0,.pointer (some ⟨PB,0,none⟩)),(2,.int .i64 (mo:Int)),(7,.slice (some ⟨bb,0,none⟩) t.k bc),(9,.slice wa wl3 wc),(10,.slice ma9 (gN P.sz b) mc9),(11,.slice ta tl2 tc),(14,.pointer (some ⟨B6,0,none⟩)),(95,.slice (some ⟨bb,0,none⟩) t.k bc),(96,.int .i64 (t.k:Int)),(97,.int .i64 (j:Int)),(143,.slice ta tl2 tc),(144,.int .i64 (tl2:Int)),(145,.int .i64 (i:Int))]∧wk2.length=wl3∧JI t.n P2 wk (T.take i) R wk2∧wl3+P2.fs.length=wl2+R.fs.length∧PSt t.n PB Ab Lb Kb ((B6,bkC t.n bk,102)::(B1,t.cells,61)::Ot) (⟨.slice ma9 (gN P.sz b) mc9,(gN P.sz b),i32 (m9),21,1⟩::⟨.slice ta tl2 tc,tl2,i32 (T),21,1⟩::⟨.slice wa wl3 wc,wl3,i32 (wk2),21,1⟩::⟨.slice (some ⟨bb,0,none⟩) t.k bc,t.k,bks.flatMap (bkC t.n),102,2⟩::G) Kk w0 W R) (tl2 - 0) ([(0,_),(2,_),(7,_),(9,_),(10,_),(11,_),(14,_),(95,_),(96,_),(97,_),(143,_),(144,_),(145,_)]) ⟨rfl,rfl,rfl,rfl,rfl,rfl,rfl,rfl,rfl,rfl,rfl,rfl,rfl,trivial⟩ (⟨0,P2,wk,wa,wl2,wc,Nat.zero_le _,rfl,rfl,hwl2,JI.start hM4.inv,by omega,Fb,Sb,Mb,cf,cs,cm,e1,e2,e3,by rw [hM4.fs];exact hcf,by rw [List.length_append,cB,hM4.inv.lf,hM4.fs];rw [List.length_append,cB,hPQ.lf] at hcs;exact hcs,by rw [List.length_append,cB,hM4.inv.lm,hM4.fs];rw [List.length_append,cB,hPQ.lm] at hcm;exact hcm,mcf,mcs,mcm,hS.keep Kk (fun q hq=>by simp [hq])⟩) ?_
       clear hS
       clear hcf hcs hcm mcf mcs mcm
       rintro m l W ⟨i,R,wk2,wa,wl3,wc,hi,rfl,rfl,hwl3,hJ,hmr,Fb,Sb,Mb,cf,cs,cm,e1,e2,e3,hcf,hcs,hcm,mcf,mcs,mcm,hS⟩
       have hleR:=hJ.inv.le
       have hlen:=hJ.len
       refine aH (aN (cH rfl rfl rfl (aK (XF.thenN (aH (bS rfl (fun hc=>?_) (fun hc=>?_)))))))
       ·have hc146:=of_decide_eq_true hc;clear hc
        refine bV (XF.thenN (aH (bH (aH ?_))))
        obtain ⟨tb,rfl⟩:=eG (m:=tl2) (hS.row 1 rfl) (by omega)
        have hiT:i < T.length:=by omega
        have hcl:gN T i < P2.fs.length:=by rw [hM4.fs];exact hM4.tlt _ (Ai hiT)
        have hcR:gN T i < R.fs.length:=by omega
        have hnT:=nodup_g hM4.nd hiT
        refine aN (aX (j:=i) underlying59 sizeOf21 rfl rfl (rfl) (by omega) rfl rfl ?_)
        refine aP isAgg21 rfl (by rw [Nat.zero_add,Nat.mul_one];exact cX (hS.row 1 rfl) (k:=i) (yV hiT)) rfl ?_
        refine aB rfl rfl (aK (XF.thenN (aH (aN (aA rfl rfl (aA rfl rfl (bW (vs:=[_,_]) yS rfl (rN t.n R PB Ab Lb Kb Fb Sb Mb cf cs cm e1 e2 e3 _ _ _ w0 _ (gN T i) hcf hcs hcm mcf mcs mcm hS hJ.inv hn1 hcR) rfl ?_)))))))
        rintro e W9 ⟨rfl,Fb,Sb,Mb,cf,cs,cm,e1,e2,e3,hcf,hcs,hcm,mcf,mcs,mcm,hS9⟩
        refine ⟨_,rfl,?_⟩
        clear hS;have hS:=hS9;clear hS9
        have hJ2:=hJ.step hcl hnT
        rw [Cb hiT] at hJ2
        have hso:=oD hJ.inv hcR
        have hsl:=hso.inv.le
        have hfl:=hso.fl
        refine aK (XF.thenN (bS rfl (fun hc=>?_) (fun hc=>?_)))
        ·have hc151:=hc;clear hc
         rw [if_pos hc151] at hJ2 hfl
         refine aN (aA rfl rfl (aA rfl rfl (bM rfl rfl (aU (o':=3) eC rfl rfl rfl (aP isAgg59 rfl (aD (hS.at_ 0 rfl) rfl) rfl (bX underlying59 rfl rfl (mI rfl rfl (IntWalk.i64_in _ (by omega)) rfl (eE underlying3 underlying21 rfl (by omega) rfl (bK (us:=[(0,.int .i32 _)]) hS underlying59 sizeOf21 zeroValue21 rfl rfl rfl (eH _) rfl fun B11 W11 hS=>?_)))))))))
         refine cR (i:=2) (news:=[_]) hS underlying59 dZ rfl rfl (by show 0 < 1;decide) rfl rfl rfl rfl rfl (aT.own (j:=0) (m:=1) (hS.at_ 0 rfl) rfl) rfl rfl (by dsimp only;simp only [maxLen];omega) (by dsimp only;show _ * 4≤_;omega) rfl fun v12 W12 hS=>?_
         obtain ⟨a9,c9,e9,_⟩:=bQ (hS.row 2 rfl)
         dsimp only at e9
         subst e9
         refine aB rfl rfl (aK (XF.blkN (XF.thenN (aN (bY rfl rfl (IntWalk.i64_in _ (by omega)) rfl (aA rfl rfl (aK ?_)))))))
         have hS9:=hS.tail.castG (G':=(⟨.slice ma9 (gN P.sz b) mc9,(gN P.sz b),i32 (m9),21,1⟩::⟨.slice (some ⟨tb,0,none⟩) tl2 tc,tl2,i32 (T),21,1⟩::⟨.slice a9 (wl3+1) c9,(wl3+1),i32 (wk2++[R.fs.length]),21,1⟩::⟨.slice (some ⟨bb,0,none⟩) t.k bc,t.k,bks.flatMap (bkC t.n),102,2⟩::G)) (by show (_::_::GR.mk _ _ (i32 wk2++[Value.int .i32 _]) _ _::_)=_;rw [hZ (v:=R.fs.length) (by omega)])
         exact XF.round (tl2 - (i+1)) [(0,_),(2,_),(7,_),(9,_),(10,_),(11,_),(14,_),(95,_),(96,_),(97,_),(143,_),(144,_),(145,_)] (by omega) ⟨rfl,rfl,rfl,rfl,rfl,rfl,rfl,rfl,rfl,rfl,rfl,rfl,rfl,trivial⟩ ⟨i+1,dK R (gN T i),wk2++[R.fs.length],a9,wl3+1,c9,by omega,rfl,rfl,by simp [hwl3],hJ2,by omega,⟨Fb,Sb,Mb,cf,cs,cm,e1,e2,e3,hcf,hcs,hcm,mcf,mcs,mcm,hS9.keep Kk (fun q hq=>by simp [hq])⟩⟩
        ·have hc151:=hc;clear hc
         rw [if_neg (by rw [hc151];decide)] at hJ2 hfl
         refine bV (XF.blkN (XF.thenN (aN (bY rfl rfl (IntWalk.i64_in _ (by omega)) rfl (aA rfl rfl (aK ?_))))))
         exact XF.round (tl2 - (i+1)) [(0,_),(2,_),(7,_),(9,_),(10,_),(11,_),(14,_),(95,_),(96,_),(97,_),(143,_),(144,_),(145,_)] (by omega) ⟨rfl,rfl,rfl,rfl,rfl,rfl,rfl,rfl,rfl,rfl,rfl,rfl,rfl,trivial⟩ ⟨i+1,dK R (gN T i),wk2,wa,wl3,wc,by omega,rfl,rfl,hwl3,hJ2,by omega,⟨Fb,Sb,Mb,cf,cs,cm,e1,e2,e3,hcf,hcs,hcm,mcf,mcs,mcm,hS.keep Kk (fun q hq=>by simp [hq])⟩⟩
       ·have hc146:=of_decide_eq_false hc;clear hc
        refine cV (XF.thenX (XF.thenX (XF.blkX (XF.blkN (XF.thenN (aN (bY rfl rfl (IntWalk.i64_in _ (by omega)) rfl (aA rfl rfl (aK ?_)))))))))
        have eit:T.take i=T:=List.take_of_length_le (by omega)
        rw [eit] at hJ
        have hH3:=HI.round hT.fa hHQ rfl hjk hM4 hJ
        exact XF.round (t.k - (j+1)) [(0,_),(2,_),(7,_),(9,_),(10,_),(11,_),(95,_),(96,_),(97,_)] (by omega) ⟨rfl,rfl,rfl,rfl,rfl,rfl,rfl,rfl,rfl,trivial⟩ ⟨j+1,R,wk2,T,wa,ta,wl3,wc,tl2,tc,by omega,rfl,rfl,hwl3,htl2,hJ.inv,qD hM4 hJ,hH3,by omega,by omega,PSt.tail ⟨Fb,Sb,Mb,cf,cs,cm,e1,e2,e3,hcf,hcs,hcm,mcf,mcs,mcm,hS.keep Kk (fun q hq=>by simp [hq])⟩⟩
     ·have hc98:=of_decide_eq_false hc;clear hc
      have ejk:j=t.k:=by omega
      rw [ejk] at hHQ
      have hH4:=hHQ.done
      refine cV (XF.thenX (XF.thenX (XF.blkX (XF.blkN ?_))))
      exact XF.round (wl2+2 * (t.n - Q.fs.length)) [(0,_),(2,_),(7,_),(9,_),(10,_),(11,_)] (by omega) ⟨rfl,rfl,rfl,rfl,rfl,rfl,trivial⟩ ⟨Q,wk,m9,tch,wa,ma9,ta,wl2,wc,_,mc9,tl,tc,hwl2,hm1,htl,rfl,by omega,rfl,hPQ,humQ,hH4,⟨Fb,Sb,Mb,cf,cs,cm,e1,e2,e3,hcf,hcs,hcm,mcf,mcs,mcm,hS.keep Kk (fun q hq=>by simp [hq])⟩⟩
    ·have hc53:=of_decide_eq_false hc;clear hc
     refine cV (XF.thenX (XF.thenX (XF.blkX (XF.thenN (aH (aN (aA rfl rfl (bM rfl rfl (aU (o':=3) eC rfl rfl rfl (aP isAgg59 rfl (aD (hS.at_ 0 rfl) rfl) rfl (bX underlying59 rfl rfl (aA rfl rfl (sC rfl rfl rfl (aB rfl rfl (aK (XF.thenN (cK (XF.res (cZ results53 rfl) ?_))))))))))))))))))
     exact ⟨P,wk,Kk,congrArg Ending.returned (congrArg Value.bool (decide_eq_decide.2 (by omega))),hP,hH,fun h9=>absurd h9 (by omega),hsub,PSt.tailG (PSt.tailG (PSt.tailG (PSt.tailG (PSt.tail ⟨Fb,Sb,Mb,cf,cs,cm,e1,e2,e3,hcf,hcs,hcm,mcf,mcs,mcm,hS.keep Kk (fun q hq=>by simp [hq])⟩))))⟩
   ·have hg45:=of_decide_eq_false hc;clear hc
    refine aQ (d:=45) rfl rfl rfl rfl (aQ (d:=45) rfl rfl rfl rfl (aQ (d:=45) rfl rfl rfl rfl (aQ (d:=45) rfl rfl rfl rfl (aQ (d:=45) rfl rfl rfl rfl (aQ (d:=45) rfl rfl rfl rfl (aQ (d:=45) rfl rfl rfl rfl (cG rfl rfl rfl (aK (XF.thenN (xX rfl (cV (XF.thenX (XF.thenX (XF.blkX (XF.thenN (aH (aN (aA rfl rfl (bM rfl rfl (aU (o':=3) eC rfl rfl rfl (aP isAgg59 rfl (aD (hS.at_ 0 rfl) rfl) rfl (bX underlying59 rfl rfl (aA rfl rfl (sC rfl rfl rfl (aB rfl rfl (aK (XF.thenN (cK (XF.res (cZ results53 rfl) ?_)))))))))))))))))))))))))))))
    exact ⟨P,wk,Kk,congrArg Ending.returned (congrArg Value.bool (decide_eq_decide.2 (by omega))),hP,hH,fun h9=>List.eq_nil_of_length_eq_zero (by omega),hsub,PSt.tailG (PSt.tailG (PSt.tailG (PSt.tailG (PSt.tail ⟨Fb,Sb,Mb,cf,cs,cm,e1,e2,e3,hcf,hcs,hcm,mcf,mcs,mcm,hS.keep Kk (fun q hq=>by simp [hq])⟩))))⟩
  ·skip
   refine aH (aN (aA rfl rfl (bM rfl rfl (aU (o':=3) eC rfl rfl rfl (aP isAgg59 rfl (aD (hS.at_ 0 rfl) rfl) rfl (bX underlying59 rfl rfl (gS rfl rfl rfl (aK (XF.thenN (bS rfl (fun hc=>?_) (fun hc=>?_)))))))))))
   ·have hc38:=of_decide_eq_true hc;clear hc
    refine aN (aA rfl rfl (bK (us:=[(0,.int .i32 _)]) hS underlying59 sizeOf21 zeroValue21 rfl rfl rfl (eH _) rfl fun B13 W13 hS=>?_))
    refine cR (i:=2) (news:=[_]) hS underlying59 dZ rfl rfl (by show 0 < 1;decide) rfl rfl rfl rfl rfl (aT.own (j:=0) (m:=1) (hS.at_ 0 rfl) rfl) rfl rfl (by dsimp only;simp only [maxLen];omega) (by dsimp only;show _ * 4≤_;omega) rfl fun v14 W14 hS=>?_
    obtain ⟨a9,c9,e9,_⟩:=bQ (hS.row 2 rfl)
    dsimp only at e9
    subst e9
    refine aB rfl rfl (aK ?_)
    exact XF.join [(0,_),(2,_),(7,_),(9,_)] ⟨rfl,rfl,rfl,rfl,trivial⟩ ⟨[1],a9,1,c9,rfl,(if_pos (by omega)).symm,rfl,(hS.tail.castG rfl).keep Kk (fun q hq=>by simp [hq])⟩
   ·have hc38:=of_decide_eq_false hc;clear hc
    refine bV ?_
    exact XF.join [(0,_),(2,_),(7,_),(9,_)] ⟨rfl,rfl,rfl,rfl,trivial⟩ ⟨[],none,0,0,rfl,(if_neg (by omega)).symm,rfl,hS.keep Kk (fun q hq=>by simp [hq])⟩
def dA (l:List Int):List Value:=l.map (fun x=>Value.int .i32 x)
def i64n (l:List Nat):List Value:=l.map (fun (x:Nat)=>Value.int .i64 (x:Int))
def bvs (l:List Bool):List Value:=l.map Value.bool
theorem vA {l:List Int}:(dA l).length=l.length:=List.length_map _
theorem eT {l:List Nat}:(i64n l).length=l.length:=List.length_map _
theorem sX {l:List Int} {i:Nat} (h:i < l.length):(dA l)[0+i * 1]?=some (.int .i32 (l.getD i 0)):=by
 rw [Nat.zero_add,Nat.mul_one];unfold dA;simp [h]
theorem vB {l:List Int} {i:Nat} {x:Int}:(dA l).set (0+i * 1) (.int .i32 x)=dA (l.set i x):=by
 rw [Nat.zero_add,Nat.mul_one];unfold dA;rw [List.map_set]
theorem lB {l:List Nat} {v:Nat} {x:Int} (h:x=(v:Int)):i64n l++[Value.int .i64 x]=i64n (l++[v]):=by subst h;simp [i64n]
theorem fA {l:List Bool} {v:Bool}:bvs l++[Value.bool v]=bvs (l++[v]):=by simp [bvs]
structure NumOk (cls:Nat→Nat) (m:Nat) (sts:List Nat) (nm:List Int):Prop where
 len:nm.length=m
 at_:∀ c,c < m→nm.getD c 0=if c∈sts.map cls then (((sts.map cls).idxOf c:Nat):Int) else -1
theorem NumOk.start {cls:Nat→Nat} {m:Nat}:NumOk cls m [] (List.replicate m (-1)):=⟨by simp,fun c hc=>by
 rw [if_neg (by simp),List.getD_eq_getElem?_getD,List.getElem?_replicate,if_pos hc];rfl⟩
theorem NumOk.step {cls:Nat→Nat} {m s:Nat} {sts:List Nat} {nm:List Int} (h:NumOk cls m sts nm) (hc:cls s < m) (hn:cls s∉sts.map cls):NumOk cls m (sts++[s]) (nm.set (cls s) (sts.length:Int)):=by
 have hl:=h.len
 refine ⟨by rw [List.length_set];exact hl,fun c hc9=>?_⟩
 rw [List.map_append,List.map_singleton,List.getD_eq_getElem?_getD]
 by_cases e:c=cls s
 ·subst e
  rw [List.getElem?_set_self (by omega),if_pos (by simp),List.idxOf_append,if_neg hn]
  simp
 ·rw [List.getElem?_set_ne (Ne.symm e),← List.getD_eq_getElem?_getD,h.at_ c hc9]
  by_cases hm:c∈sts.map cls
  ·rw [if_pos hm,if_pos (List.mem_append_left _ hm),List.idxOf_append,if_pos hm]
  ·rw [if_neg hm,if_neg (by simp only [List.mem_append,List.mem_singleton];exact fun h9=>h9.elim hm e)]
def mtS (cls:Nat→Nat) (sts:List Nat) (s:Nat):List Nat:=if (sts.map cls).contains (cls s)=true then sts else sts++[s]
def mtI (cls:Nat→Nat) (sts:List Nat) (s:Nat):Nat:=((mtS cls sts s).map cls).idxOf (cls s)
section
variable {cls:Nat→Nat} {sts:List Nat} {s m:Nat} {nm:List Int}
theorem lR (h:cls s∈sts.map cls):mtS cls sts s=sts:=by unfold mtS;rw [if_pos (List.contains_iff_mem.2 h)]
theorem nL (h:cls s∉sts.map cls):mtS cls sts s=sts++[s]:=by unfold mtS;rw [if_neg (fun h9=>h (List.contains_iff_mem.1 h9))]
theorem pE (h:cls s∉sts.map cls):mtI cls sts s=sts.length:=by
 unfold mtI;rw [nL h,List.map_append,List.map_singleton,List.idxOf_append,if_neg h];simp
theorem rO {A:FA} {p:Nat}:qm A cls (p+1)=mtS cls (qm A cls p) (A.nx ((qm A cls p).getD (p / A.k) 0) (p % A.k)):=by
 rw [qm];rfl
theorem sY {A:FA} {p:Nat}:qfl A cls p=mtI cls (qm A cls p) (A.nx ((qm A cls p).getD (p / A.k) 0) (p % A.k)):=by
 unfold qfl qix mtI;rw [rO]
end
def code (k:Nat) (u:List Nat):Nat:=u.foldl (fun c x=>c * k+x+1) 0
theorem qJ {k:Nat}:code k []=0:=rfl
theorem fC {k x:Nat} {u:List Nat}:code k (u++[x])=code k u * k+x+1:=by unfold code;rw [List.foldl_append];rfl
theorem kF (u:List Nat):u=[]∨∃ v x,u=v++[x]:=by
 rcases List.eq_nil_or_concat u with h | ⟨v,x,h⟩
 ·exact .inl h
 ·exact .inr ⟨v,x,by rw [h,List.concat_eq_append]⟩
theorem vC {P:List Nat→Prop} (h0:P []) (h1:∀ v x,P v→P (v++[x])):∀ n (u:List Nat),u.length=n→P u
 | 0,u,h=>by rw [List.eq_nil_of_length_eq_zero h];exact h0
 | n+1,u,h=>by
  rcases kF u with rfl | ⟨v,x,rfl⟩
  ·exact h0
  ·exact h1 v x (vC h0 h1 n v (by simpa using h))
theorem Wd.snoc {k x:Nat} {u:List Nat} (h:Wd k (u++[x])):Wd k u∧x < k:=⟨fun y hy=>h y (List.mem_append_left _ hy),h x (List.mem_append_right _ (List.mem_singleton.2 rfl))⟩
theorem Wd.snoc' {k x:Nat} {u:List Nat} (h:Wd k u) (hx:x < k):Wd k (u++[x]):=fun y hy=>by
 rcases List.mem_append.1 hy with h1 | h1
 ·exact h y h1
 ·rw [List.mem_singleton.1 h1];exact hx
theorem Wd.nil {k:Nat}:Wd k []:=fun y hy=>by cases hy
theorem mulk {c d x y k:Nat} (hx:x < k) (hy:y < k) (h:c * k+x+1=d * k+y+1):c=d∧x=y:=by
 obtain ⟨h1,h2⟩:=dY (i:=c) hx
 obtain ⟨h3,h4⟩:=dY (i:=d) hy
 have e:c * k+x=d * k+y:=by omega
 rw [e] at h1 h2
 omega
theorem vD {k:Nat}:∀ n (u v:List Nat),u.length=n→Wd k u→Wd k v→code k u=code k v→u=v
 | 0,u,v,hl,hu,hv,e=>by
  obtain rfl:=List.eq_nil_of_length_eq_zero hl
  rcases kF v with rfl | ⟨v',y,rfl⟩
  ·rfl
  ·rw [fC,qJ] at e;omega
 | n+1,u,v,hl,hu,hv,e=>by
  rcases kF u with rfl | ⟨u',x,rfl⟩
  ·cases hl
  ·rcases kF v with rfl | ⟨v',y,rfl⟩
   ·rw [fC,qJ] at e;omega
   ·rw [fC,fC] at e
    obtain ⟨h1,h2⟩:=mulk hu.snoc.2 hv.snoc.2 e
    rw [vD n u' v' (by simpa using hl) hu.snoc.1 hv.snoc.1 h1,h2]
theorem qK {A:FA} {x:Nat}:∀ {u:List Nat} {s:Nat},A.run s (u++[x])=A.nx (A.run s u) x
 | [],s=>rfl
 | y::u,s=>show A.run (A.nx s y) (u++[x])=_ from qK
def FW (A:FA):Option (List Nat)→Prop
 | some w=>Wd A.k w∧A.acc 0 w=true∧∀ u,Wd A.k u→A.acc 0 u=true→code A.k w≤code A.k u
 | none=>∀ u,Wd A.k u→A.acc 0 u=false
theorem FW.one {A B:FA} {r r':Option (List Nat)} (h:FW A r) (h':FW B r') (hk:A.k=B.k) (he:Eqv A 0 B 0):r=r':=by
 cases r with
 | none=>cases r' with
  | none=>rfl
  | some w'=>have:=h w' (by rw [hk];exact h'.1);rw [he w' (by rw [hk];exact h'.1),h'.2.1] at this;cases this
 | some w=>cases r' with
  | none=>have:=h' w (by rw [← hk];exact h.1);rw [← he w h.1,h.2.1] at this;cases this
  | some w' =>
   have h1:=h.2.2 w' (by rw [hk];exact h'.1) (by rw [he w' (by rw [hk];exact h'.1)];exact h'.2.1)
   have h2:=h'.2.2 w (by rw [← hk];exact h.1) (by rw [← he w h.1];exact h.2.1)
   rw [← hk] at h2
   rw [vD _ w w' rfl h.1 (by rw [hk];exact h'.1) (by omega)]
abbrev ncd (A:FA) (p:Nat):Nat:=A.nx ((qm A id p).getD (p / A.k) 0) (p % A.k)
def qw (A:FA):Nat→List (List Nat)
 | 0=>[[]]
 | p+1=>if ((qm A id p).map id).contains (ncd A p)=true then qw A p else qw A p++[(qw A p).getD (p / A.k) []++[p % A.k]]
def qfb (A:FA):Nat→List (Nat×Nat)
 | 0=>[(0,0)]
 | p+1=>if ((qm A id p).map id).contains (ncd A p)=true then qfb A p else qfb A p++[(p / A.k,p % A.k)]
section
variable {A:FA}
theorem wX {p:Nat}:∀ {q:Nat},p≤q→qw A p <+: qw A q
 | 0,h=>by rw [show p=0 by omega];exact List.prefix_refl _
 | q+1,h=>by
  rcases Nat.lt_or_ge q p with h1 | h1
  ·rw [show p=q+1 by omega];exact List.prefix_refl _
  ·rw [qw]
   split
   ·exact wX h1
   ·exact (wX h1).trans (List.prefix_append _ _)
theorem yW {p q i:Nat} (h:p≤q) (hi:i < (qw A p).length):(qw A q).getD i []=(qw A p).getD i []:=by
 obtain ⟨t,ht⟩:=wX (A:=A) h
 rw [← ht,List.getD_eq_getElem?_getD,List.getD_eq_getElem?_getD,List.getElem?_append_left hi]
theorem dB {α:Type} {l:List α} {x d:α} {i:Nat} (h:i < l.length):(l++[x]).getD i d=l.getD i d:=by
 rw [List.getD_eq_getElem?_getD,List.getD_eq_getElem?_getD,List.getElem?_append_left h]
theorem dN {α:Type} {l:List α} {x d:α} {i:Nat} (h:i=l.length):(l++[x]).getD i d=x:=by
 subst h;rw [List.getD_eq_getElem?_getD,List.getElem?_append_right (Nat.le_refl _),Nat.sub_self];rfl
structure BI (A:FA) (p:Nat):Prop where
 lw:(qw A p).length=(qm A id p).length
 lf:(qfb A p).length=(qm A id p).length
 w0:(qw A p).getD 0 []=[]
 run:∀ i,i < (qm A id p).length→A.run 0 ((qw A p).getD i [])=(qm A id p).getD i 0∧Wd A.k ((qw A p).getD i [])
 par:∀ i,0 < i→i < (qm A id p).length→∃ q,q < p∧(qfb A p).getD i (0,0)=(q / A.k,q % A.k)∧q / A.k < i∧(qw A p).getD i []=(qw A p).getD (q / A.k) []++[q % A.k]
 srt:∀ i j,i < j→j < (qm A id p).length→code A.k ((qw A p).getD i []) < code A.k ((qw A p).getD j [])
theorem BI.start:BI A 0:=by
 refine ⟨rfl,rfl,rfl,fun i hi=>?_,fun i h0 hi=>?_,fun i j hij hj=>?_⟩
 ·have:(qm A id 0).length=1:=rfl
  rw [show i=0 by omega];exact ⟨rfl,Wd.nil⟩
 ·have:(qm A id 0).length=1:=rfl
  omega
 ·have:(qm A id 0).length=1:=rfl
  omega
theorem BI.ahead {p:Nat} (h:BI A p) (hk:0 < A.k) (hp:p / A.k < (qm A id p).length) {i:Nat} (hi:i < (qm A id p).length):code A.k ((qw A p).getD i []) < code A.k ((qw A p).getD (p / A.k) []++[p % A.k]):=by
 rcases Nat.eq_zero_or_pos i with h0 | h0
 ·subst h0;rw [h.w0,fC,qJ];omega
 ·obtain ⟨q,hq,_,hqi,e⟩:=h.par i h0 hi
  rw [e,fC,fC]
  have h1:q / A.k≤p / A.k:=Nat.div_le_div_right (by omega)
  have h2:q % A.k < A.k:=Nat.mod_lt _ hk
  rcases Nat.lt_or_ge (q / A.k) (p / A.k) with h3 | h3
  ·have h4:=h.srt _ _ h3 hp
   have h5:(code A.k ((qw A p).getD (q / A.k) [])+1) * A.k≤code A.k ((qw A p).getD (p / A.k) []) * A.k:=Nat.mul_le_mul_right _ h4
   rw [Nat.succ_mul] at h5
   omega
  ·have e2:q / A.k=p / A.k:=by omega
   have h6:=Nat.div_add_mod q A.k
   have h7:=Nat.div_add_mod p A.k
   rw [e2] at h6 ⊢
   omega
theorem BI.step {p:Nat} (h:BI A p) (hk:0 < A.k) (hp:p / A.k < (qm A id p).length):BI A (p+1):=by
 by_cases hc:((qm A id p).map id).contains (ncd A p)=true
 ·have e1:qm A id (p+1)=qm A id p:=jK hc
  have e2:qw A (p+1)=qw A p:=by rw [qw,if_pos hc]
  have e3:qfb A (p+1)=qfb A p:=by rw [qfb,if_pos hc]
  refine ⟨by rw [e1,e2];exact h.lw,by rw [e1,e3];exact h.lf,by rw [e2];exact h.w0,by rw [e1,e2];exact h.run,?_,by rw [e1,e2];exact h.srt⟩
  rw [e1,e2,e3]
  intro i h0 hi
  obtain ⟨q,h1,h2⟩:=h.par i h0 hi
  exact ⟨q,by omega,h2⟩
 ·have e1:qm A id (p+1)=qm A id p++[ncd A p]:=iZ hc
  have e2:qw A (p+1)=qw A p++[(qw A p).getD (p / A.k) []++[p % A.k]]:=by rw [qw,if_neg hc]
  have e3:qfb A (p+1)=qfb A p++[(p / A.k,p % A.k)]:=by rw [qfb,if_neg hc]
  have hl:=h.lw
  have hf:=h.lf
  have hps:=kC (A:=A) (cls:=id) p
  have hml:=Nat.mod_lt p hk
  refine ⟨by rw [e1,e2,List.length_append,List.length_append,hl];rfl,by rw [e1,e3,List.length_append,List.length_append,hf];rfl,by rw [e2,dB (by omega)];exact h.w0,fun i hi=>?_,fun i h0 hi=>?_,fun i j hij hj=>?_⟩
  ·rw [e1,List.length_append,List.length_singleton] at hi
   rw [e1,e2]
   rcases Nat.lt_or_ge i (qm A id p).length with h1 | h1
   ·rw [dB (by omega),dB h1];exact h.run i h1
   ·rw [dN (by omega),dN (by omega),qK]
    obtain ⟨r1,r2⟩:=h.run _ hp
    rw [r1];exact ⟨rfl,r2.snoc' hml⟩
  ·rw [e1,List.length_append,List.length_singleton] at hi
   rcases Nat.lt_or_ge i (qm A id p).length with h1 | h1
   ·obtain ⟨q,g1,g2,g3,g4⟩:=h.par i h0 h1
    exact ⟨q,by omega,by rw [e3,dB (by omega)];exact g2,g3,by rw [e2,dB (by omega),dB (by omega)];exact g4⟩
   ·exact ⟨p,Nat.lt_succ_self _,by rw [e3,dN (by omega)],by omega,by rw [e2,dN (by omega),dB (by omega)]⟩
  ·rw [e1,List.length_append,List.length_singleton] at hj
   rw [e2]
   rcases Nat.lt_or_ge j (qm A id p).length with h1 | h1
   ·rw [dB (by omega),dB (by omega)];exact h.srt i j hij h1
   ·rw [dN (i:=j) (by omega),dB (by omega)];exact h.ahead hk hp (by omega)
theorem BI.all:∀ {p:Nat},(0 < A.k∨p=0)→eR A id p→BI A p
 | 0,_,_=>BI.start
 | p+1,hk,hr=>(BI.all (p:=p) (.inl (by omega)) (fun q hq=>hr q (by omega))).step (by omega) (hr p (Nat.lt_succ_self _))
theorem BI.met {q:Nat} (h:BI A q) (hk:0 < A.k) (hq:q / A.k < (qm A id q).length):∃ i,i < (qm A id (q+1)).length∧(qm A id (q+1)).getD i 0=ncd A q∧code A.k ((qw A (q+1)).getD i [])≤code A.k ((qw A q).getD (q / A.k) []++[q % A.k]):=by
 have hl:=h.lw
 by_cases hc:((qm A id q).map id).contains (ncd A q)=true
 ·have e1:qm A id (q+1)=qm A id q:=jK hc
  have e2:qw A (q+1)=qw A q:=by rw [qw,if_pos hc]
  rw [e1,e2]
  have hm:ncd A q∈qm A id q:=by rw [List.map_id] at hc;exact List.contains_iff_mem.1 hc
  obtain ⟨i,hi⟩:=List.getElem?_of_mem hm
  obtain ⟨hi1,_⟩:=List.getElem?_eq_some_iff.1 hi
  exact ⟨i,hi1,by rw [List.getD_eq_getElem?_getD,hi];rfl,Nat.le_of_lt (h.ahead hk hq hi1)⟩
 ·have e1:qm A id (q+1)=qm A id q++[ncd A q]:=iZ hc
  have e2:qw A (q+1)=qw A q++[(qw A q).getD (q / A.k) []++[q % A.k]]:=by rw [qw,if_neg hc]
  rw [e1,e2]
  exact ⟨(qm A id q).length,by simp,dN rfl,by rw [dN hl.symm];exact Nat.le_refl _⟩
theorem pF {r:Nat} (h:eR A id (r * A.k)):BI A (r * A.k):=by
 rcases Nat.eq_zero_or_pos A.k with h0 | h0
 ·exact BI.all (.inr (by rw [h0,Nat.mul_zero])) h
 ·exact BI.all (.inl h0) h
theorem cover {r:Nat} (hr:eR A id (r * A.k)) (u:List Nat):Wd A.k u→(∀ j,j < (qm A id (r * A.k)).length→code A.k ((qw A (r * A.k)).getD j [])≤code A.k u→j < r)→∃ j,j < r∧j < (qm A id (r * A.k)).length∧(qm A id (r * A.k)).getD j 0=A.run 0 u∧code A.k ((qw A (r * A.k)).getD j [])≤code A.k u:=by
 have hB:=pF hr
 have h00:=hB.w0
 refine vC (P:=fun u=>Wd A.k u→(∀ j,j < (qm A id (r * A.k)).length→code A.k ((qw A (r * A.k)).getD j [])≤code A.k u→j < r)→∃ j,j < r∧j < (qm A id (r * A.k)).length∧(qm A id (r * A.k)).getD j 0=A.run 0 u∧code A.k ((qw A (r * A.k)).getD j [])≤code A.k u) ?_ ?_ u.length u rfl
 ·intro _ hj
  have e:=(hB.run 0 (kC _)).1
  rw [h00] at e
  exact ⟨0,hj 0 (kC _) (by rw [h00];exact Nat.le_refl _),kC _,e.symm,by rw [h00];exact Nat.le_refl _⟩
 ·intro v x ih hu hj
  obtain ⟨hv,hx⟩:=hu.snoc
  have hk:0 < A.k:=by omega
  have hvu:code A.k v≤code A.k v * A.k:=Nat.le_mul_of_pos_right _ hk
  obtain ⟨j,h1,h2,h3,h4⟩:=ih hv (fun j a b=>hj j a (by rw [fC];omega))
  obtain ⟨d1,d2⟩:=dY (i:=j) hx
  have hq:j * A.k+x < r * A.k:=iG h1 hx
  have hB':BI A (j * A.k+x):=BI.all (.inl hk) (fun q' hq'=>hr q' (by omega))
  have hql:=hr _ hq
  obtain ⟨i,i1,i2,i3⟩:=hB'.met hk hql
  rw [d1,d2] at i3
  rw [d1] at hql
  have hle:j * A.k+x+1≤r * A.k:=hq
  have hlw:=hB'.lw
  have hlw2:=(BI.all (p:=j * A.k+x+1) (.inl hk) (fun q' hq'=>hr q' (by omega))).lw
  have e3:(qm A id (r * A.k)).getD i 0=A.run 0 (v++[x]):=by
   rw [eB hle i1,i2,ncd,d1,d2,qK,← h3,eB (Nat.le_of_lt hq) hql]
  have e4:code A.k ((qw A (r * A.k)).getD i [])≤code A.k (v++[x]):=by
   rw [yW hle (by omega)]
   refine Nat.le_trans i3 ?_
   rw [fC,fC,← yW (Nat.le_of_lt hq) (by omega)]
   have:=Nat.mul_le_mul_right A.k h4
   omega
  have i4:=Nat.lt_of_lt_of_le i1 (dQ (A:=A) (cls:=id) hle)
  exact ⟨i,hj i i4 e4,i4,e3,e4⟩
theorem rP {r:Nat} (hr:eR A id (r * A.k)) (hl:r < (qm A id (r * A.k)).length) (hn:∀ j,j < r→A.ac ((qm A id (r * A.k)).getD j 0)=false) (hy:A.ac ((qm A id (r * A.k)).getD r 0)=true):FW A (some ((qw A (r * A.k)).getD r [])):=by
 have hB:=pF hr
 obtain ⟨h1,h2⟩:=hB.run r hl
 refine ⟨h2,by unfold FA.acc;rw [h1];exact hy,fun u hu ha=>?_⟩
 rcases Nat.lt_or_ge (code A.k u) (code A.k ((qw A (r * A.k)).getD r [])) with h3 | h3
 ·obtain ⟨j,g1,g2,g3,g4⟩:=cover hr u hu (fun j a b=>by
   rcases Nat.lt_or_ge j r with h4 | h4
   ·exact h4
   ·rcases Nat.eq_or_lt_of_le h4 with h5 | h5
    ·subst h5;omega
    ·have:=hB.srt r j h5 a;omega)
  have:=hn j g1
  rw [g3] at this
  unfold FA.acc at ha
  rw [this] at ha;cases ha
 ·exact h3
theorem vE {r:Nat} (hr:eR A id (r * A.k)) (hl:(qm A id (r * A.k)).length≤r) (hn:∀ j,j < r→A.ac ((qm A id (r * A.k)).getD j 0)=false):FW A none:=fun u hu=>by
 obtain ⟨j,g1,g2,g3,g4⟩:=cover hr u hu (fun j a b=>by omega)
 have:=hn j g1
 rw [g3] at this
 exact this
end
def aR (A B:FA) (f:Bool→Bool→Bool):FA:=⟨A.n * B.n,A.k,fun p x=>A.nx (p / B.n) x * B.n+B.nx (p % B.n) x,fun p=>f (A.ac (p / B.n)) (B.ac (p % B.n))⟩
section
variable {A B:FA} {f:Bool→Bool→Bool}
theorem sZ (hA:A.Ok) (hB:B.Ok) (hk:A.k=B.k):(aR A B f).Ok:=by
 refine ⟨Nat.mul_pos hA.pos hB.pos,fun s x hs hx=>?_⟩
 obtain ⟨h1,h2,_⟩:=dM (show s < A.n * B.n from hs)
 exact iG (hA.t0_ _ _ h1 hx) (hB.t0_ _ _ h2 (hk▸hx))
theorem vF (hA:A.Ok) (hB:B.Ok) (hk:A.k=B.k):∀ (u:List Nat),Wd A.k u→∀ s t,s < A.n→t < B.n→(aR A B f).run (s * B.n+t) u=A.run s u * B.n+B.run t u
 | [],_,s,t,hs,ht=>rfl
 | x::u,hu,s,t,hs,ht=>by
  obtain ⟨d1,d2⟩:=dY (i:=s) ht
  have hx:=hu.head
  show (aR A B f).run (A.nx ((s * B.n+t) / B.n) x * B.n+B.nx ((s * B.n+t) % B.n) x) u=_
  rw [d1,d2]
  exact vF hA hB hk u hu.tail _ _ (hA.t0_ _ _ hs hx) (hB.t0_ _ _ ht (hk▸hx))
theorem lC (hA:A.Ok) (hB:B.Ok) (hk:A.k=B.k) {u:List Nat} (hu:Wd A.k u):(aR A B f).acc 0 u=f (A.acc 0 u) (B.acc 0 u):=by
 have h:=vF (f:=f) hA hB hk u hu 0 0 hA.pos hB.pos
 rw [Nat.zero_mul,Nat.zero_add] at h
 show f (A.ac ((aR A B f).run 0 u / B.n)) (B.ac ((aR A B f).run 0 u % B.n))=_
 obtain ⟨d1,d2⟩:=dY (i:=A.run 0 u) (show B.run 0 u < B.n from FA.run_lt hB hB.pos (hk▸hu))
 rw [h,d1,d2];rfl
end
theorem yX (t:TB) (cl:List Nat) (ca:Option Addr) (cc cm:Nat) (NX NB SX QX CX TX:Nat) (Kt:List (Nat×World)) (Ot:Own) (G:bN) (K:List (Nat×World)) (w0 w:World) (nv:Value) (sa aa:Option Addr) (sc ac sl:Nat) (sts:List Nat) (nm:List Int) (s:Nat) (hsl:sts.length=sl) (hS0:St w0 ((NX,[.slice (some ⟨NB,0,none⟩) cm cm],59)::(NB,dA (nm),21)::(SX,[.slice sa sl sc],36)::(QX,[.int .i64 (t.k:Int),nv,.slice aa sl ac],61)::(CX,[.slice ca cl.length cc],59)::(TX,t.cells,61)::Ot) (⟨(.slice sa sl sc),sl,i64n (sts),3,1⟩::⟨(.slice aa sl ac),sl,bvs (sts.map t.fa.ac),4,1⟩::G) K w) (hnm:NumOk (gN cl) cm sts nm) (hT:TOk t) (hKt:∀ q∈Kt,q∈K) (hB:cL w0 Kt (fun W=>TAt t W∧R32 W ca cl)) (hcl:cl.length=t.n) (hcm:∀ x,x < t.n→gN cl x < cm) (hcm9:cm≤100000) (hln:sl≤100000) (hs:s < t.n) :
  Calls prog 64 #[.int .i32 (s:Int),.pointer (some ⟨CX,0,none⟩),.pointer (some ⟨NX,0,none⟩),.pointer (some ⟨SX,0,none⟩),.pointer (some ⟨QX,0,none⟩),.pointer (some ⟨TX,0,none⟩)] w (fun e w'=>∃ (sa aa:Option Addr) (sc ac sl:Nat) (nm:List Int),(mtS (gN cl) sts s).length=sl∧e = .returned (.int .i32 ((mtI (gN cl) sts s:Nat):Int))∧NumOk (gN cl) cm (mtS (gN cl) sts s) nm∧St w0 ((NX,[.slice (some ⟨NB,0,none⟩) cm cm],59)::(NB,dA (nm),21)::(SX,[.slice sa sl sc],36)::(QX,[.int .i64 (t.k:Int),nv,.slice aa sl ac],61)::(CX,[.slice ca cl.length cc],59)::(TX,t.cells,61)::Ot) (⟨(.slice sa sl sc),sl,i64n (mtS (gN cl) sts s),3,1⟩::⟨(.slice aa sl ac),sl,bvs ((mtS (gN cl) sts s).map t.fa.ac),4,1⟩::G) K w'):=by
 refine cP (args:=[.int .i32 (s:Int),.pointer (some ⟨CX,0,none⟩),.pointer (some ⟨NX,0,none⟩),.pointer (some ⟨SX,0,none⟩),.pointer (some ⟨QX,0,none⟩),.pointer (some ⟨TX,0,none⟩)]) func64 rfl ntmps64 rfl ?_
 have hS:=hS0
 have hn1:=hT.n1
 refine aH (aN (aB rfl rfl (aK (XF.thenN (aH ?_)))))
 obtain ⟨hTA,hRC⟩:=hB hS hKt
 obtain ⟨cb,co,rfl,hc1⟩:=hRC.get (i:=s) (by omega)
 have hcs:=hcm s hs
 have hnl:=hnm.len
 have hna:=hnm.at_ _ hcs
 refine aN (aP isAgg59 rfl (aD (hS.at_ 4 rfl) rfl) rfl (aA rfl rfl (aX (j:=s) underlying59 sizeOf21 rfl rfl (rfl) (by omega) rfl rfl (aP isAgg21 rfl (hc1) rfl (aB rfl rfl (aK (XF.thenN (aH (aH (aN (aP isAgg59 rfl (aD (hS.at_ 0 rfl) rfl) rfl (aA rfl rfl (aX (j:=gN cl s) underlying59 sizeOf21 rfl rfl (rfl) (by omega) rfl rfl (aP isAgg21 rfl (aD (hS.at_ 1 rfl) (sX (by omega))) rfl (cH rfl rfl rfl (aK (XF.thenN (bS rfl (fun hc=>?_) (fun hc=>?_)))))))))))))))))))
 ·have hc17:=of_decide_eq_true hc;clear hc
  have hnew:gN cl s∉sts.map (gN cl):=fun h9=>by
   rw [if_pos h9] at hna;omega
  rw [nL hnew,pE hnew]
  refine aH (aN (aP isAgg59 rfl (aD (hS.at_ 0 rfl) rfl) rfl (aA rfl rfl (aP isAgg36 rfl (aD (hS.at_ 2 rfl) rfl) rfl (bX underlying36 rfl rfl (eE underlying3 underlying21 rfl (by omega) rfl (aX (j:=gN cl s) underlying59 sizeOf21 rfl rfl (rfl) (by omega) rfl rfl ?_)))))))
  refine bL (i:=1) (cs':=dA (nm.set (gN cl s) (sts.length:Int))) (O':=(_::_::_::_::_::_::Ot)) hS sizeOf21 rfl rfl rfl rfl (Nat.ble_eq_true_of_le (by rw [vA];omega)) (by rw [hsl];exact vB) rfl fun W31 hS=>?_
  refine aK (XF.thenN (aH (aN (aP isAgg36 rfl (aD (hS.at_ 2 rfl) rfl) rfl (aA rfl rfl (oE underlying21 underlying3 rfl (by omega) rfl (bK (us:=[(0,.int .i64 _)]) hS underlying36 sizeOf3 zeroValue3 rfl rfl rfl (fZ _) rfl fun B1 W1 hS=>?_)))))))
  refine cR (i:=0) (news:=[_]) hS underlying36 iD rfl rfl (by show 0 < 1;decide) rfl rfl rfl rfl rfl (aT.own (j:=0) (m:=1) (hS.at_ 0 rfl) rfl) rfl rfl (by dsimp only;simp only [maxLen];omega) (by dsimp only;show _ * 8≤_;omega) rfl fun v2 W2 hS=>?_
  obtain ⟨a9,c9,e9,_⟩:=bQ (hS.row 0 rfl)
  dsimp only at e9
  subst e9
  refine bL (i:=3) (cs':=[_]) (O':=(_::_::_::_::_::_::_::Ot)) hS sizeOf36 rfl rfl rfl rfl rfl rfl rfl fun W3 hS=>aK (XF.thenN ?_)
  obtain ⟨b5,o5,hba,hc5⟩:=fE.get (hB hS (fun q hq=>hKt q hq)).1.2 (i:=s) (by rw [hT.bl];exact hs)
  refine yC (p:=8) (k:=10) (gi:=1) (m:=1) cA hS rfl rfl (by kernel_rfl) (by kernel_rfl) (by kernel_rfl) (fun d hd=>by cases hd) rfl rfl underlying23 jC rfl rfl (by show 0 < 1;decide) rfl rfl rfl (by dsimp only;simp only [maxLen];omega) (by dsimp only;show _ * 1≤_;omega) ?_
  refine cY 1 rfl rfl (by kernel_rfl) (rgV (li:=[(4,_)]) rfl (aL rfl) ⟨cD rfl,trivial⟩ (fun w hw=>bA (o':=2) eZ rfl rfl) (aG rfl)) (cY 2 rfl rfl (by kernel_rfl) (rgV (li:=[(29,_)]) rfl (aL rfl) ⟨aJ 0 (aC rfl rfl rfl),trivial⟩ (fun w hw=>aY isAgg23 rfl ((aO hw 0).cell (Nat.zero_le _) (aD (hS.at_ 4 rfl) rfl))) (aG rfl)) (cY 3 rfl rfl (by kernel_rfl) (rgV (li:=[(5,_)]) rfl (aL rfl) ⟨cD rfl,trivial⟩ (fun w hw=>bA (o':=2) eZ rfl rfl) (aG rfl)) (cY 4 rfl rfl (by kernel_rfl) (rgV (li:=[(31,_)]) rfl (aL rfl) ⟨aJ 2 (aC rfl rfl rfl),trivial⟩ (fun w hw=>aY isAgg23 rfl ((aO hw 0).cell (Nat.zero_le _) (aD (hS.at_ 6 rfl) rfl))) (aG rfl)) (cY 5 rfl rfl (by kernel_rfl) (rgV (li:=[(0,_)]) rfl (aL rfl) ⟨cD rfl,trivial⟩ (fun w hw=>aV rfl) (aG rfl)) ?_))))
  refine cY 6 rfl rfl (by kernel_rfl) (rgV (li:=[(32,_),(33,_)]) rfl (aL rfl) ⟨aJ 3 (aC rfl rfl rfl),aJ 4 (aC rfl rfl rfl),trivial⟩ (fun w hw=>bE (j:=s) (b:=b5) (o:=o5) (m:=t.n) (c:=t.ac) underlying23 sizeOf4 (by show some (Value.slice t.aa _ _)=_;rw [hba]) rfl rfl (by omega) rfl) (aG rfl)) ?_
  refine cY 7 rfl rfl (by kernel_rfl) (rgV (li:=[(34,_)]) rfl (aL rfl) ⟨aJ 5 (aC rfl rfl rfl),trivial⟩ (fun w hw=>aY isAgg4 rfl ((aO hw 0).cell (Nat.zero_le _) (hc5))) (aG rfl)) (uG 8 rfl rfl (by kernel_rfl) (fQ W3.heap.size 1 4 _) (iU) (mX (us:=[.bool _]) rfl (aL rfl) underlying23 sizeOf4 zeroValue4 rfl rfl ⟨eN (aJ 6 (aC rfl rfl rfl)),trivial⟩ (eY _) (aG rfl)) (mZ 9 rfl rfl (iX 10 rfl rfl (rgV (li:=[(4,_)]) rfl (aL rfl) ⟨cD rfl,trivial⟩ (fun w hw=>bA (o':=2) eZ rfl rfl) (aG rfl)) (lgV (li:=[(4,_)]) rfl (aL rfl) ⟨cD rfl,trivial⟩ (fun w=>bA (o':=2) eZ rfl rfl) (aG rfl) rfl) (mY ⟨_,_,aJ 1 (aC rfl rfl rfl),aJ 7 (aC rfl rfl rfl),gY rfl rfl,?_⟩))))
  intro A4 v4 news4 W4 hbR hqA4 hS'
  clear hS;have hS:=hS';clear hS'
  cases hqA4
  refine aI (aI (aI (aI (aI (aI (aI ?_))))))
  refine eO ?_;intro _ _
  refine aI (aI ?_)
  obtain ⟨a8,c8,e8,_⟩:=bQ (hS.row 1 rfl)
  dsimp only at e8
  subst e8
  refine cN (bL (i:=4) (cs':=[_,_,_]) (O':=(_::_::_::_::_::_::_::Ot)) hS sizeOf23 rfl rfl rfl rfl rfl rfl rfl fun W5 hS=>aK (XF.thenN (aH (aN (aP isAgg59 rfl (aD (hS.at_ 1 rfl) rfl) rfl (aA rfl rfl (aX (j:=gN cl s) underlying59 sizeOf21 rfl rfl (rfl) (by omega) rfl rfl ?_)))))))
  refine aP isAgg21 rfl (aD (hS.at_ 2 rfl) (sX (by rw [List.length_set];omega))) rfl ?_
  refine aB rfl rfl (aK (XF.thenN (cK (XF.res (cZ results64 rfl) ?_))))
  have e5:(nm.set (gN cl s) (sts.length:Int)).getD (gN cl s) 0=(sts.length:Int):=by rw [List.getD_eq_getElem?_getD,List.getElem?_set_self (by omega)];rfl
  have hS9:=hS.tail.castG (G':=(⟨(.slice a9 (sl+1) c9),(sl+1),i64n (sts++[s]),3,1⟩::⟨(.slice a8 (sl+1) c8),(sl+1),bvs ((sts++[s]).map t.fa.ac),4,1⟩::G)) (by show GR.mk _ _ (i64n sts++[Value.int .i64 _]) _ _::GR.mk _ _ (bvs _++[Value.bool _]) _ _::_=_;rw [lB rfl,fA,List.map_append];rfl)
  exact ⟨a9,a8,c9,c8,sl+1,_,by simp [hsl],by rw [e5],hnm.step hcs hnew,hS9.keep K (fun q hq=>by simp [hq])⟩
 ·have hc17:=of_decide_eq_false hc;clear hc
  have hold:gN cl s∈sts.map (gN cl):=Decidable.of_not_not fun h9=>by
   rw [if_neg h9] at hna;omega
  rw [if_pos hold] at hna
  rw [lR hold,show mtI (gN cl) sts s=(sts.map (gN cl)).idxOf (gN cl s) by unfold mtI;rw [lR hold]]
  refine bV (XF.thenN (aH (aN (aP isAgg59 rfl (aD (hS.at_ 0 rfl) rfl) rfl (aA rfl rfl (aX (j:=gN cl s) underlying59 sizeOf21 rfl rfl (rfl) (by omega) rfl rfl (aP isAgg21 rfl (aD (hS.at_ 1 rfl) (sX (by omega))) rfl (aB rfl rfl (aK (XF.thenN (cK (XF.res (cZ results64 rfl) ?_))))))))))))
  exact ⟨sa,aa,sc,ac,sl,nm,hsl,by rw [hna],hnm,hS.keep K (fun q hq=>by simp [hq])⟩
end
section
open Go.RowKit
open Go.WideMaps (KeyLaw)
open Go.ChangeMaps (setBlock)
section
variable {P:Program} {ops:Array Oper} {Q:Exit→Act→World→Prop} {t0:Array Value} {d0:List Deferred} {GL:Array Bool→World→Prop} {R:Nat→World→World→Prop} {I:Nat→Value→World→Prop}
end
section
variable {α:Type} {P:Program} {K E S T:TypeId} {κ:α→Value} {W:World} {lo b:Nat} {f:α→List Value}
theorem fW {a:Act} {t:Nat} {v:Value} (h:a.eval (.tmp t)=v):∀ x u,evL [(t,v)] x=some u→a.eval x=u:=by
 intro x u hx
 cases x with
 | tmp s =>
  unfold evL dO at hx
  cases hb:Nat.beq t s with
  | true=>simp only [hb,cond_true,Option.some.injEq] at hx;rw [← Nat.eq_of_beq_eq_true hb,← hx];exact h
  | false=>simp only [hb,cond_false] at hx;cases hx
 | const c=>exact Option.some.inj hx
 | global g=>exact Option.some.inj hx
 | func f=>exact Option.some.inj hx
theorem Cc {L:Array Bool} {i:Nat} (h:i < L.size):(L.setIfInBounds i true).getD i false=true:=by
 rw [Array.getD_eq_getD_getElem?,Array.getElem?_setIfInBounds_self_of_lt h];rfl
theorem vG {L:Array Bool} {i j:Nat} (h:i≠j):(L.setIfInBounds i true).getD j false=L.getD j false:=getD_set_ne false h
end
end
section
open Go.RowKit
section
variable {P:Program} {n:Nat} {Q:Exit→Act→World→Prop} {l:Fr} {w0 W:World} {O:Own} {G:bN} {K:List (Nat×World)}
abbrev Mks:=List (Nat×Own)
def MkI (mk:List Nat) (vals:Nat→Value) (Pm:Nat→Value→Own→Prop) (s:Mks) (i:Nat) (v:Value) (w:World):Prop :=
 (i∉mk→v=vals i)∧(i∈mk→∃ ON,(i,ON)∈s∧Pm i v ON)
def MkV (mk:List Nat) (s:Mks) (L:Array Bool):Prop:=(∀ i∈mk,L.getD i false=true↔∃ ON,(i,ON)∈s)∧(∀ q∈s,q.1∈mk)∧s.Pairwise (fun p q=>p.1≠q.1)
theorem vH {id k:Nat} {ops:Array Oper} {mk:List Nat} {vals:Nat→Value} {Pm:Nat→Value→Own→Prop} (Gp:Mks→World→Prop) (hm:P.follows .mixedOrders=true) (hS:Gp [] W.drew) (hk:k < ops.size) (hl:oN ops k=true) (ht:dG ops n=true)
  (hpure:∀ i,i < k→i∉mk→∀ (s:Mks) (a0 a:Act) (w:World),Has n l a0→(∀ t,freeT ops t=true→a.eval (.tmp t)=a0.tmps.getD t undef)→Gp s w→(∀ j d,bG ops i j d=true→MkI mk vals Pm s j (a.eval (.tmp d)) w)→∃ o,ops[i]?=some o∧o.guard=none∧(execOp a.eval o).run P w = .ok (.value (vals i)) w)
  (hmake:∀ i,i∈mk→∀ (s:Mks) (a0 a:Act) (w:World),Has n l a0→(∀ t,freeT ops t=true→a.eval (.tmp t)=a0.tmps.getD t undef)→Gp s w→(∀ ON,(i,ON)∉s)→(∀ j d,bG ops i j d=true→MkI mk vals Pm s j (a.eval (.tmp d)) w)→wpOp P ops Q i (fun a' w'=>∃ v ON,a'=a.put ((ops[i]?).bind (·.dst)) v∧Pm i v ON∧Gp ((i,ON)::s) w') a w)
  (hmk:∀ i∈mk,i < k)
  (h:∀ (s:Mks) (a:Act) (w:World),Gp s w→a.tmps.size=n→a.defers=[]→(∀ t v,freeT ops t=true→dO l t=some v→a.tmps.getD t undef=v)→(∀ i d,i < k→i∉mk→(ops[i]?).bind (·.dst)=some d→a.tmps.getD d undef=vals i)→(∀ i∈mk,∃ ON,(i,ON)∈s)→(∀ i d,i∈mk→(ops[i]?).bind (·.dst)=some d→∃ ON,(i,ON)∈s∧Pm i (a.tmps.getD d undef) ON)→(∀ q∈s,q.1∈mk)→s.Pairwise (fun p q=>p.1≠q.1)→wpList P ops Q (ops.toList.drop k) a w):dS P n (.region id ops true) Q l W:=fun a0 ha0=>by
 refine wp_region_any hm (nB (G:=fun s w=>Gp s w) (I:=MkI mk vals Pm) (V:=MkV mk) (t0:=a0.tmps) (d0:=a0.defers) hk hl (by rw [ha0.size];exact ht) (fun i hi=>?_) (fun s L a w hR hall hnot=>?_) _ [] _ _ _ (by simp) (gE _) ?_ ?_ ⟨rfl,rfl,fun _ _=>rfl,?_,?_,?_⟩)
 ·intro s L a w hF hG hV hs hcl hr hD
  by_cases him:i∈mk
  ·have hnew:∀ ON',(i,ON')∉s:=fun ON' h9=>by
    have:=(hV.1 i him).2 ⟨ON',h9⟩
    rw [hr.1] at this;cases this
   refine wpOp_mono ?_ (hmake i him s a0 a w ha0 hF hG hnew hD)
   rintro a' w' ⟨v,ON,rfl,hP,hS'⟩
   have hsz:i < ops.size:=Nat.lt_trans (hmk i him) hk
   refine ⟨(i,ON)::s,v,rfl,⟨fun j hj=>?_,fun q hq=>?_,List.Pairwise.cons (fun q hq e=>hnew q.2 (by rw [show i=q.1 from e];exact hq)) hV.2.2⟩,hS',fun d hd=>⟨fun h9=>absurd him h9,fun _=>⟨ON,List.mem_cons_self,hP⟩⟩,fun j d hd hj=>⟨hj.1,fun hjm=>?_⟩⟩
   ·by_cases hji:j=i
    ·subst hji
     rw [Cc (by rw [hs];exact hsz)]
     exact ⟨fun _=>⟨ON,List.mem_cons_self⟩,fun _=>rfl⟩
    ·rw [vG (Ne.symm hji),hV.1 j hj]
     exact ⟨fun ⟨N',h9⟩=>⟨N',List.mem_cons_of_mem _ h9⟩,fun ⟨N',h9⟩=>by
      rcases List.mem_cons.1 h9 with h9 | h9
      ·exact absurd (congrArg Prod.fst h9) hji
      ·exact ⟨N',h9⟩⟩
   ·rcases List.mem_cons.1 hq with rfl | hq
    ·exact him
    ·exact hV.2.1 q hq
   ·obtain ⟨N',h1,h2⟩:=hj.2 hjm
    exact ⟨N',List.mem_cons_of_mem _ h1,h2⟩
  ·obtain ⟨o,ho,hgd,hrun⟩:=hpure i hi him s a0 a w ha0 hF hG hD
   unfold wpOp
   simp only [ho,dV hgd,if_true]
   refine .inl ?_
   unfold Oper.wp
   rw [hrun]
   refine ⟨s,_,rfl,⟨fun j hj=>?_,hV.2⟩,hG,fun d hd=>⟨fun _=>rfl,fun h9=>absurd h9 him⟩,fun j d hd hj=>hj⟩
   rw [vG (fun e=>him (by rw [e];exact hj))]
   exact hV.1 j hj
 ·have hd:∀ i d,i < k→(ops[i]?).bind (·.dst)=some d→MkI mk vals Pm s i (a.tmps.getD d undef) w:=fun i d hi hd=>hR.done i d hd (hall i hi)
  exact h s a w hR.glob (by rw [hR.size,ha0.size]) (by rw [hR.defers,ha0.defers]) (fun t v ht' hv=>by rw [hR.frame t ht'];exact ha0.at_ t v hv) (fun i d hi him hd'=>(hd i d hi hd').1 him) (fun i him=>(hR.cons.1 i him).1 (hall i (hmk i him))) (fun i d him hd'=>(hd i d (hmk i him) hd').2 him) hR.cons.2.1 hR.cons.2.2
 ·intro j hj
  rw [Array.getD_eq_getD_getElem?,Array.getElem?_replicate] at hj
  split at hj<;>simp at hj
 ·intro i _
  rw [Array.getD_eq_getD_getElem?,Array.getElem?_replicate]
  split<;>rfl
 ·exact hS
 ·refine ⟨fun i _=>?_,fun q hq=>(by cases hq),List.Pairwise.nil⟩
  rw [Array.getD_eq_getD_getElem?,Array.getElem?_replicate]
  constructor
  ·intro h9;split at h9<;>simp at h9
  ·rintro ⟨_,h9⟩;cases h9
 ·intro i d hd h9
  rw [Array.getD_eq_getD_getElem?,Array.getElem?_replicate] at h9
  split at h9<;>simp at h9
theorem gK {ops:Array Oper} {i d:Nat} {f:FuncId} {xs:List Operand} {ts:Array TypeId} {ty:TypeId} {pos:String} {aft:Array Edge} {a:Act} {w:World} {vs:List Value} {R:Value→Own→World→Prop} (hi:ops[i]?=some ⟨some d,.call { callee:=.value (.func f),args:=xs.toArray,argTypes:=ts },ty,pos,aft,none⟩) (hgo:cC P f=true) (hx:xs.map a.eval=vs)
  (hc:Calls P f vs.toArray w fun e w'=>∃ v ON,e = .returned v∧R v ON w'):wpOp P ops Q i (fun a' w'=>∃ v ON,a'=a.put ((ops[i]?).bind (·.dst)) v∧R v ON w') a w:=by
 unfold wpOp
 simp only [hi,dV (show (⟨some d,.call { callee:=.value (.func f),args:=xs.toArray,argTypes:=ts },ty,pos,aft,none⟩:Oper).guard=none from rfl),if_true]
 refine .inl ?_
 unfold Oper.wp
 rw [mV P a.eval w f xs.toArray ts _ rfl rfl hgo,Oper.upon_enter]
 rw [show xs.toArray.map a.eval=vs.toArray by rw [← hx];simp]
 refine hc.mono ?_
 rintro e w' ⟨v,ON,rfl,h9⟩
 exact ⟨v,ON,by simp,h9⟩
def vI (a:Act):Fr→Prop
 | []=>True
 | p::r=>a.tmps.getD p.1 undef=p.2∧vI a r
theorem vI.has {a:Act} (hs:a.tmps.size=n) (hd:a.defers=[]):∀ {l:Fr},vI a l→Has n l a
 | l,h=>⟨hs,hd,by
  induction l with
  | nil=>intro t v hv;cases hv
  | cons p r ih =>
   intro t v hv
   unfold dO at hv
   cases hb:Nat.beq p.1 t with
   | true =>
    simp only [hb,cond_true,Option.some.injEq] at hv
    rw [← Nat.eq_of_beq_eq_true hb,← hv];exact h.1
   | false =>
    simp only [hb,cond_false] at hv
    exact ih h.2 t v hv⟩
end
theorem rQ (P:Program) (ev:Operand→Value) (w:World) (x:Operand) (f:FuncId) (args:Array Operand) (ts:Array TypeId) (caps:Array Value) (o:Oper) (h:o.op = .call { callee:=.value x,args:=args,argTypes:=ts }) (hf:ev x = .func (.func f) #[] caps) (hb:cC P f=true):(execOp ev o).run P w = .ok (.enter f (args.map ev++caps)) w:=by
 unfold cC at hb
 cases hx:P.funcs[f]? with
 | none=>rw [hx] at hb;cases hb
 | some fn =>
  rw [hx] at hb
  simp only [Bool.and_eq_true,Bool.not_eq_true',beq_eq_false_iff_ne,ne_eq] at hb
  obtain ⟨c,hc⟩:=Option.isSome_iff_exists.1 hb.1
  unfold execOp;simp only [h];simp [go_sem,resolve,hf,callFunc,hx,hc,hb.2]
section
variable {P:Program} {n:Nat} {Q:Exit→Act→World→Prop} {l:Fr} {w0 W w:World} {ops:Array Oper} {os:List Oper} {K:List (Nat×World)} {O:Own} {G:bN} {d i:Nat} {ty:TypeId} {pos:String} {aft:Array Edge}
theorem map_evs {a:Act} {args:Array Operand} {vs:List Value} (hl:Has n l a) (ha:args.toList.map (evL l)=vs.map some):args.map a.eval=vs.toArray:=by
 have key:∀ (xs:List Operand) (us:List Value),xs.map (evL l)=us.map some→xs.map a.eval=us:=by
  intro xs
  induction xs with
  | nil=>intro us h;cases us<;>simp at h ⊢
  | cons x xs ih =>
   intro us h
   cases us with
   | nil=>simp at h
   | cons u us =>
    simp only [List.map_cons,List.cons.injEq] at h ⊢
    exact ⟨hl.ev x u h.1,ih us h.2⟩
 apply Array.ext'
 rw [Array.toList_map]
 exact key _ _ ha
theorem Cd {x:Operand} {f:FuncId} {args:Array Operand} {ts:Array TypeId} {vs caps:List Value} {R:Ending→World→Prop} (hx:evL l x=some (.func (.func f) #[] caps.toArray)) (hgo:cC P f=true) (ha:args.toList.map (evL l)=vs.map some) (hc:Calls P f (vs++caps).toArray W R) (hd:Nat.blt d n=true)
  (h:∀ e W',R e W'→∃ v,e = .returned v∧cJ P n ops Q os ((d,v)::l) W'):cJ P n ops Q (⟨some d,.call { callee:=.value x,args:=args,argTypes:=ts },ty,pos,aft,none⟩::os) l W:=fun a hl=>by
 refine wpList_plain rfl fun K' hK=>?_
 unfold Oper.wp
 rw [rQ P a.eval W x f args ts _ _ rfl (hl.ev x _ hx) hgo,Oper.upon_enter,map_evs hl ha,List.append_toArray]
 refine hc.mono ?_
 rintro e W' h9
 obtain ⟨v,rfl,hh⟩:=h e W' h9
 exact hK _ _ (hh _ (hl.put hd))
theorem Ce {f:FuncId} {x:Nat} {xs:List Operand} {ts:Array TypeId} {a:Act} {vs caps:List Value} {R:Value→Own→World→Prop} (hi:ops[i]?=some ⟨some d,.call { callee:=.value (.tmp x),args:=xs.toArray,argTypes:=ts },ty,pos,aft,none⟩) (hgo:cC P f=true) (hf:a.eval (.tmp x) = .func (.func f) #[] caps.toArray) (hx:xs.map a.eval=vs)
  (hc:Calls P f (vs++caps).toArray w fun e w'=>∃ v ON,e = .returned v∧R v ON w'):wpOp P ops Q i (fun a' w'=>∃ v ON,a'=a.put ((ops[i]?).bind (·.dst)) v∧R v ON w') a w:=by
 unfold wpOp
 simp only [hi,dV (show (⟨some d,.call { callee:=.value (.tmp x),args:=xs.toArray,argTypes:=ts },ty,pos,aft,none⟩:Oper).guard=none from rfl),if_true]
 refine .inl ?_
 unfold Oper.wp
 rw [rQ P a.eval w (.tmp x) f xs.toArray ts _ _ rfl hf hgo,Oper.upon_enter]
 rw [show xs.toArray.map a.eval++caps.toArray=(vs++caps).toArray by rw [← hx];simp]
 refine hc.mono ?_
 rintro e w' ⟨v,ON,rfl,h9⟩
 exact ⟨v,ON,by simp,h9⟩
theorem yY {t E:TypeId} {z:Value} {s:Nat} {a:Act} {v:Value} {R:Value→Own→World→Prop} (hi:ops[i]?=some ⟨some d,.buildSlice t 1 #[(0,.tmp s)],ty,pos,aft,none⟩) (hU:P.underlying t=some (.slice E)) (hs:∀ w,(sizeOf E).run P w = .ok 1 w) (hz:∀ w,(zeroValue E).run P w = .ok z w) (hf:Instr.fill (fun i=>some (i * 1,1)) ((Array.range (1 * 1)).map (z.cells[· % z.cells.size]!)) [(0,v)]=some (List.toArray [v])) (hv:a.eval (.tmp s)=v)
  (h:∃ ON,R (.slice (some ⟨w.heap.size,0,none⟩) 1 1) ON (w.alloc (.cells (List.toArray [v]) E))):wpOp P ops Q i (fun a' w'=>∃ v ON,a'=a.put ((ops[i]?).bind (·.dst)) v∧R v ON w') a w:=by
 obtain ⟨ON,h9⟩:=h
 refine iY (v:=.slice (some ⟨w.heap.size,0,none⟩) 1 1) (w':=w.alloc (.cells (List.toArray [v]) E)) hi rfl ?_ ⟨_,ON,by rw [hi];rfl,h9⟩
 unfold execOp
 simp only [List.map_toArray,List.map_cons,List.map_nil,hv]
 simp only [Instr.buildSlice,Sem.run_bind,run_underlying hU,Result.andThen_ok,hs,if_neg (show ¬ (1 * 1 > 2 ^ 24) by omega),if_neg (show ¬ (1 * 1=0) by omega),hz,Sem.run_pure,hf,newRow,run_newObj_alloc]
end
theorem vJ (v0:Int):prog.built 61 [(0,.int .i64 v0)]=some #[.int .i64 v0,.slice none 0 0,.slice none 0 0]:=by kernel_rfl
theorem lS:cC prog 55=true:=by kernel_rfl
theorem yZ:cC prog 64=true:=by kernel_rfl
theorem Cf {P:Program} {l:Fr} {W:World} {d f:Nat} {ty:TypeId} {pos:String} {aft:Array Edge} {x1 x2 x3 x4 x5:Operand} {v1 v2 v3 v4 v5:Value} (h1:evL l x1=some v1) (h2:evL l x2=some v2) (h3:evL l x3=some v3) (h4:evL l x4=some v4) (h5:evL l x5=some v5):dT P l ⟨some d,.makeFunc (.func f) #[] #[x1,x2,x3,x4,x5],ty,pos,aft,none⟩ W (.func (.func f) #[] [v1,v2,v3,v4,v5].toArray) W:=fun ev he=>by
 unfold execOp
 simp only []
 simp [Instr.makeFunc,he _ _ h1,he _ _ h2,he _ _ h3,he _ _ h4,he _ _ h5]
theorem permQ {α:Type} {a b c d e f g:α} {l:List α}:(a::b::c::d::e::f::g::l).Perm (c::d::a::b::f::g::e::l):=by
 have h1:([a,b]++([c,d]++([e]++([f,g]++l)))).Perm ([c,d]++([a,b]++([e]++([f,g]++l)))):=List.perm_append_comm_assoc _ _ _
 have h2:([e]++([f,g]++l)).Perm ([f,g]++([e]++l)):=List.perm_append_comm_assoc _ _ _
 exact h1.trans (((h2.append_left _).append_left _))
theorem madeZ (m:Nat):madeCells (Value.int .i32 0).cells (m * 1)=(dA (List.replicate m 0)).toArray:=by
 unfold dA;rw [List.map_replicate,Nat.mul_one];exact sS _ _
theorem lD {l:List Nat} {i:Nat} (h:i < l.length):(i64n l)[i]?=some (.int .i64 ((gN l i:Nat):Int)):=by unfold i64n;rw [List.getElem?_map,uM h];rfl
theorem St.rowKeep {w0 W:World} {O:Own} {G:bN} {K:List (Nat×World)} {a:Option Addr} {m c:Nat} {xs:List Value} {T:TypeId} (h:St w0 O (⟨.slice a m c,m,xs,T,1⟩::G) K W):∃ Kn,(∀ q∈K,q∈Kn)∧cL w0 Kn (fun W2=>∀ (i:Nat) u,xs[i]?=some u→∃ b off,a=some ⟨b,off,none⟩∧W2.cell? ⟨b,off+i * 1,none⟩=some u)∧St w0 O G Kn W:=by
 have hl:=(h.row 0 rfl).1
 rcases Nat.eq_zero_or_pos m with h0 | h0
 ·subst h0
  have e:xs=[]:=List.eq_nil_of_length_eq_zero (by simpa using hl)
  subst e
  exact ⟨K,fun q hq=>hq,fun _ _ i u hu=>(by cases hu),h.tailG⟩
 ·obtain ⟨b,cs,rfl,_,_,_,h1⟩:=h.rowOwnE h0
  obtain ⟨Kn,k1,k2,k3⟩:=h1.ownKeep
  refine ⟨Kn,k1,fun h2 hk i u hu=>⟨b,0,rfl,?_⟩,k3⟩
  rw [Nat.zero_add,Nat.mul_one]
  exact aD (k2 h2 hk) (by rw [List.getElem?_append_left (List.getElem?_eq_some_iff.1 hu).1];exact hu)
theorem Cg {A:FA} {cls:Nat→Nat} {n p:Nat} (h:p < n):gN ((List.range n).map (qfl A cls)) p=qfl A cls p:=by
 unfold gN;rw [List.getD_eq_getElem?_getD,List.getElem?_map,List.getElem?_range h];rfl
def zm (m i:Nat):List Int:=List.replicate i (-1)++List.replicate (m - i) 0
theorem tA {m i:Nat} (h:i≤m):(zm m i).length=m:=by unfold zm;simp;omega
theorem tB {m i:Nat} (h:i < m):(zm m i).set i (-1)=zm m (i+1):=by
 unfold zm
 obtain ⟨k,hk⟩:∃ k,m - i=k+1:=⟨m - i - 1,by omega⟩
 rw [hk,show m - (i+1)=k by omega,List.replicate_succ,List.set_append_right _ _ (by simp),List.length_replicate,Nat.sub_self,List.set_cons_zero,List.replicate_succ',List.append_assoc];rfl
theorem pG {m:Nat}:zm m 0=List.replicate m 0:=by unfold zm;simp
theorem tC {m:Nat}:zm m m=List.replicate m (-1):=by unfold zm;simp
theorem jI {A:FA} {cls:Nat→Nat} {cm p:Nat} (hA:A.Ok) (hr:0 < A.k→eR A cls p) (hp:A.k=0→p=0) (hc:∀ x,x < A.n→cls x < cm):(qm A cls p).length≤cm∧∀ s∈qm A cls p,s < A.n:=by
 have h1:∀ s∈qm A cls p,s < A.n:=by
  rcases Nat.eq_zero_or_pos A.k with h0 | h0
  ·rw [hp h0];intro s hs;rw [List.mem_singleton.1 hs];exact hA.pos
  ·exact uL hA h0 (hr h0)
 refine ⟨?_,h1⟩
 have h2:=kW (N:=cm) (kU (A:=A) (cls:=cls) (p:=p)) fun x hx=>by
  obtain ⟨s,hs,rfl⟩:=List.mem_map.1 hx
  exact hc _ (h1 s hs)
 rw [List.length_map] at h2;exact h2
theorem vK (t:TB) (cl:List Nat) (ca:Option Addr) (cc cm:Nat) (Kt:List (Nat×World)) (Ot:Own) (G:bN) (K:List (Nat×World)) (w0 w:World) (hS0:St w0 Ot G K w) (hT:TOk t) (hKt:∀ q∈Kt,q∈K) (hB:cL w0 Kt (fun W=>TAt t W∧R32 W ca cl)) (hcl:cl.length=t.n) (hcm:∀ x,x < t.n→gN cl x < cm) (hcm9:cm≤100000) :
  Calls prog 54 #[t.val,.slice ca cl.length cc,.int .i64 (cm:Int)] w (fun e w'=>∃ (q:TB) (N:Nat) (Kn:List (Nat×World)),e = .returned q.val∧QuoOk t.fa (gN cl) N∧q.n=N∧q.k=t.k∧TOk q∧(∀ p,p < N * t.k→gN q.xs p=qfl t.fa (gN cl) p)∧(∀ i,i < N→q.bs.getD i false=t.fa.ac ((qm t.fa (gN cl) (N * t.k)).getD i 0))∧(∀ q∈K,q∈Kn)∧cL w0 Kn (TAt q)∧St w0 Ot G Kn w'):=by
 refine cP (args:=[t.val,.slice ca cl.length cc,.int .i64 (cm:Int)]) func54 rfl ntmps54 rfl ?_
 have hS:=hS0
 have hn1:=hT.n1
 have hk1:=hT.k1
 have hp:=hT.pos
 refine aH (aN (cI (cs:=[_,_,_]) hS rfl rfl rfl fun B1 W1 hS=>cI (cs:=[_]) hS rfl rfl rfl fun B2 W2 hS=>cE (cs:=[_,_,_]) hS zeroValue61 rfl rfl fun B3 W3 hS=>aK (XF.thenN (aH (aN (aA rfl rfl ?_))))))
 refine eX (m:=cm) (cs:=dA (List.replicate cm 0)) hS underlying59 dZ rfl rfl rfl (rfl) (rfl) (madeZ cm) (by show (4:Int) * _≤_;omega) (by omega) rfl fun B4 W4 hS=>?_
 refine cE (cs:=[_]) hS zeroValue59 rfl rfl fun B5 W5 hS=>bL (i:=0) (cs':=[_]) (O':=(_::_::_::_::_::Ot)) hS sizeOf59 rfl rfl rfl rfl rfl rfl rfl fun W6 hS=>aK (XF.thenN (aH (aH ?_)))
 have hS':=hS.castO (O':=((B5,[.slice (some ⟨B4,0,none⟩) cm cm],59)::(B4,dA (zm cm 0),21)::(B3,[.int .i64 0,.slice none 0 0,.slice none 0 0],61)::(B2,[.slice ca cl.length cc],59)::(B1,t.cells,61)::Ot)) (by rw [pG]);clear hS;have hS:=hS';clear hS'
 refine aN (aP isAgg59 rfl (aD (hS.at_ 0 rfl) rfl) rfl (bX underlying59 rfl rfl (aA rfl rfl (aK (XF.thenN (bH (cW (fun m l W=>∃ (i:Nat),i≤cm∧m=cm - i∧l=[(2,.int .i64 (cm:Int)),(3,.pointer (some ⟨B1,0,none⟩)),(4,.pointer (some ⟨B2,0,none⟩)),(6,.pointer (some ⟨B3,0,none⟩)),(7,.pointer (some ⟨B5,0,none⟩)),(18,.int .i64 (cm:Int)),(19,.int .i64 (i:Int))]∧St w0 ((B5,[.slice (some ⟨B4,0,none⟩) cm cm],59)::(B4,dA (zm cm i),21)::(B3,[.int .i64 0,.slice none 0 0,.slice none 0 0],61)::(B2,[.slice ca cl.length cc],59)::(B1,t.cells,61)::Ot) G K W) (cm - 0) ([(2,_),(3,_),(4,_),(6,_),(7,_),(18,_),(19,_)]) ⟨rfl,rfl,rfl,rfl,rfl,rfl,rfl,trivial⟩ (⟨0,Nat.zero_le _,rfl,rfl,hS.keep K (fun q hq=>by simp [hq])⟩) ?_)))))))
 clear hS
 rintro m l W ⟨i,hi,rfl,rfl,hS⟩
 refine aH (aN (cH rfl rfl rfl (aK (XF.thenN (aH (bS rfl (fun hc=>?_) (fun hc=>?_)))))))
 ·have hc20:=of_decide_eq_true hc;clear hc
  refine bV (XF.thenN (aH (bH (aH (aN (aA rfl rfl (aB rfl rfl (aK (XF.thenN (aN (aP isAgg59 rfl (aD (hS.at_ 0 rfl) rfl) rfl (aA rfl rfl (aX (j:=i) underlying59 sizeOf21 rfl rfl (rfl) (by omega) rfl rfl ?_)))))))))))))
  refine bL (i:=1) (cs':=dA ((zm cm i).set i (-1))) (O':=(_::_::_::_::_::Ot)) hS sizeOf21 rfl rfl rfl rfl (Nat.ble_eq_true_of_le (by rw [vA,tA (by omega)];omega)) vB rfl fun W51 hS=>?_
  refine aK (XF.blkN (XF.thenN (aN (bY rfl rfl (IntWalk.i64_in _ (by omega)) rfl (aA rfl rfl (aK ?_))))))
  rw [tB (by omega)] at hS
  exact XF.round (cm - (i+1)) [(2,_),(3,_),(4,_),(6,_),(7,_),(18,_),(19,_)] (by omega) ⟨rfl,rfl,rfl,rfl,rfl,rfl,rfl,trivial⟩ ⟨i+1,by omega,rfl,rfl,hS.keep K (fun q hq=>by simp [hq])⟩
 ·have hc20:=of_decide_eq_false hc;clear hc
  have eic:i=cm:=by omega
  rw [eic,tC] at hS
  have hnm0:NumOk (gN cl) cm [] (List.replicate cm (-1)):=NumOk.start
  refine cV (XF.thenX (XF.thenX (XF.blkX (XF.thenN (aH (aN (aU (o':=0) iJ rfl rfl rfl (aP isAgg3 rfl (aD (hS.at_ 4 rfl) rfl) rfl (dP (us:=[(0,.int .i64 _)]) rfl (vJ _) rfl (cE (cs:=[_,_,_]) hS zeroValue61 rfl rfl fun B7 W7 hS=>bU (i:=0) (vs:=[_,_,_]) (cs':=[_,_,_]) (O':=(_::_::_::_::_::_::Ot)) hS sizeOf61 rfl rfl rfl rfl rfl rfl rfl fun W8 hS=>aK (XF.thenN (aH (aN (cE (cs:=[_]) hS zeroValue36 rfl rfl fun B9 W9 hS=>aK (XF.thenN (aH (aN (opV (Cf rfl rfl rfl rfl rfl) rfl (aB rfl rfl (aK (XF.thenN (aH ?_))))))))))))))))))))))
  have hS':=(((hS.perm permQ).newG 21 1).newG 4 1).newG 3 1;clear hS;have hS:=hS';clear hS'
  refine aN (aA rfl rfl (Cd (vs:=[_]) (caps:=[_,_,_,_,_]) rfl yZ rfl (yX t cl ca cc cm B5 B4 B9 B7 B2 B1 Kt _ _ K w0 _ _ none none 0 0 0 [] _ 0 rfl (hS.keep K (fun q hq=>by simp [hq])) hnm0 hT hKt hB hcl hcm hcm9 (Nat.zero_le _) hp) rfl ?_))
  rintro e W9 ⟨sa,aa,sc,ac,sl,nm,hsl,rfl,hnm,hS9⟩
  refine ⟨_,rfl,?_⟩
  clear hS;have hS:=hS9;clear hS9
  refine aK (XF.thenN (aH (aH ?_)))
  have ez:qm t.fa (gN cl) (0 * t.k)=mtS (gN cl) [] 0:=by rw [Nat.zero_mul];rfl
  refine aN (aB rfl rfl (aK (XF.thenN (bH ?_))))
  refine cW (fun m l W=>∃ (i:Nat) (sa aa na:Option Addr) (sc ac nc sl:Nat) (nm:List Int),i≤cm∧m=cm - i∧l=[(3,.pointer (some ⟨B1,0,none⟩)),(4,.pointer (some ⟨B2,0,none⟩)),(6,.pointer (some ⟨B3,0,none⟩)),(9,.pointer (some ⟨B7,0,none⟩)),(10,.pointer (some ⟨B9,0,none⟩)),(11,.func (.func 64) #[] [.pointer (some ⟨B2,0,none⟩),.pointer (some ⟨B5,0,none⟩),.pointer (some ⟨B9,0,none⟩),.pointer (some ⟨B7,0,none⟩),.pointer (some ⟨B1,0,none⟩)].toArray),(12,.int .i64 (i:Int))]∧(qm t.fa (gN cl) (i * t.k)).length=sl∧i≤sl∧(∀ j,j < i→j < (qm t.fa (gN cl) (j * t.k)).length)∧NumOk (gN cl) cm (qm t.fa (gN cl) (i * t.k)) nm∧St w0 ((B5,[.slice (some ⟨B4,0,none⟩) cm cm],59)::(B4,dA (nm),21)::(B9,[.slice sa sl sc],36)::(B7,[.int .i64 (t.k:Int),.slice na (i * t.k) nc,.slice aa sl ac],61)::(B2,[.slice ca cl.length cc],59)::(B1,t.cells,61)::(B3,[.int .i64 0,.slice none 0 0,.slice none 0 0],61)::Ot) (⟨(.slice sa sl sc),sl,i64n (qm t.fa (gN cl) (i * t.k)),3,1⟩::⟨(.slice aa sl ac),sl,bvs ((qm t.fa (gN cl) (i * t.k)).map t.fa.ac),4,1⟩::⟨(.slice na (i * t.k) nc),i * t.k,i32 ((List.range (i * t.k)).map (qfl t.fa (gN cl))),21,1⟩::G) K W) (cm - 0) ([(3,_),(4,_),(6,_),(9,_),(10,_),(11,_),(12,_)]) ⟨rfl,rfl,rfl,rfl,rfl,rfl,rfl,trivial⟩ (⟨0,sa,aa,none,sc,ac,0,sl,nm,Nat.zero_le _,rfl,rfl,by rw [ez];exact hsl,Nat.zero_le _,fun j hj=>absurd hj (Nat.not_lt_zero _),by rw [ez];exact hnm,by rw [ez,Nat.zero_mul];exact hS.keep K (fun q hq=>by simp [hq])⟩) ?_
  clear hS
  clear ez
  rintro m l W ⟨i,sa,aa,na,sc,ac,nc,sl,nm,hi,rfl,rfl,hsl,hil,hrows,hnm,hS⟩
  refine aH (aH (aN (aA rfl rfl (aP isAgg36 rfl (aD (hS.at_ 2 rfl) rfl) rfl (bX underlying36 rfl rfl (cH rfl rfl rfl (aK (XF.thenN (bS rfl (fun hc=>?_) (fun hc=>?_))))))))))
  ·have hc35:=of_decide_eq_true hc;clear hc
   refine bV (XF.thenN (aH (bH (aH ?_))))
   obtain ⟨sb,rfl⟩:=eG (m:=sl) (hS.row 0 rfl) (by omega)
   have hqr:0 < t.k→eR t.fa (gN cl) (i * t.k):=fun hk0 q hq=>by
    obtain ⟨h1,_,h3⟩:=dM hq
    exact Nat.lt_of_lt_of_le (hrows _ h1) (dQ h3)
   obtain ⟨hq1,hq2⟩:=jI hT.fa hqr (fun h0=>by have h1:t.k=0:=h0;rw [h1,Nat.mul_zero]) hcm
   have hsi:gN (qm t.fa (gN cl) (i * t.k)) i < t.n:=hq2 _ (Ai (by omega))
   refine iF (m:=8) cA hS (by kernel_rfl) (by kernel_rfl) rfl (bR 1 rfl 3 rfl rfl (fun w hw=>dL (vs:=[_,_,_]) isAgg61 sizeOf61 rfl (aT.agree (aO hw 0) (Nat.zero_le _) (aT.own (j:=0) (m:=3) (hS.at_ 5 rfl) rfl))) rfl (bR 2 rfl 10 rfl rfl (fun w hw=>aY isAgg36 rfl ((aO hw 0).cell (Nat.zero_le _) (aD (hS.at_ 2 rfl) rfl))) rfl (bR 3 rfl 12 rfl rfl (fun w hw=>aV rfl) rfl (aZ 4 rfl (isV _) (aW _) (rgV (li:=[(39,_),(40,_)]) rfl (aL rfl) ⟨aJ 1 (aC rfl rfl rfl),aJ 2 (aC rfl rfl rfl),trivial⟩ (fun w hw=>bE (j:=i) underlying36 sizeOf3 rfl rfl (rfl) (by omega) rfl) (aG rfl)) ?_))))
   refine bF 5 rfl 41 3 rfl rfl rfl (fun w hw=>aY isAgg3 rfl ((aO hw 0).cell (Nat.zero_le _) (by rw [Nat.zero_add,Nat.mul_one];exact cX (hS.row 0 rfl) (k:=i) (lD (by omega))))) rfl ?_
   refine aZ 6 rfl (isV (.slice (fV t.na t.nc (gN (qm t.fa (gN cl) (i * t.k)) i * t.k) 1) t.k (t.nc - gN (qm t.fa (gN cl) (i * t.k)) i * t.k))) (aW _) (lK [isV _,isV _] rfl lS (aL rfl) ⟨eN (aJ 0 (aC rfl rfl rfl)),eN (aJ 4 (aC rfl rfl rfl)),trivial⟩ (fun vs w' hb hh=>by have e:=eP (us:=[_,_]) hh;subst e;exact (oH t (gN (qm t.fa (gN cl) (i * t.k)) i) w' hT hsi).mono fun e w2 ⟨h1,h2⟩=>⟨_,h1,rfl,h2⟩) (aG rfl)) ?_
   refine bF 7 rfl 43 5 rfl rfl rfl (fun w hw=>iS underlying59 rfl) rfl (aZ 8 rfl (isV _) (aW _) (rgV (li:=[]) rfl (aL rfl) trivial (fun w hw=>aV rfl) (aG rfl)) (dJ ?_))
   intro W10 hbR hS'
   clear hS;have hS:=hS';clear hS'
   refine aI (aI (aI (aI (aI (aI (aI (aI (cN (XF.thenN (bH (cW (fun m l W=>∃ (x:Nat) (sa aa na:Option Addr) (sc ac nc sl:Nat) (nm:List Int),x≤t.k∧m=t.k - x∧l=[(3,.pointer (some ⟨B1,0,none⟩)),(4,.pointer (some ⟨B2,0,none⟩)),(6,.pointer (some ⟨B3,0,none⟩)),(9,.pointer (some ⟨B7,0,none⟩)),(10,.pointer (some ⟨B9,0,none⟩)),(11,.func (.func 64) #[] [.pointer (some ⟨B2,0,none⟩),.pointer (some ⟨B5,0,none⟩),.pointer (some ⟨B9,0,none⟩),.pointer (some ⟨B7,0,none⟩),.pointer (some ⟨B1,0,none⟩)].toArray),(12,.int .i64 (i:Int)),(43,.slice (fV t.na t.nc (gN (qm t.fa (gN cl) (i * t.k)) i * t.k) 1) t.k (t.nc - gN (qm t.fa (gN cl) (i * t.k)) i * t.k)),(44,.int .i64 (t.k:Int)),(45,.int .i64 (x:Int))]∧(qm t.fa (gN cl) (i * t.k+x)).length=sl∧NumOk (gN cl) cm (qm t.fa (gN cl) (i * t.k+x)) nm∧St w0 ((B5,[.slice (some ⟨B4,0,none⟩) cm cm],59)::(B4,dA (nm),21)::(B9,[.slice sa sl sc],36)::(B7,[.int .i64 (t.k:Int),.slice na (i * t.k+x) nc,.slice aa sl ac],61)::(B2,[.slice ca cl.length cc],59)::(B1,t.cells,61)::(B3,[.int .i64 0,.slice none 0 0,.slice none 0 0],61)::Ot) (⟨(.slice sa sl sc),sl,i64n (qm t.fa (gN cl) (i * t.k+x)),3,1⟩::⟨(.slice aa sl ac),sl,bvs ((qm t.fa (gN cl) (i * t.k+x)).map t.fa.ac),4,1⟩::⟨(.slice na (i * t.k+x) nc),i * t.k+x,i32 ((List.range (i * t.k+x)).map (qfl t.fa (gN cl))),21,1⟩::G) K W) (t.k - 0) ([(3,_),(4,_),(6,_),(9,_),(10,_),(11,_),(12,_),(43,_),(44,_),(45,_)]) ⟨rfl,rfl,rfl,rfl,rfl,rfl,rfl,rfl,rfl,rfl,trivial⟩ (⟨0,_,aa,na,sc,ac,nc,sl,nm,Nat.zero_le _,rfl,rfl,hsl,hnm,hS.keep K (fun q hq=>by simp [hq])⟩) ?_)))))))))))
   clear hS
   rintro m l W ⟨x,sa,aa,na,sc,ac,nc,sl,nm,hx,rfl,rfl,hsl9,hnm,hS⟩
   refine aH (aN (cH rfl rfl rfl (aK (XF.thenN (aH (bS rfl (fun hc=>?_) (fun hc=>?_)))))))
   ·have hc46:=of_decide_eq_true hc;clear hc
    refine bV (XF.thenN (aH (bH (aH ?_))))
    have hx9:x < t.k:=by omega
    obtain ⟨hTA,hRC⟩:=hB hS (fun q hq=>hKt q hq)
    have hix:=hT.ix hsi hx9
    have hcp:=hT.cap
    obtain ⟨cb,co,hcu,hc5⟩:=(hTA.1.cut (i:=gN (qm t.fa (gN cl) (i * t.k)) i * t.k) (L:=t.k) (c:=t.nc) (by rw [hT.len];exact hix.2) (by omega)).get (i:=x) (by rw [List.length_take,List.length_drop,hT.len];omega)
    rw [dU hx9] at hc5
    have hc5:W.cell? ⟨cb,co+x * 1,none⟩=some (.int .i32 ((t.fa.nx (gN (qm t.fa (gN cl) (i * t.k)) i) x:Nat):Int)):=hc5
    have hns:t.fa.nx (gN (qm t.fa (gN cl) (i * t.k)) i) x < t.n:=hT.fa.t0_ _ x hsi hx9
    have hqr2:0 < t.k→eR t.fa (gN cl) (i * t.k+x):=fun hk0 q hq=>by
     rcases Nat.lt_or_ge q (i * t.k) with h9 | h9
     ·exact hqr hk0 q h9
     ·have h8:q / t.k=i:=by
       rw [show q=i * t.k+(q - i * t.k) by omega];exact (dY (by omega)).1
      rw [show q / t.fa.k=i from h8]
      exact Nat.lt_of_lt_of_le (by omega) (dQ h9)
    obtain ⟨hq3,hq4⟩:=jI hT.fa hqr2 (fun h0=>absurd (show t.k=0 from h0) (by omega)) hcm
    have hmul:i * t.k≤100000 * 100000:=Nat.mul_le_mul (by omega) hk1
    refine aN ?_
    refine aX (j:=x) (b:=cb) (o:=co) (m:=t.k) (c:=t.nc - gN (qm t.fa (gN cl) (i * t.k)) i * t.k) underlying59 sizeOf21 (by show some (Value.slice (fV _ _ _ _) _ _)=_;rw [hcu]) rfl rfl (by omega) rfl rfl ?_
    refine aP isAgg21 rfl (hc5) rfl (aB rfl rfl (aK (XF.thenN ?_)))
    have hgp:∀ (P9:Prop),P9→P9:=fun _ h=>h
    refine vH (mk:=[4,5]) (k:=6) (vals:=(fun i8=>match i8 with | 0=>.pointer (some ⟨B7,0+1,none⟩) | 1=>.slice na (i * t.k+x) nc | 2=>.func (.func 64) #[] [.pointer (some ⟨B2,0,none⟩),.pointer (some ⟨B5,0,none⟩),.pointer (some ⟨B9,0,none⟩),.pointer (some ⟨B7,0,none⟩),.pointer (some ⟨B1,0,none⟩)].toArray | _=>.int .i32 ((t.fa.nx (gN (qm t.fa (gN cl) (i * t.k)) i) x:Nat):Int))) (Pm:=fun i v ON=>(i=4→ON=[(0,[v],0)])∧(i=5→∃ u B,v = .slice (some ⟨B,0,none⟩) 1 1∧ON=[(B,[u],0)])) (fun s w=>(s=[]∧St w0 ((B5,[.slice (some ⟨B4,0,none⟩) cm cm],59)::(B4,dA (nm),21)::(B9,[.slice sa sl sc],36)::(B7,[.int .i64 (t.k:Int),.slice na (i * t.k+x) nc,.slice aa sl ac],61)::(B2,[.slice ca cl.length cc],59)::(B1,t.cells,61)::(B3,[.int .i64 0,.slice none 0 0,.slice none 0 0],61)::Ot) (⟨(.slice sa sl sc),sl,i64n (qm t.fa (gN cl) (i * t.k+x)),3,1⟩::⟨(.slice aa sl ac),sl,bvs ((qm t.fa (gN cl) (i * t.k+x)).map t.fa.ac),4,1⟩::⟨(.slice na (i * t.k+x) nc),i * t.k+x,i32 ((List.range (i * t.k+x)).map (qfl t.fa (gN cl))),21,1⟩::G) K w)∨(∃ v,s=[(4,[(0,[v],0)])]∧∃ (sa aa:Option Addr) (sc ac sl:Nat) (nm:List Int),(mtS (gN cl) (qm t.fa (gN cl) (i * t.k+x)) (t.fa.nx (gN (qm t.fa (gN cl) (i * t.k)) i) x)).length=sl∧v = .int .i32 ((mtI (gN cl) (qm t.fa (gN cl) (i * t.k+x)) (t.fa.nx (gN (qm t.fa (gN cl) (i * t.k)) i) x):Nat):Int)∧NumOk (gN cl) cm (mtS (gN cl) (qm t.fa (gN cl) (i * t.k+x)) (t.fa.nx (gN (qm t.fa (gN cl) (i * t.k)) i) x)) nm∧St w0 ((B5,[.slice (some ⟨B4,0,none⟩) cm cm],59)::(B4,dA (nm),21)::(B9,[.slice sa sl sc],36)::(B7,[.int .i64 (t.k:Int),.slice na (i * t.k+x) nc,.slice aa sl ac],61)::(B2,[.slice ca cl.length cc],59)::(B1,t.cells,61)::(B3,[.int .i64 0,.slice none 0 0,.slice none 0 0],61)::Ot) (⟨(.slice sa sl sc),sl,i64n (mtS (gN cl) (qm t.fa (gN cl) (i * t.k+x)) (t.fa.nx (gN (qm t.fa (gN cl) (i * t.k)) i) x)),3,1⟩::⟨(.slice aa sl ac),sl,bvs ((mtS (gN cl) (qm t.fa (gN cl) (i * t.k+x)) (t.fa.nx (gN (qm t.fa (gN cl) (i * t.k)) i) x)).map t.fa.ac),4,1⟩::⟨.slice na (i * t.k+x) nc,i * t.k+x,i32 ((List.range (i * t.k+x)).map (qfl t.fa (gN cl))),21,1⟩::G) K w)∨(∃ v B,s=[(5,[(B,[v],0)]),(4,[(0,[v],0)])]∧∃ (sa aa:Option Addr) (sc ac sl:Nat) (nm:List Int),(mtS (gN cl) (qm t.fa (gN cl) (i * t.k+x)) (t.fa.nx (gN (qm t.fa (gN cl) (i * t.k)) i) x)).length=sl∧v = .int .i32 ((mtI (gN cl) (qm t.fa (gN cl) (i * t.k+x)) (t.fa.nx (gN (qm t.fa (gN cl) (i * t.k)) i) x):Nat):Int)∧NumOk (gN cl) cm (mtS (gN cl) (qm t.fa (gN cl) (i * t.k+x)) (t.fa.nx (gN (qm t.fa (gN cl) (i * t.k)) i) x)) nm∧St w0 ((B,[v],21)::(B5,[.slice (some ⟨B4,0,none⟩) cm cm],59)::(B4,dA (nm),21)::(B9,[.slice sa sl sc],36)::(B7,[.int .i64 (t.k:Int),.slice na (i * t.k+x) nc,.slice aa sl ac],61)::(B2,[.slice ca cl.length cc],59)::(B1,t.cells,61)::(B3,[.int .i64 0,.slice none 0 0,.slice none 0 0],61)::Ot) (⟨(.slice sa sl sc),sl,i64n (mtS (gN cl) (qm t.fa (gN cl) (i * t.k+x)) (t.fa.nx (gN (qm t.fa (gN cl) (i * t.k)) i) x)),3,1⟩::⟨(.slice aa sl ac),sl,bvs ((mtS (gN cl) (qm t.fa (gN cl) (i * t.k+x)) (t.fa.nx (gN (qm t.fa (gN cl) (i * t.k)) i) x)).map t.fa.ac),4,1⟩::⟨.slice na (i * t.k+x) nc,i * t.k+x,i32 ((List.range (i * t.k+x)).map (qfl t.fa (gN cl))),21,1⟩::G) K w)) cA (.inl ⟨rfl,hS.drew⟩) (Nat.le_of_ble_eq_true (by kernel_rfl)) (by kernel_rfl) (by kernel_rfl) ?_ ?_ (by decide) ?_
    ·intro i9 hi9 hin s a0 c9 w ha0 hF9 hG hD
     have hfr:∀ t v,freeT _ t=true→dO _ t=some v→c9.eval (.tmp t)=v:=fun t v h1 h2=>(hF9 t h1).trans (ha0.at_ t v h2)
     have hcell:w.cell? ⟨B7,0+1,none⟩=some (.slice na (i * t.k+x) nc):=by
      rcases hG with ⟨_,h9⟩ | ⟨v,_,sa2,aa2,sc2,ac2,sl2,nm2,_,_,_,h9⟩ | ⟨v,B,_,sa2,aa2,sc2,ac2,sl2,nm2,_,_,_,h9⟩
      ·exact aD (h9.at_ 3 rfl) rfl
      ·exact aD (h9.at_ 3 rfl) rfl
      ·exact aD (h9.at_ 4 rfl) rfl
     match i9,hi9,hin with
     | 0,_,_=>exact ⟨_,rfl,rfl,by
      exact bA (l:=[(9,.pointer (some ⟨B7,0,none⟩))]) iK rfl rfl c9.eval (fW (hfr 9 _ (by kernel_rfl) rfl))⟩
     | 1,_,_=>exact ⟨_,rfl,rfl,by
      have h9:=(hD 0 49 (by kernel_rfl)).1 (by decide)
      exact aY (l:=[(49,.pointer (some ⟨B7,0+1,none⟩))]) isAgg59 rfl hcell c9.eval (fW h9)⟩
     | 2,_,_=>exact ⟨_,rfl,rfl,by
      exact aV (l:=[(11,.func (.func 64) #[] [.pointer (some ⟨B2,0,none⟩),.pointer (some ⟨B5,0,none⟩),.pointer (some ⟨B9,0,none⟩),.pointer (some ⟨B7,0,none⟩),.pointer (some ⟨B1,0,none⟩)].toArray)]) rfl c9.eval (fW (hfr 11 _ (by kernel_rfl) rfl))⟩
     | 3,_,_=>exact ⟨_,rfl,rfl,by
      exact aV (l:=[(14,.int .i32 ((t.fa.nx (gN (qm t.fa (gN cl) (i * t.k)) i) x:Nat):Int))]) rfl c9.eval (fW (hfr 14 _ (by kernel_rfl) rfl))⟩
     | 4,_,h9=>exact absurd (by decide) h9
     | 5,_,h9=>exact absurd (by decide) h9
     | i+6,h9,_=>omega
    ·intro i9 him s a0 c9 w ha0 hF9 hG hnew hD
     have hcase:i9=4∨i9=5:=by simpa using him
     rcases hcase with rfl | rfl
     ·have h2:=(hD 2 51 (by kernel_rfl)).1 (by decide)
      have h3:=(hD 3 52 (by kernel_rfl)).1 (by decide)
      rcases hG with ⟨rfl,h9⟩ | ⟨v,rfl,_⟩ | ⟨v,B,rfl,_⟩
      ·refine Ce (vs:=[.int .i32 ((t.fa.nx (gN (qm t.fa (gN cl) (i * t.k)) i) x:Nat):Int)]) (caps:=[_,_,_,_,_]) rfl yZ h2 (by simp only [List.map_cons,List.map_nil,h3]) ((yX t cl ca cc cm B5 B4 B9 B7 B2 B1 Kt _ _ K w0 _ _ sa aa sc ac sl _ nm (t.fa.nx (gN (qm t.fa (gN cl) (i * t.k)) i) x) hsl9 h9 hnm hT hKt hB hcl hcm hcm9 (by omega) hns).mono ?_)
       rintro e w2 ⟨sa2,aa2,sc2,ac2,sl2,nm2,k1,rfl,k2,k3⟩
       exact ⟨_,[(0,[_],0)],rfl,⟨fun _=>rfl,fun h=>absurd h (by decide)⟩,.inr (.inl ⟨_,rfl,sa2,aa2,sc2,ac2,sl2,nm2,k1,rfl,k2,k3⟩)⟩
      ·exact absurd List.mem_cons_self (hnew _)
      ·exact absurd (List.mem_cons_of_mem _ List.mem_cons_self) (hnew _)
     ·obtain ⟨ON4,h4,hP4⟩:=(hD 4 53 (by kernel_rfl)).2 (by decide)
      have hP4:=hP4.1 rfl
      rcases hG with ⟨rfl,h9⟩ | ⟨v,rfl,sa2,aa2,sc2,ac2,sl2,nm2,k1,k0,k2,k3⟩ | ⟨v,B,rfl,_⟩
      ·cases h4
      ·have e9:c9.eval (.tmp 53)=v:=by
        have h8:=List.mem_singleton.1 h4
        rw [hP4] at h8
        simpa using h8
       subst k0
       refine yY rfl underlying59 sizeOf21 zeroValue21 (eH _) e9 ⟨[(w.heap.size,[_],0)],⟨fun h=>absurd h (by decide),fun _=>⟨_,_,rfl,rfl⟩⟩,.inr (.inr ⟨_,_,rfl,sa2,aa2,sc2,ac2,sl2,nm2,k1,rfl,k2,k3.alloc [_] 21⟩)⟩
      ·exact absurd List.mem_cons_self (hnew _)
    ·intro s c9 w hG hsz hdf hfr hval hin hmk hkeys hdist
     obtain ⟨O5,h5⟩:=hin 5 (by decide)
     rcases hG with ⟨rfl,h9⟩ | ⟨v,rfl,_⟩ | ⟨v,B,rfl,sa2,aa2,sc2,ac2,sl2,nm2,k1,rfl,k2,hS2⟩
     ·cases h5
     ·exact absurd (congrArg Prod.fst (List.mem_singleton.1 h5)) (show (5:Nat)≠4 by decide)
     obtain ⟨O6,h6,hP6⟩:=hmk 5 54 (by decide) rfl
     obtain ⟨u9,Bz,hv9,hO9⟩:=hP6.2 rfl
     have e9:Bz=B:=by
      rw [hO9] at h6
      simp at h6
      exact h6.1
     subst e9
     clear hS;have hS:=hS2;clear hS2
     refine (show cJ _ _ _ _ (List.drop 6 _) [(3,.pointer (some ⟨B1,0,none⟩)),(4,.pointer (some ⟨B2,0,none⟩)),(6,.pointer (some ⟨B3,0,none⟩)),(9,.pointer (some ⟨B7,0,none⟩)),(10,.pointer (some ⟨B9,0,none⟩)),(11,.func (.func 64) #[] [.pointer (some ⟨B2,0,none⟩),.pointer (some ⟨B5,0,none⟩),.pointer (some ⟨B9,0,none⟩),.pointer (some ⟨B7,0,none⟩),.pointer (some ⟨B1,0,none⟩)].toArray),(12,.int .i64 (i:Int)),(43,.slice (fV t.na t.nc (gN (qm t.fa (gN cl) (i * t.k)) i * t.k) 1) t.k (t.nc - gN (qm t.fa (gN cl) (i * t.k)) i * t.k)),(44,.int .i64 (t.k:Int)),(45,.int .i64 (x:Int)),(50,.slice na (i * t.k+x) nc),(54,.slice (some ⟨Bz,0,none⟩) 1 1)] w from ?_) c9 (vI.has hsz hdf ⟨hfr 3 _ (by kernel_rfl) rfl,hfr 4 _ (by kernel_rfl) rfl,hfr 6 _ (by kernel_rfl) rfl,hfr 9 _ (by kernel_rfl) rfl,hfr 10 _ (by kernel_rfl) rfl,hfr 11 _ (by kernel_rfl) rfl,hfr 12 _ (by kernel_rfl) rfl,hfr 43 _ (by kernel_rfl) rfl,hfr 44 _ (by kernel_rfl) rfl,hfr 45 _ (by kernel_rfl) rfl,hval 1 50 (by decide) (by decide) rfl,hv9,trivial⟩)
     refine cR (i:=2) (news:=[_]) hS underlying59 dZ rfl rfl (by show 0 < 1;decide) rfl rfl rfl rfl rfl (aT.own (j:=0) (m:=1) (hS.at_ 0 rfl) rfl) rfl rfl (by dsimp only;simp only [maxLen];omega) (by dsimp only;show _ * 4≤_;omega) rfl fun v11 W11 hS=>?_
     obtain ⟨a9,c9,e9,_⟩:=bQ (hS.row 2 rfl)
     dsimp only at e9
     subst e9
     refine aU (o':=1) iK rfl rfl rfl (bL (i:=4) (cs':=[_,_,_]) (O':=(_::_::_::_::_::_::_::_::Ot)) hS sizeOf59 rfl rfl rfl rfl rfl rfl rfl fun W12 hS=>aK (XF.blkN (XF.thenN (aN (bY rfl rfl (IntWalk.i64_in _ (by omega)) rfl (aA rfl rfl (aK ?_)))))))
     have hpk:(i * t.k+x) / t.fa.k=i∧(i * t.k+x) % t.fa.k=x:=dY hx9
     have hgd:(qm t.fa (gN cl) (i * t.k+x)).getD i 0=gN (qm t.fa (gN cl) (i * t.k)) i:=eB (Nat.le_add_right _ _) (by omega)
     have eq1:qm t.fa (gN cl) (i * t.k+(x+1))=mtS (gN cl) (qm t.fa (gN cl) (i * t.k+x)) (t.fa.nx (gN (qm t.fa (gN cl) (i * t.k)) i) x):=by
      show qm t.fa (gN cl) ((i * t.k+x)+1)=_
      rw [rO,hpk.1,hpk.2,hgd]
     have eq2:qfl t.fa (gN cl) (i * t.k+x)=mtI (gN cl) (qm t.fa (gN cl) (i * t.k+x)) (t.fa.nx (gN (qm t.fa (gN cl) (i * t.k)) i) x):=by rw [sY,hpk.1,hpk.2,hgd]
     have eq3:(List.range (i * t.k+(x+1))).map (qfl t.fa (gN cl))=(List.range (i * t.k+x)).map (qfl t.fa (gN cl))++[mtI (gN cl) (qm t.fa (gN cl) (i * t.k+x)) (t.fa.nx (gN (qm t.fa (gN cl) (i * t.k)) i) x)]:=by
      show (List.range ((i * t.k+x)+1)).map _=_
      rw [List.range_succ,List.map_append,List.map_singleton,eq2]
     have hS9:=hS.tail.castG (G':=(⟨(.slice sa2 sl2 sc2),sl2,i64n (qm t.fa (gN cl) (i * t.k+(x+1))),3,1⟩::⟨(.slice aa2 sl2 ac2),sl2,bvs ((qm t.fa (gN cl) (i * t.k+(x+1))).map t.fa.ac),4,1⟩::⟨(.slice a9 (i * t.k+(x+1)) c9),i * t.k+(x+1),i32 ((List.range (i * t.k+(x+1))).map (qfl t.fa (gN cl))),21,1⟩::G)) (by show (_::_::GR.mk _ _ (i32 _++[Value.int .i32 _]) _ _::_)=_;rw [eq1,eq3,← nJ];rfl)
     exact XF.round (t.k - (x+1)) [(3,_),(4,_),(6,_),(9,_),(10,_),(11,_),(12,_),(43,_),(44,_),(45,_)] (by omega) ⟨rfl,rfl,rfl,rfl,rfl,rfl,rfl,rfl,rfl,rfl,trivial⟩ ⟨x+1,sa2,aa2,a9,sc2,ac2,c9,sl2,nm2,by omega,rfl,rfl,by rw [eq1];exact k1,by rw [eq1];exact k2,hS9.keep K (fun q hq=>by simp [hq])⟩
   ·have hc46:=of_decide_eq_false hc;clear hc
    refine cV (XF.thenX (XF.thenX (XF.blkX (XF.blkN (XF.thenN (aN (aA rfl rfl (bY rfl rfl (IntWalk.i64_in _ (by omega)) rfl (aB rfl rfl (aK ?_))))))))))
    have exk:x=t.k:=by omega
    have es:(i+1) * t.k=i * t.k+x:=by rw [Nat.succ_mul,exk]
    have hlm:=dQ (A:=t.fa) (cls:=gN cl) (show i * t.k≤i * t.k+x by omega)
    exact XF.round (cm - (i+1)) [(3,_),(4,_),(6,_),(9,_),(10,_),(11,_),(12,_)] (by omega) ⟨rfl,rfl,rfl,rfl,rfl,rfl,rfl,trivial⟩ ⟨i+1,sa,aa,na,sc,ac,nc,sl,nm,by omega,rfl,rfl,by rw [es];exact hsl9,by omega,fun j hj=>(by
     rcases Nat.lt_or_ge j i with h9 | h9
     ·exact hrows j h9
     ·rw [show j=i by omega];omega),by rw [es];exact hnm,by rw [es];exact hS.keep K (fun q hq=>by simp [hq])⟩
  ·have hc35:=of_decide_eq_false hc;clear hc
   have ein:sl=i:=by omega
   subst ein
   have hQ:QuoOk t.fa (gN cl) sl:=⟨hT.fa,hsl,hrows⟩
   refine cV (XF.thenX (XF.thenX (XF.blkX (XF.thenN (aH (aN (bC (vs:=[_,_,_]) isAgg61 sizeOf61 rfl (aT.own (j:=0) (m:=3) (hS.at_ 3 rfl) rfl) rfl (bU (i:=6) (vs:=[_,_,_]) (cs':=[_,_,_]) (O':=(_::_::_::_::_::_::_::Ot)) hS sizeOf61 rfl rfl rfl rfl rfl rfl rfl fun W13 hS=>aK (XF.thenN (cK (XF.res (pS (vs:=[_,_,_]) results54 isAgg61 sizeOf61 rfl (aT.own (j:=0) (m:=3) (hS.at_ 6 rfl) rfl)) ?_)))))))))))
   obtain ⟨ma1,mc1,e1,hcap⟩:=bQ (hS.row 2 rfl)
   dsimp only at e1 hcap
   injection e1 with _ _ e3
   subst e3
   obtain ⟨K1,k1,h1,hS1⟩:=(hS.keep K (fun q hq=>by simp [hq])).tailG.rowKeep
   obtain ⟨K2,k2,h2,hS2⟩:=hS1.rowKeep
   refine ⟨⟨t.k,sl,na,nc,(List.range (sl * t.k)).map (qfl t.fa (gN cl)),aa,ac,(qm t.fa (gN cl) (sl * t.k)).map t.fa.ac⟩,sl,K2,rfl,hQ,rfl,rfl,⟨by simp,by simp [hsl],fun p hp9=>?_,hQ.pos,hcap,by show sl≤_;omega,hk1⟩,fun p hp9=>Cg hp9,fun i hi9=>?_,fun q hq=>k2 q (k1 q hq),fun h9 hk9=>⟨fun i u hu=>?_,fun i u hu=>?_⟩,hS2.tail.tail.tail.tail.tail.tail.tail⟩
   ·show gN ((List.range (sl * t.k)).map (qfl t.fa (gN cl))) p < sl
    rw [Cg hp9];exact sQ hQ hp9
   ·show ((qm t.fa (gN cl) (sl * t.k)).map t.fa.ac).getD i false=_
    rw [List.getD_eq_getElem?_getD,List.getElem?_map,List.getElem?_eq_getElem (by rw [hsl];exact hi9)]
    rw [List.getD_eq_getElem?_getD,List.getElem?_eq_getElem (by show i < (qm t.fa (gN cl) (sl * t.k)).length;rw [hsl];exact hi9)];rfl
   ·exact h2 h9 hk9 i _ (by unfold i32;rw [List.getElem?_map,hu];rfl)
   ·exact h1 h9 (fun q hq=>hk9 q (k2 q hq)) i _ (by unfold bvs;rw [List.getElem?_map,hu];rfl)
theorem zA:cC prog 54=true:=by kernel_rfl
structure Agr (A B:FA):Prop where
 n:A.n=B.n
 k:A.k=B.k
 ok:A.Ok
 nx:∀ s x,s < A.n→x < A.k→A.nx s x=B.nx s x
 ac:∀ s,s < A.n→A.ac s=B.ac s
theorem Agr.acc {A B:FA} (h:Agr A B):∀ (u:List Nat) (s:Nat),Wd A.k u→s < A.n→A.acc s u=B.acc s u
 | [],s,_,hs=>h.ac s hs
 | x::u,s,hu,hs=>by
  show A.acc (A.nx s x) u=B.acc (B.nx s x) u
  rw [← h.nx s x hs hu.head]
  exact Agr.acc h u _ hu.tail (h.ok.t0_ s x hs hu.head)
theorem Agr.fl {A B:FA} (h:Agr A B) {p:Nat} (hp:p < A.n * A.k):A.fl p=B.fl p:=by
 obtain ⟨h1,h2,_⟩:=dM hp
 unfold FA.fl
 rw [← h.k];exact h.nx _ _ h1 h2
theorem Agr.ord {A B:FA} (h:Agr A B) (hB:B.Ord):A.Ord:=by
 have key:∀ p,p≤A.n * A.k→mxF A.fl p=mxF B.fl p:=fun p hp=>qA fun q hq=>h.fl (by omega)
 refine ⟨fun p hp=>?_,fun i hi=>?_⟩
 ·rw [h.fl hp,key p (Nat.le_of_lt hp)]
  exact hB.one p (by rw [← h.n,← h.k];exact hp)
 ·rw [key _ (Nat.mul_le_mul_right _ (Nat.le_of_lt hi)),h.k]
  exact hB.row i (by rw [← h.n];exact hi)
theorem Agr.eqv {A B:FA} (h:Agr A B) {s:Nat} (hs:s < A.n):Eqv A s B s:=fun u hu=>h.acc u s hu hs
theorem Agr.red {A B:FA} (h:Agr A B) (hB:B.Red):A.Red:=fun s t hs ht e=>hB s t (by rw [← h.n];exact hs) (by rw [← h.n];exact ht) fun u hu=>by
 have hu':Wd A.k u:=by rw [h.k];exact hu
 rw [← h.acc u s hu' hs,← h.acc u t hu' ht];exact e u hu'
theorem zB {t q:TB} {cls:Nat→Nat} {N:Nat} (hQ:QuoOk t.fa cls N) (hn:q.n=N) (hk:q.k=t.k) (hq:TOk q) (hx:∀ p,p < N * t.k→gN q.xs p=qfl t.fa cls p) (hb:∀ i,i < N→q.bs.getD i false=t.fa.ac ((qm t.fa cls (N * t.k)).getD i 0)):Agr q.fa (quo t.fa cls N):=by
 refine ⟨hn,hk,hq.fa,fun s x hs hx9=>?_,fun s hs=>?_⟩
 ·have h1:s < N:=by rw [← hn];exact hs
  have h2:x < t.k:=by rw [← hk];exact hx9
  show gN q.xs (s * q.k+x)=qfl t.fa cls (s * t.k+x)
  rw [hk]
  exact hx _ (iG h1 h2)
 ·exact hb s (by rw [← hn];exact hs)
theorem nM (t:TB) (cl:List Nat) (ca:Option Addr) (cc cm n9:Nat) (Kt:List (Nat×World)) (Ot:Own) (G:bN) (K:List (Nat×World)) (w0 w:World) (hl9:cl.length=n9) (hS0:St w0 Ot G K w) (hT:TOk t) (hKt:∀ q∈Kt,q∈K) (hB:cL w0 Kt (fun W=>TAt t W∧R32 W ca cl)) (hcl:cl.length=t.n) (hcm:∀ x,x < t.n→gN cl x < cm) (hcm9:cm≤100000):Calls prog 54 #[t.val,.slice ca n9 cc,.int .i64 (cm:Int)] w (fun e w'=>∃ (q:TB) (N:Nat) (Kn:List (Nat×World)),e = .returned q.val∧QuoOk t.fa (gN cl) N∧q.n=N∧q.k=t.k∧TOk q∧(∀ p,p < N * t.k→gN q.xs p=qfl t.fa (gN cl) p)∧(∀ i,i < N→q.bs.getD i false=t.fa.ac ((qm t.fa (gN cl) (N * t.k)).getD i 0))∧(∀ q∈K,q∈Kn)∧cL w0 Kn (TAt q)∧St w0 Ot G Kn w'):=by
 subst hl9;exact vK t cl ca cc cm Kt Ot G K w0 w hS0 hT hKt hB hcl hcm hcm9
theorem wY {t:TB} (h:∀ x,x < t.n→gN (List.range t.n) x=x):Cong t.fa (gN (List.range t.n)):=⟨fun s u hs hu e=>by rw [h s hs,h u hu] at e;rw [e],fun s u x hs hu hx e=>by rw [h s hs,h u hu] at e;rw [e]⟩
theorem wZ (t:TB) (Kt:List (Nat×World)) (Ot:Own) (G:bN) (K:List (Nat×World)) (w0 w:World) (hS0:St w0 Ot G K w) (hT:TOk t) (hKt:∀ q∈Kt,q∈K) (hB:cL w0 Kt (TAt t)) :
  Calls prog 51 #[t.val] w (fun e w'=>∃ (q:TB) (Kn:List (Nat×World)),e = .returned q.val∧q.k=t.k∧q.n≤t.n∧TOk q∧Eqv q.fa 0 t.fa 0∧(∀ q∈K,q∈Kn)∧cL w0 Kn (TAt q)∧St w0 Ot G Kn w'):=by
 refine cP (args:=[t.val]) func51 rfl ntmps51 rfl ?_
 have hS:=hS0
 have hn1:=hT.n1
 have hp:=hT.pos
 refine aH (aN (cI (cs:=[_,_,_]) hS rfl rfl rfl fun B1 W1 hS=>cE (cs:=[_,_,_]) hS zeroValue61 rfl rfl fun B2 W2 hS=>aK (XF.thenN (aH (aN (aU (o':=2) eZ rfl rfl rfl (aP isAgg23 rfl (aD (hS.at_ 1 rfl) rfl) rfl (bX underlying23 rfl rfl ?_))))))))
 refine eX (m:=t.n) (cs:=i32 (List.replicate t.n 0)) hS underlying59 dZ rfl rfl rfl (rfl) (rfl) (mO _) (by show (4:Int) * _≤_;omega) (by omega) rfl fun B3 W3 hS=>?_
 refine aB rfl rfl (aK (XF.thenN (aH (aH ?_))))
 have hS':=hS.castO (O':=((B3,i32 (rgz t.n 0),21)::(B2,[.int .i64 0,.slice none 0 0,.slice none 0 0],61)::(B1,t.cells,61)::Ot)) (by rw [uX]);clear hS;have hS:=hS';clear hS'
 refine aN (aA rfl rfl (bX underlying59 rfl rfl (aA rfl rfl (aK (XF.thenN (bH (cW (fun m l W=>∃ (i:Nat),i≤t.n∧m=t.n - i∧l=[(1,.pointer (some ⟨B1,0,none⟩)),(2,.pointer (some ⟨B2,0,none⟩)),(3,.slice (some ⟨B3,0,none⟩) t.n t.n),(10,.int .i64 (t.n:Int)),(11,.int .i64 (i:Int))]∧St w0 ((B3,i32 (rgz t.n i),21)::(B2,[.int .i64 0,.slice none 0 0,.slice none 0 0],61)::(B1,t.cells,61)::Ot) G K W) (t.n - 0) ([(1,_),(2,_),(3,_),(10,_),(11,_)]) ⟨rfl,rfl,rfl,rfl,rfl,trivial⟩ (⟨0,Nat.zero_le _,rfl,rfl,hS.keep K (fun q hq=>by simp [hq])⟩) ?_)))))))
 clear hS
 rintro m l W ⟨i,hi,rfl,rfl,hS⟩
 refine aH (aN (cH rfl rfl rfl (aK (XF.thenN (aH (bS rfl (fun hc=>?_) (fun hc=>?_)))))))
 ·have hc12:=of_decide_eq_true hc;clear hc
  refine bV (XF.thenN (aH (bH (aH (aN (aA rfl rfl (aB rfl rfl (aK (XF.thenN (aN (aA rfl rfl (aA rfl rfl (aA rfl rfl (eE underlying3 underlying21 rfl (by omega) rfl (aX (j:=i) underlying59 sizeOf21 rfl rfl (rfl) (by omega) rfl rfl ?_)))))))))))))))
  refine bL (i:=0) (cs':=i32 ((rgz t.n i).set i i)) (O':=(_::_::_::Ot)) hS sizeOf21 rfl rfl rfl rfl (Nat.ble_eq_true_of_le (by rw [cB,sW (by omega)];omega)) (fY rfl) rfl fun W51 hS=>?_
  refine aK (XF.blkN (XF.thenN (aN (bY rfl rfl (IntWalk.i64_in _ (by omega)) rfl (aA rfl rfl (aK ?_))))))
  rw [yU (by omega)] at hS
  exact XF.round (t.n - (i+1)) [(1,_),(2,_),(3,_),(10,_),(11,_)] (by omega) ⟨rfl,rfl,rfl,rfl,rfl,trivial⟩ ⟨i+1,by omega,rfl,rfl,hS.keep K (fun q hq=>by simp [hq])⟩
 ·have hc12:=of_decide_eq_false hc;clear hc
  have ein:i=t.n:=by omega
  rw [ein,yT] at hS
  have hgr:∀ x,x < t.n→gN (List.range t.n) x=x:=fun x hx=>oF hx
  obtain ⟨K1,k1,h1,hS1⟩:=(hS.keep K (fun q hq=>by simp [hq])).ownKeep
  clear hS;have hS:=hS1;clear hS1
  have hB1:cL w0 K1 (fun W=>TAt t W∧R32 W (some ⟨B3,0,none⟩) (List.range t.n)):=fun h9 hk9=>⟨hB h9 (fun q hq=>hk9 q (k1 q (hKt q hq))),pD (h1 h9 hk9)⟩
  refine cV (XF.thenX (XF.thenX (XF.blkX (XF.thenN (aH (aN (bC (vs:=[_,_,_]) isAgg61 sizeOf61 rfl (aT.own (j:=0) (m:=3) (hS.at_ 1 rfl) rfl) rfl (aA rfl rfl (aA rfl rfl (bX underlying59 rfl rfl ?_))))))))))
  refine bW (vs:=[_,_,_]) zA rfl (nM t (List.range t.n) (some ⟨B3,0,none⟩) t.n t.n t.n K1 _ _ K1 w0 _ (by rw [List.length_range]) hS hT (fun q hq=>hq) hB1 (by rw [List.length_range]) (fun x hx=>by rw [hgr x hx];exact hx) hn1) rfl ?_
  rintro e W9 ⟨q,N,Kn,rfl,hQ,hqn,hqk,hqT,hqx,hqb,hsub,hqB,hS9⟩
  refine ⟨_,rfl,?_⟩
  clear hS;have hS:=hS9;clear hS9
  refine bU (i:=0) (vs:=[_,_,_]) (cs':=[_,_,_]) (O':=(_::_::Ot)) hS sizeOf61 rfl rfl rfl rfl rfl rfl rfl fun W4 hS=>aK (XF.thenN (cK (XF.res (pS (vs:=[_,_,_]) results51 isAgg61 sizeOf61 rfl (aT.own (j:=0) (m:=3) (hS.at_ 0 rfl) rfl)) ?_)))
  have hcg:Cong t.fa (gN (List.range t.n)):=wY hgr
  have hag:=zB hQ hqn hqk hqT hqx hqb
  have hqle:q.n≤t.n:=by
   rw [hqn,← hQ.len]
   exact (jI hT.fa (fun _=>hQ.rowsOk) (fun h0=>by rw [h0,Nat.mul_zero]) (fun x hx=>by rw [hgr x hx];exact hx)).1
  exact ⟨q,Kn,rfl,hqk,hqle,hqT,Eqv.trans (B:=quo t.fa (gN (List.range t.n)) N) hqk (hag.eqv hqT.pos) (nI hQ hcg),fun q hq=>hsub q (k1 q hq),hqB,(hS.keep Kn (fun q hq=>by simp [hq])).tail.tail⟩
end
end Go.Proofs.Ytghmbejblbnjjaa
